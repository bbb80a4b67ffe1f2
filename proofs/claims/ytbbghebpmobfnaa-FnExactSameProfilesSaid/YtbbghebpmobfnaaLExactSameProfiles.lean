/-
  Proved: at every two profiles the Go function SameProfiles answers as its reference model does and changes nothing of them (the law FnExactSameProfiles returns true), and the arguments read afterwards as they read before. Conditions: none.
-/
import Derived.Test.YtbbghebpmobfnaaFront
import Derived.Test.YtbbghebpmobfnaaSame
namespace Go.Proofs.Ytbbghebpmobfnaa.lExactSameProfiles
open Go.ChangeShapes Go.WideShapes Go.ChangeAt Go.RowKit
set_option linter.unusedVariables false

structure St (w w' : World) (A A' B B' : Option Addr) (n c n' c' : Nat) (ts us : List Tg) (bs bs' ds ds' : List Nat) : Prop where
  arg : Hd w' (tagsD ts) (.slice A n c) bs
  arg' : Hd w' (tagsD us) (.slice A' n' c') bs'
  mine : Hd w' (tagsD ts) (.slice B n n) ds
  mine' : Hd w' (tagsD us) (.slice B' n' n') ds'
  bel : Below w.heap.size w w'
theorem St.below {w w1 w' : World} {A A' B B' : Option Addr} {n c n' c' : Nat} {ts us : List Tg} {bs bs' ds ds' : List Nat} (h : St w w1 A A' B B' n c n' c' ts us bs bs' ds ds') (hb : Below w1.heap.size w1 w') : St w w' A A' B B' n c n' c' ts us bs bs' ds ds' :=
  ⟨h.arg.bel hb, h.arg'.bel hb, h.mine.bel hb, h.mine'.bel hb, blThen h.bel hb⟩
structure S0 (w w' : World) (A A' : Option Addr) (n c n' c' : Nat) (ts us : List Tg) (bs bs' : List Nat) : Prop where
  arg : Hd w' (tagsD ts) (.slice A n c) bs
  arg' : Hd w' (tagsD us) (.slice A' n' c') bs'
  bel : Below w.heap.size w w'
theorem S0.below {w w1 w' : World} {A A' : Option Addr} {n c n' c' : Nat} {ts us : List Tg} {bs bs' : List Nat} (h : S0 w w1 A A' n c n' c' ts us bs bs') (hb : Below w1.heap.size w1 w') : S0 w w' A A' n c n' c' ts us bs bs' :=
  ⟨h.arg.bel hb, h.arg'.bel hb, blThen h.bel hb⟩
theorem small {ts : List Tg} {n : Nat} (hl : ts.length = n) (hs : TsSmall ts) : n ≤ 1048576 ∧ ∀ i, i < n → (tg ts i).2.length ≤ 1000000000000 :=
  ⟨by rw [← hl]; exact hs.1, fun i hi => by have := (hs.2 i (by rw [hl]; exact hi)).2; omega⟩
set_option maxHeartbeats 1000000 in
theorem walk (cl : Int) (A : Option Addr) (n c : Nat) (ts : List Tg) (bs : List Nat) (cl' : Int) (A' : Option Addr) (n' c' : Nat) (us : List Tg) (bs' : List Nat) (w : World) (h : Hd w (tagsD ts) (.slice A n c) bs) (hok : TsOk ts) (hu : ∀ i, U8s (tg ts i).2) (h' : Hd w (tagsD us) (.slice A' n' c') bs') (hok' : TsOk us) (hu' : ∀ i, U8s (tg us i).2) :
    Calls Try.prog 10 #[.agg #[.int .i64 cl, .slice A n c], .agg #[.int .i64 cl', .slice A' n' c']] w fun e w' => e = .returned (.bool true) ∧ Below w.heap.size w w' := by
  have H := Lib.hid h
  have HOK := Lib.hid hok
  have HL := Lib.hid h.tags.1
  have H' := Lib.hid h'
  have HOK' := Lib.hid hok'
  have HL' := Lib.hid h'.tags.1
  clear h hok hu h' hok' hu'
  go_enter Try.func10, Try.ntmps10
  go_wp2_with fail
  refine (szProfile_any A n c cl ts bs _ _ ((H.out.alloc _).alloc _) HOK.out (by omega) (by omega)).mono ?_
  rintro e w1 ⟨r, rfl, hr1, hr2, hr3, hb1⟩
  have X1 := Lib.hid (((Box2.new w 43 (.int .i64 cl) (.slice A n c)).alloc (.cells #[.int .i64 cl', .slice A' n' c'] 43)).below hb1)
  have Y1 : Hid (Box2 w1 (w.heap.size + 1) (.int .i64 cl') (.slice A' n' c')) := Box2.below (w := (w.alloc (.cells #[.int .i64 cl, .slice A n c] 43)).alloc (.cells #[.int .i64 cl', .slice A' n' c'] 43)) ⟨by simp, by simp⟩ hb1
  have E1 : S0 w w1 A A' n c n' c' ts us bs bs' := ⟨((H.out.alloc _).alloc _).bel hb1, ((H'.out.alloc _).alloc _).bel hb1, blThen (blThenAlloc (blAlloc w _) _) hb1⟩
  have HR := Lib.hid hr3
  clear hb1 hr3 H H'
  by_cases hr : r < 0
  · go_wp2_with fail
    go_ret
    exact ⟨rfl, E1.bel⟩
  have HSM := Lib.hid (small HL.out (HR.out (by omega)))
  clear HR
  obtain ⟨x0, x1⟩ := X1.out
  obtain ⟨y0, y1⟩ := Y1.out
  go_wp2_with fail
  refine (szProfile_any A' n' c' cl' us bs' _ _ E1.arg' HOK'.out (by omega) (by omega)).mono ?_
  rintro e w2 ⟨r', rfl, hr1', hr2', hr3', hb2⟩
  have X2 := Lib.hid (X1.out.below hb2)
  have Y2 := Lib.hid (Y1.out.below hb2)
  have E2 := E1.below hb2
  have HR := Lib.hid hr3'
  clear hb2 hr3' x0 x1 y0 y1 X1 Y1 E1
  by_cases hr' : r' < 0
  · go_wp2_with fail
    go_ret
    exact ⟨rfl, E2.bel⟩
  have HSM' := Lib.hid (small HL'.out (HR.out (by omega)))
  clear HR
  have hn := HSM.out.1
  have hn' := HSM'.out.1
  obtain ⟨x0, x1⟩ := X2.out
  obtain ⟨y0, y1⟩ := Y2.out
  go_wp2_with fail
  go_region_held3 (fun w' => w'.cell? ⟨w.heap.size, 0, none⟩ = some (.int .i64 cl) ∧ w'.cell? ⟨w.heap.size, 1, none⟩ = some (.slice A n c) ∧ w'.cell? ⟨w.heap.size + 1, 0, none⟩ = some (.int .i64 cl') ∧ w'.cell? ⟨w.heap.size + 1, 1, none⟩ = some (.slice A' n' c') ∧ S0 w w' A A' n c n' c' ts us bs bs')
    (first | (go_split_ands; exact ⟨cell_later hb (by assumption), cell_later hb (by assumption), cell_later hb (by assumption), cell_later hb (by assumption), S0.below (by assumption) hb⟩) | exact ⟨x0, x1, y0, y1, E2.below (Below.refl _ _).drew⟩)
    (first | (go_at_call 29; go_split_ands; ((with_reducible refine (toProfile_any A n c cl ts bs _ (S0.arg (by assumption)) (by omega) HSM.out.2).mono ?_); rintro e w' ⟨B2, rfl, ho, hb⟩)) | (go_at_call 29; go_split_ands; ((with_reducible refine (toProfile_any A' n' c' cl' us bs' _ (S0.arg' (by assumption)) (by omega) HSM'.out.2).mono ?_); rintro e w' ⟨B3, rfl, ho', hb⟩; have ho2 := ho.below hb)) | (go_at_call 41; go_split_ands; obtain ⟨ds, hd⟩ := ho2.hd; obtain ⟨ds', hd'⟩ := ho'.hd; refine (sSameProfiles_any _ _ _ _ _ _ _ _ ts us ds ds' _ hd hd').mono ?_; rintro e w' ⟨rfl, hb⟩))
  go_split_ands
  rename S0 w _ _ _ _ _ _ _ _ _ _ _ => E3
  rename World => w3
  have X3 : Hid (Box2 w3 w.heap.size (.int .i64 cl) (.slice A n c)) := ⟨by assumption, by assumption⟩
  have Y3 : Hid (Box2 w3 (w.heap.size + 1) (.int .i64 cl') (.slice A' n' c')) := ⟨by assumption, by assumption⟩
  clear x0 x1 y0 y1
  clear ho ho' ho2 E2 X2 Y2
  obtain ⟨x0, x1⟩ := X3.out
  obtain ⟨y0, y1⟩ := Y3.out
  go_wp2_with fail
  refine (toProfile_any A n c cl ts bs _ E3.arg (by omega) HSM.out.2).mono ?_
  rintro e w4 ⟨B4, rfl, ho4, hb4⟩
  obtain ⟨ds4, hd4⟩ := ho4.hd
  have D4 := Lib.hid (hd4.alloc (.cells #[.int .i64 cl, .slice B4 n n] 27))
  have E4 := (E3.below hb4).below (blAlloc w4 (.cells #[.int .i64 cl, .slice B4 n n] 27))
  have X4 := Lib.hid ((X3.out.below hb4).alloc (.cells #[.int .i64 cl, .slice B4 n n] 27))
  have Y4 := Lib.hid ((Y3.out.below hb4).alloc (.cells #[.int .i64 cl, .slice B4 n n] 27))
  have P4 := Lib.hid (Box2.new w4 27 (.int .i64 cl) (.slice B4 n n))
  have hz4 := Nat.lt_of_lt_of_le (cell_lt y0) hb4.size
  clear x0 x1 y0 y1 hb4 ho4 hd4 X3 Y3 E3
  obtain ⟨y0, y1⟩ := Y4.out
  go_wp2_with fail
  refine (toProfile_any A' n' c' cl' us bs' _ E4.arg' (by omega) HSM'.out.2).mono ?_
  rintro e w5 ⟨B5, rfl, ho5, hb5⟩
  obtain ⟨ds5, hd5⟩ := ho5.hd
  have E5 : St w (w5.alloc (.cells #[.int .i64 cl', .slice B5 n' n'] 27)) A A' B4 B5 n c n' c' ts us bs bs' ds4 ds5 := ⟨(E4.arg.bel hb5).alloc _, (E4.arg'.bel hb5).alloc _, (D4.out.bel hb5).alloc _, hd5.alloc _, blThenAlloc (blThen E4.bel hb5) _⟩
  have X5 := Lib.hid ((X4.out.below hb5).alloc (.cells #[.int .i64 cl', .slice B5 n' n'] 27))
  have Y5 := Lib.hid ((Y4.out.below hb5).alloc (.cells #[.int .i64 cl', .slice B5 n' n'] 27))
  have P5 := Lib.hid ((P4.out.below hb5).alloc (.cells #[.int .i64 cl', .slice B5 n' n'] 27))
  have Q5 := Lib.hid (Box2.new w5 27 (.int .i64 cl') (.slice B5 n' n'))
  have hz5 : w4.heap.size < w5.heap.size := by have := hb5.size; simp at this; omega
  clear y0 y1 hb5 ho5 hd5 X4 Y4 E4 P4 D4
  obtain ⟨p0, p1⟩ := P5.out
  obtain ⟨q0, q1⟩ := Q5.out
  go_wp2_with fail
  refine (SameProfiles_any _ _ _ _ _ _ _ _ ts us ds4 ds5 _ E5.mine E5.mine').mono ?_
  rintro e w6 ⟨rfl, hb6⟩
  have E6 := E5.below hb6
  obtain ⟨x0, x1⟩ := X5.out.below hb6
  have Y6 := Lib.hid (Y5.out.below hb6)
  clear p0 p1 q0 q1
  obtain ⟨p0, p1⟩ := P5.out.below hb6
  have Q6 := Lib.hid (Q5.out.below hb6)
  obtain ⟨y0, y1⟩ := Y6.out
  obtain ⟨q0, q1⟩ := Q6.out
  clear hb6 E5 X5 Y5 P5 Q5 Y6 Q6
  go_wp2_with fail
  go_region_held3 (fun w' => w'.cell? ⟨w4.heap.size, 0, none⟩ = some (.int .i64 cl) ∧ w'.cell? ⟨w4.heap.size, 1, none⟩ = some (.slice B4 n n) ∧ w'.cell? ⟨w.heap.size, 0, none⟩ = some (.int .i64 cl) ∧ w'.cell? ⟨w.heap.size, 1, none⟩ = some (.slice A n c) ∧ w'.cell? ⟨w5.heap.size, 0, none⟩ = some (.int .i64 cl') ∧ w'.cell? ⟨w5.heap.size, 1, none⟩ = some (.slice B5 n' n') ∧ w'.cell? ⟨w.heap.size + 1, 0, none⟩ = some (.int .i64 cl') ∧ w'.cell? ⟨w.heap.size + 1, 1, none⟩ = some (.slice A' n' c') ∧ St w w' A A' B4 B5 n c n' c' ts us bs bs' ds4 ds5)
    (first | (go_split_ands; exact ⟨cell_later hb (by assumption), cell_later hb (by assumption), cell_later hb (by assumption), cell_later hb (by assumption), cell_later hb (by assumption), cell_later hb (by assumption), cell_later hb (by assumption), cell_later hb (by assumption), St.below (by assumption) hb⟩) | exact ⟨p0, p1, x0, x1, q0, q1, y0, y1, E6.below (Below.refl _ _).drew⟩)
    (first | (go_at_call 29; go_split_ands; refine (toProfile_any A n c cl ts bs _ (St.arg (by assumption)) (by omega) HSM.out.2).mono ?_; rintro e w' ⟨B2, rfl, ho, hb⟩) | (go_at_call 30; go_split_ands; obtain ⟨es, he⟩ := ho.hd; refine (eqProfile_same _ _ _ _ _ _ _ ts ds4 es _ (St.mine (by assumption)) he (by omega) HSM.out.2).mono ?_; rintro e w' ⟨rfl, hb⟩))
  go_split_ands
  rename St w _ _ _ _ _ _ _ _ _ _ _ _ _ _ _ => E7
  rename World => w7
  have q0' : w7.cell? ⟨w5.heap.size, 0, none⟩ = some (.int .i64 cl') := by assumption
  have q1' : w7.cell? ⟨w5.heap.size, 1, none⟩ = some (.slice B5 n' n') := by assumption
  have y0' : w7.cell? ⟨w.heap.size + 1, 0, none⟩ = some (.int .i64 cl') := by assumption
  have y1' : w7.cell? ⟨w.heap.size + 1, 1, none⟩ = some (.slice A' n' c') := by assumption
  clear p0 p1 x0 x1 q0 q1 y0 y1 E6 ho
  go_wp2_with fail
  go_region_held3 (fun w' => w'.cell? ⟨w5.heap.size, 0, none⟩ = some (.int .i64 cl') ∧ w'.cell? ⟨w5.heap.size, 1, none⟩ = some (.slice B5 n' n') ∧ w'.cell? ⟨w.heap.size + 1, 0, none⟩ = some (.int .i64 cl') ∧ w'.cell? ⟨w.heap.size + 1, 1, none⟩ = some (.slice A' n' c') ∧ St w w' A A' B4 B5 n c n' c' ts us bs bs' ds4 ds5)
    (first | (go_split_ands; exact ⟨cell_later hb (by assumption), cell_later hb (by assumption), cell_later hb (by assumption), cell_later hb (by assumption), St.below (by assumption) hb⟩) | exact ⟨q0', q1', y0', y1', E7.below (Below.refl _ _).drew⟩)
    (first | (go_at_call 29; go_split_ands; refine (toProfile_any A' n' c' cl' us bs' _ (St.arg' (by assumption)) (by omega) HSM'.out.2).mono ?_; rintro e w' ⟨B2, rfl, ho, hb⟩) | (go_at_call 30; go_split_ands; obtain ⟨es, he⟩ := ho.hd; refine (eqProfile_same _ _ _ _ _ _ _ us ds5 es _ (St.mine' (by assumption)) he (by omega) HSM'.out.2).mono ?_; rintro e w' ⟨rfl, hb⟩))
  go_split_ands
  rename St w _ _ _ _ _ _ _ _ _ _ _ _ _ _ _ => E8
  have HB := Lib.hid E8.bel
  clear E8 E7
  go_wp2_with fail
  go_ret
  exact ⟨rfl, HB.out⟩

set_option maxRecDepth 100000 in
theorem lifted (os : Os) (started : os.Started) (H : Type) (enc : TypeId × Value → H) :
    ReturnsInHanded {} Try.checked os 10 .any (Rows.fnExactSameProfilesSpec.pre6 enc Try.prog Try.f10 Rows.fnExactSameProfilesRow.domain false) (Rows.fnExactSameProfilesSpec.post enc Try.prog Try.f10 false true false false) := by
  refine returnsInHanded_of_change (C := Try.checked) own started (by kernel_rfl) Try.func10
    (ChangeSpec.witness6 (enc := enc) (C := Try.checked) false ⟨#[], #[.agg #[.int .i64 0, .slice none 0 0], .agg #[.int .i64 0, .slice none 0 0]], []⟩ 8 (by kernel_rfl) (by kernel_rfl) (by kernel_rfl) (by kernel_rfl)) ?_
  intro W base args ds gs before hval0 hW hcnd _
  have hval : ∀ (j : Nat) t v, Try.f10.params[j]? = some t → args[j]? = some v → Value.okWide Try.prog W .any base t v := hval0
  have hW' := hW
  obtain ⟨p, q, hA0, hV0, rfl, hfz, hnd⟩ := hW
  have hA : DataW.TrodAll enc Try.prog W 0 (fun _ => true) true Try.f10.params.toList args.toList ds p := hA0
  have hV : DataW.TrodVars enc Try.prog W (fun _ => true) [] gs q := hV0
  rw [Try.params10] at hA hval
  obtain ⟨v0, vs0, d0, ds0, p0, q0, hargs, rfl, rfl, h0, r0⟩ := trodAll_cons hA
  obtain ⟨v1, vs1, d1, ds1, p1, q1, rfl, rfl, rfl, h1, r1⟩ := trodAll_cons r0
  obtain ⟨rfl, rfl, rfl⟩ := trodAll_nil r1
  obtain rfl : args = #[v0, v1] := by cases args; simp_all
  obtain ⟨rfl, rfl⟩ : gs = [] ∧ q = [] := by
    cases gs with
    | nil => exact ⟨rfl, hV⟩
    | cons g r => exact absurd hV (by intro h; cases h)
  have k0 := h0
  have lt0 : ∀ x ∈ p0, x.block < W.heap.size := by obtain ⟨m, hm⟩ := k0; exact DataW.trod_lt m _ _ _ hm
  obtain ⟨cl0, a0, n0, c0, ts0, bs0, rfl, hd0, ok0, u0, w0⟩ := open_profile (hval 0 43 v0 rfl rfl) h0
  have k1 := h1
  have lt1 : ∀ x ∈ p1, x.block < W.heap.size := by obtain ⟨m, hm⟩ := k1; exact DataW.trod_lt m _ _ _ hm
  obtain ⟨cl1, a1, n1, c1, ts1, bs1, rfl, hd1, ok1, u1, w1⟩ := open_profile (hval 1 43 v1 rfl rfl) h1
  clear hA0 hval0
  refine (walk cl0 a0 n0 c0 ts0 bs0 cl1 a1 n1 c1 ts1 bs1 W hd0 ok0 u0 hd1 ok1 u1).mono fun e W' ⟨he, bel⟩ => ?_
  subst he
  exact ⟨_, rfl, _, _, _, [], _, [], hW', trodAll_mk1 (shut_bool Try.underlying4 _), (trodAll_cons_mk (Below.trod laidOut (by kernel_rfl) (of_decide_eq_true (by kernel_rfl)) k0 bel lt0) (trodAll_cons_mk (Below.trod laidOut (by kernel_rfl) (of_decide_eq_true (by kernel_rfl)) k1 bel lt1) trodAll_mk0)), rfl, bel.frame _, fun h => by cases h⟩

theorem row_holds : Rows.FnExactSameProfilesSaid :=
  OpenClaim.holds_of_wide 10 Try.f10 rfl rfl rfl rfl rfl rfl rfl ⟨rfl, rfl, rfl, rfl, rfl⟩ rfl rfl rfl rfl rfl (by kernel_rfl) Try.func10 (by kernel_rfl)
    (of_decide_eq_true (by kernel_rfl)) (by unfold Func.isWrapper; rw [if_neg (of_decide_eq_false (by kernel_rfl))]; exact ⟨rfl, rfl⟩)
    (fun os started H enc _ => lifted os started H enc)

theorem proved : Rows.FnExactSameProfilesSaid := row_holds
#print axioms proved

end Go.Proofs.Ytbbghebpmobfnaa.lExactSameProfiles
