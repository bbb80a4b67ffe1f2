/-
  Proved: at every profile the Go function ProfileFault answers as its reference model does and changes nothing of it (the law FnExactProfileFault returns true), and the argument reads afterwards as it read before. Conditions: none.
-/
import Derived.Test.YtbbghebpmobfnaaFront
import Derived.Test.YtbbghebpmobfnaaTags3
import Derived.Test.YtbbghebpmobfnaaTagsS
namespace Go.Proofs.Ytbbghebpmobfnaa.lExactProfileFault
open Go.ChangeShapes Go.WideShapes Go.ChangeAt Go.RowKit
set_option linter.unusedVariables false

structure St (w w' : World) (A B : Option Addr) (n c : Nat) (ts : List Tg) (bs bs' : List Nat) : Prop where
  arg : Hd w' (tagsD ts) (.slice A n c) bs
  mine : Hd w' (tagsD ts) (.slice B n n) bs'
  bel : Below w.heap.size w w'
theorem St.below {w w1 w' : World} {A B : Option Addr} {n c : Nat} {ts : List Tg} {bs bs' : List Nat} (h : St w w1 A B n c ts bs bs') (hb : Below w1.heap.size w1 w') : St w w' A B n c ts bs bs' := ⟨h.arg.bel hb, h.mine.bel hb, blThen h.bel hb⟩
set_option maxHeartbeats 1000000 in
theorem walk (cl : Int) (A : Option Addr) (n c : Nat) (ts : List Tg) (bs : List Nat) (w : World) (h : Hd w (tagsD ts) (.slice A n c) bs) (hok : TsOk ts) (hu : ∀ i, U8s (tg ts i).2) :
    Calls Try.prog 5 #[.agg #[.int .i64 cl, .slice A n c]] w fun e w' => e = .returned (.bool true) ∧ Below w.heap.size w w' := by
  have H := Lib.hid h
  have HOK := Lib.hid hok
  have HL := Lib.hid h.tags.1
  clear h hok hu
  go_enter Try.func5, Try.ntmps5
  go_wp2_with fail
  refine (szProfile_any A n c cl ts bs _ _ (H.out.alloc _) HOK.out (by omega) (by omega)).mono ?_
  rintro e w1 ⟨r, rfl, hr1, hr2, hr3, hb1⟩
  have X1 := (Box2.new w 43 (.int .i64 cl) (.slice A n c)).below hb1
  have T1 := Lib.hid (blThen (blAlloc w (.cells #[.int .i64 cl, .slice A n c] 43)) hb1)
  have A1 := Lib.hid ((H.out.alloc (.cells #[.int .i64 cl, .slice A n c] 43)).bel hb1)
  have HR := Lib.hid hr3
  clear hb1 hr3
  by_cases hr : r < 0
  · clear X1
    go_wp2_with fail
    go_ret
    exact ⟨rfl, T1.out⟩
  have hsm := HR.out (by omega)
  have hn : n ≤ 1048576 := by rw [← HL.out]; exact hsm.1
  have HSM : Hid (∀ i, i < n → (tg ts i).2.length ≤ 1000000000000) := fun i hi => by have := (hsm.2 i (by rw [HL.out]; exact hi)).2; omega
  have X1h := Lib.hid X1
  obtain ⟨x0, x1⟩ := X1
  clear hsm HR
  go_wp2_with fail
  refine (toProfile_any A n c cl ts bs _ A1.out (by omega) HSM.out).mono ?_
  rintro e w2 ⟨B0, rfl, ho2, hb2⟩
  obtain ⟨bs2, hd2⟩ := ho2.hd
  have T2 := Lib.hid (blThen T1.out hb2)
  have A2 := Lib.hid (A1.out.bel hb2)
  have D2 := Lib.hid hd2
  have X2h := Lib.hid (X1h.out.below hb2)
  clear ho2 hb2 hd2 x0 x1 T1 A1 X1h
  go_wp2_with fail
  refine (sProfileFault_any _ _ _ _ ts bs2 _ D2.out HOK.out).mono ?_
  rintro e w3 ⟨rfl, hb3⟩
  have T3 := Lib.hid (blThen T2.out hb3)
  have A3 := Lib.hid (A2.out.bel hb3)
  have X3 := X2h.out.below hb3
  have X3h := Lib.hid X3
  obtain ⟨x0, x1⟩ := X3
  clear hb3 T2 A2 X2h D2
  go_wp2_with fail
  refine (toProfile_any A n c cl ts bs _ A3.out (by omega) HSM.out).mono ?_
  rintro e w4 ⟨B1, rfl, ho4, hb4⟩
  obtain ⟨bs4, hd4⟩ := ho4.hd
  have T4 := Lib.hid (blThenAlloc (blThen T3.out hb4) (.cells #[.int .i64 cl, .slice B1 n n] 27))
  have A4 := Lib.hid ((A3.out.bel hb4).alloc (.cells #[.int .i64 cl, .slice B1 n n] 27))
  have D4 := Lib.hid (hd4.alloc (.cells #[.int .i64 cl, .slice B1 n n] 27))
  have X4h := Lib.hid ((X3h.out.below hb4).alloc (.cells #[.int .i64 cl, .slice B1 n n] 27))
  have Y4h := Lib.hid (Box2.new w4 27 (.int .i64 cl) (.slice B1 n n))
  clear ho4 hb4 hd4 x0 x1 T3 A3 X3h
  go_wp2_with fail
  refine (ProfileFault_any _ _ _ _ ts bs4 _ D4.out HOK.out).mono ?_
  rintro e w5 ⟨rfl, hb5⟩
  have S5 : St w w5 A B1 n c ts bs bs4 := ⟨A4.out.bel hb5, D4.out.bel hb5, blThen T4.out hb5⟩
  obtain ⟨x0, x1⟩ := X4h.out.below hb5
  obtain ⟨y0, y1⟩ := Y4h.out.below hb5
  clear hb5 T4 A4 D4 X4h Y4h
  go_wp2_with fail
  go_region_held3 (fun w' => w'.cell? ⟨w4.heap.size, 0, none⟩ = some (.int .i64 cl) ∧ w'.cell? ⟨w4.heap.size, 1, none⟩ = some (.slice B1 n n) ∧ w'.cell? ⟨w.heap.size, 0, none⟩ = some (.int .i64 cl) ∧ w'.cell? ⟨w.heap.size, 1, none⟩ = some (.slice A n c) ∧ St w w' A B1 n c ts bs bs4)
    (first | (go_split_ands; exact ⟨cell_later hb (by assumption), cell_later hb (by assumption), cell_later hb (by assumption), cell_later hb (by assumption), St.below (by assumption) hb⟩) | exact ⟨y0, y1, x0, x1, S5.below (Below.refl _ _).drew⟩)
    (first | (go_at_call 29; go_split_ands; refine (toProfile_any A n c cl ts bs _ (St.arg (by assumption)) (by omega) HSM.out).mono ?_; rintro e w' ⟨B2, rfl, ho, hb⟩) | (go_at_call 30; go_split_ands; obtain ⟨bs6, hd6⟩ := ho.hd; refine (eqProfile_same _ _ _ _ _ _ _ ts bs4 bs6 _ (St.mine (by assumption)) hd6 (by omega) HSM.out).mono ?_; rintro e w' ⟨rfl, hb⟩))
  go_split_ands
  rename St w _ _ _ _ _ _ _ _ => hE
  have HB := Lib.hid hE.bel
  clear hE
  go_wp2_with fail
  go_ret
  exact ⟨rfl, HB.out⟩

set_option maxRecDepth 100000 in
theorem lifted (os : Os) (started : os.Started) (H : Type) (enc : TypeId × Value → H) :
    ReturnsInHanded {} Try.checked os 5 .any (Rows.fnExactProfileFaultSpec.pre6 enc Try.prog Try.f5 Rows.fnExactProfileFaultRow.domain false) (Rows.fnExactProfileFaultSpec.post enc Try.prog Try.f5 false true false false) := by
  refine returnsInHanded_of_change (C := Try.checked) own started (by kernel_rfl) Try.func5
    (ChangeSpec.witness6 (enc := enc) (C := Try.checked) false ⟨#[], #[.agg #[.int .i64 0, .slice none 0 0]], []⟩ 8 (by kernel_rfl) (by kernel_rfl) (by kernel_rfl) (by kernel_rfl)) ?_
  intro W base args ds gs before hval0 hW hcnd _
  have hval : ∀ (j : Nat) t v, Try.f5.params[j]? = some t → args[j]? = some v → Value.okWide Try.prog W .any base t v := hval0
  have hW' := hW
  obtain ⟨p, q, hA0, hV0, rfl, hfz, hnd⟩ := hW
  have hA : DataW.TrodAll enc Try.prog W 0 (fun _ => true) true Try.f5.params.toList args.toList ds p := hA0
  have hV : DataW.TrodVars enc Try.prog W (fun _ => true) [] gs q := hV0
  rw [Try.params5] at hA hval
  obtain ⟨v0, vs0, d0, ds0, p0, q0, hargs, rfl, rfl, h0, r0⟩ := trodAll_cons hA
  obtain ⟨rfl, rfl, rfl⟩ := trodAll_nil r0
  obtain rfl : args = #[v0] := by cases args; simp_all
  obtain ⟨rfl, rfl⟩ : gs = [] ∧ q = [] := by
    cases gs with
    | nil => exact ⟨rfl, hV⟩
    | cons g r => exact absurd hV (by intro h; cases h)
  have k0 := h0
  have lt0 : ∀ x ∈ p0, x.block < W.heap.size := by obtain ⟨m, hm⟩ := k0; exact DataW.trod_lt m _ _ _ hm
  obtain ⟨cl0, a0, n0, c0, ts0, bs0, rfl, hd0, ok0, u0, w0⟩ := open_profile (hval 0 43 v0 rfl rfl) h0
  clear hA0 hval0
  refine (walk cl0 a0 n0 c0 ts0 bs0 W hd0 ok0 u0).mono fun e W' ⟨he, bel⟩ => ?_
  subst he
  exact ⟨_, rfl, _, _, _, [], _, [], hW', trodAll_mk1 (shut_bool Try.underlying4 _), (trodAll_cons_mk (Below.trod laidOut (by kernel_rfl) (of_decide_eq_true (by kernel_rfl)) k0 bel lt0) trodAll_mk0), rfl, bel.frame _, fun h => by cases h⟩

theorem row_holds : Rows.FnExactProfileFaultSaid :=
  OpenClaim.holds_of_wide 5 Try.f5 rfl rfl rfl rfl rfl rfl rfl ⟨rfl, rfl, rfl, rfl, rfl⟩ rfl rfl rfl rfl rfl (by kernel_rfl) Try.func5 (by kernel_rfl)
    (of_decide_eq_true (by kernel_rfl)) (by unfold Func.isWrapper; rw [if_neg (of_decide_eq_false (by kernel_rfl))]; exact ⟨rfl, rfl⟩)
    (fun os started H enc _ => lifted os started H enc)

theorem proved : Rows.FnExactProfileFaultSaid := row_holds
#print axioms proved

end Go.Proofs.Ytbbghebpmobfnaa.lExactProfileFault
