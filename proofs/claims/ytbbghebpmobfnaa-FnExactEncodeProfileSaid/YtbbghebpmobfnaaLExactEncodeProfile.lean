/-
  Proved: at every profile the Go function EncodeProfile answers as its reference model does, in new memory that it shares with nothing, and changes nothing of its argument (the law FnExactEncodeProfile returns true), and the argument reads afterwards as it read before. Conditions: none.
-/
import Derived.Test.YtbbghebpmobfnaaFront
import Derived.Test.YtbbghebpmobfnaaEncS2
import Derived.Test.YtbbghebpmobfnaaHelpM
import Derived.Test.YtbbghebpmobfnaaScene
namespace Go.Proofs.Ytbbghebpmobfnaa.lExactEncodeProfile
open Go.ChangeShapes Go.WideShapes Go.ChangeAt Go.RowKit
set_option linter.unusedVariables false

theorem enB_len (cl : Int) (ts : List Tg) : (enB cl ts).length ≤ 870 := by
  unfold enB
  split
  · rename_i h
    have hf := fine_of h
    unfold enc
    rw [bodyAt_len hf _ (Nat.le_refl _)]
    exact endAt_le' hf (Nat.le_refl _)
  · simp
theorem small {ts : List Tg} {n : Nat} (hl : ts.length = n) (hs : TsSmall ts) : n ≤ 1048576 ∧ ∀ i, i < n → (tg ts i).2.length ≤ 1000000000000 :=
  ⟨by rw [← hl]; exact hs.1, fun i hi => by have := (hs.2 i (by rw [hl]; exact hi)).2; omega⟩
set_option maxRecDepth 100000 in
set_option maxHeartbeats 2000000 in
theorem walk (cl : Int) (A : Option Addr) (n c : Nat) (ts : List Tg) (bs : List Nat) (w : World) (h : Hd w (tagsD ts) (.slice A n c) bs) (hok : TsOk ts) (hu : ∀ i, U8s (tg ts i).2) :
    Calls Try.prog 7 #[.agg #[.int .i64 cl, .slice A n c]] w fun e w' => e = .returned (.bool true) ∧ Below w.heap.size w w' := by
  have HOK := Lib.hid hok
  have HL := Lib.hid h.tags.1
  have S0 := Lib.hid ((Scene.start w [(tagsD ts, .slice A n c)] (by simp; exact ⟨bs, h⟩)).addBox [.int .i64 cl, .slice A n c] 43)
  have hxl := enB_len cl ts
  clear h hok hu
  go_enter Try.func7, Try.ntmps7
  go_wp2_with fail
  obtain ⟨bs0, hd0, -⟩ := S0.out.arg (tagsD ts, .slice A n c) (by simp)
  refine (szProfile_any A n c cl ts bs0 _ _ hd0 HOK.out (by omega) (by omega)).mono ?_
  rintro e w1 ⟨r, rfl, hr1, hr2, hr3, hb1⟩
  have S1 := Lib.hid (S0.out.below hb1)
  have HR := Lib.hid hr3
  clear hb1 hr3 S0 hd0
  by_cases hr : r < 0
  · go_wp2_with fail
    go_ret
    exact ⟨rfl, S1.out.bel⟩
  have HT := Lib.hid (HR.out (by omega))
  have HSM := Lib.hid (small HL.out HT.out)
  have hn := HSM.out.1
  clear HR
  have x0 := S1.out.box (w.heap.size, [.int .i64 cl, .slice A n c]) (by simp) 0 _ rfl
  have x1 := S1.out.box (w.heap.size, [.int .i64 cl, .slice A n c]) (by simp) 1 _ rfl
  go_wp2_with fail
  -- w0
  obtain ⟨bs1, hd1, -⟩ := S1.out.arg (tagsD ts, .slice A n c) (by simp)
  refine (toProfile_any A n c cl ts bs1 _ hd1 (by omega) HSM.out.2).mono ?_
  rintro e w2 ⟨B2, rfl, ho2, hb2⟩
  have S2 := Lib.hid (S1.out.below hb2)
  obtain ⟨bs2, hd2⟩ := ho2.hd
  have D2 := Lib.hid hd2
  clear ho2 hb2 hd2 hd1 S1 x0 x1
  go_wp2_with fail
  refine (sEncodeProfile_any _ _ _ _ ts bs2 _ D2.out HOK.out).mono ?_
  rintro e w3 ⟨W0, nW, cW, rfl, ho3, hb3⟩
  obtain ⟨bsW, hdW⟩ := ho3.hd
  have hnW : nW ≤ 870 := by have := hdW.rd.1; omega
  have S3a := (S2.out.below hb3).addOwn ho3 S2.out.bel.size (Nat.le_refl _)
  have x0 := S3a.box (w.heap.size, [.int .i64 cl, .slice A n c]) (by simp) 0 _ rfl
  have x1 := S3a.box (w.heap.size, [.int .i64 cl, .slice A n c]) (by simp) 1 _ rfl
  have S3 := Lib.hid (S3a.addBox [.int .i64 (pf cl ts), .slice W0 nW cW] 33)
  have z3 : w.heap.size < w3.heap.size := cell_lt x0
  have i3 : w2.heap.size ≤ w3.heap.size := hb3.size
  have q2 := S2.out.bel.size
  clear ho3 hb3 hdW S2 D2 S3a
  go_wp2_with fail
  -- x0
  obtain ⟨bs3, hd3, -⟩ := S3.out.arg (tagsD ts, .slice A n c) (by simp)
  refine (toProfile_any A n c cl ts bs3 _ hd3 (by omega) HSM.out.2).mono ?_
  rintro e w4 ⟨B4, rfl, ho4, hb4⟩
  have S4 := Lib.hid (((S3.out.below hb4).addOwn ho4 S3.out.bel.size (Nat.le_refl _)).addBox [.int .i64 cl, .slice B4 n n] 27)
  have z4 : w3.heap.size < w4.heap.size := by have := hb4.size; simp at this; omega
  clear ho4 hb4 hd3 S3 x0 x1
  go_wp2_with fail
  -- g0
  obtain ⟨bs4, hd4⟩ := (S4.out.ownI 0 rfl).hd
  refine (EncodeProfile_any _ _ _ _ ts bs4 _ hd4 HOK.out).mono ?_
  rintro e w5 ⟨G0, nG, cG, rfl, ho5, hb5⟩
  obtain ⟨bsG, hdG⟩ := ho5.hd
  obtain rfl : nW = nG := by rw [← hdG.rd.1]; obtain ⟨_, hdW⟩ := (S4.out.ownI 1 rfl).hd; exact hdW.rd.1.symm
  have S5a := (S4.out.below hb5).addOwn ho5 S4.out.bel.size (Nat.le_refl _)
  have z5 : w4.heap.size < w5.heap.size := by have := hb5.size; simp at this; omega
  have z53 : w3.heap.size < w5.heap.size := by omega
  have y0 := S5a.boxI 1 0 rfl rfl
  have y1 := S5a.boxI 1 1 rfl rfl
  have S5 := Lib.hid (S5a.addBox [.int .i64 (pf cl ts), .slice G0 nW cG] 33)
  clear ho5 hb5 hd4 hdG S4 S5a
  go_wp2_with fail
  -- they are alike
  obtain ⟨bsG, hdG⟩ := (S5.out.ownI 0 rfl).hd
  obtain ⟨bsW, hdW⟩ := (S5.out.ownI 2 rfl).hd
  refine (eqBytesResult_same _ _ _ _ _ _ _ (enB cl ts) _ hdG.rd hdW.rd (by omega)).mono ?_
  rintro e w6 ⟨rfl, hb6⟩
  have S6 := S5.out.below hb6
  have x0 := S6.boxI 3 0 rfl rfl
  have x1 := S6.boxI 3 1 rfl rfl
  have p0 := S6.boxI 1 0 rfl rfl
  have p1 := S6.boxI 1 1 rfl rfl
  clear hb6 hdG hdW S5 y0 y1
  go_wp2_with fail
  go_region_held3 (fun w' => w'.cell? ⟨w4.heap.size, 0, none⟩ = some (.int .i64 cl) ∧ w'.cell? ⟨w4.heap.size, 1, none⟩ = some (.slice B4 n n) ∧ w'.cell? ⟨w.heap.size, 0, none⟩ = some (.int .i64 cl) ∧ w'.cell? ⟨w.heap.size, 1, none⟩ = some (.slice A n c) ∧ Scene w w' [(tagsD ts, .slice A n c)] [⟨.ints .u8 (enB cl ts), .slice G0 nW cG, w4.heap.size + 1, w5.heap.size⟩, ⟨tagsD ts, .slice B4 n n, w3.heap.size + 1, w4.heap.size⟩, ⟨.ints .u8 (enB cl ts), .slice W0 nW cW, w2.heap.size, w3.heap.size⟩] [(w5.heap.size, [.int .i64 (pf cl ts), .slice G0 nW cG]), (w4.heap.size, [.int .i64 cl, .slice B4 n n]), (w3.heap.size, [.int .i64 (pf cl ts), .slice W0 nW cW]), (w.heap.size, [.int .i64 cl, .slice A n c])])
    (first | (go_split_ands; exact ⟨cell_later hb (by assumption), cell_later hb (by assumption), cell_later hb (by assumption), cell_later hb (by assumption), Scene.below (by assumption) hb⟩) | exact ⟨p0, p1, x0, x1, by simpa using S6.drew⟩)
    (first | (go_at_call 29; go_split_ands; obtain ⟨bs7, hd7⟩ := Scene.argI (by assumption) 0 rfl; refine (toProfile_any A n c cl ts bs7 _ hd7 (by omega) HSM.out.2).mono ?_; rintro e w' ⟨B7, rfl, ho, hb⟩) | (go_at_call 30; go_split_ands; obtain ⟨bs8, hd8⟩ := ho.hd; obtain ⟨bs9, hd9⟩ := (Scene.ownI (by assumption) 1 rfl).hd; refine (eqProfile_same _ _ _ _ _ _ _ ts bs9 bs8 _ hd9 hd8 (by omega) HSM.out.2).mono ?_; rintro e w' ⟨rfl, hb⟩))
  go_split_ands
  rename Scene w _ _ _ _ => S7
  rename World => w7
  clear p0 p1 x0 x1 S6 ho
  have p0 := S7.boxI 1 0 rfl rfl
  have p1 := S7.boxI 1 1 rfl rfl
  go_wp2_with fail
  -- marks in the argument
  obtain ⟨bs7, hd7, nd7, in7⟩ := S7.ownI 1 rfl
  refine (markProfile_any _ _ _ 1 _ ts bs7 _ hd7 nd7 (fun b hb => (in7 b hb).2.2) HT.out (by omega) (by omega)).mono ?_
  rintro e w8 ⟨rfl, hd8, hch8⟩
  have S8 := S7.turn (lo := w3.heap.size + 1) (hi := w4.heap.size) (os' := [⟨.ints .u8 (enB cl ts), .slice G0 nW cG, w4.heap.size + 1, w5.heap.size⟩, ⟨.ints .u8 (enB cl ts), .slice W0 nW cW, w2.heap.size, w3.heap.size⟩]) hch8 (fun k hk => ⟨(in7 k hk).1, (in7 k hk).2.1⟩) (by omega) (S7.own _ (List.mem_cons_of_mem _ (List.mem_cons_self ..))).2.2
    ⟨bs7, hd8, nd7, fun b hb => ⟨(in7 b hb).1, (in7 b hb).2.1, (in7 b hb).2.2.ch hch8 (hd7.lt b hb)⟩⟩ (by simp; try omega) (by simp; try omega)
  have hk8 := kAt_ge ts 1 ts.length
  have hk8' : ¬ (kAt ts 1 ts.length : Int) < 0 := by omega
  clear hd7 nd7 in7 hd8 hch8 S7 p0 p1
  have g0 := S8.boxI 0 0 rfl rfl
  have g1 := S8.boxI 0 1 rfl rfl
  have v0 := S8.boxI 2 0 rfl rfl
  have v1 := S8.boxI 2 1 rfl rfl
  go_wp2_with fail
  obtain ⟨bsG, hdG⟩ := (S8.ownI 1 rfl).hd
  obtain ⟨bsW, hdW⟩ := (S8.ownI 2 rfl).hd
  refine (eqBytesResult_same _ _ _ _ _ _ _ (enB cl ts) _ hdG.rd hdW.rd (by omega)).mono ?_
  rintro e w9 ⟨rfl, hb9⟩
  have S9 := S8.below hb9
  clear hb9 hdG hdW S8 g0 g1 v0 v1
  have g0 := S9.boxI 0 0 rfl rfl
  have g1 := S9.boxI 0 1 rfl rfl
  go_wp2_with fail
  -- marks in the answer
  obtain ⟨bs9, hd9, nd9, in9⟩ := S9.ownI 1 rfl
  refine (markBytesResult_any _ _ _ _ 1 _ bs9 _ hd9 (fun b hb => (in9 b hb).2.2) (by omega) (by omega) (by omega)).mono ?_
  rintro e w10 ⟨rfl, hd10, hch10⟩
  have S10 := S9.turn (lo := w4.heap.size + 1) (hi := w5.heap.size) (os' := [⟨.ints .u8 (enB cl ts), .slice W0 nW cW, w2.heap.size, w3.heap.size⟩]) hch10 (fun k hk => ⟨(in9 k hk).1, (in9 k hk).2.1⟩) (by omega) (S9.own _ (List.mem_cons_of_mem _ (List.mem_cons_self ..))).2.2
    ⟨bs9, hd10, nd9, fun b hb => ⟨(in9 b hb).1, (in9 b hb).2.1, (in9 b hb).2.2.ch hch10 (hd9.lt b hb)⟩⟩ (by simp; try omega) (by simp; try omega)
  clear hd9 nd9 in9 hd10 hch10 S9 g0 g1
  have g0 := S10.boxI 0 0 rfl rfl
  have g1 := S10.boxI 0 1 rfl rfl
  go_wp2_with fail
  obtain ⟨bs10, hd10⟩ := (S10.ownI 0 rfl).hd
  refine (heldBytesResult_any _ _ _ _ 1 _ hd10.rd (by omega) (by omega) (by omega)).mono ?_
  rintro e w11 ⟨rfl, hb11⟩
  have S11 := S10.below hb11
  clear hb11 hd10 S10 g0 g1
  have x0 := S11.boxI 3 0 rfl rfl
  have x1 := S11.boxI 3 1 rfl rfl
  have hneg : ¬ (1 + (nW : Int)) < 0 := by omega
  go_wp2_with fail
  -- once more
  obtain ⟨bs11, hd11⟩ := S11.argI 0 rfl
  refine (toProfile_any A n c cl ts bs11 _ hd11 (by omega) HSM.out.2).mono ?_
  rintro e w12 ⟨B12, rfl, ho12, hb12⟩
  have S12 := S11.below hb12
  obtain ⟨bs12, hd12⟩ := ho12.hd
  have D12 := Lib.hid hd12
  clear ho12 hb12 hd12 hd11 S11 x0 x1
  go_wp2_with fail
  refine (EncodeProfile_any _ _ _ _ ts bs12 _ D12.out HOK.out).mono ?_
  rintro e w13 ⟨H0, nH, cH, rfl, ho13, hb13⟩
  have S13a := (S12.below hb13).addOwn ho13 S12.bel.size (Nat.le_refl _)
  obtain ⟨bsH, hdH⟩ := ho13.hd
  obtain rfl : nW = nH := by rw [← hdH.rd.1]; obtain ⟨_, hdW⟩ := (S13a.ownI 2 rfl).hd; exact hdW.rd.1.symm
  have v0 := S13a.boxI 2 0 rfl rfl
  have v1 := S13a.boxI 2 1 rfl rfl
  have z13 := cell_lt v0
  have S13 := S13a.addBox [.int .i64 (pf cl ts), .slice H0 nW cH] 33
  clear ho13 hb13 hdH S12 S13a D12
  go_wp2_with fail
  obtain ⟨bsH, hdH⟩ := (S13.ownI 0 rfl).hd
  obtain ⟨bsW, hdW⟩ := (S13.ownI 2 rfl).hd
  refine (eqBytesResult_same _ _ _ _ _ _ _ (enB cl ts) _ hdH.rd hdW.rd (by omega)).mono ?_
  rintro e w14 ⟨rfl, hb14⟩
  have S14 := S13.below hb14
  clear hb14 hdH hdW S13 v0 v1
  have g0 := S14.boxI 1 0 rfl rfl
  have g1 := S14.boxI 1 1 rfl rfl
  go_wp2_with fail
  obtain ⟨bs14, hd14⟩ := (S14.ownI 1 rfl).hd
  refine (heldBytesResult_any _ _ _ _ 1 _ hd14.rd (by omega) (by omega) (by omega)).mono ?_
  rintro e w15 ⟨rfl, hb15⟩
  have T := Lib.hid (blThen S14.bel hb15)
  clear hb15 hd14 S14 g0 g1
  go_wp2_with fail
  go_ret
  exact ⟨rfl, T.out⟩

set_option maxRecDepth 100000 in
theorem lifted (os : Os) (started : os.Started) (H : Type) (enc : TypeId × Value → H) :
    ReturnsInHanded {} Try.checked os 7 .any (Rows.fnExactEncodeProfileSpec.pre6 enc Try.prog Try.f7 Rows.fnExactEncodeProfileRow.domain false) (Rows.fnExactEncodeProfileSpec.post enc Try.prog Try.f7 false true false false) := by
  refine returnsInHanded_of_change (C := Try.checked) own started (by kernel_rfl) Try.func7
    (ChangeSpec.witness6 (enc := enc) (C := Try.checked) false ⟨#[], #[.agg #[.int .i64 0, .slice none 0 0]], []⟩ 8 (by kernel_rfl) (by kernel_rfl) (by kernel_rfl) (by kernel_rfl)) ?_
  intro W base args ds gs before hval0 hW hcnd _
  have hval : ∀ (j : Nat) t v, Try.f7.params[j]? = some t → args[j]? = some v → Value.okWide Try.prog W .any base t v := hval0
  have hW' := hW
  obtain ⟨p, q, hA0, hV0, rfl, hfz, hnd⟩ := hW
  have hA : DataW.TrodAll enc Try.prog W 0 (fun _ => true) true Try.f7.params.toList args.toList ds p := hA0
  have hV : DataW.TrodVars enc Try.prog W (fun _ => true) [] gs q := hV0
  rw [Try.params7] at hA hval
  obtain ⟨v0, vs0, d0, ds0, p0, q0, hargs, rfl, rfl, h0, r0⟩ := trodAll_cons hA
  obtain ⟨rfl, rfl, rfl⟩ := trodAll_nil r0
  obtain rfl : args = #[v0] := by cases args; simp_all
  obtain ⟨rfl, rfl⟩ : gs = [] ∧ q = [] := by
    cases gs with
    | nil => exact ⟨rfl, hV⟩
    | cons g r => exact absurd hV (by intro h; cases h)
  have k0 := h0
  have lt0 : ∀ x ∈ p0, x.block < W.heap.size := by obtain ⟨m, hm⟩ := k0; exact DataW.trod_lt m _ _ _ hm
  obtain ⟨cl0, a0, n0, c0, ts0, bs0, rfl, hd0, ok0, u0, w0⟩ := open_profile (hval 0 43 v0 rfl rfl) h0
  clear hA0 hval0
  refine (walk cl0 a0 n0 c0 ts0 bs0 W hd0 ok0 u0).mono fun e W' ⟨he, bel⟩ => ?_
  subst he
  exact ⟨_, rfl, _, _, _, [], _, [], hW', trodAll_mk1 (shut_bool Try.underlying4 _), (trodAll_cons_mk (Below.trod laidOut (by kernel_rfl) (of_decide_eq_true (by kernel_rfl)) k0 bel lt0) trodAll_mk0), rfl, bel.frame _, fun h => by cases h⟩

theorem row_holds : Rows.FnExactEncodeProfileSaid :=
  OpenClaim.holds_of_wide 7 Try.f7 rfl rfl rfl rfl rfl rfl rfl ⟨rfl, rfl, rfl, rfl, rfl⟩ rfl rfl rfl rfl rfl (by kernel_rfl) Try.func7 (by kernel_rfl)
    (of_decide_eq_true (by kernel_rfl)) (by unfold Func.isWrapper; rw [if_neg (of_decide_eq_false (by kernel_rfl))]; exact ⟨rfl, rfl⟩)
    (fun os started H enc _ => lifted os started H enc)

theorem proved : Rows.FnExactEncodeProfileSaid := row_holds
#print axioms proved

end Go.Proofs.Ytbbghebpmobfnaa.lExactEncodeProfile
