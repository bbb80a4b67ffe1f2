/-
  Proved: whatever the bytes draw, of a curve that does not fall more is never less, and IsMonotone answers as its reference model does (the law FnOrders returns true), and the argument reads afterwards as it read before. Conditions: none.
-/
import Derived.Test.YthmgbegbjifngaaFront
import Derived.Test.YthmgbegbjifngaaDrawC2
import Derived.Test.YthmgbegbjifngaaItM
import Derived.Test.YthmgbegbjifngaaScene
import Derived.Deep.RegionHeld3
namespace Go.Proofs.Ythmgbegbjifngaa.lOrders
open Go.ChangeShapes Go.WideShapes Go.ChangeAt Go.RowKit
set_option linter.unusedVariables false

set_option maxRecDepth 100000 in
set_option maxHeartbeats 4000000 in
theorem walk (A : Option Addr) (n c : Nat) (xs : List Int) (bs : List Nat) (w : World) (h : Hd w (.ints .u8 xs) (.slice A n c) bs) (hu : U8s xs) :
    Calls Try.prog 5 #[.slice A n c] w fun e w' => e = .returned (.bool true) ∧ Below w.heap.size w w' := by
  have hm := Nat.le_trans h.caps.1 h.caps.2
  by_cases hbig : 1048576 < n
  · have hb' : decide ((1048576 : Int) < (n : Int)) = true := by simp; omega
    clear h
    go_enter Try.func5, Try.ntmps5
    go_wp2_with (go_at_call 15; refine (lwBig_any _ _ _ _ hm).mono ?_; rintro e w' ⟨rfl, rfl⟩)
    go_ret
    exact ⟨rfl, Below.refl _ _⟩
  have hb' : decide ((1048576 : Int) < (n : Int)) = false := by simp; omega
  have H : Hid (Code w A n xs) := ⟨h.rd, hu, by omega⟩
  clear h hu
  go_enter Try.func5, Try.ntmps5
  go_wp2_with (go_at_call 15; refine (lwBig_any _ _ _ _ hm).mono ?_; rintro e w' ⟨rfl, rfl⟩)
  refine (drawEvalCurve_any A n c xs _ H.out).mono ?_
  rintro e w1 ⟨G, m, cp, ps, v, rfl, hm18, hP, ho, hb1⟩
  obtain ⟨d1, hd1⟩ := ho.hd
  have hmx : m ≤ maxLen := by unfold maxLen; omega
  have R1 := Lib.hid (hd1.rd.alloc (.cells #[.slice G m cp] 43))
  have T1 := Lib.hid (blThenAlloc hb1 (.cells #[.slice G m cp] 43))
  have H1 := Lib.hid ((H.out.below hb1).alloc (.cells #[.slice G m cp] 43))
  have HLEN := Lib.hid hd1.rd.1
  clear ho hb1 hd1
  go_wp2_with fail
  refine (IsMonotone_any _ _ _ ps _ R1.out hmx).mono ?_
  rintro e w2 ⟨rfl, hb2⟩
  have x2 : w2.cell? ⟨w1.heap.size, 0, none⟩ = some (.slice G m cp) := cell_later hb2 (by simp)
  have R2 := Lib.hid (R1.out.below hb2)
  have T2 := Lib.hid (blThen T1.out hb2)
  have H2 := Lib.hid (H1.out.below hb2)
  clear hb2 R1 T1 H1
  have hz2 : w1.heap.size < w2.heap.size := cell_lt x2
  by_cases hgo : cmon ps = true ∧ 0 ≤ v ∧ v ≤ 65535
  · obtain ⟨hmo, v0, v1⟩ := hgo
    have HMO : Hid (cmon ps = true) := hmo
    rw [hmo]
    clear hmo hP
    go_wp2_with fail
    refine (lwAt_any A n c xs 3 65536 _ H2.out (by omega) (by omega) (by omega) (by omega)).mono ?_
    rintro e w3 ⟨y, y0, y1, rfl, mq, rfl⟩
    have hcm := HMO.out
    unfold cmon at hcm
    simp only [Bool.and_eq_true, decide_eq_true_eq] at hcm
    have HF := Lib.hid (cfine hcm.1)
    have HCF := Lib.hid hcm.1
    have HMN := Lib.hid hcm.2
    clear hcm
    obtain ⟨L, hL⟩ : ∃ L, min v y = L := ⟨_, rfl⟩
    obtain ⟨U, hU⟩ : ∃ U, max v y = U := ⟨_, rfl⟩
    have l0 : 0 ≤ L := by omega
    have l1 : L ≤ 65535 := by omega
    have u0 : 0 ≤ U := by omega
    have u1 : U ≤ 65535 := by omega
    have hLU := Lib.hid (cev_mono HF.out HMN.out l0 (by omega : L ≤ U) u1)
    have EL1 : Hid (evC ps L = 0) := by show _ = _; unfold evC; rw [if_neg (by simpa using HCF.out), if_neg (by rw [inB_t l0 l1]; simp)]
    have EL2 : Hid (evV ps L = cev ps L) := by show _ = _; unfold evV; rw [if_pos EL1.out]
    have EU1 : Hid (evC ps U = 0) := by show _ = _; unfold evC; rw [if_neg (by simpa using HCF.out), if_neg (by rw [inB_t u0 u1]; simp)]
    have EU2 : Hid (evV ps U = cev ps U) := by show _ = _; unfold evV; rw [if_pos EU1.out]
    go_wp2_with fail
    refine (EvalCurve_any _ _ _ ps L _ (R2.out.drewN _) hmx).mono ?_
    rintro e w4 ⟨rfl, hb4⟩
    rw [EL1.out, EL2.out]
    have x4 : w4.cell? ⟨w1.heap.size, 0, none⟩ = some (.slice G m cp) := cell_later hb4 x2
    have R4 := Lib.hid ((R2.out.drewN _).below hb4)
    have T4 := Lib.hid (blThenAlloc (blThen (blThenDrew T2.out _) hb4) (.cells #[.int .i64 0, .int .i64 (cev ps L)] 47))
    have hz4 : w1.heap.size < w4.heap.size := cell_lt x4
    clear hb4 x2
    go_wp2_with fail
    refine (EvalCurve_any _ _ _ ps U _ (R4.out.alloc _) hmx).mono ?_
    rintro e w5 ⟨rfl, hb5⟩
    rw [EU1.out, EU2.out]
    have a0 : w5.cell? ⟨w4.heap.size, 0, none⟩ = some (.int .i64 0) := cell_later hb5 (by simp)
    have a1 : w5.cell? ⟨w4.heap.size, 1, none⟩ = some (.int .i64 (cev ps L)) := cell_later hb5 (by simp)
    have hz5 : w4.heap.size < w5.heap.size := cell_lt a0
    have T5 := Lib.hid (blThenAlloc (blThen T4.out hb5) (.cells #[.int .i64 0, .int .i64 (cev ps U)] 47))
    have hle := hLU.out
    clear hb5
    generalize cev ps L = ya at *
    generalize cev ps U = yb at *
    go_wp2_with fail
    go_ret
    exact ⟨ret_bool (by simp; try omega), T5.out⟩
  · have ST : Rd .i64 w2 G m ps ∧ Below w.heap.size w w2 := ⟨R2.out, T2.out⟩
    have hcase : cmon ps = false ∨ (cmon ps = true ∧ v < 0) ∨ (cmon ps = true ∧ 0 ≤ v ∧ 65535 < v) := by
      rcases Bool.eq_false_or_eq_true (cmon ps) with e | e
      · by_cases h1 : v < 0
        · exact .inr (.inl ⟨e, h1⟩)
        · exact .inr (.inr ⟨e, by omega, Int.lt_of_not_ge fun h2 => hgo ⟨e, by omega, h2⟩⟩)
      · exact .inl e
    have hend : ∀ bb, cmon ps = bb → Hid (∀ W, Rd .i64 W G m ps → Calls Try.prog 46 #[.agg #[.slice G m cp]] W fun e w' => e = .returned (.bool bb) ∧ Below W.heap.size W w') := fun bb e W hr => by
      have := IsMonotone_any G m cp ps W hr hmx
      rwa [e] at this
    have hend' : ∀ bb, cmon ps = bb → Hid (∀ W, Rd .i64 W G m ps → Calls Try.prog 47 #[.agg #[.slice G m cp]] W fun e w' => e = .returned (.bool bb) ∧ Below W.heap.size W w') := fun bb e W hr => by
      have := sIsMonotone_any G m cp ps W hr hmx
      rwa [e] at this
    rcases hcase with e | ⟨e, h1⟩ | ⟨e, h1, h2⟩
    all_goals
      have HE := hend _ e
      have HE' := hend' _ e
      rw [e]
      clear e hend hend' hgo R2 T2 H2 hP
      go_wp2_with fail
      go_region_held3 (fun w' => w'.cell? ⟨w1.heap.size, 0, none⟩ = some (.slice G m cp) ∧ (Rd .i64 w' G m ps ∧ Below w.heap.size w w'))
        (first | (go_split_ands; exact ⟨cell_later hb (by assumption), Rd.below (by assumption) hb, blThen (by assumption) hb⟩) | exact ⟨x2, ST.1.drewN 1, blThenDrew ST.2 1⟩)
        (first | (go_at_call 46; go_split_ands; refine (HE.out _ (by assumption)).mono ?_; rintro e w' ⟨rfl, hb⟩) | (go_at_call 47; go_split_ands; refine (HE'.out _ (by assumption)).mono ?_; rintro e w' ⟨rfl, hb⟩))
      go_split_ands
      rename Below w.heap.size w _ => hE
      have HB := Lib.hid hE
      clear hE
      go_wp2_with fail
      go_ret
      exact ⟨rfl, HB.out⟩

set_option maxRecDepth 100000 in
theorem lifted (os : Os) (started : os.Started) (H : Type) (enc : TypeId × Value → H) :
    ReturnsInHanded {} Try.checked os 5 .any (Rows.fnOrdersSpec.pre6 enc Try.prog Try.f5 Rows.fnOrdersRow.domain false) (Rows.fnOrdersSpec.post enc Try.prog Try.f5 false true false false) := by
  refine returnsInHanded_of_change (C := Try.checked) own started (by kernel_rfl) Try.func5
    (ChangeSpec.witness6 (enc := enc) (C := Try.checked) false ⟨#[], #[.slice none 0 0], []⟩ 8 (by kernel_rfl) (by kernel_rfl) (by kernel_rfl) (by kernel_rfl)) ?_
  intro W base args ds gs before hval0 hW hcnd _
  have hval : ∀ (j : Nat) t v, Try.f5.params[j]? = some t → args[j]? = some v → Value.okWide Try.prog W .any base t v := hval0
  have hW' := hW
  obtain ⟨p, q, hA0, hV0, rfl, hfz, hnd⟩ := hW
  have hA : DataW.TrodAll enc Try.prog W 0 (fun _ => true) true Try.f5.params.toList args.toList ds p := hA0
  have hV : DataW.TrodVars enc Try.prog W (fun _ => true) [] gs q := hV0
  rw [Try.params5] at hA hval
  obtain ⟨v0, vs0, d0, ds0, p0, q0, hargs, rfl, rfl, h0, r0⟩ := trodAll_cons hA
  obtain ⟨rfl, rfl, rfl⟩ := trodAll_nil r0
  obtain rfl : args = #[v0] := by cases args; simp_all
  obtain ⟨rfl, rfl⟩ : gs = [] ∧ q = [] := by
    cases gs with
    | nil => exact ⟨rfl, hV⟩
    | cons g r => exact absurd hV (by intro h; cases h)
  have k0 := h0
  have lt0 : ∀ x ∈ p0, x.block < W.heap.size := by obtain ⟨m, hm⟩ := k0; exact DataW.trod_lt m _ _ _ hm
  obtain ⟨a0, n0, c0, xs0, bs0, rfl, hd0, u0⟩ := open_bytes (hval 0 22 v0 rfl rfl) h0
  clear hA0 hval0
  refine (walk a0 n0 c0 xs0 bs0 W hd0 u0).mono fun e W' ⟨he, bel⟩ => ?_
  subst he
  exact ⟨_, rfl, _, _, _, [], _, [], hW', trodAll_mk1 (shut_bool Try.underlying4 _), (trodAll_cons_mk (Below.trod laidOut (by kernel_rfl) (of_decide_eq_true (by kernel_rfl)) k0 bel lt0) trodAll_mk0), rfl, bel.frame _, fun h => by cases h⟩

theorem row_holds : Rows.FnOrdersSaid :=
  OpenClaim.holds_of_wide 5 Try.f5 rfl rfl rfl rfl rfl rfl rfl ⟨rfl, rfl, rfl, rfl, rfl⟩ rfl rfl rfl rfl rfl (by kernel_rfl) Try.func5 (by kernel_rfl)
    (of_decide_eq_true (by kernel_rfl)) (by unfold Func.isWrapper; rw [if_neg (of_decide_eq_false (by kernel_rfl))]; exact ⟨rfl, rfl⟩)
    (fun os started H enc _ => lifted os started H enc)

theorem proved : Rows.FnOrdersSaid := row_holds
#print axioms proved

end Go.Proofs.Ythmgbegbjifngaa.lOrders
