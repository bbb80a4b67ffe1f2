/-
  Proved: at every number the Go function UnitStage answers as its reference model does, every field, in new memory (the law FnExactUnitStage returns true). Conditions: none.
-/
import Derived.Test.YtdjifaaofefpoaaOpenA
import Derived.Test.YtdjifaaofefpoaaUniC
import Derived.Test.YtdjifaaofefpoaaBaseA
namespace Go.Proofs.Ytdjifaaofefpoaa.lExactUnitStage
open Go.ChangeShapes Go.WideShapes Go.ChangeAt Go.RowKit
set_option linter.unusedVariables false
set_option linter.unusedSimpArgs false

theorem small_nt (k : Int) : StSmall (unS k) := by
  unfold unS
  split
  · exact ⟨⟨by decide, fun i hi => by match i, hi with | 0, _ => decide | 1, _ => decide | 2, _ => decide⟩, ⟨by decide, fun i hi => absurd hi (by simp [nt1])⟩, ⟨by decide, fun i hi => absurd hi (by simp [nt1])⟩⟩
  · split
    · exact ⟨⟨by decide, fun i hi => absurd hi (by simp [nt2])⟩, ⟨by decide, fun i hi => by match i, hi with | 0, _ => decide | 1, _ => decide | 2, _ => decide⟩, ⟨by decide, fun i hi => absurd hi (by simp [nt2])⟩⟩
    · split
      · refine ⟨⟨by decide, fun i hi => absurd hi (by simp [nt3])⟩, ⟨by decide, fun i hi => absurd hi (by simp [nt3])⟩, ⟨by simp [nt3, lgRs], fun i hi => ?_⟩⟩
        have : i < 8 := by simpa [nt3, lgRs] using hi
        match i, this with
        | 0, _ => decide
        | 1, _ => decide
        | 2, _ => decide
        | 3, _ => decide
        | 4, _ => decide
        | 5, _ => decide
        | 6, _ => decide
        | 7, _ => decide
      · exact ⟨⟨by decide, fun i hi => absurd hi (by simp [stZ])⟩, ⟨by decide, fun i hi => absurd hi (by simp [stZ])⟩, ⟨by decide, fun i hi => absurd hi (by simp [stZ])⟩⟩
set_option maxRecDepth 100000 in
set_option maxHeartbeats 4000000 in
theorem walk (a0 : Int) (w : World) (h0 : (Lit.int .i64 a0).wf = true) :
    Calls Try.prog 7 #[.int .i64 a0] w fun e w' => e = .returned (.bool true) ∧ Below w.heap.size w w' := by
  clear h0
  obtain ⟨co, hco⟩ : ∃ c, c = unC a0 := ⟨_, rfl⟩
  obtain ⟨u, hu⟩ : ∃ u, u = unS a0 := ⟨_, rfl⟩
  have SM : Hid (StSmall u) := by show StSmall u; rw [hu]; exact small_nt a0
  have CS : Hid (∀ W, Calls Try.prog 30 #[.int .i64 a0] W (fun e w' => ∃ B1 m1 d1 B2 m2 d2 B3 m3 d3, e = .returned (.agg #[.int .i64 co, .int .i64 u.kd, .slice B1 m1 d1, .slice B2 m2 d2, .int .i64 u.sd, .slice B3 m3 d3]) ∧ OwnS3 w' u (.slice B1 m1 d1) (.slice B2 m2 d2) (.slice B3 m3 d3) W.heap.size w'.heap.size ∧ Below W.heap.size W w')) := fun W => by rw [hco, hu]; exact sUnitStage_any a0 W
  have CI : Hid (∀ W, Calls Try.prog 31 #[.int .i64 a0] W (fun e w' => ∃ B1 m1 d1 B2 m2 d2 B3 m3 d3, e = .returned (.agg #[.int .i64 co, .int .i64 u.kd, .slice B1 m1 d1, .slice B2 m2 d2, .int .i64 u.sd, .slice B3 m3 d3]) ∧ OwnS3 w' u (.slice B1 m1 d1) (.slice B2 m2 d2) (.slice B3 m3 d3) W.heap.size w'.heap.size ∧ Below W.heap.size W w')) := fun W => by rw [hco, hu]; exact UnitStage_any a0 W
  clear hco hu
  go_enter Try.func7, Try.ntmps7
  go_wp2_with fail
  refine (CS.out _).mono ?_
  rintro e w1 ⟨B1, mB1, dB1, B2, mB2, dB2, B3, mB3, dB3, rfl, ho, hb⟩
  have T1 := Lib.hid hb
  have SB := Lib.hid ho
  clear hb ho
  obtain ⟨V1, hV1⟩ : ∃ V, V = w1.alloc (.cells #[.int .i64 co, .int .i64 u.kd, .slice B1 mB1 dB1, .slice B2 mB2 dB2, .int .i64 u.sd, .slice B3 mB3 dB3] 66) := ⟨_, rfl⟩
  have X1 : Hid (Bx V1 w1.heap.size [.int .i64 co, .int .i64 u.kd, .slice B1 mB1 dB1, .slice B2 mB2 dB2, .int .i64 u.sd, .slice B3 mB3 dB3]) := by show Bx _ _ _; rw [hV1]; exact Bx.new _ _ _ rfl
  have U1 : Hid (Below w.heap.size w V1) := by show Below _ _ _; rw [hV1]; exact blThenAlloc T1.out _
  have SB1 : Hid (OwnS3 V1 u (.slice B1 mB1 dB1) (.slice B2 mB2 dB2) (.slice B3 mB3 dB3) w.heap.size w1.heap.size) := by show OwnS3 _ _ _ _ _ _ _; rw [hV1]; exact SB.out.below (blAlloc _ _)
  have Z1 : Hid (V1.heap.size = w1.heap.size + 1) := by show _ = _; rw [hV1]; simp
  have HV1 := Lib.hid hV1
  clear hV1
  go_wp2_with fail
  rw [← HV1.out]
  clear HV1
  refine (CI.out _).mono ?_
  rintro e w2 ⟨C1, mC1, dC1, C2, mC2, dC2, C3, mC3, dC3, rfl, ho, hb⟩
  have T2 := Lib.hid (blThen U1.out hb)
  have X2 := Lib.hid (X1.out.bel hb)
  have SB2 := Lib.hid (SB1.out.below hb)
  have SC := Lib.hid ho
  have Z2 := Lib.hid hb.size
  clear hb ho
  obtain ⟨V2, hV2⟩ : ∃ V, V = w2.alloc (.cells #[.int .i64 co, .int .i64 u.kd, .slice C1 mC1 dC1, .slice C2 mC2 dC2, .int .i64 u.sd, .slice C3 mC3 dC3] 66) := ⟨_, rfl⟩
  have Y2 : Hid (Bx V2 w2.heap.size [.int .i64 co, .int .i64 u.kd, .slice C1 mC1 dC1, .slice C2 mC2 dC2, .int .i64 u.sd, .slice C3 mC3 dC3]) := by show Bx _ _ _; rw [hV2]; exact Bx.new _ _ _ rfl
  have X2b : Hid (Bx V2 w1.heap.size [.int .i64 co, .int .i64 u.kd, .slice B1 mB1 dB1, .slice B2 mB2 dB2, .int .i64 u.sd, .slice B3 mB3 dB3]) := by show Bx _ _ _; rw [hV2]; exact X2.out.alloc _
  have U2 : Hid (Below w.heap.size w V2) := by show Below _ _ _; rw [hV2]; exact blThenAlloc T2.out _
  have SB3 : Hid (OwnS3 V2 u (.slice B1 mB1 dB1) (.slice B2 mB2 dB2) (.slice B3 mB3 dB3) w.heap.size w1.heap.size) := by show OwnS3 _ _ _ _ _ _ _; rw [hV2]; exact SB2.out.below (blAlloc _ _)
  have SC3 : Hid (OwnS3 V2 u (.slice C1 mC1 dC1) (.slice C2 mC2 dC2) (.slice C3 mC3 dC3) V1.heap.size w2.heap.size) := by show OwnS3 _ _ _ _ _ _ _; rw [hV2]; exact SC.out.below (blAlloc _ _)
  have HV2 := Lib.hid hV2
  have x0 := X2.out.c 0 rfl
  have x1 := X2.out.c 1 rfl
  have x2 := X2.out.c 2 rfl
  have x3 := X2.out.c 3 rfl
  have x4 := X2.out.c 4 rfl
  have x5 := X2.out.c 5 rfl
  have xl := X2.out.lt
  clear hV2
  have E1 := Lib.hid (eqStageResult_same co u C1 mC1 dC1 C2 mC2 dC2 C3 mC3 dC3 B1 mB1 dB1 B2 mB2 dB2 B3 mB3 dB3 V2 SC3.out.hd SB3.out.hd SM.out)
  go_wp2_with fail
  rw [← HV2.out]
  clear x0 x1 x2 x3 x4 x5 xl
  clear HV2
  refine E1.out.mono ?_
  rintro e w3 ⟨rfl, hb⟩
  have U3 := Lib.hid (blThen U2.out hb)
  have X3 := Lib.hid (X2b.out.bel hb)
  have Y3 := Lib.hid (Y2.out.bel hb)
  have SB4 := Lib.hid (SB3.out.below hb)
  have SC4 := Lib.hid (SC3.out.below hb)
  have Z3 := Lib.hid hb.size
  clear hb E1
  have y0 := Y3.out.c 0 rfl
  have y1 := Y3.out.c 1 rfl
  have y2 := Y3.out.c 2 rfl
  have y3 := Y3.out.c 3 rfl
  have y4 := Y3.out.c 4 rfl
  have y5 := Y3.out.c 5 rfl
  have yl := Y3.out.lt
  have CM := Lib.hid (markStageResult_any co u C1 mC1 dC1 C2 mC2 dC2 C3 mC3 dC3 V1.heap.size w2.heap.size 1 w3 SC4.out SM.out (by omega))
  obtain ⟨M, hM⟩ : ∃ M, M = mS u 1 := ⟨_, rfl⟩
  unfold MsAns at CM
  rw [← hM] at CM
  have HM := Lib.hid hM
  have hneg : ¬ (M : Int) < 0 := by omega
  clear hM
  go_wp2_with fail
  clear y0 y1 y2 y3 y4 y5 yl
  refine CM.out.mono ?_
  rintro e w4 ⟨rfl, hd, hch⟩
  have U4 := Lib.hid (U3.out.trans (hch.below (fun k hk => by have := U1.out.size; have := Z1.out; omega) U3.out.size))
  have X4 := Lib.hid (X3.out.ch hch (by have := Z1.out; omega))
  have Y4 := Lib.hid (Y3.out.ch hch (by omega))
  have SB5 := Lib.hid (SB4.out.ch hch (fun k h1 h2 => by have := Z1.out; omega))
  have HD4 := Lib.hid hd
  clear hd hch CM
  have y0 := Y4.out.c 0 rfl
  have y1 := Y4.out.c 1 rfl
  have y2 := Y4.out.c 2 rfl
  have y3 := Y4.out.c 3 rfl
  have y4 := Y4.out.c 4 rfl
  have y5 := Y4.out.c 5 rfl
  have yl := Y4.out.lt
  have CH := Lib.hid (heldStageResult_any co u C1 mC1 dC1 C2 mC2 dC2 C3 mC3 dC3 1 w4 HD4.out SM.out (by omega))
  rw [← HM.out] at CH
  go_wp2_with fail
  clear y0 y1 y2 y3 y4 y5 yl
  refine CH.out.mono ?_
  rintro e w5 ⟨rfl, hb⟩
  have U5 := Lib.hid (blThen U4.out hb)
  have X5 := Lib.hid (X4.out.bel hb)
  have Y5 := Lib.hid (Y4.out.bel hb)
  have SB6 := Lib.hid (SB5.out.below hb)
  have HD5 := Lib.hid (HD4.out.bel hb)
  clear hb CH
  go_wp2_with fail
  refine (CI.out _).mono ?_
  rintro e w6 ⟨D1, mD1, dD1, D2, mD2, dD2, D3, mD3, dD3, rfl, ho, hb⟩
  have U6 := Lib.hid (blThen U5.out hb)
  have X6 := Lib.hid (X5.out.bel hb)
  have Y6 := Lib.hid (Y5.out.bel hb)
  have SB7 := Lib.hid (SB6.out.below hb)
  have HD6 := Lib.hid (HD5.out.bel hb)
  have SD := Lib.hid ho
  clear hb ho
  obtain ⟨V6, hV6⟩ : ∃ V, V = w6.alloc (.cells #[.int .i64 co, .int .i64 u.kd, .slice D1 mD1 dD1, .slice D2 mD2 dD2, .int .i64 u.sd, .slice D3 mD3 dD3] 66) := ⟨_, rfl⟩
  have X6b : Hid (Bx V6 w1.heap.size [.int .i64 co, .int .i64 u.kd, .slice B1 mB1 dB1, .slice B2 mB2 dB2, .int .i64 u.sd, .slice B3 mB3 dB3]) := by show Bx _ _ _; rw [hV6]; exact X6.out.alloc _
  have Y6b : Hid (Bx V6 w2.heap.size [.int .i64 co, .int .i64 u.kd, .slice C1 mC1 dC1, .slice C2 mC2 dC2, .int .i64 u.sd, .slice C3 mC3 dC3]) := by show Bx _ _ _; rw [hV6]; exact Y6.out.alloc _
  have U6b : Hid (Below w.heap.size w V6) := by show Below _ _ _; rw [hV6]; exact blThenAlloc U6.out _
  have SB8 : Hid (OwnS3 V6 u (.slice B1 mB1 dB1) (.slice B2 mB2 dB2) (.slice B3 mB3 dB3) w.heap.size w1.heap.size) := by show OwnS3 _ _ _ _ _ _ _; rw [hV6]; exact SB7.out.below (blAlloc _ _)
  have SD8 : Hid (OwnS3 V6 u (.slice D1 mD1 dD1) (.slice D2 mD2 dD2) (.slice D3 mD3 dD3) w5.heap.size w6.heap.size) := by show OwnS3 _ _ _ _ _ _ _; rw [hV6]; exact SD.out.below (blAlloc _ _)
  have HD6b : Hid (HdSt V6 (mT3 u 1) C1 mC1 dC1 C2 mC2 dC2 C3 mC3 dC3) := by show HdSt _ _ _ _ _ _ _ _ _ _ _; rw [hV6]; exact HD6.out.alloc _
  have HV6 := Lib.hid hV6
  have x0 := X6.out.c 0 rfl
  have x1 := X6.out.c 1 rfl
  have x2 := X6.out.c 2 rfl
  have x3 := X6.out.c 3 rfl
  have x4 := X6.out.c 4 rfl
  have x5 := X6.out.c 5 rfl
  have xl := X6.out.lt
  clear hV6
  have E2 := Lib.hid (eqStageResult_same co u D1 mD1 dD1 D2 mD2 dD2 D3 mD3 dD3 B1 mB1 dB1 B2 mB2 dB2 B3 mB3 dB3 V6 SD8.out.hd SB8.out.hd SM.out)
  go_wp2_with fail
  rw [← HV6.out]
  clear x0 x1 x2 x3 x4 x5 xl
  clear HV6
  refine E2.out.mono ?_
  rintro e w7 ⟨rfl, hb⟩
  have U7 := Lib.hid (blThen U6b.out hb)
  have Y7 := Lib.hid (Y6b.out.bel hb)
  have HD7 := Lib.hid (HD6b.out.bel hb)
  clear hb E2
  have y0 := Y7.out.c 0 rfl
  have y1 := Y7.out.c 1 rfl
  have y2 := Y7.out.c 2 rfl
  have y3 := Y7.out.c 3 rfl
  have y4 := Y7.out.c 4 rfl
  have y5 := Y7.out.c 5 rfl
  have yl := Y7.out.lt
  have CH := Lib.hid (heldStageResult_any co u C1 mC1 dC1 C2 mC2 dC2 C3 mC3 dC3 1 w7 HD7.out SM.out (by omega))
  rw [← HM.out] at CH
  go_wp2_with fail
  clear y0 y1 y2 y3 y4 y5 yl
  refine CH.out.mono ?_
  rintro e w8 ⟨rfl, hb⟩
  have U8 := Lib.hid (blThen U7.out hb)
  clear hb CH
  go_wp2_with fail
  go_ret
  exact ⟨rfl, U8.out⟩

set_option maxRecDepth 100000 in
theorem lifted (os : Os) (started : os.Started) (H : Type) (enc : TypeId × Value → H) :
    ReturnsInHanded {} Try.checked os 7 .any (Rows.fnExactUnitStageSpec.pre6 enc Try.prog Try.f7 Rows.fnExactUnitStageRow.domain false) (Rows.fnExactUnitStageSpec.post enc Try.prog Try.f7 false true false false) := by
  refine returnsInHanded_of_change (C := Try.checked) own started (by kernel_rfl) Try.func7
    (ChangeSpec.witness6 (enc := enc) (C := Try.checked) false ⟨#[], #[.int .i64 0], []⟩ 8 (by kernel_rfl) (by kernel_rfl) (by kernel_rfl) (by kernel_rfl)) ?_
  intro W base args ds gs before hval0 hW hcnd _
  have hval : ∀ (j : Nat) t v, Try.f7.params[j]? = some t → args[j]? = some v → Value.okWide Try.prog W .any base t v := hval0
  have hW' := hW
  obtain ⟨p, q, hA0, hV0, rfl, hfz, hnd⟩ := hW
  have hA : DataW.TrodAll enc Try.prog W 0 (fun _ => true) true Try.f7.params.toList args.toList ds p := hA0
  have hV : DataW.TrodVars enc Try.prog W (fun _ => true) [] gs q := hV0
  rw [Try.params7] at hA hval
  obtain ⟨v0, vs0, d0, ds0, p0, q0, hargs, rfl, rfl, h0, r0⟩ := trodAll_cons hA
  obtain ⟨rfl, rfl, rfl⟩ := trodAll_nil r0
  obtain rfl : args = #[v0] := by cases args; simp_all
  obtain ⟨rfl, rfl⟩ : gs = [] ∧ q = [] := by
    cases gs with
    | nil => exact ⟨rfl, hV⟩
    | cons g r => exact absurd hV (by intro h; cases h)
  have k0 := h0
  have lt0 : ∀ x ∈ p0, x.block < W.heap.size := by obtain ⟨m, hm⟩ := k0; exact DataW.trod_lt m _ _ _ hm
  obtain ⟨a0, rfl, e0, f0, w0⟩ := open_int Try.underlying2 (hval 0 2 v0 rfl rfl) h0
  clear hA0 hval0
  refine (walk a0 W w0).mono fun e W' ⟨he, bel⟩ => ?_
  subst he
  exact ⟨_, rfl, _, _, _, [], _, [], hW', trodAll_mk1 (shut_bool Try.underlying4 _), (trodAll_cons_mk (Below.trod laidOut (by kernel_rfl) (of_decide_eq_true (by kernel_rfl)) k0 bel lt0) trodAll_mk0), rfl, bel.frame _, fun h => by cases h⟩

theorem row_holds : Rows.FnExactUnitStageSaid :=
  OpenClaim.holds_of_wide 7 Try.f7 rfl rfl rfl rfl rfl rfl rfl ⟨rfl, rfl, rfl, rfl, rfl⟩ rfl rfl rfl rfl rfl (by kernel_rfl) Try.func7 (by kernel_rfl)
    (of_decide_eq_true (by kernel_rfl)) (by unfold Func.isWrapper; rw [if_neg (of_decide_eq_false (by kernel_rfl))]; exact ⟨rfl, rfl⟩)
    (fun os started H enc _ => lifted os started H enc)

theorem proved : Rows.FnExactUnitStageSaid := row_holds
#print axioms proved

end Go.Proofs.Ytdjifaaofefpoaa.lExactUnitStage
