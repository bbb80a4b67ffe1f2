/-
  Proved: at every two numbers the Go function NodeLevel answers as its reference model does, both fields (the law FnExactNodeLevel returns true), and the arguments read afterwards as they read before. Conditions: none.
-/
import Derived.Test.YtlfdpambbgddoaaOpenA
import Derived.Test.YtlfdpambbgddoaaBakN
import Derived.Test.YtlfdpambbgddoaaBaseA
import Derived.Deep.RegionHeld3
namespace Go.Proofs.Ytlfdpambbgddoaa.lExactNodeLevel
open Go.ChangeShapes Go.WideShapes Go.ChangeAt Go.RowKit
set_option linter.unusedVariables false
set_option linter.unusedSimpArgs false

set_option maxRecDepth 100000 in
set_option maxHeartbeats 4000000 in
theorem walk (a0 : Int) (a1 : Int) (w : World) (h0 : (Lit.int .i64 a0).wf = true) (h1 : (Lit.int .i64 a1).wf = true) :
    Calls Try.prog 3 #[.int .i64 a0, .int .i64 a1] w fun e w' => e = .returned (.bool true) ∧ Below w.heap.size w w' := by
  have b0 := bounds_i64 h0
  clear h0
  have b1 := bounds_i64 h1
  clear h1
  have S0 : Scene w w [] [] [] := Scene.start w _ (by intro p hp; cases hp)
  go_enter Try.func3, Try.ntmps3
  go_wp2_with fail
  refine (sNodeLevel_any a0 a1 _).mono ?_
  rintro e w1 ⟨rfl, hb⟩
  have i1 := Below.size hb
  try simp only [World.size_alloc] at i1
  have S1 : Scene w w1 [] [] [] := Scene.below S0 hb
  clear hb
  have S2 : Scene w (w1.alloc (.cells #[.int .i64 (nlC a0 a1), .int .i64 (nlV a0 a1)] 23)) [] [] [(w1.heap.size, [.int .i64 (nlC a0 a1), .int .i64 (nlV a0 a1)])] := Scene.addBox S1 [.int .i64 (nlC a0 a1), .int .i64 (nlV a0 a1)] 23
  clear S1
  go_wp2_with fail
  refine (NodeLevel_any a0 a1 _).mono ?_
  rintro e w2 ⟨rfl, hb⟩
  have i2 := Below.size hb
  try simp only [World.size_alloc] at i2
  have S3 : Scene w w2 [] [] [(w1.heap.size, [.int .i64 (nlC a0 a1), .int .i64 (nlV a0 a1)])] := Scene.below S2 hb
  clear hb
  have x0_0 : w2.cell? ⟨w1.heap.size, 0, none⟩ = some (.int .i64 (nlC a0 a1)) := S3.boxI 0 0 rfl rfl
  have x0_1 : w2.cell? ⟨w1.heap.size, 1, none⟩ = some (.int .i64 (nlV a0 a1)) := S3.boxI 0 1 rfl rfl
  have z0 : w1.heap.size < w2.heap.size := cell_lt x0_0
  have S4 : Scene w (w2.alloc (.cells #[.int .i64 (nlC a0 a1), .int .i64 (nlV a0 a1)] 23)) [] [] [(w2.heap.size, [.int .i64 (nlC a0 a1), .int .i64 (nlV a0 a1)]), (w1.heap.size, [.int .i64 (nlC a0 a1), .int .i64 (nlV a0 a1)])] := Scene.addBox S3 [.int .i64 (nlC a0 a1), .int .i64 (nlV a0 a1)] 23
  clear S3
  go_wp2_with fail
  refine (eqIntResult_same _ _ _).mono ?_
  rintro e w3 ⟨rfl, hb⟩
  have i3 := Below.size hb
  try simp only [World.size_alloc] at i3
  have S5 : Scene w w3 [] [] [(w2.heap.size, [.int .i64 (nlC a0 a1), .int .i64 (nlV a0 a1)]), (w1.heap.size, [.int .i64 (nlC a0 a1), .int .i64 (nlV a0 a1)])] := Scene.below S4 hb
  clear hb
  clear x0_0 x0_1 z0
  have x0_0 : w3.cell? ⟨w2.heap.size, 0, none⟩ = some (.int .i64 (nlC a0 a1)) := S5.boxI 0 0 rfl rfl
  have x0_1 : w3.cell? ⟨w2.heap.size, 1, none⟩ = some (.int .i64 (nlV a0 a1)) := S5.boxI 0 1 rfl rfl
  have z0 : w2.heap.size < w3.heap.size := cell_lt x0_0
  have x1_0 : w3.cell? ⟨w1.heap.size, 0, none⟩ = some (.int .i64 (nlC a0 a1)) := S5.boxI 1 0 rfl rfl
  have x1_1 : w3.cell? ⟨w1.heap.size, 1, none⟩ = some (.int .i64 (nlV a0 a1)) := S5.boxI 1 1 rfl rfl
  have z1 : w1.heap.size < w3.heap.size := cell_lt x1_0
  go_wp2_with fail
  have HB := Lib.hid S5.bel
  clear S5
  clear x0_0 x0_1 z0 x1_0 x1_1 z1
  try go_wp2_with fail
  go_ret
  exact ⟨rfl, HB.out⟩

set_option maxRecDepth 100000 in
theorem lifted (os : Os) (started : os.Started) (H : Type) (enc : TypeId × Value → H) :
    ReturnsInHanded {} Try.checked os 3 .any (Rows.fnExactNodeLevelSpec.pre6 enc Try.prog Try.f3 Rows.fnExactNodeLevelRow.domain false) (Rows.fnExactNodeLevelSpec.post enc Try.prog Try.f3 false true false false) := by
  refine returnsInHanded_of_change (C := Try.checked) own started (by kernel_rfl) Try.func3
    (ChangeSpec.witness6 (enc := enc) (C := Try.checked) false ⟨#[], #[.int .i64 0, .int .i64 0], []⟩ 8 (by kernel_rfl) (by kernel_rfl) (by kernel_rfl) (by kernel_rfl)) ?_
  intro W base args ds gs before hval0 hW hcnd _
  have hval : ∀ (j : Nat) t v, Try.f3.params[j]? = some t → args[j]? = some v → Value.okWide Try.prog W .any base t v := hval0
  have hW' := hW
  obtain ⟨p, q, hA0, hV0, rfl, hfz, hnd⟩ := hW
  have hA : DataW.TrodAll enc Try.prog W 0 (fun _ => true) true Try.f3.params.toList args.toList ds p := hA0
  have hV : DataW.TrodVars enc Try.prog W (fun _ => true) [] gs q := hV0
  rw [Try.params3] at hA hval
  obtain ⟨v0, vs0, d0, ds0, p0, q0, hargs, rfl, rfl, h0, r0⟩ := trodAll_cons hA
  obtain ⟨v1, vs1, d1, ds1, p1, q1, rfl, rfl, rfl, h1, r1⟩ := trodAll_cons r0
  obtain ⟨rfl, rfl, rfl⟩ := trodAll_nil r1
  obtain rfl : args = #[v0, v1] := by cases args; simp_all
  obtain ⟨rfl, rfl⟩ : gs = [] ∧ q = [] := by
    cases gs with
    | nil => exact ⟨rfl, hV⟩
    | cons g r => exact absurd hV (by intro h; cases h)
  have k0 := h0
  have lt0 : ∀ x ∈ p0, x.block < W.heap.size := by obtain ⟨m, hm⟩ := k0; exact DataW.trod_lt m _ _ _ hm
  obtain ⟨a0, rfl, e0, f0, w0⟩ := open_int Try.underlying2 (hval 0 2 v0 rfl rfl) h0
  have k1 := h1
  have lt1 : ∀ x ∈ p1, x.block < W.heap.size := by obtain ⟨m, hm⟩ := k1; exact DataW.trod_lt m _ _ _ hm
  obtain ⟨a1, rfl, e1, f1, w1⟩ := open_int Try.underlying2 (hval 1 2 v1 rfl rfl) h1
  clear hA0 hval0
  refine (walk a0 a1 W w0 w1).mono fun e W' ⟨he, bel⟩ => ?_
  subst he
  exact ⟨_, rfl, _, _, _, [], _, [], hW', trodAll_mk1 (shut_bool Try.underlying4 _), (trodAll_cons_mk (Below.trod laidOut (by kernel_rfl) (of_decide_eq_true (by kernel_rfl)) k0 bel lt0) (trodAll_cons_mk (Below.trod laidOut (by kernel_rfl) (of_decide_eq_true (by kernel_rfl)) k1 bel lt1) trodAll_mk0)), rfl, bel.frame _, fun h => by cases h⟩

theorem row_holds : Rows.FnExactNodeLevelSaid :=
  OpenClaim.holds_of_wide 3 Try.f3 rfl rfl rfl rfl rfl rfl rfl ⟨rfl, rfl, rfl, rfl, rfl⟩ rfl rfl rfl rfl rfl (by kernel_rfl) Try.func3 (by kernel_rfl)
    (of_decide_eq_true (by kernel_rfl)) (by unfold Func.isWrapper; rw [if_neg (of_decide_eq_false (by kernel_rfl))]; exact ⟨rfl, rfl⟩)
    (fun os started H enc _ => lifted os started H enc)

theorem proved : Rows.FnExactNodeLevelSaid := row_holds
#print axioms proved

end Go.Proofs.Ytlfdpambbgddoaa.lExactNodeLevel
