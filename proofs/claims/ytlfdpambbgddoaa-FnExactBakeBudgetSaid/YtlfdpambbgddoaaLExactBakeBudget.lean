/-
  Proved: at every chain and number the Go function BakeBudget answers as its reference model does, both fields, and changes nothing of them (the law FnExactBakeBudget returns true), and the arguments read afterwards as they read before. Conditions: none.
-/
import Derived.Test.YtlfdpambbgddoaaOpenA
import Derived.Test.YtlfdpambbgddoaaHelpSt
import Derived.Test.YtlfdpambbgddoaaMrkA
import Derived.Test.YtlfdpambbgddoaaBakI
import Derived.Test.YtlfdpambbgddoaaBaseA
import Derived.Deep.RegionHeld3
namespace Go.Proofs.Ytlfdpambbgddoaa.lExactBakeBudget
open Go.ChangeShapes Go.WideShapes Go.ChangeAt Go.RowKit
set_option linter.unusedVariables false
set_option linter.unusedSimpArgs false

set_option maxRecDepth 100000 in
set_option maxHeartbeats 4000000 in
theorem walk (A0 : Option Addr) (n0 c0 : Nat) (xs0 : List Stg) (bs0 : List Nat) (a1 : Int) (w : World) (h0 : Hd w (chD xs0) (.slice A0 n0 c0) bs0) (u0 : I64C xs0) (h1 : (Lit.int .i64 a1).wf = true) :
    Calls Try.prog 4 #[.agg #[.slice A0 n0 c0], .int .i64 a1] w fun e w' => e = .returned (.bool true) ∧ Below w.heap.size w w' := by
  have hm0 := h0.caps.2
  have hnc0 := h0.caps.1
  have HU0 := Lib.hid u0
  have HL0 := Lib.hid h0.stgs.1
  have b1 := bounds_i64 h1
  clear h1
  have S0 : Scene w w [(chD xs0, .slice A0 n0 c0)] [] [] := Scene.start w _ (by intro p hp; simp only [List.mem_cons, List.not_mem_nil, or_false] at hp; rcases hp with rfl <;> first | exact ⟨_, h0⟩)
  have S1 : Scene w (w.alloc (.cells #[.slice A0 n0 c0] 29)) [(chD xs0, .slice A0 n0 c0)] [] [(w.heap.size, [.slice A0 n0 c0])] := by have q := Scene.addBox S0 [.slice A0 n0 c0] 29; simpa only [World.size_alloc, List.length_cons, Nat.add_assoc] using q
  clear h0 u0
  go_enter Try.func4, Try.ntmps4
  go_wp2_with fail
  obtain ⟨bsa0, hda0⟩ := S1.argI 0 rfl
  refine (szChain_any A0 n0 c0 xs0 _ _ _ hda0 (by omega) (by omega)).mono ?_
  rintro e w1 ⟨r0, rfl, hr10, hr20, hr30, hb0⟩
  have i1 := Below.size hb0
  try simp only [World.size_alloc] at i1
  have S2 : Scene w w1 [(chD xs0, .slice A0 n0 c0)] [] [(w.heap.size, [.slice A0 n0 c0])] := Scene.below S1 hb0
  have HR0 := Lib.hid hr30
  clear hr30 hb0
  by_cases hr0 : r0 < 0
  · go_wp2_with fail
    go_ret
    exact ⟨rfl, S2.bel⟩
  have hn0 := Lib.hid (HR0.out (by omega))
  clear HR0 hda0
  have hq0 : n0 ≤ 1048576 := by have := hn0.out.1; rw [HL0.out] at this; exact this
  have x0_0 : w1.cell? ⟨w.heap.size, 0, none⟩ = some (.slice A0 n0 c0) := S2.boxI 0 0 rfl rfl
  have z0 : w.heap.size < w1.heap.size := cell_lt x0_0
  go_wp2_with fail
  obtain ⟨bsa0, hda0⟩ := S2.argI 0 rfl
  refine (toChain_any A0 n0 c0 xs0 _ _ hda0 hn0.out).mono ?_
  rintro e w2 ⟨B2, rfl, ho, hb⟩
  have i2 := Below.size hb
  try simp only [World.size_alloc] at i2
  have S3 : Scene w w2 [(chD xs0, .slice A0 n0 c0)] [] [(w.heap.size, [.slice A0 n0 c0])] := Scene.below S2 hb
  obtain ⟨ds0, dd0⟩ := ho.hd
  have D0 := Lib.hid dd0
  clear ho hb dd0 hda0
  clear x0_0 z0
  have x0_0 : w2.cell? ⟨w.heap.size, 0, none⟩ = some (.slice A0 n0 c0) := S3.boxI 0 0 rfl rfl
  have z0 : w.heap.size < w2.heap.size := cell_lt x0_0
  go_wp2_with fail
  refine (sBakeBudget_any B2 n0 n0 xs0 _ a1 _ D0.out).mono ?_
  rintro e w3 ⟨rfl, hb⟩
  have i3 := Below.size hb
  try simp only [World.size_alloc] at i3
  have S4 : Scene w w3 [(chD xs0, .slice A0 n0 c0)] [] [(w.heap.size, [.slice A0 n0 c0])] := Scene.below S3 hb
  clear hb
  clear D0
  clear x0_0 z0
  have x0_0 : w3.cell? ⟨w.heap.size, 0, none⟩ = some (.slice A0 n0 c0) := S4.boxI 0 0 rfl rfl
  have z0 : w.heap.size < w3.heap.size := cell_lt x0_0
  have S5 : Scene w (w3.alloc (.cells #[.int .i64 (bkC xs0 a1), .int .i64 (bbV xs0 a1)] 23)) [(chD xs0, .slice A0 n0 c0)] [] [(w3.heap.size, [.int .i64 (bkC xs0 a1), .int .i64 (bbV xs0 a1)]), (w.heap.size, [.slice A0 n0 c0])] := Scene.addBox S4 [.int .i64 (bkC xs0 a1), .int .i64 (bbV xs0 a1)] 23
  clear S4
  go_wp2_with fail
  obtain ⟨bsa0, hda0⟩ := S5.argI 0 rfl
  refine (toChain_any A0 n0 c0 xs0 _ _ hda0 hn0.out).mono ?_
  rintro e w4 ⟨X0, rfl, ho, hb⟩
  have i4 := Below.size hb
  try simp only [World.size_alloc] at i4
  have S6 : Scene w w4 [(chD xs0, .slice A0 n0 c0)] [] [(w3.heap.size, [.int .i64 (bkC xs0 a1), .int .i64 (bbV xs0 a1)]), (w.heap.size, [.slice A0 n0 c0])] := Scene.below S5 hb
  have S7 : Scene w w4 [(chD xs0, .slice A0 n0 c0)] [⟨chD xs0, .slice X0 n0 n0, w3.heap.size + 1, w4.heap.size⟩] [(w3.heap.size, [.int .i64 (bkC xs0 a1), .int .i64 (bbV xs0 a1)]), (w.heap.size, [.slice A0 n0 c0])] := Scene.addOwn S6 (ho.mono (by simp) (Nat.le_refl _)) (by have := S6.bel.size; omega) (Nat.le_refl _)
  clear ho hb hda0 S6
  clear x0_0 z0
  have x0_0 : w4.cell? ⟨w3.heap.size, 0, none⟩ = some (.int .i64 (bkC xs0 a1)) := S7.boxI 0 0 rfl rfl
  have x0_1 : w4.cell? ⟨w3.heap.size, 1, none⟩ = some (.int .i64 (bbV xs0 a1)) := S7.boxI 0 1 rfl rfl
  have z0 : w3.heap.size < w4.heap.size := cell_lt x0_0
  have x1_0 : w4.cell? ⟨w.heap.size, 0, none⟩ = some (.slice A0 n0 c0) := S7.boxI 1 0 rfl rfl
  have z1 : w.heap.size < w4.heap.size := cell_lt x1_0
  have S8 : Scene w (w4.alloc (.cells #[.slice X0 n0 n0] 34)) [(chD xs0, .slice A0 n0 c0)] [⟨chD xs0, .slice X0 n0 n0, w3.heap.size + 1, w4.heap.size⟩] [(w4.heap.size, [.slice X0 n0 n0]), (w3.heap.size, [.int .i64 (bkC xs0 a1), .int .i64 (bbV xs0 a1)]), (w.heap.size, [.slice A0 n0 c0])] := Scene.addBox S7 [.slice X0 n0 n0] 34
  clear S7
  go_wp2_with fail
  obtain ⟨dx0, hx0⟩ := (S8.ownI 0 rfl).hd
  refine (BakeBudget_any X0 n0 n0 xs0 _ a1 _ hx0).mono ?_
  rintro e w5 ⟨rfl, hb⟩
  have i5 := Below.size hb
  try simp only [World.size_alloc] at i5
  have S9 : Scene w w5 [(chD xs0, .slice A0 n0 c0)] [⟨chD xs0, .slice X0 n0 n0, w3.heap.size + 1, w4.heap.size⟩] [(w4.heap.size, [.slice X0 n0 n0]), (w3.heap.size, [.int .i64 (bkC xs0 a1), .int .i64 (bbV xs0 a1)]), (w.heap.size, [.slice A0 n0 c0])] := Scene.below S8 hb
  clear hx0
  clear hb
  clear x0_0 x0_1 z0 x1_0 z1
  have x0_0 : w5.cell? ⟨w4.heap.size, 0, none⟩ = some (.slice X0 n0 n0) := S9.boxI 0 0 rfl rfl
  have z0 : w4.heap.size < w5.heap.size := cell_lt x0_0
  have x1_0 : w5.cell? ⟨w3.heap.size, 0, none⟩ = some (.int .i64 (bkC xs0 a1)) := S9.boxI 1 0 rfl rfl
  have x1_1 : w5.cell? ⟨w3.heap.size, 1, none⟩ = some (.int .i64 (bbV xs0 a1)) := S9.boxI 1 1 rfl rfl
  have z1 : w3.heap.size < w5.heap.size := cell_lt x1_0
  have x2_0 : w5.cell? ⟨w.heap.size, 0, none⟩ = some (.slice A0 n0 c0) := S9.boxI 2 0 rfl rfl
  have z2 : w.heap.size < w5.heap.size := cell_lt x2_0
  have S10 : Scene w (w5.alloc (.cells #[.int .i64 (bkC xs0 a1), .int .i64 (bbV xs0 a1)] 23)) [(chD xs0, .slice A0 n0 c0)] [⟨chD xs0, .slice X0 n0 n0, w3.heap.size + 1, w4.heap.size⟩] [(w5.heap.size, [.int .i64 (bkC xs0 a1), .int .i64 (bbV xs0 a1)]), (w4.heap.size, [.slice X0 n0 n0]), (w3.heap.size, [.int .i64 (bkC xs0 a1), .int .i64 (bbV xs0 a1)]), (w.heap.size, [.slice A0 n0 c0])] := Scene.addBox S9 [.int .i64 (bkC xs0 a1), .int .i64 (bbV xs0 a1)] 23
  clear S9
  go_wp2_with fail
  refine (eqIntResult_same _ _ _).mono ?_
  rintro e w6 ⟨rfl, hb⟩
  have i6 := Below.size hb
  try simp only [World.size_alloc] at i6
  have S11 : Scene w w6 [(chD xs0, .slice A0 n0 c0)] [⟨chD xs0, .slice X0 n0 n0, w3.heap.size + 1, w4.heap.size⟩] [(w5.heap.size, [.int .i64 (bkC xs0 a1), .int .i64 (bbV xs0 a1)]), (w4.heap.size, [.slice X0 n0 n0]), (w3.heap.size, [.int .i64 (bkC xs0 a1), .int .i64 (bbV xs0 a1)]), (w.heap.size, [.slice A0 n0 c0])] := Scene.below S10 hb
  clear hb
  clear x0_0 z0 x1_0 x1_1 z1 x2_0 z2
  have x0_0 : w6.cell? ⟨w5.heap.size, 0, none⟩ = some (.int .i64 (bkC xs0 a1)) := S11.boxI 0 0 rfl rfl
  have x0_1 : w6.cell? ⟨w5.heap.size, 1, none⟩ = some (.int .i64 (bbV xs0 a1)) := S11.boxI 0 1 rfl rfl
  have z0 : w5.heap.size < w6.heap.size := cell_lt x0_0
  have x1_0 : w6.cell? ⟨w4.heap.size, 0, none⟩ = some (.slice X0 n0 n0) := S11.boxI 1 0 rfl rfl
  have z1 : w4.heap.size < w6.heap.size := cell_lt x1_0
  have x2_0 : w6.cell? ⟨w3.heap.size, 0, none⟩ = some (.int .i64 (bkC xs0 a1)) := S11.boxI 2 0 rfl rfl
  have x2_1 : w6.cell? ⟨w3.heap.size, 1, none⟩ = some (.int .i64 (bbV xs0 a1)) := S11.boxI 2 1 rfl rfl
  have z2 : w3.heap.size < w6.heap.size := cell_lt x2_0
  have x3_0 : w6.cell? ⟨w.heap.size, 0, none⟩ = some (.slice A0 n0 c0) := S11.boxI 3 0 rfl rfl
  have z3 : w.heap.size < w6.heap.size := cell_lt x3_0
  go_wp2_with fail
  go_region_held3 (fun w' => w'.cell? ⟨w5.heap.size, 0, none⟩ = some (.int .i64 (bkC xs0 a1)) ∧ w'.cell? ⟨w5.heap.size, 1, none⟩ = some (.int .i64 (bbV xs0 a1)) ∧ w'.cell? ⟨w4.heap.size, 0, none⟩ = some (.slice X0 n0 n0) ∧ w'.cell? ⟨w3.heap.size, 0, none⟩ = some (.int .i64 (bkC xs0 a1)) ∧ w'.cell? ⟨w3.heap.size, 1, none⟩ = some (.int .i64 (bbV xs0 a1)) ∧ w'.cell? ⟨w.heap.size, 0, none⟩ = some (.slice A0 n0 c0) ∧ Scene w w' [(chD xs0, .slice A0 n0 c0)] [⟨chD xs0, .slice X0 n0 n0, w3.heap.size + 1, w4.heap.size⟩] [(w5.heap.size, [.int .i64 (bkC xs0 a1), .int .i64 (bbV xs0 a1)]), (w4.heap.size, [.slice X0 n0 n0]), (w3.heap.size, [.int .i64 (bkC xs0 a1), .int .i64 (bbV xs0 a1)]), (w.heap.size, [.slice A0 n0 c0])])
    (first | (go_split_ands; exact ⟨cell_later hb (by assumption), cell_later hb (by assumption), cell_later hb (by assumption), cell_later hb (by assumption), cell_later hb (by assumption), cell_later hb (by assumption), Scene.below (by assumption) hb⟩) | exact ⟨x0_0, x0_1, x1_0, x2_0, x2_1, x3_0, Scene.drew S11⟩)
    (first | (go_at_call 14; go_split_ands; obtain ⟨bsq, hdq⟩ := Scene.argI (by assumption) 0 rfl; refine (toChain_any A0 n0 c0 xs0 _ _ hdq hn0.out).mono ?_; rintro e w' ⟨Bq, rfl, ho, hb⟩) | (go_at_call 16; go_split_ands; obtain ⟨bsr, hdr⟩ := ho.hd; obtain ⟨bst, hdt⟩ := (Scene.ownI (by assumption) 0 rfl).hd; refine (eqChain_same _ _ _ _ _ _ xs0 _ _ _ hdt hdr hn0.out).mono ?_; rintro e w' ⟨rfl, hb⟩))
  go_split_ands
  rename Scene w _ _ _ _ => S12
  rename World => w7
  clear S11
  clear x0_0 x0_1 x1_0 x2_0 x2_1 x3_0 z0 z1 z2 z3
  clear ho
  have x0_0 : w7.cell? ⟨w5.heap.size, 0, none⟩ = some (.int .i64 (bkC xs0 a1)) := S12.boxI 0 0 rfl rfl
  have x0_1 : w7.cell? ⟨w5.heap.size, 1, none⟩ = some (.int .i64 (bbV xs0 a1)) := S12.boxI 0 1 rfl rfl
  have z0 : w5.heap.size < w7.heap.size := cell_lt x0_0
  have x1_0 : w7.cell? ⟨w4.heap.size, 0, none⟩ = some (.slice X0 n0 n0) := S12.boxI 1 0 rfl rfl
  have z1 : w4.heap.size < w7.heap.size := cell_lt x1_0
  have x2_0 : w7.cell? ⟨w3.heap.size, 0, none⟩ = some (.int .i64 (bkC xs0 a1)) := S12.boxI 2 0 rfl rfl
  have x2_1 : w7.cell? ⟨w3.heap.size, 1, none⟩ = some (.int .i64 (bbV xs0 a1)) := S12.boxI 2 1 rfl rfl
  have z2 : w3.heap.size < w7.heap.size := cell_lt x2_0
  have x3_0 : w7.cell? ⟨w.heap.size, 0, none⟩ = some (.slice A0 n0 c0) := S12.boxI 3 0 rfl rfl
  have z3 : w.heap.size < w7.heap.size := cell_lt x3_0
  go_wp2_with fail
  have HB := Lib.hid S12.bel
  clear S12
  clear x0_0 x0_1 z0 x1_0 z1 x2_0 x2_1 z2 x3_0 z3
  try go_wp2_with fail
  go_ret
  exact ⟨rfl, HB.out⟩

set_option maxRecDepth 100000 in
theorem lifted (os : Os) (started : os.Started) (H : Type) (enc : TypeId × Value → H) :
    ReturnsInHanded {} Try.checked os 4 .any (Rows.fnExactBakeBudgetSpec.pre6 enc Try.prog Try.f4 Rows.fnExactBakeBudgetRow.domain false) (Rows.fnExactBakeBudgetSpec.post enc Try.prog Try.f4 false true false false) := by
  refine returnsInHanded_of_change (C := Try.checked) own started (by kernel_rfl) Try.func4
    (ChangeSpec.witness6 (enc := enc) (C := Try.checked) false ⟨#[], #[.agg #[.slice none 0 0], .int .i64 0], []⟩ 8 (by kernel_rfl) (by kernel_rfl) (by kernel_rfl) (by kernel_rfl)) ?_
  intro W base args ds gs before hval0 hW hcnd _
  have hval : ∀ (j : Nat) t v, Try.f4.params[j]? = some t → args[j]? = some v → Value.okWide Try.prog W .any base t v := hval0
  have hW' := hW
  obtain ⟨p, q, hA0, hV0, rfl, hfz, hnd⟩ := hW
  have hA : DataW.TrodAll enc Try.prog W 0 (fun _ => true) true Try.f4.params.toList args.toList ds p := hA0
  have hV : DataW.TrodVars enc Try.prog W (fun _ => true) [] gs q := hV0
  rw [Try.params4] at hA hval
  obtain ⟨v0, vs0, d0, ds0, p0, q0, hargs, rfl, rfl, h0, r0⟩ := trodAll_cons hA
  obtain ⟨v1, vs1, d1, ds1, p1, q1, rfl, rfl, rfl, h1, r1⟩ := trodAll_cons r0
  obtain ⟨rfl, rfl, rfl⟩ := trodAll_nil r1
  obtain rfl : args = #[v0, v1] := by cases args; simp_all
  obtain ⟨rfl, rfl⟩ : gs = [] ∧ q = [] := by
    cases gs with
    | nil => exact ⟨rfl, hV⟩
    | cons g r => exact absurd hV (by intro h; cases h)
  have k0 := h0
  have lt0 : ∀ x ∈ p0, x.block < W.heap.size := by obtain ⟨m, hm⟩ := k0; exact DataW.trod_lt m _ _ _ hm
  obtain ⟨a0, n0, c0, xs0, bs0, rfl, hd0, u0⟩ := open_chain (hval 0 29 v0 rfl rfl) h0
  have k1 := h1
  have lt1 : ∀ x ∈ p1, x.block < W.heap.size := by obtain ⟨m, hm⟩ := k1; exact DataW.trod_lt m _ _ _ hm
  obtain ⟨a1, rfl, e1, f1, w1⟩ := open_int Try.underlying2 (hval 1 2 v1 rfl rfl) h1
  clear hA0 hval0
  refine (walk a0 n0 c0 xs0 bs0 a1 W hd0 u0 w1).mono fun e W' ⟨he, bel⟩ => ?_
  subst he
  exact ⟨_, rfl, _, _, _, [], _, [], hW', trodAll_mk1 (shut_bool Try.underlying4 _), (trodAll_cons_mk (Below.trod laidOut (by kernel_rfl) (of_decide_eq_true (by kernel_rfl)) k0 bel lt0) (trodAll_cons_mk (Below.trod laidOut (by kernel_rfl) (of_decide_eq_true (by kernel_rfl)) k1 bel lt1) trodAll_mk0)), rfl, bel.frame _, fun h => by cases h⟩

theorem row_holds : Rows.FnExactBakeBudgetSaid :=
  OpenClaim.holds_of_wide 4 Try.f4 rfl rfl rfl rfl rfl rfl rfl ⟨rfl, rfl, rfl, rfl, rfl⟩ rfl rfl rfl rfl rfl (by kernel_rfl) Try.func4 (by kernel_rfl)
    (of_decide_eq_true (by kernel_rfl)) (by unfold Func.isWrapper; rw [if_neg (of_decide_eq_false (by kernel_rfl))]; exact ⟨rfl, rfl⟩)
    (fun os started H enc _ => lifted os started H enc)

theorem proved : Rows.FnExactBakeBudgetSaid := row_holds
#print axioms proved

end Go.Proofs.Ytlfdpambbgddoaa.lExactBakeBudget
