/-
  Proved: at every number the Go function LineGrid answers as its reference model does, in new memory (the law FnExactLineGrid returns true), and the argument reads afterwards as it read before. Conditions: none.
-/
import Derived.Test.YtmcdbingcclpcaaFront
import Derived.Test.YtmcdbingcclpcaaLinS
import Derived.Test.YtmcdbingcclpcaaHelpG
import Derived.Test.YtmcdbingcclpcaaScene
import Derived.Deep.RegionHeld3
namespace Go.Proofs.Ytmcdbingcclpcaa.lExactLineGrid
open Go.ChangeShapes Go.WideShapes Go.ChangeAt Go.RowKit
set_option linter.unusedVariables false

set_option maxRecDepth 100000 in
set_option maxHeartbeats 4000000 in
theorem walk (a0 : Int) (w : World) (h0 : (Lit.int .i64 a0).wf = true) :
    Calls Try.prog 8 #[.int .i64 a0] w fun e w' => e = .returned (.bool true) ∧ Below w.heap.size w w' := by
  have b0 := bounds_i64 h0
  clear h0
  have S0 : Scene w w [] [] [] := Scene.start w _ (by intro p hp; cases hp)
  have hxl := lgL_len a0
  have HM : Hid ((1000000000000 : Nat) ≤ maxLen) := by show _ ≤ _; unfold maxLen; omega
  go_enter Try.func8, Try.ntmps8
  go_wp2_with fail
  refine (sLineGrid_any a0 _).mono ?_
  rintro e w1 ⟨W, nW, cW, rfl, ho, hb⟩
  have i1 := Below.size hb
  try simp only [World.size_alloc] at i1
  have S1 : Scene w w1 [] [] [] := Scene.below S0 hb
  obtain ⟨bsn, hdn⟩ := ho.hd
  have hlW := hdn.rows.1
  have hnW : nW ≤ 64 := by omega
  have S2 : Scene w w1 [] [⟨rowsD (lgL a0), .slice W nW cW, w.heap.size, w1.heap.size⟩] [] := Scene.addOwn S1 ho (by have := S1.bel.size; omega) (Nat.le_refl _)
  clear ho hb hdn hlW S1
  have S3 : Scene w (w1.alloc (.cells #[.int .i64 (lgC a0), .int .i64 (lgS a0), .slice W nW cW] 77)) [] [⟨rowsD (lgL a0), .slice W nW cW, w.heap.size, w1.heap.size⟩] [(w1.heap.size, [.int .i64 (lgC a0), .int .i64 (lgS a0), .slice W nW cW])] := Scene.addBox S2 [.int .i64 (lgC a0), .int .i64 (lgS a0), .slice W nW cW] 77
  clear S2
  go_wp2_with fail
  refine (LineGrid_any a0 _).mono ?_
  rintro e w2 ⟨G, nG, cG, rfl, ho, hb⟩
  replace ho := ho.mono (lo' := w1.heap.size + 1) (by simp) (Nat.le_refl _)
  have i2 := Below.size hb
  try simp only [World.size_alloc] at i2
  have S4 : Scene w w2 [] [⟨rowsD (lgL a0), .slice W nW cW, w.heap.size, w1.heap.size⟩] [(w1.heap.size, [.int .i64 (lgC a0), .int .i64 (lgS a0), .slice W nW cW])] := Scene.below S3 hb
  obtain ⟨bsn, hdn⟩ := ho.hd
  have hlG := hdn.rows.1
  obtain ⟨bsw, hdw⟩ := (S4.ownI 0 rfl).hd
  have hlW := hdw.rows.1
  obtain rfl : nW = nG := by omega
  have S5 : Scene w w2 [] [⟨rowsD (lgL a0), .slice G nW cG, w1.heap.size + 1, w2.heap.size⟩, ⟨rowsD (lgL a0), .slice W nW cW, w.heap.size, w1.heap.size⟩] [(w1.heap.size, [.int .i64 (lgC a0), .int .i64 (lgS a0), .slice W nW cW])] := Scene.addOwn S4 ho (by have := S4.bel.size; omega) (Nat.le_refl _)
  clear ho hb hdn hdw hlW hlG S4
  have x0_0 : w2.cell? ⟨w1.heap.size, 0, none⟩ = some (.int .i64 (lgC a0)) := S5.boxI 0 0 rfl rfl
  have x0_1 : w2.cell? ⟨w1.heap.size, 1, none⟩ = some (.int .i64 (lgS a0)) := S5.boxI 0 1 rfl rfl
  have x0_2 : w2.cell? ⟨w1.heap.size, 2, none⟩ = some (.slice W nW cW) := S5.boxI 0 2 rfl rfl
  have z0 : w1.heap.size < w2.heap.size := cell_lt x0_0
  have S6 : Scene w (w2.alloc (.cells #[.int .i64 (lgC a0), .int .i64 (lgS a0), .slice G nW cG] 77)) [] [⟨rowsD (lgL a0), .slice G nW cG, w1.heap.size + 1, w2.heap.size⟩, ⟨rowsD (lgL a0), .slice W nW cW, w.heap.size, w1.heap.size⟩] [(w2.heap.size, [.int .i64 (lgC a0), .int .i64 (lgS a0), .slice G nW cG]), (w1.heap.size, [.int .i64 (lgC a0), .int .i64 (lgS a0), .slice W nW cW])] := Scene.addBox S5 [.int .i64 (lgC a0), .int .i64 (lgS a0), .slice G nW cG] 77
  clear S5
  go_wp2_with fail
  obtain ⟨bsx, hdx⟩ := (S6.ownI 0 rfl).hd
  obtain ⟨bsy, hdy⟩ := (S6.ownI 1 rfl).hd
  refine (eqGridResult_same _ _ _ _ _ _ _ (lgL a0) _ _ _ _ hdx hdy (lgL_small a0)).mono ?_
  rintro e w3 ⟨rfl, hb⟩
  have i3 := Below.size hb
  try simp only [World.size_alloc] at i3
  have S7 : Scene w w3 [] [⟨rowsD (lgL a0), .slice G nW cG, w1.heap.size + 1, w2.heap.size⟩, ⟨rowsD (lgL a0), .slice W nW cW, w.heap.size, w1.heap.size⟩] [(w2.heap.size, [.int .i64 (lgC a0), .int .i64 (lgS a0), .slice G nW cG]), (w1.heap.size, [.int .i64 (lgC a0), .int .i64 (lgS a0), .slice W nW cW])] := Scene.below S6 hb
  clear hb hdx hdy
  clear x0_0 x0_1 x0_2 z0
  have x0_0 : w3.cell? ⟨w2.heap.size, 0, none⟩ = some (.int .i64 (lgC a0)) := S7.boxI 0 0 rfl rfl
  have x0_1 : w3.cell? ⟨w2.heap.size, 1, none⟩ = some (.int .i64 (lgS a0)) := S7.boxI 0 1 rfl rfl
  have x0_2 : w3.cell? ⟨w2.heap.size, 2, none⟩ = some (.slice G nW cG) := S7.boxI 0 2 rfl rfl
  have z0 : w2.heap.size < w3.heap.size := cell_lt x0_0
  have x1_0 : w3.cell? ⟨w1.heap.size, 0, none⟩ = some (.int .i64 (lgC a0)) := S7.boxI 1 0 rfl rfl
  have x1_1 : w3.cell? ⟨w1.heap.size, 1, none⟩ = some (.int .i64 (lgS a0)) := S7.boxI 1 1 rfl rfl
  have x1_2 : w3.cell? ⟨w1.heap.size, 2, none⟩ = some (.slice W nW cW) := S7.boxI 1 2 rfl rfl
  have z1 : w1.heap.size < w3.heap.size := cell_lt x1_0
  go_wp2_with fail
  obtain ⟨bsm, hdm, ndm, inm⟩ := S7.ownI 0 rfl
  refine (markGridResult_any _ _ _ 1 _ (lgL a0) _ bsm _ hdm ndm (fun b hb => (inm b hb).2.2) (lgL_small a0) (by omega)).mono ?_
  rintro e w4 ⟨rfl, hdm2, hchm⟩
  have sz4 := hchm.size
  have S8 : Scene w w4 [] [⟨rowsD (mkRs (lgL a0) 1), .slice G nW cG, w1.heap.size + 1, w2.heap.size⟩, ⟨rowsD (lgL a0), .slice W nW cW, w.heap.size, w1.heap.size⟩] [(w2.heap.size, [.int .i64 (lgC a0), .int .i64 (lgS a0), .slice G nW cG]), (w1.heap.size, [.int .i64 (lgC a0), .int .i64 (lgS a0), .slice W nW cW])] := Scene.turn (lo := w1.heap.size + 1) (hi := w2.heap.size) (os' := [⟨rowsD (lgL a0), .slice W nW cW, w.heap.size, w1.heap.size⟩]) S7 hchm (fun k hk => ⟨(inm k hk).1, (inm k hk).2.1⟩) (by have := S7.bel.size; omega) (S7.own _ (List.mem_of_getElem? (i := 0) rfl)).2.2
    ⟨bsm, hdm2, ndm, fun b hb => ⟨(inm b hb).1, (inm b hb).2.1, (inm b hb).2.2.ch hchm (hdm.lt b hb)⟩⟩ (by simp; try omega) (by simp; try omega)
  clear hdm ndm inm hdm2 hchm S7
  clear x0_0 x0_1 x0_2 z0 x1_0 x1_1 x1_2 z1
  have x0_0 : w4.cell? ⟨w2.heap.size, 0, none⟩ = some (.int .i64 (lgC a0)) := S8.boxI 0 0 rfl rfl
  have x0_1 : w4.cell? ⟨w2.heap.size, 1, none⟩ = some (.int .i64 (lgS a0)) := S8.boxI 0 1 rfl rfl
  have x0_2 : w4.cell? ⟨w2.heap.size, 2, none⟩ = some (.slice G nW cG) := S8.boxI 0 2 rfl rfl
  have z0 : w2.heap.size < w4.heap.size := cell_lt x0_0
  have x1_0 : w4.cell? ⟨w1.heap.size, 0, none⟩ = some (.int .i64 (lgC a0)) := S8.boxI 1 0 rfl rfl
  have x1_1 : w4.cell? ⟨w1.heap.size, 1, none⟩ = some (.int .i64 (lgS a0)) := S8.boxI 1 1 rfl rfl
  have x1_2 : w4.cell? ⟨w1.heap.size, 2, none⟩ = some (.slice W nW cW) := S8.boxI 1 2 rfl rfl
  have z1 : w1.heap.size < w4.heap.size := cell_lt x1_0
  go_wp2_with fail
  obtain ⟨bsh, hdh⟩ := (S8.ownI 0 rfl).hd
  refine (heldGridResult_any _ _ _ 1 _ (lgL a0) _ _ _ hdh (lgL_small a0) (by omega)).mono ?_
  rintro e w5 ⟨rfl, hb⟩
  have i5 := Below.size hb
  try simp only [World.size_alloc] at i5
  have S9 : Scene w w5 [] [⟨rowsD (mkRs (lgL a0) 1), .slice G nW cG, w1.heap.size + 1, w2.heap.size⟩, ⟨rowsD (lgL a0), .slice W nW cW, w.heap.size, w1.heap.size⟩] [(w2.heap.size, [.int .i64 (lgC a0), .int .i64 (lgS a0), .slice G nW cG]), (w1.heap.size, [.int .i64 (lgC a0), .int .i64 (lgS a0), .slice W nW cW])] := Scene.below S8 hb
  clear hb hdh
  have hneg : ¬ ((kR (lgL a0) 1 (lgL a0).length : Nat) : Int) < 0 := by omega
  clear x0_0 x0_1 x0_2 z0 x1_0 x1_1 x1_2 z1
  have x0_0 : w5.cell? ⟨w2.heap.size, 0, none⟩ = some (.int .i64 (lgC a0)) := S9.boxI 0 0 rfl rfl
  have x0_1 : w5.cell? ⟨w2.heap.size, 1, none⟩ = some (.int .i64 (lgS a0)) := S9.boxI 0 1 rfl rfl
  have x0_2 : w5.cell? ⟨w2.heap.size, 2, none⟩ = some (.slice G nW cG) := S9.boxI 0 2 rfl rfl
  have z0 : w2.heap.size < w5.heap.size := cell_lt x0_0
  have x1_0 : w5.cell? ⟨w1.heap.size, 0, none⟩ = some (.int .i64 (lgC a0)) := S9.boxI 1 0 rfl rfl
  have x1_1 : w5.cell? ⟨w1.heap.size, 1, none⟩ = some (.int .i64 (lgS a0)) := S9.boxI 1 1 rfl rfl
  have x1_2 : w5.cell? ⟨w1.heap.size, 2, none⟩ = some (.slice W nW cW) := S9.boxI 1 2 rfl rfl
  have z1 : w1.heap.size < w5.heap.size := cell_lt x1_0
  go_wp2_with fail
  refine (LineGrid_any a0 _).mono ?_
  rintro e w6 ⟨H, nH, cH, rfl, ho, hb⟩
  have i6 := Below.size hb
  try simp only [World.size_alloc] at i6
  have S10 : Scene w w6 [] [⟨rowsD (mkRs (lgL a0) 1), .slice G nW cG, w1.heap.size + 1, w2.heap.size⟩, ⟨rowsD (lgL a0), .slice W nW cW, w.heap.size, w1.heap.size⟩] [(w2.heap.size, [.int .i64 (lgC a0), .int .i64 (lgS a0), .slice G nW cG]), (w1.heap.size, [.int .i64 (lgC a0), .int .i64 (lgS a0), .slice W nW cW])] := Scene.below S9 hb
  obtain ⟨bsn, hdn⟩ := ho.hd
  have hlH := hdn.rows.1
  obtain ⟨bsw, hdw⟩ := (S10.ownI 1 rfl).hd
  have hlW := hdw.rows.1
  obtain rfl : nW = nH := by omega
  have S11 : Scene w w6 [] [⟨rowsD (lgL a0), .slice H nW cH, w5.heap.size, w6.heap.size⟩, ⟨rowsD (mkRs (lgL a0) 1), .slice G nW cG, w1.heap.size + 1, w2.heap.size⟩, ⟨rowsD (lgL a0), .slice W nW cW, w.heap.size, w1.heap.size⟩] [(w2.heap.size, [.int .i64 (lgC a0), .int .i64 (lgS a0), .slice G nW cG]), (w1.heap.size, [.int .i64 (lgC a0), .int .i64 (lgS a0), .slice W nW cW])] := Scene.addOwn S10 ho (by have := S10.bel.size; omega) (Nat.le_refl _)
  clear ho hb hdn hdw hlW hlH S10
  clear x0_0 x0_1 x0_2 z0 x1_0 x1_1 x1_2 z1
  have x0_0 : w6.cell? ⟨w2.heap.size, 0, none⟩ = some (.int .i64 (lgC a0)) := S11.boxI 0 0 rfl rfl
  have x0_1 : w6.cell? ⟨w2.heap.size, 1, none⟩ = some (.int .i64 (lgS a0)) := S11.boxI 0 1 rfl rfl
  have x0_2 : w6.cell? ⟨w2.heap.size, 2, none⟩ = some (.slice G nW cG) := S11.boxI 0 2 rfl rfl
  have z0 : w2.heap.size < w6.heap.size := cell_lt x0_0
  have x1_0 : w6.cell? ⟨w1.heap.size, 0, none⟩ = some (.int .i64 (lgC a0)) := S11.boxI 1 0 rfl rfl
  have x1_1 : w6.cell? ⟨w1.heap.size, 1, none⟩ = some (.int .i64 (lgS a0)) := S11.boxI 1 1 rfl rfl
  have x1_2 : w6.cell? ⟨w1.heap.size, 2, none⟩ = some (.slice W nW cW) := S11.boxI 1 2 rfl rfl
  have z1 : w1.heap.size < w6.heap.size := cell_lt x1_0
  have S12 : Scene w (w6.alloc (.cells #[.int .i64 (lgC a0), .int .i64 (lgS a0), .slice H nW cH] 77)) [] [⟨rowsD (lgL a0), .slice H nW cH, w5.heap.size, w6.heap.size⟩, ⟨rowsD (mkRs (lgL a0) 1), .slice G nW cG, w1.heap.size + 1, w2.heap.size⟩, ⟨rowsD (lgL a0), .slice W nW cW, w.heap.size, w1.heap.size⟩] [(w6.heap.size, [.int .i64 (lgC a0), .int .i64 (lgS a0), .slice H nW cH]), (w2.heap.size, [.int .i64 (lgC a0), .int .i64 (lgS a0), .slice G nW cG]), (w1.heap.size, [.int .i64 (lgC a0), .int .i64 (lgS a0), .slice W nW cW])] := Scene.addBox S11 [.int .i64 (lgC a0), .int .i64 (lgS a0), .slice H nW cH] 77
  clear S11
  go_wp2_with fail
  obtain ⟨bsx, hdx⟩ := (S12.ownI 0 rfl).hd
  obtain ⟨bsy, hdy⟩ := (S12.ownI 2 rfl).hd
  refine (eqGridResult_same _ _ _ _ _ _ _ (lgL a0) _ _ _ _ hdx hdy (lgL_small a0)).mono ?_
  rintro e w7 ⟨rfl, hb⟩
  have i7 := Below.size hb
  try simp only [World.size_alloc] at i7
  have S13 : Scene w w7 [] [⟨rowsD (lgL a0), .slice H nW cH, w5.heap.size, w6.heap.size⟩, ⟨rowsD (mkRs (lgL a0) 1), .slice G nW cG, w1.heap.size + 1, w2.heap.size⟩, ⟨rowsD (lgL a0), .slice W nW cW, w.heap.size, w1.heap.size⟩] [(w6.heap.size, [.int .i64 (lgC a0), .int .i64 (lgS a0), .slice H nW cH]), (w2.heap.size, [.int .i64 (lgC a0), .int .i64 (lgS a0), .slice G nW cG]), (w1.heap.size, [.int .i64 (lgC a0), .int .i64 (lgS a0), .slice W nW cW])] := Scene.below S12 hb
  clear hb hdx hdy
  clear x0_0 x0_1 x0_2 z0 x1_0 x1_1 x1_2 z1
  have x0_0 : w7.cell? ⟨w6.heap.size, 0, none⟩ = some (.int .i64 (lgC a0)) := S13.boxI 0 0 rfl rfl
  have x0_1 : w7.cell? ⟨w6.heap.size, 1, none⟩ = some (.int .i64 (lgS a0)) := S13.boxI 0 1 rfl rfl
  have x0_2 : w7.cell? ⟨w6.heap.size, 2, none⟩ = some (.slice H nW cH) := S13.boxI 0 2 rfl rfl
  have z0 : w6.heap.size < w7.heap.size := cell_lt x0_0
  have x1_0 : w7.cell? ⟨w2.heap.size, 0, none⟩ = some (.int .i64 (lgC a0)) := S13.boxI 1 0 rfl rfl
  have x1_1 : w7.cell? ⟨w2.heap.size, 1, none⟩ = some (.int .i64 (lgS a0)) := S13.boxI 1 1 rfl rfl
  have x1_2 : w7.cell? ⟨w2.heap.size, 2, none⟩ = some (.slice G nW cG) := S13.boxI 1 2 rfl rfl
  have z1 : w2.heap.size < w7.heap.size := cell_lt x1_0
  have x2_0 : w7.cell? ⟨w1.heap.size, 0, none⟩ = some (.int .i64 (lgC a0)) := S13.boxI 2 0 rfl rfl
  have x2_1 : w7.cell? ⟨w1.heap.size, 1, none⟩ = some (.int .i64 (lgS a0)) := S13.boxI 2 1 rfl rfl
  have x2_2 : w7.cell? ⟨w1.heap.size, 2, none⟩ = some (.slice W nW cW) := S13.boxI 2 2 rfl rfl
  have z2 : w1.heap.size < w7.heap.size := cell_lt x2_0
  go_wp2_with fail
  obtain ⟨bsh, hdh⟩ := (S13.ownI 1 rfl).hd
  refine (heldGridResult_any _ _ _ 1 _ (lgL a0) _ _ _ hdh (lgL_small a0) (by omega)).mono ?_
  rintro e w8 ⟨rfl, hb⟩
  have i8 := Below.size hb
  try simp only [World.size_alloc] at i8
  have S14 : Scene w w8 [] [⟨rowsD (lgL a0), .slice H nW cH, w5.heap.size, w6.heap.size⟩, ⟨rowsD (mkRs (lgL a0) 1), .slice G nW cG, w1.heap.size + 1, w2.heap.size⟩, ⟨rowsD (lgL a0), .slice W nW cW, w.heap.size, w1.heap.size⟩] [(w6.heap.size, [.int .i64 (lgC a0), .int .i64 (lgS a0), .slice H nW cH]), (w2.heap.size, [.int .i64 (lgC a0), .int .i64 (lgS a0), .slice G nW cG]), (w1.heap.size, [.int .i64 (lgC a0), .int .i64 (lgS a0), .slice W nW cW])] := Scene.below S13 hb
  clear hb hdh
  have HB := Lib.hid S14.bel
  clear S14
  clear x0_0 x0_1 x0_2 z0 x1_0 x1_1 x1_2 z1 x2_0 x2_1 x2_2 z2
  go_wp2_with fail
  go_ret
  exact ⟨rfl, HB.out⟩

set_option maxRecDepth 100000 in
theorem lifted (os : Os) (started : os.Started) (H : Type) (enc : TypeId × Value → H) :
    ReturnsInHanded {} Try.checked os 8 .any (Rows.fnExactLineGridSpec.pre6 enc Try.prog Try.f8 Rows.fnExactLineGridRow.domain false) (Rows.fnExactLineGridSpec.post enc Try.prog Try.f8 false true false false) := by
  refine returnsInHanded_of_change (C := Try.checked) own started (by kernel_rfl) Try.func8
    (ChangeSpec.witness6 (enc := enc) (C := Try.checked) false ⟨#[], #[.int .i64 0], []⟩ 8 (by kernel_rfl) (by kernel_rfl) (by kernel_rfl) (by kernel_rfl)) ?_
  intro W base args ds gs before hval0 hW hcnd _
  have hval : ∀ (j : Nat) t v, Try.f8.params[j]? = some t → args[j]? = some v → Value.okWide Try.prog W .any base t v := hval0
  have hW' := hW
  obtain ⟨p, q, hA0, hV0, rfl, hfz, hnd⟩ := hW
  have hA : DataW.TrodAll enc Try.prog W 0 (fun _ => true) true Try.f8.params.toList args.toList ds p := hA0
  have hV : DataW.TrodVars enc Try.prog W (fun _ => true) [] gs q := hV0
  rw [Try.params8] at hA hval
  obtain ⟨v0, vs0, d0, ds0, p0, q0, hargs, rfl, rfl, h0, r0⟩ := trodAll_cons hA
  obtain ⟨rfl, rfl, rfl⟩ := trodAll_nil r0
  obtain rfl : args = #[v0] := by cases args; simp_all
  obtain ⟨rfl, rfl⟩ : gs = [] ∧ q = [] := by
    cases gs with
    | nil => exact ⟨rfl, hV⟩
    | cons g r => exact absurd hV (by intro h; cases h)
  have k0 := h0
  have lt0 : ∀ x ∈ p0, x.block < W.heap.size := by obtain ⟨m, hm⟩ := k0; exact DataW.trod_lt m _ _ _ hm
  obtain ⟨a0, rfl, e0, f0, w0⟩ := open_int Try.underlying2 (hval 0 2 v0 rfl rfl) h0
  clear hA0 hval0
  refine (walk a0 W w0).mono fun e W' ⟨he, bel⟩ => ?_
  subst he
  exact ⟨_, rfl, _, _, _, [], _, [], hW', trodAll_mk1 (shut_bool Try.underlying4 _), (trodAll_cons_mk (Below.trod laidOut (by kernel_rfl) (of_decide_eq_true (by kernel_rfl)) k0 bel lt0) trodAll_mk0), rfl, bel.frame _, fun h => by cases h⟩

theorem row_holds : Rows.FnExactLineGridSaid :=
  OpenClaim.holds_of_wide 8 Try.f8 rfl rfl rfl rfl rfl rfl rfl ⟨rfl, rfl, rfl, rfl, rfl⟩ rfl rfl rfl rfl rfl (by kernel_rfl) Try.func8 (by kernel_rfl)
    (of_decide_eq_true (by kernel_rfl)) (by unfold Func.isWrapper; rw [if_neg (of_decide_eq_false (by kernel_rfl))]; exact ⟨rfl, rfl⟩)
    (fun os started H enc _ => lifted os started H enc)

theorem proved : Rows.FnExactLineGridSaid := row_holds
#print axioms proved

end Go.Proofs.Ytmcdbingcclpcaa.lExactLineGrid
