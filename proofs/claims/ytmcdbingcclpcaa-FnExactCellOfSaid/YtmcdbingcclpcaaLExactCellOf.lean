/-
  Proved: at every side and every list of numbers the Go function CellOf answers as its reference model does, in new memory, and changes nothing of it (the law FnExactCellOf returns true), and the argument afterwards as it before. Conditions: none.
-/
import Derived.Test.YtmcdbingcclpcaaFront
import Derived.Test.YtmcdbingcclpcaaOpenM
import Derived.Test.YtmcdbingcclpcaaHelpCell
import Derived.Test.YtmcdbingcclpcaaCelH
import Derived.Test.YtmcdbingcclpcaaSceneT
import Derived.Test.YtmcdbingcclpcaaScene
import Derived.Deep.RegionHeld3
namespace Go.Proofs.Ytmcdbingcclpcaa.lExactCellOf
open Go.ChangeShapes Go.WideShapes Go.ChangeAt Go.RowKit
set_option linter.unusedVariables false
set_option linter.unusedSimpArgs false

set_option maxRecDepth 100000 in
set_option maxHeartbeats 4000000 in
theorem walk (a0 : Int) (A1 : Option Addr) (n1 c1 : Nat) (xs1 : List Int) (bs1 : List Nat) (w : World) (h0 : (Lit.int .i64 a0).wf = true) (h1 : Hd w (.ints .i64 xs1) (.slice A1 n1 c1) bs1) (u1 : I64s xs1) :
    Calls Try.prog 7 #[.int .i64 a0, .slice A1 n1 c1] w fun e w' => e = .returned (.bool true) ∧ Below w.heap.size w w' := by
  have b0 := bounds_i64 h0
  clear h0
  have hm1 := h1.caps.2
  have hnc1 := h1.caps.1
  have HU1 := Lib.hid u1
  have S0 : Scene w w [(.ints .i64 xs1, .slice A1 n1 c1)] [] [] := Scene.start w _ (by intro p hp; simp only [List.mem_cons, List.not_mem_nil, or_false] at hp; rcases hp with rfl <;> first | exact ⟨_, h1⟩)
  clear h1 u1
  unfold maxLen at hm1
  by_cases hbig1 : 1048576 < n1
  · go_enter Try.func7, Try.ntmps7
    go_wp2_with fail
    go_ret
    exact ⟨rfl, Below.refl _ _⟩
  have hxl2 := ceR_len a0 xs1
  have hxl := ceL_len a0 xs1
  have HM : Hid ((1000000000000 : Nat) ≤ maxLen) := by show _ ≤ _; unfold maxLen; omega
  go_enter Try.func7, Try.ntmps7
  go_wp2_with fail
  obtain ⟨bsa1, hda1⟩ := S0.argI 0 rfl
  refine (toInt64S_any A1 n1 c1 xs1 _ hda1.rd (by omega)).mono ?_
  rintro e w1 ⟨B1, rfl, ho, hb⟩
  have i1 := Below.size hb
  try simp only [World.size_alloc] at i1
  have S1 : Scene w w1 [(.ints .i64 xs1, .slice A1 n1 c1)] [] [] := Scene.below S0 hb
  obtain ⟨ds1, dd1⟩ := ho.hd
  have D1 := Lib.hid dd1
  clear ho hb dd1 hda1
  go_wp2_with fail
  refine (sCellOf_any B1 n1 n1 a0 xs1 _ _ D1.out).mono ?_
  rintro e w2 ⟨W, nW, cW, W2, nW2, cW2, laW, haW, lbW, hbW, rfl, ho, ho2, q1W, q2W, q3W, q4W, qdW, hb⟩
  have i2 := Below.size hb
  try simp only [World.size_alloc] at i2
  have S2 : Scene w w2 [(.ints .i64 xs1, .slice A1 n1 c1)] [] [] := Scene.below S1 hb
  clear D1
  try simp only [World.size_alloc] at q1W q3W
  obtain ⟨bsn, hdn⟩ := ho.hd
  have hlW := hdn.rd.1
  obtain ⟨bsn2, hdn2⟩ := ho2.hd
  have hlW2 := hdn2.rd.1
  clear hdn hdn2
  have hnW : nW ≤ 3 := by omega
  have hnW2 : nW2 ≤ 3 := by omega
  have S3 : Scene w w2 [(.ints .i64 xs1, .slice A1 n1 c1)] [⟨.ints .i64 (ceR a0 xs1), .slice W2 nW2 cW2, lbW, hbW⟩] [] := Scene.addOwn S2 ho2 (by have := S2.bel.size; omega) (by omega)
  clear S2
  have S4 : Scene w w2 [(.ints .i64 xs1, .slice A1 n1 c1)] [⟨.ints .i64 (ceL a0 xs1), .slice W nW cW, laW, haW⟩, ⟨.ints .i64 (ceR a0 xs1), .slice W2 nW2 cW2, lbW, hbW⟩] [] := Scene.addOwn S3 ho (by have := S3.bel.size; omega) (by omega)
  clear S3
  clear ho ho2 hb hlW hlW2
  have S5 : Scene w (w2.alloc (.cells #[.int .i64 (ceC a0 xs1), .slice W nW cW, .slice W2 nW2 cW2] 71)) [(.ints .i64 xs1, .slice A1 n1 c1)] [⟨.ints .i64 (ceL a0 xs1), .slice W nW cW, laW, haW⟩, ⟨.ints .i64 (ceR a0 xs1), .slice W2 nW2 cW2, lbW, hbW⟩] [(w2.heap.size, [.int .i64 (ceC a0 xs1), .slice W nW cW, .slice W2 nW2 cW2])] := Scene.addBox S4 [.int .i64 (ceC a0 xs1), .slice W nW cW, .slice W2 nW2 cW2] 71
  clear S4
  go_wp2_with fail
  obtain ⟨bsa1, hda1⟩ := S5.argI 0 rfl
  refine (toInt64S_any A1 n1 c1 xs1 _ hda1.rd (by omega)).mono ?_
  rintro e w3 ⟨X1, rfl, ho, hb⟩
  have i3 := Below.size hb
  try simp only [World.size_alloc] at i3
  have S6 : Scene w w3 [(.ints .i64 xs1, .slice A1 n1 c1)] [⟨.ints .i64 (ceL a0 xs1), .slice W nW cW, laW, haW⟩, ⟨.ints .i64 (ceR a0 xs1), .slice W2 nW2 cW2, lbW, hbW⟩] [(w2.heap.size, [.int .i64 (ceC a0 xs1), .slice W nW cW, .slice W2 nW2 cW2])] := Scene.below S5 hb
  have S7 : Scene w w3 [(.ints .i64 xs1, .slice A1 n1 c1)] [⟨.ints .i64 xs1, .slice X1 n1 n1, w2.heap.size + 1, w3.heap.size⟩, ⟨.ints .i64 (ceL a0 xs1), .slice W nW cW, laW, haW⟩, ⟨.ints .i64 (ceR a0 xs1), .slice W2 nW2 cW2, lbW, hbW⟩] [(w2.heap.size, [.int .i64 (ceC a0 xs1), .slice W nW cW, .slice W2 nW2 cW2])] := Scene.addOwn S6 (ho.mono (by simp) (Nat.le_refl _)) (by have := S6.bel.size; omega) (Nat.le_refl _)
  clear ho hb hda1 S6
  have x0_0 : w3.cell? ⟨w2.heap.size, 0, none⟩ = some (.int .i64 (ceC a0 xs1)) := S7.boxI 0 0 rfl rfl
  have x0_1 : w3.cell? ⟨w2.heap.size, 1, none⟩ = some (.slice W nW cW) := S7.boxI 0 1 rfl rfl
  have x0_2 : w3.cell? ⟨w2.heap.size, 2, none⟩ = some (.slice W2 nW2 cW2) := S7.boxI 0 2 rfl rfl
  have z0 : w2.heap.size < w3.heap.size := cell_lt x0_0
  go_wp2_with fail
  obtain ⟨dx1, hx1⟩ := (S7.ownI 0 rfl).hd
  refine (CellOf_any X1 n1 n1 a0 xs1 _ _ hx1).mono ?_
  rintro e w4 ⟨G, nG, cG, G2, nG2, cG2, laG, haG, lbG, hbG, rfl, ho, ho2, q1G, q2G, q3G, q4G, qdG, hb⟩
  have i4 := Below.size hb
  try simp only [World.size_alloc] at i4
  have S8 : Scene w w4 [(.ints .i64 xs1, .slice A1 n1 c1)] [⟨.ints .i64 xs1, .slice X1 n1 n1, w2.heap.size + 1, w3.heap.size⟩, ⟨.ints .i64 (ceL a0 xs1), .slice W nW cW, laW, haW⟩, ⟨.ints .i64 (ceR a0 xs1), .slice W2 nW2 cW2, lbW, hbW⟩] [(w2.heap.size, [.int .i64 (ceC a0 xs1), .slice W nW cW, .slice W2 nW2 cW2])] := Scene.below S7 hb
  clear hx1
  try simp only [World.size_alloc] at q1G q3G
  obtain ⟨bsn, hdn⟩ := ho.hd
  have hlG := hdn.rd.1
  obtain ⟨bsn2, hdn2⟩ := ho2.hd
  have hlG2 := hdn2.rd.1
  clear hdn hdn2
  obtain ⟨bsw, hdw⟩ := (S8.ownI 1 rfl).hd
  have hlW := hdw.rd.1
  obtain ⟨bsw2, hdw2⟩ := (S8.ownI 2 rfl).hd
  have hlW2 := hdw2.rd.1
  obtain rfl : nW = nG := by omega
  obtain rfl : nW2 = nG2 := by omega
  clear hdw hdw2 hlW hlW2
  have S9 : Scene w w4 [(.ints .i64 xs1, .slice A1 n1 c1)] [⟨.ints .i64 (ceR a0 xs1), .slice G2 nW2 cG2, lbG, hbG⟩, ⟨.ints .i64 xs1, .slice X1 n1 n1, w2.heap.size + 1, w3.heap.size⟩, ⟨.ints .i64 (ceL a0 xs1), .slice W nW cW, laW, haW⟩, ⟨.ints .i64 (ceR a0 xs1), .slice W2 nW2 cW2, lbW, hbW⟩] [(w2.heap.size, [.int .i64 (ceC a0 xs1), .slice W nW cW, .slice W2 nW2 cW2])] := Scene.addOwn S8 ho2 (by have := S8.bel.size; omega) (by omega)
  clear S8
  have S10 : Scene w w4 [(.ints .i64 xs1, .slice A1 n1 c1)] [⟨.ints .i64 (ceL a0 xs1), .slice G nW cG, laG, haG⟩, ⟨.ints .i64 (ceR a0 xs1), .slice G2 nW2 cG2, lbG, hbG⟩, ⟨.ints .i64 xs1, .slice X1 n1 n1, w2.heap.size + 1, w3.heap.size⟩, ⟨.ints .i64 (ceL a0 xs1), .slice W nW cW, laW, haW⟩, ⟨.ints .i64 (ceR a0 xs1), .slice W2 nW2 cW2, lbW, hbW⟩] [(w2.heap.size, [.int .i64 (ceC a0 xs1), .slice W nW cW, .slice W2 nW2 cW2])] := Scene.addOwn S9 ho (by have := S9.bel.size; omega) (by omega)
  clear S9
  clear ho ho2 hb hlG hlG2
  clear x0_0 x0_1 x0_2 z0
  have x0_0 : w4.cell? ⟨w2.heap.size, 0, none⟩ = some (.int .i64 (ceC a0 xs1)) := S10.boxI 0 0 rfl rfl
  have x0_1 : w4.cell? ⟨w2.heap.size, 1, none⟩ = some (.slice W nW cW) := S10.boxI 0 1 rfl rfl
  have x0_2 : w4.cell? ⟨w2.heap.size, 2, none⟩ = some (.slice W2 nW2 cW2) := S10.boxI 0 2 rfl rfl
  have z0 : w2.heap.size < w4.heap.size := cell_lt x0_0
  have S11 : Scene w (w4.alloc (.cells #[.int .i64 (ceC a0 xs1), .slice G nW cG, .slice G2 nW2 cG2] 71)) [(.ints .i64 xs1, .slice A1 n1 c1)] [⟨.ints .i64 (ceL a0 xs1), .slice G nW cG, laG, haG⟩, ⟨.ints .i64 (ceR a0 xs1), .slice G2 nW2 cG2, lbG, hbG⟩, ⟨.ints .i64 xs1, .slice X1 n1 n1, w2.heap.size + 1, w3.heap.size⟩, ⟨.ints .i64 (ceL a0 xs1), .slice W nW cW, laW, haW⟩, ⟨.ints .i64 (ceR a0 xs1), .slice W2 nW2 cW2, lbW, hbW⟩] [(w4.heap.size, [.int .i64 (ceC a0 xs1), .slice G nW cG, .slice G2 nW2 cG2]), (w2.heap.size, [.int .i64 (ceC a0 xs1), .slice W nW cW, .slice W2 nW2 cW2])] := Scene.addBox S10 [.int .i64 (ceC a0 xs1), .slice G nW cG, .slice G2 nW2 cG2] 71
  clear S10
  go_wp2_with fail
  obtain ⟨bsx, hdx⟩ := (S11.ownI 0 rfl).hd
  obtain ⟨bsy, hdy⟩ := (S11.ownI 3 rfl).hd
  obtain ⟨bsx2, hdx2⟩ := (S11.ownI 1 rfl).hd
  obtain ⟨bsy2, hdy2⟩ := (S11.ownI 4 rfl).hd
  refine (eqCellResult_same _ _ _ _ _ _ _ _ _ _ _ _ _ (ceL a0 xs1) (ceR a0 xs1) _ hdx.rd hdy.rd hdx2.rd hdy2.rd (by omega) (by omega)).mono ?_
  rintro e w5 ⟨rfl, hb⟩
  have i5 := Below.size hb
  try simp only [World.size_alloc] at i5
  have S12 : Scene w w5 [(.ints .i64 xs1, .slice A1 n1 c1)] [⟨.ints .i64 (ceL a0 xs1), .slice G nW cG, laG, haG⟩, ⟨.ints .i64 (ceR a0 xs1), .slice G2 nW2 cG2, lbG, hbG⟩, ⟨.ints .i64 xs1, .slice X1 n1 n1, w2.heap.size + 1, w3.heap.size⟩, ⟨.ints .i64 (ceL a0 xs1), .slice W nW cW, laW, haW⟩, ⟨.ints .i64 (ceR a0 xs1), .slice W2 nW2 cW2, lbW, hbW⟩] [(w4.heap.size, [.int .i64 (ceC a0 xs1), .slice G nW cG, .slice G2 nW2 cG2]), (w2.heap.size, [.int .i64 (ceC a0 xs1), .slice W nW cW, .slice W2 nW2 cW2])] := Scene.below S11 hb
  clear hb hdx hdy hdx2 hdy2
  clear x0_0 x0_1 x0_2 z0
  have x0_0 : w5.cell? ⟨w4.heap.size, 0, none⟩ = some (.int .i64 (ceC a0 xs1)) := S12.boxI 0 0 rfl rfl
  have x0_1 : w5.cell? ⟨w4.heap.size, 1, none⟩ = some (.slice G nW cG) := S12.boxI 0 1 rfl rfl
  have x0_2 : w5.cell? ⟨w4.heap.size, 2, none⟩ = some (.slice G2 nW2 cG2) := S12.boxI 0 2 rfl rfl
  have z0 : w4.heap.size < w5.heap.size := cell_lt x0_0
  have x1_0 : w5.cell? ⟨w2.heap.size, 0, none⟩ = some (.int .i64 (ceC a0 xs1)) := S12.boxI 1 0 rfl rfl
  have x1_1 : w5.cell? ⟨w2.heap.size, 1, none⟩ = some (.slice W nW cW) := S12.boxI 1 1 rfl rfl
  have x1_2 : w5.cell? ⟨w2.heap.size, 2, none⟩ = some (.slice W2 nW2 cW2) := S12.boxI 1 2 rfl rfl
  have z1 : w2.heap.size < w5.heap.size := cell_lt x1_0
  go_wp2_with fail
  obtain ⟨bsa1, hda1⟩ := S12.argI 0 rfl
  refine (toInt64S_any A1 n1 c1 xs1 _ hda1.rd (by omega)).mono ?_
  rintro e w6 ⟨Y1, rfl, ho, hb⟩
  have i6 := Below.size hb
  try simp only [World.size_alloc] at i6
  have S13 : Scene w w6 [(.ints .i64 xs1, .slice A1 n1 c1)] [⟨.ints .i64 (ceL a0 xs1), .slice G nW cG, laG, haG⟩, ⟨.ints .i64 (ceR a0 xs1), .slice G2 nW2 cG2, lbG, hbG⟩, ⟨.ints .i64 xs1, .slice X1 n1 n1, w2.heap.size + 1, w3.heap.size⟩, ⟨.ints .i64 (ceL a0 xs1), .slice W nW cW, laW, haW⟩, ⟨.ints .i64 (ceR a0 xs1), .slice W2 nW2 cW2, lbW, hbW⟩] [(w4.heap.size, [.int .i64 (ceC a0 xs1), .slice G nW cG, .slice G2 nW2 cG2]), (w2.heap.size, [.int .i64 (ceC a0 xs1), .slice W nW cW, .slice W2 nW2 cW2])] := Scene.below S12 hb
  obtain ⟨dsy, ddy⟩ := ho.hd
  have DY := Lib.hid ddy
  clear ho hb ddy hda1
  clear x0_0 x0_1 x0_2 z0 x1_0 x1_1 x1_2 z1
  have x0_0 : w6.cell? ⟨w4.heap.size, 0, none⟩ = some (.int .i64 (ceC a0 xs1)) := S13.boxI 0 0 rfl rfl
  have x0_1 : w6.cell? ⟨w4.heap.size, 1, none⟩ = some (.slice G nW cG) := S13.boxI 0 1 rfl rfl
  have x0_2 : w6.cell? ⟨w4.heap.size, 2, none⟩ = some (.slice G2 nW2 cG2) := S13.boxI 0 2 rfl rfl
  have z0 : w4.heap.size < w6.heap.size := cell_lt x0_0
  have x1_0 : w6.cell? ⟨w2.heap.size, 0, none⟩ = some (.int .i64 (ceC a0 xs1)) := S13.boxI 1 0 rfl rfl
  have x1_1 : w6.cell? ⟨w2.heap.size, 1, none⟩ = some (.slice W nW cW) := S13.boxI 1 1 rfl rfl
  have x1_2 : w6.cell? ⟨w2.heap.size, 2, none⟩ = some (.slice W2 nW2 cW2) := S13.boxI 1 2 rfl rfl
  have z1 : w2.heap.size < w6.heap.size := cell_lt x1_0
  go_wp2_with fail
  obtain ⟨bst, hdt⟩ := (S13.ownI 2 rfl).hd
  refine (eqInt64S_bel _ _ _ _ _ _ xs1 _ hdt.rd DY.out.rd (by omega)).mono ?_
  rintro e w7 ⟨rfl, hb⟩
  have i7 := Below.size hb
  try simp only [World.size_alloc] at i7
  have S14 : Scene w w7 [(.ints .i64 xs1, .slice A1 n1 c1)] [⟨.ints .i64 (ceL a0 xs1), .slice G nW cG, laG, haG⟩, ⟨.ints .i64 (ceR a0 xs1), .slice G2 nW2 cG2, lbG, hbG⟩, ⟨.ints .i64 xs1, .slice X1 n1 n1, w2.heap.size + 1, w3.heap.size⟩, ⟨.ints .i64 (ceL a0 xs1), .slice W nW cW, laW, haW⟩, ⟨.ints .i64 (ceR a0 xs1), .slice W2 nW2 cW2, lbW, hbW⟩] [(w4.heap.size, [.int .i64 (ceC a0 xs1), .slice G nW cG, .slice G2 nW2 cG2]), (w2.heap.size, [.int .i64 (ceC a0 xs1), .slice W nW cW, .slice W2 nW2 cW2])] := Scene.below S13 hb
  clear hb
  clear hdt DY
  clear x0_0 x0_1 x0_2 z0 x1_0 x1_1 x1_2 z1
  have x0_0 : w7.cell? ⟨w4.heap.size, 0, none⟩ = some (.int .i64 (ceC a0 xs1)) := S14.boxI 0 0 rfl rfl
  have x0_1 : w7.cell? ⟨w4.heap.size, 1, none⟩ = some (.slice G nW cG) := S14.boxI 0 1 rfl rfl
  have x0_2 : w7.cell? ⟨w4.heap.size, 2, none⟩ = some (.slice G2 nW2 cG2) := S14.boxI 0 2 rfl rfl
  have z0 : w4.heap.size < w7.heap.size := cell_lt x0_0
  have x1_0 : w7.cell? ⟨w2.heap.size, 0, none⟩ = some (.int .i64 (ceC a0 xs1)) := S14.boxI 1 0 rfl rfl
  have x1_1 : w7.cell? ⟨w2.heap.size, 1, none⟩ = some (.slice W nW cW) := S14.boxI 1 1 rfl rfl
  have x1_2 : w7.cell? ⟨w2.heap.size, 2, none⟩ = some (.slice W2 nW2 cW2) := S14.boxI 1 2 rfl rfl
  have z1 : w2.heap.size < w7.heap.size := cell_lt x1_0
  go_wp2_with fail
  obtain ⟨bsm, hdm, ndm, inm⟩ := S14.ownI 2 rfl
  refine (markInt64S_any _ _ _ 1 _ bsm _ hdm (by omega) (by omega) (by omega) (fun b hb => (inm b hb).2.2)).mono ?_
  rintro e w8 ⟨rfl, hdm2, hchm⟩
  have sz8 := hchm.size
  have S15 : Scene w w8 [(.ints .i64 xs1, .slice A1 n1 c1)] [⟨.ints .i64 (imarks 1 n1), .slice X1 n1 n1, w2.heap.size + 1, w3.heap.size⟩, ⟨.ints .i64 (ceL a0 xs1), .slice G nW cG, laG, haG⟩, ⟨.ints .i64 (ceR a0 xs1), .slice G2 nW2 cG2, lbG, hbG⟩, ⟨.ints .i64 (ceL a0 xs1), .slice W nW cW, laW, haW⟩, ⟨.ints .i64 (ceR a0 xs1), .slice W2 nW2 cW2, lbW, hbW⟩] [(w4.heap.size, [.int .i64 (ceC a0 xs1), .slice G nW cG, .slice G2 nW2 cG2]), (w2.heap.size, [.int .i64 (ceC a0 xs1), .slice W nW cW, .slice W2 nW2 cW2])] := Scene.turn (lo := w2.heap.size + 1) (hi := w3.heap.size) (os' := [⟨.ints .i64 (ceL a0 xs1), .slice G nW cG, laG, haG⟩, ⟨.ints .i64 (ceR a0 xs1), .slice G2 nW2 cG2, lbG, hbG⟩, ⟨.ints .i64 (ceL a0 xs1), .slice W nW cW, laW, haW⟩, ⟨.ints .i64 (ceR a0 xs1), .slice W2 nW2 cW2, lbW, hbW⟩]) S14 hchm (fun k hk => ⟨(inm k hk).1, (inm k hk).2.1⟩) (by have := S14.bel.size; omega) (S14.own _ (List.mem_of_getElem? (i := 2) rfl)).2.2
    ⟨bsm, hdm2, ndm, fun b hb => ⟨(inm b hb).1, (inm b hb).2.1, (inm b hb).2.2.ch hchm (hdm.lt b hb)⟩⟩ (by simp; try omega) (by simp; try omega)
  clear hdm ndm inm hdm2 hchm S14
  clear x0_0 x0_1 x0_2 z0 x1_0 x1_1 x1_2 z1
  have x0_0 : w8.cell? ⟨w4.heap.size, 0, none⟩ = some (.int .i64 (ceC a0 xs1)) := S15.boxI 0 0 rfl rfl
  have x0_1 : w8.cell? ⟨w4.heap.size, 1, none⟩ = some (.slice G nW cG) := S15.boxI 0 1 rfl rfl
  have x0_2 : w8.cell? ⟨w4.heap.size, 2, none⟩ = some (.slice G2 nW2 cG2) := S15.boxI 0 2 rfl rfl
  have z0 : w4.heap.size < w8.heap.size := cell_lt x0_0
  have x1_0 : w8.cell? ⟨w2.heap.size, 0, none⟩ = some (.int .i64 (ceC a0 xs1)) := S15.boxI 1 0 rfl rfl
  have x1_1 : w8.cell? ⟨w2.heap.size, 1, none⟩ = some (.slice W nW cW) := S15.boxI 1 1 rfl rfl
  have x1_2 : w8.cell? ⟨w2.heap.size, 2, none⟩ = some (.slice W2 nW2 cW2) := S15.boxI 1 2 rfl rfl
  have z1 : w2.heap.size < w8.heap.size := cell_lt x1_0
  go_wp2_with fail
  obtain ⟨bsx, hdx⟩ := (S15.ownI 1 rfl).hd
  obtain ⟨bsy, hdy⟩ := (S15.ownI 3 rfl).hd
  obtain ⟨bsx2, hdx2⟩ := (S15.ownI 2 rfl).hd
  obtain ⟨bsy2, hdy2⟩ := (S15.ownI 4 rfl).hd
  refine (eqCellResult_same _ _ _ _ _ _ _ _ _ _ _ _ _ (ceL a0 xs1) (ceR a0 xs1) _ hdx.rd hdy.rd hdx2.rd hdy2.rd (by omega) (by omega)).mono ?_
  rintro e w9 ⟨rfl, hb⟩
  have i9 := Below.size hb
  try simp only [World.size_alloc] at i9
  have S16 : Scene w w9 [(.ints .i64 xs1, .slice A1 n1 c1)] [⟨.ints .i64 (imarks 1 n1), .slice X1 n1 n1, w2.heap.size + 1, w3.heap.size⟩, ⟨.ints .i64 (ceL a0 xs1), .slice G nW cG, laG, haG⟩, ⟨.ints .i64 (ceR a0 xs1), .slice G2 nW2 cG2, lbG, hbG⟩, ⟨.ints .i64 (ceL a0 xs1), .slice W nW cW, laW, haW⟩, ⟨.ints .i64 (ceR a0 xs1), .slice W2 nW2 cW2, lbW, hbW⟩] [(w4.heap.size, [.int .i64 (ceC a0 xs1), .slice G nW cG, .slice G2 nW2 cG2]), (w2.heap.size, [.int .i64 (ceC a0 xs1), .slice W nW cW, .slice W2 nW2 cW2])] := Scene.below S15 hb
  clear hb hdx hdy hdx2 hdy2
  clear x0_0 x0_1 x0_2 z0 x1_0 x1_1 x1_2 z1
  have x0_0 : w9.cell? ⟨w4.heap.size, 0, none⟩ = some (.int .i64 (ceC a0 xs1)) := S16.boxI 0 0 rfl rfl
  have x0_1 : w9.cell? ⟨w4.heap.size, 1, none⟩ = some (.slice G nW cG) := S16.boxI 0 1 rfl rfl
  have x0_2 : w9.cell? ⟨w4.heap.size, 2, none⟩ = some (.slice G2 nW2 cG2) := S16.boxI 0 2 rfl rfl
  have z0 : w4.heap.size < w9.heap.size := cell_lt x0_0
  have x1_0 : w9.cell? ⟨w2.heap.size, 0, none⟩ = some (.int .i64 (ceC a0 xs1)) := S16.boxI 1 0 rfl rfl
  have x1_1 : w9.cell? ⟨w2.heap.size, 1, none⟩ = some (.slice W nW cW) := S16.boxI 1 1 rfl rfl
  have x1_2 : w9.cell? ⟨w2.heap.size, 2, none⟩ = some (.slice W2 nW2 cW2) := S16.boxI 1 2 rfl rfl
  have z1 : w2.heap.size < w9.heap.size := cell_lt x1_0
  go_wp2_with fail
  obtain ⟨bsm, hdm, ndm, inm⟩ := S16.ownI 1 rfl
  obtain ⟨bsn, hdn, ndn, inn⟩ := S16.ownI 2 rfl
  change ∀ b ∈ bsm, laG ≤ b ∧ b < haG ∧ _ at inm
  change ∀ b ∈ bsn, lbG ≤ b ∧ b < hbG ∧ _ at inn
  refine (markCellResult_any _ _ _ _ _ _ _ 1 _ _ _ _ _ hdm hdn (fun b hb => (inm b hb).2.2) (fun b hb => (inn b hb).2.2) (fun b hb hb2 => by have := inm b hb; have := inn b hb2; omega) (by omega) (by omega) (by omega) (by omega)).mono ?_
  rintro e w10 ⟨rfl, hdm2, hdn2, hchm⟩
  have sz10 := hchm.size
  have S17 : Scene w w10 [(.ints .i64 xs1, .slice A1 n1 c1)] [⟨.ints .i64 (imarks 1 nW), .slice G nW cG, laG, haG⟩, ⟨.ints .i64 (imarks (1 + nW) nW2), .slice G2 nW2 cG2, lbG, hbG⟩, ⟨.ints .i64 (imarks 1 n1), .slice X1 n1 n1, w2.heap.size + 1, w3.heap.size⟩, ⟨.ints .i64 (ceL a0 xs1), .slice W nW cW, laW, haW⟩, ⟨.ints .i64 (ceR a0 xs1), .slice W2 nW2 cW2, lbW, hbW⟩] [(w4.heap.size, [.int .i64 (ceC a0 xs1), .slice G nW cG, .slice G2 nW2 cG2]), (w2.heap.size, [.int .i64 (ceC a0 xs1), .slice W nW cW, .slice W2 nW2 cW2])] := Scene.turn2 (lo := laG) (hi := haG) (lo2 := lbG) (hi2 := hbG) (os' := [⟨.ints .i64 (imarks 1 n1), .slice X1 n1 n1, w2.heap.size + 1, w3.heap.size⟩, ⟨.ints .i64 (ceL a0 xs1), .slice W nW cW, laW, haW⟩, ⟨.ints .i64 (ceR a0 xs1), .slice W2 nW2 cW2, lbW, hbW⟩]) S16 hchm (fun k hk => hk.elim (fun hk => .inl ⟨(inm k hk).1, (inm k hk).2.1⟩) (fun hk => .inr ⟨(inn k hk).1, (inn k hk).2.1⟩)) (S16.own _ (List.mem_of_getElem? (i := 1) rfl)).2.1 (S16.own _ (List.mem_of_getElem? (i := 1) rfl)).2.2 (S16.own _ (List.mem_of_getElem? (i := 2) rfl)).2.1 (S16.own _ (List.mem_of_getElem? (i := 2) rfl)).2.2
    ⟨bsm, hdm2, ndm, fun b hb => ⟨(inm b hb).1, (inm b hb).2.1, (inm b hb).2.2.ch hchm (hdm.lt b hb)⟩⟩ ⟨bsn, hdn2, ndn, fun b hb => ⟨(inn b hb).1, (inn b hb).2.1, (inn b hb).2.2.ch hchm (hdn.lt b hb)⟩⟩ (by simp; try omega) (by simp; try omega)
  clear hdm ndm inm hdm2 hdn ndn inn hdn2 hchm S16
  clear x0_0 x0_1 x0_2 z0 x1_0 x1_1 x1_2 z1
  have x0_0 : w10.cell? ⟨w4.heap.size, 0, none⟩ = some (.int .i64 (ceC a0 xs1)) := S17.boxI 0 0 rfl rfl
  have x0_1 : w10.cell? ⟨w4.heap.size, 1, none⟩ = some (.slice G nW cG) := S17.boxI 0 1 rfl rfl
  have x0_2 : w10.cell? ⟨w4.heap.size, 2, none⟩ = some (.slice G2 nW2 cG2) := S17.boxI 0 2 rfl rfl
  have z0 : w4.heap.size < w10.heap.size := cell_lt x0_0
  have x1_0 : w10.cell? ⟨w2.heap.size, 0, none⟩ = some (.int .i64 (ceC a0 xs1)) := S17.boxI 1 0 rfl rfl
  have x1_1 : w10.cell? ⟨w2.heap.size, 1, none⟩ = some (.slice W nW cW) := S17.boxI 1 1 rfl rfl
  have x1_2 : w10.cell? ⟨w2.heap.size, 2, none⟩ = some (.slice W2 nW2 cW2) := S17.boxI 1 2 rfl rfl
  have z1 : w2.heap.size < w10.heap.size := cell_lt x1_0
  go_wp2_with fail
  obtain ⟨bsh, hdh⟩ := (S17.ownI 0 rfl).hd
  obtain ⟨bsh2, hdh2⟩ := (S17.ownI 1 rfl).hd
  refine (heldCellResult_any _ _ _ _ _ _ _ 1 _ hdh.rd hdh2.rd (by omega) (by omega) (by omega) (by omega)).mono ?_
  rintro e w11 ⟨rfl, hb⟩
  have i11 := Below.size hb
  try simp only [World.size_alloc] at i11
  have S18 : Scene w w11 [(.ints .i64 xs1, .slice A1 n1 c1)] [⟨.ints .i64 (imarks 1 nW), .slice G nW cG, laG, haG⟩, ⟨.ints .i64 (imarks (1 + nW) nW2), .slice G2 nW2 cG2, lbG, hbG⟩, ⟨.ints .i64 (imarks 1 n1), .slice X1 n1 n1, w2.heap.size + 1, w3.heap.size⟩, ⟨.ints .i64 (ceL a0 xs1), .slice W nW cW, laW, haW⟩, ⟨.ints .i64 (ceR a0 xs1), .slice W2 nW2 cW2, lbW, hbW⟩] [(w4.heap.size, [.int .i64 (ceC a0 xs1), .slice G nW cG, .slice G2 nW2 cG2]), (w2.heap.size, [.int .i64 (ceC a0 xs1), .slice W nW cW, .slice W2 nW2 cW2])] := Scene.below S17 hb
  clear hb hdh hdh2
  have hneg : ¬ (1 + (nW : Int) + (nW2 : Int)) < 0 := by omega
  clear x0_0 x0_1 x0_2 z0 x1_0 x1_1 x1_2 z1
  have x0_0 : w11.cell? ⟨w4.heap.size, 0, none⟩ = some (.int .i64 (ceC a0 xs1)) := S18.boxI 0 0 rfl rfl
  have x0_1 : w11.cell? ⟨w4.heap.size, 1, none⟩ = some (.slice G nW cG) := S18.boxI 0 1 rfl rfl
  have x0_2 : w11.cell? ⟨w4.heap.size, 2, none⟩ = some (.slice G2 nW2 cG2) := S18.boxI 0 2 rfl rfl
  have z0 : w4.heap.size < w11.heap.size := cell_lt x0_0
  have x1_0 : w11.cell? ⟨w2.heap.size, 0, none⟩ = some (.int .i64 (ceC a0 xs1)) := S18.boxI 1 0 rfl rfl
  have x1_1 : w11.cell? ⟨w2.heap.size, 1, none⟩ = some (.slice W nW cW) := S18.boxI 1 1 rfl rfl
  have x1_2 : w11.cell? ⟨w2.heap.size, 2, none⟩ = some (.slice W2 nW2 cW2) := S18.boxI 1 2 rfl rfl
  have z1 : w2.heap.size < w11.heap.size := cell_lt x1_0
  go_wp2_with fail
  obtain ⟨bsa1, hda1⟩ := S18.argI 0 rfl
  refine (toInt64S_any A1 n1 c1 xs1 _ hda1.rd (by omega)).mono ?_
  rintro e w12 ⟨B12, rfl, ho, hb⟩
  have i12 := Below.size hb
  try simp only [World.size_alloc] at i12
  have S19 : Scene w w12 [(.ints .i64 xs1, .slice A1 n1 c1)] [⟨.ints .i64 (imarks 1 nW), .slice G nW cG, laG, haG⟩, ⟨.ints .i64 (imarks (1 + nW) nW2), .slice G2 nW2 cG2, lbG, hbG⟩, ⟨.ints .i64 (imarks 1 n1), .slice X1 n1 n1, w2.heap.size + 1, w3.heap.size⟩, ⟨.ints .i64 (ceL a0 xs1), .slice W nW cW, laW, haW⟩, ⟨.ints .i64 (ceR a0 xs1), .slice W2 nW2 cW2, lbW, hbW⟩] [(w4.heap.size, [.int .i64 (ceC a0 xs1), .slice G nW cG, .slice G2 nW2 cG2]), (w2.heap.size, [.int .i64 (ceC a0 xs1), .slice W nW cW, .slice W2 nW2 cW2])] := Scene.below S18 hb
  obtain ⟨ds1, dd1⟩ := ho.hd
  have D1 := Lib.hid dd1
  clear ho hb dd1 hda1
  clear x0_0 x0_1 x0_2 z0 x1_0 x1_1 x1_2 z1
  have x0_0 : w12.cell? ⟨w4.heap.size, 0, none⟩ = some (.int .i64 (ceC a0 xs1)) := S19.boxI 0 0 rfl rfl
  have x0_1 : w12.cell? ⟨w4.heap.size, 1, none⟩ = some (.slice G nW cG) := S19.boxI 0 1 rfl rfl
  have x0_2 : w12.cell? ⟨w4.heap.size, 2, none⟩ = some (.slice G2 nW2 cG2) := S19.boxI 0 2 rfl rfl
  have z0 : w4.heap.size < w12.heap.size := cell_lt x0_0
  have x1_0 : w12.cell? ⟨w2.heap.size, 0, none⟩ = some (.int .i64 (ceC a0 xs1)) := S19.boxI 1 0 rfl rfl
  have x1_1 : w12.cell? ⟨w2.heap.size, 1, none⟩ = some (.slice W nW cW) := S19.boxI 1 1 rfl rfl
  have x1_2 : w12.cell? ⟨w2.heap.size, 2, none⟩ = some (.slice W2 nW2 cW2) := S19.boxI 1 2 rfl rfl
  have z1 : w2.heap.size < w12.heap.size := cell_lt x1_0
  go_wp2_with fail
  refine (CellOf_any B12 n1 n1 a0 xs1 _ _ D1.out).mono ?_
  rintro e w13 ⟨H, nH, cH, H2, nH2, cH2, laH, haH, lbH, hbH, rfl, ho, ho2, q1H, q2H, q3H, q4H, qdH, hb⟩
  have i13 := Below.size hb
  try simp only [World.size_alloc] at i13
  have S20 : Scene w w13 [(.ints .i64 xs1, .slice A1 n1 c1)] [⟨.ints .i64 (imarks 1 nW), .slice G nW cG, laG, haG⟩, ⟨.ints .i64 (imarks (1 + nW) nW2), .slice G2 nW2 cG2, lbG, hbG⟩, ⟨.ints .i64 (imarks 1 n1), .slice X1 n1 n1, w2.heap.size + 1, w3.heap.size⟩, ⟨.ints .i64 (ceL a0 xs1), .slice W nW cW, laW, haW⟩, ⟨.ints .i64 (ceR a0 xs1), .slice W2 nW2 cW2, lbW, hbW⟩] [(w4.heap.size, [.int .i64 (ceC a0 xs1), .slice G nW cG, .slice G2 nW2 cG2]), (w2.heap.size, [.int .i64 (ceC a0 xs1), .slice W nW cW, .slice W2 nW2 cW2])] := Scene.below S19 hb
  clear D1
  try simp only [World.size_alloc] at q1H q3H
  obtain ⟨bsn, hdn⟩ := ho.hd
  have hlH := hdn.rd.1
  obtain ⟨bsn2, hdn2⟩ := ho2.hd
  have hlH2 := hdn2.rd.1
  clear hdn hdn2
  obtain ⟨bsw, hdw⟩ := (S20.ownI 3 rfl).hd
  have hlW := hdw.rd.1
  obtain ⟨bsw2, hdw2⟩ := (S20.ownI 4 rfl).hd
  have hlW2 := hdw2.rd.1
  obtain rfl : nW = nH := by omega
  obtain rfl : nW2 = nH2 := by omega
  clear hdw hdw2 hlW hlW2
  have S21 : Scene w w13 [(.ints .i64 xs1, .slice A1 n1 c1)] [⟨.ints .i64 (ceR a0 xs1), .slice H2 nW2 cH2, lbH, hbH⟩, ⟨.ints .i64 (imarks 1 nW), .slice G nW cG, laG, haG⟩, ⟨.ints .i64 (imarks (1 + nW) nW2), .slice G2 nW2 cG2, lbG, hbG⟩, ⟨.ints .i64 (imarks 1 n1), .slice X1 n1 n1, w2.heap.size + 1, w3.heap.size⟩, ⟨.ints .i64 (ceL a0 xs1), .slice W nW cW, laW, haW⟩, ⟨.ints .i64 (ceR a0 xs1), .slice W2 nW2 cW2, lbW, hbW⟩] [(w4.heap.size, [.int .i64 (ceC a0 xs1), .slice G nW cG, .slice G2 nW2 cG2]), (w2.heap.size, [.int .i64 (ceC a0 xs1), .slice W nW cW, .slice W2 nW2 cW2])] := Scene.addOwn S20 ho2 (by have := S20.bel.size; omega) (by omega)
  clear S20
  have S22 : Scene w w13 [(.ints .i64 xs1, .slice A1 n1 c1)] [⟨.ints .i64 (ceL a0 xs1), .slice H nW cH, laH, haH⟩, ⟨.ints .i64 (ceR a0 xs1), .slice H2 nW2 cH2, lbH, hbH⟩, ⟨.ints .i64 (imarks 1 nW), .slice G nW cG, laG, haG⟩, ⟨.ints .i64 (imarks (1 + nW) nW2), .slice G2 nW2 cG2, lbG, hbG⟩, ⟨.ints .i64 (imarks 1 n1), .slice X1 n1 n1, w2.heap.size + 1, w3.heap.size⟩, ⟨.ints .i64 (ceL a0 xs1), .slice W nW cW, laW, haW⟩, ⟨.ints .i64 (ceR a0 xs1), .slice W2 nW2 cW2, lbW, hbW⟩] [(w4.heap.size, [.int .i64 (ceC a0 xs1), .slice G nW cG, .slice G2 nW2 cG2]), (w2.heap.size, [.int .i64 (ceC a0 xs1), .slice W nW cW, .slice W2 nW2 cW2])] := Scene.addOwn S21 ho (by have := S21.bel.size; omega) (by omega)
  clear S21
  clear ho ho2 hb hlH hlH2
  clear x0_0 x0_1 x0_2 z0 x1_0 x1_1 x1_2 z1
  have x0_0 : w13.cell? ⟨w4.heap.size, 0, none⟩ = some (.int .i64 (ceC a0 xs1)) := S22.boxI 0 0 rfl rfl
  have x0_1 : w13.cell? ⟨w4.heap.size, 1, none⟩ = some (.slice G nW cG) := S22.boxI 0 1 rfl rfl
  have x0_2 : w13.cell? ⟨w4.heap.size, 2, none⟩ = some (.slice G2 nW2 cG2) := S22.boxI 0 2 rfl rfl
  have z0 : w4.heap.size < w13.heap.size := cell_lt x0_0
  have x1_0 : w13.cell? ⟨w2.heap.size, 0, none⟩ = some (.int .i64 (ceC a0 xs1)) := S22.boxI 1 0 rfl rfl
  have x1_1 : w13.cell? ⟨w2.heap.size, 1, none⟩ = some (.slice W nW cW) := S22.boxI 1 1 rfl rfl
  have x1_2 : w13.cell? ⟨w2.heap.size, 2, none⟩ = some (.slice W2 nW2 cW2) := S22.boxI 1 2 rfl rfl
  have z1 : w2.heap.size < w13.heap.size := cell_lt x1_0
  have S23 : Scene w (w13.alloc (.cells #[.int .i64 (ceC a0 xs1), .slice H nW cH, .slice H2 nW2 cH2] 71)) [(.ints .i64 xs1, .slice A1 n1 c1)] [⟨.ints .i64 (ceL a0 xs1), .slice H nW cH, laH, haH⟩, ⟨.ints .i64 (ceR a0 xs1), .slice H2 nW2 cH2, lbH, hbH⟩, ⟨.ints .i64 (imarks 1 nW), .slice G nW cG, laG, haG⟩, ⟨.ints .i64 (imarks (1 + nW) nW2), .slice G2 nW2 cG2, lbG, hbG⟩, ⟨.ints .i64 (imarks 1 n1), .slice X1 n1 n1, w2.heap.size + 1, w3.heap.size⟩, ⟨.ints .i64 (ceL a0 xs1), .slice W nW cW, laW, haW⟩, ⟨.ints .i64 (ceR a0 xs1), .slice W2 nW2 cW2, lbW, hbW⟩] [(w13.heap.size, [.int .i64 (ceC a0 xs1), .slice H nW cH, .slice H2 nW2 cH2]), (w4.heap.size, [.int .i64 (ceC a0 xs1), .slice G nW cG, .slice G2 nW2 cG2]), (w2.heap.size, [.int .i64 (ceC a0 xs1), .slice W nW cW, .slice W2 nW2 cW2])] := Scene.addBox S22 [.int .i64 (ceC a0 xs1), .slice H nW cH, .slice H2 nW2 cH2] 71
  clear S22
  go_wp2_with fail
  obtain ⟨bsx, hdx⟩ := (S23.ownI 0 rfl).hd
  obtain ⟨bsy, hdy⟩ := (S23.ownI 5 rfl).hd
  obtain ⟨bsx2, hdx2⟩ := (S23.ownI 1 rfl).hd
  obtain ⟨bsy2, hdy2⟩ := (S23.ownI 6 rfl).hd
  refine (eqCellResult_same _ _ _ _ _ _ _ _ _ _ _ _ _ (ceL a0 xs1) (ceR a0 xs1) _ hdx.rd hdy.rd hdx2.rd hdy2.rd (by omega) (by omega)).mono ?_
  rintro e w14 ⟨rfl, hb⟩
  have i14 := Below.size hb
  try simp only [World.size_alloc] at i14
  have S24 : Scene w w14 [(.ints .i64 xs1, .slice A1 n1 c1)] [⟨.ints .i64 (ceL a0 xs1), .slice H nW cH, laH, haH⟩, ⟨.ints .i64 (ceR a0 xs1), .slice H2 nW2 cH2, lbH, hbH⟩, ⟨.ints .i64 (imarks 1 nW), .slice G nW cG, laG, haG⟩, ⟨.ints .i64 (imarks (1 + nW) nW2), .slice G2 nW2 cG2, lbG, hbG⟩, ⟨.ints .i64 (imarks 1 n1), .slice X1 n1 n1, w2.heap.size + 1, w3.heap.size⟩, ⟨.ints .i64 (ceL a0 xs1), .slice W nW cW, laW, haW⟩, ⟨.ints .i64 (ceR a0 xs1), .slice W2 nW2 cW2, lbW, hbW⟩] [(w13.heap.size, [.int .i64 (ceC a0 xs1), .slice H nW cH, .slice H2 nW2 cH2]), (w4.heap.size, [.int .i64 (ceC a0 xs1), .slice G nW cG, .slice G2 nW2 cG2]), (w2.heap.size, [.int .i64 (ceC a0 xs1), .slice W nW cW, .slice W2 nW2 cW2])] := Scene.below S23 hb
  clear hb hdx hdy hdx2 hdy2
  clear x0_0 x0_1 x0_2 z0 x1_0 x1_1 x1_2 z1
  have x0_0 : w14.cell? ⟨w13.heap.size, 0, none⟩ = some (.int .i64 (ceC a0 xs1)) := S24.boxI 0 0 rfl rfl
  have x0_1 : w14.cell? ⟨w13.heap.size, 1, none⟩ = some (.slice H nW cH) := S24.boxI 0 1 rfl rfl
  have x0_2 : w14.cell? ⟨w13.heap.size, 2, none⟩ = some (.slice H2 nW2 cH2) := S24.boxI 0 2 rfl rfl
  have z0 : w13.heap.size < w14.heap.size := cell_lt x0_0
  have x1_0 : w14.cell? ⟨w4.heap.size, 0, none⟩ = some (.int .i64 (ceC a0 xs1)) := S24.boxI 1 0 rfl rfl
  have x1_1 : w14.cell? ⟨w4.heap.size, 1, none⟩ = some (.slice G nW cG) := S24.boxI 1 1 rfl rfl
  have x1_2 : w14.cell? ⟨w4.heap.size, 2, none⟩ = some (.slice G2 nW2 cG2) := S24.boxI 1 2 rfl rfl
  have z1 : w4.heap.size < w14.heap.size := cell_lt x1_0
  have x2_0 : w14.cell? ⟨w2.heap.size, 0, none⟩ = some (.int .i64 (ceC a0 xs1)) := S24.boxI 2 0 rfl rfl
  have x2_1 : w14.cell? ⟨w2.heap.size, 1, none⟩ = some (.slice W nW cW) := S24.boxI 2 1 rfl rfl
  have x2_2 : w14.cell? ⟨w2.heap.size, 2, none⟩ = some (.slice W2 nW2 cW2) := S24.boxI 2 2 rfl rfl
  have z2 : w2.heap.size < w14.heap.size := cell_lt x2_0
  go_wp2_with fail
  obtain ⟨bsh, hdh⟩ := (S24.ownI 2 rfl).hd
  obtain ⟨bsh2, hdh2⟩ := (S24.ownI 3 rfl).hd
  refine (heldCellResult_any _ _ _ _ _ _ _ 1 _ hdh.rd hdh2.rd (by omega) (by omega) (by omega) (by omega)).mono ?_
  rintro e w15 ⟨rfl, hb⟩
  have i15 := Below.size hb
  try simp only [World.size_alloc] at i15
  have S25 : Scene w w15 [(.ints .i64 xs1, .slice A1 n1 c1)] [⟨.ints .i64 (ceL a0 xs1), .slice H nW cH, laH, haH⟩, ⟨.ints .i64 (ceR a0 xs1), .slice H2 nW2 cH2, lbH, hbH⟩, ⟨.ints .i64 (imarks 1 nW), .slice G nW cG, laG, haG⟩, ⟨.ints .i64 (imarks (1 + nW) nW2), .slice G2 nW2 cG2, lbG, hbG⟩, ⟨.ints .i64 (imarks 1 n1), .slice X1 n1 n1, w2.heap.size + 1, w3.heap.size⟩, ⟨.ints .i64 (ceL a0 xs1), .slice W nW cW, laW, haW⟩, ⟨.ints .i64 (ceR a0 xs1), .slice W2 nW2 cW2, lbW, hbW⟩] [(w13.heap.size, [.int .i64 (ceC a0 xs1), .slice H nW cH, .slice H2 nW2 cH2]), (w4.heap.size, [.int .i64 (ceC a0 xs1), .slice G nW cG, .slice G2 nW2 cG2]), (w2.heap.size, [.int .i64 (ceC a0 xs1), .slice W nW cW, .slice W2 nW2 cW2])] := Scene.below S24 hb
  clear hb hdh hdh2
  have HB := Lib.hid S25.bel
  clear S25
  clear x0_0 x0_1 x0_2 z0 x1_0 x1_1 x1_2 z1 x2_0 x2_1 x2_2 z2
  go_wp2_with fail
  go_ret
  exact ⟨rfl, HB.out⟩

set_option maxRecDepth 100000 in
theorem lifted (os : Os) (started : os.Started) (H : Type) (enc : TypeId × Value → H) :
    ReturnsInHanded {} Try.checked os 7 .any (Rows.fnExactCellOfSpec.pre6 enc Try.prog Try.f7 Rows.fnExactCellOfRow.domain false) (Rows.fnExactCellOfSpec.post enc Try.prog Try.f7 false true false false) := by
  refine returnsInHanded_of_change (C := Try.checked) own started (by kernel_rfl) Try.func7
    (ChangeSpec.witness6 (enc := enc) (C := Try.checked) false ⟨#[], #[.int .i64 0, .slice none 0 0], []⟩ 8 (by kernel_rfl) (by kernel_rfl) (by kernel_rfl) (by kernel_rfl)) ?_
  intro W base args ds gs before hval0 hW hcnd _
  have hval : ∀ (j : Nat) t v, Try.f7.params[j]? = some t → args[j]? = some v → Value.okWide Try.prog W .any base t v := hval0
  have hW' := hW
  obtain ⟨p, q, hA0, hV0, rfl, hfz, hnd⟩ := hW
  have hA : DataW.TrodAll enc Try.prog W 0 (fun _ => true) true Try.f7.params.toList args.toList ds p := hA0
  have hV : DataW.TrodVars enc Try.prog W (fun _ => true) [] gs q := hV0
  rw [Try.params7] at hA hval
  obtain ⟨v0, vs0, d0, ds0, p0, q0, hargs, rfl, rfl, h0, r0⟩ := trodAll_cons hA
  obtain ⟨v1, vs1, d1, ds1, p1, q1, rfl, rfl, rfl, h1, r1⟩ := trodAll_cons r0
  obtain ⟨rfl, rfl, rfl⟩ := trodAll_nil r1
  obtain rfl : args = #[v0, v1] := by cases args; simp_all
  obtain ⟨rfl, rfl⟩ : gs = [] ∧ q = [] := by
    cases gs with
    | nil => exact ⟨rfl, hV⟩
    | cons g r => exact absurd hV (by intro h; cases h)
  have k0 := h0
  have lt0 : ∀ x ∈ p0, x.block < W.heap.size := by obtain ⟨m, hm⟩ := k0; exact DataW.trod_lt m _ _ _ hm
  obtain ⟨a0, rfl, e0, f0, w0⟩ := open_int Try.underlying2 (hval 0 2 v0 rfl rfl) h0
  have k1 := h1
  have lt1 : ∀ x ∈ p1, x.block < W.heap.size := by obtain ⟨m, hm⟩ := k1; exact DataW.trod_lt m _ _ _ hm
  obtain ⟨a1, n1, c1, xs1, bs1, rfl, hd1, u1⟩ := open_i64s (hval 1 27 v1 rfl rfl) h1
  clear hA0 hval0
  refine (walk a0 a1 n1 c1 xs1 bs1 W w0 hd1 u1).mono fun e W' ⟨he, bel⟩ => ?_
  subst he
  exact ⟨_, rfl, _, _, _, [], _, [], hW', trodAll_mk1 (shut_bool Try.underlying4 _), (trodAll_cons_mk (Below.trod laidOut (by kernel_rfl) (of_decide_eq_true (by kernel_rfl)) k0 bel lt0) (trodAll_cons_mk (Below.trod laidOut (by kernel_rfl) (of_decide_eq_true (by kernel_rfl)) k1 bel lt1) trodAll_mk0)), rfl, bel.frame _, fun h => by cases h⟩

theorem row_holds : Rows.FnExactCellOfSaid :=
  OpenClaim.holds_of_wide 7 Try.f7 rfl rfl rfl rfl rfl rfl rfl ⟨rfl, rfl, rfl, rfl, rfl⟩ rfl rfl rfl rfl rfl (by kernel_rfl) Try.func7 (by kernel_rfl)
    (of_decide_eq_true (by kernel_rfl)) (by unfold Func.isWrapper; rw [if_neg (of_decide_eq_false (by kernel_rfl))]; exact ⟨rfl, rfl⟩)
    (fun os started H enc _ => lifted os started H enc)

theorem proved : Rows.FnExactCellOfSaid := row_holds
#print axioms proved

end Go.Proofs.Ytmcdbingcclpcaa.lExactCellOf
