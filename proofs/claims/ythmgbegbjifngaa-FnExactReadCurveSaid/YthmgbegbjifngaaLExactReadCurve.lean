/-
  Proved: at every list of bytes the Go function ReadCurve answers as its reference model does, in new memory that it shares with nothing, and changes nothing of its argument (the law FnExactReadCurve returns true), and the argument reads afterwards as it read before. Conditions: none.
-/
import Derived.Test.YthmgbegbjifngaaFront
import Derived.Test.YthmgbegbjifngaaHelpI
import Derived.Test.YthmgbegbjifngaaCurR
import Derived.Test.YthmgbegbjifngaaScene
import Derived.Deep.RegionHeld3
namespace Go.Proofs.Ythmgbegbjifngaa.lExactReadCurve
open Go.ChangeShapes Go.WideShapes Go.ChangeAt Go.RowKit
set_option linter.unusedVariables false

set_option maxRecDepth 100000 in
set_option maxHeartbeats 4000000 in
theorem walk (A0 : Option Addr) (n0 c0 : Nat) (xs0 : List Int) (bs0 : List Nat) (w : World) (h0 : Hd w (.ints .u8 xs0) (.slice A0 n0 c0) bs0) (u0 : U8s xs0) :
    Calls Try.prog 13 #[.slice A0 n0 c0] w fun e w' => e = .returned (.bool true) ∧ Below w.heap.size w w' := by
  have hm0 := h0.caps.2
  have hnc0 := h0.caps.1
  have HU0 := Lib.hid u0
  replace hm0 := Nat.le_trans hnc0 hm0
  have S0 : Scene w w [(.ints .u8 xs0, .slice A0 n0 c0)] [] [] := Scene.start w _ (by intro p hp; simp only [List.mem_cons, List.not_mem_nil, or_false] at hp; rcases hp with rfl <;> first | exact ⟨_, h0⟩)
  clear h0 u0
  unfold maxLen at hm0
  by_cases hbig0 : 1048576 < n0
  · go_enter Try.func13, Try.ntmps13
    go_wp2_with fail
    go_ret
    exact ⟨rfl, Below.refl _ _⟩
  have hxl := rcL_len xs0
  have HM : Hid ((1000000000000 : Nat) ≤ maxLen) := by show _ ≤ _; unfold maxLen; omega
  go_enter Try.func13, Try.ntmps13
  go_wp2_with fail
  obtain ⟨bsa0, hda0⟩ := S0.argI 0 rfl
  refine (toByteS_any A0 n0 c0 xs0 _ hda0.rd (by omega)).mono ?_
  rintro e w1 ⟨B1, rfl, ho, hb⟩
  have i1 := Below.size hb
  try simp only [World.size_alloc] at i1
  have S1 : Scene w w1 [(.ints .u8 xs0, .slice A0 n0 c0)] [] [] := Scene.below S0 hb
  obtain ⟨ds0, dd0⟩ := ho.hd
  have D0 := Lib.hid dd0
  clear ho hb dd0 hda0
  go_wp2_with fail
  refine (sReadCurve_any B1 n0 n0 xs0 _ D0.out.rd HU0.out hm0).mono ?_
  rintro e w2 ⟨W, nW, cW, rfl, ho, hb⟩
  have i2 := Below.size hb
  try simp only [World.size_alloc] at i2
  have S2 : Scene w w2 [(.ints .u8 xs0, .slice A0 n0 c0)] [] [] := Scene.below S1 hb
  clear D0
  obtain ⟨bsn, hdn⟩ := ho.hd
  have hlW := hdn.rd.1
  have hnW : nW ≤ 17 := by omega
  have S3 : Scene w w2 [(.ints .u8 xs0, .slice A0 n0 c0)] [⟨.ints .i64 (rcL xs0), .slice W nW cW, w1.heap.size, w2.heap.size⟩] [] := Scene.addOwn S2 ho (by have := S2.bel.size; omega) (Nat.le_refl _)
  clear ho hb hdn hlW S2
  have S4 : Scene w (w2.alloc (.cells #[.int .i64 (rcC xs0), .slice W nW cW] 50)) [(.ints .u8 xs0, .slice A0 n0 c0)] [⟨.ints .i64 (rcL xs0), .slice W nW cW, w1.heap.size, w2.heap.size⟩] [(w2.heap.size, [.int .i64 (rcC xs0), .slice W nW cW])] := Scene.addBox S3 [.int .i64 (rcC xs0), .slice W nW cW] 50
  clear S3
  go_wp2_with fail
  obtain ⟨bsa0, hda0⟩ := S4.argI 0 rfl
  refine (toByteS_any A0 n0 c0 xs0 _ hda0.rd (by omega)).mono ?_
  rintro e w3 ⟨X0, rfl, ho, hb⟩
  have i3 := Below.size hb
  try simp only [World.size_alloc] at i3
  have S5 : Scene w w3 [(.ints .u8 xs0, .slice A0 n0 c0)] [⟨.ints .i64 (rcL xs0), .slice W nW cW, w1.heap.size, w2.heap.size⟩] [(w2.heap.size, [.int .i64 (rcC xs0), .slice W nW cW])] := Scene.below S4 hb
  have S6 : Scene w w3 [(.ints .u8 xs0, .slice A0 n0 c0)] [⟨.ints .u8 xs0, .slice X0 n0 n0, w2.heap.size + 1, w3.heap.size⟩, ⟨.ints .i64 (rcL xs0), .slice W nW cW, w1.heap.size, w2.heap.size⟩] [(w2.heap.size, [.int .i64 (rcC xs0), .slice W nW cW])] := Scene.addOwn S5 (ho.mono (by simp) (Nat.le_refl _)) (by have := S5.bel.size; omega) (Nat.le_refl _)
  clear ho hb hda0 S5
  have x0_0 : w3.cell? ⟨w2.heap.size, 0, none⟩ = some (.int .i64 (rcC xs0)) := S6.boxI 0 0 rfl rfl
  have x0_1 : w3.cell? ⟨w2.heap.size, 1, none⟩ = some (.slice W nW cW) := S6.boxI 0 1 rfl rfl
  have z0 : w2.heap.size < w3.heap.size := cell_lt x0_0
  go_wp2_with fail
  obtain ⟨dx0, hx0⟩ := (S6.ownI 0 rfl).hd
  refine (ReadCurve_any X0 n0 n0 xs0 _ hx0.rd HU0.out hm0).mono ?_
  rintro e w4 ⟨G, nG, cG, rfl, ho, hb⟩
  have i4 := Below.size hb
  try simp only [World.size_alloc] at i4
  have S7 : Scene w w4 [(.ints .u8 xs0, .slice A0 n0 c0)] [⟨.ints .u8 xs0, .slice X0 n0 n0, w2.heap.size + 1, w3.heap.size⟩, ⟨.ints .i64 (rcL xs0), .slice W nW cW, w1.heap.size, w2.heap.size⟩] [(w2.heap.size, [.int .i64 (rcC xs0), .slice W nW cW])] := Scene.below S6 hb
  clear hx0
  obtain ⟨bsn, hdn⟩ := ho.hd
  have hlG := hdn.rd.1
  obtain ⟨bsw, hdw⟩ := (S7.ownI 1 rfl).hd
  have hlW := hdw.rd.1
  obtain rfl : nW = nG := by omega
  have S8 : Scene w w4 [(.ints .u8 xs0, .slice A0 n0 c0)] [⟨.ints .i64 (rcL xs0), .slice G nW cG, w3.heap.size, w4.heap.size⟩, ⟨.ints .u8 xs0, .slice X0 n0 n0, w2.heap.size + 1, w3.heap.size⟩, ⟨.ints .i64 (rcL xs0), .slice W nW cW, w1.heap.size, w2.heap.size⟩] [(w2.heap.size, [.int .i64 (rcC xs0), .slice W nW cW])] := Scene.addOwn S7 ho (by have := S7.bel.size; omega) (Nat.le_refl _)
  clear ho hb hdn hdw hlW hlG S7
  clear x0_0 x0_1 z0
  have x0_0 : w4.cell? ⟨w2.heap.size, 0, none⟩ = some (.int .i64 (rcC xs0)) := S8.boxI 0 0 rfl rfl
  have x0_1 : w4.cell? ⟨w2.heap.size, 1, none⟩ = some (.slice W nW cW) := S8.boxI 0 1 rfl rfl
  have z0 : w2.heap.size < w4.heap.size := cell_lt x0_0
  have S9 : Scene w (w4.alloc (.cells #[.int .i64 (rcC xs0), .slice G nW cG] 50)) [(.ints .u8 xs0, .slice A0 n0 c0)] [⟨.ints .i64 (rcL xs0), .slice G nW cG, w3.heap.size, w4.heap.size⟩, ⟨.ints .u8 xs0, .slice X0 n0 n0, w2.heap.size + 1, w3.heap.size⟩, ⟨.ints .i64 (rcL xs0), .slice W nW cW, w1.heap.size, w2.heap.size⟩] [(w4.heap.size, [.int .i64 (rcC xs0), .slice G nW cG]), (w2.heap.size, [.int .i64 (rcC xs0), .slice W nW cW])] := Scene.addBox S8 [.int .i64 (rcC xs0), .slice G nW cG] 50
  clear S8
  go_wp2_with fail
  obtain ⟨bsx, hdx⟩ := (S9.ownI 0 rfl).hd
  obtain ⟨bsy, hdy⟩ := (S9.ownI 2 rfl).hd
  refine (eqCurveResult_same _ _ _ _ _ _ _ (rcL xs0) _ hdx.rd hdy.rd (by omega)).mono ?_
  rintro e w5 ⟨rfl, hb⟩
  have i5 := Below.size hb
  try simp only [World.size_alloc] at i5
  have S10 : Scene w w5 [(.ints .u8 xs0, .slice A0 n0 c0)] [⟨.ints .i64 (rcL xs0), .slice G nW cG, w3.heap.size, w4.heap.size⟩, ⟨.ints .u8 xs0, .slice X0 n0 n0, w2.heap.size + 1, w3.heap.size⟩, ⟨.ints .i64 (rcL xs0), .slice W nW cW, w1.heap.size, w2.heap.size⟩] [(w4.heap.size, [.int .i64 (rcC xs0), .slice G nW cG]), (w2.heap.size, [.int .i64 (rcC xs0), .slice W nW cW])] := Scene.below S9 hb
  clear hb hdx hdy
  clear x0_0 x0_1 z0
  have x0_0 : w5.cell? ⟨w4.heap.size, 0, none⟩ = some (.int .i64 (rcC xs0)) := S10.boxI 0 0 rfl rfl
  have x0_1 : w5.cell? ⟨w4.heap.size, 1, none⟩ = some (.slice G nW cG) := S10.boxI 0 1 rfl rfl
  have z0 : w4.heap.size < w5.heap.size := cell_lt x0_0
  have x1_0 : w5.cell? ⟨w2.heap.size, 0, none⟩ = some (.int .i64 (rcC xs0)) := S10.boxI 1 0 rfl rfl
  have x1_1 : w5.cell? ⟨w2.heap.size, 1, none⟩ = some (.slice W nW cW) := S10.boxI 1 1 rfl rfl
  have z1 : w2.heap.size < w5.heap.size := cell_lt x1_0
  go_wp2_with fail
  obtain ⟨bsa0, hda0⟩ := S10.argI 0 rfl
  refine (toByteS_any A0 n0 c0 xs0 _ hda0.rd (by omega)).mono ?_
  rintro e w6 ⟨Y0, rfl, ho, hb⟩
  have i6 := Below.size hb
  try simp only [World.size_alloc] at i6
  have S11 : Scene w w6 [(.ints .u8 xs0, .slice A0 n0 c0)] [⟨.ints .i64 (rcL xs0), .slice G nW cG, w3.heap.size, w4.heap.size⟩, ⟨.ints .u8 xs0, .slice X0 n0 n0, w2.heap.size + 1, w3.heap.size⟩, ⟨.ints .i64 (rcL xs0), .slice W nW cW, w1.heap.size, w2.heap.size⟩] [(w4.heap.size, [.int .i64 (rcC xs0), .slice G nW cG]), (w2.heap.size, [.int .i64 (rcC xs0), .slice W nW cW])] := Scene.below S10 hb
  obtain ⟨dsy, ddy⟩ := ho.hd
  have DY := Lib.hid ddy
  clear ho hb ddy hda0
  clear x0_0 x0_1 z0 x1_0 x1_1 z1
  have x0_0 : w6.cell? ⟨w4.heap.size, 0, none⟩ = some (.int .i64 (rcC xs0)) := S11.boxI 0 0 rfl rfl
  have x0_1 : w6.cell? ⟨w4.heap.size, 1, none⟩ = some (.slice G nW cG) := S11.boxI 0 1 rfl rfl
  have z0 : w4.heap.size < w6.heap.size := cell_lt x0_0
  have x1_0 : w6.cell? ⟨w2.heap.size, 0, none⟩ = some (.int .i64 (rcC xs0)) := S11.boxI 1 0 rfl rfl
  have x1_1 : w6.cell? ⟨w2.heap.size, 1, none⟩ = some (.slice W nW cW) := S11.boxI 1 1 rfl rfl
  have z1 : w2.heap.size < w6.heap.size := cell_lt x1_0
  go_wp2_with fail
  obtain ⟨bst, hdt⟩ := (S11.ownI 1 rfl).hd
  refine (eqByteS_same _ _ _ _ _ xs0 _ hdt.rd DY.out.rd (by omega)).mono ?_
  rintro e w7 ⟨rfl, m7, rfl⟩
  have S12 : Scene w (w6.drewN m7) [(.ints .u8 xs0, .slice A0 n0 c0)] [⟨.ints .i64 (rcL xs0), .slice G nW cG, w3.heap.size, w4.heap.size⟩, ⟨.ints .u8 xs0, .slice X0 n0 n0, w2.heap.size + 1, w3.heap.size⟩, ⟨.ints .i64 (rcL xs0), .slice W nW cW, w1.heap.size, w2.heap.size⟩] [(w4.heap.size, [.int .i64 (rcC xs0), .slice G nW cG]), (w2.heap.size, [.int .i64 (rcC xs0), .slice W nW cW])] := Scene.below S11 (below_drewN _ _ _)
  clear S11
  clear hdt DY
  clear x0_0 x0_1 z0 x1_0 x1_1 z1
  have x0_0 : (w6.drewN m7).cell? ⟨w4.heap.size, 0, none⟩ = some (.int .i64 (rcC xs0)) := S12.boxI 0 0 rfl rfl
  have x0_1 : (w6.drewN m7).cell? ⟨w4.heap.size, 1, none⟩ = some (.slice G nW cG) := S12.boxI 0 1 rfl rfl
  have z0 : w4.heap.size < (w6.drewN m7).heap.size := cell_lt x0_0
  have x1_0 : (w6.drewN m7).cell? ⟨w2.heap.size, 0, none⟩ = some (.int .i64 (rcC xs0)) := S12.boxI 1 0 rfl rfl
  have x1_1 : (w6.drewN m7).cell? ⟨w2.heap.size, 1, none⟩ = some (.slice W nW cW) := S12.boxI 1 1 rfl rfl
  have z1 : w2.heap.size < (w6.drewN m7).heap.size := cell_lt x1_0
  go_wp2_with fail
  obtain ⟨bsm, hdm, ndm, inm⟩ := S12.ownI 1 rfl
  refine (markByteS_any _ _ _ 1 _ bsm _ hdm (by omega) (by omega) (by omega) (fun b hb => (inm b hb).2.2)).mono ?_
  rintro e w8 ⟨rfl, hdm2, hchm⟩
  have sz8 := hchm.size
  have S13 : Scene w w8 [(.ints .u8 xs0, .slice A0 n0 c0)] [⟨.ints .u8 (marks 1 n0), .slice X0 n0 n0, w2.heap.size + 1, w3.heap.size⟩, ⟨.ints .i64 (rcL xs0), .slice G nW cG, w3.heap.size, w4.heap.size⟩, ⟨.ints .i64 (rcL xs0), .slice W nW cW, w1.heap.size, w2.heap.size⟩] [(w4.heap.size, [.int .i64 (rcC xs0), .slice G nW cG]), (w2.heap.size, [.int .i64 (rcC xs0), .slice W nW cW])] := Scene.turn (lo := w2.heap.size + 1) (hi := w3.heap.size) (os' := [⟨.ints .i64 (rcL xs0), .slice G nW cG, w3.heap.size, w4.heap.size⟩, ⟨.ints .i64 (rcL xs0), .slice W nW cW, w1.heap.size, w2.heap.size⟩]) S12 hchm (fun k hk => ⟨(inm k hk).1, (inm k hk).2.1⟩) (by have := S12.bel.size; omega) (S12.own _ (List.mem_of_getElem? (i := 1) rfl)).2.2
    ⟨bsm, hdm2, ndm, fun b hb => ⟨(inm b hb).1, (inm b hb).2.1, (inm b hb).2.2.ch hchm (hdm.lt b hb)⟩⟩ (by simp; try omega) (by simp; try omega)
  clear hdm ndm inm hdm2 hchm S12
  clear x0_0 x0_1 z0 x1_0 x1_1 z1
  have x0_0 : w8.cell? ⟨w4.heap.size, 0, none⟩ = some (.int .i64 (rcC xs0)) := S13.boxI 0 0 rfl rfl
  have x0_1 : w8.cell? ⟨w4.heap.size, 1, none⟩ = some (.slice G nW cG) := S13.boxI 0 1 rfl rfl
  have z0 : w4.heap.size < w8.heap.size := cell_lt x0_0
  have x1_0 : w8.cell? ⟨w2.heap.size, 0, none⟩ = some (.int .i64 (rcC xs0)) := S13.boxI 1 0 rfl rfl
  have x1_1 : w8.cell? ⟨w2.heap.size, 1, none⟩ = some (.slice W nW cW) := S13.boxI 1 1 rfl rfl
  have z1 : w2.heap.size < w8.heap.size := cell_lt x1_0
  go_wp2_with fail
  obtain ⟨bsx, hdx⟩ := (S13.ownI 1 rfl).hd
  obtain ⟨bsy, hdy⟩ := (S13.ownI 2 rfl).hd
  refine (eqCurveResult_same _ _ _ _ _ _ _ (rcL xs0) _ hdx.rd hdy.rd (by omega)).mono ?_
  rintro e w9 ⟨rfl, hb⟩
  have i9 := Below.size hb
  try simp only [World.size_alloc] at i9
  have S14 : Scene w w9 [(.ints .u8 xs0, .slice A0 n0 c0)] [⟨.ints .u8 (marks 1 n0), .slice X0 n0 n0, w2.heap.size + 1, w3.heap.size⟩, ⟨.ints .i64 (rcL xs0), .slice G nW cG, w3.heap.size, w4.heap.size⟩, ⟨.ints .i64 (rcL xs0), .slice W nW cW, w1.heap.size, w2.heap.size⟩] [(w4.heap.size, [.int .i64 (rcC xs0), .slice G nW cG]), (w2.heap.size, [.int .i64 (rcC xs0), .slice W nW cW])] := Scene.below S13 hb
  clear hb hdx hdy
  clear x0_0 x0_1 z0 x1_0 x1_1 z1
  have x0_0 : w9.cell? ⟨w4.heap.size, 0, none⟩ = some (.int .i64 (rcC xs0)) := S14.boxI 0 0 rfl rfl
  have x0_1 : w9.cell? ⟨w4.heap.size, 1, none⟩ = some (.slice G nW cG) := S14.boxI 0 1 rfl rfl
  have z0 : w4.heap.size < w9.heap.size := cell_lt x0_0
  have x1_0 : w9.cell? ⟨w2.heap.size, 0, none⟩ = some (.int .i64 (rcC xs0)) := S14.boxI 1 0 rfl rfl
  have x1_1 : w9.cell? ⟨w2.heap.size, 1, none⟩ = some (.slice W nW cW) := S14.boxI 1 1 rfl rfl
  have z1 : w2.heap.size < w9.heap.size := cell_lt x1_0
  go_wp2_with fail
  obtain ⟨bsm, hdm, ndm, inm⟩ := S14.ownI 1 rfl
  refine (markCurveResult_any _ _ _ _ 1 _ bsm _ hdm (fun b hb => (inm b hb).2.2) (by omega) (by omega) (by omega)).mono ?_
  rintro e w10 ⟨rfl, hdm2, hchm⟩
  have sz10 := hchm.size
  have S15 : Scene w w10 [(.ints .u8 xs0, .slice A0 n0 c0)] [⟨.ints .i64 (imarks 1 nW), .slice G nW cG, w3.heap.size, w4.heap.size⟩, ⟨.ints .u8 (marks 1 n0), .slice X0 n0 n0, w2.heap.size + 1, w3.heap.size⟩, ⟨.ints .i64 (rcL xs0), .slice W nW cW, w1.heap.size, w2.heap.size⟩] [(w4.heap.size, [.int .i64 (rcC xs0), .slice G nW cG]), (w2.heap.size, [.int .i64 (rcC xs0), .slice W nW cW])] := Scene.turn (lo := w3.heap.size) (hi := w4.heap.size) (os' := [⟨.ints .u8 (marks 1 n0), .slice X0 n0 n0, w2.heap.size + 1, w3.heap.size⟩, ⟨.ints .i64 (rcL xs0), .slice W nW cW, w1.heap.size, w2.heap.size⟩]) S14 hchm (fun k hk => ⟨(inm k hk).1, (inm k hk).2.1⟩) (by have := S14.bel.size; omega) (S14.own _ (List.mem_of_getElem? (i := 1) rfl)).2.2
    ⟨bsm, hdm2, ndm, fun b hb => ⟨(inm b hb).1, (inm b hb).2.1, (inm b hb).2.2.ch hchm (hdm.lt b hb)⟩⟩ (by simp; try omega) (by simp; try omega)
  clear hdm ndm inm hdm2 hchm S14
  clear x0_0 x0_1 z0 x1_0 x1_1 z1
  have x0_0 : w10.cell? ⟨w4.heap.size, 0, none⟩ = some (.int .i64 (rcC xs0)) := S15.boxI 0 0 rfl rfl
  have x0_1 : w10.cell? ⟨w4.heap.size, 1, none⟩ = some (.slice G nW cG) := S15.boxI 0 1 rfl rfl
  have z0 : w4.heap.size < w10.heap.size := cell_lt x0_0
  have x1_0 : w10.cell? ⟨w2.heap.size, 0, none⟩ = some (.int .i64 (rcC xs0)) := S15.boxI 1 0 rfl rfl
  have x1_1 : w10.cell? ⟨w2.heap.size, 1, none⟩ = some (.slice W nW cW) := S15.boxI 1 1 rfl rfl
  have z1 : w2.heap.size < w10.heap.size := cell_lt x1_0
  go_wp2_with fail
  obtain ⟨bsh, hdh⟩ := (S15.ownI 0 rfl).hd
  refine (heldCurveResult_any _ _ _ _ 1 _ hdh.rd (by omega) (by omega) (by omega)).mono ?_
  rintro e w11 ⟨rfl, hb⟩
  have i11 := Below.size hb
  try simp only [World.size_alloc] at i11
  have S16 : Scene w w11 [(.ints .u8 xs0, .slice A0 n0 c0)] [⟨.ints .i64 (imarks 1 nW), .slice G nW cG, w3.heap.size, w4.heap.size⟩, ⟨.ints .u8 (marks 1 n0), .slice X0 n0 n0, w2.heap.size + 1, w3.heap.size⟩, ⟨.ints .i64 (rcL xs0), .slice W nW cW, w1.heap.size, w2.heap.size⟩] [(w4.heap.size, [.int .i64 (rcC xs0), .slice G nW cG]), (w2.heap.size, [.int .i64 (rcC xs0), .slice W nW cW])] := Scene.below S15 hb
  clear hb hdh
  have hneg : ¬ (1 + (nW : Int)) < 0 := by omega
  clear x0_0 x0_1 z0 x1_0 x1_1 z1
  have x0_0 : w11.cell? ⟨w4.heap.size, 0, none⟩ = some (.int .i64 (rcC xs0)) := S16.boxI 0 0 rfl rfl
  have x0_1 : w11.cell? ⟨w4.heap.size, 1, none⟩ = some (.slice G nW cG) := S16.boxI 0 1 rfl rfl
  have z0 : w4.heap.size < w11.heap.size := cell_lt x0_0
  have x1_0 : w11.cell? ⟨w2.heap.size, 0, none⟩ = some (.int .i64 (rcC xs0)) := S16.boxI 1 0 rfl rfl
  have x1_1 : w11.cell? ⟨w2.heap.size, 1, none⟩ = some (.slice W nW cW) := S16.boxI 1 1 rfl rfl
  have z1 : w2.heap.size < w11.heap.size := cell_lt x1_0
  go_wp2_with fail
  obtain ⟨bsa0, hda0⟩ := S16.argI 0 rfl
  refine (toByteS_any A0 n0 c0 xs0 _ hda0.rd (by omega)).mono ?_
  rintro e w12 ⟨B12, rfl, ho, hb⟩
  have i12 := Below.size hb
  try simp only [World.size_alloc] at i12
  have S17 : Scene w w12 [(.ints .u8 xs0, .slice A0 n0 c0)] [⟨.ints .i64 (imarks 1 nW), .slice G nW cG, w3.heap.size, w4.heap.size⟩, ⟨.ints .u8 (marks 1 n0), .slice X0 n0 n0, w2.heap.size + 1, w3.heap.size⟩, ⟨.ints .i64 (rcL xs0), .slice W nW cW, w1.heap.size, w2.heap.size⟩] [(w4.heap.size, [.int .i64 (rcC xs0), .slice G nW cG]), (w2.heap.size, [.int .i64 (rcC xs0), .slice W nW cW])] := Scene.below S16 hb
  obtain ⟨ds0, dd0⟩ := ho.hd
  have D0 := Lib.hid dd0
  clear ho hb dd0 hda0
  clear x0_0 x0_1 z0 x1_0 x1_1 z1
  have x0_0 : w12.cell? ⟨w4.heap.size, 0, none⟩ = some (.int .i64 (rcC xs0)) := S17.boxI 0 0 rfl rfl
  have x0_1 : w12.cell? ⟨w4.heap.size, 1, none⟩ = some (.slice G nW cG) := S17.boxI 0 1 rfl rfl
  have z0 : w4.heap.size < w12.heap.size := cell_lt x0_0
  have x1_0 : w12.cell? ⟨w2.heap.size, 0, none⟩ = some (.int .i64 (rcC xs0)) := S17.boxI 1 0 rfl rfl
  have x1_1 : w12.cell? ⟨w2.heap.size, 1, none⟩ = some (.slice W nW cW) := S17.boxI 1 1 rfl rfl
  have z1 : w2.heap.size < w12.heap.size := cell_lt x1_0
  go_wp2_with fail
  refine (ReadCurve_any B12 n0 n0 xs0 _ D0.out.rd HU0.out hm0).mono ?_
  rintro e w13 ⟨H, nH, cH, rfl, ho, hb⟩
  have i13 := Below.size hb
  try simp only [World.size_alloc] at i13
  have S18 : Scene w w13 [(.ints .u8 xs0, .slice A0 n0 c0)] [⟨.ints .i64 (imarks 1 nW), .slice G nW cG, w3.heap.size, w4.heap.size⟩, ⟨.ints .u8 (marks 1 n0), .slice X0 n0 n0, w2.heap.size + 1, w3.heap.size⟩, ⟨.ints .i64 (rcL xs0), .slice W nW cW, w1.heap.size, w2.heap.size⟩] [(w4.heap.size, [.int .i64 (rcC xs0), .slice G nW cG]), (w2.heap.size, [.int .i64 (rcC xs0), .slice W nW cW])] := Scene.below S17 hb
  clear D0
  obtain ⟨bsn, hdn⟩ := ho.hd
  have hlH := hdn.rd.1
  obtain ⟨bsw, hdw⟩ := (S18.ownI 2 rfl).hd
  have hlW := hdw.rd.1
  obtain rfl : nW = nH := by omega
  have S19 : Scene w w13 [(.ints .u8 xs0, .slice A0 n0 c0)] [⟨.ints .i64 (rcL xs0), .slice H nW cH, w12.heap.size, w13.heap.size⟩, ⟨.ints .i64 (imarks 1 nW), .slice G nW cG, w3.heap.size, w4.heap.size⟩, ⟨.ints .u8 (marks 1 n0), .slice X0 n0 n0, w2.heap.size + 1, w3.heap.size⟩, ⟨.ints .i64 (rcL xs0), .slice W nW cW, w1.heap.size, w2.heap.size⟩] [(w4.heap.size, [.int .i64 (rcC xs0), .slice G nW cG]), (w2.heap.size, [.int .i64 (rcC xs0), .slice W nW cW])] := Scene.addOwn S18 ho (by have := S18.bel.size; omega) (Nat.le_refl _)
  clear ho hb hdn hdw hlW hlH S18
  clear x0_0 x0_1 z0 x1_0 x1_1 z1
  have x0_0 : w13.cell? ⟨w4.heap.size, 0, none⟩ = some (.int .i64 (rcC xs0)) := S19.boxI 0 0 rfl rfl
  have x0_1 : w13.cell? ⟨w4.heap.size, 1, none⟩ = some (.slice G nW cG) := S19.boxI 0 1 rfl rfl
  have z0 : w4.heap.size < w13.heap.size := cell_lt x0_0
  have x1_0 : w13.cell? ⟨w2.heap.size, 0, none⟩ = some (.int .i64 (rcC xs0)) := S19.boxI 1 0 rfl rfl
  have x1_1 : w13.cell? ⟨w2.heap.size, 1, none⟩ = some (.slice W nW cW) := S19.boxI 1 1 rfl rfl
  have z1 : w2.heap.size < w13.heap.size := cell_lt x1_0
  have S20 : Scene w (w13.alloc (.cells #[.int .i64 (rcC xs0), .slice H nW cH] 50)) [(.ints .u8 xs0, .slice A0 n0 c0)] [⟨.ints .i64 (rcL xs0), .slice H nW cH, w12.heap.size, w13.heap.size⟩, ⟨.ints .i64 (imarks 1 nW), .slice G nW cG, w3.heap.size, w4.heap.size⟩, ⟨.ints .u8 (marks 1 n0), .slice X0 n0 n0, w2.heap.size + 1, w3.heap.size⟩, ⟨.ints .i64 (rcL xs0), .slice W nW cW, w1.heap.size, w2.heap.size⟩] [(w13.heap.size, [.int .i64 (rcC xs0), .slice H nW cH]), (w4.heap.size, [.int .i64 (rcC xs0), .slice G nW cG]), (w2.heap.size, [.int .i64 (rcC xs0), .slice W nW cW])] := Scene.addBox S19 [.int .i64 (rcC xs0), .slice H nW cH] 50
  clear S19
  go_wp2_with fail
  obtain ⟨bsx, hdx⟩ := (S20.ownI 0 rfl).hd
  obtain ⟨bsy, hdy⟩ := (S20.ownI 3 rfl).hd
  refine (eqCurveResult_same _ _ _ _ _ _ _ (rcL xs0) _ hdx.rd hdy.rd (by omega)).mono ?_
  rintro e w14 ⟨rfl, hb⟩
  have i14 := Below.size hb
  try simp only [World.size_alloc] at i14
  have S21 : Scene w w14 [(.ints .u8 xs0, .slice A0 n0 c0)] [⟨.ints .i64 (rcL xs0), .slice H nW cH, w12.heap.size, w13.heap.size⟩, ⟨.ints .i64 (imarks 1 nW), .slice G nW cG, w3.heap.size, w4.heap.size⟩, ⟨.ints .u8 (marks 1 n0), .slice X0 n0 n0, w2.heap.size + 1, w3.heap.size⟩, ⟨.ints .i64 (rcL xs0), .slice W nW cW, w1.heap.size, w2.heap.size⟩] [(w13.heap.size, [.int .i64 (rcC xs0), .slice H nW cH]), (w4.heap.size, [.int .i64 (rcC xs0), .slice G nW cG]), (w2.heap.size, [.int .i64 (rcC xs0), .slice W nW cW])] := Scene.below S20 hb
  clear hb hdx hdy
  clear x0_0 x0_1 z0 x1_0 x1_1 z1
  have x0_0 : w14.cell? ⟨w13.heap.size, 0, none⟩ = some (.int .i64 (rcC xs0)) := S21.boxI 0 0 rfl rfl
  have x0_1 : w14.cell? ⟨w13.heap.size, 1, none⟩ = some (.slice H nW cH) := S21.boxI 0 1 rfl rfl
  have z0 : w13.heap.size < w14.heap.size := cell_lt x0_0
  have x1_0 : w14.cell? ⟨w4.heap.size, 0, none⟩ = some (.int .i64 (rcC xs0)) := S21.boxI 1 0 rfl rfl
  have x1_1 : w14.cell? ⟨w4.heap.size, 1, none⟩ = some (.slice G nW cG) := S21.boxI 1 1 rfl rfl
  have z1 : w4.heap.size < w14.heap.size := cell_lt x1_0
  have x2_0 : w14.cell? ⟨w2.heap.size, 0, none⟩ = some (.int .i64 (rcC xs0)) := S21.boxI 2 0 rfl rfl
  have x2_1 : w14.cell? ⟨w2.heap.size, 1, none⟩ = some (.slice W nW cW) := S21.boxI 2 1 rfl rfl
  have z2 : w2.heap.size < w14.heap.size := cell_lt x2_0
  go_wp2_with fail
  obtain ⟨bsh, hdh⟩ := (S21.ownI 1 rfl).hd
  refine (heldCurveResult_any _ _ _ _ 1 _ hdh.rd (by omega) (by omega) (by omega)).mono ?_
  rintro e w15 ⟨rfl, hb⟩
  have i15 := Below.size hb
  try simp only [World.size_alloc] at i15
  have S22 : Scene w w15 [(.ints .u8 xs0, .slice A0 n0 c0)] [⟨.ints .i64 (rcL xs0), .slice H nW cH, w12.heap.size, w13.heap.size⟩, ⟨.ints .i64 (imarks 1 nW), .slice G nW cG, w3.heap.size, w4.heap.size⟩, ⟨.ints .u8 (marks 1 n0), .slice X0 n0 n0, w2.heap.size + 1, w3.heap.size⟩, ⟨.ints .i64 (rcL xs0), .slice W nW cW, w1.heap.size, w2.heap.size⟩] [(w13.heap.size, [.int .i64 (rcC xs0), .slice H nW cH]), (w4.heap.size, [.int .i64 (rcC xs0), .slice G nW cG]), (w2.heap.size, [.int .i64 (rcC xs0), .slice W nW cW])] := Scene.below S21 hb
  clear hb hdh
  have HB := Lib.hid S22.bel
  clear S22
  clear x0_0 x0_1 z0 x1_0 x1_1 z1 x2_0 x2_1 z2
  go_wp2_with fail
  go_ret
  exact ⟨rfl, HB.out⟩

set_option maxRecDepth 100000 in
theorem lifted (os : Os) (started : os.Started) (H : Type) (enc : TypeId × Value → H) :
    ReturnsInHanded {} Try.checked os 13 .any (Rows.fnExactReadCurveSpec.pre6 enc Try.prog Try.f13 Rows.fnExactReadCurveRow.domain false) (Rows.fnExactReadCurveSpec.post enc Try.prog Try.f13 false true false false) := by
  refine returnsInHanded_of_change (C := Try.checked) own started (by kernel_rfl) Try.func13
    (ChangeSpec.witness6 (enc := enc) (C := Try.checked) false ⟨#[], #[.slice none 0 0], []⟩ 8 (by kernel_rfl) (by kernel_rfl) (by kernel_rfl) (by kernel_rfl)) ?_
  intro W base args ds gs before hval0 hW hcnd _
  have hval : ∀ (j : Nat) t v, Try.f13.params[j]? = some t → args[j]? = some v → Value.okWide Try.prog W .any base t v := hval0
  have hW' := hW
  obtain ⟨p, q, hA0, hV0, rfl, hfz, hnd⟩ := hW
  have hA : DataW.TrodAll enc Try.prog W 0 (fun _ => true) true Try.f13.params.toList args.toList ds p := hA0
  have hV : DataW.TrodVars enc Try.prog W (fun _ => true) [] gs q := hV0
  rw [Try.params13] at hA hval
  obtain ⟨v0, vs0, d0, ds0, p0, q0, hargs, rfl, rfl, h0, r0⟩ := trodAll_cons hA
  obtain ⟨rfl, rfl, rfl⟩ := trodAll_nil r0
  obtain rfl : args = #[v0] := by cases args; simp_all
  obtain ⟨rfl, rfl⟩ : gs = [] ∧ q = [] := by
    cases gs with
    | nil => exact ⟨rfl, hV⟩
    | cons g r => exact absurd hV (by intro h; cases h)
  have k0 := h0
  have lt0 : ∀ x ∈ p0, x.block < W.heap.size := by obtain ⟨m, hm⟩ := k0; exact DataW.trod_lt m _ _ _ hm
  obtain ⟨a0, n0, c0, xs0, bs0, rfl, hd0, u0⟩ := open_bytes (hval 0 22 v0 rfl rfl) h0
  clear hA0 hval0
  refine (walk a0 n0 c0 xs0 bs0 W hd0 u0).mono fun e W' ⟨he, bel⟩ => ?_
  subst he
  exact ⟨_, rfl, _, _, _, [], _, [], hW', trodAll_mk1 (shut_bool Try.underlying4 _), (trodAll_cons_mk (Below.trod laidOut (by kernel_rfl) (of_decide_eq_true (by kernel_rfl)) k0 bel lt0) trodAll_mk0), rfl, bel.frame _, fun h => by cases h⟩

theorem row_holds : Rows.FnExactReadCurveSaid :=
  OpenClaim.holds_of_wide 13 Try.f13 rfl rfl rfl rfl rfl rfl rfl ⟨rfl, rfl, rfl, rfl, rfl⟩ rfl rfl rfl rfl rfl (by kernel_rfl) Try.func13 (by kernel_rfl)
    (of_decide_eq_true (by kernel_rfl)) (by unfold Func.isWrapper; rw [if_neg (of_decide_eq_false (by kernel_rfl))]; exact ⟨rfl, rfl⟩)
    (fun os started H enc _ => lifted os started H enc)

theorem proved : Rows.FnExactReadCurveSaid := row_holds
#print axioms proved

end Go.Proofs.Ythmgbegbjifngaa.lExactReadCurve
