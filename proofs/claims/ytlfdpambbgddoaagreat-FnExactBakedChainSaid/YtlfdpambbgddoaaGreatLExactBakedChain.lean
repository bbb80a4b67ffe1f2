/-
  Proved: at every chain and number the Go function BakedChain answers as its reference model does, every field, in new memory, and changes nothing of them (the law FnExactBakedChain returns true), and the arguments read afterwards as they read before. Conditions: none.
-/
import Derived.Test.YtlfdpambbgddoaaGreatOpenA
import Derived.Test.YtlfdpambbgddoaaGreatHelpSt
import Derived.Test.YtlfdpambbgddoaaGreatMrkA
import Derived.Test.YtlfdpambbgddoaaGreatHelpCn
import Derived.Test.YtlfdpambbgddoaaGreatBakG
import Derived.Test.YtlfdpambbgddoaaGreatSceneM
import Derived.Test.YtlfdpambbgddoaaGreatBaseA
import Derived.Deep.RegionHeld3
import Derived.Deep.CutRange
namespace Go.Proofs.YtlfdpambbgddoaaGreat.lExactBakedChain
open Go.ChangeShapes Go.WideShapes Go.ChangeAt Go.RowKit
set_option linter.unusedVariables false
set_option linter.unusedSimpArgs false

set_option maxRecDepth 100000 in
set_option maxHeartbeats 4000000 in
theorem walk (A0 : Option Addr) (n0 c0 : Nat) (xs0 : List Stg) (bs0 : List Nat) (a1 : Int) (w : World) (h0 : Hd w (chD xs0) (.slice A0 n0 c0) bs0) (u0 : I64C xs0) (h1 : (Lit.int .i64 a1).wf = true) :
    Calls Tryz.prog 5 #[.agg #[.slice A0 n0 c0], .int .i64 a1] w fun e w' => e = .returned (.bool true) ∧ Below w.heap.size w w' := by
  have hm0 := h0.caps.2
  have hnc0 := h0.caps.1
  have HU0 := Lib.hid u0
  have HL0 := Lib.hid h0.stgs.1
  have b1 := bounds_i64 h1
  clear h1
  have S0 : Scene w w [(chD xs0, .slice A0 n0 c0)] [] [] := Scene.start w _ (by intro p hp; simp only [List.mem_cons, List.not_mem_nil, or_false] at hp; rcases hp with rfl <;> first | exact ⟨_, h0⟩)
  have S1 : Scene w (w.alloc (.cells #[.slice A0 n0 c0] 24)) [(chD xs0, .slice A0 n0 c0)] [] [(w.heap.size, [.slice A0 n0 c0])] := by have q := Scene.addBox S0 [.slice A0 n0 c0] 24; simpa only [World.size_alloc, List.length_cons, Nat.add_assoc] using q
  clear h0 u0
  have hxl := bcC_len xs0 a1
  have HM : Hid ((1000000000000 : Nat) ≤ maxLen) := by show _ ≤ _; unfold maxLen; omega
  go_enter Tryz.func5, Tryz.ntmps5
  go_wp2_with fail
  obtain ⟨bsa0, hda0⟩ := S1.argI 0 rfl
  refine (szChain_any A0 n0 c0 xs0 _ _ _ hda0 (by omega) (by omega)).mono ?_
  rintro e w1 ⟨r0, rfl, hr10, hr20, hr30, hb0⟩
  have i1 := Below.size hb0
  try simp only [World.size_alloc] at i1
  have S2 : Scene w w1 [(chD xs0, .slice A0 n0 c0)] [] [(w.heap.size, [.slice A0 n0 c0])] := Scene.below S1 hb0
  have HR0 := Lib.hid hr30
  clear hr30 hb0
  by_cases hr0 : r0 < 0
  · go_wp2_with fail
    go_ret
    exact ⟨rfl, S2.bel⟩
  have hn0 := Lib.hid (HR0.out (by omega))
  clear HR0 hda0
  have hq0 : n0 ≤ 1048576 := by have := hn0.out.1; rw [HL0.out] at this; exact this
  have x0_0 : w1.cell? ⟨w.heap.size, 0, none⟩ = some (.slice A0 n0 c0) := S2.boxI 0 0 rfl rfl
  have z0 : w.heap.size < w1.heap.size := cell_lt x0_0
  go_wp2_with fail
  obtain ⟨bsa0, hda0⟩ := S2.argI 0 rfl
  refine (toChain_any A0 n0 c0 xs0 _ _ hda0 hn0.out).mono ?_
  rintro e w2 ⟨B2, rfl, ho, hb⟩
  have i2 := Below.size hb
  try simp only [World.size_alloc] at i2
  have S3 : Scene w w2 [(chD xs0, .slice A0 n0 c0)] [] [(w.heap.size, [.slice A0 n0 c0])] := Scene.below S2 hb
  obtain ⟨ds0, dd0⟩ := ho.hd
  have D0 := Lib.hid dd0
  clear ho hb dd0 hda0
  clear x0_0 z0
  have x0_0 : w2.cell? ⟨w.heap.size, 0, none⟩ = some (.slice A0 n0 c0) := S3.boxI 0 0 rfl rfl
  have z0 : w.heap.size < w2.heap.size := cell_lt x0_0
  go_wp2_with fail
  refine (sBakedChain_any B2 n0 n0 xs0 _ a1 _ D0.out).mono ?_
  rintro e w3 ⟨W, nW, cW, rfl, ho, hb⟩
  have i3 := Below.size hb
  try simp only [World.size_alloc] at i3
  have S4 : Scene w w3 [(chD xs0, .slice A0 n0 c0)] [] [(w.heap.size, [.slice A0 n0 c0])] := Scene.below S3 hb
  clear D0
  obtain ⟨bsn, hdn⟩ := ho.hd
  have hlW := hdn.stgs.1
  have hnW : nW ≤ 5 := by omega
  have S5 : Scene w w3 [(chD xs0, .slice A0 n0 c0)] [⟨chD (bcC xs0 a1), .slice W nW cW, w2.heap.size, w3.heap.size⟩] [(w.heap.size, [.slice A0 n0 c0])] := Scene.addOwn S4 ho (by have := S4.bel.size; omega) (Nat.le_refl _)
  clear ho hb hdn hlW S4
  clear x0_0 z0
  have x0_0 : w3.cell? ⟨w.heap.size, 0, none⟩ = some (.slice A0 n0 c0) := S5.boxI 0 0 rfl rfl
  have z0 : w.heap.size < w3.heap.size := cell_lt x0_0
  have S6 : Scene w (w3.alloc (.cells #[.int .i64 (bkC xs0 a1), .slice W nW cW] 50)) [(chD xs0, .slice A0 n0 c0)] [⟨chD (bcC xs0 a1), .slice W nW cW, w2.heap.size, w3.heap.size⟩] [(w3.heap.size, [.int .i64 (bkC xs0 a1), .slice W nW cW]), (w.heap.size, [.slice A0 n0 c0])] := Scene.addBox S5 [.int .i64 (bkC xs0 a1), .slice W nW cW] 50
  clear S5
  go_wp2_with fail
  obtain ⟨bsa0, hda0⟩ := S6.argI 0 rfl
  refine (toChain_any A0 n0 c0 xs0 _ _ hda0 hn0.out).mono ?_
  rintro e w4 ⟨X0, rfl, ho, hb⟩
  have i4 := Below.size hb
  try simp only [World.size_alloc] at i4
  have S7 : Scene w w4 [(chD xs0, .slice A0 n0 c0)] [⟨chD (bcC xs0 a1), .slice W nW cW, w2.heap.size, w3.heap.size⟩] [(w3.heap.size, [.int .i64 (bkC xs0 a1), .slice W nW cW]), (w.heap.size, [.slice A0 n0 c0])] := Scene.below S6 hb
  have S8 : Scene w w4 [(chD xs0, .slice A0 n0 c0)] [⟨chD xs0, .slice X0 n0 n0, w3.heap.size + 1, w4.heap.size⟩, ⟨chD (bcC xs0 a1), .slice W nW cW, w2.heap.size, w3.heap.size⟩] [(w3.heap.size, [.int .i64 (bkC xs0 a1), .slice W nW cW]), (w.heap.size, [.slice A0 n0 c0])] := Scene.addOwn S7 (ho.mono (by simp) (Nat.le_refl _)) (by have := S7.bel.size; omega) (Nat.le_refl _)
  clear ho hb hda0 S7
  clear x0_0 z0
  have x0_0 : w4.cell? ⟨w3.heap.size, 0, none⟩ = some (.int .i64 (bkC xs0 a1)) := S8.boxI 0 0 rfl rfl
  have x0_1 : w4.cell? ⟨w3.heap.size, 1, none⟩ = some (.slice W nW cW) := S8.boxI 0 1 rfl rfl
  have z0 : w3.heap.size < w4.heap.size := cell_lt x0_0
  have x1_0 : w4.cell? ⟨w.heap.size, 0, none⟩ = some (.slice A0 n0 c0) := S8.boxI 1 0 rfl rfl
  have z1 : w.heap.size < w4.heap.size := cell_lt x1_0
  have S9 : Scene w (w4.alloc (.cells #[.slice X0 n0 n0] 34)) [(chD xs0, .slice A0 n0 c0)] [⟨chD xs0, .slice X0 n0 n0, w3.heap.size + 1, w4.heap.size⟩, ⟨chD (bcC xs0 a1), .slice W nW cW, w2.heap.size, w3.heap.size⟩] [(w4.heap.size, [.slice X0 n0 n0]), (w3.heap.size, [.int .i64 (bkC xs0 a1), .slice W nW cW]), (w.heap.size, [.slice A0 n0 c0])] := Scene.addBox S8 [.slice X0 n0 n0] 34
  clear S8
  go_wp2_with fail
  obtain ⟨dx0, hx0⟩ := (S9.ownI 0 rfl).hd
  refine (BakedChain_any X0 n0 n0 xs0 _ a1 _ hx0).mono ?_
  rintro e w5 ⟨G, nG, cG, rfl, ho, hb⟩
  replace ho := ho.mono (lo' := w4.heap.size + 1) (by simp) (Nat.le_refl _)
  have i5 := Below.size hb
  try simp only [World.size_alloc] at i5
  have S10 : Scene w w5 [(chD xs0, .slice A0 n0 c0)] [⟨chD xs0, .slice X0 n0 n0, w3.heap.size + 1, w4.heap.size⟩, ⟨chD (bcC xs0 a1), .slice W nW cW, w2.heap.size, w3.heap.size⟩] [(w4.heap.size, [.slice X0 n0 n0]), (w3.heap.size, [.int .i64 (bkC xs0 a1), .slice W nW cW]), (w.heap.size, [.slice A0 n0 c0])] := Scene.below S9 hb
  clear hx0
  obtain ⟨bsn, hdn⟩ := ho.hd
  have hlG := hdn.stgs.1
  obtain ⟨bsw, hdw⟩ := (S10.ownI 1 rfl).hd
  have hlW := hdw.stgs.1
  obtain rfl : nW = nG := by omega
  have S11 : Scene w w5 [(chD xs0, .slice A0 n0 c0)] [⟨chD (bcC xs0 a1), .slice G nW cG, w4.heap.size + 1, w5.heap.size⟩, ⟨chD xs0, .slice X0 n0 n0, w3.heap.size + 1, w4.heap.size⟩, ⟨chD (bcC xs0 a1), .slice W nW cW, w2.heap.size, w3.heap.size⟩] [(w4.heap.size, [.slice X0 n0 n0]), (w3.heap.size, [.int .i64 (bkC xs0 a1), .slice W nW cW]), (w.heap.size, [.slice A0 n0 c0])] := Scene.addOwn S10 ho (by have := S10.bel.size; omega) (Nat.le_refl _)
  clear ho hb hdn hdw hlW hlG S10
  clear x0_0 x0_1 z0 x1_0 z1
  have x0_0 : w5.cell? ⟨w4.heap.size, 0, none⟩ = some (.slice X0 n0 n0) := S11.boxI 0 0 rfl rfl
  have z0 : w4.heap.size < w5.heap.size := cell_lt x0_0
  have x1_0 : w5.cell? ⟨w3.heap.size, 0, none⟩ = some (.int .i64 (bkC xs0 a1)) := S11.boxI 1 0 rfl rfl
  have x1_1 : w5.cell? ⟨w3.heap.size, 1, none⟩ = some (.slice W nW cW) := S11.boxI 1 1 rfl rfl
  have z1 : w3.heap.size < w5.heap.size := cell_lt x1_0
  have x2_0 : w5.cell? ⟨w.heap.size, 0, none⟩ = some (.slice A0 n0 c0) := S11.boxI 2 0 rfl rfl
  have z2 : w.heap.size < w5.heap.size := cell_lt x2_0
  have S12 : Scene w (w5.alloc (.cells #[.int .i64 (bkC xs0 a1), .slice G nW cG] 50)) [(chD xs0, .slice A0 n0 c0)] [⟨chD (bcC xs0 a1), .slice G nW cG, w4.heap.size + 1, w5.heap.size⟩, ⟨chD xs0, .slice X0 n0 n0, w3.heap.size + 1, w4.heap.size⟩, ⟨chD (bcC xs0 a1), .slice W nW cW, w2.heap.size, w3.heap.size⟩] [(w5.heap.size, [.int .i64 (bkC xs0 a1), .slice G nW cG]), (w4.heap.size, [.slice X0 n0 n0]), (w3.heap.size, [.int .i64 (bkC xs0 a1), .slice W nW cW]), (w.heap.size, [.slice A0 n0 c0])] := Scene.addBox S11 [.int .i64 (bkC xs0 a1), .slice G nW cG] 50
  clear S11
  go_wp2_with fail
  obtain ⟨bsx, hdx⟩ := (S12.ownI 0 rfl).hd
  obtain ⟨bsy, hdy⟩ := (S12.ownI 2 rfl).hd
  refine (eqChainResult_same _ _ _ _ _ _ _ (bcC xs0 a1) _ _ _ hdx hdy (bcC_small xs0 a1)).mono ?_
  rintro e w6 ⟨rfl, hb⟩
  have i6 := Below.size hb
  try simp only [World.size_alloc] at i6
  have S13 : Scene w w6 [(chD xs0, .slice A0 n0 c0)] [⟨chD (bcC xs0 a1), .slice G nW cG, w4.heap.size + 1, w5.heap.size⟩, ⟨chD xs0, .slice X0 n0 n0, w3.heap.size + 1, w4.heap.size⟩, ⟨chD (bcC xs0 a1), .slice W nW cW, w2.heap.size, w3.heap.size⟩] [(w5.heap.size, [.int .i64 (bkC xs0 a1), .slice G nW cG]), (w4.heap.size, [.slice X0 n0 n0]), (w3.heap.size, [.int .i64 (bkC xs0 a1), .slice W nW cW]), (w.heap.size, [.slice A0 n0 c0])] := Scene.below S12 hb
  clear hb hdx hdy
  clear x0_0 z0 x1_0 x1_1 z1 x2_0 z2
  have x0_0 : w6.cell? ⟨w5.heap.size, 0, none⟩ = some (.int .i64 (bkC xs0 a1)) := S13.boxI 0 0 rfl rfl
  have x0_1 : w6.cell? ⟨w5.heap.size, 1, none⟩ = some (.slice G nW cG) := S13.boxI 0 1 rfl rfl
  have z0 : w5.heap.size < w6.heap.size := cell_lt x0_0
  have x1_0 : w6.cell? ⟨w4.heap.size, 0, none⟩ = some (.slice X0 n0 n0) := S13.boxI 1 0 rfl rfl
  have z1 : w4.heap.size < w6.heap.size := cell_lt x1_0
  have x2_0 : w6.cell? ⟨w3.heap.size, 0, none⟩ = some (.int .i64 (bkC xs0 a1)) := S13.boxI 2 0 rfl rfl
  have x2_1 : w6.cell? ⟨w3.heap.size, 1, none⟩ = some (.slice W nW cW) := S13.boxI 2 1 rfl rfl
  have z2 : w3.heap.size < w6.heap.size := cell_lt x2_0
  have x3_0 : w6.cell? ⟨w.heap.size, 0, none⟩ = some (.slice A0 n0 c0) := S13.boxI 3 0 rfl rfl
  have z3 : w.heap.size < w6.heap.size := cell_lt x3_0
  go_wp2_with fail
  go_region_held3 (fun w' => w'.cell? ⟨w5.heap.size, 0, none⟩ = some (.int .i64 (bkC xs0 a1)) ∧ w'.cell? ⟨w5.heap.size, 1, none⟩ = some (.slice G nW cG) ∧ w'.cell? ⟨w4.heap.size, 0, none⟩ = some (.slice X0 n0 n0) ∧ w'.cell? ⟨w3.heap.size, 0, none⟩ = some (.int .i64 (bkC xs0 a1)) ∧ w'.cell? ⟨w3.heap.size, 1, none⟩ = some (.slice W nW cW) ∧ w'.cell? ⟨w.heap.size, 0, none⟩ = some (.slice A0 n0 c0) ∧ Scene w w' [(chD xs0, .slice A0 n0 c0)] [⟨chD (bcC xs0 a1), .slice G nW cG, w4.heap.size + 1, w5.heap.size⟩, ⟨chD xs0, .slice X0 n0 n0, w3.heap.size + 1, w4.heap.size⟩, ⟨chD (bcC xs0 a1), .slice W nW cW, w2.heap.size, w3.heap.size⟩] [(w5.heap.size, [.int .i64 (bkC xs0 a1), .slice G nW cG]), (w4.heap.size, [.slice X0 n0 n0]), (w3.heap.size, [.int .i64 (bkC xs0 a1), .slice W nW cW]), (w.heap.size, [.slice A0 n0 c0])])
    (first | (go_split_ands; exact ⟨cell_later hb (by assumption), cell_later hb (by assumption), cell_later hb (by assumption), cell_later hb (by assumption), cell_later hb (by assumption), cell_later hb (by assumption), Scene.below (by assumption) hb⟩) | exact ⟨x0_0, x0_1, x1_0, x2_0, x2_1, x3_0, Scene.drew S13⟩)
    (first | (go_at_call 8; go_split_ands; obtain ⟨bsq, hdq⟩ := Scene.argI (by assumption) 0 rfl; refine (toChain_any A0 n0 c0 xs0 _ _ hdq hn0.out).mono ?_; rintro e w' ⟨Bq, rfl, ho, hb⟩) | (go_at_call 11; go_split_ands; obtain ⟨bsr, hdr⟩ := ho.hd; obtain ⟨bst, hdt⟩ := (Scene.ownI (by assumption) 1 rfl).hd; refine (eqChain_same _ _ _ _ _ _ xs0 _ _ _ hdt hdr hn0.out).mono ?_; rintro e w' ⟨rfl, hb⟩))
  go_split_ands
  rename Scene w _ _ _ _ => S14
  rename World => w7
  clear S13
  clear x0_0 x0_1 x1_0 x2_0 x2_1 x3_0 z0 z1 z2 z3
  clear ho
  have x0_0 : w7.cell? ⟨w5.heap.size, 0, none⟩ = some (.int .i64 (bkC xs0 a1)) := S14.boxI 0 0 rfl rfl
  have x0_1 : w7.cell? ⟨w5.heap.size, 1, none⟩ = some (.slice G nW cG) := S14.boxI 0 1 rfl rfl
  have z0 : w5.heap.size < w7.heap.size := cell_lt x0_0
  have x1_0 : w7.cell? ⟨w4.heap.size, 0, none⟩ = some (.slice X0 n0 n0) := S14.boxI 1 0 rfl rfl
  have z1 : w4.heap.size < w7.heap.size := cell_lt x1_0
  have x2_0 : w7.cell? ⟨w3.heap.size, 0, none⟩ = some (.int .i64 (bkC xs0 a1)) := S14.boxI 2 0 rfl rfl
  have x2_1 : w7.cell? ⟨w3.heap.size, 1, none⟩ = some (.slice W nW cW) := S14.boxI 2 1 rfl rfl
  have z2 : w3.heap.size < w7.heap.size := cell_lt x2_0
  have x3_0 : w7.cell? ⟨w.heap.size, 0, none⟩ = some (.slice A0 n0 c0) := S14.boxI 3 0 rfl rfl
  have z3 : w.heap.size < w7.heap.size := cell_lt x3_0
  go_wp2_with fail
  obtain ⟨bsm, hdm, ndm, inm⟩ := S14.ownI 1 rfl
  refine (markChain_any _ _ _ 1 xs0 bsm _ hdm ndm (fun b hb => (inm b hb).2.2) hn0.out (by omega)).mono ?_
  rintro e w8 ⟨rfl, hdm2, hchm⟩
  have sz8 := hchm.size
  have S15 : Scene w w8 [(chD xs0, .slice A0 n0 c0)] [⟨chD (mkC xs0 1 xs0.length), .slice X0 n0 n0, w3.heap.size + 1, w4.heap.size⟩, ⟨chD (bcC xs0 a1), .slice G nW cG, w4.heap.size + 1, w5.heap.size⟩, ⟨chD (bcC xs0 a1), .slice W nW cW, w2.heap.size, w3.heap.size⟩] [(w5.heap.size, [.int .i64 (bkC xs0 a1), .slice G nW cG]), (w4.heap.size, [.slice X0 n0 n0]), (w3.heap.size, [.int .i64 (bkC xs0 a1), .slice W nW cW]), (w.heap.size, [.slice A0 n0 c0])] := Scene.turn (lo := w3.heap.size + 1) (hi := w4.heap.size) (os' := [⟨chD (bcC xs0 a1), .slice G nW cG, w4.heap.size + 1, w5.heap.size⟩, ⟨chD (bcC xs0 a1), .slice W nW cW, w2.heap.size, w3.heap.size⟩]) S14 hchm (fun k hk => ⟨(inm k hk).1, (inm k hk).2.1⟩) (by have := S14.bel.size; omega) (S14.own _ (List.mem_of_getElem? (i := 1) rfl)).2.2
    ⟨bsm, hdm2, ndm, fun b hb => ⟨(inm b hb).1, (inm b hb).2.1, (inm b hb).2.2.ch hchm (hdm.lt b hb)⟩⟩ (by simp; try omega) (by simp; try omega)
  clear hdm ndm inm hdm2 hchm S14
  clear x0_0 x0_1 z0 x1_0 z1 x2_0 x2_1 z2 x3_0 z3
  have x0_0 : w8.cell? ⟨w5.heap.size, 0, none⟩ = some (.int .i64 (bkC xs0 a1)) := S15.boxI 0 0 rfl rfl
  have x0_1 : w8.cell? ⟨w5.heap.size, 1, none⟩ = some (.slice G nW cG) := S15.boxI 0 1 rfl rfl
  have z0 : w5.heap.size < w8.heap.size := cell_lt x0_0
  have x1_0 : w8.cell? ⟨w4.heap.size, 0, none⟩ = some (.slice X0 n0 n0) := S15.boxI 1 0 rfl rfl
  have z1 : w4.heap.size < w8.heap.size := cell_lt x1_0
  have x2_0 : w8.cell? ⟨w3.heap.size, 0, none⟩ = some (.int .i64 (bkC xs0 a1)) := S15.boxI 2 0 rfl rfl
  have x2_1 : w8.cell? ⟨w3.heap.size, 1, none⟩ = some (.slice W nW cW) := S15.boxI 2 1 rfl rfl
  have z2 : w3.heap.size < w8.heap.size := cell_lt x2_0
  have x3_0 : w8.cell? ⟨w.heap.size, 0, none⟩ = some (.slice A0 n0 c0) := S15.boxI 3 0 rfl rfl
  have z3 : w.heap.size < w8.heap.size := cell_lt x3_0
  have hbd0 := kC_big hn0.out (k := 1) (by omega) (Nat.le_refl _)
  have hkneg : ¬ (((kC xs0 1 xs0.length : Nat) : Int) : Int) < 0 := by omega
  go_wp2_with fail
  obtain ⟨bsx, hdx⟩ := (S15.ownI 1 rfl).hd
  obtain ⟨bsy, hdy⟩ := (S15.ownI 2 rfl).hd
  refine (eqChainResult_same _ _ _ _ _ _ _ (bcC xs0 a1) _ _ _ hdx hdy (bcC_small xs0 a1)).mono ?_
  rintro e w9 ⟨rfl, hb⟩
  have i9 := Below.size hb
  try simp only [World.size_alloc] at i9
  have S16 : Scene w w9 [(chD xs0, .slice A0 n0 c0)] [⟨chD (mkC xs0 1 xs0.length), .slice X0 n0 n0, w3.heap.size + 1, w4.heap.size⟩, ⟨chD (bcC xs0 a1), .slice G nW cG, w4.heap.size + 1, w5.heap.size⟩, ⟨chD (bcC xs0 a1), .slice W nW cW, w2.heap.size, w3.heap.size⟩] [(w5.heap.size, [.int .i64 (bkC xs0 a1), .slice G nW cG]), (w4.heap.size, [.slice X0 n0 n0]), (w3.heap.size, [.int .i64 (bkC xs0 a1), .slice W nW cW]), (w.heap.size, [.slice A0 n0 c0])] := Scene.below S15 hb
  clear hb hdx hdy
  clear x0_0 x0_1 z0 x1_0 z1 x2_0 x2_1 z2 x3_0 z3
  have x0_0 : w9.cell? ⟨w5.heap.size, 0, none⟩ = some (.int .i64 (bkC xs0 a1)) := S16.boxI 0 0 rfl rfl
  have x0_1 : w9.cell? ⟨w5.heap.size, 1, none⟩ = some (.slice G nW cG) := S16.boxI 0 1 rfl rfl
  have z0 : w5.heap.size < w9.heap.size := cell_lt x0_0
  have x1_0 : w9.cell? ⟨w4.heap.size, 0, none⟩ = some (.slice X0 n0 n0) := S16.boxI 1 0 rfl rfl
  have z1 : w4.heap.size < w9.heap.size := cell_lt x1_0
  have x2_0 : w9.cell? ⟨w3.heap.size, 0, none⟩ = some (.int .i64 (bkC xs0 a1)) := S16.boxI 2 0 rfl rfl
  have x2_1 : w9.cell? ⟨w3.heap.size, 1, none⟩ = some (.slice W nW cW) := S16.boxI 2 1 rfl rfl
  have z2 : w3.heap.size < w9.heap.size := cell_lt x2_0
  have x3_0 : w9.cell? ⟨w.heap.size, 0, none⟩ = some (.slice A0 n0 c0) := S16.boxI 3 0 rfl rfl
  have z3 : w.heap.size < w9.heap.size := cell_lt x3_0
  go_wp2_with fail
  obtain ⟨bsm, hdm, ndm, inm⟩ := S16.ownI 1 rfl
  refine (markChainResult_any _ _ _ 1 _ (bcC xs0 a1) bsm _ hdm ndm (fun b hb => (inm b hb).2.2) (bcC_small xs0 a1) (by omega)).mono ?_
  rintro e w10 ⟨rfl, hdm2, hchm⟩
  have sz10 := hchm.size
  have S17 : Scene w w10 [(chD xs0, .slice A0 n0 c0)] [⟨chD (mkC (bcC xs0 a1) 1 (bcC xs0 a1).length), .slice G nW cG, w4.heap.size + 1, w5.heap.size⟩, ⟨chD (mkC xs0 1 xs0.length), .slice X0 n0 n0, w3.heap.size + 1, w4.heap.size⟩, ⟨chD (bcC xs0 a1), .slice W nW cW, w2.heap.size, w3.heap.size⟩] [(w5.heap.size, [.int .i64 (bkC xs0 a1), .slice G nW cG]), (w4.heap.size, [.slice X0 n0 n0]), (w3.heap.size, [.int .i64 (bkC xs0 a1), .slice W nW cW]), (w.heap.size, [.slice A0 n0 c0])] := Scene.turn (lo := w4.heap.size + 1) (hi := w5.heap.size) (os' := [⟨chD (mkC xs0 1 xs0.length), .slice X0 n0 n0, w3.heap.size + 1, w4.heap.size⟩, ⟨chD (bcC xs0 a1), .slice W nW cW, w2.heap.size, w3.heap.size⟩]) S16 hchm (fun k hk => ⟨(inm k hk).1, (inm k hk).2.1⟩) (by have := S16.bel.size; omega) (S16.own _ (List.mem_of_getElem? (i := 1) rfl)).2.2
    ⟨bsm, hdm2, ndm, fun b hb => ⟨(inm b hb).1, (inm b hb).2.1, (inm b hb).2.2.ch hchm (hdm.lt b hb)⟩⟩ (by simp; try omega) (by simp; try omega)
  clear hdm ndm inm hdm2 hchm S16
  clear x0_0 x0_1 z0 x1_0 z1 x2_0 x2_1 z2 x3_0 z3
  have x0_0 : w10.cell? ⟨w5.heap.size, 0, none⟩ = some (.int .i64 (bkC xs0 a1)) := S17.boxI 0 0 rfl rfl
  have x0_1 : w10.cell? ⟨w5.heap.size, 1, none⟩ = some (.slice G nW cG) := S17.boxI 0 1 rfl rfl
  have z0 : w5.heap.size < w10.heap.size := cell_lt x0_0
  have x1_0 : w10.cell? ⟨w4.heap.size, 0, none⟩ = some (.slice X0 n0 n0) := S17.boxI 1 0 rfl rfl
  have z1 : w4.heap.size < w10.heap.size := cell_lt x1_0
  have x2_0 : w10.cell? ⟨w3.heap.size, 0, none⟩ = some (.int .i64 (bkC xs0 a1)) := S17.boxI 2 0 rfl rfl
  have x2_1 : w10.cell? ⟨w3.heap.size, 1, none⟩ = some (.slice W nW cW) := S17.boxI 2 1 rfl rfl
  have z2 : w3.heap.size < w10.heap.size := cell_lt x2_0
  have x3_0 : w10.cell? ⟨w.heap.size, 0, none⟩ = some (.slice A0 n0 c0) := S17.boxI 3 0 rfl rfl
  have z3 : w.heap.size < w10.heap.size := cell_lt x3_0
  go_wp2_with fail
  obtain ⟨bsh, hdh⟩ := (S17.ownI 0 rfl).hd
  refine (heldChainResult_any _ _ _ 1 _ (bcC xs0 a1) _ _ hdh (bcC_small xs0 a1) (by omega)).mono ?_
  rintro e w11 ⟨rfl, hb⟩
  have i11 := Below.size hb
  try simp only [World.size_alloc] at i11
  have S18 : Scene w w11 [(chD xs0, .slice A0 n0 c0)] [⟨chD (mkC (bcC xs0 a1) 1 (bcC xs0 a1).length), .slice G nW cG, w4.heap.size + 1, w5.heap.size⟩, ⟨chD (mkC xs0 1 xs0.length), .slice X0 n0 n0, w3.heap.size + 1, w4.heap.size⟩, ⟨chD (bcC xs0 a1), .slice W nW cW, w2.heap.size, w3.heap.size⟩] [(w5.heap.size, [.int .i64 (bkC xs0 a1), .slice G nW cG]), (w4.heap.size, [.slice X0 n0 n0]), (w3.heap.size, [.int .i64 (bkC xs0 a1), .slice W nW cW]), (w.heap.size, [.slice A0 n0 c0])] := Scene.below S17 hb
  clear hb hdh
  have hneg : ¬ ((kC (bcC xs0 a1) 1 (bcC xs0 a1).length : Nat) : Int) < 0 := by omega
  clear x0_0 x0_1 z0 x1_0 z1 x2_0 x2_1 z2 x3_0 z3
  have x0_0 : w11.cell? ⟨w5.heap.size, 0, none⟩ = some (.int .i64 (bkC xs0 a1)) := S18.boxI 0 0 rfl rfl
  have x0_1 : w11.cell? ⟨w5.heap.size, 1, none⟩ = some (.slice G nW cG) := S18.boxI 0 1 rfl rfl
  have z0 : w5.heap.size < w11.heap.size := cell_lt x0_0
  have x1_0 : w11.cell? ⟨w4.heap.size, 0, none⟩ = some (.slice X0 n0 n0) := S18.boxI 1 0 rfl rfl
  have z1 : w4.heap.size < w11.heap.size := cell_lt x1_0
  have x2_0 : w11.cell? ⟨w3.heap.size, 0, none⟩ = some (.int .i64 (bkC xs0 a1)) := S18.boxI 2 0 rfl rfl
  have x2_1 : w11.cell? ⟨w3.heap.size, 1, none⟩ = some (.slice W nW cW) := S18.boxI 2 1 rfl rfl
  have z2 : w3.heap.size < w11.heap.size := cell_lt x2_0
  have x3_0 : w11.cell? ⟨w.heap.size, 0, none⟩ = some (.slice A0 n0 c0) := S18.boxI 3 0 rfl rfl
  have z3 : w.heap.size < w11.heap.size := cell_lt x3_0
  go_wp2_with fail
  obtain ⟨bsa0, hda0⟩ := S18.argI 0 rfl
  refine (toChain_any A0 n0 c0 xs0 _ _ hda0 hn0.out).mono ?_
  rintro e w12 ⟨B12, rfl, ho, hb⟩
  have i12 := Below.size hb
  try simp only [World.size_alloc] at i12
  have S19 : Scene w w12 [(chD xs0, .slice A0 n0 c0)] [⟨chD (mkC (bcC xs0 a1) 1 (bcC xs0 a1).length), .slice G nW cG, w4.heap.size + 1, w5.heap.size⟩, ⟨chD (mkC xs0 1 xs0.length), .slice X0 n0 n0, w3.heap.size + 1, w4.heap.size⟩, ⟨chD (bcC xs0 a1), .slice W nW cW, w2.heap.size, w3.heap.size⟩] [(w5.heap.size, [.int .i64 (bkC xs0 a1), .slice G nW cG]), (w4.heap.size, [.slice X0 n0 n0]), (w3.heap.size, [.int .i64 (bkC xs0 a1), .slice W nW cW]), (w.heap.size, [.slice A0 n0 c0])] := Scene.below S18 hb
  obtain ⟨ds0, dd0⟩ := ho.hd
  have D0 := Lib.hid dd0
  clear ho hb dd0 hda0
  clear x0_0 x0_1 z0 x1_0 z1 x2_0 x2_1 z2 x3_0 z3
  have x0_0 : w12.cell? ⟨w5.heap.size, 0, none⟩ = some (.int .i64 (bkC xs0 a1)) := S19.boxI 0 0 rfl rfl
  have x0_1 : w12.cell? ⟨w5.heap.size, 1, none⟩ = some (.slice G nW cG) := S19.boxI 0 1 rfl rfl
  have z0 : w5.heap.size < w12.heap.size := cell_lt x0_0
  have x1_0 : w12.cell? ⟨w4.heap.size, 0, none⟩ = some (.slice X0 n0 n0) := S19.boxI 1 0 rfl rfl
  have z1 : w4.heap.size < w12.heap.size := cell_lt x1_0
  have x2_0 : w12.cell? ⟨w3.heap.size, 0, none⟩ = some (.int .i64 (bkC xs0 a1)) := S19.boxI 2 0 rfl rfl
  have x2_1 : w12.cell? ⟨w3.heap.size, 1, none⟩ = some (.slice W nW cW) := S19.boxI 2 1 rfl rfl
  have z2 : w3.heap.size < w12.heap.size := cell_lt x2_0
  have x3_0 : w12.cell? ⟨w.heap.size, 0, none⟩ = some (.slice A0 n0 c0) := S19.boxI 3 0 rfl rfl
  have z3 : w.heap.size < w12.heap.size := cell_lt x3_0
  go_wp2_with fail
  refine (BakedChain_any B12 n0 n0 xs0 _ a1 _ D0.out).mono ?_
  rintro e w13 ⟨H, nH, cH, rfl, ho, hb⟩
  have i13 := Below.size hb
  try simp only [World.size_alloc] at i13
  have S20 : Scene w w13 [(chD xs0, .slice A0 n0 c0)] [⟨chD (mkC (bcC xs0 a1) 1 (bcC xs0 a1).length), .slice G nW cG, w4.heap.size + 1, w5.heap.size⟩, ⟨chD (mkC xs0 1 xs0.length), .slice X0 n0 n0, w3.heap.size + 1, w4.heap.size⟩, ⟨chD (bcC xs0 a1), .slice W nW cW, w2.heap.size, w3.heap.size⟩] [(w5.heap.size, [.int .i64 (bkC xs0 a1), .slice G nW cG]), (w4.heap.size, [.slice X0 n0 n0]), (w3.heap.size, [.int .i64 (bkC xs0 a1), .slice W nW cW]), (w.heap.size, [.slice A0 n0 c0])] := Scene.below S19 hb
  clear D0
  obtain ⟨bsn, hdn⟩ := ho.hd
  have hlH := hdn.stgs.1
  obtain ⟨bsw, hdw⟩ := (S20.ownI 2 rfl).hd
  have hlW := hdw.stgs.1
  obtain rfl : nW = nH := by omega
  have S21 : Scene w w13 [(chD xs0, .slice A0 n0 c0)] [⟨chD (bcC xs0 a1), .slice H nW cH, w12.heap.size, w13.heap.size⟩, ⟨chD (mkC (bcC xs0 a1) 1 (bcC xs0 a1).length), .slice G nW cG, w4.heap.size + 1, w5.heap.size⟩, ⟨chD (mkC xs0 1 xs0.length), .slice X0 n0 n0, w3.heap.size + 1, w4.heap.size⟩, ⟨chD (bcC xs0 a1), .slice W nW cW, w2.heap.size, w3.heap.size⟩] [(w5.heap.size, [.int .i64 (bkC xs0 a1), .slice G nW cG]), (w4.heap.size, [.slice X0 n0 n0]), (w3.heap.size, [.int .i64 (bkC xs0 a1), .slice W nW cW]), (w.heap.size, [.slice A0 n0 c0])] := Scene.addOwn S20 ho (by have := S20.bel.size; omega) (Nat.le_refl _)
  clear ho hb hdn hdw hlW hlH S20
  clear x0_0 x0_1 z0 x1_0 z1 x2_0 x2_1 z2 x3_0 z3
  have x0_0 : w13.cell? ⟨w5.heap.size, 0, none⟩ = some (.int .i64 (bkC xs0 a1)) := S21.boxI 0 0 rfl rfl
  have x0_1 : w13.cell? ⟨w5.heap.size, 1, none⟩ = some (.slice G nW cG) := S21.boxI 0 1 rfl rfl
  have z0 : w5.heap.size < w13.heap.size := cell_lt x0_0
  have x1_0 : w13.cell? ⟨w4.heap.size, 0, none⟩ = some (.slice X0 n0 n0) := S21.boxI 1 0 rfl rfl
  have z1 : w4.heap.size < w13.heap.size := cell_lt x1_0
  have x2_0 : w13.cell? ⟨w3.heap.size, 0, none⟩ = some (.int .i64 (bkC xs0 a1)) := S21.boxI 2 0 rfl rfl
  have x2_1 : w13.cell? ⟨w3.heap.size, 1, none⟩ = some (.slice W nW cW) := S21.boxI 2 1 rfl rfl
  have z2 : w3.heap.size < w13.heap.size := cell_lt x2_0
  have x3_0 : w13.cell? ⟨w.heap.size, 0, none⟩ = some (.slice A0 n0 c0) := S21.boxI 3 0 rfl rfl
  have z3 : w.heap.size < w13.heap.size := cell_lt x3_0
  have S22 : Scene w (w13.alloc (.cells #[.int .i64 (bkC xs0 a1), .slice H nW cH] 50)) [(chD xs0, .slice A0 n0 c0)] [⟨chD (bcC xs0 a1), .slice H nW cH, w12.heap.size, w13.heap.size⟩, ⟨chD (mkC (bcC xs0 a1) 1 (bcC xs0 a1).length), .slice G nW cG, w4.heap.size + 1, w5.heap.size⟩, ⟨chD (mkC xs0 1 xs0.length), .slice X0 n0 n0, w3.heap.size + 1, w4.heap.size⟩, ⟨chD (bcC xs0 a1), .slice W nW cW, w2.heap.size, w3.heap.size⟩] [(w13.heap.size, [.int .i64 (bkC xs0 a1), .slice H nW cH]), (w5.heap.size, [.int .i64 (bkC xs0 a1), .slice G nW cG]), (w4.heap.size, [.slice X0 n0 n0]), (w3.heap.size, [.int .i64 (bkC xs0 a1), .slice W nW cW]), (w.heap.size, [.slice A0 n0 c0])] := Scene.addBox S21 [.int .i64 (bkC xs0 a1), .slice H nW cH] 50
  clear S21
  go_wp2_with fail
  obtain ⟨bsx, hdx⟩ := (S22.ownI 0 rfl).hd
  obtain ⟨bsy, hdy⟩ := (S22.ownI 3 rfl).hd
  refine (eqChainResult_same _ _ _ _ _ _ _ (bcC xs0 a1) _ _ _ hdx hdy (bcC_small xs0 a1)).mono ?_
  rintro e w14 ⟨rfl, hb⟩
  have i14 := Below.size hb
  try simp only [World.size_alloc] at i14
  have S23 : Scene w w14 [(chD xs0, .slice A0 n0 c0)] [⟨chD (bcC xs0 a1), .slice H nW cH, w12.heap.size, w13.heap.size⟩, ⟨chD (mkC (bcC xs0 a1) 1 (bcC xs0 a1).length), .slice G nW cG, w4.heap.size + 1, w5.heap.size⟩, ⟨chD (mkC xs0 1 xs0.length), .slice X0 n0 n0, w3.heap.size + 1, w4.heap.size⟩, ⟨chD (bcC xs0 a1), .slice W nW cW, w2.heap.size, w3.heap.size⟩] [(w13.heap.size, [.int .i64 (bkC xs0 a1), .slice H nW cH]), (w5.heap.size, [.int .i64 (bkC xs0 a1), .slice G nW cG]), (w4.heap.size, [.slice X0 n0 n0]), (w3.heap.size, [.int .i64 (bkC xs0 a1), .slice W nW cW]), (w.heap.size, [.slice A0 n0 c0])] := Scene.below S22 hb
  clear hb hdx hdy
  clear x0_0 x0_1 z0 x1_0 z1 x2_0 x2_1 z2 x3_0 z3
  have x0_0 : w14.cell? ⟨w13.heap.size, 0, none⟩ = some (.int .i64 (bkC xs0 a1)) := S23.boxI 0 0 rfl rfl
  have x0_1 : w14.cell? ⟨w13.heap.size, 1, none⟩ = some (.slice H nW cH) := S23.boxI 0 1 rfl rfl
  have z0 : w13.heap.size < w14.heap.size := cell_lt x0_0
  have x1_0 : w14.cell? ⟨w5.heap.size, 0, none⟩ = some (.int .i64 (bkC xs0 a1)) := S23.boxI 1 0 rfl rfl
  have x1_1 : w14.cell? ⟨w5.heap.size, 1, none⟩ = some (.slice G nW cG) := S23.boxI 1 1 rfl rfl
  have z1 : w5.heap.size < w14.heap.size := cell_lt x1_0
  have x2_0 : w14.cell? ⟨w4.heap.size, 0, none⟩ = some (.slice X0 n0 n0) := S23.boxI 2 0 rfl rfl
  have z2 : w4.heap.size < w14.heap.size := cell_lt x2_0
  have x3_0 : w14.cell? ⟨w3.heap.size, 0, none⟩ = some (.int .i64 (bkC xs0 a1)) := S23.boxI 3 0 rfl rfl
  have x3_1 : w14.cell? ⟨w3.heap.size, 1, none⟩ = some (.slice W nW cW) := S23.boxI 3 1 rfl rfl
  have z3 : w3.heap.size < w14.heap.size := cell_lt x3_0
  have x4_0 : w14.cell? ⟨w.heap.size, 0, none⟩ = some (.slice A0 n0 c0) := S23.boxI 4 0 rfl rfl
  have z4 : w.heap.size < w14.heap.size := cell_lt x4_0
  go_wp2_with fail
  obtain ⟨bsh, hdh⟩ := (S23.ownI 1 rfl).hd
  refine (heldChainResult_any _ _ _ 1 _ (bcC xs0 a1) _ _ hdh (bcC_small xs0 a1) (by omega)).mono ?_
  rintro e w15 ⟨rfl, hb⟩
  have i15 := Below.size hb
  try simp only [World.size_alloc] at i15
  have S24 : Scene w w15 [(chD xs0, .slice A0 n0 c0)] [⟨chD (bcC xs0 a1), .slice H nW cH, w12.heap.size, w13.heap.size⟩, ⟨chD (mkC (bcC xs0 a1) 1 (bcC xs0 a1).length), .slice G nW cG, w4.heap.size + 1, w5.heap.size⟩, ⟨chD (mkC xs0 1 xs0.length), .slice X0 n0 n0, w3.heap.size + 1, w4.heap.size⟩, ⟨chD (bcC xs0 a1), .slice W nW cW, w2.heap.size, w3.heap.size⟩] [(w13.heap.size, [.int .i64 (bkC xs0 a1), .slice H nW cH]), (w5.heap.size, [.int .i64 (bkC xs0 a1), .slice G nW cG]), (w4.heap.size, [.slice X0 n0 n0]), (w3.heap.size, [.int .i64 (bkC xs0 a1), .slice W nW cW]), (w.heap.size, [.slice A0 n0 c0])] := Scene.below S23 hb
  clear hb hdh
  have HB := Lib.hid S24.bel
  clear S24
  clear x0_0 x0_1 z0 x1_0 x1_1 z1 x2_0 z2 x3_0 x3_1 z3 x4_0 z4
  go_wp2_with fail
  go_ret
  exact ⟨rfl, HB.out⟩

set_option maxRecDepth 100000 in
theorem lifted (os : Os) (started : os.Started) (H : Type) (enc : TypeId × Value → H) :
    ReturnsInHanded {} Tryz.checked os 5 .any (Rows.fnExactBakedChainSpec.pre6 enc Tryz.prog Tryz.f5 Rows.fnExactBakedChainRow.domain false) (Rows.fnExactBakedChainSpec.post enc Tryz.prog Tryz.f5 false true false false) := by
  refine returnsInHanded_of_change (C := Tryz.checked) own started (by kernel_rfl) Tryz.func5
    (ChangeSpec.witness6 (enc := enc) (C := Tryz.checked) false ⟨#[], #[.agg #[.slice none 0 0], .int .i64 0], []⟩ 8 (by kernel_rfl) (by kernel_rfl) (by kernel_rfl) (by kernel_rfl)) ?_
  intro W base args ds gs before hval0 hW hcnd _
  have hval : ∀ (j : Nat) t v, Tryz.f5.params[j]? = some t → args[j]? = some v → Value.okWide Tryz.prog W .any base t v := hval0
  have hW' := hW
  obtain ⟨p, q, hA0, hV0, rfl, hfz, hnd⟩ := hW
  have hA : DataW.TrodAll enc Tryz.prog W 0 (fun _ => true) true Tryz.f5.params.toList args.toList ds p := hA0
  have hV : DataW.TrodVars enc Tryz.prog W (fun _ => true) [] gs q := hV0
  rw [Tryz.params5] at hA hval
  obtain ⟨v0, vs0, d0, ds0, p0, q0, hargs, rfl, rfl, h0, r0⟩ := trodAll_cons hA
  obtain ⟨v1, vs1, d1, ds1, p1, q1, rfl, rfl, rfl, h1, r1⟩ := trodAll_cons r0
  obtain ⟨rfl, rfl, rfl⟩ := trodAll_nil r1
  obtain rfl : args = #[v0, v1] := by cases args; simp_all
  obtain ⟨rfl, rfl⟩ : gs = [] ∧ q = [] := by
    cases gs with
    | nil => exact ⟨rfl, hV⟩
    | cons g r => exact absurd hV (by intro h; cases h)
  have k0 := h0
  have lt0 : ∀ x ∈ p0, x.block < W.heap.size := by obtain ⟨m, hm⟩ := k0; exact DataW.trod_lt m _ _ _ hm
  obtain ⟨a0, n0, c0, xs0, bs0, rfl, hd0, u0⟩ := open_chain (hval 0 24 v0 rfl rfl) h0
  have k1 := h1
  have lt1 : ∀ x ∈ p1, x.block < W.heap.size := by obtain ⟨m, hm⟩ := k1; exact DataW.trod_lt m _ _ _ hm
  obtain ⟨a1, rfl, e1, f1, w1⟩ := open_int Tryz.underlying2 (hval 1 2 v1 rfl rfl) h1
  clear hA0 hval0
  refine (walk a0 n0 c0 xs0 bs0 a1 W hd0 u0 w1).mono fun e W' ⟨he, bel⟩ => ?_
  subst he
  exact ⟨_, rfl, _, _, _, [], _, [], hW', trodAll_mk1 (shut_bool Tryz.underlying4 _), (trodAll_cons_mk (Below.trod laidOut (by kernel_rfl) (of_decide_eq_true (by kernel_rfl)) k0 bel lt0) (trodAll_cons_mk (Below.trod laidOut (by kernel_rfl) (of_decide_eq_true (by kernel_rfl)) k1 bel lt1) trodAll_mk0)), rfl, bel.frame _, fun h => by cases h⟩

theorem row_holds : Rows.FnExactBakedChainSaid :=
  OpenClaim.holds_of_wide 5 Tryz.f5 rfl rfl rfl rfl rfl rfl rfl ⟨rfl, rfl, rfl, rfl, rfl⟩ rfl rfl rfl rfl rfl (by kernel_rfl) Tryz.func5 (by kernel_rfl)
    (of_decide_eq_true (by kernel_rfl)) (by unfold Func.isWrapper; rw [if_neg (of_decide_eq_false (by kernel_rfl))]; exact ⟨rfl, rfl⟩)
    (fun os started H enc _ => lifted os started H enc)

theorem proved : Rows.FnExactBakedChainSaid := row_holds
#print axioms proved

end Go.Proofs.YtlfdpambbgddoaaGreat.lExactBakedChain
