/-
  Proved: at every chain and every list of numbers the Go function StepsOf answers as its reference model does, every field, in new memory, and changes nothing of them (the law FnExactStepsOf returns true), and the arguments read afterwards as they read before. Conditions: none.
-/
import Derived.Test.YtmmlcdbbjkligaaGreatOpenA
import Derived.Test.YtmmlcdbbjkligaaGreatOpenB
import Derived.Test.YtmmlcdbbjkligaaGreatHelpSt
import Derived.Test.YtmmlcdbbjkligaaGreatMrkA
import Derived.Test.YtmmlcdbbjkligaaGreatStwA
import Derived.Test.YtmmlcdbbjkligaaGreatHelpSp
import Derived.Test.YtmmlcdbbjkligaaGreatBaseA
import Derived.Deep.RegionHeld3
namespace Go.Proofs.YtmmlcdbbjkligaaGreat.lExactStepsOf
open Go.ChangeShapes Go.WideShapes Go.ChangeAt Go.RowKit
set_option linter.unusedVariables false
set_option linter.unusedSimpArgs false

set_option maxRecDepth 100000 in
set_option maxHeartbeats 4000000 in
theorem walk (A0 : Option Addr) (n0 c0 : Nat) (xs0 : List Stg) (bs0 : List Nat) (A1 : Option Addr) (n1 c1 : Nat) (xs1 : List Int) (bs1 : List Nat) (w : World) (h0 : Hd w (chD xs0) (.slice A0 n0 c0) bs0) (u0 : I64C xs0) (h1 : Hd w (.ints .i64 xs1) (.slice A1 n1 c1) bs1) (u1 : I64s xs1) :
    Calls Tryz.prog 5 #[.agg #[.slice A0 n0 c0], .slice A1 n1 c1] w fun e w' => e = .returned (.bool true) ∧ Below w.heap.size w w' := by
  have hm0 := h0.caps.2
  have hnc0 := h0.caps.1
  have HU0 := Lib.hid u0
  have HL0 := Lib.hid h0.stgs.1
  have hm1 := h1.caps.2
  have hnc1 := h1.caps.1
  have HU1 := Lib.hid u1
  have S0 : Scene w w [(chD xs0, .slice A0 n0 c0), (.ints .i64 xs1, .slice A1 n1 c1)] [] [] := Scene.start w _ (by intro p hp; simp only [List.mem_cons, List.not_mem_nil, or_false] at hp; rcases hp with rfl | rfl <;> first | exact ⟨_, h0⟩ | exact ⟨_, h1⟩)
  have S1 : Scene w (w.alloc (.cells #[.slice A0 n0 c0] 51)) [(chD xs0, .slice A0 n0 c0), (.ints .i64 xs1, .slice A1 n1 c1)] [] [(w.heap.size, [.slice A0 n0 c0])] := by have q := Scene.addBox S0 [.slice A0 n0 c0] 51; simpa only [World.size_alloc, List.length_cons, Nat.add_assoc] using q
  clear h0 u0 h1 u1
  unfold maxLen at hm1
  by_cases hbig1 : 1048576 < n1
  · go_enter Tryz.func5, Tryz.ntmps5
    go_wp2_with fail
    go_ret
    exact ⟨rfl, blAlloc _ _⟩
  have hxl := stL_len xs0 xs1
  have HM : Hid ((1000000000000 : Nat) ≤ maxLen) := by show _ ≤ _; unfold maxLen; omega
  go_enter Tryz.func5, Tryz.ntmps5
  go_wp2_with fail
  obtain ⟨bsa0, hda0⟩ := S1.argI 0 rfl
  refine (szChain_any A0 n0 c0 xs0 _ _ _ hda0 (by omega) (by omega)).mono ?_
  rintro e w1 ⟨r0, rfl, hr10, hr20, hr30, hb0⟩
  have i1 := Below.size hb0
  try simp only [World.size_alloc] at i1
  have S2 : Scene w w1 [(chD xs0, .slice A0 n0 c0), (.ints .i64 xs1, .slice A1 n1 c1)] [] [(w.heap.size, [.slice A0 n0 c0])] := Scene.below S1 hb0
  have HR0 := Lib.hid hr30
  clear hr30 hb0
  by_cases hr0 : r0 < 0
  · go_wp2_with fail
    go_ret
    exact ⟨rfl, S2.bel⟩
  have hn0 := Lib.hid (HR0.out (by omega))
  clear HR0 hda0
  have hq0 : n0 ≤ 1048576 := by have := hn0.out.1; rw [HL0.out] at this; exact this
  have x0_0 : w1.cell? ⟨w.heap.size, 0, none⟩ = some (.slice A0 n0 c0) := S2.boxI 0 0 rfl rfl
  have z0 : w.heap.size < w1.heap.size := cell_lt x0_0
  go_wp2_with fail
  obtain ⟨bsa0, hda0⟩ := S2.argI 0 rfl
  refine (toChain_any A0 n0 c0 xs0 _ _ hda0 hn0.out).mono ?_
  rintro e w2 ⟨B2, rfl, ho, hb⟩
  have i2 := Below.size hb
  try simp only [World.size_alloc] at i2
  have S3 : Scene w w2 [(chD xs0, .slice A0 n0 c0), (.ints .i64 xs1, .slice A1 n1 c1)] [] [(w.heap.size, [.slice A0 n0 c0])] := Scene.below S2 hb
  obtain ⟨ds0, dd0⟩ := ho.hd
  have D0 := Lib.hid dd0
  clear ho hb dd0 hda0
  clear x0_0 z0
  have x0_0 : w2.cell? ⟨w.heap.size, 0, none⟩ = some (.slice A0 n0 c0) := S3.boxI 0 0 rfl rfl
  have z0 : w.heap.size < w2.heap.size := cell_lt x0_0
  go_wp2_with fail
  obtain ⟨bsa1, hda1⟩ := S3.argI 1 rfl
  refine (toInt64S_any A1 n1 c1 xs1 _ hda1.rd (by omega)).mono ?_
  rintro e w3 ⟨B3, rfl, ho, hb⟩
  have i3 := Below.size hb
  try simp only [World.size_alloc] at i3
  have S4 : Scene w w3 [(chD xs0, .slice A0 n0 c0), (.ints .i64 xs1, .slice A1 n1 c1)] [] [(w.heap.size, [.slice A0 n0 c0])] := Scene.below S3 hb
  have D0 := Lib.hid (D0.out.bel hb)
  obtain ⟨ds1, dd1⟩ := ho.hd
  have D1 := Lib.hid dd1
  clear ho hb dd1 hda1
  clear x0_0 z0
  have x0_0 : w3.cell? ⟨w.heap.size, 0, none⟩ = some (.slice A0 n0 c0) := S4.boxI 0 0 rfl rfl
  have z0 : w.heap.size < w3.heap.size := cell_lt x0_0
  go_wp2_with fail
  refine (sStepsOf_any B2 n0 n0 xs0 _ B3 n1 n1 xs1 _ _ D0.out D1.out).mono ?_
  rintro e w4 ⟨W, nW, cW, rfl, ho, hb⟩
  have i4 := Below.size hb
  try simp only [World.size_alloc] at i4
  have S5 : Scene w w4 [(chD xs0, .slice A0 n0 c0), (.ints .i64 xs1, .slice A1 n1 c1)] [] [(w.heap.size, [.slice A0 n0 c0])] := Scene.below S4 hb
  clear D0 D1
  obtain ⟨bsn, hdn⟩ := ho.hd
  have hlW := hdn.rows.1
  have hnW : nW ≤ 6 := by omega
  have S6 : Scene w w4 [(chD xs0, .slice A0 n0 c0), (.ints .i64 xs1, .slice A1 n1 c1)] [⟨rowsD (stL xs0 xs1), .slice W nW cW, w3.heap.size, w4.heap.size⟩] [(w.heap.size, [.slice A0 n0 c0])] := Scene.addOwn S5 ho (by have := S5.bel.size; omega) (Nat.le_refl _)
  clear ho hb hdn hlW S5
  clear x0_0 z0
  have x0_0 : w4.cell? ⟨w.heap.size, 0, none⟩ = some (.slice A0 n0 c0) := S6.boxI 0 0 rfl rfl
  have z0 : w.heap.size < w4.heap.size := cell_lt x0_0
  have S7 : Scene w (w4.alloc (.cells #[.int .i64 (chC xs0 xs1), .slice W nW cW] 62)) [(chD xs0, .slice A0 n0 c0), (.ints .i64 xs1, .slice A1 n1 c1)] [⟨rowsD (stL xs0 xs1), .slice W nW cW, w3.heap.size, w4.heap.size⟩] [(w4.heap.size, [.int .i64 (chC xs0 xs1), .slice W nW cW]), (w.heap.size, [.slice A0 n0 c0])] := Scene.addBox S6 [.int .i64 (chC xs0 xs1), .slice W nW cW] 62
  clear S6
  go_wp2_with fail
  obtain ⟨bsa0, hda0⟩ := S7.argI 0 rfl
  refine (toChain_any A0 n0 c0 xs0 _ _ hda0 hn0.out).mono ?_
  rintro e w5 ⟨X0, rfl, ho, hb⟩
  have i5 := Below.size hb
  try simp only [World.size_alloc] at i5
  have S8 : Scene w w5 [(chD xs0, .slice A0 n0 c0), (.ints .i64 xs1, .slice A1 n1 c1)] [⟨rowsD (stL xs0 xs1), .slice W nW cW, w3.heap.size, w4.heap.size⟩] [(w4.heap.size, [.int .i64 (chC xs0 xs1), .slice W nW cW]), (w.heap.size, [.slice A0 n0 c0])] := Scene.below S7 hb
  have S9 : Scene w w5 [(chD xs0, .slice A0 n0 c0), (.ints .i64 xs1, .slice A1 n1 c1)] [⟨chD xs0, .slice X0 n0 n0, w4.heap.size + 1, w5.heap.size⟩, ⟨rowsD (stL xs0 xs1), .slice W nW cW, w3.heap.size, w4.heap.size⟩] [(w4.heap.size, [.int .i64 (chC xs0 xs1), .slice W nW cW]), (w.heap.size, [.slice A0 n0 c0])] := Scene.addOwn S8 (ho.mono (by simp) (Nat.le_refl _)) (by have := S8.bel.size; omega) (Nat.le_refl _)
  clear ho hb hda0 S8
  clear x0_0 z0
  have x0_0 : w5.cell? ⟨w4.heap.size, 0, none⟩ = some (.int .i64 (chC xs0 xs1)) := S9.boxI 0 0 rfl rfl
  have x0_1 : w5.cell? ⟨w4.heap.size, 1, none⟩ = some (.slice W nW cW) := S9.boxI 0 1 rfl rfl
  have z0 : w4.heap.size < w5.heap.size := cell_lt x0_0
  have x1_0 : w5.cell? ⟨w.heap.size, 0, none⟩ = some (.slice A0 n0 c0) := S9.boxI 1 0 rfl rfl
  have z1 : w.heap.size < w5.heap.size := cell_lt x1_0
  have S10 : Scene w (w5.alloc (.cells #[.slice X0 n0 n0] 56)) [(chD xs0, .slice A0 n0 c0), (.ints .i64 xs1, .slice A1 n1 c1)] [⟨chD xs0, .slice X0 n0 n0, w4.heap.size + 1, w5.heap.size⟩, ⟨rowsD (stL xs0 xs1), .slice W nW cW, w3.heap.size, w4.heap.size⟩] [(w5.heap.size, [.slice X0 n0 n0]), (w4.heap.size, [.int .i64 (chC xs0 xs1), .slice W nW cW]), (w.heap.size, [.slice A0 n0 c0])] := Scene.addBox S9 [.slice X0 n0 n0] 56
  clear S9
  go_wp2_with fail
  obtain ⟨bsa1, hda1⟩ := S10.argI 1 rfl
  refine (toInt64S_any A1 n1 c1 xs1 _ hda1.rd (by omega)).mono ?_
  rintro e w6 ⟨X1, rfl, ho, hb⟩
  have i6 := Below.size hb
  try simp only [World.size_alloc] at i6
  have S11 : Scene w w6 [(chD xs0, .slice A0 n0 c0), (.ints .i64 xs1, .slice A1 n1 c1)] [⟨chD xs0, .slice X0 n0 n0, w4.heap.size + 1, w5.heap.size⟩, ⟨rowsD (stL xs0 xs1), .slice W nW cW, w3.heap.size, w4.heap.size⟩] [(w5.heap.size, [.slice X0 n0 n0]), (w4.heap.size, [.int .i64 (chC xs0 xs1), .slice W nW cW]), (w.heap.size, [.slice A0 n0 c0])] := Scene.below S10 hb
  have S12 : Scene w w6 [(chD xs0, .slice A0 n0 c0), (.ints .i64 xs1, .slice A1 n1 c1)] [⟨.ints .i64 xs1, .slice X1 n1 n1, w5.heap.size + 1, w6.heap.size⟩, ⟨chD xs0, .slice X0 n0 n0, w4.heap.size + 1, w5.heap.size⟩, ⟨rowsD (stL xs0 xs1), .slice W nW cW, w3.heap.size, w4.heap.size⟩] [(w5.heap.size, [.slice X0 n0 n0]), (w4.heap.size, [.int .i64 (chC xs0 xs1), .slice W nW cW]), (w.heap.size, [.slice A0 n0 c0])] := Scene.addOwn S11 (ho.mono (by simp) (Nat.le_refl _)) (by have := S11.bel.size; omega) (Nat.le_refl _)
  clear ho hb hda1 S11
  clear x0_0 x0_1 z0 x1_0 z1
  have x0_0 : w6.cell? ⟨w5.heap.size, 0, none⟩ = some (.slice X0 n0 n0) := S12.boxI 0 0 rfl rfl
  have z0 : w5.heap.size < w6.heap.size := cell_lt x0_0
  have x1_0 : w6.cell? ⟨w4.heap.size, 0, none⟩ = some (.int .i64 (chC xs0 xs1)) := S12.boxI 1 0 rfl rfl
  have x1_1 : w6.cell? ⟨w4.heap.size, 1, none⟩ = some (.slice W nW cW) := S12.boxI 1 1 rfl rfl
  have z1 : w4.heap.size < w6.heap.size := cell_lt x1_0
  have x2_0 : w6.cell? ⟨w.heap.size, 0, none⟩ = some (.slice A0 n0 c0) := S12.boxI 2 0 rfl rfl
  have z2 : w.heap.size < w6.heap.size := cell_lt x2_0
  go_wp2_with fail
  obtain ⟨dx0, hx0⟩ := (S12.ownI 1 rfl).hd
  obtain ⟨dx1, hx1⟩ := (S12.ownI 0 rfl).hd
  refine (StepsOf_any X0 n0 n0 xs0 _ X1 n1 n1 xs1 _ _ hx0 hx1).mono ?_
  rintro e w7 ⟨G, nG, cG, rfl, ho, hb⟩
  have i7 := Below.size hb
  try simp only [World.size_alloc] at i7
  have S13 : Scene w w7 [(chD xs0, .slice A0 n0 c0), (.ints .i64 xs1, .slice A1 n1 c1)] [⟨.ints .i64 xs1, .slice X1 n1 n1, w5.heap.size + 1, w6.heap.size⟩, ⟨chD xs0, .slice X0 n0 n0, w4.heap.size + 1, w5.heap.size⟩, ⟨rowsD (stL xs0 xs1), .slice W nW cW, w3.heap.size, w4.heap.size⟩] [(w5.heap.size, [.slice X0 n0 n0]), (w4.heap.size, [.int .i64 (chC xs0 xs1), .slice W nW cW]), (w.heap.size, [.slice A0 n0 c0])] := Scene.below S12 hb
  clear hx0 hx1
  obtain ⟨bsn, hdn⟩ := ho.hd
  have hlG := hdn.rows.1
  obtain ⟨bsw, hdw⟩ := (S13.ownI 2 rfl).hd
  have hlW := hdw.rows.1
  obtain rfl : nW = nG := by omega
  have S14 : Scene w w7 [(chD xs0, .slice A0 n0 c0), (.ints .i64 xs1, .slice A1 n1 c1)] [⟨rowsD (stL xs0 xs1), .slice G nW cG, w6.heap.size, w7.heap.size⟩, ⟨.ints .i64 xs1, .slice X1 n1 n1, w5.heap.size + 1, w6.heap.size⟩, ⟨chD xs0, .slice X0 n0 n0, w4.heap.size + 1, w5.heap.size⟩, ⟨rowsD (stL xs0 xs1), .slice W nW cW, w3.heap.size, w4.heap.size⟩] [(w5.heap.size, [.slice X0 n0 n0]), (w4.heap.size, [.int .i64 (chC xs0 xs1), .slice W nW cW]), (w.heap.size, [.slice A0 n0 c0])] := Scene.addOwn S13 ho (by have := S13.bel.size; omega) (Nat.le_refl _)
  clear ho hb hdn hdw hlW hlG S13
  clear x0_0 z0 x1_0 x1_1 z1 x2_0 z2
  have x0_0 : w7.cell? ⟨w5.heap.size, 0, none⟩ = some (.slice X0 n0 n0) := S14.boxI 0 0 rfl rfl
  have z0 : w5.heap.size < w7.heap.size := cell_lt x0_0
  have x1_0 : w7.cell? ⟨w4.heap.size, 0, none⟩ = some (.int .i64 (chC xs0 xs1)) := S14.boxI 1 0 rfl rfl
  have x1_1 : w7.cell? ⟨w4.heap.size, 1, none⟩ = some (.slice W nW cW) := S14.boxI 1 1 rfl rfl
  have z1 : w4.heap.size < w7.heap.size := cell_lt x1_0
  have x2_0 : w7.cell? ⟨w.heap.size, 0, none⟩ = some (.slice A0 n0 c0) := S14.boxI 2 0 rfl rfl
  have z2 : w.heap.size < w7.heap.size := cell_lt x2_0
  have S15 : Scene w (w7.alloc (.cells #[.int .i64 (chC xs0 xs1), .slice G nW cG] 62)) [(chD xs0, .slice A0 n0 c0), (.ints .i64 xs1, .slice A1 n1 c1)] [⟨rowsD (stL xs0 xs1), .slice G nW cG, w6.heap.size, w7.heap.size⟩, ⟨.ints .i64 xs1, .slice X1 n1 n1, w5.heap.size + 1, w6.heap.size⟩, ⟨chD xs0, .slice X0 n0 n0, w4.heap.size + 1, w5.heap.size⟩, ⟨rowsD (stL xs0 xs1), .slice W nW cW, w3.heap.size, w4.heap.size⟩] [(w7.heap.size, [.int .i64 (chC xs0 xs1), .slice G nW cG]), (w5.heap.size, [.slice X0 n0 n0]), (w4.heap.size, [.int .i64 (chC xs0 xs1), .slice W nW cW]), (w.heap.size, [.slice A0 n0 c0])] := Scene.addBox S14 [.int .i64 (chC xs0 xs1), .slice G nW cG] 62
  clear S14
  go_wp2_with fail
  obtain ⟨bsx, hdx⟩ := (S15.ownI 0 rfl).hd
  obtain ⟨bsy, hdy⟩ := (S15.ownI 3 rfl).hd
  refine (eqStepsResult_same _ _ _ _ _ _ _ (stL xs0 xs1) _ _ _ hdx hdy (stL_small xs0 xs1)).mono ?_
  rintro e w8 ⟨rfl, hb⟩
  have i8 := Below.size hb
  try simp only [World.size_alloc] at i8
  have S16 : Scene w w8 [(chD xs0, .slice A0 n0 c0), (.ints .i64 xs1, .slice A1 n1 c1)] [⟨rowsD (stL xs0 xs1), .slice G nW cG, w6.heap.size, w7.heap.size⟩, ⟨.ints .i64 xs1, .slice X1 n1 n1, w5.heap.size + 1, w6.heap.size⟩, ⟨chD xs0, .slice X0 n0 n0, w4.heap.size + 1, w5.heap.size⟩, ⟨rowsD (stL xs0 xs1), .slice W nW cW, w3.heap.size, w4.heap.size⟩] [(w7.heap.size, [.int .i64 (chC xs0 xs1), .slice G nW cG]), (w5.heap.size, [.slice X0 n0 n0]), (w4.heap.size, [.int .i64 (chC xs0 xs1), .slice W nW cW]), (w.heap.size, [.slice A0 n0 c0])] := Scene.below S15 hb
  clear hb hdx hdy
  clear x0_0 z0 x1_0 x1_1 z1 x2_0 z2
  have x0_0 : w8.cell? ⟨w7.heap.size, 0, none⟩ = some (.int .i64 (chC xs0 xs1)) := S16.boxI 0 0 rfl rfl
  have x0_1 : w8.cell? ⟨w7.heap.size, 1, none⟩ = some (.slice G nW cG) := S16.boxI 0 1 rfl rfl
  have z0 : w7.heap.size < w8.heap.size := cell_lt x0_0
  have x1_0 : w8.cell? ⟨w5.heap.size, 0, none⟩ = some (.slice X0 n0 n0) := S16.boxI 1 0 rfl rfl
  have z1 : w5.heap.size < w8.heap.size := cell_lt x1_0
  have x2_0 : w8.cell? ⟨w4.heap.size, 0, none⟩ = some (.int .i64 (chC xs0 xs1)) := S16.boxI 2 0 rfl rfl
  have x2_1 : w8.cell? ⟨w4.heap.size, 1, none⟩ = some (.slice W nW cW) := S16.boxI 2 1 rfl rfl
  have z2 : w4.heap.size < w8.heap.size := cell_lt x2_0
  have x3_0 : w8.cell? ⟨w.heap.size, 0, none⟩ = some (.slice A0 n0 c0) := S16.boxI 3 0 rfl rfl
  have z3 : w.heap.size < w8.heap.size := cell_lt x3_0
  go_wp2_with fail
  go_region_held3 (fun w' => w'.cell? ⟨w7.heap.size, 0, none⟩ = some (.int .i64 (chC xs0 xs1)) ∧ w'.cell? ⟨w7.heap.size, 1, none⟩ = some (.slice G nW cG) ∧ w'.cell? ⟨w5.heap.size, 0, none⟩ = some (.slice X0 n0 n0) ∧ w'.cell? ⟨w4.heap.size, 0, none⟩ = some (.int .i64 (chC xs0 xs1)) ∧ w'.cell? ⟨w4.heap.size, 1, none⟩ = some (.slice W nW cW) ∧ w'.cell? ⟨w.heap.size, 0, none⟩ = some (.slice A0 n0 c0) ∧ Scene w w' [(chD xs0, .slice A0 n0 c0), (.ints .i64 xs1, .slice A1 n1 c1)] [⟨rowsD (stL xs0 xs1), .slice G nW cG, w6.heap.size, w7.heap.size⟩, ⟨.ints .i64 xs1, .slice X1 n1 n1, w5.heap.size + 1, w6.heap.size⟩, ⟨chD xs0, .slice X0 n0 n0, w4.heap.size + 1, w5.heap.size⟩, ⟨rowsD (stL xs0 xs1), .slice W nW cW, w3.heap.size, w4.heap.size⟩] [(w7.heap.size, [.int .i64 (chC xs0 xs1), .slice G nW cG]), (w5.heap.size, [.slice X0 n0 n0]), (w4.heap.size, [.int .i64 (chC xs0 xs1), .slice W nW cW]), (w.heap.size, [.slice A0 n0 c0])])
    (first | (go_split_ands; exact ⟨cell_later hb (by assumption), cell_later hb (by assumption), cell_later hb (by assumption), cell_later hb (by assumption), cell_later hb (by assumption), cell_later hb (by assumption), Scene.below (by assumption) hb⟩) | exact ⟨x0_0, x0_1, x1_0, x2_0, x2_1, x3_0, Scene.drew S16⟩)
    (first | (go_at_call 23; go_split_ands; obtain ⟨bsq, hdq⟩ := Scene.argI (by assumption) 0 rfl; refine (toChain_any A0 n0 c0 xs0 _ _ hdq hn0.out).mono ?_; rintro e w' ⟨Bq, rfl, ho, hb⟩) | (go_at_call 25; go_split_ands; obtain ⟨bsr, hdr⟩ := ho.hd; obtain ⟨bst, hdt⟩ := (Scene.ownI (by assumption) 2 rfl).hd; refine (eqChain_same _ _ _ _ _ _ xs0 _ _ _ hdt hdr hn0.out).mono ?_; rintro e w' ⟨rfl, hb⟩))
  go_split_ands
  rename Scene w _ _ _ _ => S17
  rename World => w9
  clear S16
  clear x0_0 x0_1 x1_0 x2_0 x2_1 x3_0 z0 z1 z2 z3
  clear ho
  have x0_0 : w9.cell? ⟨w7.heap.size, 0, none⟩ = some (.int .i64 (chC xs0 xs1)) := S17.boxI 0 0 rfl rfl
  have x0_1 : w9.cell? ⟨w7.heap.size, 1, none⟩ = some (.slice G nW cG) := S17.boxI 0 1 rfl rfl
  have z0 : w7.heap.size < w9.heap.size := cell_lt x0_0
  have x1_0 : w9.cell? ⟨w5.heap.size, 0, none⟩ = some (.slice X0 n0 n0) := S17.boxI 1 0 rfl rfl
  have z1 : w5.heap.size < w9.heap.size := cell_lt x1_0
  have x2_0 : w9.cell? ⟨w4.heap.size, 0, none⟩ = some (.int .i64 (chC xs0 xs1)) := S17.boxI 2 0 rfl rfl
  have x2_1 : w9.cell? ⟨w4.heap.size, 1, none⟩ = some (.slice W nW cW) := S17.boxI 2 1 rfl rfl
  have z2 : w4.heap.size < w9.heap.size := cell_lt x2_0
  have x3_0 : w9.cell? ⟨w.heap.size, 0, none⟩ = some (.slice A0 n0 c0) := S17.boxI 3 0 rfl rfl
  have z3 : w.heap.size < w9.heap.size := cell_lt x3_0
  go_wp2_with fail
  obtain ⟨bsa1, hda1⟩ := S17.argI 1 rfl
  refine (toInt64S_any A1 n1 c1 xs1 _ hda1.rd (by omega)).mono ?_
  rintro e w10 ⟨Y1, rfl, ho, hb⟩
  have i10 := Below.size hb
  try simp only [World.size_alloc] at i10
  have S18 : Scene w w10 [(chD xs0, .slice A0 n0 c0), (.ints .i64 xs1, .slice A1 n1 c1)] [⟨rowsD (stL xs0 xs1), .slice G nW cG, w6.heap.size, w7.heap.size⟩, ⟨.ints .i64 xs1, .slice X1 n1 n1, w5.heap.size + 1, w6.heap.size⟩, ⟨chD xs0, .slice X0 n0 n0, w4.heap.size + 1, w5.heap.size⟩, ⟨rowsD (stL xs0 xs1), .slice W nW cW, w3.heap.size, w4.heap.size⟩] [(w7.heap.size, [.int .i64 (chC xs0 xs1), .slice G nW cG]), (w5.heap.size, [.slice X0 n0 n0]), (w4.heap.size, [.int .i64 (chC xs0 xs1), .slice W nW cW]), (w.heap.size, [.slice A0 n0 c0])] := Scene.below S17 hb
  obtain ⟨dsy, ddy⟩ := ho.hd
  have DY := Lib.hid ddy
  clear ho hb ddy hda1
  clear x0_0 x0_1 z0 x1_0 z1 x2_0 x2_1 z2 x3_0 z3
  have x0_0 : w10.cell? ⟨w7.heap.size, 0, none⟩ = some (.int .i64 (chC xs0 xs1)) := S18.boxI 0 0 rfl rfl
  have x0_1 : w10.cell? ⟨w7.heap.size, 1, none⟩ = some (.slice G nW cG) := S18.boxI 0 1 rfl rfl
  have z0 : w7.heap.size < w10.heap.size := cell_lt x0_0
  have x1_0 : w10.cell? ⟨w5.heap.size, 0, none⟩ = some (.slice X0 n0 n0) := S18.boxI 1 0 rfl rfl
  have z1 : w5.heap.size < w10.heap.size := cell_lt x1_0
  have x2_0 : w10.cell? ⟨w4.heap.size, 0, none⟩ = some (.int .i64 (chC xs0 xs1)) := S18.boxI 2 0 rfl rfl
  have x2_1 : w10.cell? ⟨w4.heap.size, 1, none⟩ = some (.slice W nW cW) := S18.boxI 2 1 rfl rfl
  have z2 : w4.heap.size < w10.heap.size := cell_lt x2_0
  have x3_0 : w10.cell? ⟨w.heap.size, 0, none⟩ = some (.slice A0 n0 c0) := S18.boxI 3 0 rfl rfl
  have z3 : w.heap.size < w10.heap.size := cell_lt x3_0
  go_wp2_with fail
  obtain ⟨bst, hdt⟩ := (S18.ownI 1 rfl).hd
  refine (eqInt64S_bel _ _ _ _ _ _ xs1 _ hdt.rd DY.out.rd (by omega)).mono ?_
  rintro e w11 ⟨rfl, hb⟩
  have i11 := Below.size hb
  try simp only [World.size_alloc] at i11
  have S19 : Scene w w11 [(chD xs0, .slice A0 n0 c0), (.ints .i64 xs1, .slice A1 n1 c1)] [⟨rowsD (stL xs0 xs1), .slice G nW cG, w6.heap.size, w7.heap.size⟩, ⟨.ints .i64 xs1, .slice X1 n1 n1, w5.heap.size + 1, w6.heap.size⟩, ⟨chD xs0, .slice X0 n0 n0, w4.heap.size + 1, w5.heap.size⟩, ⟨rowsD (stL xs0 xs1), .slice W nW cW, w3.heap.size, w4.heap.size⟩] [(w7.heap.size, [.int .i64 (chC xs0 xs1), .slice G nW cG]), (w5.heap.size, [.slice X0 n0 n0]), (w4.heap.size, [.int .i64 (chC xs0 xs1), .slice W nW cW]), (w.heap.size, [.slice A0 n0 c0])] := Scene.below S18 hb
  clear hb
  clear hdt DY
  clear x0_0 x0_1 z0 x1_0 z1 x2_0 x2_1 z2 x3_0 z3
  have x0_0 : w11.cell? ⟨w7.heap.size, 0, none⟩ = some (.int .i64 (chC xs0 xs1)) := S19.boxI 0 0 rfl rfl
  have x0_1 : w11.cell? ⟨w7.heap.size, 1, none⟩ = some (.slice G nW cG) := S19.boxI 0 1 rfl rfl
  have z0 : w7.heap.size < w11.heap.size := cell_lt x0_0
  have x1_0 : w11.cell? ⟨w5.heap.size, 0, none⟩ = some (.slice X0 n0 n0) := S19.boxI 1 0 rfl rfl
  have z1 : w5.heap.size < w11.heap.size := cell_lt x1_0
  have x2_0 : w11.cell? ⟨w4.heap.size, 0, none⟩ = some (.int .i64 (chC xs0 xs1)) := S19.boxI 2 0 rfl rfl
  have x2_1 : w11.cell? ⟨w4.heap.size, 1, none⟩ = some (.slice W nW cW) := S19.boxI 2 1 rfl rfl
  have z2 : w4.heap.size < w11.heap.size := cell_lt x2_0
  have x3_0 : w11.cell? ⟨w.heap.size, 0, none⟩ = some (.slice A0 n0 c0) := S19.boxI 3 0 rfl rfl
  have z3 : w.heap.size < w11.heap.size := cell_lt x3_0
  go_wp2_with fail
  obtain ⟨bsm, hdm, ndm, inm⟩ := S19.ownI 2 rfl
  refine (markChain_any _ _ _ 1 xs0 bsm _ hdm ndm (fun b hb => (inm b hb).2.2) hn0.out (by omega)).mono ?_
  rintro e w12 ⟨rfl, hdm2, hchm⟩
  have sz12 := hchm.size
  have S20 : Scene w w12 [(chD xs0, .slice A0 n0 c0), (.ints .i64 xs1, .slice A1 n1 c1)] [⟨chD (mkC xs0 1 xs0.length), .slice X0 n0 n0, w4.heap.size + 1, w5.heap.size⟩, ⟨rowsD (stL xs0 xs1), .slice G nW cG, w6.heap.size, w7.heap.size⟩, ⟨.ints .i64 xs1, .slice X1 n1 n1, w5.heap.size + 1, w6.heap.size⟩, ⟨rowsD (stL xs0 xs1), .slice W nW cW, w3.heap.size, w4.heap.size⟩] [(w7.heap.size, [.int .i64 (chC xs0 xs1), .slice G nW cG]), (w5.heap.size, [.slice X0 n0 n0]), (w4.heap.size, [.int .i64 (chC xs0 xs1), .slice W nW cW]), (w.heap.size, [.slice A0 n0 c0])] := Scene.turn (lo := w4.heap.size + 1) (hi := w5.heap.size) (os' := [⟨rowsD (stL xs0 xs1), .slice G nW cG, w6.heap.size, w7.heap.size⟩, ⟨.ints .i64 xs1, .slice X1 n1 n1, w5.heap.size + 1, w6.heap.size⟩, ⟨rowsD (stL xs0 xs1), .slice W nW cW, w3.heap.size, w4.heap.size⟩]) S19 hchm (fun k hk => ⟨(inm k hk).1, (inm k hk).2.1⟩) (by have := S19.bel.size; omega) (S19.own _ (List.mem_of_getElem? (i := 2) rfl)).2.2
    ⟨bsm, hdm2, ndm, fun b hb => ⟨(inm b hb).1, (inm b hb).2.1, (inm b hb).2.2.ch hchm (hdm.lt b hb)⟩⟩ (by simp; try omega) (by simp; try omega)
  clear hdm ndm inm hdm2 hchm S19
  clear x0_0 x0_1 z0 x1_0 z1 x2_0 x2_1 z2 x3_0 z3
  have x0_0 : w12.cell? ⟨w7.heap.size, 0, none⟩ = some (.int .i64 (chC xs0 xs1)) := S20.boxI 0 0 rfl rfl
  have x0_1 : w12.cell? ⟨w7.heap.size, 1, none⟩ = some (.slice G nW cG) := S20.boxI 0 1 rfl rfl
  have z0 : w7.heap.size < w12.heap.size := cell_lt x0_0
  have x1_0 : w12.cell? ⟨w5.heap.size, 0, none⟩ = some (.slice X0 n0 n0) := S20.boxI 1 0 rfl rfl
  have z1 : w5.heap.size < w12.heap.size := cell_lt x1_0
  have x2_0 : w12.cell? ⟨w4.heap.size, 0, none⟩ = some (.int .i64 (chC xs0 xs1)) := S20.boxI 2 0 rfl rfl
  have x2_1 : w12.cell? ⟨w4.heap.size, 1, none⟩ = some (.slice W nW cW) := S20.boxI 2 1 rfl rfl
  have z2 : w4.heap.size < w12.heap.size := cell_lt x2_0
  have x3_0 : w12.cell? ⟨w.heap.size, 0, none⟩ = some (.slice A0 n0 c0) := S20.boxI 3 0 rfl rfl
  have z3 : w.heap.size < w12.heap.size := cell_lt x3_0
  have hbd0 := kC_big hn0.out (k := 1) (by omega) (Nat.le_refl _)
  go_wp2_with fail
  obtain ⟨bsm, hdm, ndm, inm⟩ := S20.ownI 2 rfl
  refine (markInt64S_any _ _ _ ((kC xs0 1 xs0.length : Nat) : Int) _ bsm _ hdm (by omega) (by omega) (by omega) (fun b hb => (inm b hb).2.2)).mono ?_
  rintro e w13 ⟨rfl, hdm2, hchm⟩
  have sz13 := hchm.size
  have S21 : Scene w w13 [(chD xs0, .slice A0 n0 c0), (.ints .i64 xs1, .slice A1 n1 c1)] [⟨.ints .i64 (imarks ((kC xs0 1 xs0.length : Nat) : Int) n1), .slice X1 n1 n1, w5.heap.size + 1, w6.heap.size⟩, ⟨chD (mkC xs0 1 xs0.length), .slice X0 n0 n0, w4.heap.size + 1, w5.heap.size⟩, ⟨rowsD (stL xs0 xs1), .slice G nW cG, w6.heap.size, w7.heap.size⟩, ⟨rowsD (stL xs0 xs1), .slice W nW cW, w3.heap.size, w4.heap.size⟩] [(w7.heap.size, [.int .i64 (chC xs0 xs1), .slice G nW cG]), (w5.heap.size, [.slice X0 n0 n0]), (w4.heap.size, [.int .i64 (chC xs0 xs1), .slice W nW cW]), (w.heap.size, [.slice A0 n0 c0])] := Scene.turn (lo := w5.heap.size + 1) (hi := w6.heap.size) (os' := [⟨chD (mkC xs0 1 xs0.length), .slice X0 n0 n0, w4.heap.size + 1, w5.heap.size⟩, ⟨rowsD (stL xs0 xs1), .slice G nW cG, w6.heap.size, w7.heap.size⟩, ⟨rowsD (stL xs0 xs1), .slice W nW cW, w3.heap.size, w4.heap.size⟩]) S20 hchm (fun k hk => ⟨(inm k hk).1, (inm k hk).2.1⟩) (by have := S20.bel.size; omega) (S20.own _ (List.mem_of_getElem? (i := 2) rfl)).2.2
    ⟨bsm, hdm2, ndm, fun b hb => ⟨(inm b hb).1, (inm b hb).2.1, (inm b hb).2.2.ch hchm (hdm.lt b hb)⟩⟩ (by simp; try omega) (by simp; try omega)
  clear hdm ndm inm hdm2 hchm S20
  clear x0_0 x0_1 z0 x1_0 z1 x2_0 x2_1 z2 x3_0 z3
  have x0_0 : w13.cell? ⟨w7.heap.size, 0, none⟩ = some (.int .i64 (chC xs0 xs1)) := S21.boxI 0 0 rfl rfl
  have x0_1 : w13.cell? ⟨w7.heap.size, 1, none⟩ = some (.slice G nW cG) := S21.boxI 0 1 rfl rfl
  have z0 : w7.heap.size < w13.heap.size := cell_lt x0_0
  have x1_0 : w13.cell? ⟨w5.heap.size, 0, none⟩ = some (.slice X0 n0 n0) := S21.boxI 1 0 rfl rfl
  have z1 : w5.heap.size < w13.heap.size := cell_lt x1_0
  have x2_0 : w13.cell? ⟨w4.heap.size, 0, none⟩ = some (.int .i64 (chC xs0 xs1)) := S21.boxI 2 0 rfl rfl
  have x2_1 : w13.cell? ⟨w4.heap.size, 1, none⟩ = some (.slice W nW cW) := S21.boxI 2 1 rfl rfl
  have z2 : w4.heap.size < w13.heap.size := cell_lt x2_0
  have x3_0 : w13.cell? ⟨w.heap.size, 0, none⟩ = some (.slice A0 n0 c0) := S21.boxI 3 0 rfl rfl
  have z3 : w.heap.size < w13.heap.size := cell_lt x3_0
  have hkneg : ¬ ((((kC xs0 1 xs0.length : Nat) : Int) + (n1 : Int)) : Int) < 0 := by omega
  go_wp2_with fail
  obtain ⟨bsx, hdx⟩ := (S21.ownI 2 rfl).hd
  obtain ⟨bsy, hdy⟩ := (S21.ownI 3 rfl).hd
  refine (eqStepsResult_same _ _ _ _ _ _ _ (stL xs0 xs1) _ _ _ hdx hdy (stL_small xs0 xs1)).mono ?_
  rintro e w14 ⟨rfl, hb⟩
  have i14 := Below.size hb
  try simp only [World.size_alloc] at i14
  have S22 : Scene w w14 [(chD xs0, .slice A0 n0 c0), (.ints .i64 xs1, .slice A1 n1 c1)] [⟨.ints .i64 (imarks ((kC xs0 1 xs0.length : Nat) : Int) n1), .slice X1 n1 n1, w5.heap.size + 1, w6.heap.size⟩, ⟨chD (mkC xs0 1 xs0.length), .slice X0 n0 n0, w4.heap.size + 1, w5.heap.size⟩, ⟨rowsD (stL xs0 xs1), .slice G nW cG, w6.heap.size, w7.heap.size⟩, ⟨rowsD (stL xs0 xs1), .slice W nW cW, w3.heap.size, w4.heap.size⟩] [(w7.heap.size, [.int .i64 (chC xs0 xs1), .slice G nW cG]), (w5.heap.size, [.slice X0 n0 n0]), (w4.heap.size, [.int .i64 (chC xs0 xs1), .slice W nW cW]), (w.heap.size, [.slice A0 n0 c0])] := Scene.below S21 hb
  clear hb hdx hdy
  clear x0_0 x0_1 z0 x1_0 z1 x2_0 x2_1 z2 x3_0 z3
  have x0_0 : w14.cell? ⟨w7.heap.size, 0, none⟩ = some (.int .i64 (chC xs0 xs1)) := S22.boxI 0 0 rfl rfl
  have x0_1 : w14.cell? ⟨w7.heap.size, 1, none⟩ = some (.slice G nW cG) := S22.boxI 0 1 rfl rfl
  have z0 : w7.heap.size < w14.heap.size := cell_lt x0_0
  have x1_0 : w14.cell? ⟨w5.heap.size, 0, none⟩ = some (.slice X0 n0 n0) := S22.boxI 1 0 rfl rfl
  have z1 : w5.heap.size < w14.heap.size := cell_lt x1_0
  have x2_0 : w14.cell? ⟨w4.heap.size, 0, none⟩ = some (.int .i64 (chC xs0 xs1)) := S22.boxI 2 0 rfl rfl
  have x2_1 : w14.cell? ⟨w4.heap.size, 1, none⟩ = some (.slice W nW cW) := S22.boxI 2 1 rfl rfl
  have z2 : w4.heap.size < w14.heap.size := cell_lt x2_0
  have x3_0 : w14.cell? ⟨w.heap.size, 0, none⟩ = some (.slice A0 n0 c0) := S22.boxI 3 0 rfl rfl
  have z3 : w.heap.size < w14.heap.size := cell_lt x3_0
  go_wp2_with fail
  obtain ⟨bsm, hdm, ndm, inm⟩ := S22.ownI 2 rfl
  refine (markStepsResult_any _ _ _ 1 _ (stL xs0 xs1) bsm _ hdm ndm (fun b hb => (inm b hb).2.2) (stL_small xs0 xs1) (by omega)).mono ?_
  rintro e w15 ⟨rfl, hdm2, hchm⟩
  have sz15 := hchm.size
  have S23 : Scene w w15 [(chD xs0, .slice A0 n0 c0), (.ints .i64 xs1, .slice A1 n1 c1)] [⟨rowsD (mkRs (stL xs0 xs1) 1), .slice G nW cG, w6.heap.size, w7.heap.size⟩, ⟨.ints .i64 (imarks ((kC xs0 1 xs0.length : Nat) : Int) n1), .slice X1 n1 n1, w5.heap.size + 1, w6.heap.size⟩, ⟨chD (mkC xs0 1 xs0.length), .slice X0 n0 n0, w4.heap.size + 1, w5.heap.size⟩, ⟨rowsD (stL xs0 xs1), .slice W nW cW, w3.heap.size, w4.heap.size⟩] [(w7.heap.size, [.int .i64 (chC xs0 xs1), .slice G nW cG]), (w5.heap.size, [.slice X0 n0 n0]), (w4.heap.size, [.int .i64 (chC xs0 xs1), .slice W nW cW]), (w.heap.size, [.slice A0 n0 c0])] := Scene.turn (lo := w6.heap.size) (hi := w7.heap.size) (os' := [⟨.ints .i64 (imarks ((kC xs0 1 xs0.length : Nat) : Int) n1), .slice X1 n1 n1, w5.heap.size + 1, w6.heap.size⟩, ⟨chD (mkC xs0 1 xs0.length), .slice X0 n0 n0, w4.heap.size + 1, w5.heap.size⟩, ⟨rowsD (stL xs0 xs1), .slice W nW cW, w3.heap.size, w4.heap.size⟩]) S22 hchm (fun k hk => ⟨(inm k hk).1, (inm k hk).2.1⟩) (by have := S22.bel.size; omega) (S22.own _ (List.mem_of_getElem? (i := 2) rfl)).2.2
    ⟨bsm, hdm2, ndm, fun b hb => ⟨(inm b hb).1, (inm b hb).2.1, (inm b hb).2.2.ch hchm (hdm.lt b hb)⟩⟩ (by simp; try omega) (by simp; try omega)
  clear hdm ndm inm hdm2 hchm S22
  clear x0_0 x0_1 z0 x1_0 z1 x2_0 x2_1 z2 x3_0 z3
  have x0_0 : w15.cell? ⟨w7.heap.size, 0, none⟩ = some (.int .i64 (chC xs0 xs1)) := S23.boxI 0 0 rfl rfl
  have x0_1 : w15.cell? ⟨w7.heap.size, 1, none⟩ = some (.slice G nW cG) := S23.boxI 0 1 rfl rfl
  have z0 : w7.heap.size < w15.heap.size := cell_lt x0_0
  have x1_0 : w15.cell? ⟨w5.heap.size, 0, none⟩ = some (.slice X0 n0 n0) := S23.boxI 1 0 rfl rfl
  have z1 : w5.heap.size < w15.heap.size := cell_lt x1_0
  have x2_0 : w15.cell? ⟨w4.heap.size, 0, none⟩ = some (.int .i64 (chC xs0 xs1)) := S23.boxI 2 0 rfl rfl
  have x2_1 : w15.cell? ⟨w4.heap.size, 1, none⟩ = some (.slice W nW cW) := S23.boxI 2 1 rfl rfl
  have z2 : w4.heap.size < w15.heap.size := cell_lt x2_0
  have x3_0 : w15.cell? ⟨w.heap.size, 0, none⟩ = some (.slice A0 n0 c0) := S23.boxI 3 0 rfl rfl
  have z3 : w.heap.size < w15.heap.size := cell_lt x3_0
  go_wp2_with fail
  obtain ⟨bsh, hdh⟩ := (S23.ownI 0 rfl).hd
  refine (heldStepsResult_any _ _ _ 1 _ (stL xs0 xs1) _ _ hdh (stL_small xs0 xs1) (by omega)).mono ?_
  rintro e w16 ⟨rfl, hb⟩
  have i16 := Below.size hb
  try simp only [World.size_alloc] at i16
  have S24 : Scene w w16 [(chD xs0, .slice A0 n0 c0), (.ints .i64 xs1, .slice A1 n1 c1)] [⟨rowsD (mkRs (stL xs0 xs1) 1), .slice G nW cG, w6.heap.size, w7.heap.size⟩, ⟨.ints .i64 (imarks ((kC xs0 1 xs0.length : Nat) : Int) n1), .slice X1 n1 n1, w5.heap.size + 1, w6.heap.size⟩, ⟨chD (mkC xs0 1 xs0.length), .slice X0 n0 n0, w4.heap.size + 1, w5.heap.size⟩, ⟨rowsD (stL xs0 xs1), .slice W nW cW, w3.heap.size, w4.heap.size⟩] [(w7.heap.size, [.int .i64 (chC xs0 xs1), .slice G nW cG]), (w5.heap.size, [.slice X0 n0 n0]), (w4.heap.size, [.int .i64 (chC xs0 xs1), .slice W nW cW]), (w.heap.size, [.slice A0 n0 c0])] := Scene.below S23 hb
  clear hb hdh
  have hneg : ¬ ((kR (stL xs0 xs1) 1 (stL xs0 xs1).length : Nat) : Int) < 0 := by omega
  clear x0_0 x0_1 z0 x1_0 z1 x2_0 x2_1 z2 x3_0 z3
  have x0_0 : w16.cell? ⟨w7.heap.size, 0, none⟩ = some (.int .i64 (chC xs0 xs1)) := S24.boxI 0 0 rfl rfl
  have x0_1 : w16.cell? ⟨w7.heap.size, 1, none⟩ = some (.slice G nW cG) := S24.boxI 0 1 rfl rfl
  have z0 : w7.heap.size < w16.heap.size := cell_lt x0_0
  have x1_0 : w16.cell? ⟨w5.heap.size, 0, none⟩ = some (.slice X0 n0 n0) := S24.boxI 1 0 rfl rfl
  have z1 : w5.heap.size < w16.heap.size := cell_lt x1_0
  have x2_0 : w16.cell? ⟨w4.heap.size, 0, none⟩ = some (.int .i64 (chC xs0 xs1)) := S24.boxI 2 0 rfl rfl
  have x2_1 : w16.cell? ⟨w4.heap.size, 1, none⟩ = some (.slice W nW cW) := S24.boxI 2 1 rfl rfl
  have z2 : w4.heap.size < w16.heap.size := cell_lt x2_0
  have x3_0 : w16.cell? ⟨w.heap.size, 0, none⟩ = some (.slice A0 n0 c0) := S24.boxI 3 0 rfl rfl
  have z3 : w.heap.size < w16.heap.size := cell_lt x3_0
  go_wp2_with fail
  obtain ⟨bsa0, hda0⟩ := S24.argI 0 rfl
  refine (toChain_any A0 n0 c0 xs0 _ _ hda0 hn0.out).mono ?_
  rintro e w17 ⟨B17, rfl, ho, hb⟩
  have i17 := Below.size hb
  try simp only [World.size_alloc] at i17
  have S25 : Scene w w17 [(chD xs0, .slice A0 n0 c0), (.ints .i64 xs1, .slice A1 n1 c1)] [⟨rowsD (mkRs (stL xs0 xs1) 1), .slice G nW cG, w6.heap.size, w7.heap.size⟩, ⟨.ints .i64 (imarks ((kC xs0 1 xs0.length : Nat) : Int) n1), .slice X1 n1 n1, w5.heap.size + 1, w6.heap.size⟩, ⟨chD (mkC xs0 1 xs0.length), .slice X0 n0 n0, w4.heap.size + 1, w5.heap.size⟩, ⟨rowsD (stL xs0 xs1), .slice W nW cW, w3.heap.size, w4.heap.size⟩] [(w7.heap.size, [.int .i64 (chC xs0 xs1), .slice G nW cG]), (w5.heap.size, [.slice X0 n0 n0]), (w4.heap.size, [.int .i64 (chC xs0 xs1), .slice W nW cW]), (w.heap.size, [.slice A0 n0 c0])] := Scene.below S24 hb
  obtain ⟨ds0, dd0⟩ := ho.hd
  have D0 := Lib.hid dd0
  clear ho hb dd0 hda0
  clear x0_0 x0_1 z0 x1_0 z1 x2_0 x2_1 z2 x3_0 z3
  have x0_0 : w17.cell? ⟨w7.heap.size, 0, none⟩ = some (.int .i64 (chC xs0 xs1)) := S25.boxI 0 0 rfl rfl
  have x0_1 : w17.cell? ⟨w7.heap.size, 1, none⟩ = some (.slice G nW cG) := S25.boxI 0 1 rfl rfl
  have z0 : w7.heap.size < w17.heap.size := cell_lt x0_0
  have x1_0 : w17.cell? ⟨w5.heap.size, 0, none⟩ = some (.slice X0 n0 n0) := S25.boxI 1 0 rfl rfl
  have z1 : w5.heap.size < w17.heap.size := cell_lt x1_0
  have x2_0 : w17.cell? ⟨w4.heap.size, 0, none⟩ = some (.int .i64 (chC xs0 xs1)) := S25.boxI 2 0 rfl rfl
  have x2_1 : w17.cell? ⟨w4.heap.size, 1, none⟩ = some (.slice W nW cW) := S25.boxI 2 1 rfl rfl
  have z2 : w4.heap.size < w17.heap.size := cell_lt x2_0
  have x3_0 : w17.cell? ⟨w.heap.size, 0, none⟩ = some (.slice A0 n0 c0) := S25.boxI 3 0 rfl rfl
  have z3 : w.heap.size < w17.heap.size := cell_lt x3_0
  go_wp2_with fail
  obtain ⟨bsa1, hda1⟩ := S25.argI 1 rfl
  refine (toInt64S_any A1 n1 c1 xs1 _ hda1.rd (by omega)).mono ?_
  rintro e w18 ⟨B18, rfl, ho, hb⟩
  have i18 := Below.size hb
  try simp only [World.size_alloc] at i18
  have S26 : Scene w w18 [(chD xs0, .slice A0 n0 c0), (.ints .i64 xs1, .slice A1 n1 c1)] [⟨rowsD (mkRs (stL xs0 xs1) 1), .slice G nW cG, w6.heap.size, w7.heap.size⟩, ⟨.ints .i64 (imarks ((kC xs0 1 xs0.length : Nat) : Int) n1), .slice X1 n1 n1, w5.heap.size + 1, w6.heap.size⟩, ⟨chD (mkC xs0 1 xs0.length), .slice X0 n0 n0, w4.heap.size + 1, w5.heap.size⟩, ⟨rowsD (stL xs0 xs1), .slice W nW cW, w3.heap.size, w4.heap.size⟩] [(w7.heap.size, [.int .i64 (chC xs0 xs1), .slice G nW cG]), (w5.heap.size, [.slice X0 n0 n0]), (w4.heap.size, [.int .i64 (chC xs0 xs1), .slice W nW cW]), (w.heap.size, [.slice A0 n0 c0])] := Scene.below S25 hb
  have D0 := Lib.hid (D0.out.bel hb)
  obtain ⟨ds1, dd1⟩ := ho.hd
  have D1 := Lib.hid dd1
  clear ho hb dd1 hda1
  clear x0_0 x0_1 z0 x1_0 z1 x2_0 x2_1 z2 x3_0 z3
  have x0_0 : w18.cell? ⟨w7.heap.size, 0, none⟩ = some (.int .i64 (chC xs0 xs1)) := S26.boxI 0 0 rfl rfl
  have x0_1 : w18.cell? ⟨w7.heap.size, 1, none⟩ = some (.slice G nW cG) := S26.boxI 0 1 rfl rfl
  have z0 : w7.heap.size < w18.heap.size := cell_lt x0_0
  have x1_0 : w18.cell? ⟨w5.heap.size, 0, none⟩ = some (.slice X0 n0 n0) := S26.boxI 1 0 rfl rfl
  have z1 : w5.heap.size < w18.heap.size := cell_lt x1_0
  have x2_0 : w18.cell? ⟨w4.heap.size, 0, none⟩ = some (.int .i64 (chC xs0 xs1)) := S26.boxI 2 0 rfl rfl
  have x2_1 : w18.cell? ⟨w4.heap.size, 1, none⟩ = some (.slice W nW cW) := S26.boxI 2 1 rfl rfl
  have z2 : w4.heap.size < w18.heap.size := cell_lt x2_0
  have x3_0 : w18.cell? ⟨w.heap.size, 0, none⟩ = some (.slice A0 n0 c0) := S26.boxI 3 0 rfl rfl
  have z3 : w.heap.size < w18.heap.size := cell_lt x3_0
  go_wp2_with fail
  refine (StepsOf_any B17 n0 n0 xs0 _ B18 n1 n1 xs1 _ _ D0.out D1.out).mono ?_
  rintro e w19 ⟨H, nH, cH, rfl, ho, hb⟩
  have i19 := Below.size hb
  try simp only [World.size_alloc] at i19
  have S27 : Scene w w19 [(chD xs0, .slice A0 n0 c0), (.ints .i64 xs1, .slice A1 n1 c1)] [⟨rowsD (mkRs (stL xs0 xs1) 1), .slice G nW cG, w6.heap.size, w7.heap.size⟩, ⟨.ints .i64 (imarks ((kC xs0 1 xs0.length : Nat) : Int) n1), .slice X1 n1 n1, w5.heap.size + 1, w6.heap.size⟩, ⟨chD (mkC xs0 1 xs0.length), .slice X0 n0 n0, w4.heap.size + 1, w5.heap.size⟩, ⟨rowsD (stL xs0 xs1), .slice W nW cW, w3.heap.size, w4.heap.size⟩] [(w7.heap.size, [.int .i64 (chC xs0 xs1), .slice G nW cG]), (w5.heap.size, [.slice X0 n0 n0]), (w4.heap.size, [.int .i64 (chC xs0 xs1), .slice W nW cW]), (w.heap.size, [.slice A0 n0 c0])] := Scene.below S26 hb
  clear D0 D1
  obtain ⟨bsn, hdn⟩ := ho.hd
  have hlH := hdn.rows.1
  obtain ⟨bsw, hdw⟩ := (S27.ownI 3 rfl).hd
  have hlW := hdw.rows.1
  obtain rfl : nW = nH := by omega
  have S28 : Scene w w19 [(chD xs0, .slice A0 n0 c0), (.ints .i64 xs1, .slice A1 n1 c1)] [⟨rowsD (stL xs0 xs1), .slice H nW cH, w18.heap.size, w19.heap.size⟩, ⟨rowsD (mkRs (stL xs0 xs1) 1), .slice G nW cG, w6.heap.size, w7.heap.size⟩, ⟨.ints .i64 (imarks ((kC xs0 1 xs0.length : Nat) : Int) n1), .slice X1 n1 n1, w5.heap.size + 1, w6.heap.size⟩, ⟨chD (mkC xs0 1 xs0.length), .slice X0 n0 n0, w4.heap.size + 1, w5.heap.size⟩, ⟨rowsD (stL xs0 xs1), .slice W nW cW, w3.heap.size, w4.heap.size⟩] [(w7.heap.size, [.int .i64 (chC xs0 xs1), .slice G nW cG]), (w5.heap.size, [.slice X0 n0 n0]), (w4.heap.size, [.int .i64 (chC xs0 xs1), .slice W nW cW]), (w.heap.size, [.slice A0 n0 c0])] := Scene.addOwn S27 ho (by have := S27.bel.size; omega) (Nat.le_refl _)
  clear ho hb hdn hdw hlW hlH S27
  clear x0_0 x0_1 z0 x1_0 z1 x2_0 x2_1 z2 x3_0 z3
  have x0_0 : w19.cell? ⟨w7.heap.size, 0, none⟩ = some (.int .i64 (chC xs0 xs1)) := S28.boxI 0 0 rfl rfl
  have x0_1 : w19.cell? ⟨w7.heap.size, 1, none⟩ = some (.slice G nW cG) := S28.boxI 0 1 rfl rfl
  have z0 : w7.heap.size < w19.heap.size := cell_lt x0_0
  have x1_0 : w19.cell? ⟨w5.heap.size, 0, none⟩ = some (.slice X0 n0 n0) := S28.boxI 1 0 rfl rfl
  have z1 : w5.heap.size < w19.heap.size := cell_lt x1_0
  have x2_0 : w19.cell? ⟨w4.heap.size, 0, none⟩ = some (.int .i64 (chC xs0 xs1)) := S28.boxI 2 0 rfl rfl
  have x2_1 : w19.cell? ⟨w4.heap.size, 1, none⟩ = some (.slice W nW cW) := S28.boxI 2 1 rfl rfl
  have z2 : w4.heap.size < w19.heap.size := cell_lt x2_0
  have x3_0 : w19.cell? ⟨w.heap.size, 0, none⟩ = some (.slice A0 n0 c0) := S28.boxI 3 0 rfl rfl
  have z3 : w.heap.size < w19.heap.size := cell_lt x3_0
  have S29 : Scene w (w19.alloc (.cells #[.int .i64 (chC xs0 xs1), .slice H nW cH] 62)) [(chD xs0, .slice A0 n0 c0), (.ints .i64 xs1, .slice A1 n1 c1)] [⟨rowsD (stL xs0 xs1), .slice H nW cH, w18.heap.size, w19.heap.size⟩, ⟨rowsD (mkRs (stL xs0 xs1) 1), .slice G nW cG, w6.heap.size, w7.heap.size⟩, ⟨.ints .i64 (imarks ((kC xs0 1 xs0.length : Nat) : Int) n1), .slice X1 n1 n1, w5.heap.size + 1, w6.heap.size⟩, ⟨chD (mkC xs0 1 xs0.length), .slice X0 n0 n0, w4.heap.size + 1, w5.heap.size⟩, ⟨rowsD (stL xs0 xs1), .slice W nW cW, w3.heap.size, w4.heap.size⟩] [(w19.heap.size, [.int .i64 (chC xs0 xs1), .slice H nW cH]), (w7.heap.size, [.int .i64 (chC xs0 xs1), .slice G nW cG]), (w5.heap.size, [.slice X0 n0 n0]), (w4.heap.size, [.int .i64 (chC xs0 xs1), .slice W nW cW]), (w.heap.size, [.slice A0 n0 c0])] := Scene.addBox S28 [.int .i64 (chC xs0 xs1), .slice H nW cH] 62
  clear S28
  go_wp2_with fail
  obtain ⟨bsx, hdx⟩ := (S29.ownI 0 rfl).hd
  obtain ⟨bsy, hdy⟩ := (S29.ownI 4 rfl).hd
  refine (eqStepsResult_same _ _ _ _ _ _ _ (stL xs0 xs1) _ _ _ hdx hdy (stL_small xs0 xs1)).mono ?_
  rintro e w20 ⟨rfl, hb⟩
  have i20 := Below.size hb
  try simp only [World.size_alloc] at i20
  have S30 : Scene w w20 [(chD xs0, .slice A0 n0 c0), (.ints .i64 xs1, .slice A1 n1 c1)] [⟨rowsD (stL xs0 xs1), .slice H nW cH, w18.heap.size, w19.heap.size⟩, ⟨rowsD (mkRs (stL xs0 xs1) 1), .slice G nW cG, w6.heap.size, w7.heap.size⟩, ⟨.ints .i64 (imarks ((kC xs0 1 xs0.length : Nat) : Int) n1), .slice X1 n1 n1, w5.heap.size + 1, w6.heap.size⟩, ⟨chD (mkC xs0 1 xs0.length), .slice X0 n0 n0, w4.heap.size + 1, w5.heap.size⟩, ⟨rowsD (stL xs0 xs1), .slice W nW cW, w3.heap.size, w4.heap.size⟩] [(w19.heap.size, [.int .i64 (chC xs0 xs1), .slice H nW cH]), (w7.heap.size, [.int .i64 (chC xs0 xs1), .slice G nW cG]), (w5.heap.size, [.slice X0 n0 n0]), (w4.heap.size, [.int .i64 (chC xs0 xs1), .slice W nW cW]), (w.heap.size, [.slice A0 n0 c0])] := Scene.below S29 hb
  clear hb hdx hdy
  clear x0_0 x0_1 z0 x1_0 z1 x2_0 x2_1 z2 x3_0 z3
  have x0_0 : w20.cell? ⟨w19.heap.size, 0, none⟩ = some (.int .i64 (chC xs0 xs1)) := S30.boxI 0 0 rfl rfl
  have x0_1 : w20.cell? ⟨w19.heap.size, 1, none⟩ = some (.slice H nW cH) := S30.boxI 0 1 rfl rfl
  have z0 : w19.heap.size < w20.heap.size := cell_lt x0_0
  have x1_0 : w20.cell? ⟨w7.heap.size, 0, none⟩ = some (.int .i64 (chC xs0 xs1)) := S30.boxI 1 0 rfl rfl
  have x1_1 : w20.cell? ⟨w7.heap.size, 1, none⟩ = some (.slice G nW cG) := S30.boxI 1 1 rfl rfl
  have z1 : w7.heap.size < w20.heap.size := cell_lt x1_0
  have x2_0 : w20.cell? ⟨w5.heap.size, 0, none⟩ = some (.slice X0 n0 n0) := S30.boxI 2 0 rfl rfl
  have z2 : w5.heap.size < w20.heap.size := cell_lt x2_0
  have x3_0 : w20.cell? ⟨w4.heap.size, 0, none⟩ = some (.int .i64 (chC xs0 xs1)) := S30.boxI 3 0 rfl rfl
  have x3_1 : w20.cell? ⟨w4.heap.size, 1, none⟩ = some (.slice W nW cW) := S30.boxI 3 1 rfl rfl
  have z3 : w4.heap.size < w20.heap.size := cell_lt x3_0
  have x4_0 : w20.cell? ⟨w.heap.size, 0, none⟩ = some (.slice A0 n0 c0) := S30.boxI 4 0 rfl rfl
  have z4 : w.heap.size < w20.heap.size := cell_lt x4_0
  go_wp2_with fail
  obtain ⟨bsh, hdh⟩ := (S30.ownI 1 rfl).hd
  refine (heldStepsResult_any _ _ _ 1 _ (stL xs0 xs1) _ _ hdh (stL_small xs0 xs1) (by omega)).mono ?_
  rintro e w21 ⟨rfl, hb⟩
  have i21 := Below.size hb
  try simp only [World.size_alloc] at i21
  have S31 : Scene w w21 [(chD xs0, .slice A0 n0 c0), (.ints .i64 xs1, .slice A1 n1 c1)] [⟨rowsD (stL xs0 xs1), .slice H nW cH, w18.heap.size, w19.heap.size⟩, ⟨rowsD (mkRs (stL xs0 xs1) 1), .slice G nW cG, w6.heap.size, w7.heap.size⟩, ⟨.ints .i64 (imarks ((kC xs0 1 xs0.length : Nat) : Int) n1), .slice X1 n1 n1, w5.heap.size + 1, w6.heap.size⟩, ⟨chD (mkC xs0 1 xs0.length), .slice X0 n0 n0, w4.heap.size + 1, w5.heap.size⟩, ⟨rowsD (stL xs0 xs1), .slice W nW cW, w3.heap.size, w4.heap.size⟩] [(w19.heap.size, [.int .i64 (chC xs0 xs1), .slice H nW cH]), (w7.heap.size, [.int .i64 (chC xs0 xs1), .slice G nW cG]), (w5.heap.size, [.slice X0 n0 n0]), (w4.heap.size, [.int .i64 (chC xs0 xs1), .slice W nW cW]), (w.heap.size, [.slice A0 n0 c0])] := Scene.below S30 hb
  clear hb hdh
  have HB := Lib.hid S31.bel
  clear S31
  clear x0_0 x0_1 z0 x1_0 x1_1 z1 x2_0 z2 x3_0 x3_1 z3 x4_0 z4
  go_wp2_with fail
  go_ret
  exact ⟨rfl, HB.out⟩

set_option maxRecDepth 100000 in
theorem lifted (os : Os) (started : os.Started) (H : Type) (enc : TypeId × Value → H) :
    ReturnsInHanded {} Tryz.checked os 5 .any (Rows.fnExactStepsOfSpec.pre6 enc Tryz.prog Tryz.f5 Rows.fnExactStepsOfRow.domain false) (Rows.fnExactStepsOfSpec.post enc Tryz.prog Tryz.f5 false true false false) := by
  refine returnsInHanded_of_change (C := Tryz.checked) own started (by kernel_rfl) Tryz.func5
    (ChangeSpec.witness6 (enc := enc) (C := Tryz.checked) false ⟨#[], #[.agg #[.slice none 0 0], .slice none 0 0], []⟩ 8 (by kernel_rfl) (by kernel_rfl) (by kernel_rfl) (by kernel_rfl)) ?_
  intro W base args ds gs before hval0 hW hcnd _
  have hval : ∀ (j : Nat) t v, Tryz.f5.params[j]? = some t → args[j]? = some v → Value.okWide Tryz.prog W .any base t v := hval0
  have hW' := hW
  obtain ⟨p, q, hA0, hV0, rfl, hfz, hnd⟩ := hW
  have hA : DataW.TrodAll enc Tryz.prog W 0 (fun _ => true) true Tryz.f5.params.toList args.toList ds p := hA0
  have hV : DataW.TrodVars enc Tryz.prog W (fun _ => true) [] gs q := hV0
  rw [Tryz.params5] at hA hval
  obtain ⟨v0, vs0, d0, ds0, p0, q0, hargs, rfl, rfl, h0, r0⟩ := trodAll_cons hA
  obtain ⟨v1, vs1, d1, ds1, p1, q1, rfl, rfl, rfl, h1, r1⟩ := trodAll_cons r0
  obtain ⟨rfl, rfl, rfl⟩ := trodAll_nil r1
  obtain rfl : args = #[v0, v1] := by cases args; simp_all
  obtain ⟨rfl, rfl⟩ : gs = [] ∧ q = [] := by
    cases gs with
    | nil => exact ⟨rfl, hV⟩
    | cons g r => exact absurd hV (by intro h; cases h)
  have k0 := h0
  have lt0 : ∀ x ∈ p0, x.block < W.heap.size := by obtain ⟨m, hm⟩ := k0; exact DataW.trod_lt m _ _ _ hm
  obtain ⟨a0, n0, c0, xs0, bs0, rfl, hd0, u0⟩ := open_chain (hval 0 51 v0 rfl rfl) h0
  have k1 := h1
  have lt1 : ∀ x ∈ p1, x.block < W.heap.size := by obtain ⟨m, hm⟩ := k1; exact DataW.trod_lt m _ _ _ hm
  obtain ⟨a1, n1, c1, xs1, bs1, rfl, hd1, u1⟩ := open_i64s (hval 1 30 v1 rfl rfl) h1
  clear hA0 hval0
  refine (walk a0 n0 c0 xs0 bs0 a1 n1 c1 xs1 bs1 W hd0 u0 hd1 u1).mono fun e W' ⟨he, bel⟩ => ?_
  subst he
  exact ⟨_, rfl, _, _, _, [], _, [], hW', trodAll_mk1 (shut_bool Tryz.underlying4 _), (trodAll_cons_mk (Below.trod laidOut (by kernel_rfl) (of_decide_eq_true (by kernel_rfl)) k0 bel lt0) (trodAll_cons_mk (Below.trod laidOut (by kernel_rfl) (of_decide_eq_true (by kernel_rfl)) k1 bel lt1) trodAll_mk0)), rfl, bel.frame _, fun h => by cases h⟩

theorem row_holds : Rows.FnExactStepsOfSaid :=
  OpenClaim.holds_of_wide 5 Tryz.f5 rfl rfl rfl rfl rfl rfl rfl ⟨rfl, rfl, rfl, rfl, rfl⟩ rfl rfl rfl rfl rfl (by kernel_rfl) Tryz.func5 (by kernel_rfl)
    (of_decide_eq_true (by kernel_rfl)) (by unfold Func.isWrapper; rw [if_neg (of_decide_eq_false (by kernel_rfl))]; exact ⟨rfl, rfl⟩)
    (fun os started H enc _ => lifted os started H enc)

theorem proved : Rows.FnExactStepsOfSaid := row_holds
#print axioms proved

end Go.Proofs.YtmmlcdbbjkligaaGreat.lExactStepsOf
