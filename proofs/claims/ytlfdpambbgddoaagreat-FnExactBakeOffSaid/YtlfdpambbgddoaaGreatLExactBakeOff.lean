/-
  Proved: at every chain, number and list of numbers the Go function BakeOff answers as its reference model does, both fields, and changes nothing of them (the law FnExactBakeOff returns true), and the arguments read afterwards as they read before. Conditions: none.
-/
import Derived.Test.YtlfdpambbgddoaaGreatOpenA
import Derived.Test.YtlfdpambbgddoaaGreatOpenB
import Derived.Test.YtlfdpambbgddoaaGreatHelpSt
import Derived.Test.YtlfdpambbgddoaaGreatMrkA
import Derived.Test.YtlfdpambbgddoaaGreatBofA
import Derived.Test.YtlfdpambbgddoaaGreatBaseA
import Derived.Deep.RegionHeld3
namespace Go.Proofs.YtlfdpambbgddoaaGreat.lExactBakeOff
open Go.ChangeShapes Go.WideShapes Go.ChangeAt Go.RowKit
set_option linter.unusedVariables false
set_option linter.unusedSimpArgs false

set_option maxRecDepth 100000 in
set_option maxHeartbeats 4000000 in
theorem walk (A0 : Option Addr) (n0 c0 : Nat) (xs0 : List Stg) (bs0 : List Nat) (a1 : Int) (A2 : Option Addr) (n2 c2 : Nat) (xs2 : List Int) (bs2 : List Nat) (w : World) (h0 : Hd w (chD xs0) (.slice A0 n0 c0) bs0) (u0 : I64C xs0) (h1 : (Lit.int .i64 a1).wf = true) (h2 : Hd w (.ints .i64 xs2) (.slice A2 n2 c2) bs2) (u2 : I64s xs2) :
    Calls Tryz.prog 4 #[.agg #[.slice A0 n0 c0], .int .i64 a1, .slice A2 n2 c2] w fun e w' => e = .returned (.bool true) ∧ Below w.heap.size w w' := by
  have hm0 := h0.caps.2
  have hnc0 := h0.caps.1
  have HU0 := Lib.hid u0
  have HL0 := Lib.hid h0.stgs.1
  have b1 := bounds_i64 h1
  clear h1
  have hm2 := h2.caps.2
  have hnc2 := h2.caps.1
  have HU2 := Lib.hid u2
  have S0 : Scene w w [(chD xs0, .slice A0 n0 c0), (.ints .i64 xs2, .slice A2 n2 c2)] [] [] := Scene.start w _ (by intro p hp; simp only [List.mem_cons, List.not_mem_nil, or_false] at hp; rcases hp with rfl | rfl <;> first | exact ⟨_, h0⟩ | exact ⟨_, h2⟩)
  have S1 : Scene w (w.alloc (.cells #[.slice A0 n0 c0] 24)) [(chD xs0, .slice A0 n0 c0), (.ints .i64 xs2, .slice A2 n2 c2)] [] [(w.heap.size, [.slice A0 n0 c0])] := by have q := Scene.addBox S0 [.slice A0 n0 c0] 24; simpa only [World.size_alloc, List.length_cons, Nat.add_assoc] using q
  clear h0 u0 h2 u2
  unfold maxLen at hm2
  by_cases hbig2 : 1048576 < n2
  · go_enter Tryz.func4, Tryz.ntmps4
    go_wp2_with fail
    go_ret
    exact ⟨rfl, blAlloc _ _⟩
  go_enter Tryz.func4, Tryz.ntmps4
  go_wp2_with fail
  obtain ⟨bsa0, hda0⟩ := S1.argI 0 rfl
  refine (szChain_any A0 n0 c0 xs0 _ _ _ hda0 (by omega) (by omega)).mono ?_
  rintro e w1 ⟨r0, rfl, hr10, hr20, hr30, hb0⟩
  have i1 := Below.size hb0
  try simp only [World.size_alloc] at i1
  have S2 : Scene w w1 [(chD xs0, .slice A0 n0 c0), (.ints .i64 xs2, .slice A2 n2 c2)] [] [(w.heap.size, [.slice A0 n0 c0])] := Scene.below S1 hb0
  have HR0 := Lib.hid hr30
  clear hr30 hb0
  by_cases hr0 : r0 < 0
  · go_wp2_with fail
    go_ret
    exact ⟨rfl, S2.bel⟩
  have hn0 := Lib.hid (HR0.out (by omega))
  clear HR0 hda0
  have hq0 : n0 ≤ 1048576 := by have := hn0.out.1; rw [HL0.out] at this; exact this
  have x0_0 : w1.cell? ⟨w.heap.size, 0, none⟩ = some (.slice A0 n0 c0) := S2.boxI 0 0 rfl rfl
  have z0 : w.heap.size < w1.heap.size := cell_lt x0_0
  go_wp2_with fail
  obtain ⟨bsa0, hda0⟩ := S2.argI 0 rfl
  refine (toChain_any A0 n0 c0 xs0 _ _ hda0 hn0.out).mono ?_
  rintro e w2 ⟨B2, rfl, ho, hb⟩
  have i2 := Below.size hb
  try simp only [World.size_alloc] at i2
  have S3 : Scene w w2 [(chD xs0, .slice A0 n0 c0), (.ints .i64 xs2, .slice A2 n2 c2)] [] [(w.heap.size, [.slice A0 n0 c0])] := Scene.below S2 hb
  obtain ⟨ds0, dd0⟩ := ho.hd
  have D0 := Lib.hid dd0
  clear ho hb dd0 hda0
  clear x0_0 z0
  have x0_0 : w2.cell? ⟨w.heap.size, 0, none⟩ = some (.slice A0 n0 c0) := S3.boxI 0 0 rfl rfl
  have z0 : w.heap.size < w2.heap.size := cell_lt x0_0
  go_wp2_with fail
  obtain ⟨bsa2, hda2⟩ := S3.argI 1 rfl
  refine (toInt64S_any A2 n2 c2 xs2 _ hda2.rd (by omega)).mono ?_
  rintro e w3 ⟨B3, rfl, ho, hb⟩
  have i3 := Below.size hb
  try simp only [World.size_alloc] at i3
  have S4 : Scene w w3 [(chD xs0, .slice A0 n0 c0), (.ints .i64 xs2, .slice A2 n2 c2)] [] [(w.heap.size, [.slice A0 n0 c0])] := Scene.below S3 hb
  have D0 := Lib.hid (D0.out.bel hb)
  obtain ⟨ds2, dd2⟩ := ho.hd
  have D2 := Lib.hid dd2
  clear ho hb dd2 hda2
  clear x0_0 z0
  have x0_0 : w3.cell? ⟨w.heap.size, 0, none⟩ = some (.slice A0 n0 c0) := S4.boxI 0 0 rfl rfl
  have z0 : w.heap.size < w3.heap.size := cell_lt x0_0
  go_wp2_with fail
  refine (sBakeOff_any B2 n0 n0 xs0 _ a1 B3 n2 n2 xs2 _ _ D0.out D2.out).mono ?_
  rintro e w4 ⟨rfl, hb⟩
  have i4 := Below.size hb
  try simp only [World.size_alloc] at i4
  have S5 : Scene w w4 [(chD xs0, .slice A0 n0 c0), (.ints .i64 xs2, .slice A2 n2 c2)] [] [(w.heap.size, [.slice A0 n0 c0])] := Scene.below S4 hb
  clear hb
  clear D0 D2
  clear x0_0 z0
  have x0_0 : w4.cell? ⟨w.heap.size, 0, none⟩ = some (.slice A0 n0 c0) := S5.boxI 0 0 rfl rfl
  have z0 : w.heap.size < w4.heap.size := cell_lt x0_0
  have S6 : Scene w (w4.alloc (.cells #[.int .i64 (boC xs0 a1 xs2), .int .i64 (boV xs0 a1 xs2)] 43)) [(chD xs0, .slice A0 n0 c0), (.ints .i64 xs2, .slice A2 n2 c2)] [] [(w4.heap.size, [.int .i64 (boC xs0 a1 xs2), .int .i64 (boV xs0 a1 xs2)]), (w.heap.size, [.slice A0 n0 c0])] := Scene.addBox S5 [.int .i64 (boC xs0 a1 xs2), .int .i64 (boV xs0 a1 xs2)] 43
  clear S5
  go_wp2_with fail
  obtain ⟨bsa0, hda0⟩ := S6.argI 0 rfl
  refine (toChain_any A0 n0 c0 xs0 _ _ hda0 hn0.out).mono ?_
  rintro e w5 ⟨X0, rfl, ho, hb⟩
  have i5 := Below.size hb
  try simp only [World.size_alloc] at i5
  have S7 : Scene w w5 [(chD xs0, .slice A0 n0 c0), (.ints .i64 xs2, .slice A2 n2 c2)] [] [(w4.heap.size, [.int .i64 (boC xs0 a1 xs2), .int .i64 (boV xs0 a1 xs2)]), (w.heap.size, [.slice A0 n0 c0])] := Scene.below S6 hb
  have S8 : Scene w w5 [(chD xs0, .slice A0 n0 c0), (.ints .i64 xs2, .slice A2 n2 c2)] [⟨chD xs0, .slice X0 n0 n0, w4.heap.size + 1, w5.heap.size⟩] [(w4.heap.size, [.int .i64 (boC xs0 a1 xs2), .int .i64 (boV xs0 a1 xs2)]), (w.heap.size, [.slice A0 n0 c0])] := Scene.addOwn S7 (ho.mono (by simp) (Nat.le_refl _)) (by have := S7.bel.size; omega) (Nat.le_refl _)
  clear ho hb hda0 S7
  clear x0_0 z0
  have x0_0 : w5.cell? ⟨w4.heap.size, 0, none⟩ = some (.int .i64 (boC xs0 a1 xs2)) := S8.boxI 0 0 rfl rfl
  have x0_1 : w5.cell? ⟨w4.heap.size, 1, none⟩ = some (.int .i64 (boV xs0 a1 xs2)) := S8.boxI 0 1 rfl rfl
  have z0 : w4.heap.size < w5.heap.size := cell_lt x0_0
  have x1_0 : w5.cell? ⟨w.heap.size, 0, none⟩ = some (.slice A0 n0 c0) := S8.boxI 1 0 rfl rfl
  have z1 : w.heap.size < w5.heap.size := cell_lt x1_0
  have S9 : Scene w (w5.alloc (.cells #[.slice X0 n0 n0] 34)) [(chD xs0, .slice A0 n0 c0), (.ints .i64 xs2, .slice A2 n2 c2)] [⟨chD xs0, .slice X0 n0 n0, w4.heap.size + 1, w5.heap.size⟩] [(w5.heap.size, [.slice X0 n0 n0]), (w4.heap.size, [.int .i64 (boC xs0 a1 xs2), .int .i64 (boV xs0 a1 xs2)]), (w.heap.size, [.slice A0 n0 c0])] := Scene.addBox S8 [.slice X0 n0 n0] 34
  clear S8
  go_wp2_with fail
  obtain ⟨bsa2, hda2⟩ := S9.argI 1 rfl
  refine (toInt64S_any A2 n2 c2 xs2 _ hda2.rd (by omega)).mono ?_
  rintro e w6 ⟨X2, rfl, ho, hb⟩
  have i6 := Below.size hb
  try simp only [World.size_alloc] at i6
  have S10 : Scene w w6 [(chD xs0, .slice A0 n0 c0), (.ints .i64 xs2, .slice A2 n2 c2)] [⟨chD xs0, .slice X0 n0 n0, w4.heap.size + 1, w5.heap.size⟩] [(w5.heap.size, [.slice X0 n0 n0]), (w4.heap.size, [.int .i64 (boC xs0 a1 xs2), .int .i64 (boV xs0 a1 xs2)]), (w.heap.size, [.slice A0 n0 c0])] := Scene.below S9 hb
  have S11 : Scene w w6 [(chD xs0, .slice A0 n0 c0), (.ints .i64 xs2, .slice A2 n2 c2)] [⟨.ints .i64 xs2, .slice X2 n2 n2, w5.heap.size + 1, w6.heap.size⟩, ⟨chD xs0, .slice X0 n0 n0, w4.heap.size + 1, w5.heap.size⟩] [(w5.heap.size, [.slice X0 n0 n0]), (w4.heap.size, [.int .i64 (boC xs0 a1 xs2), .int .i64 (boV xs0 a1 xs2)]), (w.heap.size, [.slice A0 n0 c0])] := Scene.addOwn S10 (ho.mono (by simp) (Nat.le_refl _)) (by have := S10.bel.size; omega) (Nat.le_refl _)
  clear ho hb hda2 S10
  clear x0_0 x0_1 z0 x1_0 z1
  have x0_0 : w6.cell? ⟨w5.heap.size, 0, none⟩ = some (.slice X0 n0 n0) := S11.boxI 0 0 rfl rfl
  have z0 : w5.heap.size < w6.heap.size := cell_lt x0_0
  have x1_0 : w6.cell? ⟨w4.heap.size, 0, none⟩ = some (.int .i64 (boC xs0 a1 xs2)) := S11.boxI 1 0 rfl rfl
  have x1_1 : w6.cell? ⟨w4.heap.size, 1, none⟩ = some (.int .i64 (boV xs0 a1 xs2)) := S11.boxI 1 1 rfl rfl
  have z1 : w4.heap.size < w6.heap.size := cell_lt x1_0
  have x2_0 : w6.cell? ⟨w.heap.size, 0, none⟩ = some (.slice A0 n0 c0) := S11.boxI 2 0 rfl rfl
  have z2 : w.heap.size < w6.heap.size := cell_lt x2_0
  go_wp2_with fail
  obtain ⟨dx0, hx0⟩ := (S11.ownI 1 rfl).hd
  obtain ⟨dx2, hx2⟩ := (S11.ownI 0 rfl).hd
  refine (BakeOff_any X0 n0 n0 xs0 _ a1 X2 n2 n2 xs2 _ _ hx0 hx2).mono ?_
  rintro e w7 ⟨rfl, hb⟩
  have i7 := Below.size hb
  try simp only [World.size_alloc] at i7
  have S12 : Scene w w7 [(chD xs0, .slice A0 n0 c0), (.ints .i64 xs2, .slice A2 n2 c2)] [⟨.ints .i64 xs2, .slice X2 n2 n2, w5.heap.size + 1, w6.heap.size⟩, ⟨chD xs0, .slice X0 n0 n0, w4.heap.size + 1, w5.heap.size⟩] [(w5.heap.size, [.slice X0 n0 n0]), (w4.heap.size, [.int .i64 (boC xs0 a1 xs2), .int .i64 (boV xs0 a1 xs2)]), (w.heap.size, [.slice A0 n0 c0])] := Scene.below S11 hb
  clear hx0 hx2
  clear hb
  clear x0_0 z0 x1_0 x1_1 z1 x2_0 z2
  have x0_0 : w7.cell? ⟨w5.heap.size, 0, none⟩ = some (.slice X0 n0 n0) := S12.boxI 0 0 rfl rfl
  have z0 : w5.heap.size < w7.heap.size := cell_lt x0_0
  have x1_0 : w7.cell? ⟨w4.heap.size, 0, none⟩ = some (.int .i64 (boC xs0 a1 xs2)) := S12.boxI 1 0 rfl rfl
  have x1_1 : w7.cell? ⟨w4.heap.size, 1, none⟩ = some (.int .i64 (boV xs0 a1 xs2)) := S12.boxI 1 1 rfl rfl
  have z1 : w4.heap.size < w7.heap.size := cell_lt x1_0
  have x2_0 : w7.cell? ⟨w.heap.size, 0, none⟩ = some (.slice A0 n0 c0) := S12.boxI 2 0 rfl rfl
  have z2 : w.heap.size < w7.heap.size := cell_lt x2_0
  have S13 : Scene w (w7.alloc (.cells #[.int .i64 (boC xs0 a1 xs2), .int .i64 (boV xs0 a1 xs2)] 43)) [(chD xs0, .slice A0 n0 c0), (.ints .i64 xs2, .slice A2 n2 c2)] [⟨.ints .i64 xs2, .slice X2 n2 n2, w5.heap.size + 1, w6.heap.size⟩, ⟨chD xs0, .slice X0 n0 n0, w4.heap.size + 1, w5.heap.size⟩] [(w7.heap.size, [.int .i64 (boC xs0 a1 xs2), .int .i64 (boV xs0 a1 xs2)]), (w5.heap.size, [.slice X0 n0 n0]), (w4.heap.size, [.int .i64 (boC xs0 a1 xs2), .int .i64 (boV xs0 a1 xs2)]), (w.heap.size, [.slice A0 n0 c0])] := Scene.addBox S12 [.int .i64 (boC xs0 a1 xs2), .int .i64 (boV xs0 a1 xs2)] 43
  clear S12
  go_wp2_with fail
  refine (eqIntResult_same _ _ _).mono ?_
  rintro e w8 ⟨rfl, hb⟩
  have i8 := Below.size hb
  try simp only [World.size_alloc] at i8
  have S14 : Scene w w8 [(chD xs0, .slice A0 n0 c0), (.ints .i64 xs2, .slice A2 n2 c2)] [⟨.ints .i64 xs2, .slice X2 n2 n2, w5.heap.size + 1, w6.heap.size⟩, ⟨chD xs0, .slice X0 n0 n0, w4.heap.size + 1, w5.heap.size⟩] [(w7.heap.size, [.int .i64 (boC xs0 a1 xs2), .int .i64 (boV xs0 a1 xs2)]), (w5.heap.size, [.slice X0 n0 n0]), (w4.heap.size, [.int .i64 (boC xs0 a1 xs2), .int .i64 (boV xs0 a1 xs2)]), (w.heap.size, [.slice A0 n0 c0])] := Scene.below S13 hb
  clear hb
  clear x0_0 z0 x1_0 x1_1 z1 x2_0 z2
  have x0_0 : w8.cell? ⟨w7.heap.size, 0, none⟩ = some (.int .i64 (boC xs0 a1 xs2)) := S14.boxI 0 0 rfl rfl
  have x0_1 : w8.cell? ⟨w7.heap.size, 1, none⟩ = some (.int .i64 (boV xs0 a1 xs2)) := S14.boxI 0 1 rfl rfl
  have z0 : w7.heap.size < w8.heap.size := cell_lt x0_0
  have x1_0 : w8.cell? ⟨w5.heap.size, 0, none⟩ = some (.slice X0 n0 n0) := S14.boxI 1 0 rfl rfl
  have z1 : w5.heap.size < w8.heap.size := cell_lt x1_0
  have x2_0 : w8.cell? ⟨w4.heap.size, 0, none⟩ = some (.int .i64 (boC xs0 a1 xs2)) := S14.boxI 2 0 rfl rfl
  have x2_1 : w8.cell? ⟨w4.heap.size, 1, none⟩ = some (.int .i64 (boV xs0 a1 xs2)) := S14.boxI 2 1 rfl rfl
  have z2 : w4.heap.size < w8.heap.size := cell_lt x2_0
  have x3_0 : w8.cell? ⟨w.heap.size, 0, none⟩ = some (.slice A0 n0 c0) := S14.boxI 3 0 rfl rfl
  have z3 : w.heap.size < w8.heap.size := cell_lt x3_0
  go_wp2_with fail
  go_region_held3 (fun w' => w'.cell? ⟨w7.heap.size, 0, none⟩ = some (.int .i64 (boC xs0 a1 xs2)) ∧ w'.cell? ⟨w7.heap.size, 1, none⟩ = some (.int .i64 (boV xs0 a1 xs2)) ∧ w'.cell? ⟨w5.heap.size, 0, none⟩ = some (.slice X0 n0 n0) ∧ w'.cell? ⟨w4.heap.size, 0, none⟩ = some (.int .i64 (boC xs0 a1 xs2)) ∧ w'.cell? ⟨w4.heap.size, 1, none⟩ = some (.int .i64 (boV xs0 a1 xs2)) ∧ w'.cell? ⟨w.heap.size, 0, none⟩ = some (.slice A0 n0 c0) ∧ Scene w w' [(chD xs0, .slice A0 n0 c0), (.ints .i64 xs2, .slice A2 n2 c2)] [⟨.ints .i64 xs2, .slice X2 n2 n2, w5.heap.size + 1, w6.heap.size⟩, ⟨chD xs0, .slice X0 n0 n0, w4.heap.size + 1, w5.heap.size⟩] [(w7.heap.size, [.int .i64 (boC xs0 a1 xs2), .int .i64 (boV xs0 a1 xs2)]), (w5.heap.size, [.slice X0 n0 n0]), (w4.heap.size, [.int .i64 (boC xs0 a1 xs2), .int .i64 (boV xs0 a1 xs2)]), (w.heap.size, [.slice A0 n0 c0])])
    (first | (go_split_ands; exact ⟨cell_later hb (by assumption), cell_later hb (by assumption), cell_later hb (by assumption), cell_later hb (by assumption), cell_later hb (by assumption), cell_later hb (by assumption), Scene.below (by assumption) hb⟩) | exact ⟨x0_0, x0_1, x1_0, x2_0, x2_1, x3_0, Scene.drew S14⟩)
    (first | (go_at_call 8; go_split_ands; obtain ⟨bsq, hdq⟩ := Scene.argI (by assumption) 0 rfl; refine (toChain_any A0 n0 c0 xs0 _ _ hdq hn0.out).mono ?_; rintro e w' ⟨Bq, rfl, ho, hb⟩) | (go_at_call 11; go_split_ands; obtain ⟨bsr, hdr⟩ := ho.hd; obtain ⟨bst, hdt⟩ := (Scene.ownI (by assumption) 1 rfl).hd; refine (eqChain_same _ _ _ _ _ _ xs0 _ _ _ hdt hdr hn0.out).mono ?_; rintro e w' ⟨rfl, hb⟩))
  go_split_ands
  rename Scene w _ _ _ _ => S15
  rename World => w9
  clear S14
  clear x0_0 x0_1 x1_0 x2_0 x2_1 x3_0 z0 z1 z2 z3
  clear ho
  have x0_0 : w9.cell? ⟨w7.heap.size, 0, none⟩ = some (.int .i64 (boC xs0 a1 xs2)) := S15.boxI 0 0 rfl rfl
  have x0_1 : w9.cell? ⟨w7.heap.size, 1, none⟩ = some (.int .i64 (boV xs0 a1 xs2)) := S15.boxI 0 1 rfl rfl
  have z0 : w7.heap.size < w9.heap.size := cell_lt x0_0
  have x1_0 : w9.cell? ⟨w5.heap.size, 0, none⟩ = some (.slice X0 n0 n0) := S15.boxI 1 0 rfl rfl
  have z1 : w5.heap.size < w9.heap.size := cell_lt x1_0
  have x2_0 : w9.cell? ⟨w4.heap.size, 0, none⟩ = some (.int .i64 (boC xs0 a1 xs2)) := S15.boxI 2 0 rfl rfl
  have x2_1 : w9.cell? ⟨w4.heap.size, 1, none⟩ = some (.int .i64 (boV xs0 a1 xs2)) := S15.boxI 2 1 rfl rfl
  have z2 : w4.heap.size < w9.heap.size := cell_lt x2_0
  have x3_0 : w9.cell? ⟨w.heap.size, 0, none⟩ = some (.slice A0 n0 c0) := S15.boxI 3 0 rfl rfl
  have z3 : w.heap.size < w9.heap.size := cell_lt x3_0
  go_wp2_with fail
  obtain ⟨bsa2, hda2⟩ := S15.argI 1 rfl
  refine (toInt64S_any A2 n2 c2 xs2 _ hda2.rd (by omega)).mono ?_
  rintro e w10 ⟨Y2, rfl, ho, hb⟩
  have i10 := Below.size hb
  try simp only [World.size_alloc] at i10
  have S16 : Scene w w10 [(chD xs0, .slice A0 n0 c0), (.ints .i64 xs2, .slice A2 n2 c2)] [⟨.ints .i64 xs2, .slice X2 n2 n2, w5.heap.size + 1, w6.heap.size⟩, ⟨chD xs0, .slice X0 n0 n0, w4.heap.size + 1, w5.heap.size⟩] [(w7.heap.size, [.int .i64 (boC xs0 a1 xs2), .int .i64 (boV xs0 a1 xs2)]), (w5.heap.size, [.slice X0 n0 n0]), (w4.heap.size, [.int .i64 (boC xs0 a1 xs2), .int .i64 (boV xs0 a1 xs2)]), (w.heap.size, [.slice A0 n0 c0])] := Scene.below S15 hb
  obtain ⟨dsy, ddy⟩ := ho.hd
  have DY := Lib.hid ddy
  clear ho hb ddy hda2
  clear x0_0 x0_1 z0 x1_0 z1 x2_0 x2_1 z2 x3_0 z3
  have x0_0 : w10.cell? ⟨w7.heap.size, 0, none⟩ = some (.int .i64 (boC xs0 a1 xs2)) := S16.boxI 0 0 rfl rfl
  have x0_1 : w10.cell? ⟨w7.heap.size, 1, none⟩ = some (.int .i64 (boV xs0 a1 xs2)) := S16.boxI 0 1 rfl rfl
  have z0 : w7.heap.size < w10.heap.size := cell_lt x0_0
  have x1_0 : w10.cell? ⟨w5.heap.size, 0, none⟩ = some (.slice X0 n0 n0) := S16.boxI 1 0 rfl rfl
  have z1 : w5.heap.size < w10.heap.size := cell_lt x1_0
  have x2_0 : w10.cell? ⟨w4.heap.size, 0, none⟩ = some (.int .i64 (boC xs0 a1 xs2)) := S16.boxI 2 0 rfl rfl
  have x2_1 : w10.cell? ⟨w4.heap.size, 1, none⟩ = some (.int .i64 (boV xs0 a1 xs2)) := S16.boxI 2 1 rfl rfl
  have z2 : w4.heap.size < w10.heap.size := cell_lt x2_0
  have x3_0 : w10.cell? ⟨w.heap.size, 0, none⟩ = some (.slice A0 n0 c0) := S16.boxI 3 0 rfl rfl
  have z3 : w.heap.size < w10.heap.size := cell_lt x3_0
  go_wp2_with fail
  obtain ⟨bst, hdt⟩ := (S16.ownI 0 rfl).hd
  refine (eqInt64S_bel _ _ _ _ _ _ xs2 _ hdt.rd DY.out.rd (by omega)).mono ?_
  rintro e w11 ⟨rfl, hb⟩
  have i11 := Below.size hb
  try simp only [World.size_alloc] at i11
  have S17 : Scene w w11 [(chD xs0, .slice A0 n0 c0), (.ints .i64 xs2, .slice A2 n2 c2)] [⟨.ints .i64 xs2, .slice X2 n2 n2, w5.heap.size + 1, w6.heap.size⟩, ⟨chD xs0, .slice X0 n0 n0, w4.heap.size + 1, w5.heap.size⟩] [(w7.heap.size, [.int .i64 (boC xs0 a1 xs2), .int .i64 (boV xs0 a1 xs2)]), (w5.heap.size, [.slice X0 n0 n0]), (w4.heap.size, [.int .i64 (boC xs0 a1 xs2), .int .i64 (boV xs0 a1 xs2)]), (w.heap.size, [.slice A0 n0 c0])] := Scene.below S16 hb
  clear hb
  clear hdt DY
  clear x0_0 x0_1 z0 x1_0 z1 x2_0 x2_1 z2 x3_0 z3
  have x0_0 : w11.cell? ⟨w7.heap.size, 0, none⟩ = some (.int .i64 (boC xs0 a1 xs2)) := S17.boxI 0 0 rfl rfl
  have x0_1 : w11.cell? ⟨w7.heap.size, 1, none⟩ = some (.int .i64 (boV xs0 a1 xs2)) := S17.boxI 0 1 rfl rfl
  have z0 : w7.heap.size < w11.heap.size := cell_lt x0_0
  have x1_0 : w11.cell? ⟨w5.heap.size, 0, none⟩ = some (.slice X0 n0 n0) := S17.boxI 1 0 rfl rfl
  have z1 : w5.heap.size < w11.heap.size := cell_lt x1_0
  have x2_0 : w11.cell? ⟨w4.heap.size, 0, none⟩ = some (.int .i64 (boC xs0 a1 xs2)) := S17.boxI 2 0 rfl rfl
  have x2_1 : w11.cell? ⟨w4.heap.size, 1, none⟩ = some (.int .i64 (boV xs0 a1 xs2)) := S17.boxI 2 1 rfl rfl
  have z2 : w4.heap.size < w11.heap.size := cell_lt x2_0
  have x3_0 : w11.cell? ⟨w.heap.size, 0, none⟩ = some (.slice A0 n0 c0) := S17.boxI 3 0 rfl rfl
  have z3 : w.heap.size < w11.heap.size := cell_lt x3_0
  go_wp2_with fail
  have HB := Lib.hid S17.bel
  clear S17
  clear x0_0 x0_1 z0 x1_0 z1 x2_0 x2_1 z2 x3_0 z3
  try go_wp2_with fail
  go_ret
  exact ⟨rfl, HB.out⟩

set_option maxRecDepth 100000 in
theorem lifted (os : Os) (started : os.Started) (H : Type) (enc : TypeId × Value → H) :
    ReturnsInHanded {} Tryz.checked os 4 .any (Rows.fnExactBakeOffSpec.pre6 enc Tryz.prog Tryz.f4 Rows.fnExactBakeOffRow.domain false) (Rows.fnExactBakeOffSpec.post enc Tryz.prog Tryz.f4 false true false false) := by
  refine returnsInHanded_of_change (C := Tryz.checked) own started (by kernel_rfl) Tryz.func4
    (ChangeSpec.witness6 (enc := enc) (C := Tryz.checked) false ⟨#[], #[.agg #[.slice none 0 0], .int .i64 0, .slice none 0 0], []⟩ 8 (by kernel_rfl) (by kernel_rfl) (by kernel_rfl) (by kernel_rfl)) ?_
  intro W base args ds gs before hval0 hW hcnd _
  have hval : ∀ (j : Nat) t v, Tryz.f4.params[j]? = some t → args[j]? = some v → Value.okWide Tryz.prog W .any base t v := hval0
  have hW' := hW
  obtain ⟨p, q, hA0, hV0, rfl, hfz, hnd⟩ := hW
  have hA : DataW.TrodAll enc Tryz.prog W 0 (fun _ => true) true Tryz.f4.params.toList args.toList ds p := hA0
  have hV : DataW.TrodVars enc Tryz.prog W (fun _ => true) [] gs q := hV0
  rw [Tryz.params4] at hA hval
  obtain ⟨v0, vs0, d0, ds0, p0, q0, hargs, rfl, rfl, h0, r0⟩ := trodAll_cons hA
  obtain ⟨v1, vs1, d1, ds1, p1, q1, rfl, rfl, rfl, h1, r1⟩ := trodAll_cons r0
  obtain ⟨v2, vs2, d2, ds2, p2, q2, rfl, rfl, rfl, h2, r2⟩ := trodAll_cons r1
  obtain ⟨rfl, rfl, rfl⟩ := trodAll_nil r2
  obtain rfl : args = #[v0, v1, v2] := by cases args; simp_all
  obtain ⟨rfl, rfl⟩ : gs = [] ∧ q = [] := by
    cases gs with
    | nil => exact ⟨rfl, hV⟩
    | cons g r => exact absurd hV (by intro h; cases h)
  have k0 := h0
  have lt0 : ∀ x ∈ p0, x.block < W.heap.size := by obtain ⟨m, hm⟩ := k0; exact DataW.trod_lt m _ _ _ hm
  obtain ⟨a0, n0, c0, xs0, bs0, rfl, hd0, u0⟩ := open_chain (hval 0 24 v0 rfl rfl) h0
  have k1 := h1
  have lt1 : ∀ x ∈ p1, x.block < W.heap.size := by obtain ⟨m, hm⟩ := k1; exact DataW.trod_lt m _ _ _ hm
  obtain ⟨a1, rfl, e1, f1, w1⟩ := open_int Tryz.underlying2 (hval 1 2 v1 rfl rfl) h1
  have k2 := h2
  have lt2 : ∀ x ∈ p2, x.block < W.heap.size := by obtain ⟨m, hm⟩ := k2; exact DataW.trod_lt m _ _ _ hm
  obtain ⟨a2, n2, c2, xs2, bs2, rfl, hd2, u2⟩ := open_i64s (hval 2 41 v2 rfl rfl) h2
  clear hA0 hval0
  refine (walk a0 n0 c0 xs0 bs0 a1 a2 n2 c2 xs2 bs2 W hd0 u0 w1 hd2 u2).mono fun e W' ⟨he, bel⟩ => ?_
  subst he
  exact ⟨_, rfl, _, _, _, [], _, [], hW', trodAll_mk1 (shut_bool Tryz.underlying4 _), (trodAll_cons_mk (Below.trod laidOut (by kernel_rfl) (of_decide_eq_true (by kernel_rfl)) k0 bel lt0) (trodAll_cons_mk (Below.trod laidOut (by kernel_rfl) (of_decide_eq_true (by kernel_rfl)) k1 bel lt1) (trodAll_cons_mk (Below.trod laidOut (by kernel_rfl) (of_decide_eq_true (by kernel_rfl)) k2 bel lt2) trodAll_mk0))), rfl, bel.frame _, fun h => by cases h⟩

theorem row_holds : Rows.FnExactBakeOffSaid :=
  OpenClaim.holds_of_wide 4 Tryz.f4 rfl rfl rfl rfl rfl rfl rfl ⟨rfl, rfl, rfl, rfl, rfl⟩ rfl rfl rfl rfl rfl (by kernel_rfl) Tryz.func4 (by kernel_rfl)
    (of_decide_eq_true (by kernel_rfl)) (by unfold Func.isWrapper; rw [if_neg (of_decide_eq_false (by kernel_rfl))]; exact ⟨rfl, rfl⟩)
    (fun os started H enc _ => lifted os started H enc)

theorem proved : Rows.FnExactBakeOffSaid := row_holds
#print axioms proved

end Go.Proofs.YtlfdpambbgddoaaGreat.lExactBakeOff
