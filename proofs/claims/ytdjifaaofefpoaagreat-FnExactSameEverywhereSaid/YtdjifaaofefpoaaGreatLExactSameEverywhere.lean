/-
  Proved: at every two chains and every list of numbers the Go function SameEverywhere answers as its reference model does and changes nothing of them (the law FnExactSameEverywhere returns true), and the arguments read afterwards as they read before. Conditions: none.
-/
import Derived.Test.YtdjifaaofefpoaaGreatOpenA
import Derived.Test.YtdjifaaofefpoaaGreatOpenB
import Derived.Test.YtdjifaaofefpoaaGreatHelpSt
import Derived.Test.YtdjifaaofefpoaaGreatMrkA
import Derived.Test.YtdjifaaofefpoaaGreatSevB
import Derived.Test.YtdjifaaofefpoaaGreatBaseA
import Derived.Deep.RegionHeld3
namespace Go.Proofs.YtdjifaaofefpoaaGreat.lExactSameEverywhere
open Go.ChangeShapes Go.WideShapes Go.ChangeAt Go.RowKit
set_option linter.unusedVariables false
set_option linter.unusedSimpArgs false

set_option maxRecDepth 100000 in
set_option maxHeartbeats 4000000 in
theorem walk (A0 : Option Addr) (n0 c0 : Nat) (xs0 : List Stg) (bs0 : List Nat) (A1 : Option Addr) (n1 c1 : Nat) (xs1 : List Stg) (bs1 : List Nat) (A2 : Option Addr) (n2 c2 : Nat) (xs2 : List Int) (bs2 : List Nat) (w : World) (h0 : Hd w (chD xs0) (.slice A0 n0 c0) bs0) (u0 : I64C xs0) (h1 : Hd w (chD xs1) (.slice A1 n1 c1) bs1) (u1 : I64C xs1) (h2 : Hd w (.ints .i64 xs2) (.slice A2 n2 c2) bs2) (u2 : I64s xs2) :
    Calls Tryz.prog 6 #[.agg #[.slice A0 n0 c0], .agg #[.slice A1 n1 c1], .slice A2 n2 c2] w fun e w' => e = .returned (.bool true) ∧ Below w.heap.size w w' := by
  have hm0 := h0.caps.2
  have hnc0 := h0.caps.1
  have HU0 := Lib.hid u0
  have HL0 := Lib.hid h0.stgs.1
  have hm1 := h1.caps.2
  have hnc1 := h1.caps.1
  have HU1 := Lib.hid u1
  have HL1 := Lib.hid h1.stgs.1
  have hm2 := h2.caps.2
  have hnc2 := h2.caps.1
  have HU2 := Lib.hid u2
  have S0 : Scene w w [(chD xs0, .slice A0 n0 c0), (chD xs1, .slice A1 n1 c1), (.ints .i64 xs2, .slice A2 n2 c2)] [] [] := Scene.start w _ (by intro p hp; simp only [List.mem_cons, List.not_mem_nil, or_false] at hp; rcases hp with rfl | rfl | rfl <;> first | exact ⟨_, h0⟩ | exact ⟨_, h1⟩ | exact ⟨_, h2⟩)
  have S1 : Scene w (w.alloc (.cells #[.slice A0 n0 c0] 24)) [(chD xs0, .slice A0 n0 c0), (chD xs1, .slice A1 n1 c1), (.ints .i64 xs2, .slice A2 n2 c2)] [] [(w.heap.size, [.slice A0 n0 c0])] := by have q := Scene.addBox S0 [.slice A0 n0 c0] 24; simpa only [World.size_alloc, List.length_cons, Nat.add_assoc] using q
  have S2 : Scene w ((w.alloc (.cells #[.slice A0 n0 c0] 24)).alloc (.cells #[.slice A1 n1 c1] 24)) [(chD xs0, .slice A0 n0 c0), (chD xs1, .slice A1 n1 c1), (.ints .i64 xs2, .slice A2 n2 c2)] [] [(w.heap.size + 1, [.slice A1 n1 c1]), (w.heap.size, [.slice A0 n0 c0])] := by have q := Scene.addBox S1 [.slice A1 n1 c1] 24; simpa only [World.size_alloc, List.length_cons, Nat.add_assoc] using q
  clear h0 u0 h1 u1 h2 u2
  unfold maxLen at hm2
  by_cases hbig2 : 1048576 < n2
  · go_enter Tryz.func6, Tryz.ntmps6
    go_wp2_with fail
    go_ret
    exact ⟨rfl, blThenAlloc (blAlloc _ _) _⟩
  go_enter Tryz.func6, Tryz.ntmps6
  go_wp2_with fail
  obtain ⟨bsa0, hda0⟩ := S2.argI 0 rfl
  refine (szChain_any A0 n0 c0 xs0 _ _ _ hda0 (by omega) (by omega)).mono ?_
  rintro e w1 ⟨r0, rfl, hr10, hr20, hr30, hb0⟩
  have i1 := Below.size hb0
  try simp only [World.size_alloc] at i1
  have S3 : Scene w w1 [(chD xs0, .slice A0 n0 c0), (chD xs1, .slice A1 n1 c1), (.ints .i64 xs2, .slice A2 n2 c2)] [] [(w.heap.size + 1, [.slice A1 n1 c1]), (w.heap.size, [.slice A0 n0 c0])] := Scene.below S2 hb0
  have HR0 := Lib.hid hr30
  clear hr30 hb0
  by_cases hr0 : r0 < 0
  · go_wp2_with fail
    go_ret
    exact ⟨rfl, S3.bel⟩
  have hn0 := Lib.hid (HR0.out (by omega))
  clear HR0 hda0
  have hq0 : n0 ≤ 1048576 := by have := hn0.out.1; rw [HL0.out] at this; exact this
  have x0_0 : w1.cell? ⟨w.heap.size + 1, 0, none⟩ = some (.slice A1 n1 c1) := S3.boxI 0 0 rfl rfl
  have z0 : w.heap.size + 1 < w1.heap.size := cell_lt x0_0
  have x1_0 : w1.cell? ⟨w.heap.size, 0, none⟩ = some (.slice A0 n0 c0) := S3.boxI 1 0 rfl rfl
  have z1 : w.heap.size < w1.heap.size := cell_lt x1_0
  go_wp2_with fail
  obtain ⟨bsa1, hda1⟩ := S3.argI 1 rfl
  refine (szChain_any A1 n1 c1 xs1 _ _ _ hda1 (by omega) (by omega)).mono ?_
  rintro e w2 ⟨r1, rfl, hr11, hr21, hr31, hb1⟩
  have i2 := Below.size hb1
  try simp only [World.size_alloc] at i2
  have S4 : Scene w w2 [(chD xs0, .slice A0 n0 c0), (chD xs1, .slice A1 n1 c1), (.ints .i64 xs2, .slice A2 n2 c2)] [] [(w.heap.size + 1, [.slice A1 n1 c1]), (w.heap.size, [.slice A0 n0 c0])] := Scene.below S3 hb1
  have HR1 := Lib.hid hr31
  clear hr31 hb1
  clear x0_0 z0 x1_0 z1
  by_cases hr1 : r1 < 0
  · go_wp2_with fail
    go_ret
    exact ⟨rfl, S4.bel⟩
  have hn1 := Lib.hid (HR1.out (by omega))
  clear HR1 hda1
  have hq1 : n1 ≤ 1048576 := by have := hn1.out.1; rw [HL1.out] at this; exact this
  have x0_0 : w2.cell? ⟨w.heap.size + 1, 0, none⟩ = some (.slice A1 n1 c1) := S4.boxI 0 0 rfl rfl
  have z0 : w.heap.size + 1 < w2.heap.size := cell_lt x0_0
  have x1_0 : w2.cell? ⟨w.heap.size, 0, none⟩ = some (.slice A0 n0 c0) := S4.boxI 1 0 rfl rfl
  have z1 : w.heap.size < w2.heap.size := cell_lt x1_0
  go_wp2_with fail
  go_region_held3 (fun w' => w'.cell? ⟨w.heap.size + 1, 0, none⟩ = some (.slice A1 n1 c1) ∧ w'.cell? ⟨w.heap.size, 0, none⟩ = some (.slice A0 n0 c0) ∧ Scene w w' [(chD xs0, .slice A0 n0 c0), (chD xs1, .slice A1 n1 c1), (.ints .i64 xs2, .slice A2 n2 c2)] [] [(w.heap.size + 1, [.slice A1 n1 c1]), (w.heap.size, [.slice A0 n0 c0])])
    (first | (go_split_ands; exact ⟨cell_later hb (by assumption), cell_later hb (by assumption), Scene.below (by assumption) hb⟩) | exact ⟨x0_0, x1_0, Scene.drew S4⟩)
    (first | (go_at_call 9; go_split_ands; obtain ⟨bsq, hdq⟩ := Scene.argI (by assumption) 0 rfl; ((with_reducible refine (toChain_any A0 n0 c0 xs0 _ _ hdq hn0.out).mono ?_); rintro e w' ⟨B0, rfl, ho0, hb⟩)) | (go_at_call 9; go_split_ands; obtain ⟨bsq, hdq⟩ := Scene.argI (by assumption) 1 rfl; ((with_reducible refine (toChain_any A1 n1 c1 xs1 _ _ hdq hn1.out).mono ?_); rintro e w' ⟨B1, rfl, ho1, hb⟩; have ho0 := ho0.below hb)) | (go_at_call 10; go_split_ands; obtain ⟨bsq, hdq⟩ := Scene.argI (by assumption) 2 rfl; ((with_reducible refine (toInt64S_any A2 n2 c2 xs2 _ hdq.rd (by omega)).mono ?_); rintro e w' ⟨B2, rfl, ho2, hb⟩; have ho0 := ho0.below hb; have ho1 := ho1.below hb)) | (go_at_call 23; go_split_ands; obtain ⟨dsq0, ddq0⟩ := Own.hd ho0; obtain ⟨dsq1, ddq1⟩ := Own.hd ho1; obtain ⟨dsq2, ddq2⟩ := Own.hd ho2; refine (sSameEverywhere_any _ n0 n0 xs0 _ _ n1 n1 xs1 _ _ n2 n2 xs2 _ _ ddq0 ddq1 ddq2).mono ?_; rintro e w' ⟨rfl, hb⟩))
  go_split_ands
  rename Scene w _ _ _ _ => S5
  rename World => w3
  clear S4
  clear x0_0 x1_0 z0 z1
  clear ho0 ho1 ho2
  have x0_0 : w3.cell? ⟨w.heap.size + 1, 0, none⟩ = some (.slice A1 n1 c1) := S5.boxI 0 0 rfl rfl
  have z0 : w.heap.size + 1 < w3.heap.size := cell_lt x0_0
  have x1_0 : w3.cell? ⟨w.heap.size, 0, none⟩ = some (.slice A0 n0 c0) := S5.boxI 1 0 rfl rfl
  have z1 : w.heap.size < w3.heap.size := cell_lt x1_0
  go_wp2_with fail
  obtain ⟨bsa0, hda0⟩ := S5.argI 0 rfl
  refine (toChain_any A0 n0 c0 xs0 _ _ hda0 hn0.out).mono ?_
  rintro e w4 ⟨X0, rfl, ho, hb⟩
  have i4 := Below.size hb
  try simp only [World.size_alloc] at i4
  have S6 : Scene w w4 [(chD xs0, .slice A0 n0 c0), (chD xs1, .slice A1 n1 c1), (.ints .i64 xs2, .slice A2 n2 c2)] [] [(w.heap.size + 1, [.slice A1 n1 c1]), (w.heap.size, [.slice A0 n0 c0])] := Scene.below S5 hb
  have S7 : Scene w w4 [(chD xs0, .slice A0 n0 c0), (chD xs1, .slice A1 n1 c1), (.ints .i64 xs2, .slice A2 n2 c2)] [⟨chD xs0, .slice X0 n0 n0, w3.heap.size, w4.heap.size⟩] [(w.heap.size + 1, [.slice A1 n1 c1]), (w.heap.size, [.slice A0 n0 c0])] := Scene.addOwn S6 (ho.mono (by simp) (Nat.le_refl _)) (by have := S6.bel.size; omega) (Nat.le_refl _)
  clear ho hb hda0 S6
  clear x0_0 z0 x1_0 z1
  have x0_0 : w4.cell? ⟨w.heap.size + 1, 0, none⟩ = some (.slice A1 n1 c1) := S7.boxI 0 0 rfl rfl
  have z0 : w.heap.size + 1 < w4.heap.size := cell_lt x0_0
  have x1_0 : w4.cell? ⟨w.heap.size, 0, none⟩ = some (.slice A0 n0 c0) := S7.boxI 1 0 rfl rfl
  have z1 : w.heap.size < w4.heap.size := cell_lt x1_0
  have S8 : Scene w (w4.alloc (.cells #[.slice X0 n0 n0] 32)) [(chD xs0, .slice A0 n0 c0), (chD xs1, .slice A1 n1 c1), (.ints .i64 xs2, .slice A2 n2 c2)] [⟨chD xs0, .slice X0 n0 n0, w3.heap.size, w4.heap.size⟩] [(w4.heap.size, [.slice X0 n0 n0]), (w.heap.size + 1, [.slice A1 n1 c1]), (w.heap.size, [.slice A0 n0 c0])] := Scene.addBox S7 [.slice X0 n0 n0] 32
  clear S7
  go_wp2_with fail
  obtain ⟨bsa1, hda1⟩ := S8.argI 1 rfl
  refine (toChain_any A1 n1 c1 xs1 _ _ hda1 hn1.out).mono ?_
  rintro e w5 ⟨X1, rfl, ho, hb⟩
  have i5 := Below.size hb
  try simp only [World.size_alloc] at i5
  have S9 : Scene w w5 [(chD xs0, .slice A0 n0 c0), (chD xs1, .slice A1 n1 c1), (.ints .i64 xs2, .slice A2 n2 c2)] [⟨chD xs0, .slice X0 n0 n0, w3.heap.size, w4.heap.size⟩] [(w4.heap.size, [.slice X0 n0 n0]), (w.heap.size + 1, [.slice A1 n1 c1]), (w.heap.size, [.slice A0 n0 c0])] := Scene.below S8 hb
  have S10 : Scene w w5 [(chD xs0, .slice A0 n0 c0), (chD xs1, .slice A1 n1 c1), (.ints .i64 xs2, .slice A2 n2 c2)] [⟨chD xs1, .slice X1 n1 n1, w4.heap.size + 1, w5.heap.size⟩, ⟨chD xs0, .slice X0 n0 n0, w3.heap.size, w4.heap.size⟩] [(w4.heap.size, [.slice X0 n0 n0]), (w.heap.size + 1, [.slice A1 n1 c1]), (w.heap.size, [.slice A0 n0 c0])] := Scene.addOwn S9 (ho.mono (by simp) (Nat.le_refl _)) (by have := S9.bel.size; omega) (Nat.le_refl _)
  clear ho hb hda1 S9
  clear x0_0 z0 x1_0 z1
  have x0_0 : w5.cell? ⟨w4.heap.size, 0, none⟩ = some (.slice X0 n0 n0) := S10.boxI 0 0 rfl rfl
  have z0 : w4.heap.size < w5.heap.size := cell_lt x0_0
  have x1_0 : w5.cell? ⟨w.heap.size + 1, 0, none⟩ = some (.slice A1 n1 c1) := S10.boxI 1 0 rfl rfl
  have z1 : w.heap.size + 1 < w5.heap.size := cell_lt x1_0
  have x2_0 : w5.cell? ⟨w.heap.size, 0, none⟩ = some (.slice A0 n0 c0) := S10.boxI 2 0 rfl rfl
  have z2 : w.heap.size < w5.heap.size := cell_lt x2_0
  have S11 : Scene w (w5.alloc (.cells #[.slice X1 n1 n1] 32)) [(chD xs0, .slice A0 n0 c0), (chD xs1, .slice A1 n1 c1), (.ints .i64 xs2, .slice A2 n2 c2)] [⟨chD xs1, .slice X1 n1 n1, w4.heap.size + 1, w5.heap.size⟩, ⟨chD xs0, .slice X0 n0 n0, w3.heap.size, w4.heap.size⟩] [(w5.heap.size, [.slice X1 n1 n1]), (w4.heap.size, [.slice X0 n0 n0]), (w.heap.size + 1, [.slice A1 n1 c1]), (w.heap.size, [.slice A0 n0 c0])] := Scene.addBox S10 [.slice X1 n1 n1] 32
  clear S10
  go_wp2_with fail
  obtain ⟨bsa2, hda2⟩ := S11.argI 2 rfl
  refine (toInt64S_any A2 n2 c2 xs2 _ hda2.rd (by omega)).mono ?_
  rintro e w6 ⟨X2, rfl, ho, hb⟩
  have i6 := Below.size hb
  try simp only [World.size_alloc] at i6
  have S12 : Scene w w6 [(chD xs0, .slice A0 n0 c0), (chD xs1, .slice A1 n1 c1), (.ints .i64 xs2, .slice A2 n2 c2)] [⟨chD xs1, .slice X1 n1 n1, w4.heap.size + 1, w5.heap.size⟩, ⟨chD xs0, .slice X0 n0 n0, w3.heap.size, w4.heap.size⟩] [(w5.heap.size, [.slice X1 n1 n1]), (w4.heap.size, [.slice X0 n0 n0]), (w.heap.size + 1, [.slice A1 n1 c1]), (w.heap.size, [.slice A0 n0 c0])] := Scene.below S11 hb
  have S13 : Scene w w6 [(chD xs0, .slice A0 n0 c0), (chD xs1, .slice A1 n1 c1), (.ints .i64 xs2, .slice A2 n2 c2)] [⟨.ints .i64 xs2, .slice X2 n2 n2, w5.heap.size + 1, w6.heap.size⟩, ⟨chD xs1, .slice X1 n1 n1, w4.heap.size + 1, w5.heap.size⟩, ⟨chD xs0, .slice X0 n0 n0, w3.heap.size, w4.heap.size⟩] [(w5.heap.size, [.slice X1 n1 n1]), (w4.heap.size, [.slice X0 n0 n0]), (w.heap.size + 1, [.slice A1 n1 c1]), (w.heap.size, [.slice A0 n0 c0])] := Scene.addOwn S12 (ho.mono (by simp) (Nat.le_refl _)) (by have := S12.bel.size; omega) (Nat.le_refl _)
  clear ho hb hda2 S12
  clear x0_0 z0 x1_0 z1 x2_0 z2
  have x0_0 : w6.cell? ⟨w5.heap.size, 0, none⟩ = some (.slice X1 n1 n1) := S13.boxI 0 0 rfl rfl
  have z0 : w5.heap.size < w6.heap.size := cell_lt x0_0
  have x1_0 : w6.cell? ⟨w4.heap.size, 0, none⟩ = some (.slice X0 n0 n0) := S13.boxI 1 0 rfl rfl
  have z1 : w4.heap.size < w6.heap.size := cell_lt x1_0
  have x2_0 : w6.cell? ⟨w.heap.size + 1, 0, none⟩ = some (.slice A1 n1 c1) := S13.boxI 2 0 rfl rfl
  have z2 : w.heap.size + 1 < w6.heap.size := cell_lt x2_0
  have x3_0 : w6.cell? ⟨w.heap.size, 0, none⟩ = some (.slice A0 n0 c0) := S13.boxI 3 0 rfl rfl
  have z3 : w.heap.size < w6.heap.size := cell_lt x3_0
  go_wp2_with fail
  obtain ⟨dx0, hx0⟩ := (S13.ownI 2 rfl).hd
  obtain ⟨dx1, hx1⟩ := (S13.ownI 1 rfl).hd
  obtain ⟨dx2, hx2⟩ := (S13.ownI 0 rfl).hd
  refine (SameEverywhere_any X0 n0 n0 xs0 _ X1 n1 n1 xs1 _ X2 n2 n2 xs2 _ _ hx0 hx1 hx2).mono ?_
  rintro e w7 ⟨rfl, hb⟩
  have i7 := Below.size hb
  try simp only [World.size_alloc] at i7
  have S14 : Scene w w7 [(chD xs0, .slice A0 n0 c0), (chD xs1, .slice A1 n1 c1), (.ints .i64 xs2, .slice A2 n2 c2)] [⟨.ints .i64 xs2, .slice X2 n2 n2, w5.heap.size + 1, w6.heap.size⟩, ⟨chD xs1, .slice X1 n1 n1, w4.heap.size + 1, w5.heap.size⟩, ⟨chD xs0, .slice X0 n0 n0, w3.heap.size, w4.heap.size⟩] [(w5.heap.size, [.slice X1 n1 n1]), (w4.heap.size, [.slice X0 n0 n0]), (w.heap.size + 1, [.slice A1 n1 c1]), (w.heap.size, [.slice A0 n0 c0])] := Scene.below S13 hb
  clear hx0 hx1 hx2
  clear hb
  clear x0_0 z0 x1_0 z1 x2_0 z2 x3_0 z3
  have x0_0 : w7.cell? ⟨w5.heap.size, 0, none⟩ = some (.slice X1 n1 n1) := S14.boxI 0 0 rfl rfl
  have z0 : w5.heap.size < w7.heap.size := cell_lt x0_0
  have x1_0 : w7.cell? ⟨w4.heap.size, 0, none⟩ = some (.slice X0 n0 n0) := S14.boxI 1 0 rfl rfl
  have z1 : w4.heap.size < w7.heap.size := cell_lt x1_0
  have x2_0 : w7.cell? ⟨w.heap.size + 1, 0, none⟩ = some (.slice A1 n1 c1) := S14.boxI 2 0 rfl rfl
  have z2 : w.heap.size + 1 < w7.heap.size := cell_lt x2_0
  have x3_0 : w7.cell? ⟨w.heap.size, 0, none⟩ = some (.slice A0 n0 c0) := S14.boxI 3 0 rfl rfl
  have z3 : w.heap.size < w7.heap.size := cell_lt x3_0
  go_wp2_with fail
  go_region_held3 (fun w' => w'.cell? ⟨w5.heap.size, 0, none⟩ = some (.slice X1 n1 n1) ∧ w'.cell? ⟨w4.heap.size, 0, none⟩ = some (.slice X0 n0 n0) ∧ w'.cell? ⟨w.heap.size + 1, 0, none⟩ = some (.slice A1 n1 c1) ∧ w'.cell? ⟨w.heap.size, 0, none⟩ = some (.slice A0 n0 c0) ∧ Scene w w' [(chD xs0, .slice A0 n0 c0), (chD xs1, .slice A1 n1 c1), (.ints .i64 xs2, .slice A2 n2 c2)] [⟨.ints .i64 xs2, .slice X2 n2 n2, w5.heap.size + 1, w6.heap.size⟩, ⟨chD xs1, .slice X1 n1 n1, w4.heap.size + 1, w5.heap.size⟩, ⟨chD xs0, .slice X0 n0 n0, w3.heap.size, w4.heap.size⟩] [(w5.heap.size, [.slice X1 n1 n1]), (w4.heap.size, [.slice X0 n0 n0]), (w.heap.size + 1, [.slice A1 n1 c1]), (w.heap.size, [.slice A0 n0 c0])])
    (first | (go_split_ands; exact ⟨cell_later hb (by assumption), cell_later hb (by assumption), cell_later hb (by assumption), cell_later hb (by assumption), Scene.below (by assumption) hb⟩) | exact ⟨x0_0, x1_0, x2_0, x3_0, Scene.drew S14⟩)
    (first | (go_at_call 9; go_split_ands; obtain ⟨bsq, hdq⟩ := Scene.argI (by assumption) 0 rfl; refine (toChain_any A0 n0 c0 xs0 _ _ hdq hn0.out).mono ?_; rintro e w' ⟨Bq, rfl, ho, hb⟩) | (go_at_call 13; go_split_ands; obtain ⟨bsr, hdr⟩ := ho.hd; obtain ⟨bst, hdt⟩ := (Scene.ownI (by assumption) 2 rfl).hd; refine (eqChain_same _ _ _ _ _ _ xs0 _ _ _ hdt hdr hn0.out).mono ?_; rintro e w' ⟨rfl, hb⟩))
  go_split_ands
  rename Scene w _ _ _ _ => S15
  rename World => w8
  clear S14
  clear x0_0 x1_0 x2_0 x3_0 z0 z1 z2 z3
  clear ho
  have x0_0 : w8.cell? ⟨w5.heap.size, 0, none⟩ = some (.slice X1 n1 n1) := S15.boxI 0 0 rfl rfl
  have z0 : w5.heap.size < w8.heap.size := cell_lt x0_0
  have x1_0 : w8.cell? ⟨w4.heap.size, 0, none⟩ = some (.slice X0 n0 n0) := S15.boxI 1 0 rfl rfl
  have z1 : w4.heap.size < w8.heap.size := cell_lt x1_0
  have x2_0 : w8.cell? ⟨w.heap.size + 1, 0, none⟩ = some (.slice A1 n1 c1) := S15.boxI 2 0 rfl rfl
  have z2 : w.heap.size + 1 < w8.heap.size := cell_lt x2_0
  have x3_0 : w8.cell? ⟨w.heap.size, 0, none⟩ = some (.slice A0 n0 c0) := S15.boxI 3 0 rfl rfl
  have z3 : w.heap.size < w8.heap.size := cell_lt x3_0
  go_wp2_with fail
  go_region_held3 (fun w' => w'.cell? ⟨w5.heap.size, 0, none⟩ = some (.slice X1 n1 n1) ∧ w'.cell? ⟨w4.heap.size, 0, none⟩ = some (.slice X0 n0 n0) ∧ w'.cell? ⟨w.heap.size + 1, 0, none⟩ = some (.slice A1 n1 c1) ∧ w'.cell? ⟨w.heap.size, 0, none⟩ = some (.slice A0 n0 c0) ∧ Scene w w' [(chD xs0, .slice A0 n0 c0), (chD xs1, .slice A1 n1 c1), (.ints .i64 xs2, .slice A2 n2 c2)] [⟨.ints .i64 xs2, .slice X2 n2 n2, w5.heap.size + 1, w6.heap.size⟩, ⟨chD xs1, .slice X1 n1 n1, w4.heap.size + 1, w5.heap.size⟩, ⟨chD xs0, .slice X0 n0 n0, w3.heap.size, w4.heap.size⟩] [(w5.heap.size, [.slice X1 n1 n1]), (w4.heap.size, [.slice X0 n0 n0]), (w.heap.size + 1, [.slice A1 n1 c1]), (w.heap.size, [.slice A0 n0 c0])])
    (first | (go_split_ands; exact ⟨cell_later hb (by assumption), cell_later hb (by assumption), cell_later hb (by assumption), cell_later hb (by assumption), Scene.below (by assumption) hb⟩) | exact ⟨x0_0, x1_0, x2_0, x3_0, Scene.drew S15⟩)
    (first | (go_at_call 9; go_split_ands; obtain ⟨bsq, hdq⟩ := Scene.argI (by assumption) 1 rfl; refine (toChain_any A1 n1 c1 xs1 _ _ hdq hn1.out).mono ?_; rintro e w' ⟨Bq, rfl, ho, hb⟩) | (go_at_call 13; go_split_ands; obtain ⟨bsr, hdr⟩ := ho.hd; obtain ⟨bst, hdt⟩ := (Scene.ownI (by assumption) 1 rfl).hd; refine (eqChain_same _ _ _ _ _ _ xs1 _ _ _ hdt hdr hn1.out).mono ?_; rintro e w' ⟨rfl, hb⟩))
  go_split_ands
  rename Scene w _ _ _ _ => S16
  rename World => w9
  clear S15
  clear x0_0 x1_0 x2_0 x3_0 z0 z1 z2 z3
  clear ho
  have x0_0 : w9.cell? ⟨w5.heap.size, 0, none⟩ = some (.slice X1 n1 n1) := S16.boxI 0 0 rfl rfl
  have z0 : w5.heap.size < w9.heap.size := cell_lt x0_0
  have x1_0 : w9.cell? ⟨w4.heap.size, 0, none⟩ = some (.slice X0 n0 n0) := S16.boxI 1 0 rfl rfl
  have z1 : w4.heap.size < w9.heap.size := cell_lt x1_0
  have x2_0 : w9.cell? ⟨w.heap.size + 1, 0, none⟩ = some (.slice A1 n1 c1) := S16.boxI 2 0 rfl rfl
  have z2 : w.heap.size + 1 < w9.heap.size := cell_lt x2_0
  have x3_0 : w9.cell? ⟨w.heap.size, 0, none⟩ = some (.slice A0 n0 c0) := S16.boxI 3 0 rfl rfl
  have z3 : w.heap.size < w9.heap.size := cell_lt x3_0
  go_wp2_with fail
  obtain ⟨bsa2, hda2⟩ := S16.argI 2 rfl
  refine (toInt64S_any A2 n2 c2 xs2 _ hda2.rd (by omega)).mono ?_
  rintro e w10 ⟨Y2, rfl, ho, hb⟩
  have i10 := Below.size hb
  try simp only [World.size_alloc] at i10
  have S17 : Scene w w10 [(chD xs0, .slice A0 n0 c0), (chD xs1, .slice A1 n1 c1), (.ints .i64 xs2, .slice A2 n2 c2)] [⟨.ints .i64 xs2, .slice X2 n2 n2, w5.heap.size + 1, w6.heap.size⟩, ⟨chD xs1, .slice X1 n1 n1, w4.heap.size + 1, w5.heap.size⟩, ⟨chD xs0, .slice X0 n0 n0, w3.heap.size, w4.heap.size⟩] [(w5.heap.size, [.slice X1 n1 n1]), (w4.heap.size, [.slice X0 n0 n0]), (w.heap.size + 1, [.slice A1 n1 c1]), (w.heap.size, [.slice A0 n0 c0])] := Scene.below S16 hb
  obtain ⟨dsy, ddy⟩ := ho.hd
  have DY := Lib.hid ddy
  clear ho hb ddy hda2
  clear x0_0 z0 x1_0 z1 x2_0 z2 x3_0 z3
  have x0_0 : w10.cell? ⟨w5.heap.size, 0, none⟩ = some (.slice X1 n1 n1) := S17.boxI 0 0 rfl rfl
  have z0 : w5.heap.size < w10.heap.size := cell_lt x0_0
  have x1_0 : w10.cell? ⟨w4.heap.size, 0, none⟩ = some (.slice X0 n0 n0) := S17.boxI 1 0 rfl rfl
  have z1 : w4.heap.size < w10.heap.size := cell_lt x1_0
  have x2_0 : w10.cell? ⟨w.heap.size + 1, 0, none⟩ = some (.slice A1 n1 c1) := S17.boxI 2 0 rfl rfl
  have z2 : w.heap.size + 1 < w10.heap.size := cell_lt x2_0
  have x3_0 : w10.cell? ⟨w.heap.size, 0, none⟩ = some (.slice A0 n0 c0) := S17.boxI 3 0 rfl rfl
  have z3 : w.heap.size < w10.heap.size := cell_lt x3_0
  go_wp2_with fail
  obtain ⟨bst, hdt⟩ := (S17.ownI 0 rfl).hd
  refine (eqInt64S_bel _ _ _ _ _ _ xs2 _ hdt.rd DY.out.rd (by omega)).mono ?_
  rintro e w11 ⟨rfl, hb⟩
  have i11 := Below.size hb
  try simp only [World.size_alloc] at i11
  have S18 : Scene w w11 [(chD xs0, .slice A0 n0 c0), (chD xs1, .slice A1 n1 c1), (.ints .i64 xs2, .slice A2 n2 c2)] [⟨.ints .i64 xs2, .slice X2 n2 n2, w5.heap.size + 1, w6.heap.size⟩, ⟨chD xs1, .slice X1 n1 n1, w4.heap.size + 1, w5.heap.size⟩, ⟨chD xs0, .slice X0 n0 n0, w3.heap.size, w4.heap.size⟩] [(w5.heap.size, [.slice X1 n1 n1]), (w4.heap.size, [.slice X0 n0 n0]), (w.heap.size + 1, [.slice A1 n1 c1]), (w.heap.size, [.slice A0 n0 c0])] := Scene.below S17 hb
  clear hb
  clear hdt DY
  clear x0_0 z0 x1_0 z1 x2_0 z2 x3_0 z3
  have x0_0 : w11.cell? ⟨w5.heap.size, 0, none⟩ = some (.slice X1 n1 n1) := S18.boxI 0 0 rfl rfl
  have z0 : w5.heap.size < w11.heap.size := cell_lt x0_0
  have x1_0 : w11.cell? ⟨w4.heap.size, 0, none⟩ = some (.slice X0 n0 n0) := S18.boxI 1 0 rfl rfl
  have z1 : w4.heap.size < w11.heap.size := cell_lt x1_0
  have x2_0 : w11.cell? ⟨w.heap.size + 1, 0, none⟩ = some (.slice A1 n1 c1) := S18.boxI 2 0 rfl rfl
  have z2 : w.heap.size + 1 < w11.heap.size := cell_lt x2_0
  have x3_0 : w11.cell? ⟨w.heap.size, 0, none⟩ = some (.slice A0 n0 c0) := S18.boxI 3 0 rfl rfl
  have z3 : w.heap.size < w11.heap.size := cell_lt x3_0
  go_wp2_with fail
  have HB := Lib.hid S18.bel
  clear S18
  clear x0_0 z0 x1_0 z1 x2_0 z2 x3_0 z3
  try go_wp2_with fail
  go_ret
  exact ⟨rfl, HB.out⟩

set_option maxRecDepth 100000 in
theorem lifted (os : Os) (started : os.Started) (H : Type) (enc : TypeId × Value → H) :
    ReturnsInHanded {} Tryz.checked os 6 .any (Rows.fnExactSameEverywhereSpec.pre6 enc Tryz.prog Tryz.f6 Rows.fnExactSameEverywhereRow.domain false) (Rows.fnExactSameEverywhereSpec.post enc Tryz.prog Tryz.f6 false true false false) := by
  refine returnsInHanded_of_change (C := Tryz.checked) own started (by kernel_rfl) Tryz.func6
    (ChangeSpec.witness6 (enc := enc) (C := Tryz.checked) false ⟨#[], #[.agg #[.slice none 0 0], .agg #[.slice none 0 0], .slice none 0 0], []⟩ 8 (by kernel_rfl) (by kernel_rfl) (by kernel_rfl) (by kernel_rfl)) ?_
  intro W base args ds gs before hval0 hW hcnd _
  have hval : ∀ (j : Nat) t v, Tryz.f6.params[j]? = some t → args[j]? = some v → Value.okWide Tryz.prog W .any base t v := hval0
  have hW' := hW
  obtain ⟨p, q, hA0, hV0, rfl, hfz, hnd⟩ := hW
  have hA : DataW.TrodAll enc Tryz.prog W 0 (fun _ => true) true Tryz.f6.params.toList args.toList ds p := hA0
  have hV : DataW.TrodVars enc Tryz.prog W (fun _ => true) [] gs q := hV0
  rw [Tryz.params6] at hA hval
  obtain ⟨v0, vs0, d0, ds0, p0, q0, hargs, rfl, rfl, h0, r0⟩ := trodAll_cons hA
  obtain ⟨v1, vs1, d1, ds1, p1, q1, rfl, rfl, rfl, h1, r1⟩ := trodAll_cons r0
  obtain ⟨v2, vs2, d2, ds2, p2, q2, rfl, rfl, rfl, h2, r2⟩ := trodAll_cons r1
  obtain ⟨rfl, rfl, rfl⟩ := trodAll_nil r2
  obtain rfl : args = #[v0, v1, v2] := by cases args; simp_all
  obtain ⟨rfl, rfl⟩ : gs = [] ∧ q = [] := by
    cases gs with
    | nil => exact ⟨rfl, hV⟩
    | cons g r => exact absurd hV (by intro h; cases h)
  have k0 := h0
  have lt0 : ∀ x ∈ p0, x.block < W.heap.size := by obtain ⟨m, hm⟩ := k0; exact DataW.trod_lt m _ _ _ hm
  obtain ⟨a0, n0, c0, xs0, bs0, rfl, hd0, u0⟩ := open_chain (hval 0 24 v0 rfl rfl) h0
  have k1 := h1
  have lt1 : ∀ x ∈ p1, x.block < W.heap.size := by obtain ⟨m, hm⟩ := k1; exact DataW.trod_lt m _ _ _ hm
  obtain ⟨a1, n1, c1, xs1, bs1, rfl, hd1, u1⟩ := open_chain (hval 1 24 v1 rfl rfl) h1
  have k2 := h2
  have lt2 : ∀ x ∈ p2, x.block < W.heap.size := by obtain ⟨m, hm⟩ := k2; exact DataW.trod_lt m _ _ _ hm
  obtain ⟨a2, n2, c2, xs2, bs2, rfl, hd2, u2⟩ := open_i64s (hval 2 25 v2 rfl rfl) h2
  clear hA0 hval0
  refine (walk a0 n0 c0 xs0 bs0 a1 n1 c1 xs1 bs1 a2 n2 c2 xs2 bs2 W hd0 u0 hd1 u1 hd2 u2).mono fun e W' ⟨he, bel⟩ => ?_
  subst he
  exact ⟨_, rfl, _, _, _, [], _, [], hW', trodAll_mk1 (shut_bool Tryz.underlying4 _), (trodAll_cons_mk (Below.trod laidOut (by kernel_rfl) (of_decide_eq_true (by kernel_rfl)) k0 bel lt0) (trodAll_cons_mk (Below.trod laidOut (by kernel_rfl) (of_decide_eq_true (by kernel_rfl)) k1 bel lt1) (trodAll_cons_mk (Below.trod laidOut (by kernel_rfl) (of_decide_eq_true (by kernel_rfl)) k2 bel lt2) trodAll_mk0))), rfl, bel.frame _, fun h => by cases h⟩

theorem row_holds : Rows.FnExactSameEverywhereSaid :=
  OpenClaim.holds_of_wide 6 Tryz.f6 rfl rfl rfl rfl rfl rfl rfl ⟨rfl, rfl, rfl, rfl, rfl⟩ rfl rfl rfl rfl rfl (by kernel_rfl) Tryz.func6 (by kernel_rfl)
    (of_decide_eq_true (by kernel_rfl)) (by unfold Func.isWrapper; rw [if_neg (of_decide_eq_false (by kernel_rfl))]; exact ⟨rfl, rfl⟩)
    (fun os started H enc _ => lifted os started H enc)

theorem proved : Rows.FnExactSameEverywhereSaid := row_holds
#print axioms proved

end Go.Proofs.YtdjifaaofefpoaaGreat.lExactSameEverywhere
