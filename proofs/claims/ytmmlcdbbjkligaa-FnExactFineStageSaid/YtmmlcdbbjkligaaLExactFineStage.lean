/-
  Proved: at every stage and every list of numbers the Go function FineStage answers as its reference model does, every field, in new memory, and changes nothing of them (the law FnExactFineStage returns true), and the arguments read afterwards as they read before. Conditions: none.
-/
import Derived.Test.YtmmlcdbbjkligaaOpenA
import Derived.Test.YtmmlcdbbjkligaaOpenB
import Derived.Test.YtmmlcdbbjkligaaHelpSt
import Derived.Test.YtmmlcdbbjkligaaMrkA
import Derived.Test.YtmmlcdbbjkligaaFinB
import Derived.Test.YtmmlcdbbjkligaaBaseA
import Derived.Deep.RegionHeld3
namespace Go.Proofs.Ytmmlcdbbjkligaa.lExactFineStage
open Go.ChangeShapes Go.WideShapes Go.ChangeAt Go.RowKit
set_option linter.unusedVariables false
set_option linter.unusedSimpArgs false

set_option maxRecDepth 100000 in
set_option maxHeartbeats 4000000 in
theorem walk (t0 : Stg) (A10 : Option Addr) (n10 c10 : Nat) (A20 : Option Addr) (n20 c20 : Nat) (A30 : Option Addr) (n30 c30 : Nat) (A1 : Option Addr) (n1 c1 : Nat) (xs1 : List Int) (bs1 : List Nat) (w : World) (h0 : HdSt w t0 A10 n10 c10 A20 n20 c20 A30 n30 c30) (u0 : I64T t0) (h1 : Hd w (.ints .i64 xs1) (.slice A1 n1 c1) bs1) (u1 : I64s xs1) :
    Calls Try.prog 3 #[.agg #[.int .i64 t0.kd, .slice A10 n10 c10, .slice A20 n20 c20, .int .i64 t0.sd, .slice A30 n30 c30], .slice A1 n1 c1] w fun e w' => e = .returned (.bool true) ∧ Below w.heap.size w w' := by
  have HU0 := Lib.hid u0
  have hm1 := h1.caps.2
  have hnc1 := h1.caps.1
  have HU1 := Lib.hid u1
  have S0 : Scene w w [(rowsD t0.cs, .slice A10 n10 c10), (rowsD t0.rs, .slice A20 n20 c20), (rowsD t0.ns, .slice A30 n30 c30), (.ints .i64 xs1, .slice A1 n1 c1)] [] [] := Scene.start w _ (by intro p hp; simp only [List.mem_cons, List.not_mem_nil, or_false] at hp; rcases hp with rfl | rfl | rfl | rfl <;> first | exact h0.a | exact h0.b | exact h0.d | exact ⟨_, h1⟩)
  have S1 : Scene w (w.alloc (.cells #[.int .i64 t0.kd, .slice A10 n10 c10, .slice A20 n20 c20, .int .i64 t0.sd, .slice A30 n30 c30] 29)) [(rowsD t0.cs, .slice A10 n10 c10), (rowsD t0.rs, .slice A20 n20 c20), (rowsD t0.ns, .slice A30 n30 c30), (.ints .i64 xs1, .slice A1 n1 c1)] [] [(w.heap.size, [.int .i64 t0.kd, .slice A10 n10 c10, .slice A20 n20 c20, .int .i64 t0.sd, .slice A30 n30 c30])] := by have q := Scene.addBox S0 [.int .i64 t0.kd, .slice A10 n10 c10, .slice A20 n20 c20, .int .i64 t0.sd, .slice A30 n30 c30] 29; simpa only [World.size_alloc, List.length_cons, Nat.add_assoc] using q
  clear h0 u0 h1 u1
  unfold maxLen at hm1
  by_cases hbig1 : 1048576 < n1
  · go_enter Try.func3, Try.ntmps3
    go_wp2_with fail
    go_ret
    exact ⟨rfl, blAlloc _ _⟩
  have hxl := es_len 256 t0 xs1
  have HM : Hid ((1000000000000 : Nat) ≤ maxLen) := by show _ ≤ _; unfold maxLen; omega
  go_enter Try.func3, Try.ntmps3
  go_wp2_with fail
  have hda00 := S1.argI 0 rfl
  have hda01 := S1.argI 1 rfl
  have hda02 := S1.argI 2 rfl
  have hda0 : HdSt _ t0 _ _ _ _ _ _ _ _ _ := ⟨hda00, hda01, hda02⟩
  clear hda00 hda01 hda02
  refine (szStage_any t0 _ _ _ _ _ _ _ _ _ _ _ hda0 (by omega) (by omega)).mono ?_
  rintro e w1 ⟨r0, rfl, hr10, hr20, hr30, hb0⟩
  have i1 := Below.size hb0
  try simp only [World.size_alloc] at i1
  have S2 : Scene w w1 [(rowsD t0.cs, .slice A10 n10 c10), (rowsD t0.rs, .slice A20 n20 c20), (rowsD t0.ns, .slice A30 n30 c30), (.ints .i64 xs1, .slice A1 n1 c1)] [] [(w.heap.size, [.int .i64 t0.kd, .slice A10 n10 c10, .slice A20 n20 c20, .int .i64 t0.sd, .slice A30 n30 c30])] := Scene.below S1 hb0
  have HR0 := Lib.hid hr30
  clear hr30 hb0
  by_cases hr0 : r0 < 0
  · go_wp2_with fail
    go_ret
    exact ⟨rfl, S2.bel⟩
  have hn0 := Lib.hid (HR0.out (by omega))
  clear HR0 hda0
  have x0_0 : w1.cell? ⟨w.heap.size, 0, none⟩ = some (.int .i64 t0.kd) := S2.boxI 0 0 rfl rfl
  have x0_1 : w1.cell? ⟨w.heap.size, 1, none⟩ = some (.slice A10 n10 c10) := S2.boxI 0 1 rfl rfl
  have x0_2 : w1.cell? ⟨w.heap.size, 2, none⟩ = some (.slice A20 n20 c20) := S2.boxI 0 2 rfl rfl
  have x0_3 : w1.cell? ⟨w.heap.size, 3, none⟩ = some (.int .i64 t0.sd) := S2.boxI 0 3 rfl rfl
  have x0_4 : w1.cell? ⟨w.heap.size, 4, none⟩ = some (.slice A30 n30 c30) := S2.boxI 0 4 rfl rfl
  have z0 : w.heap.size < w1.heap.size := cell_lt x0_0
  go_wp2_with fail
  have hda00 := S2.argI 0 rfl
  have hda01 := S2.argI 1 rfl
  have hda02 := S2.argI 2 rfl
  have hda0 : HdSt _ t0 _ _ _ _ _ _ _ _ _ := ⟨hda00, hda01, hda02⟩
  clear hda00 hda01 hda02
  refine (toStage_any t0 _ _ _ _ _ _ _ _ _ _ hda0 hn0.out).mono ?_
  rintro e w2 ⟨B12, B22, B32, p2, q2, rfl, ho, hb⟩
  have i2 := Below.size hb
  try simp only [World.size_alloc] at i2
  have S3 : Scene w w2 [(rowsD t0.cs, .slice A10 n10 c10), (rowsD t0.rs, .slice A20 n20 c20), (rowsD t0.ns, .slice A30 n30 c30), (.ints .i64 xs1, .slice A1 n1 c1)] [] [(w.heap.size, [.int .i64 t0.kd, .slice A10 n10 c10, .slice A20 n20 c20, .int .i64 t0.sd, .slice A30 n30 c30])] := Scene.below S2 hb
  have D0 := Lib.hid ho.hd
  clear ho hb hda0
  clear x0_0 x0_1 x0_2 x0_3 x0_4 z0
  have x0_0 : w2.cell? ⟨w.heap.size, 0, none⟩ = some (.int .i64 t0.kd) := S3.boxI 0 0 rfl rfl
  have x0_1 : w2.cell? ⟨w.heap.size, 1, none⟩ = some (.slice A10 n10 c10) := S3.boxI 0 1 rfl rfl
  have x0_2 : w2.cell? ⟨w.heap.size, 2, none⟩ = some (.slice A20 n20 c20) := S3.boxI 0 2 rfl rfl
  have x0_3 : w2.cell? ⟨w.heap.size, 3, none⟩ = some (.int .i64 t0.sd) := S3.boxI 0 3 rfl rfl
  have x0_4 : w2.cell? ⟨w.heap.size, 4, none⟩ = some (.slice A30 n30 c30) := S3.boxI 0 4 rfl rfl
  have z0 : w.heap.size < w2.heap.size := cell_lt x0_0
  go_wp2_with fail
  obtain ⟨bsa1, hda1⟩ := S3.argI 3 rfl
  refine (toInt64S_any A1 n1 c1 xs1 _ hda1.rd (by omega)).mono ?_
  rintro e w3 ⟨B3, rfl, ho, hb⟩
  have i3 := Below.size hb
  try simp only [World.size_alloc] at i3
  have S4 : Scene w w3 [(rowsD t0.cs, .slice A10 n10 c10), (rowsD t0.rs, .slice A20 n20 c20), (rowsD t0.ns, .slice A30 n30 c30), (.ints .i64 xs1, .slice A1 n1 c1)] [] [(w.heap.size, [.int .i64 t0.kd, .slice A10 n10 c10, .slice A20 n20 c20, .int .i64 t0.sd, .slice A30 n30 c30])] := Scene.below S3 hb
  have D0 := Lib.hid (D0.out.bel hb)
  obtain ⟨ds1, dd1⟩ := ho.hd
  have D1 := Lib.hid dd1
  clear ho hb dd1 hda1
  clear x0_0 x0_1 x0_2 x0_3 x0_4 z0
  have x0_0 : w3.cell? ⟨w.heap.size, 0, none⟩ = some (.int .i64 t0.kd) := S4.boxI 0 0 rfl rfl
  have x0_1 : w3.cell? ⟨w.heap.size, 1, none⟩ = some (.slice A10 n10 c10) := S4.boxI 0 1 rfl rfl
  have x0_2 : w3.cell? ⟨w.heap.size, 2, none⟩ = some (.slice A20 n20 c20) := S4.boxI 0 2 rfl rfl
  have x0_3 : w3.cell? ⟨w.heap.size, 3, none⟩ = some (.int .i64 t0.sd) := S4.boxI 0 3 rfl rfl
  have x0_4 : w3.cell? ⟨w.heap.size, 4, none⟩ = some (.slice A30 n30 c30) := S4.boxI 0 4 rfl rfl
  have z0 : w.heap.size < w3.heap.size := cell_lt x0_0
  go_wp2_with fail
  refine (sFineStage_any t0 _ _ _ _ _ _ _ _ _ B3 n1 n1 xs1 _ _ D0.out D1.out).mono ?_
  rintro e w4 ⟨W, nW, cW, rfl, ho, hb⟩
  have i4 := Below.size hb
  try simp only [World.size_alloc] at i4
  have S5 : Scene w w4 [(rowsD t0.cs, .slice A10 n10 c10), (rowsD t0.rs, .slice A20 n20 c20), (rowsD t0.ns, .slice A30 n30 c30), (.ints .i64 xs1, .slice A1 n1 c1)] [] [(w.heap.size, [.int .i64 t0.kd, .slice A10 n10 c10, .slice A20 n20 c20, .int .i64 t0.sd, .slice A30 n30 c30])] := Scene.below S4 hb
  clear D0 D1
  obtain ⟨bsn, hdn⟩ := ho.hd
  have hlW := hdn.rd.1
  have hnW : nW ≤ 3 := by omega
  have S6 : Scene w w4 [(rowsD t0.cs, .slice A10 n10 c10), (rowsD t0.rs, .slice A20 n20 c20), (rowsD t0.ns, .slice A30 n30 c30), (.ints .i64 xs1, .slice A1 n1 c1)] [⟨.ints .i64 (esL 256 t0 xs1), .slice W nW cW, w3.heap.size, w4.heap.size⟩] [(w.heap.size, [.int .i64 t0.kd, .slice A10 n10 c10, .slice A20 n20 c20, .int .i64 t0.sd, .slice A30 n30 c30])] := Scene.addOwn S5 ho (by have := S5.bel.size; omega) (Nat.le_refl _)
  clear ho hb hdn hlW S5
  clear x0_0 x0_1 x0_2 x0_3 x0_4 z0
  have x0_0 : w4.cell? ⟨w.heap.size, 0, none⟩ = some (.int .i64 t0.kd) := S6.boxI 0 0 rfl rfl
  have x0_1 : w4.cell? ⟨w.heap.size, 1, none⟩ = some (.slice A10 n10 c10) := S6.boxI 0 1 rfl rfl
  have x0_2 : w4.cell? ⟨w.heap.size, 2, none⟩ = some (.slice A20 n20 c20) := S6.boxI 0 2 rfl rfl
  have x0_3 : w4.cell? ⟨w.heap.size, 3, none⟩ = some (.int .i64 t0.sd) := S6.boxI 0 3 rfl rfl
  have x0_4 : w4.cell? ⟨w.heap.size, 4, none⟩ = some (.slice A30 n30 c30) := S6.boxI 0 4 rfl rfl
  have z0 : w.heap.size < w4.heap.size := cell_lt x0_0
  have S7 : Scene w (w4.alloc (.cells #[.int .i64 (esC 256 t0 xs1), .slice W nW cW] 33)) [(rowsD t0.cs, .slice A10 n10 c10), (rowsD t0.rs, .slice A20 n20 c20), (rowsD t0.ns, .slice A30 n30 c30), (.ints .i64 xs1, .slice A1 n1 c1)] [⟨.ints .i64 (esL 256 t0 xs1), .slice W nW cW, w3.heap.size, w4.heap.size⟩] [(w4.heap.size, [.int .i64 (esC 256 t0 xs1), .slice W nW cW]), (w.heap.size, [.int .i64 t0.kd, .slice A10 n10 c10, .slice A20 n20 c20, .int .i64 t0.sd, .slice A30 n30 c30])] := Scene.addBox S6 [.int .i64 (esC 256 t0 xs1), .slice W nW cW] 33
  clear S6
  go_wp2_with fail
  have hda00 := S7.argI 0 rfl
  have hda01 := S7.argI 1 rfl
  have hda02 := S7.argI 2 rfl
  have hda0 : HdSt _ t0 _ _ _ _ _ _ _ _ _ := ⟨hda00, hda01, hda02⟩
  clear hda00 hda01 hda02
  refine (toStage_any t0 _ _ _ _ _ _ _ _ _ _ hda0 hn0.out).mono ?_
  rintro e w5 ⟨X10, X20, X30, px0, qx0, rfl, ho, hb⟩
  have i5 := Below.size hb
  try simp only [World.size_alloc] at i5
  have S8 : Scene w w5 [(rowsD t0.cs, .slice A10 n10 c10), (rowsD t0.rs, .slice A20 n20 c20), (rowsD t0.ns, .slice A30 n30 c30), (.ints .i64 xs1, .slice A1 n1 c1)] [⟨.ints .i64 (esL 256 t0 xs1), .slice W nW cW, w3.heap.size, w4.heap.size⟩] [(w4.heap.size, [.int .i64 (esC 256 t0 xs1), .slice W nW cW]), (w.heap.size, [.int .i64 t0.kd, .slice A10 n10 c10, .slice A20 n20 c20, .int .i64 t0.sd, .slice A30 n30 c30])] := Scene.below S7 hb
  have HO0 := Lib.hid (⟨ho.a.mono (lo' := w4.heap.size + 1) (by simp) (Nat.le_refl _), ho.b, ho.d, by have := ho.le; (try simp at this); omega⟩ : OwnSt _ t0 X10 n10 X20 n20 X30 n30 (w4.heap.size + 1) px0 qx0 _)
  have S9 : Scene w w5 [(rowsD t0.cs, .slice A10 n10 c10), (rowsD t0.rs, .slice A20 n20 c20), (rowsD t0.ns, .slice A30 n30 c30), (.ints .i64 xs1, .slice A1 n1 c1)] [⟨rowsD t0.cs, .slice X10 n10 n10, w4.heap.size + 1, px0⟩, ⟨.ints .i64 (esL 256 t0 xs1), .slice W nW cW, w3.heap.size, w4.heap.size⟩] [(w4.heap.size, [.int .i64 (esC 256 t0 xs1), .slice W nW cW]), (w.heap.size, [.int .i64 t0.kd, .slice A10 n10 c10, .slice A20 n20 c20, .int .i64 t0.sd, .slice A30 n30 c30])] := Scene.addOwn S8 HO0.out.a (by have := S8.bel.size; have := HO0.out.le; have hle := hb.size; (try simp at hle); omega) (by have := HO0.out.le; omega)
  clear S8
  have S10 : Scene w w5 [(rowsD t0.cs, .slice A10 n10 c10), (rowsD t0.rs, .slice A20 n20 c20), (rowsD t0.ns, .slice A30 n30 c30), (.ints .i64 xs1, .slice A1 n1 c1)] [⟨rowsD t0.rs, .slice X20 n20 n20, px0, qx0⟩, ⟨rowsD t0.cs, .slice X10 n10 n10, w4.heap.size + 1, px0⟩, ⟨.ints .i64 (esL 256 t0 xs1), .slice W nW cW, w3.heap.size, w4.heap.size⟩] [(w4.heap.size, [.int .i64 (esC 256 t0 xs1), .slice W nW cW]), (w.heap.size, [.int .i64 t0.kd, .slice A10 n10 c10, .slice A20 n20 c20, .int .i64 t0.sd, .slice A30 n30 c30])] := Scene.addOwn S9 HO0.out.b (by have := S9.bel.size; have := HO0.out.le; have hle := hb.size; (try simp at hle); omega) (by have := HO0.out.le; omega)
  clear S9
  have S11 : Scene w w5 [(rowsD t0.cs, .slice A10 n10 c10), (rowsD t0.rs, .slice A20 n20 c20), (rowsD t0.ns, .slice A30 n30 c30), (.ints .i64 xs1, .slice A1 n1 c1)] [⟨rowsD t0.ns, .slice X30 n30 n30, qx0, w5.heap.size⟩, ⟨rowsD t0.rs, .slice X20 n20 n20, px0, qx0⟩, ⟨rowsD t0.cs, .slice X10 n10 n10, w4.heap.size + 1, px0⟩, ⟨.ints .i64 (esL 256 t0 xs1), .slice W nW cW, w3.heap.size, w4.heap.size⟩] [(w4.heap.size, [.int .i64 (esC 256 t0 xs1), .slice W nW cW]), (w.heap.size, [.int .i64 t0.kd, .slice A10 n10 c10, .slice A20 n20 c20, .int .i64 t0.sd, .slice A30 n30 c30])] := Scene.addOwn S10 HO0.out.d (by have := S10.bel.size; have := HO0.out.le; have hle := hb.size; (try simp at hle); omega) (by have := HO0.out.le; omega)
  clear S10
  clear ho hb hda0
  clear x0_0 x0_1 x0_2 x0_3 x0_4 z0
  have x0_0 : w5.cell? ⟨w4.heap.size, 0, none⟩ = some (.int .i64 (esC 256 t0 xs1)) := S11.boxI 0 0 rfl rfl
  have x0_1 : w5.cell? ⟨w4.heap.size, 1, none⟩ = some (.slice W nW cW) := S11.boxI 0 1 rfl rfl
  have z0 : w4.heap.size < w5.heap.size := cell_lt x0_0
  have x1_0 : w5.cell? ⟨w.heap.size, 0, none⟩ = some (.int .i64 t0.kd) := S11.boxI 1 0 rfl rfl
  have x1_1 : w5.cell? ⟨w.heap.size, 1, none⟩ = some (.slice A10 n10 c10) := S11.boxI 1 1 rfl rfl
  have x1_2 : w5.cell? ⟨w.heap.size, 2, none⟩ = some (.slice A20 n20 c20) := S11.boxI 1 2 rfl rfl
  have x1_3 : w5.cell? ⟨w.heap.size, 3, none⟩ = some (.int .i64 t0.sd) := S11.boxI 1 3 rfl rfl
  have x1_4 : w5.cell? ⟨w.heap.size, 4, none⟩ = some (.slice A30 n30 c30) := S11.boxI 1 4 rfl rfl
  have z1 : w.heap.size < w5.heap.size := cell_lt x1_0
  have S12 : Scene w (w5.alloc (.cells #[.int .i64 t0.kd, .slice X10 n10 n10, .slice X20 n20 n20, .int .i64 t0.sd, .slice X30 n30 n30] 39)) [(rowsD t0.cs, .slice A10 n10 c10), (rowsD t0.rs, .slice A20 n20 c20), (rowsD t0.ns, .slice A30 n30 c30), (.ints .i64 xs1, .slice A1 n1 c1)] [⟨rowsD t0.ns, .slice X30 n30 n30, qx0, w5.heap.size⟩, ⟨rowsD t0.rs, .slice X20 n20 n20, px0, qx0⟩, ⟨rowsD t0.cs, .slice X10 n10 n10, w4.heap.size + 1, px0⟩, ⟨.ints .i64 (esL 256 t0 xs1), .slice W nW cW, w3.heap.size, w4.heap.size⟩] [(w5.heap.size, [.int .i64 t0.kd, .slice X10 n10 n10, .slice X20 n20 n20, .int .i64 t0.sd, .slice X30 n30 n30]), (w4.heap.size, [.int .i64 (esC 256 t0 xs1), .slice W nW cW]), (w.heap.size, [.int .i64 t0.kd, .slice A10 n10 c10, .slice A20 n20 c20, .int .i64 t0.sd, .slice A30 n30 c30])] := Scene.addBox S11 [.int .i64 t0.kd, .slice X10 n10 n10, .slice X20 n20 n20, .int .i64 t0.sd, .slice X30 n30 n30] 39
  clear S11
  go_wp2_with fail
  obtain ⟨bsa1, hda1⟩ := S12.argI 3 rfl
  refine (toInt64S_any A1 n1 c1 xs1 _ hda1.rd (by omega)).mono ?_
  rintro e w6 ⟨X1, rfl, ho, hb⟩
  have i6 := Below.size hb
  try simp only [World.size_alloc] at i6
  have S13 : Scene w w6 [(rowsD t0.cs, .slice A10 n10 c10), (rowsD t0.rs, .slice A20 n20 c20), (rowsD t0.ns, .slice A30 n30 c30), (.ints .i64 xs1, .slice A1 n1 c1)] [⟨rowsD t0.ns, .slice X30 n30 n30, qx0, w5.heap.size⟩, ⟨rowsD t0.rs, .slice X20 n20 n20, px0, qx0⟩, ⟨rowsD t0.cs, .slice X10 n10 n10, w4.heap.size + 1, px0⟩, ⟨.ints .i64 (esL 256 t0 xs1), .slice W nW cW, w3.heap.size, w4.heap.size⟩] [(w5.heap.size, [.int .i64 t0.kd, .slice X10 n10 n10, .slice X20 n20 n20, .int .i64 t0.sd, .slice X30 n30 n30]), (w4.heap.size, [.int .i64 (esC 256 t0 xs1), .slice W nW cW]), (w.heap.size, [.int .i64 t0.kd, .slice A10 n10 c10, .slice A20 n20 c20, .int .i64 t0.sd, .slice A30 n30 c30])] := Scene.below S12 hb
  have S14 : Scene w w6 [(rowsD t0.cs, .slice A10 n10 c10), (rowsD t0.rs, .slice A20 n20 c20), (rowsD t0.ns, .slice A30 n30 c30), (.ints .i64 xs1, .slice A1 n1 c1)] [⟨.ints .i64 xs1, .slice X1 n1 n1, w5.heap.size + 1, w6.heap.size⟩, ⟨rowsD t0.ns, .slice X30 n30 n30, qx0, w5.heap.size⟩, ⟨rowsD t0.rs, .slice X20 n20 n20, px0, qx0⟩, ⟨rowsD t0.cs, .slice X10 n10 n10, w4.heap.size + 1, px0⟩, ⟨.ints .i64 (esL 256 t0 xs1), .slice W nW cW, w3.heap.size, w4.heap.size⟩] [(w5.heap.size, [.int .i64 t0.kd, .slice X10 n10 n10, .slice X20 n20 n20, .int .i64 t0.sd, .slice X30 n30 n30]), (w4.heap.size, [.int .i64 (esC 256 t0 xs1), .slice W nW cW]), (w.heap.size, [.int .i64 t0.kd, .slice A10 n10 c10, .slice A20 n20 c20, .int .i64 t0.sd, .slice A30 n30 c30])] := Scene.addOwn S13 (ho.mono (by simp) (Nat.le_refl _)) (by have := S13.bel.size; omega) (Nat.le_refl _)
  clear ho hb hda1 S13
  clear x0_0 x0_1 z0 x1_0 x1_1 x1_2 x1_3 x1_4 z1
  have x0_0 : w6.cell? ⟨w5.heap.size, 0, none⟩ = some (.int .i64 t0.kd) := S14.boxI 0 0 rfl rfl
  have x0_1 : w6.cell? ⟨w5.heap.size, 1, none⟩ = some (.slice X10 n10 n10) := S14.boxI 0 1 rfl rfl
  have x0_2 : w6.cell? ⟨w5.heap.size, 2, none⟩ = some (.slice X20 n20 n20) := S14.boxI 0 2 rfl rfl
  have x0_3 : w6.cell? ⟨w5.heap.size, 3, none⟩ = some (.int .i64 t0.sd) := S14.boxI 0 3 rfl rfl
  have x0_4 : w6.cell? ⟨w5.heap.size, 4, none⟩ = some (.slice X30 n30 n30) := S14.boxI 0 4 rfl rfl
  have z0 : w5.heap.size < w6.heap.size := cell_lt x0_0
  have x1_0 : w6.cell? ⟨w4.heap.size, 0, none⟩ = some (.int .i64 (esC 256 t0 xs1)) := S14.boxI 1 0 rfl rfl
  have x1_1 : w6.cell? ⟨w4.heap.size, 1, none⟩ = some (.slice W nW cW) := S14.boxI 1 1 rfl rfl
  have z1 : w4.heap.size < w6.heap.size := cell_lt x1_0
  have x2_0 : w6.cell? ⟨w.heap.size, 0, none⟩ = some (.int .i64 t0.kd) := S14.boxI 2 0 rfl rfl
  have x2_1 : w6.cell? ⟨w.heap.size, 1, none⟩ = some (.slice A10 n10 c10) := S14.boxI 2 1 rfl rfl
  have x2_2 : w6.cell? ⟨w.heap.size, 2, none⟩ = some (.slice A20 n20 c20) := S14.boxI 2 2 rfl rfl
  have x2_3 : w6.cell? ⟨w.heap.size, 3, none⟩ = some (.int .i64 t0.sd) := S14.boxI 2 3 rfl rfl
  have x2_4 : w6.cell? ⟨w.heap.size, 4, none⟩ = some (.slice A30 n30 c30) := S14.boxI 2 4 rfl rfl
  have z2 : w.heap.size < w6.heap.size := cell_lt x2_0
  go_wp2_with fail
  have hx0 : HdSt _ t0 _ _ _ _ _ _ _ _ _ := ⟨(S14.ownI 3 rfl).hd, (S14.ownI 2 rfl).hd, (S14.ownI 1 rfl).hd⟩
  obtain ⟨dx1, hx1⟩ := (S14.ownI 0 rfl).hd
  refine (FineStage_any t0 _ _ _ _ _ _ _ _ _ X1 n1 n1 xs1 _ _ hx0 hx1).mono ?_
  rintro e w7 ⟨G, nG, cG, rfl, ho, hb⟩
  have i7 := Below.size hb
  try simp only [World.size_alloc] at i7
  have S15 : Scene w w7 [(rowsD t0.cs, .slice A10 n10 c10), (rowsD t0.rs, .slice A20 n20 c20), (rowsD t0.ns, .slice A30 n30 c30), (.ints .i64 xs1, .slice A1 n1 c1)] [⟨.ints .i64 xs1, .slice X1 n1 n1, w5.heap.size + 1, w6.heap.size⟩, ⟨rowsD t0.ns, .slice X30 n30 n30, qx0, w5.heap.size⟩, ⟨rowsD t0.rs, .slice X20 n20 n20, px0, qx0⟩, ⟨rowsD t0.cs, .slice X10 n10 n10, w4.heap.size + 1, px0⟩, ⟨.ints .i64 (esL 256 t0 xs1), .slice W nW cW, w3.heap.size, w4.heap.size⟩] [(w5.heap.size, [.int .i64 t0.kd, .slice X10 n10 n10, .slice X20 n20 n20, .int .i64 t0.sd, .slice X30 n30 n30]), (w4.heap.size, [.int .i64 (esC 256 t0 xs1), .slice W nW cW]), (w.heap.size, [.int .i64 t0.kd, .slice A10 n10 c10, .slice A20 n20 c20, .int .i64 t0.sd, .slice A30 n30 c30])] := Scene.below S14 hb
  clear hx0 hx1
  obtain ⟨bsn, hdn⟩ := ho.hd
  have hlG := hdn.rd.1
  obtain ⟨bsw, hdw⟩ := (S15.ownI 4 rfl).hd
  have hlW := hdw.rd.1
  obtain rfl : nW = nG := by omega
  have S16 : Scene w w7 [(rowsD t0.cs, .slice A10 n10 c10), (rowsD t0.rs, .slice A20 n20 c20), (rowsD t0.ns, .slice A30 n30 c30), (.ints .i64 xs1, .slice A1 n1 c1)] [⟨.ints .i64 (esL 256 t0 xs1), .slice G nW cG, w6.heap.size, w7.heap.size⟩, ⟨.ints .i64 xs1, .slice X1 n1 n1, w5.heap.size + 1, w6.heap.size⟩, ⟨rowsD t0.ns, .slice X30 n30 n30, qx0, w5.heap.size⟩, ⟨rowsD t0.rs, .slice X20 n20 n20, px0, qx0⟩, ⟨rowsD t0.cs, .slice X10 n10 n10, w4.heap.size + 1, px0⟩, ⟨.ints .i64 (esL 256 t0 xs1), .slice W nW cW, w3.heap.size, w4.heap.size⟩] [(w5.heap.size, [.int .i64 t0.kd, .slice X10 n10 n10, .slice X20 n20 n20, .int .i64 t0.sd, .slice X30 n30 n30]), (w4.heap.size, [.int .i64 (esC 256 t0 xs1), .slice W nW cW]), (w.heap.size, [.int .i64 t0.kd, .slice A10 n10 c10, .slice A20 n20 c20, .int .i64 t0.sd, .slice A30 n30 c30])] := Scene.addOwn S15 ho (by have := S15.bel.size; omega) (Nat.le_refl _)
  clear ho hb hdn hdw hlW hlG S15
  clear x0_0 x0_1 x0_2 x0_3 x0_4 z0 x1_0 x1_1 z1 x2_0 x2_1 x2_2 x2_3 x2_4 z2
  have x0_0 : w7.cell? ⟨w5.heap.size, 0, none⟩ = some (.int .i64 t0.kd) := S16.boxI 0 0 rfl rfl
  have x0_1 : w7.cell? ⟨w5.heap.size, 1, none⟩ = some (.slice X10 n10 n10) := S16.boxI 0 1 rfl rfl
  have x0_2 : w7.cell? ⟨w5.heap.size, 2, none⟩ = some (.slice X20 n20 n20) := S16.boxI 0 2 rfl rfl
  have x0_3 : w7.cell? ⟨w5.heap.size, 3, none⟩ = some (.int .i64 t0.sd) := S16.boxI 0 3 rfl rfl
  have x0_4 : w7.cell? ⟨w5.heap.size, 4, none⟩ = some (.slice X30 n30 n30) := S16.boxI 0 4 rfl rfl
  have z0 : w5.heap.size < w7.heap.size := cell_lt x0_0
  have x1_0 : w7.cell? ⟨w4.heap.size, 0, none⟩ = some (.int .i64 (esC 256 t0 xs1)) := S16.boxI 1 0 rfl rfl
  have x1_1 : w7.cell? ⟨w4.heap.size, 1, none⟩ = some (.slice W nW cW) := S16.boxI 1 1 rfl rfl
  have z1 : w4.heap.size < w7.heap.size := cell_lt x1_0
  have x2_0 : w7.cell? ⟨w.heap.size, 0, none⟩ = some (.int .i64 t0.kd) := S16.boxI 2 0 rfl rfl
  have x2_1 : w7.cell? ⟨w.heap.size, 1, none⟩ = some (.slice A10 n10 c10) := S16.boxI 2 1 rfl rfl
  have x2_2 : w7.cell? ⟨w.heap.size, 2, none⟩ = some (.slice A20 n20 c20) := S16.boxI 2 2 rfl rfl
  have x2_3 : w7.cell? ⟨w.heap.size, 3, none⟩ = some (.int .i64 t0.sd) := S16.boxI 2 3 rfl rfl
  have x2_4 : w7.cell? ⟨w.heap.size, 4, none⟩ = some (.slice A30 n30 c30) := S16.boxI 2 4 rfl rfl
  have z2 : w.heap.size < w7.heap.size := cell_lt x2_0
  have S17 : Scene w (w7.alloc (.cells #[.int .i64 (esC 256 t0 xs1), .slice G nW cG] 33)) [(rowsD t0.cs, .slice A10 n10 c10), (rowsD t0.rs, .slice A20 n20 c20), (rowsD t0.ns, .slice A30 n30 c30), (.ints .i64 xs1, .slice A1 n1 c1)] [⟨.ints .i64 (esL 256 t0 xs1), .slice G nW cG, w6.heap.size, w7.heap.size⟩, ⟨.ints .i64 xs1, .slice X1 n1 n1, w5.heap.size + 1, w6.heap.size⟩, ⟨rowsD t0.ns, .slice X30 n30 n30, qx0, w5.heap.size⟩, ⟨rowsD t0.rs, .slice X20 n20 n20, px0, qx0⟩, ⟨rowsD t0.cs, .slice X10 n10 n10, w4.heap.size + 1, px0⟩, ⟨.ints .i64 (esL 256 t0 xs1), .slice W nW cW, w3.heap.size, w4.heap.size⟩] [(w7.heap.size, [.int .i64 (esC 256 t0 xs1), .slice G nW cG]), (w5.heap.size, [.int .i64 t0.kd, .slice X10 n10 n10, .slice X20 n20 n20, .int .i64 t0.sd, .slice X30 n30 n30]), (w4.heap.size, [.int .i64 (esC 256 t0 xs1), .slice W nW cW]), (w.heap.size, [.int .i64 t0.kd, .slice A10 n10 c10, .slice A20 n20 c20, .int .i64 t0.sd, .slice A30 n30 c30])] := Scene.addBox S16 [.int .i64 (esC 256 t0 xs1), .slice G nW cG] 33
  clear S16
  go_wp2_with fail
  obtain ⟨bsx, hdx⟩ := (S17.ownI 0 rfl).hd
  obtain ⟨bsy, hdy⟩ := (S17.ownI 5 rfl).hd
  refine (eqIntsResult_same _ _ _ _ _ _ _ (esL 256 t0 xs1) _ hdx.rd hdy.rd (by omega)).mono ?_
  rintro e w8 ⟨rfl, hb⟩
  have i8 := Below.size hb
  try simp only [World.size_alloc] at i8
  have S18 : Scene w w8 [(rowsD t0.cs, .slice A10 n10 c10), (rowsD t0.rs, .slice A20 n20 c20), (rowsD t0.ns, .slice A30 n30 c30), (.ints .i64 xs1, .slice A1 n1 c1)] [⟨.ints .i64 (esL 256 t0 xs1), .slice G nW cG, w6.heap.size, w7.heap.size⟩, ⟨.ints .i64 xs1, .slice X1 n1 n1, w5.heap.size + 1, w6.heap.size⟩, ⟨rowsD t0.ns, .slice X30 n30 n30, qx0, w5.heap.size⟩, ⟨rowsD t0.rs, .slice X20 n20 n20, px0, qx0⟩, ⟨rowsD t0.cs, .slice X10 n10 n10, w4.heap.size + 1, px0⟩, ⟨.ints .i64 (esL 256 t0 xs1), .slice W nW cW, w3.heap.size, w4.heap.size⟩] [(w7.heap.size, [.int .i64 (esC 256 t0 xs1), .slice G nW cG]), (w5.heap.size, [.int .i64 t0.kd, .slice X10 n10 n10, .slice X20 n20 n20, .int .i64 t0.sd, .slice X30 n30 n30]), (w4.heap.size, [.int .i64 (esC 256 t0 xs1), .slice W nW cW]), (w.heap.size, [.int .i64 t0.kd, .slice A10 n10 c10, .slice A20 n20 c20, .int .i64 t0.sd, .slice A30 n30 c30])] := Scene.below S17 hb
  clear hb hdx hdy
  clear x0_0 x0_1 x0_2 x0_3 x0_4 z0 x1_0 x1_1 z1 x2_0 x2_1 x2_2 x2_3 x2_4 z2
  have x0_0 : w8.cell? ⟨w7.heap.size, 0, none⟩ = some (.int .i64 (esC 256 t0 xs1)) := S18.boxI 0 0 rfl rfl
  have x0_1 : w8.cell? ⟨w7.heap.size, 1, none⟩ = some (.slice G nW cG) := S18.boxI 0 1 rfl rfl
  have z0 : w7.heap.size < w8.heap.size := cell_lt x0_0
  have x1_0 : w8.cell? ⟨w5.heap.size, 0, none⟩ = some (.int .i64 t0.kd) := S18.boxI 1 0 rfl rfl
  have x1_1 : w8.cell? ⟨w5.heap.size, 1, none⟩ = some (.slice X10 n10 n10) := S18.boxI 1 1 rfl rfl
  have x1_2 : w8.cell? ⟨w5.heap.size, 2, none⟩ = some (.slice X20 n20 n20) := S18.boxI 1 2 rfl rfl
  have x1_3 : w8.cell? ⟨w5.heap.size, 3, none⟩ = some (.int .i64 t0.sd) := S18.boxI 1 3 rfl rfl
  have x1_4 : w8.cell? ⟨w5.heap.size, 4, none⟩ = some (.slice X30 n30 n30) := S18.boxI 1 4 rfl rfl
  have z1 : w5.heap.size < w8.heap.size := cell_lt x1_0
  have x2_0 : w8.cell? ⟨w4.heap.size, 0, none⟩ = some (.int .i64 (esC 256 t0 xs1)) := S18.boxI 2 0 rfl rfl
  have x2_1 : w8.cell? ⟨w4.heap.size, 1, none⟩ = some (.slice W nW cW) := S18.boxI 2 1 rfl rfl
  have z2 : w4.heap.size < w8.heap.size := cell_lt x2_0
  have x3_0 : w8.cell? ⟨w.heap.size, 0, none⟩ = some (.int .i64 t0.kd) := S18.boxI 3 0 rfl rfl
  have x3_1 : w8.cell? ⟨w.heap.size, 1, none⟩ = some (.slice A10 n10 c10) := S18.boxI 3 1 rfl rfl
  have x3_2 : w8.cell? ⟨w.heap.size, 2, none⟩ = some (.slice A20 n20 c20) := S18.boxI 3 2 rfl rfl
  have x3_3 : w8.cell? ⟨w.heap.size, 3, none⟩ = some (.int .i64 t0.sd) := S18.boxI 3 3 rfl rfl
  have x3_4 : w8.cell? ⟨w.heap.size, 4, none⟩ = some (.slice A30 n30 c30) := S18.boxI 3 4 rfl rfl
  have z3 : w.heap.size < w8.heap.size := cell_lt x3_0
  go_wp2_with fail
  go_region_held3 (fun w' => w'.cell? ⟨w7.heap.size, 0, none⟩ = some (.int .i64 (esC 256 t0 xs1)) ∧ w'.cell? ⟨w7.heap.size, 1, none⟩ = some (.slice G nW cG) ∧ w'.cell? ⟨w5.heap.size, 0, none⟩ = some (.int .i64 t0.kd) ∧ w'.cell? ⟨w5.heap.size, 1, none⟩ = some (.slice X10 n10 n10) ∧ w'.cell? ⟨w5.heap.size, 2, none⟩ = some (.slice X20 n20 n20) ∧ w'.cell? ⟨w5.heap.size, 3, none⟩ = some (.int .i64 t0.sd) ∧ w'.cell? ⟨w5.heap.size, 4, none⟩ = some (.slice X30 n30 n30) ∧ w'.cell? ⟨w4.heap.size, 0, none⟩ = some (.int .i64 (esC 256 t0 xs1)) ∧ w'.cell? ⟨w4.heap.size, 1, none⟩ = some (.slice W nW cW) ∧ w'.cell? ⟨w.heap.size, 0, none⟩ = some (.int .i64 t0.kd) ∧ w'.cell? ⟨w.heap.size, 1, none⟩ = some (.slice A10 n10 c10) ∧ w'.cell? ⟨w.heap.size, 2, none⟩ = some (.slice A20 n20 c20) ∧ w'.cell? ⟨w.heap.size, 3, none⟩ = some (.int .i64 t0.sd) ∧ w'.cell? ⟨w.heap.size, 4, none⟩ = some (.slice A30 n30 c30) ∧ Scene w w' [(rowsD t0.cs, .slice A10 n10 c10), (rowsD t0.rs, .slice A20 n20 c20), (rowsD t0.ns, .slice A30 n30 c30), (.ints .i64 xs1, .slice A1 n1 c1)] [⟨.ints .i64 (esL 256 t0 xs1), .slice G nW cG, w6.heap.size, w7.heap.size⟩, ⟨.ints .i64 xs1, .slice X1 n1 n1, w5.heap.size + 1, w6.heap.size⟩, ⟨rowsD t0.ns, .slice X30 n30 n30, qx0, w5.heap.size⟩, ⟨rowsD t0.rs, .slice X20 n20 n20, px0, qx0⟩, ⟨rowsD t0.cs, .slice X10 n10 n10, w4.heap.size + 1, px0⟩, ⟨.ints .i64 (esL 256 t0 xs1), .slice W nW cW, w3.heap.size, w4.heap.size⟩] [(w7.heap.size, [.int .i64 (esC 256 t0 xs1), .slice G nW cG]), (w5.heap.size, [.int .i64 t0.kd, .slice X10 n10 n10, .slice X20 n20 n20, .int .i64 t0.sd, .slice X30 n30 n30]), (w4.heap.size, [.int .i64 (esC 256 t0 xs1), .slice W nW cW]), (w.heap.size, [.int .i64 t0.kd, .slice A10 n10 c10, .slice A20 n20 c20, .int .i64 t0.sd, .slice A30 n30 c30])])
    (first | (go_split_ands; exact ⟨cell_later hb (by assumption), cell_later hb (by assumption), cell_later hb (by assumption), cell_later hb (by assumption), cell_later hb (by assumption), cell_later hb (by assumption), cell_later hb (by assumption), cell_later hb (by assumption), cell_later hb (by assumption), cell_later hb (by assumption), cell_later hb (by assumption), cell_later hb (by assumption), cell_later hb (by assumption), cell_later hb (by assumption), Scene.below (by assumption) hb⟩) | exact ⟨x0_0, x0_1, x1_0, x1_1, x1_2, x1_3, x1_4, x2_0, x2_1, x3_0, x3_1, x3_2, x3_3, x3_4, Scene.drew S18⟩)
    (first | (go_at_call 11; go_split_ands; have hdq := (⟨Scene.argI (by assumption) 0 rfl, Scene.argI (by assumption) 1 rfl, Scene.argI (by assumption) 2 rfl⟩ : HdSt _ t0 _ _ _ _ _ _ _ _ _); refine (toStage_any t0 _ _ _ _ _ _ _ _ _ _ hdq hn0.out).mono ?_; rintro e w' ⟨B1q, B2q, B3q, pq, qq, rfl, ho, hb⟩) | (go_at_call 15; go_split_ands; have hdr := ho.hd; have hdt := (⟨(Scene.ownI (by assumption) 4 rfl).hd, (Scene.ownI (by assumption) 3 rfl).hd, (Scene.ownI (by assumption) 2 rfl).hd⟩ : HdSt _ t0 _ _ _ _ _ _ _ _ _); refine (eqStage_same t0 _ _ _ _ _ _ _ _ _ _ _ _ _ _ _ _ _ _ _ hdt hdr hn0.out).mono ?_; rintro e w' ⟨rfl, hb⟩))
  go_split_ands
  rename Scene w _ _ _ _ => S19
  rename World => w9
  clear S18
  clear x0_0 x0_1 x1_0 x1_1 x1_2 x1_3 x1_4 x2_0 x2_1 x3_0 x3_1 x3_2 x3_3 x3_4 z0 z1 z2 z3
  clear ho
  have x0_0 : w9.cell? ⟨w7.heap.size, 0, none⟩ = some (.int .i64 (esC 256 t0 xs1)) := S19.boxI 0 0 rfl rfl
  have x0_1 : w9.cell? ⟨w7.heap.size, 1, none⟩ = some (.slice G nW cG) := S19.boxI 0 1 rfl rfl
  have z0 : w7.heap.size < w9.heap.size := cell_lt x0_0
  have x1_0 : w9.cell? ⟨w5.heap.size, 0, none⟩ = some (.int .i64 t0.kd) := S19.boxI 1 0 rfl rfl
  have x1_1 : w9.cell? ⟨w5.heap.size, 1, none⟩ = some (.slice X10 n10 n10) := S19.boxI 1 1 rfl rfl
  have x1_2 : w9.cell? ⟨w5.heap.size, 2, none⟩ = some (.slice X20 n20 n20) := S19.boxI 1 2 rfl rfl
  have x1_3 : w9.cell? ⟨w5.heap.size, 3, none⟩ = some (.int .i64 t0.sd) := S19.boxI 1 3 rfl rfl
  have x1_4 : w9.cell? ⟨w5.heap.size, 4, none⟩ = some (.slice X30 n30 n30) := S19.boxI 1 4 rfl rfl
  have z1 : w5.heap.size < w9.heap.size := cell_lt x1_0
  have x2_0 : w9.cell? ⟨w4.heap.size, 0, none⟩ = some (.int .i64 (esC 256 t0 xs1)) := S19.boxI 2 0 rfl rfl
  have x2_1 : w9.cell? ⟨w4.heap.size, 1, none⟩ = some (.slice W nW cW) := S19.boxI 2 1 rfl rfl
  have z2 : w4.heap.size < w9.heap.size := cell_lt x2_0
  have x3_0 : w9.cell? ⟨w.heap.size, 0, none⟩ = some (.int .i64 t0.kd) := S19.boxI 3 0 rfl rfl
  have x3_1 : w9.cell? ⟨w.heap.size, 1, none⟩ = some (.slice A10 n10 c10) := S19.boxI 3 1 rfl rfl
  have x3_2 : w9.cell? ⟨w.heap.size, 2, none⟩ = some (.slice A20 n20 c20) := S19.boxI 3 2 rfl rfl
  have x3_3 : w9.cell? ⟨w.heap.size, 3, none⟩ = some (.int .i64 t0.sd) := S19.boxI 3 3 rfl rfl
  have x3_4 : w9.cell? ⟨w.heap.size, 4, none⟩ = some (.slice A30 n30 c30) := S19.boxI 3 4 rfl rfl
  have z3 : w.heap.size < w9.heap.size := cell_lt x3_0
  go_wp2_with fail
  obtain ⟨bsa1, hda1⟩ := S19.argI 3 rfl
  refine (toInt64S_any A1 n1 c1 xs1 _ hda1.rd (by omega)).mono ?_
  rintro e w10 ⟨Y1, rfl, ho, hb⟩
  have i10 := Below.size hb
  try simp only [World.size_alloc] at i10
  have S20 : Scene w w10 [(rowsD t0.cs, .slice A10 n10 c10), (rowsD t0.rs, .slice A20 n20 c20), (rowsD t0.ns, .slice A30 n30 c30), (.ints .i64 xs1, .slice A1 n1 c1)] [⟨.ints .i64 (esL 256 t0 xs1), .slice G nW cG, w6.heap.size, w7.heap.size⟩, ⟨.ints .i64 xs1, .slice X1 n1 n1, w5.heap.size + 1, w6.heap.size⟩, ⟨rowsD t0.ns, .slice X30 n30 n30, qx0, w5.heap.size⟩, ⟨rowsD t0.rs, .slice X20 n20 n20, px0, qx0⟩, ⟨rowsD t0.cs, .slice X10 n10 n10, w4.heap.size + 1, px0⟩, ⟨.ints .i64 (esL 256 t0 xs1), .slice W nW cW, w3.heap.size, w4.heap.size⟩] [(w7.heap.size, [.int .i64 (esC 256 t0 xs1), .slice G nW cG]), (w5.heap.size, [.int .i64 t0.kd, .slice X10 n10 n10, .slice X20 n20 n20, .int .i64 t0.sd, .slice X30 n30 n30]), (w4.heap.size, [.int .i64 (esC 256 t0 xs1), .slice W nW cW]), (w.heap.size, [.int .i64 t0.kd, .slice A10 n10 c10, .slice A20 n20 c20, .int .i64 t0.sd, .slice A30 n30 c30])] := Scene.below S19 hb
  obtain ⟨dsy, ddy⟩ := ho.hd
  have DY := Lib.hid ddy
  clear ho hb ddy hda1
  clear x0_0 x0_1 z0 x1_0 x1_1 x1_2 x1_3 x1_4 z1 x2_0 x2_1 z2 x3_0 x3_1 x3_2 x3_3 x3_4 z3
  have x0_0 : w10.cell? ⟨w7.heap.size, 0, none⟩ = some (.int .i64 (esC 256 t0 xs1)) := S20.boxI 0 0 rfl rfl
  have x0_1 : w10.cell? ⟨w7.heap.size, 1, none⟩ = some (.slice G nW cG) := S20.boxI 0 1 rfl rfl
  have z0 : w7.heap.size < w10.heap.size := cell_lt x0_0
  have x1_0 : w10.cell? ⟨w5.heap.size, 0, none⟩ = some (.int .i64 t0.kd) := S20.boxI 1 0 rfl rfl
  have x1_1 : w10.cell? ⟨w5.heap.size, 1, none⟩ = some (.slice X10 n10 n10) := S20.boxI 1 1 rfl rfl
  have x1_2 : w10.cell? ⟨w5.heap.size, 2, none⟩ = some (.slice X20 n20 n20) := S20.boxI 1 2 rfl rfl
  have x1_3 : w10.cell? ⟨w5.heap.size, 3, none⟩ = some (.int .i64 t0.sd) := S20.boxI 1 3 rfl rfl
  have x1_4 : w10.cell? ⟨w5.heap.size, 4, none⟩ = some (.slice X30 n30 n30) := S20.boxI 1 4 rfl rfl
  have z1 : w5.heap.size < w10.heap.size := cell_lt x1_0
  have x2_0 : w10.cell? ⟨w4.heap.size, 0, none⟩ = some (.int .i64 (esC 256 t0 xs1)) := S20.boxI 2 0 rfl rfl
  have x2_1 : w10.cell? ⟨w4.heap.size, 1, none⟩ = some (.slice W nW cW) := S20.boxI 2 1 rfl rfl
  have z2 : w4.heap.size < w10.heap.size := cell_lt x2_0
  have x3_0 : w10.cell? ⟨w.heap.size, 0, none⟩ = some (.int .i64 t0.kd) := S20.boxI 3 0 rfl rfl
  have x3_1 : w10.cell? ⟨w.heap.size, 1, none⟩ = some (.slice A10 n10 c10) := S20.boxI 3 1 rfl rfl
  have x3_2 : w10.cell? ⟨w.heap.size, 2, none⟩ = some (.slice A20 n20 c20) := S20.boxI 3 2 rfl rfl
  have x3_3 : w10.cell? ⟨w.heap.size, 3, none⟩ = some (.int .i64 t0.sd) := S20.boxI 3 3 rfl rfl
  have x3_4 : w10.cell? ⟨w.heap.size, 4, none⟩ = some (.slice A30 n30 c30) := S20.boxI 3 4 rfl rfl
  have z3 : w.heap.size < w10.heap.size := cell_lt x3_0
  go_wp2_with fail
  obtain ⟨bst, hdt⟩ := (S20.ownI 1 rfl).hd
  refine (eqInt64S_bel _ _ _ _ _ _ xs1 _ hdt.rd DY.out.rd (by omega)).mono ?_
  rintro e w11 ⟨rfl, hb⟩
  have i11 := Below.size hb
  try simp only [World.size_alloc] at i11
  have S21 : Scene w w11 [(rowsD t0.cs, .slice A10 n10 c10), (rowsD t0.rs, .slice A20 n20 c20), (rowsD t0.ns, .slice A30 n30 c30), (.ints .i64 xs1, .slice A1 n1 c1)] [⟨.ints .i64 (esL 256 t0 xs1), .slice G nW cG, w6.heap.size, w7.heap.size⟩, ⟨.ints .i64 xs1, .slice X1 n1 n1, w5.heap.size + 1, w6.heap.size⟩, ⟨rowsD t0.ns, .slice X30 n30 n30, qx0, w5.heap.size⟩, ⟨rowsD t0.rs, .slice X20 n20 n20, px0, qx0⟩, ⟨rowsD t0.cs, .slice X10 n10 n10, w4.heap.size + 1, px0⟩, ⟨.ints .i64 (esL 256 t0 xs1), .slice W nW cW, w3.heap.size, w4.heap.size⟩] [(w7.heap.size, [.int .i64 (esC 256 t0 xs1), .slice G nW cG]), (w5.heap.size, [.int .i64 t0.kd, .slice X10 n10 n10, .slice X20 n20 n20, .int .i64 t0.sd, .slice X30 n30 n30]), (w4.heap.size, [.int .i64 (esC 256 t0 xs1), .slice W nW cW]), (w.heap.size, [.int .i64 t0.kd, .slice A10 n10 c10, .slice A20 n20 c20, .int .i64 t0.sd, .slice A30 n30 c30])] := Scene.below S20 hb
  clear hb
  clear hdt DY
  clear x0_0 x0_1 z0 x1_0 x1_1 x1_2 x1_3 x1_4 z1 x2_0 x2_1 z2 x3_0 x3_1 x3_2 x3_3 x3_4 z3
  have x0_0 : w11.cell? ⟨w7.heap.size, 0, none⟩ = some (.int .i64 (esC 256 t0 xs1)) := S21.boxI 0 0 rfl rfl
  have x0_1 : w11.cell? ⟨w7.heap.size, 1, none⟩ = some (.slice G nW cG) := S21.boxI 0 1 rfl rfl
  have z0 : w7.heap.size < w11.heap.size := cell_lt x0_0
  have x1_0 : w11.cell? ⟨w5.heap.size, 0, none⟩ = some (.int .i64 t0.kd) := S21.boxI 1 0 rfl rfl
  have x1_1 : w11.cell? ⟨w5.heap.size, 1, none⟩ = some (.slice X10 n10 n10) := S21.boxI 1 1 rfl rfl
  have x1_2 : w11.cell? ⟨w5.heap.size, 2, none⟩ = some (.slice X20 n20 n20) := S21.boxI 1 2 rfl rfl
  have x1_3 : w11.cell? ⟨w5.heap.size, 3, none⟩ = some (.int .i64 t0.sd) := S21.boxI 1 3 rfl rfl
  have x1_4 : w11.cell? ⟨w5.heap.size, 4, none⟩ = some (.slice X30 n30 n30) := S21.boxI 1 4 rfl rfl
  have z1 : w5.heap.size < w11.heap.size := cell_lt x1_0
  have x2_0 : w11.cell? ⟨w4.heap.size, 0, none⟩ = some (.int .i64 (esC 256 t0 xs1)) := S21.boxI 2 0 rfl rfl
  have x2_1 : w11.cell? ⟨w4.heap.size, 1, none⟩ = some (.slice W nW cW) := S21.boxI 2 1 rfl rfl
  have z2 : w4.heap.size < w11.heap.size := cell_lt x2_0
  have x3_0 : w11.cell? ⟨w.heap.size, 0, none⟩ = some (.int .i64 t0.kd) := S21.boxI 3 0 rfl rfl
  have x3_1 : w11.cell? ⟨w.heap.size, 1, none⟩ = some (.slice A10 n10 c10) := S21.boxI 3 1 rfl rfl
  have x3_2 : w11.cell? ⟨w.heap.size, 2, none⟩ = some (.slice A20 n20 c20) := S21.boxI 3 2 rfl rfl
  have x3_3 : w11.cell? ⟨w.heap.size, 3, none⟩ = some (.int .i64 t0.sd) := S21.boxI 3 3 rfl rfl
  have x3_4 : w11.cell? ⟨w.heap.size, 4, none⟩ = some (.slice A30 n30 c30) := S21.boxI 3 4 rfl rfl
  have z3 : w.heap.size < w11.heap.size := cell_lt x3_0
  go_wp2_with fail
  have hom : OwnSt _ t0 _ _ _ _ _ _ _ _ _ _ := ⟨S21.ownI 4 rfl, S21.ownI 3 rfl, S21.ownI 2 rfl, HO0.out.le⟩
  refine (markStage_any t0 _ _ _ _ _ _ _ _ _ _ 1 _ hom hn0.out (by omega)).mono ?_
  rintro e w12 ⟨mk0, rfl, mlo0, mhi0, hchm⟩
  have sz12 := hchm.size
  have S22 : Scene w w12 [(rowsD t0.cs, .slice A10 n10 c10), (rowsD t0.rs, .slice A20 n20 c20), (rowsD t0.ns, .slice A30 n30 c30), (.ints .i64 xs1, .slice A1 n1 c1)] [⟨.ints .i64 (esL 256 t0 xs1), .slice G nW cG, w6.heap.size, w7.heap.size⟩, ⟨.ints .i64 xs1, .slice X1 n1 n1, w5.heap.size + 1, w6.heap.size⟩, ⟨.ints .i64 (esL 256 t0 xs1), .slice W nW cW, w3.heap.size, w4.heap.size⟩] [(w7.heap.size, [.int .i64 (esC 256 t0 xs1), .slice G nW cG]), (w5.heap.size, [.int .i64 t0.kd, .slice X10 n10 n10, .slice X20 n20 n20, .int .i64 t0.sd, .slice X30 n30 n30]), (w4.heap.size, [.int .i64 (esC 256 t0 xs1), .slice W nW cW]), (w.heap.size, [.int .i64 t0.kd, .slice A10 n10 c10, .slice A20 n20 c20, .int .i64 t0.sd, .slice A30 n30 c30])] := Scene.drop (lo := w4.heap.size + 1) (hi := w5.heap.size) (os' := [⟨.ints .i64 (esL 256 t0 xs1), .slice G nW cG, w6.heap.size, w7.heap.size⟩, ⟨.ints .i64 xs1, .slice X1 n1 n1, w5.heap.size + 1, w6.heap.size⟩, ⟨.ints .i64 (esL 256 t0 xs1), .slice W nW cW, w3.heap.size, w4.heap.size⟩]) S21 hchm (fun k hk => hk) (by have := S21.bel.size; omega) (by have hle := HO0.out.le; simp; try omega) (by have hle := HO0.out.le; simp; try omega)
  clear hom hchm S21
  clear x0_0 x0_1 z0 x1_0 x1_1 x1_2 x1_3 x1_4 z1 x2_0 x2_1 z2 x3_0 x3_1 x3_2 x3_3 x3_4 z3
  have x0_0 : w12.cell? ⟨w7.heap.size, 0, none⟩ = some (.int .i64 (esC 256 t0 xs1)) := S22.boxI 0 0 rfl rfl
  have x0_1 : w12.cell? ⟨w7.heap.size, 1, none⟩ = some (.slice G nW cG) := S22.boxI 0 1 rfl rfl
  have z0 : w7.heap.size < w12.heap.size := cell_lt x0_0
  have x1_0 : w12.cell? ⟨w5.heap.size, 0, none⟩ = some (.int .i64 t0.kd) := S22.boxI 1 0 rfl rfl
  have x1_1 : w12.cell? ⟨w5.heap.size, 1, none⟩ = some (.slice X10 n10 n10) := S22.boxI 1 1 rfl rfl
  have x1_2 : w12.cell? ⟨w5.heap.size, 2, none⟩ = some (.slice X20 n20 n20) := S22.boxI 1 2 rfl rfl
  have x1_3 : w12.cell? ⟨w5.heap.size, 3, none⟩ = some (.int .i64 t0.sd) := S22.boxI 1 3 rfl rfl
  have x1_4 : w12.cell? ⟨w5.heap.size, 4, none⟩ = some (.slice X30 n30 n30) := S22.boxI 1 4 rfl rfl
  have z1 : w5.heap.size < w12.heap.size := cell_lt x1_0
  have x2_0 : w12.cell? ⟨w4.heap.size, 0, none⟩ = some (.int .i64 (esC 256 t0 xs1)) := S22.boxI 2 0 rfl rfl
  have x2_1 : w12.cell? ⟨w4.heap.size, 1, none⟩ = some (.slice W nW cW) := S22.boxI 2 1 rfl rfl
  have z2 : w4.heap.size < w12.heap.size := cell_lt x2_0
  have x3_0 : w12.cell? ⟨w.heap.size, 0, none⟩ = some (.int .i64 t0.kd) := S22.boxI 3 0 rfl rfl
  have x3_1 : w12.cell? ⟨w.heap.size, 1, none⟩ = some (.slice A10 n10 c10) := S22.boxI 3 1 rfl rfl
  have x3_2 : w12.cell? ⟨w.heap.size, 2, none⟩ = some (.slice A20 n20 c20) := S22.boxI 3 2 rfl rfl
  have x3_3 : w12.cell? ⟨w.heap.size, 3, none⟩ = some (.int .i64 t0.sd) := S22.boxI 3 3 rfl rfl
  have x3_4 : w12.cell? ⟨w.heap.size, 4, none⟩ = some (.slice A30 n30 c30) := S22.boxI 3 4 rfl rfl
  have z3 : w.heap.size < w12.heap.size := cell_lt x3_0
  go_wp2_with fail
  obtain ⟨bsm, hdm, ndm, inm⟩ := S22.ownI 1 rfl
  refine (markInt64S_any _ _ _ ((mk0 : Nat) : Int) _ bsm _ hdm (by omega) (by omega) (by omega) (fun b hb => (inm b hb).2.2)).mono ?_
  rintro e w13 ⟨rfl, hdm2, hchm⟩
  have sz13 := hchm.size
  have S23 : Scene w w13 [(rowsD t0.cs, .slice A10 n10 c10), (rowsD t0.rs, .slice A20 n20 c20), (rowsD t0.ns, .slice A30 n30 c30), (.ints .i64 xs1, .slice A1 n1 c1)] [⟨.ints .i64 (imarks ((mk0 : Nat) : Int) n1), .slice X1 n1 n1, w5.heap.size + 1, w6.heap.size⟩, ⟨.ints .i64 (esL 256 t0 xs1), .slice G nW cG, w6.heap.size, w7.heap.size⟩, ⟨.ints .i64 (esL 256 t0 xs1), .slice W nW cW, w3.heap.size, w4.heap.size⟩] [(w7.heap.size, [.int .i64 (esC 256 t0 xs1), .slice G nW cG]), (w5.heap.size, [.int .i64 t0.kd, .slice X10 n10 n10, .slice X20 n20 n20, .int .i64 t0.sd, .slice X30 n30 n30]), (w4.heap.size, [.int .i64 (esC 256 t0 xs1), .slice W nW cW]), (w.heap.size, [.int .i64 t0.kd, .slice A10 n10 c10, .slice A20 n20 c20, .int .i64 t0.sd, .slice A30 n30 c30])] := Scene.turn (lo := w5.heap.size + 1) (hi := w6.heap.size) (os' := [⟨.ints .i64 (esL 256 t0 xs1), .slice G nW cG, w6.heap.size, w7.heap.size⟩, ⟨.ints .i64 (esL 256 t0 xs1), .slice W nW cW, w3.heap.size, w4.heap.size⟩]) S22 hchm (fun k hk => ⟨(inm k hk).1, (inm k hk).2.1⟩) (by have := S22.bel.size; omega) (S22.own _ (List.mem_of_getElem? (i := 1) rfl)).2.2
    ⟨bsm, hdm2, ndm, fun b hb => ⟨(inm b hb).1, (inm b hb).2.1, (inm b hb).2.2.ch hchm (hdm.lt b hb)⟩⟩ (by simp; try omega) (by simp; try omega)
  clear hdm ndm inm hdm2 hchm S22
  clear x0_0 x0_1 z0 x1_0 x1_1 x1_2 x1_3 x1_4 z1 x2_0 x2_1 z2 x3_0 x3_1 x3_2 x3_3 x3_4 z3
  have x0_0 : w13.cell? ⟨w7.heap.size, 0, none⟩ = some (.int .i64 (esC 256 t0 xs1)) := S23.boxI 0 0 rfl rfl
  have x0_1 : w13.cell? ⟨w7.heap.size, 1, none⟩ = some (.slice G nW cG) := S23.boxI 0 1 rfl rfl
  have z0 : w7.heap.size < w13.heap.size := cell_lt x0_0
  have x1_0 : w13.cell? ⟨w5.heap.size, 0, none⟩ = some (.int .i64 t0.kd) := S23.boxI 1 0 rfl rfl
  have x1_1 : w13.cell? ⟨w5.heap.size, 1, none⟩ = some (.slice X10 n10 n10) := S23.boxI 1 1 rfl rfl
  have x1_2 : w13.cell? ⟨w5.heap.size, 2, none⟩ = some (.slice X20 n20 n20) := S23.boxI 1 2 rfl rfl
  have x1_3 : w13.cell? ⟨w5.heap.size, 3, none⟩ = some (.int .i64 t0.sd) := S23.boxI 1 3 rfl rfl
  have x1_4 : w13.cell? ⟨w5.heap.size, 4, none⟩ = some (.slice X30 n30 n30) := S23.boxI 1 4 rfl rfl
  have z1 : w5.heap.size < w13.heap.size := cell_lt x1_0
  have x2_0 : w13.cell? ⟨w4.heap.size, 0, none⟩ = some (.int .i64 (esC 256 t0 xs1)) := S23.boxI 2 0 rfl rfl
  have x2_1 : w13.cell? ⟨w4.heap.size, 1, none⟩ = some (.slice W nW cW) := S23.boxI 2 1 rfl rfl
  have z2 : w4.heap.size < w13.heap.size := cell_lt x2_0
  have x3_0 : w13.cell? ⟨w.heap.size, 0, none⟩ = some (.int .i64 t0.kd) := S23.boxI 3 0 rfl rfl
  have x3_1 : w13.cell? ⟨w.heap.size, 1, none⟩ = some (.slice A10 n10 c10) := S23.boxI 3 1 rfl rfl
  have x3_2 : w13.cell? ⟨w.heap.size, 2, none⟩ = some (.slice A20 n20 c20) := S23.boxI 3 2 rfl rfl
  have x3_3 : w13.cell? ⟨w.heap.size, 3, none⟩ = some (.int .i64 t0.sd) := S23.boxI 3 3 rfl rfl
  have x3_4 : w13.cell? ⟨w.heap.size, 4, none⟩ = some (.slice A30 n30 c30) := S23.boxI 3 4 rfl rfl
  have z3 : w.heap.size < w13.heap.size := cell_lt x3_0
  have hkneg : ¬ ((((mk0 : Nat) : Int) + (n1 : Int)) : Int) < 0 := by omega
  go_wp2_with fail
  obtain ⟨bsx, hdx⟩ := (S23.ownI 1 rfl).hd
  obtain ⟨bsy, hdy⟩ := (S23.ownI 2 rfl).hd
  refine (eqIntsResult_same _ _ _ _ _ _ _ (esL 256 t0 xs1) _ hdx.rd hdy.rd (by omega)).mono ?_
  rintro e w14 ⟨rfl, hb⟩
  have i14 := Below.size hb
  try simp only [World.size_alloc] at i14
  have S24 : Scene w w14 [(rowsD t0.cs, .slice A10 n10 c10), (rowsD t0.rs, .slice A20 n20 c20), (rowsD t0.ns, .slice A30 n30 c30), (.ints .i64 xs1, .slice A1 n1 c1)] [⟨.ints .i64 (imarks ((mk0 : Nat) : Int) n1), .slice X1 n1 n1, w5.heap.size + 1, w6.heap.size⟩, ⟨.ints .i64 (esL 256 t0 xs1), .slice G nW cG, w6.heap.size, w7.heap.size⟩, ⟨.ints .i64 (esL 256 t0 xs1), .slice W nW cW, w3.heap.size, w4.heap.size⟩] [(w7.heap.size, [.int .i64 (esC 256 t0 xs1), .slice G nW cG]), (w5.heap.size, [.int .i64 t0.kd, .slice X10 n10 n10, .slice X20 n20 n20, .int .i64 t0.sd, .slice X30 n30 n30]), (w4.heap.size, [.int .i64 (esC 256 t0 xs1), .slice W nW cW]), (w.heap.size, [.int .i64 t0.kd, .slice A10 n10 c10, .slice A20 n20 c20, .int .i64 t0.sd, .slice A30 n30 c30])] := Scene.below S23 hb
  clear hb hdx hdy
  clear x0_0 x0_1 z0 x1_0 x1_1 x1_2 x1_3 x1_4 z1 x2_0 x2_1 z2 x3_0 x3_1 x3_2 x3_3 x3_4 z3
  have x0_0 : w14.cell? ⟨w7.heap.size, 0, none⟩ = some (.int .i64 (esC 256 t0 xs1)) := S24.boxI 0 0 rfl rfl
  have x0_1 : w14.cell? ⟨w7.heap.size, 1, none⟩ = some (.slice G nW cG) := S24.boxI 0 1 rfl rfl
  have z0 : w7.heap.size < w14.heap.size := cell_lt x0_0
  have x1_0 : w14.cell? ⟨w5.heap.size, 0, none⟩ = some (.int .i64 t0.kd) := S24.boxI 1 0 rfl rfl
  have x1_1 : w14.cell? ⟨w5.heap.size, 1, none⟩ = some (.slice X10 n10 n10) := S24.boxI 1 1 rfl rfl
  have x1_2 : w14.cell? ⟨w5.heap.size, 2, none⟩ = some (.slice X20 n20 n20) := S24.boxI 1 2 rfl rfl
  have x1_3 : w14.cell? ⟨w5.heap.size, 3, none⟩ = some (.int .i64 t0.sd) := S24.boxI 1 3 rfl rfl
  have x1_4 : w14.cell? ⟨w5.heap.size, 4, none⟩ = some (.slice X30 n30 n30) := S24.boxI 1 4 rfl rfl
  have z1 : w5.heap.size < w14.heap.size := cell_lt x1_0
  have x2_0 : w14.cell? ⟨w4.heap.size, 0, none⟩ = some (.int .i64 (esC 256 t0 xs1)) := S24.boxI 2 0 rfl rfl
  have x2_1 : w14.cell? ⟨w4.heap.size, 1, none⟩ = some (.slice W nW cW) := S24.boxI 2 1 rfl rfl
  have z2 : w4.heap.size < w14.heap.size := cell_lt x2_0
  have x3_0 : w14.cell? ⟨w.heap.size, 0, none⟩ = some (.int .i64 t0.kd) := S24.boxI 3 0 rfl rfl
  have x3_1 : w14.cell? ⟨w.heap.size, 1, none⟩ = some (.slice A10 n10 c10) := S24.boxI 3 1 rfl rfl
  have x3_2 : w14.cell? ⟨w.heap.size, 2, none⟩ = some (.slice A20 n20 c20) := S24.boxI 3 2 rfl rfl
  have x3_3 : w14.cell? ⟨w.heap.size, 3, none⟩ = some (.int .i64 t0.sd) := S24.boxI 3 3 rfl rfl
  have x3_4 : w14.cell? ⟨w.heap.size, 4, none⟩ = some (.slice A30 n30 c30) := S24.boxI 3 4 rfl rfl
  have z3 : w.heap.size < w14.heap.size := cell_lt x3_0
  go_wp2_with fail
  obtain ⟨bsm, hdm, ndm, inm⟩ := S24.ownI 1 rfl
  refine (markIntsResult_any _ _ _ _ 1 _ bsm _ hdm (fun b hb => (inm b hb).2.2) (by omega) (by omega) (by omega)).mono ?_
  rintro e w15 ⟨rfl, hdm2, hchm⟩
  have sz15 := hchm.size
  have S25 : Scene w w15 [(rowsD t0.cs, .slice A10 n10 c10), (rowsD t0.rs, .slice A20 n20 c20), (rowsD t0.ns, .slice A30 n30 c30), (.ints .i64 xs1, .slice A1 n1 c1)] [⟨.ints .i64 (imarks 1 nW), .slice G nW cG, w6.heap.size, w7.heap.size⟩, ⟨.ints .i64 (imarks ((mk0 : Nat) : Int) n1), .slice X1 n1 n1, w5.heap.size + 1, w6.heap.size⟩, ⟨.ints .i64 (esL 256 t0 xs1), .slice W nW cW, w3.heap.size, w4.heap.size⟩] [(w7.heap.size, [.int .i64 (esC 256 t0 xs1), .slice G nW cG]), (w5.heap.size, [.int .i64 t0.kd, .slice X10 n10 n10, .slice X20 n20 n20, .int .i64 t0.sd, .slice X30 n30 n30]), (w4.heap.size, [.int .i64 (esC 256 t0 xs1), .slice W nW cW]), (w.heap.size, [.int .i64 t0.kd, .slice A10 n10 c10, .slice A20 n20 c20, .int .i64 t0.sd, .slice A30 n30 c30])] := Scene.turn (lo := w6.heap.size) (hi := w7.heap.size) (os' := [⟨.ints .i64 (imarks ((mk0 : Nat) : Int) n1), .slice X1 n1 n1, w5.heap.size + 1, w6.heap.size⟩, ⟨.ints .i64 (esL 256 t0 xs1), .slice W nW cW, w3.heap.size, w4.heap.size⟩]) S24 hchm (fun k hk => ⟨(inm k hk).1, (inm k hk).2.1⟩) (by have := S24.bel.size; omega) (S24.own _ (List.mem_of_getElem? (i := 1) rfl)).2.2
    ⟨bsm, hdm2, ndm, fun b hb => ⟨(inm b hb).1, (inm b hb).2.1, (inm b hb).2.2.ch hchm (hdm.lt b hb)⟩⟩ (by simp; try omega) (by simp; try omega)
  clear hdm ndm inm hdm2 hchm S24
  clear x0_0 x0_1 z0 x1_0 x1_1 x1_2 x1_3 x1_4 z1 x2_0 x2_1 z2 x3_0 x3_1 x3_2 x3_3 x3_4 z3
  have x0_0 : w15.cell? ⟨w7.heap.size, 0, none⟩ = some (.int .i64 (esC 256 t0 xs1)) := S25.boxI 0 0 rfl rfl
  have x0_1 : w15.cell? ⟨w7.heap.size, 1, none⟩ = some (.slice G nW cG) := S25.boxI 0 1 rfl rfl
  have z0 : w7.heap.size < w15.heap.size := cell_lt x0_0
  have x1_0 : w15.cell? ⟨w5.heap.size, 0, none⟩ = some (.int .i64 t0.kd) := S25.boxI 1 0 rfl rfl
  have x1_1 : w15.cell? ⟨w5.heap.size, 1, none⟩ = some (.slice X10 n10 n10) := S25.boxI 1 1 rfl rfl
  have x1_2 : w15.cell? ⟨w5.heap.size, 2, none⟩ = some (.slice X20 n20 n20) := S25.boxI 1 2 rfl rfl
  have x1_3 : w15.cell? ⟨w5.heap.size, 3, none⟩ = some (.int .i64 t0.sd) := S25.boxI 1 3 rfl rfl
  have x1_4 : w15.cell? ⟨w5.heap.size, 4, none⟩ = some (.slice X30 n30 n30) := S25.boxI 1 4 rfl rfl
  have z1 : w5.heap.size < w15.heap.size := cell_lt x1_0
  have x2_0 : w15.cell? ⟨w4.heap.size, 0, none⟩ = some (.int .i64 (esC 256 t0 xs1)) := S25.boxI 2 0 rfl rfl
  have x2_1 : w15.cell? ⟨w4.heap.size, 1, none⟩ = some (.slice W nW cW) := S25.boxI 2 1 rfl rfl
  have z2 : w4.heap.size < w15.heap.size := cell_lt x2_0
  have x3_0 : w15.cell? ⟨w.heap.size, 0, none⟩ = some (.int .i64 t0.kd) := S25.boxI 3 0 rfl rfl
  have x3_1 : w15.cell? ⟨w.heap.size, 1, none⟩ = some (.slice A10 n10 c10) := S25.boxI 3 1 rfl rfl
  have x3_2 : w15.cell? ⟨w.heap.size, 2, none⟩ = some (.slice A20 n20 c20) := S25.boxI 3 2 rfl rfl
  have x3_3 : w15.cell? ⟨w.heap.size, 3, none⟩ = some (.int .i64 t0.sd) := S25.boxI 3 3 rfl rfl
  have x3_4 : w15.cell? ⟨w.heap.size, 4, none⟩ = some (.slice A30 n30 c30) := S25.boxI 3 4 rfl rfl
  have z3 : w.heap.size < w15.heap.size := cell_lt x3_0
  go_wp2_with fail
  obtain ⟨bsh, hdh⟩ := (S25.ownI 0 rfl).hd
  refine (heldIntsResult_any _ _ _ _ 1 _ hdh.rd (by omega) (by omega) (by omega)).mono ?_
  rintro e w16 ⟨rfl, hb⟩
  have i16 := Below.size hb
  try simp only [World.size_alloc] at i16
  have S26 : Scene w w16 [(rowsD t0.cs, .slice A10 n10 c10), (rowsD t0.rs, .slice A20 n20 c20), (rowsD t0.ns, .slice A30 n30 c30), (.ints .i64 xs1, .slice A1 n1 c1)] [⟨.ints .i64 (imarks 1 nW), .slice G nW cG, w6.heap.size, w7.heap.size⟩, ⟨.ints .i64 (imarks ((mk0 : Nat) : Int) n1), .slice X1 n1 n1, w5.heap.size + 1, w6.heap.size⟩, ⟨.ints .i64 (esL 256 t0 xs1), .slice W nW cW, w3.heap.size, w4.heap.size⟩] [(w7.heap.size, [.int .i64 (esC 256 t0 xs1), .slice G nW cG]), (w5.heap.size, [.int .i64 t0.kd, .slice X10 n10 n10, .slice X20 n20 n20, .int .i64 t0.sd, .slice X30 n30 n30]), (w4.heap.size, [.int .i64 (esC 256 t0 xs1), .slice W nW cW]), (w.heap.size, [.int .i64 t0.kd, .slice A10 n10 c10, .slice A20 n20 c20, .int .i64 t0.sd, .slice A30 n30 c30])] := Scene.below S25 hb
  clear hb hdh
  have hneg : ¬ (1 + (nW : Int)) < 0 := by omega
  clear x0_0 x0_1 z0 x1_0 x1_1 x1_2 x1_3 x1_4 z1 x2_0 x2_1 z2 x3_0 x3_1 x3_2 x3_3 x3_4 z3
  have x0_0 : w16.cell? ⟨w7.heap.size, 0, none⟩ = some (.int .i64 (esC 256 t0 xs1)) := S26.boxI 0 0 rfl rfl
  have x0_1 : w16.cell? ⟨w7.heap.size, 1, none⟩ = some (.slice G nW cG) := S26.boxI 0 1 rfl rfl
  have z0 : w7.heap.size < w16.heap.size := cell_lt x0_0
  have x1_0 : w16.cell? ⟨w5.heap.size, 0, none⟩ = some (.int .i64 t0.kd) := S26.boxI 1 0 rfl rfl
  have x1_1 : w16.cell? ⟨w5.heap.size, 1, none⟩ = some (.slice X10 n10 n10) := S26.boxI 1 1 rfl rfl
  have x1_2 : w16.cell? ⟨w5.heap.size, 2, none⟩ = some (.slice X20 n20 n20) := S26.boxI 1 2 rfl rfl
  have x1_3 : w16.cell? ⟨w5.heap.size, 3, none⟩ = some (.int .i64 t0.sd) := S26.boxI 1 3 rfl rfl
  have x1_4 : w16.cell? ⟨w5.heap.size, 4, none⟩ = some (.slice X30 n30 n30) := S26.boxI 1 4 rfl rfl
  have z1 : w5.heap.size < w16.heap.size := cell_lt x1_0
  have x2_0 : w16.cell? ⟨w4.heap.size, 0, none⟩ = some (.int .i64 (esC 256 t0 xs1)) := S26.boxI 2 0 rfl rfl
  have x2_1 : w16.cell? ⟨w4.heap.size, 1, none⟩ = some (.slice W nW cW) := S26.boxI 2 1 rfl rfl
  have z2 : w4.heap.size < w16.heap.size := cell_lt x2_0
  have x3_0 : w16.cell? ⟨w.heap.size, 0, none⟩ = some (.int .i64 t0.kd) := S26.boxI 3 0 rfl rfl
  have x3_1 : w16.cell? ⟨w.heap.size, 1, none⟩ = some (.slice A10 n10 c10) := S26.boxI 3 1 rfl rfl
  have x3_2 : w16.cell? ⟨w.heap.size, 2, none⟩ = some (.slice A20 n20 c20) := S26.boxI 3 2 rfl rfl
  have x3_3 : w16.cell? ⟨w.heap.size, 3, none⟩ = some (.int .i64 t0.sd) := S26.boxI 3 3 rfl rfl
  have x3_4 : w16.cell? ⟨w.heap.size, 4, none⟩ = some (.slice A30 n30 c30) := S26.boxI 3 4 rfl rfl
  have z3 : w.heap.size < w16.heap.size := cell_lt x3_0
  go_wp2_with fail
  have hda00 := S26.argI 0 rfl
  have hda01 := S26.argI 1 rfl
  have hda02 := S26.argI 2 rfl
  have hda0 : HdSt _ t0 _ _ _ _ _ _ _ _ _ := ⟨hda00, hda01, hda02⟩
  clear hda00 hda01 hda02
  refine (toStage_any t0 _ _ _ _ _ _ _ _ _ _ hda0 hn0.out).mono ?_
  rintro e w17 ⟨B117, B217, B317, p17, q17, rfl, ho, hb⟩
  have i17 := Below.size hb
  try simp only [World.size_alloc] at i17
  have S27 : Scene w w17 [(rowsD t0.cs, .slice A10 n10 c10), (rowsD t0.rs, .slice A20 n20 c20), (rowsD t0.ns, .slice A30 n30 c30), (.ints .i64 xs1, .slice A1 n1 c1)] [⟨.ints .i64 (imarks 1 nW), .slice G nW cG, w6.heap.size, w7.heap.size⟩, ⟨.ints .i64 (imarks ((mk0 : Nat) : Int) n1), .slice X1 n1 n1, w5.heap.size + 1, w6.heap.size⟩, ⟨.ints .i64 (esL 256 t0 xs1), .slice W nW cW, w3.heap.size, w4.heap.size⟩] [(w7.heap.size, [.int .i64 (esC 256 t0 xs1), .slice G nW cG]), (w5.heap.size, [.int .i64 t0.kd, .slice X10 n10 n10, .slice X20 n20 n20, .int .i64 t0.sd, .slice X30 n30 n30]), (w4.heap.size, [.int .i64 (esC 256 t0 xs1), .slice W nW cW]), (w.heap.size, [.int .i64 t0.kd, .slice A10 n10 c10, .slice A20 n20 c20, .int .i64 t0.sd, .slice A30 n30 c30])] := Scene.below S26 hb
  have D0 := Lib.hid ho.hd
  clear ho hb hda0
  clear x0_0 x0_1 z0 x1_0 x1_1 x1_2 x1_3 x1_4 z1 x2_0 x2_1 z2 x3_0 x3_1 x3_2 x3_3 x3_4 z3
  have x0_0 : w17.cell? ⟨w7.heap.size, 0, none⟩ = some (.int .i64 (esC 256 t0 xs1)) := S27.boxI 0 0 rfl rfl
  have x0_1 : w17.cell? ⟨w7.heap.size, 1, none⟩ = some (.slice G nW cG) := S27.boxI 0 1 rfl rfl
  have z0 : w7.heap.size < w17.heap.size := cell_lt x0_0
  have x1_0 : w17.cell? ⟨w5.heap.size, 0, none⟩ = some (.int .i64 t0.kd) := S27.boxI 1 0 rfl rfl
  have x1_1 : w17.cell? ⟨w5.heap.size, 1, none⟩ = some (.slice X10 n10 n10) := S27.boxI 1 1 rfl rfl
  have x1_2 : w17.cell? ⟨w5.heap.size, 2, none⟩ = some (.slice X20 n20 n20) := S27.boxI 1 2 rfl rfl
  have x1_3 : w17.cell? ⟨w5.heap.size, 3, none⟩ = some (.int .i64 t0.sd) := S27.boxI 1 3 rfl rfl
  have x1_4 : w17.cell? ⟨w5.heap.size, 4, none⟩ = some (.slice X30 n30 n30) := S27.boxI 1 4 rfl rfl
  have z1 : w5.heap.size < w17.heap.size := cell_lt x1_0
  have x2_0 : w17.cell? ⟨w4.heap.size, 0, none⟩ = some (.int .i64 (esC 256 t0 xs1)) := S27.boxI 2 0 rfl rfl
  have x2_1 : w17.cell? ⟨w4.heap.size, 1, none⟩ = some (.slice W nW cW) := S27.boxI 2 1 rfl rfl
  have z2 : w4.heap.size < w17.heap.size := cell_lt x2_0
  have x3_0 : w17.cell? ⟨w.heap.size, 0, none⟩ = some (.int .i64 t0.kd) := S27.boxI 3 0 rfl rfl
  have x3_1 : w17.cell? ⟨w.heap.size, 1, none⟩ = some (.slice A10 n10 c10) := S27.boxI 3 1 rfl rfl
  have x3_2 : w17.cell? ⟨w.heap.size, 2, none⟩ = some (.slice A20 n20 c20) := S27.boxI 3 2 rfl rfl
  have x3_3 : w17.cell? ⟨w.heap.size, 3, none⟩ = some (.int .i64 t0.sd) := S27.boxI 3 3 rfl rfl
  have x3_4 : w17.cell? ⟨w.heap.size, 4, none⟩ = some (.slice A30 n30 c30) := S27.boxI 3 4 rfl rfl
  have z3 : w.heap.size < w17.heap.size := cell_lt x3_0
  go_wp2_with fail
  obtain ⟨bsa1, hda1⟩ := S27.argI 3 rfl
  refine (toInt64S_any A1 n1 c1 xs1 _ hda1.rd (by omega)).mono ?_
  rintro e w18 ⟨B18, rfl, ho, hb⟩
  have i18 := Below.size hb
  try simp only [World.size_alloc] at i18
  have S28 : Scene w w18 [(rowsD t0.cs, .slice A10 n10 c10), (rowsD t0.rs, .slice A20 n20 c20), (rowsD t0.ns, .slice A30 n30 c30), (.ints .i64 xs1, .slice A1 n1 c1)] [⟨.ints .i64 (imarks 1 nW), .slice G nW cG, w6.heap.size, w7.heap.size⟩, ⟨.ints .i64 (imarks ((mk0 : Nat) : Int) n1), .slice X1 n1 n1, w5.heap.size + 1, w6.heap.size⟩, ⟨.ints .i64 (esL 256 t0 xs1), .slice W nW cW, w3.heap.size, w4.heap.size⟩] [(w7.heap.size, [.int .i64 (esC 256 t0 xs1), .slice G nW cG]), (w5.heap.size, [.int .i64 t0.kd, .slice X10 n10 n10, .slice X20 n20 n20, .int .i64 t0.sd, .slice X30 n30 n30]), (w4.heap.size, [.int .i64 (esC 256 t0 xs1), .slice W nW cW]), (w.heap.size, [.int .i64 t0.kd, .slice A10 n10 c10, .slice A20 n20 c20, .int .i64 t0.sd, .slice A30 n30 c30])] := Scene.below S27 hb
  have D0 := Lib.hid (D0.out.bel hb)
  obtain ⟨ds1, dd1⟩ := ho.hd
  have D1 := Lib.hid dd1
  clear ho hb dd1 hda1
  clear x0_0 x0_1 z0 x1_0 x1_1 x1_2 x1_3 x1_4 z1 x2_0 x2_1 z2 x3_0 x3_1 x3_2 x3_3 x3_4 z3
  have x0_0 : w18.cell? ⟨w7.heap.size, 0, none⟩ = some (.int .i64 (esC 256 t0 xs1)) := S28.boxI 0 0 rfl rfl
  have x0_1 : w18.cell? ⟨w7.heap.size, 1, none⟩ = some (.slice G nW cG) := S28.boxI 0 1 rfl rfl
  have z0 : w7.heap.size < w18.heap.size := cell_lt x0_0
  have x1_0 : w18.cell? ⟨w5.heap.size, 0, none⟩ = some (.int .i64 t0.kd) := S28.boxI 1 0 rfl rfl
  have x1_1 : w18.cell? ⟨w5.heap.size, 1, none⟩ = some (.slice X10 n10 n10) := S28.boxI 1 1 rfl rfl
  have x1_2 : w18.cell? ⟨w5.heap.size, 2, none⟩ = some (.slice X20 n20 n20) := S28.boxI 1 2 rfl rfl
  have x1_3 : w18.cell? ⟨w5.heap.size, 3, none⟩ = some (.int .i64 t0.sd) := S28.boxI 1 3 rfl rfl
  have x1_4 : w18.cell? ⟨w5.heap.size, 4, none⟩ = some (.slice X30 n30 n30) := S28.boxI 1 4 rfl rfl
  have z1 : w5.heap.size < w18.heap.size := cell_lt x1_0
  have x2_0 : w18.cell? ⟨w4.heap.size, 0, none⟩ = some (.int .i64 (esC 256 t0 xs1)) := S28.boxI 2 0 rfl rfl
  have x2_1 : w18.cell? ⟨w4.heap.size, 1, none⟩ = some (.slice W nW cW) := S28.boxI 2 1 rfl rfl
  have z2 : w4.heap.size < w18.heap.size := cell_lt x2_0
  have x3_0 : w18.cell? ⟨w.heap.size, 0, none⟩ = some (.int .i64 t0.kd) := S28.boxI 3 0 rfl rfl
  have x3_1 : w18.cell? ⟨w.heap.size, 1, none⟩ = some (.slice A10 n10 c10) := S28.boxI 3 1 rfl rfl
  have x3_2 : w18.cell? ⟨w.heap.size, 2, none⟩ = some (.slice A20 n20 c20) := S28.boxI 3 2 rfl rfl
  have x3_3 : w18.cell? ⟨w.heap.size, 3, none⟩ = some (.int .i64 t0.sd) := S28.boxI 3 3 rfl rfl
  have x3_4 : w18.cell? ⟨w.heap.size, 4, none⟩ = some (.slice A30 n30 c30) := S28.boxI 3 4 rfl rfl
  have z3 : w.heap.size < w18.heap.size := cell_lt x3_0
  go_wp2_with fail
  refine (FineStage_any t0 _ _ _ _ _ _ _ _ _ B18 n1 n1 xs1 _ _ D0.out D1.out).mono ?_
  rintro e w19 ⟨H, nH, cH, rfl, ho, hb⟩
  have i19 := Below.size hb
  try simp only [World.size_alloc] at i19
  have S29 : Scene w w19 [(rowsD t0.cs, .slice A10 n10 c10), (rowsD t0.rs, .slice A20 n20 c20), (rowsD t0.ns, .slice A30 n30 c30), (.ints .i64 xs1, .slice A1 n1 c1)] [⟨.ints .i64 (imarks 1 nW), .slice G nW cG, w6.heap.size, w7.heap.size⟩, ⟨.ints .i64 (imarks ((mk0 : Nat) : Int) n1), .slice X1 n1 n1, w5.heap.size + 1, w6.heap.size⟩, ⟨.ints .i64 (esL 256 t0 xs1), .slice W nW cW, w3.heap.size, w4.heap.size⟩] [(w7.heap.size, [.int .i64 (esC 256 t0 xs1), .slice G nW cG]), (w5.heap.size, [.int .i64 t0.kd, .slice X10 n10 n10, .slice X20 n20 n20, .int .i64 t0.sd, .slice X30 n30 n30]), (w4.heap.size, [.int .i64 (esC 256 t0 xs1), .slice W nW cW]), (w.heap.size, [.int .i64 t0.kd, .slice A10 n10 c10, .slice A20 n20 c20, .int .i64 t0.sd, .slice A30 n30 c30])] := Scene.below S28 hb
  clear D0 D1
  obtain ⟨bsn, hdn⟩ := ho.hd
  have hlH := hdn.rd.1
  obtain ⟨bsw, hdw⟩ := (S29.ownI 2 rfl).hd
  have hlW := hdw.rd.1
  obtain rfl : nW = nH := by omega
  have S30 : Scene w w19 [(rowsD t0.cs, .slice A10 n10 c10), (rowsD t0.rs, .slice A20 n20 c20), (rowsD t0.ns, .slice A30 n30 c30), (.ints .i64 xs1, .slice A1 n1 c1)] [⟨.ints .i64 (esL 256 t0 xs1), .slice H nW cH, w18.heap.size, w19.heap.size⟩, ⟨.ints .i64 (imarks 1 nW), .slice G nW cG, w6.heap.size, w7.heap.size⟩, ⟨.ints .i64 (imarks ((mk0 : Nat) : Int) n1), .slice X1 n1 n1, w5.heap.size + 1, w6.heap.size⟩, ⟨.ints .i64 (esL 256 t0 xs1), .slice W nW cW, w3.heap.size, w4.heap.size⟩] [(w7.heap.size, [.int .i64 (esC 256 t0 xs1), .slice G nW cG]), (w5.heap.size, [.int .i64 t0.kd, .slice X10 n10 n10, .slice X20 n20 n20, .int .i64 t0.sd, .slice X30 n30 n30]), (w4.heap.size, [.int .i64 (esC 256 t0 xs1), .slice W nW cW]), (w.heap.size, [.int .i64 t0.kd, .slice A10 n10 c10, .slice A20 n20 c20, .int .i64 t0.sd, .slice A30 n30 c30])] := Scene.addOwn S29 ho (by have := S29.bel.size; omega) (Nat.le_refl _)
  clear ho hb hdn hdw hlW hlH S29
  clear x0_0 x0_1 z0 x1_0 x1_1 x1_2 x1_3 x1_4 z1 x2_0 x2_1 z2 x3_0 x3_1 x3_2 x3_3 x3_4 z3
  have x0_0 : w19.cell? ⟨w7.heap.size, 0, none⟩ = some (.int .i64 (esC 256 t0 xs1)) := S30.boxI 0 0 rfl rfl
  have x0_1 : w19.cell? ⟨w7.heap.size, 1, none⟩ = some (.slice G nW cG) := S30.boxI 0 1 rfl rfl
  have z0 : w7.heap.size < w19.heap.size := cell_lt x0_0
  have x1_0 : w19.cell? ⟨w5.heap.size, 0, none⟩ = some (.int .i64 t0.kd) := S30.boxI 1 0 rfl rfl
  have x1_1 : w19.cell? ⟨w5.heap.size, 1, none⟩ = some (.slice X10 n10 n10) := S30.boxI 1 1 rfl rfl
  have x1_2 : w19.cell? ⟨w5.heap.size, 2, none⟩ = some (.slice X20 n20 n20) := S30.boxI 1 2 rfl rfl
  have x1_3 : w19.cell? ⟨w5.heap.size, 3, none⟩ = some (.int .i64 t0.sd) := S30.boxI 1 3 rfl rfl
  have x1_4 : w19.cell? ⟨w5.heap.size, 4, none⟩ = some (.slice X30 n30 n30) := S30.boxI 1 4 rfl rfl
  have z1 : w5.heap.size < w19.heap.size := cell_lt x1_0
  have x2_0 : w19.cell? ⟨w4.heap.size, 0, none⟩ = some (.int .i64 (esC 256 t0 xs1)) := S30.boxI 2 0 rfl rfl
  have x2_1 : w19.cell? ⟨w4.heap.size, 1, none⟩ = some (.slice W nW cW) := S30.boxI 2 1 rfl rfl
  have z2 : w4.heap.size < w19.heap.size := cell_lt x2_0
  have x3_0 : w19.cell? ⟨w.heap.size, 0, none⟩ = some (.int .i64 t0.kd) := S30.boxI 3 0 rfl rfl
  have x3_1 : w19.cell? ⟨w.heap.size, 1, none⟩ = some (.slice A10 n10 c10) := S30.boxI 3 1 rfl rfl
  have x3_2 : w19.cell? ⟨w.heap.size, 2, none⟩ = some (.slice A20 n20 c20) := S30.boxI 3 2 rfl rfl
  have x3_3 : w19.cell? ⟨w.heap.size, 3, none⟩ = some (.int .i64 t0.sd) := S30.boxI 3 3 rfl rfl
  have x3_4 : w19.cell? ⟨w.heap.size, 4, none⟩ = some (.slice A30 n30 c30) := S30.boxI 3 4 rfl rfl
  have z3 : w.heap.size < w19.heap.size := cell_lt x3_0
  have S31 : Scene w (w19.alloc (.cells #[.int .i64 (esC 256 t0 xs1), .slice H nW cH] 33)) [(rowsD t0.cs, .slice A10 n10 c10), (rowsD t0.rs, .slice A20 n20 c20), (rowsD t0.ns, .slice A30 n30 c30), (.ints .i64 xs1, .slice A1 n1 c1)] [⟨.ints .i64 (esL 256 t0 xs1), .slice H nW cH, w18.heap.size, w19.heap.size⟩, ⟨.ints .i64 (imarks 1 nW), .slice G nW cG, w6.heap.size, w7.heap.size⟩, ⟨.ints .i64 (imarks ((mk0 : Nat) : Int) n1), .slice X1 n1 n1, w5.heap.size + 1, w6.heap.size⟩, ⟨.ints .i64 (esL 256 t0 xs1), .slice W nW cW, w3.heap.size, w4.heap.size⟩] [(w19.heap.size, [.int .i64 (esC 256 t0 xs1), .slice H nW cH]), (w7.heap.size, [.int .i64 (esC 256 t0 xs1), .slice G nW cG]), (w5.heap.size, [.int .i64 t0.kd, .slice X10 n10 n10, .slice X20 n20 n20, .int .i64 t0.sd, .slice X30 n30 n30]), (w4.heap.size, [.int .i64 (esC 256 t0 xs1), .slice W nW cW]), (w.heap.size, [.int .i64 t0.kd, .slice A10 n10 c10, .slice A20 n20 c20, .int .i64 t0.sd, .slice A30 n30 c30])] := Scene.addBox S30 [.int .i64 (esC 256 t0 xs1), .slice H nW cH] 33
  clear S30
  go_wp2_with fail
  obtain ⟨bsx, hdx⟩ := (S31.ownI 0 rfl).hd
  obtain ⟨bsy, hdy⟩ := (S31.ownI 3 rfl).hd
  refine (eqIntsResult_same _ _ _ _ _ _ _ (esL 256 t0 xs1) _ hdx.rd hdy.rd (by omega)).mono ?_
  rintro e w20 ⟨rfl, hb⟩
  have i20 := Below.size hb
  try simp only [World.size_alloc] at i20
  have S32 : Scene w w20 [(rowsD t0.cs, .slice A10 n10 c10), (rowsD t0.rs, .slice A20 n20 c20), (rowsD t0.ns, .slice A30 n30 c30), (.ints .i64 xs1, .slice A1 n1 c1)] [⟨.ints .i64 (esL 256 t0 xs1), .slice H nW cH, w18.heap.size, w19.heap.size⟩, ⟨.ints .i64 (imarks 1 nW), .slice G nW cG, w6.heap.size, w7.heap.size⟩, ⟨.ints .i64 (imarks ((mk0 : Nat) : Int) n1), .slice X1 n1 n1, w5.heap.size + 1, w6.heap.size⟩, ⟨.ints .i64 (esL 256 t0 xs1), .slice W nW cW, w3.heap.size, w4.heap.size⟩] [(w19.heap.size, [.int .i64 (esC 256 t0 xs1), .slice H nW cH]), (w7.heap.size, [.int .i64 (esC 256 t0 xs1), .slice G nW cG]), (w5.heap.size, [.int .i64 t0.kd, .slice X10 n10 n10, .slice X20 n20 n20, .int .i64 t0.sd, .slice X30 n30 n30]), (w4.heap.size, [.int .i64 (esC 256 t0 xs1), .slice W nW cW]), (w.heap.size, [.int .i64 t0.kd, .slice A10 n10 c10, .slice A20 n20 c20, .int .i64 t0.sd, .slice A30 n30 c30])] := Scene.below S31 hb
  clear hb hdx hdy
  clear x0_0 x0_1 z0 x1_0 x1_1 x1_2 x1_3 x1_4 z1 x2_0 x2_1 z2 x3_0 x3_1 x3_2 x3_3 x3_4 z3
  have x0_0 : w20.cell? ⟨w19.heap.size, 0, none⟩ = some (.int .i64 (esC 256 t0 xs1)) := S32.boxI 0 0 rfl rfl
  have x0_1 : w20.cell? ⟨w19.heap.size, 1, none⟩ = some (.slice H nW cH) := S32.boxI 0 1 rfl rfl
  have z0 : w19.heap.size < w20.heap.size := cell_lt x0_0
  have x1_0 : w20.cell? ⟨w7.heap.size, 0, none⟩ = some (.int .i64 (esC 256 t0 xs1)) := S32.boxI 1 0 rfl rfl
  have x1_1 : w20.cell? ⟨w7.heap.size, 1, none⟩ = some (.slice G nW cG) := S32.boxI 1 1 rfl rfl
  have z1 : w7.heap.size < w20.heap.size := cell_lt x1_0
  have x2_0 : w20.cell? ⟨w5.heap.size, 0, none⟩ = some (.int .i64 t0.kd) := S32.boxI 2 0 rfl rfl
  have x2_1 : w20.cell? ⟨w5.heap.size, 1, none⟩ = some (.slice X10 n10 n10) := S32.boxI 2 1 rfl rfl
  have x2_2 : w20.cell? ⟨w5.heap.size, 2, none⟩ = some (.slice X20 n20 n20) := S32.boxI 2 2 rfl rfl
  have x2_3 : w20.cell? ⟨w5.heap.size, 3, none⟩ = some (.int .i64 t0.sd) := S32.boxI 2 3 rfl rfl
  have x2_4 : w20.cell? ⟨w5.heap.size, 4, none⟩ = some (.slice X30 n30 n30) := S32.boxI 2 4 rfl rfl
  have z2 : w5.heap.size < w20.heap.size := cell_lt x2_0
  have x3_0 : w20.cell? ⟨w4.heap.size, 0, none⟩ = some (.int .i64 (esC 256 t0 xs1)) := S32.boxI 3 0 rfl rfl
  have x3_1 : w20.cell? ⟨w4.heap.size, 1, none⟩ = some (.slice W nW cW) := S32.boxI 3 1 rfl rfl
  have z3 : w4.heap.size < w20.heap.size := cell_lt x3_0
  have x4_0 : w20.cell? ⟨w.heap.size, 0, none⟩ = some (.int .i64 t0.kd) := S32.boxI 4 0 rfl rfl
  have x4_1 : w20.cell? ⟨w.heap.size, 1, none⟩ = some (.slice A10 n10 c10) := S32.boxI 4 1 rfl rfl
  have x4_2 : w20.cell? ⟨w.heap.size, 2, none⟩ = some (.slice A20 n20 c20) := S32.boxI 4 2 rfl rfl
  have x4_3 : w20.cell? ⟨w.heap.size, 3, none⟩ = some (.int .i64 t0.sd) := S32.boxI 4 3 rfl rfl
  have x4_4 : w20.cell? ⟨w.heap.size, 4, none⟩ = some (.slice A30 n30 c30) := S32.boxI 4 4 rfl rfl
  have z4 : w.heap.size < w20.heap.size := cell_lt x4_0
  go_wp2_with fail
  obtain ⟨bsh, hdh⟩ := (S32.ownI 1 rfl).hd
  refine (heldIntsResult_any _ _ _ _ 1 _ hdh.rd (by omega) (by omega) (by omega)).mono ?_
  rintro e w21 ⟨rfl, hb⟩
  have i21 := Below.size hb
  try simp only [World.size_alloc] at i21
  have S33 : Scene w w21 [(rowsD t0.cs, .slice A10 n10 c10), (rowsD t0.rs, .slice A20 n20 c20), (rowsD t0.ns, .slice A30 n30 c30), (.ints .i64 xs1, .slice A1 n1 c1)] [⟨.ints .i64 (esL 256 t0 xs1), .slice H nW cH, w18.heap.size, w19.heap.size⟩, ⟨.ints .i64 (imarks 1 nW), .slice G nW cG, w6.heap.size, w7.heap.size⟩, ⟨.ints .i64 (imarks ((mk0 : Nat) : Int) n1), .slice X1 n1 n1, w5.heap.size + 1, w6.heap.size⟩, ⟨.ints .i64 (esL 256 t0 xs1), .slice W nW cW, w3.heap.size, w4.heap.size⟩] [(w19.heap.size, [.int .i64 (esC 256 t0 xs1), .slice H nW cH]), (w7.heap.size, [.int .i64 (esC 256 t0 xs1), .slice G nW cG]), (w5.heap.size, [.int .i64 t0.kd, .slice X10 n10 n10, .slice X20 n20 n20, .int .i64 t0.sd, .slice X30 n30 n30]), (w4.heap.size, [.int .i64 (esC 256 t0 xs1), .slice W nW cW]), (w.heap.size, [.int .i64 t0.kd, .slice A10 n10 c10, .slice A20 n20 c20, .int .i64 t0.sd, .slice A30 n30 c30])] := Scene.below S32 hb
  clear hb hdh
  have HB := Lib.hid S33.bel
  clear S33
  clear x0_0 x0_1 z0 x1_0 x1_1 z1 x2_0 x2_1 x2_2 x2_3 x2_4 z2 x3_0 x3_1 z3 x4_0 x4_1 x4_2 x4_3 x4_4 z4
  go_wp2_with fail
  go_ret
  exact ⟨rfl, HB.out⟩

set_option maxRecDepth 100000 in
theorem lifted (os : Os) (started : os.Started) (H : Type) (enc : TypeId × Value → H) :
    ReturnsInHanded {} Try.checked os 3 .any (Rows.fnExactFineStageSpec.pre6 enc Try.prog Try.f3 Rows.fnExactFineStageRow.domain false) (Rows.fnExactFineStageSpec.post enc Try.prog Try.f3 false true false false) := by
  refine returnsInHanded_of_change (C := Try.checked) own started (by kernel_rfl) Try.func3
    (ChangeSpec.witness6 (enc := enc) (C := Try.checked) false ⟨#[], #[.agg #[.int .i64 0, .slice none 0 0, .slice none 0 0, .int .i64 0, .slice none 0 0], .slice none 0 0], []⟩ 8 (by kernel_rfl) (by kernel_rfl) (by kernel_rfl) (by kernel_rfl)) ?_
  intro W base args ds gs before hval0 hW hcnd _
  have hval : ∀ (j : Nat) t v, Try.f3.params[j]? = some t → args[j]? = some v → Value.okWide Try.prog W .any base t v := hval0
  have hW' := hW
  obtain ⟨p, q, hA0, hV0, rfl, hfz, hnd⟩ := hW
  have hA : DataW.TrodAll enc Try.prog W 0 (fun _ => true) true Try.f3.params.toList args.toList ds p := hA0
  have hV : DataW.TrodVars enc Try.prog W (fun _ => true) [] gs q := hV0
  rw [Try.params3] at hA hval
  obtain ⟨v0, vs0, d0, ds0, p0, q0, hargs, rfl, rfl, h0, r0⟩ := trodAll_cons hA
  obtain ⟨v1, vs1, d1, ds1, p1, q1, rfl, rfl, rfl, h1, r1⟩ := trodAll_cons r0
  obtain ⟨rfl, rfl, rfl⟩ := trodAll_nil r1
  obtain rfl : args = #[v0, v1] := by cases args; simp_all
  obtain ⟨rfl, rfl⟩ : gs = [] ∧ q = [] := by
    cases gs with
    | nil => exact ⟨rfl, hV⟩
    | cons g r => exact absurd hV (by intro h; cases h)
  have k0 := h0
  have lt0 : ∀ x ∈ p0, x.block < W.heap.size := by obtain ⟨m, hm⟩ := k0; exact DataW.trod_lt m _ _ _ hm
  obtain ⟨t0, A10, n10, c10, A20, n20, c20, A30, n30, c30, rfl, hd0, u0⟩ := open_stage (hval 0 29 v0 rfl rfl) h0
  have k1 := h1
  have lt1 : ∀ x ∈ p1, x.block < W.heap.size := by obtain ⟨m, hm⟩ := k1; exact DataW.trod_lt m _ _ _ hm
  obtain ⟨a1, n1, c1, xs1, bs1, rfl, hd1, u1⟩ := open_i64s (hval 1 30 v1 rfl rfl) h1
  clear hA0 hval0
  refine (walk t0 A10 n10 c10 A20 n20 c20 A30 n30 c30 a1 n1 c1 xs1 bs1 W hd0 u0 hd1 u1).mono fun e W' ⟨he, bel⟩ => ?_
  subst he
  exact ⟨_, rfl, _, _, _, [], _, [], hW', trodAll_mk1 (shut_bool Try.underlying4 _), (trodAll_cons_mk (Below.trod laidOut (by kernel_rfl) (of_decide_eq_true (by kernel_rfl)) k0 bel lt0) (trodAll_cons_mk (Below.trod laidOut (by kernel_rfl) (of_decide_eq_true (by kernel_rfl)) k1 bel lt1) trodAll_mk0)), rfl, bel.frame _, fun h => by cases h⟩

theorem row_holds : Rows.FnExactFineStageSaid :=
  OpenClaim.holds_of_wide 3 Try.f3 rfl rfl rfl rfl rfl rfl rfl ⟨rfl, rfl, rfl, rfl, rfl⟩ rfl rfl rfl rfl rfl (by kernel_rfl) Try.func3 (by kernel_rfl)
    (of_decide_eq_true (by kernel_rfl)) (by unfold Func.isWrapper; rw [if_neg (of_decide_eq_false (by kernel_rfl))]; exact ⟨rfl, rfl⟩)
    (fun os started H enc _ => lifted os started H enc)

theorem proved : Rows.FnExactFineStageSaid := row_holds
#print axioms proved

end Go.Proofs.Ytmmlcdbbjkligaa.lExactFineStage
