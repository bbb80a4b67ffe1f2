/-
  Proved: at every stage the Go function IsNothing answers as its reference model does, and changes nothing of it (the law FnExactIsNothing returns true), and the argument reads afterwards as it read before. Conditions: none.
-/
import Derived.Test.YtdjifaaofefpoaaOpenA
import Derived.Test.YtdjifaaofefpoaaOpenB
import Derived.Test.YtdjifaaofefpoaaHelpSt
import Derived.Test.YtdjifaaofefpoaaNotC
import Derived.Test.YtdjifaaofefpoaaBaseA
import Derived.Deep.RegionHeld3
namespace Go.Proofs.Ytdjifaaofefpoaa.lExactIsNothing
open Go.ChangeShapes Go.WideShapes Go.ChangeAt Go.RowKit
set_option linter.unusedVariables false
set_option linter.unusedSimpArgs false

set_option maxRecDepth 100000 in
set_option maxHeartbeats 4000000 in
theorem walk (t0 : Stg) (A10 : Option Addr) (n10 c10 : Nat) (A20 : Option Addr) (n20 c20 : Nat) (A30 : Option Addr) (n30 c30 : Nat) (w : World) (h0 : HdSt w t0 A10 n10 c10 A20 n20 c20 A30 n30 c30) (u0 : I64T t0) :
    Calls Try.prog 5 #[.agg #[.int .i64 t0.kd, .slice A10 n10 c10, .slice A20 n20 c20, .int .i64 t0.sd, .slice A30 n30 c30]] w fun e w' => e = .returned (.bool true) ∧ Below w.heap.size w w' := by
  have HU0 := Lib.hid u0
  have S0 : Scene w w [(rowsD t0.cs, .slice A10 n10 c10), (rowsD t0.rs, .slice A20 n20 c20), (rowsD t0.ns, .slice A30 n30 c30)] [] [] := Scene.start w _ (by intro p hp; simp only [List.mem_cons, List.not_mem_nil, or_false] at hp; rcases hp with rfl | rfl | rfl <;> first | exact h0.a | exact h0.b | exact h0.d)
  have S1 : Scene w (w.alloc (.cells #[.int .i64 t0.kd, .slice A10 n10 c10, .slice A20 n20 c20, .int .i64 t0.sd, .slice A30 n30 c30] 50)) [(rowsD t0.cs, .slice A10 n10 c10), (rowsD t0.rs, .slice A20 n20 c20), (rowsD t0.ns, .slice A30 n30 c30)] [] [(w.heap.size, [.int .i64 t0.kd, .slice A10 n10 c10, .slice A20 n20 c20, .int .i64 t0.sd, .slice A30 n30 c30])] := by have q := Scene.addBox S0 [.int .i64 t0.kd, .slice A10 n10 c10, .slice A20 n20 c20, .int .i64 t0.sd, .slice A30 n30 c30] 50; simpa only [World.size_alloc, List.length_cons, Nat.add_assoc] using q
  clear h0 u0
  go_enter Try.func5, Try.ntmps5
  go_wp2_with fail
  have hda00 := S1.argI 0 rfl
  have hda01 := S1.argI 1 rfl
  have hda02 := S1.argI 2 rfl
  have hda0 : HdSt _ t0 _ _ _ _ _ _ _ _ _ := ⟨hda00, hda01, hda02⟩
  clear hda00 hda01 hda02
  refine (szStage_any t0 _ _ _ _ _ _ _ _ _ _ _ hda0 (by omega) (by omega)).mono ?_
  rintro e w1 ⟨r0, rfl, hr10, hr20, hr30, hb0⟩
  have i1 := Below.size hb0
  try simp only [World.size_alloc] at i1
  have S2 : Scene w w1 [(rowsD t0.cs, .slice A10 n10 c10), (rowsD t0.rs, .slice A20 n20 c20), (rowsD t0.ns, .slice A30 n30 c30)] [] [(w.heap.size, [.int .i64 t0.kd, .slice A10 n10 c10, .slice A20 n20 c20, .int .i64 t0.sd, .slice A30 n30 c30])] := Scene.below S1 hb0
  have HR0 := Lib.hid hr30
  clear hr30 hb0
  by_cases hr0 : r0 < 0
  · go_wp2_with fail
    go_ret
    exact ⟨rfl, S2.bel⟩
  have hn0 := Lib.hid (HR0.out (by omega))
  clear HR0 hda0
  have x0_0 : w1.cell? ⟨w.heap.size, 0, none⟩ = some (.int .i64 t0.kd) := S2.boxI 0 0 rfl rfl
  have x0_1 : w1.cell? ⟨w.heap.size, 1, none⟩ = some (.slice A10 n10 c10) := S2.boxI 0 1 rfl rfl
  have x0_2 : w1.cell? ⟨w.heap.size, 2, none⟩ = some (.slice A20 n20 c20) := S2.boxI 0 2 rfl rfl
  have x0_3 : w1.cell? ⟨w.heap.size, 3, none⟩ = some (.int .i64 t0.sd) := S2.boxI 0 3 rfl rfl
  have x0_4 : w1.cell? ⟨w.heap.size, 4, none⟩ = some (.slice A30 n30 c30) := S2.boxI 0 4 rfl rfl
  have z0 : w.heap.size < w1.heap.size := cell_lt x0_0
  go_wp2_with fail
  have hda00 := S2.argI 0 rfl
  have hda01 := S2.argI 1 rfl
  have hda02 := S2.argI 2 rfl
  have hda0 : HdSt _ t0 _ _ _ _ _ _ _ _ _ := ⟨hda00, hda01, hda02⟩
  clear hda00 hda01 hda02
  refine (toStage_any t0 _ _ _ _ _ _ _ _ _ _ hda0 hn0.out).mono ?_
  rintro e w2 ⟨B12, B22, B32, p2, q2, rfl, ho, hb⟩
  have i2 := Below.size hb
  try simp only [World.size_alloc] at i2
  have S3 : Scene w w2 [(rowsD t0.cs, .slice A10 n10 c10), (rowsD t0.rs, .slice A20 n20 c20), (rowsD t0.ns, .slice A30 n30 c30)] [] [(w.heap.size, [.int .i64 t0.kd, .slice A10 n10 c10, .slice A20 n20 c20, .int .i64 t0.sd, .slice A30 n30 c30])] := Scene.below S2 hb
  have D0 := Lib.hid ho.hd
  clear ho hb hda0
  clear x0_0 x0_1 x0_2 x0_3 x0_4 z0
  have x0_0 : w2.cell? ⟨w.heap.size, 0, none⟩ = some (.int .i64 t0.kd) := S3.boxI 0 0 rfl rfl
  have x0_1 : w2.cell? ⟨w.heap.size, 1, none⟩ = some (.slice A10 n10 c10) := S3.boxI 0 1 rfl rfl
  have x0_2 : w2.cell? ⟨w.heap.size, 2, none⟩ = some (.slice A20 n20 c20) := S3.boxI 0 2 rfl rfl
  have x0_3 : w2.cell? ⟨w.heap.size, 3, none⟩ = some (.int .i64 t0.sd) := S3.boxI 0 3 rfl rfl
  have x0_4 : w2.cell? ⟨w.heap.size, 4, none⟩ = some (.slice A30 n30 c30) := S3.boxI 0 4 rfl rfl
  have z0 : w.heap.size < w2.heap.size := cell_lt x0_0
  go_wp2_with fail
  refine (sIsNothing_any t0 _ _ _ _ _ _ _ _ _ _ D0.out).mono ?_
  rintro e w3 ⟨rfl, hb⟩
  have i3 := Below.size hb
  try simp only [World.size_alloc] at i3
  have S4 : Scene w w3 [(rowsD t0.cs, .slice A10 n10 c10), (rowsD t0.rs, .slice A20 n20 c20), (rowsD t0.ns, .slice A30 n30 c30)] [] [(w.heap.size, [.int .i64 t0.kd, .slice A10 n10 c10, .slice A20 n20 c20, .int .i64 t0.sd, .slice A30 n30 c30])] := Scene.below S3 hb
  clear hb
  clear D0
  clear x0_0 x0_1 x0_2 x0_3 x0_4 z0
  have x0_0 : w3.cell? ⟨w.heap.size, 0, none⟩ = some (.int .i64 t0.kd) := S4.boxI 0 0 rfl rfl
  have x0_1 : w3.cell? ⟨w.heap.size, 1, none⟩ = some (.slice A10 n10 c10) := S4.boxI 0 1 rfl rfl
  have x0_2 : w3.cell? ⟨w.heap.size, 2, none⟩ = some (.slice A20 n20 c20) := S4.boxI 0 2 rfl rfl
  have x0_3 : w3.cell? ⟨w.heap.size, 3, none⟩ = some (.int .i64 t0.sd) := S4.boxI 0 3 rfl rfl
  have x0_4 : w3.cell? ⟨w.heap.size, 4, none⟩ = some (.slice A30 n30 c30) := S4.boxI 0 4 rfl rfl
  have z0 : w.heap.size < w3.heap.size := cell_lt x0_0
  go_wp2_with fail
  have hda00 := S4.argI 0 rfl
  have hda01 := S4.argI 1 rfl
  have hda02 := S4.argI 2 rfl
  have hda0 : HdSt _ t0 _ _ _ _ _ _ _ _ _ := ⟨hda00, hda01, hda02⟩
  clear hda00 hda01 hda02
  refine (toStage_any t0 _ _ _ _ _ _ _ _ _ _ hda0 hn0.out).mono ?_
  rintro e w4 ⟨X10, X20, X30, px0, qx0, rfl, ho, hb⟩
  have i4 := Below.size hb
  try simp only [World.size_alloc] at i4
  have S5 : Scene w w4 [(rowsD t0.cs, .slice A10 n10 c10), (rowsD t0.rs, .slice A20 n20 c20), (rowsD t0.ns, .slice A30 n30 c30)] [] [(w.heap.size, [.int .i64 t0.kd, .slice A10 n10 c10, .slice A20 n20 c20, .int .i64 t0.sd, .slice A30 n30 c30])] := Scene.below S4 hb
  have HO0 := Lib.hid (⟨ho.a.mono (lo' := w3.heap.size) (by simp) (Nat.le_refl _), ho.b, ho.d, by have := ho.le; (try simp at this); omega⟩ : OwnSt _ t0 X10 n10 X20 n20 X30 n30 (w3.heap.size) px0 qx0 _)
  have S6 : Scene w w4 [(rowsD t0.cs, .slice A10 n10 c10), (rowsD t0.rs, .slice A20 n20 c20), (rowsD t0.ns, .slice A30 n30 c30)] [⟨rowsD t0.cs, .slice X10 n10 n10, w3.heap.size, px0⟩] [(w.heap.size, [.int .i64 t0.kd, .slice A10 n10 c10, .slice A20 n20 c20, .int .i64 t0.sd, .slice A30 n30 c30])] := Scene.addOwn S5 HO0.out.a (by have := S5.bel.size; have := HO0.out.le; have hle := hb.size; (try simp at hle); omega) (by have := HO0.out.le; omega)
  clear S5
  have S7 : Scene w w4 [(rowsD t0.cs, .slice A10 n10 c10), (rowsD t0.rs, .slice A20 n20 c20), (rowsD t0.ns, .slice A30 n30 c30)] [⟨rowsD t0.rs, .slice X20 n20 n20, px0, qx0⟩, ⟨rowsD t0.cs, .slice X10 n10 n10, w3.heap.size, px0⟩] [(w.heap.size, [.int .i64 t0.kd, .slice A10 n10 c10, .slice A20 n20 c20, .int .i64 t0.sd, .slice A30 n30 c30])] := Scene.addOwn S6 HO0.out.b (by have := S6.bel.size; have := HO0.out.le; have hle := hb.size; (try simp at hle); omega) (by have := HO0.out.le; omega)
  clear S6
  have S8 : Scene w w4 [(rowsD t0.cs, .slice A10 n10 c10), (rowsD t0.rs, .slice A20 n20 c20), (rowsD t0.ns, .slice A30 n30 c30)] [⟨rowsD t0.ns, .slice X30 n30 n30, qx0, w4.heap.size⟩, ⟨rowsD t0.rs, .slice X20 n20 n20, px0, qx0⟩, ⟨rowsD t0.cs, .slice X10 n10 n10, w3.heap.size, px0⟩] [(w.heap.size, [.int .i64 t0.kd, .slice A10 n10 c10, .slice A20 n20 c20, .int .i64 t0.sd, .slice A30 n30 c30])] := Scene.addOwn S7 HO0.out.d (by have := S7.bel.size; have := HO0.out.le; have hle := hb.size; (try simp at hle); omega) (by have := HO0.out.le; omega)
  clear S7
  clear ho hb hda0
  clear x0_0 x0_1 x0_2 x0_3 x0_4 z0
  have x0_0 : w4.cell? ⟨w.heap.size, 0, none⟩ = some (.int .i64 t0.kd) := S8.boxI 0 0 rfl rfl
  have x0_1 : w4.cell? ⟨w.heap.size, 1, none⟩ = some (.slice A10 n10 c10) := S8.boxI 0 1 rfl rfl
  have x0_2 : w4.cell? ⟨w.heap.size, 2, none⟩ = some (.slice A20 n20 c20) := S8.boxI 0 2 rfl rfl
  have x0_3 : w4.cell? ⟨w.heap.size, 3, none⟩ = some (.int .i64 t0.sd) := S8.boxI 0 3 rfl rfl
  have x0_4 : w4.cell? ⟨w.heap.size, 4, none⟩ = some (.slice A30 n30 c30) := S8.boxI 0 4 rfl rfl
  have z0 : w.heap.size < w4.heap.size := cell_lt x0_0
  have S9 : Scene w (w4.alloc (.cells #[.int .i64 t0.kd, .slice X10 n10 n10, .slice X20 n20 n20, .int .i64 t0.sd, .slice X30 n30 n30] 57)) [(rowsD t0.cs, .slice A10 n10 c10), (rowsD t0.rs, .slice A20 n20 c20), (rowsD t0.ns, .slice A30 n30 c30)] [⟨rowsD t0.ns, .slice X30 n30 n30, qx0, w4.heap.size⟩, ⟨rowsD t0.rs, .slice X20 n20 n20, px0, qx0⟩, ⟨rowsD t0.cs, .slice X10 n10 n10, w3.heap.size, px0⟩] [(w4.heap.size, [.int .i64 t0.kd, .slice X10 n10 n10, .slice X20 n20 n20, .int .i64 t0.sd, .slice X30 n30 n30]), (w.heap.size, [.int .i64 t0.kd, .slice A10 n10 c10, .slice A20 n20 c20, .int .i64 t0.sd, .slice A30 n30 c30])] := Scene.addBox S8 [.int .i64 t0.kd, .slice X10 n10 n10, .slice X20 n20 n20, .int .i64 t0.sd, .slice X30 n30 n30] 57
  clear S8
  go_wp2_with fail
  have hx0 : HdSt _ t0 _ _ _ _ _ _ _ _ _ := ⟨(S9.ownI 2 rfl).hd, (S9.ownI 1 rfl).hd, (S9.ownI 0 rfl).hd⟩
  refine (IsNothing_any t0 _ _ _ _ _ _ _ _ _ _ hx0).mono ?_
  rintro e w5 ⟨rfl, hb⟩
  have i5 := Below.size hb
  try simp only [World.size_alloc] at i5
  have S10 : Scene w w5 [(rowsD t0.cs, .slice A10 n10 c10), (rowsD t0.rs, .slice A20 n20 c20), (rowsD t0.ns, .slice A30 n30 c30)] [⟨rowsD t0.ns, .slice X30 n30 n30, qx0, w4.heap.size⟩, ⟨rowsD t0.rs, .slice X20 n20 n20, px0, qx0⟩, ⟨rowsD t0.cs, .slice X10 n10 n10, w3.heap.size, px0⟩] [(w4.heap.size, [.int .i64 t0.kd, .slice X10 n10 n10, .slice X20 n20 n20, .int .i64 t0.sd, .slice X30 n30 n30]), (w.heap.size, [.int .i64 t0.kd, .slice A10 n10 c10, .slice A20 n20 c20, .int .i64 t0.sd, .slice A30 n30 c30])] := Scene.below S9 hb
  clear hx0
  clear hb
  clear x0_0 x0_1 x0_2 x0_3 x0_4 z0
  have x0_0 : w5.cell? ⟨w4.heap.size, 0, none⟩ = some (.int .i64 t0.kd) := S10.boxI 0 0 rfl rfl
  have x0_1 : w5.cell? ⟨w4.heap.size, 1, none⟩ = some (.slice X10 n10 n10) := S10.boxI 0 1 rfl rfl
  have x0_2 : w5.cell? ⟨w4.heap.size, 2, none⟩ = some (.slice X20 n20 n20) := S10.boxI 0 2 rfl rfl
  have x0_3 : w5.cell? ⟨w4.heap.size, 3, none⟩ = some (.int .i64 t0.sd) := S10.boxI 0 3 rfl rfl
  have x0_4 : w5.cell? ⟨w4.heap.size, 4, none⟩ = some (.slice X30 n30 n30) := S10.boxI 0 4 rfl rfl
  have z0 : w4.heap.size < w5.heap.size := cell_lt x0_0
  have x1_0 : w5.cell? ⟨w.heap.size, 0, none⟩ = some (.int .i64 t0.kd) := S10.boxI 1 0 rfl rfl
  have x1_1 : w5.cell? ⟨w.heap.size, 1, none⟩ = some (.slice A10 n10 c10) := S10.boxI 1 1 rfl rfl
  have x1_2 : w5.cell? ⟨w.heap.size, 2, none⟩ = some (.slice A20 n20 c20) := S10.boxI 1 2 rfl rfl
  have x1_3 : w5.cell? ⟨w.heap.size, 3, none⟩ = some (.int .i64 t0.sd) := S10.boxI 1 3 rfl rfl
  have x1_4 : w5.cell? ⟨w.heap.size, 4, none⟩ = some (.slice A30 n30 c30) := S10.boxI 1 4 rfl rfl
  have z1 : w.heap.size < w5.heap.size := cell_lt x1_0
  go_wp2_with fail
  go_region_held3 (fun w' => w'.cell? ⟨w4.heap.size, 0, none⟩ = some (.int .i64 t0.kd) ∧ w'.cell? ⟨w4.heap.size, 1, none⟩ = some (.slice X10 n10 n10) ∧ w'.cell? ⟨w4.heap.size, 2, none⟩ = some (.slice X20 n20 n20) ∧ w'.cell? ⟨w4.heap.size, 3, none⟩ = some (.int .i64 t0.sd) ∧ w'.cell? ⟨w4.heap.size, 4, none⟩ = some (.slice X30 n30 n30) ∧ w'.cell? ⟨w.heap.size, 0, none⟩ = some (.int .i64 t0.kd) ∧ w'.cell? ⟨w.heap.size, 1, none⟩ = some (.slice A10 n10 c10) ∧ w'.cell? ⟨w.heap.size, 2, none⟩ = some (.slice A20 n20 c20) ∧ w'.cell? ⟨w.heap.size, 3, none⟩ = some (.int .i64 t0.sd) ∧ w'.cell? ⟨w.heap.size, 4, none⟩ = some (.slice A30 n30 c30) ∧ Scene w w' [(rowsD t0.cs, .slice A10 n10 c10), (rowsD t0.rs, .slice A20 n20 c20), (rowsD t0.ns, .slice A30 n30 c30)] [⟨rowsD t0.ns, .slice X30 n30 n30, qx0, w4.heap.size⟩, ⟨rowsD t0.rs, .slice X20 n20 n20, px0, qx0⟩, ⟨rowsD t0.cs, .slice X10 n10 n10, w3.heap.size, px0⟩] [(w4.heap.size, [.int .i64 t0.kd, .slice X10 n10 n10, .slice X20 n20 n20, .int .i64 t0.sd, .slice X30 n30 n30]), (w.heap.size, [.int .i64 t0.kd, .slice A10 n10 c10, .slice A20 n20 c20, .int .i64 t0.sd, .slice A30 n30 c30])])
    (first | (go_split_ands; exact ⟨cell_later hb (by assumption), cell_later hb (by assumption), cell_later hb (by assumption), cell_later hb (by assumption), cell_later hb (by assumption), cell_later hb (by assumption), cell_later hb (by assumption), cell_later hb (by assumption), cell_later hb (by assumption), cell_later hb (by assumption), Scene.below (by assumption) hb⟩) | exact ⟨x0_0, x0_1, x0_2, x0_3, x0_4, x1_0, x1_1, x1_2, x1_3, x1_4, Scene.drew S10⟩)
    (first | (go_at_call 24; go_split_ands; have hdq := (⟨Scene.argI (by assumption) 0 rfl, Scene.argI (by assumption) 1 rfl, Scene.argI (by assumption) 2 rfl⟩ : HdSt _ t0 _ _ _ _ _ _ _ _ _); refine (toStage_any t0 _ _ _ _ _ _ _ _ _ _ hdq hn0.out).mono ?_; rintro e w' ⟨B1q, B2q, B3q, pq, qq, rfl, ho, hb⟩) | (go_at_call 26; go_split_ands; have hdr := ho.hd; have hdt := (⟨(Scene.ownI (by assumption) 2 rfl).hd, (Scene.ownI (by assumption) 1 rfl).hd, (Scene.ownI (by assumption) 0 rfl).hd⟩ : HdSt _ t0 _ _ _ _ _ _ _ _ _); refine (eqStage_same t0 _ _ _ _ _ _ _ _ _ _ _ _ _ _ _ _ _ _ _ hdt hdr hn0.out).mono ?_; rintro e w' ⟨rfl, hb⟩))
  go_split_ands
  rename Scene w _ _ _ _ => S11
  rename World => w6
  clear S10
  clear x0_0 x0_1 x0_2 x0_3 x0_4 x1_0 x1_1 x1_2 x1_3 x1_4 z0 z1
  clear ho
  have x0_0 : w6.cell? ⟨w4.heap.size, 0, none⟩ = some (.int .i64 t0.kd) := S11.boxI 0 0 rfl rfl
  have x0_1 : w6.cell? ⟨w4.heap.size, 1, none⟩ = some (.slice X10 n10 n10) := S11.boxI 0 1 rfl rfl
  have x0_2 : w6.cell? ⟨w4.heap.size, 2, none⟩ = some (.slice X20 n20 n20) := S11.boxI 0 2 rfl rfl
  have x0_3 : w6.cell? ⟨w4.heap.size, 3, none⟩ = some (.int .i64 t0.sd) := S11.boxI 0 3 rfl rfl
  have x0_4 : w6.cell? ⟨w4.heap.size, 4, none⟩ = some (.slice X30 n30 n30) := S11.boxI 0 4 rfl rfl
  have z0 : w4.heap.size < w6.heap.size := cell_lt x0_0
  have x1_0 : w6.cell? ⟨w.heap.size, 0, none⟩ = some (.int .i64 t0.kd) := S11.boxI 1 0 rfl rfl
  have x1_1 : w6.cell? ⟨w.heap.size, 1, none⟩ = some (.slice A10 n10 c10) := S11.boxI 1 1 rfl rfl
  have x1_2 : w6.cell? ⟨w.heap.size, 2, none⟩ = some (.slice A20 n20 c20) := S11.boxI 1 2 rfl rfl
  have x1_3 : w6.cell? ⟨w.heap.size, 3, none⟩ = some (.int .i64 t0.sd) := S11.boxI 1 3 rfl rfl
  have x1_4 : w6.cell? ⟨w.heap.size, 4, none⟩ = some (.slice A30 n30 c30) := S11.boxI 1 4 rfl rfl
  have z1 : w.heap.size < w6.heap.size := cell_lt x1_0
  go_wp2_with fail
  have HB := Lib.hid S11.bel
  clear S11
  clear x0_0 x0_1 x0_2 x0_3 x0_4 z0 x1_0 x1_1 x1_2 x1_3 x1_4 z1
  try go_wp2_with fail
  go_ret
  exact ⟨rfl, HB.out⟩

set_option maxRecDepth 100000 in
theorem lifted (os : Os) (started : os.Started) (H : Type) (enc : TypeId × Value → H) :
    ReturnsInHanded {} Try.checked os 5 .any (Rows.fnExactIsNothingSpec.pre6 enc Try.prog Try.f5 Rows.fnExactIsNothingRow.domain false) (Rows.fnExactIsNothingSpec.post enc Try.prog Try.f5 false true false false) := by
  refine returnsInHanded_of_change (C := Try.checked) own started (by kernel_rfl) Try.func5
    (ChangeSpec.witness6 (enc := enc) (C := Try.checked) false ⟨#[], #[.agg #[.int .i64 0, .slice none 0 0, .slice none 0 0, .int .i64 0, .slice none 0 0]], []⟩ 8 (by kernel_rfl) (by kernel_rfl) (by kernel_rfl) (by kernel_rfl)) ?_
  intro W base args ds gs before hval0 hW hcnd _
  have hval : ∀ (j : Nat) t v, Try.f5.params[j]? = some t → args[j]? = some v → Value.okWide Try.prog W .any base t v := hval0
  have hW' := hW
  obtain ⟨p, q, hA0, hV0, rfl, hfz, hnd⟩ := hW
  have hA : DataW.TrodAll enc Try.prog W 0 (fun _ => true) true Try.f5.params.toList args.toList ds p := hA0
  have hV : DataW.TrodVars enc Try.prog W (fun _ => true) [] gs q := hV0
  rw [Try.params5] at hA hval
  obtain ⟨v0, vs0, d0, ds0, p0, q0, hargs, rfl, rfl, h0, r0⟩ := trodAll_cons hA
  obtain ⟨rfl, rfl, rfl⟩ := trodAll_nil r0
  obtain rfl : args = #[v0] := by cases args; simp_all
  obtain ⟨rfl, rfl⟩ : gs = [] ∧ q = [] := by
    cases gs with
    | nil => exact ⟨rfl, hV⟩
    | cons g r => exact absurd hV (by intro h; cases h)
  have k0 := h0
  have lt0 : ∀ x ∈ p0, x.block < W.heap.size := by obtain ⟨m, hm⟩ := k0; exact DataW.trod_lt m _ _ _ hm
  obtain ⟨t0, A10, n10, c10, A20, n20, c20, A30, n30, c30, rfl, hd0, u0⟩ := open_stage (hval 0 50 v0 rfl rfl) h0
  clear hA0 hval0
  refine (walk t0 A10 n10 c10 A20 n20 c20 A30 n30 c30 W hd0 u0).mono fun e W' ⟨he, bel⟩ => ?_
  subst he
  exact ⟨_, rfl, _, _, _, [], _, [], hW', trodAll_mk1 (shut_bool Try.underlying4 _), (trodAll_cons_mk (Below.trod laidOut (by kernel_rfl) (of_decide_eq_true (by kernel_rfl)) k0 bel lt0) trodAll_mk0), rfl, bel.frame _, fun h => by cases h⟩

theorem row_holds : Rows.FnExactIsNothingSaid :=
  OpenClaim.holds_of_wide 5 Try.f5 rfl rfl rfl rfl rfl rfl rfl ⟨rfl, rfl, rfl, rfl, rfl⟩ rfl rfl rfl rfl rfl (by kernel_rfl) Try.func5 (by kernel_rfl)
    (of_decide_eq_true (by kernel_rfl)) (by unfold Func.isWrapper; rw [if_neg (of_decide_eq_false (by kernel_rfl))]; exact ⟨rfl, rfl⟩)
    (fun os started H enc _ => lifted os started H enc)

theorem proved : Rows.FnExactIsNothingSaid := row_holds
#print axioms proved

end Go.Proofs.Ytdjifaaofefpoaa.lExactIsNothing
