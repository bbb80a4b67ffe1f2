/-
  Matrices: the program's mixed, nearestSigned.
  A colour through a matrix: the program's matrixAt, ApplyMatrix.
-/
import Derived.Test.YthplngcdldongaaMatB
import Derived.Test.YthplngcdldongaaMatCD
import Derived.Test.YthplngcdldongaaNumA
import Derived.Test.YthplngcdldongaaGrdNA
import Derived.Test.YthplngcdldongaaBaseA
import Derived.Test.YthplngcdldongaaGrdWA
namespace Go.Proofs.Ythplngcdldongaa
open Go.RowKit
set_option linter.unusedVariables false

set_option maxRecDepth 100000 in
set_option maxHeartbeats 2000000 in
theorem mixed_any (a0 a1 a2 b0 b1 b2 : Int) (w : World) (h0 : -100000000000000 ≤ a0 * b0 ∧ a0 * b0 ≤ 100000000000000) (h1 : -100000000000000 ≤ a1 * b1 ∧ a1 * b1 ≤ 100000000000000) (h2 : -100000000000000 ≤ a2 * b2 ∧ a2 * b2 ≤ 100000000000000) :
    Calls Try.prog 69 #[.agg #[.int .i64 a0, .int .i64 a1, .int .i64 a2], .agg #[.int .i64 b0, .int .i64 b1, .int .i64 b2]] w fun e w' => e = .returned (.int .i64 (rnd (a0 * b0 + a1 * b1 + a2 * b2) 65536)) ∧ Below w.heap.size w w' := by
  obtain ⟨h0a, h0b⟩ := h0
  obtain ⟨h1a, h1b⟩ := h1
  obtain ⟨h2a, h2b⟩ := h2
  go_enter Try.func69, Try.ntmps69
  go_wp2_with fail
  refine wp_loop_rounds 4 ?_
  rw [rounds_succ]
  go_wp2_with fail
  go_quiet (fail)
  go_wp2_with fail
  rw [rounds_succ]
  go_wp2_with fail
  go_quiet (fail)
  go_wp2_with fail
  rw [rounds_succ]
  go_wp2_with fail
  go_quiet (fail)
  go_wp2_with fail
  rw [rounds_succ]
  go_wp2_with fail
  refine (nearest_any _ _ _ (by omega) (by omega) (by omega) (by omega)).mono ?_
  rintro e w1 ⟨rfl, m, rfl⟩
  go_wp2_with fail
  go_ret
  refine ⟨rfl, ?_⟩
  repeat (first | with_reducible exact Below.refl _ _ | with_reducible refine blThenAlloc ?_ _ | with_reducible refine blThenDrew ?_ _ | with_reducible refine Below.drew ?_)
set_option maxHeartbeats 400000 in
theorem nearestSigned_any (a b : Int) (w : World) (hb : b ≠ 0) (hb1 : -1000000000000000000 ≤ b) (hb2 : b ≤ 1000000000000000000) (h1 : -1000000000000000000 ≤ a) (h2 : a ≤ 1000000000000000000) :
    Calls Try.prog 74 #[.int .i64 a, .int .i64 b] w fun e w' => e = .returned (.int .i64 (if b < 0 then rnd (-a) (-b) else rnd a b)) ∧ ∃ n, w' = w.drewN n := by
  by_cases hn : b < 0
  · rw [if_pos hn]
    go_enter Try.func74, Try.ntmps74
    go_wp2_with fail
    refine (nearest_any _ _ _ (by omega) (by omega) (by omega) (by omega)).mono ?_
    rintro e w1 ⟨rfl, m, rfl⟩
    go_wp2_with fail
    go_ret
    exact ⟨rfl, _, rfl⟩
  · rw [if_neg hn]
    go_enter Try.func74, Try.ntmps74
    go_wp2_with fail
    refine (nearest_any _ _ _ (by omega) (by omega) (by omega) (by omega)).mono ?_
    rintro e w1 ⟨rfl, m, rfl⟩
    go_wp2_with fail
    go_ret
    exact ⟨rfl, _, rfl⟩
end Go.Proofs.Ythplngcdldongaa
namespace Go.Proofs.Ythplngcdldongaa
open Go.RowKit
set_option linter.unusedVariables false
set_option linter.unusedSimpArgs false

def apC (rs : Rws) (xs : List Int) : Int := if mf rs = 0 then lf xs else mf rs
def apS (q x : Nat → Int) (i : Nat) : Int := q (3 * i) * x 0 + q (3 * i + 1) * x 1 + q (3 * i + 2) * x 2
def apV (q x : Nat → Int) (i : Nat) : Int := clp (rnd (apS q x i) 65536)
def apL (rs : Rws) (xs : List Int) : List Int := if mf rs = 0 ∧ lf xs = 0 then [apV (fl rs) (xs.getD · 0) 0, apV (fl rs) (xs.getD · 0) 1, apV (fl rs) (xs.getD · 0) 2] else []
theorem ap_f {rs : Rws} {xs : List Int} (h : mf rs ≠ 0) : apC rs xs = mf rs ∧ apL rs xs = [] := ⟨by unfold apC; rw [if_neg h], by unfold apL; rw [if_neg (fun q => h q.1)]⟩
theorem ap_l {rs : Rws} {xs : List Int} (h : mf rs = 0) (h1 : lf xs ≠ 0) : apC rs xs = lf xs ∧ apL rs xs = [] := ⟨by unfold apC; rw [if_pos h], by unfold apL; rw [if_neg (fun q => h1 q.2)]⟩
theorem ap_y {rs : Rws} {xs : List Int} (h : mf rs = 0) (h1 : lf xs = 0) : apC rs xs = 0 ∧ apL rs xs = [apV (fl rs) (xs.getD · 0) 0, apV (fl rs) (xs.getD · 0) 1, apV (fl rs) (xs.getD · 0) 2] := ⟨by unfold apC; rw [if_pos h, h1], by unfold apL; rw [if_pos ⟨h, h1⟩]⟩
theorem ap_len (rs : Rws) (xs : List Int) : (apL rs xs).length ≤ 3 := by unfold apL; split <;> simp
theorem ap_bd {a b : Int} (ha : -262144 ≤ a ∧ a ≤ 262144) (hb : 0 ≤ b ∧ b ≤ 65535) : -100000000000 ≤ a * b ∧ a * b ≤ 100000000000 := by
  have := mulbd (a := a) (b := b) 262144 65535 (by omega) (by omega)
  omega
theorem make3 (W : World) : (Instr.makeSlice 27 (.int .i64 3) (.int .i64 3)).run Try.prog W = .ok (.slice (some ⟨W.heap.size, 0, none⟩) 3 3) (W.alloc (.cells #[.int .i64 0, .int .i64 0, .int .i64 0] 2)) := by
  have h := run_make_many (P := Try.prog) 27 2 (.int .i64 0) 1 8 Try.underlying27 info_i64 .i64 .i64 3 (by omega) (by omega) W
  have e : madeCells (Value.int .i64 0).cells (3 * 1) = #[.int .i64 0, .int .i64 0, .int .i64 0] := by first | kernel_rfl | (simp [madeCells, Value.cells]; rfl)
  rw [e] at h
  exact h
def apK (o : Int) (q x : Nat → Int) (i : Nat) : Int := clk o (rnd (apS q x i) 65536)
theorem apK_1 (q x : Nat → Int) (i : Nat) : apK 1 q x i = apV q x i := by unfold apK apV; rw [clk_1]
theorem ap_bdT {a b : Int} (ha : -262144 ≤ a ∧ a ≤ 262144) (hb : 0 ≤ b ∧ b ≤ 16776960) : -100000000000000 ≤ a * b ∧ a * b ≤ 100000000000000 := by
  have h : (a * b).natAbs ≤ 262144 * 16776960 := by rw [Int.natAbs_mul]; exact Nat.mul_le_mul (by omega) (by omega)
  omega
set_option maxRecDepth 100000 in
set_option maxHeartbeats 4000000 in
theorem matrixAt_k (o : Int) (ho : One o) (q y : Nat → Int) (w : World) (hq : ∀ t, t < 9 → -262144 ≤ q t ∧ q t ≤ 262144) (hy : ∀ t, t < 3 → 0 ≤ y t ∧ y t ≤ 16776960) :
    Calls Try.prog 68 #[.agg #[.int .i64 (q 0), .int .i64 (q 1), .int .i64 (q 2), .int .i64 (q 3), .int .i64 (q 4), .int .i64 (q 5), .int .i64 (q 6), .int .i64 (q 7), .int .i64 (q 8)], .agg #[.int .i64 (y 0), .int .i64 (y 1), .int .i64 (y 2)], .int .i64 o] w (PtAns w (apK o q y 0) (apK o q y 1) (apK o q y 2)) := by
  have HO := Lib.hid ho
  have HPB : Hid (∀ a b, a < 9 → b < 3 → -100000000000000 ≤ q a * y b ∧ q a * y b ≤ 100000000000000) := fun a b ha hb => ap_bdT (hq a ha) (hy b hb)
  obtain ⟨W0, hW0⟩ : ∃ W0, W0 = (((w.alloc (.cells #[.int .i64 (q 0), .int .i64 (q 1), .int .i64 (q 2), .int .i64 (q 3), .int .i64 (q 4), .int .i64 (q 5), .int .i64 (q 6), .int .i64 (q 7), .int .i64 (q 8)] 104)).alloc (.cells #[.int .i64 (y 0), .int .i64 (y 1), .int .i64 (y 2)] 75)).alloc (.cells #[.int .i64 0, .int .i64 0, .int .i64 0] 75)).alloc (.cells #[.int .i64 0, .int .i64 0, .int .i64 0] 75) := ⟨_, rfl⟩
  have Y0 : Hid (Bx W0 (w.heap.size + 1) [.int .i64 (y 0), .int .i64 (y 1), .int .i64 (y 2)]) := by show Bx _ _ _; rw [hW0]; exact ((Bx.new _ _ _ (by simp)).alloc _).alloc _
  have R0 : Hid (Bx W0 (w.heap.size + 1 + 1) [.int .i64 0, .int .i64 0, .int .i64 0]) := by show Bx _ _ _; rw [hW0]; exact (Bx.new _ _ _ (by simp)).alloc _
  have V0 : Hid (Bx W0 (w.heap.size + 1 + 1 + 1) [.int .i64 0, .int .i64 0, .int .i64 0]) := by show Bx _ _ _; rw [hW0]; exact Bx.new _ _ _ (by simp)
  have T0 : Hid (Below w.heap.size w W0) := by show Below _ _ _; rw [hW0]; exact blThenAlloc (blThenAlloc (blThenAlloc (blAlloc _ _) _) _) _
  have HW := Lib.hid hW0
  clear hW0 hq hy ho
  go_enter Try.func68, Try.ntmps68
  go_wp2_with fail
  rw [← HW.out]
  clear HW
  have y0 := Y0.out.c 0 rfl
  have y1 := Y0.out.c 1 rfl
  have y2 := Y0.out.c 2 rfl
  have l0 := V0.out.c 0 rfl
  have f0 := V0.out.f 0
  have m0 := Y0.out.lt
  have m1 := V0.out.lt
  have m2 := R0.out.lt
  refine wp_loop_rounds 4 ?_
  rw [rounds_succ]
  have ii := fun W => ix9_0 q W
  go_wp2_with fail
  clear ii
  refine (mixed_any _ _ _ _ _ _ _ (HPB.out 0 0 (by omega) (by omega)) (HPB.out 1 1 (by omega) (by omega)) (HPB.out 2 2 (by omega) (by omega))).mono ?_
  rintro e w1 ⟨rfl, hb⟩
  have V1 := Lib.hid (((V0.out).alloc (.cells #[.int .i64 (q 0), .int .i64 (q 1), .int .i64 (q 2)] 75)).bel hb)
  have Y1 := Lib.hid (((Y0.out).alloc (.cells #[.int .i64 (q 0), .int .i64 (q 1), .int .i64 (q 2)] 75)).bel hb)
  have R1 := Lib.hid (((R0.out).alloc (.cells #[.int .i64 (q 0), .int .i64 (q 1), .int .i64 (q 2)] 75)).bel hb)
  have T1 := Lib.hid (blThen (blThenAlloc T0.out _) hb)
  clear hb V0 Y0 R0 T0 y0 y1 y2 l0 f0 m0 m1 m2
  have y0 := Y1.out.c 0 rfl
  have y1 := Y1.out.c 1 rfl
  have y2 := Y1.out.c 2 rfl
  have l0 := V1.out.c 0 rfl
  have f0 := V1.out.f 0
  have m0 := Y1.out.lt
  have m1 := V1.out.lt
  have m2 := R1.out.lt
  go_wp2_with (go_at_call 88; refine (clamp_any _ _ HO.out _).mono ?_; rintro e w' ⟨rfl, rfl⟩)
  rw [rounds_succ]
  have ii := fun W => ix9_1 q W
  go_wp2_with fail
  clear ii
  refine (mixed_any _ _ _ _ _ _ _ (HPB.out 3 0 (by omega) (by omega)) (HPB.out 4 1 (by omega) (by omega)) (HPB.out 5 2 (by omega) (by omega))).mono ?_
  rintro e w2 ⟨rfl, hb⟩
  have V2 := Lib.hid ((((V1.out.set 0 (.int .i64 (clk o (rnd (q 0 * y 0 + q 1 * y 1 + q 2 * y 2) 65536))))).alloc (.cells #[.int .i64 (q 3), .int .i64 (q 4), .int .i64 (q 5)] 75)).bel hb)
  have Y2 := Lib.hid ((((Y1.out.oth (c := w.heap.size + 1 + 1 + 1) (by omega) 0 (.int .i64 (clk o (rnd (q 0 * y 0 + q 1 * y 1 + q 2 * y 2) 65536))))).alloc (.cells #[.int .i64 (q 3), .int .i64 (q 4), .int .i64 (q 5)] 75)).bel hb)
  have R2 := Lib.hid ((((R1.out.oth (c := w.heap.size + 1 + 1 + 1) (by omega) 0 (.int .i64 (clk o (rnd (q 0 * y 0 + q 1 * y 1 + q 2 * y 2) 65536))))).alloc (.cells #[.int .i64 (q 3), .int .i64 (q 4), .int .i64 (q 5)] 75)).bel hb)
  have T2 := Lib.hid (blThen (blThenAlloc (bel1 T1.out (c := w.heap.size + 1 + 1 + 1) (by omega) 0 _) _) hb)
  clear hb V1 Y1 R1 T1 y0 y1 y2 l0 f0 m0 m1 m2
  have y0 := Y2.out.c 0 rfl
  have y1 := Y2.out.c 1 rfl
  have y2 := Y2.out.c 2 rfl
  have l0 := V2.out.c 1 rfl
  have f0 := V2.out.f 1
  have m0 := Y2.out.lt
  have m1 := V2.out.lt
  have m2 := R2.out.lt
  go_wp2_with (go_at_call 88; refine (clamp_any _ _ HO.out _).mono ?_; rintro e w' ⟨rfl, rfl⟩)
  rw [rounds_succ]
  have ii := fun W => ix9_2 q W
  go_wp2_with fail
  clear ii
  refine (mixed_any _ _ _ _ _ _ _ (HPB.out 6 0 (by omega) (by omega)) (HPB.out 7 1 (by omega) (by omega)) (HPB.out 8 2 (by omega) (by omega))).mono ?_
  rintro e w3 ⟨rfl, hb⟩
  have V3 := Lib.hid ((((V2.out.set 1 (.int .i64 (clk o (rnd (q 3 * y 0 + q 4 * y 1 + q 5 * y 2) 65536))))).alloc (.cells #[.int .i64 (q 6), .int .i64 (q 7), .int .i64 (q 8)] 75)).bel hb)
  have Y3 := Lib.hid ((((Y2.out.oth (c := w.heap.size + 1 + 1 + 1) (by omega) 1 (.int .i64 (clk o (rnd (q 3 * y 0 + q 4 * y 1 + q 5 * y 2) 65536))))).alloc (.cells #[.int .i64 (q 6), .int .i64 (q 7), .int .i64 (q 8)] 75)).bel hb)
  have R3 := Lib.hid ((((R2.out.oth (c := w.heap.size + 1 + 1 + 1) (by omega) 1 (.int .i64 (clk o (rnd (q 3 * y 0 + q 4 * y 1 + q 5 * y 2) 65536))))).alloc (.cells #[.int .i64 (q 6), .int .i64 (q 7), .int .i64 (q 8)] 75)).bel hb)
  have T3 := Lib.hid (blThen (blThenAlloc (bel1 T2.out (c := w.heap.size + 1 + 1 + 1) (by omega) 1 _) _) hb)
  clear hb V2 Y2 R2 T2 y0 y1 y2 l0 f0 m0 m1 m2
  have y0 := Y3.out.c 0 rfl
  have y1 := Y3.out.c 1 rfl
  have y2 := Y3.out.c 2 rfl
  have l0 := V3.out.c 2 rfl
  have f0 := V3.out.f 2
  have m0 := Y3.out.lt
  have m1 := V3.out.lt
  have m2 := R3.out.lt
  have r0 := R3.out.c 0 rfl
  have r1 := R3.out.c 1 rfl
  have r2 := R3.out.c 2 rfl
  have z0 := R3.out.f 0
  have z1 := R3.out.f 1
  have z2 := R3.out.f 2
  have q0 := V3.out.c 0 rfl
  have q1 := V3.out.c 1 rfl
  have q2 := V3.out.c 2 rfl
  go_wp2_with (go_at_call 88; refine (clamp_any _ _ HO.out _).mono ?_; rintro e w' ⟨rfl, rfl⟩)
  rw [rounds_succ]
  go_wp2_with fail
  have KK := ((((R3.out.oth (c := w.heap.size + 1 + 1 + 1) (by omega) 2 (.int .i64 (clk o (rnd (q 6 * y 0 + q 7 * y 1 + q 8 * y 2) 65536))))).set 0 (.int .i64 (clk o (rnd (q 0 * y 0 + q 1 * y 1 + q 2 * y 2) 65536)))).set 1 (.int .i64 (clk o (rnd (q 3 * y 0 + q 4 * y 1 + q 5 * y 2) 65536)))).set 2 (.int .i64 (clk o (rnd (q 6 * y 0 + q 7 * y 1 + q 8 * y 2) 65536)))
  have k0 := KK.c 0 rfl
  have k1 := KK.c 1 rfl
  have k2 := KK.c 2 rfl
  clear KK
  refine bodyPost_ret (v := .agg #[.int .i64 (clk o (rnd (q 0 * y 0 + q 1 * y 1 + q 2 * y 2) 65536)), .int .i64 (clk o (rnd (q 3 * y 0 + q 4 * y 1 + q 5 * y 2) 65536)), .int .i64 (clk o (rnd (q 6 * y 0 + q 7 * y 1 + q 8 * y 2) 65536))]) (by simp [results, Try.results68, go_sem, k0, k1, k2]) rfl ⟨rfl, ?_⟩
  repeat (refine Below.setCell ?_ (by simp; try omega) _)
  exact T3.out
set_option maxRecDepth 100000 in
set_option maxHeartbeats 4000000 in
theorem ApplyMatrix_any (A P : Option Addr) (n c m d : Nat) (rs : Rws) (xs : List Int) (bs gs : List Nat) (w : World) (h : Hd w (rowsD rs) (.slice A n c) bs) (hp : Hd w (.ints .i64 xs) (.slice P m d) gs) :
    Calls Try.prog 25 #[.agg #[.slice A n c], .slice P m d] w (IAns w (apC rs xs) (apL rs xs)) := by
  have H := Lib.hid h
  have HP := Lib.hid hp
  clear h hp
  go_enter Try.func25, Try.ntmps25
  go_wp2_with fail
  refine (cellsOf_any _ _ _ rs _ _ ((H.out.alloc _).alloc _)).mono ?_
  rintro e w1 ⟨q, rfl, hq, hb⟩
  have HQ := Lib.hid hq
  clear hq
  have hz : w.heap.size + 1 < w1.heap.size := by have := hb.size; simp at this; omega
  have R := Lib.hid ((Bx.new (w.alloc (.cells #[.slice A n c] 49)) #[.int .i64 0, .slice none 0 0] 31 (b := w.heap.size + 1) (by simp)).bel hb)
  have T := Lib.hid (blThen (blThenAlloc (blAlloc w _) _) hb)
  clear hb
  have r0 := R.out.c 0 rfl
  have r1 := R.out.c 1 rfl
  have z0 := R.out.f 0
  have z1 := R.out.f 1
  by_cases h0 : mf rs = 0
  · go_wp2_with fail
    refine (lightsOf_any _ _ _ xs _ ((HP.out.rd.below T.out).alloc _) HP.out.caps.1 HP.out.caps.2).mono ?_
    rintro e w2 ⟨y, rfl, hy, hb⟩
    have hz2 : w1.heap.size < w2.heap.size := by have := hb.size; simp at this; omega
    have R2 := Lib.hid ((R.out.alloc (.cells #[.int .i64 (q 0), .int .i64 (q 1), .int .i64 (q 2), .int .i64 (q 3), .int .i64 (q 4), .int .i64 (q 5), .int .i64 (q 6), .int .i64 (q 7), .int .i64 (q 8)] 104)).bel hb)
    have C2 := Lib.hid ((Bx.new w1 #[.int .i64 (q 0), .int .i64 (q 1), .int .i64 (q 2), .int .i64 (q 3), .int .i64 (q 4), .int .i64 (q 5), .int .i64 (q 6), .int .i64 (q 7), .int .i64 (q 8)] 104 rfl).bel hb)
    have T2 := Lib.hid (blThen (blThenAlloc T.out _) hb)
    clear hb R T r0 r1 z0 z1
    have r0 := R2.out.c 0 rfl
    have r1 := R2.out.c 1 rfl
    have z0 := R2.out.f 0
    have z1 := R2.out.f 1
    by_cases h1 : lf xs = 0
    · have c0 := C2.out.c 0 rfl
      have c1 := C2.out.c 1 rfl
      have c2 := C2.out.c 2 rfl
      have c3 := C2.out.c 3 rfl
      have c4 := C2.out.c 4 rfl
      have c5 := C2.out.c 5 rfl
      have c6 := C2.out.c 6 rfl
      have c7 := C2.out.c 7 rfl
      have c8 := C2.out.c 8 rfl
      have HA := Lib.hid (ap_y h0 h1)
      have HQB : Hid (∀ t, t < 9 → -262144 ≤ q t ∧ q t ≤ 262144) := fun t ht => by rw [HQ.out h0 t ht]; exact fl_bd h0 t ht
      have HYB : Hid (∀ t, t < 3 → 0 ≤ y t ∧ y t ≤ 16776960) := fun t ht => by rw [hy h1 t ht]; have := inB_iff.1 ((lf_zero h1).2 t ht); omega
      have HV : Hid (∀ i, i < 3 → apK 1 q y i = apV (fl rs) (xs.getD · 0) i) := fun i hi => by
        rw [apK_1]
        unfold apV apS
        rw [HQ.out h0 (3 * i) (by omega), HQ.out h0 (3 * i + 1) (by omega), HQ.out h0 (3 * i + 2) (by omega), hy h1 0 (by omega), hy h1 1 (by omega), hy h1 2 (by omega)]
      rw [h1]
      clear hy h1
      go_wp2_with fail
      refine (matrixAt_k 1 (.inl rfl) q y _ HQB.out HYB.out).mono ?_
      rintro e w3 ⟨rfl, hb⟩
      have R3 := Lib.hid ((R2.out.alloc (.cells #[.int .i64 (y 0), .int .i64 (y 1), .int .i64 (y 2)] 75)).bel hb)
      have T3 := Lib.hid (blThen (blThenAlloc T2.out _) hb)
      rw [HV.out 0 (by omega), HV.out 1 (by omega), HV.out 2 (by omega)]
      have HA1 := Lib.hid HA.out.1
      have HA2 := Lib.hid HA.out.2
      obtain ⟨v, hv⟩ : ∃ v, v = apV (fl rs) (xs.getD · 0) := ⟨_, rfl⟩
      replace HA2 : Hid (apL rs xs = [v 0, v 1, v 2]) := by show _ = _; rw [HA2.out, hv]
      rw [← hv]
      have hz3 : w2.heap.size < w3.heap.size := by have := hb.size; simp at this; omega
      clear hb R2 T2 C2 HV HQB HYB r0 r1 z0 z1 c0 c1 c2 c3 c4 c5 c6 c7 c8 hv HA
      have r0 := R3.out.c 0 rfl
      have r1 := R3.out.c 1 rfl
      have z0 := R3.out.f 0
      have z1 := R3.out.f 1
      have l3 := R3.out.lt
      go_wp2_with fail
      have KK := ((R3.out.set 0 (.int .i64 0)).set 1 (.slice (some ⟨w3.heap.size, 0, none⟩) 3 3)).alloc (.cells #[.int .i64 (v 0), .int .i64 (v 1), .int .i64 (v 2)] 75)
      have k0 := KK.c 0 rfl
      have k1 := KK.c 1 rfl
      clear KK
      refine bodyPost_ret (v := .agg #[.int .i64 0, .slice (some ⟨w3.heap.size, 0, none⟩) 3 3]) (by simp [results, Try.results25, go_sem, k0, k1]) rfl ⟨_, _, _, by rw [HA1.out], ?_, ?_⟩
      · rw [HA2.out]
        exact al_own _ _ _ _ _ _ _ _ _ (by omega)
      · exact blThenAlloc (bel1 (bel1 T3.out (c := w.heap.size + 1) (by omega) 0 _) (c := w.heap.size + 1) (by omega) 1 _) _
    · have HA := Lib.hid (ap_l (xs := xs) h0 h1)
      have m2 := R2.out.lt
      have k0 := (((R2.out.set 0 (.int .i64 (lf xs))).set 1 (.slice none 0 0)).alloc (.cells #[.int .i64 (y 0), .int .i64 (y 1), .int .i64 (y 2)] 75)).c 0 rfl
      have k1 := (((R2.out.set 0 (.int .i64 (lf xs))).set 1 (.slice none 0 0)).alloc (.cells #[.int .i64 (y 0), .int .i64 (y 1), .int .i64 (y 2)] 75)).c 1 rfl
      clear hy
      go_wp2_with fail
      refine bodyPost_ret (v := .agg #[.int .i64 (lf xs), .slice none 0 0]) (by simp [results, Try.results25, go_sem, k0, k1]) rfl (IAns.bad HA.out ?_)
      refine blThenAlloc ?_ _
      repeat (refine Below.setCell ?_ (by simp) _)
      exact T2.out
  · have HA := Lib.hid (ap_f (xs := xs) h0)
    have k0 := (((R.out.set 0 (.int .i64 (mf rs))).set 1 (.slice none 0 0)).alloc (.cells #[.int .i64 (q 0), .int .i64 (q 1), .int .i64 (q 2), .int .i64 (q 3), .int .i64 (q 4), .int .i64 (q 5), .int .i64 (q 6), .int .i64 (q 7), .int .i64 (q 8)] 104)).c 0 rfl
    have k1 := (((R.out.set 0 (.int .i64 (mf rs))).set 1 (.slice none 0 0)).alloc (.cells #[.int .i64 (q 0), .int .i64 (q 1), .int .i64 (q 2), .int .i64 (q 3), .int .i64 (q 4), .int .i64 (q 5), .int .i64 (q 6), .int .i64 (q 7), .int .i64 (q 8)] 104)).c 1 rfl
    go_wp2_with fail
    refine bodyPost_ret (v := .agg #[.int .i64 (mf rs), .slice none 0 0]) (by simp [results, Try.results25, go_sem, k0, k1]) rfl (IAns.bad HA.out ?_)
    refine blThenAlloc ?_ _
    repeat (refine Below.setCell ?_ (by simp) _)
    exact T.out
end Go.Proofs.Ythplngcdldongaa
