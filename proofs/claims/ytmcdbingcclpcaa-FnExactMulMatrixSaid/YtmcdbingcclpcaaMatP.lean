/-
  A colour through a matrix: the program's ApplyMatrix.
-/
import Derived.Test.YtmcdbingcclpcaaMat4
import Derived.Test.YtmcdbingcclpcaaMatM
import Derived.Test.YtmcdbingcclpcaaMatC
import Derived.Test.YtmcdbingcclpcaaGrdQ
import Derived.Test.YtmcdbingcclpcaaBx
namespace Go.Proofs.Ytmcdbingcclpcaa
open Go.RowKit
set_option linter.unusedVariables false
set_option linter.unusedSimpArgs false

def apC (rs : Rws) (xs : List Int) : Int := if mf rs = 0 then lf xs else mf rs
def apS (q x : Nat → Int) (i : Nat) : Int := q (3 * i) * x 0 + q (3 * i + 1) * x 1 + q (3 * i + 2) * x 2
def apV (q x : Nat → Int) (i : Nat) : Int := clp (rnd (apS q x i) 65536)
def apL (rs : Rws) (xs : List Int) : List Int := if mf rs = 0 ∧ lf xs = 0 then [apV (fl rs) (xs.getD · 0) 0, apV (fl rs) (xs.getD · 0) 1, apV (fl rs) (xs.getD · 0) 2] else []
theorem ap_f {rs : Rws} {xs : List Int} (h : mf rs ≠ 0) : apC rs xs = mf rs ∧ apL rs xs = [] := ⟨by unfold apC; rw [if_neg h], by unfold apL; rw [if_neg (fun q => h q.1)]⟩
theorem ap_l {rs : Rws} {xs : List Int} (h : mf rs = 0) (h1 : lf xs ≠ 0) : apC rs xs = lf xs ∧ apL rs xs = [] := ⟨by unfold apC; rw [if_pos h], by unfold apL; rw [if_neg (fun q => h1 q.2)]⟩
theorem ap_y {rs : Rws} {xs : List Int} (h : mf rs = 0) (h1 : lf xs = 0) : apC rs xs = 0 ∧ apL rs xs = [apV (fl rs) (xs.getD · 0) 0, apV (fl rs) (xs.getD · 0) 1, apV (fl rs) (xs.getD · 0) 2] := ⟨by unfold apC; rw [if_pos h, h1], by unfold apL; rw [if_pos ⟨h, h1⟩]⟩
theorem ap_len (rs : Rws) (xs : List Int) : (apL rs xs).length ≤ 3 := by unfold apL; split <;> simp
theorem ap_bd {a b : Int} (ha : -262144 ≤ a ∧ a ≤ 262144) (hb : 0 ≤ b ∧ b ≤ 65535) : -100000000000 ≤ a * b ∧ a * b ≤ 100000000000 := by
  have := mulbd (a := a) (b := b) 262144 65535 (by omega) (by omega)
  omega
theorem make3 (W : World) : (Instr.makeSlice 27 (.int .i64 3) (.int .i64 3)).run Try.prog W = .ok (.slice (some ⟨W.heap.size, 0, none⟩) 3 3) (W.alloc (.cells #[.int .i64 0, .int .i64 0, .int .i64 0] 2)) := by
  have h := run_make_many (P := Try.prog) 27 2 (.int .i64 0) 1 8 Try.underlying27 info_i64 .i64 .i64 3 (by omega) (by omega) W
  have e : madeCells (Value.int .i64 0).cells (3 * 1) = #[.int .i64 0, .int .i64 0, .int .i64 0] := by first | kernel_rfl | (simp [madeCells, Value.cells]; rfl)
  rw [e] at h
  exact h
set_option maxRecDepth 100000 in
set_option maxHeartbeats 4000000 in
theorem ApplyMatrix_any (A P : Option Addr) (n c m d : Nat) (rs : Rws) (xs : List Int) (bs gs : List Nat) (w : World) (h : Hd w (rowsD rs) (.slice A n c) bs) (hp : Hd w (.ints .i64 xs) (.slice P m d) gs) :
    Calls Try.prog 14 #[.agg #[.slice A n c], .slice P m d] w (IAns w (apC rs xs) (apL rs xs)) := by
  have H := Lib.hid h
  have HP := Lib.hid hp
  clear h hp
  go_enter Try.func14, Try.ntmps14
  go_wp2_with fail
  refine (cellsOf_any _ _ _ rs _ _ ((H.out.alloc _).alloc _)).mono ?_
  rintro e w1 ⟨q, rfl, hq, hb⟩
  have HQ := Lib.hid hq
  clear hq
  have hz : w.heap.size + 1 < w1.heap.size := by have := hb.size; simp at this; omega
  have R := Lib.hid ((Bx.new (w.alloc (.cells #[.slice A n c] 26)) #[.int .i64 0, .slice none 0 0] 31 (b := w.heap.size + 1) (by simp)).bel hb)
  have T := Lib.hid (blThen (blThenAlloc (blAlloc w _) _) hb)
  clear hb
  have r0 := R.out.c 0 rfl
  have r1 := R.out.c 1 rfl
  have z0 := R.out.f 0
  have z1 := R.out.f 1
  by_cases h0 : mf rs = 0
  · go_wp2_with fail
    refine (lightsOf_any _ _ _ xs _ ((HP.out.rd.below T.out).alloc _) HP.out.caps.1 HP.out.caps.2).mono ?_
    rintro e w2 ⟨y, rfl, hy, hb⟩
    have hz2 : w1.heap.size < w2.heap.size := by have := hb.size; simp at this; omega
    have R2 := Lib.hid ((R.out.alloc (.cells #[.int .i64 (q 0), .int .i64 (q 1), .int .i64 (q 2), .int .i64 (q 3), .int .i64 (q 4), .int .i64 (q 5), .int .i64 (q 6), .int .i64 (q 7), .int .i64 (q 8)] 108)).bel hb)
    have C2 := Lib.hid ((Bx.new w1 #[.int .i64 (q 0), .int .i64 (q 1), .int .i64 (q 2), .int .i64 (q 3), .int .i64 (q 4), .int .i64 (q 5), .int .i64 (q 6), .int .i64 (q 7), .int .i64 (q 8)] 108 rfl).bel hb)
    have T2 := Lib.hid (blThen (blThenAlloc T.out _) hb)
    clear hb R T r0 r1 z0 z1
    have r0 := R2.out.c 0 rfl
    have r1 := R2.out.c 1 rfl
    have z0 := R2.out.f 0
    have z1 := R2.out.f 1
    by_cases h1 : lf xs = 0
    · have c0 := C2.out.c 0 rfl
      have c1 := C2.out.c 1 rfl
      have c2 := C2.out.c 2 rfl
      have c3 := C2.out.c 3 rfl
      have c4 := C2.out.c 4 rfl
      have c5 := C2.out.c 5 rfl
      have c6 := C2.out.c 6 rfl
      have c7 := C2.out.c 7 rfl
      have c8 := C2.out.c 8 rfl
      have HA := Lib.hid (ap_y h0 h1)
      have HQB : Hid (∀ t, t < 9 → -262144 ≤ q t ∧ q t ≤ 262144) := fun t ht => by rw [HQ.out h0 t ht]; exact fl_bd h0 t ht
      have HYB : Hid (∀ t, t < 3 → 0 ≤ y t ∧ y t ≤ 65535) := fun t ht => by rw [hy h1 t ht]; exact inB_iff.1 ((lf_zero h1).2 t ht)
      have HV : Hid (∀ i, i < 3 → apV (fl rs) (xs.getD · 0) i = clp (rnd (q (3 * i) * y 0 + q (3 * i + 1) * y 1 + q (3 * i + 2) * y 2) 65536)) := fun i hi => by
        unfold apV apS
        rw [HQ.out h0 (3 * i) (by omega), HQ.out h0 (3 * i + 1) (by omega), HQ.out h0 (3 * i + 2) (by omega), hy h1 0 (by omega), hy h1 1 (by omega), hy h1 2 (by omega)]
      clear hy
      have hmk := fun W => make3 W
      go_wp2_with fail
      refine wp_loop_rounds 4 ?_
      -- rounds
      rw [rounds_succ]
      have ii := fun W => ix9_0 q W
      go_wp2_with fail
      clear ii
      refine (mixed_any _ _ _ _ _ _ _ (ap_bd (HQB.out 0 (by omega)) (HYB.out 0 (by omega))) (ap_bd (HQB.out 1 (by omega)) (HYB.out 1 (by omega))) (ap_bd (HQB.out 2 (by omega)) (HYB.out 2 (by omega)))).mono ?_
      rintro e w3 ⟨rfl, hb⟩
      have hs3 : w2.heap.size + 2 < w3.heap.size := by have := hb.size; simp at this; omega
      have L3 := Lib.hid (((Bx.new (w2.alloc (.cells #[.int .i64 (y 0), .int .i64 (y 1), .int .i64 (y 2)] 106)) #[.int .i64 0, .int .i64 0, .int .i64 0] 2 (b := w2.heap.size + 1) (by simp)).alloc (.cells #[.int .i64 (q 0), .int .i64 (q 1), .int .i64 (q 2)] 106)).bel hb)
      have Y3 := Lib.hid ((((Bx.new w2 #[.int .i64 (y 0), .int .i64 (y 1), .int .i64 (y 2)] 106 rfl).alloc (.cells #[.int .i64 0, .int .i64 0, .int .i64 0] 2)).alloc (.cells #[.int .i64 (q 0), .int .i64 (q 1), .int .i64 (q 2)] 106)).bel hb)
      have R3 := Lib.hid ((((R2.out.alloc (.cells #[.int .i64 (y 0), .int .i64 (y 1), .int .i64 (y 2)] 106)).alloc (.cells #[.int .i64 0, .int .i64 0, .int .i64 0] 2)).alloc (.cells #[.int .i64 (q 0), .int .i64 (q 1), .int .i64 (q 2)] 106)).bel hb)
      have T3 := Lib.hid (blThen (blThenAlloc (blThenAlloc (blThenAlloc T2.out _) _) _) hb)
      clear hb R2 T2 r0 r1 z0 z1 c0 c1 c2 c3 c4 c5 c6 c7 c8 hmk
      have y0 := Y3.out.c 0 rfl
      have y1 := Y3.out.c 1 rfl
      have y2 := Y3.out.c 2 rfl
      have l0 := L3.out.c 0 rfl
      have f0 := L3.out.f 0
      have m0 := Y3.out.lt
      have m1 := L3.out.lt
      have m2 := R3.out.lt
      go_wp2_with (go_at_call 80; refine (ClampLevel_plain _ _).mono ?_; rintro e w' ⟨rfl, rfl⟩)
      rw [rounds_succ]
      have ii := fun W => ix9_1 q W
      go_wp2_with fail
      clear ii
      refine (mixed_any _ _ _ _ _ _ _ (ap_bd (HQB.out 3 (by omega)) (HYB.out 0 (by omega))) (ap_bd (HQB.out 4 (by omega)) (HYB.out 1 (by omega))) (ap_bd (HQB.out 5 (by omega)) (HYB.out 2 (by omega)))).mono ?_
      rintro e w4 ⟨rfl, hb⟩
      have hs4 : w2.heap.size + 2 < w4.heap.size := by have := hb.size; simp [setSize] at this; omega
      have L4 := Lib.hid (((L3.out.set 0 (.int .i64 (clp (rnd (q 0 * y 0 + q 1 * y 1 + q 2 * y 2) 65536)))).alloc (.cells #[.int .i64 (q 3), .int .i64 (q 4), .int .i64 (q 5)] 106)).bel hb)
      have Y4 := Lib.hid (((Y3.out.oth (c := w2.heap.size + 1) (by omega) 0 (.int .i64 (clp (rnd (q 0 * y 0 + q 1 * y 1 + q 2 * y 2) 65536)))).alloc (.cells #[.int .i64 (q 3), .int .i64 (q 4), .int .i64 (q 5)] 106)).bel hb)
      have R4 := Lib.hid (((R3.out.oth (c := w2.heap.size + 1) (by omega) 0 (.int .i64 (clp (rnd (q 0 * y 0 + q 1 * y 1 + q 2 * y 2) 65536)))).alloc (.cells #[.int .i64 (q 3), .int .i64 (q 4), .int .i64 (q 5)] 106)).bel hb)
      have T4 := Lib.hid (blThen (blThenAlloc (Below.setCell T3.out (by simp; omega) _) _) hb)
      clear hb L3 Y3 R3 T3 y0 y1 y2 l0 f0 m0 m1 m2
      have y0 := Y4.out.c 0 rfl
      have y1 := Y4.out.c 1 rfl
      have y2 := Y4.out.c 2 rfl
      have l0 := L4.out.c 1 rfl
      have f0 := L4.out.f 1
      have m0 := Y4.out.lt
      have m1 := L4.out.lt
      have m2 := R4.out.lt
      go_wp2_with (go_at_call 80; refine (ClampLevel_plain _ _).mono ?_; rintro e w' ⟨rfl, rfl⟩)
      rw [rounds_succ]
      have ii := fun W => ix9_2 q W
      go_wp2_with fail
      clear ii
      refine (mixed_any _ _ _ _ _ _ _ (ap_bd (HQB.out 6 (by omega)) (HYB.out 0 (by omega))) (ap_bd (HQB.out 7 (by omega)) (HYB.out 1 (by omega))) (ap_bd (HQB.out 8 (by omega)) (HYB.out 2 (by omega)))).mono ?_
      rintro e w5 ⟨rfl, hb⟩
      have hs5 : w2.heap.size + 2 < w5.heap.size := by have := hb.size; simp [setSize] at this; omega
      have L5 := Lib.hid (((L4.out.set 1 (.int .i64 (clp (rnd (q 3 * y 0 + q 4 * y 1 + q 5 * y 2) 65536)))).alloc (.cells #[.int .i64 (q 6), .int .i64 (q 7), .int .i64 (q 8)] 106)).bel hb)
      have Y5 := Lib.hid (((Y4.out.oth (c := w2.heap.size + 1) (by omega) 1 (.int .i64 (clp (rnd (q 3 * y 0 + q 4 * y 1 + q 5 * y 2) 65536)))).alloc (.cells #[.int .i64 (q 6), .int .i64 (q 7), .int .i64 (q 8)] 106)).bel hb)
      have R5 := Lib.hid (((R4.out.oth (c := w2.heap.size + 1) (by omega) 1 (.int .i64 (clp (rnd (q 3 * y 0 + q 4 * y 1 + q 5 * y 2) 65536)))).alloc (.cells #[.int .i64 (q 6), .int .i64 (q 7), .int .i64 (q 8)] 106)).bel hb)
      have T5 := Lib.hid (blThen (blThenAlloc (Below.setCell T4.out (by simp; omega) _) _) hb)
      clear hb L4 Y4 R4 T4 y0 y1 y2 l0 f0 m0 m1 m2
      have y0 := Y5.out.c 0 rfl
      have y1 := Y5.out.c 1 rfl
      have y2 := Y5.out.c 2 rfl
      have l0 := L5.out.c 2 rfl
      have f0 := L5.out.f 2
      have m0 := Y5.out.lt
      have m1 := L5.out.lt
      have m2 := R5.out.lt
      have r0 := R5.out.c 0 rfl
      have r1 := R5.out.c 1 rfl
      have z0 := R5.out.f 0
      have z1 := R5.out.f 1
      go_wp2_with (go_at_call 80; refine (ClampLevel_plain _ _).mono ?_; rintro e w' ⟨rfl, rfl⟩)
      rw [rounds_succ]
      go_wp2_with fail
      have k0 := (((R5.out.oth (c := w2.heap.size + 1) (by omega) 2 (.int .i64 (clp (rnd (q 6 * y 0 + q 7 * y 1 + q 8 * y 2) 65536)))).set 0 (.int .i64 0)).set 1 (.slice (some ⟨w2.heap.size + 1, 0, none⟩) 3 3)).c 0 rfl
      have k1 := (((R5.out.oth (c := w2.heap.size + 1) (by omega) 2 (.int .i64 (clp (rnd (q 6 * y 0 + q 7 * y 1 + q 8 * y 2) 65536)))).set 0 (.int .i64 0)).set 1 (.slice (some ⟨w2.heap.size + 1, 0, none⟩) 3 3)).c 1 rfl
      have L6 := (((L5.out.set 2 (.int .i64 (clp (rnd (q 6 * y 0 + q 7 * y 1 + q 8 * y 2) 65536)))).oth (c := w.heap.size + 1) (by omega) 0 (.int .i64 0)).oth (c := w.heap.size + 1) (by omega) 1 (.slice (some ⟨w2.heap.size + 1, 0, none⟩) 3 3))
      refine bodyPost_ret (v := .agg #[.int .i64 0, .slice (some ⟨w2.heap.size + 1, 0, none⟩) 3 3]) (by simp [results, Try.results14, go_sem, k0, k1]) rfl ⟨_, _, _, by rw [HA.out.1], ?_, ?_⟩
      · rw [HA.out.2]
        exact own3 (by rw [HV.out 0 (by omega)]; exact L6.c 0 rfl) (by rw [HV.out 1 (by omega)]; exact L6.c 1 rfl) (by rw [HV.out 2 (by omega)]; exact L6.c 2 rfl) (by have := T5.out.size; omega) L6.lt L6.th
      · repeat (refine Below.setCell ?_ (by simp; try omega) _)
        exact T5.out
      -- end rounds
    · have HA := Lib.hid (ap_l (xs := xs) h0 h1)
      have m2 := R2.out.lt
      have k0 := (((R2.out.set 0 (.int .i64 (lf xs))).set 1 (.slice none 0 0)).alloc (.cells #[.int .i64 (y 0), .int .i64 (y 1), .int .i64 (y 2)] 106)).c 0 rfl
      have k1 := (((R2.out.set 0 (.int .i64 (lf xs))).set 1 (.slice none 0 0)).alloc (.cells #[.int .i64 (y 0), .int .i64 (y 1), .int .i64 (y 2)] 106)).c 1 rfl
      clear hy
      go_wp2_with fail
      refine bodyPost_ret (v := .agg #[.int .i64 (lf xs), .slice none 0 0]) (by simp [results, Try.results14, go_sem, k0, k1]) rfl (IAns.bad HA.out ?_)
      refine blThenAlloc ?_ _
      repeat (refine Below.setCell ?_ (by simp) _)
      exact T2.out
  · have HA := Lib.hid (ap_f (xs := xs) h0)
    have k0 := (((R.out.set 0 (.int .i64 (mf rs))).set 1 (.slice none 0 0)).alloc (.cells #[.int .i64 (q 0), .int .i64 (q 1), .int .i64 (q 2), .int .i64 (q 3), .int .i64 (q 4), .int .i64 (q 5), .int .i64 (q 6), .int .i64 (q 7), .int .i64 (q 8)] 108)).c 0 rfl
    have k1 := (((R.out.set 0 (.int .i64 (mf rs))).set 1 (.slice none 0 0)).alloc (.cells #[.int .i64 (q 0), .int .i64 (q 1), .int .i64 (q 2), .int .i64 (q 3), .int .i64 (q 4), .int .i64 (q 5), .int .i64 (q 6), .int .i64 (q 7), .int .i64 (q 8)] 108)).c 1 rfl
    go_wp2_with fail
    refine bodyPost_ret (v := .agg #[.int .i64 (mf rs), .slice none 0 0]) (by simp [results, Try.results14, go_sem, k0, k1]) rfl (IAns.bad HA.out ?_)
    refine blThenAlloc ?_ _
    repeat (refine Below.setCell ?_ (by simp) _)
    exact T.out
end Go.Proofs.Ytmcdbingcclpcaa
