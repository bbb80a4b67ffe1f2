/-
  Matrices: the determinant of what is left without a row and a place: the program's leftWithout, the model's l4Minor.
-/
import Derived.Test.YtmcdbingcclpcaaMat2
import Derived.Deep.RegionHeld3
namespace Go.Proofs.Ytmcdbingcclpcaa
open Go.RowKit
set_option linter.unusedVariables false
set_option linter.unusedSimpArgs false

theorem mulbd {a b : Int} (A B : Nat) (h1 : a.natAbs ≤ A) (h2 : b.natAbs ≤ B) : (a * b).natAbs ≤ A * B := by
  rw [Int.natAbs_mul]; exact Nat.mul_le_mul h1 h2
/-- each of the nine is a fix of a matrix. -/
def Q9 (q : Nat → Int) : Prop := ∀ t, t < 9 → (q t).natAbs ≤ 262144
theorem Q9.mul {q : Nat → Int} (h : Q9 q) {s t : Nat} (hs : s < 9) (ht : t < 9) : -68719476736 ≤ q s * q t ∧ q s * q t ≤ 68719476736 := by
  have := mulbd _ _ (h s hs) (h t ht)
  omega
def mnr (q : Nat → Int) (r p : Nat) : Int := q (3 * ((r + 1) % 3) + (p + 1) % 3) * q (3 * ((r + 2) % 3) + (p + 2) % 3) - q (3 * ((r + 1) % 3) + (p + 2) % 3) * q (3 * ((r + 2) % 3) + (p + 1) % 3)
theorem mnr_bd {q : Nat → Int} (h : Q9 q) (r p : Nat) : (mnr q r p).natAbs ≤ 137438953472 := by
  unfold mnr
  have h1 := h.mul (s := 3 * ((r + 1) % 3) + (p + 1) % 3) (t := 3 * ((r + 2) % 3) + (p + 2) % 3) (by omega) (by omega)
  have h2 := h.mul (s := 3 * ((r + 1) % 3) + (p + 2) % 3) (t := 3 * ((r + 2) % 3) + (p + 1) % 3) (by omega) (by omega)
  omega
/-- the three rows of a matrix without a fault, as they lie. -/
theorem Hd.three {w : World} {rs : Rws} {A : Option Addr} {n c : Nat} {bs : List Nat} (h : Hd w (rowsD rs) (.slice A n c) bs) (h0 : mf rs = 0) :
    n = 3 ∧ ∃ b o, A = some ⟨b, o, none⟩ ∧ ∀ i, i < 3 → ∃ b1 o1 C, w.cell? ⟨b, o + i, none⟩ = some (.slice (some ⟨b1, o1, none⟩) 3 C) ∧ 3 ≤ C ∧ ∀ k, k < 3 → w.cell? ⟨b1, o1 + k, none⟩ = some (.int .i64 (fl rs (3 * i + k))) := by
  obtain ⟨hl, _, _, hf⟩ := h.rows
  obtain rfl : n = 3 := hl.symm.trans (mf_zero h0).1
  obtain ⟨b, o, rfl, hf2⟩ := hf (by omega)
  refine ⟨rfl, b, o, rfl, fun i hi => ?_⟩
  obtain ⟨B, L, C, gs, c1, hd, _⟩ := hf2 i hi
  obtain rfl : L = 3 := hd.rd.1.symm.trans (mf_lens h0 i hi)
  obtain ⟨b1, o1, rfl, hx⟩ := hd.rd.2 (by omega)
  exact ⟨b1, o1, C, c1, hd.caps.1, fun k hk => by rw [fl_at rs i k hk]; exact hx k hk⟩
theorem fl_Q9 {rs : Rws} (h : mf rs = 0) : Q9 (fl rs) := fun t ht => by have := fl_bd h t ht; omega

set_option maxRecDepth 100000 in
set_option maxHeartbeats 2000000 in
theorem leftWithout_00 (q : Nat → Int) (w : World) (h : Q9 q) :
    Calls Try.prog 87 #[.agg #[.int .i64 (q 0), .int .i64 (q 1), .int .i64 (q 2), .int .i64 (q 3), .int .i64 (q 4), .int .i64 (q 5), .int .i64 (q 6), .int .i64 (q 7), .int .i64 (q 8)], .int .i64 0, .int .i64 0] w fun e w' => e = .returned (.int .i64 (mnr q 0 0)) ∧ Below w.heap.size w w' := by
  obtain ⟨h1a, h1b⟩ := h.mul (s := 4) (t := 8) (by omega) (by omega)
  obtain ⟨h2a, h2b⟩ := h.mul (s := 5) (t := 7) (by omega) (by omega)
  have hm : mnr q 0 0 = q 4 * q 8 - q 5 * q 7 := rfl
  have HM := Lib.hid hm
  clear h hm
  have i1 : IntKind.i64.wrap (0 + 1) = 1 := by decide
  have i2 : IntKind.i64.wrap 1 = 1 := by decide
  have i3 : Int.tmod 1 3 = 1 := by decide
  have i4 : IntKind.i64.wrap (0 + 2) = 2 := by decide
  have i5 : IntKind.i64.wrap 2 = 2 := by decide
  have i6 : Int.tmod 2 3 = 2 := by decide
  have i7 : IntKind.i64.wrap 1 = 1 := by decide
  have i8 : IntKind.i64.wrap 2 = 2 := by decide
  go_enter Try.func87, Try.ntmps87
  go_wp2_with fail
  go_region_held3 (fun w' => w'.cell? ⟨w.heap.size, 0, none⟩ = some (.int .i64 (q 0)) ∧ w'.cell? ⟨w.heap.size, 1, none⟩ = some (.int .i64 (q 1)) ∧ w'.cell? ⟨w.heap.size, 2, none⟩ = some (.int .i64 (q 2)) ∧ w'.cell? ⟨w.heap.size, 3, none⟩ = some (.int .i64 (q 3)) ∧ w'.cell? ⟨w.heap.size, 4, none⟩ = some (.int .i64 (q 4)) ∧ w'.cell? ⟨w.heap.size, 5, none⟩ = some (.int .i64 (q 5)) ∧ w'.cell? ⟨w.heap.size, 6, none⟩ = some (.int .i64 (q 6)) ∧ w'.cell? ⟨w.heap.size, 7, none⟩ = some (.int .i64 (q 7)) ∧ w'.cell? ⟨w.heap.size, 8, none⟩ = some (.int .i64 (q 8))) (first | (go_split_ands; refine ⟨?_, ?_, ?_, ?_, ?_, ?_, ?_, ?_, ?_⟩ <;> go_keep) | simp) (fail)
  all_goals go_split_ands
  all_goals
    go_wp2_with fail
    go_quiet (fail)
    go_wp2_with fail
    go_ret
    refine ⟨by rw [HM.out]; rfl, ?_⟩
    repeat (first | with_reducible exact Below.refl _ _ | with_reducible refine Below.setCell ?_ (by simp) _ | with_reducible refine blThenAlloc ?_ _ | with_reducible refine blThenDrew ?_ _ | with_reducible refine Below.drew ?_)
set_option maxRecDepth 100000 in
set_option maxHeartbeats 2000000 in
theorem sMinor_00 (g o : Nat) (A : Option Addr) (n c : Nat) (rs : Rws) (bs : List Nat) (w : World) (h : Hd w (rowsD rs) (.slice A n c) bs) (h0 : mf rs = 0) (hg : w.cell? ⟨g, o, none⟩ = some (.slice A n c)) :
    Calls Try.prog 96 #[.pointer (some ⟨g, o, none⟩), .int .i64 0, .int .i64 0] w fun e w' => e = .returned (.int .i64 (mnr (fl rs) 0 0)) ∧ ∃ m, w' = w.drewN m := by
  have hq := fl_Q9 h0
  obtain ⟨h1a, h1b⟩ := hq.mul (s := 4) (t := 8) (by omega) (by omega)
  obtain ⟨h2a, h2b⟩ := hq.mul (s := 5) (t := 7) (by omega) (by omega)
  have hm : mnr (fl rs) 0 0 = fl rs 4 * fl rs 8 - fl rs 5 * fl rs 7 := rfl
  obtain ⟨rfl, b, o', rfl, hrow⟩ := h.three h0
  obtain ⟨ba, oa, Ca, xa, la, ya⟩ := hrow 1 (by omega)
  obtain ⟨bb, ob, Cb, xb, lb, yb⟩ := hrow 2 (by omega)
  have y1 := ya 1 (by omega)
  have y2 := yb 2 (by omega)
  have y3 := ya 2 (by omega)
  have y4 := yb 1 (by omega)
  simp only [Nat.reduceMul, Nat.reduceAdd, Nat.add_zero] at y1 y2 y3 y4 xa xb
  have HM := Lib.hid hm
  clear h h0 hq hm hrow ya yb
  generalize fl rs 4 = vx at *
  generalize fl rs 8 = vy at *
  generalize fl rs 5 = vz at *
  generalize fl rs 7 = vu at *
  go_enter Try.func96, Try.ntmps96
  go_wp2_with fail
  go_quiet (fail)
  go_wp2_with fail
  go_ret
  exact ⟨by rw [HM.out]; rfl, _, rfl⟩

set_option maxRecDepth 100000 in
set_option maxHeartbeats 2000000 in
theorem leftWithout_01 (q : Nat → Int) (w : World) (h : Q9 q) :
    Calls Try.prog 87 #[.agg #[.int .i64 (q 0), .int .i64 (q 1), .int .i64 (q 2), .int .i64 (q 3), .int .i64 (q 4), .int .i64 (q 5), .int .i64 (q 6), .int .i64 (q 7), .int .i64 (q 8)], .int .i64 0, .int .i64 1] w fun e w' => e = .returned (.int .i64 (mnr q 0 1)) ∧ Below w.heap.size w w' := by
  obtain ⟨h1a, h1b⟩ := h.mul (s := 5) (t := 6) (by omega) (by omega)
  obtain ⟨h2a, h2b⟩ := h.mul (s := 3) (t := 8) (by omega) (by omega)
  have hm : mnr q 0 1 = q 5 * q 6 - q 3 * q 8 := rfl
  have HM := Lib.hid hm
  clear h hm
  have i1 : IntKind.i64.wrap (0 + 1) = 1 := by decide
  have i2 : IntKind.i64.wrap 1 = 1 := by decide
  have i3 : Int.tmod 1 3 = 1 := by decide
  have i4 : IntKind.i64.wrap (0 + 2) = 2 := by decide
  have i5 : IntKind.i64.wrap 2 = 2 := by decide
  have i6 : Int.tmod 2 3 = 2 := by decide
  have i7 : IntKind.i64.wrap 1 = 1 := by decide
  have i8 : IntKind.i64.wrap 2 = 2 := by decide
  go_enter Try.func87, Try.ntmps87
  go_wp2_with fail
  go_region_held3 (fun w' => w'.cell? ⟨w.heap.size, 0, none⟩ = some (.int .i64 (q 0)) ∧ w'.cell? ⟨w.heap.size, 1, none⟩ = some (.int .i64 (q 1)) ∧ w'.cell? ⟨w.heap.size, 2, none⟩ = some (.int .i64 (q 2)) ∧ w'.cell? ⟨w.heap.size, 3, none⟩ = some (.int .i64 (q 3)) ∧ w'.cell? ⟨w.heap.size, 4, none⟩ = some (.int .i64 (q 4)) ∧ w'.cell? ⟨w.heap.size, 5, none⟩ = some (.int .i64 (q 5)) ∧ w'.cell? ⟨w.heap.size, 6, none⟩ = some (.int .i64 (q 6)) ∧ w'.cell? ⟨w.heap.size, 7, none⟩ = some (.int .i64 (q 7)) ∧ w'.cell? ⟨w.heap.size, 8, none⟩ = some (.int .i64 (q 8))) (first | (go_split_ands; refine ⟨?_, ?_, ?_, ?_, ?_, ?_, ?_, ?_, ?_⟩ <;> go_keep) | simp) (fail)
  all_goals go_split_ands
  all_goals
    go_wp2_with fail
    go_quiet (fail)
    go_wp2_with fail
    go_ret
    refine ⟨by rw [HM.out]; rfl, ?_⟩
    repeat (first | with_reducible exact Below.refl _ _ | with_reducible refine Below.setCell ?_ (by simp) _ | with_reducible refine blThenAlloc ?_ _ | with_reducible refine blThenDrew ?_ _ | with_reducible refine Below.drew ?_)
set_option maxRecDepth 100000 in
set_option maxHeartbeats 2000000 in
theorem sMinor_01 (g o : Nat) (A : Option Addr) (n c : Nat) (rs : Rws) (bs : List Nat) (w : World) (h : Hd w (rowsD rs) (.slice A n c) bs) (h0 : mf rs = 0) (hg : w.cell? ⟨g, o, none⟩ = some (.slice A n c)) :
    Calls Try.prog 96 #[.pointer (some ⟨g, o, none⟩), .int .i64 0, .int .i64 1] w fun e w' => e = .returned (.int .i64 (mnr (fl rs) 0 1)) ∧ ∃ m, w' = w.drewN m := by
  have hq := fl_Q9 h0
  obtain ⟨h1a, h1b⟩ := hq.mul (s := 5) (t := 6) (by omega) (by omega)
  obtain ⟨h2a, h2b⟩ := hq.mul (s := 3) (t := 8) (by omega) (by omega)
  have hm : mnr (fl rs) 0 1 = fl rs 5 * fl rs 6 - fl rs 3 * fl rs 8 := rfl
  obtain ⟨rfl, b, o', rfl, hrow⟩ := h.three h0
  obtain ⟨ba, oa, Ca, xa, la, ya⟩ := hrow 1 (by omega)
  obtain ⟨bb, ob, Cb, xb, lb, yb⟩ := hrow 2 (by omega)
  have y1 := ya 2 (by omega)
  have y2 := yb 0 (by omega)
  have y3 := ya 0 (by omega)
  have y4 := yb 2 (by omega)
  simp only [Nat.reduceMul, Nat.reduceAdd, Nat.add_zero] at y1 y2 y3 y4 xa xb
  have HM := Lib.hid hm
  clear h h0 hq hm hrow ya yb
  generalize fl rs 5 = vx at *
  generalize fl rs 6 = vy at *
  generalize fl rs 3 = vz at *
  generalize fl rs 8 = vu at *
  go_enter Try.func96, Try.ntmps96
  go_wp2_with fail
  go_quiet (fail)
  go_wp2_with fail
  go_ret
  exact ⟨by rw [HM.out]; rfl, _, rfl⟩

set_option maxRecDepth 100000 in
set_option maxHeartbeats 2000000 in
theorem leftWithout_02 (q : Nat → Int) (w : World) (h : Q9 q) :
    Calls Try.prog 87 #[.agg #[.int .i64 (q 0), .int .i64 (q 1), .int .i64 (q 2), .int .i64 (q 3), .int .i64 (q 4), .int .i64 (q 5), .int .i64 (q 6), .int .i64 (q 7), .int .i64 (q 8)], .int .i64 0, .int .i64 2] w fun e w' => e = .returned (.int .i64 (mnr q 0 2)) ∧ Below w.heap.size w w' := by
  obtain ⟨h1a, h1b⟩ := h.mul (s := 3) (t := 7) (by omega) (by omega)
  obtain ⟨h2a, h2b⟩ := h.mul (s := 4) (t := 6) (by omega) (by omega)
  have hm : mnr q 0 2 = q 3 * q 7 - q 4 * q 6 := rfl
  have HM := Lib.hid hm
  clear h hm
  have i1 : IntKind.i64.wrap (0 + 1) = 1 := by decide
  have i2 : IntKind.i64.wrap 1 = 1 := by decide
  have i3 : Int.tmod 1 3 = 1 := by decide
  have i4 : IntKind.i64.wrap (0 + 2) = 2 := by decide
  have i5 : IntKind.i64.wrap 2 = 2 := by decide
  have i6 : Int.tmod 2 3 = 2 := by decide
  have i7 : IntKind.i64.wrap 1 = 1 := by decide
  have i8 : IntKind.i64.wrap 2 = 2 := by decide
  go_enter Try.func87, Try.ntmps87
  go_wp2_with fail
  go_region_held3 (fun w' => w'.cell? ⟨w.heap.size, 0, none⟩ = some (.int .i64 (q 0)) ∧ w'.cell? ⟨w.heap.size, 1, none⟩ = some (.int .i64 (q 1)) ∧ w'.cell? ⟨w.heap.size, 2, none⟩ = some (.int .i64 (q 2)) ∧ w'.cell? ⟨w.heap.size, 3, none⟩ = some (.int .i64 (q 3)) ∧ w'.cell? ⟨w.heap.size, 4, none⟩ = some (.int .i64 (q 4)) ∧ w'.cell? ⟨w.heap.size, 5, none⟩ = some (.int .i64 (q 5)) ∧ w'.cell? ⟨w.heap.size, 6, none⟩ = some (.int .i64 (q 6)) ∧ w'.cell? ⟨w.heap.size, 7, none⟩ = some (.int .i64 (q 7)) ∧ w'.cell? ⟨w.heap.size, 8, none⟩ = some (.int .i64 (q 8))) (first | (go_split_ands; refine ⟨?_, ?_, ?_, ?_, ?_, ?_, ?_, ?_, ?_⟩ <;> go_keep) | simp) (fail)
  all_goals go_split_ands
  all_goals
    go_wp2_with fail
    go_quiet (fail)
    go_wp2_with fail
    go_ret
    refine ⟨by rw [HM.out]; rfl, ?_⟩
    repeat (first | with_reducible exact Below.refl _ _ | with_reducible refine Below.setCell ?_ (by simp) _ | with_reducible refine blThenAlloc ?_ _ | with_reducible refine blThenDrew ?_ _ | with_reducible refine Below.drew ?_)
set_option maxRecDepth 100000 in
set_option maxHeartbeats 2000000 in
theorem sMinor_02 (g o : Nat) (A : Option Addr) (n c : Nat) (rs : Rws) (bs : List Nat) (w : World) (h : Hd w (rowsD rs) (.slice A n c) bs) (h0 : mf rs = 0) (hg : w.cell? ⟨g, o, none⟩ = some (.slice A n c)) :
    Calls Try.prog 96 #[.pointer (some ⟨g, o, none⟩), .int .i64 0, .int .i64 2] w fun e w' => e = .returned (.int .i64 (mnr (fl rs) 0 2)) ∧ ∃ m, w' = w.drewN m := by
  have hq := fl_Q9 h0
  obtain ⟨h1a, h1b⟩ := hq.mul (s := 3) (t := 7) (by omega) (by omega)
  obtain ⟨h2a, h2b⟩ := hq.mul (s := 4) (t := 6) (by omega) (by omega)
  have hm : mnr (fl rs) 0 2 = fl rs 3 * fl rs 7 - fl rs 4 * fl rs 6 := rfl
  obtain ⟨rfl, b, o', rfl, hrow⟩ := h.three h0
  obtain ⟨ba, oa, Ca, xa, la, ya⟩ := hrow 1 (by omega)
  obtain ⟨bb, ob, Cb, xb, lb, yb⟩ := hrow 2 (by omega)
  have y1 := ya 0 (by omega)
  have y2 := yb 1 (by omega)
  have y3 := ya 1 (by omega)
  have y4 := yb 0 (by omega)
  simp only [Nat.reduceMul, Nat.reduceAdd, Nat.add_zero] at y1 y2 y3 y4 xa xb
  have HM := Lib.hid hm
  clear h h0 hq hm hrow ya yb
  generalize fl rs 3 = vx at *
  generalize fl rs 7 = vy at *
  generalize fl rs 4 = vz at *
  generalize fl rs 6 = vu at *
  go_enter Try.func96, Try.ntmps96
  go_wp2_with fail
  go_quiet (fail)
  go_wp2_with fail
  go_ret
  exact ⟨by rw [HM.out]; rfl, _, rfl⟩

set_option maxRecDepth 100000 in
set_option maxHeartbeats 2000000 in
theorem leftWithout_10 (q : Nat → Int) (w : World) (h : Q9 q) :
    Calls Try.prog 87 #[.agg #[.int .i64 (q 0), .int .i64 (q 1), .int .i64 (q 2), .int .i64 (q 3), .int .i64 (q 4), .int .i64 (q 5), .int .i64 (q 6), .int .i64 (q 7), .int .i64 (q 8)], .int .i64 1, .int .i64 0] w fun e w' => e = .returned (.int .i64 (mnr q 1 0)) ∧ Below w.heap.size w w' := by
  obtain ⟨h1a, h1b⟩ := h.mul (s := 7) (t := 2) (by omega) (by omega)
  obtain ⟨h2a, h2b⟩ := h.mul (s := 8) (t := 1) (by omega) (by omega)
  have hm : mnr q 1 0 = q 7 * q 2 - q 8 * q 1 := rfl
  have HM := Lib.hid hm
  clear h hm
  have i1 : IntKind.i64.wrap (1 + 1) = 2 := by decide
  have i2 : IntKind.i64.wrap 2 = 2 := by decide
  have i3 : Int.tmod 2 3 = 2 := by decide
  have i4 : IntKind.i64.wrap (1 + 2) = 3 := by decide
  have i5 : IntKind.i64.wrap 3 = 3 := by decide
  have i6 : Int.tmod 3 3 = 0 := by decide
  have i7 : IntKind.i64.wrap 2 = 2 := by decide
  have i8 : IntKind.i64.wrap 0 = 0 := by decide
  go_enter Try.func87, Try.ntmps87
  go_wp2_with fail
  go_region_held3 (fun w' => w'.cell? ⟨w.heap.size, 0, none⟩ = some (.int .i64 (q 0)) ∧ w'.cell? ⟨w.heap.size, 1, none⟩ = some (.int .i64 (q 1)) ∧ w'.cell? ⟨w.heap.size, 2, none⟩ = some (.int .i64 (q 2)) ∧ w'.cell? ⟨w.heap.size, 3, none⟩ = some (.int .i64 (q 3)) ∧ w'.cell? ⟨w.heap.size, 4, none⟩ = some (.int .i64 (q 4)) ∧ w'.cell? ⟨w.heap.size, 5, none⟩ = some (.int .i64 (q 5)) ∧ w'.cell? ⟨w.heap.size, 6, none⟩ = some (.int .i64 (q 6)) ∧ w'.cell? ⟨w.heap.size, 7, none⟩ = some (.int .i64 (q 7)) ∧ w'.cell? ⟨w.heap.size, 8, none⟩ = some (.int .i64 (q 8))) (first | (go_split_ands; refine ⟨?_, ?_, ?_, ?_, ?_, ?_, ?_, ?_, ?_⟩ <;> go_keep) | simp) (fail)
  all_goals go_split_ands
  all_goals
    go_wp2_with fail
    go_quiet (fail)
    go_wp2_with fail
    go_ret
    refine ⟨by rw [HM.out]; rfl, ?_⟩
    repeat (first | with_reducible exact Below.refl _ _ | with_reducible refine Below.setCell ?_ (by simp) _ | with_reducible refine blThenAlloc ?_ _ | with_reducible refine blThenDrew ?_ _ | with_reducible refine Below.drew ?_)
set_option maxRecDepth 100000 in
set_option maxHeartbeats 2000000 in
theorem sMinor_10 (g o : Nat) (A : Option Addr) (n c : Nat) (rs : Rws) (bs : List Nat) (w : World) (h : Hd w (rowsD rs) (.slice A n c) bs) (h0 : mf rs = 0) (hg : w.cell? ⟨g, o, none⟩ = some (.slice A n c)) :
    Calls Try.prog 96 #[.pointer (some ⟨g, o, none⟩), .int .i64 1, .int .i64 0] w fun e w' => e = .returned (.int .i64 (mnr (fl rs) 1 0)) ∧ ∃ m, w' = w.drewN m := by
  have hq := fl_Q9 h0
  obtain ⟨h1a, h1b⟩ := hq.mul (s := 7) (t := 2) (by omega) (by omega)
  obtain ⟨h2a, h2b⟩ := hq.mul (s := 8) (t := 1) (by omega) (by omega)
  have hm : mnr (fl rs) 1 0 = fl rs 7 * fl rs 2 - fl rs 8 * fl rs 1 := rfl
  obtain ⟨rfl, b, o', rfl, hrow⟩ := h.three h0
  obtain ⟨ba, oa, Ca, xa, la, ya⟩ := hrow 2 (by omega)
  obtain ⟨bb, ob, Cb, xb, lb, yb⟩ := hrow 0 (by omega)
  have y1 := ya 1 (by omega)
  have y2 := yb 2 (by omega)
  have y3 := ya 2 (by omega)
  have y4 := yb 1 (by omega)
  simp only [Nat.reduceMul, Nat.reduceAdd, Nat.add_zero] at y1 y2 y3 y4 xa xb
  have HM := Lib.hid hm
  clear h h0 hq hm hrow ya yb
  generalize fl rs 7 = vx at *
  generalize fl rs 2 = vy at *
  generalize fl rs 8 = vz at *
  generalize fl rs 1 = vu at *
  go_enter Try.func96, Try.ntmps96
  go_wp2_with fail
  go_quiet (fail)
  go_wp2_with fail
  go_ret
  exact ⟨by rw [HM.out]; rfl, _, rfl⟩

set_option maxRecDepth 100000 in
set_option maxHeartbeats 2000000 in
theorem leftWithout_11 (q : Nat → Int) (w : World) (h : Q9 q) :
    Calls Try.prog 87 #[.agg #[.int .i64 (q 0), .int .i64 (q 1), .int .i64 (q 2), .int .i64 (q 3), .int .i64 (q 4), .int .i64 (q 5), .int .i64 (q 6), .int .i64 (q 7), .int .i64 (q 8)], .int .i64 1, .int .i64 1] w fun e w' => e = .returned (.int .i64 (mnr q 1 1)) ∧ Below w.heap.size w w' := by
  obtain ⟨h1a, h1b⟩ := h.mul (s := 8) (t := 0) (by omega) (by omega)
  obtain ⟨h2a, h2b⟩ := h.mul (s := 6) (t := 2) (by omega) (by omega)
  have hm : mnr q 1 1 = q 8 * q 0 - q 6 * q 2 := rfl
  have HM := Lib.hid hm
  clear h hm
  have i1 : IntKind.i64.wrap (1 + 1) = 2 := by decide
  have i2 : IntKind.i64.wrap 2 = 2 := by decide
  have i3 : Int.tmod 2 3 = 2 := by decide
  have i4 : IntKind.i64.wrap (1 + 2) = 3 := by decide
  have i5 : IntKind.i64.wrap 3 = 3 := by decide
  have i6 : Int.tmod 3 3 = 0 := by decide
  have i7 : IntKind.i64.wrap 2 = 2 := by decide
  have i8 : IntKind.i64.wrap 0 = 0 := by decide
  go_enter Try.func87, Try.ntmps87
  go_wp2_with fail
  go_region_held3 (fun w' => w'.cell? ⟨w.heap.size, 0, none⟩ = some (.int .i64 (q 0)) ∧ w'.cell? ⟨w.heap.size, 1, none⟩ = some (.int .i64 (q 1)) ∧ w'.cell? ⟨w.heap.size, 2, none⟩ = some (.int .i64 (q 2)) ∧ w'.cell? ⟨w.heap.size, 3, none⟩ = some (.int .i64 (q 3)) ∧ w'.cell? ⟨w.heap.size, 4, none⟩ = some (.int .i64 (q 4)) ∧ w'.cell? ⟨w.heap.size, 5, none⟩ = some (.int .i64 (q 5)) ∧ w'.cell? ⟨w.heap.size, 6, none⟩ = some (.int .i64 (q 6)) ∧ w'.cell? ⟨w.heap.size, 7, none⟩ = some (.int .i64 (q 7)) ∧ w'.cell? ⟨w.heap.size, 8, none⟩ = some (.int .i64 (q 8))) (first | (go_split_ands; refine ⟨?_, ?_, ?_, ?_, ?_, ?_, ?_, ?_, ?_⟩ <;> go_keep) | simp) (fail)
  all_goals go_split_ands
  all_goals
    go_wp2_with fail
    go_quiet (fail)
    go_wp2_with fail
    go_ret
    refine ⟨by rw [HM.out]; rfl, ?_⟩
    repeat (first | with_reducible exact Below.refl _ _ | with_reducible refine Below.setCell ?_ (by simp) _ | with_reducible refine blThenAlloc ?_ _ | with_reducible refine blThenDrew ?_ _ | with_reducible refine Below.drew ?_)
set_option maxRecDepth 100000 in
set_option maxHeartbeats 2000000 in
theorem sMinor_11 (g o : Nat) (A : Option Addr) (n c : Nat) (rs : Rws) (bs : List Nat) (w : World) (h : Hd w (rowsD rs) (.slice A n c) bs) (h0 : mf rs = 0) (hg : w.cell? ⟨g, o, none⟩ = some (.slice A n c)) :
    Calls Try.prog 96 #[.pointer (some ⟨g, o, none⟩), .int .i64 1, .int .i64 1] w fun e w' => e = .returned (.int .i64 (mnr (fl rs) 1 1)) ∧ ∃ m, w' = w.drewN m := by
  have hq := fl_Q9 h0
  obtain ⟨h1a, h1b⟩ := hq.mul (s := 8) (t := 0) (by omega) (by omega)
  obtain ⟨h2a, h2b⟩ := hq.mul (s := 6) (t := 2) (by omega) (by omega)
  have hm : mnr (fl rs) 1 1 = fl rs 8 * fl rs 0 - fl rs 6 * fl rs 2 := rfl
  obtain ⟨rfl, b, o', rfl, hrow⟩ := h.three h0
  obtain ⟨ba, oa, Ca, xa, la, ya⟩ := hrow 2 (by omega)
  obtain ⟨bb, ob, Cb, xb, lb, yb⟩ := hrow 0 (by omega)
  have y1 := ya 2 (by omega)
  have y2 := yb 0 (by omega)
  have y3 := ya 0 (by omega)
  have y4 := yb 2 (by omega)
  simp only [Nat.reduceMul, Nat.reduceAdd, Nat.add_zero] at y1 y2 y3 y4 xa xb
  have HM := Lib.hid hm
  clear h h0 hq hm hrow ya yb
  generalize fl rs 8 = vx at *
  generalize fl rs 0 = vy at *
  generalize fl rs 6 = vz at *
  generalize fl rs 2 = vu at *
  go_enter Try.func96, Try.ntmps96
  go_wp2_with fail
  go_quiet (fail)
  go_wp2_with fail
  go_ret
  exact ⟨by rw [HM.out]; rfl, _, rfl⟩

set_option maxRecDepth 100000 in
set_option maxHeartbeats 2000000 in
theorem leftWithout_12 (q : Nat → Int) (w : World) (h : Q9 q) :
    Calls Try.prog 87 #[.agg #[.int .i64 (q 0), .int .i64 (q 1), .int .i64 (q 2), .int .i64 (q 3), .int .i64 (q 4), .int .i64 (q 5), .int .i64 (q 6), .int .i64 (q 7), .int .i64 (q 8)], .int .i64 1, .int .i64 2] w fun e w' => e = .returned (.int .i64 (mnr q 1 2)) ∧ Below w.heap.size w w' := by
  obtain ⟨h1a, h1b⟩ := h.mul (s := 6) (t := 1) (by omega) (by omega)
  obtain ⟨h2a, h2b⟩ := h.mul (s := 7) (t := 0) (by omega) (by omega)
  have hm : mnr q 1 2 = q 6 * q 1 - q 7 * q 0 := rfl
  have HM := Lib.hid hm
  clear h hm
  have i1 : IntKind.i64.wrap (1 + 1) = 2 := by decide
  have i2 : IntKind.i64.wrap 2 = 2 := by decide
  have i3 : Int.tmod 2 3 = 2 := by decide
  have i4 : IntKind.i64.wrap (1 + 2) = 3 := by decide
  have i5 : IntKind.i64.wrap 3 = 3 := by decide
  have i6 : Int.tmod 3 3 = 0 := by decide
  have i7 : IntKind.i64.wrap 2 = 2 := by decide
  have i8 : IntKind.i64.wrap 0 = 0 := by decide
  go_enter Try.func87, Try.ntmps87
  go_wp2_with fail
  go_region_held3 (fun w' => w'.cell? ⟨w.heap.size, 0, none⟩ = some (.int .i64 (q 0)) ∧ w'.cell? ⟨w.heap.size, 1, none⟩ = some (.int .i64 (q 1)) ∧ w'.cell? ⟨w.heap.size, 2, none⟩ = some (.int .i64 (q 2)) ∧ w'.cell? ⟨w.heap.size, 3, none⟩ = some (.int .i64 (q 3)) ∧ w'.cell? ⟨w.heap.size, 4, none⟩ = some (.int .i64 (q 4)) ∧ w'.cell? ⟨w.heap.size, 5, none⟩ = some (.int .i64 (q 5)) ∧ w'.cell? ⟨w.heap.size, 6, none⟩ = some (.int .i64 (q 6)) ∧ w'.cell? ⟨w.heap.size, 7, none⟩ = some (.int .i64 (q 7)) ∧ w'.cell? ⟨w.heap.size, 8, none⟩ = some (.int .i64 (q 8))) (first | (go_split_ands; refine ⟨?_, ?_, ?_, ?_, ?_, ?_, ?_, ?_, ?_⟩ <;> go_keep) | simp) (fail)
  all_goals go_split_ands
  all_goals
    go_wp2_with fail
    go_quiet (fail)
    go_wp2_with fail
    go_ret
    refine ⟨by rw [HM.out]; rfl, ?_⟩
    repeat (first | with_reducible exact Below.refl _ _ | with_reducible refine Below.setCell ?_ (by simp) _ | with_reducible refine blThenAlloc ?_ _ | with_reducible refine blThenDrew ?_ _ | with_reducible refine Below.drew ?_)
set_option maxRecDepth 100000 in
set_option maxHeartbeats 2000000 in
theorem sMinor_12 (g o : Nat) (A : Option Addr) (n c : Nat) (rs : Rws) (bs : List Nat) (w : World) (h : Hd w (rowsD rs) (.slice A n c) bs) (h0 : mf rs = 0) (hg : w.cell? ⟨g, o, none⟩ = some (.slice A n c)) :
    Calls Try.prog 96 #[.pointer (some ⟨g, o, none⟩), .int .i64 1, .int .i64 2] w fun e w' => e = .returned (.int .i64 (mnr (fl rs) 1 2)) ∧ ∃ m, w' = w.drewN m := by
  have hq := fl_Q9 h0
  obtain ⟨h1a, h1b⟩ := hq.mul (s := 6) (t := 1) (by omega) (by omega)
  obtain ⟨h2a, h2b⟩ := hq.mul (s := 7) (t := 0) (by omega) (by omega)
  have hm : mnr (fl rs) 1 2 = fl rs 6 * fl rs 1 - fl rs 7 * fl rs 0 := rfl
  obtain ⟨rfl, b, o', rfl, hrow⟩ := h.three h0
  obtain ⟨ba, oa, Ca, xa, la, ya⟩ := hrow 2 (by omega)
  obtain ⟨bb, ob, Cb, xb, lb, yb⟩ := hrow 0 (by omega)
  have y1 := ya 0 (by omega)
  have y2 := yb 1 (by omega)
  have y3 := ya 1 (by omega)
  have y4 := yb 0 (by omega)
  simp only [Nat.reduceMul, Nat.reduceAdd, Nat.add_zero] at y1 y2 y3 y4 xa xb
  have HM := Lib.hid hm
  clear h h0 hq hm hrow ya yb
  generalize fl rs 6 = vx at *
  generalize fl rs 1 = vy at *
  generalize fl rs 7 = vz at *
  generalize fl rs 0 = vu at *
  go_enter Try.func96, Try.ntmps96
  go_wp2_with fail
  go_quiet (fail)
  go_wp2_with fail
  go_ret
  exact ⟨by rw [HM.out]; rfl, _, rfl⟩

set_option maxRecDepth 100000 in
set_option maxHeartbeats 2000000 in
theorem leftWithout_20 (q : Nat → Int) (w : World) (h : Q9 q) :
    Calls Try.prog 87 #[.agg #[.int .i64 (q 0), .int .i64 (q 1), .int .i64 (q 2), .int .i64 (q 3), .int .i64 (q 4), .int .i64 (q 5), .int .i64 (q 6), .int .i64 (q 7), .int .i64 (q 8)], .int .i64 2, .int .i64 0] w fun e w' => e = .returned (.int .i64 (mnr q 2 0)) ∧ Below w.heap.size w w' := by
  obtain ⟨h1a, h1b⟩ := h.mul (s := 1) (t := 5) (by omega) (by omega)
  obtain ⟨h2a, h2b⟩ := h.mul (s := 2) (t := 4) (by omega) (by omega)
  have hm : mnr q 2 0 = q 1 * q 5 - q 2 * q 4 := rfl
  have HM := Lib.hid hm
  clear h hm
  have i1 : IntKind.i64.wrap (2 + 1) = 3 := by decide
  have i2 : IntKind.i64.wrap 3 = 3 := by decide
  have i3 : Int.tmod 3 3 = 0 := by decide
  have i4 : IntKind.i64.wrap (2 + 2) = 4 := by decide
  have i5 : IntKind.i64.wrap 4 = 4 := by decide
  have i6 : Int.tmod 4 3 = 1 := by decide
  have i7 : IntKind.i64.wrap 0 = 0 := by decide
  have i8 : IntKind.i64.wrap 1 = 1 := by decide
  go_enter Try.func87, Try.ntmps87
  go_wp2_with fail
  go_region_held3 (fun w' => w'.cell? ⟨w.heap.size, 0, none⟩ = some (.int .i64 (q 0)) ∧ w'.cell? ⟨w.heap.size, 1, none⟩ = some (.int .i64 (q 1)) ∧ w'.cell? ⟨w.heap.size, 2, none⟩ = some (.int .i64 (q 2)) ∧ w'.cell? ⟨w.heap.size, 3, none⟩ = some (.int .i64 (q 3)) ∧ w'.cell? ⟨w.heap.size, 4, none⟩ = some (.int .i64 (q 4)) ∧ w'.cell? ⟨w.heap.size, 5, none⟩ = some (.int .i64 (q 5)) ∧ w'.cell? ⟨w.heap.size, 6, none⟩ = some (.int .i64 (q 6)) ∧ w'.cell? ⟨w.heap.size, 7, none⟩ = some (.int .i64 (q 7)) ∧ w'.cell? ⟨w.heap.size, 8, none⟩ = some (.int .i64 (q 8))) (first | (go_split_ands; refine ⟨?_, ?_, ?_, ?_, ?_, ?_, ?_, ?_, ?_⟩ <;> go_keep) | simp) (fail)
  all_goals go_split_ands
  all_goals
    go_wp2_with fail
    go_quiet (fail)
    go_wp2_with fail
    go_ret
    refine ⟨by rw [HM.out]; rfl, ?_⟩
    repeat (first | with_reducible exact Below.refl _ _ | with_reducible refine Below.setCell ?_ (by simp) _ | with_reducible refine blThenAlloc ?_ _ | with_reducible refine blThenDrew ?_ _ | with_reducible refine Below.drew ?_)
set_option maxRecDepth 100000 in
set_option maxHeartbeats 2000000 in
theorem sMinor_20 (g o : Nat) (A : Option Addr) (n c : Nat) (rs : Rws) (bs : List Nat) (w : World) (h : Hd w (rowsD rs) (.slice A n c) bs) (h0 : mf rs = 0) (hg : w.cell? ⟨g, o, none⟩ = some (.slice A n c)) :
    Calls Try.prog 96 #[.pointer (some ⟨g, o, none⟩), .int .i64 2, .int .i64 0] w fun e w' => e = .returned (.int .i64 (mnr (fl rs) 2 0)) ∧ ∃ m, w' = w.drewN m := by
  have hq := fl_Q9 h0
  obtain ⟨h1a, h1b⟩ := hq.mul (s := 1) (t := 5) (by omega) (by omega)
  obtain ⟨h2a, h2b⟩ := hq.mul (s := 2) (t := 4) (by omega) (by omega)
  have hm : mnr (fl rs) 2 0 = fl rs 1 * fl rs 5 - fl rs 2 * fl rs 4 := rfl
  obtain ⟨rfl, b, o', rfl, hrow⟩ := h.three h0
  obtain ⟨ba, oa, Ca, xa, la, ya⟩ := hrow 0 (by omega)
  obtain ⟨bb, ob, Cb, xb, lb, yb⟩ := hrow 1 (by omega)
  have y1 := ya 1 (by omega)
  have y2 := yb 2 (by omega)
  have y3 := ya 2 (by omega)
  have y4 := yb 1 (by omega)
  simp only [Nat.reduceMul, Nat.reduceAdd, Nat.add_zero] at y1 y2 y3 y4 xa xb
  have HM := Lib.hid hm
  clear h h0 hq hm hrow ya yb
  generalize fl rs 1 = vx at *
  generalize fl rs 5 = vy at *
  generalize fl rs 2 = vz at *
  generalize fl rs 4 = vu at *
  go_enter Try.func96, Try.ntmps96
  go_wp2_with fail
  go_quiet (fail)
  go_wp2_with fail
  go_ret
  exact ⟨by rw [HM.out]; rfl, _, rfl⟩

set_option maxRecDepth 100000 in
set_option maxHeartbeats 2000000 in
theorem leftWithout_21 (q : Nat → Int) (w : World) (h : Q9 q) :
    Calls Try.prog 87 #[.agg #[.int .i64 (q 0), .int .i64 (q 1), .int .i64 (q 2), .int .i64 (q 3), .int .i64 (q 4), .int .i64 (q 5), .int .i64 (q 6), .int .i64 (q 7), .int .i64 (q 8)], .int .i64 2, .int .i64 1] w fun e w' => e = .returned (.int .i64 (mnr q 2 1)) ∧ Below w.heap.size w w' := by
  obtain ⟨h1a, h1b⟩ := h.mul (s := 2) (t := 3) (by omega) (by omega)
  obtain ⟨h2a, h2b⟩ := h.mul (s := 0) (t := 5) (by omega) (by omega)
  have hm : mnr q 2 1 = q 2 * q 3 - q 0 * q 5 := rfl
  have HM := Lib.hid hm
  clear h hm
  have i1 : IntKind.i64.wrap (2 + 1) = 3 := by decide
  have i2 : IntKind.i64.wrap 3 = 3 := by decide
  have i3 : Int.tmod 3 3 = 0 := by decide
  have i4 : IntKind.i64.wrap (2 + 2) = 4 := by decide
  have i5 : IntKind.i64.wrap 4 = 4 := by decide
  have i6 : Int.tmod 4 3 = 1 := by decide
  have i7 : IntKind.i64.wrap 0 = 0 := by decide
  have i8 : IntKind.i64.wrap 1 = 1 := by decide
  go_enter Try.func87, Try.ntmps87
  go_wp2_with fail
  go_region_held3 (fun w' => w'.cell? ⟨w.heap.size, 0, none⟩ = some (.int .i64 (q 0)) ∧ w'.cell? ⟨w.heap.size, 1, none⟩ = some (.int .i64 (q 1)) ∧ w'.cell? ⟨w.heap.size, 2, none⟩ = some (.int .i64 (q 2)) ∧ w'.cell? ⟨w.heap.size, 3, none⟩ = some (.int .i64 (q 3)) ∧ w'.cell? ⟨w.heap.size, 4, none⟩ = some (.int .i64 (q 4)) ∧ w'.cell? ⟨w.heap.size, 5, none⟩ = some (.int .i64 (q 5)) ∧ w'.cell? ⟨w.heap.size, 6, none⟩ = some (.int .i64 (q 6)) ∧ w'.cell? ⟨w.heap.size, 7, none⟩ = some (.int .i64 (q 7)) ∧ w'.cell? ⟨w.heap.size, 8, none⟩ = some (.int .i64 (q 8))) (first | (go_split_ands; refine ⟨?_, ?_, ?_, ?_, ?_, ?_, ?_, ?_, ?_⟩ <;> go_keep) | simp) (fail)
  all_goals go_split_ands
  all_goals
    go_wp2_with fail
    go_quiet (fail)
    go_wp2_with fail
    go_ret
    refine ⟨by rw [HM.out]; rfl, ?_⟩
    repeat (first | with_reducible exact Below.refl _ _ | with_reducible refine Below.setCell ?_ (by simp) _ | with_reducible refine blThenAlloc ?_ _ | with_reducible refine blThenDrew ?_ _ | with_reducible refine Below.drew ?_)
set_option maxRecDepth 100000 in
set_option maxHeartbeats 2000000 in
theorem sMinor_21 (g o : Nat) (A : Option Addr) (n c : Nat) (rs : Rws) (bs : List Nat) (w : World) (h : Hd w (rowsD rs) (.slice A n c) bs) (h0 : mf rs = 0) (hg : w.cell? ⟨g, o, none⟩ = some (.slice A n c)) :
    Calls Try.prog 96 #[.pointer (some ⟨g, o, none⟩), .int .i64 2, .int .i64 1] w fun e w' => e = .returned (.int .i64 (mnr (fl rs) 2 1)) ∧ ∃ m, w' = w.drewN m := by
  have hq := fl_Q9 h0
  obtain ⟨h1a, h1b⟩ := hq.mul (s := 2) (t := 3) (by omega) (by omega)
  obtain ⟨h2a, h2b⟩ := hq.mul (s := 0) (t := 5) (by omega) (by omega)
  have hm : mnr (fl rs) 2 1 = fl rs 2 * fl rs 3 - fl rs 0 * fl rs 5 := rfl
  obtain ⟨rfl, b, o', rfl, hrow⟩ := h.three h0
  obtain ⟨ba, oa, Ca, xa, la, ya⟩ := hrow 0 (by omega)
  obtain ⟨bb, ob, Cb, xb, lb, yb⟩ := hrow 1 (by omega)
  have y1 := ya 2 (by omega)
  have y2 := yb 0 (by omega)
  have y3 := ya 0 (by omega)
  have y4 := yb 2 (by omega)
  simp only [Nat.reduceMul, Nat.reduceAdd, Nat.add_zero] at y1 y2 y3 y4 xa xb
  have HM := Lib.hid hm
  clear h h0 hq hm hrow ya yb
  generalize fl rs 2 = vx at *
  generalize fl rs 3 = vy at *
  generalize fl rs 0 = vz at *
  generalize fl rs 5 = vu at *
  go_enter Try.func96, Try.ntmps96
  go_wp2_with fail
  go_quiet (fail)
  go_wp2_with fail
  go_ret
  exact ⟨by rw [HM.out]; rfl, _, rfl⟩

set_option maxRecDepth 100000 in
set_option maxHeartbeats 2000000 in
theorem leftWithout_22 (q : Nat → Int) (w : World) (h : Q9 q) :
    Calls Try.prog 87 #[.agg #[.int .i64 (q 0), .int .i64 (q 1), .int .i64 (q 2), .int .i64 (q 3), .int .i64 (q 4), .int .i64 (q 5), .int .i64 (q 6), .int .i64 (q 7), .int .i64 (q 8)], .int .i64 2, .int .i64 2] w fun e w' => e = .returned (.int .i64 (mnr q 2 2)) ∧ Below w.heap.size w w' := by
  obtain ⟨h1a, h1b⟩ := h.mul (s := 0) (t := 4) (by omega) (by omega)
  obtain ⟨h2a, h2b⟩ := h.mul (s := 1) (t := 3) (by omega) (by omega)
  have hm : mnr q 2 2 = q 0 * q 4 - q 1 * q 3 := rfl
  have HM := Lib.hid hm
  clear h hm
  have i1 : IntKind.i64.wrap (2 + 1) = 3 := by decide
  have i2 : IntKind.i64.wrap 3 = 3 := by decide
  have i3 : Int.tmod 3 3 = 0 := by decide
  have i4 : IntKind.i64.wrap (2 + 2) = 4 := by decide
  have i5 : IntKind.i64.wrap 4 = 4 := by decide
  have i6 : Int.tmod 4 3 = 1 := by decide
  have i7 : IntKind.i64.wrap 0 = 0 := by decide
  have i8 : IntKind.i64.wrap 1 = 1 := by decide
  go_enter Try.func87, Try.ntmps87
  go_wp2_with fail
  go_region_held3 (fun w' => w'.cell? ⟨w.heap.size, 0, none⟩ = some (.int .i64 (q 0)) ∧ w'.cell? ⟨w.heap.size, 1, none⟩ = some (.int .i64 (q 1)) ∧ w'.cell? ⟨w.heap.size, 2, none⟩ = some (.int .i64 (q 2)) ∧ w'.cell? ⟨w.heap.size, 3, none⟩ = some (.int .i64 (q 3)) ∧ w'.cell? ⟨w.heap.size, 4, none⟩ = some (.int .i64 (q 4)) ∧ w'.cell? ⟨w.heap.size, 5, none⟩ = some (.int .i64 (q 5)) ∧ w'.cell? ⟨w.heap.size, 6, none⟩ = some (.int .i64 (q 6)) ∧ w'.cell? ⟨w.heap.size, 7, none⟩ = some (.int .i64 (q 7)) ∧ w'.cell? ⟨w.heap.size, 8, none⟩ = some (.int .i64 (q 8))) (first | (go_split_ands; refine ⟨?_, ?_, ?_, ?_, ?_, ?_, ?_, ?_, ?_⟩ <;> go_keep) | simp) (fail)
  all_goals go_split_ands
  all_goals
    go_wp2_with fail
    go_quiet (fail)
    go_wp2_with fail
    go_ret
    refine ⟨by rw [HM.out]; rfl, ?_⟩
    repeat (first | with_reducible exact Below.refl _ _ | with_reducible refine Below.setCell ?_ (by simp) _ | with_reducible refine blThenAlloc ?_ _ | with_reducible refine blThenDrew ?_ _ | with_reducible refine Below.drew ?_)
set_option maxRecDepth 100000 in
set_option maxHeartbeats 2000000 in
theorem sMinor_22 (g o : Nat) (A : Option Addr) (n c : Nat) (rs : Rws) (bs : List Nat) (w : World) (h : Hd w (rowsD rs) (.slice A n c) bs) (h0 : mf rs = 0) (hg : w.cell? ⟨g, o, none⟩ = some (.slice A n c)) :
    Calls Try.prog 96 #[.pointer (some ⟨g, o, none⟩), .int .i64 2, .int .i64 2] w fun e w' => e = .returned (.int .i64 (mnr (fl rs) 2 2)) ∧ ∃ m, w' = w.drewN m := by
  have hq := fl_Q9 h0
  obtain ⟨h1a, h1b⟩ := hq.mul (s := 0) (t := 4) (by omega) (by omega)
  obtain ⟨h2a, h2b⟩ := hq.mul (s := 1) (t := 3) (by omega) (by omega)
  have hm : mnr (fl rs) 2 2 = fl rs 0 * fl rs 4 - fl rs 1 * fl rs 3 := rfl
  obtain ⟨rfl, b, o', rfl, hrow⟩ := h.three h0
  obtain ⟨ba, oa, Ca, xa, la, ya⟩ := hrow 0 (by omega)
  obtain ⟨bb, ob, Cb, xb, lb, yb⟩ := hrow 1 (by omega)
  have y1 := ya 0 (by omega)
  have y2 := yb 1 (by omega)
  have y3 := ya 1 (by omega)
  have y4 := yb 0 (by omega)
  simp only [Nat.reduceMul, Nat.reduceAdd, Nat.add_zero] at y1 y2 y3 y4 xa xb
  have HM := Lib.hid hm
  clear h h0 hq hm hrow ya yb
  generalize fl rs 0 = vx at *
  generalize fl rs 4 = vy at *
  generalize fl rs 1 = vz at *
  generalize fl rs 3 = vu at *
  go_enter Try.func96, Try.ntmps96
  go_wp2_with fail
  go_quiet (fail)
  go_wp2_with fail
  go_ret
  exact ⟨by rw [HM.out]; rfl, _, rfl⟩

end Go.Proofs.Ytmcdbingcclpcaa
