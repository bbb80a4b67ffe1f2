/-
  Matrices: the determinant of what is left without a row and a place: the program's leftWithout, the model's l4Minor.
  Matrices: determinants: the program's determinant, DetOf; the model's l4Det, DetOf.
-/
import Derived.Test.YthplngcdldongaaMatB
import Derived.Deep.RegionHeld3
namespace Go.Proofs.Ythplngcdldongaa
open Go.RowKit
set_option linter.unusedVariables false
set_option linter.unusedSimpArgs false

theorem mulbd {a b : Int} (A B : Nat) (h1 : a.natAbs ≤ A) (h2 : b.natAbs ≤ B) : (a * b).natAbs ≤ A * B := by
  rw [Int.natAbs_mul]; exact Nat.mul_le_mul h1 h2
/-- each of the nine is a fix of a matrix. -/
def Q9 (q : Nat → Int) : Prop := ∀ t, t < 9 → (q t).natAbs ≤ 262144
theorem Q9.mul {q : Nat → Int} (h : Q9 q) {s t : Nat} (hs : s < 9) (ht : t < 9) : -68719476736 ≤ q s * q t ∧ q s * q t ≤ 68719476736 := by
  have := mulbd _ _ (h s hs) (h t ht)
  omega
def mnr (q : Nat → Int) (r p : Nat) : Int := q (3 * ((r + 1) % 3) + (p + 1) % 3) * q (3 * ((r + 2) % 3) + (p + 2) % 3) - q (3 * ((r + 1) % 3) + (p + 2) % 3) * q (3 * ((r + 2) % 3) + (p + 1) % 3)
theorem mnr_bd {q : Nat → Int} (h : Q9 q) (r p : Nat) : (mnr q r p).natAbs ≤ 137438953472 := by
  unfold mnr
  have h1 := h.mul (s := 3 * ((r + 1) % 3) + (p + 1) % 3) (t := 3 * ((r + 2) % 3) + (p + 2) % 3) (by omega) (by omega)
  have h2 := h.mul (s := 3 * ((r + 1) % 3) + (p + 2) % 3) (t := 3 * ((r + 2) % 3) + (p + 1) % 3) (by omega) (by omega)
  omega
/-- the three rows of a matrix without a fault, as they lie. -/
theorem Hd.three {w : World} {rs : Rws} {A : Option Addr} {n c : Nat} {bs : List Nat} (h : Hd w (rowsD rs) (.slice A n c) bs) (h0 : mf rs = 0) :
    n = 3 ∧ ∃ b o, A = some ⟨b, o, none⟩ ∧ ∀ i, i < 3 → ∃ b1 o1 C, w.cell? ⟨b, o + i, none⟩ = some (.slice (some ⟨b1, o1, none⟩) 3 C) ∧ 3 ≤ C ∧ ∀ k, k < 3 → w.cell? ⟨b1, o1 + k, none⟩ = some (.int .i64 (fl rs (3 * i + k))) := by
  obtain ⟨hl, _, _, hf⟩ := h.rows
  obtain rfl : n = 3 := hl.symm.trans (mf_zero h0).1
  obtain ⟨b, o, rfl, hf2⟩ := hf (by omega)
  refine ⟨rfl, b, o, rfl, fun i hi => ?_⟩
  obtain ⟨B, L, C, gs, c1, hd, _⟩ := hf2 i hi
  obtain rfl : L = 3 := hd.rd.1.symm.trans (mf_lens h0 i hi)
  obtain ⟨b1, o1, rfl, hx⟩ := hd.rd.2 (by omega)
  exact ⟨b1, o1, C, c1, hd.caps.1, fun k hk => by rw [fl_at rs i k hk]; exact hx k hk⟩
theorem fl_Q9 {rs : Rws} (h : mf rs = 0) : Q9 (fl rs) := fun t ht => by have := fl_bd h t ht; omega

set_option maxRecDepth 100000 in
set_option maxHeartbeats 2000000 in
theorem leftWithout_00 (q : Nat → Int) (w : World) (h : Q9 q) :
    Calls Try.prog 75 #[.agg #[.int .i64 (q 0), .int .i64 (q 1), .int .i64 (q 2), .int .i64 (q 3), .int .i64 (q 4), .int .i64 (q 5), .int .i64 (q 6), .int .i64 (q 7), .int .i64 (q 8)], .int .i64 0, .int .i64 0] w fun e w' => e = .returned (.int .i64 (mnr q 0 0)) ∧ Below w.heap.size w w' := by
  obtain ⟨h1a, h1b⟩ := h.mul (s := 4) (t := 8) (by omega) (by omega)
  obtain ⟨h2a, h2b⟩ := h.mul (s := 5) (t := 7) (by omega) (by omega)
  have hm : mnr q 0 0 = q 4 * q 8 - q 5 * q 7 := rfl
  have HM := Lib.hid hm
  clear h hm
  have i1 : IntKind.i64.wrap (0 + 1) = 1 := by decide
  have i2 : IntKind.i64.wrap 1 = 1 := by decide
  have i3 : Int.tmod 1 3 = 1 := by decide
  have i4 : IntKind.i64.wrap (0 + 2) = 2 := by decide
  have i5 : IntKind.i64.wrap 2 = 2 := by decide
  have i6 : Int.tmod 2 3 = 2 := by decide
  have i7 : IntKind.i64.wrap 1 = 1 := by decide
  have i8 : IntKind.i64.wrap 2 = 2 := by decide
  go_enter Try.func75, Try.ntmps75
  go_wp2_with fail
  go_region_held3 (fun w' => w'.cell? ⟨w.heap.size, 0, none⟩ = some (.int .i64 (q 0)) ∧ w'.cell? ⟨w.heap.size, 1, none⟩ = some (.int .i64 (q 1)) ∧ w'.cell? ⟨w.heap.size, 2, none⟩ = some (.int .i64 (q 2)) ∧ w'.cell? ⟨w.heap.size, 3, none⟩ = some (.int .i64 (q 3)) ∧ w'.cell? ⟨w.heap.size, 4, none⟩ = some (.int .i64 (q 4)) ∧ w'.cell? ⟨w.heap.size, 5, none⟩ = some (.int .i64 (q 5)) ∧ w'.cell? ⟨w.heap.size, 6, none⟩ = some (.int .i64 (q 6)) ∧ w'.cell? ⟨w.heap.size, 7, none⟩ = some (.int .i64 (q 7)) ∧ w'.cell? ⟨w.heap.size, 8, none⟩ = some (.int .i64 (q 8))) (first | (go_split_ands; refine ⟨?_, ?_, ?_, ?_, ?_, ?_, ?_, ?_, ?_⟩ <;> go_keep) | simp) (fail)
  all_goals go_split_ands
  all_goals
    go_wp2_with fail
    go_quiet (fail)
    go_wp2_with fail
    go_ret
    refine ⟨by rw [HM.out]; rfl, ?_⟩
    repeat (first | with_reducible exact Below.refl _ _ | with_reducible refine Below.setCell ?_ (by simp) _ | with_reducible refine blThenAlloc ?_ _ | with_reducible refine blThenDrew ?_ _ | with_reducible refine Below.drew ?_)
set_option maxRecDepth 100000 in
set_option maxHeartbeats 2000000 in
theorem sMinor_00 (g o : Nat) (A : Option Addr) (n c : Nat) (rs : Rws) (bs : List Nat) (w : World) (h : Hd w (rowsD rs) (.slice A n c) bs) (h0 : mf rs = 0) (hg : w.cell? ⟨g, o, none⟩ = some (.slice A n c)) :
    Calls Try.prog 83 #[.pointer (some ⟨g, o, none⟩), .int .i64 0, .int .i64 0] w fun e w' => e = .returned (.int .i64 (mnr (fl rs) 0 0)) ∧ ∃ m, w' = w.drewN m := by
  have hq := fl_Q9 h0
  obtain ⟨h1a, h1b⟩ := hq.mul (s := 4) (t := 8) (by omega) (by omega)
  obtain ⟨h2a, h2b⟩ := hq.mul (s := 5) (t := 7) (by omega) (by omega)
  have hm : mnr (fl rs) 0 0 = fl rs 4 * fl rs 8 - fl rs 5 * fl rs 7 := rfl
  obtain ⟨rfl, b, o', rfl, hrow⟩ := h.three h0
  obtain ⟨ba, oa, Ca, xa, la, ya⟩ := hrow 1 (by omega)
  obtain ⟨bb, ob, Cb, xb, lb, yb⟩ := hrow 2 (by omega)
  have y1 := ya 1 (by omega)
  have y2 := yb 2 (by omega)
  have y3 := ya 2 (by omega)
  have y4 := yb 1 (by omega)
  simp only [Nat.reduceMul, Nat.reduceAdd, Nat.add_zero] at y1 y2 y3 y4 xa xb
  have HM := Lib.hid hm
  clear h h0 hq hm hrow ya yb
  generalize fl rs 4 = vx at *
  generalize fl rs 8 = vy at *
  generalize fl rs 5 = vz at *
  generalize fl rs 7 = vu at *
  go_enter Try.func83, Try.ntmps83
  go_wp2_with fail
  go_quiet (fail)
  go_wp2_with fail
  go_ret
  exact ⟨by rw [HM.out]; rfl, _, rfl⟩

set_option maxRecDepth 100000 in
set_option maxHeartbeats 2000000 in
theorem leftWithout_01 (q : Nat → Int) (w : World) (h : Q9 q) :
    Calls Try.prog 75 #[.agg #[.int .i64 (q 0), .int .i64 (q 1), .int .i64 (q 2), .int .i64 (q 3), .int .i64 (q 4), .int .i64 (q 5), .int .i64 (q 6), .int .i64 (q 7), .int .i64 (q 8)], .int .i64 0, .int .i64 1] w fun e w' => e = .returned (.int .i64 (mnr q 0 1)) ∧ Below w.heap.size w w' := by
  obtain ⟨h1a, h1b⟩ := h.mul (s := 5) (t := 6) (by omega) (by omega)
  obtain ⟨h2a, h2b⟩ := h.mul (s := 3) (t := 8) (by omega) (by omega)
  have hm : mnr q 0 1 = q 5 * q 6 - q 3 * q 8 := rfl
  have HM := Lib.hid hm
  clear h hm
  have i1 : IntKind.i64.wrap (0 + 1) = 1 := by decide
  have i2 : IntKind.i64.wrap 1 = 1 := by decide
  have i3 : Int.tmod 1 3 = 1 := by decide
  have i4 : IntKind.i64.wrap (0 + 2) = 2 := by decide
  have i5 : IntKind.i64.wrap 2 = 2 := by decide
  have i6 : Int.tmod 2 3 = 2 := by decide
  have i7 : IntKind.i64.wrap 1 = 1 := by decide
  have i8 : IntKind.i64.wrap 2 = 2 := by decide
  go_enter Try.func75, Try.ntmps75
  go_wp2_with fail
  go_region_held3 (fun w' => w'.cell? ⟨w.heap.size, 0, none⟩ = some (.int .i64 (q 0)) ∧ w'.cell? ⟨w.heap.size, 1, none⟩ = some (.int .i64 (q 1)) ∧ w'.cell? ⟨w.heap.size, 2, none⟩ = some (.int .i64 (q 2)) ∧ w'.cell? ⟨w.heap.size, 3, none⟩ = some (.int .i64 (q 3)) ∧ w'.cell? ⟨w.heap.size, 4, none⟩ = some (.int .i64 (q 4)) ∧ w'.cell? ⟨w.heap.size, 5, none⟩ = some (.int .i64 (q 5)) ∧ w'.cell? ⟨w.heap.size, 6, none⟩ = some (.int .i64 (q 6)) ∧ w'.cell? ⟨w.heap.size, 7, none⟩ = some (.int .i64 (q 7)) ∧ w'.cell? ⟨w.heap.size, 8, none⟩ = some (.int .i64 (q 8))) (first | (go_split_ands; refine ⟨?_, ?_, ?_, ?_, ?_, ?_, ?_, ?_, ?_⟩ <;> go_keep) | simp) (fail)
  all_goals go_split_ands
  all_goals
    go_wp2_with fail
    go_quiet (fail)
    go_wp2_with fail
    go_ret
    refine ⟨by rw [HM.out]; rfl, ?_⟩
    repeat (first | with_reducible exact Below.refl _ _ | with_reducible refine Below.setCell ?_ (by simp) _ | with_reducible refine blThenAlloc ?_ _ | with_reducible refine blThenDrew ?_ _ | with_reducible refine Below.drew ?_)
set_option maxRecDepth 100000 in
set_option maxHeartbeats 2000000 in
theorem sMinor_01 (g o : Nat) (A : Option Addr) (n c : Nat) (rs : Rws) (bs : List Nat) (w : World) (h : Hd w (rowsD rs) (.slice A n c) bs) (h0 : mf rs = 0) (hg : w.cell? ⟨g, o, none⟩ = some (.slice A n c)) :
    Calls Try.prog 83 #[.pointer (some ⟨g, o, none⟩), .int .i64 0, .int .i64 1] w fun e w' => e = .returned (.int .i64 (mnr (fl rs) 0 1)) ∧ ∃ m, w' = w.drewN m := by
  have hq := fl_Q9 h0
  obtain ⟨h1a, h1b⟩ := hq.mul (s := 5) (t := 6) (by omega) (by omega)
  obtain ⟨h2a, h2b⟩ := hq.mul (s := 3) (t := 8) (by omega) (by omega)
  have hm : mnr (fl rs) 0 1 = fl rs 5 * fl rs 6 - fl rs 3 * fl rs 8 := rfl
  obtain ⟨rfl, b, o', rfl, hrow⟩ := h.three h0
  obtain ⟨ba, oa, Ca, xa, la, ya⟩ := hrow 1 (by omega)
  obtain ⟨bb, ob, Cb, xb, lb, yb⟩ := hrow 2 (by omega)
  have y1 := ya 2 (by omega)
  have y2 := yb 0 (by omega)
  have y3 := ya 0 (by omega)
  have y4 := yb 2 (by omega)
  simp only [Nat.reduceMul, Nat.reduceAdd, Nat.add_zero] at y1 y2 y3 y4 xa xb
  have HM := Lib.hid hm
  clear h h0 hq hm hrow ya yb
  generalize fl rs 5 = vx at *
  generalize fl rs 6 = vy at *
  generalize fl rs 3 = vz at *
  generalize fl rs 8 = vu at *
  go_enter Try.func83, Try.ntmps83
  go_wp2_with fail
  go_quiet (fail)
  go_wp2_with fail
  go_ret
  exact ⟨by rw [HM.out]; rfl, _, rfl⟩

set_option maxRecDepth 100000 in
set_option maxHeartbeats 2000000 in
theorem leftWithout_02 (q : Nat → Int) (w : World) (h : Q9 q) :
    Calls Try.prog 75 #[.agg #[.int .i64 (q 0), .int .i64 (q 1), .int .i64 (q 2), .int .i64 (q 3), .int .i64 (q 4), .int .i64 (q 5), .int .i64 (q 6), .int .i64 (q 7), .int .i64 (q 8)], .int .i64 0, .int .i64 2] w fun e w' => e = .returned (.int .i64 (mnr q 0 2)) ∧ Below w.heap.size w w' := by
  obtain ⟨h1a, h1b⟩ := h.mul (s := 3) (t := 7) (by omega) (by omega)
  obtain ⟨h2a, h2b⟩ := h.mul (s := 4) (t := 6) (by omega) (by omega)
  have hm : mnr q 0 2 = q 3 * q 7 - q 4 * q 6 := rfl
  have HM := Lib.hid hm
  clear h hm
  have i1 : IntKind.i64.wrap (0 + 1) = 1 := by decide
  have i2 : IntKind.i64.wrap 1 = 1 := by decide
  have i3 : Int.tmod 1 3 = 1 := by decide
  have i4 : IntKind.i64.wrap (0 + 2) = 2 := by decide
  have i5 : IntKind.i64.wrap 2 = 2 := by decide
  have i6 : Int.tmod 2 3 = 2 := by decide
  have i7 : IntKind.i64.wrap 1 = 1 := by decide
  have i8 : IntKind.i64.wrap 2 = 2 := by decide
  go_enter Try.func75, Try.ntmps75
  go_wp2_with fail
  go_region_held3 (fun w' => w'.cell? ⟨w.heap.size, 0, none⟩ = some (.int .i64 (q 0)) ∧ w'.cell? ⟨w.heap.size, 1, none⟩ = some (.int .i64 (q 1)) ∧ w'.cell? ⟨w.heap.size, 2, none⟩ = some (.int .i64 (q 2)) ∧ w'.cell? ⟨w.heap.size, 3, none⟩ = some (.int .i64 (q 3)) ∧ w'.cell? ⟨w.heap.size, 4, none⟩ = some (.int .i64 (q 4)) ∧ w'.cell? ⟨w.heap.size, 5, none⟩ = some (.int .i64 (q 5)) ∧ w'.cell? ⟨w.heap.size, 6, none⟩ = some (.int .i64 (q 6)) ∧ w'.cell? ⟨w.heap.size, 7, none⟩ = some (.int .i64 (q 7)) ∧ w'.cell? ⟨w.heap.size, 8, none⟩ = some (.int .i64 (q 8))) (first | (go_split_ands; refine ⟨?_, ?_, ?_, ?_, ?_, ?_, ?_, ?_, ?_⟩ <;> go_keep) | simp) (fail)
  all_goals go_split_ands
  all_goals
    go_wp2_with fail
    go_quiet (fail)
    go_wp2_with fail
    go_ret
    refine ⟨by rw [HM.out]; rfl, ?_⟩
    repeat (first | with_reducible exact Below.refl _ _ | with_reducible refine Below.setCell ?_ (by simp) _ | with_reducible refine blThenAlloc ?_ _ | with_reducible refine blThenDrew ?_ _ | with_reducible refine Below.drew ?_)
set_option maxRecDepth 100000 in
set_option maxHeartbeats 2000000 in
theorem sMinor_02 (g o : Nat) (A : Option Addr) (n c : Nat) (rs : Rws) (bs : List Nat) (w : World) (h : Hd w (rowsD rs) (.slice A n c) bs) (h0 : mf rs = 0) (hg : w.cell? ⟨g, o, none⟩ = some (.slice A n c)) :
    Calls Try.prog 83 #[.pointer (some ⟨g, o, none⟩), .int .i64 0, .int .i64 2] w fun e w' => e = .returned (.int .i64 (mnr (fl rs) 0 2)) ∧ ∃ m, w' = w.drewN m := by
  have hq := fl_Q9 h0
  obtain ⟨h1a, h1b⟩ := hq.mul (s := 3) (t := 7) (by omega) (by omega)
  obtain ⟨h2a, h2b⟩ := hq.mul (s := 4) (t := 6) (by omega) (by omega)
  have hm : mnr (fl rs) 0 2 = fl rs 3 * fl rs 7 - fl rs 4 * fl rs 6 := rfl
  obtain ⟨rfl, b, o', rfl, hrow⟩ := h.three h0
  obtain ⟨ba, oa, Ca, xa, la, ya⟩ := hrow 1 (by omega)
  obtain ⟨bb, ob, Cb, xb, lb, yb⟩ := hrow 2 (by omega)
  have y1 := ya 0 (by omega)
  have y2 := yb 1 (by omega)
  have y3 := ya 1 (by omega)
  have y4 := yb 0 (by omega)
  simp only [Nat.reduceMul, Nat.reduceAdd, Nat.add_zero] at y1 y2 y3 y4 xa xb
  have HM := Lib.hid hm
  clear h h0 hq hm hrow ya yb
  generalize fl rs 3 = vx at *
  generalize fl rs 7 = vy at *
  generalize fl rs 4 = vz at *
  generalize fl rs 6 = vu at *
  go_enter Try.func83, Try.ntmps83
  go_wp2_with fail
  go_quiet (fail)
  go_wp2_with fail
  go_ret
  exact ⟨by rw [HM.out]; rfl, _, rfl⟩

set_option maxRecDepth 100000 in
set_option maxHeartbeats 2000000 in
theorem leftWithout_10 (q : Nat → Int) (w : World) (h : Q9 q) :
    Calls Try.prog 75 #[.agg #[.int .i64 (q 0), .int .i64 (q 1), .int .i64 (q 2), .int .i64 (q 3), .int .i64 (q 4), .int .i64 (q 5), .int .i64 (q 6), .int .i64 (q 7), .int .i64 (q 8)], .int .i64 1, .int .i64 0] w fun e w' => e = .returned (.int .i64 (mnr q 1 0)) ∧ Below w.heap.size w w' := by
  obtain ⟨h1a, h1b⟩ := h.mul (s := 7) (t := 2) (by omega) (by omega)
  obtain ⟨h2a, h2b⟩ := h.mul (s := 8) (t := 1) (by omega) (by omega)
  have hm : mnr q 1 0 = q 7 * q 2 - q 8 * q 1 := rfl
  have HM := Lib.hid hm
  clear h hm
  have i1 : IntKind.i64.wrap (1 + 1) = 2 := by decide
  have i2 : IntKind.i64.wrap 2 = 2 := by decide
  have i3 : Int.tmod 2 3 = 2 := by decide
  have i4 : IntKind.i64.wrap (1 + 2) = 3 := by decide
  have i5 : IntKind.i64.wrap 3 = 3 := by decide
  have i6 : Int.tmod 3 3 = 0 := by decide
  have i7 : IntKind.i64.wrap 2 = 2 := by decide
  have i8 : IntKind.i64.wrap 0 = 0 := by decide
  go_enter Try.func75, Try.ntmps75
  go_wp2_with fail
  go_region_held3 (fun w' => w'.cell? ⟨w.heap.size, 0, none⟩ = some (.int .i64 (q 0)) ∧ w'.cell? ⟨w.heap.size, 1, none⟩ = some (.int .i64 (q 1)) ∧ w'.cell? ⟨w.heap.size, 2, none⟩ = some (.int .i64 (q 2)) ∧ w'.cell? ⟨w.heap.size, 3, none⟩ = some (.int .i64 (q 3)) ∧ w'.cell? ⟨w.heap.size, 4, none⟩ = some (.int .i64 (q 4)) ∧ w'.cell? ⟨w.heap.size, 5, none⟩ = some (.int .i64 (q 5)) ∧ w'.cell? ⟨w.heap.size, 6, none⟩ = some (.int .i64 (q 6)) ∧ w'.cell? ⟨w.heap.size, 7, none⟩ = some (.int .i64 (q 7)) ∧ w'.cell? ⟨w.heap.size, 8, none⟩ = some (.int .i64 (q 8))) (first | (go_split_ands; refine ⟨?_, ?_, ?_, ?_, ?_, ?_, ?_, ?_, ?_⟩ <;> go_keep) | simp) (fail)
  all_goals go_split_ands
  all_goals
    go_wp2_with fail
    go_quiet (fail)
    go_wp2_with fail
    go_ret
    refine ⟨by rw [HM.out]; rfl, ?_⟩
    repeat (first | with_reducible exact Below.refl _ _ | with_reducible refine Below.setCell ?_ (by simp) _ | with_reducible refine blThenAlloc ?_ _ | with_reducible refine blThenDrew ?_ _ | with_reducible refine Below.drew ?_)
set_option maxRecDepth 100000 in
set_option maxHeartbeats 2000000 in
theorem sMinor_10 (g o : Nat) (A : Option Addr) (n c : Nat) (rs : Rws) (bs : List Nat) (w : World) (h : Hd w (rowsD rs) (.slice A n c) bs) (h0 : mf rs = 0) (hg : w.cell? ⟨g, o, none⟩ = some (.slice A n c)) :
    Calls Try.prog 83 #[.pointer (some ⟨g, o, none⟩), .int .i64 1, .int .i64 0] w fun e w' => e = .returned (.int .i64 (mnr (fl rs) 1 0)) ∧ ∃ m, w' = w.drewN m := by
  have hq := fl_Q9 h0
  obtain ⟨h1a, h1b⟩ := hq.mul (s := 7) (t := 2) (by omega) (by omega)
  obtain ⟨h2a, h2b⟩ := hq.mul (s := 8) (t := 1) (by omega) (by omega)
  have hm : mnr (fl rs) 1 0 = fl rs 7 * fl rs 2 - fl rs 8 * fl rs 1 := rfl
  obtain ⟨rfl, b, o', rfl, hrow⟩ := h.three h0
  obtain ⟨ba, oa, Ca, xa, la, ya⟩ := hrow 2 (by omega)
  obtain ⟨bb, ob, Cb, xb, lb, yb⟩ := hrow 0 (by omega)
  have y1 := ya 1 (by omega)
  have y2 := yb 2 (by omega)
  have y3 := ya 2 (by omega)
  have y4 := yb 1 (by omega)
  simp only [Nat.reduceMul, Nat.reduceAdd, Nat.add_zero] at y1 y2 y3 y4 xa xb
  have HM := Lib.hid hm
  clear h h0 hq hm hrow ya yb
  generalize fl rs 7 = vx at *
  generalize fl rs 2 = vy at *
  generalize fl rs 8 = vz at *
  generalize fl rs 1 = vu at *
  go_enter Try.func83, Try.ntmps83
  go_wp2_with fail
  go_quiet (fail)
  go_wp2_with fail
  go_ret
  exact ⟨by rw [HM.out]; rfl, _, rfl⟩

set_option maxRecDepth 100000 in
set_option maxHeartbeats 2000000 in
theorem leftWithout_11 (q : Nat → Int) (w : World) (h : Q9 q) :
    Calls Try.prog 75 #[.agg #[.int .i64 (q 0), .int .i64 (q 1), .int .i64 (q 2), .int .i64 (q 3), .int .i64 (q 4), .int .i64 (q 5), .int .i64 (q 6), .int .i64 (q 7), .int .i64 (q 8)], .int .i64 1, .int .i64 1] w fun e w' => e = .returned (.int .i64 (mnr q 1 1)) ∧ Below w.heap.size w w' := by
  obtain ⟨h1a, h1b⟩ := h.mul (s := 8) (t := 0) (by omega) (by omega)
  obtain ⟨h2a, h2b⟩ := h.mul (s := 6) (t := 2) (by omega) (by omega)
  have hm : mnr q 1 1 = q 8 * q 0 - q 6 * q 2 := rfl
  have HM := Lib.hid hm
  clear h hm
  have i1 : IntKind.i64.wrap (1 + 1) = 2 := by decide
  have i2 : IntKind.i64.wrap 2 = 2 := by decide
  have i3 : Int.tmod 2 3 = 2 := by decide
  have i4 : IntKind.i64.wrap (1 + 2) = 3 := by decide
  have i5 : IntKind.i64.wrap 3 = 3 := by decide
  have i6 : Int.tmod 3 3 = 0 := by decide
  have i7 : IntKind.i64.wrap 2 = 2 := by decide
  have i8 : IntKind.i64.wrap 0 = 0 := by decide
  go_enter Try.func75, Try.ntmps75
  go_wp2_with fail
  go_region_held3 (fun w' => w'.cell? ⟨w.heap.size, 0, none⟩ = some (.int .i64 (q 0)) ∧ w'.cell? ⟨w.heap.size, 1, none⟩ = some (.int .i64 (q 1)) ∧ w'.cell? ⟨w.heap.size, 2, none⟩ = some (.int .i64 (q 2)) ∧ w'.cell? ⟨w.heap.size, 3, none⟩ = some (.int .i64 (q 3)) ∧ w'.cell? ⟨w.heap.size, 4, none⟩ = some (.int .i64 (q 4)) ∧ w'.cell? ⟨w.heap.size, 5, none⟩ = some (.int .i64 (q 5)) ∧ w'.cell? ⟨w.heap.size, 6, none⟩ = some (.int .i64 (q 6)) ∧ w'.cell? ⟨w.heap.size, 7, none⟩ = some (.int .i64 (q 7)) ∧ w'.cell? ⟨w.heap.size, 8, none⟩ = some (.int .i64 (q 8))) (first | (go_split_ands; refine ⟨?_, ?_, ?_, ?_, ?_, ?_, ?_, ?_, ?_⟩ <;> go_keep) | simp) (fail)
  all_goals go_split_ands
  all_goals
    go_wp2_with fail
    go_quiet (fail)
    go_wp2_with fail
    go_ret
    refine ⟨by rw [HM.out]; rfl, ?_⟩
    repeat (first | with_reducible exact Below.refl _ _ | with_reducible refine Below.setCell ?_ (by simp) _ | with_reducible refine blThenAlloc ?_ _ | with_reducible refine blThenDrew ?_ _ | with_reducible refine Below.drew ?_)
set_option maxRecDepth 100000 in
set_option maxHeartbeats 2000000 in
theorem sMinor_11 (g o : Nat) (A : Option Addr) (n c : Nat) (rs : Rws) (bs : List Nat) (w : World) (h : Hd w (rowsD rs) (.slice A n c) bs) (h0 : mf rs = 0) (hg : w.cell? ⟨g, o, none⟩ = some (.slice A n c)) :
    Calls Try.prog 83 #[.pointer (some ⟨g, o, none⟩), .int .i64 1, .int .i64 1] w fun e w' => e = .returned (.int .i64 (mnr (fl rs) 1 1)) ∧ ∃ m, w' = w.drewN m := by
  have hq := fl_Q9 h0
  obtain ⟨h1a, h1b⟩ := hq.mul (s := 8) (t := 0) (by omega) (by omega)
  obtain ⟨h2a, h2b⟩ := hq.mul (s := 6) (t := 2) (by omega) (by omega)
  have hm : mnr (fl rs) 1 1 = fl rs 8 * fl rs 0 - fl rs 6 * fl rs 2 := rfl
  obtain ⟨rfl, b, o', rfl, hrow⟩ := h.three h0
  obtain ⟨ba, oa, Ca, xa, la, ya⟩ := hrow 2 (by omega)
  obtain ⟨bb, ob, Cb, xb, lb, yb⟩ := hrow 0 (by omega)
  have y1 := ya 2 (by omega)
  have y2 := yb 0 (by omega)
  have y3 := ya 0 (by omega)
  have y4 := yb 2 (by omega)
  simp only [Nat.reduceMul, Nat.reduceAdd, Nat.add_zero] at y1 y2 y3 y4 xa xb
  have HM := Lib.hid hm
  clear h h0 hq hm hrow ya yb
  generalize fl rs 8 = vx at *
  generalize fl rs 0 = vy at *
  generalize fl rs 6 = vz at *
  generalize fl rs 2 = vu at *
  go_enter Try.func83, Try.ntmps83
  go_wp2_with fail
  go_quiet (fail)
  go_wp2_with fail
  go_ret
  exact ⟨by rw [HM.out]; rfl, _, rfl⟩

set_option maxRecDepth 100000 in
set_option maxHeartbeats 2000000 in
theorem leftWithout_12 (q : Nat → Int) (w : World) (h : Q9 q) :
    Calls Try.prog 75 #[.agg #[.int .i64 (q 0), .int .i64 (q 1), .int .i64 (q 2), .int .i64 (q 3), .int .i64 (q 4), .int .i64 (q 5), .int .i64 (q 6), .int .i64 (q 7), .int .i64 (q 8)], .int .i64 1, .int .i64 2] w fun e w' => e = .returned (.int .i64 (mnr q 1 2)) ∧ Below w.heap.size w w' := by
  obtain ⟨h1a, h1b⟩ := h.mul (s := 6) (t := 1) (by omega) (by omega)
  obtain ⟨h2a, h2b⟩ := h.mul (s := 7) (t := 0) (by omega) (by omega)
  have hm : mnr q 1 2 = q 6 * q 1 - q 7 * q 0 := rfl
  have HM := Lib.hid hm
  clear h hm
  have i1 : IntKind.i64.wrap (1 + 1) = 2 := by decide
  have i2 : IntKind.i64.wrap 2 = 2 := by decide
  have i3 : Int.tmod 2 3 = 2 := by decide
  have i4 : IntKind.i64.wrap (1 + 2) = 3 := by decide
  have i5 : IntKind.i64.wrap 3 = 3 := by decide
  have i6 : Int.tmod 3 3 = 0 := by decide
  have i7 : IntKind.i64.wrap 2 = 2 := by decide
  have i8 : IntKind.i64.wrap 0 = 0 := by decide
  go_enter Try.func75, Try.ntmps75
  go_wp2_with fail
  go_region_held3 (fun w' => w'.cell? ⟨w.heap.size, 0, none⟩ = some (.int .i64 (q 0)) ∧ w'.cell? ⟨w.heap.size, 1, none⟩ = some (.int .i64 (q 1)) ∧ w'.cell? ⟨w.heap.size, 2, none⟩ = some (.int .i64 (q 2)) ∧ w'.cell? ⟨w.heap.size, 3, none⟩ = some (.int .i64 (q 3)) ∧ w'.cell? ⟨w.heap.size, 4, none⟩ = some (.int .i64 (q 4)) ∧ w'.cell? ⟨w.heap.size, 5, none⟩ = some (.int .i64 (q 5)) ∧ w'.cell? ⟨w.heap.size, 6, none⟩ = some (.int .i64 (q 6)) ∧ w'.cell? ⟨w.heap.size, 7, none⟩ = some (.int .i64 (q 7)) ∧ w'.cell? ⟨w.heap.size, 8, none⟩ = some (.int .i64 (q 8))) (first | (go_split_ands; refine ⟨?_, ?_, ?_, ?_, ?_, ?_, ?_, ?_, ?_⟩ <;> go_keep) | simp) (fail)
  all_goals go_split_ands
  all_goals
    go_wp2_with fail
    go_quiet (fail)
    go_wp2_with fail
    go_ret
    refine ⟨by rw [HM.out]; rfl, ?_⟩
    repeat (first | with_reducible exact Below.refl _ _ | with_reducible refine Below.setCell ?_ (by simp) _ | with_reducible refine blThenAlloc ?_ _ | with_reducible refine blThenDrew ?_ _ | with_reducible refine Below.drew ?_)
set_option maxRecDepth 100000 in
set_option maxHeartbeats 2000000 in
theorem sMinor_12 (g o : Nat) (A : Option Addr) (n c : Nat) (rs : Rws) (bs : List Nat) (w : World) (h : Hd w (rowsD rs) (.slice A n c) bs) (h0 : mf rs = 0) (hg : w.cell? ⟨g, o, none⟩ = some (.slice A n c)) :
    Calls Try.prog 83 #[.pointer (some ⟨g, o, none⟩), .int .i64 1, .int .i64 2] w fun e w' => e = .returned (.int .i64 (mnr (fl rs) 1 2)) ∧ ∃ m, w' = w.drewN m := by
  have hq := fl_Q9 h0
  obtain ⟨h1a, h1b⟩ := hq.mul (s := 6) (t := 1) (by omega) (by omega)
  obtain ⟨h2a, h2b⟩ := hq.mul (s := 7) (t := 0) (by omega) (by omega)
  have hm : mnr (fl rs) 1 2 = fl rs 6 * fl rs 1 - fl rs 7 * fl rs 0 := rfl
  obtain ⟨rfl, b, o', rfl, hrow⟩ := h.three h0
  obtain ⟨ba, oa, Ca, xa, la, ya⟩ := hrow 2 (by omega)
  obtain ⟨bb, ob, Cb, xb, lb, yb⟩ := hrow 0 (by omega)
  have y1 := ya 0 (by omega)
  have y2 := yb 1 (by omega)
  have y3 := ya 1 (by omega)
  have y4 := yb 0 (by omega)
  simp only [Nat.reduceMul, Nat.reduceAdd, Nat.add_zero] at y1 y2 y3 y4 xa xb
  have HM := Lib.hid hm
  clear h h0 hq hm hrow ya yb
  generalize fl rs 6 = vx at *
  generalize fl rs 1 = vy at *
  generalize fl rs 7 = vz at *
  generalize fl rs 0 = vu at *
  go_enter Try.func83, Try.ntmps83
  go_wp2_with fail
  go_quiet (fail)
  go_wp2_with fail
  go_ret
  exact ⟨by rw [HM.out]; rfl, _, rfl⟩

set_option maxRecDepth 100000 in
set_option maxHeartbeats 2000000 in
theorem leftWithout_20 (q : Nat → Int) (w : World) (h : Q9 q) :
    Calls Try.prog 75 #[.agg #[.int .i64 (q 0), .int .i64 (q 1), .int .i64 (q 2), .int .i64 (q 3), .int .i64 (q 4), .int .i64 (q 5), .int .i64 (q 6), .int .i64 (q 7), .int .i64 (q 8)], .int .i64 2, .int .i64 0] w fun e w' => e = .returned (.int .i64 (mnr q 2 0)) ∧ Below w.heap.size w w' := by
  obtain ⟨h1a, h1b⟩ := h.mul (s := 1) (t := 5) (by omega) (by omega)
  obtain ⟨h2a, h2b⟩ := h.mul (s := 2) (t := 4) (by omega) (by omega)
  have hm : mnr q 2 0 = q 1 * q 5 - q 2 * q 4 := rfl
  have HM := Lib.hid hm
  clear h hm
  have i1 : IntKind.i64.wrap (2 + 1) = 3 := by decide
  have i2 : IntKind.i64.wrap 3 = 3 := by decide
  have i3 : Int.tmod 3 3 = 0 := by decide
  have i4 : IntKind.i64.wrap (2 + 2) = 4 := by decide
  have i5 : IntKind.i64.wrap 4 = 4 := by decide
  have i6 : Int.tmod 4 3 = 1 := by decide
  have i7 : IntKind.i64.wrap 0 = 0 := by decide
  have i8 : IntKind.i64.wrap 1 = 1 := by decide
  go_enter Try.func75, Try.ntmps75
  go_wp2_with fail
  go_region_held3 (fun w' => w'.cell? ⟨w.heap.size, 0, none⟩ = some (.int .i64 (q 0)) ∧ w'.cell? ⟨w.heap.size, 1, none⟩ = some (.int .i64 (q 1)) ∧ w'.cell? ⟨w.heap.size, 2, none⟩ = some (.int .i64 (q 2)) ∧ w'.cell? ⟨w.heap.size, 3, none⟩ = some (.int .i64 (q 3)) ∧ w'.cell? ⟨w.heap.size, 4, none⟩ = some (.int .i64 (q 4)) ∧ w'.cell? ⟨w.heap.size, 5, none⟩ = some (.int .i64 (q 5)) ∧ w'.cell? ⟨w.heap.size, 6, none⟩ = some (.int .i64 (q 6)) ∧ w'.cell? ⟨w.heap.size, 7, none⟩ = some (.int .i64 (q 7)) ∧ w'.cell? ⟨w.heap.size, 8, none⟩ = some (.int .i64 (q 8))) (first | (go_split_ands; refine ⟨?_, ?_, ?_, ?_, ?_, ?_, ?_, ?_, ?_⟩ <;> go_keep) | simp) (fail)
  all_goals go_split_ands
  all_goals
    go_wp2_with fail
    go_quiet (fail)
    go_wp2_with fail
    go_ret
    refine ⟨by rw [HM.out]; rfl, ?_⟩
    repeat (first | with_reducible exact Below.refl _ _ | with_reducible refine Below.setCell ?_ (by simp) _ | with_reducible refine blThenAlloc ?_ _ | with_reducible refine blThenDrew ?_ _ | with_reducible refine Below.drew ?_)
set_option maxRecDepth 100000 in
set_option maxHeartbeats 2000000 in
theorem sMinor_20 (g o : Nat) (A : Option Addr) (n c : Nat) (rs : Rws) (bs : List Nat) (w : World) (h : Hd w (rowsD rs) (.slice A n c) bs) (h0 : mf rs = 0) (hg : w.cell? ⟨g, o, none⟩ = some (.slice A n c)) :
    Calls Try.prog 83 #[.pointer (some ⟨g, o, none⟩), .int .i64 2, .int .i64 0] w fun e w' => e = .returned (.int .i64 (mnr (fl rs) 2 0)) ∧ ∃ m, w' = w.drewN m := by
  have hq := fl_Q9 h0
  obtain ⟨h1a, h1b⟩ := hq.mul (s := 1) (t := 5) (by omega) (by omega)
  obtain ⟨h2a, h2b⟩ := hq.mul (s := 2) (t := 4) (by omega) (by omega)
  have hm : mnr (fl rs) 2 0 = fl rs 1 * fl rs 5 - fl rs 2 * fl rs 4 := rfl
  obtain ⟨rfl, b, o', rfl, hrow⟩ := h.three h0
  obtain ⟨ba, oa, Ca, xa, la, ya⟩ := hrow 0 (by omega)
  obtain ⟨bb, ob, Cb, xb, lb, yb⟩ := hrow 1 (by omega)
  have y1 := ya 1 (by omega)
  have y2 := yb 2 (by omega)
  have y3 := ya 2 (by omega)
  have y4 := yb 1 (by omega)
  simp only [Nat.reduceMul, Nat.reduceAdd, Nat.add_zero] at y1 y2 y3 y4 xa xb
  have HM := Lib.hid hm
  clear h h0 hq hm hrow ya yb
  generalize fl rs 1 = vx at *
  generalize fl rs 5 = vy at *
  generalize fl rs 2 = vz at *
  generalize fl rs 4 = vu at *
  go_enter Try.func83, Try.ntmps83
  go_wp2_with fail
  go_quiet (fail)
  go_wp2_with fail
  go_ret
  exact ⟨by rw [HM.out]; rfl, _, rfl⟩

set_option maxRecDepth 100000 in
set_option maxHeartbeats 2000000 in
theorem leftWithout_21 (q : Nat → Int) (w : World) (h : Q9 q) :
    Calls Try.prog 75 #[.agg #[.int .i64 (q 0), .int .i64 (q 1), .int .i64 (q 2), .int .i64 (q 3), .int .i64 (q 4), .int .i64 (q 5), .int .i64 (q 6), .int .i64 (q 7), .int .i64 (q 8)], .int .i64 2, .int .i64 1] w fun e w' => e = .returned (.int .i64 (mnr q 2 1)) ∧ Below w.heap.size w w' := by
  obtain ⟨h1a, h1b⟩ := h.mul (s := 2) (t := 3) (by omega) (by omega)
  obtain ⟨h2a, h2b⟩ := h.mul (s := 0) (t := 5) (by omega) (by omega)
  have hm : mnr q 2 1 = q 2 * q 3 - q 0 * q 5 := rfl
  have HM := Lib.hid hm
  clear h hm
  have i1 : IntKind.i64.wrap (2 + 1) = 3 := by decide
  have i2 : IntKind.i64.wrap 3 = 3 := by decide
  have i3 : Int.tmod 3 3 = 0 := by decide
  have i4 : IntKind.i64.wrap (2 + 2) = 4 := by decide
  have i5 : IntKind.i64.wrap 4 = 4 := by decide
  have i6 : Int.tmod 4 3 = 1 := by decide
  have i7 : IntKind.i64.wrap 0 = 0 := by decide
  have i8 : IntKind.i64.wrap 1 = 1 := by decide
  go_enter Try.func75, Try.ntmps75
  go_wp2_with fail
  go_region_held3 (fun w' => w'.cell? ⟨w.heap.size, 0, none⟩ = some (.int .i64 (q 0)) ∧ w'.cell? ⟨w.heap.size, 1, none⟩ = some (.int .i64 (q 1)) ∧ w'.cell? ⟨w.heap.size, 2, none⟩ = some (.int .i64 (q 2)) ∧ w'.cell? ⟨w.heap.size, 3, none⟩ = some (.int .i64 (q 3)) ∧ w'.cell? ⟨w.heap.size, 4, none⟩ = some (.int .i64 (q 4)) ∧ w'.cell? ⟨w.heap.size, 5, none⟩ = some (.int .i64 (q 5)) ∧ w'.cell? ⟨w.heap.size, 6, none⟩ = some (.int .i64 (q 6)) ∧ w'.cell? ⟨w.heap.size, 7, none⟩ = some (.int .i64 (q 7)) ∧ w'.cell? ⟨w.heap.size, 8, none⟩ = some (.int .i64 (q 8))) (first | (go_split_ands; refine ⟨?_, ?_, ?_, ?_, ?_, ?_, ?_, ?_, ?_⟩ <;> go_keep) | simp) (fail)
  all_goals go_split_ands
  all_goals
    go_wp2_with fail
    go_quiet (fail)
    go_wp2_with fail
    go_ret
    refine ⟨by rw [HM.out]; rfl, ?_⟩
    repeat (first | with_reducible exact Below.refl _ _ | with_reducible refine Below.setCell ?_ (by simp) _ | with_reducible refine blThenAlloc ?_ _ | with_reducible refine blThenDrew ?_ _ | with_reducible refine Below.drew ?_)
set_option maxRecDepth 100000 in
set_option maxHeartbeats 2000000 in
theorem sMinor_21 (g o : Nat) (A : Option Addr) (n c : Nat) (rs : Rws) (bs : List Nat) (w : World) (h : Hd w (rowsD rs) (.slice A n c) bs) (h0 : mf rs = 0) (hg : w.cell? ⟨g, o, none⟩ = some (.slice A n c)) :
    Calls Try.prog 83 #[.pointer (some ⟨g, o, none⟩), .int .i64 2, .int .i64 1] w fun e w' => e = .returned (.int .i64 (mnr (fl rs) 2 1)) ∧ ∃ m, w' = w.drewN m := by
  have hq := fl_Q9 h0
  obtain ⟨h1a, h1b⟩ := hq.mul (s := 2) (t := 3) (by omega) (by omega)
  obtain ⟨h2a, h2b⟩ := hq.mul (s := 0) (t := 5) (by omega) (by omega)
  have hm : mnr (fl rs) 2 1 = fl rs 2 * fl rs 3 - fl rs 0 * fl rs 5 := rfl
  obtain ⟨rfl, b, o', rfl, hrow⟩ := h.three h0
  obtain ⟨ba, oa, Ca, xa, la, ya⟩ := hrow 0 (by omega)
  obtain ⟨bb, ob, Cb, xb, lb, yb⟩ := hrow 1 (by omega)
  have y1 := ya 2 (by omega)
  have y2 := yb 0 (by omega)
  have y3 := ya 0 (by omega)
  have y4 := yb 2 (by omega)
  simp only [Nat.reduceMul, Nat.reduceAdd, Nat.add_zero] at y1 y2 y3 y4 xa xb
  have HM := Lib.hid hm
  clear h h0 hq hm hrow ya yb
  generalize fl rs 2 = vx at *
  generalize fl rs 3 = vy at *
  generalize fl rs 0 = vz at *
  generalize fl rs 5 = vu at *
  go_enter Try.func83, Try.ntmps83
  go_wp2_with fail
  go_quiet (fail)
  go_wp2_with fail
  go_ret
  exact ⟨by rw [HM.out]; rfl, _, rfl⟩

set_option maxRecDepth 100000 in
set_option maxHeartbeats 2000000 in
theorem leftWithout_22 (q : Nat → Int) (w : World) (h : Q9 q) :
    Calls Try.prog 75 #[.agg #[.int .i64 (q 0), .int .i64 (q 1), .int .i64 (q 2), .int .i64 (q 3), .int .i64 (q 4), .int .i64 (q 5), .int .i64 (q 6), .int .i64 (q 7), .int .i64 (q 8)], .int .i64 2, .int .i64 2] w fun e w' => e = .returned (.int .i64 (mnr q 2 2)) ∧ Below w.heap.size w w' := by
  obtain ⟨h1a, h1b⟩ := h.mul (s := 0) (t := 4) (by omega) (by omega)
  obtain ⟨h2a, h2b⟩ := h.mul (s := 1) (t := 3) (by omega) (by omega)
  have hm : mnr q 2 2 = q 0 * q 4 - q 1 * q 3 := rfl
  have HM := Lib.hid hm
  clear h hm
  have i1 : IntKind.i64.wrap (2 + 1) = 3 := by decide
  have i2 : IntKind.i64.wrap 3 = 3 := by decide
  have i3 : Int.tmod 3 3 = 0 := by decide
  have i4 : IntKind.i64.wrap (2 + 2) = 4 := by decide
  have i5 : IntKind.i64.wrap 4 = 4 := by decide
  have i6 : Int.tmod 4 3 = 1 := by decide
  have i7 : IntKind.i64.wrap 0 = 0 := by decide
  have i8 : IntKind.i64.wrap 1 = 1 := by decide
  go_enter Try.func75, Try.ntmps75
  go_wp2_with fail
  go_region_held3 (fun w' => w'.cell? ⟨w.heap.size, 0, none⟩ = some (.int .i64 (q 0)) ∧ w'.cell? ⟨w.heap.size, 1, none⟩ = some (.int .i64 (q 1)) ∧ w'.cell? ⟨w.heap.size, 2, none⟩ = some (.int .i64 (q 2)) ∧ w'.cell? ⟨w.heap.size, 3, none⟩ = some (.int .i64 (q 3)) ∧ w'.cell? ⟨w.heap.size, 4, none⟩ = some (.int .i64 (q 4)) ∧ w'.cell? ⟨w.heap.size, 5, none⟩ = some (.int .i64 (q 5)) ∧ w'.cell? ⟨w.heap.size, 6, none⟩ = some (.int .i64 (q 6)) ∧ w'.cell? ⟨w.heap.size, 7, none⟩ = some (.int .i64 (q 7)) ∧ w'.cell? ⟨w.heap.size, 8, none⟩ = some (.int .i64 (q 8))) (first | (go_split_ands; refine ⟨?_, ?_, ?_, ?_, ?_, ?_, ?_, ?_, ?_⟩ <;> go_keep) | simp) (fail)
  all_goals go_split_ands
  all_goals
    go_wp2_with fail
    go_quiet (fail)
    go_wp2_with fail
    go_ret
    refine ⟨by rw [HM.out]; rfl, ?_⟩
    repeat (first | with_reducible exact Below.refl _ _ | with_reducible refine Below.setCell ?_ (by simp) _ | with_reducible refine blThenAlloc ?_ _ | with_reducible refine blThenDrew ?_ _ | with_reducible refine Below.drew ?_)
set_option maxRecDepth 100000 in
set_option maxHeartbeats 2000000 in
theorem sMinor_22 (g o : Nat) (A : Option Addr) (n c : Nat) (rs : Rws) (bs : List Nat) (w : World) (h : Hd w (rowsD rs) (.slice A n c) bs) (h0 : mf rs = 0) (hg : w.cell? ⟨g, o, none⟩ = some (.slice A n c)) :
    Calls Try.prog 83 #[.pointer (some ⟨g, o, none⟩), .int .i64 2, .int .i64 2] w fun e w' => e = .returned (.int .i64 (mnr (fl rs) 2 2)) ∧ ∃ m, w' = w.drewN m := by
  have hq := fl_Q9 h0
  obtain ⟨h1a, h1b⟩ := hq.mul (s := 0) (t := 4) (by omega) (by omega)
  obtain ⟨h2a, h2b⟩ := hq.mul (s := 1) (t := 3) (by omega) (by omega)
  have hm : mnr (fl rs) 2 2 = fl rs 0 * fl rs 4 - fl rs 1 * fl rs 3 := rfl
  obtain ⟨rfl, b, o', rfl, hrow⟩ := h.three h0
  obtain ⟨ba, oa, Ca, xa, la, ya⟩ := hrow 0 (by omega)
  obtain ⟨bb, ob, Cb, xb, lb, yb⟩ := hrow 1 (by omega)
  have y1 := ya 0 (by omega)
  have y2 := yb 1 (by omega)
  have y3 := ya 1 (by omega)
  have y4 := yb 0 (by omega)
  simp only [Nat.reduceMul, Nat.reduceAdd, Nat.add_zero] at y1 y2 y3 y4 xa xb
  have HM := Lib.hid hm
  clear h h0 hq hm hrow ya yb
  generalize fl rs 0 = vx at *
  generalize fl rs 4 = vy at *
  generalize fl rs 1 = vz at *
  generalize fl rs 3 = vu at *
  go_enter Try.func83, Try.ntmps83
  go_wp2_with fail
  go_quiet (fail)
  go_wp2_with fail
  go_ret
  exact ⟨by rw [HM.out]; rfl, _, rfl⟩

end Go.Proofs.Ythplngcdldongaa
namespace Go.Proofs.Ythplngcdldongaa
open Go.RowKit
set_option linter.unusedVariables false

def det (q : Nat → Int) : Int := q 0 * mnr q 0 0 + q 1 * mnr q 0 1 + q 2 * mnr q 0 2
theorem det_part {q : Nat → Int} (h : Q9 q) (t : Nat) (ht : t < 9) (r p : Nat) : -36028797018963968 ≤ q t * mnr q r p ∧ q t * mnr q r p ≤ 36028797018963968 := by
  have := mulbd _ _ (h t ht) (mnr_bd h r p)
  omega
theorem det_bd {q : Nat → Int} (h : Q9 q) : -108086391056891904 ≤ det q ∧ det q ≤ 108086391056891904 := by
  have h0 := det_part h 0 (by omega) 0 0
  have h1 := det_part h 1 (by omega) 0 1
  have h2 := det_part h 2 (by omega) 0 2
  unfold det
  omega
/-! an array's element, a matrix's row -/

theorem ix3_0 (a b c : Int) (W : World) : (Instr.index 75 (.agg #[.int .i64 a, .int .i64 b, .int .i64 c]) (.int .i64 0)).run Try.prog W = .ok (.int .i64 a) W := by kernel_rfl
theorem ix9_0 (q : Nat → Int) (W : World) : (Instr.index 104 (.agg #[.int .i64 (q 0), .int .i64 (q 1), .int .i64 (q 2), .int .i64 (q 3), .int .i64 (q 4), .int .i64 (q 5), .int .i64 (q 6), .int .i64 (q 7), .int .i64 (q 8)]) (.int .i64 0)).run Try.prog W = .ok (.agg #[.int .i64 (q 0), .int .i64 (q 1), .int .i64 (q 2)]) W := by kernel_rfl

theorem ix3_1 (a b c : Int) (W : World) : (Instr.index 75 (.agg #[.int .i64 a, .int .i64 b, .int .i64 c]) (.int .i64 1)).run Try.prog W = .ok (.int .i64 b) W := by kernel_rfl
theorem ix9_1 (q : Nat → Int) (W : World) : (Instr.index 104 (.agg #[.int .i64 (q 0), .int .i64 (q 1), .int .i64 (q 2), .int .i64 (q 3), .int .i64 (q 4), .int .i64 (q 5), .int .i64 (q 6), .int .i64 (q 7), .int .i64 (q 8)]) (.int .i64 1)).run Try.prog W = .ok (.agg #[.int .i64 (q 3), .int .i64 (q 4), .int .i64 (q 5)]) W := by kernel_rfl

theorem ix3_2 (a b c : Int) (W : World) : (Instr.index 75 (.agg #[.int .i64 a, .int .i64 b, .int .i64 c]) (.int .i64 2)).run Try.prog W = .ok (.int .i64 c) W := by kernel_rfl
theorem ix9_2 (q : Nat → Int) (W : World) : (Instr.index 104 (.agg #[.int .i64 (q 0), .int .i64 (q 1), .int .i64 (q 2), .int .i64 (q 3), .int .i64 (q 4), .int .i64 (q 5), .int .i64 (q 6), .int .i64 (q 7), .int .i64 (q 8)]) (.int .i64 2)).run Try.prog W = .ok (.agg #[.int .i64 (q 6), .int .i64 (q 7), .int .i64 (q 8)]) W := by kernel_rfl

theorem quietAD {P : Program} {f : FuncId} {args : Array Value} {w : World} {a n : Nat} {v : Value}
    (h : Calls P f args (w.drewN (a + n)) fun e w' => e = .returned v ∧ ∃ m, w' = (w.drewN (a + n)).drewN m) : Calls P f args (w.drewN (a + n)) fun e w'' => e = .returned v ∧ ∃ m, w'' = w.drewN (a + m) :=
  h.mono fun _ _ ⟨he, m, hm⟩ => ⟨he, n + m, by rw [hm, World.drewN_drewN, Nat.add_assoc]⟩
/-- two cells written, then something made. -/
theorem two_alloc {w1 : World} {g : Nat} {x y a b : Value} (h0 : w1.cell? ⟨g, 0, none⟩ = some x) (h1 : w1.cell? ⟨g, 1, none⟩ = some y) :
    (∀ o, (((w1.setCell ⟨g, 0, none⟩ a).setCell ⟨g, 1, none⟩ b).alloc o).cell? ⟨g, 0, none⟩ = some a) ∧ (∀ o, (((w1.setCell ⟨g, 0, none⟩ a).setCell ⟨g, 1, none⟩ b).alloc o).cell? ⟨g, 1, none⟩ = some b) :=
  ⟨fun o => cell_later (blAlloc _ _) (by rw [World.cell?_setCell_other _ _ _ _ (by simp), World.cell?_setCell_same' _ _ _ (by rw [h0]; rfl)]), fun o => cell_later (blAlloc _ _) (by rw [World.cell?_setCell_same' _ _ _ (by rw [World.cell?_setCell_other _ _ _ _ (by simp), h1]; rfl)])⟩
def detV (rs : Rws) : Int := if mf rs = 0 then det (fl rs) else 0
theorem detV_no {rs : Rws} (h : mf rs ≠ 0) : detV rs = 0 := by unfold detV; rw [if_neg h]
theorem detV_ok {rs : Rws} (h : mf rs = 0) : detV rs = det (fl rs) := by unfold detV; rw [if_pos h]

set_option maxRecDepth 100000 in
set_option maxHeartbeats 2000000 in
theorem determinant_any (q : Nat → Int) (w : World) (h : Q9 q) :
    Calls Try.prog 73 #[.agg #[.int .i64 (q 0), .int .i64 (q 1), .int .i64 (q 2), .int .i64 (q 3), .int .i64 (q 4), .int .i64 (q 5), .int .i64 (q 6), .int .i64 (q 7), .int .i64 (q 8)]] w fun e w' => e = .returned (.int .i64 (det q)) ∧ Below w.heap.size w w' := by
  obtain ⟨a0, b0⟩ := det_part h 0 (by omega) 0 0
  obtain ⟨a1, b1⟩ := det_part h 1 (by omega) 0 1
  obtain ⟨a2, b2⟩ := det_part h 2 (by omega) 0 2
  have HD : Hid (det q = q 0 * mnr q 0 0 + q 1 * mnr q 0 1 + q 2 * mnr q 0 2) := rfl
  have HQ := Lib.hid h
  clear h
  have T0 := Lib.hid (blAlloc w (.cells #[.int .i64 (q 0), .int .i64 (q 1), .int .i64 (q 2), .int .i64 (q 3), .int .i64 (q 4), .int .i64 (q 5), .int .i64 (q 6), .int .i64 (q 7), .int .i64 (q 8)] 104))
  have c0 : (w.alloc (.cells #[.int .i64 (q 0), .int .i64 (q 1), .int .i64 (q 2), .int .i64 (q 3), .int .i64 (q 4), .int .i64 (q 5), .int .i64 (q 6), .int .i64 (q 7), .int .i64 (q 8)] 104)).cell? ⟨w.heap.size, 0, none⟩ = some (.int .i64 (q 0)) := by simp
  have c1 : (w.alloc (.cells #[.int .i64 (q 0), .int .i64 (q 1), .int .i64 (q 2), .int .i64 (q 3), .int .i64 (q 4), .int .i64 (q 5), .int .i64 (q 6), .int .i64 (q 7), .int .i64 (q 8)] 104)).cell? ⟨w.heap.size, 1, none⟩ = some (.int .i64 (q 1)) := by simp
  have c2 : (w.alloc (.cells #[.int .i64 (q 0), .int .i64 (q 1), .int .i64 (q 2), .int .i64 (q 3), .int .i64 (q 4), .int .i64 (q 5), .int .i64 (q 6), .int .i64 (q 7), .int .i64 (q 8)] 104)).cell? ⟨w.heap.size, 2, none⟩ = some (.int .i64 (q 2)) := by simp
  have c3 : (w.alloc (.cells #[.int .i64 (q 0), .int .i64 (q 1), .int .i64 (q 2), .int .i64 (q 3), .int .i64 (q 4), .int .i64 (q 5), .int .i64 (q 6), .int .i64 (q 7), .int .i64 (q 8)] 104)).cell? ⟨w.heap.size, 3, none⟩ = some (.int .i64 (q 3)) := by simp
  have c4 : (w.alloc (.cells #[.int .i64 (q 0), .int .i64 (q 1), .int .i64 (q 2), .int .i64 (q 3), .int .i64 (q 4), .int .i64 (q 5), .int .i64 (q 6), .int .i64 (q 7), .int .i64 (q 8)] 104)).cell? ⟨w.heap.size, 4, none⟩ = some (.int .i64 (q 4)) := by simp
  have c5 : (w.alloc (.cells #[.int .i64 (q 0), .int .i64 (q 1), .int .i64 (q 2), .int .i64 (q 3), .int .i64 (q 4), .int .i64 (q 5), .int .i64 (q 6), .int .i64 (q 7), .int .i64 (q 8)] 104)).cell? ⟨w.heap.size, 5, none⟩ = some (.int .i64 (q 5)) := by simp
  have c6 : (w.alloc (.cells #[.int .i64 (q 0), .int .i64 (q 1), .int .i64 (q 2), .int .i64 (q 3), .int .i64 (q 4), .int .i64 (q 5), .int .i64 (q 6), .int .i64 (q 7), .int .i64 (q 8)] 104)).cell? ⟨w.heap.size, 6, none⟩ = some (.int .i64 (q 6)) := by simp
  have c7 : (w.alloc (.cells #[.int .i64 (q 0), .int .i64 (q 1), .int .i64 (q 2), .int .i64 (q 3), .int .i64 (q 4), .int .i64 (q 5), .int .i64 (q 6), .int .i64 (q 7), .int .i64 (q 8)] 104)).cell? ⟨w.heap.size, 7, none⟩ = some (.int .i64 (q 7)) := by simp
  have c8 : (w.alloc (.cells #[.int .i64 (q 0), .int .i64 (q 1), .int .i64 (q 2), .int .i64 (q 3), .int .i64 (q 4), .int .i64 (q 5), .int .i64 (q 6), .int .i64 (q 7), .int .i64 (q 8)] 104)).cell? ⟨w.heap.size, 8, none⟩ = some (.int .i64 (q 8)) := by simp
  have e0 := ix3_0
  have e1 := ix3_1
  have e2 := ix3_2
  go_enter Try.func73, Try.ntmps73
  go_wp2_with fail
  refine wp_loop_rounds 4 ?_

  rw [rounds_succ]
  go_wp2_with fail
  refine (leftWithout_00 q _ HQ.out).mono ?_
  rintro e w1 ⟨rfl, hb⟩
  have T1 := Lib.hid (blThen T0.out hb)
  replace c0 := cell_later hb c0
  replace c1 := cell_later hb c1
  replace c2 := cell_later hb c2
  replace c3 := cell_later hb c3
  replace c4 := cell_later hb c4
  replace c5 := cell_later hb c5
  replace c6 := cell_later hb c6
  replace c7 := cell_later hb c7
  replace c8 := cell_later hb c8
  clear hb T0
  go_wp2_with fail

  rw [rounds_succ]
  go_wp2_with fail
  refine (leftWithout_01 q _ HQ.out).mono ?_
  rintro e w2 ⟨rfl, hb⟩
  have T2 := Lib.hid (blThen T1.out hb)
  replace c0 := cell_later hb c0
  replace c1 := cell_later hb c1
  replace c2 := cell_later hb c2
  replace c3 := cell_later hb c3
  replace c4 := cell_later hb c4
  replace c5 := cell_later hb c5
  replace c6 := cell_later hb c6
  replace c7 := cell_later hb c7
  replace c8 := cell_later hb c8
  clear hb T1
  go_wp2_with fail

  rw [rounds_succ]
  go_wp2_with fail
  refine (leftWithout_02 q _ HQ.out).mono ?_
  rintro e w3 ⟨rfl, hb⟩
  have T3 := Lib.hid (blThen T2.out hb)
  replace c0 := cell_later hb c0
  replace c1 := cell_later hb c1
  replace c2 := cell_later hb c2
  replace c3 := cell_later hb c3
  replace c4 := cell_later hb c4
  replace c5 := cell_later hb c5
  replace c6 := cell_later hb c6
  replace c7 := cell_later hb c7
  replace c8 := cell_later hb c8
  clear hb T2
  go_wp2_with fail

  rw [rounds_succ]
  go_wp2_with fail
  go_ret
  exact ⟨by rw [HD.out]; rfl, T3.out⟩

set_option maxHeartbeats 1000000 in
theorem DetOf_any (A : Option Addr) (n c : Nat) (rs : Rws) (bs : List Nat) (w : World) (h : Hd w (rowsD rs) (.slice A n c) bs) :
    Calls Try.prog 35 #[.agg #[.slice A n c]] w fun e w' => e = .returned (.agg #[.int .i64 (mf rs), .int .i64 (detV rs)]) ∧ Below w.heap.size w w' := by
  have H := Lib.hid h
  clear h
  go_enter Try.func35, Try.ntmps35
  go_wp2_with fail
  refine (cellsOf_any _ _ _ rs _ _ ((H.out.alloc _).alloc _)).mono ?_
  rintro e w1 ⟨q, rfl, hq, hb⟩
  have hz : w.heap.size + 1 < w1.heap.size := by have := hb.size; simp at this; omega
  have r0 : w1.cell? ⟨w.heap.size + 1, 0, none⟩ = some (.int .i64 0) := cell_later hb (by rw [newCell _ _ _ _ _ (by simp)]; rfl)
  have r1 : w1.cell? ⟨w.heap.size + 1, 1, none⟩ = some (.int .i64 0) := cell_later hb (by rw [newCell _ _ _ _ _ (by simp)]; rfl)
  have z : ∀ k, w1.frozen? ⟨w.heap.size + 1, k, none⟩ = false := fun k => by rw [hb.frozen (p := ⟨w.heap.size + 1, k, none⟩) (by simp)]; exact newFrz _ _ _ _ _ (by simp)
  have z0 := z 0
  have z1 := z 1
  have T := Lib.hid (blThen (blThenAlloc (blAlloc w _) _) hb)
  clear hb z
  by_cases h0 : mf rs = 0
  · have hqq := hq h0
    have hdet : det q = det (fl rs) := by unfold det mnr; simp only [hqq _ (by omega : 0 < 9), hqq _ (by omega : 1 < 9), hqq _ (by omega : 2 < 9), hqq _ (by omega : 3 < 9), hqq _ (by omega : 4 < 9), hqq _ (by omega : 5 < 9), hqq _ (by omega : 6 < 9), hqq _ (by omega : 7 < 9), hqq _ (by omega : 8 < 9), Nat.reduceMod, Nat.reduceMul, Nat.reduceAdd]
    have hQ : Q9 q := fun t ht => by rw [hqq t ht]; exact fl_Q9 h0 t ht
    have HQ := Lib.hid hQ
    have HD : Hid (det q = detV rs) := by show _ = _; rw [hdet, detV_ok h0]
    clear hq hqq hdet hQ
    have HC : Hid (∀ t, t < 9 → (w1.alloc (.cells #[.int .i64 (q 0), .int .i64 (q 1), .int .i64 (q 2), .int .i64 (q 3), .int .i64 (q 4), .int .i64 (q 5), .int .i64 (q 6), .int .i64 (q 7), .int .i64 (q 8)] 104)).cell? ⟨w1.heap.size, t, none⟩ = some (.int .i64 (q t))) := fun t ht => by
      rw [newCell _ _ _ _ _ rfl]
      match t, ht with
      | 0, _ | 1, _ | 2, _ | 3, _ | 4, _ | 5, _ | 6, _ | 7, _ | 8, _ => rfl
    go_wp2_with fail
    refine (determinant_any q _ HQ.out).mono ?_
    rintro e w2 ⟨rfl, hb⟩
    have T2 := Lib.hid (blThen (blThenAlloc T.out _) hb)
    have s0 := cell_later hb (cell_later (blAlloc _ _) r0)
    have s1 := cell_later hb (cell_later (blAlloc _ _) r1)
    have y0 : w2.frozen? ⟨w.heap.size + 1, 0, none⟩ = false := by rw [hb.frozen (p := ⟨w.heap.size + 1, 0, none⟩) (by simp; omega), (blAlloc _ _).frozen (p := ⟨w.heap.size + 1, 0, none⟩) hz]; exact z0
    have y1 : w2.frozen? ⟨w.heap.size + 1, 1, none⟩ = false := by rw [hb.frozen (p := ⟨w.heap.size + 1, 1, none⟩) (by simp; omega), (blAlloc _ _).frozen (p := ⟨w.heap.size + 1, 1, none⟩) hz]; exact z1
    clear hb r0 r1 z0 z1
    go_wp2_with fail
    refine bodyPost_ret (v := .agg #[.int .i64 0, .int .i64 (det q)]) (by simp [results, Try.results35, go_sem, s0, s1]) rfl ⟨by rw [HD.out, h0], ?_⟩
    repeat (refine Below.setCell ?_ (by simp) _)
    exact T2.out
  · have HV := Lib.hid (detV_no h0)
    obtain ⟨k0, k1⟩ := two_alloc (a := .int .i64 (mf rs)) (b := .int .i64 0) r0 r1
    clear hq
    go_wp2_with fail
    refine bodyPost_ret (v := .agg #[.int .i64 (mf rs), .int .i64 0]) (by simp [results, Try.results35, go_sem, k0, k1]) rfl ⟨by rw [HV.out], ?_⟩
    refine blThenAlloc ?_ _
    repeat (refine Below.setCell ?_ (by simp) _)
    exact T.out

set_option maxRecDepth 100000 in
set_option maxHeartbeats 2000000 in
theorem sDet4_any (g o : Nat) (A : Option Addr) (n c : Nat) (rs : Rws) (bs : List Nat) (w : World) (h : Hd w (rowsD rs) (.slice A n c) bs) (h0 : mf rs = 0) (hg : w.cell? ⟨g, o, none⟩ = some (.slice A n c)) :
    Calls Try.prog 82 #[.pointer (some ⟨g, o, none⟩)] w fun e w' => e = .returned (.int .i64 (det (fl rs))) ∧ ∃ m, w' = w.drewN m := by
  have hq := fl_Q9 h0
  obtain ⟨a0, b0⟩ := det_part hq 0 (by omega) 0 0
  obtain ⟨a1, b1⟩ := det_part hq 1 (by omega) 0 1
  obtain ⟨a2, b2⟩ := det_part hq 2 (by omega) 0 2
  have HD : Hid (det (fl rs) = fl rs 0 * mnr (fl rs) 0 0 + fl rs 1 * mnr (fl rs) 0 1 + fl rs 2 * mnr (fl rs) 0 2) := rfl
  obtain ⟨hn, b, o', hA, hrow⟩ := h.three h0
  subst hn
  subst hA
  obtain ⟨ba, oa, Ca, xa, la, ya⟩ := hrow 0 (by omega)
  have y0 := ya 0 (by omega)
  have y1 := ya 1 (by omega)
  have y2 := ya 2 (by omega)
  simp only [Nat.reduceMul, Nat.reduceAdd, Nat.add_zero] at y0 y1 y2 xa
  have H := Lib.hid h
  have H0 := Lib.hid h0
  have HG := Lib.hid hg
  clear h h0 hq hrow ya
  go_enter Try.func82, Try.ntmps82
  go_wp2_with fail
  refine wp_loop_rounds 4 ?_

  rw [rounds_succ]
  go_wp2_with fail
  go_quiet ((go_at_call 83; first | exact Calls.quiet_of (sMinor_00 g o _ _ c rs bs _ (H.out.drewN _) H0.out (cell_later (below_drewN _ _ _) HG.out)) | exact quietAD (sMinor_00 g o _ _ c rs bs _ (H.out.drewN _) H0.out (cell_later (below_drewN _ _ _) HG.out))))
  go_wp2_with fail

  rw [rounds_succ]
  go_wp2_with fail
  go_quiet ((go_at_call 83; first | exact Calls.quiet_of (sMinor_01 g o _ _ c rs bs _ (H.out.drewN _) H0.out (cell_later (below_drewN _ _ _) HG.out)) | exact quietAD (sMinor_01 g o _ _ c rs bs _ (H.out.drewN _) H0.out (cell_later (below_drewN _ _ _) HG.out))))
  go_wp2_with fail

  rw [rounds_succ]
  go_wp2_with fail
  go_quiet ((go_at_call 83; first | exact Calls.quiet_of (sMinor_02 g o _ _ c rs bs _ (H.out.drewN _) H0.out (cell_later (below_drewN _ _ _) HG.out)) | exact quietAD (sMinor_02 g o _ _ c rs bs _ (H.out.drewN _) H0.out (cell_later (below_drewN _ _ _) HG.out))))
  go_wp2_with fail

  rw [rounds_succ]
  go_wp2_with fail
  go_ret
  exact ⟨by rw [HD.out]; rfl, _, rfl⟩

end Go.Proofs.Ythplngcdldongaa
