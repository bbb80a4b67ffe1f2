/-
  Matrices: the determinant of what is left without a row and a place: the program's leftWithout, the model's l4Minor.
  Matrices: determinants: the program's determinant, DetOf; the model's l4Det, DetOf.
-/
import Derived.Test.YtlfdpambbgddoaaGreatMatB
import Derived.Deep.RegionHeld3
namespace Go.Proofs.YtlfdpambbgddoaaGreat
open Go.RowKit
set_option linter.unusedVariables false
set_option linter.unusedSimpArgs false

theorem mulbd {a b : Int} (A B : Nat) (h1 : a.natAbs ≤ A) (h2 : b.natAbs ≤ B) : (a * b).natAbs ≤ A * B := by
  rw [Int.natAbs_mul]; exact Nat.mul_le_mul h1 h2
/-- each of the nine is a fix of a matrix. -/
def Q9 (q : Nat → Int) : Prop := ∀ t, t < 9 → (q t).natAbs ≤ 262144
theorem Q9.mul {q : Nat → Int} (h : Q9 q) {s t : Nat} (hs : s < 9) (ht : t < 9) : -68719476736 ≤ q s * q t ∧ q s * q t ≤ 68719476736 := by
  have := mulbd _ _ (h s hs) (h t ht)
  omega
def mnr (q : Nat → Int) (r p : Nat) : Int := q (3 * ((r + 1) % 3) + (p + 1) % 3) * q (3 * ((r + 2) % 3) + (p + 2) % 3) - q (3 * ((r + 1) % 3) + (p + 2) % 3) * q (3 * ((r + 2) % 3) + (p + 1) % 3)
theorem mnr_bd {q : Nat → Int} (h : Q9 q) (r p : Nat) : (mnr q r p).natAbs ≤ 137438953472 := by
  unfold mnr
  have h1 := h.mul (s := 3 * ((r + 1) % 3) + (p + 1) % 3) (t := 3 * ((r + 2) % 3) + (p + 2) % 3) (by omega) (by omega)
  have h2 := h.mul (s := 3 * ((r + 1) % 3) + (p + 2) % 3) (t := 3 * ((r + 2) % 3) + (p + 1) % 3) (by omega) (by omega)
  omega
/-- the three rows of a matrix without a fault, as they lie. -/
theorem Hd.three {w : World} {rs : Rws} {A : Option Addr} {n c : Nat} {bs : List Nat} (h : Hd w (rowsD rs) (.slice A n c) bs) (h0 : mf rs = 0) :
    n = 3 ∧ ∃ b o, A = some ⟨b, o, none⟩ ∧ ∀ i, i < 3 → ∃ b1 o1 C, w.cell? ⟨b, o + i, none⟩ = some (.slice (some ⟨b1, o1, none⟩) 3 C) ∧ 3 ≤ C ∧ ∀ k, k < 3 → w.cell? ⟨b1, o1 + k, none⟩ = some (.int .i64 (fl rs (3 * i + k))) := by
  obtain ⟨hl, _, _, hf⟩ := h.rows
  obtain rfl : n = 3 := hl.symm.trans (mf_zero h0).1
  obtain ⟨b, o, rfl, hf2⟩ := hf (by omega)
  refine ⟨rfl, b, o, rfl, fun i hi => ?_⟩
  obtain ⟨B, L, C, gs, c1, hd, _⟩ := hf2 i hi
  obtain rfl : L = 3 := hd.rd.1.symm.trans (mf_lens h0 i hi)
  obtain ⟨b1, o1, rfl, hx⟩ := hd.rd.2 (by omega)
  exact ⟨b1, o1, C, c1, hd.caps.1, fun k hk => by rw [fl_at rs i k hk]; exact hx k hk⟩
theorem fl_Q9 {rs : Rws} (h : mf rs = 0) : Q9 (fl rs) := fun t ht => by have := fl_bd h t ht; omega

end Go.Proofs.YtlfdpambbgddoaaGreat
namespace Go.Proofs.YtlfdpambbgddoaaGreat
open Go.RowKit
set_option linter.unusedVariables false

def det (q : Nat → Int) : Int := q 0 * mnr q 0 0 + q 1 * mnr q 0 1 + q 2 * mnr q 0 2
theorem det_part {q : Nat → Int} (h : Q9 q) (t : Nat) (ht : t < 9) (r p : Nat) : -36028797018963968 ≤ q t * mnr q r p ∧ q t * mnr q r p ≤ 36028797018963968 := by
  have := mulbd _ _ (h t ht) (mnr_bd h r p)
  omega
theorem det_bd {q : Nat → Int} (h : Q9 q) : -108086391056891904 ≤ det q ∧ det q ≤ 108086391056891904 := by
  have h0 := det_part h 0 (by omega) 0 0
  have h1 := det_part h 1 (by omega) 0 1
  have h2 := det_part h 2 (by omega) 0 2
  unfold det
  omega
/-! an array's element, a matrix's row -/

theorem ix3_0 (a b c : Int) (W : World) : (Instr.index 76 (.agg #[.int .i64 a, .int .i64 b, .int .i64 c]) (.int .i64 0)).run Tryz.prog W = .ok (.int .i64 a) W := by kernel_rfl
theorem ix9_0 (q : Nat → Int) (W : World) : (Instr.index 136 (.agg #[.int .i64 (q 0), .int .i64 (q 1), .int .i64 (q 2), .int .i64 (q 3), .int .i64 (q 4), .int .i64 (q 5), .int .i64 (q 6), .int .i64 (q 7), .int .i64 (q 8)]) (.int .i64 0)).run Tryz.prog W = .ok (.agg #[.int .i64 (q 0), .int .i64 (q 1), .int .i64 (q 2)]) W := by kernel_rfl

theorem ix3_1 (a b c : Int) (W : World) : (Instr.index 76 (.agg #[.int .i64 a, .int .i64 b, .int .i64 c]) (.int .i64 1)).run Tryz.prog W = .ok (.int .i64 b) W := by kernel_rfl
theorem ix9_1 (q : Nat → Int) (W : World) : (Instr.index 136 (.agg #[.int .i64 (q 0), .int .i64 (q 1), .int .i64 (q 2), .int .i64 (q 3), .int .i64 (q 4), .int .i64 (q 5), .int .i64 (q 6), .int .i64 (q 7), .int .i64 (q 8)]) (.int .i64 1)).run Tryz.prog W = .ok (.agg #[.int .i64 (q 3), .int .i64 (q 4), .int .i64 (q 5)]) W := by kernel_rfl

theorem ix3_2 (a b c : Int) (W : World) : (Instr.index 76 (.agg #[.int .i64 a, .int .i64 b, .int .i64 c]) (.int .i64 2)).run Tryz.prog W = .ok (.int .i64 c) W := by kernel_rfl
theorem ix9_2 (q : Nat → Int) (W : World) : (Instr.index 136 (.agg #[.int .i64 (q 0), .int .i64 (q 1), .int .i64 (q 2), .int .i64 (q 3), .int .i64 (q 4), .int .i64 (q 5), .int .i64 (q 6), .int .i64 (q 7), .int .i64 (q 8)]) (.int .i64 2)).run Tryz.prog W = .ok (.agg #[.int .i64 (q 6), .int .i64 (q 7), .int .i64 (q 8)]) W := by kernel_rfl

theorem quietAD {P : Program} {f : FuncId} {args : Array Value} {w : World} {a n : Nat} {v : Value}
    (h : Calls P f args (w.drewN (a + n)) fun e w' => e = .returned v ∧ ∃ m, w' = (w.drewN (a + n)).drewN m) : Calls P f args (w.drewN (a + n)) fun e w'' => e = .returned v ∧ ∃ m, w'' = w.drewN (a + m) :=
  h.mono fun _ _ ⟨he, m, hm⟩ => ⟨he, n + m, by rw [hm, World.drewN_drewN, Nat.add_assoc]⟩
/-- two cells written, then something made. -/
theorem two_alloc {w1 : World} {g : Nat} {x y a b : Value} (h0 : w1.cell? ⟨g, 0, none⟩ = some x) (h1 : w1.cell? ⟨g, 1, none⟩ = some y) :
    (∀ o, (((w1.setCell ⟨g, 0, none⟩ a).setCell ⟨g, 1, none⟩ b).alloc o).cell? ⟨g, 0, none⟩ = some a) ∧ (∀ o, (((w1.setCell ⟨g, 0, none⟩ a).setCell ⟨g, 1, none⟩ b).alloc o).cell? ⟨g, 1, none⟩ = some b) :=
  ⟨fun o => cell_later (blAlloc _ _) (by rw [World.cell?_setCell_other _ _ _ _ (by simp), World.cell?_setCell_same' _ _ _ (by rw [h0]; rfl)]), fun o => cell_later (blAlloc _ _) (by rw [World.cell?_setCell_same' _ _ _ (by rw [World.cell?_setCell_other _ _ _ _ (by simp), h1]; rfl)])⟩
def detV (rs : Rws) : Int := if mf rs = 0 then det (fl rs) else 0
theorem detV_no {rs : Rws} (h : mf rs ≠ 0) : detV rs = 0 := by unfold detV; rw [if_neg h]
theorem detV_ok {rs : Rws} (h : mf rs = 0) : detV rs = det (fl rs) := by unfold detV; rw [if_pos h]

end Go.Proofs.YtlfdpambbgddoaaGreat
