/-
  Matrices: the determinant of what is left without a row and a place: the program's leftWithout, the model's l4Minor.
-/
import Derived.Test.YtmmlcdbbjkligaaMat2
import Derived.Deep.RegionHeld3
namespace Go.Proofs.Ytmmlcdbbjkligaa
open Go.RowKit
set_option linter.unusedVariables false
set_option linter.unusedSimpArgs false

theorem mulbd {a b : Int} (A B : Nat) (h1 : a.natAbs ≤ A) (h2 : b.natAbs ≤ B) : (a * b).natAbs ≤ A * B := by
  rw [Int.natAbs_mul]; exact Nat.mul_le_mul h1 h2
/-- each of the nine is a fix of a matrix. -/
def Q9 (q : Nat → Int) : Prop := ∀ t, t < 9 → (q t).natAbs ≤ 262144
theorem Q9.mul {q : Nat → Int} (h : Q9 q) {s t : Nat} (hs : s < 9) (ht : t < 9) : -68719476736 ≤ q s * q t ∧ q s * q t ≤ 68719476736 := by
  have := mulbd _ _ (h s hs) (h t ht)
  omega
def mnr (q : Nat → Int) (r p : Nat) : Int := q (3 * ((r + 1) % 3) + (p + 1) % 3) * q (3 * ((r + 2) % 3) + (p + 2) % 3) - q (3 * ((r + 1) % 3) + (p + 2) % 3) * q (3 * ((r + 2) % 3) + (p + 1) % 3)
theorem mnr_bd {q : Nat → Int} (h : Q9 q) (r p : Nat) : (mnr q r p).natAbs ≤ 137438953472 := by
  unfold mnr
  have h1 := h.mul (s := 3 * ((r + 1) % 3) + (p + 1) % 3) (t := 3 * ((r + 2) % 3) + (p + 2) % 3) (by omega) (by omega)
  have h2 := h.mul (s := 3 * ((r + 1) % 3) + (p + 2) % 3) (t := 3 * ((r + 2) % 3) + (p + 1) % 3) (by omega) (by omega)
  omega
/-- the three rows of a matrix without a fault, as they lie. -/
theorem Hd.three {w : World} {rs : Rws} {A : Option Addr} {n c : Nat} {bs : List Nat} (h : Hd w (rowsD rs) (.slice A n c) bs) (h0 : mf rs = 0) :
    n = 3 ∧ ∃ b o, A = some ⟨b, o, none⟩ ∧ ∀ i, i < 3 → ∃ b1 o1 C, w.cell? ⟨b, o + i, none⟩ = some (.slice (some ⟨b1, o1, none⟩) 3 C) ∧ 3 ≤ C ∧ ∀ k, k < 3 → w.cell? ⟨b1, o1 + k, none⟩ = some (.int .i64 (fl rs (3 * i + k))) := by
  obtain ⟨hl, _, _, hf⟩ := h.rows
  obtain rfl : n = 3 := hl.symm.trans (mf_zero h0).1
  obtain ⟨b, o, rfl, hf2⟩ := hf (by omega)
  refine ⟨rfl, b, o, rfl, fun i hi => ?_⟩
  obtain ⟨B, L, C, gs, c1, hd, _⟩ := hf2 i hi
  obtain rfl : L = 3 := hd.rd.1.symm.trans (mf_lens h0 i hi)
  obtain ⟨b1, o1, rfl, hx⟩ := hd.rd.2 (by omega)
  exact ⟨b1, o1, C, c1, hd.caps.1, fun k hk => by rw [fl_at rs i k hk]; exact hx k hk⟩
theorem fl_Q9 {rs : Rws} (h : mf rs = 0) : Q9 (fl rs) := fun t ht => by have := fl_bd h t ht; omega

end Go.Proofs.Ytmmlcdbbjkligaa
