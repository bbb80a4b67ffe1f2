/-
  The span of a grid, plain mathematics: how far neighbours are from each other at most (spn).
-/
import Derived.Test.YtmmlcdbbjkligaaGrdV
import Derived.Test.YtmmlcdbbjkligaaGrdF
namespace Go.Proofs.Ytmmlcdbbjkligaa
set_option linter.unusedVariables false

/-- number k of place t. -/
def cor (s t k : Nat) : Nat := if k = 0 then t / (s * s) else if k = 1 then t / s % s else t % s
/-- how many places further the next one along axis k stands. -/
def stq (s k : Nat) : Nat := if k = 0 then s * s else if k = 1 then s else 1
def rwf (rs : Rws) (t j : Nat) : Int := (rw_ rs t).getD j 0
/-- the first c pairs. -/
def spn (s : Nat) (rs : Rws) : Nat → Int
  | 0 => 0
  | c + 1 => if cor s (c / 3) (c % 3) + 1 < s then max (spn s rs c) (far3 (rwf rs (c / 3)) (rwf rs (c / 3 + stq s (c % 3))) 3) else spn s rs c
theorem spn_at (s : Nat) (rs : Rws) {t k : Nat} (hk : k < 3) : spn s rs (3 * t + (k + 1)) = if cor s t k + 1 < s then max (spn s rs (3 * t + k)) (far3 (rwf rs t) (rwf rs (t + stq s k)) 3) else spn s rs (3 * t + k) := by
  have h1 : (3 * t + k) / 3 = t := by omega
  have h2 : (3 * t + k) % 3 = k := by omega
  show spn s rs ((3 * t + k) + 1) = _
  simp only [spn]
  rw [h1, h2]
theorem cor_next {s t k : Nat} (hs : s = 2 ∨ s = 3 ∨ s = 4) (ht : t < s * s * s) (hk : k < 3) (h : cor s t k + 1 < s) : t + stq s k < s * s * s ∧ ∀ j, j < 3 → cor s (t + stq s k) j = if j = k then cor s t j + 1 else cor s t j := by
  have hkk : k = 0 ∨ k = 1 ∨ k = 2 := by omega
  rcases hs with rfl | rfl | rfl <;> rcases hkk with rfl | rfl | rfl <;> simp only [cor, stq, Nat.reduceMul, if_true, if_false, Nat.reduceEqDiff, reduceIte] at * <;>
    refine ⟨by omega, fun j hj => ?_⟩ <;> (have hjj : j = 0 ∨ j = 1 ∨ j = 2 := by omega) <;> rcases hjj with rfl | rfl | rfl <;> simp <;> omega
theorem cor_kt (s t : Nat) : kt s t = kp ((cor s t 0 : Nat) : Int) ((cor s t 1 : Nat) : Int) ((cor s t 2 : Nat) : Int) := rfl
theorem cor_lt {s t : Nat} (hs : s = 2 ∨ s = 3 ∨ s = 4) (ht : t < s * s * s) {k : Nat} (hk : k < 3) : cor s t k < s := by
  obtain ⟨a, b, c⟩ := pl_lt hs ht
  match k, hk with
  | 0, _ => exact a
  | 1, _ => exact b
  | 2, _ => exact c
theorem spn_bd {s : Nat} {rs : Rws} (hs : s = 2 ∨ s = 3 ∨ s = 4) (hr : ∀ t, t < s * s * s → Lv3 (rwf rs t)) : ∀ c, c ≤ 3 * (s * s * s) → 0 ≤ spn s rs c ∧ spn s rs c ≤ 65535 := by
  intro c
  induction c with
  | zero => intro _; simp [spn]
  | succ c ih =>
    intro hc
    have h1 := ih (by omega)
    simp only [spn]
    split
    · rename_i h
      have ht : c / 3 < s * s * s := by omega
      obtain ⟨h2, -⟩ := cor_next hs ht (Nat.mod_lt c (by omega)) h
      have := far3_bd (hr _ ht) (hr _ h2) 3 (Nat.le_refl _)
      omega
    · exact h1
end Go.Proofs.Ytmmlcdbbjkligaa
