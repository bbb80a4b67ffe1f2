/-
  Plain mathematics for chapter 1: Go's truncated division against the rounded-down one, rounding to the nearest, a half up.
-/
import Derived.PlainAid
namespace Go.Proofs.Ythplngcdldongaa
set_option linter.unusedVariables false

/-- a divided by b, rounded to the nearest, a half up. -/
def rnd (a b : Int) : Int := (2 * a + b) / (2 * b)

theorem tdm (a b : Int) : b * a.tdiv b + a.tmod b = a := Int.mul_tdiv_add_tmod a b
theorem ediv_uniq {a b q r : Int} (_hb : 0 < b) (h : b * q + r = a) (h0 : 0 ≤ r) (h1 : r < b) : a / b = q := by
  have : a / b = q ∧ a % b = r := by
    rw [Int.ediv_emod_unique _hb]; exact ⟨by omega, h0, h1⟩
  exact this.1
theorem tmod_lo (a b : Int) (hb : 0 < b) : -b < a.tmod b ∧ a.tmod b < b := by
  have h1 := Int.tmod_lt_of_pos a hb
  have h2 := Int.tmod_lt_of_pos (-a) hb
  rw [Int.neg_tmod] at h2
  omega
/-- the quotient where the rest is below 0. -/
theorem floor_neg {a b : Int} (hb : 0 < b) (h : a.tmod b < 0) : a / b = a.tdiv b - 1 := by
  have h1 := tdm a b
  have h2 := tmod_lo a b hb
  refine ediv_uniq hb (r := a.tmod b + b) ?_ (by omega) (by omega)
  rw [Int.mul_sub, Int.mul_one]; omega
theorem floor_pos {a b : Int} (hb : 0 < b) (h : ¬ a.tmod b < 0) : a / b = a.tdiv b := by
  have h1 := tdm a b
  have h2 := tmod_lo a b hb
  exact ediv_uniq hb (r := a.tmod b) h1 (by omega) (by omega)
/-- the quotient is no further from 0 than the dividend. -/
theorem tdiv_bd (a b N : Int) (hb : 0 < b) (h1 : -N ≤ a) (h2 : a ≤ N) : -N ≤ a.tdiv b ∧ a.tdiv b ≤ N := by
  have h3 : (a.tdiv b).natAbs ≤ a.natAbs := by
    rw [Int.natAbs_tdiv]; exact Nat.div_le_self _ _
  omega
/-- with whole part q and rest r (0 ≤ r < b) the nearest is q, or q + 1 from the half on. -/
theorem rnd_of {a b q r : Int} (_hb : 0 < b) (h : b * q + r = a) (h0 : 0 ≤ r) (h1 : r < b) : rnd a b = if (b + 1) / 2 ≤ r then q + 1 else q := by
  unfold rnd
  by_cases hc : (b + 1) / 2 ≤ r
  · rw [if_pos hc]
    refine ediv_uniq (by omega) (r := 2 * r - b) ?_ (by omega) (by omega)
    rw [Int.mul_add, Int.mul_assoc]; omega
  · rw [if_neg hc]
    refine ediv_uniq (by omega) (r := 2 * r + b) ?_ (by omega) (by omega)
    rw [Int.mul_assoc]; omega
theorem rnd_pp {a b : Int} (hb : 0 < b) (h : ¬ a.tmod b < 0) (hc : (b + 1) / 2 ≤ a.tmod b) : a.tdiv b + 1 = rnd a b := by
  rw [rnd_of hb (tdm a b) (by omega) (tmod_lo a b hb).2, if_pos hc]
theorem rnd_pn {a b : Int} (hb : 0 < b) (h : ¬ a.tmod b < 0) (hc : ¬ (b + 1) / 2 ≤ a.tmod b) : a.tdiv b = rnd a b := by
  rw [rnd_of hb (tdm a b) (by omega) (tmod_lo a b hb).2, if_neg hc]
theorem tdm' (a b : Int) : b * (a.tdiv b - 1) + (a.tmod b + b) = a := by
  have h := tdm a b
  rw [Int.mul_sub, Int.mul_one]; omega
theorem rnd_np {a b : Int} (hb : 0 < b) (h : a.tmod b < 0) (hc : (b + 1) / 2 ≤ a.tmod b + b) : a.tdiv b - 1 + 1 = rnd a b := by
  have := tmod_lo a b hb
  rw [rnd_of hb (tdm' a b) (by omega) (by omega), if_pos hc]
theorem rnd_nn {a b : Int} (hb : 0 < b) (h : a.tmod b < 0) (hc : ¬ (b + 1) / 2 ≤ a.tmod b + b) : a.tdiv b - 1 = rnd a b := by
  have := tmod_lo a b hb
  rw [rnd_of hb (tdm' a b) (by omega) (by omega), if_neg hc]
/-- what is rounded is no more than a half away. -/
theorem rnd_half (a b : Int) (hb : 0 < b) : -b ≤ 2 * a - 2 * b * rnd a b ∧ 2 * a - 2 * b * rnd a b < b := by
  unfold rnd
  have h1 := Int.mul_ediv_add_emod (2 * a + b) (2 * b)
  have h2 := Int.emod_nonneg (2 * a + b) (by omega : 2 * b ≠ 0)
  have h3 := Int.emod_lt_of_pos (2 * a + b) (by omega : 0 < 2 * b)
  omega
theorem rnd_bd (a b N : Int) (hb : 0 < b) (h1 : -N ≤ a) (h2 : a ≤ N) : -N ≤ rnd a b ∧ rnd a b ≤ N := by
  unfold rnd
  constructor
  · rw [Int.le_ediv_iff_mul_le (by omega)]
    have : N * (2 * b) = 2 * (N * b) := by rw [Int.mul_left_comm]
    have h3 : N * b ≥ N := by
      have := Int.mul_le_mul_of_nonneg_left (show (1 : Int) ≤ b by omega) (show 0 ≤ N by omega)
      omega
    rw [Int.neg_mul]; omega
  · apply Int.lt_add_one_iff.1
    rw [Int.ediv_lt_iff_lt_mul (by omega)]
    have : (N + 1) * (2 * b) = 2 * (N * b) + 2 * b := by rw [Int.add_mul, Int.mul_left_comm]; omega
    have h3 : N * b ≥ N := by
      have := Int.mul_le_mul_of_nonneg_left (show (1 : Int) ≤ b by omega) (show 0 ≤ N by omega)
      omega
    omega
end Go.Proofs.Ythplngcdldongaa
