/-
  The grid that is a line does nothing: plain mathematics. A level is its cell and its rest.
-/
import Derived.Test.YthplngcdldongaaPlnA
namespace Go.Proofs.Ythplngcdldongaa
open Go.RowKit Go.Maps
set_option linter.unusedVariables false
set_option linter.unusedSimpArgs false

theorem cell_sum {sd : Int} {v : Nat → Int} {i : Nat} (hs : 2 ≤ sd ∧ sd ≤ 4) (hv : 0 ≤ v i ∧ v i ≤ 65535) : cc sd v i * 65535 + cr sd v i = v i * (sd - 1) := by
  unfold cc cr clC clR
  have h3 : sd = 2 ∨ sd = 3 ∨ sd = 4 := by omega
  by_cases h : v i = 65535
  · rw [if_pos h, if_pos h, h]; omega
  · rw [if_neg h, if_neg h]
    rcases h3 with rfl | rfl | rfl <;> omega
theorem ax_all (r : Nat → Int) {i : Nat} (hi : i < 3) : i = ax r 0 ∨ i = ax r 1 ∨ i = ax r 2 := by
  have h3 : i = 0 ∨ i = 1 ∨ i = 2 := by omega
  unfold ax
  by_cases h1 : r 1 > r 0 <;> by_cases h2 : r 2 > r 0 <;> by_cases h4 : r 2 > r 1 <;> simp [h1, h2, h4] <;> omega
/-- what is added on the way along one axis, by the weights. -/
theorem pl_sum (c r : Nat → Int) {i : Nat} (hi : i < 3) :
    (pl c r 0 i - c i) * (lft r 0 - lft r 1) + (pl c r 1 i - c i) * (lft r 1 - lft r 2) + (pl c r 2 i - c i) * (lft r 2 - lft r 3) + (pl c r 3 i - c i) * (lft r 3 - lft r 4) = r i := by
  obtain ⟨n01, n02, n12⟩ := ax_ne r
  have l1 : lft r 1 = r (ax r 0) := rfl
  have l2 : lft r 2 = r (ax r 1) := rfl
  have l3 : lft r 3 = r (ax r 2) := rfl
  have l4 : lft r 4 = 0 := rfl
  rw [l1, l2, l3, l4]
  have p0 : pl c r 0 i - c i = 0 := by simp [pl]
  rcases ax_all r hi with e | e | e
  · have p1 : pl c r 1 i - c i = 1 := by simp only [pl, bump]; rw [if_pos e]; omega
    have p2 : pl c r 2 i - c i = 1 := by simp only [pl, bump]; rw [if_neg (by omega), if_pos e]; omega
    have p3 : pl c r 3 i - c i = 1 := by simp only [pl, bump]; rw [if_neg (by omega), if_neg (by omega), if_pos e]; omega
    rw [p0, p1, p2, p3, ← e]
    omega
  · have p1 : pl c r 1 i - c i = 0 := by simp only [pl, bump]; rw [if_neg (by omega)]; omega
    have p2 : pl c r 2 i - c i = 1 := by simp only [pl, bump]; rw [if_pos e, if_neg (by omega)]; omega
    have p3 : pl c r 3 i - c i = 1 := by simp only [pl, bump]; rw [if_neg (by omega), if_pos e, if_neg (by omega)]; omega
    rw [p0, p1, p2, p3, ← e]
    omega
  · have p1 : pl c r 1 i - c i = 0 := by simp only [pl, bump]; rw [if_neg (by omega)]; omega
    have p2 : pl c r 2 i - c i = 0 := by simp only [pl, bump]; rw [if_neg (by omega), if_neg (by omega)]; omega
    have p3 : pl c r 3 i - c i = 1 := by simp only [pl, bump]; rw [if_pos e, if_neg (by omega), if_neg (by omega)]; omega
    rw [p0, p1, p2, p3, ← e]
    omega
theorem gf_line {s : Nat} (h3 : s = 2 ∨ s = 3 ∨ s = 4) : gf (s : Int) (lgRs s (s * s * s)) = 0 := by
  have hl : (lgRs s (s * s * s)).length = s * s * s := by simp [lgRs]
  rw [gf_rows hl (inB_iff.2 (by omega)) (by rcases h3 with rfl | rfl | rfl <;> rfl)]
  have : ∀ i, i ≤ s * s * s → gfl (lgRs s (s * s * s)) i = 0 := by
    intro i
    induction i with
    | zero => intro _; rfl
    | succ i ih =>
      intro hi
      refine gfl_on (ih (by omega)) ?_
      have e : rw_ (lgRs s (s * s * s)) i = lgRow s i := by simp [rw_, lgRs, List.getD, show i < s * s * s by omega]
      rw [e, ← lfo_1]
      exact lgRow_lf h3 (by omega)
  exact this _ (Nat.le_refl _)
theorem ndv_line {s : Nat} (h3 : s = 2 ∨ s = 3 ∨ s = 4) {x : Nat → Int} (hx : inS (s : Int) [x 0, x 1, x 2] = true) {i : Nat} (hi : i < 3) : ndv (lgRs s (s * s * s)) s x i = rnd (x i * 65535) ((s : Int) - 1) := by
  obtain ⟨a, -, b0, b1, b2⟩ := nd_yes h3 hx
  unfold ndv
  generalize ndI (s : Int) [x 0, x 1, x 2] = t at *
  have e : rw_ (lgRs s (s * s * s)) t = lgRow s t := by simp [rw_, lgRs, List.getD, a]
  rw [e]
  unfold lgRow lgV
  match i, hi with
  | 0, _ => show rnd (((t / (s * s) : Nat) : Int) * 65535) _ = _; rw [b0]; rfl
  | 1, _ => show rnd (((t / s % s : Nat) : Int) * 65535) _ = _; rw [b1]; rfl
  | 2, _ => show rnd (((t % s : Nat) : Int) * 65535) _ = _; rw [b2]; rfl
/-- the line of 2, and that of 4, tell each colour itself. -/
theorem gvl_line {s : Nat} (h : s = 2 ∨ s = 4) {v : Nat → Int} (hv : Lv v) {i : Nat} (hi : i < 3) : gvl (s : Int) (lgRs s (s * s * s)) v i = v i := by
  have h3 : s = 2 ∨ s = 3 ∨ s = 4 := by omega
  have hs3 : (s : Int) = 2 ∨ (s : Int) = 3 ∨ (s : Int) = 4 := by omega
  obtain ⟨D, hD, hD1⟩ : ∃ D : Int, (D * ((s : Int) - 1) = 65535) ∧ ∀ z : Int, rnd (z * 65535) ((s : Int) - 1) = z * D := by
    rcases h with rfl | rfl
    · refine ⟨65535, by decide, fun z => ?_⟩
      show rnd (z * 65535) 1 = _
      have := rnd_mul (z * 65535) 1 (by omega)
      rw [Int.mul_one] at this
      exact this
    · refine ⟨21845, by decide, fun z => ?_⟩
      show rnd (z * 65535) 3 = _
      have := rnd_mul (z * 21845) 3 (by omega)
      rw [Int.mul_assoc] at this
      exact this
  have hn : ∀ t, t ≤ 3 → ndv (lgRs s (s * s * s)) s (pl (cc s v) (cr s v) t) i = pl (cc s v) (cr s v) t i * D := fun t ht => by
    rw [ndv_line h3 (pl_in hs3 hv ht) hi, hD1]
  have hsum := pl_sum (cc s v) (cr s v) hi
  have hcell := cell_sum (sd := (s : Int)) (v := v) (i := i) (by omega) (hv i hi)
  have e4 : lft (cr s v) 4 = 0 := rfl
  have e0 : lft (cr s v) 0 = 65535 := rfl
  have hsm : sm (lgRs s (s * s * s)) s (cc s v) (cr s v) 4 i = v i * 65535 := by
    simp only [sm]
    rw [hn 0 (by omega), hn 1 (by omega), hn 2 (by omega), hn 3 (by omega)]
    rw [e0, e4] at hsum ⊢
    generalize lft (cr s v) 1 = l1 at *
    generalize lft (cr s v) 2 = l2 at *
    generalize lft (cr s v) 3 = l3 at *
    generalize pl (cc s v) (cr s v) 0 i = p0 at *
    generalize pl (cc s v) (cr s v) 1 i = p1 at *
    generalize pl (cc s v) (cr s v) 2 i = p2 at *
    generalize pl (cc s v) (cr s v) 3 i = p3 at *
    generalize cc s v i = c at *
    generalize cr s v i = r at *
    generalize v i = u at *
    have k : p0 * (65535 - l1) + p1 * (l1 - l2) + p2 * (l2 - l3) + p3 * (l3 - 0) = c * 65535 + r := by
      simp only [Int.sub_mul] at hsum
      have q : c * (65535 - l1) + c * (l1 - l2) + c * (l2 - l3) + c * (l3 - 0) = c * 65535 := by
        rw [← Int.mul_add, ← Int.mul_add, ← Int.mul_add]
        congr 1
        omega
      omega
    calc 0 + p0 * D * (65535 - l1) + p1 * D * (l1 - l2) + p2 * D * (l2 - l3) + p3 * D * (l3 - 0)
        = D * (p0 * (65535 - l1) + p1 * (l1 - l2) + p2 * (l2 - l3) + p3 * (l3 - 0)) := by
          have aux : ∀ p x : Int, p * D * x = D * (p * x) := fun p x => by rw [Int.mul_comm p D, Int.mul_assoc]
          rw [aux, aux, aux, aux, Int.mul_add, Int.mul_add, Int.mul_add, Int.zero_add]
      _ = D * (u * ((s : Int) - 1)) := by rw [k, hcell]
      _ = u * 65535 := by rw [← hD]; simp only [Int.mul_comm, Int.mul_left_comm]
  unfold gvl
  rw [hsm, rnd_mul _ _ (by omega)]
theorem egL_line {s : Nat} (h : s = 2 ∨ s = 4) {xs : List Int} (hx : lf xs = 0) : egL (s : Int) (lgRs s (s * s * s)) xs = xs := by
  have h3 : s = 2 ∨ s = 3 ∨ s = 4 := by omega
  have hv : Lv (xs.getD · 0) := fun j hj => inB_iff.1 ((lf_zero hx).2 j hj)
  rw [(eg_y (gf_line h3) hx).2, gvl_line h hv (by omega), gvl_line h hv (by omega), gvl_line h hv (by omega)]
  match xs, (lf_zero hx).1 with
  | [a, b, c], _ => rfl
end Go.Proofs.Ythplngcdldongaa
