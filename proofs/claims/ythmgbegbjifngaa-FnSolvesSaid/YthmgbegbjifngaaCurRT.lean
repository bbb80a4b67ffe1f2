/-
  Lists alone: a curve that was packed is read back, and what is read is packed to the same bytes.
-/
import Derived.Test.YthmgbegbjifngaaCurP
import Derived.Test.YthmgbegbjifngaaCurR
namespace Go.Proofs.Ythmgbegbjifngaa
set_option linter.unusedVariables false

theorem pkAt_get0 (ps : List Int) (k : Nat) : (pkAt ps k).getD 0 0 = (ps.length : Int) := by
  induction k with
  | zero => rfl
  | succ k ih =>
    rw [pkAt, ← ih]
    have : 0 < (pkAt ps k).length := by rw [pkAt_len]; omega
    simp [List.getD, List.getElem?_append_left this]
theorem pkAt_get {ps : List Int} {k i : Nat} (hi : i < k) : (pkAt ps k).getD (1 + 2 * i) 0 = (((pt ps i).toNat / 256 : Nat) : Int) ∧ (pkAt ps k).getD (1 + 2 * i + 1) 0 = (((pt ps i).toNat % 256 : Nat) : Int) := by
  induction k with
  | zero => omega
  | succ k ih =>
    rw [pkAt]
    have hl := pkAt_len ps k
    by_cases e : i < k
    · obtain ⟨a, b⟩ := ih e
      rw [← a, ← b]
      constructor
      · simp only [List.getD]; rw [List.getElem?_append_left (by omega)]
      · simp only [List.getD]; rw [List.getElem?_append_left (by omega)]
    · obtain rfl : i = k := by omega
      constructor
      · simp only [List.getD]; rw [List.getElem?_append_right (by omega), hl]
        have : 1 + 2 * i - (1 + 2 * i) = 0 := by omega
        rw [this]; rfl
      · simp only [List.getD]; rw [List.getElem?_append_right (by omega), hl]
        have : 1 + 2 * i + 1 - (1 + 2 * i) = 1 := by omega
        rw [this]; rfl
theorem pkAt_two {ps : List Int} {k i : Nat} (h : CFine ps) (hi : i < k) : (twoAt (pkAt ps k) (1 + 2 * i) : Int) = pt ps i := by
  obtain ⟨a, b⟩ := pkAt_get (ps := ps) hi
  unfold twoAt
  rw [a, b]
  have := h.lv i
  omega
/-- what was packed is read back. -/
theorem pack_read {ps : List Int} (h : CFine ps) : rcOk (pkAt ps ps.length) = true ∧ rcL (pkAt ps ps.length) = ps := by
  have hn : rcN (pkAt ps ps.length) = ps.length := by unfold rcN; rw [pkAt_get0]; omega
  have h1 := h.lo
  have h2 := h.hi
  have hok : rcOk (pkAt ps ps.length) = true := rcOk_t (pkAt_len _ _) (by rw [hn]) (by rw [hn]; exact inB_t (by omega) (by omega))
  refine ⟨hok, ?_⟩
  unfold rcL
  rw [if_pos hok, hn]
  refine List.ext_getElem (by rw [rcP_len]) fun i hi hj => ?_
  have e1 : (rcP (pkAt ps ps.length) ps.length)[i] = (rcP (pkAt ps ps.length) ps.length).getD i 0 := by simp [List.getD, hi]
  have e2 : ps[i] = pt ps i := by unfold pt; simp [List.getD, hj]
  rw [e1, e2, rcP_get hj, pkAt_two h hj]
theorem two_two {xs : List Int} (h : U8s xs) (a : Nat) : two (twoAt xs a) = [xs.getD a 0, xs.getD (a + 1) 0] := by
  have p := h a
  have q := h (a + 1)
  unfold two twoAt
  simp only [List.cons.injEq, and_true]
  omega
theorem take_two {xs : List Int} {a : Nat} (h : a + 2 ≤ xs.length) : xs.take a ++ [xs.getD a 0, xs.getD (a + 1) 0] = xs.take (a + 2) := by
  have e1 : xs.getD a 0 = xs[a]'(by omega) := by simp [List.getD, show a < xs.length by omega]
  have e2 : xs.getD (a + 1) 0 = xs[a + 1]'(by omega) := by simp [List.getD, show a + 1 < xs.length by omega]
  have e3 : xs.take (a + 1) = xs.take a ++ [xs[a]'(by omega)] := List.take_succ_eq_append_getElem (by omega)
  have e4 : xs.take (a + 2) = xs.take (a + 1) ++ [xs[a + 1]'(by omega)] := List.take_succ_eq_append_getElem (by omega)
  rw [e1, e2, e4, e3, List.append_assoc]
  rfl
theorem pkAt_rcP {xs : List Int} (h : U8s xs) {N : Nat} (hl : xs.length = 1 + 2 * N) (h0 : xs.getD 0 0 = (N : Int)) (k : Nat) (hk : k ≤ N) : pkAt (rcP xs N) k = xs.take (1 + 2 * k) := by
  induction k with
  | zero =>
    rw [pkAt, rcP_len, ← h0]
    cases xs with
    | nil => simp at hl; omega
    | cons x r => simp
  | succ k ih =>
    rw [pkAt, ih (by omega)]
    have e : pt (rcP xs N) k = (twoAt xs (1 + 2 * k) : Int) := rcP_get (by omega)
    rw [e, Int.toNat_natCast, two_two h, take_two (by omega)]
    congr 1
/-- what is read is packed to the same bytes. -/
theorem read_pack {xs : List Int} (h : U8s xs) (hok : rcOk xs = true) : cf (rcL xs) = 0 ∧ pkB (rcL xs) = xs := by
  have hok' := hok
  unfold rcOk at hok
  simp only [Bool.and_eq_true, decide_eq_true_eq] at hok
  obtain ⟨⟨h1, h2⟩, h3⟩ := hok
  have hL : rcL xs = rcP xs (rcN xs) := by unfold rcL; rw [if_pos hok']
  have hcf : cf (rcL xs) = 0 := by rw [hL, rcP_cf h, if_pos h3]
  refine ⟨hcf, ?_⟩
  unfold pkB
  rw [if_pos hcf, hL, rcP_len]
  have h0 : xs.getD 0 0 = ((rcN xs : Nat) : Int) := by have := (h 0).1; unfold rcN; omega
  rw [pkAt_rcP h h2 h0 _ (Nat.le_refl _), ← h2]
  simp
end Go.Proofs.Ythmgbegbjifngaa
