/-
  A grid tells nothing beyond its nodes, and at its corners the corner's node: plain mathematics for FnGrids.
-/
import Derived.Test.YthplngcdldongaaEvnA
namespace Go.Proofs.Ythplngcdldongaa
open Go.RowKit Go.Maps
set_option linter.unusedVariables false
set_option linter.unusedSimpArgs false

/-- the least and the greatest number i of the first k nodes. -/
def lowN (rs : Rws) (i : Nat) : Nat → Int
  | 0 => 65535
  | k + 1 => min (lowN rs i k) ((rw_ rs k).getD i 0)
def hghN (rs : Rws) (i : Nat) : Nat → Int
  | 0 => 0
  | k + 1 => max (hghN rs i k) ((rw_ rs k).getD i 0)
theorem lowN_le {rs : Rws} {i j : Nat} : ∀ k, j < k → lowN rs i k ≤ (rw_ rs j).getD i 0 := by
  intro k
  induction k with
  | zero => intro h; omega
  | succ k ih =>
    intro h
    simp only [lowN]
    by_cases e : j = k
    · subst e; omega
    · have := ih (by omega); omega
theorem hghN_le {rs : Rws} {i j : Nat} : ∀ k, j < k → (rw_ rs j).getD i 0 ≤ hghN rs i k := by
  intro k
  induction k with
  | zero => intro h; omega
  | succ k ih =>
    intro h
    simp only [hghN]
    by_cases e : j = k
    · subst e; omega
    · have := ih (by omega); omega
theorem gf_len {s : Nat} {rs : Rws} (h0 : gf (s : Int) rs = 0) : rs.length = s * s * s ∧ (s = 2 ∨ s = 3 ∨ s = 4) := by
  obtain ⟨hs, hlen, hrow⟩ := gf_zero h0
  have hNI : ((s * s * s : Nat) : Int) = (s : Int) * s * s := by simp
  refine ⟨by rw [← hNI] at hlen; omega, ?_⟩
  rcases side_cases hs with e | e | e <;> omega
theorem gvl_in {s : Nat} {rs : Rws} {v : Nat → Int} (h0 : gf (s : Int) rs = 0) (hv : Lv v) {i : Nat} (hi : i < 3) : lowN rs i rs.length ≤ gvl (s : Int) rs v i ∧ gvl (s : Int) rs v i ≤ hghN rs i rs.length := by
  obtain ⟨hl, h3⟩ := gf_len h0
  have hs3 : (s : Int) = 2 ∨ (s : Int) = 3 ∨ (s : Int) = 4 := by omega
  have hT : Top 65535 := .inl rfl
  have hvT : LvT 65535 v := hv
  have hn : ∀ t, t ≤ 3 → lowN rs i rs.length ≤ ndv rs s (pl (ccT 65535 s v) (crT 65535 s v) t) i ∧ ndv rs s (pl (ccT 65535 s v) (crT 65535 s v) t) i ≤ hghN rs i rs.length := fun t ht => by
    obtain ⟨a, -⟩ := nd_yes h3 (plT_in (r := crT 65535 s v) hT hs3 hvT ht)
    unfold ndv
    exact ⟨lowN_le _ (by omega), hghN_le _ (by omega)⟩
  have hsm := smT_in hT (crT_bd hT hs3 hvT) (rs := rs) (sd := (s : Int)) (c := ccT 65535 s v) (i := i) hn
  rw [smT_1, ccT_1, crT_1] at hsm
  have := rnd_in (b := 65535) (by omega) hsm.1 hsm.2
  unfold gvl
  exact this
theorem pl3 (c r : Nat → Int) {i : Nat} (hi : i < 3) : pl c r 3 i = c i + 1 := by
  obtain ⟨n01, n02, n12⟩ := ax_ne r
  rcases ax_all r hi with e | e | e
  · simp only [pl, bump]; rw [if_neg (by omega), if_neg (by omega), if_pos e]
  · simp only [pl, bump]; rw [if_neg (by omega), if_pos e, if_neg (by omega)]
  · simp only [pl, bump]; rw [if_pos e, if_neg (by omega), if_neg (by omega)]
theorem gvl_lo {s : Nat} {rs : Rws} (h0 : gf (s : Int) rs = 0) {i : Nat} (hi : i < 3) : gvl (s : Int) rs (fun _ => 0) i = (rw_ rs 0).getD i 0 := by
  obtain ⟨hl, h3⟩ := gf_len h0
  have hs3 : (s : Int) = 2 ∨ (s : Int) = 3 ∨ (s : Int) = 4 := by omega
  have hc : cc (s : Int) (fun _ => 0) = fun _ => 0 := by funext j; unfold cc clC; rw [if_neg (by show ¬ (0 : Int) = 65535; decide)]; simp
  have hr : cr (s : Int) (fun _ => 0) = fun _ => 0 := by funext j; unfold cr clR; rw [if_neg (by show ¬ (0 : Int) = 65535; decide)]; simp
  have hx : inS (s : Int) [(0 : Int), 0, 0] = true := by rcases h3 with rfl | rfl | rfl <;> decide
  obtain ⟨-, -, b0, b1, b2⟩ := nd_yes h3 hx
  have e : ndI (s : Int) [0, 0, 0] = 0 := by
    have b0' : (((ndI (s : Int) [0, 0, 0] / (s * s) : Nat)) : Int) = 0 := b0
    have b1' : (((ndI (s : Int) [0, 0, 0] / s % s : Nat)) : Int) = 0 := b1
    have b2' : (((ndI (s : Int) [0, 0, 0] % s : Nat)) : Int) = 0 := b2
    generalize ndI (s : Int) [0, 0, 0] = t at *
    rcases h3 with rfl | rfl | rfl <;> omega
  unfold gvl
  rw [hc, hr]
  have hsm : sm rs s (fun _ => 0) (fun _ => 0) 4 i = (rw_ rs 0).getD i 0 * 65535 := by
    simp only [sm, lft, Nat.reduceAdd, Nat.reduceLT, if_true, if_false, Int.sub_self, Int.mul_zero, Int.add_zero, Int.zero_add, Int.sub_zero, pl]
    unfold ndv
    rw [e]
  rw [hsm, rnd_mul _ _ (by omega)]
theorem gvl_hi {s : Nat} {rs : Rws} (h0 : gf (s : Int) rs = 0) {i : Nat} (hi : i < 3) : gvl (s : Int) rs (fun _ => 65535) i = (rw_ rs (rs.length - 1)).getD i 0 := by
  obtain ⟨hl, h3⟩ := gf_len h0
  have hs3 : (s : Int) = 2 ∨ (s : Int) = 3 ∨ (s : Int) = 4 := by omega
  have hc : cc (s : Int) (fun _ => 65535) = fun _ => (s : Int) - 2 := by funext j; unfold cc clC; rw [if_pos rfl]
  have hr : cr (s : Int) (fun _ => 65535) = fun _ => 65535 := by funext j; unfold cr clR; rw [if_pos rfl]
  have hp : ∀ j, j < 3 → pl (fun _ => (s : Int) - 2) (fun _ => 65535) 3 j = (s : Int) - 1 := fun j hj => by rw [pl3 _ _ hj]; omega
  have hx : inS (s : Int) [(s : Int) - 1, (s : Int) - 1, (s : Int) - 1] = true := by rcases h3 with rfl | rfl | rfl <;> decide
  obtain ⟨-, -, b0, b1, b2⟩ := nd_yes h3 hx
  have e : ndI (s : Int) [(s : Int) - 1, (s : Int) - 1, (s : Int) - 1] = rs.length - 1 := by
    have b0' : (((ndI (s : Int) [(s : Int) - 1, (s : Int) - 1, (s : Int) - 1] / (s * s) : Nat)) : Int) = (s : Int) - 1 := b0
    have b1' : (((ndI (s : Int) [(s : Int) - 1, (s : Int) - 1, (s : Int) - 1] / s % s : Nat)) : Int) = (s : Int) - 1 := b1
    have b2' : (((ndI (s : Int) [(s : Int) - 1, (s : Int) - 1, (s : Int) - 1] % s : Nat)) : Int) = (s : Int) - 1 := b2
    generalize ndI (s : Int) [(s : Int) - 1, (s : Int) - 1, (s : Int) - 1] = t at *
    rw [hl]
    rcases h3 with rfl | rfl | rfl <;> omega
  unfold gvl
  rw [hc, hr]
  have hsm : sm rs s (fun _ => (s : Int) - 2) (fun _ => 65535) 4 i = (rw_ rs (rs.length - 1)).getD i 0 * 65535 := by
    have hq : ndv rs s (pl (fun _ => (s : Int) - 2) (fun _ => 65535) 3) i = (rw_ rs (rs.length - 1)).getD i 0 := by
      unfold ndv
      rw [hp 0 (by omega), hp 1 (by omega), hp 2 (by omega), e]
    simp only [sm, lft, Nat.reduceAdd, Nat.reduceLT, if_true, if_false, Int.sub_self, Int.mul_zero, Int.add_zero, Int.zero_add, Int.sub_zero]
    rw [hq]
  rw [hsm, rnd_mul _ _ (by omega)]
theorem gf_row {s : Nat} {rs : Rws} (h0 : gf (s : Int) rs = 0) {t : Nat} (ht : t < rs.length) : lf (rw_ rs t) = 0 := by
  obtain ⟨hs, hlen, hrow⟩ := gf_zero h0
  have := hrow t (by first | omega | (have := (gf_len h0).1; omega))
  exact this
theorem egL_lo {s : Nat} {rs : Rws} (h0 : gf (s : Int) rs = 0) : egL (s : Int) rs [0, 0, 0] = rw_ rs 0 := by
  have hl := (gf_len h0)
  have h1 : 0 < rs.length := by rw [hl.1]; rcases hl.2 with rfl | rfl | rfl <;> omega
  have e : ∀ i, i < 3 → gvl (s : Int) rs (([0, 0, 0] : List Int).getD · 0) i = (rw_ rs 0).getD i 0 := fun i hi => by
    have : (fun j => ([0, 0, 0] : List Int).getD j 0) = fun _ => 0 := by
      funext j
      match j with
      | 0 | 1 | 2 => rfl
      | j + 3 => rfl
    rw [this]; exact gvl_lo h0 hi
  rw [(eg_y h0 (by decide)).2, e 0 (by omega), e 1 (by omega), e 2 (by omega)]
  match rw_ rs 0, (lf_zero (gf_row h0 h1)).1 with
  | [a, b, c], _ => rfl
theorem gvl_ext {sd : Int} {rs : Rws} {v v' : Nat → Int} (h : ∀ j, j < 3 → v j = v' j) (i : Nat) : gvl sd rs v i = gvl sd rs v' i := by
  rw [← gvo_1, ← gvo_1]
  exact gvo_ext h i
theorem egL_hi {s : Nat} {rs : Rws} (h0 : gf (s : Int) rs = 0) : egL (s : Int) rs [65535, 65535, 65535] = rw_ rs (rs.length - 1) := by
  have hl := (gf_len h0)
  have h1 : 0 < rs.length := by rw [hl.1]; rcases hl.2 with rfl | rfl | rfl <;> omega
  have e : ∀ i, i < 3 → gvl (s : Int) rs (([65535, 65535, 65535] : List Int).getD · 0) i = (rw_ rs (rs.length - 1)).getD i 0 := fun i hi => by
    rw [gvl_ext (v' := fun _ => 65535) (fun j hj => by
      match j, hj with
      | 0, _ | 1, _ | 2, _ => rfl)]
    exact gvl_hi h0 hi
  rw [(eg_y h0 (by decide)).2, e 0 (by omega), e 1 (by omega), e 2 (by omega)]
  match rw_ rs (rs.length - 1), (lf_zero (gf_row h0 (t := rs.length - 1) (by omega))).1 with
  | [a, b, c], _ => rfl
end Go.Proofs.Ythplngcdldongaa
