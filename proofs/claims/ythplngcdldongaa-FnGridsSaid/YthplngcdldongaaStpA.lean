/-
  A stage at a colour, by levels or fine numbers: what it tells (evS); the program's closures in stepOf.
  The closures that stepOf makes: curves, a matrix, a grid at a colour.
  The program's stepOf, by kinds.
-/
import Derived.Test.YthplngcdldongaaGrdLA
import Derived.Test.YthplngcdldongaaMatPA
import Derived.Test.YthplngcdldongaaCurA
import Derived.Test.YthplngcdldongaaChnA
namespace Go.Proofs.Ythplngcdldongaa
open Go.RowKit Go.Maps
set_option linter.unusedVariables false
set_option linter.unusedSimpArgs false

/-- what a stage tells of a colour. -/
def evS (o : Int) (t : Stg) (x : Nat → Int) (i : Nat) : Int :=
  if t.kd = 1 then cevo o (rw_ t.cs i) (x i) else if t.kd = 2 then apK o (fl t.rs) x i else gvo o t.sd t.ns x i
/-- the colours on the way through stages. -/
def evW (o : Int) (ts : List Stg) (x : Nat → Int) : Nat → Nat → Int
  | 0 => x
  | k + 1 => evS o (st_ ts k) (evW o ts x k)
theorem crF_fine {cs : Rws} (h : crF cs = 0) : cs.length = 3 ∧ ∀ i, i < 3 → cf (rw_ cs i) = 0 := by
  unfold crF at h
  split at h
  · rename_i h3
    refine ⟨h3, fun i hi => ?_⟩
    simp only [crL] at h
    have a0 : cf (rw_ cs 0) = 0 := by
      by_cases e : cf (rw_ cs 0) = 0
      · exact e
      · simp [e] at h
    have a1 : cf (rw_ cs 1) = 0 := by
      by_cases e : cf (rw_ cs 1) = 0
      · exact e
      · simp [a0, e] at h
    have a2 : cf (rw_ cs 2) = 0 := by simpa [a0, a1] using h
    match i, hi with
    | 0, _ => exact a0
    | 1, _ => exact a1
    | 2, _ => exact a2
  · omega
theorem sgf_zero {t : Stg} (h : sgf t = 0) : stF t = true ∧ ((t.kd = 1 ∧ crF t.cs = 0) ∨ (t.kd = 2 ∧ mf t.rs = 0) ∨ (t.kd = 3 ∧ gf t.sd t.ns = 0)) := by
  rcases Bool.eq_false_or_eq_true (stF t) with hf | hf
  · refine ⟨hf, ?_⟩
    rcases stF_kinds hf with k | k | k
    · exact .inl ⟨k, by rw [← sgf_1 hf k]; exact h⟩
    · exact .inr (.inl ⟨k, by rw [← sgf_2 hf k]; exact h⟩)
    · exact .inr (.inr ⟨k, by rw [← sgf_3 hf k]; exact h⟩)
  · rw [sgf_no hf] at h; omega
/-- what a grid tells is a number again. -/
theorem lft_sum (T : Int) (r : Nat → Int) : (lftT T r 0 - lftT T r 1) + (lftT T r 1 - lftT T r 2) + (lftT T r 2 - lftT T r 3) + (lftT T r 3 - lftT T r 4) = T := by
  rw [lftT_4]; simp only [lftT]; omega
theorem ax_dn (r : Nat → Int) : r (ax r 1) ≤ r (ax r 0) ∧ r (ax r 2) ≤ r (ax r 1) := by
  unfold ax
  by_cases h1 : r 1 > r 0 <;> by_cases h2 : r 2 > r 0 <;> by_cases h3 : r 2 > r 1 <;> simp [h1, h2, h3] <;> omega
theorem lftT_dn {T : Int} (hT : Top T) {r : Nat → Int} (hr : LvT T r) : ∀ t, t < 4 → 0 ≤ lftT T r t - lftT T r (t + 1) := by
  intro t ht
  obtain ⟨a, b⟩ := ax_dn r
  have h0 := hr _ (ax_lt r (t := 0) (by omega))
  have h2 := hr _ (ax_lt r (t := 2) (by omega))
  match t, ht with
  | 0, _ => simp only [lftT]; simp; omega
  | 1, _ => simp only [lftT]; simp; omega
  | 2, _ => simp only [lftT]; simp; omega
  | 3, _ => simp only [lftT]; simp; omega
theorem wt_bd {a b lo hi : Int} (ha : lo ≤ a ∧ a ≤ hi) (hb : 0 ≤ b) : lo * b ≤ a * b ∧ a * b ≤ hi * b := ⟨Int.mul_le_mul_of_nonneg_right ha.1 hb, Int.mul_le_mul_of_nonneg_right ha.2 hb⟩
/-- between the least and the greatest of the four nodes on the way. -/
theorem smT_in {T : Int} (hT : Top T) {rs : Rws} {sd : Int} {c r : Nat → Int} (hr : LvT T r) {i : Nat} {lo hi : Int} (hn : ∀ t, t ≤ 3 → lo ≤ ndv rs sd (pl c r t) i ∧ ndv rs sd (pl c r t) i ≤ hi) : lo * T ≤ smT T rs sd c r 4 i ∧ smT T rs sd c r 4 i ≤ hi * T := by
  have e := lft_sum T r
  have d0 := wt_bd (hn 0 (by omega)) (lftT_dn hT hr 0 (by omega))
  have d1 := wt_bd (hn 1 (by omega)) (lftT_dn hT hr 1 (by omega))
  have d2 := wt_bd (hn 2 (by omega)) (lftT_dn hT hr 2 (by omega))
  have d3 := wt_bd (hn 3 (by omega)) (lftT_dn hT hr 3 (by omega))
  simp only [smT]
  generalize lftT T r 0 - lftT T r 1 = a0 at *
  generalize lftT T r 1 - lftT T r 2 = a1 at *
  generalize lftT T r 2 - lftT T r 3 = a2 at *
  generalize lftT T r 3 - lftT T r 4 = a3 at *
  have e1 : lo * T = lo * a0 + lo * a1 + lo * a2 + lo * a3 := by rw [← e, Int.mul_add, Int.mul_add, Int.mul_add]
  have e2 : hi * T = hi * a0 + hi * a1 + hi * a2 + hi * a3 := by rw [← e, Int.mul_add, Int.mul_add, Int.mul_add]
  omega
theorem rnd_in {a lo hi b : Int} (hb : 0 < b) (h0 : lo * b ≤ a) (h1 : a ≤ hi * b) : lo ≤ rnd a b ∧ rnd a b ≤ hi := by
  have g0 := rnd_mono hb h0
  have g1 := rnd_mono hb h1
  rw [rnd_mul _ _ hb] at g0 g1
  exact ⟨g0, g1⟩
theorem gvo_bd {o : Int} (ho : One o) {s : Nat} {rs : Rws} {v : Nat → Int} (h0 : gf (s : Int) rs = 0) (hv : LvT (65535 * o) v) {i : Nat} (hi : i < 3) : 0 ≤ gvo o s rs v i ∧ gvo o s rs v i ≤ 65535 * o := by
  have hsd : (s : Int) = 2 ∨ (s : Int) = 3 ∨ (s : Int) = 4 := side_cases (gf_zero h0).1
  have hT := ho.top
  have h := smT_in hT (crT_bd hT hsd hv) (rs := rs) (sd := (s : Int)) (c := ccT (65535 * o) s v) (i := i) (lo := 0) (hi := 65535) (fun t ht => ndv_bd h0 (plT_in hT hsd hv ht) i hi)
  unfold gvo
  refine rnd_in (by rcases ho with rfl | rfl <;> omega) ?_ ?_ <;> rcases ho with rfl | rfl <;> omega
theorem evS_bd {o : Int} (ho : One o) {t : Stg} (h : sgf t = 0) {x : Nat → Int} (hx : LvT (65535 * o) x) : LvT (65535 * o) (evS o t x) := by
  intro i hi
  unfold evS
  obtain ⟨-, ⟨k, f⟩ | ⟨k, f⟩ | ⟨k, f⟩⟩ := sgf_zero h
  · rw [if_pos k]
    exact cevo_bd ho (cfine ((crF_fine f).2 i hi)) _
  · rw [if_neg (by omega), if_pos k]
    exact clk_bd ho _
  · rw [if_neg (by omega), if_neg (by omega)]
    obtain ⟨s, hs⟩ : ∃ s : Nat, t.sd = s := ⟨t.sd.toNat, by have := inB_iff.1 (gf_zero f).1; omega⟩
    rw [hs] at f ⊢
    exact gvo_bd ho f hx hi
theorem evW_bd {o : Int} (ho : One o) {ts : List Stg} {x : Nat → Int} (hx : LvT (65535 * o) x) : ∀ k, (∀ i, i < k → sgf (st_ ts i) = 0) → LvT (65535 * o) (evW o ts x k) := by
  intro k
  induction k with
  | zero => intro _; exact hx
  | succ k ih => intro h; exact evS_bd ho (h k (by omega)) (ih fun i hi => h i (by omega))
theorem rv_upd (f : Nat → Int) {k : Nat} (hk : k < 3) (v : Int) : (rv f).set k (.int .i64 v) = rv (fun j => if j = k then v else f j) := by
  match k, hk with
  | 0, _ => rfl
  | 1, _ => rfl
  | 2, _ => rfl
end Go.Proofs.Ythplngcdldongaa
namespace Go.Proofs.Ythplngcdldongaa
open Go.RowKit Go.Maps
set_option linter.unusedVariables false
set_option linter.unusedSimpArgs false

/-- the first k numbers have gone through. -/
def mxv (x y : Nat → Int) (k j : Nat) : Int := if j < k then y j else x j
theorem mxv_0 (x y : Nat → Int) : mxv x y 0 = x := by funext j; unfold mxv; rw [if_neg (by omega)]
theorem mxv_at (x y : Nat → Int) (k : Nat) : mxv x y k k = x k := by unfold mxv; rw [if_neg (by omega)]
theorem mxv_s (x y : Nat → Int) (k : Nat) : (fun j => if j = k then y k else mxv x y k j) = mxv x y (k + 1) := by
  funext j
  unfold mxv
  by_cases e : j = k
  · subst e; rw [if_pos rfl, if_pos (by omega)]
  · by_cases h : j < k
    · rw [if_neg e, if_pos h, if_pos (by omega)]
    · rw [if_neg e, if_neg h, if_neg (by omega)]
theorem mxv_3 (x y : Nat → Int) {j : Nat} (hj : j < 3) : mxv x y 3 j = y j := by unfold mxv; rw [if_pos hj]
end Go.Proofs.Ythplngcdldongaa
namespace Go.Proofs.Ythplngcdldongaa
open Go.RowKit Go.Maps
set_option linter.unusedVariables false
set_option linter.unusedSimpArgs false

end Go.Proofs.Ythplngcdldongaa
