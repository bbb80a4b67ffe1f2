/-
  Evaluating a grid by levels or fine numbers, plain mathematics: what is left (lftT), the sums (smT), what a grid tells (gvo).
-/
import Derived.Test.YtmmlcdbbjkligaaGrdV
import Derived.Test.YtmmlcdbbjkligaaMatC
namespace Go.Proofs.Ytmmlcdbbjkligaa
set_option linter.unusedVariables false

def lftT (T : Int) (r : Nat → Int) : Nat → Int
  | 0 => T
  | t + 1 => if t < 3 then r (ax r t) else 0
def smT (T : Int) (rs : Rws) (sd : Int) (c r : Nat → Int) : Nat → Nat → Int
  | 0, _ => 0
  | t + 1, i => smT T rs sd c r t i + ndv rs sd (pl c r t) i * (lftT T r t - lftT T r (t + 1))
def LvT (T : Int) (f : Nat → Int) : Prop := ∀ k, k < 3 → 0 ≤ f k ∧ f k ≤ T
def ccT (T sd : Int) (v : Nat → Int) (j : Nat) : Int := clCT T sd (v j)
def crT (T sd : Int) (v : Nat → Int) (j : Nat) : Int := clRT T sd (v j)
/-- the last number. -/
def Top (T : Int) : Prop := T = 65535 ∨ T = 16776960
theorem One.top {o : Int} (h : One o) : Top (65535 * o) := by
  rcases h with rfl | rfl
  · exact .inl rfl
  · exact .inr rfl
theorem lftT_1 (r : Nat → Int) (t : Nat) : lftT 65535 r t = lft r t := by cases t <;> rfl
theorem smT_1 (rs : Rws) (sd : Int) (c r : Nat → Int) (i : Nat) : ∀ t, smT 65535 rs sd c r t i = sm rs sd c r t i := by
  intro t
  induction t with
  | zero => rfl
  | succ t ih => simp only [smT, sm]; rw [ih, lftT_1, lftT_1]
theorem ccT_1 (sd : Int) (v : Nat → Int) : ccT 65535 sd v = cc sd v := rfl
theorem crT_1 (sd : Int) (v : Nat → Int) : crT 65535 sd v = cr sd v := rfl
theorem lftT_bd {T : Int} (hT : Top T) {r : Nat → Int} (hr : LvT T r) (t : Nat) : 0 ≤ lftT T r t ∧ lftT T r t ≤ T := by
  have h0 : 0 ≤ T := by rcases hT with rfl | rfl <;> omega
  cases t with
  | zero => simp only [lftT]; omega
  | succ t =>
    simp only [lftT]
    split
    · rename_i h; exact hr _ (ax_lt r h)
    · omega
theorem ccT_bd {T sd : Int} (hT : Top T) {v : Nat → Int} (hs : sd = 2 ∨ sd = 3 ∨ sd = 4) (hv : LvT T v) {j : Nat} (hj : j < 3) : 0 ≤ ccT T sd v j ∧ ccT T sd v j ≤ sd - 2 := by
  have h := hv j hj
  unfold ccT clCT
  split
  · omega
  · rcases hT with rfl | rfl <;> rcases hs with rfl | rfl | rfl <;> omega
theorem crT_bd {T sd : Int} (hT : Top T) {v : Nat → Int} (hs : sd = 2 ∨ sd = 3 ∨ sd = 4) (hv : LvT T v) : LvT T (crT T sd v) := by
  intro j hj
  have h := hv j hj
  unfold crT clRT
  split
  · omega
  · rcases hT with rfl | rfl <;> rcases hs with rfl | rfl | rfl <;> omega
theorem plT_in {T sd : Int} (hT : Top T) {v r : Nat → Int} (hs : sd = 2 ∨ sd = 3 ∨ sd = 4) (hv : LvT T v) {t : Nat} (ht : t ≤ 3) : inS sd [pl (ccT T sd v) r t 0, pl (ccT T sd v) r t 1, pl (ccT T sd v) r t 2] = true := by
  have h0 := pl_bd (ccT T sd v) r ht (j := 0) (by omega)
  have h1 := pl_bd (ccT T sd v) r ht (j := 1) (by omega)
  have h2 := pl_bd (ccT T sd v) r ht (j := 2) (by omega)
  have g0 := ccT_bd hT hs hv (j := 0) (by omega)
  have g1 := ccT_bd hT hs hv (j := 1) (by omega)
  have g2 := ccT_bd hT hs hv (j := 2) (by omega)
  rw [inS_iff]
  simp only [List.getD_cons_zero, List.getD_cons_succ]
  omega
theorem mul_bdT {a b : Int} (ha : 0 ≤ a ∧ a ≤ 65535) (hb : -16776960 ≤ b ∧ b ≤ 16776960) : -1099478073600 ≤ a * b ∧ a * b ≤ 1099478073600 := by
  have h : (a * b).natAbs ≤ 65535 * 16776960 := by rw [Int.natAbs_mul]; exact Nat.mul_le_mul (by omega) (by omega)
  omega
theorem smT_bd {T : Int} (hT : Top T) {s : Nat} {rs : Rws} {c r : Nat → Int} (hr : LvT T r) (hn : ∀ t, t ≤ 3 → Lv (ndv rs s (pl c r t))) {i : Nat} (hi : i < 3) : ∀ t, t ≤ 4 → -1099478073600 * t ≤ smT T rs s c r t i ∧ smT T rs s c r t i ≤ 1099478073600 * t := by
  intro t
  induction t with
  | zero => intro _; simp [smT]
  | succ t ih =>
    intro ht
    have h1 := ih (by omega)
    have h2 := mul_bdT (hn t (by omega) i hi) (b := lftT T r t - lftT T r (t + 1)) (by have := lftT_bd hT hr t; have := lftT_bd hT hr (t + 1); rcases hT with rfl | rfl <;> omega)
    simp only [smT]
    have e : ((t + 1 : Nat) : Int) = (t : Int) + 1 := by simp
    rw [e]
    omega
/-- what a grid tells. -/
def gvo (o sd : Int) (rs : Rws) (v : Nat → Int) (i : Nat) : Int := rnd (smT (65535 * o) rs sd (ccT (65535 * o) sd v) (crT (65535 * o) sd v) 4 i * o) (65535 * o)
theorem gvo_1 (sd : Int) (rs : Rws) (v : Nat → Int) (i : Nat) : gvo 1 sd rs v i = gvl sd rs v i := by
  unfold gvo gvl
  rw [Int.mul_one, Int.mul_one, smT_1, ccT_1, crT_1]
/-- what is taken off the weights is all of T: the sums are between the least and the greatest. -/
theorem lftT_4 (T : Int) (r : Nat → Int) : lftT T r 4 = 0 := by simp [lftT]
theorem ax_ext {f g : Nat → Int} (h : ∀ j, j < 3 → f j = g j) (t : Nat) : ax f t = ax g t := by
  unfold ax; rw [h 0 (by omega), h 1 (by omega), h 2 (by omega)]
theorem pl_ext {f f' g g' : Nat → Int} (hf : ∀ j, j < 3 → f j = f' j) (hg : ∀ j, j < 3 → g j = g' j) : ∀ t j, j < 3 → pl f g t j = pl f' g' t j := by
  intro t
  induction t with
  | zero => intro j hj; exact hf j hj
  | succ t ih => intro j hj; simp only [pl, bump]; rw [ax_ext hg, ih j hj]
theorem lftT_ext {T : Int} {g g' : Nat → Int} (hg : ∀ j, j < 3 → g j = g' j) (t : Nat) : lftT T g t = lftT T g' t := by
  cases t with
  | zero => rfl
  | succ t =>
    simp only [lftT]
    split
    · rename_i h; rw [ax_ext hg, hg _ (ax_lt g' h)]
    · rfl
theorem smT_ext {T : Int} {rs : Rws} {sd : Int} {f f' g g' : Nat → Int} (hf : ∀ j, j < 3 → f j = f' j) (hg : ∀ j, j < 3 → g j = g' j) : ∀ t i, smT T rs sd f g t i = smT T rs sd f' g' t i := by
  intro t
  induction t with
  | zero => intro i; rfl
  | succ t ih =>
    intro i
    simp only [smT, ndv]
    rw [ih i, lftT_ext hg, lftT_ext hg (t + 1), pl_ext hf hg t 0 (by omega), pl_ext hf hg t 1 (by omega), pl_ext hf hg t 2 (by omega)]
theorem gvo_ext {o sd : Int} {rs : Rws} {v v' : Nat → Int} (h : ∀ j, j < 3 → v j = v' j) (i : Nat) : gvo o sd rs v i = gvo o sd rs v' i := by
  unfold gvo
  rw [smT_ext (f' := ccT (65535 * o) sd v') (g' := crT (65535 * o) sd v') (fun j hj => by unfold ccT; rw [h j hj]) (fun j hj => by unfold crT; rw [h j hj])]
end Go.Proofs.Ytmmlcdbbjkligaa
