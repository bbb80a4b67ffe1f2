/-
  Evaluating a grid, plain mathematics: the axes by their rests (ax), the places on the way (pl), what is left (lft), the sums (sm).
-/
import Derived.Test.YtmmlcdbbjkligaaGrdR
import Derived.Test.YtmmlcdbbjkligaaGrdC
namespace Go.Proofs.Ytmmlcdbbjkligaa
set_option linter.unusedVariables false

/-- the axes by their rests, the greatest first, the lower one of like rests ahead. -/
def ax (r : Nat → Int) (t : Nat) : Nat :=
  if r 1 > r 0 then
    (if r 2 > r 0 then (if r 2 > r 1 then 2 - t else (if t = 0 then 1 else if t = 1 then 2 else 0)) else (if t = 0 then 1 else if t = 1 then 0 else 2))
  else
    (if r 2 > r 1 then (if r 2 > r 0 then (if t = 0 then 2 else if t = 1 then 0 else 1) else (if t = 0 then 0 else if t = 1 then 2 else 1)) else t)
theorem ax_lt (r : Nat → Int) {t : Nat} (ht : t < 3) : ax r t < 3 := by unfold ax; split <;> split <;> (try split) <;> (try split) <;> (try split) <;> omega
def bump (x : Nat → Int) (k j : Nat) : Int := if j = k then x j + 1 else x j
def pl (c r : Nat → Int) : Nat → Nat → Int
  | 0 => c
  | t + 1 => bump (pl c r t) (ax r t)
def lft (r : Nat → Int) : Nat → Int
  | 0 => 65535
  | t + 1 => if t < 3 then r (ax r t) else 0
theorem ax_ne (r : Nat → Int) : ax r 0 ≠ ax r 1 ∧ ax r 0 ≠ ax r 2 ∧ ax r 1 ≠ ax r 2 := by
  unfold ax
  by_cases h1 : r 1 > r 0 <;> by_cases h2 : r 2 > r 0 <;> by_cases h3 : r 2 > r 1 <;> simp [h1, h2, h3]
theorem pl_bd (c r : Nat → Int) {t : Nat} (ht : t ≤ 3) {j : Nat} (hj : j < 3) : c j ≤ pl c r t j ∧ pl c r t j ≤ c j + 1 := by
  have h3 : t = 0 ∨ t = 1 ∨ t = 2 ∨ t = 3 := by omega
  have hj3 : j = 0 ∨ j = 1 ∨ j = 2 := by omega
  rcases h3 with rfl | rfl | rfl | rfl
  · simp [pl]
    omega
  · simp only [pl, bump]
    split <;> omega
  · simp only [pl, bump]
    have := (ax_ne r).1
    split <;> split <;> omega
  · simp only [pl, bump]
    obtain ⟨h01, h02, h12⟩ := ax_ne r
    split <;> split <;> split <;> omega
/-- level i of the node at a place. -/
def ndv (rs : Rws) (sd : Int) (x : Nat → Int) (i : Nat) : Int := (rw_ rs (ndI sd [x 0, x 1, x 2])).getD i 0
def sm (rs : Rws) (sd : Int) (c r : Nat → Int) : Nat → Nat → Int
  | 0, _ => 0
  | t + 1, i => sm rs sd c r t i + ndv rs sd (pl c r t) i * (lft r t - lft r (t + 1))
def Lv (f : Nat → Int) : Prop := ∀ k, k < 3 → 0 ≤ f k ∧ f k ≤ 65535
theorem lft_bd {r : Nat → Int} (hr : Lv r) (t : Nat) : 0 ≤ lft r t ∧ lft r t ≤ 65535 := by
  cases t with
  | zero => simp [lft]
  | succ t =>
    simp only [lft]
    split
    · rename_i h; exact hr _ (ax_lt r h)
    · omega
/-- the cell and the rests of a colour. -/
def cc (sd : Int) (v : Nat → Int) (j : Nat) : Int := clC sd (v j)
def cr (sd : Int) (v : Nat → Int) (j : Nat) : Int := clR sd (v j)
theorem cc_bd {sd : Int} {v : Nat → Int} (hs : sd = 2 ∨ sd = 3 ∨ sd = 4) (hv : Lv v) {j : Nat} (hj : j < 3) : 0 ≤ cc sd v j ∧ cc sd v j ≤ sd - 2 := by
  have h := hv j hj
  unfold cc clC
  split
  · omega
  · rcases hs with rfl | rfl | rfl <;> omega
theorem cr_bd {sd : Int} {v : Nat → Int} (hs : sd = 2 ∨ sd = 3 ∨ sd = 4) (hv : Lv v) : Lv (cr sd v) := by
  intro j hj
  have h := hv j hj
  unfold cr clR
  split
  · omega
  · rcases hs with rfl | rfl | rfl <;> omega
theorem pl_in {sd : Int} {v r : Nat → Int} (hs : sd = 2 ∨ sd = 3 ∨ sd = 4) (hv : Lv v) {t : Nat} (ht : t ≤ 3) : inS sd [pl (cc sd v) r t 0, pl (cc sd v) r t 1, pl (cc sd v) r t 2] = true := by
  have h0 := pl_bd (cc sd v) r ht (j := 0) (by omega)
  have h1 := pl_bd (cc sd v) r ht (j := 1) (by omega)
  have h2 := pl_bd (cc sd v) r ht (j := 2) (by omega)
  have g0 := cc_bd hs hv (j := 0) (by omega)
  have g1 := cc_bd hs hv (j := 1) (by omega)
  have g2 := cc_bd hs hv (j := 2) (by omega)
  rw [inS_iff]
  simp only [List.getD_cons_zero, List.getD_cons_succ]
  omega
theorem ndv_bd {s : Nat} {rs : Rws} (h0 : gf (s : Int) rs = 0) {x : Nat → Int} (hx : inS (s : Int) [x 0, x 1, x 2] = true) : Lv (ndv rs s x) := by
  obtain ⟨hs, hlen, hrow⟩ := gf_zero h0
  have h3 : s = 2 ∨ s = 3 ∨ s = 4 := by rcases side_cases hs with e | e | e <;> omega
  have hNI : ((s * s * s : Nat) : Int) = (s : Int) * s * s := by simp
  have hNN : rs.length = s * s * s := by rw [← hNI] at hlen; omega
  obtain ⟨t1, _⟩ := nd_yes h3 hx
  intro k hk
  exact inB_iff.1 ((lf_zero (hrow _ (by rw [hNN]; exact t1))).2 k hk)
theorem mul_bd {a b : Int} (ha : 0 ≤ a ∧ a ≤ 65535) (hb : -65535 ≤ b ∧ b ≤ 65535) : -4294836225 ≤ a * b ∧ a * b ≤ 4294836225 := by
  have h : (a * b).natAbs ≤ 65535 * 65535 := by rw [Int.natAbs_mul]; exact Nat.mul_le_mul (by omega) (by omega)
  omega
theorem sm_bd {s : Nat} {rs : Rws} {c r : Nat → Int} (hr : Lv r) (hn : ∀ t, t ≤ 3 → Lv (ndv rs s (pl c r t))) {i : Nat} (hi : i < 3) : ∀ t, t ≤ 4 → -4294836225 * t ≤ sm rs s c r t i ∧ sm rs s c r t i ≤ 4294836225 * t := by
  intro t
  induction t with
  | zero => intro _; simp [sm]
  | succ t ih =>
    intro ht
    have h1 := ih (by omega)
    have h2 := mul_bd (hn t (by omega) i hi) (b := lft r t - lft r (t + 1)) (by have := lft_bd hr t; have := lft_bd hr (t + 1); omega)
    simp only [sm]
    have e : ((t + 1 : Nat) : Int) = (t : Int) + 1 := by simp
    rw [e]
    omega
/-- what a grid tells. -/
def gvl (sd : Int) (rs : Rws) (v : Nat → Int) (i : Nat) : Int := rnd (sm rs sd (cc sd v) (cr sd v) 4 i) 65535
def egC (sd : Int) (rs : Rws) (xs : List Int) : Int := if gf sd rs = 0 then lf xs else gf sd rs
def egL (sd : Int) (rs : Rws) (xs : List Int) : List Int := if gf sd rs = 0 ∧ lf xs = 0 then [gvl sd rs (xs.getD · 0) 0, gvl sd rs (xs.getD · 0) 1, gvl sd rs (xs.getD · 0) 2] else []
theorem eg_f {sd : Int} {rs : Rws} {xs : List Int} (h : gf sd rs ≠ 0) : egC sd rs xs = gf sd rs ∧ egL sd rs xs = [] := ⟨by unfold egC; rw [if_neg h], by unfold egL; rw [if_neg (fun q => h q.1)]⟩
theorem eg_l {sd : Int} {rs : Rws} {xs : List Int} (h : gf sd rs = 0) (h1 : lf xs ≠ 0) : egC sd rs xs = lf xs ∧ egL sd rs xs = [] := ⟨by unfold egC; rw [if_pos h], by unfold egL; rw [if_neg (fun q => h1 q.2)]⟩
theorem eg_y {sd : Int} {rs : Rws} {xs : List Int} (h : gf sd rs = 0) (h1 : lf xs = 0) : egC sd rs xs = 0 ∧ egL sd rs xs = [gvl sd rs (xs.getD · 0) 0, gvl sd rs (xs.getD · 0) 1, gvl sd rs (xs.getD · 0) 2] := ⟨by unfold egC; rw [if_pos h, h1], by unfold egL; rw [if_pos ⟨h, h1⟩]⟩
theorem eg_len (sd : Int) (rs : Rws) (xs : List Int) : (egL sd rs xs).length ≤ 3 := by unfold egL; split <;> simp
end Go.Proofs.Ytmmlcdbbjkligaa
