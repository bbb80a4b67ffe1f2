/-
  Matrices, plain mathematics: the fault of a list of lists (mf), its nine numbers (fl), products, determinants and inverses.
-/
import Derived.Test.YtmmlcdbbjkligaaHelpX
import Derived.Test.YtmmlcdbbjkligaaFixMath
namespace Go.Proofs.Ytmmlcdbbjkligaa
set_option linter.unusedVariables false

/-- a fix of a matrix. -/
def cel (v : Int) : Bool := inB v (-262144) 262144
theorem cel_iff {v : Int} : cel v = true ↔ (-262144 ≤ v ∧ v ≤ 262144) := inB_iff
def all3 (p : Nat → Bool) : Bool := p 0 && p 1 && p 2
theorem all3_iff {p : Nat → Bool} : all3 p = true ↔ ∀ k, k < 3 → p k = true := by
  unfold all3
  rw [Bool.and_eq_true, Bool.and_eq_true]
  constructor
  · rintro ⟨⟨a, b⟩, c⟩ k hk
    match k, hk with
    | 0, _ => exact a
    | 1, _ => exact b
    | 2, _ => exact c
  · intro h
    exact ⟨⟨h 0 (by omega), h 1 (by omega)⟩, h 2 (by omega)⟩
def rowF (r : List Int) : Int := if r.length = 3 then (if all3 (fun k => cel (r.getD k 0)) = true then 0 else 3) else 2
def mf (rs : Rws) : Int := if rs.length = 3 then (if rowF (rw_ rs 0) = 0 then (if rowF (rw_ rs 1) = 0 then rowF (rw_ rs 2) else rowF (rw_ rs 1)) else rowF (rw_ rs 0)) else 2
/-- number t of the nine. -/
def fl (rs : Rws) (t : Nat) : Int := (rw_ rs (t / 3)).getD (t % 3) 0
theorem rowF_len {r : List Int} (h : r.length ≠ 3) : rowF r = 2 := by unfold rowF; rw [if_neg h]
theorem rowF_bad {r : List Int} (h : r.length = 3) {k : Nat} (hk : k < 3) (hc : cel (r.getD k 0) = false) : rowF r = 3 := by
  unfold rowF; rw [if_pos h, if_neg (fun H => by have := all3_iff.1 H k hk; rw [this] at hc; cases hc)]
theorem rowF_ok {r : List Int} (h : r.length = 3) (hc : ∀ k, k < 3 → cel (r.getD k 0) = true) : rowF r = 0 := by
  unfold rowF; rw [if_pos h, if_pos (all3_iff.2 hc)]
theorem rowF_zero {r : List Int} (h : rowF r = 0) : r.length = 3 ∧ ∀ k, k < 3 → cel (r.getD k 0) = true := by
  unfold rowF at h
  split at h
  · rename_i h1
    split at h
    · rename_i h2; exact ⟨h1, all3_iff.1 h2⟩
    · omega
  · omega
theorem mf_len {rs : Rws} (h : rs.length ≠ 3) : mf rs = 2 := by unfold mf; rw [if_neg h]
/-- the first row with a fault tells it. -/
theorem mf_row {rs : Rws} (h : rs.length = 3) {i : Nat} (hi : i < 3) (h0 : ∀ j, j < i → rowF (rw_ rs j) = 0) (hb : rowF (rw_ rs i) ≠ 0) : mf rs = rowF (rw_ rs i) := by
  unfold mf; rw [if_pos h]
  match i, hi with
  | 0, _ => rw [if_neg hb]
  | 1, _ => rw [if_pos (h0 0 (by omega)), if_neg hb]
  | 2, _ => rw [if_pos (h0 0 (by omega)), if_pos (h0 1 (by omega))]
theorem mf_ok {rs : Rws} (h : rs.length = 3) (h0 : ∀ j, j < 3 → rowF (rw_ rs j) = 0) : mf rs = 0 := by
  unfold mf; rw [if_pos h, if_pos (h0 0 (by omega)), if_pos (h0 1 (by omega))]; exact h0 2 (by omega)
theorem mf_zero {rs : Rws} (h : mf rs = 0) : rs.length = 3 ∧ ∀ j, j < 3 → rowF (rw_ rs j) = 0 := by
  unfold mf at h
  split at h
  · rename_i h1
    split at h
    · rename_i h2
      split at h
      · rename_i h3
        refine ⟨h1, fun j hj => ?_⟩
        match j, hj with
        | 0, _ => exact h2
        | 1, _ => exact h3
        | 2, _ => exact h
      · rename_i h3; exact absurd h h3
    · rename_i h2; exact absurd h h2
  · omega
theorem fl_bd {rs : Rws} (h : mf rs = 0) (t : Nat) (ht : t < 9) : -262144 ≤ fl rs t ∧ fl rs t ≤ 262144 := by
  have h1 := (mf_zero h).2 (t / 3) (by omega)
  exact cel_iff.1 ((rowF_zero h1).2 (t % 3) (by omega))
theorem mf_lens {rs : Rws} (h : mf rs = 0) (i : Nat) (hi : i < 3) : (rw_ rs i).length = 3 := (rowF_zero ((mf_zero h).2 i hi)).1
theorem fl_at (rs : Rws) (i k : Nat) (hk : k < 3) : fl rs (3 * i + k) = (rw_ rs i).getD k 0 := by
  unfold fl
  rw [show (3 * i + k) / 3 = i by omega, show (3 * i + k) % 3 = k by omega]
/-- three levels. -/
def lf (v : List Int) : Int := if v.length = 3 then (if all3 (fun k => inB (v.getD k 0) 0 65535) = true then 0 else 3) else 2
theorem lf_len {v : List Int} (h : v.length ≠ 3) : lf v = 2 := by unfold lf; rw [if_neg h]
theorem lf_bad {v : List Int} (h : v.length = 3) {k : Nat} (hk : k < 3) (hc : inB (v.getD k 0) 0 65535 = false) : lf v = 3 := by
  unfold lf; rw [if_pos h, if_neg (fun H => by have := all3_iff.1 H k hk; rw [this] at hc; cases hc)]
theorem lf_ok {v : List Int} (h : v.length = 3) (hc : ∀ k, k < 3 → inB (v.getD k 0) 0 65535 = true) : lf v = 0 := by
  unfold lf; rw [if_pos h, if_pos (all3_iff.2 hc)]
theorem lf_zero {v : List Int} (h : lf v = 0) : v.length = 3 ∧ ∀ k, k < 3 → inB (v.getD k 0) 0 65535 = true := by
  unfold lf at h
  split at h
  · rename_i h1
    split at h
    · rename_i h2; exact ⟨h1, all3_iff.1 h2⟩
    · omega
  · omega
/-- three numbers, levels or fine ones. -/
def lfo (o : Int) (v : List Int) : Int := if v.length = 3 then (if all3 (fun k => inB (v.getD k 0) 0 (65535 * o)) = true then 0 else 3) else 2
theorem lfo_1 (v : List Int) : lfo 1 v = lf v := rfl
theorem lfo_len {o : Int} {v : List Int} (h : v.length ≠ 3) : lfo o v = 2 := by unfold lfo; rw [if_neg h]
theorem lfo_bad {o : Int} {v : List Int} (h : v.length = 3) {k : Nat} (hk : k < 3) (hc : inB (v.getD k 0) 0 (65535 * o) = false) : lfo o v = 3 := by
  unfold lfo; rw [if_pos h, if_neg (fun H => by have := all3_iff.1 H k hk; rw [this] at hc; cases hc)]
theorem lfo_ok {o : Int} {v : List Int} (h : v.length = 3) (hc : ∀ k, k < 3 → inB (v.getD k 0) 0 (65535 * o) = true) : lfo o v = 0 := by
  unfold lfo; rw [if_pos h, if_pos (all3_iff.2 hc)]
theorem lfo_zero {o : Int} {v : List Int} (h : lfo o v = 0) : v.length = 3 ∧ ∀ k, k < 3 → inB (v.getD k 0) 0 (65535 * o) = true := by
  unfold lfo at h
  split at h
  · rename_i h1
    split at h
    · rename_i h2; exact ⟨h1, all3_iff.1 h2⟩
    · omega
  · omega
end Go.Proofs.Ytmmlcdbbjkligaa
