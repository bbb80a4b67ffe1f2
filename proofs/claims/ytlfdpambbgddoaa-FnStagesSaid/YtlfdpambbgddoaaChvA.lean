/-
  A chain at a list of numbers: the program's stepsOf, evalChain, EvalChain, FineChain.
-/
import Derived.Test.YtlfdpambbgddoaaStpB
namespace Go.Proofs.Ytlfdpambbgddoaa
open Go.RowKit Go.Maps
set_option linter.unusedVariables false
set_option linter.unusedSimpArgs false

def chC (ts : List Stg) (xs : List Int) : Int := if chf ts = 0 then lfo 1 xs else chf ts
theorem chC_f {ts : List Stg} {xs : List Int} (h : chf ts ≠ 0) : chC ts xs = chf ts := by unfold chC; rw [if_neg h]
theorem chC_l {ts : List Stg} {xs : List Int} (h : chf ts = 0) : chC ts xs = lfo 1 xs := by unfold chC; rw [if_pos h]
theorem chC_zero {ts : List Stg} {xs : List Int} (h : chC ts xs = 0) : chf ts = 0 ∧ lfo 1 xs = 0 := by
  unfold chC at h
  by_cases h0 : chf ts = 0
  · rw [if_pos h0] at h; exact ⟨h0, h⟩
  · rw [if_neg h0] at h; exact absurd h h0
theorem chf_zero {ts : List Stg} (h : chf ts = 0) : ts.length ≤ 5 ∧ sgL ts ts.length = 0 := by
  unfold chf at h
  by_cases h5 : 5 < ts.length
  · rw [if_pos h5] at h; omega
  · rw [if_neg h5] at h; exact ⟨by omega, h⟩
def chX (o : Int) (xs : List Int) (j : Nat) : Int := xs.getD j 0 * o
theorem chX_bd {o : Int} (ho : One o) {xs : List Int} (h : lfo 1 xs = 0) : LvT (65535 * o) (chX o xs) := fun j hj => by
  have := inB_iff.1 ((lfo_zero h).2 j hj)
  unfold chX
  rcases ho with rfl | rfl <;> omega
theorem OwnL.mono {w : World} {base base' n : Nat} {v : Value} {f : Nat → Nat → Int} (h : OwnL w base v n f) (hb : base' ≤ base) : OwnL w base' v n f := by
  refine ⟨h.1, ?_⟩
  rcases h.2 with q | ⟨g, cap, cur, q1, q2, q3⟩
  · exact .inl q
  · exact .inr ⟨g, cap, cur, q1, Nat.le_trans hb q2, q3⟩
def StoAns (w : World) (o : Int) (ts : List Stg) (xs : List Int) (e : Ending) (w' : World) : Prop :=
  ∃ v, e = .returned (.tuple #[v, .int .i64 (chC ts xs)]) ∧ (chC ts xs = 0 → OwnL w' w.heap.size v (ts.length + 1) (evW o ts (chX o xs))) ∧ Below w.heap.size w w'
def chL (o : Int) (ts : List Stg) (xs : List Int) : List Int := if chC ts xs = 0 then [evW o ts (chX o xs) ts.length 0, evW o ts (chX o xs) ts.length 1, evW o ts (chX o xs) ts.length 2] else []
theorem chL_n {o : Int} {ts : List Stg} {xs : List Int} (h : chC ts xs ≠ 0) : chL o ts xs = [] := by unfold chL; rw [if_neg h]
theorem chL_y {o : Int} {ts : List Stg} {xs : List Int} (h : chC ts xs = 0) : chL o ts xs = [evW o ts (chX o xs) ts.length 0, evW o ts (chX o xs) ts.length 1, evW o ts (chX o xs) ts.length 2] := by unfold chL; rw [if_pos h]
theorem chL_len (o : Int) (ts : List Stg) (xs : List Int) : (chL o ts xs).length ≤ 3 := by unfold chL; split <;> simp
end Go.Proofs.Ytlfdpambbgddoaa
