/-
  NothingsIn, by the reference model.
-/
import Derived.Test.YtdjifaaofefpoaaGreatNotC
import Derived.Test.YtdjifaaofefpoaaGreatStpB
import Derived.Test.YtdjifaaofefpoaaGreatJonB
import Derived.Deep.RegionHeld3
namespace Go.Proofs.YtdjifaaofefpoaaGreat
open Go.RowKit Go.Maps
set_option linter.unusedVariables false
set_option linter.unusedSimpArgs false

/-- How many of the first k stages do nothing. -/
def nsN (ts : List Stg) : Nat → Nat
  | 0 => 0
  | k + 1 => nsN ts k + (if noV (st_ ts k) then 1 else 0)
theorem nsN_y {ts : List Stg} {k : Nat} (h : noV (st_ ts k) = true) : nsN ts (k + 1) = nsN ts k + 1 := by simp [nsN, h]
theorem nsN_n {ts : List Stg} {k : Nat} (h : noV (st_ ts k) = false) : nsN ts (k + 1) = nsN ts k := by simp [nsN, h]
theorem nsN_le (ts : List Stg) : ∀ k, nsN ts k ≤ k := by
  intro k
  induction k with
  | zero => exact Nat.le_refl 0
  | succ k ih => simp only [nsN]; split <;> omega
/-- The answer's value: 0 where there is a fault. -/
def nsV (ts : List Stg) : Int := if chf ts = 0 then (nsN ts ts.length : Int) else 0
end Go.Proofs.YtdjifaaofefpoaaGreat
