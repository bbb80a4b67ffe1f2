/-
  A chain at a list of numbers: the model's l6Asked, l6Chain, EvalChain, l7FineChain, FineChain.
-/
import Derived.Test.YtlfdpambbgddoaaChvA
import Derived.Test.YtlfdpambbgddoaaEvM
import Derived.Test.YtlfdpambbgddoaaFinB
namespace Go.Proofs.Ytlfdpambbgddoaa
open Go.RowKit Go.Maps
set_option linter.unusedVariables false
set_option linter.unusedSimpArgs false

/-- the colour behind k stages, as a list. -/
def ev3 (o : Int) (ts : List Stg) (xs : List Int) (k : Nat) : List Int := [evW o ts (chX o xs) k 0, evW o ts (chX o xs) k 1, evW o ts (chX o xs) k 2]
theorem ev3_at (o : Int) (ts : List Stg) (xs : List Int) (k j : Nat) (hj : j < 3) : (ev3 o ts xs k).getD j 0 = evW o ts (chX o xs) k j := by
  match j, hj with
  | 0, _ => rfl
  | 1, _ => rfl
  | 2, _ => rfl
theorem ev3_on (o : Int) (ts : List Stg) (xs : List Int) (k : Nat) : [evS o (st_ ts k) ((ev3 o ts xs k).getD · 0) 0, evS o (st_ ts k) ((ev3 o ts xs k).getD · 0) 1, evS o (st_ ts k) ((ev3 o ts xs k).getD · 0) 2] = ev3 o ts xs (k + 1) := by
  rw [evS_ext o (st_ ts k) (ev3_at o ts xs k) (show 0 < 3 by omega), evS_ext o (st_ ts k) (ev3_at o ts xs k) (show 1 < 3 by omega), evS_ext o (st_ ts k) (ev3_at o ts xs k) (show 2 < 3 by omega)]
  rfl
theorem ev3_fine {o : Int} (ho : One o) {ts : List Stg} {xs : List Int} (h : chC ts xs = 0) {k : Nat} (hk : k ≤ ts.length) : lfo o (ev3 o ts xs k) = 0 := by
  obtain ⟨h0, h1⟩ := chC_zero h
  have hf := sgL_all _ (chf_zero h0).2
  have hb := evW_bd ho (chX_bd ho h1) k (fun i hi => hf i (by omega))
  refine lfo_ok rfl fun j hj => ?_
  rw [ev3_at o ts xs k j hj]
  exact inB_iff.2 (hb j hj)
theorem ev3_0 {xs : List Int} (ts : List Stg) (h : xs.length = 3) : ev3 1 ts xs 0 = xs := by
  match xs, h with
  | [a, b, c], _ =>
    show [a * 1, b * 1, c * 1] = [a, b, c]
    rw [Int.mul_one, Int.mul_one, Int.mul_one]
theorem chL_3 {o : Int} {ts : List Stg} {xs : List Int} (h : chC ts xs = 0) : chL o ts xs = ev3 o ts xs ts.length := chL_y h
/-! the walks -/
end Go.Proofs.Ytlfdpambbgddoaa
