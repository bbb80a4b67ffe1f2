/-
  The iterator linesOf of a curve, and what ranges over it: IsMonotone, SlopeOf.
  Curves by the reference model: l3Monotone, IsMonotone, l3Slope, SlopeOf, SolveCurve.
  What ranges over a curve's lines: IsMonotone, SlopeOf by the program.
-/
import Derived.Test.YtlfdpambbgddoaaGreatCurA
import Derived.RangeFuncNested
import Derived.RangeFuncBound
import Derived.RangeFuncCalls
import Derived.RangeFuncLeaves
import Derived.RangeFuncBox
import Derived.Shelf.Abstract
import Derived.OwnWalkIn
import Derived.TacticsInMore
import Derived.LoopNIn
import Derived.LoopIn
import Derived.Stop.RegionWithIn
namespace Go.Proofs.YtlfdpambbgddoaaGreat
open Go.RowKit Go.Shelf
set_option linter.unusedVariables false
attribute [local go_sem] Oper.semAt_some

/-- what has come when k rounds are over. -/
def upto {α : Type} (f : Nat → α) (k : Nat) : List α := (List.range k).map f
theorem upto_succ {α : Type} (f : Nat → α) (k : Nat) : upto f (k + 1) = upto f k ++ [f k] := by simp [upto, List.range_succ]
theorem upto_length {α : Type} (f : Nat → α) (k : Nat) : (upto f k).length = k := by simp [upto]
/-- a round leaves these two blocks as they are. -/
def KpL (b B : Nat) (W W' : World) : Prop := W'.heap[b]? = W.heap[b]? ∧ W'.heap[B]? = W.heap[B]?
theorem KpL.refl (b B : Nat) (W : World) : KpL b B W W := ⟨rfl, rfl⟩
theorem KpL.trans {b B : Nat} {X Y Z : World} (h : KpL b B X Y) (k : KpL b B Y Z) : KpL b B X Z := ⟨k.1.trans h.1, k.2.trans h.2⟩
def lnF (ps : List Int) (j : Nat) : Int × Int := (pt ps j, pt ps (j + 1))
theorem KpL.b {b B : Nat} {w : World} (hb : b < w.heap.size) (hB : B < w.heap.size) (W : World) (l : Nat) (o o' : Obj) (hl : w.heap.size ≤ l) (h : W.heap[l]? = some o) (_ : o.isCells = false) (_ : o.isWalk = false) : KpL b B W (W.putObj l o') :=
  ⟨World.putObj_heap_other (by omega), World.putObj_heap_other (by omega)⟩
end Go.Proofs.YtlfdpambbgddoaaGreat
namespace Go.Proofs.YtlfdpambbgddoaaGreat
open Go.RowKit
set_option linter.unusedVariables false

theorem mon_last {ps : List Int} {n : Nat} (hl : ps.length = n) : mon ps (n - 1) = mon ps (ps.length - 1) := by rw [hl]
theorem slpV_of {ps : List Int} {n : Nat} (hl : ps.length = n) (h : cf ps = 0) : slpV ps = slo ps (n - 1) * ((n : Int) - 1) := by unfold slpV; rw [if_pos h, hl]
/-! ### what is solved -/
theorem sol_c {ps : List Int} {y : Int} (h : cf ps ≠ 0) : solC ps y = cf ps ∧ solV ps y = 0 := by
  have e : solC ps y = cf ps := by unfold solC; rw [if_pos h]
  exact ⟨e, by unfold solV; rw [e, if_neg h]⟩
theorem sol_m {ps : List Int} {y : Int} (h : cf ps = 0) (h2 : mon ps (ps.length - 1) = false) : solC ps y = 8 ∧ solV ps y = 0 := by
  have e : solC ps y = 8 := by unfold solC; rw [if_neg (by simpa using h), if_pos h2]
  exact ⟨e, by unfold solV; rw [e]; rfl⟩
theorem sol_r {ps : List Int} {y : Int} (h : cf ps = 0) (h2 : mon ps (ps.length - 1) = true) (h3 : inB y 0 65535 = false) : solC ps y = 3 ∧ solV ps y = 0 := by
  have e : solC ps y = 3 := by unfold solC; rw [if_neg (by simpa using h), if_neg (by rw [h2]; simp), if_pos h3]
  exact ⟨e, by unfold solV; rw [e]; rfl⟩
theorem sol_n {ps : List Int} {y : Int} (h : cf ps = 0) (h2 : mon ps (ps.length - 1) = true) (h3 : inB y 0 65535 = true) (h4 : pt ps (ps.length - 1) < y) : solC ps y = 4 ∧ solV ps y = 0 := by
  have e : solC ps y = 4 := by unfold solC; rw [if_neg (by simpa using h), if_neg (by rw [h2]; simp), if_neg (by rw [h3]; simp), if_pos h4]
  exact ⟨e, by unfold solV; rw [e]; rfl⟩
theorem sol_y {ps : List Int} {y : Int} (h : cf ps = 0) (h2 : mon ps (ps.length - 1) = true) (h3 : inB y 0 65535 = true) (h4 : ¬ pt ps (ps.length - 1) < y) : solC ps y = 0 ∧ solV ps y = (srch ps y 0 65535 : Nat) := by
  have e : solC ps y = 0 := by unfold solC; rw [if_neg (by simpa using h), if_neg (by rw [h2]; simp), if_neg (by rw [h3]; simp), if_neg h4]
  exact ⟨e, by unfold solV; rw [if_pos e]⟩
end Go.Proofs.YtlfdpambbgddoaaGreat
namespace Go.Proofs.YtlfdpambbgddoaaGreat
open Go.RowKit Go.Shelf
set_option linter.unusedVariables false
attribute [local go_sem] Oper.semAt_some

/-- the greatest difference of two neighbours. -/
def mxW : List (Int × Int) → Int := List.foldl (fun s p => max s (max (wrap64 (p.2 - p.1)) (wrap64 (p.1 - p.2)))) 0
theorem mxW_snoc (pre : List (Int × Int)) (x : Int × Int) : mxW (pre ++ [x]) = max (mxW pre) (max (wrap64 (x.2 - x.1)) (wrap64 (x.1 - x.2))) := by simp [mxW]
theorem mxW_upto {ps : List Int} (h : CFine ps) (k : Nat) : mxW (upto (lnF ps) k) = slo ps k := by
  induction k with
  | zero => rfl
  | succ k ih =>
    have a := h.lv k
    have b := h.lv (k + 1)
    rw [upto_succ, mxW_snoc, ih, slo]
    simp only [lnF]
    rw [IntWalk.wrap64_in _ ⟨by omega, by omega⟩, IntWalk.wrap64_in _ ⟨by omega, by omega⟩]
end Go.Proofs.YtlfdpambbgddoaaGreat
