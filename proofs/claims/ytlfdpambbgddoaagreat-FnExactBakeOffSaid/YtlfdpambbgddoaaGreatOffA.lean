/-
  How far levels and fine numbers part on the way through a chain: the program's farthest on fine numbers, the model's l7Off, OffBy.
-/
import Derived.Test.YtlfdpambbgddoaaGreatChwA
import Derived.Test.YtlfdpambbgddoaaGreatSpnA
namespace Go.Proofs.YtlfdpambbgddoaaGreat
open Go.RowKit Go.Maps
set_option linter.unusedVariables false
set_option linter.unusedSimpArgs false

theorem far3_bdT {T : Int} {f g : Nat → Int} (hf : LvT T f) (hg : LvT T g) (hT : 0 ≤ T) : ∀ k, k ≤ 3 → 0 ≤ far3 f g k ∧ far3 f g k ≤ T := by
  intro k
  induction k with
  | zero => intro _; exact ⟨Int.le_refl _, hT⟩
  | succ k ih =>
    intro hk
    have h1 := ih (by omega)
    have h2 := hf k (by omega)
    have h3 := hg k (by omega)
    show 0 ≤ max (far3 f g k) (max (f k - g k) (g k - f k)) ∧ max (far3 f g k) (max (f k - g k) (g k - f k)) ≤ T
    omega
def offV (ts : List Stg) (xs : List Int) : Int := if chC ts xs = 0 then far3 (fun j => evW 1 ts (chX 1 xs) ts.length j * 256) (evW 256 ts (chX 256 xs) ts.length) 3 else 0
theorem offV_n {ts : List Stg} {xs : List Int} (h : chC ts xs ≠ 0) : offV ts xs = 0 := by unfold offV; rw [if_neg h]
theorem offV_y {ts : List Stg} {xs : List Int} (h : chC ts xs = 0) : offV ts xs = far3 (fun j => evW 1 ts (chX 1 xs) ts.length j * 256) (evW 256 ts (chX 256 xs) ts.length) 3 := by unfold offV; rw [if_pos h]
theorem off_bd {ts : List Stg} {xs : List Int} (h : chC ts xs = 0) : LvT 65535 (evW 1 ts (chX 1 xs) ts.length) ∧ LvT 16776960 (fun j => evW 1 ts (chX 1 xs) ts.length j * 256) ∧ LvT 16776960 (evW 256 ts (chX 256 xs) ts.length) := by
  obtain ⟨h0, h1⟩ := chC_zero h
  have hf := sgL_all _ (chf_zero h0).2
  have b1 := evW_bd (.inl rfl) (chX_bd (.inl rfl) h1) ts.length (fun i hi => hf i hi)
  have b2 := evW_bd (.inr rfl) (chX_bd (.inr rfl) h1) ts.length (fun i hi => hf i hi)
  refine ⟨b1, fun j hj => ?_, b2⟩
  have := b1 j hj
  show 0 ≤ evW 1 ts (chX 1 xs) ts.length j * 256 ∧ evW 1 ts (chX 1 xs) ts.length j * 256 ≤ 16776960
  omega
end Go.Proofs.YtlfdpambbgddoaaGreat
