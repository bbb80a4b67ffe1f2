/-
  The laws' helpers over bytes: eqByteS (two lists that are alike), markByteS (marks are written), heldByteS (marks are still there), toByteS (a copy), szByteS.
-/
import Derived.Test.YtmmlcdbbjkligaaBase
namespace Go.Proofs.Ytmmlcdbbjkligaa
open Go.RowKit
set_option linter.unusedVariables false

def mark (k : Int) (j : Nat) : Int := (k + j) % 256
def marks (k : Int) (n : Nat) : List Int := (List.range n).map (mark k)
theorem marks_get {k : Int} {n i : Nat} (h : i < n) : (marks k n).getD i 0 = mark k i := by
  unfold marks; simp [List.getD, h]
theorem marks_len (k : Int) (n : Nat) : (marks k n).length = n := by simp [marks]

theorem info_u8 : (Try.prog.info? 5).map (fun i => (i.zero, i.size, i.bytes)) = some (some (.int .u8 0), 1, 1) := by kernel_rfl
theorem made_cell (w : World) (z : Value) (n t : Nat) (e : TypeId) (ht : t < n) : (w.alloc (.cells (madeCells #[z] n) e)).cell? ⟨w.heap.size, t, none⟩ = some z := by
  simp [madeCells, ht, Nat.mod_one]
end Go.Proofs.Ytmmlcdbbjkligaa
