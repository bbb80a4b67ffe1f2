/-
  The unit matrix: the program's UnitMatrix, the model's l4Unit, UnitMatrix.
-/
import Derived.Test.YtlfdpambbgddoaaMatA
namespace Go.Proofs.Ytlfdpambbgddoaa
open Go.RowKit
set_option linter.unusedVariables false
set_option linter.unusedSimpArgs false

def unQ : Nat → Int
  | 0 => 65536
  | 4 => 65536
  | 8 => 65536
  | _ => 0
theorem un_cel : ∀ t, t < 9 → cel (unQ t) = true := fun t ht => by
  match t, ht with
  | 0, _ | 1, _ | 2, _ | 3, _ | 4, _ | 5, _ | 6, _ | 7, _ | 8, _ => decide
def RsAns (w : World) (rs : Rws) (e : Ending) (w' : World) : Prop :=
  ∃ G n c, e = .returned (.agg #[.slice G n c]) ∧ Own w' (rowsD rs) (.slice G n c) w.heap.size w'.heap.size ∧ Below w.heap.size w w'
set_option maxRecDepth 100000 in
set_option maxHeartbeats 2000000 in
theorem sUnit4_any (w : World) : Calls Try.prog 148 #[] w (RsAns w [[65536, 0, 0], [0, 65536, 0], [0, 0, 65536]]) := by
  obtain ⟨W0, hW0⟩ : ∃ W0, W0 = ((((w.alloc (.cells #[.slice (some ⟨w.heap.size + 1 + 1 + 1 + 1, 0, none⟩) 3 3] 62)).alloc (.cells #[.int .i64 65536, .int .i64 0, .int .i64 0] 2)).alloc (.cells #[.int .i64 0, .int .i64 65536, .int .i64 0] 2)).alloc (.cells #[.int .i64 0, .int .i64 0, .int .i64 65536] 2)).alloc (.cells #[.slice (some ⟨w.heap.size + 1, 0, none⟩) 3 3, .slice (some ⟨w.heap.size + 1 + 1, 0, none⟩) 3 3, .slice (some ⟨w.heap.size + 1 + 1 + 1, 0, none⟩) 3 3] 40) := ⟨_, rfl⟩
  have M : Hid (Bx W0 w.heap.size [.slice (some ⟨w.heap.size + 1 + 1 + 1 + 1, 0, none⟩) 3 3]) := by show Bx _ _ _; rw [hW0]; exact ((((Bx.new _ _ _ (by simp)).alloc _).alloc _).alloc _).alloc _
  have A0 : Hid (Bx W0 (w.heap.size + 1) [.int .i64 65536, .int .i64 0, .int .i64 0]) := by show Bx _ _ _; rw [hW0]; exact (((Bx.new _ _ _ (by simp)).alloc _).alloc _).alloc _
  have A1 : Hid (Bx W0 (w.heap.size + 1 + 1) [.int .i64 0, .int .i64 65536, .int .i64 0]) := by show Bx _ _ _; rw [hW0]; exact ((Bx.new _ _ _ (by simp)).alloc _).alloc _
  have A2 : Hid (Bx W0 (w.heap.size + 1 + 1 + 1) [.int .i64 0, .int .i64 0, .int .i64 65536]) := by show Bx _ _ _; rw [hW0]; exact (Bx.new _ _ _ (by simp)).alloc _
  have A3 : Hid (Bx W0 (w.heap.size + 1 + 1 + 1 + 1) [.slice (some ⟨w.heap.size + 1, 0, none⟩) 3 3, .slice (some ⟨w.heap.size + 1 + 1, 0, none⟩) 3 3, .slice (some ⟨w.heap.size + 1 + 1 + 1, 0, none⟩) 3 3]) := by show Bx _ _ _; rw [hW0]; exact Bx.new _ _ _ (by simp)
  have T : Hid (Below w.heap.size w W0) := by show Below _ _ _; rw [hW0]; exact blThenAlloc (blThenAlloc (blThenAlloc (blThenAlloc (blAlloc _ _) _) _) _) _
  have HZ : Hid (W0.heap.size = w.heap.size + 5) := by show _ = _; rw [hW0]; simp
  have HW := Lib.hid hW0
  clear hW0
  go_enter Try.func148, Try.ntmps148
  go_wp2_with fail
  rw [← HW.out]
  have k0 := M.out.c 0 rfl
  refine bodyPost_ret (v := .agg #[.slice (some ⟨w.heap.size + 1 + 1 + 1 + 1, 0, none⟩) 3 3]) (by simp [results, Try.results148, go_sem, k0]) rfl ⟨_, _, _, rfl, ?_, T.out⟩
  have hz := HZ.out
  exact rows3 A3.out (own3b A0.out) (own3b A1.out) (own3b A2.out) (by omega) (by omega) (.inr (by omega)) (by omega) (by omega) (by omega) (by omega) (by omega) (by omega)
end Go.Proofs.Ytlfdpambbgddoaa
