/-
  The unit matrix: the program's UnitMatrix, the model's l4Unit, UnitMatrix.
-/
import Derived.Test.YtdjifaaofefpoaaGreatMatA
namespace Go.Proofs.YtdjifaaofefpoaaGreat
open Go.RowKit
set_option linter.unusedVariables false
set_option linter.unusedSimpArgs false

def unQ : Nat → Int
  | 0 => 65536
  | 4 => 65536
  | 8 => 65536
  | _ => 0
theorem un_cel : ∀ t, t < 9 → cel (unQ t) = true := fun t ht => by
  match t, ht with
  | 0, _ | 1, _ | 2, _ | 3, _ | 4, _ | 5, _ | 6, _ | 7, _ | 8, _ => decide
set_option maxRecDepth 100000 in
set_option maxHeartbeats 2000000 in
theorem UnitMatrix_any (w : World) : Calls Tryz.prog 144 #[] w (MAns w (maC unQ) (maR unQ)) := by
  have CM := Lib.hid (fun W => matrixAnswer_any unQ W)
  go_enter Tryz.func144, Tryz.ntmps144
  go_wp2_with fail
  refine wp_loop_rounds 4 ?_
  rw [rounds_succ]
  go_wp2_with fail
  rw [rounds_succ]
  go_wp2_with fail
  rw [rounds_succ]
  go_wp2_with fail
  rw [rounds_succ]
  go_wp2_with fail
  refine (CM.out _).mono ?_
  rintro e w1 ⟨G, n, c, rfl, ho, hb⟩
  have R := Lib.hid ((((Bx.new w #[.int .i64 0, .slice none 0 0] 193 rfl).alloc _)).bel hb)
  have T := Lib.hid (blThen (blThenAlloc (blAlloc w _) _) hb)
  have HO := Lib.hid (ho.mono (lo' := w.heap.size + 2) (by simp) (Nat.le_refl _))
  clear ho hb CM
  have r0 := R.out.c 0 rfl
  have r1 := R.out.c 1 rfl
  have z0 := R.out.f 0
  have z1 := R.out.f 1
  have m1 := R.out.lt
  have k0 := ((R.out.set 0 (.int .i64 (maC unQ))).set 1 (.slice G n c)).c 0 rfl
  have k1 := ((R.out.set 0 (.int .i64 (maC unQ))).set 1 (.slice G n c)).c 1 rfl
  go_wp2_with fail
  refine bodyPost_ret (v := .agg #[.int .i64 (maC unQ), .slice G n c]) (by simp [results, Tryz.results144, go_sem, k0, k1]) rfl ⟨_, _, _, rfl, ?_, ?_⟩
  · refine Own.mono (lo := w.heap.size + 2) (hi := w1.heap.size) ?_ (by omega) (by simp only [setSize]; exact Nat.le_refl _)
    repeat (refine Own.set ?_ (.inl (by omega)) _ _)
    exact HO.out
  · repeat (refine Below.setCell ?_ (by simp; try omega) _)
    exact T.out
def RsAns (w : World) (rs : Rws) (e : Ending) (w' : World) : Prop :=
  ∃ G n c, e = .returned (.agg #[.slice G n c]) ∧ Own w' (rowsD rs) (.slice G n c) w.heap.size w'.heap.size ∧ Below w.heap.size w w'
set_option maxRecDepth 100000 in
set_option maxHeartbeats 2000000 in
theorem sUnit4_any (w : World) : Calls Tryz.prog 97 #[] w (RsAns w [[65536, 0, 0], [0, 65536, 0], [0, 0, 65536]]) := by
  obtain ⟨W0, hW0⟩ : ∃ W0, W0 = ((((w.alloc (.cells #[.slice (some ⟨w.heap.size + 1 + 1 + 1 + 1, 0, none⟩) 3 3] 95)).alloc (.cells #[.int .i64 65536, .int .i64 0, .int .i64 0] 2)).alloc (.cells #[.int .i64 0, .int .i64 65536, .int .i64 0] 2)).alloc (.cells #[.int .i64 0, .int .i64 0, .int .i64 65536] 2)).alloc (.cells #[.slice (some ⟨w.heap.size + 1, 0, none⟩) 3 3, .slice (some ⟨w.heap.size + 1 + 1, 0, none⟩) 3 3, .slice (some ⟨w.heap.size + 1 + 1 + 1, 0, none⟩) 3 3] 25) := ⟨_, rfl⟩
  have M : Hid (Bx W0 w.heap.size [.slice (some ⟨w.heap.size + 1 + 1 + 1 + 1, 0, none⟩) 3 3]) := by show Bx _ _ _; rw [hW0]; exact ((((Bx.new _ _ _ (by simp)).alloc _).alloc _).alloc _).alloc _
  have A0 : Hid (Bx W0 (w.heap.size + 1) [.int .i64 65536, .int .i64 0, .int .i64 0]) := by show Bx _ _ _; rw [hW0]; exact (((Bx.new _ _ _ (by simp)).alloc _).alloc _).alloc _
  have A1 : Hid (Bx W0 (w.heap.size + 1 + 1) [.int .i64 0, .int .i64 65536, .int .i64 0]) := by show Bx _ _ _; rw [hW0]; exact ((Bx.new _ _ _ (by simp)).alloc _).alloc _
  have A2 : Hid (Bx W0 (w.heap.size + 1 + 1 + 1) [.int .i64 0, .int .i64 0, .int .i64 65536]) := by show Bx _ _ _; rw [hW0]; exact (Bx.new _ _ _ (by simp)).alloc _
  have A3 : Hid (Bx W0 (w.heap.size + 1 + 1 + 1 + 1) [.slice (some ⟨w.heap.size + 1, 0, none⟩) 3 3, .slice (some ⟨w.heap.size + 1 + 1, 0, none⟩) 3 3, .slice (some ⟨w.heap.size + 1 + 1 + 1, 0, none⟩) 3 3]) := by show Bx _ _ _; rw [hW0]; exact Bx.new _ _ _ (by simp)
  have T : Hid (Below w.heap.size w W0) := by show Below _ _ _; rw [hW0]; exact blThenAlloc (blThenAlloc (blThenAlloc (blThenAlloc (blAlloc _ _) _) _) _) _
  have HZ : Hid (W0.heap.size = w.heap.size + 5) := by show _ = _; rw [hW0]; simp
  have HW := Lib.hid hW0
  clear hW0
  go_enter Tryz.func97, Tryz.ntmps97
  go_wp2_with fail
  rw [← HW.out]
  have k0 := M.out.c 0 rfl
  refine bodyPost_ret (v := .agg #[.slice (some ⟨w.heap.size + 1 + 1 + 1 + 1, 0, none⟩) 3 3]) (by simp [results, Tryz.results97, go_sem, k0]) rfl ⟨_, _, _, rfl, ?_, T.out⟩
  have hz := HZ.out
  exact rows3 A3.out (own3b A0.out) (own3b A1.out) (own3b A2.out) (by omega) (by omega) (.inr (by omega)) (by omega) (by omega) (by omega) (by omega) (by omega) (by omega)
end Go.Proofs.YtdjifaaofefpoaaGreat
