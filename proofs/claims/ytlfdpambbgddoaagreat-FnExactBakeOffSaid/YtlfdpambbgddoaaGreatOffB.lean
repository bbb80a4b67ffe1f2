/-
  How far levels and fine numbers part: the program's farthest on fine numbers.
-/
import Derived.Test.YtlfdpambbgddoaaGreatOffA
namespace Go.Proofs.YtlfdpambbgddoaaGreat
open Go.RowKit Go.Maps
set_option linter.unusedVariables false
set_option linter.unusedSimpArgs false

theorem wrap_subT {u v : Int} (h1 : 0 ≤ u ∧ u ≤ 16776960) (h2 : 0 ≤ v ∧ v ≤ 16776960) : IntKind.i64.wrap (u - v) = u - v := IntWalk.i64_in _ (by omega)
set_option maxRecDepth 100000 in
set_option maxHeartbeats 2000000 in
theorem farthest_k (f g : Nat → Int) (w : World) (lf' : LvT 16776960 f) (lg : LvT 16776960 g) :
    Calls Tryz.prog 42 #[.agg #[.int .i64 (f 0), .int .i64 (f 1), .int .i64 (f 2)], .agg #[.int .i64 (g 0), .int .i64 (g 1), .int .i64 (g 2)]] w fun e w' => e = .returned (.int .i64 (far3 f g 3)) ∧ Below w.heap.size w w' := by
  obtain ⟨W0, hW0⟩ : ∃ W0, W0 = (w.alloc (.cells #[.int .i64 (f 0), .int .i64 (f 1), .int .i64 (f 2)] 76)).alloc (.cells #[.int .i64 (g 0), .int .i64 (g 1), .int .i64 (g 2)] 76) := ⟨_, rfl⟩
  have HX : Hid (∀ k, k < 3 → W0.cell? ⟨w.heap.size, k, none⟩ = some (.int .i64 (f k))) := fun k hk => by
    rw [hW0]; refine cell_later (blAlloc _ _) ?_
    match k, hk with
    | 0, _ => simp
    | 1, _ => simp
    | 2, _ => simp
  have HY : Hid (∀ k, k < 3 → W0.cell? ⟨w.heap.size + 1, k, none⟩ = some (.int .i64 (g k))) := fun k hk => by
    rw [hW0, newCell _ _ _ _ _ (by simp)]
    match k, hk with
    | 0, _ => rfl
    | 1, _ => rfl
    | 2, _ => rfl
  have T : Hid (Below w.heap.size w W0) := by show Below _ _ _; rw [hW0]; exact blThenAlloc (blAlloc _ _) _
  have LX := Lib.hid lf'
  have LY := Lib.hid lg
  have HBD := Lib.hid (far3_bdT lf' lg (by omega))
  have HW := Lib.hid hW0
  clear lf' lg hW0
  go_enter Tryz.func42, Tryz.ntmps42
  go_wp2_with fail
  rw [← HW.out]
  clear HW
  go_loopw [5, 7] (fun q i wr => ∃ k m : Nat, k ≤ 3 ∧ i = .int .i64 k ∧ q = .int .i64 (far3 f g k) ∧ wr = W0.drewN m) (fun _ i _ => 3 - (intOf i).toNat)
  case atStart => exact ⟨0, 0, by omega, rfl, rfl, rfl⟩
  case round =>
    obtain ⟨k, m, hk, rfl, rfl, rfl⟩ := hrel
    by_cases hlt : k < 3
    · have y1 := HX.out k hlt
      have y2 := HY.out k hlt
      have b1 := LX.out k hlt
      have b2 := LY.out k hlt
      have b3 := HBD.out k hk
      have HS : Hid (far3 f g (k + 1) = max (far3 f g k) (max (f k - g k) (g k - f k))) := rfl
      obtain ⟨z, hz⟩ : ∃ z, z = far3 f g k := ⟨_, rfl⟩
      obtain ⟨u, hu⟩ : ∃ u, u = f k := ⟨_, rfl⟩
      obtain ⟨v, hv⟩ : ∃ v, v = g k := ⟨_, rfl⟩
      rw [← hz, ← hu, ← hv] at HS
      rw [← hu] at y1 b1
      rw [← hv] at y2 b2
      rw [← hz] at b3 ⊢
      clear hz hu hv
      have HW1 := Lib.hid (wrap_subT b1 b2)
      have HW2 := Lib.hid (wrap_subT b2 b1)
      have hmx := fun W x y z => run_max3 W x y z
      go_wp2_with fail
      go_quiet (fail)
      clear hmx
      go_wp2_with fail
      go_roundw
      case rel =>
        refine ⟨k + 1, _, by omega, by go_num, ?_, rfl⟩
        first
          | (rw [HS.out]; done)
          | (rw [HS.out]; congr 1; omega)
          | (rw [HS.out, HW1.out, HW2.out]; congr 1; omega)
      case measure => simp [intOf]; try omega
    · obtain rfl : k = 3 := by omega
      go_wp2_with fail
      go_ret
      exact ⟨rfl, T.out.trans (below_drewN _ _ _)⟩
end Go.Proofs.YtlfdpambbgddoaaGreat
