/-
  How far two nodes are apart: the program's next and farthest, the model's l5Far.
-/
import Derived.Test.YtmmlcdbbjkligaaGrdR
namespace Go.Proofs.Ytmmlcdbbjkligaa
open Go.RowKit
set_option linter.unusedVariables false

def far3 (f g : Nat → Int) : Nat → Int
  | 0 => 0
  | k + 1 => max (far3 f g k) (max (f k - g k) (g k - f k))
def Lv3 (f : Nat → Int) : Prop := ∀ k, k < 3 → 0 ≤ f k ∧ f k ≤ 65535
theorem far3_bd {f g : Nat → Int} (hf : Lv3 f) (hg : Lv3 g) : ∀ k, k ≤ 3 → 0 ≤ far3 f g k ∧ far3 f g k ≤ 65535 := by
  intro k
  induction k with
  | zero => intro _; simp [far3]
  | succ k ih =>
    intro hk
    have h1 := ih (by omega)
    have h2 := hf k (by omega)
    have h3 := hg k (by omega)
    simp only [far3]
    omega
set_option maxRecDepth 100000 in
set_option maxHeartbeats 2000000 in
theorem next_any (x : Nat → Int) (k : Nat) (w : World) (hk : k < 3) (hx : ∀ j, j < 3 → 0 ≤ x j ∧ x j ≤ 1000) :
    Calls Try.prog 95 #[.agg #[.int .i64 (x 0), .int .i64 (x 1), .int .i64 (x 2)], .int .i64 (k : Int)] w fun e w' => e = .returned (.agg #[.int .i64 (if k = 0 then x 0 + 1 else x 0), .int .i64 (if k = 1 then x 1 + 1 else x 1), .int .i64 (if k = 2 then x 2 + 1 else x 2)]) ∧ Below w.heap.size w w' := by
  have h0 := hx 0 (by omega)
  have h1 := hx 1 (by omega)
  have h2 := hx 2 (by omega)
  generalize x 0 = a0 at *
  generalize x 1 = a1 at *
  generalize x 2 = a2 at *
  clear hx
  have hkk : k = 0 ∨ k = 1 ∨ k = 2 := by omega
  rcases hkk with rfl | rfl | rfl
  · go_enter Try.func95, Try.ntmps95
    go_wp2_with fail
    refine bodyPost_ret (v := .agg #[.int .i64 (a0 + 1), .int .i64 a1, .int .i64 a2]) (by simp [results, Try.results95, go_sem]) rfl ⟨by simp, ?_⟩
    repeat (first | exact Below.refl _ _ | refine Below.setCell ?_ (by simp) _ | refine blThenAlloc ?_ _)
  · go_enter Try.func95, Try.ntmps95
    go_wp2_with fail
    refine bodyPost_ret (v := .agg #[.int .i64 a0, .int .i64 (a1 + 1), .int .i64 a2]) (by simp [results, Try.results95, go_sem]) rfl ⟨by simp, ?_⟩
    repeat (first | exact Below.refl _ _ | refine Below.setCell ?_ (by simp) _ | refine blThenAlloc ?_ _)
  · go_enter Try.func95, Try.ntmps95
    go_wp2_with fail
    refine bodyPost_ret (v := .agg #[.int .i64 a0, .int .i64 a1, .int .i64 (a2 + 1)]) (by simp [results, Try.results95, go_sem]) rfl ⟨by simp, ?_⟩
    repeat (first | exact Below.refl _ _ | refine Below.setCell ?_ (by simp) _ | refine blThenAlloc ?_ _)
set_option maxRecDepth 100000 in
set_option maxHeartbeats 2000000 in
theorem sFar5_any (A B : Option Addr) (ca cb : Nat) (xs ys : List Int) (w : World) (hx : Rd .i64 w A 3 xs) (hy : Rd .i64 w B 3 ys) (lx : Lv3 (xs.getD · 0)) (ly : Lv3 (ys.getD · 0)) :
    Calls Try.prog 144 #[.slice A 3 ca, .slice B 3 cb] w fun e w' => e = .returned (.int .i64 (far3 (xs.getD · 0) (ys.getD · 0) 3)) ∧ ∃ m, w' = w.drewN m := by
  obtain ⟨b, o, rfl, hx2⟩ := hx.2 (by omega)
  obtain ⟨b', o', rfl, hy2⟩ := hy.2 (by omega)
  have HX := Lib.hid hx2
  have HY := Lib.hid hy2
  have LX := Lib.hid lx
  have LY := Lib.hid ly
  have HBD := Lib.hid (far3_bd lx ly)
  clear hx hy hx2 hy2 lx ly
  go_enter Try.func144, Try.ntmps144
  go_wp2_with fail
  go_loopw [5, 6] (fun q i wr => ∃ k m : Nat, k ≤ 3 ∧ i = .int .i64 k ∧ q = .int .i64 (far3 (xs.getD · 0) (ys.getD · 0) k) ∧ wr = w.drewN m) (fun _ i _ => 3 - (intOf i).toNat)
  case atStart => exact ⟨0, 0, by omega, rfl, rfl, rfl⟩
  case round =>
    obtain ⟨k, m, hk, rfl, rfl, rfl⟩ := hrel
    by_cases hlt : k < 3
    · have y1 := HX.out k hlt
      have y2 := HY.out k hlt
      have b1 := LX.out k hlt
      have b2 := LY.out k hlt
      have b3 := HBD.out k hk
      have HS : Hid (far3 (xs.getD · 0) (ys.getD · 0) (k + 1) = max (far3 (xs.getD · 0) (ys.getD · 0) k) (max (xs.getD k 0 - ys.getD k 0) (ys.getD k 0 - xs.getD k 0))) := rfl
      simp only at b1 b2
      obtain ⟨z, hz⟩ : ∃ z, z = far3 (xs.getD · 0) (ys.getD · 0) k := ⟨_, rfl⟩
      obtain ⟨u, hu⟩ : ∃ u, u = xs.getD k 0 := ⟨_, rfl⟩
      obtain ⟨v, hv⟩ : ∃ v, v = ys.getD k 0 := ⟨_, rfl⟩
      rw [← hz, ← hu, ← hv] at HS
      rw [← hu] at y1 b1
      rw [← hv] at y2 b2
      rw [← hz] at b3 ⊢
      clear hz hu hv
      go_wp2_with fail
      go_quiet ((go_at_call 112; first | exact Calls.quiet_of ((sMax_any _ _ _).mono fun e w' ⟨he, hw⟩ => ⟨he, 0, hw.symm⟩) | exact quietAD' ((sMax_any _ _ _).mono fun e w' ⟨he, hw⟩ => ⟨he, 0, hw.symm⟩)))
      go_wp2_with fail
      go_roundw
      case rel => exact ⟨k + 1, _, by omega, by go_num, by rw [HS.out], rfl⟩
      case measure => simp [intOf]; omega
    · obtain rfl : k = 3 := by omega
      go_wp2_with fail
      go_ret
      exact ⟨rfl, m, rfl⟩
theorem run_max3 (w : World) (x y z : Int) : (Builtin.max_ #[2, 2, 2] 2 #[.int .i64 x, .int .i64 y, .int .i64 z]).run Try.prog w = .ok (.int .i64 (max (max x y) z)) w := by
  have h1 : (if y > x then y else x) = max x y := by split <;> omega
  have h2 : (if z > max x y then z else max x y) = max (max x y) z := by split <;> omega
  first
    | (simp [Builtin.max_, go_sem, h1, h2]; done)
    | (rw [← h2, ← h1]; rfl)
    | (rw [← h2, ← h1]; simp [Builtin.max_, go_sem]; split <;> split <;> simp_all)
theorem wrap_sub {u v : Int} (h1 : 0 ≤ u ∧ u ≤ 65535) (h2 : 0 ≤ v ∧ v ≤ 65535) : IntKind.i64.wrap (u - v) = u - v := IntWalk.i64_in _ (by omega)
set_option maxRecDepth 100000 in
set_option maxHeartbeats 2000000 in
theorem farthest_any (f g : Nat → Int) (w : World) (lf' : Lv3 f) (lg : Lv3 g) :
    Calls Try.prog 96 #[.agg #[.int .i64 (f 0), .int .i64 (f 1), .int .i64 (f 2)], .agg #[.int .i64 (g 0), .int .i64 (g 1), .int .i64 (g 2)]] w fun e w' => e = .returned (.int .i64 (far3 f g 3)) ∧ Below w.heap.size w w' := by
  obtain ⟨W0, hW0⟩ : ∃ W0, W0 = (w.alloc (.cells #[.int .i64 (f 0), .int .i64 (f 1), .int .i64 (f 2)] 137)).alloc (.cells #[.int .i64 (g 0), .int .i64 (g 1), .int .i64 (g 2)] 137) := ⟨_, rfl⟩
  have HX : Hid (∀ k, k < 3 → W0.cell? ⟨w.heap.size, k, none⟩ = some (.int .i64 (f k))) := fun k hk => by
    rw [hW0]; refine cell_later (blAlloc _ _) ?_
    match k, hk with
    | 0, _ => simp
    | 1, _ => simp
    | 2, _ => simp
  have HY : Hid (∀ k, k < 3 → W0.cell? ⟨w.heap.size + 1, k, none⟩ = some (.int .i64 (g k))) := fun k hk => by
    rw [hW0, newCell _ _ _ _ _ (by simp)]
    match k, hk with
    | 0, _ => rfl
    | 1, _ => rfl
    | 2, _ => rfl
  have T : Hid (Below w.heap.size w W0) := by show Below _ _ _; rw [hW0]; exact blThenAlloc (blAlloc _ _) _
  have LX := Lib.hid lf'
  have LY := Lib.hid lg
  have HBD := Lib.hid (far3_bd lf' lg)
  have HW := Lib.hid hW0
  clear lf' lg hW0
  go_enter Try.func96, Try.ntmps96
  go_wp2_with fail
  rw [← HW.out]
  clear HW
  go_loopw [5, 7] (fun q i wr => ∃ k m : Nat, k ≤ 3 ∧ i = .int .i64 k ∧ q = .int .i64 (far3 f g k) ∧ wr = W0.drewN m) (fun _ i _ => 3 - (intOf i).toNat)
  case atStart => exact ⟨0, 0, by omega, rfl, rfl, rfl⟩
  case round =>
    obtain ⟨k, m, hk, rfl, rfl, rfl⟩ := hrel
    by_cases hlt : k < 3
    · have y1 := HX.out k hlt
      have y2 := HY.out k hlt
      have b1 := LX.out k hlt
      have b2 := LY.out k hlt
      have b3 := HBD.out k hk
      have HS : Hid (far3 f g (k + 1) = max (far3 f g k) (max (f k - g k) (g k - f k))) := rfl
      obtain ⟨z, hz⟩ : ∃ z, z = far3 f g k := ⟨_, rfl⟩
      obtain ⟨u, hu⟩ : ∃ u, u = f k := ⟨_, rfl⟩
      obtain ⟨v, hv⟩ : ∃ v, v = g k := ⟨_, rfl⟩
      rw [← hz, ← hu, ← hv] at HS
      rw [← hu] at y1 b1
      rw [← hv] at y2 b2
      rw [← hz] at b3 ⊢
      clear hz hu hv
      have HW1 := Lib.hid (wrap_sub b1 b2)
      have HW2 := Lib.hid (wrap_sub b2 b1)
      have hmx := fun W x y z => run_max3 W x y z
      go_wp2_with fail
      go_quiet (fail)
      clear hmx
      go_wp2_with fail
      go_roundw
      case rel =>
        refine ⟨k + 1, _, by omega, by go_num, ?_, rfl⟩
        first
          | (rw [HS.out]; done)
          | (rw [HS.out]; congr 1; omega)
          | (rw [HS.out, HW1.out, HW2.out]; congr 1; omega)
      case measure => simp [intOf]; try omega
    · obtain rfl : k = 3 := by omega
      go_wp2_with fail
      go_ret
      exact ⟨rfl, T.out.trans (below_drewN _ _ _)⟩
end Go.Proofs.Ytmmlcdbbjkligaa
