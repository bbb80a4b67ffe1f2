/-
  The cube root: the greatest number whose third pow is not above; contracts of impl.cubeRoot, impl.CubeRoot and of the reference model's CubeRoot.
-/
import Derived.Test.YtfheofbgoaggmaaDoorFixS
namespace Go.Proofs.YtfheofbgoaggmaaDoor
open Go.RowKit
set_option linter.unusedVariables false

def IsRoot (v n : Int) : Prop := 0 ≤ n ∧ n ≤ 100000 ∧ n * n * n ≤ v ∧ v < (n + 1) * (n + 1) * (n + 1)
theorem cube_mono {a b : Int} (h0 : 0 ≤ a) (h : a ≤ b) : a * a * a ≤ b * b * b :=
  Int.mul_le_mul (Int.mul_le_mul h h h0 (by omega)) h h0 (Int.mul_nonneg (by omega) (by omega))
theorem root_uniq {v n m : Int} (hn : IsRoot v n) (hm : IsRoot v m) : n = m := by
  obtain ⟨n0, _, n1, n2⟩ := hn
  obtain ⟨m0, _, m1, m2⟩ := hm
  by_cases h1 : n + 1 ≤ m
  · have := cube_mono (by omega) h1; omega
  · by_cases h2 : m + 1 ≤ n
    · have := cube_mono (by omega) h2; omega
    · omega
noncomputable def cbrt (v : Int) : Int := Classical.epsilon (fun n => IsRoot v n)
theorem cbrt_eq {v n : Int} (h : IsRoot v n) : cbrt v = n := root_uniq (Classical.epsilon_spec (p := fun n => IsRoot v n) ⟨n, h⟩) h
theorem cbrt_of {v lo hi : Int} (h0 : 0 ≤ lo) (h1 : lo ≤ hi) (h2 : hi ≤ 100000) (ha : lo * lo * lo ≤ v) (hb : v < (hi + 1) * (hi + 1) * (hi + 1)) (h : ¬ lo < hi) : lo = cbrt v := by
  obtain rfl : lo = hi := by omega
  exact (cbrt_eq ⟨h0, h2, ha, hb⟩).symm
theorem sq_bd {m : Int} (h0 : 0 ≤ m) (h1 : m ≤ 100000) : 0 ≤ m * m ∧ m * m ≤ 10000000000 :=
  ⟨Int.mul_nonneg h0 h0, Int.le_trans (Int.mul_le_mul h1 h1 h0 (by omega)) (by decide)⟩
theorem cu_bd {m : Int} (h0 : 0 ≤ m) (h1 : m ≤ 100000) : 0 ≤ m * m * m ∧ m * m * m ≤ 1000000000000000 :=
  ⟨Int.mul_nonneg (Int.mul_nonneg h0 h0) h0, Int.le_trans (cube_mono h0 h1) (by decide)⟩
theorem ret_tup1 {k : IntKind} {a b : Int} {v : Value} (h : a = b) : Ending.returned (.tuple #[.int k a, v]) = .returned (.tuple #[.int k b, v]) := by rw [h]
def okR (v : Int) : Bool := inB v 0 1000000000000000
noncomputable def cbV (v : Int) : Int := if okR v then cbrt v else 0
def cbC (v : Int) : Int := if okR v then 0 else 3
theorem cb_ans (v : Int) : ansV (cbC v) (cbV v) = cbV v := by
  unfold ansV cbC cbV; split <;> simp_all
theorem succ_cube (m : Int) : (m - 1 + 1) * (m - 1 + 1) * (m - 1 + 1) = m * m * m := by rw [Int.sub_add_cancel]

set_option maxHeartbeats 1000000 in
theorem cubeRoot_yes (v : Int) (w : World) (h1 : 0 ≤ v) (h2 : v ≤ 1000000000000000) : Calls Tryd.prog 53 #[.int .i64 v] w fun e w' => e = .returned (.tuple #[.int .i64 (cbrt v), .nilIface]) ∧ w = w' := by
  go_enter Tryd.func53, Tryd.ntmps53
  go_wp2
  go_loop [4, 5] (fun l h => ∃ lo hi : Int, 0 ≤ lo ∧ lo ≤ hi ∧ hi ≤ 100000 ∧ lo * lo * lo ≤ v ∧ v < (hi + 1) * (hi + 1) * (hi + 1) ∧ l = .int .i64 lo ∧ h = .int .i64 hi) (fun l h => (intOf h - intOf l).toNat)
  case atStart => exact ⟨0, 100000, by omega, by omega, by omega, by omega, by omega, rfl, rfl⟩
  case round =>
    obtain ⟨lo, hi, r0, r1, r2, r3, r4, rfl, rfl⟩ := hrel
    have R3 : Hid (lo * lo * lo ≤ v) := r3
    have R4 : Hid (v < (hi + 1) * (hi + 1) * (hi + 1)) := r4
    clear r3 r4
    by_cases hlt : lo < hi
    · obtain ⟨s0, s1⟩ := sq_bd (m := (lo + hi + 1) / 2) (by omega) (by omega)
      obtain ⟨c0, c1⟩ := cu_bd (m := (lo + hi + 1) / 2) (by omega) (by omega)
      by_cases hc : (lo + hi + 1) / 2 * ((lo + hi + 1) / 2) * ((lo + hi + 1) / 2) ≤ v
      · go_wp2
        go_round
        case rel => exact ⟨(lo + hi + 1) / 2, hi, by omega, by omega, by omega, hc, R4.out, rfl, rfl⟩
        case measure => simp [intOf]; omega
      · go_wp2
        go_round
        case rel => exact ⟨lo, (lo + hi + 1) / 2 - 1, by omega, by omega, by omega, R3.out, by rw [succ_cube]; omega, rfl, rfl⟩
        case measure => simp [intOf]; omega
    · have hq := cbrt_of r0 r1 r2 R3.out R4.out hlt
      have HQ : Hid (lo = cbrt v) := hq
      clear hq
      go_wp2
      go_ret2
      exact ⟨ret_tup1 HQ.out, rfl⟩
theorem cubeRoot_no (v : Int) (w : World) (h : okR v = false) : Calls Tryd.prog 53 #[.int .i64 v] w fun e w' => e = .returned (.tuple #[.int .i64 0, .iface 72 (.agg #[.int .i64 3])]) ∧ w = w' := by
  by_cases h0 : v < 0
  · clear h
    go_enter Tryd.func53, Tryd.ntmps53
    go_wp2
    go_ret2
    exact ⟨rfl, rfl⟩
  · have h1 : 1000000000000000 < v := by
      unfold okR inB at h; simp at h; omega
    clear h
    go_enter Tryd.func53, Tryd.ntmps53
    go_wp2
    go_ret2
    exact ⟨rfl, rfl⟩
theorem cubeRoot_any (v : Int) (w : World) : Calls Tryd.prog 53 #[.int .i64 v] w fun e w' => e = .returned (.tuple #[.int .i64 (cbV v), errV (cbC v)]) ∧ ∃ n, w' = w.drewN n := by
  unfold cbV cbC
  by_cases h : okR v = true
  · rw [if_pos h, if_pos h, errV_0]
    obtain ⟨h1, h2⟩ := inB_iff.1 h
    exact (cubeRoot_yes v w h1 h2).mono fun e w' ⟨h1, h2⟩ => ⟨h1, 0, h2.symm⟩
  · rw [if_neg h, if_neg h, errV_n (by decide)]
    exact (cubeRoot_no v w (by simpa using h)).mono fun e w' ⟨h1, h2⟩ => ⟨h1, 0, h2.symm⟩
set_option maxHeartbeats 400000 in
theorem CubeRoot_any (v : Int) (w : World) (hL : Laid w) : Calls Tryd.prog 25 #[.int .i64 v] w fun e w' => e = .returned (.agg #[.int .i64 (cbC v), .int .i64 (cbV v)]) ∧ Below w.heap.size w w' := by
  go_enter Tryd.func25, Tryd.ntmps25
  go_wp2_with fail
  refine (cubeRoot_any v _).mono ?_
  rintro e w' ⟨rfl, n, rfl⟩
  go_wp2_with fail
  refine (intAnswer_any _ _ _ ((hL.alloc _).drewN n)).mono ?_
  rintro e w1 ⟨rfl, hb⟩
  obtain ⟨hc, hf⟩ := bcell hb
  have hz : w.heap.size < w1.heap.size := by have := hb.size; simp at this; omega
  go_wp2_with fail
  refine bodyPost_ret (v := .agg #[.int .i64 (cbC v), .int .i64 (ansV (cbC v) (cbV v))]) (by simp [results, Tryd.results25, go_sem, hc]) rfl ⟨?_, by repeat (first | exact blThen ((blAlloc _ _).trans (below_drewN _ _ _)) hb | refine Below.setCell ?_ (by simp) _)⟩
  rw [cb_ans]

set_option maxHeartbeats 1000000 in
theorem sCubeRoot_any (v : Int) (w : World) : Calls Tryd.prog 32 #[.int .i64 v] w fun e w' => e = .returned (.agg #[.int .i64 (cbC v), .int .i64 (cbV v)]) ∧ Below w.heap.size w w' := by
  unfold cbV cbC
  by_cases h : okR v = true
  · rw [if_pos h, if_pos h]
    have h' : inB v 0 1000000000000000 = true := h
    obtain ⟨h1, h2⟩ := inB_iff.1 h
    clear h
    go_enter Tryd.func32, Tryd.ntmps32
    go_wp2_with (go_at_call 52; refine (sIn_any _ _ _ _).mono ?_; rintro e w' ⟨rfl, rfl⟩)
    go_loop [3, 4] (fun l h => ∃ lo hi : Int, 0 ≤ lo ∧ lo ≤ hi ∧ hi ≤ 100000 ∧ lo * lo * lo ≤ v ∧ v < (hi + 1) * (hi + 1) * (hi + 1) ∧ l = .int .i64 lo ∧ h = .int .i64 hi) (fun l h => (intOf h - intOf l).toNat)
    case atStart => exact ⟨0, 100000, by omega, by omega, by omega, by omega, by omega, rfl, rfl⟩
    case round =>
      obtain ⟨lo, hi, r0, r1, r2, r3, r4, rfl, rfl⟩ := hrel
      have R3 : Hid (lo * lo * lo ≤ v) := r3
      have R4 : Hid (v < (hi + 1) * (hi + 1) * (hi + 1)) := r4
      clear r3 r4
      by_cases hlt : lo < hi
      · obtain ⟨s0, s1⟩ := sq_bd (m := (lo + hi + 1) / 2) (by omega) (by omega)
        obtain ⟨c0, c1⟩ := cu_bd (m := (lo + hi + 1) / 2) (by omega) (by omega)
        by_cases hc : (lo + hi + 1) / 2 * ((lo + hi + 1) / 2) * ((lo + hi + 1) / 2) ≤ v
        · go_wp2
          go_round
          case rel => exact ⟨(lo + hi + 1) / 2, hi, by omega, by omega, by omega, hc, R4.out, rfl, rfl⟩
          case measure => simp [intOf]; omega
        · go_wp2
          go_round
          case rel => exact ⟨lo, (lo + hi + 1) / 2 - 1, by omega, by omega, by omega, R3.out, by rw [succ_cube]; omega, rfl, rfl⟩
          case measure => simp [intOf]; omega
      · have hq := cbrt_of r0 r1 r2 R3.out R4.out hlt
        have HQ : Hid (lo = cbrt v) := hq
        clear hq
        go_wp2
        exact bodyPost_ret (v := .agg #[.int .i64 0, .int .i64 lo]) (by simp [results, Tryd.results32, go_sem]) rfl ⟨by rw [HQ.out], blAlloc _ _⟩
  · rw [if_neg h, if_neg h]
    have h' : inB v 0 1000000000000000 = false := by simpa [okR] using h
    clear h
    go_enter Tryd.func32, Tryd.ntmps32
    go_wp2_with (go_at_call 52; refine (sIn_any _ _ _ _).mono ?_; rintro e w' ⟨rfl, rfl⟩)
    exact bodyPost_ret (v := .agg #[.int .i64 3, .int .i64 0]) (by simp [results, Tryd.results32, go_sem]) rfl ⟨rfl, blAlloc _ _⟩
end Go.Proofs.YtfheofbgoaggmaaDoor
