/-
  Curves by the program: isPointCount, CurveFault, curveAt, EvalCurve; by the reference model: l3Fault, CurveFault, l3True, l3Eval, EvalCurve, l3Monotone, IsMonotone.
  Curves: EvalCurve by the program; l3Fault, CurveFault, l3True, l3Eval, EvalCurve, l3Monotone, IsMonotone, SolveCurve, l3Slope, SlopeOf by the reference model.
-/
import Derived.Test.YthplngcdldongaaNumA
namespace Go.Proofs.Ythplngcdldongaa
open Go.RowKit
set_option linter.unusedVariables false

/-- v times n - 1 in parts. -/
structure Way (T : Int) (n : Nat) (v : Int) (i : Nat) (r : Int) : Prop where
  x0 : 0 ≤ v * ((n : Int) - 1)
  x1 : v * ((n : Int) - 1) ≤ 16 * T
  q : v * ((n : Int) - 1) / T = i
  qt : (v * ((n : Int) - 1)).tdiv T = i
  m : v * ((n : Int) - 1) % T = r
  wx : wrap64 (v * ((n : Int) - 1)) = v * ((n : Int) - 1)
  wq : wrap64 (i : Int) = i
  mt : (v * ((n : Int) - 1)).tmod T = r
  r0 : 0 ≤ r
  r1 : r < T
  i1 : i < n
  i2 : r ≠ 0 → i + 1 < n
theorem way (T : Int) (hT : T = 65535 ∨ T = 16776960) (n : Nat) (v : Int) (hn : 2 ≤ n) (hn' : n ≤ 17) (h0 : 0 ≤ v) (h1 : v ≤ T) : ∃ i r, Way T n v i r := by
  have hN : (0 : Int) ≤ (n : Int) - 1 := by omega
  have x0 := Int.mul_nonneg h0 hN
  have xw := Int.mul_le_mul_of_nonneg_right h1 hN
  refine ⟨(v * ((n : Int) - 1) / T).toNat, v * ((n : Int) - 1) % T, ?_⟩
  have t1 := Int.tdiv_eq_ediv_of_nonneg x0 (b := T)
  have t2 := Int.tmod_eq_emod_of_nonneg x0 (b := T)
  rcases hT with rfl | rfl
  · have a1 : v * ((n : Int) - 1) ≤ 16 * 65535 := by omega
    have a2 : v * ((n : Int) - 1) / 65535 = ((v * ((n : Int) - 1) / 65535).toNat : Nat) := by omega
    have a3 : 0 ≤ v * ((n : Int) - 1) % 65535 := by omega
    have a4 : v * ((n : Int) - 1) % 65535 < 65535 := by omega
    have a5 : (v * ((n : Int) - 1) / 65535).toNat < n := by omega
    have a6 : v * ((n : Int) - 1) % 65535 ≠ 0 → (v * ((n : Int) - 1) / 65535).toNat + 1 < n := by omega
    exact ⟨x0, a1, a2, t1.trans a2, rfl, IntWalk.wrap64_in _ ⟨by omega, by omega⟩, IntWalk.wrap64_in _ ⟨by omega, by omega⟩, t2, a3, a4, a5, a6⟩
  · have a1 : v * ((n : Int) - 1) ≤ 16 * 16776960 := by omega
    have a2 : v * ((n : Int) - 1) / 16776960 = ((v * ((n : Int) - 1) / 16776960).toNat : Nat) := by omega
    have a3 : 0 ≤ v * ((n : Int) - 1) % 16776960 := by omega
    have a4 : v * ((n : Int) - 1) % 16776960 < 16776960 := by omega
    have a5 : (v * ((n : Int) - 1) / 16776960).toNat < n := by omega
    have a6 : v * ((n : Int) - 1) % 16776960 ≠ 0 → (v * ((n : Int) - 1) / 16776960).toNat + 1 < n := by omega
    exact ⟨x0, a1, a2, t1.trans a2, rfl, IntWalk.wrap64_in _ ⟨by omega, by omega⟩, IntWalk.wrap64_in _ ⟨by omega, by omega⟩, t2, a3, a4, a5, a6⟩
theorem ctrT_zero {T : Int} {ps : List Int} {n i : Nat} {v r : Int} (hl : ps.length = n) (h : Way T n v i r) (hr : r = 0) : ctrT T ps v = pt ps i * T := by
  unfold ctrT
  simp only
  rw [hl, h.q, h.m, if_pos hr, Int.toNat_natCast]
theorem ctrT_mix {T : Int} {ps : List Int} {n i : Nat} {v r : Int} (hl : ps.length = n) (h : Way T n v i r) (hr : r ≠ 0) : ctrT T ps v = pt ps i * (T - r) + pt ps (i + 1) * r := by
  unfold ctrT
  simp only
  rw [hl, h.q, h.m, if_neg hr, Int.toNat_natCast]
theorem ctru_zero {ps : List Int} {n i : Nat} {v r : Int} (hl : ps.length = n) (h : Way 65535 n v i r) (hr : r = 0) : ctru ps v = pt ps i * 65535 := ctrT_zero (T := 65535) hl h hr
theorem ctru_mix {ps : List Int} {n i : Nat} {v r : Int} (hl : ps.length = n) (h : Way 65535 n v i r) (hr : r ≠ 0) : ctru ps v = pt ps i * (65535 - r) + pt ps (i + 1) * r := ctrT_mix (T := 65535) hl h hr
end Go.Proofs.Ythplngcdldongaa
namespace Go.Proofs.Ythplngcdldongaa
open Go.RowKit
set_option linter.unusedVariables false

/-! ### the reference model's -/
end Go.Proofs.Ythplngcdldongaa
