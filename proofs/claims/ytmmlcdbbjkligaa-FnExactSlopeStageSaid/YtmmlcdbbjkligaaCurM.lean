/-
  Curves by the reference model: l3Monotone, IsMonotone, l3Slope, SlopeOf, SolveCurve.
-/
import Derived.Test.YtmmlcdbbjkligaaCur2
namespace Go.Proofs.Ytmmlcdbbjkligaa
open Go.RowKit
set_option linter.unusedVariables false

theorem mon_last {ps : List Int} {n : Nat} (hl : ps.length = n) : mon ps (n - 1) = mon ps (ps.length - 1) := by rw [hl]
set_option maxHeartbeats 2000000 in
theorem sSlope_any (g o : Nat) (A : Option Addr) (n c : Nat) (ps : List Int) (w : World) (hg : w.cell? ⟨g, o, none⟩ = some (.slice A n c)) (h : Rd .i64 w A n ps) (hf : CFine ps) :
    Calls Try.prog 113 #[.pointer (some ⟨g, o, none⟩)] w fun e w' => e = .returned (.int .i64 (slo ps (n - 1) * ((n : Int) - 1))) ∧ ∃ m, w' = w.drewN m := by
  have hlo := hf.lo
  have hhi := hf.hi
  rw [h.1] at hlo hhi
  obtain ⟨b, o', rfl, hcl⟩ := h.2 (by omega)
  have HC : Hid (∀ i, i < n → w.cell? ⟨b, o' + i, none⟩ = some (.int .i64 (pt ps i))) := hcl
  have HLV := Lib.hid hf.lv
  have HSB := Lib.hid (slo_bd hf)
  clear h hf hcl
  go_enter Try.func113, Try.ntmps113
  go_wp2
  go_loopw [3, 4, 5] (fun s i _ wr => ∃ K k m : Nat, Hid (K = k + 1) ∧ K ≤ n ∧ i = .int .i64 K ∧ s = .int .i64 (slo ps k) ∧ wr = w.drewN m) (fun _ i _ _ => n - (intOf i).toNat)
  case atStart => exact ⟨1, 0, 0, rfl, by omega, rfl, rfl, rfl⟩
  case round =>
    obtain ⟨K, k, m, hKk, hK, rfl, rfl, rfl⟩ := hrel
    have k0 : k < K := by have := hKk.out; omega
    obtain ⟨s0, s1⟩ := HSB.out k
    by_cases hlt : K < n
    · have c0 := HC.out k (by omega)
      have c1 := HC.out K hlt
      have w1 : IntKind.i64.wrap ((K : Int) - 1) = (k : Int) := by have := hKk.out; rw [IntWalk.i64_in _ (by omega)]; omega
      have hkn : (k : Int) < (n : Int) := by omega
      obtain ⟨a0, a1⟩ := HLV.out k
      obtain ⟨b0, b1⟩ := HLV.out K
      have HZ : Hid (slo ps K = max (slo ps k) (max (pt ps K - pt ps k) (-(pt ps K - pt ps k)))) := by
        show _ = _
        rw [hKk.out, slo]; congr 2; omega
      have w2 : IntKind.i64.wrap (pt ps K - pt ps k) = pt ps K - pt ps k := IntWalk.i64_in _ (by omega)
      generalize slo ps k = s at *
      generalize pt ps K = x at *
      generalize pt ps k = y at *
      go_wp2_with fail
      go_quiet (fail)
      clear w1 w2
      go_wp2_with (go_at_call 112; refine (sMax_any _ _ _).mono ?_; rintro e w' ⟨rfl, rfl⟩)
      go_roundw
      case rel => exact ⟨K + 1, K, _, rfl, by omega, by go_num, by rw [HZ.out], rfl⟩
      case measure => simp [intOf]; omega
    · have HZ : Hid (slo ps (n - 1) = slo ps k) := by
        show _ = _
        have : n - 1 = k := by have := hKk.out; omega
        rw [this]
      have hmul := Int.mul_le_mul_of_nonneg_right s1 (by omega : (0 : Int) ≤ (n : Int) - 1)
      have hmul0 := Int.mul_nonneg s0 (by omega : (0 : Int) ≤ (n : Int) - 1)
      generalize slo ps k = s at *
      go_wp2
      go_ret
      exact ⟨ret_int (by rw [HZ.out]), _, rfl⟩
theorem slpV_of {ps : List Int} {n : Nat} (hl : ps.length = n) (h : cf ps = 0) : slpV ps = slo ps (n - 1) * ((n : Int) - 1) := by unfold slpV; rw [if_pos h, hl]
/-! ### what is solved -/
theorem sol_c {ps : List Int} {y : Int} (h : cf ps ≠ 0) : solC ps y = cf ps ∧ solV ps y = 0 := by
  have e : solC ps y = cf ps := by unfold solC; rw [if_pos h]
  exact ⟨e, by unfold solV; rw [e, if_neg h]⟩
theorem sol_m {ps : List Int} {y : Int} (h : cf ps = 0) (h2 : mon ps (ps.length - 1) = false) : solC ps y = 8 ∧ solV ps y = 0 := by
  have e : solC ps y = 8 := by unfold solC; rw [if_neg (by simpa using h), if_pos h2]
  exact ⟨e, by unfold solV; rw [e]; rfl⟩
theorem sol_r {ps : List Int} {y : Int} (h : cf ps = 0) (h2 : mon ps (ps.length - 1) = true) (h3 : inB y 0 65535 = false) : solC ps y = 3 ∧ solV ps y = 0 := by
  have e : solC ps y = 3 := by unfold solC; rw [if_neg (by simpa using h), if_neg (by rw [h2]; simp), if_pos h3]
  exact ⟨e, by unfold solV; rw [e]; rfl⟩
theorem sol_n {ps : List Int} {y : Int} (h : cf ps = 0) (h2 : mon ps (ps.length - 1) = true) (h3 : inB y 0 65535 = true) (h4 : pt ps (ps.length - 1) < y) : solC ps y = 4 ∧ solV ps y = 0 := by
  have e : solC ps y = 4 := by unfold solC; rw [if_neg (by simpa using h), if_neg (by rw [h2]; simp), if_neg (by rw [h3]; simp), if_pos h4]
  exact ⟨e, by unfold solV; rw [e]; rfl⟩
theorem sol_y {ps : List Int} {y : Int} (h : cf ps = 0) (h2 : mon ps (ps.length - 1) = true) (h3 : inB y 0 65535 = true) (h4 : ¬ pt ps (ps.length - 1) < y) : solC ps y = 0 ∧ solV ps y = (srch ps y 0 65535 : Nat) := by
  have e : solC ps y = 0 := by unfold solC; rw [if_neg (by simpa using h), if_neg (by rw [h2]; simp), if_neg (by rw [h3]; simp), if_neg h4]
  exact ⟨e, by unfold solV; rw [if_pos e]⟩
end Go.Proofs.Ytmmlcdbbjkligaa
