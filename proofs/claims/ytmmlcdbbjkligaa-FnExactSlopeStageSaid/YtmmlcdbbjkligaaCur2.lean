/-
  Curves: EvalCurve by the program; l3Fault, CurveFault, l3True, l3Eval, EvalCurve, l3Monotone, IsMonotone, SolveCurve, l3Slope, SlopeOf by the reference model.
-/
import Derived.Test.YtmmlcdbbjkligaaCur1
namespace Go.Proofs.Ytmmlcdbbjkligaa
open Go.RowKit
set_option linter.unusedVariables false

/-! ### the reference model's -/
set_option maxHeartbeats 1000000 in
theorem sFault3_any (g o : Nat) (A : Option Addr) (n c : Nat) (ps : List Int) (w : World) (hg : w.cell? ⟨g, o, none⟩ = some (.slice A n c)) (h : Rd .i64 w A n ps) (hm : n ≤ maxLen) :
    Calls Try.prog 139 #[.pointer (some ⟨g, o, none⟩)] w fun e w' => e = .returned (.int .i64 (cf ps)) ∧ w = w' := by
  unfold maxLen at hm
  have hl := h.1
  have H := Lib.hid h
  clear h
  rcases Bool.eq_false_or_eq_true (inB (n : Int) 2 17) with hb | hb
  · have HC : Hid (cf ps = if lvl ps n = true then 0 else 3) := by show _ = _; unfold cf; rw [hl, if_neg (by rw [hb]; simp)]
    obtain ⟨b1, b2⟩ := inB_iff.1 hb
    clear hl hb
    go_enter Try.func139, Try.ntmps139
    go_wp2
    go_loop [3] (fun i => ∃ k : Nat, k ≤ n ∧ i = .int .i64 k ∧ Hid (lvl ps k = true)) (fun i => n - (intOf i).toNat)
    case atStart => exact ⟨0, by omega, rfl, rfl⟩
    case round =>
      obtain ⟨k, hk, rfl, hz⟩ := hrel
      by_cases hlt : k < n
      · obtain ⟨b, o, rfl, hc⟩ := H.out.2 (by omega)
        have c1 := hc k hlt
        change w.cell? ⟨b, o + k, none⟩ = some (.int .i64 (pt ps k)) at c1
        clear hc
        rcases Bool.eq_false_or_eq_true (inB (pt ps k) 0 65535) with hv | hv
        · have HZ : Hid (lvl ps (k + 1) = true) := by show _ = _; simp only [lvl]; rw [hz.out, hv]; rfl
          generalize pt ps k = x at *
          go_wp2_with (go_at_call 129; refine (sLevel_any _ _).mono ?_; rintro e w' ⟨rfl, rfl⟩)
          go_round
          case rel => exact ⟨k + 1, by omega, by go_num, HZ⟩
          case measure => simp [intOf]; omega
        · have HZ : Hid (cf ps = 3) := by
            show _ = _
            rw [HC.out, lvl_no (k := k + 1) (by simp only [lvl]; rw [hv, Bool.and_false]) (by omega)]; rfl
          generalize pt ps k = x at *
          go_wp2_with (go_at_call 129; refine (sLevel_any _ _).mono ?_; rintro e w' ⟨rfl, rfl⟩)
          go_ret
          exact ⟨ret_int HZ.out.symm, rfl⟩
      · obtain rfl : k = n := by omega
        go_wp2
        go_ret
        exact ⟨ret_int (by rw [HC.out, hz.out]; rfl), rfl⟩
  · have HC : Hid (cf ps = 2) := by show _ = _; unfold cf; rw [hl, if_pos hb]
    have hb' := inB_f hb
    clear hl hb
    by_cases h2 : n < 2
    · go_enter Try.func139, Try.ntmps139
      go_wp2
      go_ret
      exact ⟨ret_int HC.out.symm, rfl⟩
    · have h3 : 17 < n := by omega
      go_enter Try.func139, Try.ntmps139
      go_wp2
      go_ret
      exact ⟨ret_int HC.out.symm, rfl⟩
end Go.Proofs.Ytmmlcdbbjkligaa
