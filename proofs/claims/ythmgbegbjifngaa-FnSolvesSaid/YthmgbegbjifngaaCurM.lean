/-
  Curves by the reference model: l3Monotone, IsMonotone, l3Slope, SlopeOf, SolveCurve.
-/
import Derived.Test.YthmgbegbjifngaaCur2
namespace Go.Proofs.Ythmgbegbjifngaa
open Go.RowKit
set_option linter.unusedVariables false

theorem mon_last {ps : List Int} {n : Nat} (hl : ps.length = n) : mon ps (n - 1) = mon ps (ps.length - 1) := by rw [hl]
set_option maxHeartbeats 2000000 in
theorem sMon_any (g o : Nat) (A : Option Addr) (n c : Nat) (ps : List Int) (w : World) (hg : w.cell? ⟨g, o, none⟩ = some (.slice A n c)) (h : Rd .i64 w A n ps) (hf : CFine ps) :
    Calls Try.prog 103 #[.pointer (some ⟨g, o, none⟩)] w fun e w' => e = .returned (.bool (mon ps (n - 1))) ∧ ∃ m, w' = w.drewN m := by
  have hlo := hf.lo
  have hhi := hf.hi
  rw [h.1] at hlo hhi
  obtain ⟨b, o', rfl, hcl⟩ := h.2 (by omega)
  have HC : Hid (∀ i, i < n → w.cell? ⟨b, o' + i, none⟩ = some (.int .i64 (pt ps i))) := hcl
  clear h hf hcl
  go_enter Try.func103, Try.ntmps103
  go_wp2
  go_loopw [3] (fun i wr => ∃ K k m : Nat, Hid (K = k + 1) ∧ K ≤ n ∧ i = .int .i64 K ∧ wr = w.drewN m ∧ Hid (mon ps k = true)) (fun i _ => n - (intOf i).toNat)
  case atStart => exact ⟨1, 0, 0, rfl, by omega, rfl, rfl, rfl⟩
  case round =>
    obtain ⟨K, k, m, hKk, hK, rfl, rfl, hz⟩ := hrel
    have k0 : k < K := by have := hKk.out; omega
    by_cases hlt : K < n
    · have c0 := HC.out k (by omega)
      have c1 := HC.out K hlt
      have w1 : IntKind.i64.wrap ((K : Int) - 1) = (k : Int) := by have := hKk.out; rw [IntWalk.i64_in _ (by omega)]; omega
      have hkn : (k : Int) < (n : Int) := by omega
      by_cases hv : pt ps K < pt ps k
      · have HZ : Hid (mon ps (n - 1) = false) := mon_no (k := k + 1) (by simp only [mon]; have : ¬ pt ps k ≤ pt ps (k + 1) := by rw [← hKk.out]; omega
                                                                          simp [this]) (by have := hKk.out; omega)
        have hv' : decide (pt ps K < pt ps k) = true := decide_eq_true hv
        generalize pt ps K = x at *
        generalize pt ps k = y at *
        go_wp2_with fail
        go_quiet (fail)
        go_wp2_with fail
        go_ret
        exact ⟨ret_bool HZ.out.symm, _, World.drewN_drewN ..⟩
      · have HZ : Hid (mon ps K = true) := by
          show _ = _
          rw [hKk.out, mon, hz.out, ← hKk.out]; simp; omega
        have hv' : decide (pt ps K < pt ps k) = false := decide_eq_false hv
        generalize pt ps K = x at *
        generalize pt ps k = y at *
        go_wp2_with fail
        go_quiet (fail)
        go_wp2_with fail
        go_roundw
        case rel => exact ⟨K + 1, K, _, rfl, by omega, by go_num, rfl, HZ⟩
        case measure => simp [intOf]; omega
    · have HZ : Hid (mon ps (n - 1) = true) := by
        show _ = _
        have : n - 1 = k := by have := hKk.out; omega
        rw [this]; exact hz.out
      go_wp2
      go_ret
      exact ⟨ret_bool HZ.out.symm, _, rfl⟩
set_option maxHeartbeats 1000000 in
theorem sIsMonotone_any (A : Option Addr) (n c : Nat) (ps : List Int) (w : World) (h : Rd .i64 w A n ps) (hm : n ≤ maxLen) :
    Calls Try.prog 47 #[.agg #[.slice A n c]] w fun e w' => e = .returned (.bool (cmon ps)) ∧ Below w.heap.size w w' := by
  have H := Lib.hid h
  clear h
  go_enter Try.func47, Try.ntmps47
  go_wp2_with fail
  refine (sFault3_any _ _ A n c ps _ (by simp) (H.out.alloc _) hm).mono ?_
  rintro e w1 ⟨rfl, rfl⟩
  by_cases hk : cf ps = 0
  · have HK := Lib.hid hk
    have HE : Hid (cmon ps = mon ps (n - 1)) := by show _ = _; unfold cmon; rw [hk, H.out.1]; simp
    rw [hk]
    clear hk
    go_wp2_with fail
    refine (sMon_any _ _ A n c ps _ (by simp) (H.out.alloc _) (cfine HK.out)).mono ?_
    rintro e w1 ⟨rfl, m, rfl⟩
    go_wp2_with fail
    go_ret
    exact ⟨ret_bool HE.out.symm, blThenDrew (blAlloc _ _) _⟩
  · have HE : Hid (cmon ps = false) := by show _ = _; unfold cmon; simp [hk]
    have hk' : (cf ps == 0) = false := by simpa using hk
    clear hk
    generalize cf ps = q at *
    go_wp2_with fail
    go_ret
    exact ⟨ret_bool HE.out.symm, blAlloc _ _⟩
set_option maxHeartbeats 2000000 in
theorem sSlope_any (g o : Nat) (A : Option Addr) (n c : Nat) (ps : List Int) (w : World) (hg : w.cell? ⟨g, o, none⟩ = some (.slice A n c)) (h : Rd .i64 w A n ps) (hf : CFine ps) :
    Calls Try.prog 102 #[.pointer (some ⟨g, o, none⟩)] w fun e w' => e = .returned (.int .i64 (slo ps (n - 1) * ((n : Int) - 1))) ∧ ∃ m, w' = w.drewN m := by
  have hlo := hf.lo
  have hhi := hf.hi
  rw [h.1] at hlo hhi
  obtain ⟨b, o', rfl, hcl⟩ := h.2 (by omega)
  have HC : Hid (∀ i, i < n → w.cell? ⟨b, o' + i, none⟩ = some (.int .i64 (pt ps i))) := hcl
  have HLV := Lib.hid hf.lv
  have HSB := Lib.hid (slo_bd hf)
  clear h hf hcl
  go_enter Try.func102, Try.ntmps102
  go_wp2
  go_loopw [3, 4, 5] (fun s i _ wr => ∃ K k m : Nat, Hid (K = k + 1) ∧ K ≤ n ∧ i = .int .i64 K ∧ s = .int .i64 (slo ps k) ∧ wr = w.drewN m) (fun _ i _ _ => n - (intOf i).toNat)
  case atStart => exact ⟨1, 0, 0, rfl, by omega, rfl, rfl, rfl⟩
  case round =>
    obtain ⟨K, k, m, hKk, hK, rfl, rfl, rfl⟩ := hrel
    have k0 : k < K := by have := hKk.out; omega
    obtain ⟨s0, s1⟩ := HSB.out k
    by_cases hlt : K < n
    · have c0 := HC.out k (by omega)
      have c1 := HC.out K hlt
      have w1 : IntKind.i64.wrap ((K : Int) - 1) = (k : Int) := by have := hKk.out; rw [IntWalk.i64_in _ (by omega)]; omega
      have hkn : (k : Int) < (n : Int) := by omega
      obtain ⟨a0, a1⟩ := HLV.out k
      obtain ⟨b0, b1⟩ := HLV.out K
      have HZ : Hid (slo ps K = max (slo ps k) (max (pt ps K - pt ps k) (-(pt ps K - pt ps k)))) := by
        show _ = _
        rw [hKk.out, slo]; congr 2; omega
      have w2 : IntKind.i64.wrap (pt ps K - pt ps k) = pt ps K - pt ps k := IntWalk.i64_in _ (by omega)
      generalize slo ps k = s at *
      generalize pt ps K = x at *
      generalize pt ps k = y at *
      go_wp2_with fail
      go_quiet (fail)
      clear w1 w2
      go_wp2_with (go_at_call 127; refine (sMax_any _ _ _).mono ?_; rintro e w' ⟨rfl, rfl⟩)
      go_roundw
      case rel => exact ⟨K + 1, K, _, rfl, by omega, by go_num, by rw [HZ.out], rfl⟩
      case measure => simp [intOf]; omega
    · have HZ : Hid (slo ps (n - 1) = slo ps k) := by
        show _ = _
        have : n - 1 = k := by have := hKk.out; omega
        rw [this]
      have hmul := Int.mul_le_mul_of_nonneg_right s1 (by omega : (0 : Int) ≤ (n : Int) - 1)
      have hmul0 := Int.mul_nonneg s0 (by omega : (0 : Int) ≤ (n : Int) - 1)
      generalize slo ps k = s at *
      go_wp2
      go_ret
      exact ⟨ret_int (by rw [HZ.out]), _, rfl⟩
theorem slpV_of {ps : List Int} {n : Nat} (hl : ps.length = n) (h : cf ps = 0) : slpV ps = slo ps (n - 1) * ((n : Int) - 1) := by unfold slpV; rw [if_pos h, hl]
set_option maxHeartbeats 1000000 in
theorem sSlopeOf_any (A : Option Addr) (n c : Nat) (ps : List Int) (w : World) (h : Rd .i64 w A n ps) (hm : n ≤ maxLen) :
    Calls Try.prog 42 #[.agg #[.slice A n c]] w fun e w' => e = .returned (.agg #[.int .i64 (cf ps), .int .i64 (slpV ps)]) ∧ Below w.heap.size w w' := by
  have H := Lib.hid h
  clear h
  go_enter Try.func42, Try.ntmps42
  go_wp2_with fail
  refine (sFault3_any _ _ A n c ps _ (by simp) ((H.out.alloc _).alloc _) hm).mono ?_
  rintro e w1 ⟨rfl, rfl⟩
  by_cases hk : cf ps = 0
  · have HK := Lib.hid hk
    have HE := Lib.hid (slpV_of H.out.1 hk)
    rw [hk]
    clear hk
    go_wp2_with fail
    refine (sSlope_any _ _ A n c ps _ (by simp) ((H.out.alloc _).alloc _) (cfine HK.out)).mono ?_
    rintro e w1 ⟨rfl, m, rfl⟩
    rw [← HE.out]
    go_wp2_with fail
    refine bodyPost_ret (v := .agg #[.int .i64 0, .int .i64 (slpV ps)]) (by simp [results, Try.results42, go_sem]) rfl ⟨by rw [HK.out], ?_⟩
    exact ((blThenDrew (blThenAlloc (blAlloc w _) _) _).setCell (by simp) _).setCell (by simp) _
  · have HE : Hid (slpV ps = 0) := by show _ = _; unfold slpV; rw [if_neg hk]
    have hk' : (cf ps == 0) = false := by simpa using hk
    clear hk
    go_wp2_with fail
    refine bodyPost_ret (v := .agg #[.int .i64 (cf ps), .int .i64 0]) (by simp [results, Try.results42, go_sem]) rfl ⟨by rw [HE.out], ?_⟩
    repeat (first | exact blThenAlloc (blAlloc w _) _ | refine Below.setCell ?_ (by simp) _)
/-! ### what is solved -/
theorem sol_c {ps : List Int} {y : Int} (h : cf ps ≠ 0) : solC ps y = cf ps ∧ solV ps y = 0 := by
  have e : solC ps y = cf ps := by unfold solC; rw [if_pos h]
  exact ⟨e, by unfold solV; rw [e, if_neg h]⟩
theorem sol_m {ps : List Int} {y : Int} (h : cf ps = 0) (h2 : mon ps (ps.length - 1) = false) : solC ps y = 8 ∧ solV ps y = 0 := by
  have e : solC ps y = 8 := by unfold solC; rw [if_neg (by simpa using h), if_pos h2]
  exact ⟨e, by unfold solV; rw [e]; rfl⟩
theorem sol_r {ps : List Int} {y : Int} (h : cf ps = 0) (h2 : mon ps (ps.length - 1) = true) (h3 : inB y 0 65535 = false) : solC ps y = 3 ∧ solV ps y = 0 := by
  have e : solC ps y = 3 := by unfold solC; rw [if_neg (by simpa using h), if_neg (by rw [h2]; simp), if_pos h3]
  exact ⟨e, by unfold solV; rw [e]; rfl⟩
theorem sol_n {ps : List Int} {y : Int} (h : cf ps = 0) (h2 : mon ps (ps.length - 1) = true) (h3 : inB y 0 65535 = true) (h4 : pt ps (ps.length - 1) < y) : solC ps y = 4 ∧ solV ps y = 0 := by
  have e : solC ps y = 4 := by unfold solC; rw [if_neg (by simpa using h), if_neg (by rw [h2]; simp), if_neg (by rw [h3]; simp), if_pos h4]
  exact ⟨e, by unfold solV; rw [e]; rfl⟩
theorem sol_y {ps : List Int} {y : Int} (h : cf ps = 0) (h2 : mon ps (ps.length - 1) = true) (h3 : inB y 0 65535 = true) (h4 : ¬ pt ps (ps.length - 1) < y) : solC ps y = 0 ∧ solV ps y = (srch ps y 0 65535 : Nat) := by
  have e : solC ps y = 0 := by unfold solC; rw [if_neg (by simpa using h), if_neg (by rw [h2]; simp), if_neg (by rw [h3]; simp), if_neg h4]
  exact ⟨e, by unfold solV; rw [if_pos e]⟩
set_option maxRecDepth 100000 in
set_option maxHeartbeats 4000000 in
theorem sSolveCurve_any (A : Option Addr) (n c : Nat) (ps : List Int) (y : Int) (w : World) (h : Rd .i64 w A n ps) (hm : n ≤ maxLen) :
    Calls Try.prog 43 #[.agg #[.slice A n c], .int .i64 y] w fun e w' => e = .returned (.agg #[.int .i64 (solC ps y), .int .i64 (solV ps y)]) ∧ Below w.heap.size w w' := by
  have H := Lib.hid h
  clear h
  go_enter Try.func43, Try.ntmps43
  go_wp2_with fail
  refine (sFault3_any _ _ A n c ps _ (by simp) ((H.out.alloc _).alloc _) hm).mono ?_
  rintro e w1 ⟨rfl, rfl⟩
  by_cases hk : cf ps = 0
  · have HK := Lib.hid hk
    have HF := cfine hk
    have hlo := HF.lo
    have hhi := HF.hi
    rw [H.out.1] at hlo hhi
    rw [hk]
    clear hk HF
    go_wp2_with fail
    refine (sMon_any _ _ A n c ps _ (by simp) ((H.out.alloc _).alloc _) (cfine HK.out)).mono ?_
    rintro e w1 ⟨rfl, m, rfl⟩
    have HML := Lib.hid (mon_last H.out.1)
    rcases Bool.eq_false_or_eq_true (mon ps (n - 1)) with hmo | hmo
    · have HMO : Hid (mon ps (ps.length - 1) = true) := by show _ = _; rw [← HML.out, hmo]
      rw [hmo]
      clear hmo
      rcases Bool.eq_false_or_eq_true (inB y 0 65535) with hy | hy
      · obtain ⟨b, o, rfl, hcl⟩ := H.out.2 (by omega)
        obtain ⟨k, hkn⟩ : ∃ k, n = k + 1 := ⟨n - 1, by omega⟩
        have cl : w.cell? ⟨b, o + k, none⟩ = some (.int .i64 (pt ps (ps.length - 1))) := by
          have := hcl k (by omega)
          rw [this, H.out.1, hkn]; rfl
        have hbw : b < w.heap.size := cell_lt cl
        have w1 : (n : Int) - 1 = (k : Int) := by omega
        have HN1 := Lib.hid hkn
        have hkn' : k < n := by omega
        have HY := Lib.hid hy
        clear hcl hkn
        by_cases hp : pt ps (ps.length - 1) < y
        · have HS := Lib.hid (sol_n HK.out HMO.out hy hp)
          generalize pt ps (ps.length - 1) = p at *
          go_wp2_with (go_at_call 104; refine (sLevel_any _ _).mono ?_; rintro e w' ⟨rfl, rfl⟩)
          refine bodyPost_ret (v := .agg #[.int .i64 4, .int .i64 0]) (by simp [results, Try.results43, go_sem]) rfl ⟨by rw [HS.out.1, HS.out.2], ?_⟩
          repeat (first | exact blThenDrew (blThenAlloc (blAlloc w _) _) _ | refine Below.setCell ?_ (by simp) _)
        · have HS := Lib.hid (sol_y HK.out HMO.out hy hp)
          have hp' : decide (pt ps (ps.length - 1) < y) = false := decide_eq_false hp
          generalize pt ps (ps.length - 1) = p at *
          go_wp2_with (go_at_call 104; refine (sLevel_any _ _).mono ?_; rintro e w' ⟨rfl, rfl⟩)
          clear w1 hp' cl
          have HSL := Lib.hid (srch_le ps y 65535 0 65535 rfl (by omega))
          go_loopw [6, 7, 8] (fun l h _ wr => ∃ lo hi m : Nat, lo ≤ hi ∧ hi ≤ 65535 ∧ l = .int .i64 lo ∧ h = .int .i64 hi ∧ Hid (srch ps y lo hi = srch ps y 0 65535) ∧ wr = ((w.alloc (.cells #[.slice (some ⟨b, o, none⟩) n c] 43)).alloc (.cells #[.int .i64 0, .int .i64 0] 47)).drewN m) (fun l h _ _ => (intOf h - intOf l).toNat)
          case atStart => exact ⟨0, 65535, m, by omega, by omega, rfl, rfl, rfl, rfl⟩
          case round =>
            obtain ⟨lo, hi, m, hle, hhi2, rfl, rfl, hz, rfl⟩ := hrel
            by_cases hlt : lo < hi
            · have hmid : ((lo : Int) + (hi : Int)) / 2 = (((lo + hi) / 2 : Nat) : Int) := by omega
              have HMID : Hid ((lo + hi) / 2 < hi ∧ lo ≤ (lo + hi) / 2) := ⟨by omega, by omega⟩
              by_cases hcv : cev ps (((lo + hi) / 2 : Nat) : Int) < y
              · have HU := Lib.hid (srch_up hlt hcv)
                obtain ⟨M, hM⟩ : ∃ M : Nat, (lo + hi) / 2 = M := ⟨_, rfl⟩
                rw [hM] at hmid hcv
                have HM1 := Lib.hid hM
                have hMh : M ≤ 65535 := by omega
                have hcv' : decide (y ≤ cev ps (M : Int)) = false := decide_eq_false (by omega)
                clear hM
                go_wp2_with fail
                refine (sEval_any _ _ _ n c ps (M : Int) _ (by simp) (((H.out.alloc _).alloc _).drewN _) (cfine HK.out) (by omega) (by omega)).mono ?_
                rintro e w1 ⟨rfl, m1, rfl⟩
                go_wp2_with fail
                go_roundw
                case rel => exact ⟨M + 1, hi, _, by have := HMID.out; have := HM1.out; omega, by omega, by go_num, rfl, by show _ = _; rw [← hz.out, HU.out, HM1.out], rfl⟩
                case measure => have := HMID.out; have := HM1.out; simp [intOf]; omega
              · have HU := Lib.hid (srch_down hlt hcv)
                obtain ⟨M, hM⟩ : ∃ M : Nat, (lo + hi) / 2 = M := ⟨_, rfl⟩
                rw [hM] at hmid hcv
                have HM1 := Lib.hid hM
                have hMh : M ≤ 65535 := by omega
                have hcv' : decide (y ≤ cev ps (M : Int)) = true := decide_eq_true (by omega)
                clear hM
                go_wp2_with fail
                refine (sEval_any _ _ _ n c ps (M : Int) _ (by simp) (((H.out.alloc _).alloc _).drewN _) (cfine HK.out) (by omega) (by omega)).mono ?_
                rintro e w1 ⟨rfl, m1, rfl⟩
                go_wp2_with fail
                go_roundw
                case rel => exact ⟨lo, M, _, by have := HMID.out; have := HM1.out; omega, by omega, rfl, rfl, by show _ = _; rw [← hz.out, HU.out, HM1.out], rfl⟩
                case measure => have := HMID.out; have := HM1.out; simp [intOf]; omega
            · obtain rfl : lo = hi := by omega
              have HZ : Hid (srch ps y 0 65535 = lo) := by show _ = _; rw [← hz.out, srch_end]
              go_wp2_with fail
              refine bodyPost_ret (v := .agg #[.int .i64 0, .int .i64 lo]) (by simp [results, Try.results43, go_sem]) rfl ⟨by rw [HS.out.1, HS.out.2, HZ.out], ?_⟩
              repeat (first | exact blThenDrew (blThenAlloc (blAlloc w _) _) _ | refine Below.setCell ?_ (by simp) _)
      · have HS := Lib.hid (sol_r HK.out HMO.out hy)
        go_wp2_with (go_at_call 104; refine (sLevel_any _ _).mono ?_; rintro e w' ⟨rfl, rfl⟩)
        refine bodyPost_ret (v := .agg #[.int .i64 3, .int .i64 0]) (by simp [results, Try.results43, go_sem]) rfl ⟨by rw [HS.out.1, HS.out.2], ?_⟩
        repeat (first | exact blThenDrew (blThenAlloc (blAlloc w _) _) _ | refine Below.setCell ?_ (by simp) _)
    · have HS := Lib.hid (sol_m (y := y) HK.out (by rw [← HML.out, hmo]))
      rw [hmo]
      clear hmo
      go_wp2_with fail
      refine bodyPost_ret (v := .agg #[.int .i64 8, .int .i64 0]) (by simp [results, Try.results43, go_sem]) rfl ⟨by rw [HS.out.1, HS.out.2], ?_⟩
      repeat (first | exact blThenDrew (blThenAlloc (blAlloc w _) _) _ | refine Below.setCell ?_ (by simp) _)
  · have HS := Lib.hid (sol_c (y := y) hk)
    have hk' : (cf ps == 0) = false := by simpa using hk
    clear hk
    generalize cf ps = q at *
    go_wp2_with fail
    refine bodyPost_ret (v := .agg #[.int .i64 q, .int .i64 0]) (by simp [results, Try.results43, go_sem]) rfl ⟨by rw [HS.out.1, HS.out.2], ?_⟩
    repeat (first | exact blThenAlloc (blAlloc w _) _ | refine Below.setCell ?_ (by simp) _)
end Go.Proofs.Ythmgbegbjifngaa
