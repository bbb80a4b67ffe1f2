/-
  What is solved, by the program: solveFault, leastLevel (a search that goes on by goto), SolveCurve.
-/
import Derived.Test.YthmgbegbjifngaaItM
import Derived.WalkMore
import Derived.ScopeJumps
namespace Go.Proofs.Ythmgbegbjifngaa
open Go.RowKit
set_option linter.unusedVariables false

set_option maxHeartbeats 1000000 in
theorem solveFault_any (A : Option Addr) (n c : Nat) (ps : List Int) (y : Int) (w : World) (h : Rd .i64 w A n ps) (hm : n ≤ maxLen) :
    Calls Try.prog 87 #[.agg #[.slice A n c], .int .i64 y] w fun e w' => e = .returned (.int .i64 (solC ps y)) ∧ Below w.heap.size w w' := by
  have H := Lib.hid h
  clear h
  go_enter Try.func87, Try.ntmps87
  go_wp2_with fail
  refine (CurveFault_any _ _ _ ps _ (H.out.alloc _) hm).mono ?_
  rintro e w1 ⟨rfl, hb⟩
  have x0 : w1.cell? ⟨w.heap.size, 0, none⟩ = some (.slice A n c) := by rw [(bcell hb).1 _ _ (by simp)]; simp
  have hz : w.heap.size < w1.heap.size := cell_lt x0
  have T := Lib.hid (blThen (blAlloc w _) hb)
  have H1 := Lib.hid ((H.out.alloc _).below hb)
  clear hb
  by_cases hk : cf ps = 0
  · have HK := Lib.hid hk
    have HF := cfine hk
    have hlo := HF.lo
    have hhi := HF.hi
    rw [H.out.1] at hlo hhi
    have HCM : Hid (cmon ps = mon ps (ps.length - 1)) := by show _ = _; unfold cmon; rw [hk]; simp
    rw [hk]
    clear hk HF
    go_wp2_with fail
    refine (IsMonotone_any _ _ _ ps _ H1.out hm).mono ?_
    rintro e w2 ⟨rfl, hb⟩
    have X0 := cell_later hb x0
    have T2 := Lib.hid (blThen T.out hb)
    have H2 := Lib.hid (H1.out.below hb)
    clear hb x0 hz
    have hz : w.heap.size < w2.heap.size := cell_lt X0
    rcases Bool.eq_false_or_eq_true (cmon ps) with hmo | hmo
    · have HMO : Hid (mon ps (ps.length - 1) = true) := by show _ = _; rw [← HCM.out, hmo]
      rw [hmo]
      clear hmo
      rcases Bool.eq_false_or_eq_true (inB y 0 65535) with hy | hy
      · obtain ⟨b, o, rfl, hcl⟩ := H2.out.2 (by omega)
        obtain ⟨k, hkn⟩ : ∃ k, n = k + 1 := ⟨n - 1, by omega⟩
        have cl : w2.cell? ⟨b, o + k, none⟩ = some (.int .i64 (pt ps (ps.length - 1))) := by
          have := hcl k (by omega)
          rw [this, H.out.1, hkn]; rfl
        have w1' : (n : Int) - 1 = (k : Int) := by omega
        have HN1 := Lib.hid hkn
        have hkn' : k < n := by omega
        clear hcl hkn
        by_cases hp : pt ps (ps.length - 1) < y
        · have HS := Lib.hid (sol_n HK.out HMO.out hy hp)
          generalize pt ps (ps.length - 1) = p at *
          go_wp2_with (go_at_call 106; refine (isLevel_any _ _).mono ?_; rintro e w' ⟨rfl, rfl⟩)
          go_ret
          exact ⟨ret_int HS.out.1.symm, T2.out⟩
        · have HS := Lib.hid (sol_y HK.out HMO.out hy hp)
          have hp' : decide (pt ps (ps.length - 1) < y) = false := decide_eq_false hp
          generalize pt ps (ps.length - 1) = p at *
          go_wp2_with (go_at_call 106; refine (isLevel_any _ _).mono ?_; rintro e w' ⟨rfl, rfl⟩)
          go_ret
          exact ⟨ret_int HS.out.1.symm, T2.out⟩
      · have HS := Lib.hid (sol_r HK.out HMO.out hy)
        go_wp2_with (go_at_call 106; refine (isLevel_any _ _).mono ?_; rintro e w' ⟨rfl, rfl⟩)
        go_ret
        exact ⟨ret_int HS.out.1.symm, T2.out⟩
    · have HS := Lib.hid (sol_m (y := y) HK.out (by rw [← HCM.out, hmo]))
      rw [hmo]
      clear hmo
      go_wp2_with fail
      go_ret
      exact ⟨ret_int HS.out.1.symm, T2.out⟩
  · have HS := Lib.hid (sol_c (y := y) hk)
    have hk' : (cf ps == 0) = false := by simpa using hk
    clear hk
    go_wp2_with fail
    go_ret
    exact ⟨ret_int HS.out.1.symm, T.out⟩
/-- what holds at every jump. -/
def AtJump (w : World) (A : Option Addr) (n c : Nat) (ps : List Int) (y : Int) (a' : Act) (w' : World) : Prop :=
  ∃ (lo hi : Nat) (u7 u8 u9 u10 u11 u12 u13 u14 u15 u16 u17 u18 u19 u20 u21 u22 u23 : Value), a' = { tmps := #[.agg #[.slice A n c], .int .i64 y, .pointer (some ⟨w.heap.size, 0, none⟩), undef, .int .i64 0, .int .i64 lo, .int .i64 hi, u7, u8, u9, u10, u11, u12, u13, u14, u15, u16, u17, u18, u19, u20, u21, u22, u23], defers := [] } ∧
    lo ≤ hi ∧ hi ≤ 65535 ∧ srch ps y lo hi = srch ps y 0 65535 ∧ w'.cell? ⟨w.heap.size, 0, none⟩ = some (.slice A n c) ∧ Below w.heap.size w w'
set_option maxRecDepth 100000 in
set_option maxHeartbeats 2000000 in
theorem leastLevel_any (A : Option Addr) (n c : Nat) (ps : List Int) (y : Int) (w : World) (h : Rd .i64 w A n ps) (hf : CFine ps) :
    Calls Try.prog 88 #[.agg #[.slice A n c], .int .i64 y] w fun e w' => e = .returned (.int .i64 (srch ps y 0 65535 : Nat)) ∧ Below w.heap.size w w' := by
  have H := Lib.hid h
  have HF := Lib.hid hf
  clear h hf
  go_enter Try.func88, Try.ntmps88
  go_wp2
  refine wp_scope_jumps 0 (AtJump w A n c ps y) (fun a' _ => (intOf (a'.tmps.getD 6 undef) - intOf (a'.tmps.getD 5 undef)).toNat) rfl ?_ ?_
  · go_wp2
    go_step3
    go_wp2_with fail
    refine (curveAt_any _ _ _ ps 32767 _ (H.out.alloc _) HF.out (by omega) (by omega)).mono ?_
    rintro e w1 ⟨rfl, hb⟩
    have X0 : w1.cell? ⟨w.heap.size, 0, none⟩ = some (.slice A n c) := by rw [(bcell hb).1 _ _ (by simp)]; simp
    have T := Lib.hid (blThen (blAlloc w _) hb)
    clear hb
    by_cases hcv : cev ps (32767 : Int) < y
    · have HU : Hid (srch ps y 32768 65535 = srch ps y 0 65535) := (srch_up (lo := 0) (hi := 65535) (by omega) hcv).symm
      have hcv' : decide (cev ps (32767 : Int) < y) = true := decide_eq_true hcv
      generalize cev ps (32767 : Int) = q at *
      go_wp2_with fail
      go_step3
      exact ⟨rfl, 32768, 65535, _, _, _, _, _, _, _, _, _, _, _, _, _, _, _, _, _, rfl, by omega, by omega, HU.out, X0, T.out⟩
    · have HU : Hid (srch ps y 0 32767 = srch ps y 0 65535) := (srch_down (lo := 0) (hi := 65535) (by omega) hcv).symm
      have hcv' : decide (cev ps (32767 : Int) < y) = false := decide_eq_false hcv
      generalize cev ps (32767 : Int) = q at *
      go_wp2_with fail
      go_step3
      exact ⟨rfl, 0, 32767, _, _, _, _, _, _, _, _, _, _, _, _, _, _, _, _, _, rfl, by omega, by omega, HU.out, X0, T.out⟩
  · rintro a' w' ⟨lo, hi, u7, u8, u9, u10, u11, u12, u13, u14, u15, u16, u17, u18, u19, u20, u21, u22, u23, rfl, hle, hh, hz, hx, hbl⟩
    have HZ := Lib.hid hz
    have HR := Lib.hid (H.out.below hbl)
    have T := Lib.hid hbl
    clear hz hbl
    by_cases hlt : lo < hi
    · have hmid : ((lo : Int) + (hi : Int)) / 2 = (((lo + hi) / 2 : Nat) : Int) := by omega
      have HMID : Hid ((lo + hi) / 2 < hi ∧ lo ≤ (lo + hi) / 2) := ⟨by omega, by omega⟩
      have hne : ((lo : Int) == (hi : Int)) = false := by simp; omega
      obtain ⟨M, hM⟩ : ∃ M : Nat, (lo + hi) / 2 = M := ⟨_, rfl⟩
      have HM1 := Lib.hid hM
      rw [hM] at hmid
      have hMh : M ≤ 65535 := by omega
      clear hM
      go_wp2_with fail
      refine (curveAt_any _ _ _ ps (M : Int) _ HR.out HF.out (by omega) (by omega)).mono ?_
      rintro e w1 ⟨rfl, hb⟩
      have X0 := cell_later hb hx
      have T1 := Lib.hid (blThen T.out hb)
      clear hb hx
      by_cases hcv : cev ps (M : Int) < y
      · have HU : Hid (srch ps y (M + 1) hi = srch ps y 0 65535) := by
          show _ = _
          have := srch_up (ps := ps) (y := y) hlt (by rw [HM1.out]; exact hcv)
          rw [HM1.out] at this
          rw [← HZ.out, this]
        have hcv' : decide (cev ps (M : Int) < y) = true := decide_eq_true hcv
        generalize cev ps (M : Int) = q at *
        go_wp2_with fail
        go_step3
        refine ⟨rfl, ⟨M + 1, hi, _, _, _, _, _, _, _, _, _, _, _, _, _, _, _, _, _, rfl, ?_, hh, HU.out, X0, T1.out⟩, ?_⟩
        · have := HMID.out; have := HM1.out; omega
        · have := HMID.out; have := HM1.out; simp [intOf]; omega
      · have HU : Hid (srch ps y lo M = srch ps y 0 65535) := by
          show _ = _
          have := srch_down (ps := ps) (y := y) hlt (by rw [HM1.out]; exact hcv)
          rw [HM1.out] at this
          rw [← HZ.out, this]
        have hcv' : decide (cev ps (M : Int) < y) = false := decide_eq_false hcv
        generalize cev ps (M : Int) = q at *
        go_wp2_with fail
        go_step3
        refine ⟨rfl, ⟨lo, M, _, _, _, _, _, _, _, _, _, _, _, _, _, _, _, _, _, rfl, ?_, hMh, HU.out, X0, T1.out⟩, ?_⟩
        · have := HMID.out; have := HM1.out; omega
        · have := HMID.out; have := HM1.out; simp [intOf]; omega
    · obtain rfl : lo = hi := by omega
      have HE : Hid (srch ps y 0 65535 = lo) := by show _ = _; rw [← HZ.out, srch_end]
      go_wp2_with fail
      simp only [Exit.jump]
      go_ret
      exact ⟨ret_int (by rw [HE.out]), T.out⟩
set_option maxHeartbeats 1000000 in
theorem SolveCurve_any (A : Option Addr) (n c : Nat) (ps : List Int) (y : Int) (w : World) (h : Rd .i64 w A n ps) (hm : n ≤ maxLen) :
    Calls Try.prog 32 #[.agg #[.slice A n c], .int .i64 y] w fun e w' => e = .returned (.agg #[.int .i64 (solC ps y), .int .i64 (solV ps y)]) ∧ Below w.heap.size w w' := by
  have H := Lib.hid h
  clear h
  go_enter Try.func32, Try.ntmps32
  go_wp2_with fail
  refine (solveFault_any _ _ _ ps y _ ((H.out.alloc _).alloc _) hm).mono ?_
  rintro e w1 ⟨rfl, hb⟩
  obtain ⟨hc, hf⟩ := bcell hb
  have hz : w.heap.size + 1 < w1.heap.size := by have := hb.size; simp at this; omega
  have T := Lib.hid (blThen (blThenAlloc (blAlloc w _) _) hb)
  have H1 := Lib.hid (((H.out.alloc _).alloc _).below hb)
  clear hb
  by_cases hk : solC ps y = 0
  · have HK := Lib.hid hk
    have HCF : Hid (cf ps = 0) := by
      show cf ps = 0
      by_cases e : cf ps = 0
      · exact e
      · rw [(sol_c e).1] at hk; exact absurd hk e
    have HV : Hid (solV ps y = (srch ps y 0 65535 : Nat)) := by show _ = _; unfold solV; rw [if_pos hk]
    rw [hk]
    clear hk
    go_wp2_with fail
    refine (leastLevel_any _ _ _ ps y _ H1.out (cfine HCF.out)).mono ?_
    rintro e w2 ⟨rfl, hb2⟩
    obtain ⟨hc2, hf2⟩ := bcell hb2
    have hz2 := hb2.size
    have T2 := Lib.hid (blThen T.out hb2)
    clear hb2
    generalize srch ps y 0 65535 = q at *
    go_wp2_with fail
    refine bodyPost_ret (v := .agg #[.int .i64 0, .int .i64 q]) (by simp [results, Try.results32, go_sem, hc, hc2, hz]) rfl ⟨by rw [HK.out, HV.out], ?_⟩
    exact (T2.out.setCell (by simp) _).setCell (by simp) _
  · have HV : Hid (solV ps y = 0) := by show _ = _; unfold solV; rw [if_neg hk]
    have hk' : (solC ps y == 0) = false := by simpa using hk
    clear hk
    go_wp2_with fail
    refine bodyPost_ret (v := .agg #[.int .i64 (solC ps y), .int .i64 0]) (by simp [results, Try.results32, go_sem, hc]) rfl ⟨by rw [HV.out], ?_⟩
    exact (T.out.setCell (by simp) _).setCell (by simp) _
end Go.Proofs.Ythmgbegbjifngaa
