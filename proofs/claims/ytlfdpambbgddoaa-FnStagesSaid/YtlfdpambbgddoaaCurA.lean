/-
  Curves by the program: isPointCount, CurveFault, curveAt, EvalCurve; by the reference model: l3Fault, CurveFault, l3True, l3Eval, EvalCurve, l3Monotone, IsMonotone.
  Curves: EvalCurve by the program; l3Fault, CurveFault, l3True, l3Eval, EvalCurve, l3Monotone, IsMonotone, SolveCurve, l3Slope, SlopeOf by the reference model.
-/
import Derived.Test.YtlfdpambbgddoaaNumA
namespace Go.Proofs.Ytlfdpambbgddoaa
open Go.RowKit
set_option linter.unusedVariables false

theorem isPointCount_any (n : Int) (w : World) : Calls Try.prog 115 #[.int .i64 n] w fun e w' => e = .returned (.bool (inB n 2 17)) ∧ w = w' := by
  by_cases h1 : n < 2
  · rw [inB_lo h1]
    go_enter Try.func115, Try.ntmps115
    go_wp2
    go_ret
    exact ⟨rfl, rfl⟩
  · rw [inB_hi' (by omega)]
    go_enter Try.func115, Try.ntmps115
    go_wp2
    go_ret
    exact ⟨rfl, rfl⟩
set_option maxHeartbeats 1000000 in
theorem CurveFault_any (A : Option Addr) (n c : Nat) (ps : List Int) (w : World) (h : Rd .i64 w A n ps) (hm : n ≤ maxLen) :
    Calls Try.prog 74 #[.agg #[.slice A n c]] w fun e w' => e = .returned (.int .i64 (cf ps)) ∧ Below w.heap.size w w' := by
  unfold maxLen at hm
  have hl := h.1
  have H := Lib.hid h
  clear h
  rcases Bool.eq_false_or_eq_true (inB (n : Int) 2 17) with hb | hb
  · have HC : Hid (cf ps = if lvl ps n = true then 0 else 3) := by show _ = _; unfold cf; rw [hl, if_neg (by rw [hb]; simp)]
    obtain ⟨b1, b2⟩ := inB_iff.1 hb
    clear hl
    go_enter Try.func74, Try.ntmps74
    go_wp2_with (go_at_call 115; refine (isPointCount_any _ _).mono ?_; rintro e w' ⟨rfl, rfl⟩)
    go_loop [13] (fun i => ∃ k : Nat, k ≤ n ∧ i = .int .i64 k ∧ Hid (lvl ps k = true)) (fun i => n - (intOf i).toNat)
    case atStart => exact ⟨0, by omega, rfl, rfl⟩
    case round =>
      obtain ⟨k, hk, rfl, hz⟩ := hrel
      by_cases hlt : k < n
      · obtain ⟨b, o, rfl, hc⟩ := H.out.2 (by omega)
        have hcl := cell_lt (hc k hlt)
        have c1 := hc k hlt
        change w.cell? ⟨b, o + k, none⟩ = some (.int .i64 (pt ps k)) at c1
        clear hc
        rcases Bool.eq_false_or_eq_true (inB (pt ps k) 0 65535) with hv | hv
        · have HZ : Hid (lvl ps (k + 1) = true) := by show _ = _; simp only [lvl]; rw [hz.out, hv]; rfl
          generalize pt ps k = x at *
          go_wp2_with (go_at_call 75; refine (isLevel_any _ _).mono ?_; rintro e w' ⟨rfl, rfl⟩)
          go_round
          case rel => exact ⟨k + 1, by omega, by go_num, HZ⟩
          case measure => simp [intOf]; omega
        · have HZ : Hid (cf ps = 3) := by
            show _ = _
            rw [HC.out, lvl_no (k := k + 1) (by simp only [lvl]; rw [hv, Bool.and_false]) (by omega)]; rfl
          generalize pt ps k = x at *
          go_wp2_with (go_at_call 75; refine (isLevel_any _ _).mono ?_; rintro e w' ⟨rfl, rfl⟩)
          go_ret
          exact ⟨ret_int HZ.out.symm, blAlloc _ _⟩
      · obtain rfl : k = n := by omega
        go_wp2
        go_ret
        exact ⟨ret_int (by rw [HC.out, hz.out]; rfl), blAlloc _ _⟩
  · have HC : Hid (cf ps = 2) := by show _ = _; unfold cf; rw [hl, if_pos hb]
    clear hl
    go_enter Try.func74, Try.ntmps74
    go_wp2_with (go_at_call 115; refine (isPointCount_any _ _).mono ?_; rintro e w' ⟨rfl, rfl⟩)
    go_ret
    exact ⟨ret_int HC.out.symm, blAlloc _ _⟩

/-- v times n - 1 in parts. -/
structure Way (T : Int) (n : Nat) (v : Int) (i : Nat) (r : Int) : Prop where
  x0 : 0 ≤ v * ((n : Int) - 1)
  x1 : v * ((n : Int) - 1) ≤ 16 * T
  q : v * ((n : Int) - 1) / T = i
  qt : (v * ((n : Int) - 1)).tdiv T = i
  m : v * ((n : Int) - 1) % T = r
  wx : wrap64 (v * ((n : Int) - 1)) = v * ((n : Int) - 1)
  wq : wrap64 (i : Int) = i
  mt : (v * ((n : Int) - 1)).tmod T = r
  r0 : 0 ≤ r
  r1 : r < T
  i1 : i < n
  i2 : r ≠ 0 → i + 1 < n
theorem way (T : Int) (hT : T = 65535 ∨ T = 16776960) (n : Nat) (v : Int) (hn : 2 ≤ n) (hn' : n ≤ 17) (h0 : 0 ≤ v) (h1 : v ≤ T) : ∃ i r, Way T n v i r := by
  have hN : (0 : Int) ≤ (n : Int) - 1 := by omega
  have x0 := Int.mul_nonneg h0 hN
  have xw := Int.mul_le_mul_of_nonneg_right h1 hN
  refine ⟨(v * ((n : Int) - 1) / T).toNat, v * ((n : Int) - 1) % T, ?_⟩
  have t1 := Int.tdiv_eq_ediv_of_nonneg x0 (b := T)
  have t2 := Int.tmod_eq_emod_of_nonneg x0 (b := T)
  rcases hT with rfl | rfl
  · have a1 : v * ((n : Int) - 1) ≤ 16 * 65535 := by omega
    have a2 : v * ((n : Int) - 1) / 65535 = ((v * ((n : Int) - 1) / 65535).toNat : Nat) := by omega
    have a3 : 0 ≤ v * ((n : Int) - 1) % 65535 := by omega
    have a4 : v * ((n : Int) - 1) % 65535 < 65535 := by omega
    have a5 : (v * ((n : Int) - 1) / 65535).toNat < n := by omega
    have a6 : v * ((n : Int) - 1) % 65535 ≠ 0 → (v * ((n : Int) - 1) / 65535).toNat + 1 < n := by omega
    exact ⟨x0, a1, a2, t1.trans a2, rfl, IntWalk.wrap64_in _ ⟨by omega, by omega⟩, IntWalk.wrap64_in _ ⟨by omega, by omega⟩, t2, a3, a4, a5, a6⟩
  · have a1 : v * ((n : Int) - 1) ≤ 16 * 16776960 := by omega
    have a2 : v * ((n : Int) - 1) / 16776960 = ((v * ((n : Int) - 1) / 16776960).toNat : Nat) := by omega
    have a3 : 0 ≤ v * ((n : Int) - 1) % 16776960 := by omega
    have a4 : v * ((n : Int) - 1) % 16776960 < 16776960 := by omega
    have a5 : (v * ((n : Int) - 1) / 16776960).toNat < n := by omega
    have a6 : v * ((n : Int) - 1) % 16776960 ≠ 0 → (v * ((n : Int) - 1) / 16776960).toNat + 1 < n := by omega
    exact ⟨x0, a1, a2, t1.trans a2, rfl, IntWalk.wrap64_in _ ⟨by omega, by omega⟩, IntWalk.wrap64_in _ ⟨by omega, by omega⟩, t2, a3, a4, a5, a6⟩
theorem ctrT_zero {T : Int} {ps : List Int} {n i : Nat} {v r : Int} (hl : ps.length = n) (h : Way T n v i r) (hr : r = 0) : ctrT T ps v = pt ps i * T := by
  unfold ctrT
  simp only
  rw [hl, h.q, h.m, if_pos hr, Int.toNat_natCast]
theorem ctrT_mix {T : Int} {ps : List Int} {n i : Nat} {v r : Int} (hl : ps.length = n) (h : Way T n v i r) (hr : r ≠ 0) : ctrT T ps v = pt ps i * (T - r) + pt ps (i + 1) * r := by
  unfold ctrT
  simp only
  rw [hl, h.q, h.m, if_neg hr, Int.toNat_natCast]
theorem ctru_zero {ps : List Int} {n i : Nat} {v r : Int} (hl : ps.length = n) (h : Way 65535 n v i r) (hr : r = 0) : ctru ps v = pt ps i * 65535 := ctrT_zero (T := 65535) hl h hr
theorem ctru_mix {ps : List Int} {n i : Nat} {v r : Int} (hl : ps.length = n) (h : Way 65535 n v i r) (hr : r ≠ 0) : ctru ps v = pt ps i * (65535 - r) + pt ps (i + 1) * r := ctrT_mix (T := 65535) hl h hr
set_option maxHeartbeats 2000000 in
theorem curveAt_1 (A : Option Addr) (n c : Nat) (ps : List Int) (v : Int) (w : World) (h : Rd .i64 w A n ps) (hf : CFine ps) (h0 : 0 ≤ v) (h1 : v ≤ 65535) :
    Calls Try.prog 76 #[.agg #[.slice A n c], .int .i64 v, .int .i64 1] w fun e w' => e = .returned (.int .i64 (cevo 1 ps v)) ∧ Below w.heap.size w w' := by
  have hl := h.1
  have hn := hf.lo
  have hn' := hf.hi
  rw [hl] at hn hn'
  obtain ⟨i, r, W⟩ := way 65535 (by omega) n v hn hn' h0 h1
  obtain ⟨b, o, rfl, hc⟩ := h.2 (by omega)
  have i1 := W.i1
  have c1 : w.cell? ⟨b, o + i, none⟩ = some (.int .i64 (pt ps i)) := hc i i1
  have hbl := cell_lt c1
  obtain ⟨l0, l1⟩ := hf.lv i
  obtain ⟨X, hX⟩ : ∃ X, v * ((n : Int) - 1) = X := ⟨_, rfl⟩
  have wx := W.wx.trans hX
  have wq := W.wq
  have qt := W.qt
  have mt := W.mt
  rw [hX] at qt mt
  by_cases hr : r = 0
  · have HE : Hid (cevo 1 ps v = pt ps i) := by
      show _ = _
      unfold cevo
      rw [show (65535 : Int) * 1 = 65535 from rfl, ctrT_zero hl W hr]
      rw [show pt ps i * 65535 * 1 = (pt ps i) * 65535 by omega, rnd_mul _ _ (by omega)]
    subst hr
    clear hc h hf W hl hX
    generalize pt ps i = p at *
    go_enter Try.func76, Try.ntmps76
    go_wp2_with fail
    go_quiet (fail)
    go_wp2_with fail
    go_ret
    exact ⟨ret_int (by rw [HE.out]; try omega), blThenDrew (blAlloc _ _) _⟩
  · have i2 := W.i2 hr
    obtain ⟨J, hJ⟩ : ∃ J, i + 1 = J := ⟨_, rfl⟩
    have c2 : w.cell? ⟨b, o + J, none⟩ = some (.int .i64 (pt ps (i + 1))) := by rw [← hJ]; exact hc (i + 1) i2
    have j1 : (J : Int) < (n : Int) := by rw [← hJ]; exact Int.ofNat_lt.2 i2
    obtain ⟨k0, k1⟩ := hf.lv (i + 1)
    have r0 := W.r0
    have r1 := W.r1
    obtain ⟨m1, m2, m3, m4, m5⟩ := mix_bdT (T := 65535) (by omega) l0 l1 k0 k1 r0 (by omega)
    have HE : Hid (cevo 1 ps v = rnd ((pt ps i * (65535 - r) + pt ps (i + 1) * r)) 65535) := by
      show _ = _
      unfold cevo
      rw [show (65535 : Int) * 1 = 65535 from rfl, ctrT_mix hl W hr, Int.mul_one]
    have hr' : (r == 0) = false := by simpa using hr
    clear hc h hf W hl hX hr
    generalize pt ps i = p at *
    generalize pt ps (i + 1) = p' at *
    have w1 : IntKind.i64.wrap (65535 - r) = 65535 - r := IntWalk.i64_in _ (by omega)
    have w2 : IntKind.i64.wrap (p * (65535 - r)) = p * (65535 - r) := IntWalk.i64_in _ (by omega)
    have w3 : IntKind.i64.wrap ((i : Int) + 1) = (J : Int) := by rw [IntWalk.i64_in _ (by omega)]; omega
    have w4 : IntKind.i64.wrap (p' * r) = p' * r := IntWalk.i64_in _ (by omega)
    have w5 : IntKind.i64.wrap (p * (65535 - r) + p' * r) = p * (65535 - r) + p' * r := IntWalk.i64_in _ (by omega)
    have w6 : IntKind.i64.wrap ((p * (65535 - r) + p' * r) * 256) = (p * (65535 - r) + p' * r) * 256 := IntWalk.i64_in _ (by omega)
    go_enter Try.func76, Try.ntmps76
    go_wp2_with fail
    go_quiet (fail)
    go_wp2_with fail
    go_quiet ((go_at_call 84; first | exact Calls.quiet_of (nearest_any _ _ _ (by omega) (by omega) (by omega) (by omega)) | exact quietAD' (nearest_any _ _ _ (by omega) (by omega) (by omega) (by omega))))
    go_wp2_with fail
    go_ret
    exact ⟨ret_int HE.out.symm, blThenDrew (blThenDrew (blAlloc _ _) _) _⟩
set_option maxHeartbeats 2000000 in
theorem curveAt_256 (A : Option Addr) (n c : Nat) (ps : List Int) (v : Int) (w : World) (h : Rd .i64 w A n ps) (hf : CFine ps) (h0 : 0 ≤ v) (h1 : v ≤ 16776960) :
    Calls Try.prog 76 #[.agg #[.slice A n c], .int .i64 v, .int .i64 256] w fun e w' => e = .returned (.int .i64 (cevo 256 ps v)) ∧ Below w.heap.size w w' := by
  have hl := h.1
  have hn := hf.lo
  have hn' := hf.hi
  rw [hl] at hn hn'
  obtain ⟨i, r, W⟩ := way 16776960 (by omega) n v hn hn' h0 h1
  obtain ⟨b, o, rfl, hc⟩ := h.2 (by omega)
  have i1 := W.i1
  have c1 : w.cell? ⟨b, o + i, none⟩ = some (.int .i64 (pt ps i)) := hc i i1
  have hbl := cell_lt c1
  obtain ⟨l0, l1⟩ := hf.lv i
  obtain ⟨X, hX⟩ : ∃ X, v * ((n : Int) - 1) = X := ⟨_, rfl⟩
  have wx := W.wx.trans hX
  have wq := W.wq
  have qt := W.qt
  have mt := W.mt
  rw [hX] at qt mt
  by_cases hr : r = 0
  · have HE : Hid (cevo 256 ps v = pt ps i * 256) := by
      show _ = _
      unfold cevo
      rw [show (65535 : Int) * 256 = 16776960 from rfl, ctrT_zero hl W hr]
      rw [show pt ps i * 16776960 * 256 = (pt ps i * 256) * 16776960 by omega, rnd_mul _ _ (by omega)]
    subst hr
    clear hc h hf W hl hX
    generalize pt ps i = p at *
    go_enter Try.func76, Try.ntmps76
    go_wp2_with fail
    go_quiet (fail)
    go_wp2_with fail
    go_ret
    exact ⟨ret_int (by rw [HE.out]; try omega), blThenDrew (blAlloc _ _) _⟩
  · have i2 := W.i2 hr
    obtain ⟨J, hJ⟩ : ∃ J, i + 1 = J := ⟨_, rfl⟩
    have c2 : w.cell? ⟨b, o + J, none⟩ = some (.int .i64 (pt ps (i + 1))) := by rw [← hJ]; exact hc (i + 1) i2
    have j1 : (J : Int) < (n : Int) := by rw [← hJ]; exact Int.ofNat_lt.2 i2
    obtain ⟨k0, k1⟩ := hf.lv (i + 1)
    have r0 := W.r0
    have r1 := W.r1
    obtain ⟨m1, m2, m3, m4, m5⟩ := mix_bdT (T := 16776960) (by omega) l0 l1 k0 k1 r0 (by omega)
    have HE : Hid (cevo 256 ps v = rnd ((pt ps i * (16776960 - r) + pt ps (i + 1) * r) * 256) 16776960) := by
      show _ = _
      unfold cevo
      rw [show (65535 : Int) * 256 = 16776960 from rfl, ctrT_mix hl W hr]
    have hr' : (r == 0) = false := by simpa using hr
    clear hc h hf W hl hX hr
    generalize pt ps i = p at *
    generalize pt ps (i + 1) = p' at *
    have w1 : IntKind.i64.wrap (16776960 - r) = 16776960 - r := IntWalk.i64_in _ (by omega)
    have w2 : IntKind.i64.wrap (p * (16776960 - r)) = p * (16776960 - r) := IntWalk.i64_in _ (by omega)
    have w3 : IntKind.i64.wrap ((i : Int) + 1) = (J : Int) := by rw [IntWalk.i64_in _ (by omega)]; omega
    have w4 : IntKind.i64.wrap (p' * r) = p' * r := IntWalk.i64_in _ (by omega)
    have w5 : IntKind.i64.wrap (p * (16776960 - r) + p' * r) = p * (16776960 - r) + p' * r := IntWalk.i64_in _ (by omega)
    have w6 : IntKind.i64.wrap ((p * (16776960 - r) + p' * r) * 256) = (p * (16776960 - r) + p' * r) * 256 := IntWalk.i64_in _ (by omega)
    go_enter Try.func76, Try.ntmps76
    go_wp2_with fail
    go_quiet (fail)
    go_wp2_with fail
    go_quiet ((go_at_call 84; first | exact Calls.quiet_of (nearest_any _ _ _ (by omega) (by omega) (by omega) (by omega)) | exact quietAD' (nearest_any _ _ _ (by omega) (by omega) (by omega) (by omega))))
    go_wp2_with fail
    go_ret
    exact ⟨ret_int HE.out.symm, blThenDrew (blThenDrew (blAlloc _ _) _) _⟩
theorem curveAt_k (o : Int) (ho : o = 1 ∨ o = 256) (A : Option Addr) (n c : Nat) (ps : List Int) (v : Int) (w : World) (h : Rd .i64 w A n ps) (hf : CFine ps) (h0 : 0 ≤ v) (h1 : v ≤ 65535 * o) :
    Calls Try.prog 76 #[.agg #[.slice A n c], .int .i64 v, .int .i64 o] w fun e w' => e = .returned (.int .i64 (cevo o ps v)) ∧ Below w.heap.size w w' := by
  rcases ho with rfl | rfl
  · exact curveAt_1 A n c ps v w h hf h0 h1
  · exact curveAt_256 A n c ps v w h hf h0 h1
theorem curveAt_any (A : Option Addr) (n c : Nat) (ps : List Int) (v : Int) (w : World) (h : Rd .i64 w A n ps) (hf : CFine ps) (h0 : 0 ≤ v) (h1 : v ≤ 65535) :
    Calls Try.prog 76 #[.agg #[.slice A n c], .int .i64 v, .int .i64 1] w fun e w' => e = .returned (.int .i64 (cev ps v)) ∧ Below w.heap.size w w' := by
  rw [← cevo_1]
  exact curveAt_1 A n c ps v w h hf h0 h1
end Go.Proofs.Ytlfdpambbgddoaa
namespace Go.Proofs.Ytlfdpambbgddoaa
open Go.RowKit
set_option linter.unusedVariables false

set_option maxHeartbeats 1000000 in
theorem EvalCurve_any (A : Option Addr) (n c : Nat) (ps : List Int) (v : Int) (w : World) (h : Rd .i64 w A n ps) (hm : n ≤ maxLen) :
    Calls Try.prog 33 #[.agg #[.slice A n c], .int .i64 v] w fun e w' => e = .returned (.agg #[.int .i64 (evC ps v), .int .i64 (evV ps v)]) ∧ Below w.heap.size w w' := by
  have H := Lib.hid h
  clear h
  go_enter Try.func33, Try.ntmps33
  go_wp2_with fail
  refine (CurveFault_any _ _ _ ps _ ((H.out.alloc _).alloc _) hm).mono ?_
  rintro e w1 ⟨rfl, hb⟩
  obtain ⟨hc, hf⟩ := bcell hb
  have hz : w.heap.size + 1 < w1.heap.size := by have := hb.size; simp at this; omega
  have T := Lib.hid (blThen (blThenAlloc (blAlloc w _) _) hb)
  have H1 := Lib.hid (((H.out.alloc _).alloc _).below hb)
  clear hb
  by_cases hk : cf ps = 0
  · have HK := Lib.hid hk
    rw [hk]
    rcases Bool.eq_false_or_eq_true (inB v 0 65535) with hv | hv
    · obtain ⟨v0, v1⟩ := inB_iff.1 hv
      have E1 : Hid (evC ps v = 0) := by show _ = _; unfold evC; rw [if_neg (by simpa using hk), if_neg (by rw [hv]; simp)]
      have E2 : Hid (evV ps v = cev ps v) := by show _ = _; unfold evV; rw [E1.out, if_pos rfl]
      clear hk
      go_wp2_with (go_at_call 75; refine (isLevel_any _ _).mono ?_; rintro e w' ⟨rfl, rfl⟩)
      refine (curveAt_any _ _ _ ps _ _ H1.out (cfine HK.out) v0 v1).mono ?_
      rintro e w2 ⟨rfl, hb2⟩
      obtain ⟨hc2, hf2⟩ := bcell hb2
      have hz2 := hb2.size
      have T2 := Lib.hid (blThen T.out hb2)
      clear hb2
      go_wp2_with fail
      refine bodyPost_ret (v := .agg #[.int .i64 0, .int .i64 (cev ps v)]) (by simp [results, Try.results33, go_sem, hc, hc2, hz]) rfl ⟨by rw [E1.out, E2.out], ?_⟩
      exact (T2.out.setCell (by simp) _).setCell (by simp) _
    · have E1 : Hid (evC ps v = 3) := by show _ = _; unfold evC; rw [if_neg (by simpa using hk), if_pos hv]
      have E2 : Hid (evV ps v = 0) := by show _ = _; unfold evV; rw [E1.out]; simp
      clear hk
      go_wp2_with (go_at_call 75; refine (isLevel_any _ _).mono ?_; rintro e w' ⟨rfl, rfl⟩)
      refine bodyPost_ret (v := .agg #[.int .i64 3, .int .i64 0]) (by simp [results, Try.results33, go_sem, hc]) rfl ⟨by rw [E1.out, E2.out], ?_⟩
      exact (T.out.setCell (by simp) _).setCell (by simp) _
  · have E1 : Hid (evC ps v = cf ps) := by show _ = _; unfold evC; rw [if_pos hk]
    have E2 : Hid (evV ps v = 0) := by show _ = _; unfold evV; rw [E1.out, if_neg hk]
    have hk' : (cf ps == 0) = false := by simpa using hk
    clear hk
    generalize cf ps = q at *
    go_wp2_with fail
    refine bodyPost_ret (v := .agg #[.int .i64 q, .int .i64 0]) (by simp [results, Try.results33, go_sem, hc]) rfl ⟨by rw [E1.out, E2.out], ?_⟩
    exact (T.out.setCell (by simp) _).setCell (by simp) _

/-! ### the reference model's -/
set_option maxHeartbeats 1000000 in
theorem sFault3_any (g o : Nat) (A : Option Addr) (n c : Nat) (ps : List Int) (w : World) (hg : w.cell? ⟨g, o, none⟩ = some (.slice A n c)) (h : Rd .i64 w A n ps) (hm : n ≤ maxLen) :
    Calls Try.prog 146 #[.pointer (some ⟨g, o, none⟩)] w fun e w' => e = .returned (.int .i64 (cf ps)) ∧ w = w' := by
  unfold maxLen at hm
  have hl := h.1
  have H := Lib.hid h
  clear h
  rcases Bool.eq_false_or_eq_true (inB (n : Int) 2 17) with hb | hb
  · have HC : Hid (cf ps = if lvl ps n = true then 0 else 3) := by show _ = _; unfold cf; rw [hl, if_neg (by rw [hb]; simp)]
    obtain ⟨b1, b2⟩ := inB_iff.1 hb
    clear hl hb
    go_enter Try.func146, Try.ntmps146
    go_wp2
    go_loop [3] (fun i => ∃ k : Nat, k ≤ n ∧ i = .int .i64 k ∧ Hid (lvl ps k = true)) (fun i => n - (intOf i).toNat)
    case atStart => exact ⟨0, by omega, rfl, rfl⟩
    case round =>
      obtain ⟨k, hk, rfl, hz⟩ := hrel
      by_cases hlt : k < n
      · obtain ⟨b, o, rfl, hc⟩ := H.out.2 (by omega)
        have c1 := hc k hlt
        change w.cell? ⟨b, o + k, none⟩ = some (.int .i64 (pt ps k)) at c1
        clear hc
        rcases Bool.eq_false_or_eq_true (inB (pt ps k) 0 65535) with hv | hv
        · have HZ : Hid (lvl ps (k + 1) = true) := by show _ = _; simp only [lvl]; rw [hz.out, hv]; rfl
          generalize pt ps k = x at *
          go_wp2_with (go_at_call 100; refine (sLevel_any _ _).mono ?_; rintro e w' ⟨rfl, rfl⟩)
          go_round
          case rel => exact ⟨k + 1, by omega, by go_num, HZ⟩
          case measure => simp [intOf]; omega
        · have HZ : Hid (cf ps = 3) := by
            show _ = _
            rw [HC.out, lvl_no (k := k + 1) (by simp only [lvl]; rw [hv, Bool.and_false]) (by omega)]; rfl
          generalize pt ps k = x at *
          go_wp2_with (go_at_call 100; refine (sLevel_any _ _).mono ?_; rintro e w' ⟨rfl, rfl⟩)
          go_ret
          exact ⟨ret_int HZ.out.symm, rfl⟩
      · obtain rfl : k = n := by omega
        go_wp2
        go_ret
        exact ⟨ret_int (by rw [HC.out, hz.out]; rfl), rfl⟩
  · have HC : Hid (cf ps = 2) := by show _ = _; unfold cf; rw [hl, if_pos hb]
    have hb' := inB_f hb
    clear hl hb
    by_cases h2 : n < 2
    · go_enter Try.func146, Try.ntmps146
      go_wp2
      go_ret
      exact ⟨ret_int HC.out.symm, rfl⟩
    · have h3 : 17 < n := by omega
      go_enter Try.func146, Try.ntmps146
      go_wp2
      go_ret
      exact ⟨ret_int HC.out.symm, rfl⟩
set_option maxHeartbeats 2000000 in
theorem sTrue_any (g o : Nat) (A : Option Addr) (n c : Nat) (ps : List Int) (v : Int) (w : World) (hg : w.cell? ⟨g, o, none⟩ = some (.slice A n c)) (h : Rd .i64 w A n ps) (hf : CFine ps) (h0 : 0 ≤ v) (h1 : v ≤ 65535) :
    Calls Try.prog 147 #[.pointer (some ⟨g, o, none⟩), .int .i64 v] w fun e w' => e = .returned (.int .i64 (ctru ps v)) ∧ ∃ m, w' = w.drewN m := by
  have hl := h.1
  have hn := hf.lo
  have hn' := hf.hi
  rw [hl] at hn hn'
  obtain ⟨i, r, W⟩ := way 65535 (by omega) n v hn hn' h0 h1
  obtain ⟨b, o', rfl, hc⟩ := h.2 (by omega)
  have i1 := W.i1
  have c1 : w.cell? ⟨b, o' + i, none⟩ = some (.int .i64 (pt ps i)) := hc i i1
  obtain ⟨l0, l1⟩ := hf.lv i
  obtain ⟨X, hX⟩ : ∃ X, v * ((n : Int) - 1) = X := ⟨_, rfl⟩
  have wx := W.wx.trans hX
  have wq := W.wq
  have qt := W.qt
  have mt := W.mt
  rw [hX] at qt mt
  by_cases hr : r = 0
  · have HE : Hid (ctru ps v = pt ps i * 65535) := ctru_zero hl W hr
    subst hr
    clear hc h hf W hl hX
    generalize pt ps i = p at *
    go_enter Try.func147, Try.ntmps147
    go_wp2_with fail
    go_ret
    exact ⟨ret_int HE.out.symm, 0, rfl⟩
  · have i2 := W.i2 hr
    obtain ⟨J, hJ⟩ : ∃ J, i + 1 = J := ⟨_, rfl⟩
    have c2 : w.cell? ⟨b, o' + J, none⟩ = some (.int .i64 (pt ps (i + 1))) := by rw [← hJ]; exact hc (i + 1) i2
    have j1 : (J : Int) < (n : Int) := by rw [← hJ]; exact Int.ofNat_lt.2 i2
    obtain ⟨k0, k1⟩ := hf.lv (i + 1)
    have r0 := W.r0
    have r1 := W.r1
    obtain ⟨m1, m2, m3, m4, m5⟩ := mix_bd l0 l1 k0 k1 r0 (by omega)
    have HE : Hid (ctru ps v = pt ps i * (65535 - r) + pt ps (i + 1) * r) := ctru_mix hl W hr
    have hr' : (r == 0) = false := by simpa using hr
    clear hc h hf W hl hX hr
    generalize pt ps i = p at *
    generalize pt ps (i + 1) = p' at *
    have w1 : IntKind.i64.wrap (65535 - r) = 65535 - r := IntWalk.i64_in _ (by omega)
    have w2 : IntKind.i64.wrap (p * (65535 - r)) = p * (65535 - r) := IntWalk.i64_in _ (by omega)
    have w3 : IntKind.i64.wrap ((i : Int) + 1) = (J : Int) := by rw [IntWalk.i64_in _ (by omega)]; omega
    have w4 : IntKind.i64.wrap (p' * r) = p' * r := IntWalk.i64_in _ (by omega)
    have w5 : IntKind.i64.wrap (p * (65535 - r) + p' * r) = p * (65535 - r) + p' * r := IntWalk.i64_in _ (by omega)
    go_enter Try.func147, Try.ntmps147
    go_wp2_with fail
    go_quiet (fail)
    go_wp2_with fail
    go_ret
    exact ⟨ret_int HE.out.symm, _, rfl⟩
set_option maxHeartbeats 400000 in
theorem sEval_any (g o : Nat) (A : Option Addr) (n c : Nat) (ps : List Int) (v : Int) (w : World) (hg : w.cell? ⟨g, o, none⟩ = some (.slice A n c)) (h : Rd .i64 w A n ps) (hf : CFine ps) (h0 : 0 ≤ v) (h1 : v ≤ 65535) :
    Calls Try.prog 113 #[.pointer (some ⟨g, o, none⟩), .int .i64 v] w fun e w' => e = .returned (.int .i64 (cev ps v)) ∧ ∃ m, w' = w.drewN m := by
  have H := Lib.hid h
  have HF := Lib.hid hf
  have HG := Lib.hid hg
  obtain ⟨t0, t1⟩ := ctru_bd hf v h0 h1
  clear h hf hg
  go_enter Try.func113, Try.ntmps113
  go_wp2_with fail
  refine (sTrue_any g o A n c ps v _ HG.out H.out HF.out h0 h1).mono ?_
  rintro e w1 ⟨rfl, m, rfl⟩
  go_wp2_with (go_at_call 83; refine (sRound_any _ _ _ (by omega) (by omega) (by omega) (by omega)).mono ?_; rintro e w' ⟨rfl, rfl⟩)
  go_ret
  exact ⟨rfl, _, rfl⟩
end Go.Proofs.Ytlfdpambbgddoaa
