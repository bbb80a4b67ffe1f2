/-
  A colour through a matrix by the reference model: l1Clamp, l4Apply, ApplyMatrix.
-/
import Derived.Test.YtlfdpambbgddoaaMatPA
import Derived.Test.YtlfdpambbgddoaaGrdRA
namespace Go.Proofs.Ytlfdpambbgddoaa
open Go.RowKit
set_option linter.unusedVariables false
set_option linter.unusedSimpArgs false

set_option maxHeartbeats 400000 in
theorem sClamp_any (v : Int) (w : World) : Calls Try.prog 120 #[.int .i64 v] w fun e w' => e = .returned (.int .i64 (clp v)) ∧ w = w' := by
  by_cases h1 : v < 0
  · have HC := Lib.hid (clp_lo h1)
    go_enter Try.func120, Try.ntmps120
    go_wp2
    all_goals go_ret
    all_goals exact ⟨ret_int (by rw [HC.out]; try omega), rfl⟩
  · by_cases h2 : 65535 < v
    · have HC := Lib.hid (clp_hi h2)
      go_enter Try.func120, Try.ntmps120
      go_wp2
      all_goals go_ret
      all_goals exact ⟨ret_int (by rw [HC.out]; try omega), rfl⟩
    · have HC := Lib.hid (clp_in (v := v) (by omega) (by omega))
      go_enter Try.func120, Try.ntmps120
      go_wp2
      all_goals go_ret
      all_goals exact ⟨ret_int (by rw [HC.out]; try omega), rfl⟩
def apP (q x : Nat → Int) (i k : Nat) : Int := (if 0 < k then q (3 * i) * x 0 else 0) + (if 1 < k then q (3 * i + 1) * x 1 else 0) + (if 2 < k then q (3 * i + 2) * x 2 else 0)
theorem apP_bd {q x : Nat → Int} {i : Nat} (hi : i < 3) (hq : ∀ t, t < 9 → -262144 ≤ q t ∧ q t ≤ 262144) (hx : ∀ t, t < 3 → 0 ≤ x t ∧ x t ≤ 65535) (k : Nat) : -300000000000 ≤ apP q x i k ∧ apP q x i k ≤ 300000000000 := by
  have b0 := ap_bd (hq (3 * i) (by omega)) (hx 0 (by omega))
  have b1 := ap_bd (hq (3 * i + 1) (by omega)) (hx 1 (by omega))
  have b2 := ap_bd (hq (3 * i + 2) (by omega)) (hx 2 (by omega))
  unfold apP
  split <;> split <;> split <;> omega
theorem apP_step {q x : Nat → Int} {i k : Nat} (hk : k < 3) : apP q x i (k + 1) = apP q x i k + q (3 * i + k) * x k := by
  unfold apP
  match k, hk with
  | 0, _ => simp
  | 1, _ => simp
  | 2, _ => simp
def apT (q x : Nat → Int) (i : Nat) : List Int := (List.range i).map (apV q x)
theorem apT_step (q x : Nat → Int) (i : Nat) : apT q x (i + 1) = apT q x i ++ [apV q x i] := by unfold apT; rw [List.range_succ, List.map_append]; rfl
set_option maxRecDepth 100000 in
set_option maxHeartbeats 4000000 in
theorem sApply4_any (g o : Nat) (A P : Option Addr) (n c m d : Nat) (rs : Rws) (xs : List Int) (bs : List Nat) (w : World) (h : Hd w (rowsD rs) (.slice A n c) bs) (hg : w.cell? ⟨g, o, none⟩ = some (.slice A n c)) (hp : Rd .i64 w P m xs) (h0 : mf rs = 0) (h1 : lf xs = 0) :
    Calls Try.prog 81 #[.pointer (some ⟨g, o, none⟩), .slice P m d] w (SlAns w 3 [apV (fl rs) (xs.getD · 0) 0, apV (fl rs) (xs.getD · 0) 1, apV (fl rs) (xs.getD · 0) 2]) := by
  obtain rfl : 3 = m := by rw [← (lf_zero h1).1]; exact hp.1
  obtain rfl : n = 3 := by rw [← h.rows.1]; exact (mf_zero h0).1
  obtain ⟨b, o', rfl, hx⟩ := hp.2 (by omega)
  have HX := Lib.hid hx
  have H := Lib.hid h
  have HG := Lib.hid hg
  have HQB : Hid (∀ t, t < 9 → -262144 ≤ fl rs t ∧ fl rs t ≤ 262144) := fun t ht => fl_bd h0 t ht
  have HYB : Hid (∀ t, t < 3 → 0 ≤ xs.getD t 0 ∧ xs.getD t 0 ≤ 65535) := fun t ht => inB_iff.1 ((lf_zero h1).2 t ht)
  have HLN := Lib.hid (fun i hi => mf_lens h0 i hi)
  clear hx h hg hp h0 h1
  go_enter Try.func81, Try.ntmps81
  go_wp2_with fail
  go_loopw [5, 6] (fun v x wr => ∃ i : Nat, i ≤ 3 ∧ x = .int .i64 i ∧ OwnI wr w.heap.size v i (apT (fl rs) (xs.getD · 0) i) ∧ Below w.heap.size w wr) (fun _ x _ => 3 - (intOf x).toNat)
  case atStart => exact ⟨0, by omega, rfl, OwnI.empty w _ (Nat.le_refl _), blAlloc _ _⟩
  case round =>
    obtain ⟨i, hi, rfl, ho, hb⟩ := hrel
    by_cases hlt : i < 3
    · obtain ⟨b2, o2, B1, L1, C1, g1, e1, y1, y3, -⟩ := (H.out.bel hb).row hlt
      have hL : L1 = 3 := by rw [← y3.rd.1]; exact HLN.out i hlt
      subst hL
      obtain ⟨b3, o3, rfl, hy⟩ := y3.rd.2 (by omega)
      have HY := Lib.hid hy
      have gg := cell_later hb HG.out
      rw [e1] at gg
      have HO := Lib.hid ho
      have HB := Lib.hid hb
      have hxx : Hid (∀ k, k < 3 → wr.cell? ⟨b, o' + k, none⟩ = some (.int .i64 (xs.getD k 0))) := fun k hk => cell_later hb (HX.out k hk)
      have hcl := y3.caps
      have hgl := cell_lt gg
      clear hy y3 ho hb e1
      go_wp2_with fail
      simp only [show decide ((i : Int) < 3) = true from decide_eq_true (by omega)]
      go_loopw [7, 8] (fun q x wq => ∃ k r : Nat, k ≤ 3 ∧ x = .int .i64 k ∧ q = .int .i64 (apP (fl rs) (xs.getD · 0) i k) ∧ wq = wr.drewN r) (fun _ x _ => 3 - (intOf x).toNat)
      case atStart => exact ⟨0, 0, by omega, rfl, by simp [apP], rfl⟩
      case round =>
        obtain ⟨k, r, hk, rfl, rfl, rfl⟩ := hrel
        by_cases hlk : k < 3
        · have HS : Hid (apP (fl rs) (xs.getD · 0) i (k + 1) = apP (fl rs) (xs.getD · 0) i k + fl rs (3 * i + k) * xs.getD k 0) := apP_step hlk
          have u1 := HY.out k hlk
          have u2 := hxx.out k hlk
          rw [← fl_at rs i k hlk] at u1
          have b1 := ap_bd (HQB.out (3 * i + k) (by omega)) (HYB.out k hlk)
          have b2 := apP_bd hlt HQB.out HYB.out k
          obtain ⟨s, hs⟩ : ∃ s, s = apP (fl rs) (xs.getD · 0) i k := ⟨_, rfl⟩
          obtain ⟨f, hf⟩ : ∃ f, f = fl rs (3 * i + k) := ⟨_, rfl⟩
          obtain ⟨x, hx⟩ : ∃ x, x = xs.getD k 0 := ⟨_, rfl⟩
          rw [← hs, ← hf, ← hx] at HS
          rw [← hf] at u1
          rw [← hx] at u2
          rw [← hf, ← hx] at b1
          rw [← hs] at b2 ⊢
          clear hs hf hx
          go_wp2_with fail
          go_quiet (fail)
          go_wp2_with fail
          go_roundw
          case rel => exact ⟨k + 1, _, by omega, by go_num, by rw [HS.out], rfl⟩
          case measure => simp [intOf]; omega
        · obtain rfl : k = 3 := by omega
          have HS : Hid (apP (fl rs) (xs.getD · 0) i 3 = apS (fl rs) (xs.getD · 0) i) := by show _ = _; unfold apP apS; simp
          have b2 := apP_bd hlt HQB.out HYB.out 3
          have HO2 := Lib.hid (HO.out.drewN r)
          have HB2 := Lib.hid (blThenDrew HB.out r)
          rw [HS.out] at b2 ⊢
          have HV : Hid (apV (fl rs) (xs.getD · 0) i = clp (rnd (apS (fl rs) (xs.getD · 0) i) 65536)) := rfl
          obtain ⟨z, hz⟩ : ∃ z, z = apS (fl rs) (xs.getD · 0) i := ⟨_, rfl⟩
          rw [← hz] at b2 HV ⊢
          clear hz HS HO HB
          obtain ⟨A3, c3, rfl⟩ := HO2.out.form
          go_wp2_with fail
          refine (sRound_any _ _ _ (by omega) (by omega) (by omega) (by omega)).mono ?_
          rintro e w1 ⟨rfl, rfl⟩
          go_wp2_with (first
            | (go_at_call 120; refine (sClamp_any _ _).mono ?_; rintro e w' ⟨rfl, rfl⟩)
            | (at_builtin; refine wpList_append_i64 _ rfl _ _ rfl w.heap.size _ i _ rfl (HO2.out.alloc _) _ _ (clp (rnd z 65536)) rfl (new_cell _ _ _) (by omega) (by have := HB2.out.size; simp at *; omega) ?_; intro v3 w3 ho3 hg3 hgb))
          have HO3 := Lib.hid ho3
          have HB3 := Lib.hid ((blThenAlloc HB2.out _).trans (gb_low' hg3 hgb (Nat.le_refl _) (by have := HB2.out.size; simp at *; omega)))
          clear ho3 hg3 hgb HO2 HB2
          go_wp2_with fail
          go_roundw
          case rel => exact ⟨i + 1, by omega, by go_num, by rw [apT_step, HV.out]; exact HO3.out, HB3.out⟩
          case measure => simp [intOf]; omega
    · obtain rfl : i = 3 := by omega
      have HO := Lib.hid ho
      have HB := Lib.hid hb
      clear ho hb
      obtain ⟨A3, c3, rfl⟩ := HO.out.form
      go_wp2_with fail
      go_ret
      exact ⟨A3, c3, rfl, by have := HO.out.own; simpa [apT, List.range_succ] using this, HB.out⟩
set_option maxRecDepth 100000 in
set_option maxHeartbeats 4000000 in
theorem sApplyMatrix_any (A P : Option Addr) (n c m d : Nat) (rs : Rws) (xs : List Int) (bs gs : List Nat) (w : World) (h : Hd w (rowsD rs) (.slice A n c) bs) (hp : Hd w (.ints .i64 xs) (.slice P m d) gs) :
    Calls Try.prog 36 #[.agg #[.slice A n c], .slice P m d] w (IAns w (apC rs xs) (apL rs xs)) := by
  obtain ⟨W0, hW0⟩ : ∃ W0, W0 = (w.alloc (.cells #[.slice A n c] 62)).alloc (.cells #[.int .i64 0, .slice none 0 0] 48) := ⟨_, rfl⟩
  have a0 : Hid (Bx W0 w.heap.size [.slice A n c]) := by show Bx _ _ _; rw [hW0]; exact (Bx.new _ _ _ rfl).alloc _
  have R : Hid (Bx W0 (w.heap.size + 1) [.int .i64 0, .slice none 0 0]) := by show Bx _ _ _; rw [hW0]; exact Bx.new _ _ _ (by simp)
  have T : Hid (Below w.heap.size w W0) := by show Below _ _ _; rw [hW0]; exact blThenAlloc (blAlloc _ _) _
  have H := Lib.hid (h.bel T.out)
  have HP := Lib.hid (hp.bel T.out)
  have HW := Lib.hid hW0
  clear h hp hW0
  have r0 := R.out.c 0 rfl
  have r1 := R.out.c 1 rfl
  have z0 := R.out.f 0
  have z1 := R.out.f 1
  have m2 := R.out.lt
  go_enter Try.func36, Try.ntmps36
  go_wp2_with fail
  rw [← HW.out]
  refine (sFault4_any _ _ _ _ _ rs _ _ H.out (a0.out.c 0 rfl)).mono ?_
  rintro e w1 ⟨rfl, rfl⟩
  by_cases h0 : mf rs = 0
  · go_wp2_with fail
    refine (sLevels4_any _ _ _ xs _ HP.out.rd HP.out.caps.1 HP.out.caps.2).mono ?_
    rintro e w1 ⟨rfl, rfl⟩
    by_cases h1 : lf xs = 0
    · have HA := Lib.hid (ap_y h0 h1)
      go_wp2_with fail
      refine (sApply4_any _ _ _ _ _ _ _ _ rs xs _ _ H.out (a0.out.c 0 rfl) HP.out.rd h0 h1).mono ?_
      rintro e w2 ⟨B, cp, rfl, ho, hb⟩
      have R2 := Lib.hid (R.out.bel hb)
      have T2 := Lib.hid (blThen T.out hb)
      have HO := Lib.hid ho
      have HB := Lib.hid hb.size
      clear ho hb r0 r1 z0 z1 m2
      have r0 := R2.out.c 0 rfl
      have r1 := R2.out.c 1 rfl
      have z0 := R2.out.f 0
      have z1 := R2.out.f 1
      have m2 := R2.out.lt
      have k0 := ((R2.out.set 0 (.int .i64 0)).set 1 (.slice B 3 cp)).c 0 rfl
      have k1 := ((R2.out.set 0 (.int .i64 0)).set 1 (.slice B 3 cp)).c 1 rfl
      go_wp2_with fail
      refine bodyPost_ret (v := .agg #[.int .i64 0, .slice B 3 cp]) (by simp [results, Try.results36, go_sem, k0, k1]) rfl ⟨_, _, _, by rw [HA.out.1], ?_, ?_⟩
      · rw [HA.out.2]
        refine Own.mono (lo := W0.heap.size) (hi := w2.heap.size) ?_ (by have := T.out.size; omega) (by simp only [setSize]; exact Nat.le_refl _)
        repeat (refine Own.set ?_ (.inl (R.out.lt)) _ _)
        exact HO.out
      · repeat (refine Below.setCell ?_ (by simp; try omega) _)
        exact T2.out
    · have HA := Lib.hid (ap_l (xs := xs) h0 h1)
      have k0 := ((R.out.set 0 (.int .i64 (lf xs))).set 1 (.slice none 0 0)).c 0 rfl
      have k1 := ((R.out.set 0 (.int .i64 (lf xs))).set 1 (.slice none 0 0)).c 1 rfl
      go_wp2_with fail
      refine bodyPost_ret (v := .agg #[.int .i64 (lf xs), .slice none 0 0]) (by simp [results, Try.results36, go_sem, k0, k1]) rfl (IAns.bad HA.out ?_)
      repeat (refine Below.setCell ?_ (by simp; try omega) _)
      exact T.out
  · have HA := Lib.hid (ap_f (xs := xs) h0)
    have k0 := ((R.out.set 0 (.int .i64 (mf rs))).set 1 (.slice none 0 0)).c 0 rfl
    have k1 := ((R.out.set 0 (.int .i64 (mf rs))).set 1 (.slice none 0 0)).c 1 rfl
    go_wp2_with fail
    refine bodyPost_ret (v := .agg #[.int .i64 (mf rs), .slice none 0 0]) (by simp [results, Try.results36, go_sem, k0, k1]) rfl (IAns.bad HA.out ?_)
    repeat (refine Below.setCell ?_ (by simp; try omega) _)
    exact T.out
end Go.Proofs.Ytlfdpambbgddoaa
