/-
  BakeBudget, by the program.
-/
import Derived.Test.YtlfdpambbgddoaaBakS
import Derived.Deep.RegionHeld3
namespace Go.Proofs.Ytlfdpambbgddoaa
open Go.RowKit Go.Maps
set_option linter.unusedVariables false
set_option linter.unusedSimpArgs false

theorem bbV_n {ts : List Stg} {sd : Int} (h : bkC ts sd ≠ 0) : bbV ts sd = 0 := by unfold bbV; rw [if_neg h]
theorem bbV_y {ts : List Stg} {sd : Int} (h : bkC ts sd = 0) : bbV ts sd = wayV sd ts ts.length + 2 * bgV 128 ts + 128 := by unfold bbV; rw [if_pos h]
def BbAns (w : World) (ts : List Stg) (sd : Int) (e : Ending) (w' : World) : Prop := e = .returned (.agg #[.int .i64 (bkC ts sd), .int .i64 (bbV ts sd)]) ∧ Below w.heap.size w w'
/-- what the way is behind one stage more. -/
theorem way_up {sd : Int} (hs : 2 ≤ sd ∧ sd ≤ 4) {ts : List Stg} (h : ∀ i, i < ts.length → sgf (st_ ts i) = 0) (h5 : ts.length ≤ 5) {k : Nat} (hk : k < ts.length) :
    0 ≤ wayV sd ts k * slN (st_ ts k) ∧ wayV sd ts k * slN (st_ ts k) ≤ 2000000000000000000 ∧ 0 < slD (st_ ts k) ∧ slD (st_ ts k) ≤ 1000000 := by
  have a := wayV_bd hs h k (by omega)
  have b := wayB_4 k (by omega)
  have c := sl_bd (h k hk)
  have m0 := Int.mul_nonneg a.1 c.1
  have m1 := Int.mul_le_mul_of_nonneg_left c.2.1 a.1
  exact ⟨m0, by omega, by omega, by omega⟩
theorem bg_bd {ts : List Stg} (h : chf ts = 0) : 0 ≤ bgV 128 ts ∧ bgV 128 ts ≤ 8947840 := by
  have h5 := chf_zr h
  rw [bgV_y h]
  exact budV_bd (q := 128) (by omega) (sgL_all _ h5.2) h5.1 ts.length (Nat.le_refl _)
theorem run_fldB (a b c : Int) (W : World) : (Instr.field 93 (.agg #[.int .i64 a, .int .i64 b, .int .i64 c]) 1).run Try.prog W = .ok (.int .i64 b) W := by kernel_rfl
set_option maxRecDepth 100000 in
set_option maxHeartbeats 4000000 in
theorem BakeBudget_any (A : Option Addr) (n c : Nat) (ts : List Stg) (bs : List Nat) (sd : Int) (w : World) (h : Hd w (chD ts) (.slice A n c) bs) :
    Calls Try.prog 15 #[.agg #[.slice A n c], .int .i64 sd] w (BbAns w ts sd) := by
  have H := Lib.hid h
  clear h
  go_enter Try.func15, Try.ntmps15
  go_wp2_with fail
  refine (bakeStages_any A n c ts bs sd _ ((H.out.alloc _).alloc _)).mono ?_
  rintro e w1 ⟨v, rfl, hok, hb⟩
  have B1 := Lib.hid (((Bx.new w #[.slice A n c] 34 rfl).alloc (.cells #[.int .i64 0, .int .i64 0] 23)).bel hb)
  have R1 := Lib.hid ((Bx.new (w.alloc (.cells #[.slice A n c] 34)) #[.int .i64 0, .int .i64 0] 23 (b := w.heap.size + 1) (by simp)).bel hb)
  have T1 := Lib.hid (blThen (blThenAlloc (blAlloc w _) _) hb)
  have r0 := R1.out.c 0 rfl
  have r1 := R1.out.c 1 rfl
  have z0 := R1.out.f 0
  have z1 := R1.out.f 1
  have l1 := R1.out.lt
  clear hb
  by_cases h0 : bkC ts sd = 0
  · obtain ⟨vs, hov, hst⟩ := hok h0
    obtain ⟨hcf, hs⟩ := bkC_zero h0
    have hsb := inB_iff.1 hs
    have h5 := chf_zr hcf
    obtain ⟨A', c', rfl, hc1, hc2, hsts⟩ := Sts.of hov hst (sgL_all _ h5.2)
    have HFN : Hid (∀ k, k < ts.length → sgf (st_ ts k) = 0) := sgL_all _ h5.2
    have HWU : Hid (∀ k, k < ts.length → 0 ≤ wayV sd ts k * slN (st_ ts k) ∧ wayV sd ts k * slN (st_ ts k) ≤ 2000000000000000000 ∧ 0 < slD (st_ ts k) ∧ slD (st_ ts k) ≤ 1000000) := fun k hk => way_up hsb (sgL_all _ h5.2) h5.1 hk
    have HWB : Hid (0 ≤ wayV sd ts ts.length ∧ wayV sd ts ts.length ≤ 17592270000000) := by
      have := wayV_bd hsb (sgL_all _ h5.2) ts.length (Nat.le_refl _)
      have := wayB_5 ts.length h5.1
      exact ⟨by omega, by omega⟩
    have HBV := Lib.hid (bbV_y h0)
    have HBG := Lib.hid (bg_bd hcf)
    have HH0 := Lib.hid h0
    have HCF := Lib.hid hcf
    have HST := Lib.hid hsts
    obtain ⟨K, hK⟩ : ∃ K, K = ts.length := ⟨_, rfl⟩
    have HK := Lib.hid hK
    rw [h0]
    rw [← hK] at hc1 HFN HWU HWB ⊢
    have hK5 : K ≤ 5 := by rw [hK]; exact h5.1
    have HC2 : Hid (c' ≤ 9223372036854775807) := by unfold maxLen at hc2; show c' ≤ _; omega
    have hc2' := HC2.out
    have i1 : IntKind.i64.wrap (sd - 1) = sd - 1 := IntWalk.i64_in _ (by omega)
    have CU : Hid (∀ W, Calls Try.prog 50 #[.int .i64 16776960, .int .i64 (sd - 1)] W fun e w' => e = .returned (.int .i64 (upV 16776960 (sd - 1))) ∧ W = w') := fun W => roundUpW_any _ _ W (by omega) (by omega)
    have HW0 : Hid (wayV sd ts 0 = upV 16776960 (sd - 1) + 128) := rfl
    have hu : 0 ≤ upV 16776960 (sd - 1) ∧ upV 16776960 (sd - 1) ≤ 16776960 := by
      have h3 : sd = 2 ∨ sd = 3 ∨ sd = 4 := by omega
      rcases h3 with rfl | rfl | rfl <;> exact ⟨by decide, by decide⟩
    obtain ⟨u, hu'⟩ : ∃ u, u = upV 16776960 (sd - 1) := ⟨_, rfl⟩
    rw [← hu'] at CU HW0 hu
    have i2 : IntKind.i64.wrap (u + 128) = u + 128 := IntWalk.i64_in _ (by omega)
    clear hok hov hst h0 hsts hcf hs hsb h5 hc2 hu' r0 r1 z0 z1 hK
    go_wp2_with fail
    refine (CU.out _).mono ?_
    rintro e w2 ⟨rfl, rfl⟩
    go_wp2_with fail
    go_loopw [7, 27] (fun q i wr => ∃ k : Nat, k ≤ K ∧ i = .int .i64 k ∧ q = .int .i64 (wayV sd ts k) ∧ Hid (Below w1.heap.size w1 wr)) (fun _ i _ => K - (intOf i).toNat)
    case atStart => exact ⟨0, by omega, rfl, by rw [HW0.out], Below.refl _ _⟩
    case round =>
      obtain ⟨k, hk, rfl, rfl, HB⟩ := hrel
      clear CU i1 i2 hu
      by_cases hlt : k < K
      · obtain ⟨b, rfl, vc⟩ := HST.out.at_ k (by rw [← HK.out]; exact hlt)
        have CS := Lib.hid (slopeOf_any (st_ ts k) (vs.getD k undef) wr ((HST.out.st k (by rw [← HK.out]; exact hlt)).bel HB.out) (HFN.out k hlt))
        have hwu := HWU.out k hlt
        replace vc := cell_later HB.out vc
        have HX : Hid (wayV sd ts (k + 1) = upV (wayV sd ts k * slN (st_ ts k)) (slD (st_ ts k))) := rfl
        obtain ⟨x, hx⟩ : ∃ x, x = wayV sd ts k := ⟨_, rfl⟩
        obtain ⟨N, hN⟩ : ∃ N, N = slN (st_ ts k) := ⟨_, rfl⟩
        obtain ⟨D, hD⟩ : ∃ D, D = slD (st_ ts k) := ⟨_, rfl⟩
        rw [← hx, ← hN, ← hD] at HX hwu
        rw [← hN, ← hD] at CS
        rw [← hx]
        have i3 : IntKind.i64.wrap (x * N) = x * N := IntWalk.i64_in _ (by omega)
        have CR : Hid (∀ W, Calls Try.prog 50 #[.int .i64 (x * N), .int .i64 D] W fun e w' => e = .returned (.int .i64 (upV (x * N) D)) ∧ W = w') := fun W => roundUpW_any _ _ W (by omega) (by omega)
        generalize vs.getD k undef = sv at *
        clear hx hN hD hwu
        go_wp2_with fail
        refine CS.out.mono ?_
        rintro e w3 ⟨rfl, hb⟩
        have HB3 := Lib.hid (blThen HB.out hb)
        clear hb CS vc
        go_wp2_with fail
        refine (CR.out _).mono ?_
        rintro e w4 ⟨rfl, rfl⟩
        go_wp2_with fail
        go_roundw
        case rel => exact ⟨k + 1, by omega, by go_num, by rw [HX.out], blThenAlloc HB3.out _⟩
        case measure => simp [intOf]; omega
      · obtain rfl : k = K := by omega
        have BB := Lib.hid (B1.out.bel HB.out)
        have b0 := BB.out.c 0 rfl
        have zb := BB.out.lt
        have CB := Lib.hid (BudgetOf_any A n c ts bs wr (H.out.bel (blThen T1.out HB.out)))
        unfold BuAns at CB
        rw [HCF.out] at CB
        have hbg := HBG.out
        have hwb := HWB.out
        obtain ⟨x, hx⟩ : ∃ x, x = wayV sd ts k := ⟨_, rfl⟩
        obtain ⟨y, hy⟩ : ∃ y, y = bgV 128 ts := ⟨_, rfl⟩
        obtain ⟨z, hz⟩ : ∃ z, z = bgV 1 ts := ⟨_, rfl⟩
        have HX : Hid (bbV ts sd = x + 2 * y + 128) := by show _ = _; rw [HBV.out, hx, hy, HK.out]
        rw [← hx] at hwb ⊢
        rw [← hy] at CB hbg
        rw [← hz] at CB
        have fl1 := fun W => run_fldB 0 y z W
        have i4 : IntKind.i64.wrap (2 * y) = 2 * y := IntWalk.i64_in _ (by omega)
        have i5 : IntKind.i64.wrap (x + 2 * y) = x + 2 * y := IntWalk.i64_in _ (by omega)
        have i6 : IntKind.i64.wrap (x + 2 * y + 128) = x + 2 * y + 128 := IntWalk.i64_in _ (by omega)
        clear hx hy hz hbg hwb
        go_wp2_with fail
        refine CB.out.mono ?_
        rintro e w3 ⟨rfl, hb⟩
        have R3 := Lib.hid ((R1.out.bel HB.out).bel hb)
        have T3 := Lib.hid (blThen (blThen T1.out HB.out) hb)
        clear hb CB b0 zb l1
        have r0 := R3.out.c 0 rfl
        have r1 := R3.out.c 1 rfl
        have z0 := R3.out.f 0
        have z1 := R3.out.f 1
        have l1 := R3.out.lt
        go_wp2_with fail
        have KK := (R3.out.set 0 (.int .i64 0)).set 1 (.int .i64 (x + 2 * y + 128))
        have k0 := KK.c 0 rfl
        have k1 := KK.c 1 rfl
        clear KK
        refine bodyPost_ret (v := .agg #[.int .i64 0, .int .i64 (x + 2 * y + 128)]) (by simp [results, Try.results15, go_sem, k0, k1]) rfl ⟨by rw [HH0.out, HX.out], ?_⟩
        exact (T3.out.setCell (p := ⟨w.heap.size + 1, 0, none⟩) (by simp) _).setCell (p := ⟨w.heap.size + 1, 1, none⟩) (by simp) _
  · have HBV := Lib.hid (bbV_n h0)
    obtain ⟨f, hf⟩ : ∃ f, bkC ts sd = f := ⟨_, rfl⟩
    have HFF := Lib.hid hf
    rw [hf] at h0 ⊢
    have hqn : (f == 0) = false := by simpa using h0
    clear hok hf H
    go_wp2_with fail
    have KK := (R1.out.set 0 (.int .i64 f)).set 1 (.int .i64 0)
    have k0 := KK.c 0 rfl
    have k1 := KK.c 1 rfl
    clear KK
    refine bodyPost_ret (v := .agg #[.int .i64 f, .int .i64 0]) (by simp [results, Try.results15, go_sem, k0, k1]) rfl ⟨by rw [HFF.out, HBV.out], ?_⟩
    exact (T1.out.setCell (p := ⟨w.heap.size + 1, 0, none⟩) (by simp) _).setCell (p := ⟨w.heap.size + 1, 1, none⟩) (by simp) _
end Go.Proofs.Ytlfdpambbgddoaa
