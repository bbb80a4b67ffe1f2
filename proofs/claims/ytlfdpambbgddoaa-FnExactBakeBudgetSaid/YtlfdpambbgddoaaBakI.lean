/-
  BakeBudget, by the reference model.
-/
import Derived.Test.YtlfdpambbgddoaaBakE
import Derived.Test.YtlfdpambbgddoaaBakH
import Derived.Deep.RegionHeld3
namespace Go.Proofs.Ytlfdpambbgddoaa
open Go.RowKit Go.Maps
set_option linter.unusedVariables false
set_option linter.unusedSimpArgs false

def IvAns (w : World) (x : Int) (e : Ending) (w' : World) : Prop := e = .returned (.int .i64 x) ∧ Below w.heap.size w w'
set_option maxRecDepth 100000 in
set_option maxHeartbeats 4000000 in
theorem sBudget9_any (g o : Nat) (A : Option Addr) (n c : Nat) (ts : List Stg) (bs : List Nat) (sd : Int) (w : World) (h : Hd w (chD ts) (.slice A n c) bs) (hg : w.cell? ⟨g, o, none⟩ = some (.slice A n c)) (h0 : bkC ts sd = 0) :
    Calls Try.prog 47 #[.pointer (some ⟨g, o, none⟩), .int .i64 sd] w (IvAns w (bbV ts sd)) := by
  obtain ⟨hcf, hs⟩ := bkC_zero h0
  have hsb := inB_iff.1 hs
  have h5 := chf_zr hcf
  have hl := h.stgs.1
  have H := Lib.hid h
  have HG := Lib.hid hg
  have HL := Lib.hid hl
  have HFN : Hid (∀ k, k < ts.length → sgf (st_ ts k) = 0) := sgL_all _ h5.2
  have HWU : Hid (∀ k, k < ts.length → 0 ≤ wayV sd ts k * slN (st_ ts k) ∧ wayV sd ts k * slN (st_ ts k) ≤ 2000000000000000000 ∧ 0 < slD (st_ ts k) ∧ slD (st_ ts k) ≤ 1000000) := fun k hk => way_up hsb (sgL_all _ h5.2) h5.1 hk
  have HWB : Hid (0 ≤ wayV sd ts ts.length ∧ wayV sd ts ts.length ≤ 17592270000000) := by
    have := wayV_bd hsb (sgL_all _ h5.2) ts.length (Nat.le_refl _)
    have := wayB_5 ts.length h5.1
    exact ⟨by omega, by omega⟩
  have HBV := Lib.hid (bbV_y h0)
  have HBG := Lib.hid (bg_bd hcf)
  have HCF := Lib.hid hcf
  have hn : n ≤ 5 := by rw [← hl]; exact h5.1
  rw [hl] at HFN HWU HWB
  have i1 : IntKind.i64.wrap (sd - 1) = sd - 1 := IntWalk.i64_in _ (by omega)
  have CU : Hid (∀ W, Calls Try.prog 87 #[.int .i64 16776960, .int .i64 (sd - 1)] W fun e w' => e = .returned (.int .i64 (upV 16776960 (sd - 1))) ∧ W = w') := fun W => sUpW_any _ _ W (by omega) (by omega)
  have HW0 : Hid (wayV sd ts 0 = upV 16776960 (sd - 1) + 128) := rfl
  have hu : 0 ≤ upV 16776960 (sd - 1) ∧ upV 16776960 (sd - 1) ≤ 16776960 := by
    have h3 : sd = 2 ∨ sd = 3 ∨ sd = 4 := by omega
    rcases h3 with rfl | rfl | rfl <;> exact ⟨by decide, by decide⟩
  obtain ⟨u, hu'⟩ : ∃ u, u = upV 16776960 (sd - 1) := ⟨_, rfl⟩
  rw [← hu'] at CU HW0 hu
  have i2 : IntKind.i64.wrap (u + 128) = u + 128 := IntWalk.i64_in _ (by omega)
  clear h hg h0 hcf hs hsb h5 hu' hl
  go_enter Try.func47, Try.ntmps47
  go_wp2_with fail
  refine (CU.out _).mono ?_
  rintro e w2 ⟨rfl, rfl⟩
  go_wp2_with fail
  go_loopw [5, 6] (fun q i wr => ∃ k : Nat, k ≤ n ∧ i = .int .i64 k ∧ q = .int .i64 (wayV sd ts k) ∧ Hid (Below w.heap.size w wr)) (fun _ i _ => n - (intOf i).toNat)
  case atStart => exact ⟨0, by omega, rfl, by rw [HW0.out], Below.refl _ _⟩
  case round =>
    obtain ⟨k, hk, rfl, rfl, HB⟩ := hrel
    have hgr := cell_later HB.out HG.out
    clear CU i1 i2 hu
    by_cases hlt : k < n
    · obtain ⟨b, o', A1, n1, c1, A2, n2, c2, A3, n3, c3, rfl, x0, x1, x2, x3, x4, xst⟩ := (H.out.bel HB.out).stg hlt
      have CE := Lib.hid (sSlope7_any b (o' + k * 5) (st_ ts k) A1 n1 c1 A2 n2 c2 A3 n3 c3 wr ⟨x0, x1, x2, x3, x4⟩ xst (HFN.out k hlt))
      unfold S7Ans at CE
      have hwu := HWU.out k hlt
      have HX : Hid (wayV sd ts (k + 1) = upV (wayV sd ts k * slN (st_ ts k)) (slD (st_ ts k))) := rfl
      obtain ⟨x, hx⟩ : ∃ x, x = wayV sd ts k := ⟨_, rfl⟩
      obtain ⟨N, hN⟩ : ∃ N, N = slN (st_ ts k) := ⟨_, rfl⟩
      obtain ⟨D, hD⟩ : ∃ D, D = slD (st_ ts k) := ⟨_, rfl⟩
      rw [← hx, ← hN, ← hD] at HX hwu
      rw [← hN, ← hD] at CE
      rw [← hx]
      have i3 : IntKind.i64.wrap (x * N) = x * N := IntWalk.i64_in _ (by omega)
      have CR : Hid (∀ W, Calls Try.prog 87 #[.int .i64 (x * N), .int .i64 D] W fun e w' => e = .returned (.int .i64 (upV (x * N) D)) ∧ W = w') := fun W => sUpW_any _ _ W (by omega) (by omega)
      clear hx hN hD hwu x0 x1 x2 x3 x4 xst
      go_wp2_with fail
      refine CE.out.mono ?_
      rintro e w3 ⟨rfl, hb⟩
      have HB3 := Lib.hid (blThen HB.out hb)
      clear hb CE
      go_wp2_with fail
      refine (CR.out _).mono ?_
      rintro e w4 ⟨rfl, rfl⟩
      go_wp2_with fail
      go_roundw
      case rel => exact ⟨k + 1, by omega, by go_num, by rw [HX.out], HB3.out⟩
      case measure => simp [intOf]; omega
    · obtain rfl : k = n := by omega
      have CB := Lib.hid (sBudget7_any g o A k c ts bs wr (H.out.bel HB.out) hgr HCF.out)
      unfold TwAns at CB
      have hbg := HBG.out
      have hwb := HWB.out
      have hbv := HBV.out
      rw [bgV_y HCF.out] at hbg hbv
      obtain ⟨x, hx⟩ : ∃ x, x = wayV sd ts k := ⟨_, rfl⟩
      obtain ⟨y, hy⟩ : ∃ y, y = budV 128 ts ts.length := ⟨_, rfl⟩
      obtain ⟨z, hz⟩ : ∃ z, z = budV 1 ts ts.length := ⟨_, rfl⟩
      have HX : Hid (bbV ts sd = x + 2 * y + 128) := by show _ = _; rw [hbv, hx, hy, HL.out]
      rw [← hx] at hwb ⊢
      rw [← hy] at CB hbg
      rw [← hz] at CB
      have i4 : IntKind.i64.wrap (2 * y) = 2 * y := IntWalk.i64_in _ (by omega)
      have i5 : IntKind.i64.wrap (x + 2 * y) = x + 2 * y := IntWalk.i64_in _ (by omega)
      have i6 : IntKind.i64.wrap (x + 2 * y + 128) = x + 2 * y + 128 := IntWalk.i64_in _ (by omega)
      clear hx hy hz hbg hwb hbv
      go_wp2_with fail
      refine CB.out.mono ?_
      rintro e w3 ⟨rfl, hb⟩
      have T3 := Lib.hid (blThen HB.out hb)
      clear hb CB
      go_wp2_with fail
      go_ret
      exact ⟨by rw [HX.out]; rfl, T3.out⟩
set_option maxRecDepth 100000 in
set_option maxHeartbeats 4000000 in
theorem sBakeBudget_any (A : Option Addr) (n c : Nat) (ts : List Stg) (bs : List Nat) (sd : Int) (w : World) (h : Hd w (chD ts) (.slice A n c) bs) :
    Calls Try.prog 13 #[.agg #[.slice A n c], .int .i64 sd] w (BbAns w ts sd) := by
  obtain ⟨W0, hW0⟩ : ∃ W0, W0 = (w.alloc (.cells #[.slice A n c] 34)).alloc (.cells #[.int .i64 0, .int .i64 0] 23) := ⟨_, rfl⟩
  have B : Hid (Bx W0 w.heap.size [.slice A n c]) := by show Bx _ _ _; rw [hW0]; exact (Bx.new _ _ _ rfl).alloc _
  have R : Hid (Bx W0 (w.heap.size + 1) [.int .i64 0, .int .i64 0]) := by show Bx _ _ _; rw [hW0]; exact Bx.new _ _ _ (by simp)
  have H : Hid (Hd W0 (chD ts) (.slice A n c) bs) := by show Hd _ _ _ _; rw [hW0]; exact (h.alloc _).alloc _
  have T0 : Hid (Below w.heap.size w W0) := by show Below _ _ _; rw [hW0]; exact blThenAlloc (blAlloc _ _) _
  have HW := Lib.hid hW0
  clear h hW0
  go_enter Try.func13, Try.ntmps13
  go_wp2_with fail
  rw [← HW.out]
  clear HW
  refine (sAsked9_any w.heap.size 0 A n c ts bs sd _ H.out (B.out.c 0 rfl)).mono ?_
  rintro e w1 ⟨rfl, mm, rfl⟩
  have R1 := Lib.hid (R.out.drewN mm)
  have T1 := Lib.hid (blThenDrew T0.out mm)
  by_cases h0 : bkC ts sd = 0
  · have H0 := Lib.hid h0
    have CB := Lib.hid (sBudget9_any w.heap.size 0 A n c ts bs sd (W0.drewN mm) (H.out.bel (below_drewN _ _ _)) ((B.out.drewN mm).c 0 rfl) h0)
    obtain ⟨x, hx⟩ : ∃ x, x = bbV ts sd := ⟨_, rfl⟩
    have HX := Lib.hid hx
    rw [← hx] at CB
    rw [h0]
    clear h0 hx
    go_wp2_with fail
    refine CB.out.mono ?_
    rintro e w2 ⟨rfl, hb⟩
    have R2 := Lib.hid (R1.out.bel hb)
    have T2 := Lib.hid (blThen T1.out hb)
    clear hb CB
    have r0 := R2.out.c 0 rfl
    have r1 := R2.out.c 1 rfl
    have z0 := R2.out.f 0
    have z1 := R2.out.f 1
    have l1 := R2.out.lt
    go_wp2_with fail
    have KK := (R2.out.set 0 (.int .i64 0)).set 1 (.int .i64 x)
    have k0 := KK.c 0 rfl
    have k1 := KK.c 1 rfl
    clear KK
    refine bodyPost_ret (v := .agg #[.int .i64 0, .int .i64 x]) (by simp [results, Try.results13, go_sem, k0, k1]) rfl ⟨by rw [H0.out, HX.out], ?_⟩
    exact (T2.out.setCell (p := ⟨w.heap.size + 1, 0, none⟩) (by simp) _).setCell (p := ⟨w.heap.size + 1, 1, none⟩) (by simp) _
  · have HBV := Lib.hid (bbV_n h0)
    obtain ⟨f, hf⟩ : ∃ f, bkC ts sd = f := ⟨_, rfl⟩
    have HFF := Lib.hid hf
    have r0 := R1.out.c 0 rfl
    have r1 := R1.out.c 1 rfl
    have z0 := R1.out.f 0
    have z1 := R1.out.f 1
    have l1 := R1.out.lt
    rw [hf] at h0 ⊢
    have hqn : (f == 0) = false := by simpa using h0
    clear hf
    go_wp2_with fail
    have KK := (R1.out.set 0 (.int .i64 f)).set 1 (.int .i64 0)
    have k0 := KK.c 0 rfl
    have k1 := KK.c 1 rfl
    clear KK
    refine bodyPost_ret (v := .agg #[.int .i64 f, .int .i64 0]) (by simp [results, Try.results13, go_sem, k0, k1]) rfl ⟨by rw [HFF.out, HBV.out], ?_⟩
    exact (T1.out.setCell (p := ⟨w.heap.size + 1, 0, none⟩) (by simp) _).setCell (p := ⟨w.heap.size + 1, 1, none⟩) (by simp) _
end Go.Proofs.Ytlfdpambbgddoaa
