/-
  The slope of a stage by the reference model: l7Slope, SlopeStage.
-/
import Derived.Test.YtmmlcdbbjkligaaSlpD
namespace Go.Proofs.Ytmmlcdbbjkligaa
open Go.RowKit Go.Maps
set_option linter.unusedVariables false
set_option linter.unusedSimpArgs false

theorem slpV_eq {ps : List Int} {n : Nat} (h : cf ps = 0) (hl : ps.length = n) : slo ps (n - 1) * ((n : Int) - 1) = slpV ps := by
  unfold slpV
  rw [if_pos h, hl]
def S7Ans (w : World) (t : Stg) (e : Ending) (w' : World) : Prop := e = .returned (.tuple #[.int .i64 (slN t), .int .i64 (slD t)]) ∧ Below w.heap.size w w'
set_option maxRecDepth 100000 in
set_option maxHeartbeats 4000000 in
theorem sSlope7_any (g o : Nat) (t : Stg) (A1 : Option Addr) (n1 c1 : Nat) (A2 : Option Addr) (n2 c2 : Nat) (A3 : Option Addr) (n3 c3 : Nat) (w : World) (h : At5 w g o t A1 n1 c1 A2 n2 c2 A3 n3 c3) (hd : HdSt w t A1 n1 c1 A2 n2 c2 A3 n3 c3) (h0 : sgf t = 0) :
    Calls Try.prog 64 #[.pointer (some ⟨g, o, none⟩)] w (S7Ans w t) := by
  obtain ⟨y0, y1, y2, y3, y4⟩ := h
  have HD := Lib.hid hd
  obtain ⟨-, ⟨kd, hff⟩ | ⟨kd, hff⟩ | ⟨kd, hff⟩⟩ := sgf_zero h0
  · obtain ⟨bs, hr⟩ := hd.a
    have hl := hr.rows.1
    obtain ⟨h3, hcf⟩ := crF_fine hff
    obtain rfl : n1 = 3 := by omega
    have H := Lib.hid hr
    have HCF := Lib.hid hcf
    have HN : Hid (slN t = mxC t.cs 3 ∧ slD t = 65535) := by show _ ∧ _; unfold slN slD; rw [if_pos kd, if_neg (by omega)]; exact ⟨rfl, rfl⟩
    rw [kd] at y0
    clear hd hr hl h3 hcf h0 hff kd
    go_enter Try.func64, Try.ntmps64
    go_wp2_with fail
    go_loopw [4, 5] (fun m i wr => ∃ k q : Nat, k ≤ 3 ∧ i = .int .i64 k ∧ m = .int .i64 (mxC t.cs k) ∧ wr = w.drewN q) (fun _ i _ => 3 - (intOf i).toNat)
    case atStart => exact ⟨0, 0, by omega, rfl, rfl, rfl⟩
    case round =>
      obtain ⟨k, q, hk, rfl, rfl, rfl⟩ := hrel
      by_cases hlt : k < 3
      · obtain ⟨b, oo, B1, L1, C1, g1, rfl, x1, x3, -⟩ := H.out.row hlt
        have CC : Hid (∀ W, Below w.heap.size w W → Calls Try.prog 113 #[.pointer (some ⟨b, oo + k, none⟩)] W fun e w' => e = .returned (.int .i64 (slpV (rw_ t.cs k))) ∧ ∃ m, w' = W.drewN m) := fun W hW => by
          have := sSlope_any b (oo + k) B1 L1 C1 (rw_ t.cs k) W (cell_later hW x1) (x3.rd.below hW) (cfine (HCF.out k hlt))
          rw [slpV_eq (HCF.out k hlt) x3.rd.1] at this
          exact this
        have HMX : Hid (mxC t.cs (k + 1) = max (mxC t.cs k) (slpV (rw_ t.cs k))) := rfl
        clear x3 x1
        go_wp2_with fail
        refine (CC.out _ (below_drewN _ _ _)).mono ?_
        rintro e w2 ⟨rfl, m2, rfl⟩
        go_wp2_with (go_at_call 112; refine (sMax_any _ _ _).mono ?_; rintro e w' ⟨rfl, rfl⟩)
        go_roundw
        case rel => exact ⟨k + 1, _, by omega, by go_num, by rw [HMX.out], by first | rfl | simp only [World.drewN_drewN]⟩
        case measure => simp [intOf]; omega
      · obtain rfl : k = 3 := by omega
        obtain ⟨m, hm⟩ : ∃ m, m = mxC t.cs 3 := ⟨_, rfl⟩
        rw [← hm] at HN ⊢
        clear hm
        go_wp2_with fail
        go_ret2
        exact ⟨by rw [HN.out.1, HN.out.2]; rfl, below_drewN _ _ _⟩
  · obtain ⟨bs, hr⟩ := hd.b
    have H := Lib.hid hr
    have HF := Lib.hid hff
    have HN : Hid (slN t = mxR t.rs 3 ∧ slD t = 65536) := by show _ ∧ _; unfold slN slD; rw [if_neg (by omega), if_pos kd, if_pos kd]; exact ⟨rfl, rfl⟩
    rw [kd] at y0
    have lg := cell_lt y2
    clear hd hr h0 hff kd
    go_enter Try.func64, Try.ntmps64
    go_wp2_with fail
    go_loopw [4, 6] (fun m i wr => ∃ k : Nat, k ≤ 3 ∧ i = .int .i64 k ∧ m = .int .i64 (mxR t.rs k) ∧ Hid (Below w.heap.size w wr)) (fun _ i _ => 3 - (intOf i).toNat)
    case atStart => exact ⟨0, by omega, rfl, rfl, Below.refl _ _⟩
    case round =>
      obtain ⟨k, hk, rfl, rfl, HB⟩ := hrel
      by_cases hlt : k < 3
      · have CC : Hid (∀ W, Below w.heap.size w W → Calls Try.prog 114 #[.agg #[.slice A2 n2 c2], .int .i64 (k : Int)] W fun e w' => e = .returned (.agg #[.int .i64 0, .int .i64 (rowV t.rs (k : Int))]) ∧ Below W.heap.size W w') := fun W hW => by
          have := sSumOfRow_any A2 n2 c2 t.rs _ (k : Int) W (H.out.bel hW)
          rw [(row_in HF.out (row := (k : Int)) (by omega)).1] at this
          exact this
        have HMX : Hid (mxR t.rs (k + 1) = max (mxR t.rs k) (rowV t.rs (k : Int))) := rfl
        have z2 := cell_later HB.out y2
        have zl := cell_lt z2
        obtain ⟨y, hy⟩ : ∃ y, y = rowV t.rs (k : Int) := ⟨_, rfl⟩
        rw [← hy] at CC HMX
        have hfl := fun W => fld1 0 y W
        clear hy
        go_wp2_with fail
        refine (CC.out _ HB.out).mono ?_
        rintro e w2 ⟨rfl, hb⟩
        have HB2 := Lib.hid (blThen HB.out hb)
        clear hb
        go_wp2_with (go_at_call 112; refine (sMax_any _ _ _).mono ?_; rintro e w' ⟨rfl, rfl⟩)
        go_roundw
        case rel => exact ⟨k + 1, by omega, by go_num, by rw [HMX.out], HB2⟩
        case measure => simp [intOf]; omega
      · obtain rfl : k = 3 := by omega
        obtain ⟨m, hm⟩ : ∃ m, m = mxR t.rs 3 := ⟨_, rfl⟩
        rw [← hm] at HN ⊢
        clear hm
        go_wp2_with fail
        go_ret2
        exact ⟨by rw [HN.out.1, HN.out.2]; rfl, HB.out⟩
  · obtain ⟨bs, hr⟩ := hd.d
    obtain ⟨s, hs⟩ : ∃ s : Nat, t.sd = s := ⟨t.sd.toNat, by have := inB_iff.1 (gf_zero hff).1; omega⟩
    have HN : Hid (slN t = 3 * spV (s : Int) t.ns * ((s : Int) - 1) ∧ slD t = 65535) := by show _ ∧ _; unfold slN slD; rw [if_neg (by omega), if_neg (by omega), if_neg (by omega), hs]; exact ⟨rfl, rfl⟩
    rw [hs] at y3 hff
    have hsd := side_cases (gf_zero hff).1
    have hsp := spV_bd hff
    have CC : Hid (∀ W, Below w.heap.size w W → Calls Try.prog 115 #[.pointer (some ⟨g, o + 3, none⟩)] W fun e w' => e = .returned (.int .i64 (spV (s : Int) t.ns)) ∧ Below W.heap.size W w') := fun W hW => by
      rw [sp_y hff]
      exact sSpan5_any g (o + 3) A3 n3 c3 s t.ns _ W (hr.bel hW) (cell_later hW y3) (cell_later hW y4) hff
    obtain ⟨y, hy⟩ : ∃ y, y = spV (s : Int) t.ns := ⟨_, rfl⟩
    rw [← hy] at hsp CC HN
    obtain ⟨D, hD⟩ : ∃ D, D = (s : Int) - 1 := ⟨_, rfl⟩
    have wd : IntKind.i64.wrap ((s : Int) - 1) = D := by rw [hD]; exact IntWalk.i64_in _ (by omega)
    have hpb : 0 ≤ 3 * y * D ∧ 3 * y * D ≤ 589815 := by
      have hd3 : D = 1 ∨ D = 2 ∨ D = 3 := by omega
      rcases hd3 with e | e | e <;> rw [e] <;> omega
    have wp : IntKind.i64.wrap (3 * y * D) = 3 * y * D := IntWalk.i64_in _ (by omega)
    have w3 : IntKind.i64.wrap (3 * y) = 3 * y := IntWalk.i64_in _ (by omega)
    rw [← hD] at HN
    rw [kd] at y0
    have lg := cell_lt y3
    clear hd hr h0 hff kd hy hD hsd hs HD y1 y2
    go_enter Try.func64, Try.ntmps64
    go_wp2_with fail
    go_region_with (go_at_call 115; refine (CC.out _ (by first | exact (Below.refl _ _).drew | exact Below.refl _ _)).mono ?_; rintro e w2 ⟨rfl, hb⟩; have k3 := cell_later (blThen (Below.refl w.heap.size w).drew hb) y3)
    all_goals
      have HB := Lib.hid (blThen (Below.refl w.heap.size w).drew hb)
      clear hb k3
      (try simp only [w3, wp])
      go_wp2_with fail
      go_ret2
      exact ⟨by rw [HN.out.1, HN.out.2]; rfl, HB.out⟩
set_option maxRecDepth 100000 in
set_option maxHeartbeats 2000000 in
theorem sSlopeStage_any (t : Stg) (A1 : Option Addr) (n1 c1 : Nat) (A2 : Option Addr) (n2 c2 : Nat) (A3 : Option Addr) (n3 c3 : Nat) (w : World) (h : HdSt w t A1 n1 c1 A2 n2 c2 A3 n3 c3) :
    Calls Try.prog 21 #[.agg #[.int .i64 t.kd, .slice A1 n1 c1, .slice A2 n2 c2, .int .i64 t.sd, .slice A3 n3 c3]] w (SlAns7 w t) := by
  have B := Lib.hid ((Bx.new w #[.int .i64 t.kd, .slice A1 n1 c1, .slice A2 n2 c2, .int .i64 t.sd, .slice A3 n3 c3] 39 rfl).alloc (.cells #[.int .i64 0, .int .i64 0, .int .i64 0] 50))
  have R := Lib.hid (Bx.new (w.alloc (.cells #[.int .i64 t.kd, .slice A1 n1 c1, .slice A2 n2 c2, .int .i64 t.sd, .slice A3 n3 c3] 39)) #[.int .i64 0, .int .i64 0, .int .i64 0] 50 (b := w.heap.size + 1) (by simp))
  have H := Lib.hid ((h.alloc (.cells #[.int .i64 t.kd, .slice A1 n1 c1, .slice A2 n2 c2, .int .i64 t.sd, .slice A3 n3 c3] 39)).alloc (.cells #[.int .i64 0, .int .i64 0, .int .i64 0] 50))
  clear h
  go_enter Try.func21, Try.ntmps21
  go_wp2_with fail
  refine (sStage6_any w.heap.size 0 t _ _ _ _ _ _ _ _ _ _ ⟨B.out.c 0 rfl, B.out.c 1 rfl, B.out.c 2 rfl, B.out.c 3 rfl, B.out.c 4 rfl⟩ H.out).mono ?_
  rintro e w1 ⟨rfl, m, rfl⟩
  have B1 := Lib.hid (B.out.drewN m)
  have R1 := Lib.hid (R.out.drewN m)
  have H1 := Lib.hid (H.out.bel (below_drewN _ m _))
  have T1 := Lib.hid (blThenDrew (blThenAlloc (blAlloc w (.cells #[.int .i64 t.kd, .slice A1 n1 c1, .slice A2 n2 c2, .int .i64 t.sd, .slice A3 n3 c3] 39)) (.cells #[.int .i64 0, .int .i64 0, .int .i64 0] 50)) m)
  obtain ⟨W1, hW1⟩ : ∃ W, W = ((w.alloc (.cells #[.int .i64 t.kd, .slice A1 n1 c1, .slice A2 n2 c2, .int .i64 t.sd, .slice A3 n3 c3] 39)).alloc (.cells #[.int .i64 0, .int .i64 0, .int .i64 0] 50)).drewN m := ⟨_, rfl⟩
  rw [← hW1] at B1 R1 H1 T1 ⊢
  clear hW1 B R H
  have r0 := R1.out.c 0 rfl
  have r1 := R1.out.c 1 rfl
  have r2 := R1.out.c 2 rfl
  have z0 := R1.out.f 0
  have z1 := R1.out.f 1
  have z2 := R1.out.f 2
  have l1 := R1.out.lt
  by_cases h0 : sgf t = 0
  · have HE : Hid (sgf t = 0 ∧ slA t = slN t ∧ slB t = slD t) := by show _ ∧ _; unfold slA slB; rw [if_pos h0, if_pos h0]; exact ⟨h0, rfl, rfl⟩
    have CS := Lib.hid (sSlope7_any w.heap.size 0 t _ _ _ _ _ _ _ _ _ W1 ⟨B1.out.c 0 rfl, B1.out.c 1 rfl, B1.out.c 2 rfl, B1.out.c 3 rfl, B1.out.c 4 rfl⟩ H1.out h0)
    rw [h0]
    clear h0
    go_wp2_with fail
    refine CS.out.mono ?_
    rintro e w2 ⟨rfl, hb⟩
    have R2 := Lib.hid (R1.out.bel hb)
    have T2 := Lib.hid (blThen T1.out hb)
    obtain ⟨x, hx⟩ : ∃ x, x = slN t := ⟨_, rfl⟩
    obtain ⟨y, hy⟩ : ∃ y, y = slD t := ⟨_, rfl⟩
    rw [← hx, ← hy] at HE ⊢
    clear hb R1 T1 r0 r1 r2 z0 z1 z2 l1 CS hx hy
    have r0 := R2.out.c 0 rfl
    have r1 := R2.out.c 1 rfl
    have r2 := R2.out.c 2 rfl
    have z0 := R2.out.f 0
    have z1 := R2.out.f 1
    have z2 := R2.out.f 2
    have l1 := R2.out.lt
    go_wp2_with fail
    have KK := ((R2.out.set 0 (.int .i64 0)).set 1 (.int .i64 x)).set 2 (.int .i64 y)
    have k0 := KK.c 0 rfl
    have k1 := KK.c 1 rfl
    have k2 := KK.c 2 rfl
    clear KK
    refine bodyPost_ret (v := .agg #[.int .i64 0, .int .i64 x, .int .i64 y]) (by simp [results, Try.results21, go_sem, k0, k1, k2]) rfl ⟨by rw [HE.out.1, HE.out.2.1, HE.out.2.2], ?_⟩
    exact bel_set3 T2.out (by omega) _ _ _
  · have HE : Hid (slA t = 0 ∧ slB t = 0) := by show _ ∧ _; unfold slA slB; rw [if_neg h0, if_neg h0]; exact ⟨rfl, rfl⟩
    obtain ⟨f, hf⟩ : ∃ f, sgf t = f := ⟨_, rfl⟩
    have HF := Lib.hid hf
    rw [hf] at h0 ⊢
    have hqn : (f == 0) = false := by simpa using h0
    clear hf
    go_wp2_with fail
    have KK := ((R1.out.set 0 (.int .i64 f)).set 1 (.int .i64 0)).set 2 (.int .i64 0)
    have k0 := KK.c 0 rfl
    have k1 := KK.c 1 rfl
    have k2 := KK.c 2 rfl
    clear KK
    refine bodyPost_ret (v := .agg #[.int .i64 f, .int .i64 0, .int .i64 0]) (by simp [results, Try.results21, go_sem, k0, k1, k2]) rfl ⟨by rw [HF.out, HE.out.1, HE.out.2], ?_⟩
    exact bel_set3 T1.out (by omega) _ _ _
end Go.Proofs.Ytmmlcdbbjkligaa
