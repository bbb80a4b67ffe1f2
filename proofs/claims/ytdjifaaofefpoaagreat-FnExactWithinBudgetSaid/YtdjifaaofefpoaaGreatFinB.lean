/-
  A stage at fine numbers by the reference model: l7FineCurve, l7FineMatrix, l7Fine, FineStage.
-/
import Derived.Test.YtdjifaaofefpoaaGreatFinA
namespace Go.Proofs.YtdjifaaofefpoaaGreat
open Go.RowKit Go.Maps
set_option linter.unusedVariables false
set_option linter.unusedSimpArgs false

set_option maxHeartbeats 2000000 in
theorem sFineCurve_any (g o : Nat) (A : Option Addr) (n c : Nat) (ps : List Int) (v : Int) (w : World) (hg : w.cell? ⟨g, o, none⟩ = some (.slice A n c)) (h : Rd .i64 w A n ps) (hf : CFine ps) (h0 : 0 ≤ v) (h1 : v ≤ 16776960) :
    Calls Tryz.prog 117 #[.pointer (some ⟨g, o, none⟩), .int .i64 v] w fun e w' => e = .returned (.int .i64 (cevo 256 ps v)) ∧ ∃ m, w' = w.drewN m := by
  have hl := h.1
  have hn := hf.lo
  have hn' := hf.hi
  rw [hl] at hn hn'
  obtain ⟨i, r, W⟩ := way 16776960 (by omega) n v hn hn' h0 h1
  obtain ⟨b, o', rfl, hc⟩ := h.2 (by omega)
  have i1 := W.i1
  have c1 : w.cell? ⟨b, o' + i, none⟩ = some (.int .i64 (pt ps i)) := hc i i1
  obtain ⟨l0, l1⟩ := hf.lv i
  obtain ⟨X, hX⟩ : ∃ X, v * ((n : Int) - 1) = X := ⟨_, rfl⟩
  have wx := W.wx.trans hX
  have wq := W.wq
  have qt := W.qt
  have mt := W.mt
  rw [hX] at qt mt
  by_cases hr : r = 0
  · have HE : Hid (cevo 256 ps v = pt ps i * 256) := by
      show _ = _
      unfold cevo
      rw [show (65535 : Int) * 256 = 16776960 from rfl, ctrT_zero hl W hr]
      rw [show pt ps i * 16776960 * 256 = (pt ps i * 256) * 16776960 by omega, rnd_mul _ _ (by omega)]
    subst hr
    clear hc h hf W hl hX
    generalize pt ps i = p at *
    go_enter Tryz.func117, Tryz.ntmps117
    go_wp2_with fail
    go_ret
    exact ⟨ret_int (by rw [HE.out]), 0, rfl⟩
  · have i2 := W.i2 hr
    obtain ⟨J, hJ⟩ : ∃ J, i + 1 = J := ⟨_, rfl⟩
    have c2 : w.cell? ⟨b, o' + J, none⟩ = some (.int .i64 (pt ps (i + 1))) := by rw [← hJ]; exact hc (i + 1) i2
    have j1 : (J : Int) < (n : Int) := by rw [← hJ]; exact Int.ofNat_lt.2 i2
    obtain ⟨k0, k1⟩ := hf.lv (i + 1)
    have r0 := W.r0
    have r1 := W.r1
    obtain ⟨m1, m2, m3, m4, m5⟩ := mix_bdT (T := 16776960) (by omega) l0 l1 k0 k1 r0 (by omega)
    have e1 : pt ps i * 256 * (16776960 - r) = pt ps i * (16776960 - r) * 256 := Int.mul_right_comm _ _ _
    have e2 : pt ps (i + 1) * 256 * r = pt ps (i + 1) * r * 256 := Int.mul_right_comm _ _ _
    have HE : Hid (cevo 256 ps v = rnd (pt ps i * 256 * (16776960 - r) + pt ps (i + 1) * 256 * r) 16776960) := by
      show _ = _
      unfold cevo
      rw [show (65535 : Int) * 256 = 16776960 from rfl, ctrT_mix hl W hr, e1, e2, ← Int.add_mul]
    have hr' : (r == 0) = false := by simpa using hr
    clear hc h hf W hl hX hr
    generalize pt ps i = p at *
    generalize pt ps (i + 1) = p' at *
    have u1 : IntKind.i64.wrap (p * 256) = p * 256 := IntWalk.i64_in _ (by omega)
    have u2 : IntKind.i64.wrap (p' * 256) = p' * 256 := IntWalk.i64_in _ (by omega)
    have w1 : IntKind.i64.wrap (16776960 - r) = 16776960 - r := IntWalk.i64_in _ (by omega)
    have w2 : IntKind.i64.wrap (p * 256 * (16776960 - r)) = p * 256 * (16776960 - r) := IntWalk.i64_in _ (by omega)
    have w3 : IntKind.i64.wrap ((i : Int) + 1) = (J : Int) := by rw [IntWalk.i64_in _ (by omega)]; omega
    have w4 : IntKind.i64.wrap (p' * 256 * r) = p' * 256 * r := IntWalk.i64_in _ (by omega)
    have w5 : IntKind.i64.wrap (p * 256 * (16776960 - r) + p' * 256 * r) = p * 256 * (16776960 - r) + p' * 256 * r := IntWalk.i64_in _ (by omega)
    have CR : Hid (∀ W, Calls Tryz.prog 141 #[.int .i64 (p * 256 * (16776960 - r) + p' * 256 * r), .int .i64 16776960] W fun e w' => e = .returned (.int .i64 (rnd (p * 256 * (16776960 - r) + p' * 256 * r) 16776960)) ∧ ∃ m, w' = W.drewN m) := fun W => (sRound_any _ _ W (by omega) (by omega) (by omega) (by omega)).mono fun e w' ⟨he, hw⟩ => ⟨he, 0, hw.symm⟩
    clear e1 e2
    go_enter Tryz.func117, Tryz.ntmps117
    go_wp2_with fail
    go_quiet ((go_at_call 141; first | exact Calls.quiet_of (CR.out _) | exact quietAD' (CR.out _)))
    go_wp2_with fail
    go_ret
    exact ⟨ret_int HE.out.symm, _, rfl⟩
theorem sMin_any (a b : Int) (w : World) : Calls Tryz.prog 167 #[.int .i64 a, .int .i64 b] w fun e w' => e = .returned (.int .i64 (min a b)) ∧ w = w' := by
  by_cases h : a < b
  · go_enter Tryz.func167, Tryz.ntmps167
    go_wp2
    go_ret
    exact ⟨ret_int (by omega), rfl⟩
  · go_enter Tryz.func167, Tryz.ntmps167
    go_wp2
    go_ret
    exact ⟨ret_int (by omega), rfl⟩
theorem clk_mm (x : Int) : max 0 (min 16776960 x) = clk 256 x := by
  unfold clk
  split
  · omega
  · split <;> omega
def fnT (q x : Nat → Int) (i : Nat) : List Int := (List.range i).map (apK 256 q x)
theorem fnT_step (q x : Nat → Int) (i : Nat) : fnT q x (i + 1) = fnT q x i ++ [apK 256 q x i] := by unfold fnT; rw [List.range_succ, List.map_append]; rfl
set_option maxRecDepth 100000 in
set_option maxHeartbeats 4000000 in
theorem sFineMatrix_any (g o : Nat) (A P : Option Addr) (n c d : Nat) (rs : Rws) (xs : List Int) (bs : List Nat) (w : World) (h : Hd w (rowsD rs) (.slice A n c) bs) (hg : w.cell? ⟨g, o, none⟩ = some (.slice A n c)) (hp : Rd .i64 w P 3 xs) (h0 : mf rs = 0) (h1 : lfo 256 xs = 0) :
    Calls Tryz.prog 118 #[.pointer (some ⟨g, o, none⟩), .slice P 3 d] w (SlAns w 3 [apK 256 (fl rs) (xs.getD · 0) 0, apK 256 (fl rs) (xs.getD · 0) 1, apK 256 (fl rs) (xs.getD · 0) 2]) := by
  obtain rfl : n = 3 := by rw [← h.rows.1]; exact (mf_zero h0).1
  obtain ⟨b, o', rfl, hx⟩ := hp.2 (by omega)
  have HX := Lib.hid hx
  have H := Lib.hid h
  have HQB : Hid (∀ t, t < 9 → -262144 ≤ fl rs t ∧ fl rs t ≤ 262144) := fun t ht => fl_bd h0 t ht
  have HYB : Hid (∀ t, t < 3 → 0 ≤ xs.getD t 0 ∧ xs.getD t 0 ≤ 16776960) := fun t ht => inB_iff.1 ((lfo_zero h1).2 t ht)
  have HLN := Lib.hid (fun i hi => mf_lens h0 i hi)
  have HFL : Hid (∀ i k, k < 3 → fl rs (3 * i + k) = (rw_ rs i).getD k 0) := fun i k hk => fl_at rs i k hk
  have OE := Lib.hid (OwnI.empty w w.heap.size (Nat.le_refl _))
  have HR : Hid (fnT (fl rs) (xs.getD · 0) 3 = [apK 256 (fl rs) (xs.getD · 0) 0, apK 256 (fl rs) (xs.getD · 0) 1, apK 256 (fl rs) (xs.getD · 0) 2]) := rfl
  rw [← HR.out]
  clear hx h hp h0 h1
  go_enter Tryz.func118, Tryz.ntmps118
  go_wp2_with fail
  go_loopw [5, 6] (fun v i wr => ∃ k : Nat, k ≤ 3 ∧ i = .int .i64 k ∧ OwnI wr w.heap.size v k (fnT (fl rs) (xs.getD · 0) k) ∧ Below w.heap.size w wr) (fun _ i _ => 3 - (intOf i).toNat)
  case atStart => exact ⟨0, by omega, rfl, OE.out, blAlloc _ _⟩
  case round =>
    obtain ⟨k, hk, rfl, how, hb⟩ := hrel
    obtain ⟨VA, VC, rfl⟩ := how.form
    have HO := Lib.hid how
    have HB := Lib.hid hb
    clear how hb
    by_cases hlt : k < 3
    · obtain ⟨rb, ro, B1, L1, C1, g1, rfl, y1, y3, -⟩ := (H.out.bel HB.out).row hlt
      obtain rfl : L1 = 3 := by rw [← y3.rd.1]; exact HLN.out k hlt
      obtain ⟨b1, o1, rfl, hc⟩ := y3.rd.2 (by omega)
      have q0 := hc 0 (by omega)
      have q1 := hc 1 (by omega)
      have q2 := hc 2 (by omega)
      rw [← HFL.out k 0 (by omega), Nat.add_zero] at q0
      rw [← HFL.out k 1 (by omega)] at q1
      rw [← HFL.out k 2 (by omega)] at q2
      rw [Nat.add_zero] at q0
      have x0 := cell_later HB.out (HX.out 0 (by omega))
      have x1 := cell_later HB.out (HX.out 1 (by omega))
      have x2 := cell_later HB.out (HX.out 2 (by omega))
      rw [Nat.add_zero] at x0
      have z1 := cell_later HB.out hg
      have bq0 := HQB.out (3 * k) (by omega)
      have bq1 := HQB.out (3 * k + 1) (by omega)
      have bq2 := HQB.out (3 * k + 2) (by omega)
      have bx0 := HYB.out 0 (by omega)
      have bx1 := HYB.out 1 (by omega)
      have bx2 := HYB.out 2 (by omega)
      have HST : Hid (fnT (fl rs) (xs.getD · 0) (k + 1) = fnT (fl rs) (xs.getD · 0) k ++ [clk 256 (rnd (fl rs (3 * k) * xs.getD 0 0 + fl rs (3 * k + 1) * xs.getD 1 0 + fl rs (3 * k + 2) * xs.getD 2 0) 65536)]) := fnT_step _ _ _
      generalize fl rs (3 * k) = a0 at *
      generalize fl rs (3 * k + 1) = a1 at *
      generalize fl rs (3 * k + 2) = a2 at *
      obtain ⟨X0, hX0⟩ : ∃ X, X = xs.getD 0 0 := ⟨_, rfl⟩
      obtain ⟨X1, hX1⟩ : ∃ X, X = xs.getD 1 0 := ⟨_, rfl⟩
      obtain ⟨X2, hX2⟩ : ∃ X, X = xs.getD 2 0 := ⟨_, rfl⟩
      rw [← hX0] at x0 bx0 HST
      rw [← hX1] at x1 bx1 HST
      rw [← hX2] at x2 bx2 HST
      obtain ⟨p0, p0'⟩ := ap_bdT bq0 bx0
      obtain ⟨p1, p1'⟩ := ap_bdT bq1 bx1
      obtain ⟨p2, p2'⟩ := ap_bdT bq2 bx2
      have m0 : IntKind.i64.wrap (a0 * X0) = a0 * X0 := IntWalk.i64_in _ (by omega)
      have m1 : IntKind.i64.wrap (a1 * X1) = a1 * X1 := IntWalk.i64_in _ (by omega)
      have m2 : IntKind.i64.wrap (a2 * X2) = a2 * X2 := IntWalk.i64_in _ (by omega)
      have m3 : IntKind.i64.wrap (a0 * X0 + a1 * X1) = a0 * X0 + a1 * X1 := IntWalk.i64_in _ (by omega)
      have m4 : IntKind.i64.wrap (a0 * X0 + a1 * X1 + a2 * X2) = a0 * X0 + a1 * X1 + a2 * X2 := IntWalk.i64_in _ (by omega)
      have CR : Hid (∀ W, Calls Tryz.prog 141 #[.int .i64 (a0 * X0 + a1 * X1 + a2 * X2), .int .i64 65536] W fun e w' => e = .returned (.int .i64 (rnd (a0 * X0 + a1 * X1 + a2 * X2) 65536)) ∧ W = w') := fun W => sRound_any _ _ W (by omega) (by omega) (by omega) (by omega)
      clear y3 hc hX0 hX1 hX2 p0 p1 p2 p0' p1' p2' bq0 bq1 bq2 bx0 bx1 bx2
      go_wp2_with fail
      go_quiet (fail)
      generalize hS : a0 * X0 + a1 * X1 + a2 * X2 = S at *
      generalize hR2 : rnd S 65536 = R2 at *
      have HS2 := Lib.hid hR2
      clear hS hR2 m0 m1 m2 m3 m4 q0 q1 q2 x0 x1 x2
      rename_i mm
      go_wp2_with (first | (go_at_call 141; refine (CR.out _).mono ?_; rintro e w' ⟨rfl, rfl⟩) | (go_at_call 167; refine (sMin_any _ _ _).mono ?_; rintro e w' ⟨rfl, rfl⟩) | (go_at_call 50; refine (sMax_any _ _ _).mono ?_; rintro e w' ⟨rfl, rfl⟩) | (at_builtin; refine wpList_append_i64 _ rfl _ _ rfl w.heap.size _ k (fnT (fl rs) (xs.getD · 0) k) rfl (HO.out.below (blThenAlloc (below_drewN _ _ _) _)) _ _ _ rfl (new_cell _ _ _) (by omega) (by have h1 := HB.out.size; show w.heap.size ≤ ((World.drewN wr _).alloc _).heap.size; rw [World.size_alloc]; exact Nat.le_succ_of_le h1) ?_; intro v5 w5 ho5 hg5 hgb5))
      have HN : Hid (OwnI w5 w.heap.size v5 (k + 1) (fnT (fl rs) (xs.getD · 0) (k + 1)) ∧ Below w.heap.size w w5) := ⟨by rw [HST.out, ← clk_mm]; exact ho5, (blThenAlloc (blThenDrew HB.out _) _).trans (gb_low' hg5 hgb5 (Nat.le_refl _) (by have h1 := HB.out.size; show w.heap.size ≤ ((World.drewN wr _).alloc _).heap.size; rw [World.size_alloc]; exact Nat.le_succ_of_le h1))⟩
      clear ho5 hg5 hgb5
      go_wp2_with fail
      go_roundw
      case rel => exact ⟨k + 1, by omega, by go_num, HN.out.1, HN.out.2⟩
      case measure => simp [intOf]; omega
    · obtain rfl : k = 3 := by omega
      go_wp2_with fail
      go_ret
      exact ⟨_, _, rfl, HO.out.own, HB.out⟩
set_option maxRecDepth 100000 in
set_option maxHeartbeats 4000000 in
theorem sFine7_any (g o : Nat) (t : Stg) (A1 : Option Addr) (n1 c1 : Nat) (A2 : Option Addr) (n2 c2 : Nat) (A3 : Option Addr) (n3 c3 : Nat) (P : Option Addr) (d : Nat) (xs : List Int) (w : World) (h : At5 w g o t A1 n1 c1 A2 n2 c2 A3 n3 c3) (hd : HdSt w t A1 n1 c1 A2 n2 c2 A3 n3 c3) (hp : Rd .i64 w P 3 xs) (h0 : sgf t = 0) (h1 : lfo 256 xs = 0) :
    Calls Tryz.prog 71 #[.pointer (some ⟨g, o, none⟩), .slice P 3 d] w (SlAns w 3 [evS 256 t (xs.getD · 0) 0, evS 256 t (xs.getD · 0) 1, evS 256 t (xs.getD · 0) 2]) := by
  obtain ⟨y0, y1, y2, y3, y4⟩ := h
  have hlv := (lfo_zero h1).2
  obtain ⟨-, ⟨kd, hff⟩ | ⟨kd, hff⟩ | ⟨kd, hff⟩⟩ := sgf_zero h0
  · obtain ⟨bs, hr⟩ := hd.a
    have hl := hr.rows.1
    obtain ⟨h3, hcf⟩ := crF_fine hff
    obtain rfl : n1 = 3 := by omega
    obtain ⟨pb, po, rfl, hpc⟩ := hp.2 (by omega)
    obtain ⟨b, oo, B1, L1, C1, g1, rfl, -, -, -⟩ := hr.row (show 0 < 3 by omega)
    have CC : Hid (∀ k, k < 3 → ∀ W, Below w.heap.size w W → Calls Tryz.prog 117 #[.pointer (some ⟨b, oo + k, none⟩), .int .i64 (xs.getD k 0)] W fun e w' => e = .returned (.int .i64 (evS 256 t (xs.getD · 0) k)) ∧ Below W.heap.size W w') := fun k hk W hW => by
      obtain ⟨b', oo', B, L, C, g2, e, x1, x3, -⟩ := hr.row hk
      injection e with e
      injection e with e1 e2
      subst e1 e2
      have hv := inB_iff.1 (hlv k hk)
      have q := (sFineCurve_any b (oo + k) B L C (rw_ t.cs k) (xs.getD k 0) W (cell_later hW x1) (x3.rd.below hW) (cfine (hcf k hk)) hv.1 hv.2)
      unfold evS
      rw [if_pos kd]
      exact q.mono fun e w' ⟨he, m, hm⟩ => ⟨he, by rw [hm]; exact below_drewN _ _ _⟩
    have p0 := hpc 0 (by omega)
    have p1 := hpc 1 (by omega)
    have p2 := hpc 2 (by omega)
    rw [Nat.add_zero] at p0
    rw [kd] at y0
    have C0 := Lib.hid (CC.out 0 (by omega))
    have C1 := Lib.hid (CC.out 1 (by omega))
    have C2 := Lib.hid (CC.out 2 (by omega))
    obtain ⟨E, hE⟩ : ∃ E, E = evS 256 t (xs.getD · 0) := ⟨_, rfl⟩
    obtain ⟨X0, hX0⟩ : ∃ X, X = xs.getD 0 0 := ⟨_, rfl⟩
    obtain ⟨X1, hX1⟩ : ∃ X, X = xs.getD 1 0 := ⟨_, rfl⟩
    obtain ⟨X2, hX2⟩ : ∃ X, X = xs.getD 2 0 := ⟨_, rfl⟩
    rw [← hE] at C0 C1 C2 ⊢
    rw [← hX0] at p0 C0
    rw [← hX1] at p1 C1
    rw [← hX2] at p2 C2
    rw [Nat.add_zero] at C0
    have lg := cell_lt y1
    have lp := cell_lt p0
    clear hd hr hl h3 hcf h0 hff kd hlv hp h1 hpc CC hE hX0 hX1 hX2
    go_enter Tryz.func71, Tryz.ntmps71
    go_wp2_with fail
    go_region_held3 (fun w' => w'.cell? ⟨g, o + 1, none⟩ = some (.slice (some ⟨b, oo, none⟩) 3 c1) ∧ w'.cell? ⟨pb, po, none⟩ = some (.int .i64 X0) ∧ w'.cell? ⟨pb, po + 1, none⟩ = some (.int .i64 X1) ∧ w'.cell? ⟨pb, po + 2, none⟩ = some (.int .i64 X2) ∧ Below w.heap.size w w')
      (first | (go_split_ands; exact ⟨cell_later hb (by assumption), cell_later hb (by assumption), cell_later hb (by assumption), cell_later hb (by assumption), blThen (by assumption) hb⟩) | exact ⟨y1, p0, p1, p2, (Below.refl _ _).drew⟩ | (go_split_ands; exact ⟨cell_later (blAlloc _ _) (by assumption), cell_later (blAlloc _ _) (by assumption), cell_later (blAlloc _ _) (by assumption), cell_later (blAlloc _ _) (by assumption), blThenAlloc (by assumption) _⟩))
      (first | (go_at_call 117; go_split_ands; first | ((with_reducible refine (C0.out _ (by assumption)).mono ?_); rintro e w' ⟨rfl, hb⟩; have HBL := Lib.hid (show Below w.heap.size w w' from blThen (by assumption) hb)) | ((with_reducible refine (C1.out _ (by assumption)).mono ?_); rintro e w' ⟨rfl, hb⟩; have HBL := Lib.hid (show Below w.heap.size w w' from blThen (by assumption) hb)) | ((with_reducible refine (C2.out _ (by assumption)).mono ?_); rintro e w' ⟨rfl, hb⟩; have HBL := Lib.hid (show Below w.heap.size w w' from blThen (by assumption) hb))))
    all_goals
      rename World => wz
      have BB := Bx.new wz #[.int .i64 (E 0), .int .i64 (E 1), .int .i64 (E 2)] 2 rfl
      go_wp2_with fail
      go_ret
      exact ⟨_, _, rfl, own3 (BB.c 0 rfl) (BB.c 1 rfl) (BB.c 2 rfl) HBL.out.size BB.lt BB.th, blThenAlloc HBL.out _⟩
  · obtain ⟨bs, hr⟩ := hd.b
    have CE := Lib.hid (sFineMatrix_any g (o + 2) A2 P n2 c2 d t.rs xs bs w hr y2 hp hff h1)
    have HV : Hid (∀ i, apK 256 (fl t.rs) (xs.getD · 0) i = evS 256 t (xs.getD · 0) i) := fun i => by unfold evS; rw [if_neg (by omega), if_pos kd]
    rw [HV.out 0, HV.out 1, HV.out 2] at CE
    rw [kd] at y0
    have l2 := cell_lt y2
    clear hd hr h0 hff kd hlv hp h1 HV
    go_enter Tryz.func71, Tryz.ntmps71
    go_wp2_with fail
    refine CE.out.mono ?_
    rintro e w1 ⟨B, cp, rfl, how, hb⟩
    have HO := Lib.hid how
    have HB := Lib.hid hb
    clear how hb
    go_wp2_with fail
    go_ret
    exact ⟨_, _, rfl, HO.out, HB.out⟩
  · obtain ⟨bs, hr⟩ := hd.d
    obtain ⟨s, hs⟩ : ∃ s : Nat, t.sd = s := ⟨t.sd.toNat, by have := inB_iff.1 (gf_zero hff).1; omega⟩
    have HV : Hid (∀ i, gvo 256 (s : Int) t.ns (xs.getD · 0) i = evS 256 t (xs.getD · 0) i) := fun i => by unfold evS; rw [if_neg (by omega), if_neg (by omega), hs]
    rw [hs] at y3 hff
    have CE := Lib.hid (sFineGrid_any g (o + 3) A3 P n3 c3 d s t.ns xs bs w hr y3 y4 hp hff h1)
    rw [HV.out 0, HV.out 1, HV.out 2] at CE
    rw [kd] at y0
    have l2 := cell_lt y3
    clear hd hr h0 hff kd hlv hp h1 HV hs
    go_enter Tryz.func71, Tryz.ntmps71
    go_wp2_with fail
    refine CE.out.mono ?_
    rintro e w1 ⟨B, cp, rfl, how, hb⟩
    have HO := Lib.hid how
    have HB := Lib.hid hb
    clear how hb
    go_wp2_with fail
    go_ret
    exact ⟨_, _, rfl, HO.out, HB.out⟩
end Go.Proofs.YtdjifaaofefpoaaGreat
