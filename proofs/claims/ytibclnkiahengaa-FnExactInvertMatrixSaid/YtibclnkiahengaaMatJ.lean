/-
  The inverse of a matrix by the reference model: InvertMatrix.
-/
import Derived.Test.YtibclnkiahengaaMatI
import Derived.Test.YtibclnkiahengaaMatY
namespace Go.Proofs.Ytibclnkiahengaa
open Go.RowKit
set_option linter.unusedVariables false
set_option linter.unusedSimpArgs false

set_option maxRecDepth 100000 in
set_option maxHeartbeats 16000000 in
theorem sInv_neg (A : Option Addr) (n c : Nat) (rs : Rws) (bs : List Nat) (w : World) (h : Hd w (rowsD rs) (.slice A n c) bs) (h0 : mf rs = 0) (hz : smD (fl rs) ≠ 0) (hn : smD (fl rs) < 0) :
    Calls Try.prog 34 #[.agg #[.slice A n c]] w (MAns w (ivC rs) (ivR rs)) := by
  obtain ⟨W0, hW0⟩ : ∃ W0, W0 = (w.alloc (.cells #[.slice A n c] 24)).alloc (.cells #[.int .i64 0, .slice none 0 0] 26) := ⟨_, rfl⟩
  have a0 : Hid (Bx W0 w.heap.size [.slice A n c]) := by show Bx _ _ _; rw [hW0]; exact (Bx.new _ _ _ rfl).alloc _
  have R : Hid (Bx W0 (w.heap.size + 1) [.int .i64 0, .slice none 0 0]) := by show Bx _ _ _; rw [hW0]; exact Bx.new _ _ _ (by simp)
  have T : Hid (Below w.heap.size w W0) := by show Below _ _ _; rw [hW0]; exact blThenAlloc (blAlloc _ _) _
  have H := Lib.hid (h.bel T.out)
  have HW := Lib.hid hW0
  have HA := Lib.hid (iv_y h0 hz)
  have HQB : Hid (Q9 (fl rs)) := fl_Q9 h0
  have hsb := smD_bd HQB.out
  have HDB := Lib.hid (det_bd HQB.out)
  have HSM : Hid (smD (fl rs) = rnd (det (fl rs)) 65536) := rfl
  clear h hW0
  go_enter Try.func34, Try.ntmps34
  go_wp2_with fail
  rw [← HW.out]
  refine (sFault4_any _ _ _ _ _ rs _ _ H.out (a0.out.c 0 rfl)).mono ?_
  rintro e w1 ⟨rfl, rfl⟩
  rw [h0]
  go_wp2_with fail
  refine (sDet4_any _ _ _ _ _ rs _ _ H.out h0 (a0.out.c 0 rfl)).mono ?_
  rintro e w1 ⟨rfl, m, rfl⟩
  go_wp2_with fail
  refine (sRound_any (det (fl rs)) 65536 _ (by omega) (by omega) (by have := HDB.out; omega) (by have := HDB.out; omega)).mono ?_
  rintro e w1 ⟨rfl, rfl⟩
  rw [← HSM.out]
  obtain ⟨V, hV⟩ : ∃ V, V = W0.drewN m := ⟨_, rfl⟩
  have RV : Hid (Bx V (w.heap.size + 1) [.int .i64 0, .slice none 0 0]) := by show Bx _ _ _; rw [hV]; exact R.out.drewN m
  have AV : Hid (Bx V w.heap.size [.slice A n c]) := by show Bx _ _ _; rw [hV]; exact a0.out.drewN m
  have TV : Hid (Below w.heap.size w V) := by show Below _ _ _; rw [hV]; exact blThenDrew T.out m
  have HV : Hid (Hd V (rowsD rs) (.slice A n c) bs) := by show Hd _ _ _ _; rw [hV]; exact H.out.drewN m
  have CV : Hid (V.cell? ⟨w.heap.size, 0, none⟩ = some (.slice A n c)) := AV.out.c 0 rfl
  have HRV := Lib.hid RV.out.lt
  obtain ⟨sm, hsm⟩ : ∃ sm, sm = smD (fl rs) := ⟨_, rfl⟩
  rw [← hsm] at hz hn hsb ⊢
  rw [← hV]
  have hneg := hn
  have HSE := Lib.hid hsm
  have hze : (sm == 0) = false := by simpa using hz
  obtain ⟨W1, hW1⟩ : ∃ W1, W1 = V.alloc (.cells #[.slice none 0 0] 24) := ⟨_, rfl⟩
  have R0 : Hid (RS V W1 W1.heap.size V.heap.size (.slice none 0 0) 0 (fun _ => 0) (fun _ => 0) (fun _ => []) (w.heap.size + 1) [.int .i64 0, .slice none 0 0] (V.heap.size + 1)) := by
    show RS _ _ _ _ _ _ _ _ _ _ _ _
    rw [hW1]
    exact RS.begin V _ RV.out
  have HW1 := Lib.hid hW1
  clear hsm hV hW1 HSM HDB R T a0 H HW hn
  go_wp2_with fail
  rw [← HW1.out]
  refine wp_loop_rounds 4 ?_
  -- row 0
  rw [rounds_succ]
  go_wp2_with fail
  obtain ⟨E0, hC0⟩ : ∃ C, C = W1.alloc (.cells #[] 2) := ⟨_, rfl⟩
  rw [← hC0]
  have O : Hid (OwnI E0 (W1.heap.size) (.slice (some ⟨W1.heap.size, 0, none⟩) 0 0) 0 []) := by show OwnI _ _ _ _ _; rw [hC0]; exact OwnI.empty _ _ (Nat.le_refl _)
  have T : Hid (Below (W1.heap.size) W1 E0) := by show Below _ _ _; rw [hC0]; exact blAlloc _ _
  clear hC0
  refine wp_loop_rounds 4 ?_
  -- place 0 0
  rw [rounds_succ]
  have TW : Hid (Below V.heap.size V E0) := R0.out.b.trans (T.out.mono (Nat.le_trans R0.out.wl (Nat.le_of_lt R0.out.ol)))
  go_wp2_with fail
  refine (sMinor_00 _ _ _ _ _ rs _ _ (HV.out.bel TW.out) h0 (cell_later TW.out CV.out)).mono ?_
  rintro e w' ⟨rfl, r, rfl⟩
  have mb := mnr_b2 HQB.out 0 0
  obtain ⟨mi, hmi⟩ : ∃ mi, mi = mnr (fl rs) 0 0 := ⟨_, rfl⟩
  rw [← hmi] at mb ⊢
  have HF : Hid (invQ (fl rs) 0 = rnd (-mi * 65536) (-sm)) := by
    show _ = _
    have e : invQ (fl rs) 0 = nsg (mnr (fl rs) 0 0 * 65536) (smD (fl rs)) := rfl
    rw [e, ← HSE.out, ← hmi]
    unfold nsg
    rw [if_pos hneg, Int.neg_mul]
  clear hmi
  have O2 := Lib.hid (O.out.drewN r)
  have T2 := Lib.hid (T.out.trans (below_drewN _ r _))
  clear O T TW
  go_wp2_with (first | (go_at_call 91; refine (sRound_any _ _ _ (by omega) (by omega) (by omega) (by omega)).mono ?_; rintro e w' ⟨rfl, rfl⟩) | (at_builtin; refine wpList_append_i64 _ rfl _ _ rfl (W1.heap.size) _ 0 _ rfl (O2.out.alloc _) _ _ (rnd (-mi * 65536) (-sm)) rfl (new_cell _ _ _) (by omega) (by have := T2.out.size; simp at *; omega) ?_; intro v3 D0 ho3 hg3 hgb))
  have O : Hid (OwnI D0 (W1.heap.size) v3 1 [invQ (fl rs) 0]) := by show OwnI _ _ _ _ _; rw [HF.out]; exact ho3
  have T : Hid (Below (W1.heap.size) W1 D0) := (blThenAlloc T2.out _).trans (gb_low' hg3 hgb (Nat.le_refl _) (by have := T2.out.size; simp at *; omega))
  clear ho3 hg3 hgb O2 T2 HF mb
  obtain ⟨A0, c0, rfl⟩ := O.out.form
  go_wp2_with fail
  -- place 0 1
  rw [rounds_succ]
  have TW : Hid (Below V.heap.size V D0) := R0.out.b.trans (T.out.mono (Nat.le_trans R0.out.wl (Nat.le_of_lt R0.out.ol)))
  go_wp2_with fail
  refine (sMinor_10 _ _ _ _ _ rs _ _ (HV.out.bel TW.out) h0 (cell_later TW.out CV.out)).mono ?_
  rintro e w' ⟨rfl, r, rfl⟩
  have mb := mnr_b2 HQB.out 1 0
  obtain ⟨mi, hmi⟩ : ∃ mi, mi = mnr (fl rs) 1 0 := ⟨_, rfl⟩
  rw [← hmi] at mb ⊢
  have HF : Hid (invQ (fl rs) 1 = rnd (-mi * 65536) (-sm)) := by
    show _ = _
    have e : invQ (fl rs) 1 = nsg (mnr (fl rs) 1 0 * 65536) (smD (fl rs)) := rfl
    rw [e, ← HSE.out, ← hmi]
    unfold nsg
    rw [if_pos hneg, Int.neg_mul]
  clear hmi
  have O2 := Lib.hid (O.out.drewN r)
  have T2 := Lib.hid (T.out.trans (below_drewN _ r _))
  clear O T TW
  go_wp2_with (first | (go_at_call 91; refine (sRound_any _ _ _ (by omega) (by omega) (by omega) (by omega)).mono ?_; rintro e w' ⟨rfl, rfl⟩) | (at_builtin; refine wpList_append_i64 _ rfl _ _ rfl (W1.heap.size) _ 1 _ rfl (O2.out.alloc _) _ _ (rnd (-mi * 65536) (-sm)) rfl (new_cell _ _ _) (by omega) (by have := T2.out.size; simp at *; omega) ?_; intro v3 D1 ho3 hg3 hgb))
  have O : Hid (OwnI D1 (W1.heap.size) v3 2 [invQ (fl rs) 0, invQ (fl rs) 1]) := by show OwnI _ _ _ _ _; rw [HF.out]; exact ho3
  have T : Hid (Below (W1.heap.size) W1 D1) := (blThenAlloc T2.out _).trans (gb_low' hg3 hgb (Nat.le_refl _) (by have := T2.out.size; simp at *; omega))
  clear ho3 hg3 hgb O2 T2 HF mb
  obtain ⟨A1, c1, rfl⟩ := O.out.form
  go_wp2_with fail
  -- place 0 2
  rw [rounds_succ]
  have TW : Hid (Below V.heap.size V D1) := R0.out.b.trans (T.out.mono (Nat.le_trans R0.out.wl (Nat.le_of_lt R0.out.ol)))
  go_wp2_with fail
  refine (sMinor_20 _ _ _ _ _ rs _ _ (HV.out.bel TW.out) h0 (cell_later TW.out CV.out)).mono ?_
  rintro e w' ⟨rfl, r, rfl⟩
  have mb := mnr_b2 HQB.out 2 0
  obtain ⟨mi, hmi⟩ : ∃ mi, mi = mnr (fl rs) 2 0 := ⟨_, rfl⟩
  rw [← hmi] at mb ⊢
  have HF : Hid (invQ (fl rs) 2 = rnd (-mi * 65536) (-sm)) := by
    show _ = _
    have e : invQ (fl rs) 2 = nsg (mnr (fl rs) 2 0 * 65536) (smD (fl rs)) := rfl
    rw [e, ← HSE.out, ← hmi]
    unfold nsg
    rw [if_pos hneg, Int.neg_mul]
  clear hmi
  have O2 := Lib.hid (O.out.drewN r)
  have T2 := Lib.hid (T.out.trans (below_drewN _ r _))
  clear O T TW
  go_wp2_with (first | (go_at_call 91; refine (sRound_any _ _ _ (by omega) (by omega) (by omega) (by omega)).mono ?_; rintro e w' ⟨rfl, rfl⟩) | (at_builtin; refine wpList_append_i64 _ rfl _ _ rfl (W1.heap.size) _ 2 _ rfl (O2.out.alloc _) _ _ (rnd (-mi * 65536) (-sm)) rfl (new_cell _ _ _) (by omega) (by have := T2.out.size; simp at *; omega) ?_; intro v3 D2 ho3 hg3 hgb))
  have O : Hid (OwnI D2 (W1.heap.size) v3 3 [invQ (fl rs) 0, invQ (fl rs) 1, invQ (fl rs) 2]) := by show OwnI _ _ _ _ _; rw [HF.out]; exact ho3
  have T : Hid (Below (W1.heap.size) W1 D2) := (blThenAlloc T2.out _).trans (gb_low' hg3 hgb (Nat.le_refl _) (by have := T2.out.size; simp at *; omega))
  clear ho3 hg3 hgb O2 T2 HF mb
  obtain ⟨A2, c2, rfl⟩ := O.out.form
  go_wp2_with fail
  -- behind row 0
  rw [rounds_succ]
  obtain ⟨q0, k0, hq, hq1, hq2⟩ := World.ownsRow.form O.out (by omega)
  cases hq
  have R := Lib.hid (R0.out.bel T.out)
  have x0 := R.out.o.c 0 rfl
  have g0 := R.out.o.f 0
  have l0 := R.out.o.lt
  go_wp2_with (at_builtin; refine wpList_append_row _ rfl _ _ rfl (V.heap.size + 1) _ 0 1 rfl _ rfl (R.out.rows.low (blAlloc _ _) (fun g hg => by have := R.out.vl g hg; have := R.out.ll; omega)) _ _ _ rfl (new_cell _ _ _) rfl (by omega) (by have := R.out.wb; have := R.out.ll; simp; omega) ?_; intro gR1 cR1 F0 hw hg hd; have f0 : F0.cell? ⟨V.heap.size, 0, none⟩ = some (.slice none 0 0) := ((R.out.o.alloc _).grown hg R.out.on).c 0 rfl; have f1 : F0.frozen? ⟨V.heap.size, 0, none⟩ = false := ((R.out.o.alloc _).grown hg R.out.on).f 0; have f2 : V.heap.size < F0.heap.size := ((R.out.o.alloc _).grown hg R.out.on).lt; have RW := Lib.hid (R.out.next O.out hw hg hd.out rfl); clear hw hg hd x0 g0 l0)
  clear R O T
  obtain ⟨W2, hW2⟩ : ∃ W1, W1 = F0.setCell ⟨V.heap.size, 0, none⟩ (.slice (some ⟨gR1, 0, none⟩) 1 cR1) := ⟨_, rfl⟩
  rw [← hW2]
  have R1 := RW
  rw [← hW2] at R1
  clear RW f0 f1 f2 hW2
  -- row 1
  rw [rounds_succ]
  go_wp2_with fail
  obtain ⟨E1, hC0⟩ : ∃ C, C = W2.alloc (.cells #[] 2) := ⟨_, rfl⟩
  rw [← hC0]
  have O : Hid (OwnI E1 (W2.heap.size) (.slice (some ⟨W2.heap.size, 0, none⟩) 0 0) 0 []) := by show OwnI _ _ _ _ _; rw [hC0]; exact OwnI.empty _ _ (Nat.le_refl _)
  have T : Hid (Below (W2.heap.size) W2 E1) := by show Below _ _ _; rw [hC0]; exact blAlloc _ _
  clear hC0
  refine wp_loop_rounds 4 ?_
  -- place 1 0
  rw [rounds_succ]
  have TW : Hid (Below V.heap.size V E1) := R1.out.b.trans (T.out.mono (Nat.le_trans R1.out.wl (Nat.le_of_lt R1.out.ol)))
  go_wp2_with fail
  refine (sMinor_01 _ _ _ _ _ rs _ _ (HV.out.bel TW.out) h0 (cell_later TW.out CV.out)).mono ?_
  rintro e w' ⟨rfl, r, rfl⟩
  have mb := mnr_b2 HQB.out 0 1
  obtain ⟨mi, hmi⟩ : ∃ mi, mi = mnr (fl rs) 0 1 := ⟨_, rfl⟩
  rw [← hmi] at mb ⊢
  have HF : Hid (invQ (fl rs) 3 = rnd (-mi * 65536) (-sm)) := by
    show _ = _
    have e : invQ (fl rs) 3 = nsg (mnr (fl rs) 0 1 * 65536) (smD (fl rs)) := rfl
    rw [e, ← HSE.out, ← hmi]
    unfold nsg
    rw [if_pos hneg, Int.neg_mul]
  clear hmi
  have O2 := Lib.hid (O.out.drewN r)
  have T2 := Lib.hid (T.out.trans (below_drewN _ r _))
  clear O T TW
  go_wp2_with (first | (go_at_call 91; refine (sRound_any _ _ _ (by omega) (by omega) (by omega) (by omega)).mono ?_; rintro e w' ⟨rfl, rfl⟩) | (at_builtin; refine wpList_append_i64 _ rfl _ _ rfl (W2.heap.size) _ 0 _ rfl (O2.out.alloc _) _ _ (rnd (-mi * 65536) (-sm)) rfl (new_cell _ _ _) (by omega) (by have := T2.out.size; simp at *; omega) ?_; intro v3 D3 ho3 hg3 hgb))
  have O : Hid (OwnI D3 (W2.heap.size) v3 1 [invQ (fl rs) 3]) := by show OwnI _ _ _ _ _; rw [HF.out]; exact ho3
  have T : Hid (Below (W2.heap.size) W2 D3) := (blThenAlloc T2.out _).trans (gb_low' hg3 hgb (Nat.le_refl _) (by have := T2.out.size; simp at *; omega))
  clear ho3 hg3 hgb O2 T2 HF mb
  obtain ⟨A3, c3, rfl⟩ := O.out.form
  go_wp2_with fail
  -- place 1 1
  rw [rounds_succ]
  have TW : Hid (Below V.heap.size V D3) := R1.out.b.trans (T.out.mono (Nat.le_trans R1.out.wl (Nat.le_of_lt R1.out.ol)))
  go_wp2_with fail
  refine (sMinor_11 _ _ _ _ _ rs _ _ (HV.out.bel TW.out) h0 (cell_later TW.out CV.out)).mono ?_
  rintro e w' ⟨rfl, r, rfl⟩
  have mb := mnr_b2 HQB.out 1 1
  obtain ⟨mi, hmi⟩ : ∃ mi, mi = mnr (fl rs) 1 1 := ⟨_, rfl⟩
  rw [← hmi] at mb ⊢
  have HF : Hid (invQ (fl rs) 4 = rnd (-mi * 65536) (-sm)) := by
    show _ = _
    have e : invQ (fl rs) 4 = nsg (mnr (fl rs) 1 1 * 65536) (smD (fl rs)) := rfl
    rw [e, ← HSE.out, ← hmi]
    unfold nsg
    rw [if_pos hneg, Int.neg_mul]
  clear hmi
  have O2 := Lib.hid (O.out.drewN r)
  have T2 := Lib.hid (T.out.trans (below_drewN _ r _))
  clear O T TW
  go_wp2_with (first | (go_at_call 91; refine (sRound_any _ _ _ (by omega) (by omega) (by omega) (by omega)).mono ?_; rintro e w' ⟨rfl, rfl⟩) | (at_builtin; refine wpList_append_i64 _ rfl _ _ rfl (W2.heap.size) _ 1 _ rfl (O2.out.alloc _) _ _ (rnd (-mi * 65536) (-sm)) rfl (new_cell _ _ _) (by omega) (by have := T2.out.size; simp at *; omega) ?_; intro v3 D4 ho3 hg3 hgb))
  have O : Hid (OwnI D4 (W2.heap.size) v3 2 [invQ (fl rs) 3, invQ (fl rs) 4]) := by show OwnI _ _ _ _ _; rw [HF.out]; exact ho3
  have T : Hid (Below (W2.heap.size) W2 D4) := (blThenAlloc T2.out _).trans (gb_low' hg3 hgb (Nat.le_refl _) (by have := T2.out.size; simp at *; omega))
  clear ho3 hg3 hgb O2 T2 HF mb
  obtain ⟨A4, c4, rfl⟩ := O.out.form
  go_wp2_with fail
  -- place 1 2
  rw [rounds_succ]
  have TW : Hid (Below V.heap.size V D4) := R1.out.b.trans (T.out.mono (Nat.le_trans R1.out.wl (Nat.le_of_lt R1.out.ol)))
  go_wp2_with fail
  refine (sMinor_21 _ _ _ _ _ rs _ _ (HV.out.bel TW.out) h0 (cell_later TW.out CV.out)).mono ?_
  rintro e w' ⟨rfl, r, rfl⟩
  have mb := mnr_b2 HQB.out 2 1
  obtain ⟨mi, hmi⟩ : ∃ mi, mi = mnr (fl rs) 2 1 := ⟨_, rfl⟩
  rw [← hmi] at mb ⊢
  have HF : Hid (invQ (fl rs) 5 = rnd (-mi * 65536) (-sm)) := by
    show _ = _
    have e : invQ (fl rs) 5 = nsg (mnr (fl rs) 2 1 * 65536) (smD (fl rs)) := rfl
    rw [e, ← HSE.out, ← hmi]
    unfold nsg
    rw [if_pos hneg, Int.neg_mul]
  clear hmi
  have O2 := Lib.hid (O.out.drewN r)
  have T2 := Lib.hid (T.out.trans (below_drewN _ r _))
  clear O T TW
  go_wp2_with (first | (go_at_call 91; refine (sRound_any _ _ _ (by omega) (by omega) (by omega) (by omega)).mono ?_; rintro e w' ⟨rfl, rfl⟩) | (at_builtin; refine wpList_append_i64 _ rfl _ _ rfl (W2.heap.size) _ 2 _ rfl (O2.out.alloc _) _ _ (rnd (-mi * 65536) (-sm)) rfl (new_cell _ _ _) (by omega) (by have := T2.out.size; simp at *; omega) ?_; intro v3 D5 ho3 hg3 hgb))
  have O : Hid (OwnI D5 (W2.heap.size) v3 3 [invQ (fl rs) 3, invQ (fl rs) 4, invQ (fl rs) 5]) := by show OwnI _ _ _ _ _; rw [HF.out]; exact ho3
  have T : Hid (Below (W2.heap.size) W2 D5) := (blThenAlloc T2.out _).trans (gb_low' hg3 hgb (Nat.le_refl _) (by have := T2.out.size; simp at *; omega))
  clear ho3 hg3 hgb O2 T2 HF mb
  obtain ⟨A5, c5, rfl⟩ := O.out.form
  go_wp2_with fail
  -- behind row 1
  rw [rounds_succ]
  obtain ⟨q1, k1, hq, hq1, hq2⟩ := World.ownsRow.form O.out (by omega)
  cases hq
  have R := Lib.hid (R1.out.bel T.out)
  have x0 := R.out.o.c 0 rfl
  have g0 := R.out.o.f 0
  have l0 := R.out.o.lt
  go_wp2_with (at_builtin; refine wpList_append_row _ rfl _ _ rfl (V.heap.size + 1) _ 1 2 rfl _ rfl (R.out.rows.low (blAlloc _ _) (fun g hg => by have := R.out.vl g hg; have := R.out.ll; omega)) _ _ _ rfl (new_cell _ _ _) rfl (by omega) (by have := R.out.wb; have := R.out.ll; simp; omega) ?_; intro gR2 cR2 F1 hw hg hd; have f0 : F1.cell? ⟨V.heap.size, 0, none⟩ = some (.slice (some ⟨gR1, 0, none⟩) 1 cR1) := ((R.out.o.alloc _).grown hg R.out.on).c 0 rfl; have f1 : F1.frozen? ⟨V.heap.size, 0, none⟩ = false := ((R.out.o.alloc _).grown hg R.out.on).f 0; have f2 : V.heap.size < F1.heap.size := ((R.out.o.alloc _).grown hg R.out.on).lt; have RW := Lib.hid (R.out.next O.out hw hg hd.out rfl); clear hw hg hd x0 g0 l0)
  clear R O T
  obtain ⟨W3, hW3⟩ : ∃ W1, W1 = F1.setCell ⟨V.heap.size, 0, none⟩ (.slice (some ⟨gR2, 0, none⟩) 2 cR2) := ⟨_, rfl⟩
  rw [← hW3]
  have R2 := RW
  rw [← hW3] at R2
  clear RW f0 f1 f2 hW3
  -- row 2
  rw [rounds_succ]
  go_wp2_with fail
  obtain ⟨E2, hC0⟩ : ∃ C, C = W3.alloc (.cells #[] 2) := ⟨_, rfl⟩
  rw [← hC0]
  have O : Hid (OwnI E2 (W3.heap.size) (.slice (some ⟨W3.heap.size, 0, none⟩) 0 0) 0 []) := by show OwnI _ _ _ _ _; rw [hC0]; exact OwnI.empty _ _ (Nat.le_refl _)
  have T : Hid (Below (W3.heap.size) W3 E2) := by show Below _ _ _; rw [hC0]; exact blAlloc _ _
  clear hC0
  refine wp_loop_rounds 4 ?_
  -- place 2 0
  rw [rounds_succ]
  have TW : Hid (Below V.heap.size V E2) := R2.out.b.trans (T.out.mono (Nat.le_trans R2.out.wl (Nat.le_of_lt R2.out.ol)))
  go_wp2_with fail
  refine (sMinor_02 _ _ _ _ _ rs _ _ (HV.out.bel TW.out) h0 (cell_later TW.out CV.out)).mono ?_
  rintro e w' ⟨rfl, r, rfl⟩
  have mb := mnr_b2 HQB.out 0 2
  obtain ⟨mi, hmi⟩ : ∃ mi, mi = mnr (fl rs) 0 2 := ⟨_, rfl⟩
  rw [← hmi] at mb ⊢
  have HF : Hid (invQ (fl rs) 6 = rnd (-mi * 65536) (-sm)) := by
    show _ = _
    have e : invQ (fl rs) 6 = nsg (mnr (fl rs) 0 2 * 65536) (smD (fl rs)) := rfl
    rw [e, ← HSE.out, ← hmi]
    unfold nsg
    rw [if_pos hneg, Int.neg_mul]
  clear hmi
  have O2 := Lib.hid (O.out.drewN r)
  have T2 := Lib.hid (T.out.trans (below_drewN _ r _))
  clear O T TW
  go_wp2_with (first | (go_at_call 91; refine (sRound_any _ _ _ (by omega) (by omega) (by omega) (by omega)).mono ?_; rintro e w' ⟨rfl, rfl⟩) | (at_builtin; refine wpList_append_i64 _ rfl _ _ rfl (W3.heap.size) _ 0 _ rfl (O2.out.alloc _) _ _ (rnd (-mi * 65536) (-sm)) rfl (new_cell _ _ _) (by omega) (by have := T2.out.size; simp at *; omega) ?_; intro v3 D6 ho3 hg3 hgb))
  have O : Hid (OwnI D6 (W3.heap.size) v3 1 [invQ (fl rs) 6]) := by show OwnI _ _ _ _ _; rw [HF.out]; exact ho3
  have T : Hid (Below (W3.heap.size) W3 D6) := (blThenAlloc T2.out _).trans (gb_low' hg3 hgb (Nat.le_refl _) (by have := T2.out.size; simp at *; omega))
  clear ho3 hg3 hgb O2 T2 HF mb
  obtain ⟨A6, c6, rfl⟩ := O.out.form
  go_wp2_with fail
  -- place 2 1
  rw [rounds_succ]
  have TW : Hid (Below V.heap.size V D6) := R2.out.b.trans (T.out.mono (Nat.le_trans R2.out.wl (Nat.le_of_lt R2.out.ol)))
  go_wp2_with fail
  refine (sMinor_12 _ _ _ _ _ rs _ _ (HV.out.bel TW.out) h0 (cell_later TW.out CV.out)).mono ?_
  rintro e w' ⟨rfl, r, rfl⟩
  have mb := mnr_b2 HQB.out 1 2
  obtain ⟨mi, hmi⟩ : ∃ mi, mi = mnr (fl rs) 1 2 := ⟨_, rfl⟩
  rw [← hmi] at mb ⊢
  have HF : Hid (invQ (fl rs) 7 = rnd (-mi * 65536) (-sm)) := by
    show _ = _
    have e : invQ (fl rs) 7 = nsg (mnr (fl rs) 1 2 * 65536) (smD (fl rs)) := rfl
    rw [e, ← HSE.out, ← hmi]
    unfold nsg
    rw [if_pos hneg, Int.neg_mul]
  clear hmi
  have O2 := Lib.hid (O.out.drewN r)
  have T2 := Lib.hid (T.out.trans (below_drewN _ r _))
  clear O T TW
  go_wp2_with (first | (go_at_call 91; refine (sRound_any _ _ _ (by omega) (by omega) (by omega) (by omega)).mono ?_; rintro e w' ⟨rfl, rfl⟩) | (at_builtin; refine wpList_append_i64 _ rfl _ _ rfl (W3.heap.size) _ 1 _ rfl (O2.out.alloc _) _ _ (rnd (-mi * 65536) (-sm)) rfl (new_cell _ _ _) (by omega) (by have := T2.out.size; simp at *; omega) ?_; intro v3 D7 ho3 hg3 hgb))
  have O : Hid (OwnI D7 (W3.heap.size) v3 2 [invQ (fl rs) 6, invQ (fl rs) 7]) := by show OwnI _ _ _ _ _; rw [HF.out]; exact ho3
  have T : Hid (Below (W3.heap.size) W3 D7) := (blThenAlloc T2.out _).trans (gb_low' hg3 hgb (Nat.le_refl _) (by have := T2.out.size; simp at *; omega))
  clear ho3 hg3 hgb O2 T2 HF mb
  obtain ⟨A7, c7, rfl⟩ := O.out.form
  go_wp2_with fail
  -- place 2 2
  rw [rounds_succ]
  have TW : Hid (Below V.heap.size V D7) := R2.out.b.trans (T.out.mono (Nat.le_trans R2.out.wl (Nat.le_of_lt R2.out.ol)))
  go_wp2_with fail
  refine (sMinor_22 _ _ _ _ _ rs _ _ (HV.out.bel TW.out) h0 (cell_later TW.out CV.out)).mono ?_
  rintro e w' ⟨rfl, r, rfl⟩
  have mb := mnr_b2 HQB.out 2 2
  obtain ⟨mi, hmi⟩ : ∃ mi, mi = mnr (fl rs) 2 2 := ⟨_, rfl⟩
  rw [← hmi] at mb ⊢
  have HF : Hid (invQ (fl rs) 8 = rnd (-mi * 65536) (-sm)) := by
    show _ = _
    have e : invQ (fl rs) 8 = nsg (mnr (fl rs) 2 2 * 65536) (smD (fl rs)) := rfl
    rw [e, ← HSE.out, ← hmi]
    unfold nsg
    rw [if_pos hneg, Int.neg_mul]
  clear hmi
  have O2 := Lib.hid (O.out.drewN r)
  have T2 := Lib.hid (T.out.trans (below_drewN _ r _))
  clear O T TW
  go_wp2_with (first | (go_at_call 91; refine (sRound_any _ _ _ (by omega) (by omega) (by omega) (by omega)).mono ?_; rintro e w' ⟨rfl, rfl⟩) | (at_builtin; refine wpList_append_i64 _ rfl _ _ rfl (W3.heap.size) _ 2 _ rfl (O2.out.alloc _) _ _ (rnd (-mi * 65536) (-sm)) rfl (new_cell _ _ _) (by omega) (by have := T2.out.size; simp at *; omega) ?_; intro v3 D8 ho3 hg3 hgb))
  have O : Hid (OwnI D8 (W3.heap.size) v3 3 [invQ (fl rs) 6, invQ (fl rs) 7, invQ (fl rs) 8]) := by show OwnI _ _ _ _ _; rw [HF.out]; exact ho3
  have T : Hid (Below (W3.heap.size) W3 D8) := (blThenAlloc T2.out _).trans (gb_low' hg3 hgb (Nat.le_refl _) (by have := T2.out.size; simp at *; omega))
  clear ho3 hg3 hgb O2 T2 HF mb
  obtain ⟨A8, c8, rfl⟩ := O.out.form
  go_wp2_with fail
  -- behind row 2
  rw [rounds_succ]
  obtain ⟨q2, k2, hq, hq1, hq2⟩ := World.ownsRow.form O.out (by omega)
  cases hq
  have R := Lib.hid (R2.out.bel T.out)
  have x0 := R.out.o.c 0 rfl
  have g0 := R.out.o.f 0
  have l0 := R.out.o.lt
  go_wp2_with (at_builtin; refine wpList_append_row _ rfl _ _ rfl (V.heap.size + 1) _ 2 3 rfl _ rfl (R.out.rows.low (blAlloc _ _) (fun g hg => by have := R.out.vl g hg; have := R.out.ll; omega)) _ _ _ rfl (new_cell _ _ _) rfl (by omega) (by have := R.out.wb; have := R.out.ll; simp; omega) ?_; intro gR3 cR3 F2 hw hg hd; have f0 : F2.cell? ⟨V.heap.size, 0, none⟩ = some (.slice (some ⟨gR2, 0, none⟩) 2 cR2) := ((R.out.o.alloc _).grown hg R.out.on).c 0 rfl; have f1 : F2.frozen? ⟨V.heap.size, 0, none⟩ = false := ((R.out.o.alloc _).grown hg R.out.on).f 0; have f2 : V.heap.size < F2.heap.size := ((R.out.o.alloc _).grown hg R.out.on).lt; have RW := Lib.hid (R.out.next O.out hw hg hd.out rfl); clear hw hg hd x0 g0 l0)
  clear R O T
  obtain ⟨W4, hW4⟩ : ∃ W1, W1 = F2.setCell ⟨V.heap.size, 0, none⟩ (.slice (some ⟨gR3, 0, none⟩) 3 cR3) := ⟨_, rfl⟩
  rw [← hW4]
  have R3 := RW
  rw [← hW4] at R3
  clear RW f0 f1 f2 hW4
  rw [rounds_succ]
  obtain ⟨gR, capR, hvR, HOWN⟩ := R3.out.own
  cases hvR
  have OW : Hid (Own W4 (rowsD (rs9 (invQ (fl rs)))) (.slice (some ⟨gR3, 0, none⟩) 3 cR3) (V.heap.size + 1) W4.heap.size) := HOWN
  clear HOWN
  have x0 := R3.out.o.c 0 rfl
  have y3 := R3.out.o.lt
  go_wp2_with fail
  refine (sHeld4_any _ _ _ _ _ _ _ OW.out (Nat.le_refl _)).mono ?_
  rintro e w5 ⟨G3, n3, c3, rfl, ho, hb⟩
  have RR := Lib.hid (R3.out.r.bel hb)
  have TT := Lib.hid (blThen (blThen TV.out R3.out.b) hb)
  have HO3 := Lib.hid ho
  have HS3 := Lib.hid hb.size
  have HVS := Lib.hid TV.out.size
  clear ho hb x0 y3
  have r0 := RR.out.c 0 rfl
  have r1 := RR.out.c 1 rfl
  have z0 := RR.out.f 0
  have z1 := RR.out.f 1
  have m2 := RR.out.lt
  have k0 := ((RR.out.set 0 (.int .i64 (maC (invQ (fl rs))))).set 1 (.slice G3 n3 c3)).c 0 rfl
  have k1 := ((RR.out.set 0 (.int .i64 (maC (invQ (fl rs))))).set 1 (.slice G3 n3 c3)).c 1 rfl
  go_wp2_with fail
  refine bodyPost_ret (v := .agg #[.int .i64 (maC (invQ (fl rs))), .slice G3 n3 c3]) (by simp [results, Try.results34, go_sem, k0, k1]) rfl ⟨_, _, _, by rw [HA.out.1], ?_, ?_⟩
  · rw [HA.out.2]
    refine Own.mono (lo := V.heap.size + 1) (hi := W4.heap.size) ?_ (by have := HVS.out; omega) (by simp only [setSize]; have := HS3.out; omega)
    repeat (refine Own.set ?_ (.inl (by have := HRV.out; omega)) _ _)
    exact HO3.out
  · repeat (refine Below.setCell ?_ (by simp; try omega) _)
    exact TT.out
set_option maxRecDepth 100000 in
set_option maxHeartbeats 16000000 in
theorem sInv_pos (A : Option Addr) (n c : Nat) (rs : Rws) (bs : List Nat) (w : World) (h : Hd w (rowsD rs) (.slice A n c) bs) (h0 : mf rs = 0) (hz : smD (fl rs) ≠ 0) (hn : ¬ smD (fl rs) < 0) :
    Calls Try.prog 34 #[.agg #[.slice A n c]] w (MAns w (ivC rs) (ivR rs)) := by
  obtain ⟨W0, hW0⟩ : ∃ W0, W0 = (w.alloc (.cells #[.slice A n c] 24)).alloc (.cells #[.int .i64 0, .slice none 0 0] 26) := ⟨_, rfl⟩
  have a0 : Hid (Bx W0 w.heap.size [.slice A n c]) := by show Bx _ _ _; rw [hW0]; exact (Bx.new _ _ _ rfl).alloc _
  have R : Hid (Bx W0 (w.heap.size + 1) [.int .i64 0, .slice none 0 0]) := by show Bx _ _ _; rw [hW0]; exact Bx.new _ _ _ (by simp)
  have T : Hid (Below w.heap.size w W0) := by show Below _ _ _; rw [hW0]; exact blThenAlloc (blAlloc _ _) _
  have H := Lib.hid (h.bel T.out)
  have HW := Lib.hid hW0
  have HA := Lib.hid (iv_y h0 hz)
  have HQB : Hid (Q9 (fl rs)) := fl_Q9 h0
  have hsb := smD_bd HQB.out
  have HDB := Lib.hid (det_bd HQB.out)
  have HSM : Hid (smD (fl rs) = rnd (det (fl rs)) 65536) := rfl
  clear h hW0
  go_enter Try.func34, Try.ntmps34
  go_wp2_with fail
  rw [← HW.out]
  refine (sFault4_any _ _ _ _ _ rs _ _ H.out (a0.out.c 0 rfl)).mono ?_
  rintro e w1 ⟨rfl, rfl⟩
  rw [h0]
  go_wp2_with fail
  refine (sDet4_any _ _ _ _ _ rs _ _ H.out h0 (a0.out.c 0 rfl)).mono ?_
  rintro e w1 ⟨rfl, m, rfl⟩
  go_wp2_with fail
  refine (sRound_any (det (fl rs)) 65536 _ (by omega) (by omega) (by have := HDB.out; omega) (by have := HDB.out; omega)).mono ?_
  rintro e w1 ⟨rfl, rfl⟩
  rw [← HSM.out]
  obtain ⟨V, hV⟩ : ∃ V, V = W0.drewN m := ⟨_, rfl⟩
  have RV : Hid (Bx V (w.heap.size + 1) [.int .i64 0, .slice none 0 0]) := by show Bx _ _ _; rw [hV]; exact R.out.drewN m
  have AV : Hid (Bx V w.heap.size [.slice A n c]) := by show Bx _ _ _; rw [hV]; exact a0.out.drewN m
  have TV : Hid (Below w.heap.size w V) := by show Below _ _ _; rw [hV]; exact blThenDrew T.out m
  have HV : Hid (Hd V (rowsD rs) (.slice A n c) bs) := by show Hd _ _ _ _; rw [hV]; exact H.out.drewN m
  have CV : Hid (V.cell? ⟨w.heap.size, 0, none⟩ = some (.slice A n c)) := AV.out.c 0 rfl
  have HRV := Lib.hid RV.out.lt
  obtain ⟨sm, hsm⟩ : ∃ sm, sm = smD (fl rs) := ⟨_, rfl⟩
  rw [← hsm] at hz hn hsb ⊢
  rw [← hV]
  have hneg := hn
  have HSE := Lib.hid hsm
  have hze : (sm == 0) = false := by simpa using hz
  obtain ⟨W1, hW1⟩ : ∃ W1, W1 = V.alloc (.cells #[.slice none 0 0] 24) := ⟨_, rfl⟩
  have R0 : Hid (RS V W1 W1.heap.size V.heap.size (.slice none 0 0) 0 (fun _ => 0) (fun _ => 0) (fun _ => []) (w.heap.size + 1) [.int .i64 0, .slice none 0 0] (V.heap.size + 1)) := by
    show RS _ _ _ _ _ _ _ _ _ _ _ _
    rw [hW1]
    exact RS.begin V _ RV.out
  have HW1 := Lib.hid hW1
  clear hsm hV hW1 HSM HDB R T a0 H HW hn
  go_wp2_with fail
  rw [← HW1.out]
  refine wp_loop_rounds 4 ?_
  -- row 0
  rw [rounds_succ]
  go_wp2_with fail
  obtain ⟨E0, hC0⟩ : ∃ C, C = W1.alloc (.cells #[] 2) := ⟨_, rfl⟩
  rw [← hC0]
  have O : Hid (OwnI E0 (W1.heap.size) (.slice (some ⟨W1.heap.size, 0, none⟩) 0 0) 0 []) := by show OwnI _ _ _ _ _; rw [hC0]; exact OwnI.empty _ _ (Nat.le_refl _)
  have T : Hid (Below (W1.heap.size) W1 E0) := by show Below _ _ _; rw [hC0]; exact blAlloc _ _
  clear hC0
  refine wp_loop_rounds 4 ?_
  -- place 0 0
  rw [rounds_succ]
  have TW : Hid (Below V.heap.size V E0) := R0.out.b.trans (T.out.mono (Nat.le_trans R0.out.wl (Nat.le_of_lt R0.out.ol)))
  go_wp2_with fail
  refine (sMinor_00 _ _ _ _ _ rs _ _ (HV.out.bel TW.out) h0 (cell_later TW.out CV.out)).mono ?_
  rintro e w' ⟨rfl, r, rfl⟩
  have mb := mnr_b2 HQB.out 0 0
  obtain ⟨mi, hmi⟩ : ∃ mi, mi = mnr (fl rs) 0 0 := ⟨_, rfl⟩
  rw [← hmi] at mb ⊢
  have HF : Hid (invQ (fl rs) 0 = rnd (mi * 65536) sm) := by
    show _ = _
    have e : invQ (fl rs) 0 = nsg (mnr (fl rs) 0 0 * 65536) (smD (fl rs)) := rfl
    rw [e, ← HSE.out, ← hmi]
    unfold nsg
    rw [if_neg (by omega)]
  clear hmi
  have O2 := Lib.hid (O.out.drewN r)
  have T2 := Lib.hid (T.out.trans (below_drewN _ r _))
  clear O T TW
  go_wp2_with (first | (go_at_call 91; refine (sRound_any _ _ _ (by omega) (by omega) (by omega) (by omega)).mono ?_; rintro e w' ⟨rfl, rfl⟩) | (at_builtin; refine wpList_append_i64 _ rfl _ _ rfl (W1.heap.size) _ 0 _ rfl (O2.out.alloc _) _ _ (rnd (mi * 65536) sm) rfl (new_cell _ _ _) (by omega) (by have := T2.out.size; simp at *; omega) ?_; intro v3 D0 ho3 hg3 hgb))
  have O : Hid (OwnI D0 (W1.heap.size) v3 1 [invQ (fl rs) 0]) := by show OwnI _ _ _ _ _; rw [HF.out]; exact ho3
  have T : Hid (Below (W1.heap.size) W1 D0) := (blThenAlloc T2.out _).trans (gb_low' hg3 hgb (Nat.le_refl _) (by have := T2.out.size; simp at *; omega))
  clear ho3 hg3 hgb O2 T2 HF mb
  obtain ⟨A0, c0, rfl⟩ := O.out.form
  go_wp2_with fail
  -- place 0 1
  rw [rounds_succ]
  have TW : Hid (Below V.heap.size V D0) := R0.out.b.trans (T.out.mono (Nat.le_trans R0.out.wl (Nat.le_of_lt R0.out.ol)))
  go_wp2_with fail
  refine (sMinor_10 _ _ _ _ _ rs _ _ (HV.out.bel TW.out) h0 (cell_later TW.out CV.out)).mono ?_
  rintro e w' ⟨rfl, r, rfl⟩
  have mb := mnr_b2 HQB.out 1 0
  obtain ⟨mi, hmi⟩ : ∃ mi, mi = mnr (fl rs) 1 0 := ⟨_, rfl⟩
  rw [← hmi] at mb ⊢
  have HF : Hid (invQ (fl rs) 1 = rnd (mi * 65536) sm) := by
    show _ = _
    have e : invQ (fl rs) 1 = nsg (mnr (fl rs) 1 0 * 65536) (smD (fl rs)) := rfl
    rw [e, ← HSE.out, ← hmi]
    unfold nsg
    rw [if_neg (by omega)]
  clear hmi
  have O2 := Lib.hid (O.out.drewN r)
  have T2 := Lib.hid (T.out.trans (below_drewN _ r _))
  clear O T TW
  go_wp2_with (first | (go_at_call 91; refine (sRound_any _ _ _ (by omega) (by omega) (by omega) (by omega)).mono ?_; rintro e w' ⟨rfl, rfl⟩) | (at_builtin; refine wpList_append_i64 _ rfl _ _ rfl (W1.heap.size) _ 1 _ rfl (O2.out.alloc _) _ _ (rnd (mi * 65536) sm) rfl (new_cell _ _ _) (by omega) (by have := T2.out.size; simp at *; omega) ?_; intro v3 D1 ho3 hg3 hgb))
  have O : Hid (OwnI D1 (W1.heap.size) v3 2 [invQ (fl rs) 0, invQ (fl rs) 1]) := by show OwnI _ _ _ _ _; rw [HF.out]; exact ho3
  have T : Hid (Below (W1.heap.size) W1 D1) := (blThenAlloc T2.out _).trans (gb_low' hg3 hgb (Nat.le_refl _) (by have := T2.out.size; simp at *; omega))
  clear ho3 hg3 hgb O2 T2 HF mb
  obtain ⟨A1, c1, rfl⟩ := O.out.form
  go_wp2_with fail
  -- place 0 2
  rw [rounds_succ]
  have TW : Hid (Below V.heap.size V D1) := R0.out.b.trans (T.out.mono (Nat.le_trans R0.out.wl (Nat.le_of_lt R0.out.ol)))
  go_wp2_with fail
  refine (sMinor_20 _ _ _ _ _ rs _ _ (HV.out.bel TW.out) h0 (cell_later TW.out CV.out)).mono ?_
  rintro e w' ⟨rfl, r, rfl⟩
  have mb := mnr_b2 HQB.out 2 0
  obtain ⟨mi, hmi⟩ : ∃ mi, mi = mnr (fl rs) 2 0 := ⟨_, rfl⟩
  rw [← hmi] at mb ⊢
  have HF : Hid (invQ (fl rs) 2 = rnd (mi * 65536) sm) := by
    show _ = _
    have e : invQ (fl rs) 2 = nsg (mnr (fl rs) 2 0 * 65536) (smD (fl rs)) := rfl
    rw [e, ← HSE.out, ← hmi]
    unfold nsg
    rw [if_neg (by omega)]
  clear hmi
  have O2 := Lib.hid (O.out.drewN r)
  have T2 := Lib.hid (T.out.trans (below_drewN _ r _))
  clear O T TW
  go_wp2_with (first | (go_at_call 91; refine (sRound_any _ _ _ (by omega) (by omega) (by omega) (by omega)).mono ?_; rintro e w' ⟨rfl, rfl⟩) | (at_builtin; refine wpList_append_i64 _ rfl _ _ rfl (W1.heap.size) _ 2 _ rfl (O2.out.alloc _) _ _ (rnd (mi * 65536) sm) rfl (new_cell _ _ _) (by omega) (by have := T2.out.size; simp at *; omega) ?_; intro v3 D2 ho3 hg3 hgb))
  have O : Hid (OwnI D2 (W1.heap.size) v3 3 [invQ (fl rs) 0, invQ (fl rs) 1, invQ (fl rs) 2]) := by show OwnI _ _ _ _ _; rw [HF.out]; exact ho3
  have T : Hid (Below (W1.heap.size) W1 D2) := (blThenAlloc T2.out _).trans (gb_low' hg3 hgb (Nat.le_refl _) (by have := T2.out.size; simp at *; omega))
  clear ho3 hg3 hgb O2 T2 HF mb
  obtain ⟨A2, c2, rfl⟩ := O.out.form
  go_wp2_with fail
  -- behind row 0
  rw [rounds_succ]
  obtain ⟨q0, k0, hq, hq1, hq2⟩ := World.ownsRow.form O.out (by omega)
  cases hq
  have R := Lib.hid (R0.out.bel T.out)
  have x0 := R.out.o.c 0 rfl
  have g0 := R.out.o.f 0
  have l0 := R.out.o.lt
  go_wp2_with (at_builtin; refine wpList_append_row _ rfl _ _ rfl (V.heap.size + 1) _ 0 1 rfl _ rfl (R.out.rows.low (blAlloc _ _) (fun g hg => by have := R.out.vl g hg; have := R.out.ll; omega)) _ _ _ rfl (new_cell _ _ _) rfl (by omega) (by have := R.out.wb; have := R.out.ll; simp; omega) ?_; intro gR1 cR1 F0 hw hg hd; have f0 : F0.cell? ⟨V.heap.size, 0, none⟩ = some (.slice none 0 0) := ((R.out.o.alloc _).grown hg R.out.on).c 0 rfl; have f1 : F0.frozen? ⟨V.heap.size, 0, none⟩ = false := ((R.out.o.alloc _).grown hg R.out.on).f 0; have f2 : V.heap.size < F0.heap.size := ((R.out.o.alloc _).grown hg R.out.on).lt; have RW := Lib.hid (R.out.next O.out hw hg hd.out rfl); clear hw hg hd x0 g0 l0)
  clear R O T
  obtain ⟨W2, hW2⟩ : ∃ W1, W1 = F0.setCell ⟨V.heap.size, 0, none⟩ (.slice (some ⟨gR1, 0, none⟩) 1 cR1) := ⟨_, rfl⟩
  rw [← hW2]
  have R1 := RW
  rw [← hW2] at R1
  clear RW f0 f1 f2 hW2
  -- row 1
  rw [rounds_succ]
  go_wp2_with fail
  obtain ⟨E1, hC0⟩ : ∃ C, C = W2.alloc (.cells #[] 2) := ⟨_, rfl⟩
  rw [← hC0]
  have O : Hid (OwnI E1 (W2.heap.size) (.slice (some ⟨W2.heap.size, 0, none⟩) 0 0) 0 []) := by show OwnI _ _ _ _ _; rw [hC0]; exact OwnI.empty _ _ (Nat.le_refl _)
  have T : Hid (Below (W2.heap.size) W2 E1) := by show Below _ _ _; rw [hC0]; exact blAlloc _ _
  clear hC0
  refine wp_loop_rounds 4 ?_
  -- place 1 0
  rw [rounds_succ]
  have TW : Hid (Below V.heap.size V E1) := R1.out.b.trans (T.out.mono (Nat.le_trans R1.out.wl (Nat.le_of_lt R1.out.ol)))
  go_wp2_with fail
  refine (sMinor_01 _ _ _ _ _ rs _ _ (HV.out.bel TW.out) h0 (cell_later TW.out CV.out)).mono ?_
  rintro e w' ⟨rfl, r, rfl⟩
  have mb := mnr_b2 HQB.out 0 1
  obtain ⟨mi, hmi⟩ : ∃ mi, mi = mnr (fl rs) 0 1 := ⟨_, rfl⟩
  rw [← hmi] at mb ⊢
  have HF : Hid (invQ (fl rs) 3 = rnd (mi * 65536) sm) := by
    show _ = _
    have e : invQ (fl rs) 3 = nsg (mnr (fl rs) 0 1 * 65536) (smD (fl rs)) := rfl
    rw [e, ← HSE.out, ← hmi]
    unfold nsg
    rw [if_neg (by omega)]
  clear hmi
  have O2 := Lib.hid (O.out.drewN r)
  have T2 := Lib.hid (T.out.trans (below_drewN _ r _))
  clear O T TW
  go_wp2_with (first | (go_at_call 91; refine (sRound_any _ _ _ (by omega) (by omega) (by omega) (by omega)).mono ?_; rintro e w' ⟨rfl, rfl⟩) | (at_builtin; refine wpList_append_i64 _ rfl _ _ rfl (W2.heap.size) _ 0 _ rfl (O2.out.alloc _) _ _ (rnd (mi * 65536) sm) rfl (new_cell _ _ _) (by omega) (by have := T2.out.size; simp at *; omega) ?_; intro v3 D3 ho3 hg3 hgb))
  have O : Hid (OwnI D3 (W2.heap.size) v3 1 [invQ (fl rs) 3]) := by show OwnI _ _ _ _ _; rw [HF.out]; exact ho3
  have T : Hid (Below (W2.heap.size) W2 D3) := (blThenAlloc T2.out _).trans (gb_low' hg3 hgb (Nat.le_refl _) (by have := T2.out.size; simp at *; omega))
  clear ho3 hg3 hgb O2 T2 HF mb
  obtain ⟨A3, c3, rfl⟩ := O.out.form
  go_wp2_with fail
  -- place 1 1
  rw [rounds_succ]
  have TW : Hid (Below V.heap.size V D3) := R1.out.b.trans (T.out.mono (Nat.le_trans R1.out.wl (Nat.le_of_lt R1.out.ol)))
  go_wp2_with fail
  refine (sMinor_11 _ _ _ _ _ rs _ _ (HV.out.bel TW.out) h0 (cell_later TW.out CV.out)).mono ?_
  rintro e w' ⟨rfl, r, rfl⟩
  have mb := mnr_b2 HQB.out 1 1
  obtain ⟨mi, hmi⟩ : ∃ mi, mi = mnr (fl rs) 1 1 := ⟨_, rfl⟩
  rw [← hmi] at mb ⊢
  have HF : Hid (invQ (fl rs) 4 = rnd (mi * 65536) sm) := by
    show _ = _
    have e : invQ (fl rs) 4 = nsg (mnr (fl rs) 1 1 * 65536) (smD (fl rs)) := rfl
    rw [e, ← HSE.out, ← hmi]
    unfold nsg
    rw [if_neg (by omega)]
  clear hmi
  have O2 := Lib.hid (O.out.drewN r)
  have T2 := Lib.hid (T.out.trans (below_drewN _ r _))
  clear O T TW
  go_wp2_with (first | (go_at_call 91; refine (sRound_any _ _ _ (by omega) (by omega) (by omega) (by omega)).mono ?_; rintro e w' ⟨rfl, rfl⟩) | (at_builtin; refine wpList_append_i64 _ rfl _ _ rfl (W2.heap.size) _ 1 _ rfl (O2.out.alloc _) _ _ (rnd (mi * 65536) sm) rfl (new_cell _ _ _) (by omega) (by have := T2.out.size; simp at *; omega) ?_; intro v3 D4 ho3 hg3 hgb))
  have O : Hid (OwnI D4 (W2.heap.size) v3 2 [invQ (fl rs) 3, invQ (fl rs) 4]) := by show OwnI _ _ _ _ _; rw [HF.out]; exact ho3
  have T : Hid (Below (W2.heap.size) W2 D4) := (blThenAlloc T2.out _).trans (gb_low' hg3 hgb (Nat.le_refl _) (by have := T2.out.size; simp at *; omega))
  clear ho3 hg3 hgb O2 T2 HF mb
  obtain ⟨A4, c4, rfl⟩ := O.out.form
  go_wp2_with fail
  -- place 1 2
  rw [rounds_succ]
  have TW : Hid (Below V.heap.size V D4) := R1.out.b.trans (T.out.mono (Nat.le_trans R1.out.wl (Nat.le_of_lt R1.out.ol)))
  go_wp2_with fail
  refine (sMinor_21 _ _ _ _ _ rs _ _ (HV.out.bel TW.out) h0 (cell_later TW.out CV.out)).mono ?_
  rintro e w' ⟨rfl, r, rfl⟩
  have mb := mnr_b2 HQB.out 2 1
  obtain ⟨mi, hmi⟩ : ∃ mi, mi = mnr (fl rs) 2 1 := ⟨_, rfl⟩
  rw [← hmi] at mb ⊢
  have HF : Hid (invQ (fl rs) 5 = rnd (mi * 65536) sm) := by
    show _ = _
    have e : invQ (fl rs) 5 = nsg (mnr (fl rs) 2 1 * 65536) (smD (fl rs)) := rfl
    rw [e, ← HSE.out, ← hmi]
    unfold nsg
    rw [if_neg (by omega)]
  clear hmi
  have O2 := Lib.hid (O.out.drewN r)
  have T2 := Lib.hid (T.out.trans (below_drewN _ r _))
  clear O T TW
  go_wp2_with (first | (go_at_call 91; refine (sRound_any _ _ _ (by omega) (by omega) (by omega) (by omega)).mono ?_; rintro e w' ⟨rfl, rfl⟩) | (at_builtin; refine wpList_append_i64 _ rfl _ _ rfl (W2.heap.size) _ 2 _ rfl (O2.out.alloc _) _ _ (rnd (mi * 65536) sm) rfl (new_cell _ _ _) (by omega) (by have := T2.out.size; simp at *; omega) ?_; intro v3 D5 ho3 hg3 hgb))
  have O : Hid (OwnI D5 (W2.heap.size) v3 3 [invQ (fl rs) 3, invQ (fl rs) 4, invQ (fl rs) 5]) := by show OwnI _ _ _ _ _; rw [HF.out]; exact ho3
  have T : Hid (Below (W2.heap.size) W2 D5) := (blThenAlloc T2.out _).trans (gb_low' hg3 hgb (Nat.le_refl _) (by have := T2.out.size; simp at *; omega))
  clear ho3 hg3 hgb O2 T2 HF mb
  obtain ⟨A5, c5, rfl⟩ := O.out.form
  go_wp2_with fail
  -- behind row 1
  rw [rounds_succ]
  obtain ⟨q1, k1, hq, hq1, hq2⟩ := World.ownsRow.form O.out (by omega)
  cases hq
  have R := Lib.hid (R1.out.bel T.out)
  have x0 := R.out.o.c 0 rfl
  have g0 := R.out.o.f 0
  have l0 := R.out.o.lt
  go_wp2_with (at_builtin; refine wpList_append_row _ rfl _ _ rfl (V.heap.size + 1) _ 1 2 rfl _ rfl (R.out.rows.low (blAlloc _ _) (fun g hg => by have := R.out.vl g hg; have := R.out.ll; omega)) _ _ _ rfl (new_cell _ _ _) rfl (by omega) (by have := R.out.wb; have := R.out.ll; simp; omega) ?_; intro gR2 cR2 F1 hw hg hd; have f0 : F1.cell? ⟨V.heap.size, 0, none⟩ = some (.slice (some ⟨gR1, 0, none⟩) 1 cR1) := ((R.out.o.alloc _).grown hg R.out.on).c 0 rfl; have f1 : F1.frozen? ⟨V.heap.size, 0, none⟩ = false := ((R.out.o.alloc _).grown hg R.out.on).f 0; have f2 : V.heap.size < F1.heap.size := ((R.out.o.alloc _).grown hg R.out.on).lt; have RW := Lib.hid (R.out.next O.out hw hg hd.out rfl); clear hw hg hd x0 g0 l0)
  clear R O T
  obtain ⟨W3, hW3⟩ : ∃ W1, W1 = F1.setCell ⟨V.heap.size, 0, none⟩ (.slice (some ⟨gR2, 0, none⟩) 2 cR2) := ⟨_, rfl⟩
  rw [← hW3]
  have R2 := RW
  rw [← hW3] at R2
  clear RW f0 f1 f2 hW3
  -- row 2
  rw [rounds_succ]
  go_wp2_with fail
  obtain ⟨E2, hC0⟩ : ∃ C, C = W3.alloc (.cells #[] 2) := ⟨_, rfl⟩
  rw [← hC0]
  have O : Hid (OwnI E2 (W3.heap.size) (.slice (some ⟨W3.heap.size, 0, none⟩) 0 0) 0 []) := by show OwnI _ _ _ _ _; rw [hC0]; exact OwnI.empty _ _ (Nat.le_refl _)
  have T : Hid (Below (W3.heap.size) W3 E2) := by show Below _ _ _; rw [hC0]; exact blAlloc _ _
  clear hC0
  refine wp_loop_rounds 4 ?_
  -- place 2 0
  rw [rounds_succ]
  have TW : Hid (Below V.heap.size V E2) := R2.out.b.trans (T.out.mono (Nat.le_trans R2.out.wl (Nat.le_of_lt R2.out.ol)))
  go_wp2_with fail
  refine (sMinor_02 _ _ _ _ _ rs _ _ (HV.out.bel TW.out) h0 (cell_later TW.out CV.out)).mono ?_
  rintro e w' ⟨rfl, r, rfl⟩
  have mb := mnr_b2 HQB.out 0 2
  obtain ⟨mi, hmi⟩ : ∃ mi, mi = mnr (fl rs) 0 2 := ⟨_, rfl⟩
  rw [← hmi] at mb ⊢
  have HF : Hid (invQ (fl rs) 6 = rnd (mi * 65536) sm) := by
    show _ = _
    have e : invQ (fl rs) 6 = nsg (mnr (fl rs) 0 2 * 65536) (smD (fl rs)) := rfl
    rw [e, ← HSE.out, ← hmi]
    unfold nsg
    rw [if_neg (by omega)]
  clear hmi
  have O2 := Lib.hid (O.out.drewN r)
  have T2 := Lib.hid (T.out.trans (below_drewN _ r _))
  clear O T TW
  go_wp2_with (first | (go_at_call 91; refine (sRound_any _ _ _ (by omega) (by omega) (by omega) (by omega)).mono ?_; rintro e w' ⟨rfl, rfl⟩) | (at_builtin; refine wpList_append_i64 _ rfl _ _ rfl (W3.heap.size) _ 0 _ rfl (O2.out.alloc _) _ _ (rnd (mi * 65536) sm) rfl (new_cell _ _ _) (by omega) (by have := T2.out.size; simp at *; omega) ?_; intro v3 D6 ho3 hg3 hgb))
  have O : Hid (OwnI D6 (W3.heap.size) v3 1 [invQ (fl rs) 6]) := by show OwnI _ _ _ _ _; rw [HF.out]; exact ho3
  have T : Hid (Below (W3.heap.size) W3 D6) := (blThenAlloc T2.out _).trans (gb_low' hg3 hgb (Nat.le_refl _) (by have := T2.out.size; simp at *; omega))
  clear ho3 hg3 hgb O2 T2 HF mb
  obtain ⟨A6, c6, rfl⟩ := O.out.form
  go_wp2_with fail
  -- place 2 1
  rw [rounds_succ]
  have TW : Hid (Below V.heap.size V D6) := R2.out.b.trans (T.out.mono (Nat.le_trans R2.out.wl (Nat.le_of_lt R2.out.ol)))
  go_wp2_with fail
  refine (sMinor_12 _ _ _ _ _ rs _ _ (HV.out.bel TW.out) h0 (cell_later TW.out CV.out)).mono ?_
  rintro e w' ⟨rfl, r, rfl⟩
  have mb := mnr_b2 HQB.out 1 2
  obtain ⟨mi, hmi⟩ : ∃ mi, mi = mnr (fl rs) 1 2 := ⟨_, rfl⟩
  rw [← hmi] at mb ⊢
  have HF : Hid (invQ (fl rs) 7 = rnd (mi * 65536) sm) := by
    show _ = _
    have e : invQ (fl rs) 7 = nsg (mnr (fl rs) 1 2 * 65536) (smD (fl rs)) := rfl
    rw [e, ← HSE.out, ← hmi]
    unfold nsg
    rw [if_neg (by omega)]
  clear hmi
  have O2 := Lib.hid (O.out.drewN r)
  have T2 := Lib.hid (T.out.trans (below_drewN _ r _))
  clear O T TW
  go_wp2_with (first | (go_at_call 91; refine (sRound_any _ _ _ (by omega) (by omega) (by omega) (by omega)).mono ?_; rintro e w' ⟨rfl, rfl⟩) | (at_builtin; refine wpList_append_i64 _ rfl _ _ rfl (W3.heap.size) _ 1 _ rfl (O2.out.alloc _) _ _ (rnd (mi * 65536) sm) rfl (new_cell _ _ _) (by omega) (by have := T2.out.size; simp at *; omega) ?_; intro v3 D7 ho3 hg3 hgb))
  have O : Hid (OwnI D7 (W3.heap.size) v3 2 [invQ (fl rs) 6, invQ (fl rs) 7]) := by show OwnI _ _ _ _ _; rw [HF.out]; exact ho3
  have T : Hid (Below (W3.heap.size) W3 D7) := (blThenAlloc T2.out _).trans (gb_low' hg3 hgb (Nat.le_refl _) (by have := T2.out.size; simp at *; omega))
  clear ho3 hg3 hgb O2 T2 HF mb
  obtain ⟨A7, c7, rfl⟩ := O.out.form
  go_wp2_with fail
  -- place 2 2
  rw [rounds_succ]
  have TW : Hid (Below V.heap.size V D7) := R2.out.b.trans (T.out.mono (Nat.le_trans R2.out.wl (Nat.le_of_lt R2.out.ol)))
  go_wp2_with fail
  refine (sMinor_22 _ _ _ _ _ rs _ _ (HV.out.bel TW.out) h0 (cell_later TW.out CV.out)).mono ?_
  rintro e w' ⟨rfl, r, rfl⟩
  have mb := mnr_b2 HQB.out 2 2
  obtain ⟨mi, hmi⟩ : ∃ mi, mi = mnr (fl rs) 2 2 := ⟨_, rfl⟩
  rw [← hmi] at mb ⊢
  have HF : Hid (invQ (fl rs) 8 = rnd (mi * 65536) sm) := by
    show _ = _
    have e : invQ (fl rs) 8 = nsg (mnr (fl rs) 2 2 * 65536) (smD (fl rs)) := rfl
    rw [e, ← HSE.out, ← hmi]
    unfold nsg
    rw [if_neg (by omega)]
  clear hmi
  have O2 := Lib.hid (O.out.drewN r)
  have T2 := Lib.hid (T.out.trans (below_drewN _ r _))
  clear O T TW
  go_wp2_with (first | (go_at_call 91; refine (sRound_any _ _ _ (by omega) (by omega) (by omega) (by omega)).mono ?_; rintro e w' ⟨rfl, rfl⟩) | (at_builtin; refine wpList_append_i64 _ rfl _ _ rfl (W3.heap.size) _ 2 _ rfl (O2.out.alloc _) _ _ (rnd (mi * 65536) sm) rfl (new_cell _ _ _) (by omega) (by have := T2.out.size; simp at *; omega) ?_; intro v3 D8 ho3 hg3 hgb))
  have O : Hid (OwnI D8 (W3.heap.size) v3 3 [invQ (fl rs) 6, invQ (fl rs) 7, invQ (fl rs) 8]) := by show OwnI _ _ _ _ _; rw [HF.out]; exact ho3
  have T : Hid (Below (W3.heap.size) W3 D8) := (blThenAlloc T2.out _).trans (gb_low' hg3 hgb (Nat.le_refl _) (by have := T2.out.size; simp at *; omega))
  clear ho3 hg3 hgb O2 T2 HF mb
  obtain ⟨A8, c8, rfl⟩ := O.out.form
  go_wp2_with fail
  -- behind row 2
  rw [rounds_succ]
  obtain ⟨q2, k2, hq, hq1, hq2⟩ := World.ownsRow.form O.out (by omega)
  cases hq
  have R := Lib.hid (R2.out.bel T.out)
  have x0 := R.out.o.c 0 rfl
  have g0 := R.out.o.f 0
  have l0 := R.out.o.lt
  go_wp2_with (at_builtin; refine wpList_append_row _ rfl _ _ rfl (V.heap.size + 1) _ 2 3 rfl _ rfl (R.out.rows.low (blAlloc _ _) (fun g hg => by have := R.out.vl g hg; have := R.out.ll; omega)) _ _ _ rfl (new_cell _ _ _) rfl (by omega) (by have := R.out.wb; have := R.out.ll; simp; omega) ?_; intro gR3 cR3 F2 hw hg hd; have f0 : F2.cell? ⟨V.heap.size, 0, none⟩ = some (.slice (some ⟨gR2, 0, none⟩) 2 cR2) := ((R.out.o.alloc _).grown hg R.out.on).c 0 rfl; have f1 : F2.frozen? ⟨V.heap.size, 0, none⟩ = false := ((R.out.o.alloc _).grown hg R.out.on).f 0; have f2 : V.heap.size < F2.heap.size := ((R.out.o.alloc _).grown hg R.out.on).lt; have RW := Lib.hid (R.out.next O.out hw hg hd.out rfl); clear hw hg hd x0 g0 l0)
  clear R O T
  obtain ⟨W4, hW4⟩ : ∃ W1, W1 = F2.setCell ⟨V.heap.size, 0, none⟩ (.slice (some ⟨gR3, 0, none⟩) 3 cR3) := ⟨_, rfl⟩
  rw [← hW4]
  have R3 := RW
  rw [← hW4] at R3
  clear RW f0 f1 f2 hW4
  rw [rounds_succ]
  obtain ⟨gR, capR, hvR, HOWN⟩ := R3.out.own
  cases hvR
  have OW : Hid (Own W4 (rowsD (rs9 (invQ (fl rs)))) (.slice (some ⟨gR3, 0, none⟩) 3 cR3) (V.heap.size + 1) W4.heap.size) := HOWN
  clear HOWN
  have x0 := R3.out.o.c 0 rfl
  have y3 := R3.out.o.lt
  go_wp2_with fail
  refine (sHeld4_any _ _ _ _ _ _ _ OW.out (Nat.le_refl _)).mono ?_
  rintro e w5 ⟨G3, n3, c3, rfl, ho, hb⟩
  have RR := Lib.hid (R3.out.r.bel hb)
  have TT := Lib.hid (blThen (blThen TV.out R3.out.b) hb)
  have HO3 := Lib.hid ho
  have HS3 := Lib.hid hb.size
  have HVS := Lib.hid TV.out.size
  clear ho hb x0 y3
  have r0 := RR.out.c 0 rfl
  have r1 := RR.out.c 1 rfl
  have z0 := RR.out.f 0
  have z1 := RR.out.f 1
  have m2 := RR.out.lt
  have k0 := ((RR.out.set 0 (.int .i64 (maC (invQ (fl rs))))).set 1 (.slice G3 n3 c3)).c 0 rfl
  have k1 := ((RR.out.set 0 (.int .i64 (maC (invQ (fl rs))))).set 1 (.slice G3 n3 c3)).c 1 rfl
  go_wp2_with fail
  refine bodyPost_ret (v := .agg #[.int .i64 (maC (invQ (fl rs))), .slice G3 n3 c3]) (by simp [results, Try.results34, go_sem, k0, k1]) rfl ⟨_, _, _, by rw [HA.out.1], ?_, ?_⟩
  · rw [HA.out.2]
    refine Own.mono (lo := V.heap.size + 1) (hi := W4.heap.size) ?_ (by have := HVS.out; omega) (by simp only [setSize]; have := HS3.out; omega)
    repeat (refine Own.set ?_ (.inl (by have := HRV.out; omega)) _ _)
    exact HO3.out
  · repeat (refine Below.setCell ?_ (by simp; try omega) _)
    exact TT.out
set_option maxRecDepth 100000 in
set_option maxHeartbeats 4000000 in
theorem sInvertMatrix_any (A : Option Addr) (n c : Nat) (rs : Rws) (bs : List Nat) (w : World) (h : Hd w (rowsD rs) (.slice A n c) bs) :
    Calls Try.prog 34 #[.agg #[.slice A n c]] w (MAns w (ivC rs) (ivR rs)) := by
  by_cases hok : mf rs = 0 ∧ smD (fl rs) ≠ 0
  · by_cases hn : smD (fl rs) < 0
    · exact sInv_neg A n c rs bs w h hok.1 hok.2 hn
    · exact sInv_pos A n c rs bs w h hok.1 hok.2 hn
  obtain ⟨W0, hW0⟩ : ∃ W0, W0 = (w.alloc (.cells #[.slice A n c] 24)).alloc (.cells #[.int .i64 0, .slice none 0 0] 26) := ⟨_, rfl⟩
  have a0 : Hid (Bx W0 w.heap.size [.slice A n c]) := by show Bx _ _ _; rw [hW0]; exact (Bx.new _ _ _ rfl).alloc _
  have R : Hid (Bx W0 (w.heap.size + 1) [.int .i64 0, .slice none 0 0]) := by show Bx _ _ _; rw [hW0]; exact Bx.new _ _ _ (by simp)
  have T : Hid (Below w.heap.size w W0) := by show Below _ _ _; rw [hW0]; exact blThenAlloc (blAlloc _ _) _
  have H := Lib.hid (h.bel T.out)
  have HW := Lib.hid hW0
  clear h hW0
  have r0 := R.out.c 0 rfl
  have r1 := R.out.c 1 rfl
  have z0 := R.out.f 0
  have z1 := R.out.f 1
  have m2 := R.out.lt
  go_enter Try.func34, Try.ntmps34
  go_wp2_with fail
  rw [← HW.out]
  refine (sFault4_any _ _ _ _ _ rs _ _ H.out (a0.out.c 0 rfl)).mono ?_
  rintro e w1 ⟨rfl, rfl⟩
  by_cases h0 : mf rs = 0
  · have hz : smD (fl rs) = 0 := by
      by_cases q : smD (fl rs) = 0
      · exact q
      · exact absurd ⟨h0, q⟩ hok
    have HA := Lib.hid (iv_z h0 hz)
    have HDB := Lib.hid (det_bd (fl_Q9 h0))
    have HSM : Hid (rnd (det (fl rs)) 65536 = 0) := hz
    rw [h0]
    go_wp2_with fail
    refine (sDet4_any _ _ _ _ _ rs _ _ H.out h0 (a0.out.c 0 rfl)).mono ?_
    rintro e w1 ⟨rfl, m, rfl⟩
    go_wp2_with fail
    refine (sRound_any (det (fl rs)) 65536 _ (by omega) (by omega) (by have := HDB.out; omega) (by have := HDB.out; omega)).mono ?_
    rintro e w1 ⟨rfl, rfl⟩
    rw [HSM.out]
    have RD := Lib.hid (R.out.drewN m)
    have k0 := ((RD.out.set 0 (.int .i64 6)).set 1 (.slice none 0 0)).c 0 rfl
    have k1 := ((RD.out.set 0 (.int .i64 6)).set 1 (.slice none 0 0)).c 1 rfl
    have T2 := Lib.hid (blThenDrew T.out m)
    go_wp2_with fail
    refine bodyPost_ret (v := .agg #[.int .i64 6, .slice none 0 0]) (by simp [results, Try.results34, go_sem, r0, r1]) rfl (MAns.bad HA.out ?_)
    repeat (refine Below.setCell ?_ (by simp; try omega) _)
    exact T2.out
  · have HA := Lib.hid (iv_f h0)
    obtain ⟨f, hf⟩ : ∃ f, f = mf rs := ⟨_, rfl⟩
    rw [← hf] at h0 HA ⊢
    clear hf
    have k0 := ((R.out.set 0 (.int .i64 f)).set 1 (.slice none 0 0)).c 0 rfl
    have k1 := ((R.out.set 0 (.int .i64 f)).set 1 (.slice none 0 0)).c 1 rfl
    go_wp2_with fail
    refine bodyPost_ret (v := .agg #[.int .i64 f, .slice none 0 0]) (by simp [results, Try.results34, go_sem, k0, k1]) rfl (MAns.bad HA.out ?_)
    repeat (refine Below.setCell ?_ (by simp; try omega) _)
    exact T.out
end Go.Proofs.Ytibclnkiahengaa
