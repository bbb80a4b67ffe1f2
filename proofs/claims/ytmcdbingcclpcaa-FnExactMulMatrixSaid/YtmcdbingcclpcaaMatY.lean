/-
  The product of two matrices by the reference model: l4Held, l4Mul, MulMatrix; the whole of the program's MulMatrix.
-/
import Derived.Test.YtmcdbingcclpcaaMatX
import Derived.Test.YtmcdbingcclpcaaRowG
import Derived.Test.YtmcdbingcclpcaaMatQ
namespace Go.Proofs.Ytmcdbingcclpcaa
open Go.RowKit
set_option linter.unusedVariables false
set_option linter.unusedSimpArgs false

def rs9 (q : Nat → Int) : Rws := [[q 0, q 1, q 2], [q 3, q 4, q 5], [q 6, q 7, q 8]]
theorem mf_rs9 (q : Nat → Int) : (all9 q = true → mf (rs9 q) = 0) ∧ (all9 q = false → mf (rs9 q) ≠ 0) := by
  constructor
  · intro h
    have h' := all9_iff.1 h
    refine mf_ok rfl fun j hj => rowF_ok ?_ fun k hk => ?_
    · match j, hj with
      | 0, _ => rfl
      | 1, _ => rfl
      | 2, _ => rfl
    · match j, hj, k, hk with
      | 0, _, 0, _ => exact h' 0 (by omega)
      | 0, _, 1, _ => exact h' 1 (by omega)
      | 0, _, 2, _ => exact h' 2 (by omega)
      | 1, _, 0, _ => exact h' 3 (by omega)
      | 1, _, 1, _ => exact h' 4 (by omega)
      | 1, _, 2, _ => exact h' 5 (by omega)
      | 2, _, 0, _ => exact h' 6 (by omega)
      | 2, _, 1, _ => exact h' 7 (by omega)
      | 2, _, 2, _ => exact h' 8 (by omega)
  · intro h e
    have : all9 q = true := all9_iff.2 fun t ht => by
      have := cel_iff.2 (fl_bd e t ht)
      match t, ht with
      | 0, _ | 1, _ | 2, _ | 3, _ | 4, _ | 5, _ | 6, _ | 7, _ | 8, _ => exact this
    rw [this] at h; cases h
set_option maxRecDepth 100000 in
set_option maxHeartbeats 2000000 in
theorem sHeld4_any (G : Option Addr) (n c lo hi : Nat) (q : Nat → Int) (w : World) (h : Own w (rowsD (rs9 q)) (.slice G n c) lo hi) (hh : hi ≤ w.heap.size) :
    Calls Try.prog 90 #[.agg #[.slice G n c]] w fun e w' => ∃ G' n' c', e = .returned (.agg #[.int .i64 (maC q), .slice G' n' c']) ∧ Own w' (rowsD (maR q)) (.slice G' n' c') lo hi ∧ Below w.heap.size w w' := by
  obtain ⟨W0, hW0⟩ : ∃ W0, W0 = (w.alloc (.cells #[.slice G n c] 26)).alloc (.cells #[.int .i64 0, .slice none 0 0] 36) := ⟨_, rfl⟩
  have a0 : Hid (Bx W0 w.heap.size [.slice G n c]) := by show Bx _ _ _; rw [hW0]; exact (Bx.new _ _ _ rfl).alloc _
  have R : Hid (Bx W0 (w.heap.size + 1) [.int .i64 0, .slice none 0 0]) := by show Bx _ _ _; rw [hW0]; exact Bx.new _ _ _ (by simp)
  have T : Hid (Below w.heap.size w W0) := by show Below _ _ _; rw [hW0]; exact blThenAlloc (blAlloc _ _) _
  have HO := Lib.hid h
  have HW := Lib.hid hW0
  clear h hW0
  have H : Hid (Own W0 (rowsD (rs9 q)) (.slice G n c) lo hi) := HO.out.below T.out
  have r0 := R.out.c 0 rfl
  have r1 := R.out.c 1 rfl
  have z0 := R.out.f 0
  have z1 := R.out.f 1
  have m2 := R.out.lt
  have x0 := a0.out.c 0 rfl
  go_enter Try.func90, Try.ntmps90
  go_wp2_with fail
  rw [← HW.out]
  refine (sFault4_any _ _ _ _ _ (rs9 q) _ _ H.out.hd.choose_spec (a0.out.c 0 rfl)).mono ?_
  rintro e w1 ⟨rfl, rfl⟩
  rcases Bool.eq_false_or_eq_true (all9 q) with ha | ha
  · have hm := (mf_rs9 q).1 ha
    have HA := Lib.hid (ma_y (all9_iff.1 ha))
    rw [hm]
    clear hm ha
    have k0 := ((R.out.set 0 (.int .i64 0)).set 1 (.slice G n c)).c 0 rfl
    have k1 := ((R.out.set 0 (.int .i64 0)).set 1 (.slice G n c)).c 1 rfl
    go_wp2_with fail
    refine bodyPost_ret (v := .agg #[.int .i64 0, .slice G n c]) (by simp [results, Try.results90, go_sem, k0, k1]) rfl ⟨_, _, _, by rw [HA.out.1], ?_, ?_⟩
    · rw [HA.out.2]
      repeat (refine Own.set ?_ (.inr (by omega)) _ _)
      exact H.out
    · repeat (refine Below.setCell ?_ (by simp; try omega) _)
      exact T.out
  · have hm := (mf_rs9 q).2 ha
    have HA : Hid (maC q = 7 ∧ maR q = []) := by
      have e : ¬ all9 q = true := by rw [ha]; simp
      exact ⟨by unfold maC; rw [if_neg e], by unfold maR; rw [if_neg e]⟩
    have k0 := ((R.out.set 0 (.int .i64 7)).set 1 (.slice none 0 0)).c 0 rfl
    have k1 := ((R.out.set 0 (.int .i64 7)).set 1 (.slice none 0 0)).c 1 rfl
    obtain ⟨f, hf⟩ : ∃ f, f = mf (rs9 q) := ⟨_, rfl⟩
    rw [← hf] at hm ⊢
    clear hf ha
    go_wp2_with fail
    refine bodyPost_ret (v := .agg #[.int .i64 7, .slice none 0 0]) (by simp [results, Try.results90, go_sem, k0, k1]) rfl ⟨none, 0, 0, by rw [HA.out.1], by rw [HA.out.2]; exact Own.snil _ _ _ _ _ _ (Nat.zero_le _), ?_⟩
    repeat (refine Below.setCell ?_ (by simp; try omega) _)
    exact T.out
def mlP (p q : Nat → Int) (i k j : Nat) : Int := (if 0 < j then p (3 * i) * q k else 0) + (if 1 < j then p (3 * i + 1) * q (3 + k) else 0) + (if 2 < j then p (3 * i + 2) * q (6 + k) else 0)
theorem mlP_bd {p q : Nat → Int} {i k : Nat} (hi : i < 3) (hk : k < 3) (hp : Q9 p) (hq : Q9 q) (j : Nat) : -300000000000 ≤ mlP p q i k j ∧ mlP p q i k j ≤ 300000000000 := by
  have b0 := mq_bd hp hq (s := 3 * i) (t := k) (by omega) (by omega)
  have b1 := mq_bd hp hq (s := 3 * i + 1) (t := 3 + k) (by omega) (by omega)
  have b2 := mq_bd hp hq (s := 3 * i + 2) (t := 6 + k) (by omega) (by omega)
  unfold mlP
  split <;> split <;> split <;> omega
theorem mlP_step {p q : Nat → Int} {i k j : Nat} (hj : j < 3) : mlP p q i k (j + 1) = mlP p q i k j + p (3 * i + j) * q (3 * j + k) := by
  unfold mlP
  match j, hj with
  | 0, _ => simp
  | 1, _ => simp
  | 2, _ => simp
theorem mlP_all (p q : Nat → Int) (i k : Nat) (hk : k < 3) : mlP p q i k 3 = mulS p q (3 * i + k) := by
  unfold mlP mulS
  rw [show (3 * i + k) / 3 = i by omega, show (3 * i + k) % 3 = k by omega]
  simp
set_option maxRecDepth 100000 in
set_option maxHeartbeats 16000000 in
theorem sMul4_any (g o g' o' : Nat) (A A' : Option Addr) (n n' c c' : Nat) (rs us : Rws) (bs bs' : List Nat) (w : World) (h : Hd w (rowsD rs) (.slice A n c) bs) (h' : Hd w (rowsD us) (.slice A' n' c') bs') (hg : w.cell? ⟨g, o, none⟩ = some (.slice A n c)) (hg' : w.cell? ⟨g', o', none⟩ = some (.slice A' n' c')) (h0 : mf rs = 0) (h1 : mf us = 0) :
    Calls Try.prog 91 #[.pointer (some ⟨g, o, none⟩), .pointer (some ⟨g', o', none⟩)] w (RsAns w (rs9 (mulQ (fl rs) (fl us)))) := by
  obtain rfl : n = 3 := by rw [← h.rows.1]; exact (mf_zero h0).1
  obtain rfl : n' = 3 := by rw [← h'.rows.1]; exact (mf_zero h1).1
  have H := Lib.hid h
  have H' := Lib.hid h'
  have HG := Lib.hid hg
  have HG' := Lib.hid hg'
  have HQA : Hid (Q9 (fl rs)) := fl_Q9 h0
  have HQB : Hid (Q9 (fl us)) := fl_Q9 h1
  have HLA := Lib.hid (fun i hi => mf_lens h0 i hi)
  have HLB := Lib.hid (fun i hi => mf_lens h1 i hi)
  obtain ⟨W0, hW0⟩ : ∃ W0, W0 = (w.alloc (.cells #[.slice none 0 0] 26)).alloc (.cells #[.slice none 0 0] 26) := ⟨_, rfl⟩
  have R0 : Hid (RS w W0 W0.heap.size (w.heap.size + 1) (.slice none 0 0) 0 (fun _ => 0) (fun _ => 0) (fun _ => []) w.heap.size [.slice none 0 0] (w.heap.size + 2)) := by
    show RS _ _ _ _ _ _ _ _ _ _ _ _
    have := RS.start w 26 (.slice none 0 0) 26
    rw [hW0, show ((w.alloc (.cells #[.slice none 0 0] 26)).alloc (.cells #[.slice none 0 0] 26)).heap.size = w.heap.size + 2 by simp]
    exact this
  have HW := Lib.hid hW0
  clear h h' hg hg' h0 h1 hW0
  go_enter Try.func91, Try.ntmps91
  go_wp2_with fail
  rw [← HW.out]
  refine wp_loop_rounds 4 ?_
  -- row 0
  rw [rounds_succ]
  go_wp2_with fail
  obtain ⟨E0, hC0⟩ : ∃ C, C = W0.alloc (.cells #[] 2) := ⟨_, rfl⟩
  rw [← hC0]
  have O : Hid (OwnI E0 (W0.heap.size) (.slice (some ⟨W0.heap.size, 0, none⟩) 0 0) 0 []) := by show OwnI _ _ _ _ _; rw [hC0]; exact OwnI.empty _ _ (Nat.le_refl _)
  have T : Hid (Below (W0.heap.size) W0 E0) := by show Below _ _ _; rw [hC0]; exact blAlloc _ _
  clear hC0
  refine wp_loop_rounds 4 ?_
  -- place 0 0
  rw [rounds_succ]
  go_wp2_with fail
  have TW : Hid (Below w.heap.size w E0) := R0.out.b.trans (T.out.mono (Nat.le_trans R0.out.wl (Nat.le_trans (Nat.le_of_lt R0.out.ol) (Nat.le_refl _))))
  go_loopw [9, 10] (fun s x wq => ∃ j r : Nat, j ≤ 3 ∧ x = .int .i64 j ∧ s = .int .i64 (mlP (fl rs) (fl us) 0 0 j) ∧ wq = E0.drewN r) (fun _ x _ => 3 - (intOf x).toNat)
  case atStart => exact ⟨0, 0, by omega, rfl, by simp [mlP], rfl⟩
  case round =>
    obtain ⟨j, r, hj, rfl, rfl, rfl⟩ := hrel
    by_cases hlt : j < 3
    · have TD := TW.out
      obtain ⟨b1, o1, B1, L1, C1, g1, e1, x1, x3, -⟩ := (H.out.bel TD).row (show 0 < 3 by omega)
      obtain ⟨b2, o2, B2, L2, C2, g2, e2, y1, y3, -⟩ := (H'.out.bel TD).row hlt
      have hL1 : L1 = 3 := by rw [← x3.rd.1]; exact HLA.out 0 (by omega)
      have hL2 : L2 = 3 := by rw [← y3.rd.1]; exact HLB.out j hlt
      subst hL1
      subst hL2
      obtain ⟨b3, o3, rfl, x4⟩ := x3.rd.2 (by omega)
      obtain ⟨b4, o4, rfl, y4⟩ := y3.rd.2 (by omega)
      have u1 := x4 j hlt
      have u2 := y4 0 (by omega)
      rw [← fl_at rs 0 j hlt] at u1
      rw [← fl_at us j 0 (by omega)] at u2
      have gg := cell_later TD HG.out
      have gg' := cell_later TD HG'.out
      rw [e1] at gg
      rw [e2] at gg'
      have hc1 := x3.caps.1
      have hc2 := y3.caps.1
      have bd1 := mq_bd HQA.out HQB.out (s := 3 * 0 + j) (t := 3 * j + 0) (by omega) (by omega)
      have bd2 := mlP_bd (show 0 < 3 by omega) (show 0 < 3 by omega) HQA.out HQB.out j
      have HS : Hid (mlP (fl rs) (fl us) 0 0 (j + 1) = mlP (fl rs) (fl us) 0 0 j + fl rs (3 * 0 + j) * fl us (3 * j + 0)) := mlP_step hlt
      obtain ⟨s, hs⟩ : ∃ s, s = mlP (fl rs) (fl us) 0 0 j := ⟨_, rfl⟩
      obtain ⟨a, ha⟩ : ∃ a, a = fl rs (3 * 0 + j) := ⟨_, rfl⟩
      obtain ⟨d, hd⟩ : ∃ d, d = fl us (3 * j + 0) := ⟨_, rfl⟩
      rw [← hs, ← ha, ← hd] at HS
      rw [← ha] at u1
      rw [← hd] at u2
      rw [← ha, ← hd] at bd1
      rw [← hs] at bd2 ⊢
      clear hs ha hd x3 y3 x4 y4 e1 e2 TD
      (try simp only [Nat.add_zero] at x1)
      (try simp only [Nat.add_zero] at u2)
      go_wp2_with fail
      go_quiet (fail)
      go_wp2_with fail
      go_roundw
      case rel => exact ⟨j + 1, _, by omega, by go_num, by rw [HS.out], rfl⟩
      case measure => simp [intOf]; omega
    obtain rfl : j = 3 := by omega
    have HS : Hid (mlP (fl rs) (fl us) 0 0 3 = mulS (fl rs) (fl us) 0) := mlP_all (fl rs) (fl us) 0 0 (by omega)
    have b2 := mlP_bd (show 0 < 3 by omega) (show 0 < 3 by omega) HQA.out HQB.out 3
    rw [HS.out] at b2 ⊢
    have HV : Hid (mulQ (fl rs) (fl us) 0 = rnd (mulS (fl rs) (fl us) 0) 65536) := rfl
    obtain ⟨z, hz⟩ : ∃ z, z = mulS (fl rs) (fl us) 0 := ⟨_, rfl⟩
    rw [← hz] at b2 HV ⊢
    clear hz HS hlt hj TW
    have O2 := Lib.hid (O.out.drewN r)
    have T2 := Lib.hid (T.out.trans (below_drewN _ r _))
    clear O T
    go_wp2_with fail
    refine (sRound_any _ _ _ (by omega) (by omega) (by omega) (by omega)).mono ?_
    rintro e w1 ⟨rfl, rfl⟩
    go_wp2_with (at_builtin; refine wpList_append_i64 _ rfl _ _ rfl (W0.heap.size) _ 0 _ rfl (O2.out.alloc _) _ _ (rnd z 65536) rfl (new_cell _ _ _) (by omega) (by have := T2.out.size; simp at *; omega) ?_; intro v3 D0 ho3 hg3 hgb)
    have O : Hid (OwnI D0 (W0.heap.size) v3 1 [mulQ (fl rs) (fl us) 0]) := by show OwnI _ _ _ _ _; rw [HV.out]; exact ho3
    have T : Hid (Below (W0.heap.size) W0 D0) := (blThenAlloc T2.out _).trans (gb_low' hg3 hgb (Nat.le_refl _) (by have := T2.out.size; simp at *; omega))
    clear ho3 hg3 hgb O2 T2 HV b2
    obtain ⟨A0, c0, rfl⟩ := O.out.form
    go_wp2_with fail
    -- place 0 1
    rw [rounds_succ]
    go_wp2_with fail
    have TW : Hid (Below w.heap.size w D0) := R0.out.b.trans (T.out.mono (Nat.le_trans R0.out.wl (Nat.le_trans (Nat.le_of_lt R0.out.ol) (Nat.le_refl _))))
    go_loopw [9, 10] (fun s x wq => ∃ j r : Nat, j ≤ 3 ∧ x = .int .i64 j ∧ s = .int .i64 (mlP (fl rs) (fl us) 0 1 j) ∧ wq = D0.drewN r) (fun _ x _ => 3 - (intOf x).toNat)
    case atStart => exact ⟨0, 0, by omega, rfl, by simp [mlP], rfl⟩
    case round =>
      obtain ⟨j, r, hj, rfl, rfl, rfl⟩ := hrel
      by_cases hlt : j < 3
      · have TD := TW.out
        obtain ⟨b1, o1, B1, L1, C1, g1, e1, x1, x3, -⟩ := (H.out.bel TD).row (show 0 < 3 by omega)
        obtain ⟨b2, o2, B2, L2, C2, g2, e2, y1, y3, -⟩ := (H'.out.bel TD).row hlt
        have hL1 : L1 = 3 := by rw [← x3.rd.1]; exact HLA.out 0 (by omega)
        have hL2 : L2 = 3 := by rw [← y3.rd.1]; exact HLB.out j hlt
        subst hL1
        subst hL2
        obtain ⟨b3, o3, rfl, x4⟩ := x3.rd.2 (by omega)
        obtain ⟨b4, o4, rfl, y4⟩ := y3.rd.2 (by omega)
        have u1 := x4 j hlt
        have u2 := y4 1 (by omega)
        rw [← fl_at rs 0 j hlt] at u1
        rw [← fl_at us j 1 (by omega)] at u2
        have gg := cell_later TD HG.out
        have gg' := cell_later TD HG'.out
        rw [e1] at gg
        rw [e2] at gg'
        have hc1 := x3.caps.1
        have hc2 := y3.caps.1
        have bd1 := mq_bd HQA.out HQB.out (s := 3 * 0 + j) (t := 3 * j + 1) (by omega) (by omega)
        have bd2 := mlP_bd (show 0 < 3 by omega) (show 1 < 3 by omega) HQA.out HQB.out j
        have HS : Hid (mlP (fl rs) (fl us) 0 1 (j + 1) = mlP (fl rs) (fl us) 0 1 j + fl rs (3 * 0 + j) * fl us (3 * j + 1)) := mlP_step hlt
        obtain ⟨s, hs⟩ : ∃ s, s = mlP (fl rs) (fl us) 0 1 j := ⟨_, rfl⟩
        obtain ⟨a, ha⟩ : ∃ a, a = fl rs (3 * 0 + j) := ⟨_, rfl⟩
        obtain ⟨d, hd⟩ : ∃ d, d = fl us (3 * j + 1) := ⟨_, rfl⟩
        rw [← hs, ← ha, ← hd] at HS
        rw [← ha] at u1
        rw [← hd] at u2
        rw [← ha, ← hd] at bd1
        rw [← hs] at bd2 ⊢
        clear hs ha hd x3 y3 x4 y4 e1 e2 TD
        (try simp only [Nat.add_zero] at x1)
        (try simp only [Nat.add_zero] at u2)
        go_wp2_with fail
        go_quiet (fail)
        go_wp2_with fail
        go_roundw
        case rel => exact ⟨j + 1, _, by omega, by go_num, by rw [HS.out], rfl⟩
        case measure => simp [intOf]; omega
      obtain rfl : j = 3 := by omega
      have HS : Hid (mlP (fl rs) (fl us) 0 1 3 = mulS (fl rs) (fl us) 1) := mlP_all (fl rs) (fl us) 0 1 (by omega)
      have b2 := mlP_bd (show 0 < 3 by omega) (show 1 < 3 by omega) HQA.out HQB.out 3
      rw [HS.out] at b2 ⊢
      have HV : Hid (mulQ (fl rs) (fl us) 1 = rnd (mulS (fl rs) (fl us) 1) 65536) := rfl
      obtain ⟨z, hz⟩ : ∃ z, z = mulS (fl rs) (fl us) 1 := ⟨_, rfl⟩
      rw [← hz] at b2 HV ⊢
      clear hz HS hlt hj TW
      have O2 := Lib.hid (O.out.drewN r)
      have T2 := Lib.hid (T.out.trans (below_drewN _ r _))
      clear O T
      go_wp2_with fail
      refine (sRound_any _ _ _ (by omega) (by omega) (by omega) (by omega)).mono ?_
      rintro e w1 ⟨rfl, rfl⟩
      go_wp2_with (at_builtin; refine wpList_append_i64 _ rfl _ _ rfl (W0.heap.size) _ 1 _ rfl (O2.out.alloc _) _ _ (rnd z 65536) rfl (new_cell _ _ _) (by omega) (by have := T2.out.size; simp at *; omega) ?_; intro v3 D1 ho3 hg3 hgb)
      have O : Hid (OwnI D1 (W0.heap.size) v3 2 [mulQ (fl rs) (fl us) 0, mulQ (fl rs) (fl us) 1]) := by show OwnI _ _ _ _ _; rw [HV.out]; exact ho3
      have T : Hid (Below (W0.heap.size) W0 D1) := (blThenAlloc T2.out _).trans (gb_low' hg3 hgb (Nat.le_refl _) (by have := T2.out.size; simp at *; omega))
      clear ho3 hg3 hgb O2 T2 HV b2
      obtain ⟨A1, c1, rfl⟩ := O.out.form
      go_wp2_with fail
      -- place 0 2
      rw [rounds_succ]
      go_wp2_with fail
      have TW : Hid (Below w.heap.size w D1) := R0.out.b.trans (T.out.mono (Nat.le_trans R0.out.wl (Nat.le_trans (Nat.le_of_lt R0.out.ol) (Nat.le_refl _))))
      go_loopw [9, 10] (fun s x wq => ∃ j r : Nat, j ≤ 3 ∧ x = .int .i64 j ∧ s = .int .i64 (mlP (fl rs) (fl us) 0 2 j) ∧ wq = D1.drewN r) (fun _ x _ => 3 - (intOf x).toNat)
      case atStart => exact ⟨0, 0, by omega, rfl, by simp [mlP], rfl⟩
      case round =>
        obtain ⟨j, r, hj, rfl, rfl, rfl⟩ := hrel
        by_cases hlt : j < 3
        · have TD := TW.out
          obtain ⟨b1, o1, B1, L1, C1, g1, e1, x1, x3, -⟩ := (H.out.bel TD).row (show 0 < 3 by omega)
          obtain ⟨b2, o2, B2, L2, C2, g2, e2, y1, y3, -⟩ := (H'.out.bel TD).row hlt
          have hL1 : L1 = 3 := by rw [← x3.rd.1]; exact HLA.out 0 (by omega)
          have hL2 : L2 = 3 := by rw [← y3.rd.1]; exact HLB.out j hlt
          subst hL1
          subst hL2
          obtain ⟨b3, o3, rfl, x4⟩ := x3.rd.2 (by omega)
          obtain ⟨b4, o4, rfl, y4⟩ := y3.rd.2 (by omega)
          have u1 := x4 j hlt
          have u2 := y4 2 (by omega)
          rw [← fl_at rs 0 j hlt] at u1
          rw [← fl_at us j 2 (by omega)] at u2
          have gg := cell_later TD HG.out
          have gg' := cell_later TD HG'.out
          rw [e1] at gg
          rw [e2] at gg'
          have hc1 := x3.caps.1
          have hc2 := y3.caps.1
          have bd1 := mq_bd HQA.out HQB.out (s := 3 * 0 + j) (t := 3 * j + 2) (by omega) (by omega)
          have bd2 := mlP_bd (show 0 < 3 by omega) (show 2 < 3 by omega) HQA.out HQB.out j
          have HS : Hid (mlP (fl rs) (fl us) 0 2 (j + 1) = mlP (fl rs) (fl us) 0 2 j + fl rs (3 * 0 + j) * fl us (3 * j + 2)) := mlP_step hlt
          obtain ⟨s, hs⟩ : ∃ s, s = mlP (fl rs) (fl us) 0 2 j := ⟨_, rfl⟩
          obtain ⟨a, ha⟩ : ∃ a, a = fl rs (3 * 0 + j) := ⟨_, rfl⟩
          obtain ⟨d, hd⟩ : ∃ d, d = fl us (3 * j + 2) := ⟨_, rfl⟩
          rw [← hs, ← ha, ← hd] at HS
          rw [← ha] at u1
          rw [← hd] at u2
          rw [← ha, ← hd] at bd1
          rw [← hs] at bd2 ⊢
          clear hs ha hd x3 y3 x4 y4 e1 e2 TD
          (try simp only [Nat.add_zero] at x1)
          (try simp only [Nat.add_zero] at u2)
          go_wp2_with fail
          go_quiet (fail)
          go_wp2_with fail
          go_roundw
          case rel => exact ⟨j + 1, _, by omega, by go_num, by rw [HS.out], rfl⟩
          case measure => simp [intOf]; omega
        obtain rfl : j = 3 := by omega
        have HS : Hid (mlP (fl rs) (fl us) 0 2 3 = mulS (fl rs) (fl us) 2) := mlP_all (fl rs) (fl us) 0 2 (by omega)
        have b2 := mlP_bd (show 0 < 3 by omega) (show 2 < 3 by omega) HQA.out HQB.out 3
        rw [HS.out] at b2 ⊢
        have HV : Hid (mulQ (fl rs) (fl us) 2 = rnd (mulS (fl rs) (fl us) 2) 65536) := rfl
        obtain ⟨z, hz⟩ : ∃ z, z = mulS (fl rs) (fl us) 2 := ⟨_, rfl⟩
        rw [← hz] at b2 HV ⊢
        clear hz HS hlt hj TW
        have O2 := Lib.hid (O.out.drewN r)
        have T2 := Lib.hid (T.out.trans (below_drewN _ r _))
        clear O T
        go_wp2_with fail
        refine (sRound_any _ _ _ (by omega) (by omega) (by omega) (by omega)).mono ?_
        rintro e w1 ⟨rfl, rfl⟩
        go_wp2_with (at_builtin; refine wpList_append_i64 _ rfl _ _ rfl (W0.heap.size) _ 2 _ rfl (O2.out.alloc _) _ _ (rnd z 65536) rfl (new_cell _ _ _) (by omega) (by have := T2.out.size; simp at *; omega) ?_; intro v3 D2 ho3 hg3 hgb)
        have O : Hid (OwnI D2 (W0.heap.size) v3 3 [mulQ (fl rs) (fl us) 0, mulQ (fl rs) (fl us) 1, mulQ (fl rs) (fl us) 2]) := by show OwnI _ _ _ _ _; rw [HV.out]; exact ho3
        have T : Hid (Below (W0.heap.size) W0 D2) := (blThenAlloc T2.out _).trans (gb_low' hg3 hgb (Nat.le_refl _) (by have := T2.out.size; simp at *; omega))
        clear ho3 hg3 hgb O2 T2 HV b2
        obtain ⟨A2, c2, rfl⟩ := O.out.form
        go_wp2_with fail
        -- behind row 0
        rw [rounds_succ]
        obtain ⟨q0, k0, hq, hq1, hq2⟩ := World.ownsRow.form O.out (by omega)
        cases hq
        have R := Lib.hid (R0.out.bel T.out)
        have x0 := R.out.o.c 0 rfl
        have g0 := R.out.o.f 0
        have l0 := R.out.o.lt
        go_wp2_with (at_builtin; refine wpList_append_row _ rfl _ _ rfl (w.heap.size + 2) _ 0 1 rfl _ rfl (R.out.rows.low (blAlloc _ _) (fun g hg => by have := R.out.vl g hg; have := R.out.ll; omega)) _ _ _ rfl (new_cell _ _ _) rfl (by omega) (by have := R.out.wb; have := R.out.ll; simp; omega) ?_; intro gR1 cR1 F0 hw hg hd; have f0 : F0.cell? ⟨w.heap.size + 1, 0, none⟩ = some (.slice none 0 0) := ((R.out.o.alloc _).grown hg R.out.on).c 0 rfl; have f1 : F0.frozen? ⟨w.heap.size + 1, 0, none⟩ = false := ((R.out.o.alloc _).grown hg R.out.on).f 0; have f2 : w.heap.size + 1 < F0.heap.size := ((R.out.o.alloc _).grown hg R.out.on).lt; have RW := Lib.hid (R.out.next O.out hw hg hd.out rfl); clear hw hg hd x0 g0 l0)
        clear R O T
        obtain ⟨W1, hW1⟩ : ∃ W1, W1 = F0.setCell ⟨w.heap.size + 1, 0, none⟩ (.slice (some ⟨gR1, 0, none⟩) 1 cR1) := ⟨_, rfl⟩
        rw [← hW1]
        have R1 := RW
        rw [← hW1] at R1
        clear RW f0 f1 f2 hW1
        -- row 1
        rw [rounds_succ]
        go_wp2_with fail
        obtain ⟨E1, hC0⟩ : ∃ C, C = W1.alloc (.cells #[] 2) := ⟨_, rfl⟩
        rw [← hC0]
        have O : Hid (OwnI E1 (W1.heap.size) (.slice (some ⟨W1.heap.size, 0, none⟩) 0 0) 0 []) := by show OwnI _ _ _ _ _; rw [hC0]; exact OwnI.empty _ _ (Nat.le_refl _)
        have T : Hid (Below (W1.heap.size) W1 E1) := by show Below _ _ _; rw [hC0]; exact blAlloc _ _
        clear hC0
        refine wp_loop_rounds 4 ?_
        -- place 1 0
        rw [rounds_succ]
        go_wp2_with fail
        have TW : Hid (Below w.heap.size w E1) := R1.out.b.trans (T.out.mono (Nat.le_trans R1.out.wl (Nat.le_trans (Nat.le_of_lt R1.out.ol) (Nat.le_refl _))))
        go_loopw [9, 10] (fun s x wq => ∃ j r : Nat, j ≤ 3 ∧ x = .int .i64 j ∧ s = .int .i64 (mlP (fl rs) (fl us) 1 0 j) ∧ wq = E1.drewN r) (fun _ x _ => 3 - (intOf x).toNat)
        case atStart => exact ⟨0, 0, by omega, rfl, by simp [mlP], rfl⟩
        case round =>
          obtain ⟨j, r, hj, rfl, rfl, rfl⟩ := hrel
          by_cases hlt : j < 3
          · have TD := TW.out
            obtain ⟨b1, o1, B1, L1, C1, g1, e1, x1, x3, -⟩ := (H.out.bel TD).row (show 1 < 3 by omega)
            obtain ⟨b2, o2, B2, L2, C2, g2, e2, y1, y3, -⟩ := (H'.out.bel TD).row hlt
            have hL1 : L1 = 3 := by rw [← x3.rd.1]; exact HLA.out 1 (by omega)
            have hL2 : L2 = 3 := by rw [← y3.rd.1]; exact HLB.out j hlt
            subst hL1
            subst hL2
            obtain ⟨b3, o3, rfl, x4⟩ := x3.rd.2 (by omega)
            obtain ⟨b4, o4, rfl, y4⟩ := y3.rd.2 (by omega)
            have u1 := x4 j hlt
            have u2 := y4 0 (by omega)
            rw [← fl_at rs 1 j hlt] at u1
            rw [← fl_at us j 0 (by omega)] at u2
            have gg := cell_later TD HG.out
            have gg' := cell_later TD HG'.out
            rw [e1] at gg
            rw [e2] at gg'
            have hc1 := x3.caps.1
            have hc2 := y3.caps.1
            have bd1 := mq_bd HQA.out HQB.out (s := 3 * 1 + j) (t := 3 * j + 0) (by omega) (by omega)
            have bd2 := mlP_bd (show 1 < 3 by omega) (show 0 < 3 by omega) HQA.out HQB.out j
            have HS : Hid (mlP (fl rs) (fl us) 1 0 (j + 1) = mlP (fl rs) (fl us) 1 0 j + fl rs (3 * 1 + j) * fl us (3 * j + 0)) := mlP_step hlt
            obtain ⟨s, hs⟩ : ∃ s, s = mlP (fl rs) (fl us) 1 0 j := ⟨_, rfl⟩
            obtain ⟨a, ha⟩ : ∃ a, a = fl rs (3 * 1 + j) := ⟨_, rfl⟩
            obtain ⟨d, hd⟩ : ∃ d, d = fl us (3 * j + 0) := ⟨_, rfl⟩
            rw [← hs, ← ha, ← hd] at HS
            rw [← ha] at u1
            rw [← hd] at u2
            rw [← ha, ← hd] at bd1
            rw [← hs] at bd2 ⊢
            clear hs ha hd x3 y3 x4 y4 e1 e2 TD
            (try simp only [Nat.add_zero] at x1)
            (try simp only [Nat.add_zero] at u2)
            go_wp2_with fail
            go_quiet (fail)
            go_wp2_with fail
            go_roundw
            case rel => exact ⟨j + 1, _, by omega, by go_num, by rw [HS.out], rfl⟩
            case measure => simp [intOf]; omega
          obtain rfl : j = 3 := by omega
          have HS : Hid (mlP (fl rs) (fl us) 1 0 3 = mulS (fl rs) (fl us) 3) := mlP_all (fl rs) (fl us) 1 0 (by omega)
          have b2 := mlP_bd (show 1 < 3 by omega) (show 0 < 3 by omega) HQA.out HQB.out 3
          rw [HS.out] at b2 ⊢
          have HV : Hid (mulQ (fl rs) (fl us) 3 = rnd (mulS (fl rs) (fl us) 3) 65536) := rfl
          obtain ⟨z, hz⟩ : ∃ z, z = mulS (fl rs) (fl us) 3 := ⟨_, rfl⟩
          rw [← hz] at b2 HV ⊢
          clear hz HS hlt hj TW
          have O2 := Lib.hid (O.out.drewN r)
          have T2 := Lib.hid (T.out.trans (below_drewN _ r _))
          clear O T
          go_wp2_with fail
          refine (sRound_any _ _ _ (by omega) (by omega) (by omega) (by omega)).mono ?_
          rintro e w1 ⟨rfl, rfl⟩
          go_wp2_with (at_builtin; refine wpList_append_i64 _ rfl _ _ rfl (W1.heap.size) _ 0 _ rfl (O2.out.alloc _) _ _ (rnd z 65536) rfl (new_cell _ _ _) (by omega) (by have := T2.out.size; simp at *; omega) ?_; intro v3 D3 ho3 hg3 hgb)
          have O : Hid (OwnI D3 (W1.heap.size) v3 1 [mulQ (fl rs) (fl us) 3]) := by show OwnI _ _ _ _ _; rw [HV.out]; exact ho3
          have T : Hid (Below (W1.heap.size) W1 D3) := (blThenAlloc T2.out _).trans (gb_low' hg3 hgb (Nat.le_refl _) (by have := T2.out.size; simp at *; omega))
          clear ho3 hg3 hgb O2 T2 HV b2
          obtain ⟨A3, c3, rfl⟩ := O.out.form
          go_wp2_with fail
          -- place 1 1
          rw [rounds_succ]
          go_wp2_with fail
          have TW : Hid (Below w.heap.size w D3) := R1.out.b.trans (T.out.mono (Nat.le_trans R1.out.wl (Nat.le_trans (Nat.le_of_lt R1.out.ol) (Nat.le_refl _))))
          go_loopw [9, 10] (fun s x wq => ∃ j r : Nat, j ≤ 3 ∧ x = .int .i64 j ∧ s = .int .i64 (mlP (fl rs) (fl us) 1 1 j) ∧ wq = D3.drewN r) (fun _ x _ => 3 - (intOf x).toNat)
          case atStart => exact ⟨0, 0, by omega, rfl, by simp [mlP], rfl⟩
          case round =>
            obtain ⟨j, r, hj, rfl, rfl, rfl⟩ := hrel
            by_cases hlt : j < 3
            · have TD := TW.out
              obtain ⟨b1, o1, B1, L1, C1, g1, e1, x1, x3, -⟩ := (H.out.bel TD).row (show 1 < 3 by omega)
              obtain ⟨b2, o2, B2, L2, C2, g2, e2, y1, y3, -⟩ := (H'.out.bel TD).row hlt
              have hL1 : L1 = 3 := by rw [← x3.rd.1]; exact HLA.out 1 (by omega)
              have hL2 : L2 = 3 := by rw [← y3.rd.1]; exact HLB.out j hlt
              subst hL1
              subst hL2
              obtain ⟨b3, o3, rfl, x4⟩ := x3.rd.2 (by omega)
              obtain ⟨b4, o4, rfl, y4⟩ := y3.rd.2 (by omega)
              have u1 := x4 j hlt
              have u2 := y4 1 (by omega)
              rw [← fl_at rs 1 j hlt] at u1
              rw [← fl_at us j 1 (by omega)] at u2
              have gg := cell_later TD HG.out
              have gg' := cell_later TD HG'.out
              rw [e1] at gg
              rw [e2] at gg'
              have hc1 := x3.caps.1
              have hc2 := y3.caps.1
              have bd1 := mq_bd HQA.out HQB.out (s := 3 * 1 + j) (t := 3 * j + 1) (by omega) (by omega)
              have bd2 := mlP_bd (show 1 < 3 by omega) (show 1 < 3 by omega) HQA.out HQB.out j
              have HS : Hid (mlP (fl rs) (fl us) 1 1 (j + 1) = mlP (fl rs) (fl us) 1 1 j + fl rs (3 * 1 + j) * fl us (3 * j + 1)) := mlP_step hlt
              obtain ⟨s, hs⟩ : ∃ s, s = mlP (fl rs) (fl us) 1 1 j := ⟨_, rfl⟩
              obtain ⟨a, ha⟩ : ∃ a, a = fl rs (3 * 1 + j) := ⟨_, rfl⟩
              obtain ⟨d, hd⟩ : ∃ d, d = fl us (3 * j + 1) := ⟨_, rfl⟩
              rw [← hs, ← ha, ← hd] at HS
              rw [← ha] at u1
              rw [← hd] at u2
              rw [← ha, ← hd] at bd1
              rw [← hs] at bd2 ⊢
              clear hs ha hd x3 y3 x4 y4 e1 e2 TD
              (try simp only [Nat.add_zero] at x1)
              (try simp only [Nat.add_zero] at u2)
              go_wp2_with fail
              go_quiet (fail)
              go_wp2_with fail
              go_roundw
              case rel => exact ⟨j + 1, _, by omega, by go_num, by rw [HS.out], rfl⟩
              case measure => simp [intOf]; omega
            obtain rfl : j = 3 := by omega
            have HS : Hid (mlP (fl rs) (fl us) 1 1 3 = mulS (fl rs) (fl us) 4) := mlP_all (fl rs) (fl us) 1 1 (by omega)
            have b2 := mlP_bd (show 1 < 3 by omega) (show 1 < 3 by omega) HQA.out HQB.out 3
            rw [HS.out] at b2 ⊢
            have HV : Hid (mulQ (fl rs) (fl us) 4 = rnd (mulS (fl rs) (fl us) 4) 65536) := rfl
            obtain ⟨z, hz⟩ : ∃ z, z = mulS (fl rs) (fl us) 4 := ⟨_, rfl⟩
            rw [← hz] at b2 HV ⊢
            clear hz HS hlt hj TW
            have O2 := Lib.hid (O.out.drewN r)
            have T2 := Lib.hid (T.out.trans (below_drewN _ r _))
            clear O T
            go_wp2_with fail
            refine (sRound_any _ _ _ (by omega) (by omega) (by omega) (by omega)).mono ?_
            rintro e w1 ⟨rfl, rfl⟩
            go_wp2_with (at_builtin; refine wpList_append_i64 _ rfl _ _ rfl (W1.heap.size) _ 1 _ rfl (O2.out.alloc _) _ _ (rnd z 65536) rfl (new_cell _ _ _) (by omega) (by have := T2.out.size; simp at *; omega) ?_; intro v3 D4 ho3 hg3 hgb)
            have O : Hid (OwnI D4 (W1.heap.size) v3 2 [mulQ (fl rs) (fl us) 3, mulQ (fl rs) (fl us) 4]) := by show OwnI _ _ _ _ _; rw [HV.out]; exact ho3
            have T : Hid (Below (W1.heap.size) W1 D4) := (blThenAlloc T2.out _).trans (gb_low' hg3 hgb (Nat.le_refl _) (by have := T2.out.size; simp at *; omega))
            clear ho3 hg3 hgb O2 T2 HV b2
            obtain ⟨A4, c4, rfl⟩ := O.out.form
            go_wp2_with fail
            -- place 1 2
            rw [rounds_succ]
            go_wp2_with fail
            have TW : Hid (Below w.heap.size w D4) := R1.out.b.trans (T.out.mono (Nat.le_trans R1.out.wl (Nat.le_trans (Nat.le_of_lt R1.out.ol) (Nat.le_refl _))))
            go_loopw [9, 10] (fun s x wq => ∃ j r : Nat, j ≤ 3 ∧ x = .int .i64 j ∧ s = .int .i64 (mlP (fl rs) (fl us) 1 2 j) ∧ wq = D4.drewN r) (fun _ x _ => 3 - (intOf x).toNat)
            case atStart => exact ⟨0, 0, by omega, rfl, by simp [mlP], rfl⟩
            case round =>
              obtain ⟨j, r, hj, rfl, rfl, rfl⟩ := hrel
              by_cases hlt : j < 3
              · have TD := TW.out
                obtain ⟨b1, o1, B1, L1, C1, g1, e1, x1, x3, -⟩ := (H.out.bel TD).row (show 1 < 3 by omega)
                obtain ⟨b2, o2, B2, L2, C2, g2, e2, y1, y3, -⟩ := (H'.out.bel TD).row hlt
                have hL1 : L1 = 3 := by rw [← x3.rd.1]; exact HLA.out 1 (by omega)
                have hL2 : L2 = 3 := by rw [← y3.rd.1]; exact HLB.out j hlt
                subst hL1
                subst hL2
                obtain ⟨b3, o3, rfl, x4⟩ := x3.rd.2 (by omega)
                obtain ⟨b4, o4, rfl, y4⟩ := y3.rd.2 (by omega)
                have u1 := x4 j hlt
                have u2 := y4 2 (by omega)
                rw [← fl_at rs 1 j hlt] at u1
                rw [← fl_at us j 2 (by omega)] at u2
                have gg := cell_later TD HG.out
                have gg' := cell_later TD HG'.out
                rw [e1] at gg
                rw [e2] at gg'
                have hc1 := x3.caps.1
                have hc2 := y3.caps.1
                have bd1 := mq_bd HQA.out HQB.out (s := 3 * 1 + j) (t := 3 * j + 2) (by omega) (by omega)
                have bd2 := mlP_bd (show 1 < 3 by omega) (show 2 < 3 by omega) HQA.out HQB.out j
                have HS : Hid (mlP (fl rs) (fl us) 1 2 (j + 1) = mlP (fl rs) (fl us) 1 2 j + fl rs (3 * 1 + j) * fl us (3 * j + 2)) := mlP_step hlt
                obtain ⟨s, hs⟩ : ∃ s, s = mlP (fl rs) (fl us) 1 2 j := ⟨_, rfl⟩
                obtain ⟨a, ha⟩ : ∃ a, a = fl rs (3 * 1 + j) := ⟨_, rfl⟩
                obtain ⟨d, hd⟩ : ∃ d, d = fl us (3 * j + 2) := ⟨_, rfl⟩
                rw [← hs, ← ha, ← hd] at HS
                rw [← ha] at u1
                rw [← hd] at u2
                rw [← ha, ← hd] at bd1
                rw [← hs] at bd2 ⊢
                clear hs ha hd x3 y3 x4 y4 e1 e2 TD
                (try simp only [Nat.add_zero] at x1)
                (try simp only [Nat.add_zero] at u2)
                go_wp2_with fail
                go_quiet (fail)
                go_wp2_with fail
                go_roundw
                case rel => exact ⟨j + 1, _, by omega, by go_num, by rw [HS.out], rfl⟩
                case measure => simp [intOf]; omega
              obtain rfl : j = 3 := by omega
              have HS : Hid (mlP (fl rs) (fl us) 1 2 3 = mulS (fl rs) (fl us) 5) := mlP_all (fl rs) (fl us) 1 2 (by omega)
              have b2 := mlP_bd (show 1 < 3 by omega) (show 2 < 3 by omega) HQA.out HQB.out 3
              rw [HS.out] at b2 ⊢
              have HV : Hid (mulQ (fl rs) (fl us) 5 = rnd (mulS (fl rs) (fl us) 5) 65536) := rfl
              obtain ⟨z, hz⟩ : ∃ z, z = mulS (fl rs) (fl us) 5 := ⟨_, rfl⟩
              rw [← hz] at b2 HV ⊢
              clear hz HS hlt hj TW
              have O2 := Lib.hid (O.out.drewN r)
              have T2 := Lib.hid (T.out.trans (below_drewN _ r _))
              clear O T
              go_wp2_with fail
              refine (sRound_any _ _ _ (by omega) (by omega) (by omega) (by omega)).mono ?_
              rintro e w1 ⟨rfl, rfl⟩
              go_wp2_with (at_builtin; refine wpList_append_i64 _ rfl _ _ rfl (W1.heap.size) _ 2 _ rfl (O2.out.alloc _) _ _ (rnd z 65536) rfl (new_cell _ _ _) (by omega) (by have := T2.out.size; simp at *; omega) ?_; intro v3 D5 ho3 hg3 hgb)
              have O : Hid (OwnI D5 (W1.heap.size) v3 3 [mulQ (fl rs) (fl us) 3, mulQ (fl rs) (fl us) 4, mulQ (fl rs) (fl us) 5]) := by show OwnI _ _ _ _ _; rw [HV.out]; exact ho3
              have T : Hid (Below (W1.heap.size) W1 D5) := (blThenAlloc T2.out _).trans (gb_low' hg3 hgb (Nat.le_refl _) (by have := T2.out.size; simp at *; omega))
              clear ho3 hg3 hgb O2 T2 HV b2
              obtain ⟨A5, c5, rfl⟩ := O.out.form
              go_wp2_with fail
              -- behind row 1
              rw [rounds_succ]
              obtain ⟨q1, k1, hq, hq1, hq2⟩ := World.ownsRow.form O.out (by omega)
              cases hq
              have R := Lib.hid (R1.out.bel T.out)
              have x0 := R.out.o.c 0 rfl
              have g0 := R.out.o.f 0
              have l0 := R.out.o.lt
              go_wp2_with (at_builtin; refine wpList_append_row _ rfl _ _ rfl (w.heap.size + 2) _ 1 2 rfl _ rfl (R.out.rows.low (blAlloc _ _) (fun g hg => by have := R.out.vl g hg; have := R.out.ll; omega)) _ _ _ rfl (new_cell _ _ _) rfl (by omega) (by have := R.out.wb; have := R.out.ll; simp; omega) ?_; intro gR2 cR2 F1 hw hg hd; have f0 : F1.cell? ⟨w.heap.size + 1, 0, none⟩ = some (.slice (some ⟨gR1, 0, none⟩) 1 cR1) := ((R.out.o.alloc _).grown hg R.out.on).c 0 rfl; have f1 : F1.frozen? ⟨w.heap.size + 1, 0, none⟩ = false := ((R.out.o.alloc _).grown hg R.out.on).f 0; have f2 : w.heap.size + 1 < F1.heap.size := ((R.out.o.alloc _).grown hg R.out.on).lt; have RW := Lib.hid (R.out.next O.out hw hg hd.out rfl); clear hw hg hd x0 g0 l0)
              clear R O T
              obtain ⟨W2, hW2⟩ : ∃ W1, W1 = F1.setCell ⟨w.heap.size + 1, 0, none⟩ (.slice (some ⟨gR2, 0, none⟩) 2 cR2) := ⟨_, rfl⟩
              rw [← hW2]
              have R2 := RW
              rw [← hW2] at R2
              clear RW f0 f1 f2 hW2
              -- row 2
              rw [rounds_succ]
              go_wp2_with fail
              obtain ⟨E2, hC0⟩ : ∃ C, C = W2.alloc (.cells #[] 2) := ⟨_, rfl⟩
              rw [← hC0]
              have O : Hid (OwnI E2 (W2.heap.size) (.slice (some ⟨W2.heap.size, 0, none⟩) 0 0) 0 []) := by show OwnI _ _ _ _ _; rw [hC0]; exact OwnI.empty _ _ (Nat.le_refl _)
              have T : Hid (Below (W2.heap.size) W2 E2) := by show Below _ _ _; rw [hC0]; exact blAlloc _ _
              clear hC0
              refine wp_loop_rounds 4 ?_
              -- place 2 0
              rw [rounds_succ]
              go_wp2_with fail
              have TW : Hid (Below w.heap.size w E2) := R2.out.b.trans (T.out.mono (Nat.le_trans R2.out.wl (Nat.le_trans (Nat.le_of_lt R2.out.ol) (Nat.le_refl _))))
              go_loopw [9, 10] (fun s x wq => ∃ j r : Nat, j ≤ 3 ∧ x = .int .i64 j ∧ s = .int .i64 (mlP (fl rs) (fl us) 2 0 j) ∧ wq = E2.drewN r) (fun _ x _ => 3 - (intOf x).toNat)
              case atStart => exact ⟨0, 0, by omega, rfl, by simp [mlP], rfl⟩
              case round =>
                obtain ⟨j, r, hj, rfl, rfl, rfl⟩ := hrel
                by_cases hlt : j < 3
                · have TD := TW.out
                  obtain ⟨b1, o1, B1, L1, C1, g1, e1, x1, x3, -⟩ := (H.out.bel TD).row (show 2 < 3 by omega)
                  obtain ⟨b2, o2, B2, L2, C2, g2, e2, y1, y3, -⟩ := (H'.out.bel TD).row hlt
                  have hL1 : L1 = 3 := by rw [← x3.rd.1]; exact HLA.out 2 (by omega)
                  have hL2 : L2 = 3 := by rw [← y3.rd.1]; exact HLB.out j hlt
                  subst hL1
                  subst hL2
                  obtain ⟨b3, o3, rfl, x4⟩ := x3.rd.2 (by omega)
                  obtain ⟨b4, o4, rfl, y4⟩ := y3.rd.2 (by omega)
                  have u1 := x4 j hlt
                  have u2 := y4 0 (by omega)
                  rw [← fl_at rs 2 j hlt] at u1
                  rw [← fl_at us j 0 (by omega)] at u2
                  have gg := cell_later TD HG.out
                  have gg' := cell_later TD HG'.out
                  rw [e1] at gg
                  rw [e2] at gg'
                  have hc1 := x3.caps.1
                  have hc2 := y3.caps.1
                  have bd1 := mq_bd HQA.out HQB.out (s := 3 * 2 + j) (t := 3 * j + 0) (by omega) (by omega)
                  have bd2 := mlP_bd (show 2 < 3 by omega) (show 0 < 3 by omega) HQA.out HQB.out j
                  have HS : Hid (mlP (fl rs) (fl us) 2 0 (j + 1) = mlP (fl rs) (fl us) 2 0 j + fl rs (3 * 2 + j) * fl us (3 * j + 0)) := mlP_step hlt
                  obtain ⟨s, hs⟩ : ∃ s, s = mlP (fl rs) (fl us) 2 0 j := ⟨_, rfl⟩
                  obtain ⟨a, ha⟩ : ∃ a, a = fl rs (3 * 2 + j) := ⟨_, rfl⟩
                  obtain ⟨d, hd⟩ : ∃ d, d = fl us (3 * j + 0) := ⟨_, rfl⟩
                  rw [← hs, ← ha, ← hd] at HS
                  rw [← ha] at u1
                  rw [← hd] at u2
                  rw [← ha, ← hd] at bd1
                  rw [← hs] at bd2 ⊢
                  clear hs ha hd x3 y3 x4 y4 e1 e2 TD
                  (try simp only [Nat.add_zero] at x1)
                  (try simp only [Nat.add_zero] at u2)
                  go_wp2_with fail
                  go_quiet (fail)
                  go_wp2_with fail
                  go_roundw
                  case rel => exact ⟨j + 1, _, by omega, by go_num, by rw [HS.out], rfl⟩
                  case measure => simp [intOf]; omega
                obtain rfl : j = 3 := by omega
                have HS : Hid (mlP (fl rs) (fl us) 2 0 3 = mulS (fl rs) (fl us) 6) := mlP_all (fl rs) (fl us) 2 0 (by omega)
                have b2 := mlP_bd (show 2 < 3 by omega) (show 0 < 3 by omega) HQA.out HQB.out 3
                rw [HS.out] at b2 ⊢
                have HV : Hid (mulQ (fl rs) (fl us) 6 = rnd (mulS (fl rs) (fl us) 6) 65536) := rfl
                obtain ⟨z, hz⟩ : ∃ z, z = mulS (fl rs) (fl us) 6 := ⟨_, rfl⟩
                rw [← hz] at b2 HV ⊢
                clear hz HS hlt hj TW
                have O2 := Lib.hid (O.out.drewN r)
                have T2 := Lib.hid (T.out.trans (below_drewN _ r _))
                clear O T
                go_wp2_with fail
                refine (sRound_any _ _ _ (by omega) (by omega) (by omega) (by omega)).mono ?_
                rintro e w1 ⟨rfl, rfl⟩
                go_wp2_with (at_builtin; refine wpList_append_i64 _ rfl _ _ rfl (W2.heap.size) _ 0 _ rfl (O2.out.alloc _) _ _ (rnd z 65536) rfl (new_cell _ _ _) (by omega) (by have := T2.out.size; simp at *; omega) ?_; intro v3 D6 ho3 hg3 hgb)
                have O : Hid (OwnI D6 (W2.heap.size) v3 1 [mulQ (fl rs) (fl us) 6]) := by show OwnI _ _ _ _ _; rw [HV.out]; exact ho3
                have T : Hid (Below (W2.heap.size) W2 D6) := (blThenAlloc T2.out _).trans (gb_low' hg3 hgb (Nat.le_refl _) (by have := T2.out.size; simp at *; omega))
                clear ho3 hg3 hgb O2 T2 HV b2
                obtain ⟨A6, c6, rfl⟩ := O.out.form
                go_wp2_with fail
                -- place 2 1
                rw [rounds_succ]
                go_wp2_with fail
                have TW : Hid (Below w.heap.size w D6) := R2.out.b.trans (T.out.mono (Nat.le_trans R2.out.wl (Nat.le_trans (Nat.le_of_lt R2.out.ol) (Nat.le_refl _))))
                go_loopw [9, 10] (fun s x wq => ∃ j r : Nat, j ≤ 3 ∧ x = .int .i64 j ∧ s = .int .i64 (mlP (fl rs) (fl us) 2 1 j) ∧ wq = D6.drewN r) (fun _ x _ => 3 - (intOf x).toNat)
                case atStart => exact ⟨0, 0, by omega, rfl, by simp [mlP], rfl⟩
                case round =>
                  obtain ⟨j, r, hj, rfl, rfl, rfl⟩ := hrel
                  by_cases hlt : j < 3
                  · have TD := TW.out
                    obtain ⟨b1, o1, B1, L1, C1, g1, e1, x1, x3, -⟩ := (H.out.bel TD).row (show 2 < 3 by omega)
                    obtain ⟨b2, o2, B2, L2, C2, g2, e2, y1, y3, -⟩ := (H'.out.bel TD).row hlt
                    have hL1 : L1 = 3 := by rw [← x3.rd.1]; exact HLA.out 2 (by omega)
                    have hL2 : L2 = 3 := by rw [← y3.rd.1]; exact HLB.out j hlt
                    subst hL1
                    subst hL2
                    obtain ⟨b3, o3, rfl, x4⟩ := x3.rd.2 (by omega)
                    obtain ⟨b4, o4, rfl, y4⟩ := y3.rd.2 (by omega)
                    have u1 := x4 j hlt
                    have u2 := y4 1 (by omega)
                    rw [← fl_at rs 2 j hlt] at u1
                    rw [← fl_at us j 1 (by omega)] at u2
                    have gg := cell_later TD HG.out
                    have gg' := cell_later TD HG'.out
                    rw [e1] at gg
                    rw [e2] at gg'
                    have hc1 := x3.caps.1
                    have hc2 := y3.caps.1
                    have bd1 := mq_bd HQA.out HQB.out (s := 3 * 2 + j) (t := 3 * j + 1) (by omega) (by omega)
                    have bd2 := mlP_bd (show 2 < 3 by omega) (show 1 < 3 by omega) HQA.out HQB.out j
                    have HS : Hid (mlP (fl rs) (fl us) 2 1 (j + 1) = mlP (fl rs) (fl us) 2 1 j + fl rs (3 * 2 + j) * fl us (3 * j + 1)) := mlP_step hlt
                    obtain ⟨s, hs⟩ : ∃ s, s = mlP (fl rs) (fl us) 2 1 j := ⟨_, rfl⟩
                    obtain ⟨a, ha⟩ : ∃ a, a = fl rs (3 * 2 + j) := ⟨_, rfl⟩
                    obtain ⟨d, hd⟩ : ∃ d, d = fl us (3 * j + 1) := ⟨_, rfl⟩
                    rw [← hs, ← ha, ← hd] at HS
                    rw [← ha] at u1
                    rw [← hd] at u2
                    rw [← ha, ← hd] at bd1
                    rw [← hs] at bd2 ⊢
                    clear hs ha hd x3 y3 x4 y4 e1 e2 TD
                    (try simp only [Nat.add_zero] at x1)
                    (try simp only [Nat.add_zero] at u2)
                    go_wp2_with fail
                    go_quiet (fail)
                    go_wp2_with fail
                    go_roundw
                    case rel => exact ⟨j + 1, _, by omega, by go_num, by rw [HS.out], rfl⟩
                    case measure => simp [intOf]; omega
                  obtain rfl : j = 3 := by omega
                  have HS : Hid (mlP (fl rs) (fl us) 2 1 3 = mulS (fl rs) (fl us) 7) := mlP_all (fl rs) (fl us) 2 1 (by omega)
                  have b2 := mlP_bd (show 2 < 3 by omega) (show 1 < 3 by omega) HQA.out HQB.out 3
                  rw [HS.out] at b2 ⊢
                  have HV : Hid (mulQ (fl rs) (fl us) 7 = rnd (mulS (fl rs) (fl us) 7) 65536) := rfl
                  obtain ⟨z, hz⟩ : ∃ z, z = mulS (fl rs) (fl us) 7 := ⟨_, rfl⟩
                  rw [← hz] at b2 HV ⊢
                  clear hz HS hlt hj TW
                  have O2 := Lib.hid (O.out.drewN r)
                  have T2 := Lib.hid (T.out.trans (below_drewN _ r _))
                  clear O T
                  go_wp2_with fail
                  refine (sRound_any _ _ _ (by omega) (by omega) (by omega) (by omega)).mono ?_
                  rintro e w1 ⟨rfl, rfl⟩
                  go_wp2_with (at_builtin; refine wpList_append_i64 _ rfl _ _ rfl (W2.heap.size) _ 1 _ rfl (O2.out.alloc _) _ _ (rnd z 65536) rfl (new_cell _ _ _) (by omega) (by have := T2.out.size; simp at *; omega) ?_; intro v3 D7 ho3 hg3 hgb)
                  have O : Hid (OwnI D7 (W2.heap.size) v3 2 [mulQ (fl rs) (fl us) 6, mulQ (fl rs) (fl us) 7]) := by show OwnI _ _ _ _ _; rw [HV.out]; exact ho3
                  have T : Hid (Below (W2.heap.size) W2 D7) := (blThenAlloc T2.out _).trans (gb_low' hg3 hgb (Nat.le_refl _) (by have := T2.out.size; simp at *; omega))
                  clear ho3 hg3 hgb O2 T2 HV b2
                  obtain ⟨A7, c7, rfl⟩ := O.out.form
                  go_wp2_with fail
                  -- place 2 2
                  rw [rounds_succ]
                  go_wp2_with fail
                  have TW : Hid (Below w.heap.size w D7) := R2.out.b.trans (T.out.mono (Nat.le_trans R2.out.wl (Nat.le_trans (Nat.le_of_lt R2.out.ol) (Nat.le_refl _))))
                  go_loopw [9, 10] (fun s x wq => ∃ j r : Nat, j ≤ 3 ∧ x = .int .i64 j ∧ s = .int .i64 (mlP (fl rs) (fl us) 2 2 j) ∧ wq = D7.drewN r) (fun _ x _ => 3 - (intOf x).toNat)
                  case atStart => exact ⟨0, 0, by omega, rfl, by simp [mlP], rfl⟩
                  case round =>
                    obtain ⟨j, r, hj, rfl, rfl, rfl⟩ := hrel
                    by_cases hlt : j < 3
                    · have TD := TW.out
                      obtain ⟨b1, o1, B1, L1, C1, g1, e1, x1, x3, -⟩ := (H.out.bel TD).row (show 2 < 3 by omega)
                      obtain ⟨b2, o2, B2, L2, C2, g2, e2, y1, y3, -⟩ := (H'.out.bel TD).row hlt
                      have hL1 : L1 = 3 := by rw [← x3.rd.1]; exact HLA.out 2 (by omega)
                      have hL2 : L2 = 3 := by rw [← y3.rd.1]; exact HLB.out j hlt
                      subst hL1
                      subst hL2
                      obtain ⟨b3, o3, rfl, x4⟩ := x3.rd.2 (by omega)
                      obtain ⟨b4, o4, rfl, y4⟩ := y3.rd.2 (by omega)
                      have u1 := x4 j hlt
                      have u2 := y4 2 (by omega)
                      rw [← fl_at rs 2 j hlt] at u1
                      rw [← fl_at us j 2 (by omega)] at u2
                      have gg := cell_later TD HG.out
                      have gg' := cell_later TD HG'.out
                      rw [e1] at gg
                      rw [e2] at gg'
                      have hc1 := x3.caps.1
                      have hc2 := y3.caps.1
                      have bd1 := mq_bd HQA.out HQB.out (s := 3 * 2 + j) (t := 3 * j + 2) (by omega) (by omega)
                      have bd2 := mlP_bd (show 2 < 3 by omega) (show 2 < 3 by omega) HQA.out HQB.out j
                      have HS : Hid (mlP (fl rs) (fl us) 2 2 (j + 1) = mlP (fl rs) (fl us) 2 2 j + fl rs (3 * 2 + j) * fl us (3 * j + 2)) := mlP_step hlt
                      obtain ⟨s, hs⟩ : ∃ s, s = mlP (fl rs) (fl us) 2 2 j := ⟨_, rfl⟩
                      obtain ⟨a, ha⟩ : ∃ a, a = fl rs (3 * 2 + j) := ⟨_, rfl⟩
                      obtain ⟨d, hd⟩ : ∃ d, d = fl us (3 * j + 2) := ⟨_, rfl⟩
                      rw [← hs, ← ha, ← hd] at HS
                      rw [← ha] at u1
                      rw [← hd] at u2
                      rw [← ha, ← hd] at bd1
                      rw [← hs] at bd2 ⊢
                      clear hs ha hd x3 y3 x4 y4 e1 e2 TD
                      (try simp only [Nat.add_zero] at x1)
                      (try simp only [Nat.add_zero] at u2)
                      go_wp2_with fail
                      go_quiet (fail)
                      go_wp2_with fail
                      go_roundw
                      case rel => exact ⟨j + 1, _, by omega, by go_num, by rw [HS.out], rfl⟩
                      case measure => simp [intOf]; omega
                    obtain rfl : j = 3 := by omega
                    have HS : Hid (mlP (fl rs) (fl us) 2 2 3 = mulS (fl rs) (fl us) 8) := mlP_all (fl rs) (fl us) 2 2 (by omega)
                    have b2 := mlP_bd (show 2 < 3 by omega) (show 2 < 3 by omega) HQA.out HQB.out 3
                    rw [HS.out] at b2 ⊢
                    have HV : Hid (mulQ (fl rs) (fl us) 8 = rnd (mulS (fl rs) (fl us) 8) 65536) := rfl
                    obtain ⟨z, hz⟩ : ∃ z, z = mulS (fl rs) (fl us) 8 := ⟨_, rfl⟩
                    rw [← hz] at b2 HV ⊢
                    clear hz HS hlt hj TW
                    have O2 := Lib.hid (O.out.drewN r)
                    have T2 := Lib.hid (T.out.trans (below_drewN _ r _))
                    clear O T
                    go_wp2_with fail
                    refine (sRound_any _ _ _ (by omega) (by omega) (by omega) (by omega)).mono ?_
                    rintro e w1 ⟨rfl, rfl⟩
                    go_wp2_with (at_builtin; refine wpList_append_i64 _ rfl _ _ rfl (W2.heap.size) _ 2 _ rfl (O2.out.alloc _) _ _ (rnd z 65536) rfl (new_cell _ _ _) (by omega) (by have := T2.out.size; simp at *; omega) ?_; intro v3 D8 ho3 hg3 hgb)
                    have O : Hid (OwnI D8 (W2.heap.size) v3 3 [mulQ (fl rs) (fl us) 6, mulQ (fl rs) (fl us) 7, mulQ (fl rs) (fl us) 8]) := by show OwnI _ _ _ _ _; rw [HV.out]; exact ho3
                    have T : Hid (Below (W2.heap.size) W2 D8) := (blThenAlloc T2.out _).trans (gb_low' hg3 hgb (Nat.le_refl _) (by have := T2.out.size; simp at *; omega))
                    clear ho3 hg3 hgb O2 T2 HV b2
                    obtain ⟨A8, c8, rfl⟩ := O.out.form
                    go_wp2_with fail
                    -- behind row 2
                    rw [rounds_succ]
                    obtain ⟨q2, k2, hq, hq1, hq2⟩ := World.ownsRow.form O.out (by omega)
                    cases hq
                    have R := Lib.hid (R2.out.bel T.out)
                    have x0 := R.out.o.c 0 rfl
                    have g0 := R.out.o.f 0
                    have l0 := R.out.o.lt
                    go_wp2_with (at_builtin; refine wpList_append_row _ rfl _ _ rfl (w.heap.size + 2) _ 2 3 rfl _ rfl (R.out.rows.low (blAlloc _ _) (fun g hg => by have := R.out.vl g hg; have := R.out.ll; omega)) _ _ _ rfl (new_cell _ _ _) rfl (by omega) (by have := R.out.wb; have := R.out.ll; simp; omega) ?_; intro gR3 cR3 F2 hw hg hd; have f0 : F2.cell? ⟨w.heap.size + 1, 0, none⟩ = some (.slice (some ⟨gR2, 0, none⟩) 2 cR2) := ((R.out.o.alloc _).grown hg R.out.on).c 0 rfl; have f1 : F2.frozen? ⟨w.heap.size + 1, 0, none⟩ = false := ((R.out.o.alloc _).grown hg R.out.on).f 0; have f2 : w.heap.size + 1 < F2.heap.size := ((R.out.o.alloc _).grown hg R.out.on).lt; have RW := Lib.hid (R.out.next O.out hw hg hd.out rfl); clear hw hg hd x0 g0 l0)
                    clear R O T
                    obtain ⟨W3, hW3⟩ : ∃ W1, W1 = F2.setCell ⟨w.heap.size + 1, 0, none⟩ (.slice (some ⟨gR3, 0, none⟩) 3 cR3) := ⟨_, rfl⟩
                    rw [← hW3]
                    have R3 := RW
                    rw [← hW3] at R3
                    clear RW f0 f1 f2 hW3
                    rw [rounds_succ]
                    obtain ⟨gR, capR, hvR, HOWN⟩ := R3.out.own
                    cases hvR
                    have OW := Lib.hid HOWN
                    clear HOWN
                    have x0 := R3.out.o.c 0 rfl
                    have y0 := R3.out.r.c 0 rfl
                    have y1 := R3.out.r.f 0
                    have y2 := R3.out.r.lt
                    have y3 := R3.out.o.lt
                    have k0 := (R3.out.r.set 0 (.slice (some ⟨gR3, 0, none⟩) 3 cR3)).c 0 rfl
                    go_wp2_with fail
                    refine bodyPost_ret (v := .agg #[.slice (some ⟨gR3, 0, none⟩) 3 cR3]) (by simp [results, Try.results91, go_sem, k0]) rfl ⟨_, _, _, rfl, ?_, ?_⟩
                    · exact (OW.out.set (.inl (by omega)) _ _).mono (by omega) (by simp only [setSize]; exact Nat.le_refl _)
                    · exact R3.out.b.setCell (by simp) _
end Go.Proofs.Ytmcdbingcclpcaa
