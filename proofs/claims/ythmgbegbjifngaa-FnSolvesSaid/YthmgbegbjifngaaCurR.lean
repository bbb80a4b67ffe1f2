/-
  ReadCurve, by the program and by the reference model.
-/
import Derived.Test.YthmgbegbjifngaaCurL
import Derived.Test.YthmgbegbjifngaaTwo
namespace Go.Proofs.Ythmgbegbjifngaa
open Go.RowKit
set_option linter.unusedVariables false

/-- how many points the first byte tells. -/
def rcN (xs : List Int) : Nat := (xs.getD 0 0).toNat
def rcP (xs : List Int) (k : Nat) : List Int := (List.range k).map fun i => (twoAt xs (1 + 2 * i) : Int)
theorem rcP_len (xs : List Int) (k : Nat) : (rcP xs k).length = k := by simp [rcP]
theorem rcP_get {xs : List Int} {k i : Nat} (h : i < k) : (rcP xs k).getD i 0 = (twoAt xs (1 + 2 * i) : Int) := by simp [rcP, List.getD, h]
theorem rcP_push (xs : List Int) (k : Nat) : rcP xs (k + 1) = rcP xs k ++ [(twoAt xs (1 + 2 * k) : Int)] := by simp [rcP, List.range_succ]
def rcOk (xs : List Int) : Bool := decide (xs.length ≠ 0 ∧ xs.length = 1 + 2 * rcN xs) && inB (rcN xs : Int) 2 17
def rcC (xs : List Int) : Int := if rcOk xs = true then 0 else 5
def rcL (xs : List Int) : List Int := if rcOk xs = true then rcP xs (rcN xs) else []
theorem rcOk_t {xs : List Int} {n : Nat} (hl : xs.length = n) (h1 : n = 1 + 2 * rcN xs) (h2 : inB (rcN xs : Int) 2 17 = true) : rcOk xs = true := by
  unfold rcOk; rw [h2, hl]; simp; omega
theorem rcOk_f1 {xs : List Int} {n : Nat} (hl : xs.length = n) (h : n ≠ 1 + 2 * rcN xs) : rcOk xs = false := by
  unfold rcOk; rw [hl]; simp [h]
theorem rcOk_f2 {xs : List Int} (h : inB (rcN xs : Int) 2 17 = false) : rcOk xs = false := by
  unfold rcOk; rw [h]; simp
theorem rcL_len (xs : List Int) : (rcL xs).length ≤ 17 := by
  unfold rcL
  split
  · rename_i h
    unfold rcOk at h
    simp only [Bool.and_eq_true] at h
    have := inB_iff.1 h.2
    rw [rcP_len]; omega
  · simp
theorem rcP_cf {xs : List Int} (hx : U8s xs) (k : Nat) : cf (rcP xs k) = if inB (k : Int) 2 17 = true then 0 else 2 := by
  unfold cf
  rw [rcP_len]
  rcases Bool.eq_false_or_eq_true (inB (k : Int) 2 17) with h | h
  · rw [if_neg (by rw [h]; simp), if_pos h, if_pos]
    refine lvl_of fun i hi => ?_
    unfold pt
    rw [rcP_get hi]
    have := (twoAt_bd hx (1 + 2 * i)).1
    omega
  · rw [if_pos h, if_neg (by rw [h]; simp)]
theorem packedEnd_any (k : Nat) (w : World) (h : k ≤ 1000000) : Calls Try.prog 94 #[.int .i64 k] w fun e w' => e = .returned (.int .i64 (1 + 2 * (k : Int))) ∧ w = w' := by
  go_enter Try.func94, Try.ntmps94
  go_wp2
  go_ret
  exact ⟨ret_int (by omega), rfl⟩
set_option maxRecDepth 100000 in
set_option maxHeartbeats 2000000 in
theorem ReadCurve_any (A : Option Addr) (n c : Nat) (xs : List Int) (w : World) (h : Rd .u8 w A n xs) (hx : U8s xs) (hm : n ≤ maxLen) :
    Calls Try.prog 34 #[.slice A n c] w (CurAns w (rcC xs) (rcL xs)) := by
  unfold maxLen at hm
  have hl := h.1
  have hbad : rcOk xs = false → Hid (∀ W, Below w.heap.size w W → CurAns w (rcC xs) (rcL xs) (.returned (.agg #[.int .i64 5, .slice none 0 0])) W) := fun e W hW => by
    unfold rcC rcL; rw [e]; exact CurAns.nothing hW
  rcases Nat.eq_zero_or_pos n with rfl | hn
  · have HB := hbad (rcOk_f1 hl (by omega))
    clear hbad h
    go_enter Try.func34, Try.ntmps34
    go_wp2_with fail
    refine bodyPost_ret (v := .agg #[.int .i64 5, .slice none 0 0]) (by simp [results, Try.results34, go_sem]) rfl (HB.out _ ?_)
    repeat (first | exact blAlloc _ _ | refine Below.setCell ?_ (by simp) _)
  have H := Lib.hid h
  have HX := Lib.hid hx
  obtain ⟨b, o, rfl, hcell⟩ := h.2 hn
  have c0 := hcell 0 hn
  have hbw : b < w.heap.size := cell_lt c0
  obtain ⟨p0, q0⟩ := hx 0
  have hN : xs.getD 0 0 = ((rcN xs : Nat) : Int) := by unfold rcN; omega
  rw [hN] at c0 p0 q0
  rw [Nat.add_zero] at c0
  have hn0 : ((n : Int) == 0) = false := by simp; omega
  clear h hx hcell hN
  rcases Bool.eq_false_or_eq_true (inB (rcN xs : Int) 2 17) with h2 | h2
  · by_cases h1 : n = 1 + 2 * rcN xs
    · have hok := rcOk_t hl h1 h2
      have hC : Hid (rcC xs = 0) := by show _ = _; unfold rcC; rw [if_pos hok]
      have hL : Hid (rcL xs = rcP xs (rcN xs)) := by show _ = _; unfold rcL; rw [if_pos hok]
      clear hbad hok hl
      obtain ⟨b1, b2⟩ := inB_iff.1 h2
      generalize hNN : rcN xs = N at *
      have hmk := run_make_row' (P := Try.prog) 41 2 (.int .i64 0) 8 Try.underlying41 info_i64 rfl .u8 .u8 N (by omega) (by omega)
      have HN1 := Lib.hid h1
      have HNN := Lib.hid hNN
      have h1' : ((n : Int) == 1 + 2 * (N : Int)) = true := by simp; omega
      have h1'' : ((n : Int) != 1 + 2 * (N : Int)) = false := by simp; omega
      have hn1 : n ≤ 35 := by omega
      clear hNN h1
      go_enter Try.func34, Try.ntmps34
      go_wp2_with (first | (go_at_call 93; refine (isPointCount_any _ _).mono ?_; rintro e w' ⟨rfl, rfl⟩) | (go_at_call 94; refine (packedEnd_any N _ (by omega)).mono ?_; rintro e w' ⟨rfl, rfl⟩))
      clear hmk h2 h1' h1'' c0 hn0
      obtain ⟨W0, hW0⟩ : ∃ W0, w.alloc (.cells #[.int .i64 0, .slice none 0 0] 50) = W0 := ⟨_, rfl⟩
      have hz0 : W0.heap.size = w.heap.size + 1 := by rw [← hW0]; simp
      have hbx : W0.cell? ⟨w.heap.size, 0, none⟩ = some (.int .i64 0) ∧ W0.cell? ⟨w.heap.size, 1, none⟩ = some (.slice none 0 0) := by rw [← hW0]; simp
      have hth : Thaw W0 w.heap.size := by rw [← hW0]; exact thaw_new _ _ _
      have hbl : Below w.heap.size w W0 := by rw [← hW0]; exact blAlloc _ _
      have HZ0 := Lib.hid hz0
      have HBX := Lib.hid hbx
      have HTH := Lib.hid hth
      have HBL := Lib.hid hbl
      rw [hW0]
      simp only [← hz0]
      clear hW0 hz0 hbx hth hbl
      go_loopw [33] (fun i wr => ∃ j : Nat, j ≤ N ∧ i = .int .i64 j ∧ (∀ t, t < N → wr.cell? ⟨W0.heap.size, t, none⟩ = some (.int .i64 (if t < j then (twoAt xs (1 + 2 * t) : Int) else 0))) ∧ Ch (W0.alloc (.cells (madeCells #[.int .i64 0] N) 2)) wr (· = W0.heap.size)) (fun i _ => N - (intOf i).toNat)
      case atStart => exact ⟨0, by omega, rfl, fun t ht => by simpa using made_cell W0 (.int .i64 0) N t 2 ht, Ch.refl _ _⟩
      case round =>
        obtain ⟨j, hj, rfl, hcell, honly⟩ := hrel
        have hT : Below w.heap.size w wr := HBL.out.trans ((blAlloc W0 _).trans (honly.below (fun k e => by omega) (by simp)) |>.mono (by have := HZ0.out; omega))
        have HT := Lib.hid hT
        have HR := Lib.hid (H.out.below hT)
        clear hT
        by_cases hlt : j < N
        · have c2 := hcell j hlt
          have f2 : wr.frozen? ⟨W0.heap.size, j, none⟩ = false := by rw [honly.frozen _ _ (by simp)]; simp
          have HCell := Lib.hid hcell
          have HOnly := Lib.hid honly
          clear hcell honly
          go_wp2_with (go_at_call 94; refine (packedEnd_any j _ (by omega)).mono ?_; rintro e w' ⟨rfl, rfl⟩)
          refine (getTwo_any _ n c xs (1 + 2 * j) _ HR.out HX.out (by omega) (by have := HN1.out; omega) _ (by omega)).mono ?_
          rintro e w' ⟨rfl, m, rfl⟩
          go_wp2_with fail
          go_roundw
          case rel =>
            refine ⟨j + 1, by omega, by go_num, fun t ht => ?_, (HOnly.out.trans (Ch.of_below _ (below_drewN _ m _))).trans (Ch.setCell _ (P := (· = W0.heap.size)) rfl _ _)⟩
            by_cases e : t = j
            · subst e
              rw [if_pos (by omega), World.cell?_setCell_same' _ _ _ (by simp [c2])]
            · rw [World.cell?_setCell_other _ _ _ _ (by simp; try omega), World.cell?_drewN, HCell.out t ht]
              by_cases h2 : t < j
              · rw [if_pos h2, if_pos (by omega)]
              · rw [if_neg h2, if_neg (by omega)]
          case measure => simp [intOf]; omega
        · obtain rfl : j = N := by omega
          have hz0 := HZ0.out
          have x0 : wr.cell? ⟨w.heap.size, 0, none⟩ = some (.int .i64 0) := by rw [honly.cell (by simp; omega) (by omega), World.cell?_alloc_lt _ _ ⟨w.heap.size, 0, none⟩ (by simp; omega)]; exact HBX.out.1
          have x1 : wr.cell? ⟨w.heap.size, 1, none⟩ = some (.slice none 0 0) := by rw [honly.cell (by simp; omega) (by omega), World.cell?_alloc_lt _ _ ⟨w.heap.size, 1, none⟩ (by simp; omega)]; exact HBX.out.2
          have f0 : ∀ i, wr.frozen? ⟨w.heap.size, i, none⟩ = false := fun i => by rw [honly.frozen _ _ (by simp; omega), (bcell (blAlloc W0 _)).2 w.heap.size i (by omega)]; exact HTH.out i
          have ho : Own wr (.ints .i64 (rcP xs j)) (.slice (some ⟨W0.heap.size, 0, none⟩) j j) W0.heap.size wr.heap.size := fill_own (rcP_len _ _) (by omega) (fun t ht => by rw [hcell t ht, if_pos ht, rcP_get ht]) honly
          have HO := Lib.hid ho
          clear hcell honly hz0 ho
          go_wp2_with fail
          refine bodyPost_ret (v := .agg #[.int .i64 0, .slice (some ⟨W0.heap.size, 0, none⟩) j j]) (by simp [results, Try.results34, go_sem, x0, x1]) rfl ?_
          have hz0 := HZ0.out
          rw [hC.out, hL.out]
          refine ⟨_, _, _, rfl, ?_, ?_⟩
          · refine Own.mono (lo := w.heap.size + 1) (hi := wr.heap.size) ?_ (by omega) (by simp [World.setCell])
            repeat (first | exact HO.out.mono (by omega) (Nat.le_refl _) | refine Own.set ?_ (.inl (by omega)) _ _)
          · repeat (first | exact HT.out | refine Below.setCell ?_ (by simp) _)
    · have HB := hbad (rcOk_f1 hl h1)
      have h1' : ((n : Int) == 1 + 2 * (rcN xs : Int)) = false := by simp; omega
      have h1'' : ((n : Int) != 1 + 2 * (rcN xs : Int)) = true := by simp; omega
      clear hbad
      generalize rcN xs = N at *
      go_enter Try.func34, Try.ntmps34
      go_wp2_with (first | (go_at_call 93; refine (isPointCount_any _ _).mono ?_; rintro e w' ⟨rfl, rfl⟩) | (go_at_call 94; refine (packedEnd_any N _ (by omega)).mono ?_; rintro e w' ⟨rfl, rfl⟩))
      refine bodyPost_ret (v := .agg #[.int .i64 5, .slice none 0 0]) (by simp [results, Try.results34, go_sem]) rfl (HB.out _ ?_)
      repeat (first | exact blAlloc _ _ | refine Below.setCell ?_ (by simp) _)
  · have HB := hbad (rcOk_f2 h2)
    clear hbad
    generalize rcN xs = N at *
    go_enter Try.func34, Try.ntmps34
    go_wp2_with (first | (go_at_call 93; refine (isPointCount_any _ _).mono ?_; rintro e w' ⟨rfl, rfl⟩) | (go_at_call 94; refine (packedEnd_any N _ (by omega)).mono ?_; rintro e w' ⟨rfl, rfl⟩))
    refine bodyPost_ret (v := .agg #[.int .i64 5, .slice none 0 0]) (by simp [results, Try.results34, go_sem]) rfl (HB.out _ ?_)
    repeat (first | exact blAlloc _ _ | refine Below.setCell ?_ (by simp) _)

/-! ### the reference model's -/
/-- a curve and whether it is one. -/
def RdAns (w : World) (ok : Bool) (xs : List Int) (e : Ending) (w' : World) : Prop :=
  ∃ G n c ys, e = .returned (.tuple #[.agg #[.slice G n c], .bool ok]) ∧ (ok = true → ys = xs) ∧ Own w' (.ints .i64 ys) (.slice G n c) w.heap.size w'.heap.size ∧ Below w.heap.size w w'
set_option maxRecDepth 100000 in
set_option maxHeartbeats 4000000 in
theorem sRead_any (A : Option Addr) (n c : Nat) (xs : List Int) (w : World) (h : Rd .u8 w A n xs) (hx : U8s xs) (hm : n ≤ maxLen) :
    Calls Try.prog 98 #[.slice A n c] w (RdAns w (rcOk xs) (rcL xs)) := by
  unfold maxLen at hm
  have hl := h.1
  have hbad : rcOk xs = false → Hid (∀ W, Below w.heap.size w W → RdAns w (rcOk xs) (rcL xs) (.returned (.tuple #[.agg #[.slice none 0 0], .bool false])) W) := fun e W hW => by
    rw [e]; exact ⟨_, _, _, [], rfl, (fun e => by cases e), Own.nil _ _ _ _ _ _ (Nat.zero_le _), hW⟩
  rcases Nat.eq_zero_or_pos n with rfl | hn
  · have HB := hbad (rcOk_f1 hl (by omega))
    clear hbad h
    go_enter Try.func98, Try.ntmps98
    go_wp2_with fail
    refine bodyPost_ret (v := .tuple #[.agg #[.slice none 0 0], .bool false]) (by simp [results, Try.results98, go_sem]) rfl (HB.out _ ?_)
    repeat (first | exact blAlloc _ _ | refine Below.setCell ?_ (by simp) _)
  have H := Lib.hid h
  have HX := Lib.hid hx
  obtain ⟨b, o, rfl, hcell⟩ := h.2 hn
  have c0 := hcell 0 hn
  have hbw : b < w.heap.size := cell_lt c0
  obtain ⟨p0, q0⟩ := hx 0
  have hN : xs.getD 0 0 = ((rcN xs : Nat) : Int) := by unfold rcN; omega
  rw [hN] at c0 p0 q0
  rw [Nat.add_zero] at c0
  have hn0 : decide ((n : Int) < 1) = false := by simp; omega
  clear h hx hcell hN
  by_cases h1 : n = 1 + 2 * rcN xs
  · have HOK : Hid (rcOk xs = inB (rcN xs : Int) 2 17) := by
      show _ = _
      unfold rcOk; rw [hl]; simp; omega
    have HL : Hid (rcOk xs = true → rcL xs = rcP xs (rcN xs)) := fun e => by unfold rcL; rw [if_pos e]
    clear hbad hl
    generalize hNN : rcN xs = N at *
    have HN1 := Lib.hid h1
    have HNN := Lib.hid hNN
    have h1' : ((n : Int) == 1 + 2 * (N : Int)) = true := by simp; omega
    have h1'' : ((n : Int) != 1 + 2 * (N : Int)) = false := by simp; omega
    have hn1 : n ≤ 511 := by omega
    clear hNN h1
    have hS0 : LSt w w.heap.size (w.heap.size + 1) Option.none 0 0 (rcP xs 0) ((w.alloc (.cells #[.slice none 0 0] 43)).alloc (.cells #[.slice none 0 0] 43)) :=
      ⟨by simp, OwnI.nil _ _, by simp, fun i => by simp, fun i => by simp, blThenAlloc (blAlloc _ _) _, by omega, Nat.le_refl _⟩
    have HS0 := Lib.hid hS0
    clear hS0
    go_enter Try.func98, Try.ntmps98
    go_wp2_with fail
    clear h1' h1'' c0 hn0
    go_loopw [5] (fun i wr => ∃ (j : Nat) (A1 : Option Addr) (c1 : Nat), j ≤ N ∧ i = .int .i64 (1 + 2 * (j : Int)) ∧ LSt w w.heap.size (w.heap.size + 1) A1 j c1 (rcP xs j) wr) (fun i _ => n - (intOf i).toNat)
    case atStart => exact ⟨0, Option.none, 0, by omega, rfl, HS0.out⟩
    case round =>
      obtain ⟨j, A1, c1, hj, rfl, hS⟩ := hrel
      have HS := Lib.hid hS
      have HR := Lib.hid (H.out.below hS.bel)
      have hN1 := HN1.out
      by_cases hlt : j < N
      · have x1 := hS.box
        have hl1 := cell_lt x1
        have hlt' : 1 + 2 * (j : Int) < (n : Int) := by omega
        clear hS hN1
        go_wp2_with fail
        go_region_law (first
          | (refine step_append_i64 _ rfl _ _ rfl (w.heap.size + 2) (.slice A1 j c1) j (rcP xs j) rfl ((HS.out.below (below_drewN _ (1 + mq) _)).own.alloc _) wr.heap.size 1 (twoAt xs (1 + 2 * j) : Int) rfl (new_cell (wr.drewN (1 + mq)) _ _) (by omega) (by simp; omega) ?_; intro v5 w5 ho5 hg5 hv5; obtain ⟨A5, c5, rfl⟩ := ho5.form; obtain ⟨kc, kf⟩ := gb_keep hg5 hv5 (b := w.heap.size + 1) (by omega) (by simp; omega); have y1 := (kc 0).trans (((HS.out.below (below_drewN _ (1 + mq) _)).below (blAlloc _ (.cells #[.int .i64 (twoAt xs (1 + 2 * j) : Int)] 2))).box); have y2 := (kf 0).trans (((HS.out.below (below_drewN _ (1 + mq) _)).below (blAlloc _ (.cells #[.int .i64 (twoAt xs (1 + 2 * j) : Int)] 2))).thb 0); clear kc kf)
          | (go_simp; go_at_call 128; refine (sTwo_any _ n c xs (1 + 2 * j) _ (HR.out.below (below_drewN _ 1 _)) HX.out (by omega) (by have := HN1.out; omega) _ (by omega)).mono ?_; rintro e w' ⟨rfl, mq, rfl⟩; have x2 := cell_later (blAlloc (wr.drewN (1 + mq)) (.cells #[.int .i64 (twoAt xs (1 + 2 * j) : Int)] 2)) (show (wr.drewN (1 + mq)).cell? ⟨w.heap.size + 1, 0, none⟩ = some (.slice A1 j c1) from x1)))
        all_goals
          have HP := Lib.hid (((HS.out.below (below_drewN _ (1 + mq) _)).below (blAlloc _ (.cells #[.int .i64 (twoAt xs (1 + 2 * j) : Int)] 2))).push ho5 hg5 hv5)
          clear ho5 hg5 hv5 y1 y2 x2
          go_wp2_with fail
          go_roundw
          case rel => exact ⟨j + 1, A5, c5, by omega, by go_num, by rw [rcP_push]; exact HP.out⟩
          case measure => simp [intOf]; omega
      · obtain rfl : j = N := by omega
        have x1 := hS.box
        have r1 := hS.res
        have f1 := hS.thr 0
        obtain ⟨bq, hdq⟩ := hS.own.own.hd
        have HRI := Lib.hid hdq.rd
        have hlt' : ¬ 1 + 2 * (j : Int) < (n : Int) := by omega
        have HCF := Lib.hid (rcP_cf HX.out j)
        have hrl : w.heap.size < wr.heap.size := cell_lt r1
        have hxl : w.heap.size + 1 < wr.heap.size := cell_lt x1
        clear hS hN1 hdq
        rcases Bool.eq_false_or_eq_true (inB (j : Int) 2 17) with hb | hb
        · have HOK1 : Hid (rcOk xs = true) := by show _ = _; rw [HOK.out, hb]
          have HC : Hid (∀ W, W.cell? ⟨w.heap.size + 1, 0, none⟩ = some (.slice A1 j c1) → Rd .i64 W A1 j (rcP xs j) → Calls Try.prog 99 #[.pointer (some ⟨w.heap.size + 1, 0, none⟩)] W fun e w' => e = .returned (.int .i64 0) ∧ W = w') := fun W h1 h2 => by
            have := sFault3_any _ _ A1 j c1 _ W h1 h2 (by unfold maxLen; omega)
            rwa [HCF.out, if_pos hb] at this
          clear hb
          go_wp2_with fail
          go_region_with (go_at_call 99; refine (HC.out _ (by first | exact x1 | (simp; exact x1)) (HRI.out.below (below_drewN _ 1 _))).mono ?_; rintro e w' ⟨rfl, rfl⟩)
          all_goals
            go_wp2_with fail
            refine bodyPost_ret (v := .tuple #[.agg #[.slice A1 j c1], .bool true]) (by simp [results, Try.results98, go_sem, r1]) rfl ?_
            rw [HOK1.out]
            refine ⟨_, _, _, _, rfl, fun _ => (HL.out HOK1.out).symm, ?_, ?_⟩
            · exact (((HS.out.below (below_drewN _ 1 _)).own.own.set (b := w.heap.size) (.inl (by omega)) _ _)).mono (by omega) (by simp [World.setCell])
            · exact (HS.out.below (below_drewN _ 1 _)).bel.setCell (by simp) _
        · have HOK1 : Hid (rcOk xs = false) := by show _ = _; rw [HOK.out, hb]
          have HC : Hid (∀ W, W.cell? ⟨w.heap.size + 1, 0, none⟩ = some (.slice A1 j c1) → Rd .i64 W A1 j (rcP xs j) → Calls Try.prog 99 #[.pointer (some ⟨w.heap.size + 1, 0, none⟩)] W fun e w' => e = .returned (.int .i64 2) ∧ W = w') := fun W h1 h2 => by
            have := sFault3_any _ _ A1 j c1 _ W h1 h2 (by unfold maxLen; omega)
            rwa [HCF.out, if_neg (by rw [hb]; simp)] at this
          clear hb
          go_wp2_with fail
          go_region_with (go_at_call 99; refine (HC.out _ (by first | exact x1 | (simp; exact x1)) (HRI.out.below (below_drewN _ 1 _))).mono ?_; rintro e w' ⟨rfl, rfl⟩)
          all_goals
            go_wp2_with fail
            refine bodyPost_ret (v := .tuple #[.agg #[.slice A1 j c1], .bool false]) (by simp [results, Try.results98, go_sem, r1]) rfl ?_
            rw [HOK1.out]
            refine ⟨_, _, _, rcP xs j, rfl, (fun e => by cases e), ?_, ?_⟩
            · exact (((HS.out.below (below_drewN _ 1 _)).own.own.set (b := w.heap.size) (.inl (by omega)) _ _)).mono (by omega) (by simp [World.setCell])
            · exact (HS.out.below (below_drewN _ 1 _)).bel.setCell (by simp) _
  · have HB := hbad (rcOk_f1 hl h1)
    have h1' : ((n : Int) == 1 + 2 * (rcN xs : Int)) = false := by simp; omega
    have h1'' : ((n : Int) != 1 + 2 * (rcN xs : Int)) = true := by simp; omega
    clear hbad
    generalize rcN xs = N at *
    go_enter Try.func98, Try.ntmps98
    go_wp2_with fail
    refine bodyPost_ret (v := .tuple #[.agg #[.slice none 0 0], .bool false]) (by simp [results, Try.results98, go_sem]) rfl (HB.out _ ?_)
    repeat (first | exact blAlloc _ _ | refine Below.setCell ?_ (by simp) _)
set_option maxHeartbeats 1000000 in
theorem sReadCurve_any (A : Option Addr) (n c : Nat) (xs : List Int) (w : World) (h : Rd .u8 w A n xs) (hx : U8s xs) (hm : n ≤ maxLen) :
    Calls Try.prog 38 #[.slice A n c] w (CurAns w (rcC xs) (rcL xs)) := by
  have H := Lib.hid h
  have HX := Lib.hid hx
  clear h hx
  go_enter Try.func38, Try.ntmps38
  go_wp2_with fail
  refine (sRead_any _ n c xs _ (H.out.alloc _) HX.out hm).mono ?_
  rintro e w1 ⟨G, n1, c1, ys, rfl, hys, ho, hb⟩
  obtain ⟨hc, hf⟩ := bcell hb
  have hz : w.heap.size < w1.heap.size := by have := hb.size; simp at this; omega
  have HO := Lib.hid ho
  have HYS := Lib.hid hys
  have T := Lib.hid (blThen (blAlloc w _) hb)
  clear ho hys hb
  rcases Bool.eq_false_or_eq_true (rcOk xs) with hk | hk
  · have hC : Hid (rcC xs = 0) := by show _ = _; unfold rcC; rw [if_pos hk]
    have hY := Lib.hid (HYS.out hk)
    rw [hk]
    clear hk HYS
    go_wp2_with fail
    refine bodyPost_ret (v := .agg #[.int .i64 0, .slice G n1 c1]) (by simp [results, Try.results38, go_sem, hc, hz]) rfl ?_
    rw [hC.out, ← hY.out]
    refine ⟨_, _, _, rfl, ?_, ?_⟩
    · refine Own.mono (lo := w.heap.size + 1) (hi := w1.heap.size) ?_ (by omega) (by simp [World.setCell])
      repeat (first | exact HO.out.mono (by simp) (Nat.le_refl _) | refine Own.set ?_ (.inl (by omega)) _ _ | refine Own.alloc ?_ _)
    · repeat (first | exact T.out | refine Below.setCell ?_ (by simp) _ | refine blThenAlloc ?_ _)
  · have hC : Hid (rcC xs = 5) := by show _ = _; unfold rcC; rw [if_neg (by rw [hk]; simp)]
    have hL : Hid (rcL xs = []) := by show _ = _; unfold rcL; rw [if_neg (by rw [hk]; simp)]
    rw [hk]
    clear hk HYS
    go_wp2_with fail
    refine bodyPost_ret (v := .agg #[.int .i64 5, .slice none 0 0]) (by simp [results, Try.results38, go_sem, hc, hz]) rfl ?_
    rw [hC.out, hL.out]
    refine CurAns.nothing ?_
    repeat (first | exact T.out | refine Below.setCell ?_ (by simp) _ | refine blThenAlloc ?_ _)
end Go.Proofs.Ythmgbegbjifngaa
