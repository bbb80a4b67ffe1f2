/-
  LineCurve, by the program (make) and by the reference model (append).
-/
import Derived.Test.YtdjifaaofefpoaaGreatCurA
import Derived.Test.YtdjifaaofefpoaaGreatGrowA
namespace Go.Proofs.YtdjifaaofefpoaaGreat
open Go.RowKit
set_option linter.unusedVariables false

/-- an answer: a code and a list of int64 in new memory. -/
def CurAns (w : World) (co : Int) (xs : List Int) (e : Ending) (w' : World) : Prop :=
  ∃ G n c, e = .returned (.agg #[.int .i64 co, .slice G n c]) ∧ Own w' (.ints .i64 xs) (.slice G n c) w.heap.size w'.heap.size ∧ Below w.heap.size w w'
theorem CurAns.nothing {w w' : World} {co : Int} (hb : Below w.heap.size w w') : CurAns w co [] (.returned (.agg #[.int .i64 co, .slice none 0 0])) w' :=
  ⟨_, _, _, rfl, Own.nil _ _ _ _ _ _ (Nat.zero_le _), hb⟩
/-- a point of the line. -/
def lnAt (n : Int) (i : Nat) : Int := rnd ((i : Int) * 65535) (n - 1)
def lnP (n : Int) (k : Nat) : List Int := (List.range k).map (lnAt n)
theorem lnP_len (n : Int) (k : Nat) : (lnP n k).length = k := by simp [lnP]
theorem lnP_get {n : Int} {k i : Nat} (h : i < k) : (lnP n k).getD i 0 = lnAt n i := by simp [lnP, List.getD, h]
theorem lnP_push (n : Int) (k : Nat) : lnP n (k + 1) = lnP n k ++ [lnAt n k] := by simp [lnP, List.range_succ]
def lnC (n : Int) : Int := if inB n 2 17 = true then 0 else 3
def lnL (n : Int) : List Int := if inB n 2 17 = true then lnP n n.toNat else []
theorem lnL_len (n : Int) : (lnL n).length ≤ 17 := by
  unfold lnL
  split
  · rename_i h
    have := inB_iff.1 h
    rw [lnP_len]; omega
  · simp
set_option maxHeartbeats 1000000 in
theorem LineCurve_any (n : Int) (w : World) : Calls Tryz.prog 143 #[.int .i64 n] w (CurAns w (lnC n) (lnL n)) := by
  rcases Bool.eq_false_or_eq_true (inB n 2 17) with hb | hb
  · obtain ⟨N, rfl⟩ : ∃ N : Nat, n = N := ⟨n.toNat, by have := inB_iff.1 hb; omega⟩
    obtain ⟨b1, b2⟩ := inB_iff.1 hb
    have hC : Hid (lnC N = 0) := by show _ = _; unfold lnC; rw [if_pos hb]
    have hL : Hid (lnL N = lnP N N) := by show _ = _; unfold lnL; rw [if_pos hb, Int.toNat_natCast]
    have hmk := run_make_row' (P := Tryz.prog) 25 2 (.int .i64 0) 8 Tryz.underlying25 info_i64 rfl .i64 .i64 N (by omega) (by omega)
    go_enter Tryz.func143, Tryz.ntmps143
    go_wp2_with (go_at_call 179; refine (isPointCount_any _ _).mono ?_; rintro e w' ⟨rfl, rfl⟩)
    clear hmk hb
    obtain ⟨W0, hW0⟩ : ∃ W0, w.alloc (.cells #[.int .i64 0, .slice none 0 0] 190) = W0 := ⟨_, rfl⟩
    have hz0 : W0.heap.size = w.heap.size + 1 := by rw [← hW0]; simp
    have hbx : W0.cell? ⟨w.heap.size, 0, none⟩ = some (.int .i64 0) ∧ W0.cell? ⟨w.heap.size, 1, none⟩ = some (.slice none 0 0) := by rw [← hW0]; simp
    have hth : Thaw W0 w.heap.size := by rw [← hW0]; exact thaw_new _ _ _
    have hbl : Below w.heap.size w W0 := by rw [← hW0]; exact blAlloc _ _
    have HZ0 := Lib.hid hz0
    have HBX := Lib.hid hbx
    have HTH := Lib.hid hth
    have HBL := Lib.hid hbl
    rw [hW0]
    simp only [← hz0]
    clear hW0 hz0 hbx hth hbl
    go_loopw [13] (fun i wr => ∃ j : Nat, j ≤ N ∧ i = .int .i64 j ∧ (∀ t, t < N → wr.cell? ⟨W0.heap.size, t, none⟩ = some (.int .i64 (if t < j then lnAt N t else 0))) ∧ Ch (W0.alloc (.cells (madeCells #[.int .i64 0] N) 2)) wr (· = W0.heap.size)) (fun i _ => N - (intOf i).toNat)
    case atStart => exact ⟨0, by omega, rfl, fun t ht => by simpa using made_cell W0 (.int .i64 0) N t 2 ht, Ch.refl _ _⟩
    case round =>
      obtain ⟨j, hj, rfl, hcell, honly⟩ := hrel
      by_cases hlt : j < N
      · have c2 := hcell j hlt
        have f2 : wr.frozen? ⟨W0.heap.size, j, none⟩ = false := by rw [honly.frozen _ _ (by simp)]; simp
        have HCell := Lib.hid hcell
        have HOnly := Lib.hid honly
        clear hcell honly
        go_wp2_with (go_at_call 180; refine (nearest_any _ _ _ (by omega) (by omega) (by omega) (by omega)).mono ?_; rintro e w' ⟨rfl, m, rfl⟩)
        go_roundw
        case rel =>
          refine ⟨j + 1, by omega, by go_num, fun t ht => ?_, (HOnly.out.trans (Ch.of_below _ (below_drewN _ m _))).trans (Ch.setCell _ (P := (· = W0.heap.size)) rfl _ _)⟩
          by_cases e : t = j
          · subst e
            rw [if_pos (by omega), World.cell?_setCell_same' _ _ _ (by simp [c2])]
            rfl
          · rw [World.cell?_setCell_other _ _ _ _ (by simp; try omega), World.cell?_drewN, HCell.out t ht]
            by_cases h2 : t < j
            · rw [if_pos h2, if_pos (by omega)]
            · rw [if_neg h2, if_neg (by omega)]
        case measure => simp [intOf]; omega
      · obtain rfl : j = N := by omega
        have x0 : wr.cell? ⟨w.heap.size, 0, none⟩ = some (.int .i64 0) := by rw [honly.cell (by have := HZ0.out; simp; omega) (by have := HZ0.out; omega), World.cell?_alloc_lt _ _ ⟨w.heap.size, 0, none⟩ (by have := HZ0.out; simp; omega)]; exact HBX.out.1
        have x1 : wr.cell? ⟨w.heap.size, 1, none⟩ = some (.slice none 0 0) := by rw [honly.cell (by have := HZ0.out; simp; omega) (by have := HZ0.out; omega), World.cell?_alloc_lt _ _ ⟨w.heap.size, 1, none⟩ (by have := HZ0.out; simp; omega)]; exact HBX.out.2
        have f0 : ∀ i, wr.frozen? ⟨w.heap.size, i, none⟩ = false := fun i => by rw [honly.frozen _ _ (by have := HZ0.out; simp; omega), (bcell (blAlloc W0 _)).2 w.heap.size i (by have := HZ0.out; omega)]; exact HTH.out i
        have HCell := Lib.hid hcell
        have HOnly := Lib.hid honly
        clear hcell honly
        go_wp2_with fail
        refine bodyPost_ret (v := .agg #[.int .i64 0, .slice (some ⟨W0.heap.size, 0, none⟩) j j]) (by simp [results, Tryz.results143, go_sem, x0, x1]) rfl ?_
        have hsz := HOnly.out.size
        simp at hsz
        have hz0 := HZ0.out
        rw [hC.out, hL.out]
        refine ⟨_, _, _, rfl, ?_, ?_⟩
        · have ho : Own wr (.ints .i64 (lnP j j)) (.slice (some ⟨W0.heap.size, 0, none⟩) j j) W0.heap.size wr.heap.size := by
            obtain ⟨bs, h1, h2, h3⟩ := Hd.of_rd (c := j) (k := .i64) (xs := lnP j j) (w := wr) (A := some ⟨W0.heap.size, 0, none⟩) (n := j) ⟨lnP_len _ _, fun _ => ⟨W0.heap.size, 0, rfl, fun i hi => by
              have := HCell.out i hi
              rw [if_pos hi] at this
              rw [lnP_get hi]
              simpa using this⟩⟩ (Nat.le_refl _) (by unfold maxLen; omega)
            refine ⟨bs, h1, h2, fun b hb => ?_⟩
            obtain ⟨_, o, e⟩ := h3 b hb
            injection e with e
            injection e with e1 e2
            subst e1
            exact ⟨Nat.le_refl _, by omega, fun i => by rw [HOnly.out.frozen _ _ (by simp)]; simp⟩
          refine Own.mono (lo := w.heap.size + 1) (hi := wr.heap.size) ?_ (by omega) (by simp [World.setCell])
          repeat (first | exact ho.mono (by omega) (Nat.le_refl _) | refine Own.set ?_ (.inl (by omega)) _ _)
        · have hT : Below w.heap.size w wr := HBL.out.trans ((blAlloc W0 _).trans (HOnly.out.below (fun k e => by omega) (by simp)) |>.mono (by omega))
          repeat (first | exact hT | refine Below.setCell ?_ (by simp) _)
  · have hC : Hid (lnC n = 3) := by show _ = _; unfold lnC; rw [if_neg (by rw [hb]; simp)]
    have hL : Hid (lnL n = []) := by show _ = _; unfold lnL; rw [if_neg (by rw [hb]; simp)]
    go_enter Tryz.func143, Tryz.ntmps143
    go_wp2_with (go_at_call 179; refine (isPointCount_any _ _).mono ?_; rintro e w' ⟨rfl, rfl⟩)
    refine bodyPost_ret (v := .agg #[.int .i64 3, .slice none 0 0]) (by simp [results, Tryz.results143, go_sem]) rfl ?_
    rw [hC.out, hL.out]
    refine CurAns.nothing ?_
    repeat (first | exact blAlloc _ _ | refine Below.setCell ?_ (by simp) _)

/-! ### the reference model's -/
/-- a list that grows in the field at b, 0; the result's box at r. -/
structure LSt (w : World) (r b : Nat) (A : Option Addr) (n c : Nat) (xs : List Int) (W : World) : Prop where
  box : W.cell? ⟨b, 0, none⟩ = some (.slice A n c)
  own : OwnI W (b + 1) (.slice A n c) n xs
  res : W.cell? ⟨r, 0, none⟩ = some (.slice none 0 0)
  thr : Thaw W r
  thb : Thaw W b
  bel : Below w.heap.size w W
  rb : r < b
  wr : w.heap.size ≤ r
theorem LSt.below {w W W' : World} {r b : Nat} {A : Option Addr} {n c : Nat} {xs : List Int} (h : LSt w r b A n c xs W) (hb : Below W.heap.size W W') : LSt w r b A n c xs W' := by
  obtain ⟨h1, h2⟩ := bcell hb
  exact ⟨(h1 _ _ (cell_lt h.box)).trans h.box, h.own.below hb, (h1 _ _ (cell_lt h.res)).trans h.res, fun i => (h2 _ _ (cell_lt h.res)).trans (h.thr i), fun i => (h2 _ _ (cell_lt h.box)).trans (h.thb i), blThen h.bel hb, h.rb, h.wr⟩
theorem LSt.push {w W W' : World} {r b : Nat} {A B : Option Addr} {n c d : Nat} {xs ys : List Int} (h : LSt w r b A n c xs W) (ho : OwnI W' (b + 1) (.slice B (n + 1) d) (n + 1) ys) (hg : W.grownBy W' (Value.slice A n c).ownBlock) (hv : ∀ g, (Value.slice A n c).ownBlock = some g → b + 1 ≤ g) :
    LSt w r b B (n + 1) d ys (W'.setCell ⟨b, 0, none⟩ (.slice B (n + 1) d)) := by
  have h1 := h.rb
  have h2 := h.wr
  have hlb := cell_lt h.box
  obtain ⟨cb, fb⟩ := gb_keep hg hv (b := b) (by omega) hlb
  obtain ⟨cr, fr⟩ := gb_keep hg hv (b := r) (by omega) (by omega)
  refine ⟨World.cell?_setCell_same' _ _ _ (by rw [cb, h.box]; rfl), ho.set (by omega) _ _, ?_, fun i => by simp [fr, h.thr i], fun i => by simp [fb, h.thb i], ?_, h.rb, h.wr⟩
  · rw [World.cell?_setCell_other _ _ _ _ (by simp; try omega), cr]; exact h.res
  · exact (h.bel.trans (gb_low' hg hv (by omega) (Nat.le_trans h.bel.size (Nat.le_refl _)))).setCell (by show w.heap.size ≤ b; omega) _
end Go.Proofs.YtdjifaaofefpoaaGreat
