/-
  LineCurve, by the program (make) and by the reference model (append).
-/
import Derived.Test.YtlfdpambbgddoaaCurA
import Derived.Test.YtlfdpambbgddoaaGrowA
namespace Go.Proofs.Ytlfdpambbgddoaa
open Go.RowKit
set_option linter.unusedVariables false

/-- an answer: a code and a list of int64 in new memory. -/
def CurAns (w : World) (co : Int) (xs : List Int) (e : Ending) (w' : World) : Prop :=
  ∃ G n c, e = .returned (.agg #[.int .i64 co, .slice G n c]) ∧ Own w' (.ints .i64 xs) (.slice G n c) w.heap.size w'.heap.size ∧ Below w.heap.size w w'
theorem CurAns.nothing {w w' : World} {co : Int} (hb : Below w.heap.size w w') : CurAns w co [] (.returned (.agg #[.int .i64 co, .slice none 0 0])) w' :=
  ⟨_, _, _, rfl, Own.nil _ _ _ _ _ _ (Nat.zero_le _), hb⟩
/-- a point of the line. -/
def lnAt (n : Int) (i : Nat) : Int := rnd ((i : Int) * 65535) (n - 1)
def lnP (n : Int) (k : Nat) : List Int := (List.range k).map (lnAt n)
theorem lnP_len (n : Int) (k : Nat) : (lnP n k).length = k := by simp [lnP]
theorem lnP_get {n : Int} {k i : Nat} (h : i < k) : (lnP n k).getD i 0 = lnAt n i := by simp [lnP, List.getD, h]
theorem lnP_push (n : Int) (k : Nat) : lnP n (k + 1) = lnP n k ++ [lnAt n k] := by simp [lnP, List.range_succ]
def lnC (n : Int) : Int := if inB n 2 17 = true then 0 else 3
def lnL (n : Int) : List Int := if inB n 2 17 = true then lnP n n.toNat else []
theorem lnL_len (n : Int) : (lnL n).length ≤ 17 := by
  unfold lnL
  split
  · rename_i h
    have := inB_iff.1 h
    rw [lnP_len]; omega
  · simp
/-! ### the reference model's -/
/-- a list that grows in the field at b, 0; the result's box at r. -/
structure LSt (w : World) (r b : Nat) (A : Option Addr) (n c : Nat) (xs : List Int) (W : World) : Prop where
  box : W.cell? ⟨b, 0, none⟩ = some (.slice A n c)
  own : OwnI W (b + 1) (.slice A n c) n xs
  res : W.cell? ⟨r, 0, none⟩ = some (.slice none 0 0)
  thr : Thaw W r
  thb : Thaw W b
  bel : Below w.heap.size w W
  rb : r < b
  wr : w.heap.size ≤ r
theorem LSt.below {w W W' : World} {r b : Nat} {A : Option Addr} {n c : Nat} {xs : List Int} (h : LSt w r b A n c xs W) (hb : Below W.heap.size W W') : LSt w r b A n c xs W' := by
  obtain ⟨h1, h2⟩ := bcell hb
  exact ⟨(h1 _ _ (cell_lt h.box)).trans h.box, h.own.below hb, (h1 _ _ (cell_lt h.res)).trans h.res, fun i => (h2 _ _ (cell_lt h.res)).trans (h.thr i), fun i => (h2 _ _ (cell_lt h.box)).trans (h.thb i), blThen h.bel hb, h.rb, h.wr⟩
theorem LSt.push {w W W' : World} {r b : Nat} {A B : Option Addr} {n c d : Nat} {xs ys : List Int} (h : LSt w r b A n c xs W) (ho : OwnI W' (b + 1) (.slice B (n + 1) d) (n + 1) ys) (hg : W.grownBy W' (Value.slice A n c).ownBlock) (hv : ∀ g, (Value.slice A n c).ownBlock = some g → b + 1 ≤ g) :
    LSt w r b B (n + 1) d ys (W'.setCell ⟨b, 0, none⟩ (.slice B (n + 1) d)) := by
  have h1 := h.rb
  have h2 := h.wr
  have hlb := cell_lt h.box
  obtain ⟨cb, fb⟩ := gb_keep hg hv (b := b) (by omega) hlb
  obtain ⟨cr, fr⟩ := gb_keep hg hv (b := r) (by omega) (by omega)
  refine ⟨World.cell?_setCell_same' _ _ _ (by rw [cb, h.box]; rfl), ho.set (by omega) _ _, ?_, fun i => by simp [fr, h.thr i], fun i => by simp [fb, h.thb i], ?_, h.rb, h.wr⟩
  · rw [World.cell?_setCell_other _ _ _ _ (by simp; try omega), cr]; exact h.res
  · exact (h.bel.trans (gb_low' hg hv (by omega) (Nat.le_trans h.bel.size (Nat.le_refl _)))).setCell (by show w.heap.size ≤ b; omega) _
set_option maxRecDepth 100000 in
set_option maxHeartbeats 2000000 in
theorem sLine_any (N : Nat) (w : World) (h1 : 2 ≤ N) (h2 : N ≤ 17) :
    Calls Try.prog 163 #[.int .i64 N] w fun e w' => ∃ G c, e = .returned (.agg #[.slice G N c]) ∧ Own w' (.ints .i64 (lnP N N)) (.slice G N c) w.heap.size w'.heap.size ∧ Below w.heap.size w w' := by
  have hS0 : LSt w w.heap.size (w.heap.size + 1) Option.none 0 0 [] ((w.alloc (.cells #[.slice none 0 0] 71)).alloc (.cells #[.slice none 0 0] 71)) :=
    ⟨by simp, OwnI.nil _ _, by simp, fun i => by simp, fun i => by simp, blThenAlloc (blAlloc _ _) _, by omega, Nat.le_refl _⟩
  have HS0 := Lib.hid hS0
  clear hS0
  go_enter Try.func163, Try.ntmps163
  go_wp2_with fail
  go_loopw [4] (fun i wr => ∃ (j : Nat) (A : Option Addr) (c : Nat), j ≤ N ∧ i = .int .i64 j ∧ LSt w w.heap.size (w.heap.size + 1) A j c (lnP N j) wr) (fun i _ => N - (intOf i).toNat)
  case atStart => exact ⟨0, Option.none, 0, by omega, rfl, HS0.out⟩
  case round =>
    obtain ⟨j, A, c, hj, rfl, hS⟩ := hrel
    have HS := Lib.hid hS
    by_cases hlt : j < N
    · have x1 := hS.box
      have hl1 := cell_lt x1
      have w1 : IntKind.i64.wrap ((j : Int) * 65535) = (j : Int) * 65535 := IntWalk.i64_in _ (by omega)
      have w2 : IntKind.i64.wrap ((N : Int) - 1) = (N : Int) - 1 := IntWalk.i64_in _ (by omega)
      clear hS
      go_wp2_with fail
      go_region_law (first
        | (refine step_append_i64 _ rfl _ _ rfl (w.heap.size + 2) (.slice A j c) j (lnP N j) rfl ((HS.out.below (below_drewN _ 1 _)).own.alloc _) wr.heap.size 1 (lnAt N j) rfl (by simp; rfl) (by omega) (by simp; omega) ?_; intro v5 w5 ho5 hg5 hv5; obtain ⟨A5, c5, rfl⟩ := ho5.form; obtain ⟨kc, kf⟩ := gb_keep hg5 hv5 (b := w.heap.size + 1) (by omega) (by simp; omega); have y1 := (kc 0).trans (((HS.out.below (below_drewN _ 1 _)).below (blAlloc _ (.cells #[.int .i64 (lnAt N j)] 2))).box); have y2 := (kf 0).trans (((HS.out.below (below_drewN _ 1 _)).below (blAlloc _ (.cells #[.int .i64 (lnAt N j)] 2))).thb 0); clear kc kf)
        | (go_simp; go_at_call 83; refine (sRound_any _ _ _ (by omega) (by omega) (by omega) (by omega)).mono ?_; rintro e w' ⟨rfl, rfl⟩))
      all_goals
        have HP := Lib.hid (((HS.out.below (below_drewN _ 1 _)).below (blAlloc _ (.cells #[.int .i64 (lnAt N j)] 2))).push ho5 hg5 hv5)
        clear ho5 hg5 hv5 y1 y2 w1 w2
        go_wp2_with fail
        go_roundw
        case rel => exact ⟨j + 1, A5, c5, by omega, by go_num, by rw [lnP_push]; exact HP.out⟩
        case measure => simp [intOf]; omega
    · obtain rfl : j = N := by omega
      have x1 := hS.box
      have r1 := hS.res
      have f1 := hS.thr 0
      clear hS
      go_wp2_with fail
      refine bodyPost_ret (v := .agg #[.slice A j c]) (by simp [results, Try.results163, go_sem, r1]) rfl ⟨A, c, rfl, ?_, ?_⟩
      · exact ((HS.out.own.own.set (b := w.heap.size) (.inl (by omega)) _ _)).mono (by omega) (by simp [World.setCell])
      · exact HS.out.bel.setCell (by simp) _
end Go.Proofs.Ytlfdpambbgddoaa
