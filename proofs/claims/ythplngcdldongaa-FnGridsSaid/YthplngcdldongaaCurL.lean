/-
  LineCurve, by the program (make) and by the reference model (append).
-/
import Derived.Test.YthplngcdldongaaCurA
import Derived.Test.YthplngcdldongaaGrowA
namespace Go.Proofs.Ythplngcdldongaa
open Go.RowKit
set_option linter.unusedVariables false

/-- an answer: a code and a list of int64 in new memory. -/
def CurAns (w : World) (co : Int) (xs : List Int) (e : Ending) (w' : World) : Prop :=
  ∃ G n c, e = .returned (.agg #[.int .i64 co, .slice G n c]) ∧ Own w' (.ints .i64 xs) (.slice G n c) w.heap.size w'.heap.size ∧ Below w.heap.size w w'
theorem CurAns.nothing {w w' : World} {co : Int} (hb : Below w.heap.size w w') : CurAns w co [] (.returned (.agg #[.int .i64 co, .slice none 0 0])) w' :=
  ⟨_, _, _, rfl, Own.nil _ _ _ _ _ _ (Nat.zero_le _), hb⟩
/-- a point of the line. -/
def lnAt (n : Int) (i : Nat) : Int := rnd ((i : Int) * 65535) (n - 1)
def lnP (n : Int) (k : Nat) : List Int := (List.range k).map (lnAt n)
theorem lnP_len (n : Int) (k : Nat) : (lnP n k).length = k := by simp [lnP]
theorem lnP_get {n : Int} {k i : Nat} (h : i < k) : (lnP n k).getD i 0 = lnAt n i := by simp [lnP, List.getD, h]
theorem lnP_push (n : Int) (k : Nat) : lnP n (k + 1) = lnP n k ++ [lnAt n k] := by simp [lnP, List.range_succ]
def lnC (n : Int) : Int := if inB n 2 17 = true then 0 else 3
def lnL (n : Int) : List Int := if inB n 2 17 = true then lnP n n.toNat else []
theorem lnL_len (n : Int) : (lnL n).length ≤ 17 := by
  unfold lnL
  split
  · rename_i h
    have := inB_iff.1 h
    rw [lnP_len]; omega
  · simp
/-! ### the reference model's -/
/-- a list that grows in the field at b, 0; the result's box at r. -/
structure LSt (w : World) (r b : Nat) (A : Option Addr) (n c : Nat) (xs : List Int) (W : World) : Prop where
  box : W.cell? ⟨b, 0, none⟩ = some (.slice A n c)
  own : OwnI W (b + 1) (.slice A n c) n xs
  res : W.cell? ⟨r, 0, none⟩ = some (.slice none 0 0)
  thr : Thaw W r
  thb : Thaw W b
  bel : Below w.heap.size w W
  rb : r < b
  wr : w.heap.size ≤ r
theorem LSt.below {w W W' : World} {r b : Nat} {A : Option Addr} {n c : Nat} {xs : List Int} (h : LSt w r b A n c xs W) (hb : Below W.heap.size W W') : LSt w r b A n c xs W' := by
  obtain ⟨h1, h2⟩ := bcell hb
  exact ⟨(h1 _ _ (cell_lt h.box)).trans h.box, h.own.below hb, (h1 _ _ (cell_lt h.res)).trans h.res, fun i => (h2 _ _ (cell_lt h.res)).trans (h.thr i), fun i => (h2 _ _ (cell_lt h.box)).trans (h.thb i), blThen h.bel hb, h.rb, h.wr⟩
theorem LSt.push {w W W' : World} {r b : Nat} {A B : Option Addr} {n c d : Nat} {xs ys : List Int} (h : LSt w r b A n c xs W) (ho : OwnI W' (b + 1) (.slice B (n + 1) d) (n + 1) ys) (hg : W.grownBy W' (Value.slice A n c).ownBlock) (hv : ∀ g, (Value.slice A n c).ownBlock = some g → b + 1 ≤ g) :
    LSt w r b B (n + 1) d ys (W'.setCell ⟨b, 0, none⟩ (.slice B (n + 1) d)) := by
  have h1 := h.rb
  have h2 := h.wr
  have hlb := cell_lt h.box
  obtain ⟨cb, fb⟩ := gb_keep hg hv (b := b) (by omega) hlb
  obtain ⟨cr, fr⟩ := gb_keep hg hv (b := r) (by omega) (by omega)
  refine ⟨World.cell?_setCell_same' _ _ _ (by rw [cb, h.box]; rfl), ho.set (by omega) _ _, ?_, fun i => by simp [fr, h.thr i], fun i => by simp [fb, h.thb i], ?_, h.rb, h.wr⟩
  · rw [World.cell?_setCell_other _ _ _ _ (by simp; try omega), cr]; exact h.res
  · exact (h.bel.trans (gb_low' hg hv (by omega) (Nat.le_trans h.bel.size (Nat.le_refl _)))).setCell (by show w.heap.size ≤ b; omega) _
end Go.Proofs.Ythplngcdldongaa
