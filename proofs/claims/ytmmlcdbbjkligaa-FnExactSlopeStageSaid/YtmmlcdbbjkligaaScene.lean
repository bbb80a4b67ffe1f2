/-
  What a law's walk carries from call to call: arguments (ag), memory of its own in intervals of blocks (os), boxes with known cells (bx).
-/
import Derived.Test.YtmmlcdbbjkligaaBase
namespace Go.Proofs.Ytmmlcdbbjkligaa
open Go.RowKit
set_option linter.unusedVariables false

structure Item where
  d : Dat
  v : Value
  lo : Nat
  hi : Nat
structure Scene (w w' : World) (ag : List (Dat × Value)) (os : List Item) (bx : List (Nat × List Value)) : Prop where
  arg : ∀ p ∈ ag, ∃ bs, Hd w' p.1 p.2 bs ∧ ∀ b ∈ bs, b < w.heap.size
  own : ∀ p ∈ os, Own w' p.d p.v p.lo p.hi ∧ w.heap.size ≤ p.lo ∧ p.hi ≤ w'.heap.size
  box : ∀ p ∈ bx, ∀ j x, p.2[j]? = some x → w'.cell? ⟨p.1, j, none⟩ = some x
  bel : Below w.heap.size w w'
theorem Scene.below {w w' w2 : World} {ag : List (Dat × Value)} {os : List Item} {bx : List (Nat × List Value)} (h : Scene w w' ag os bx) (hb : Below w'.heap.size w' w2) : Scene w w2 ag os bx where
  arg p hp := by
    obtain ⟨bs, a, b⟩ := h.arg p hp
    exact ⟨bs, a.bel hb, b⟩
  own p hp := by
    obtain ⟨a, b, c⟩ := h.own p hp
    exact ⟨a.below hb, b, Nat.le_trans c hb.size⟩
  box p hp j x hx := cell_later hb (h.box p hp j x hx)
  bel := blThen h.bel hb
theorem Scene.drew {w w' : World} {ag : List (Dat × Value)} {os : List Item} {bx : List (Nat × List Value)} (h : Scene w w' ag os bx) : Scene w w'.drew ag os bx := h.below (Below.refl _ _).drew
theorem Scene.alloc {w w' : World} {ag : List (Dat × Value)} {os : List Item} {bx : List (Nat × List Value)} (h : Scene w w' ag os bx) (o : Obj) : Scene w (w'.alloc o) ag os bx := h.below (blAlloc _ _)
/-- one thing more of one's own. -/
theorem Scene.addOwn {w w' : World} {ag : List (Dat × Value)} {os : List Item} {bx : List (Nat × List Value)} (h : Scene w w' ag os bx) {d : Dat} {v : Value} {lo hi : Nat} (ho : Own w' d v lo hi) (h1 : w.heap.size ≤ lo) (h2 : hi ≤ w'.heap.size) : Scene w w' ag (⟨d, v, lo, hi⟩ :: os) bx where
  arg := h.arg
  own p hp := by
    rcases List.mem_cons.1 hp with rfl | hp
    · exact ⟨ho, h1, h2⟩
    · exact h.own p hp
  box := h.box
  bel := h.bel
/-- a box more, just made. -/
theorem Scene.addBox {w w' : World} {ag : List (Dat × Value)} {os : List Item} {bx : List (Nat × List Value)} (h : Scene w w' ag os bx) (cs : List Value) (t : TypeId) : Scene w (w'.alloc (.cells cs.toArray t)) ag os ((w'.heap.size, cs) :: bx) where
  arg := (h.alloc _).arg
  own := (h.alloc _).own
  box p hp j x hx := by
    rcases List.mem_cons.1 hp with rfl | hp
    · simpa using hx
    · exact (h.alloc _).box p hp j x hx
  bel := (h.alloc _).bel
theorem Scene.start (w : World) (ag : List (Dat × Value)) (h : ∀ p ∈ ag, ∃ bs, Hd w p.1 p.2 bs) : Scene w w ag [] [] where
  arg p hp := by
    obtain ⟨bs, a⟩ := h p hp
    exact ⟨bs, a, a.lt⟩
  own p hp := by cases hp
  box p hp := by cases hp
  bel := Below.refl _ _
/-- what lies in one interval has turned. -/
theorem Scene.turn {w w' w2 : World} {ag : List (Dat × Value)} {os os' : List Item} {bx : List (Nat × List Value)} {P : Nat → Prop} {d' : Dat} {v : Value} {lo hi : Nat} (h : Scene w w' ag os bx)
    (hc : Ch w' w2 P) (hP : ∀ k, P k → lo ≤ k ∧ k < hi) (hlo : w.heap.size ≤ lo) (hhi : hi ≤ w'.heap.size) (hn : Own w2 d' v lo hi)
    (hos : ∀ q ∈ os', q ∈ os ∧ (q.hi ≤ lo ∨ hi ≤ q.lo)) (hbx : ∀ p ∈ bx, p.1 < lo ∨ hi ≤ p.1) : Scene w w2 ag (⟨d', v, lo, hi⟩ :: os') bx where
  arg p hp := by
    obtain ⟨bs, a, b⟩ := h.arg p hp
    exact ⟨bs, a.ch hc (fun x hx hPx => by have := hP x hPx; have := b x hx; omega), b⟩
  own p hp := by
    rcases List.mem_cons.1 hp with rfl | hp
    · exact ⟨hn, hlo, Nat.le_trans hhi hc.size⟩
    · obtain ⟨a, b⟩ := hos p hp
      obtain ⟨o1, o2, o3⟩ := h.own p a
      exact ⟨o1.ch hc (fun k k1 k2 hPk => by have := hP k hPk; omega), o2, Nat.le_trans o3 hc.size⟩
  box p hp j x hx := by
    have hcell := h.box p hp j x hx
    rw [hc.cell (cell_lt hcell) (fun hPk => by have := hP _ hPk; have := hbx p hp; omega)]; exact hcell
  bel := h.bel.trans (hc.below (fun k hk => by have := hP k hk; omega) h.bel.size)
theorem Scene.ownI {w w' : World} {ag : List (Dat × Value)} {os : List Item} {bx : List (Nat × List Value)} (h : Scene w w' ag os bx) (k : Nat) {p : Item} (hp : os[k]? = some p) : Own w' p.d p.v p.lo p.hi := (h.own p (List.mem_of_getElem? hp)).1
theorem Scene.boxI {w w' : World} {ag : List (Dat × Value)} {os : List Item} {bx : List (Nat × List Value)} (h : Scene w w' ag os bx) (k j : Nat) {p : Nat × List Value} {x : Value} (hp : bx[k]? = some p) (hx : p.2[j]? = some x) : w'.cell? ⟨p.1, j, none⟩ = some x := h.box p (List.mem_of_getElem? hp) j x hx
theorem Scene.argI {w w' : World} {ag : List (Dat × Value)} {os : List Item} {bx : List (Nat × List Value)} (h : Scene w w' ag os bx) (k : Nat) {p : Dat × Value} (hp : ag[k]? = some p) : ∃ bs, Hd w' p.1 p.2 bs := by
  obtain ⟨bs, a, _⟩ := h.arg p (List.mem_of_getElem? hp)
  exact ⟨bs, a⟩
end Go.Proofs.Ytmmlcdbbjkligaa
