/-
  What a drawn region of a law leaves: an answer in new memory, and its box, wherever it was made (MR).
-/
import Derived.Test.YthplngcdldongaaBaseA
namespace Go.Proofs.Ythplngcdldongaa
open Go.RowKit
set_option linter.unusedVariables false

structure MR (W wx : World) (cells : List Value) (d : Dat) (v : Value) (g la lb : Nat) : Prop where
  bl : Below W.heap.size W wx
  bx : ∀ j x, cells[j]? = some x → wx.cell? ⟨g, j, none⟩ = some x
  own : Own wx d v la lb
  hla : W.heap.size ≤ la
  hll : la ≤ lb
  hlb : lb ≤ wx.heap.size
  g0 : W.heap.size ≤ g
  g1 : g < wx.heap.size
/-- the box was made last. -/
theorem MR.last {W V : World} {cells : List Value} {d : Dat} {v : Value} {la : Nat} (t : TypeId) (hb : Below W.heap.size W V) (ho : Own V d v la V.heap.size) (h1 : W.heap.size ≤ la) (h2 : la ≤ V.heap.size) : MR W (V.alloc (.cells cells.toArray t)) cells d v V.heap.size la V.heap.size :=
  ⟨blThenAlloc hb _, fun j x e => by simpa using e, ho.alloc _, h1, h2, by simp, hb.size, by simp⟩
/-- the box was there, and is filled. -/
theorem MR.set {W V wx : World} {l cells : List Value} {d : Dat} {v : Value} {g la : Nat} (hb : Below W.heap.size W V) (ho : Own V d v la V.heap.size) (hg : Bx V g l) (h1 : W.heap.size ≤ la) (h2 : la ≤ V.heap.size) (h3 : W.heap.size ≤ g) (h4 : g < la) (hc : Ch V wx (· = g)) (hx : Bx wx g cells) : MR W wx cells d v g la V.heap.size :=
  ⟨hb.trans (hc.below (B := W.heap.size) (fun k e => by omega) hb.size), fun j x e => hx.c j e, ho.ch hc (fun k k1 k2 e => by omega), h1, h2, hc.size, h3, hx.lt⟩
theorem Ch.set1 {V W : World} {g : Nat} (h : Ch V W (· = g)) (j : Nat) (x : Value) : Ch V (W.setCell ⟨g, j, none⟩ x) (· = g) := h.trans (Ch.setCell W (P := (· = g)) rfl j x)
theorem Scene.addMR {w W wx : World} {ag : List (Dat × Value)} {os : List Item} {bx : List (Nat × List Value)} {cells : List Value} {d : Dat} {v : Value} {g la lb : Nat} (h : Scene w W ag os bx) (m : MR W wx cells d v g la lb) : Scene w wx ag (⟨d, v, la, lb⟩ :: os) ((g, cells) :: bx) := by
  have hb := h.below m.bl
  have hw := h.bel.size
  refine ⟨hb.arg, fun p hp => ?_, fun p hp j x hx => ?_, hb.bel⟩
  · rcases List.mem_cons.1 hp with rfl | hp
    · exact ⟨m.own, by have := m.hla; show w.heap.size ≤ la; omega, m.hlb⟩
    · exact hb.own p hp
  · rcases List.mem_cons.1 hp with rfl | hp
    · exact m.bx j x hx
    · exact hb.box p hp j x hx
theorem cell_s {V : World} {g box i j : Nat} {x v : Value} (h : V.cell? ⟨box, j, none⟩ = some v) (hn : g ≠ box) : (V.setCell ⟨g, i, none⟩ x).cell? ⟨box, j, none⟩ = some v := by
  rw [World.cell?_setCell_other _ _ _ _ (by simp only [ne_eq, Addr.mk.injEq, not_and]; intro q; omega)]
  exact h
end Go.Proofs.Ythplngcdldongaa
