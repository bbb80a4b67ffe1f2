/-
  A box of cells that a call has made, as a list of values (Bx): kept, written into, read.
-/
import Derived.Test.YtmmlcdbbjkligaaBase
namespace Go.Proofs.Ytmmlcdbbjkligaa
open Go.RowKit
set_option linter.unusedVariables false
set_option linter.unusedSimpArgs false

structure Bx (W : World) (b : Nat) (l : List Value) : Prop where
  lt : b < W.heap.size
  th : Thaw W b
  at_ : ∀ (j : Nat) (v : Value), l[j]? = some v → W.cell? ⟨b, j, none⟩ = some v
theorem Bx.c {W : World} {b : Nat} {l : List Value} (h : Bx W b l) (j : Nat) {v : Value} (e : l[j]? = some v) : W.cell? ⟨b, j, none⟩ = some v := h.at_ j v e
theorem Bx.f {W : World} {b : Nat} {l : List Value} (h : Bx W b l) (j : Nat) : W.frozen? ⟨b, j, none⟩ = false := h.th j
theorem Bx.bel {W W' : World} {b : Nat} {l : List Value} (h : Bx W b l) (hb : Below W.heap.size W W') : Bx W' b l :=
  ⟨Nat.lt_of_lt_of_le h.lt hb.size, fun i => by rw [hb.frozen (p := ⟨b, i, none⟩) h.lt]; exact h.th i, fun j v e => by rw [hb.cell (p := ⟨b, j, none⟩) h.lt]; exact h.at_ j v e⟩
theorem Bx.alloc {W : World} {b : Nat} {l : List Value} (h : Bx W b l) (o : Obj) : Bx (W.alloc o) b l := h.bel (blAlloc _ _)
theorem Bx.drewN {W : World} {b : Nat} {l : List Value} (h : Bx W b l) (m : Nat) : Bx (W.drewN m) b l := h.bel (below_drewN _ _ _)
theorem Bx.new (W : World) (cs : Array Value) (t : TypeId) {b : Nat} (hb : b = W.heap.size) : Bx (W.alloc (.cells cs t)) b cs.toList := by
  subst hb
  exact ⟨by simp, thaw_new _ _ _, fun j v e => by simpa using e⟩
theorem Bx.set {W : World} {b : Nat} {l : List Value} (h : Bx W b l) (j : Nat) (v : Value) : Bx (W.setCell ⟨b, j, none⟩ v) b (l.set j v) := by
  refine ⟨by simpa [World.setCell] using h.lt, fun i => by simpa using h.th i, fun k u e => ?_⟩
  by_cases hk : k = j
  · subst hk
    have hl : k < l.length := by
      have := (List.getElem?_eq_some_iff.1 e).1
      simpa using this
    rw [World.cell?_setCell_same' W _ _ (by rw [h.at_ k l[k] (by simp)]; rfl)]
    rw [List.getElem?_set_self hl] at e
    exact e
  · rw [World.cell?_setCell_other _ _ _ _ (by simp only [ne_eq, Addr.mk.injEq, true_and, and_true]; omega)]
    rw [List.getElem?_set_ne (Ne.symm hk)] at e
    exact h.at_ k u e
theorem Bx.oth {W : World} {b c : Nat} {l : List Value} (h : Bx W b l) (hc : c ≠ b) (j : Nat) (v : Value) : Bx (W.setCell ⟨c, j, none⟩ v) b l :=
  ⟨by simpa [World.setCell] using h.lt, fun i => by simpa using h.th i, fun k u e => by
    rw [World.cell?_setCell_other _ _ _ _ (by simp only [ne_eq, Addr.mk.injEq, not_and]; intro q; omega)]; exact h.at_ k u e⟩
theorem Bx.othE {W W' : World} {b c j : Nat} {v : Value} {l : List Value} (h : Bx W b l) (e : W' = W.setCell ⟨c, j, none⟩ v) (hc : c ≠ b) : Bx W' b l := by rw [e]; exact h.oth hc j v
theorem Bx.setE {W W' : World} {b j : Nat} {v : Value} {l : List Value} (h : Bx W b l) (e : W' = W.setCell ⟨b, j, none⟩ v) : Bx W' b (l.set j v) := by rw [e]; exact h.set j v
theorem setSize (W : World) (a : Addr) (v : Value) : (W.setCell a v).heap.size = W.heap.size := by simp [World.setCell]
end Go.Proofs.Ytmmlcdbbjkligaa
