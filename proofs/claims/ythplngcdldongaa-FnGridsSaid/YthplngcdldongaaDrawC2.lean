/-
  The draws of curves that may be bent, and of levels: l3Bent, l3BentLevel, DrawEvalCurve, DrawSolveCurve, DrawPackCurve, DrawSlopeOf; the law's own choice (lwAt).
-/
import Derived.Test.YthplngcdldongaaDrawC
import Derived.Deep.RegionWith
namespace Go.Proofs.Ythplngcdldongaa
open Go.RowKit
set_option linter.unusedVariables false

def AnyP (r : Int) : Prop := -1 ≤ r ∧ r ≤ 65536
theorem CSt.set {w : World} {g r b : Nat} {A : Option Addr} {n c : Nat} {xs : List Int} {Q q0 : Int} {B : Option Addr} {m cp : Nat} {W : World} (h : CSt w g r b A n c xs Q B m cp W) (h0 : Src w g A n c xs q0)
    {d : Nat} (hd : w.heap.size ≤ d) (h1 : d ≠ b) (h2 : d ≠ r) (i : Nat) (x : Value) : CSt w g r b A n c xs Q B m cp (W.setCell ⟨d, i, none⟩ x) := by
  obtain ⟨q', hq', hs⟩ := h.src
  have hb2 : Below w.heap.size W (W.setCell ⟨d, i, none⟩ x) := (Below.refl _ _).setCell (p := ⟨d, i, none⟩) hd _
  refine ⟨⟨q', hq', h0.low hs hb2⟩, ?_, ?_, fun j => ?_, fun j => ?_, gb_low h.gb hb2, h.rb, h.gr, h.wr⟩
  · rw [World.cell?_setCell_other _ _ _ _ (by simp; try omega)]; exact h.box
  · rw [World.cell?_setCell_other _ _ _ _ (by simp; try omega)]; exact h.res
  · rw [World.frozen?_setCell]; exact h.thr j
  · rw [World.frozen?_setCell]; exact h.thb j
theorem cell_own {W : World} {ps : List Int} {b o m c lo hi : Nat} (h : Own W (.ints .i64 ps) (.slice (some ⟨b, o, none⟩) m c) lo hi) (hm : 0 < m) : W.cell? ⟨b, o, none⟩ = some (.int .i64 (ps.getD 0 0)) ∧ W.frozen? ⟨b, o, none⟩ = false := by
  obtain ⟨b2, o2, e2, _, _, th, hc⟩ := h.slotI hm
  injection e2 with e2
  injection e2 with e3 e4
  subst e3 e4
  exact ⟨by have := hc 0 hm; rwa [Nat.add_zero] at this, th o⟩
/-- a curve that may be bent. -/
def CurBt (w : World) (g : Nat) (A : Option Addr) (n c : Nat) (xs : List Int) (q d : Int) (e : Ending) (w' : World) : Prop :=
  ∃ G m cp ps, e = .returned (.agg #[.slice G m cp]) ∧ m ≤ 18 ∧ Own w' (.ints .i64 ps) (.slice G m cp) (w.heap.size + 1) w'.heap.size ∧ (∃ q', q' ≤ q + d ∧ Src w' g A n c xs q') ∧ w.grownBy w' (some g)
def PkP (r : Int) : Prop := r = 0 ∨ r = 1 ∨ r = 17 ∨ r = 18
/-- a curve that may be bent, of a law's code, and a level that may be none. -/
def DrCV (w : World) (P : Int → Prop) (e : Ending) (w' : World) : Prop :=
  ∃ G m cp ps v, e = .returned (.tuple #[.agg #[.slice G m cp], .int .i64 v]) ∧ m ≤ 18 ∧ P v ∧ Own w' (.ints .i64 ps) (.slice G m cp) w.heap.size w'.heap.size ∧ Below w.heap.size w w'
def DrC (w : World) (e : Ending) (w' : World) : Prop :=
  ∃ G m cp ps, e = .returned (.agg #[.slice G m cp]) ∧ m ≤ 18 ∧ Own w' (.ints .i64 ps) (.slice G m cp) w.heap.size w'.heap.size ∧ Below w.heap.size w w'
theorem bl_of_gb {w W W' : World} {g : Nat} (h : Below w.heap.size w W) (hg : W.grownBy W' (some g)) (hgw : w.heap.size ≤ g) : Below w.heap.size w W' := h.trans (gb_to_below hg hgw h.size)
/-- the law's own choice. -/
def LwP (w : World) (k : Int) (e : Ending) (w' : World) : Prop := ∃ r, 0 ≤ r ∧ r < k ∧ e = .returned (.int .i64 r) ∧ ∃ m, w' = w.drewN m
end Go.Proofs.Ythplngcdldongaa
