/-
  A scene in which two lists in intervals of their own are changed at once (marks in an answer of two lists).
-/
import Derived.Test.YtmcdbingcclpcaaScene
namespace Go.Proofs.Ytmcdbingcclpcaa
open Go.RowKit

theorem Scene.turn2 {w w' w2 : World} {ag : List (Dat × Value)} {os os' : List Item} {bx : List (Nat × List Value)} {P : Nat → Prop} {d' d2 : Dat} {v v2 : Value} {lo hi lo2 hi2 : Nat} (h : Scene w w' ag os bx)
    (hc : Ch w' w2 P) (hP : ∀ k, P k → (lo ≤ k ∧ k < hi) ∨ (lo2 ≤ k ∧ k < hi2)) (hlo : w.heap.size ≤ lo) (hhi : hi ≤ w'.heap.size) (hlo2 : w.heap.size ≤ lo2) (hhi2 : hi2 ≤ w'.heap.size) (hn : Own w2 d' v lo hi) (hn2 : Own w2 d2 v2 lo2 hi2)
    (hos : ∀ q ∈ os', q ∈ os ∧ (q.hi ≤ lo ∨ hi ≤ q.lo) ∧ (q.hi ≤ lo2 ∨ hi2 ≤ q.lo)) (hbx : ∀ p ∈ bx, (p.1 < lo ∨ hi ≤ p.1) ∧ (p.1 < lo2 ∨ hi2 ≤ p.1)) : Scene w w2 ag (⟨d', v, lo, hi⟩ :: ⟨d2, v2, lo2, hi2⟩ :: os') bx where
  arg p hp := by
    obtain ⟨bs, a, b⟩ := h.arg p hp
    exact ⟨bs, a.ch hc (fun x hx hPx => by have := hP x hPx; have := b x hx; omega), b⟩
  own p hp := by
    rcases List.mem_cons.1 hp with rfl | hp
    · exact ⟨hn, hlo, Nat.le_trans hhi hc.size⟩
    · rcases List.mem_cons.1 hp with rfl | hp
      · exact ⟨hn2, hlo2, Nat.le_trans hhi2 hc.size⟩
      · obtain ⟨a, b⟩ := hos p hp
        obtain ⟨o1, o2, o3⟩ := h.own p a
        exact ⟨o1.ch hc (fun k k1 k2 hPk => by have := hP k hPk; omega), o2, Nat.le_trans o3 hc.size⟩
  box p hp j x hx := by
    have hcell := h.box p hp j x hx
    rw [hc.cell (cell_lt hcell) (fun hPk => by have := hP _ hPk; have := hbx p hp; omega)]; exact hcell
  bel := h.bel.trans (hc.below (fun k hk => by have := hP k hk; omega) h.bel.size)
end Go.Proofs.Ytmcdbingcclpcaa
