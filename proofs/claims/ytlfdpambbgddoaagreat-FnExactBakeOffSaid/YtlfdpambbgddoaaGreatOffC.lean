/-
  OffBy, by the program.
-/
import Derived.Test.YtlfdpambbgddoaaGreatOffB
import Derived.Test.YtlfdpambbgddoaaGreatChvA
import Derived.Test.YtlfdpambbgddoaaGreatSceneM
import Derived.Deep.RegionHeld3
import Derived.Deep.CutRange
namespace Go.Proofs.YtlfdpambbgddoaaGreat
open Go.RowKit Go.Maps
set_option linter.unusedVariables false
set_option linter.unusedSimpArgs false

/-- what stands behind the two calls: two boxes, two lists. -/
structure Off2 (W W' : World) (b1 b2 : Nat) (co : Int) (G1 : Option Addr) (n1 c1 : Nat) (G2 : Option Addr) (n2 c2 : Nat) (xs ys : List Int) : Prop where
  x : Bx W' b1 [.int .i64 co, .slice G1 n1 c1]
  y : Bx W' b2 [.int .i64 co, .slice G2 n2 c2]
  p : ∃ la lb, Own W' (.ints .i64 xs) (.slice G1 n1 c1) la lb ∧ W.heap.size ≤ la
  q : ∃ la lb, Own W' (.ints .i64 ys) (.slice G2 n2 c2) la lb ∧ W.heap.size ≤ la
  g : W.heap.size ≤ b1 ∧ W.heap.size ≤ b2
  bl : Below W.heap.size W W'
theorem run_arr3 (b o c : Nat) (W : World) : (Instr.arrayAt 76 (.slice (some ⟨b, o, none⟩) 3 c)).run Tryz.prog W = .ok (.pointer (some ⟨b, o, none⟩)) W := by kernel_rfl
theorem Own.ge {w : World} {k : IntKind} {xs : List Int} {b o n c lo hi : Nat} (h : Own w (.ints k xs) (.slice (some ⟨b, o, none⟩) n c) lo hi) (hn : 0 < n) : lo ≤ b := by
  obtain ⟨bs, h1, _, h3⟩ := h
  obtain ⟨A, m, d, e, _, _, _, q⟩ := h1.ints_inv
  cases e
  rcases q with ⟨rfl, _⟩ | ⟨b', o', _, e, rfl⟩
  · omega
  · cases e; exact (h3 b (by simp)).1
theorem bel1o {w W : World} {c : Nat} (h : Below w.heap.size w W) (hc : w.heap.size ≤ c) (i : Nat) (v : Value) : Below w.heap.size w (W.setCell ⟨c, i, none⟩ v) := h.setCell (p := ⟨c, i, none⟩) hc v
section
variable {W0 V : World} {b1 b2 : Nat} {co : Int} {G1 : Option Addr} {n1 c1 : Nat} {G2 : Option Addr} {n2 c2 : Nat} {xs ys : List Int} {la lb lc ld : Nat} {z1 z2 y1 y2 : Value}
theorem Off2.ss (T : Below W0.heap.size W0 V) (e1 : W0.heap.size ≤ la) (e2 : W0.heap.size ≤ lc) (X : Bx V b1 [z1, z2]) (Y : Bx V b2 [y1, y2]) (P : Own V (.ints .i64 xs) (.slice G1 n1 c1) la lb) (Q : Own V (.ints .i64 ys) (.slice G2 n2 c2) lc ld)
    (d : b1 ≠ b2) (g1 : W0.heap.size ≤ b1) (g2 : W0.heap.size ≤ b2) (p1 : b1 < la ∨ lb ≤ b1) (p2 : b2 < la ∨ lb ≤ b2) (q1 : b1 < lc ∨ ld ≤ b1) (q2 : b2 < lc ∨ ld ≤ b2) :
    Off2 W0 ((((V.setCell ⟨b1, 0, none⟩ (.int .i64 co)).setCell ⟨b1, 1, none⟩ (.slice G1 n1 c1)).setCell ⟨b2, 0, none⟩ (.int .i64 co)).setCell ⟨b2, 1, none⟩ (.slice G2 n2 c2)) b1 b2 co G1 n1 c1 G2 n2 c2 xs ys :=
  ⟨(((X.set 0 _).set 1 _).oth (Ne.symm d) _ _).oth (Ne.symm d) _ _, (((Y.oth d _ _).oth d _ _).set 0 _).set 1 _, ⟨la, lb, (((P.set p1 _ _).set p1 _ _).set p2 _ _).set p2 _ _, e1⟩, ⟨lc, ld, (((Q.set q1 _ _).set q1 _ _).set q2 _ _).set q2 _ _, e2⟩, ⟨g1, g2⟩,
   bel1o (bel1o (bel1o (bel1o T g1 _ _) g1 _ _) g2 _ _) g2 _ _⟩
theorem Off2.sa (T : Below W0.heap.size W0 V) (e1 : W0.heap.size ≤ la) (e2 : W0.heap.size ≤ lc) (X : Bx V b1 [z1, z2]) (P : Own V (.ints .i64 xs) (.slice G1 n1 c1) la lb) (Q : Own V (.ints .i64 ys) (.slice G2 n2 c2) lc ld)
    (e : b2 = V.heap.size) (g1 : W0.heap.size ≤ b1) (p1 : b1 < la ∨ lb ≤ b1) (q1 : b1 < lc ∨ ld ≤ b1) (t : TypeId) :
    Off2 W0 (((V.setCell ⟨b1, 0, none⟩ (.int .i64 co)).setCell ⟨b1, 1, none⟩ (.slice G1 n1 c1)).alloc (.cells #[.int .i64 co, .slice G2 n2 c2] t)) b1 b2 co G1 n1 c1 G2 n2 c2 xs ys :=
  ⟨((X.set 0 _).set 1 _).alloc _, Bx.new _ _ _ (by rw [e]; simp), ⟨la, lb, ((P.set p1 _ _).set p1 _ _).alloc _, e1⟩, ⟨lc, ld, ((Q.set q1 _ _).set q1 _ _).alloc _, e2⟩, ⟨g1, by rw [e]; exact T.size⟩, blThenAlloc (bel1o (bel1o T g1 _ _) g1 _ _) _⟩
theorem Off2.as (T : Below W0.heap.size W0 V) (e1 : W0.heap.size ≤ la) (e2 : W0.heap.size ≤ lc) (Y : Bx V b2 [y1, y2]) (P : Own V (.ints .i64 xs) (.slice G1 n1 c1) la lb) (Q : Own V (.ints .i64 ys) (.slice G2 n2 c2) lc ld)
    (e : b1 = V.heap.size) (g2 : W0.heap.size ≤ b2) (p2 : b2 < la ∨ lb ≤ b2) (q2 : b2 < lc ∨ ld ≤ b2) (t : TypeId) :
    Off2 W0 (((V.setCell ⟨b2, 0, none⟩ (.int .i64 co)).setCell ⟨b2, 1, none⟩ (.slice G2 n2 c2)).alloc (.cells #[.int .i64 co, .slice G1 n1 c1] t)) b1 b2 co G1 n1 c1 G2 n2 c2 xs ys :=
  ⟨Bx.new _ _ _ (by rw [e]; simp), ((Y.set 0 _).set 1 _).alloc _, ⟨la, lb, ((P.set p2 _ _).set p2 _ _).alloc _, e1⟩, ⟨lc, ld, ((Q.set q2 _ _).set q2 _ _).alloc _, e2⟩, ⟨by rw [e]; exact T.size, g2⟩, blThenAlloc (bel1o (bel1o T g2 _ _) g2 _ _) _⟩
theorem Off2.aa (T : Below W0.heap.size W0 V) (e1 : W0.heap.size ≤ la) (e2 : W0.heap.size ≤ lc) (P : Own V (.ints .i64 xs) (.slice G1 n1 c1) la lb) (Q : Own V (.ints .i64 ys) (.slice G2 n2 c2) lc ld) (t : TypeId) :
    Off2 W0 ((V.alloc (.cells #[.int .i64 co, .slice G1 n1 c1] t)).alloc (.cells #[.int .i64 co, .slice G2 n2 c2] t)) V.heap.size (V.heap.size + 1) co G1 n1 c1 G2 n2 c2 xs ys :=
  ⟨(Bx.new _ _ _ rfl).alloc _, Bx.new _ _ _ (by simp), ⟨la, lb, (P.alloc _).alloc _, e1⟩, ⟨lc, ld, (Q.alloc _).alloc _, e2⟩, ⟨T.size, Nat.le_trans T.size (Nat.le_succ _)⟩, blThenAlloc (blThenAlloc T _) _⟩
theorem Off2.aa2 (T : Below W0.heap.size W0 V) (e1 : W0.heap.size ≤ la) (e2 : W0.heap.size ≤ lc) (P : Own V (.ints .i64 xs) (.slice G1 n1 c1) la lb) (Q : Own V (.ints .i64 ys) (.slice G2 n2 c2) lc ld) (t : TypeId) :
    Off2 W0 ((V.alloc (.cells #[.int .i64 co, .slice G2 n2 c2] t)).alloc (.cells #[.int .i64 co, .slice G1 n1 c1] t)) (V.heap.size + 1) V.heap.size co G1 n1 c1 G2 n2 c2 xs ys :=
  ⟨Bx.new _ _ _ (by simp), (Bx.new _ _ _ rfl).alloc _, ⟨la, lb, (P.alloc _).alloc _, e1⟩, ⟨lc, ld, (Q.alloc _).alloc _, e2⟩, ⟨Nat.le_trans T.size (Nat.le_succ _), T.size⟩, blThenAlloc (blThenAlloc T _) _⟩
end
end Go.Proofs.YtlfdpambbgddoaaGreat
