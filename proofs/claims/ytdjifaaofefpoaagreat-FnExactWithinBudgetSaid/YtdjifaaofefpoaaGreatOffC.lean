/-
  OffBy, by the program.
-/
import Derived.Test.YtdjifaaofefpoaaGreatOffB
import Derived.Test.YtdjifaaofefpoaaGreatChvA
import Derived.Test.YtdjifaaofefpoaaGreatSceneM
import Derived.Deep.RegionHeld3
import Derived.Deep.CutRange
namespace Go.Proofs.YtdjifaaofefpoaaGreat
open Go.RowKit Go.Maps
set_option linter.unusedVariables false
set_option linter.unusedSimpArgs false

/-- what stands behind the two calls: two boxes, two lists. -/
structure Off2 (W W' : World) (b1 b2 : Nat) (co : Int) (G1 : Option Addr) (n1 c1 : Nat) (G2 : Option Addr) (n2 c2 : Nat) (xs ys : List Int) : Prop where
  x : Bx W' b1 [.int .i64 co, .slice G1 n1 c1]
  y : Bx W' b2 [.int .i64 co, .slice G2 n2 c2]
  p : ∃ la lb, Own W' (.ints .i64 xs) (.slice G1 n1 c1) la lb ∧ W.heap.size ≤ la
  q : ∃ la lb, Own W' (.ints .i64 ys) (.slice G2 n2 c2) la lb ∧ W.heap.size ≤ la
  g : W.heap.size ≤ b1 ∧ W.heap.size ≤ b2
  bl : Below W.heap.size W W'
theorem run_arr3 (b o c : Nat) (W : World) : (Instr.arrayAt 58 (.slice (some ⟨b, o, none⟩) 3 c)).run Tryz.prog W = .ok (.pointer (some ⟨b, o, none⟩)) W := by kernel_rfl
theorem Own.ge {w : World} {k : IntKind} {xs : List Int} {b o n c lo hi : Nat} (h : Own w (.ints k xs) (.slice (some ⟨b, o, none⟩) n c) lo hi) (hn : 0 < n) : lo ≤ b := by
  obtain ⟨bs, h1, _, h3⟩ := h
  obtain ⟨A, m, d, e, _, _, _, q⟩ := h1.ints_inv
  cases e
  rcases q with ⟨rfl, _⟩ | ⟨b', o', _, e, rfl⟩
  · omega
  · cases e; exact (h3 b (by simp)).1
theorem bel1o {w W : World} {c : Nat} (h : Below w.heap.size w W) (hc : w.heap.size ≤ c) (i : Nat) (v : Value) : Below w.heap.size w (W.setCell ⟨c, i, none⟩ v) := h.setCell (p := ⟨c, i, none⟩) hc v
section
variable {W0 V : World} {b1 b2 : Nat} {co : Int} {G1 : Option Addr} {n1 c1 : Nat} {G2 : Option Addr} {n2 c2 : Nat} {xs ys : List Int} {la lb lc ld : Nat} {z1 z2 y1 y2 : Value}
theorem Off2.ss (T : Below W0.heap.size W0 V) (e1 : W0.heap.size ≤ la) (e2 : W0.heap.size ≤ lc) (X : Bx V b1 [z1, z2]) (Y : Bx V b2 [y1, y2]) (P : Own V (.ints .i64 xs) (.slice G1 n1 c1) la lb) (Q : Own V (.ints .i64 ys) (.slice G2 n2 c2) lc ld)
    (d : b1 ≠ b2) (g1 : W0.heap.size ≤ b1) (g2 : W0.heap.size ≤ b2) (p1 : b1 < la ∨ lb ≤ b1) (p2 : b2 < la ∨ lb ≤ b2) (q1 : b1 < lc ∨ ld ≤ b1) (q2 : b2 < lc ∨ ld ≤ b2) :
    Off2 W0 ((((V.setCell ⟨b1, 0, none⟩ (.int .i64 co)).setCell ⟨b1, 1, none⟩ (.slice G1 n1 c1)).setCell ⟨b2, 0, none⟩ (.int .i64 co)).setCell ⟨b2, 1, none⟩ (.slice G2 n2 c2)) b1 b2 co G1 n1 c1 G2 n2 c2 xs ys :=
  ⟨(((X.set 0 _).set 1 _).oth (Ne.symm d) _ _).oth (Ne.symm d) _ _, (((Y.oth d _ _).oth d _ _).set 0 _).set 1 _, ⟨la, lb, (((P.set p1 _ _).set p1 _ _).set p2 _ _).set p2 _ _, e1⟩, ⟨lc, ld, (((Q.set q1 _ _).set q1 _ _).set q2 _ _).set q2 _ _, e2⟩, ⟨g1, g2⟩,
   bel1o (bel1o (bel1o (bel1o T g1 _ _) g1 _ _) g2 _ _) g2 _ _⟩
theorem Off2.sa (T : Below W0.heap.size W0 V) (e1 : W0.heap.size ≤ la) (e2 : W0.heap.size ≤ lc) (X : Bx V b1 [z1, z2]) (P : Own V (.ints .i64 xs) (.slice G1 n1 c1) la lb) (Q : Own V (.ints .i64 ys) (.slice G2 n2 c2) lc ld)
    (e : b2 = V.heap.size) (g1 : W0.heap.size ≤ b1) (p1 : b1 < la ∨ lb ≤ b1) (q1 : b1 < lc ∨ ld ≤ b1) (t : TypeId) :
    Off2 W0 (((V.setCell ⟨b1, 0, none⟩ (.int .i64 co)).setCell ⟨b1, 1, none⟩ (.slice G1 n1 c1)).alloc (.cells #[.int .i64 co, .slice G2 n2 c2] t)) b1 b2 co G1 n1 c1 G2 n2 c2 xs ys :=
  ⟨((X.set 0 _).set 1 _).alloc _, Bx.new _ _ _ (by rw [e]; simp), ⟨la, lb, ((P.set p1 _ _).set p1 _ _).alloc _, e1⟩, ⟨lc, ld, ((Q.set q1 _ _).set q1 _ _).alloc _, e2⟩, ⟨g1, by rw [e]; exact T.size⟩, blThenAlloc (bel1o (bel1o T g1 _ _) g1 _ _) _⟩
theorem Off2.as (T : Below W0.heap.size W0 V) (e1 : W0.heap.size ≤ la) (e2 : W0.heap.size ≤ lc) (Y : Bx V b2 [y1, y2]) (P : Own V (.ints .i64 xs) (.slice G1 n1 c1) la lb) (Q : Own V (.ints .i64 ys) (.slice G2 n2 c2) lc ld)
    (e : b1 = V.heap.size) (g2 : W0.heap.size ≤ b2) (p2 : b2 < la ∨ lb ≤ b2) (q2 : b2 < lc ∨ ld ≤ b2) (t : TypeId) :
    Off2 W0 (((V.setCell ⟨b2, 0, none⟩ (.int .i64 co)).setCell ⟨b2, 1, none⟩ (.slice G2 n2 c2)).alloc (.cells #[.int .i64 co, .slice G1 n1 c1] t)) b1 b2 co G1 n1 c1 G2 n2 c2 xs ys :=
  ⟨Bx.new _ _ _ (by rw [e]; simp), ((Y.set 0 _).set 1 _).alloc _, ⟨la, lb, ((P.set p2 _ _).set p2 _ _).alloc _, e1⟩, ⟨lc, ld, ((Q.set q2 _ _).set q2 _ _).alloc _, e2⟩, ⟨by rw [e]; exact T.size, g2⟩, blThenAlloc (bel1o (bel1o T g2 _ _) g2 _ _) _⟩
theorem Off2.aa (T : Below W0.heap.size W0 V) (e1 : W0.heap.size ≤ la) (e2 : W0.heap.size ≤ lc) (P : Own V (.ints .i64 xs) (.slice G1 n1 c1) la lb) (Q : Own V (.ints .i64 ys) (.slice G2 n2 c2) lc ld) (t : TypeId) :
    Off2 W0 ((V.alloc (.cells #[.int .i64 co, .slice G1 n1 c1] t)).alloc (.cells #[.int .i64 co, .slice G2 n2 c2] t)) V.heap.size (V.heap.size + 1) co G1 n1 c1 G2 n2 c2 xs ys :=
  ⟨(Bx.new _ _ _ rfl).alloc _, Bx.new _ _ _ (by simp), ⟨la, lb, (P.alloc _).alloc _, e1⟩, ⟨lc, ld, (Q.alloc _).alloc _, e2⟩, ⟨T.size, Nat.le_trans T.size (Nat.le_succ _)⟩, blThenAlloc (blThenAlloc T _) _⟩
theorem Off2.aa2 (T : Below W0.heap.size W0 V) (e1 : W0.heap.size ≤ la) (e2 : W0.heap.size ≤ lc) (P : Own V (.ints .i64 xs) (.slice G1 n1 c1) la lb) (Q : Own V (.ints .i64 ys) (.slice G2 n2 c2) lc ld) (t : TypeId) :
    Off2 W0 ((V.alloc (.cells #[.int .i64 co, .slice G2 n2 c2] t)).alloc (.cells #[.int .i64 co, .slice G1 n1 c1] t)) (V.heap.size + 1) V.heap.size co G1 n1 c1 G2 n2 c2 xs ys :=
  ⟨Bx.new _ _ _ (by simp), (Bx.new _ _ _ rfl).alloc _, ⟨la, lb, (P.alloc _).alloc _, e1⟩, ⟨lc, ld, (Q.alloc _).alloc _, e2⟩, ⟨Nat.le_trans T.size (Nat.le_succ _), T.size⟩, blThenAlloc (blThenAlloc T _) _⟩
end
set_option maxRecDepth 100000 in
set_option maxHeartbeats 8000000 in
theorem OffBy_any (A : Option Addr) (n c : Nat) (ts : List Stg) (bs : List Nat) (P : Option Addr) (m d : Nat) (xs : List Int) (gs : List Nat) (w : World) (h : Hd w (chD ts) (.slice A n c) bs) (hp : Hd w (.ints .i64 xs) (.slice P m d) gs) :
    Calls Tryz.prog 11 #[.agg #[.slice A n c], .slice P m d] w fun e w' => e = .returned (.agg #[.int .i64 (chC ts xs), .int .i64 (offV ts xs)]) ∧ Below w.heap.size w w' := by
  obtain ⟨W0, hW0⟩ : ∃ W0, W0 = (w.alloc (.cells #[.slice A n c] 32)).alloc (.cells #[.int .i64 0, .int .i64 0] 28) := ⟨_, rfl⟩
  have H : Hid (Hd W0 (chD ts) (.slice A n c) bs) := by show Hd _ _ _ _; rw [hW0]; exact (h.alloc _).alloc _
  have HP : Hid (Hd W0 (.ints .i64 xs) (.slice P m d) gs) := by show Hd _ _ _ _; rw [hW0]; exact (hp.alloc _).alloc _
  have T : Hid (Below w.heap.size w W0) := by show Below _ _ _; rw [hW0]; exact blThenAlloc (blAlloc _ _) _
  have x0 : W0.cell? ⟨w.heap.size, 0, none⟩ = some (.slice A n c) := by rw [hW0]; exact ((Bx.new w #[.slice A n c] 32 rfl).alloc _).c 0 rfl
  have R : Hid (Bx W0 (w.heap.size + 1) [.int .i64 0, .int .i64 0]) := by show Bx _ _ _; rw [hW0]; exact Bx.new _ _ _ (by simp)
  have z0 := cell_lt x0
  have HSZ : Hid (W0.heap.size = w.heap.size + 2) := by show _ = _; rw [hW0]; simp
  have HW := Lib.hid hW0
  have CA : Hid (∀ W, Below W0.heap.size W0 W → Calls Tryz.prog 29 #[.agg #[.slice A n c], .slice P m d] W (IAns W (chC ts xs) (chL 1 ts xs))) := fun W hW => EvalChain_any A n c ts bs P m d xs gs W (H.out.bel hW) (HP.out.bel hW)
  have CB : Hid (∀ W, Below W0.heap.size W0 W → Calls Tryz.prog 30 #[.agg #[.slice A n c], .slice P m d] W (IAns W (chC ts xs) (chL 256 ts xs))) := fun W hW => FineChain_any A n c ts bs P m d xs gs W (H.out.bel hW) (HP.out.bel hW)
  clear h hp hW0
  go_enter Tryz.func11, Tryz.ntmps11
  go_wp2_with fail
  rw [← HW.out]
  clear HW
  go_cut [5, 6] from 7 to 12 (fun p q wx => ∃ (b1 b2 : Nat) (G1 : Option Addr) (n1 c1 : Nat) (G2 : Option Addr) (n2 c2 : Nat), p = .pointer (some ⟨b1, 0, none⟩) ∧ q = .pointer (some ⟨b2, 0, none⟩) ∧ Off2 W0 wx b1 b2 (chC ts xs) G1 n1 c1 G2 n2 c2 (chL 1 ts xs) (chL 256 ts xs))
  case first =>
    go_region_held3 (fun w' => w'.cell? ⟨w.heap.size, 0, none⟩ = some (.slice A n c)) (first | (with_reducible exact x0) | (with_reducible exact ca) | (with_reducible exact cb) | ((repeat (first | (with_reducible exact ca) | (with_reducible exact cb) | (with_reducible refine cell_later (blAlloc _ _) ?_) | (with_reducible refine cell_s ?_ (by omega)))); done) | (with_reducible exact cell_later (Below.refl _ _).drew x0) | (with_reducible exact cell_later (blAlloc _ _).drew x0) | (with_reducible exact cell_later (blThenAlloc (blAlloc _ _) _).drew x0)) (first | (go_at_call 29; (with_reducible refine (CA.out _ (by repeat (first | (with_reducible exact (Below.refl W0.heap.size W0)) | (with_reducible refine blThenAlloc ?_ _) | (with_reducible refine Below.drew ?_)))).mono ?_); rintro e wa ⟨G1, n1, c1, rfl, ho, hb⟩; have Ta := Lib.hid (show Below W0.heap.size W0 wa from blThen (by repeat (first | (with_reducible exact (Below.refl W0.heap.size W0)) | (with_reducible refine blThenAlloc ?_ _) | (with_reducible refine Below.drew ?_))) hb); have Oa := Lib.hid ho; have ca := cell_later Ta.out x0; have za := cell_lt ca; (first | (have BA : Hid (Bx wa W0.heap.size [.int .i64 0, .slice none 0 0]) := (((Bx.new W0 #[.int .i64 0, .slice none 0 0] 54 rfl).alloc (.cells #[.int .i64 0, .slice none 0 0] 54)).bel (Below.refl _ _).drew).bel (by with_reducible exact hb); have BB : Hid (Bx wa (W0.heap.size + 1) [.int .i64 0, .slice none 0 0]) := ((Bx.new (W0.alloc (.cells #[.int .i64 0, .slice none 0 0] 54)) #[.int .i64 0, .slice none 0 0] 54 (b := W0.heap.size + 1) (by simp)).bel (Below.refl _ _).drew).bel (by with_reducible exact hb); have ne1 := BB.out.lt) | (have BA : Hid (Bx wa W0.heap.size [.int .i64 0, .slice none 0 0]) := ((Bx.new W0 #[.int .i64 0, .slice none 0 0] 54 rfl).bel (Below.refl _ _).drew).bel (by with_reducible exact hb); have ne1 : ¬ W0.heap.size = wa.heap.size := (by have := BA.out.lt; omega); have ne2 : ¬ wa.heap.size = W0.heap.size := (by have := BA.out.lt; omega)) | skip); clear ho) | (go_at_call 30; (with_reducible refine (CB.out _ (by repeat (first | (with_reducible exact Ta.out) | (with_reducible refine blThenAlloc ?_ _) | (with_reducible refine Below.drew ?_)))).mono ?_); rintro e wb ⟨G2, n2, c2, rfl, ho, hb⟩; have Tb := Lib.hid (show Below W0.heap.size W0 wb from blThen (by repeat (first | (with_reducible exact Ta.out) | (with_reducible refine blThenAlloc ?_ _) | (with_reducible refine Below.drew ?_))) hb); have Lb := Lib.hid (show Below wa.heap.size wa wb from blThen (by repeat (first | (with_reducible exact (Below.refl wa.heap.size wa)) | (with_reducible refine blThenAlloc ?_ _) | (with_reducible refine Below.drew ?_))) hb); have Ob := Lib.hid ho; have Oc := Lib.hid (Oa.out.below Lb.out); have cb := cell_later Tb.out x0; have zb := cell_lt cb; (first | (have BE := Lib.hid (BA.out.bel Lb.out)) | skip); (first | (have BF := Lib.hid (BB.out.bel Lb.out)) | skip); (first | (have BC : Hid (Bx wb wa.heap.size [.int .i64 0, .slice none 0 0]) := ((Bx.new wa #[.int .i64 0, .slice none 0 0] 54 rfl).alloc (.cells #[.int .i64 0, .slice none 0 0] 54)).bel (by with_reducible exact hb); have BD : Hid (Bx wb (wa.heap.size + 1) [.int .i64 0, .slice none 0 0]) := (Bx.new (wa.alloc (.cells #[.int .i64 0, .slice none 0 0] 54)) #[.int .i64 0, .slice none 0 0] 54 (b := wa.heap.size + 1) (by simp)).bel (by with_reducible exact hb)) | (have BC : Hid (Bx wb wa.heap.size [.int .i64 0, .slice none 0 0]) := (Bx.new wa #[.int .i64 0, .slice none 0 0] 54 rfl).bel (by with_reducible exact hb)) | skip); (first | (have e0 := BE.out.c 0 rfl; have e1 := BE.out.c 1 rfl; have e2 := BE.out.f 0; have e3 := BE.out.f 1; have e4 := BE.out.lt) | skip); (first | (have f0 := BF.out.c 0 rfl; have f1 := BF.out.c 1 rfl; have f2 := BF.out.f 0; have f3 := BF.out.f 1; have f4 := BF.out.lt) | skip); (first | (have g0 := BC.out.c 0 rfl; have g1 := BC.out.c 1 rfl; have g2 := BC.out.f 0; have g3 := BC.out.f 1; have g4 := BC.out.lt) | skip); (first | (have i0 := BD.out.c 0 rfl; have i1 := BD.out.c 1 rfl; have i2 := BD.out.f 0; have i3 := BD.out.f 1; have i4 := BD.out.lt) | skip); clear ho))
    all_goals (try go_wp2_with fail)
    all_goals go_meet
    all_goals (refine ⟨_, _, G1, n1, c1, G2, n2, c2, rfl, rfl, ?_⟩)
    all_goals (first | (with_reducible exact Off2.aa Tb.out (by have := Ta.out.size; have := Lb.out.size; first | omega | (simp only [World.size_alloc, World.size_drew]; omega) | (simp; omega) | (simp; done)) (by have := Ta.out.size; have := Lb.out.size; first | omega | (simp only [World.size_alloc, World.size_drew]; omega) | (simp; omega) | (simp; done)) Oc.out Ob.out _) | (with_reducible exact Off2.aa2 Tb.out (by have := Ta.out.size; have := Lb.out.size; first | omega | (simp only [World.size_alloc, World.size_drew]; omega) | (simp; omega) | (simp; done)) (by have := Ta.out.size; have := Lb.out.size; first | omega | (simp only [World.size_alloc, World.size_drew]; omega) | (simp; omega) | (simp; done)) Oc.out Ob.out _) | (with_reducible exact Off2.sa Tb.out (by have := Ta.out.size; have := Lb.out.size; first | omega | (simp only [World.size_alloc, World.size_drew]; omega) | (simp; omega) | (simp; done)) (by have := Ta.out.size; have := Lb.out.size; first | omega | (simp only [World.size_alloc, World.size_drew]; omega) | (simp; omega) | (simp; done)) BC.out Oc.out Ob.out rfl (by have := Ta.out.size; have := Lb.out.size; first | omega | (simp only [World.size_alloc, World.size_drew]; omega) | (simp; omega) | (simp; done)) (by have := Ta.out.size; have := Lb.out.size; first | omega | (simp only [World.size_alloc, World.size_drew]; omega) | (simp; omega) | (simp; done)) (by have := Ta.out.size; have := Lb.out.size; first | omega | (simp only [World.size_alloc, World.size_drew]; omega) | (simp; omega) | (simp; done)) _) | (with_reducible exact Off2.as Tb.out (by have := Ta.out.size; have := Lb.out.size; first | omega | (simp only [World.size_alloc, World.size_drew]; omega) | (simp; omega) | (simp; done)) (by have := Ta.out.size; have := Lb.out.size; first | omega | (simp only [World.size_alloc, World.size_drew]; omega) | (simp; omega) | (simp; done)) BC.out Oc.out Ob.out rfl (by have := Ta.out.size; have := Lb.out.size; first | omega | (simp only [World.size_alloc, World.size_drew]; omega) | (simp; omega) | (simp; done)) (by have := Ta.out.size; have := Lb.out.size; first | omega | (simp only [World.size_alloc, World.size_drew]; omega) | (simp; omega) | (simp; done)) (by have := Ta.out.size; have := Lb.out.size; first | omega | (simp only [World.size_alloc, World.size_drew]; omega) | (simp; omega) | (simp; done)) _) | (with_reducible exact Off2.sa Tb.out (by have := Ta.out.size; have := Lb.out.size; first | omega | (simp only [World.size_alloc, World.size_drew]; omega) | (simp; omega) | (simp; done)) (by have := Ta.out.size; have := Lb.out.size; first | omega | (simp only [World.size_alloc, World.size_drew]; omega) | (simp; omega) | (simp; done)) BD.out Oc.out Ob.out rfl (by have := Ta.out.size; have := Lb.out.size; first | omega | (simp only [World.size_alloc, World.size_drew]; omega) | (simp; omega) | (simp; done)) (by have := Ta.out.size; have := Lb.out.size; first | omega | (simp only [World.size_alloc, World.size_drew]; omega) | (simp; omega) | (simp; done)) (by have := Ta.out.size; have := Lb.out.size; first | omega | (simp only [World.size_alloc, World.size_drew]; omega) | (simp; omega) | (simp; done)) _) | (with_reducible exact Off2.as Tb.out (by have := Ta.out.size; have := Lb.out.size; first | omega | (simp only [World.size_alloc, World.size_drew]; omega) | (simp; omega) | (simp; done)) (by have := Ta.out.size; have := Lb.out.size; first | omega | (simp only [World.size_alloc, World.size_drew]; omega) | (simp; omega) | (simp; done)) BD.out Oc.out Ob.out rfl (by have := Ta.out.size; have := Lb.out.size; first | omega | (simp only [World.size_alloc, World.size_drew]; omega) | (simp; omega) | (simp; done)) (by have := Ta.out.size; have := Lb.out.size; first | omega | (simp only [World.size_alloc, World.size_drew]; omega) | (simp; omega) | (simp; done)) (by have := Ta.out.size; have := Lb.out.size; first | omega | (simp only [World.size_alloc, World.size_drew]; omega) | (simp; omega) | (simp; done)) _) | (with_reducible exact Off2.sa Tb.out (by have := Ta.out.size; have := Lb.out.size; first | omega | (simp only [World.size_alloc, World.size_drew]; omega) | (simp; omega) | (simp; done)) (by have := Ta.out.size; have := Lb.out.size; first | omega | (simp only [World.size_alloc, World.size_drew]; omega) | (simp; omega) | (simp; done)) BE.out Oc.out Ob.out rfl (by have := Ta.out.size; have := Lb.out.size; first | omega | (simp only [World.size_alloc, World.size_drew]; omega) | (simp; omega) | (simp; done)) (by have := Ta.out.size; have := Lb.out.size; first | omega | (simp only [World.size_alloc, World.size_drew]; omega) | (simp; omega) | (simp; done)) (by have := Ta.out.size; have := Lb.out.size; first | omega | (simp only [World.size_alloc, World.size_drew]; omega) | (simp; omega) | (simp; done)) _) | (with_reducible exact Off2.as Tb.out (by have := Ta.out.size; have := Lb.out.size; first | omega | (simp only [World.size_alloc, World.size_drew]; omega) | (simp; omega) | (simp; done)) (by have := Ta.out.size; have := Lb.out.size; first | omega | (simp only [World.size_alloc, World.size_drew]; omega) | (simp; omega) | (simp; done)) BE.out Oc.out Ob.out rfl (by have := Ta.out.size; have := Lb.out.size; first | omega | (simp only [World.size_alloc, World.size_drew]; omega) | (simp; omega) | (simp; done)) (by have := Ta.out.size; have := Lb.out.size; first | omega | (simp only [World.size_alloc, World.size_drew]; omega) | (simp; omega) | (simp; done)) (by have := Ta.out.size; have := Lb.out.size; first | omega | (simp only [World.size_alloc, World.size_drew]; omega) | (simp; omega) | (simp; done)) _) | (with_reducible exact Off2.sa Tb.out (by have := Ta.out.size; have := Lb.out.size; first | omega | (simp only [World.size_alloc, World.size_drew]; omega) | (simp; omega) | (simp; done)) (by have := Ta.out.size; have := Lb.out.size; first | omega | (simp only [World.size_alloc, World.size_drew]; omega) | (simp; omega) | (simp; done)) BF.out Oc.out Ob.out rfl (by have := Ta.out.size; have := Lb.out.size; first | omega | (simp only [World.size_alloc, World.size_drew]; omega) | (simp; omega) | (simp; done)) (by have := Ta.out.size; have := Lb.out.size; first | omega | (simp only [World.size_alloc, World.size_drew]; omega) | (simp; omega) | (simp; done)) (by have := Ta.out.size; have := Lb.out.size; first | omega | (simp only [World.size_alloc, World.size_drew]; omega) | (simp; omega) | (simp; done)) _) | (with_reducible exact Off2.as Tb.out (by have := Ta.out.size; have := Lb.out.size; first | omega | (simp only [World.size_alloc, World.size_drew]; omega) | (simp; omega) | (simp; done)) (by have := Ta.out.size; have := Lb.out.size; first | omega | (simp only [World.size_alloc, World.size_drew]; omega) | (simp; omega) | (simp; done)) BF.out Oc.out Ob.out rfl (by have := Ta.out.size; have := Lb.out.size; first | omega | (simp only [World.size_alloc, World.size_drew]; omega) | (simp; omega) | (simp; done)) (by have := Ta.out.size; have := Lb.out.size; first | omega | (simp only [World.size_alloc, World.size_drew]; omega) | (simp; omega) | (simp; done)) (by have := Ta.out.size; have := Lb.out.size; first | omega | (simp only [World.size_alloc, World.size_drew]; omega) | (simp; omega) | (simp; done)) _) | (with_reducible exact Off2.ss Tb.out (by have := Ta.out.size; have := Lb.out.size; first | omega | (simp only [World.size_alloc, World.size_drew]; omega) | (simp; omega) | (simp; done)) (by have := Ta.out.size; have := Lb.out.size; first | omega | (simp only [World.size_alloc, World.size_drew]; omega) | (simp; omega) | (simp; done)) BC.out BD.out Oc.out Ob.out (by have := Ta.out.size; have := Lb.out.size; first | omega | (simp only [World.size_alloc, World.size_drew]; omega) | (simp; omega) | (simp; done)) (by have := Ta.out.size; have := Lb.out.size; first | omega | (simp only [World.size_alloc, World.size_drew]; omega) | (simp; omega) | (simp; done)) (by have := Ta.out.size; have := Lb.out.size; first | omega | (simp only [World.size_alloc, World.size_drew]; omega) | (simp; omega) | (simp; done)) (by have := Ta.out.size; have := Lb.out.size; first | omega | (simp only [World.size_alloc, World.size_drew]; omega) | (simp; omega) | (simp; done)) (by have := Ta.out.size; have := Lb.out.size; first | omega | (simp only [World.size_alloc, World.size_drew]; omega) | (simp; omega) | (simp; done)) (by have := Ta.out.size; have := Lb.out.size; first | omega | (simp only [World.size_alloc, World.size_drew]; omega) | (simp; omega) | (simp; done)) (by have := Ta.out.size; have := Lb.out.size; first | omega | (simp only [World.size_alloc, World.size_drew]; omega) | (simp; omega) | (simp; done))) | (with_reducible exact Off2.ss Tb.out (by have := Ta.out.size; have := Lb.out.size; first | omega | (simp only [World.size_alloc, World.size_drew]; omega) | (simp; omega) | (simp; done)) (by have := Ta.out.size; have := Lb.out.size; first | omega | (simp only [World.size_alloc, World.size_drew]; omega) | (simp; omega) | (simp; done)) BD.out BC.out Oc.out Ob.out (by have := Ta.out.size; have := Lb.out.size; first | omega | (simp only [World.size_alloc, World.size_drew]; omega) | (simp; omega) | (simp; done)) (by have := Ta.out.size; have := Lb.out.size; first | omega | (simp only [World.size_alloc, World.size_drew]; omega) | (simp; omega) | (simp; done)) (by have := Ta.out.size; have := Lb.out.size; first | omega | (simp only [World.size_alloc, World.size_drew]; omega) | (simp; omega) | (simp; done)) (by have := Ta.out.size; have := Lb.out.size; first | omega | (simp only [World.size_alloc, World.size_drew]; omega) | (simp; omega) | (simp; done)) (by have := Ta.out.size; have := Lb.out.size; first | omega | (simp only [World.size_alloc, World.size_drew]; omega) | (simp; omega) | (simp; done)) (by have := Ta.out.size; have := Lb.out.size; first | omega | (simp only [World.size_alloc, World.size_drew]; omega) | (simp; omega) | (simp; done)) (by have := Ta.out.size; have := Lb.out.size; first | omega | (simp only [World.size_alloc, World.size_drew]; omega) | (simp; omega) | (simp; done))) | (with_reducible exact Off2.ss Tb.out (by have := Ta.out.size; have := Lb.out.size; first | omega | (simp only [World.size_alloc, World.size_drew]; omega) | (simp; omega) | (simp; done)) (by have := Ta.out.size; have := Lb.out.size; first | omega | (simp only [World.size_alloc, World.size_drew]; omega) | (simp; omega) | (simp; done)) BE.out BF.out Oc.out Ob.out (by have := Ta.out.size; have := Lb.out.size; first | omega | (simp only [World.size_alloc, World.size_drew]; omega) | (simp; omega) | (simp; done)) (by have := Ta.out.size; have := Lb.out.size; first | omega | (simp only [World.size_alloc, World.size_drew]; omega) | (simp; omega) | (simp; done)) (by have := Ta.out.size; have := Lb.out.size; first | omega | (simp only [World.size_alloc, World.size_drew]; omega) | (simp; omega) | (simp; done)) (by have := Ta.out.size; have := Lb.out.size; first | omega | (simp only [World.size_alloc, World.size_drew]; omega) | (simp; omega) | (simp; done)) (by have := Ta.out.size; have := Lb.out.size; first | omega | (simp only [World.size_alloc, World.size_drew]; omega) | (simp; omega) | (simp; done)) (by have := Ta.out.size; have := Lb.out.size; first | omega | (simp only [World.size_alloc, World.size_drew]; omega) | (simp; omega) | (simp; done)) (by have := Ta.out.size; have := Lb.out.size; first | omega | (simp only [World.size_alloc, World.size_drew]; omega) | (simp; omega) | (simp; done))) | (with_reducible exact Off2.ss Tb.out (by have := Ta.out.size; have := Lb.out.size; first | omega | (simp only [World.size_alloc, World.size_drew]; omega) | (simp; omega) | (simp; done)) (by have := Ta.out.size; have := Lb.out.size; first | omega | (simp only [World.size_alloc, World.size_drew]; omega) | (simp; omega) | (simp; done)) BF.out BE.out Oc.out Ob.out (by have := Ta.out.size; have := Lb.out.size; first | omega | (simp only [World.size_alloc, World.size_drew]; omega) | (simp; omega) | (simp; done)) (by have := Ta.out.size; have := Lb.out.size; first | omega | (simp only [World.size_alloc, World.size_drew]; omega) | (simp; omega) | (simp; done)) (by have := Ta.out.size; have := Lb.out.size; first | omega | (simp only [World.size_alloc, World.size_drew]; omega) | (simp; omega) | (simp; done)) (by have := Ta.out.size; have := Lb.out.size; first | omega | (simp only [World.size_alloc, World.size_drew]; omega) | (simp; omega) | (simp; done)) (by have := Ta.out.size; have := Lb.out.size; first | omega | (simp only [World.size_alloc, World.size_drew]; omega) | (simp; omega) | (simp; done)) (by have := Ta.out.size; have := Lb.out.size; first | omega | (simp only [World.size_alloc, World.size_drew]; omega) | (simp; omega) | (simp; done)) (by have := Ta.out.size; have := Lb.out.size; first | omega | (simp only [World.size_alloc, World.size_drew]; omega) | (simp; omega) | (simp; done))) | (with_reducible exact Off2.ss Tb.out (by have := Ta.out.size; have := Lb.out.size; first | omega | (simp only [World.size_alloc, World.size_drew]; omega) | (simp; omega) | (simp; done)) (by have := Ta.out.size; have := Lb.out.size; first | omega | (simp only [World.size_alloc, World.size_drew]; omega) | (simp; omega) | (simp; done)) BE.out BC.out Oc.out Ob.out (by have := Ta.out.size; have := Lb.out.size; first | omega | (simp only [World.size_alloc, World.size_drew]; omega) | (simp; omega) | (simp; done)) (by have := Ta.out.size; have := Lb.out.size; first | omega | (simp only [World.size_alloc, World.size_drew]; omega) | (simp; omega) | (simp; done)) (by have := Ta.out.size; have := Lb.out.size; first | omega | (simp only [World.size_alloc, World.size_drew]; omega) | (simp; omega) | (simp; done)) (by have := Ta.out.size; have := Lb.out.size; first | omega | (simp only [World.size_alloc, World.size_drew]; omega) | (simp; omega) | (simp; done)) (by have := Ta.out.size; have := Lb.out.size; first | omega | (simp only [World.size_alloc, World.size_drew]; omega) | (simp; omega) | (simp; done)) (by have := Ta.out.size; have := Lb.out.size; first | omega | (simp only [World.size_alloc, World.size_drew]; omega) | (simp; omega) | (simp; done)) (by have := Ta.out.size; have := Lb.out.size; first | omega | (simp only [World.size_alloc, World.size_drew]; omega) | (simp; omega) | (simp; done))) | (with_reducible exact Off2.ss Tb.out (by have := Ta.out.size; have := Lb.out.size; first | omega | (simp only [World.size_alloc, World.size_drew]; omega) | (simp; omega) | (simp; done)) (by have := Ta.out.size; have := Lb.out.size; first | omega | (simp only [World.size_alloc, World.size_drew]; omega) | (simp; omega) | (simp; done)) BC.out BE.out Oc.out Ob.out (by have := Ta.out.size; have := Lb.out.size; first | omega | (simp only [World.size_alloc, World.size_drew]; omega) | (simp; omega) | (simp; done)) (by have := Ta.out.size; have := Lb.out.size; first | omega | (simp only [World.size_alloc, World.size_drew]; omega) | (simp; omega) | (simp; done)) (by have := Ta.out.size; have := Lb.out.size; first | omega | (simp only [World.size_alloc, World.size_drew]; omega) | (simp; omega) | (simp; done)) (by have := Ta.out.size; have := Lb.out.size; first | omega | (simp only [World.size_alloc, World.size_drew]; omega) | (simp; omega) | (simp; done)) (by have := Ta.out.size; have := Lb.out.size; first | omega | (simp only [World.size_alloc, World.size_drew]; omega) | (simp; omega) | (simp; done)) (by have := Ta.out.size; have := Lb.out.size; first | omega | (simp only [World.size_alloc, World.size_drew]; omega) | (simp; omega) | (simp; done)) (by have := Ta.out.size; have := Lb.out.size; first | omega | (simp only [World.size_alloc, World.size_drew]; omega) | (simp; omega) | (simp; done))))
  case rest =>
    rename World => wx
    obtain ⟨b1, b2, G1, n1, c1, G2, n2, c2, rfl, rfl, O⟩ := hcut
    have RR := Lib.hid (R.out.bel O.bl)
    have T1 := Lib.hid (blThen T.out O.bl)
    have BX1 := Lib.hid O.x
    have BX2 := Lib.hid O.y
    have K1 := Lib.hid O.p
    have K2 := Lib.hid O.q
    have x00 := BX1.out.c 0 rfl
    have x01 := BX1.out.c 1 rfl
    have x11 := BX2.out.c 1 rfl
    have xl := BX1.out.lt
    have yl := BX2.out.lt
    have gb1 : w.heap.size + 1 < b1 := by have := O.g; have := HSZ.out; omega
    have gb2 : w.heap.size + 1 < b2 := by have := O.g; have := HSZ.out; omega
    clear O
    by_cases h0 : chC ts xs = 0
    · have HO := Lib.hid (offV_y h0)
      have HBD := Lib.hid (off_bd h0)
      have HH0 := Lib.hid h0
      rw [chL_3 h0] at K1 K2
      obtain ⟨la1, lb1, w1, gl1⟩ := K1.out
      obtain ⟨la2, lb2, w2, gl2⟩ := K2.out
      obtain ⟨q1, k1⟩ := w1.hd
      obtain ⟨q2, k2⟩ := w2.hd
      obtain rfl : 3 = n1 := k1.rd.1
      obtain rfl : 3 = n2 := k2.rd.1
      obtain ⟨p1, o1, rfl, r1⟩ := k1.rd.2 (by omega)
      obtain ⟨p2, o2, rfl, r2⟩ := k2.rd.2 (by omega)
      have gp1 : w.heap.size + 1 < p1 := by have := Own.ge w1 (by omega); have := HSZ.out; omega
      have gp2 : w.heap.size + 1 < p2 := by have := Own.ge w2 (by omega); have := HSZ.out; omega
      clear w1 w2
      have HX : Hid (∀ k, k < 3 → wx.cell? ⟨p1, o1 + k, none⟩ = some (.int .i64 (evW 1 ts (chX 1 xs) ts.length k))) := fun k hk => by
        have := r1 k hk
        rw [ev3_at 1 ts xs ts.length k hk] at this
        exact this
      have HY : Hid (∀ k, k < 3 → wx.cell? ⟨p2, o2 + k, none⟩ = some (.int .i64 (evW 256 ts (chX 256 xs) ts.length k))) := fun k hk => by
        have := r2 k hk
        rw [ev3_at 256 ts xs ts.length k hk] at this
        exact this
      obtain ⟨f, hf⟩ : ∃ f, f = evW 1 ts (chX 1 xs) ts.length := ⟨_, rfl⟩
      obtain ⟨y, hy⟩ : ∃ y, y = evW 256 ts (chX 256 xs) ts.length := ⟨_, rfl⟩
      rw [← hf] at HX HBD HO
      rw [← hy] at HY HBD HO
      obtain ⟨F, hF⟩ : ∃ F : Nat → Int, F = fun j => f j * 256 := ⟨_, rfl⟩
      have CP : Hid (∀ W, Calls Tryz.prog 32 #[.agg #[.int .i64 0, .int .i64 0, .int .i64 0], .agg #[.int .i64 (f 0), .int .i64 (f 1), .int .i64 (f 2)], .int .i64 256] W (PtAns W (F 0) (F 1) (F 2))) := fun W => by
        have := plusTimes_any 0 0 0 (f 0) (f 1) (f 2) 256 W (by omega) (by omega) (by omega) (HBD.out.1 0 (by omega)) (HBD.out.1 1 (by omega)) (HBD.out.1 2 (by omega)) (by omega)
        rw [Int.zero_add, Int.zero_add, Int.zero_add] at this
        rw [hF]
        exact this
      rw [← hF] at HO HBD
      have CF : Hid (∀ W, Calls Tryz.prog 31 #[.agg #[.int .i64 (F 0), .int .i64 (F 1), .int .i64 (F 2)], .agg #[.int .i64 (y 0), .int .i64 (y 1), .int .i64 (y 2)]] W fun e w' => e = .returned (.int .i64 (far3 F y 3)) ∧ Below W.heap.size W w') := fun W => farthest_k F y W HBD.out.2.1 HBD.out.2.2
      rw [HH0.out] at x00
      have y0 := HX.out 0 (by omega)
      have y1 := HX.out 1 (by omega)
      have y2 := HX.out 2 (by omega)
      have u0 := HY.out 0 (by omega)
      have u1 := HY.out 1 (by omega)
      have u2 := HY.out 2 (by omega)
      rw [Nat.add_zero] at y0 u0
      have lp1 := cell_lt y0
      have lp2 := cell_lt u0
      have s0 := RR.out.c 0 rfl
      have s1 := RR.out.c 1 rfl
      have t0 := RR.out.f 0
      have t1 := RR.out.f 1
      have tl := RR.out.lt
      clear h0 hf hy hF k1 k2 r1 r2 HX HY HBD K1 K2
      go_wp2_with fail
      clear s0 s1 t0 t1 tl
      have ar1 := fun W => run_arr3 p1 o1 c1 W
      have ar2 := fun W => run_arr3 p2 o2 c2 W
      go_region_held3 (fun w' => w'.cell? ⟨b1, 1, none⟩ = some (.slice (some ⟨p1, o1, none⟩) 3 c1) ∧ w'.cell? ⟨b2, 1, none⟩ = some (.slice (some ⟨p2, o2, none⟩) 3 c2) ∧ w'.cell? ⟨p1, o1, none⟩ = some (.int .i64 (f 0)) ∧ w'.cell? ⟨p1, o1 + 1, none⟩ = some (.int .i64 (f 1)) ∧ w'.cell? ⟨p1, o1 + 2, none⟩ = some (.int .i64 (f 2)) ∧ w'.cell? ⟨p2, o2, none⟩ = some (.int .i64 (y 0)) ∧ w'.cell? ⟨p2, o2 + 1, none⟩ = some (.int .i64 (y 1)) ∧ w'.cell? ⟨p2, o2 + 2, none⟩ = some (.int .i64 (y 2))) (first | (refine ⟨?_, ?_, ?_, ?_, ?_, ?_, ?_, ?_⟩ <;> ((with_reducible refine cell_s ?_ (by omega)); (with_reducible refine cell_s ?_ (by omega)); (first | (with_reducible exact cell_later Tf.out x01) | (with_reducible exact cell_later Tf.out x11) | (with_reducible exact cell_later Tf.out y0) | (with_reducible exact cell_later Tf.out y1) | (with_reducible exact cell_later Tf.out y2) | (with_reducible exact cell_later Tf.out u0) | (with_reducible exact cell_later Tf.out u1) | (with_reducible exact cell_later Tf.out u2)))) | (with_reducible exact ⟨cell_later Tf.out x01, cell_later Tf.out x11, cell_later Tf.out y0, cell_later Tf.out y1, cell_later Tf.out y2, cell_later Tf.out u0, cell_later Tf.out u1, cell_later Tf.out u2⟩) | (with_reducible exact ⟨cell_later Tp.out x01, cell_later Tp.out x11, cell_later Tp.out y0, cell_later Tp.out y1, cell_later Tp.out y2, cell_later Tp.out u0, cell_later Tp.out u1, cell_later Tp.out u2⟩) | (with_reducible exact ⟨cell_later (Below.refl _ _).drew x01, cell_later (Below.refl _ _).drew x11, cell_later (Below.refl _ _).drew y0, cell_later (Below.refl _ _).drew y1, cell_later (Below.refl _ _).drew y2, cell_later (Below.refl _ _).drew u0, cell_later (Below.refl _ _).drew u1, cell_later (Below.refl _ _).drew u2⟩) | exact ⟨cell_later (Below.refl _ _).drew x01, cell_later (Below.refl _ _).drew x11, cell_later (Below.refl _ _).drew y0, cell_later (Below.refl _ _).drew y1, cell_later (Below.refl _ _).drew y2, cell_later (Below.refl _ _).drew u0, cell_later (Below.refl _ _).drew u1, cell_later (Below.refl _ _).drew u2⟩) (first | (go_at_call 32; (with_reducible refine (CP.out _).mono ?_); rintro e wp ⟨rfl, hb⟩; have Tp := Lib.hid (show Below wx.heap.size wx wp from blThen (by repeat (first | (with_reducible exact (Below.refl wx.heap.size wx)) | (with_reducible refine blThenAlloc ?_ _) | (with_reducible refine Below.drew ?_))) hb)) | (go_at_call 31; (with_reducible refine (CF.out _).mono ?_); rintro e wf ⟨rfl, hb⟩; have Tf := Lib.hid (show Below wx.heap.size wx wf from blThen (by repeat (first | (with_reducible exact Tp.out) | (with_reducible refine blThenAlloc ?_ _) | (with_reducible refine Below.drew ?_))) hb); have RF := Lib.hid (RR.out.bel Tf.out); have v0 := RF.out.c 0 rfl; have v1 := RF.out.c 1 rfl; have q0 := RF.out.f 0; have q1 := RF.out.f 1; have vl := RF.out.lt))
      all_goals (try go_wp2_with fail)
      all_goals
        have KK := (RF.out.set 0 (.int .i64 0)).set 1 (.int .i64 (far3 F y 3))
        have k0 := KK.c 0 rfl
        have k1 := KK.c 1 rfl
        clear KK
        refine bodyPost_ret (v := .agg #[.int .i64 0, .int .i64 (far3 F y 3)]) (by simp [results, Tryz.results11, go_sem, k0, k1]) rfl ⟨by rw [HH0.out, HO.out], ?_⟩
        exact bel1o (bel1o (blThen T1.out Tf.out) (c := w.heap.size + 1) (by omega) 0 _) (c := w.heap.size + 1) (by omega) 1 _
    · have HA := Lib.hid (offV_n h0)
      obtain ⟨f, hf⟩ : ∃ f, chC ts xs = f := ⟨_, rfl⟩
      have HFF := Lib.hid hf
      rw [hf] at h0 x00
      have hqn : (f == 0) = false := by simpa using h0
      have s0 := RR.out.c 0 rfl
      have s1 := RR.out.c 1 rfl
      have t0 := RR.out.f 0
      have t1 := RR.out.f 1
      have tl := RR.out.lt
      clear hf
      go_wp2_with fail
      have KK := (RR.out.set 0 (.int .i64 f)).set 1 (.int .i64 0)
      have k0 := KK.c 0 rfl
      have k1 := KK.c 1 rfl
      clear KK
      refine bodyPost_ret (v := .agg #[.int .i64 f, .int .i64 0]) (by simp [results, Tryz.results11, go_sem, k0, k1]) rfl ⟨by rw [HFF.out, HA.out], ?_⟩
      exact bel1o (bel1o T1.out (c := w.heap.size + 1) (by omega) 0 _) (c := w.heap.size + 1) (by omega) 1 _
end Go.Proofs.YtdjifaaofefpoaaGreat
