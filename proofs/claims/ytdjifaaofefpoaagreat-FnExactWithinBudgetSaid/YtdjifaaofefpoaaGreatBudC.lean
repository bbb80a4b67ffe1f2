/-
  WithinBudget, by the program and by the reference model.
-/
import Derived.Test.YtdjifaaofefpoaaGreatOffC
import Derived.Test.YtdjifaaofefpoaaGreatBudB
namespace Go.Proofs.YtdjifaaofefpoaaGreat
open Go.RowKit Go.Maps
set_option linter.unusedVariables false
set_option linter.unusedSimpArgs false

def wbV (ts : List Stg) (xs : List Int) : Bool := decide (chC ts xs = 0) && decide (offV ts xs ≤ bgV 128 ts + bgV 1 ts)
theorem wbV_n {ts : List Stg} {xs : List Int} (h : chC ts xs ≠ 0) : wbV ts xs = false := by unfold wbV; simp [h]
theorem wbV_y {ts : List Stg} {xs : List Int} (h : chC ts xs = 0) : wbV ts xs = decide (offV ts xs ≤ bgV 128 ts + bgV 1 ts) := by unfold wbV; simp [h]
theorem bgV_bd {q : Int} (hq : 0 ≤ q ∧ q ≤ 128) (ts : List Stg) : 0 ≤ bgV q ts ∧ bgV q ts ≤ 8947840 := by
  by_cases h : chf ts = 0
  · rw [bgV_y h]
    exact budV_bd hq (sgL_all _ (chf_zr h).2) (chf_zr h).1 _ (Nat.le_refl _)
  · rw [bgV_n h]; omega
/-- what stands behind the two calls. -/
structure Wb2 (W W' : World) (b1 b2 : Nat) (x1 x2 y1 y2 y3 : Int) : Prop where
  x : Bx W' b1 [.int .i64 x1, .int .i64 x2]
  y : Bx W' b2 [.int .i64 y1, .int .i64 y2, .int .i64 y3]
  bl : Below W.heap.size W W'
section
variable {W0 V : World} {b1 b2 : Nat} {x1 x2 y1 y2 y3 : Int} {z1 z2 u1 u2 u3 : Value}
theorem Wb2.ss (T : Below W0.heap.size W0 V) (X : Bx V b1 [z1, z2]) (Y : Bx V b2 [u1, u2, u3]) (d : b1 ≠ b2) (g1 : W0.heap.size ≤ b1) (g2 : W0.heap.size ≤ b2) :
    Wb2 W0 (((((V.setCell ⟨b1, 0, none⟩ (.int .i64 x1)).setCell ⟨b1, 1, none⟩ (.int .i64 x2)).setCell ⟨b2, 0, none⟩ (.int .i64 y1)).setCell ⟨b2, 1, none⟩ (.int .i64 y2)).setCell ⟨b2, 2, none⟩ (.int .i64 y3)) b1 b2 x1 x2 y1 y2 y3 :=
  ⟨((((X.set 0 _).set 1 _).oth (Ne.symm d) _ _).oth (Ne.symm d) _ _).oth (Ne.symm d) _ _, ((((Y.oth d _ _).oth d _ _).set 0 _).set 1 _).set 2 _,
   bel1o (bel1o (bel1o (bel1o (bel1o T g1 _ _) g1 _ _) g2 _ _) g2 _ _) g2 _ _⟩
theorem Wb2.sa (T : Below W0.heap.size W0 V) (X : Bx V b1 [z1, z2]) (e : b2 = V.heap.size) (g1 : W0.heap.size ≤ b1) (t : TypeId) :
    Wb2 W0 (((V.setCell ⟨b1, 0, none⟩ (.int .i64 x1)).setCell ⟨b1, 1, none⟩ (.int .i64 x2)).alloc (.cells #[.int .i64 y1, .int .i64 y2, .int .i64 y3] t)) b1 b2 x1 x2 y1 y2 y3 :=
  ⟨((X.set 0 _).set 1 _).alloc _, Bx.new _ _ _ (by rw [e]; simp), blThenAlloc (bel1o (bel1o T g1 _ _) g1 _ _) _⟩
theorem Wb2.as (T : Below W0.heap.size W0 V) (Y : Bx V b2 [u1, u2, u3]) (e : b1 = V.heap.size) (g2 : W0.heap.size ≤ b2) (t : TypeId) :
    Wb2 W0 ((((V.setCell ⟨b2, 0, none⟩ (.int .i64 y1)).setCell ⟨b2, 1, none⟩ (.int .i64 y2)).setCell ⟨b2, 2, none⟩ (.int .i64 y3)).alloc (.cells #[.int .i64 x1, .int .i64 x2] t)) b1 b2 x1 x2 y1 y2 y3 :=
  ⟨Bx.new _ _ _ (by rw [e]; simp), (((Y.set 0 _).set 1 _).set 2 _).alloc _, blThenAlloc (bel1o (bel1o (bel1o T g2 _ _) g2 _ _) g2 _ _) _⟩
theorem Wb2.aa (T : Below W0.heap.size W0 V) (t u : TypeId) :
    Wb2 W0 ((V.alloc (.cells #[.int .i64 x1, .int .i64 x2] t)).alloc (.cells #[.int .i64 y1, .int .i64 y2, .int .i64 y3] u)) V.heap.size (V.heap.size + 1) x1 x2 y1 y2 y3 :=
  ⟨(Bx.new _ _ _ rfl).alloc _, Bx.new _ _ _ (by simp), blThenAlloc (blThenAlloc T _) _⟩
theorem Wb2.aa2 (T : Below W0.heap.size W0 V) (t u : TypeId) :
    Wb2 W0 ((V.alloc (.cells #[.int .i64 y1, .int .i64 y2, .int .i64 y3] u)).alloc (.cells #[.int .i64 x1, .int .i64 x2] t)) (V.heap.size + 1) V.heap.size x1 x2 y1 y2 y3 :=
  ⟨Bx.new _ _ _ (by simp), (Bx.new _ _ _ rfl).alloc _, blThenAlloc (blThenAlloc T _) _⟩
end
set_option maxRecDepth 100000 in
set_option maxHeartbeats 8000000 in
theorem WithinBudget_any (A : Option Addr) (n c : Nat) (ts : List Stg) (bs : List Nat) (P : Option Addr) (m d : Nat) (xs : List Int) (gs : List Nat) (w : World) (h : Hd w (chD ts) (.slice A n c) bs) (hp : Hd w (.ints .i64 xs) (.slice P m d) gs) :
    Calls Tryz.prog 16 #[.agg #[.slice A n c], .slice P m d] w fun e w' => e = .returned (.bool (wbV ts xs)) ∧ Below w.heap.size w w' := by
  obtain ⟨W0, hW0⟩ : ∃ W0, W0 = w.alloc (.cells #[.slice A n c] 32) := ⟨_, rfl⟩
  have H : Hid (Hd W0 (chD ts) (.slice A n c) bs) := by show Hd _ _ _ _; rw [hW0]; exact h.alloc _
  have HP : Hid (Hd W0 (.ints .i64 xs) (.slice P m d) gs) := by show Hd _ _ _ _; rw [hW0]; exact hp.alloc _
  have T : Hid (Below w.heap.size w W0) := by show Below _ _ _; rw [hW0]; exact blAlloc _ _
  have x0 : W0.cell? ⟨w.heap.size, 0, none⟩ = some (.slice A n c) := by rw [hW0]; exact (Bx.new w #[.slice A n c] 32 rfl).c 0 rfl
  have z0 := cell_lt x0
  have HW := Lib.hid hW0
  obtain ⟨co, hco⟩ : ∃ co, co = chC ts xs := ⟨_, rfl⟩
  obtain ⟨of, hof⟩ : ∃ of, of = offV ts xs := ⟨_, rfl⟩
  obtain ⟨k, hk⟩ : ∃ k, k = chf ts := ⟨_, rfl⟩
  obtain ⟨x, hx⟩ : ∃ x, x = bgV 128 ts := ⟨_, rfl⟩
  obtain ⟨y, hy⟩ : ∃ y, y = bgV 1 ts := ⟨_, rfl⟩
  have CA : Hid (∀ W, Below W0.heap.size W0 W → Calls Tryz.prog 11 #[.agg #[.slice A n c], .slice P m d] W fun e w' => e = .returned (.agg #[.int .i64 co, .int .i64 of]) ∧ Below W.heap.size W w') := fun W hW => by rw [hco, hof]; exact OffBy_any A n c ts bs P m d xs gs W (H.out.bel hW) (HP.out.bel hW)
  have CB : Hid (∀ W, Below W0.heap.size W0 W → Calls Tryz.prog 35 #[.agg #[.slice A n c]] W fun e w' => e = .returned (.agg #[.int .i64 k, .int .i64 x, .int .i64 y]) ∧ Below W.heap.size W w') := fun W hW => by rw [hk, hx, hy]; exact BudgetOf_any A n c ts bs W (H.out.bel hW)
  have hbx := bgV_bd (q := 128) (by omega) ts
  have hby := bgV_bd (q := 1) (by omega) ts
  rw [← hx] at hbx
  rw [← hy] at hby
  have i1 : IntKind.i64.wrap (x + y) = x + y := IntWalk.i64_in _ (by omega)
  have HV : Hid (wbV ts xs = (decide (co = 0) && decide (of ≤ x + y))) := by show _ = _; unfold wbV; rw [hco, hof, hx, hy]
  rw [HV.out]
  clear h hp hW0 hco hof hk hx hy HV hbx hby
  go_enter Tryz.func16, Tryz.ntmps16
  go_wp2_with fail
  rw [← HW.out]
  clear HW
  go_cut [5, 6] from 7 to 11 (fun p q wx => ∃ (b1 b2 : Nat), p = .pointer (some ⟨b1, 0, none⟩) ∧ q = .pointer (some ⟨b2, 0, none⟩) ∧ Wb2 W0 wx b1 b2 co of k x y)
  case first =>
    go_region_held3 (fun w' => w'.cell? ⟨w.heap.size, 0, none⟩ = some (.slice A n c)) (first | (with_reducible exact x0) | (with_reducible exact ca) | (with_reducible exact cb) | ((repeat (first | (with_reducible exact ca) | (with_reducible exact cb) | (with_reducible refine cell_later (blAlloc _ _) ?_) | (with_reducible refine cell_s ?_ (by omega)))); done) | (with_reducible exact cell_later (Below.refl _ _).drew x0) | (with_reducible exact cell_later (blAlloc _ _).drew x0) | (with_reducible exact cell_later (blThenAlloc (blAlloc _ _) _).drew x0)) (first | (go_at_call 11; (with_reducible refine (CA.out _ (by repeat (first | (with_reducible exact (Below.refl W0.heap.size W0)) | (with_reducible refine blThenAlloc ?_ _) | (with_reducible refine Below.drew ?_)))).mono ?_); rintro e wa ⟨rfl, hb⟩; have Ta := Lib.hid (show Below W0.heap.size W0 wa from blThen (by repeat (first | (with_reducible exact (Below.refl W0.heap.size W0)) | (with_reducible refine blThenAlloc ?_ _) | (with_reducible refine Below.drew ?_))) hb); have ca := cell_later Ta.out x0; have za := cell_lt ca; (first | (have X0 : Hid (Bx wa W0.heap.size [.int .i64 0, .int .i64 0]) := (((Bx.new W0 #[.int .i64 0, .int .i64 0] 28 rfl).alloc (.cells #[.int .i64 0, .int .i64 0, .int .i64 0] 64)).bel (Below.refl _ _).drew).bel (by with_reducible exact hb); have Y0 : Hid (Bx wa (W0.heap.size + 1) [.int .i64 0, .int .i64 0, .int .i64 0]) := ((Bx.new (W0.alloc (.cells #[.int .i64 0, .int .i64 0] 28)) #[.int .i64 0, .int .i64 0, .int .i64 0] 64 (b := W0.heap.size + 1) (by simp)).bel (Below.refl _ _).drew).bel (by with_reducible exact hb); have nn := Y0.out.lt) | (have Y0 : Hid (Bx wa W0.heap.size [.int .i64 0, .int .i64 0, .int .i64 0]) := (((Bx.new W0 #[.int .i64 0, .int .i64 0, .int .i64 0] 64 rfl).alloc (.cells #[.int .i64 0, .int .i64 0] 28)).bel (Below.refl _ _).drew).bel (by with_reducible exact hb); have X0 : Hid (Bx wa (W0.heap.size + 1) [.int .i64 0, .int .i64 0]) := ((Bx.new (W0.alloc (.cells #[.int .i64 0, .int .i64 0, .int .i64 0] 64)) #[.int .i64 0, .int .i64 0] 28 (b := W0.heap.size + 1) (by simp)).bel (Below.refl _ _).drew).bel (by with_reducible exact hb); have nn := X0.out.lt) | (have X0 : Hid (Bx wa W0.heap.size [.int .i64 0, .int .i64 0]) := ((Bx.new W0 #[.int .i64 0, .int .i64 0] 28 rfl).bel (Below.refl _ _).drew).bel (by with_reducible exact hb)) | (have Y0 : Hid (Bx wa W0.heap.size [.int .i64 0, .int .i64 0, .int .i64 0]) := ((Bx.new W0 #[.int .i64 0, .int .i64 0, .int .i64 0] 64 rfl).bel (Below.refl _ _).drew).bel (by with_reducible exact hb)) | skip); (first | (have ne1 : ¬ W0.heap.size = wa.heap.size := (by have := X0.out.lt; omega); have ne2 : ¬ wa.heap.size = W0.heap.size := (by have := X0.out.lt; omega)) | skip); (first | (have ne1 : ¬ W0.heap.size = wa.heap.size := (by have := Y0.out.lt; omega); have ne2 : ¬ wa.heap.size = W0.heap.size := (by have := Y0.out.lt; omega)) | skip)) | (go_at_call 35; (with_reducible refine (CB.out _ (by repeat (first | (with_reducible exact Ta.out) | (with_reducible refine blThenAlloc ?_ _) | (with_reducible refine Below.drew ?_)))).mono ?_); rintro e wb ⟨rfl, hb⟩; have Tb := Lib.hid (show Below W0.heap.size W0 wb from blThen (by repeat (first | (with_reducible exact Ta.out) | (with_reducible refine blThenAlloc ?_ _) | (with_reducible refine Below.drew ?_))) hb); have Lb := Lib.hid (show Below wa.heap.size wa wb from blThen (by repeat (first | (with_reducible exact (Below.refl wa.heap.size wa)) | (with_reducible refine blThenAlloc ?_ _) | (with_reducible refine Below.drew ?_))) hb); have cb := cell_later Tb.out x0; have zb := cell_lt cb; (first | (have X1 := Lib.hid (X0.out.bel Lb.out)) | skip); (first | (have Y1 := Lib.hid (Y0.out.bel Lb.out)) | skip); (first | (have X1 : Hid (Bx wb wa.heap.size [.int .i64 0, .int .i64 0]) := ((Bx.new wa #[.int .i64 0, .int .i64 0] 28 rfl).alloc (.cells #[.int .i64 0, .int .i64 0, .int .i64 0] 64)).bel (by with_reducible exact hb); have Y1 : Hid (Bx wb (wa.heap.size + 1) [.int .i64 0, .int .i64 0, .int .i64 0]) := (Bx.new (wa.alloc (.cells #[.int .i64 0, .int .i64 0] 28)) #[.int .i64 0, .int .i64 0, .int .i64 0] 64 (b := wa.heap.size + 1) (by simp)).bel (by with_reducible exact hb); have nn := Y1.out.lt) | (have Y1 : Hid (Bx wb wa.heap.size [.int .i64 0, .int .i64 0, .int .i64 0]) := ((Bx.new wa #[.int .i64 0, .int .i64 0, .int .i64 0] 64 rfl).alloc (.cells #[.int .i64 0, .int .i64 0] 28)).bel (by with_reducible exact hb); have X1 : Hid (Bx wb (wa.heap.size + 1) [.int .i64 0, .int .i64 0]) := (Bx.new (wa.alloc (.cells #[.int .i64 0, .int .i64 0, .int .i64 0] 64)) #[.int .i64 0, .int .i64 0] 28 (b := wa.heap.size + 1) (by simp)).bel (by with_reducible exact hb); have nn := X1.out.lt) | (have X1 : Hid (Bx wb wa.heap.size [.int .i64 0, .int .i64 0]) := (Bx.new wa #[.int .i64 0, .int .i64 0] 28 rfl).bel (by with_reducible exact hb)) | (have Y1 : Hid (Bx wb wa.heap.size [.int .i64 0, .int .i64 0, .int .i64 0]) := (Bx.new wa #[.int .i64 0, .int .i64 0, .int .i64 0] 64 rfl).bel (by with_reducible exact hb)) | skip); (first | (have e0 := X1.out.c 0 rfl; have ef0 := X1.out.f 0; have e1 := X1.out.c 1 rfl; have ef1 := X1.out.f 1; have el := X1.out.lt) | skip); (first | (have f0 := Y1.out.c 0 rfl; have ff0 := Y1.out.f 0; have f1 := Y1.out.c 1 rfl; have ff1 := Y1.out.f 1; have f2 := Y1.out.c 2 rfl; have ff2 := Y1.out.f 2; have fl := Y1.out.lt) | skip)))
    all_goals (try go_wp2_with fail)
    all_goals go_meet
    all_goals (refine ⟨_, _, rfl, rfl, ?_⟩)
    all_goals (first | (with_reducible exact Wb2.aa Tb.out _ _) | (with_reducible exact Wb2.aa2 Tb.out _ _) | (with_reducible exact Wb2.sa Tb.out X1.out rfl (by have := Ta.out.size; have := Lb.out.size; first | omega | (simp only [World.size_alloc, World.size_drew]; omega) | (simp; omega) | (simp; done)) _) | (with_reducible exact Wb2.as Tb.out Y1.out rfl (by have := Ta.out.size; have := Lb.out.size; first | omega | (simp only [World.size_alloc, World.size_drew]; omega) | (simp; omega) | (simp; done)) _) | (with_reducible exact Wb2.ss Tb.out X1.out Y1.out (by have := Ta.out.size; have := Lb.out.size; first | omega | (simp only [World.size_alloc, World.size_drew]; omega) | (simp; omega) | (simp; done)) (by have := Ta.out.size; have := Lb.out.size; first | omega | (simp only [World.size_alloc, World.size_drew]; omega) | (simp; omega) | (simp; done)) (by have := Ta.out.size; have := Lb.out.size; first | omega | (simp only [World.size_alloc, World.size_drew]; omega) | (simp; omega) | (simp; done))))
  case rest =>
    rename World => wx
    obtain ⟨b1, b2, rfl, rfl, O⟩ := hcut
    have T1 := Lib.hid (blThen T.out O.bl)
    have x00 := O.x.c 0 rfl
    have x01 := O.x.c 1 rfl
    have y01 := O.y.c 1 rfl
    have y02 := O.y.c 2 rfl
    have xl := O.x.lt
    have yl := O.y.lt
    clear O
    by_cases h0 : co = 0
    · subst h0
      go_wp2_with fail
      go_ret
      exact ⟨by simp, T1.out⟩
    · have hq : (co == 0) = false := by simpa using h0
      have hd : decide (co = 0) = false := by simpa using h0
      have HDD := Lib.hid hd
      clear hd
      go_wp2_with fail
      go_ret
      exact ⟨by rw [HDD.out]; rfl, T1.out⟩
end Go.Proofs.YtdjifaaofefpoaaGreat
