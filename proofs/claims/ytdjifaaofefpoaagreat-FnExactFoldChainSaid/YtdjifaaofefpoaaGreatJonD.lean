/-
  The reference model's copies of stages and chains, and its JoinChains.
-/
import Derived.Test.YtdjifaaofefpoaaGreatJonC
namespace Go.Proofs.YtdjifaaofefpoaaGreat
open Go.RowKit Go.Maps
set_option linter.unusedVariables false
set_option linter.unusedSimpArgs false

theorem OwnX.of3b {w : World} {t : Stg} {s1 s2 s3 : Value} {lo p q hi : Nat} (h2 : Own w (rowsD t.rs) s2 lo p) (h3 : Own w (rowsD t.ns) s3 p q) (h1 : Own w (rowsD t.cs) s1 q hi) (l1 : lo ≤ p) (l2 : p ≤ q) (l3 : q ≤ hi) :
    OwnX 5 w (stD t) (stV t.kd s1 s2 t.sd s3) lo hi := by
  obtain ⟨b1, x1, y1, z1⟩ := h1
  obtain ⟨b2, x2, y2, z2⟩ := h2
  obtain ⟨b3, x3, y3, z3⟩ := h3
  refine ⟨fun j => if j = 1 then b1 else if j = 2 then b2 else if j = 4 then b3 else [], fun j hj => ?_, ?_, fun j hj b hb => ?_⟩
  · match j, hj with
    | 0, _ => exact .int _ _
    | 1, _ => exact x1
    | 2, _ => exact x2
    | 3, _ => exact .int _ _
    | 4, _ => exact x3
  · have e : ((List.range 5).flatMap fun j => if j = 1 then b1 else if j = 2 then b2 else if j = 4 then b3 else []) = b1 ++ (b2 ++ b3) := by simp [List.range_succ]
    rw [e]
    refine List.nodup_append.2 ⟨y1, List.nodup_append.2 ⟨y2, y3, fun a ha b hb e => ?_⟩, fun a ha b hb e => ?_⟩
    · subst e; have := z2 a ha; have := z3 a hb; omega
    · subst e
      have := z1 a ha
      rcases List.mem_append.1 hb with hb | hb
      · have := z2 a hb; omega
      · have := z3 a hb; omega
  · match j, hj with
    | 0, _ => simp at hb
    | 1, _ => have := z1 b (by simpa using hb); exact ⟨by omega, by omega, this.2.2⟩
    | 2, _ => have := z2 b (by simpa using hb); exact ⟨by omega, by omega, this.2.2⟩
    | 3, _ => simp at hb
    | 4, _ => have := z3 b (by simpa using hb); exact ⟨by omega, by omega, this.2.2⟩
def RwOk (rs : Rws) : Prop := rs.length ≤ 100 ∧ ∀ k, k < rs.length → 0 < (rw_ rs k).length ∧ (rw_ rs k).length ≤ 100
theorem rwOk_nil : RwOk [] := ⟨by simp, fun k hk => by simp at hk⟩
theorem stg_ok {t : Stg} (h : sgf t = 0) : RwOk t.cs ∧ RwOk t.rs ∧ RwOk t.ns := by
  obtain ⟨hs, ⟨kd, hff⟩ | ⟨kd, hff⟩ | ⟨kd, hff⟩⟩ := sgf_zero h
  · have x := (stF_has hs).1 kd
    have m := crF_fine hff
    refine ⟨⟨by omega, fun k hk => ?_⟩, by rw [x.1]; exact rwOk_nil, by rw [x.2.2]; exact rwOk_nil⟩
    have f := cfine (m.2 k (by omega))
    have := f.lo
    have := f.hi
    omega
  · have x := (stF_has hs).2.1 kd
    have m := mf_zero hff
    refine ⟨by rw [x.1]; exact rwOk_nil, ⟨by omega, fun k hk => ?_⟩, by rw [x.2.2]; exact rwOk_nil⟩
    have := (rowF_zero (m.2 k (by omega))).1
    omega
  · have x := (stF_has hs).2.2 kd
    have m := gf_zero hff
    have hn : t.ns.length ≤ 64 := by
      have a := side_cases m.1
      have b := m.2.1
      rcases a with e | e | e <;> rw [e] at b <;> omega
    refine ⟨by rw [x.1]; exact rwOk_nil, by rw [x.2]; exact rwOk_nil, ⟨by omega, fun k hk => ?_⟩⟩
    have := (lf_zero (m.2.2 k hk)).1
    omega
/-- what stands ahead of the loop: the new stage's box, its two lists. -/
structure Cp3 (W W' : World) (g : Nat) (kd : Int) (B2 : Option Addr) (n2 d2 : Nat) (sd : Int) (B3 : Option Addr) (n3 d3 : Nat) (rs ns : Rws) (la lb lc ld : Nat) : Prop where
  x : Bx W' g [.int .i64 kd, .slice none 0 0, .slice B2 n2 d2, .int .i64 sd, .slice B3 n3 d3]
  r : Own W' (rowsD rs) (.slice B2 n2 d2) la lb
  q : Own W' (rowsD ns) (.slice B3 n3 d3) lc ld
  le : W.heap.size ≤ la ∧ la ≤ lb ∧ lb ≤ lc ∧ lc ≤ ld ∧ ld ≤ W'.heap.size
  g1 : g < la ∨ lb ≤ g
  g2 : g < lc ∨ ld ≤ g
  g0 : W.heap.size ≤ g
  bl : Below W.heap.size W W'
theorem bx5 {W : World} {b : Nat} {v0 v1 v2 v3 v4 : Value} (h : Bx W b [v0, v1, v2, v3, v4]) : W.cell? ⟨b, 0, none⟩ = some v0 ∧ W.cell? ⟨b, 1, none⟩ = some v1 ∧ W.cell? ⟨b, 2, none⟩ = some v2 ∧ W.cell? ⟨b, 3, none⟩ = some v3 ∧ W.cell? ⟨b, 4, none⟩ = some v4 :=
  ⟨h.c 0 rfl, h.c 1 rfl, h.c 2 rfl, h.c 3 rfl, h.c 4 rfl⟩
theorem bel1j {w W : World} {c : Nat} (h : Below w.heap.size w W) (hc : w.heap.size ≤ c) (i : Nat) (v : Value) : Below w.heap.size w (W.setCell ⟨c, i, none⟩ v) := h.setCell (p := ⟨c, i, none⟩) hc v
section
variable {W0 V : World} {g : Nat} {kd sd : Int} {B2 : Option Addr} {n2 d2 : Nat} {B3 : Option Addr} {n3 d3 : Nat} {rs ns : Rws} {la lb lc ld : Nat} {z0 z1 z2 z3 z4 : Value}
theorem Cp3.s (T : Below W0.heap.size W0 V) (X : Bx V g [z0, z1, z2, z3, z4]) (P : Own V (rowsD rs) (.slice B2 n2 d2) la lb) (Q : Own V (rowsD ns) (.slice B3 n3 d3) lc ld) (le : W0.heap.size ≤ la ∧ la ≤ lb ∧ lb ≤ lc ∧ lc ≤ ld ∧ ld ≤ V.heap.size) (g1 : g < la ∨ lb ≤ g) (g2 : g < lc ∨ ld ≤ g) (g0 : W0.heap.size ≤ g) :
    Cp3 W0 (((((V.setCell ⟨g, 0, none⟩ (.int .i64 kd)).setCell ⟨g, 1, none⟩ (.slice none 0 0)).setCell ⟨g, 2, none⟩ (.slice B2 n2 d2)).setCell ⟨g, 3, none⟩ (.int .i64 sd)).setCell ⟨g, 4, none⟩ (.slice B3 n3 d3)) g kd B2 n2 d2 sd B3 n3 d3 rs ns la lb lc ld :=
  ⟨((((X.set 0 _).set 1 _).set 2 _).set 3 _).set 4 _, ((((P.set g1 _ _).set g1 _ _).set g1 _ _).set g1 _ _).set g1 _ _, ((((Q.set g2 _ _).set g2 _ _).set g2 _ _).set g2 _ _).set g2 _ _, by simp only [setSize]; exact le, g1, g2, g0,
   bel1j (bel1j (bel1j (bel1j (bel1j T g0 _ _) g0 _ _) g0 _ _) g0 _ _) g0 _ _⟩
theorem Cp3.a (T : Below W0.heap.size W0 V) (P : Own V (rowsD rs) (.slice B2 n2 d2) la lb) (Q : Own V (rowsD ns) (.slice B3 n3 d3) lc ld) (le : W0.heap.size ≤ la ∧ la ≤ lb ∧ lb ≤ lc ∧ lc ≤ ld ∧ ld ≤ V.heap.size) (u : TypeId) :
    Cp3 W0 (V.alloc (.cells #[.int .i64 kd, .slice none 0 0, .slice B2 n2 d2, .int .i64 sd, .slice B3 n3 d3] u)) V.heap.size kd B2 n2 d2 sd B3 n3 d3 rs ns la lb lc ld :=
  ⟨Bx.new _ _ _ rfl, P.alloc _, Q.alloc _, by simp only [World.size_alloc]; omega, .inr (by omega), .inr (by omega), T.size, blThenAlloc T _⟩
end
set_option maxRecDepth 100000 in
set_option maxHeartbeats 8000000 in
theorem sCopyStage_any (t : Stg) (A1 : Option Addr) (n1 c1 : Nat) (A2 : Option Addr) (n2 c2 : Nat) (A3 : Option Addr) (n3 c3 : Nat) (w : World) (h : HdSt w t A1 n1 c1 A2 n2 c2 A3 n3 c3) (h0 : sgf t = 0) :
    Calls Tryz.prog 60 #[.agg #[.int .i64 t.kd, .slice A1 n1 c1, .slice A2 n2 c2, .int .i64 t.sd, .slice A3 n3 c3]] w (StAns w t) := by
  obtain ⟨W0, hW0⟩ : ∃ W0, W0 = (w.alloc (.cells #[.int .i64 t.kd, .slice A1 n1 c1, .slice A2 n2 c2, .int .i64 t.sd, .slice A3 n3 c3] 98)).alloc (.cells #[.int .i64 0, .slice none 0 0, .slice none 0 0, .int .i64 0, .slice none 0 0] 98) := ⟨_, rfl⟩
  have A0 : Hid (Bx W0 w.heap.size [.int .i64 t.kd, .slice A1 n1 c1, .slice A2 n2 c2, .int .i64 t.sd, .slice A3 n3 c3]) := by show Bx _ _ _; rw [hW0]; exact (Bx.new _ _ _ rfl).alloc _
  have R0 : Hid (Bx W0 (w.heap.size + 1) [.int .i64 0, .slice none 0 0, .slice none 0 0, .int .i64 0, .slice none 0 0]) := by show Bx _ _ _; rw [hW0]; exact Bx.new _ _ _ (by simp)
  have T : Hid (Below w.heap.size w W0) := by show Below _ _ _; rw [hW0]; exact blThenAlloc (blAlloc _ _) _
  have hz0 : W0.heap.size = w.heap.size + 2 := by rw [hW0]; simp
  have hz : w.heap.size + 2 ≤ W0.heap.size := by omega
  obtain ⟨⟨q1, e1⟩, ⟨q2, e2⟩, ⟨q3, e3⟩⟩ := h
  obtain ⟨ok1, ok2, ok3⟩ := stg_ok h0
  have l1 := e1.rows.1
  have l2 := e2.rows.1
  have l3 := e3.rows.1
  have HLn : Hid (t.cs.length = n1) := l1
  have HH : Hid (Hd w (rowsD t.cs) (.slice A1 n1 c1) q1) := e1
  have HR : Hid (∀ k, k < n1 → 0 < (rw_ t.cs k).length ∧ (rw_ t.cs k).length ≤ 100) := fun k hk => ok1.2 k (by omega)
  have hn1 : n1 ≤ 100 := by have := ok1.1; omega
  have CA : Hid (∀ W, Below W0.heap.size W0 W → Calls Tryz.prog 100 #[.agg #[.slice A2 n2 c2]] W fun e w' => ∃ B d, e = .returned (.agg #[.slice B n2 d]) ∧ Own w' (rowsD t.rs) (.slice B n2 d) W.heap.size w'.heap.size ∧ Below W.heap.size W w') := fun W hW => sCopy4_any A2 n2 c2 t.rs q2 W ((e2.bel T.out).bel hW) (by have := ok2.1; omega) (fun k hk => ok2.2 k (by omega))
  have CB : Hid (∀ W, Below W0.heap.size W0 W → Calls Tryz.prog 101 #[.agg #[.int .i64 t.sd, .slice A3 n3 c3]] W fun e w' => ∃ B d, e = .returned (.agg #[.int .i64 t.sd, .slice B n3 d]) ∧ Own w' (rowsD t.ns) (.slice B n3 d) W.heap.size w'.heap.size ∧ Below W.heap.size W w') := fun W hW => sCopy5_any t.sd A3 n3 c3 t.ns q3 W ((e3.bel T.out).bel hW) (by have := ok3.1; omega) (fun k hk => ok3.2 k (by omega))
  have x0 := A0.out.c 0 rfl
  have x1 := A0.out.c 1 rfl
  have x2 := A0.out.c 2 rfl
  have x3 := A0.out.c 3 rfl
  have x4 := A0.out.c 4 rfl
  have z0 := A0.out.lt
  have HW := Lib.hid hW0
  clear hW0 hz0 e1 e2 e3 ok1 ok2 ok3 l1 l2 l3 h0
  go_enter Tryz.func60, Tryz.ntmps60
  go_wp2_with fail
  rw [← HW.out]
  clear HW
  go_cut [3] from 5 to 13 (fun p wx => ∃ (g : Nat) (B2 : Option Addr) (d2 : Nat) (B3 : Option Addr) (d3 la lb lc ld : Nat), p = .pointer (some ⟨g, 0, none⟩) ∧ Cp3 W0 wx g t.kd B2 n2 d2 t.sd B3 n3 d3 t.rs t.ns la lb lc ld)
  case first =>
    go_region_held3 (fun w' => w'.cell? ⟨w.heap.size, 0, none⟩ = some (.int .i64 t.kd) ∧ w'.cell? ⟨w.heap.size, 1, none⟩ = some (.slice A1 n1 c1) ∧ w'.cell? ⟨w.heap.size, 2, none⟩ = some (.slice A2 n2 c2) ∧ w'.cell? ⟨w.heap.size, 3, none⟩ = some (.int .i64 t.sd) ∧ w'.cell? ⟨w.heap.size, 4, none⟩ = some (.slice A3 n3 c3)) (first | (refine ⟨?_, ?_, ?_, ?_, ?_⟩ <;> ((with_reducible refine cell_s ?_ (by omega)); (repeat (first | (with_reducible refine cell_s ?_ (by omega)) | (with_reducible refine cell_later (blAlloc _ _) ?_))); (first | (with_reducible exact bk.out.1) | (with_reducible exact bk.out.2.1) | (with_reducible exact bk.out.2.2.1) | (with_reducible exact bk.out.2.2.2.1) | (with_reducible exact bk.out.2.2.2.2) | (with_reducible exact ak.out.1) | (with_reducible exact ak.out.2.1) | (with_reducible exact ak.out.2.2.1) | (with_reducible exact ak.out.2.2.2.1) | (with_reducible exact ak.out.2.2.2.2)))) | (refine ⟨?_, ?_, ?_, ?_, ?_⟩ <;> ((with_reducible refine cell_later (blAlloc _ _) ?_); (repeat (first | (with_reducible refine cell_s ?_ (by omega)) | (with_reducible refine cell_later (blAlloc _ _) ?_))); (first | (with_reducible exact bk.out.1) | (with_reducible exact bk.out.2.1) | (with_reducible exact bk.out.2.2.1) | (with_reducible exact bk.out.2.2.2.1) | (with_reducible exact bk.out.2.2.2.2) | (with_reducible exact ak.out.1) | (with_reducible exact ak.out.2.1) | (with_reducible exact ak.out.2.2.1) | (with_reducible exact ak.out.2.2.2.1) | (with_reducible exact ak.out.2.2.2.2)))) | (with_reducible exact bk.out) | (with_reducible exact ak.out) | (with_reducible exact ⟨cell_later (Below.refl _ _).drew x0, cell_later (Below.refl _ _).drew x1, cell_later (Below.refl _ _).drew x2, cell_later (Below.refl _ _).drew x3, cell_later (Below.refl _ _).drew x4⟩) | (with_reducible exact ⟨cell_later (blAlloc _ _).drew x0, cell_later (blAlloc _ _).drew x1, cell_later (blAlloc _ _).drew x2, cell_later (blAlloc _ _).drew x3, cell_later (blAlloc _ _).drew x4⟩)) (first | (go_at_call 100; (with_reducible refine (CA.out _ (by repeat (first | (with_reducible exact (Below.refl W0.heap.size W0)) | (with_reducible refine blThenAlloc ?_ _) | (with_reducible refine Below.drew ?_)))).mono ?_); rintro e wa ⟨B2, d2, rfl, ho, hb⟩; have Ta := Lib.hid (show Below W0.heap.size W0 wa from blThen (by repeat (first | (with_reducible exact (Below.refl W0.heap.size W0)) | (with_reducible refine blThenAlloc ?_ _) | (with_reducible refine Below.drew ?_))) hb); have Oa := Lib.hid ho; have Sa := Lib.hid hb.size; have Aa := Lib.hid (A0.out.bel Ta.out); have ak := Lib.hid (bx5 Aa.out); have la := Aa.out.lt; (first | (have X0 : Hid (Bx wa W0.heap.size [.int .i64 0, .slice none 0 0, .slice none 0 0, .int .i64 0, .slice none 0 0]) := ((Bx.new W0 #[.int .i64 0, .slice none 0 0, .slice none 0 0, .int .i64 0, .slice none 0 0] 98 rfl).bel (Below.refl _ _).drew).bel (by with_reducible exact hb); have x0l := X0.out.lt) | skip); clear ho) | (go_at_call 101; (with_reducible refine (CB.out _ (by repeat (first | (with_reducible exact Ta.out) | (with_reducible refine blThenAlloc ?_ _) | (with_reducible refine Below.drew ?_)))).mono ?_); rintro e wb ⟨B3, d3, rfl, ho, hb⟩; have Tb := Lib.hid (show Below W0.heap.size W0 wb from blThen (by repeat (first | (with_reducible exact Ta.out) | (with_reducible refine blThenAlloc ?_ _) | (with_reducible refine Below.drew ?_))) hb); have Lb := Lib.hid (show Below wa.heap.size wa wb from blThen (by repeat (first | (with_reducible exact (Below.refl wa.heap.size wa)) | (with_reducible refine blThenAlloc ?_ _) | (with_reducible refine Below.drew ?_))) hb); have Ob := Lib.hid ho; have Sb := Lib.hid hb.size; have Oc := Lib.hid (Oa.out.below Lb.out); have Ab := Lib.hid (A0.out.bel Tb.out); have bk := Lib.hid (bx5 Ab.out); have lb := Ab.out.lt; (first | (have X1 := Lib.hid (X0.out.bel Lb.out)) | (have X1 : Hid (Bx wb wa.heap.size [.int .i64 0, .slice none 0 0, .slice none 0 0, .int .i64 0, .slice none 0 0]) := (Bx.new wa #[.int .i64 0, .slice none 0 0, .slice none 0 0, .int .i64 0, .slice none 0 0] 98 rfl).bel (by with_reducible exact hb)) | skip); (first | (have e0 := X1.out.c 0 rfl; have ef0 := X1.out.f 0; have e1 := X1.out.c 1 rfl; have ef1 := X1.out.f 1; have e2 := X1.out.c 2 rfl; have ef2 := X1.out.f 2; have e3 := X1.out.c 3 rfl; have ef3 := X1.out.f 3; have e4 := X1.out.c 4 rfl; have ef4 := X1.out.f 4; have el := X1.out.lt) | skip); clear ho))
    all_goals (try go_wp2_with fail)
    all_goals go_meet
    all_goals (first | (with_reducible exact ⟨_, B2, d2, B3, d3, _, _, _, _, rfl, Cp3.s Tb.out X1.out Oc.out Ob.out (by have := Ta.out.size; have := Tb.out.size; have := Lb.out.size; have := Sa.out; have := Sb.out; first | omega | (simp only [World.size_alloc, World.size_drew] at *; omega) | (simp at *; omega)) (by have := Ta.out.size; have := Tb.out.size; have := Lb.out.size; have := Sa.out; have := Sb.out; first | omega | (simp only [World.size_alloc, World.size_drew] at *; omega) | (simp at *; omega)) (by have := Ta.out.size; have := Tb.out.size; have := Lb.out.size; have := Sa.out; have := Sb.out; first | omega | (simp only [World.size_alloc, World.size_drew] at *; omega) | (simp at *; omega)) (by have := Ta.out.size; have := Tb.out.size; have := Lb.out.size; have := Sa.out; have := Sb.out; first | omega | (simp only [World.size_alloc, World.size_drew] at *; omega) | (simp at *; omega))⟩) | (with_reducible exact ⟨_, B2, d2, B3, d3, _, _, _, _, rfl, Cp3.a Tb.out Oc.out Ob.out (by have := Ta.out.size; have := Tb.out.size; have := Lb.out.size; have := Sa.out; have := Sb.out; first | omega | (simp only [World.size_alloc, World.size_drew] at *; omega) | (simp at *; omega)) _⟩))
  case rest =>
    rename World => wx
    obtain ⟨g, B2, d2, B3, d3, la, lb, lc, ld, rfl, O⟩ := hcut
    have T0 := Lib.hid (blThen T.out O.bl)
    have M0 := Lib.hid O.x
    have gl := O.x.lt
    have A1b := Lib.hid (A0.out.bel O.bl)
    have HQ0 := Lib.hid (R0.out.bel O.bl)
    have HP0 := Lib.hid O.r
    have HN0 := Lib.hid O.q
    have le1 := O.le
    have g1 := O.g1
    have g2 := O.g2
    have g0 := O.g0
    have hzx := O.bl.size
    clear O A0 R0 CA CB x0 x1 x2 x3 x4 z0
    have A0 := A1b
    clear A1b
    go_wp2_with fail
    go_loopw [4] (fun i wr => ∃ (k : Nat) (v : Value), k ≤ n1 ∧ i = .int .i64 k ∧ Hid (OwnE 136 1 wr wx.heap.size v k ((t.cs.take k).map fun r => [Dat.ints .i64 r]) wr.heap.size) ∧ Hid (Bx wr g [.int .i64 t.kd, v, .slice B2 n2 d2, .int .i64 t.sd, .slice B3 n3 d3]) ∧ Hid (Bx wr w.heap.size [.int .i64 t.kd, .slice A1 n1 c1, .slice A2 n2 c2, .int .i64 t.sd, .slice A3 n3 c3]) ∧ Hid (Below w.heap.size w wr) ∧ wx.heap.size ≤ wr.heap.size ∧ Hid (Bx wr (w.heap.size + 1) [.int .i64 0, .slice none 0 0, .slice none 0 0, .int .i64 0, .slice none 0 0]) ∧ Hid (Own wr (rowsD t.rs) (.slice B2 n2 d2) la lb) ∧ Hid (Own wr (rowsD t.ns) (.slice B3 n3 d3) lc ld)) (fun i _ => n1 - (intOf i).toNat)
    case atStart => exact ⟨0, .slice none 0 0, by omega, rfl, by rw [List.take_zero]; exact OwnE.nil _ _ _ _ _, M0.out, A0.out, T0.out, Nat.le_refl _, HQ0.out, HP0.out, HN0.out⟩
    case round =>
      obtain ⟨k, v, hk, rfl, HO, HM, HA, HT, hsz, HQ, HP, HN⟩ := hrel
      have a0 := HA.out.c 1 rfl
      have al := HA.out.lt
      have fr := HM.out.lt
      by_cases hlt : k < n1
      · obtain ⟨b, o, B1, L1, C1, g1, rfl, x1, x3, -⟩ := (HH.out.bel HT.out).row hlt
        have hL : (rw_ t.cs k).length = L1 := x3.rd.1
        have hLL := HR.out k hlt
        obtain ⟨p, q, rfl, -⟩ := x3.rd.2 (by omega)
        have HRD := Lib.hid x3.rd
        have hL1 : 0 < L1 ∧ L1 ≤ 100 := by omega
        have HTK : Hid (t.cs.take (k + 1) = t.cs.take k ++ [rw_ t.cs k]) := take_row (by rw [HLn.out]; exact hlt)
        obtain ⟨A9, c9, rfl⟩ := HO.out.form
        have m1 := HM.out.c 1 rfl
        have p1 := HM.out.f 1
        have xl := cell_lt x1
        have CC : Hid (∀ W, Below wr.heap.size wr W → Calls Tryz.prog 69 #[.slice (some ⟨p, q, none⟩) L1 C1] W (SlAns W L1 (rw_ t.cs k))) := fun W hW => sInts_any p q L1 C1 (rw_ t.cs k) W (HRD.out.below hW) hL1.1 (by omega)
        clear x3 hL hLL HRD
        go_wp2_with fail
        go_region_law (first
          | (refine step_append_owne ety_curve _ rfl _ _ rfl wx.heap.size (.slice A9 k c9) k _ wr.heap.size rfl (O2.out.below (blAlloc _ _)) [Dat.ints .i64 (rw_ t.cs k)] (fun _ => .slice G L1 cq) _ _ ((OwnX.one OW2.out).below (blAlloc _ _)) w2.heap.size 1 rfl AE.out (fun _ _ => rfl) (by omega) (by simp only [World.size_drew]; omega) (by simp) hsz (by have := B2.out.size; simp; omega) ?_; intro A' c' w4 ho4 hb4; have M4 := Lib.hid ((M2.out.alloc _).low hb4 (by omega)); have m41 := M4.out.c 1 rfl; have p41 := M4.out.f 1; have ml4 := M4.out.lt)
          | (go_simp; go_at_call 69; (with_reducible refine (CC.out _ (by first | exact Below.refl _ _ | exact (Below.refl _ _).drew | exact below_drewN _ _ _)).mono ?_); rintro e w2 ⟨G, cq, rfl, how, hb2⟩; have B2 := Lib.hid (blThen (by first | exact Below.refl _ _ | exact (Below.refl _ _).drew | exact below_drewN _ _ _) hb2 : Below wr.heap.size wr w2); have OW2 := Lib.hid how; have O2 := Lib.hid (HO.out.below B2.out); have M2 := Lib.hid (HM.out.bel B2.out); have A2 := Lib.hid (HA.out.bel B2.out); have HQ2 := Lib.hid (HQ.out.bel B2.out); have HP2 := Lib.hid (HP.out.below B2.out); have HN2 := Lib.hid (HN.out.below B2.out); have AE : Hid (∀ j, j < 1 → (w2.alloc (.cells #[.slice G L1 cq] 136)).cell? ⟨w2.heap.size, j, none⟩ = some (.slice G L1 cq)) := (fun j hj => by rw [show j = 0 from (by omega)]; exact (Bx.new w2 #[.slice G L1 cq] 136 rfl).c 0 rfl); have n12 := M2.out.c 1 rfl; have nl2 := M2.out.lt; have a02 := A2.out.c 1 rfl; have al2 := A2.out.lt; have x12 := cell_later B2.out x1; have xl2 := cell_lt x12; clear how hb2))
        all_goals
          have e1 : ((t.cs.take (k + 1)).map fun r => [Dat.ints .i64 r]) = ((t.cs.take k).map fun r => [Dat.ints .i64 r]) ++ [[Dat.ints .i64 (rw_ t.cs k)]] := by rw [HTK.out, List.map_append]; rfl
          have T4 := Lib.hid (show Below w.heap.size w w4 from (blThen HT.out (blThenAlloc B2.out _)).trans (hb4.mono (by omega)))
          have HA4 := Lib.hid ((A2.out.alloc _).low hb4 (by omega))
          have HQ4 := Lib.hid ((HQ2.out.alloc _).low hb4 (by omega))
          have HP4 := Lib.hid ((HP2.out.alloc _).lowJ hb4 (by omega))
          have HN4 := Lib.hid ((HN2.out.alloc _).lowJ hb4 (by omega))
          have HO4 := Lib.hid ho4
          have HE1 := Lib.hid e1
          have HSW := Lib.hid (show wx.heap.size ≤ w4.heap.size from by have a1 := hb4.size; have a2 := B2.out.size; simp only [World.size_alloc] at a1; omega)
          clear ho4 hb4 e1
          try go_wp2_with fail
          go_roundw
          case rel =>
            refine ⟨k + 1, .slice A' (k + 1) c', by omega, by go_num, ?_, M4.out.set 1 _, HA4.out.oth (c := g) (by omega) _ _, ?_, ?_, HQ4.out.oth (c := g) (by omega) _ _, HP4.out.set (by omega) _ _, HN4.out.set (by omega) _ _⟩
            · show OwnE _ _ _ _ _ _ _ _
              rw [HE1.out]
              simp only [setSize]
              exact HO4.out.set (.inl (by omega)) _ _
            · exact T4.out.setCell (by simp; omega) _
            · simp only [setSize]; exact HSW.out
          case measure => simp [intOf]; omega
      · obtain rfl : k = n1 := by omega
        obtain ⟨B, d, rfl⟩ := HO.out.form
        have HF := Lib.hid (show Own wr (rowsD t.cs) (.slice B k d) wx.heap.size wr.heap.size from by
          have := HO.out.own (by omega)
          rw [List.take_of_length_le (by rw [HLn.out]; exact Nat.le_refl _)] at this
          exact this)
        have r0 := HQ.out.c 0 rfl
        have q0 := HQ.out.f 0
        have m0 := HM.out.c 0 rfl
        have r1 := HQ.out.c 1 rfl
        have q1 := HQ.out.f 1
        have m1 := HM.out.c 1 rfl
        have r2 := HQ.out.c 2 rfl
        have q2 := HQ.out.f 2
        have m2 := HM.out.c 2 rfl
        have r3 := HQ.out.c 3 rfl
        have q3 := HQ.out.f 3
        have m3 := HM.out.c 3 rfl
        have r4 := HQ.out.c 4 rfl
        have q4 := HQ.out.f 4
        have m4 := HM.out.c 4 rfl
        have rl := HQ.out.lt
        have ml := HM.out.lt
        clear HO
        go_wp2_with fail
        have KK := (((((HQ.out).set 0 (.int .i64 t.kd)).set 1 (.slice B k d)).set 2 (.slice B2 n2 d2)).set 3 (.int .i64 t.sd)).set 4 (.slice B3 n3 d3)
        have k0 := KK.c 0 rfl
        have k1 := KK.c 1 rfl
        have k2 := KK.c 2 rfl
        have k3 := KK.c 3 rfl
        have k4 := KK.c 4 rfl
        clear KK
        refine bodyPost_ret (v := .agg #[.int .i64 t.kd, .slice B k d, .slice B2 n2 d2, .int .i64 t.sd, .slice B3 n3 d3]) (by simp [results, Tryz.results60, go_sem, k0, k1, k2, k3, k4]) rfl ⟨B, k, d, B2, n2, d2, B3, n3, d3, rfl, ?_, ?_⟩
        · refine OwnX.of3b (p := lb) (q := wx.heap.size) ?_ ?_ ?_ (by omega) (by omega) (by simp only [setSize]; exact hsz)
          · refine Own.mono (lo := la) (hi := lb) ?_ (by omega) (Nat.le_refl _)
            repeat (refine Own.set ?_ (.inl (by omega)) _ _)
            exact HP.out
          · refine Own.mono (lo := lc) (hi := ld) ?_ (by omega) (by omega)
            repeat (refine Own.set ?_ (.inl (by omega)) _ _)
            exact HN.out
          · refine Own.mono (lo := wx.heap.size) (hi := wr.heap.size) ?_ (Nat.le_refl _) (by simp only [setSize]; exact Nat.le_refl _)
            repeat (refine Own.set ?_ (.inl (by omega)) _ _)
            exact HF.out
        · repeat (refine Below.setCell ?_ (by simp; try omega) _)
          exact HT.out

end Go.Proofs.YtdjifaaofefpoaaGreat
