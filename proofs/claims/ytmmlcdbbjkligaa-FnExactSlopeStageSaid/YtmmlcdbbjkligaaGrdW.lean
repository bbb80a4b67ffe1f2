/-
  What a grid tells between its nodes: the program's plusTimes, next.
-/
import Derived.Test.YtmmlcdbbjkligaaGrdY
import Derived.Test.YtmmlcdbbjkligaaGrdT
import Derived.StillTailTactics
namespace Go.Proofs.Ytmmlcdbbjkligaa
open Go.RowKit Go.Maps
set_option linter.unusedVariables false
set_option linter.unusedSimpArgs false

theorem jx_0 (a b c : Int) (W : World) : (Instr.index 137 (.agg #[.int .i64 a, .int .i64 b, .int .i64 c]) (.int .i64 0)).run Try.prog W = .ok (.int .i64 a) W := by kernel_rfl
theorem jx_1 (a b c : Int) (W : World) : (Instr.index 137 (.agg #[.int .i64 a, .int .i64 b, .int .i64 c]) (.int .i64 1)).run Try.prog W = .ok (.int .i64 b) W := by kernel_rfl
theorem jx_2 (a b c : Int) (W : World) : (Instr.index 137 (.agg #[.int .i64 a, .int .i64 b, .int .i64 c]) (.int .i64 2)).run Try.prog W = .ok (.int .i64 c) W := by kernel_rfl
def PtAns (w : World) (x y z : Int) (e : Ending) (w' : World) : Prop := e = .returned (.agg #[.int .i64 x, .int .i64 y, .int .i64 z]) ∧ Below w.heap.size w w'
set_option maxRecDepth 100000 in
set_option maxHeartbeats 4000000 in
theorem plusTimes_any (s0 s1 s2 n0 n1 n2 q : Int) (w : World) (h0 : -100000000000000 ≤ s0 ∧ s0 ≤ 100000000000000) (h1 : -100000000000000 ≤ s1 ∧ s1 ≤ 100000000000000) (h2 : -100000000000000 ≤ s2 ∧ s2 ≤ 100000000000000)
    (g0 : 0 ≤ n0 ∧ n0 ≤ 65535) (g1 : 0 ≤ n1 ∧ n1 ≤ 65535) (g2 : 0 ≤ n2 ∧ n2 ≤ 65535) (hq : -16776960 ≤ q ∧ q ≤ 16776960) :
    Calls Try.prog 132 #[.agg #[.int .i64 s0, .int .i64 s1, .int .i64 s2], .agg #[.int .i64 n0, .int .i64 n1, .int .i64 n2], .int .i64 q] w (PtAns w (s0 + n0 * q) (s1 + n1 * q) (s2 + n2 * q)) := by
  obtain ⟨p0, p0'⟩ := mul_bdT g0 hq
  obtain ⟨p1, p1'⟩ := mul_bdT g1 hq
  obtain ⟨p2, p2'⟩ := mul_bdT g2 hq
  obtain ⟨W0, hW0⟩ : ∃ W0, W0 = ((w.alloc (.cells #[.int .i64 s0, .int .i64 s1, .int .i64 s2] 137)).alloc (.cells #[.int .i64 n0, .int .i64 n1, .int .i64 n2] 137)).alloc (.cells #[.int .i64 0, .int .i64 0, .int .i64 0] 137) := ⟨_, rfl⟩
  have S0 : Hid (Bx W0 w.heap.size [.int .i64 s0, .int .i64 s1, .int .i64 s2]) := by show Bx _ _ _; rw [hW0]; exact ((Bx.new _ _ _ rfl).alloc _).alloc _
  have N0 : Hid (Bx W0 (w.heap.size + 1) [.int .i64 n0, .int .i64 n1, .int .i64 n2]) := by show Bx _ _ _; rw [hW0]; exact (Bx.new _ _ _ (by simp)).alloc _
  have R0 : Hid (Bx W0 (w.heap.size + 1 + 1) [.int .i64 0, .int .i64 0, .int .i64 0]) := by show Bx _ _ _; rw [hW0]; exact Bx.new _ _ _ (by simp)
  have T : Hid (Below w.heap.size w W0) := by show Below _ _ _; rw [hW0]; exact blThenAlloc (blThenAlloc (blAlloc _ _) _) _
  have HW := Lib.hid hW0
  clear hW0 g0 g1 g2 hq
  have x0 := S0.out.c 0 rfl
  have x1 := S0.out.c 1 rfl
  have x2 := S0.out.c 2 rfl
  have z0 := S0.out.f 0
  have z1 := S0.out.f 1
  have z2 := S0.out.f 2
  have y0 := N0.out.c 0 rfl
  have y1 := N0.out.c 1 rfl
  have y2 := N0.out.c 2 rfl
  have r0 := R0.out.c 0 rfl
  have r1 := R0.out.c 1 rfl
  have r2 := R0.out.c 2 rfl
  have u0 := R0.out.f 0
  have u1 := R0.out.f 1
  have u2 := R0.out.f 2
  go_enter Try.func132, Try.ntmps132
  go_wp2_with fail
  rw [← HW.out]
  refine wp_loop_rounds 4 ?_
  rw [rounds_succ]
  have ii := fun W => jx_0 n0 n1 n2 W
  go_wp2_with fail
  clear ii
  rw [rounds_succ]
  have ii := fun W => jx_1 n0 n1 n2 W
  go_wp2_with fail
  clear ii
  rw [rounds_succ]
  have ii := fun W => jx_2 n0 n1 n2 W
  go_wp2_with fail
  clear ii
  rw [rounds_succ]
  go_wp2_with fail
  have RR := ((((((R0.out.oth (c := w.heap.size) (by omega) 0 (.int .i64 (s0 + n0 * q))).oth (c := w.heap.size) (by omega) 1 (.int .i64 (s1 + n1 * q))).oth (c := w.heap.size) (by omega) 2 (.int .i64 (s2 + n2 * q))).set 0 (.int .i64 (s0 + n0 * q))).set 1 (.int .i64 (s1 + n1 * q))).set 2 (.int .i64 (s2 + n2 * q)))
  have k0 := RR.c 0 rfl
  have k1 := RR.c 1 rfl
  have k2 := RR.c 2 rfl
  clear RR
  refine bodyPost_ret (v := .agg #[.int .i64 (s0 + n0 * q), .int .i64 (s1 + n1 * q), .int .i64 (s2 + n2 * q)]) (by simp [results, Try.results132, go_sem, k0, k1, k2]) rfl ⟨rfl, ?_⟩
  repeat (refine Below.setCell ?_ (by simp; try omega) _)
  exact T.out
set_option maxRecDepth 100000 in
set_option maxHeartbeats 2000000 in
theorem next_b (a0 a1 a2 : Int) (k : Nat) (w : World) (hk : k < 3) (h0 : 0 ≤ a0 ∧ a0 ≤ 1000) (h1 : 0 ≤ a1 ∧ a1 ≤ 1000) (h2 : 0 ≤ a2 ∧ a2 ≤ 1000) :
    Calls Try.prog 95 #[.agg #[.int .i64 a0, .int .i64 a1, .int .i64 a2], .int .i64 (k : Int)] w (PtAns w (if 0 = k then a0 + 1 else a0) (if 1 = k then a1 + 1 else a1) (if 2 = k then a2 + 1 else a2)) := by
  have hkk : k = 0 ∨ k = 1 ∨ k = 2 := by omega
  rcases hkk with rfl | rfl | rfl
  · go_enter Try.func95, Try.ntmps95
    go_wp2_with fail
    refine bodyPost_ret (v := .agg #[.int .i64 (a0 + 1), .int .i64 a1, .int .i64 a2]) (by simp [results, Try.results95, go_sem]) rfl ⟨by simp, ?_⟩
    repeat (first | exact Below.refl _ _ | refine Below.setCell ?_ (by simp) _ | refine blThenAlloc ?_ _)
  · go_enter Try.func95, Try.ntmps95
    go_wp2_with fail
    refine bodyPost_ret (v := .agg #[.int .i64 a0, .int .i64 (a1 + 1), .int .i64 a2]) (by simp [results, Try.results95, go_sem]) rfl ⟨by simp, ?_⟩
    repeat (first | exact Below.refl _ _ | refine Below.setCell ?_ (by simp) _ | refine blThenAlloc ?_ _)
  · go_enter Try.func95, Try.ntmps95
    go_wp2_with fail
    refine bodyPost_ret (v := .agg #[.int .i64 a0, .int .i64 a1, .int .i64 (a2 + 1)]) (by simp [results, Try.results95, go_sem]) rfl ⟨by simp, ?_⟩
    repeat (first | exact Below.refl _ _ | refine Below.setCell ?_ (by simp) _ | refine blThenAlloc ?_ _)
/-- the node at a place that is there. -/
theorem look_light {W : World} {B s : Nat} {rs : Rws} {D : DataW Unit} (hM : MapN W B s rs (s * s * s) D) (h0 : gf (s : Int) rs = 0) (x : Nat → Int) (hx : inS (s : Int) [x 0, x 1, x 2] = true) :
    (Instr.lookup 147 (.map (some B)) (.agg #[.int .i64 (x 0), .int .i64 (x 1), .int .i64 (x 2)]) false).run Try.prog W = .ok (.agg #[.int .i64 (ndv rs s x 0), .int .i64 (ndv rs s x 1), .int .i64 (ndv rs s x 2)]) W := by
  obtain ⟨hs, hlen, hrow⟩ := gf_zero h0
  have h3 : s = 2 ∨ s = 3 ∨ s = 4 := by rcases side_cases hs with e | e | e <;> omega
  obtain ⟨t1, _, t2, t3, t4⟩ := nd_yes h3 hx
  simp only [List.getD_cons_zero, List.getD_cons_succ] at t2 t3 t4
  obtain ⟨b0, b1, b2⟩ := inS_iff.1 hx
  simp only [List.getD_cons_zero, List.getD_cons_succ] at b0 b1 b2
  have hk : kp (x 0) (x 1) (x 2) = kt s (ndI s [x 0, x 1, x 2]) := by unfold kt; rw [t2, t3, t4]
  have hkey : keyOf Try.prog 141 (.agg #[.int .i64 (x 0), .int .i64 (x 1), .int .i64 (x 2)]) = some (kt s (ndI s [x 0, x 1, x 2])) := by
    rw [← hk]; exact kp_of _ _ _ (WalkArith.wf_i64 (by omega)) (WalkArith.wf_i64 (by omega)) (WalkArith.wf_i64 (by omega))
  obtain ⟨v, ps, hrun, hv⟩ := hM.own.lookup keyP Try.underlying147 (zeroLights W) (lightElem_mk 0 0 0) hkey
  rw [hrun]
  rw [hM.at_ _ t1] at hv
  obtain ⟨a, b, c, rfl, he⟩ := lightElem_form hv
  unfold rowDat at he
  simp only [DataW.agg.injEq, List.cons.injEq, DataW.lit.injEq, Lit.int.injEq, true_and, and_true] at he
  unfold ndv
  rw [he.1, he.2.1, he.2.2]
theorem rv_set3 {W : World} {b : Nat} {f : Nat → Int} (g : Nat → Int) (h : Bx W b (rv f)) : Bx (((W.setCell ⟨b, 0, none⟩ (.int .i64 (g 0))).setCell ⟨b, 1, none⟩ (.int .i64 (g 1))).setCell ⟨b, 2, none⟩ (.int .i64 (g 2))) b (rv g) := ((h.set 0 _).set 1 _).set 2 _
theorem bx_oth3 {W : World} {b c : Nat} {l : List Value} (h : Bx W b l) (hc : c ≠ b) (x y z : Value) : Bx (((W.setCell ⟨c, 0, none⟩ x).setCell ⟨c, 1, none⟩ y).setCell ⟨c, 2, none⟩ z) b l := ((h.oth hc 0 _).oth hc 1 _).oth hc 2 _
theorem bel_set3 {w W : World} {c : Nat} (h : Below w.heap.size w W) (hc : w.heap.size ≤ c) (x y z : Value) : Below w.heap.size w (((W.setCell ⟨c, 0, none⟩ x).setCell ⟨c, 1, none⟩ y).setCell ⟨c, 2, none⟩ z) := ((h.setCell (p := ⟨c, 0, none⟩) hc _).setCell (p := ⟨c, 1, none⟩) hc _).setCell (p := ⟨c, 2, none⟩) hc _
theorem oax_at {W : World} {b : Nat} {r : Nat → Int} (h : Bx W b (oax r)) {t : Nat} (ht : t < 3) : W.cell? ⟨b, t, none⟩ = some (.int .i64 ((ax r t : Nat) : Int)) :=
  h.c t (by
    match t, ht with
    | 0, _ => rfl
    | 1, _ => rfl
    | 2, _ => rfl)
end Go.Proofs.Ytmmlcdbbjkligaa
