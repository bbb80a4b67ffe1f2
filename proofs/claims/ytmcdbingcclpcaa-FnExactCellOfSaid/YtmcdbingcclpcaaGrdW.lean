/-
  What a grid tells between its nodes: the program's plusTimes, next, between.
-/
import Derived.Test.YtmcdbingcclpcaaGrdY
import Derived.StillTailTactics
namespace Go.Proofs.Ytmcdbingcclpcaa
open Go.RowKit Go.Maps
set_option linter.unusedVariables false
set_option linter.unusedSimpArgs false

theorem jx_0 (a b c : Int) (W : World) : (Instr.index 106 (.agg #[.int .i64 a, .int .i64 b, .int .i64 c]) (.int .i64 0)).run Try.prog W = .ok (.int .i64 a) W := by kernel_rfl
theorem jx_1 (a b c : Int) (W : World) : (Instr.index 106 (.agg #[.int .i64 a, .int .i64 b, .int .i64 c]) (.int .i64 1)).run Try.prog W = .ok (.int .i64 b) W := by kernel_rfl
theorem jx_2 (a b c : Int) (W : World) : (Instr.index 106 (.agg #[.int .i64 a, .int .i64 b, .int .i64 c]) (.int .i64 2)).run Try.prog W = .ok (.int .i64 c) W := by kernel_rfl
def PtAns (w : World) (x y z : Int) (e : Ending) (w' : World) : Prop := e = .returned (.agg #[.int .i64 x, .int .i64 y, .int .i64 z]) ∧ Below w.heap.size w w'
set_option maxRecDepth 100000 in
set_option maxHeartbeats 4000000 in
theorem plusTimes_any (s0 s1 s2 n0 n1 n2 q : Int) (w : World) (h0 : -1000000000000 ≤ s0 ∧ s0 ≤ 1000000000000) (h1 : -1000000000000 ≤ s1 ∧ s1 ≤ 1000000000000) (h2 : -1000000000000 ≤ s2 ∧ s2 ≤ 1000000000000)
    (g0 : 0 ≤ n0 ∧ n0 ≤ 65535) (g1 : 0 ≤ n1 ∧ n1 ≤ 65535) (g2 : 0 ≤ n2 ∧ n2 ≤ 65535) (hq : -65535 ≤ q ∧ q ≤ 65535) :
    Calls Try.prog 150 #[.agg #[.int .i64 s0, .int .i64 s1, .int .i64 s2], .agg #[.int .i64 n0, .int .i64 n1, .int .i64 n2], .int .i64 q] w (PtAns w (s0 + n0 * q) (s1 + n1 * q) (s2 + n2 * q)) := by
  obtain ⟨p0, p0'⟩ := mul_bd g0 hq
  obtain ⟨p1, p1'⟩ := mul_bd g1 hq
  obtain ⟨p2, p2'⟩ := mul_bd g2 hq
  obtain ⟨W0, hW0⟩ : ∃ W0, W0 = ((w.alloc (.cells #[.int .i64 s0, .int .i64 s1, .int .i64 s2] 106)).alloc (.cells #[.int .i64 n0, .int .i64 n1, .int .i64 n2] 106)).alloc (.cells #[.int .i64 0, .int .i64 0, .int .i64 0] 106) := ⟨_, rfl⟩
  have S0 : Hid (Bx W0 w.heap.size [.int .i64 s0, .int .i64 s1, .int .i64 s2]) := by show Bx _ _ _; rw [hW0]; exact ((Bx.new _ _ _ rfl).alloc _).alloc _
  have N0 : Hid (Bx W0 (w.heap.size + 1) [.int .i64 n0, .int .i64 n1, .int .i64 n2]) := by show Bx _ _ _; rw [hW0]; exact (Bx.new _ _ _ (by simp)).alloc _
  have R0 : Hid (Bx W0 (w.heap.size + 1 + 1) [.int .i64 0, .int .i64 0, .int .i64 0]) := by show Bx _ _ _; rw [hW0]; exact Bx.new _ _ _ (by simp)
  have T : Hid (Below w.heap.size w W0) := by show Below _ _ _; rw [hW0]; exact blThenAlloc (blThenAlloc (blAlloc _ _) _) _
  have HW := Lib.hid hW0
  clear hW0 g0 g1 g2 hq
  have x0 := S0.out.c 0 rfl
  have x1 := S0.out.c 1 rfl
  have x2 := S0.out.c 2 rfl
  have z0 := S0.out.f 0
  have z1 := S0.out.f 1
  have z2 := S0.out.f 2
  have y0 := N0.out.c 0 rfl
  have y1 := N0.out.c 1 rfl
  have y2 := N0.out.c 2 rfl
  have r0 := R0.out.c 0 rfl
  have r1 := R0.out.c 1 rfl
  have r2 := R0.out.c 2 rfl
  have u0 := R0.out.f 0
  have u1 := R0.out.f 1
  have u2 := R0.out.f 2
  go_enter Try.func150, Try.ntmps150
  go_wp2_with fail
  rw [← HW.out]
  refine wp_loop_rounds 4 ?_
  rw [rounds_succ]
  have ii := fun W => jx_0 n0 n1 n2 W
  go_wp2_with fail
  clear ii
  rw [rounds_succ]
  have ii := fun W => jx_1 n0 n1 n2 W
  go_wp2_with fail
  clear ii
  rw [rounds_succ]
  have ii := fun W => jx_2 n0 n1 n2 W
  go_wp2_with fail
  clear ii
  rw [rounds_succ]
  go_wp2_with fail
  have RR := ((((((R0.out.oth (c := w.heap.size) (by omega) 0 (.int .i64 (s0 + n0 * q))).oth (c := w.heap.size) (by omega) 1 (.int .i64 (s1 + n1 * q))).oth (c := w.heap.size) (by omega) 2 (.int .i64 (s2 + n2 * q))).set 0 (.int .i64 (s0 + n0 * q))).set 1 (.int .i64 (s1 + n1 * q))).set 2 (.int .i64 (s2 + n2 * q)))
  have k0 := RR.c 0 rfl
  have k1 := RR.c 1 rfl
  have k2 := RR.c 2 rfl
  clear RR
  refine bodyPost_ret (v := .agg #[.int .i64 (s0 + n0 * q), .int .i64 (s1 + n1 * q), .int .i64 (s2 + n2 * q)]) (by simp [results, Try.results150, go_sem, k0, k1, k2]) rfl ⟨rfl, ?_⟩
  repeat (refine Below.setCell ?_ (by simp; try omega) _)
  exact T.out
set_option maxRecDepth 100000 in
set_option maxHeartbeats 2000000 in
theorem next_b (a0 a1 a2 : Int) (k : Nat) (w : World) (hk : k < 3) (h0 : 0 ≤ a0 ∧ a0 ≤ 1000) (h1 : 0 ≤ a1 ∧ a1 ≤ 1000) (h2 : 0 ≤ a2 ∧ a2 ≤ 1000) :
    Calls Try.prog 119 #[.agg #[.int .i64 a0, .int .i64 a1, .int .i64 a2], .int .i64 (k : Int)] w (PtAns w (if 0 = k then a0 + 1 else a0) (if 1 = k then a1 + 1 else a1) (if 2 = k then a2 + 1 else a2)) := by
  have hkk : k = 0 ∨ k = 1 ∨ k = 2 := by omega
  rcases hkk with rfl | rfl | rfl
  · go_enter Try.func119, Try.ntmps119
    go_wp2_with fail
    refine bodyPost_ret (v := .agg #[.int .i64 (a0 + 1), .int .i64 a1, .int .i64 a2]) (by simp [results, Try.results119, go_sem]) rfl ⟨by simp, ?_⟩
    repeat (first | exact Below.refl _ _ | refine Below.setCell ?_ (by simp) _ | refine blThenAlloc ?_ _)
  · go_enter Try.func119, Try.ntmps119
    go_wp2_with fail
    refine bodyPost_ret (v := .agg #[.int .i64 a0, .int .i64 (a1 + 1), .int .i64 a2]) (by simp [results, Try.results119, go_sem]) rfl ⟨by simp, ?_⟩
    repeat (first | exact Below.refl _ _ | refine Below.setCell ?_ (by simp) _ | refine blThenAlloc ?_ _)
  · go_enter Try.func119, Try.ntmps119
    go_wp2_with fail
    refine bodyPost_ret (v := .agg #[.int .i64 a0, .int .i64 a1, .int .i64 (a2 + 1)]) (by simp [results, Try.results119, go_sem]) rfl ⟨by simp, ?_⟩
    repeat (first | exact Below.refl _ _ | refine Below.setCell ?_ (by simp) _ | refine blThenAlloc ?_ _)
/-- the node at a place that is there. -/
theorem look_light {W : World} {B s : Nat} {rs : Rws} {D : DataW Unit} (hM : MapN W B s rs (s * s * s) D) (h0 : gf (s : Int) rs = 0) (x : Nat → Int) (hx : inS (s : Int) [x 0, x 1, x 2] = true) :
    (Instr.lookup 135 (.map (some B)) (.agg #[.int .i64 (x 0), .int .i64 (x 1), .int .i64 (x 2)]) false).run Try.prog W = .ok (.agg #[.int .i64 (ndv rs s x 0), .int .i64 (ndv rs s x 1), .int .i64 (ndv rs s x 2)]) W := by
  obtain ⟨hs, hlen, hrow⟩ := gf_zero h0
  have h3 : s = 2 ∨ s = 3 ∨ s = 4 := by rcases side_cases hs with e | e | e <;> omega
  obtain ⟨t1, _, t2, t3, t4⟩ := nd_yes h3 hx
  simp only [List.getD_cons_zero, List.getD_cons_succ] at t2 t3 t4
  obtain ⟨b0, b1, b2⟩ := inS_iff.1 hx
  simp only [List.getD_cons_zero, List.getD_cons_succ] at b0 b1 b2
  have hk : kp (x 0) (x 1) (x 2) = kt s (ndI s [x 0, x 1, x 2]) := by unfold kt; rw [t2, t3, t4]
  have hkey : keyOf Try.prog 139 (.agg #[.int .i64 (x 0), .int .i64 (x 1), .int .i64 (x 2)]) = some (kt s (ndI s [x 0, x 1, x 2])) := by
    rw [← hk]; exact kp_of _ _ _ (WalkArith.wf_i64 (by omega)) (WalkArith.wf_i64 (by omega)) (WalkArith.wf_i64 (by omega))
  obtain ⟨v, ps, hrun, hv⟩ := hM.own.lookup keyP Try.underlying135 (zeroLights W) (lightElem_mk 0 0 0) hkey
  rw [hrun]
  rw [hM.at_ _ t1] at hv
  obtain ⟨a, b, c, rfl, he⟩ := lightElem_form hv
  unfold rowDat at he
  simp only [DataW.agg.injEq, List.cons.injEq, DataW.lit.injEq, Lit.int.injEq, true_and, and_true] at he
  unfold ndv
  rw [he.1, he.2.1, he.2.2]
theorem rv_set3 {W : World} {b : Nat} {f : Nat → Int} (g : Nat → Int) (h : Bx W b (rv f)) : Bx (((W.setCell ⟨b, 0, none⟩ (.int .i64 (g 0))).setCell ⟨b, 1, none⟩ (.int .i64 (g 1))).setCell ⟨b, 2, none⟩ (.int .i64 (g 2))) b (rv g) := ((h.set 0 _).set 1 _).set 2 _
theorem bx_oth3 {W : World} {b c : Nat} {l : List Value} (h : Bx W b l) (hc : c ≠ b) (x y z : Value) : Bx (((W.setCell ⟨c, 0, none⟩ x).setCell ⟨c, 1, none⟩ y).setCell ⟨c, 2, none⟩ z) b l := ((h.oth hc 0 _).oth hc 1 _).oth hc 2 _
theorem bel_set3 {w W : World} {c : Nat} (h : Below w.heap.size w W) (hc : w.heap.size ≤ c) (x y z : Value) : Below w.heap.size w (((W.setCell ⟨c, 0, none⟩ x).setCell ⟨c, 1, none⟩ y).setCell ⟨c, 2, none⟩ z) := ((h.setCell (p := ⟨c, 0, none⟩) hc _).setCell (p := ⟨c, 1, none⟩) hc _).setCell (p := ⟨c, 2, none⟩) hc _
theorem oax_at {W : World} {b : Nat} {r : Nat → Int} (h : Bx W b (oax r)) {t : Nat} (ht : t < 3) : W.cell? ⟨b, t, none⟩ = some (.int .i64 ((ax r t : Nat) : Int)) :=
  h.c t (by
    match t, ht with
    | 0, _ => rfl
    | 1, _ => rfl
    | 2, _ => rfl)
/-- what between has made, t axes in. -/
structure BtS (w W : World) (b : Nat) (rs : Rws) (s : Nat) (c r : Nat → Int) (t : Nat) : Prop where
  hc : Bx W w.heap.size (rv (pl c r t))
  hr : Bx W (w.heap.size + 1) (rv r)
  hz : Bx W (w.heap.size + 1 + 1) (rv fun _ => 0)
  hs : Bx W (w.heap.size + 1 + 1 + 1) (rv (sm rs s c r t))
  ha : Bx W b (oax r)
  ge : w.heap.size + 1 + 1 + 1 < b
  b : Below w.heap.size w W
theorem BtS.bel {w W W' : World} {b : Nat} {rs : Rws} {s : Nat} {c r : Nat → Int} {t : Nat} (h : BtS w W b rs s c r t) (hb : Below W.heap.size W W') : BtS w W' b rs s c r t :=
  ⟨h.hc.bel hb, h.hr.bel hb, h.hz.bel hb, h.hs.bel hb, h.ha.bel hb, h.ge, blThen h.b hb⟩
/-- the sum has gone on, then the place. -/
theorem BtS.sum {w W : World} {b : Nat} {rs : Rws} {s : Nat} {c r : Nat → Int} {t : Nat} (h : BtS w W b rs s c r t) (g : Nat → Int) :
    let W' := ((W.setCell ⟨w.heap.size + 1 + 1 + 1, 0, none⟩ (.int .i64 (g 0))).setCell ⟨w.heap.size + 1 + 1 + 1, 1, none⟩ (.int .i64 (g 1))).setCell ⟨w.heap.size + 1 + 1 + 1, 2, none⟩ (.int .i64 (g 2))
    Bx W' w.heap.size (rv (pl c r t)) ∧ Bx W' (w.heap.size + 1) (rv r) ∧ Bx W' (w.heap.size + 1 + 1) (rv fun _ => 0) ∧ Bx W' (w.heap.size + 1 + 1 + 1) (rv g) ∧ Bx W' b (oax r) ∧ Below w.heap.size w W' := by
  have := h.ge
  exact ⟨bx_oth3 h.hc (by omega) _ _ _, bx_oth3 h.hr (by omega) _ _ _, bx_oth3 h.hz (by omega) _ _ _, rv_set3 g h.hs, bx_oth3 h.ha (by omega) _ _ _, bel_set3 h.b (by omega) _ _ _⟩
set_option maxRecDepth 100000 in
set_option maxHeartbeats 4000000 in
theorem between_any (B s : Nat) (rs : Rws) (D : DataW Unit) (c r : Nat → Int) (w : World) (hM : MapN w B s rs (s * s * s) D) (h0 : gf (s : Int) rs = 0) (hin : ∀ t, t ≤ 3 → inS (s : Int) [pl c r t 0, pl c r t 1, pl c r t 2] = true) (hr : Lv r) :
    Calls Try.prog 110 #[.map (some B), .agg #[.int .i64 (c 0), .int .i64 (c 1), .int .i64 (c 2)], .agg #[.int .i64 (r 0), .int .i64 (r 1), .int .i64 (r 2)]] w (PtAns w (rnd (sm rs s c r 4 0) 65535) (rnd (sm rs s c r 4 1) 65535) (rnd (sm rs s c r 4 2) 65535)) := by
  have HND : Hid (∀ t, t ≤ 3 → Lv (ndv rs s (pl c r t))) := fun t ht => ndv_bd h0 (hin t ht)
  have HSB : Hid (∀ t i, t ≤ 4 → i < 3 → -20000000000 ≤ sm rs s c r t i ∧ sm rs s c r t i ≤ 20000000000) := fun t i ht hi => by
    have := sm_bd hr HND.out hi t ht; omega
  have HLK : Hid (∀ t, t ≤ 3 → ∀ W, Below w.heap.size w W → (Instr.lookup 135 (.map (some B)) (.agg #[.int .i64 (pl c r t 0), .int .i64 (pl c r t 1), .int .i64 (pl c r t 2)]) false).run Try.prog W = .ok (.agg #[.int .i64 (ndv rs s (pl c r t) 0), .int .i64 (ndv rs s (pl c r t) 1), .int .i64 (ndv rs s (pl c r t) 2)]) W) := fun t ht W hW => look_light (hM.kept hW) h0 (pl c r t) (hin t ht)
  have HPB : Hid (∀ t, t ≤ 3 → ∀ j, j < 3 → 0 ≤ pl c r t j ∧ pl c r t j ≤ 1000) := fun t ht j hj => by
    have hs := inB_iff.1 (gf_zero h0).1
    obtain ⟨a0, a1, a2⟩ := inS_iff.1 (hin t ht)
    simp only [List.getD_cons_zero, List.getD_cons_succ] at a0 a1 a2
    match j, hj with
    | 0, _ => omega
    | 1, _ => omega
    | 2, _ => omega
  have HR := Lib.hid hr
  have HLF : Hid (∀ t, 0 ≤ lft r t ∧ lft r t ≤ 65535) := fun t => lft_bd hr t
  obtain ⟨W0, hW0⟩ : ∃ W0, W0 = (((w.alloc (.cells #[.int .i64 (c 0), .int .i64 (c 1), .int .i64 (c 2)] 139)).alloc (.cells #[.int .i64 (r 0), .int .i64 (r 1), .int .i64 (r 2)] 106)).alloc (.cells #[.int .i64 0, .int .i64 0, .int .i64 0] 106)).alloc (.cells #[.int .i64 0, .int .i64 0, .int .i64 0] 106) := ⟨_, rfl⟩
  have C0 : Hid (Bx W0 w.heap.size (rv c)) := by show Bx _ _ _; rw [hW0]; exact (((Bx.new _ _ _ rfl).alloc _).alloc _).alloc _
  have R0 : Hid (Bx W0 (w.heap.size + 1) (rv r)) := by show Bx _ _ _; rw [hW0]; exact ((Bx.new _ _ _ (by simp)).alloc _).alloc _
  have Z0 : Hid (Bx W0 (w.heap.size + 1 + 1) (rv fun _ => 0)) := by show Bx _ _ _; rw [hW0]; exact (Bx.new _ _ _ (by simp)).alloc _
  have S0 : Hid (Bx W0 (w.heap.size + 1 + 1 + 1) (rv fun _ => 0)) := by show Bx _ _ _; rw [hW0]; exact Bx.new _ _ _ (by simp)
  have T0 : Hid (Below w.heap.size w W0) := by show Below _ _ _; rw [hW0]; exact blThenAlloc (blThenAlloc (blThenAlloc (blAlloc _ _) _) _) _
  have HW := Lib.hid hW0
  have hz0 : W0.heap.size = w.heap.size + 4 := by rw [hW0]; simp
  have HZ0 := Lib.hid hz0
  clear hW0 hM h0 hin hr hz0
  go_enter Try.func110, Try.ntmps110
  go_wp2_with fail
  rw [← HW.out]
  refine (axesByRest_any r _).mono ?_
  rintro e w1 ⟨b, rfl, hax, hge, hb⟩
  have HS1 : Hid (BtS w w1 b rs s c r 0) := ⟨C0.out.bel hb, R0.out.bel hb, Z0.out.bel hb, S0.out.bel hb, hax, (show w.heap.size + 1 + 1 + 1 < b by have := HZ0.out; omega), blThen T0.out hb⟩
  clear hax hge hb C0 R0 Z0 S0 T0 HW HZ0
  go_wp2_with fail
  go_loopw [8, 16] (fun l i wr => ∃ t : Nat, t ≤ 3 ∧ i = .int .i64 t ∧ l = .int .i64 (lft r t) ∧ Hid (BtS w wr b rs s c r t)) (fun _ i _ => 3 - (intOf i).toNat)
  case atStart => exact ⟨0, by omega, rfl, rfl, HS1⟩
  case round =>
    obtain ⟨t, ht, rfl, rfl, HT⟩ := hrel
    by_cases hlt : t < 3
    · obtain ⟨k, hk⟩ : ∃ k, k = ax r t := ⟨_, rfl⟩
      have hk3 : k < 3 := by rw [hk]; exact ax_lt r hlt
      have hk3i : (k : Int) < 3 := by omega
      have xa := oax_at HT.out.ha hlt
      rw [← hk] at xa
      have xr := rv_at HT.out.hr hk3
      have hL1 : Hid (lft r (t + 1) = r k) := by show _ = _; simp only [lft]; rw [if_pos hlt, hk]
      have HPL : Hid (∀ j, pl c r (t + 1) j = if j = k then pl c r t j + 1 else pl c r t j) := fun j => by simp only [pl, bump, hk]
      have HSM : Hid (∀ j, sm rs s c r (t + 1) j = sm rs s c r t j + ndv rs s (pl c r t) j * (lft r t - r k)) := fun j => by simp only [sm]; rw [hL1.out]
      have x0 := HT.out.hc.c 0 rfl
      have x1 := HT.out.hc.c 1 rfl
      have x2 := HT.out.hc.c 2 rfl
      have y0 := HT.out.hs.c 0 rfl
      have y1 := HT.out.hs.c 1 rfl
      have y2 := HT.out.hs.c 2 rfl
      have z0 := HT.out.hs.f 0
      have z1 := HT.out.hs.f 1
      have z2 := HT.out.hs.f 2
      have hlk := HLK.out t ht wr.drew HT.out.b.drew
      have a1 := HLF.out t
      have a2 := HR.out k hk3
      obtain ⟨L, hL⟩ : ∃ L, L = lft r t := ⟨_, rfl⟩
      obtain ⟨q, hq⟩ : ∃ q, q = r k := ⟨_, rfl⟩
      rw [← hL] at a1 HSM ⊢
      rw [← hq] at a2 xr hL1 HSM
      have HRK : Hid (r k = q) := hq.symm
      have hwr : IntKind.i64.wrap (L - q) = L - q := IntWalk.i64_in _ (by omega)
      have CP := fun W => plusTimes_any (sm rs s c r t 0) (sm rs s c r t 1) (sm rs s c r t 2) (ndv rs s (pl c r t) 0) (ndv rs s (pl c r t) 1) (ndv rs s (pl c r t) 2) (L - q) W (by have := HSB.out t 0 (by omega) (by omega); omega) (by have := HSB.out t 1 (by omega) (by omega); omega) (by have := HSB.out t 2 (by omega) (by omega); omega) (HND.out t ht 0 (by omega)) (HND.out t ht 1 (by omega)) (HND.out t ht 2 (by omega)) (by omega)
      have HCP := Lib.hid CP
      clear CP hL hq hk
      go_wp2_with fail
      refine wp_region_still_tail 9 (by kernel_rfl) (by kernel_rfl) ?_
      simp only [List.take_succ_cons, List.take_zero, List.drop_succ_cons, List.drop_zero]
      repeat still_step
      refine wpStill_nil ?_
      change wpList _ _ _ _ _ wr.drew
      go_wp2_with fail
      refine (HCP.out _).mono ?_
      rintro e w2 ⟨rfl, hb⟩
      have HT2 := Lib.hid (HT.out.bel ((Below.refl _ _).drew.trans hb))
      rw [← HSM.out 0, ← HSM.out 1, ← HSM.out 2]
      clear hb HT x0 x1 x2 y0 y1 y2 z0 z1 z2 xa xr hlk hwr HCP HSM
      have x0 := HT2.out.hc.c 0 rfl
      have x1 := HT2.out.hc.c 1 rfl
      have x2 := HT2.out.hc.c 2 rfl
      have y0 := HT2.out.hs.c 0 rfl
      have y1 := HT2.out.hs.c 1 rfl
      have y2 := HT2.out.hs.c 2 rfl
      have z0 := HT2.out.hs.f 0
      have z1 := HT2.out.hs.f 1
      have z2 := HT2.out.hs.f 2
      have xr := rv_at HT2.out.hr hk3
      rw [HRK.out] at xr
      go_wp2_with fail
      obtain ⟨W3, hW3⟩ : ∃ W, W = (((w2).setCell ⟨w.heap.size + 1 + 1 + 1, 0, none⟩ (.int .i64 (sm rs s c r (t + 1) 0))).setCell ⟨w.heap.size + 1 + 1 + 1, 1, none⟩ (.int .i64 (sm rs s c r (t + 1) 1))).setCell ⟨w.heap.size + 1 + 1 + 1, 2, none⟩ (.int .i64 (sm rs s c r (t + 1) 2)) := ⟨_, rfl⟩
      have H3 := Lib.hid (HT2.out.sum (sm rs s c r (t + 1)))
      have HGE := Lib.hid HT2.out.ge
      rw [← hW3]
      replace H3 := Lib.hid (hW3 ▸ H3.out)
      clear hW3 x0 x1 x2 y0 y1 y2 z0 z1 z2 xr HT2
      refine (next_b _ _ _ k _ hk3 (HPB.out t ht 0 (by omega)) (HPB.out t ht 1 (by omega)) (HPB.out t ht 2 (by omega))).mono ?_
      rintro e w4 ⟨rfl, hb⟩
      rw [← HPL.out 0, ← HPL.out 1, ← HPL.out 2]
      have H4 : Hid (Bx w4 w.heap.size (rv (pl c r t)) ∧ Bx w4 (w.heap.size + 1) (rv r) ∧ Bx w4 (w.heap.size + 1 + 1) (rv fun _ => 0) ∧ Bx w4 (w.heap.size + 1 + 1 + 1) (rv (sm rs s c r (t + 1))) ∧ Bx w4 b (oax r) ∧ Below w.heap.size w w4) := by
        obtain ⟨q1, q2, q3, q4, q5, q6⟩ := H3.out
        exact ⟨q1.bel hb, q2.bel hb, q3.bel hb, q4.bel hb, q5.bel hb, blThen q6 hb⟩
      clear hb H3
      have x0 := H4.out.1.c 0 rfl
      have x1 := H4.out.1.c 1 rfl
      have x2 := H4.out.1.c 2 rfl
      have z0 := H4.out.1.f 0
      have z1 := H4.out.1.f 1
      have z2 := H4.out.1.f 2
      go_wp2_with fail
      have H5 : Hid (BtS w ((((w4).setCell ⟨w.heap.size, 0, none⟩ (.int .i64 (pl c r (t + 1) 0))).setCell ⟨w.heap.size, 1, none⟩ (.int .i64 (pl c r (t + 1) 1))).setCell ⟨w.heap.size, 2, none⟩ (.int .i64 (pl c r (t + 1) 2))) b rs s c r (t + 1)) := by
        obtain ⟨q1, q2, q3, q4, q5, q6⟩ := H4.out
        have := HGE.out
        exact ⟨rv_set3 (pl c r (t + 1)) q1, bx_oth3 q2 (by omega) _ _ _, bx_oth3 q3 (by omega) _ _ _, bx_oth3 q4 (by omega) _ _ _, bx_oth3 q5 (by omega) _ _ _, HGE.out, bel_set3 q6 (Nat.le_refl _) _ _ _⟩
      go_roundw
      case rel => exact ⟨t + 1, by omega, by go_num, by rw [hL1.out], H5⟩
      case measure => simp [intOf]; omega
    · obtain rfl : t = 3 := by omega
      have hL1 : Hid (∀ j, sm rs s c r 4 j = sm rs s c r 3 j + ndv rs s (pl c r 3) j * lft r 3) := fun j => by
        have : lft r 4 = 0 := by simp [lft]
        simp only [sm]; rw [this, Int.sub_zero]
      have x0 := HT.out.hc.c 0 rfl
      have x1 := HT.out.hc.c 1 rfl
      have x2 := HT.out.hc.c 2 rfl
      have y0 := HT.out.hs.c 0 rfl
      have y1 := HT.out.hs.c 1 rfl
      have y2 := HT.out.hs.c 2 rfl
      have hlk := HLK.out 3 ht wr.drew HT.out.b.drew
      have a1 := HLF.out 3
      obtain ⟨L, hL⟩ : ∃ L, L = lft r 3 := ⟨_, rfl⟩
      rw [← hL] at a1 hL1 ⊢
      have CP := fun W => plusTimes_any (sm rs s c r 3 0) (sm rs s c r 3 1) (sm rs s c r 3 2) (ndv rs s (pl c r 3) 0) (ndv rs s (pl c r 3) 1) (ndv rs s (pl c r 3) 2) L W (by have := HSB.out 3 0 (by omega) (by omega); omega) (by have := HSB.out 3 1 (by omega) (by omega); omega) (by have := HSB.out 3 2 (by omega) (by omega); omega) (HND.out 3 ht 0 (by omega)) (HND.out 3 ht 1 (by omega)) (HND.out 3 ht 2 (by omega)) (by omega)
      have HCP := Lib.hid CP
      clear CP hL
      go_wp2_with fail
      refine wp_region_still_tail 5 (by kernel_rfl) (by kernel_rfl) ?_
      simp only [List.take_succ_cons, List.take_zero, List.drop_succ_cons, List.drop_zero]
      repeat still_step
      refine wpStill_nil ?_
      change wpList _ _ _ _ _ wr.drew
      go_wp2_with fail
      refine (HCP.out _).mono ?_
      rintro e w2 ⟨rfl, hb⟩
      have HT2 := Lib.hid (HT.out.bel ((Below.refl _ _).drew.trans hb))
      rw [← hL1.out 0, ← hL1.out 1, ← hL1.out 2]
      clear hb HT x0 x1 x2 y0 y1 y2 hlk HCP hL1 a1
      have y0 := HT2.out.hs.c 0 rfl
      have y1 := HT2.out.hs.c 1 rfl
      have y2 := HT2.out.hs.c 2 rfl
      have z0 := HT2.out.hs.f 0
      have z1 := HT2.out.hs.f 1
      have z2 := HT2.out.hs.f 2
      have HGE := Lib.hid HT2.out.ge
      have b0 := HSB.out 4 0 (by omega) (by omega)
      have b1 := HSB.out 4 1 (by omega) (by omega)
      have b2 := HSB.out 4 2 (by omega) (by omega)
      obtain ⟨v, hv⟩ : ∃ v, v = sm rs s c r 4 := ⟨_, rfl⟩
      rw [← hv] at b0 b1 b2 ⊢
      have HV := Lib.hid hv
      clear hv
      go_wp2_with fail
      obtain ⟨W3, hW3⟩ : ∃ W, W = (((w2).setCell ⟨w.heap.size + 1 + 1 + 1, 0, none⟩ (.int .i64 (v 0))).setCell ⟨w.heap.size + 1 + 1 + 1, 1, none⟩ (.int .i64 (v 1))).setCell ⟨w.heap.size + 1 + 1 + 1, 2, none⟩ (.int .i64 (v 2)) := ⟨_, rfl⟩
      have H3 := Lib.hid (HT2.out.sum v)
      rw [← hW3]
      replace H3 := Lib.hid (hW3 ▸ H3.out)
      clear hW3 y0 y1 y2 z0 z1 z2 HT2
      have y0 := H3.out.2.2.2.1.c 0 rfl
      have y1 := H3.out.2.2.2.1.c 1 rfl
      have y2 := H3.out.2.2.2.1.c 2 rfl
      have z0 := H3.out.2.2.2.1.f 0
      have z1 := H3.out.2.2.2.1.f 1
      have z2 := H3.out.2.2.2.1.f 2
      have r0 := H3.out.2.2.1.c 0 rfl
      have r1 := H3.out.2.2.1.c 1 rfl
      have r2 := H3.out.2.2.1.c 2 rfl
      have u0 := H3.out.2.2.1.f 0
      have u1 := H3.out.2.2.1.f 1
      have u2 := H3.out.2.2.1.f 2
      refine wp_loop_rounds 4 ?_
      rw [rounds_succ]
      have ii := fun W => jx_0 (v 0) (v 1) (v 2) W
      go_wp2_with fail
      clear ii
      refine (nearest_any _ _ _ (by omega) (by omega) (by omega) (by omega)).mono ?_
      rintro e w' ⟨rfl, m0, rfl⟩
      go_wp2_with fail
      rw [rounds_succ]
      have ii := fun W => jx_1 (v 0) (v 1) (v 2) W
      go_wp2_with fail
      clear ii
      refine (nearest_any _ _ _ (by omega) (by omega) (by omega) (by omega)).mono ?_
      rintro e w' ⟨rfl, m1, rfl⟩
      go_wp2_with fail
      rw [rounds_succ]
      have ii := fun W => jx_2 (v 0) (v 1) (v 2) W
      go_wp2_with fail
      clear ii
      refine (nearest_any _ _ _ (by omega) (by omega) (by omega) (by omega)).mono ?_
      rintro e w' ⟨rfl, m2, rfl⟩
      go_wp2_with fail
      rw [rounds_succ]
      go_wp2_with fail
      have k0 := (((((((((H3.out.2.2.1.drewN m0).oth (c := w.heap.size + 1 + 1 + 1) (by omega) 0 (.int .i64 (rnd (v 0) 65535))).drewN m1).oth (c := w.heap.size + 1 + 1 + 1) (by omega) 1 (.int .i64 (rnd (v 1) 65535))).drewN m2).oth (c := w.heap.size + 1 + 1 + 1) (by omega) 2 (.int .i64 (rnd (v 2) 65535))).set 0 (.int .i64 (rnd (v 0) 65535))).set 1 (.int .i64 (rnd (v 1) 65535))).set 2 (.int .i64 (rnd (v 2) 65535))).c 0 rfl
      have k1 := (((((((((H3.out.2.2.1.drewN m0).oth (c := w.heap.size + 1 + 1 + 1) (by omega) 0 (.int .i64 (rnd (v 0) 65535))).drewN m1).oth (c := w.heap.size + 1 + 1 + 1) (by omega) 1 (.int .i64 (rnd (v 1) 65535))).drewN m2).oth (c := w.heap.size + 1 + 1 + 1) (by omega) 2 (.int .i64 (rnd (v 2) 65535))).set 0 (.int .i64 (rnd (v 0) 65535))).set 1 (.int .i64 (rnd (v 1) 65535))).set 2 (.int .i64 (rnd (v 2) 65535))).c 1 rfl
      have k2 := (((((((((H3.out.2.2.1.drewN m0).oth (c := w.heap.size + 1 + 1 + 1) (by omega) 0 (.int .i64 (rnd (v 0) 65535))).drewN m1).oth (c := w.heap.size + 1 + 1 + 1) (by omega) 1 (.int .i64 (rnd (v 1) 65535))).drewN m2).oth (c := w.heap.size + 1 + 1 + 1) (by omega) 2 (.int .i64 (rnd (v 2) 65535))).set 0 (.int .i64 (rnd (v 0) 65535))).set 1 (.int .i64 (rnd (v 1) 65535))).set 2 (.int .i64 (rnd (v 2) 65535))).c 2 rfl
      refine bodyPost_ret (v := .agg #[.int .i64 (rnd (v 0) 65535), .int .i64 (rnd (v 1) 65535), .int .i64 (rnd (v 2) 65535)]) (by simp [results, Try.results110, go_sem, k0, k1, k2]) rfl ⟨by rw [HV.out], ?_⟩
      clear k0 k1 k2
      repeat (first | with_reducible exact H3.out.2.2.2.2.2 | refine Below.setCell ?_ (by simp; try omega) _ | refine blThenDrew ?_ _)
end Go.Proofs.Ytmcdbingcclpcaa
