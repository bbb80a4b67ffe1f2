/-
  A grid at a colour by the reference model: l5Node (at any offset), l5Eval, EvalGrid.
-/
import Derived.Test.YthplngcdldongaaGrdA
namespace Go.Proofs.Ythplngcdldongaa
open Go.RowKit Go.Maps
set_option linter.unusedVariables false
set_option linter.unusedSimpArgs false

set_option maxRecDepth 100000 in
set_option maxHeartbeats 2000000 in
theorem sNode5o_any (g q b' o' n c b1 o1 C1 : Nat) (sd : Int) (b d t : Nat) (x : Nat → Int) (w : World) (hg0 : w.cell? ⟨g, q, none⟩ = some (.int .i64 sd)) (hg1 : w.cell? ⟨g, q + 1, none⟩ = some (.slice (some ⟨b', o', none⟩) n c))
    (y1 : w.cell? ⟨b', o' + t, none⟩ = some (.slice (some ⟨b1, o1, none⟩) 3 C1)) (hLm : n ≤ 9223372036854775807)
    (hx : Bx w b (rv x)) (ht : t < n) (he : (x 0 * sd + x 1) * sd + x 2 = (t : Int)) (hs : sd = 2 ∨ sd = 3 ∨ sd = 4)
    (h0 : 0 ≤ x 0 ∧ x 0 ≤ 3) (h1 : 0 ≤ x 1 ∧ x 1 ≤ 3) (h2 : 0 ≤ x 2 ∧ x 2 ≤ 3) :
    Calls Try.prog 58 #[.pointer (some ⟨g, q, none⟩), .slice (some ⟨b, 0, none⟩) 3 d] w fun e w' => e = .returned (.slice (some ⟨b1, o1, none⟩) 3 C1) ∧ ∃ m, w' = w.drewN m := by
  have x0 := hx.c 0 rfl
  have x1 := hx.c 1 rfl
  have x2 := hx.c 2 rfl
  generalize x 0 = p0 at *
  generalize x 1 = p1 at *
  generalize x 2 = p2 at *
  clear hx
  rcases hs with rfl | rfl | rfl
  · go_enter Try.func58, Try.ntmps58
    go_wp2_with fail
    go_quiet (fail)
    go_wp2_with fail
    go_ret
    exact ⟨rfl, _, rfl⟩
  · go_enter Try.func58, Try.ntmps58
    go_wp2_with fail
    go_quiet (fail)
    go_wp2_with fail
    go_ret
    exact ⟨rfl, _, rfl⟩
  · go_enter Try.func58, Try.ntmps58
    go_wp2_with fail
    go_quiet (fail)
    go_wp2_with fail
    go_ret
    exact ⟨rfl, _, rfl⟩
theorem rv_bump {W : World} {b k : Nat} {x : Nat → Int} (h : Bx W b (rv x)) (hk : k < 3) : Bx (W.setCell ⟨b, k, none⟩ (.int .i64 (x k + 1))) b (rv (bump x k)) := by
  have := h.set k (.int .i64 (x k + 1))
  match k, hk with
  | 0, _ => exact this
  | 1, _ => exact this
  | 2, _ => exact this
structure EvS (w W : World) (pb rb ab sb : Nat) (rs : Rws) (s : Nat) (c r : Nat → Int) (t : Nat) : Prop where
  hp : t ≤ 3 → Bx W pb (rv (pl c r t))
  hr : Bx W rb (rv r)
  ha : Bx W ab (oax r)
  hs : Bx W sb (rv (sm rs s c r t))
  ne : pb ≠ rb ∧ pb ≠ ab ∧ pb ≠ sb ∧ sb ≠ rb ∧ sb ≠ ab
  ge : w.heap.size ≤ pb ∧ w.heap.size ≤ sb
  b : Below w.heap.size w W
/-- what a step of the way wants to know. -/
structure EvK (w : World) (g q : Nat) (A : Option Addr) (n c : Nat) (rs : Rws) (s : Nat) (cx r : Nat → Int) : Prop where
  nd : ∀ t, t ≤ 3 → Lv (ndv rs s (pl cx r t))
  sb : ∀ t i, t ≤ 4 → i < 3 → -20000000000 ≤ sm rs s cx r t i ∧ sm rs s cx r t i ≤ 20000000000
  nod : ∀ t, t ≤ 3 → ∀ W, Below w.heap.size w W → ∀ b d, Bx W b (rv (pl cx r t)) → Calls Try.prog 58 #[.pointer (some ⟨g, q, none⟩), .slice (some ⟨b, 0, none⟩) 3 d] W fun e w' => ∃ b o C m, e = .returned (.slice (some ⟨b, o, none⟩) 3 C) ∧ (∀ j, j < 3 → w'.cell? ⟨b, o + j, none⟩ = some (.int .i64 (ndv rs s (pl cx r t) j))) ∧ b < w.heap.size ∧ w' = W.drewN m
  pb : ∀ t, t ≤ 3 → ∀ j, j < 3 → 0 ≤ pl cx r t j ∧ pl cx r t j ≤ 1000
  hr : Lv r
  lf : ∀ t, 0 ≤ lft r t ∧ lft r t ≤ 65535
theorem EvK.of {w : World} {g q : Nat} {A : Option Addr} {n c : Nat} {rs : Rws} {s : Nat} {cx r : Nat → Int} {bs : List Nat} (h : Hd w (rowsD rs) (.slice A n c) bs) (hg0 : w.cell? ⟨g, q, none⟩ = some (.int .i64 (s : Int))) (hg1 : w.cell? ⟨g, q + 1, none⟩ = some (.slice A n c)) (h0 : gf (s : Int) rs = 0)
    (hin : ∀ t, t ≤ 3 → inS (s : Int) [pl cx r t 0, pl cx r t 1, pl cx r t 2] = true) (hr : Lv r) : EvK w g q A n c rs s cx r := by
  have hnd : ∀ t, t ≤ 3 → Lv (ndv rs s (pl cx r t)) := fun t ht => ndv_bd h0 (hin t ht)
  obtain ⟨hs, hlen, hrow⟩ := gf_zero h0
  have h3 : s = 2 ∨ s = 3 ∨ s = 4 := by rcases side_cases hs with e | e | e <;> omega
  have hNI : ((s * s * s : Nat) : Int) = (s : Int) * s * s := by simp
  have hNN : rs.length = s * s * s := by rw [← hNI] at hlen; omega
  have hln := h.rows.1
  have hib : ∀ t, t ≤ 3 → ∀ j, j < 3 → 0 ≤ pl cx r t j ∧ pl cx r t j ≤ 3 := fun t ht j hj => by
    have hs := inB_iff.1 hs
    obtain ⟨a0, a1, a2⟩ := inS_iff.1 (hin t ht)
    simp only [List.getD_cons_zero, List.getD_cons_succ] at a0 a1 a2
    match j, hj with
    | 0, _ => omega
    | 1, _ => omega
    | 2, _ => omega
  refine ⟨hnd, fun t i ht hi => by have := sm_bd hr hnd hi t ht; omega, fun t ht W hW b d hb => ?_, fun t ht j hj => by have := hib t ht j hj; omega, hr, fun t => lft_bd hr t⟩
  obtain ⟨t1, t2, -⟩ := nd_yes h3 (hin t ht)
  simp only [List.getD_cons_zero, List.getD_cons_succ] at t2
  have hl3 := (lf_zero (hrow (ndI s [pl cx r t 0, pl cx r t 1, pl cx r t 2]) (by rw [hNN]; exact t1))).1
  have htn : ndI (s : Int) [pl cx r t 0, pl cx r t 1, pl cx r t 2] < n := by rw [← hln, hNN]; exact t1
  obtain ⟨b', o', B1, L1, C1, g1, rfl, y1, y3, -⟩ := h.row htn
  have hr3 := y3.rd
  obtain rfl : L1 = 3 := by rw [← hr3.1, hl3]
  obtain ⟨b1, o1, rfl, hc⟩ := hr3.2 (by omega)
  have hlb := cell_lt (hc 0 (by omega))
  have hmx := h.rows.2
  refine (sNode5o_any g q b' o' n c b1 o1 C1 s b d _ (pl cx r t) W (cell_later hW hg0) (cell_later hW hg1) (cell_later hW y1) (by have := hmx.2.1; unfold maxLen at this; omega) hb htn t2.symm (side_cases hs) (hib t ht 0 (by omega)) (hib t ht 1 (by omega)) (hib t ht 2 (by omega))).mono ?_
  rintro e w' ⟨rfl, m, rfl⟩
  exact ⟨b1, o1, C1, m, rfl, fun j hj => cell_later (below_drewN _ _ _) (cell_later hW (hc j hj)), hlb, rfl⟩
/-- a step of the way, within it. -/
structure EvI (w X : World) (pb rb ab sb nb no : Nat) (P R A S : List Value) (nv : Nat → Int) : Prop where
  p : Bx X pb P
  r : Bx X rb R
  a : Bx X ab A
  s : Bx X sb S
  n : ∀ j, j < 3 → X.cell? ⟨nb, no + j, none⟩ = some (.int .i64 (nv j))
  ne : pb ≠ rb ∧ pb ≠ ab ∧ pb ≠ sb ∧ sb ≠ rb ∧ sb ≠ ab
  nn : nb ≠ sb
  ge : w.heap.size ≤ pb ∧ w.heap.size ≤ sb
  b : Below w.heap.size w X
theorem EvI.put {w X : World} {pb rb ab sb nb no : Nat} {P R A S : List Value} {nv : Nat → Int} (h : EvI w X pb rb ab sb nb no P R A S nv) (j : Nat) (v : Value) : EvI w (X.setCell ⟨sb, j, none⟩ v).drew pb rb ab sb nb no P R A (S.set j v) nv :=
  ⟨(h.p.oth (Ne.symm h.ne.2.2.1) j v).drewN 1, (h.r.oth h.ne.2.2.2.1 j v).drewN 1, (h.a.oth h.ne.2.2.2.2 j v).drewN 1, (h.s.set j v).drewN 1, fun i hi => by
    have hn := h.nn
    show (X.setCell ⟨sb, j, none⟩ v).cell? ⟨nb, no + i, none⟩ = _
    rw [World.cell?_setCell_other _ _ _ _ (by simp only [ne_eq, Addr.mk.injEq, not_and]; intro q; omega)]
    exact h.n i hi, h.ne, h.nn, h.ge, (bel1 h.b h.ge.2 j v).drew⟩
set_option maxRecDepth 100000 in
set_option maxHeartbeats 8000000 in
theorem sEval5_any (g q : Nat) (A P : Option Addr) (n c d s : Nat) (rs : Rws) (xs : List Int) (bs : List Nat) (w : World) (h : Hd w (rowsD rs) (.slice A n c) bs) (hg0 : w.cell? ⟨g, q, none⟩ = some (.int .i64 (s : Int))) (hg1 : w.cell? ⟨g, q + 1, none⟩ = some (.slice A n c))
    (hp : Rd .i64 w P 3 xs) (h0 : gf (s : Int) rs = 0) (h1 : lf xs = 0) :
    Calls Try.prog 65 #[.pointer (some ⟨g, q, none⟩), .slice P 3 d] w (SlAns w 3 [gvl s rs (xs.getD · 0) 0, gvl s rs (xs.getD · 0) 1, gvl s rs (xs.getD · 0) 2]) := by
  have hsd := side_cases (gf_zero h0).1
  have hv : Lv (xs.getD · 0) := fun j hj => inB_iff.1 ((lf_zero h1).2 j hj)
  have CC := Lib.hid (sCells5_any P d (s : Int) xs (xs.getD · 0) w hp (fun _ _ => rfl) hsd hv)
  have HK : Hid (EvK w g q A n c rs s (cc s (xs.getD · 0)) (cr s (xs.getD · 0))) := EvK.of h hg0 hg1 h0 (fun t ht => pl_in hsd hv ht) (cr_bd hsd hv)
  have HG : Hid (∀ i, gvl s rs (xs.getD · 0) i = rnd (sm rs s (cc s (xs.getD · 0)) (cr s (xs.getD · 0)) 4 i) 65535) := fun i => rfl
  obtain ⟨cx, hcx⟩ : ∃ f, f = cc (s : Int) (xs.getD · 0) := ⟨_, rfl⟩
  obtain ⟨r, hr⟩ : ∃ f, f = cr (s : Int) (xs.getD · 0) := ⟨_, rfl⟩
  rw [← hcx, ← hr] at CC HK HG
  rw [HG.out 0, HG.out 1, HG.out 2]
  clear hcx hr HG h hp h0 h1 hsd hv hg1
  go_enter Try.func65, Try.ntmps65
  go_wp2_with fail
  refine CC.out.mono ?_
  rintro e w1 ⟨pb, pc, rb, rc, rfl, hB1, hB2, hne, hge1, hge2, -, -, -, -, hb⟩
  have B1 := Lib.hid hB1
  have R1 := Lib.hid hB2
  have T1 := Lib.hid hb
  have hl1 := hB1.lt
  have hl2 := hB2.lt
  clear hB1 hB2 hb CC hg0
  go_wp2_with fail
  refine (sAxes5_any rb rc r w1 R1.out).mono ?_
  rintro e w2 ⟨ab, rfl, hA, hge3, hb⟩
  have hs2 := hb.size
  have hl3 := hA.lt
  obtain ⟨W3, hW3⟩ : ∃ W, W = w2.alloc (.cells #[.int .i64 0, .int .i64 0, .int .i64 0] 2) := ⟨_, rfl⟩
  have T1s := T1.out.size
  have HS : Hid (EvS w W3 pb rb ab w2.heap.size rs s cx r 0) := by
    show EvS _ _ _ _ _ _ _ _ _ _ _
    rw [hW3]
    exact ⟨fun _ => (B1.out.bel hb).alloc _, (R1.out.bel hb).alloc _, hA.alloc _, Bx.new _ _ _ rfl, ⟨hne, by omega, by omega, by omega, by omega⟩, ⟨hge1, by omega⟩, blThenAlloc (blThen T1.out hb) _⟩
  have HD := Lib.hid (And.intro hge1 (And.intro hs2 T1s))
  clear B1 R1 T1 hA hge3 hb hs2 hl1 hl2 hl3 hge1 hge2 hne T1s
  go_wp2_with fail
  rw [← hW3]
  obtain ⟨sb, hsb⟩ : ∃ x, x = w2.heap.size := ⟨_, rfl⟩
  rw [← hsb] at HS ⊢
  clear hW3 hsb HD
  go_loopw [9, 10] (fun l i wr => ∃ t : Nat, t ≤ 4 ∧ i = .int .i64 t ∧ l = .int .i64 (lft r t) ∧ Hid (EvS w wr pb rb ab sb rs s cx r t)) (fun _ i _ => 4 - (intOf i).toNat)
  case atStart => exact ⟨0, by omega, rfl, rfl, HS⟩
  case round =>
    clear HS
    obtain ⟨t, ht, rfl, rfl, HT⟩ := hrel
    by_cases hlt : t < 3
    · skip
      obtain ⟨k, hk⟩ : ∃ k, k = ax r t := ⟨_, rfl⟩
      have hk3 : k < 3 := by rw [hk]; exact ax_lt r hlt
      have HKK : Hid (ax r t = k) := hk.symm
      have hk3i : (k : Int) < 3 := by omega
      have xa := oax_at HT.out.ha hlt
      rw [← hk] at xa
      have xr := rv_at HT.out.hr hk3
      have hL1 : Hid (lft r (t + 1) = r k) := by show _ = _; simp only [lft]; rw [if_pos hlt, hk]
      have HPL : Hid (pl cx r (t + 1) = bump (pl cx r t) k) := by show _ = _; funext j; simp only [pl, hk]
      have HSM : Hid (∀ j, sm rs s cx r (t + 1) j = sm rs s cx r t j + ndv rs s (pl cx r t) j * (lft r t - r k)) := fun j => by simp only [sm]; rw [hL1.out]
      have a2 := HK.out.hr k hk3
      obtain ⟨v, hq⟩ : ∃ v, v = r k := ⟨_, rfl⟩
      rw [← hq] at a2 xr hL1 HSM
      have a1 := HK.out.lf t
      obtain ⟨L, hL⟩ : ∃ L, L = lft r t := ⟨_, rfl⟩
      rw [← hL] at a1 HSM ⊢
      clear hL hq hk
      go_wp2_with fail
      refine (HK.out.nod t (by omega) wr HT.out.b pb _ (HT.out.hp (by omega))).mono ?_
      rintro e w4 ⟨nb, no, nc, m4, rfl, hnc, hnb, rfl⟩
      obtain ⟨X, hX⟩ : ∃ X, X = wr.drewN m4 := ⟨_, rfl⟩
      rw [← hX] at hnc ⊢
      obtain ⟨nv, hnv⟩ : ∃ f, f = ndv rs s (pl cx r t) := ⟨_, rfl⟩
      obtain ⟨f, hf⟩ : ∃ f, f = sm rs s cx r t := ⟨_, rfl⟩
      have hge := HT.out.ge
      have Q0 : Hid (EvI w X pb rb ab sb nb no (rv (pl cx r t)) (rv r) (oax r) (rv f) nv) := by show EvI _ _ _ _ _ _ _ _ _ _ _ _ _; rw [hX, hf, hnv]; exact ⟨(HT.out.hp (by omega)).drewN _, HT.out.hr.drewN _, HT.out.ha.drewN _, HT.out.hs.drewN _, by rw [← hX]; exact hnc, HT.out.ne, by omega, HT.out.ge, blThenDrew HT.out.b _⟩
      have b0 := HK.out.nd t (by omega) 0 (by omega)
      have b1 := HK.out.nd t (by omega) 1 (by omega)
      have b2 := HK.out.nd t (by omega) 2 (by omega)
      have s0 := HK.out.sb t 0 (by omega) (by omega)
      have s1 := HK.out.sb t 1 (by omega) (by omega)
      have s2 := HK.out.sb t 2 (by omega) (by omega)
      rw [← hnv] at b0 b1 b2 HSM
      rw [← hf] at s0 s1 s2 HSM
      obtain ⟨D, hD⟩ : ∃ x, x = (L - v) := ⟨_, rfl⟩
      have hDb : -65535 ≤ D ∧ D ≤ 65535 := by omega
      have HS : Hid (sm rs s cx r (t + 1) = fun j => f j + nv j * D) := by show _ = _; funext j; rw [HSM.out j, hD]
      obtain ⟨p0, p0'⟩ := mul_bd b0 hDb
      obtain ⟨p1, p1'⟩ := mul_bd b1 hDb
      obtain ⟨p2, p2'⟩ := mul_bd b2 hDb
      have wd : IntKind.i64.wrap (L - v) = D := by rw [hD]; exact IntWalk.i64_in _ (by omega)
      have m0 : IntKind.i64.wrap (nv 0 * D) = nv 0 * D := IntWalk.i64_in _ (by omega)
      have m1 : IntKind.i64.wrap (nv 1 * D) = nv 1 * D := IntWalk.i64_in _ (by omega)
      have m2 : IntKind.i64.wrap (nv 2 * D) = nv 2 * D := IntWalk.i64_in _ (by omega)
      have k0 : IntKind.i64.wrap (f 0 + nv 0 * D) = f 0 + nv 0 * D := IntWalk.i64_in _ (by omega)
      have k1 : IntKind.i64.wrap (f 1 + nv 1 * D) = f 1 + nv 1 * D := IntWalk.i64_in _ (by omega)
      have k2 : IntKind.i64.wrap (f 2 + nv 2 * D) = f 2 + nv 2 * D := IntWalk.i64_in _ (by omega)
      clear hD hX hnc hnv hf HSM hnb HT s0 s1 s2 b0 b1 b2 p0 p1 p2 p0' p1' p2' hge hDb a1 a2 xa xr
      go_wp2_with fail
      refine wp_loop_rounds 4 ?_
      rw [rounds_succ]
      have y : X.cell? ⟨sb, 0, none⟩ = some (.int .i64 (f 0)) := Q0.out.s.c 0 rfl
      have z := Q0.out.s.f 0
      have n := Q0.out.n 0 (by omega)
      rw [Nat.add_zero] at n
      go_wp2_with fail
      refine wp_region_still_tail 16 (by kernel_rfl) (by kernel_rfl) ?_
      simp only [List.take_succ_cons, List.take_zero, List.drop_succ_cons, List.drop_zero]
      repeat still_step
      refine wpStill_nil ?_
      change wpList _ _ _ _ _ X.drew
      go_wp2_with fail
      obtain ⟨X1, hX⟩ : ∃ W, W = (X.setCell ⟨sb, 0, none⟩ (.int .i64 (f 0 + nv 0 * D))).drew := ⟨_, rfl⟩
      have Q1 := Lib.hid (Q0.out.put 0 (.int .i64 (f 0 + nv 0 * D)))
      replace Q1 := Lib.hid (hX ▸ Q1.out)
      rw [← hX]
      clear hX y z n Q0
      rw [rounds_succ]
      have y : X1.cell? ⟨sb, 1, none⟩ = some (.int .i64 (f 1)) := Q1.out.s.c 1 rfl
      have z := Q1.out.s.f 1
      have n := Q1.out.n 1 (by omega)
      go_wp2_with fail
      refine wp_region_still_tail 16 (by kernel_rfl) (by kernel_rfl) ?_
      simp only [List.take_succ_cons, List.take_zero, List.drop_succ_cons, List.drop_zero]
      repeat still_step
      refine wpStill_nil ?_
      change wpList _ _ _ _ _ X1.drew
      go_wp2_with fail
      obtain ⟨X2, hX⟩ : ∃ W, W = (X1.setCell ⟨sb, 1, none⟩ (.int .i64 (f 1 + nv 1 * D))).drew := ⟨_, rfl⟩
      have Q2 := Lib.hid (Q1.out.put 1 (.int .i64 (f 1 + nv 1 * D)))
      replace Q2 := Lib.hid (hX ▸ Q2.out)
      rw [← hX]
      clear hX y z n Q1
      rw [rounds_succ]
      have y : X2.cell? ⟨sb, 2, none⟩ = some (.int .i64 (f 2)) := Q2.out.s.c 2 rfl
      have z := Q2.out.s.f 2
      have n := Q2.out.n 2 (by omega)
      go_wp2_with fail
      refine wp_region_still_tail 16 (by kernel_rfl) (by kernel_rfl) ?_
      simp only [List.take_succ_cons, List.take_zero, List.drop_succ_cons, List.drop_zero]
      repeat still_step
      refine wpStill_nil ?_
      change wpList _ _ _ _ _ X2.drew
      go_wp2_with fail
      obtain ⟨X3, hX⟩ : ∃ W, W = (X2.setCell ⟨sb, 2, none⟩ (.int .i64 (f 2 + nv 2 * D))).drew := ⟨_, rfl⟩
      have Q3 := Lib.hid (Q2.out.put 2 (.int .i64 (f 2 + nv 2 * D)))
      replace Q3 := Lib.hid (hX ▸ Q3.out)
      rw [← hX]
      clear hX y z n Q2
      rw [rounds_succ]
      clear m0 m1 m2 k0 k1 k2 wd
      have xa := oax_at Q3.out.a hlt
      have xp := rv_at Q3.out.p hk3
      have xf := Q3.out.p.f k
      have pbd := HK.out.pb t (by omega) k hk3
      rw [HKK.out] at xa
      obtain ⟨pv, hpv⟩ : ∃ x, x = pl cx r t k := ⟨_, rfl⟩
      rw [← hpv] at xp pbd
      have HPV := Lib.hid hpv
      clear hpv
      go_wp2_with fail
      have HZ : Hid (EvS w (X3.setCell ⟨pb, k, none⟩ (.int .i64 (pv + 1))) pb rb ab sb rs s cx r (t + 1)) := by
        have u := Q3.out
        have d1 := u.ne
        rw [HPV.out]
        exact ⟨fun _ => by rw [HPL.out]; exact rv_bump u.p hk3, u.r.oth d1.1 _ _, u.a.oth d1.2.1 _ _, by rw [HS.out]; exact u.s.oth d1.2.2.1 _ _, d1, u.ge, bel1 u.b u.ge.1 _ _⟩
      go_roundw
      case rel => exact ⟨t + 1, by omega, by go_num, by rw [hL1.out], HZ⟩
      case measure => simp [intOf]; omega
    · by_cases h3 : t = 3
      · subst h3
        have HSM : Hid (∀ j, sm rs s cx r (3 + 1) j = sm rs s cx r 3 j + ndv rs s (pl cx r 3) j * lft r 3) := fun j => by
          have : lft r (3 + 1) = 0 := by simp [lft]
          simp only [sm]; rw [this, Int.sub_zero]
        have a1 := HK.out.lf 3
        obtain ⟨L, hL⟩ : ∃ L, L = lft r 3 := ⟨_, rfl⟩
        rw [← hL] at a1 HSM ⊢
        clear hL
        go_wp2_with fail
        refine (HK.out.nod 3 (by omega) wr HT.out.b pb _ (HT.out.hp (by omega))).mono ?_
        rintro e w4 ⟨nb, no, nc, m4, rfl, hnc, hnb, rfl⟩
        obtain ⟨X, hX⟩ : ∃ X, X = wr.drewN m4 := ⟨_, rfl⟩
        rw [← hX] at hnc ⊢
        obtain ⟨nv, hnv⟩ : ∃ f, f = ndv rs s (pl cx r 3) := ⟨_, rfl⟩
        obtain ⟨f, hf⟩ : ∃ f, f = sm rs s cx r 3 := ⟨_, rfl⟩
        have hge := HT.out.ge
        have Q0 : Hid (EvI w X pb rb ab sb nb no (rv (pl cx r 3)) (rv r) (oax r) (rv f) nv) := by show EvI _ _ _ _ _ _ _ _ _ _ _ _ _; rw [hX, hf, hnv]; exact ⟨(HT.out.hp (by omega)).drewN _, HT.out.hr.drewN _, HT.out.ha.drewN _, HT.out.hs.drewN _, by rw [← hX]; exact hnc, HT.out.ne, by omega, HT.out.ge, blThenDrew HT.out.b _⟩
        have b0 := HK.out.nd 3 (by omega) 0 (by omega)
        have b1 := HK.out.nd 3 (by omega) 1 (by omega)
        have b2 := HK.out.nd 3 (by omega) 2 (by omega)
        have s0 := HK.out.sb 3 0 (by omega) (by omega)
        have s1 := HK.out.sb 3 1 (by omega) (by omega)
        have s2 := HK.out.sb 3 2 (by omega) (by omega)
        rw [← hnv] at b0 b1 b2 HSM
        rw [← hf] at s0 s1 s2 HSM
        obtain ⟨D, hD⟩ : ∃ x, x = L - 0 := ⟨_, rfl⟩
        have hDb : -65535 ≤ D ∧ D ≤ 65535 := by omega
        have HS : Hid (sm rs s cx r (3 + 1) = fun j => f j + nv j * D) := by show _ = _; funext j; rw [HSM.out j, hD, Int.sub_zero]
        obtain ⟨p0, p0'⟩ := mul_bd b0 hDb
        obtain ⟨p1, p1'⟩ := mul_bd b1 hDb
        obtain ⟨p2, p2'⟩ := mul_bd b2 hDb
        have wd : IntKind.i64.wrap (L - 0) = D := by rw [hD]; exact IntWalk.i64_in _ (by omega)
        have wd2 : IntKind.i64.wrap L = D := by rw [hD, Int.sub_zero]; exact IntWalk.i64_in _ (by omega)
        have m0 : IntKind.i64.wrap (nv 0 * D) = nv 0 * D := IntWalk.i64_in _ (by omega)
        have m1 : IntKind.i64.wrap (nv 1 * D) = nv 1 * D := IntWalk.i64_in _ (by omega)
        have m2 : IntKind.i64.wrap (nv 2 * D) = nv 2 * D := IntWalk.i64_in _ (by omega)
        have k0 : IntKind.i64.wrap (f 0 + nv 0 * D) = f 0 + nv 0 * D := IntWalk.i64_in _ (by omega)
        have k1 : IntKind.i64.wrap (f 1 + nv 1 * D) = f 1 + nv 1 * D := IntWalk.i64_in _ (by omega)
        have k2 : IntKind.i64.wrap (f 2 + nv 2 * D) = f 2 + nv 2 * D := IntWalk.i64_in _ (by omega)
        clear hD hX hnc hnv hf HSM hnb HT s0 s1 s2 b0 b1 b2 p0 p1 p2 p0' p1' p2' hge hDb a1
        go_wp2_with fail
        refine wp_loop_rounds 4 ?_
        rw [rounds_succ]
        have y : X.cell? ⟨sb, 0, none⟩ = some (.int .i64 (f 0)) := Q0.out.s.c 0 rfl
        have z := Q0.out.s.f 0
        have n := Q0.out.n 0 (by omega)
        rw [Nat.add_zero] at n
        go_wp2_with fail
        refine wp_region_still_tail 16 (by kernel_rfl) (by kernel_rfl) ?_
        simp only [List.take_succ_cons, List.take_zero, List.drop_succ_cons, List.drop_zero]
        repeat still_step
        refine wpStill_nil ?_
        change wpList _ _ _ _ _ X.drew
        go_wp2_with fail
        obtain ⟨X1, hX⟩ : ∃ W, W = (X.setCell ⟨sb, 0, none⟩ (.int .i64 (f 0 + nv 0 * D))).drew := ⟨_, rfl⟩
        have Q1 := Lib.hid (Q0.out.put 0 (.int .i64 (f 0 + nv 0 * D)))
        replace Q1 := Lib.hid (hX ▸ Q1.out)
        rw [← hX]
        clear hX y z n Q0
        rw [rounds_succ]
        have y : X1.cell? ⟨sb, 1, none⟩ = some (.int .i64 (f 1)) := Q1.out.s.c 1 rfl
        have z := Q1.out.s.f 1
        have n := Q1.out.n 1 (by omega)
        go_wp2_with fail
        refine wp_region_still_tail 16 (by kernel_rfl) (by kernel_rfl) ?_
        simp only [List.take_succ_cons, List.take_zero, List.drop_succ_cons, List.drop_zero]
        repeat still_step
        refine wpStill_nil ?_
        change wpList _ _ _ _ _ X1.drew
        go_wp2_with fail
        obtain ⟨X2, hX⟩ : ∃ W, W = (X1.setCell ⟨sb, 1, none⟩ (.int .i64 (f 1 + nv 1 * D))).drew := ⟨_, rfl⟩
        have Q2 := Lib.hid (Q1.out.put 1 (.int .i64 (f 1 + nv 1 * D)))
        replace Q2 := Lib.hid (hX ▸ Q2.out)
        rw [← hX]
        clear hX y z n Q1
        rw [rounds_succ]
        have y : X2.cell? ⟨sb, 2, none⟩ = some (.int .i64 (f 2)) := Q2.out.s.c 2 rfl
        have z := Q2.out.s.f 2
        have n := Q2.out.n 2 (by omega)
        go_wp2_with fail
        refine wp_region_still_tail 16 (by kernel_rfl) (by kernel_rfl) ?_
        simp only [List.take_succ_cons, List.take_zero, List.drop_succ_cons, List.drop_zero]
        repeat still_step
        refine wpStill_nil ?_
        change wpList _ _ _ _ _ X2.drew
        go_wp2_with fail
        obtain ⟨X3, hX⟩ : ∃ W, W = (X2.setCell ⟨sb, 2, none⟩ (.int .i64 (f 2 + nv 2 * D))).drew := ⟨_, rfl⟩
        have Q3 := Lib.hid (Q2.out.put 2 (.int .i64 (f 2 + nv 2 * D)))
        replace Q3 := Lib.hid (hX ▸ Q3.out)
        rw [← hX]
        clear hX y z n Q2
        rw [rounds_succ]
        clear m0 m1 m2 k0 k1 k2 wd wd2
        have HZ : Hid (EvS w X3 pb rb ab sb rs s cx r (3 + 1)) := by
          have u := Q3.out
          exact ⟨fun h => absurd h (by omega), u.r, u.a, by rw [HS.out]; exact u.s, u.ne, u.ge, u.b⟩
        go_wp2_with fail
        go_roundw
        case rel => exact ⟨3 + 1, by omega, by go_num, by simp [lft], HZ⟩
        case measure => simp [intOf]
      · obtain rfl : t = 4 := by omega
        have z0 := HT.out.hs.c 0 rfl
        have z1 := HT.out.hs.c 1 rfl
        have z2 := HT.out.hs.c 2 rfl
        have s0 := HK.out.sb 4 0 (by omega) (by omega)
        have s1 := HK.out.sb 4 1 (by omega) (by omega)
        have s2 := HK.out.sb 4 2 (by omega) (by omega)
        have sl := HT.out.hs.lt
        obtain ⟨v, hv⟩ : ∃ v, v = sm rs s cx r 4 := ⟨_, rfl⟩
        rw [← hv] at z0 z1 z2 s0 s1 s2 ⊢
        have HB := Lib.hid HT.out.b
        have HV := Lib.hid hv
        clear hv HT HK
        obtain ⟨W5, hW5⟩ : ∃ W, W = wr.alloc (.cells #[] 2) := ⟨_, rfl⟩
        have O0 : Hid (OwnI W5 wr.heap.size (.slice (some ⟨wr.heap.size, 0, none⟩) 0 0) 0 []) := by show OwnI _ _ _ _ _; rw [hW5]; exact OwnI.empty wr _ (Nat.le_refl _)
        have T0 : Hid (Below wr.heap.size wr W5) := by show Below _ _ _; rw [hW5]; exact blAlloc _ _
        go_wp2_with fail
        rw [← hW5]
        clear hW5
        refine wp_loop_rounds 4 ?_
        rw [rounds_succ]
        have zz := cell_later T0.out z0
        go_wp2_with (first | (go_at_call 81; refine (sRound_any (v 0) 65535 _ (by omega) (by omega) (by omega) (by omega)).mono ?_; rintro e w' ⟨rfl, rfl⟩) | (at_builtin; refine wpList_append_i64n _ rfl _ _ rfl wr.heap.size wr.heap.size 0 0 1 rfl [] rfl (O0.out.alloc _) _ 1 (rnd (v 0) 65535) rfl (by simp) (by omega) (by simp; have := T0.out.size; omega) ?_; intro g1 c1 u1 ho hg hd; have T1 := Lib.hid (gb_bel (blThenAlloc T0.out _) hg (World.ownsRow.lt O0.out _ rfl).1); have O1 := Lib.hid (show OwnI _ _ _ _ [rnd (v 0) 65535] from ho); clear ho hg hd))
        clear zz O0 T0
        rw [rounds_succ]
        have zz := cell_later T1.out z1
        go_wp2_with (first | (go_at_call 81; refine (sRound_any (v 1) 65535 _ (by omega) (by omega) (by omega) (by omega)).mono ?_; rintro e w' ⟨rfl, rfl⟩) | (at_builtin; refine wpList_append_i64n _ rfl _ _ rfl wr.heap.size g1 c1 1 2 rfl [rnd (v 0) 65535] rfl (O1.out.alloc _) _ 1 (rnd (v 1) 65535) rfl (by simp) (by omega) (by simp; have := T1.out.size; omega) ?_; intro g2 c2 u2 ho hg hd; have T2 := Lib.hid (gb_bel (blThenAlloc T1.out _) hg (World.ownsRow.lt O1.out _ rfl).1); have O2 := Lib.hid (show OwnI _ _ _ _ [rnd (v 0) 65535, rnd (v 1) 65535] from ho); clear ho hg hd))
        clear zz O1 T1
        rw [rounds_succ]
        have zz := cell_later T2.out z2
        go_wp2_with (first | (go_at_call 81; refine (sRound_any (v 2) 65535 _ (by omega) (by omega) (by omega) (by omega)).mono ?_; rintro e w' ⟨rfl, rfl⟩) | (at_builtin; refine wpList_append_i64n _ rfl _ _ rfl wr.heap.size g2 c2 2 3 rfl [rnd (v 0) 65535, rnd (v 1) 65535] rfl (O2.out.alloc _) _ 1 (rnd (v 2) 65535) rfl (by simp) (by omega) (by simp; have := T2.out.size; omega) ?_; intro g3 c3 u3 ho hg hd; have T3 := Lib.hid (gb_bel (blThenAlloc T2.out _) hg (World.ownsRow.lt O2.out _ rfl).1); have O3 := Lib.hid (show OwnI _ _ _ _ [rnd (v 0) 65535, rnd (v 1) 65535, rnd (v 2) 65535] from ho); clear ho hg hd))
        clear zz O2 T2
        rw [rounds_succ]
        go_wp2_with fail
        go_ret
        exact ⟨_, _, rfl, by rw [← HV.out]; exact O3.out.own.mono HB.out.size (Nat.le_refl _), blThen HB.out T3.out⟩
set_option maxRecDepth 100000 in
set_option maxHeartbeats 4000000 in
theorem sEvalGrid_any (A P : Option Addr) (n c m d : Nat) (sd : Int) (rs : Rws) (xs : List Int) (bs gs : List Nat) (w : World) (h : Hd w (rowsD rs) (.slice A n c) bs) (hp : Hd w (.ints .i64 xs) (.slice P m d) gs) :
    Calls Try.prog 21 #[.agg #[.int .i64 sd, .slice A n c], .slice P m d] w (IAns w (egC sd rs xs) (egL sd rs xs)) := by
  obtain ⟨W0, hW0⟩ : ∃ W0, W0 = (w.alloc (.cells #[.int .i64 sd, .slice A n c] 26)).alloc (.cells #[.int .i64 0, .slice none 0 0] 31) := ⟨_, rfl⟩
  have G0 : Hid (Bx W0 w.heap.size [.int .i64 sd, .slice A n c]) := by show Bx _ _ _; rw [hW0]; exact (Bx.new _ _ _ rfl).alloc _
  have R0 : Hid (Bx W0 (w.heap.size + 1) [.int .i64 0, .slice none 0 0]) := by show Bx _ _ _; rw [hW0]; exact Bx.new _ _ _ (by simp)
  have T0 : Hid (Below w.heap.size w W0) := by show Below _ _ _; rw [hW0]; exact blThenAlloc (blAlloc _ _) _
  have H := Lib.hid (h.bel T0.out)
  have HP := Lib.hid (hp.bel T0.out)
  have HW := Lib.hid hW0
  clear h hp hW0
  go_enter Try.func21, Try.ntmps21
  go_wp2_with fail
  rw [← HW.out]
  clear HW
  refine (sFault5_any _ _ _ _ sd rs _ _ H.out (G0.out.c 0 rfl) (G0.out.c 1 rfl)).mono ?_
  rintro e w1 ⟨rfl, m1, rfl⟩
  obtain ⟨W1, hW1⟩ : ∃ W, W = W0.drewN m1 := ⟨_, rfl⟩
  have G1 : Hid (Bx W1 w.heap.size [.int .i64 sd, .slice A n c]) := by show Bx _ _ _; rw [hW1]; exact G0.out.drewN _
  have R1 : Hid (Bx W1 (w.heap.size + 1) [.int .i64 0, .slice none 0 0]) := by show Bx _ _ _; rw [hW1]; exact R0.out.drewN _
  have T1 : Hid (Below w.heap.size w W1) := by show Below _ _ _; rw [hW1]; exact blThenDrew T0.out _
  have H1 : Hid (Hd W1 (rowsD rs) (.slice A n c) bs) := by show Hd _ _ _ _; rw [hW1]; exact H.out.drewN _
  have P1 : Hid (Hd W1 (.ints .i64 xs) (.slice P m d) gs) := by show Hd _ _ _ _; rw [hW1]; exact HP.out.drewN _
  rw [← hW1]
  clear hW1 G0 R0 T0 H HP
  have r0 := R1.out.c 0 rfl
  have r1 := R1.out.c 1 rfl
  have z0 := R1.out.f 0
  have z1 := R1.out.f 1
  have l0 := R1.out.lt
  by_cases h0 : gf sd rs = 0
  · obtain ⟨s, rfl⟩ : ∃ s : Nat, sd = s := ⟨sd.toNat, by have := inB_iff.1 (gf_zero h0).1; omega⟩
    rw [h0]
    go_wp2_with fail
    refine (sLevels4_any _ _ _ _ _ P1.out.rd P1.out.caps.1 P1.out.caps.2).mono ?_
    rintro e w2 ⟨rfl, rfl⟩
    by_cases h1 : lf xs = 0
    · rw [h1]
      obtain rfl : 3 = m := by rw [← (lf_zero h1).1]; exact P1.out.rd.1
      have HA := Lib.hid (eg_y h0 h1)
      have CE := Lib.hid (sEval5_any w.heap.size 0 A P n c d s rs xs bs W1 H1.out (G1.out.c 0 rfl) (G1.out.c 1 rfl) P1.out.rd h0 h1)
      clear h0 h1
      go_wp2_with fail
      refine CE.out.mono ?_
      rintro e w3 ⟨B, cp, rfl, ho, hb⟩
      have R3 := Lib.hid (R1.out.bel hb)
      have T3 := Lib.hid (blThen T1.out hb)
      have HO := Lib.hid ho
      clear ho hb r0 r1 z0 z1 R1 CE
      have r0 := R3.out.c 0 rfl
      have r1 := R3.out.c 1 rfl
      have z0 := R3.out.f 0
      have z1 := R3.out.f 1
      have l3 := R3.out.lt
      go_wp2_with fail
      have KK := (R3.out.set 0 (.int .i64 0)).set 1 (.slice B 3 cp)
      have k0 := KK.c 0 rfl
      have k1 := KK.c 1 rfl
      clear KK
      refine bodyPost_ret (v := .agg #[.int .i64 0, .slice B 3 cp]) (by simp [results, Try.results21, go_sem, k0, k1]) rfl ⟨_, _, _, by rw [HA.out.1], ?_, ?_⟩
      · rw [HA.out.2]
        refine Own.mono (lo := W1.heap.size) (hi := w3.heap.size) ?_ (by omega) (by simp [setSize])
        exact (HO.out.set (.inl l0) _ _).set (.inl l0) _ _
      · exact bel1 (bel1 T3.out (c := w.heap.size + 1) (by omega) 0 _) (c := w.heap.size + 1) (by omega) 1 _
    · have HA := Lib.hid (eg_l (xs := xs) h0 h1)
      obtain ⟨f, hf⟩ : ∃ f, f = lf xs := ⟨_, rfl⟩
      rw [← hf] at h1 HA ⊢
      have hqn : (f == 0) = false := by simpa using h1
      clear hf
      go_wp2_with fail
      have KK := (R1.out.set 0 (.int .i64 f)).set 1 (.slice none 0 0)
      have k0 := KK.c 0 rfl
      have k1 := KK.c 1 rfl
      clear KK
      refine bodyPost_ret (v := .agg #[.int .i64 f, .slice none 0 0]) (by simp [results, Try.results21, go_sem, k0, k1]) rfl (IAns.bad HA.out ?_)
      exact bel1 (bel1 T1.out (c := w.heap.size + 1) (by omega) 0 _) (c := w.heap.size + 1) (by omega) 1 _
  · have HA := Lib.hid (eg_f (xs := xs) h0)
    obtain ⟨f, hf⟩ : ∃ f, f = gf sd rs := ⟨_, rfl⟩
    rw [← hf] at h0 HA ⊢
    have hqn : (f == 0) = false := by simpa using h0
    clear hf
    go_wp2_with fail
    have KK := (R1.out.set 0 (.int .i64 f)).set 1 (.slice none 0 0)
    have k0 := KK.c 0 rfl
    have k1 := KK.c 1 rfl
    clear KK
    refine bodyPost_ret (v := .agg #[.int .i64 f, .slice none 0 0]) (by simp [results, Try.results21, go_sem, k0, k1]) rfl (IAns.bad HA.out ?_)
    exact bel1 (bel1 T1.out (c := w.heap.size + 1) (by omega) 0 _) (c := w.heap.size + 1) (by omega) 1 _
end Go.Proofs.Ythplngcdldongaa
