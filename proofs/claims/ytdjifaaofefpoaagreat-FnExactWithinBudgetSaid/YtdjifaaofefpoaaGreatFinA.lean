/-
  A stage at fine numbers by the reference model: l7FineCurve, l7FineMatrix, l7FineGrid, l7Fine, FineStage.
-/
import Derived.Test.YtdjifaaofefpoaaGreatStpB
import Derived.Test.YtdjifaaofefpoaaGreatMatQ
import Derived.Test.YtdjifaaofefpoaaGreatGrdB
import Derived.StillTailTactics
namespace Go.Proofs.YtdjifaaofefpoaaGreat
open Go.RowKit Go.Maps
set_option linter.unusedVariables false
set_option linter.unusedSimpArgs false

/-- the sums, in fine numbers. -/
def sF (rs : Rws) (sd : Int) (c r : Nat → Int) (t i : Nat) : Int := smT 16776960 rs sd c r t i * 256
structure EvF (w W : World) (pb rb ab sb : Nat) (rs : Rws) (s : Nat) (c r : Nat → Int) (t : Nat) : Prop where
  hp : t ≤ 3 → Bx W pb (rv (pl c r t))
  hr : Bx W rb (rv r)
  ha : Bx W ab (oax r)
  hs : Bx W sb (rv (sF rs s c r t))
  ne : pb ≠ rb ∧ pb ≠ ab ∧ pb ≠ sb ∧ sb ≠ rb ∧ sb ≠ ab
  ge : w.heap.size ≤ pb ∧ w.heap.size ≤ sb
  b : Below w.heap.size w W
/-- what a step of the way wants to know. -/
structure EvL (w : World) (g q : Nat) (A : Option Addr) (n c : Nat) (rs : Rws) (s : Nat) (cx r : Nat → Int) : Prop where
  nd : ∀ t, t ≤ 3 → Lv (ndv rs s (pl cx r t))
  sb : ∀ t i, t ≤ 4 → i < 3 → -1200000000000000 ≤ sF rs s cx r t i ∧ sF rs s cx r t i ≤ 1200000000000000
  nod : ∀ t, t ≤ 3 → ∀ W, Below w.heap.size w W → ∀ b d, Bx W b (rv (pl cx r t)) → Calls Tryz.prog 166 #[.pointer (some ⟨g, q, none⟩), .slice (some ⟨b, 0, none⟩) 3 d] W fun e w' => ∃ b o C m, e = .returned (.slice (some ⟨b, o, none⟩) 3 C) ∧ (∀ j, j < 3 → w'.cell? ⟨b, o + j, none⟩ = some (.int .i64 (ndv rs s (pl cx r t) j))) ∧ b < w.heap.size ∧ w' = W.drewN m
  pb : ∀ t, t ≤ 3 → ∀ j, j < 3 → 0 ≤ pl cx r t j ∧ pl cx r t j ≤ 1000
  hr : LvT 16776960 r
  lf : ∀ t, 0 ≤ lftT 16776960 r t ∧ lftT 16776960 r t ≤ 16776960
theorem EvL.of {w : World} {g q : Nat} {A : Option Addr} {n c : Nat} {rs : Rws} {s : Nat} {cx r : Nat → Int} {bs : List Nat} (h : Hd w (rowsD rs) (.slice A n c) bs) (hg0 : w.cell? ⟨g, q, none⟩ = some (.int .i64 (s : Int))) (hg1 : w.cell? ⟨g, q + 1, none⟩ = some (.slice A n c)) (h0 : gf (s : Int) rs = 0)
    (hin : ∀ t, t ≤ 3 → inS (s : Int) [pl cx r t 0, pl cx r t 1, pl cx r t 2] = true) (hr : LvT 16776960 r) : EvL w g q A n c rs s cx r := by
  have hnd : ∀ t, t ≤ 3 → Lv (ndv rs s (pl cx r t)) := fun t ht => ndv_bd h0 (hin t ht)
  obtain ⟨hs, hlen, hrow⟩ := gf_zero h0
  have h3 : s = 2 ∨ s = 3 ∨ s = 4 := by rcases side_cases hs with e | e | e <;> omega
  have hNI : ((s * s * s : Nat) : Int) = (s : Int) * s * s := by simp
  have hNN : rs.length = s * s * s := by rw [← hNI] at hlen; omega
  have hln := h.rows.1
  have hib : ∀ t, t ≤ 3 → ∀ j, j < 3 → 0 ≤ pl cx r t j ∧ pl cx r t j ≤ 3 := fun t ht j hj => by
    have hs := inB_iff.1 hs
    obtain ⟨a0, a1, a2⟩ := inS_iff.1 (hin t ht)
    simp only [List.getD_cons_zero, List.getD_cons_succ] at a0 a1 a2
    match j, hj with
    | 0, _ => omega
    | 1, _ => omega
    | 2, _ => omega
  refine ⟨hnd, fun t i ht hi => by have := smT_bd (.inr rfl) hr hnd hi t ht; unfold sF; omega, fun t ht W hW b d hb => ?_, fun t ht j hj => by have := hib t ht j hj; omega, hr, fun t => lftT_bd (.inr rfl) hr t⟩
  obtain ⟨t1, t2, -⟩ := nd_yes h3 (hin t ht)
  simp only [List.getD_cons_zero, List.getD_cons_succ] at t2
  have hl3 := (lf_zero (hrow (ndI s [pl cx r t 0, pl cx r t 1, pl cx r t 2]) (by rw [hNN]; exact t1))).1
  have htn : ndI (s : Int) [pl cx r t 0, pl cx r t 1, pl cx r t 2] < n := by rw [← hln, hNN]; exact t1
  obtain ⟨b', o', B1, L1, C1, g1, rfl, y1, y3, -⟩ := h.row htn
  have hr3 := y3.rd
  obtain rfl : L1 = 3 := by rw [← hr3.1, hl3]
  obtain ⟨b1, o1, rfl, hc⟩ := hr3.2 (by omega)
  have hlb := cell_lt (hc 0 (by omega))
  have hmx := h.rows.2
  refine (sNode5o_any g q b' o' n c b1 o1 C1 s b d _ (pl cx r t) W (cell_later hW hg0) (cell_later hW hg1) (cell_later hW y1) (by have := hmx.2.1; unfold maxLen at this; omega) hb htn t2.symm (side_cases hs) (hib t ht 0 (by omega)) (hib t ht 1 (by omega)) (hib t ht 2 (by omega))).mono ?_
  rintro e w' ⟨rfl, m, rfl⟩
  exact ⟨b1, o1, C1, m, rfl, fun j hj => cell_later (below_drewN _ _ _) (cell_later hW (hc j hj)), hlb, rfl⟩
theorem still_rnd (a b : Int) (w : World) (hb : 0 < b) (hb2 : b ≤ 1000000000000000000) (h1 : -1000000000000000000 ≤ a) (h2 : a ≤ 1000000000000000000) :
    Calls Tryz.prog 141 #[.int .i64 a, .int .i64 b] w fun e w' => e = .returned (.int .i64 (rnd a b)) ∧ w' = w := (sRound_any a b w hb hb2 h1 h2).mono fun e w' ⟨he, hw⟩ => ⟨he, hw.symm⟩
set_option maxRecDepth 100000 in
set_option maxHeartbeats 8000000 in
theorem sFineGrid_any (g q : Nat) (A P : Option Addr) (n c d s : Nat) (rs : Rws) (xs : List Int) (bs : List Nat) (w : World) (h : Hd w (rowsD rs) (.slice A n c) bs) (hg0 : w.cell? ⟨g, q, none⟩ = some (.int .i64 (s : Int))) (hg1 : w.cell? ⟨g, q + 1, none⟩ = some (.slice A n c))
    (hp : Rd .i64 w P 3 xs) (h0 : gf (s : Int) rs = 0) (h1 : lfo 256 xs = 0) :
    Calls Tryz.prog 119 #[.pointer (some ⟨g, q, none⟩), .slice P 3 d] w (SlAns w 3 [gvo 256 s rs (xs.getD · 0) 0, gvo 256 s rs (xs.getD · 0) 1, gvo 256 s rs (xs.getD · 0) 2]) := by
  have hsd := side_cases (gf_zero h0).1
  have hv : LvT 16776960 (xs.getD · 0) := fun j hj => inB_iff.1 ((lfo_zero h1).2 j hj)
  obtain ⟨pq, po, rfl, hpc⟩ := hp.2 (by omega)
  have HX : Hid (∀ W, Below w.heap.size w W → ∀ j, j < 3 → W.cell? ⟨pq, po + j, none⟩ = some (.int .i64 (xs.getD j 0))) := fun W hW j hj => cell_later hW (hpc j hj)
  have HK : Hid (EvL w g q A n c rs s (ccT 16776960 s (xs.getD · 0)) (crT 16776960 s (xs.getD · 0))) := EvL.of h hg0 hg1 h0 (fun t ht => plT_in (.inr rfl) hsd hv ht) (crT_bd (.inr rfl) hsd hv)
  have HG : Hid (∀ i, gvo 256 s rs (xs.getD · 0) i = rnd (sF rs s (ccT 16776960 s (xs.getD · 0)) (crT 16776960 s (xs.getD · 0)) 4 i) 16776960) := fun i => by unfold gvo sF; rw [show (65535 : Int) * 256 = 16776960 from rfl]
  have HCL : Hid (∀ j W, j < 3 → Calls Tryz.prog 168 #[.int .i64 (s : Int), .int .i64 (xs.getD j 0)] W fun e w' => e = .returned (.tuple #[.int .i64 (ccT 16776960 s (xs.getD · 0) j), .int .i64 (crT 16776960 s (xs.getD · 0) j)]) ∧ ∃ m, w' = W.drewN m) := fun j W hj => sFineCell_any s (xs.getD j 0) W hsd (hv j hj).1 (hv j hj).2
  obtain ⟨cx, hcx⟩ : ∃ f, f = ccT 16776960 (s : Int) (xs.getD · 0) := ⟨_, rfl⟩
  obtain ⟨r, hr⟩ : ∃ f, f = crT 16776960 (s : Int) (xs.getD · 0) := ⟨_, rfl⟩
  rw [← hcx, ← hr] at HK HG HCL
  rw [HG.out 0, HG.out 1, HG.out 2]
  have T0 := Lib.hid (Two2.start w)
  have HG0 : Hid (∀ W, Below w.heap.size w W → W.cell? ⟨g, q, none⟩ = some (.int .i64 (s : Int))) := fun W hW => cell_later hW hg0
  clear hcx hr HG h hp h0 h1 hsd hv hg1 hpc hg0
  go_enter Tryz.func119, Tryz.ntmps119
  go_wp2_with fail
  obtain ⟨W0, hW0⟩ : ∃ W, W = (w.alloc (.cells #[] 2)).alloc (.cells #[] 2) := ⟨_, rfl⟩
  rw [← hW0]
  replace T0 : Hid (Two2 w W0 w.heap.size w.heap.size 0 0 [] (w.heap.size + 1) 0 0 []) := by show Two2 _ _ _ _ _ _ _ _ _ _ _; rw [hW0]; exact T0.out
  clear hW0
  refine wp_loop_rounds 4 ?_
  rw [rounds_succ]
  have x0 := HX.out _ T0.out.bl 0 (by omega)
  rw [Nat.add_zero] at x0
  have s0 := HG0.out _ T0.out.bl
  have sl := cell_lt s0
  have xl := cell_lt x0
  go_wp2_with fail
  go_quiet ((go_at_call 168; first | exact Calls.quiet_of (HCL.out 0 _ (by omega)) | exact quietAD' (HCL.out 0 _ (by omega))))
  go_wp2_with (first | (at_builtin; refine wpList_append_i64n _ rfl _ _ rfl w.heap.size w.heap.size 0 0 1 rfl [] rfl (T0.out.bel (blThenAlloc (below_drewN _ _ _) _)).a _ 1 (cx 0) rfl (new_cell _ _ _) (by omega) (T0.out.bel (blThenAlloc (below_drewN _ _ _) _)).bl.size ?_; intro g1 c1 u1 ho hg hd; have A0 := Lib.hid ((T0.out.bel (blThenAlloc (below_drewN _ _ _) _)).next1 (xs' := [cx 0]) ho hg hd.out); clear ho hg hd) | (at_builtin; refine wpList_append_i64n _ rfl _ _ rfl w.heap.size (w.heap.size + 1) 0 0 1 rfl [] rfl (A0.out.bel (blAlloc _ _)).b _ 1 (r 0) rfl (by simp) (by omega) (by simp; have := A0.out.bl.size; omega) ?_; intro h1 d1 v1 ho hg hd; have T1 := Lib.hid ((A0.out.bel (blAlloc _ _)).next2 (ys' := [r 0]) ho hg hd.out); clear ho hg hd))
  clear T0 A0 x0 s0 sl xl
  rw [rounds_succ]
  have x0 := HX.out _ T1.out.bl 1 (by omega)
  have s0 := HG0.out _ T1.out.bl
  have sl := cell_lt s0
  have xl := cell_lt x0
  go_wp2_with fail
  go_quiet ((go_at_call 168; first | exact Calls.quiet_of (HCL.out 1 _ (by omega)) | exact quietAD' (HCL.out 1 _ (by omega))))
  go_wp2_with (first | (at_builtin; refine wpList_append_i64n _ rfl _ _ rfl w.heap.size g1 c1 1 2 rfl [cx 0] rfl (T1.out.bel (blThenAlloc (below_drewN _ _ _) _)).a _ 1 (cx 1) rfl (new_cell _ _ _) (by omega) (T1.out.bel (blThenAlloc (below_drewN _ _ _) _)).bl.size ?_; intro g2 c2 u2 ho hg hd; have A1 := Lib.hid ((T1.out.bel (blThenAlloc (below_drewN _ _ _) _)).next1 (xs' := [cx 0, cx 1]) ho hg hd.out); clear ho hg hd) | (at_builtin; refine wpList_append_i64n _ rfl _ _ rfl w.heap.size h1 d1 1 2 rfl [r 0] rfl (A1.out.bel (blAlloc _ _)).b _ 1 (r 1) rfl (by simp) (by omega) (by simp; have := A1.out.bl.size; omega) ?_; intro h2 d2 v2 ho hg hd; have T2 := Lib.hid ((A1.out.bel (blAlloc _ _)).next2 (ys' := [r 0, r 1]) ho hg hd.out); clear ho hg hd))
  clear T1 A1 x0 s0 sl xl
  rw [rounds_succ]
  have x0 := HX.out _ T2.out.bl 2 (by omega)
  have s0 := HG0.out _ T2.out.bl
  have sl := cell_lt s0
  have xl := cell_lt x0
  go_wp2_with fail
  go_quiet ((go_at_call 168; first | exact Calls.quiet_of (HCL.out 2 _ (by omega)) | exact quietAD' (HCL.out 2 _ (by omega))))
  go_wp2_with (first | (at_builtin; refine wpList_append_i64n _ rfl _ _ rfl w.heap.size g2 c2 2 3 rfl [cx 0, cx 1] rfl (T2.out.bel (blThenAlloc (below_drewN _ _ _) _)).a _ 1 (cx 2) rfl (new_cell _ _ _) (by omega) (T2.out.bel (blThenAlloc (below_drewN _ _ _) _)).bl.size ?_; intro g3 c3 u3 ho hg hd; have A2 := Lib.hid ((T2.out.bel (blThenAlloc (below_drewN _ _ _) _)).next1 (xs' := [cx 0, cx 1, cx 2]) ho hg hd.out); clear ho hg hd) | (at_builtin; refine wpList_append_i64n _ rfl _ _ rfl w.heap.size h2 d2 2 3 rfl [r 0, r 1] rfl (A2.out.bel (blAlloc _ _)).b _ 1 (r 2) rfl (by simp) (by omega) (by simp; have := A2.out.bl.size; omega) ?_; intro h3 d3 v3 ho hg hd; have T3 := Lib.hid ((A2.out.bel (blAlloc _ _)).next2 (ys' := [r 0, r 1, r 2]) ho hg hd.out); clear ho hg hd))
  clear T2 A2 x0 s0 sl xl
  rw [rounds_succ]
  have hB1 := T3.out.a.bx
  have hB2 := T3.out.b.bx
  have hge1 := (World.ownsRow.lt T3.out.a _ rfl).1
  have hge2 := (World.ownsRow.lt T3.out.b _ rfl).1
  have hne := T3.out.ne
  have hb := T3.out.bl
  generalize v3 = w1 at *
  generalize g3 = pb at *
  generalize h3 = rb at *
  have B1 : Hid (Bx w1 pb (rv cx)) := hB1
  have R1 : Hid (Bx w1 rb (rv r)) := hB2
  have T1 := Lib.hid hb
  have hl1 := hB1.lt
  have hl2 := hB2.lt
  clear hB1 hB2 hb T3
  go_wp2_with fail
  refine (sAxes5_any rb _ r w1 R1.out).mono ?_
  rintro e w2 ⟨ab, rfl, hA, hge3, hb⟩
  have hs2 := hb.size
  have hl3 := hA.lt
  obtain ⟨W3, hW3⟩ : ∃ W, W = w2.alloc (.cells #[.int .i64 0, .int .i64 0, .int .i64 0] 2) := ⟨_, rfl⟩
  have T1s := T1.out.size
  have HS : Hid (EvF w W3 pb rb ab w2.heap.size rs s cx r 0) := by
    show EvF _ _ _ _ _ _ _ _ _ _ _
    rw [hW3]
    exact ⟨fun _ => (B1.out.bel hb).alloc _, (R1.out.bel hb).alloc _, hA.alloc _, by have := Bx.new w2 #[.int .i64 0, .int .i64 0, .int .i64 0] 2 rfl; simpa [sF, smT, rv] using this, ⟨hne, by omega, by omega, by omega, by omega⟩, ⟨hge1, by omega⟩, blThenAlloc (blThen T1.out hb) _⟩
  clear B1 R1 T1 hA hge3 hb hs2 hl1 hl2 hl3 hge1 hge2 hne T1s HX HCL HG0
  go_wp2_with fail
  rw [← hW3]
  obtain ⟨sb, hsb⟩ : ∃ x, x = w2.heap.size := ⟨_, rfl⟩
  rw [← hsb] at HS ⊢
  clear hW3 hsb
  go_loopw [12, 13] (fun l i wr => ∃ t : Nat, t ≤ 4 ∧ i = .int .i64 t ∧ l = .int .i64 (lftT 16776960 r t) ∧ Hid (EvF w wr pb rb ab sb rs s cx r t)) (fun _ i _ => 4 - (intOf i).toNat)
  case atStart => exact ⟨0, by omega, rfl, rfl, HS⟩
  case round =>
    clear HS
    obtain ⟨t, ht, rfl, rfl, HT⟩ := hrel
    by_cases hlt : t < 3
    · skip
      obtain ⟨k, hk⟩ : ∃ k, k = ax r t := ⟨_, rfl⟩
      have hk3 : k < 3 := by rw [hk]; exact ax_lt r hlt
      have HKK : Hid (ax r t = k) := hk.symm
      have hk3i : (k : Int) < 3 := by omega
      have xa := oax_at HT.out.ha hlt
      rw [← hk] at xa
      have xr := rv_at HT.out.hr hk3
      have hL1 : Hid (lftT 16776960 r (t + 1) = r k) := by show _ = _; simp only [lftT]; rw [if_pos hlt, hk]
      have HPL : Hid (pl cx r (t + 1) = bump (pl cx r t) k) := by show _ = _; funext j; simp only [pl, hk]
      have HSM : Hid (∀ j, sF rs s cx r (t + 1) j = sF rs s cx r t j + ndv rs s (pl cx r t) j * (lftT 16776960 r t - r k) * 256) := fun j => by unfold sF; simp only [smT]; rw [hL1.out, Int.add_mul]
      have a2 := HK.out.hr k hk3
      obtain ⟨v, hq⟩ : ∃ v, v = r k := ⟨_, rfl⟩
      rw [← hq] at a2 xr hL1 HSM
      have a1 := HK.out.lf t
      obtain ⟨L, hL⟩ : ∃ L, L = lftT 16776960 r t := ⟨_, rfl⟩
      rw [← hL] at a1 HSM ⊢
      clear hL hq hk
      go_wp2_with fail
      refine (HK.out.nod t (by omega) wr HT.out.b pb _ (HT.out.hp (by omega))).mono ?_
      rintro e w4 ⟨nb, no, nc, m4, rfl, hnc, hnb, rfl⟩
      obtain ⟨X, hX⟩ : ∃ X, X = wr.drewN m4 := ⟨_, rfl⟩
      rw [← hX] at hnc ⊢
      obtain ⟨nv, hnv⟩ : ∃ f, f = ndv rs s (pl cx r t) := ⟨_, rfl⟩
      obtain ⟨f, hf⟩ : ∃ f, f = sF rs s cx r t := ⟨_, rfl⟩
      have hge := HT.out.ge
      have Q0 : Hid (EvI w X pb rb ab sb nb no (rv (pl cx r t)) (rv r) (oax r) (rv f) nv) := by show EvI _ _ _ _ _ _ _ _ _ _ _ _ _; rw [hX, hf, hnv]; exact ⟨(HT.out.hp (by omega)).drewN _, HT.out.hr.drewN _, HT.out.ha.drewN _, HT.out.hs.drewN _, by rw [← hX]; exact hnc, HT.out.ne, by omega, HT.out.ge, blThenDrew HT.out.b _⟩
      have b0 := HK.out.nd t (by omega) 0 (by omega)
      have b1 := HK.out.nd t (by omega) 1 (by omega)
      have b2 := HK.out.nd t (by omega) 2 (by omega)
      have s0 := HK.out.sb t 0 (by omega) (by omega)
      have s1 := HK.out.sb t 1 (by omega) (by omega)
      have s2 := HK.out.sb t 2 (by omega) (by omega)
      rw [← hnv] at b0 b1 b2 HSM
      rw [← hf] at s0 s1 s2 HSM
      obtain ⟨D, hD⟩ : ∃ x, x = (L - v) := ⟨_, rfl⟩
      have hDb : -16776960 ≤ D ∧ D ≤ 16776960 := by omega
      have HS : Hid (sF rs s cx r (t + 1) = fun j => f j + nv j * 256 * D) := by show _ = _; funext j; rw [HSM.out j, hD, Int.mul_right_comm]
      obtain ⟨p0, p0'⟩ := mul_bdT b0 hDb
      obtain ⟨p1, p1'⟩ := mul_bdT b1 hDb
      obtain ⟨p2, p2'⟩ := mul_bdT b2 hDb
      have e0 : nv 0 * 256 * D = nv 0 * D * 256 := Int.mul_right_comm _ _ _
      have e1 : nv 1 * 256 * D = nv 1 * D * 256 := Int.mul_right_comm _ _ _
      have e2 : nv 2 * 256 * D = nv 2 * D * 256 := Int.mul_right_comm _ _ _
      have wd : IntKind.i64.wrap (L - v) = D := by rw [hD]; exact IntWalk.i64_in _ (by omega)
      have q0 : IntKind.i64.wrap (nv 0 * 256) = nv 0 * 256 := IntWalk.i64_in _ (by omega)
      have q1 : IntKind.i64.wrap (nv 1 * 256) = nv 1 * 256 := IntWalk.i64_in _ (by omega)
      have q2 : IntKind.i64.wrap (nv 2 * 256) = nv 2 * 256 := IntWalk.i64_in _ (by omega)
      have m0 : IntKind.i64.wrap (nv 0 * 256 * D) = nv 0 * 256 * D := IntWalk.i64_in _ (by omega)
      have m1 : IntKind.i64.wrap (nv 1 * 256 * D) = nv 1 * 256 * D := IntWalk.i64_in _ (by omega)
      have m2 : IntKind.i64.wrap (nv 2 * 256 * D) = nv 2 * 256 * D := IntWalk.i64_in _ (by omega)
      have k0 : IntKind.i64.wrap (f 0 + nv 0 * 256 * D) = f 0 + nv 0 * 256 * D := IntWalk.i64_in _ (by omega)
      have k1 : IntKind.i64.wrap (f 1 + nv 1 * 256 * D) = f 1 + nv 1 * 256 * D := IntWalk.i64_in _ (by omega)
      have k2 : IntKind.i64.wrap (f 2 + nv 2 * 256 * D) = f 2 + nv 2 * 256 * D := IntWalk.i64_in _ (by omega)
      clear hD hX hnc hnv hf HSM hnb HT s0 s1 s2 b0 b1 b2 p0 p1 p2 p0' p1' p2' e0 e1 e2 hge hDb a1 a2 xa xr
      go_wp2_with fail
      refine wp_loop_rounds 4 ?_
      rw [rounds_succ]
      have y : X.cell? ⟨sb, 0, none⟩ = some (.int .i64 (f 0)) := Q0.out.s.c 0 rfl
      have z := Q0.out.s.f 0
      have n := Q0.out.n 0 (by omega)
      rw [Nat.add_zero] at n
      go_wp2_with fail
      refine wp_region_still_tail 17 (by kernel_rfl) (by kernel_rfl) ?_
      simp only [List.take_succ_cons, List.take_zero, List.drop_succ_cons, List.drop_zero]
      repeat still_step
      refine wpStill_nil ?_
      change wpList _ _ _ _ _ X.drew
      go_wp2_with fail
      obtain ⟨X1, hX⟩ : ∃ W, W = (X.setCell ⟨sb, 0, none⟩ (.int .i64 (f 0 + nv 0 * 256 * D))).drew := ⟨_, rfl⟩
      have Q1 := Lib.hid (Q0.out.put 0 (.int .i64 (f 0 + nv 0 * 256 * D)))
      replace Q1 := Lib.hid (hX ▸ Q1.out)
      rw [← hX]
      clear hX y z n Q0
      rw [rounds_succ]
      have y : X1.cell? ⟨sb, 1, none⟩ = some (.int .i64 (f 1)) := Q1.out.s.c 1 rfl
      have z := Q1.out.s.f 1
      have n := Q1.out.n 1 (by omega)
      go_wp2_with fail
      refine wp_region_still_tail 17 (by kernel_rfl) (by kernel_rfl) ?_
      simp only [List.take_succ_cons, List.take_zero, List.drop_succ_cons, List.drop_zero]
      repeat still_step
      refine wpStill_nil ?_
      change wpList _ _ _ _ _ X1.drew
      go_wp2_with fail
      obtain ⟨X2, hX⟩ : ∃ W, W = (X1.setCell ⟨sb, 1, none⟩ (.int .i64 (f 1 + nv 1 * 256 * D))).drew := ⟨_, rfl⟩
      have Q2 := Lib.hid (Q1.out.put 1 (.int .i64 (f 1 + nv 1 * 256 * D)))
      replace Q2 := Lib.hid (hX ▸ Q2.out)
      rw [← hX]
      clear hX y z n Q1
      rw [rounds_succ]
      have y : X2.cell? ⟨sb, 2, none⟩ = some (.int .i64 (f 2)) := Q2.out.s.c 2 rfl
      have z := Q2.out.s.f 2
      have n := Q2.out.n 2 (by omega)
      go_wp2_with fail
      refine wp_region_still_tail 17 (by kernel_rfl) (by kernel_rfl) ?_
      simp only [List.take_succ_cons, List.take_zero, List.drop_succ_cons, List.drop_zero]
      repeat still_step
      refine wpStill_nil ?_
      change wpList _ _ _ _ _ X2.drew
      go_wp2_with fail
      obtain ⟨X3, hX⟩ : ∃ W, W = (X2.setCell ⟨sb, 2, none⟩ (.int .i64 (f 2 + nv 2 * 256 * D))).drew := ⟨_, rfl⟩
      have Q3 := Lib.hid (Q2.out.put 2 (.int .i64 (f 2 + nv 2 * 256 * D)))
      replace Q3 := Lib.hid (hX ▸ Q3.out)
      rw [← hX]
      clear hX y z n Q2
      rw [rounds_succ]
      clear q0 q1 q2 m0 m1 m2 k0 k1 k2 wd
      have xa := oax_at Q3.out.a hlt
      have xp := rv_at Q3.out.p hk3
      have xf := Q3.out.p.f k
      have pbd := HK.out.pb t (by omega) k hk3
      rw [HKK.out] at xa
      obtain ⟨pv, hpv⟩ : ∃ x, x = pl cx r t k := ⟨_, rfl⟩
      rw [← hpv] at xp pbd
      have HPV := Lib.hid hpv
      clear hpv
      go_wp2_with fail
      have HZ : Hid (EvF w (X3.setCell ⟨pb, k, none⟩ (.int .i64 (pv + 1))) pb rb ab sb rs s cx r (t + 1)) := by
        have u := Q3.out
        have d1 := u.ne
        rw [HPV.out]
        exact ⟨fun _ => by rw [HPL.out]; exact rv_bump u.p hk3, u.r.oth d1.1 _ _, u.a.oth d1.2.1 _ _, by rw [HS.out]; exact u.s.oth d1.2.2.1 _ _, d1, u.ge, bel1 u.b u.ge.1 _ _⟩
      go_roundw
      case rel => exact ⟨t + 1, by omega, by go_num, by rw [hL1.out], HZ⟩
      case measure => simp [intOf]; omega
    · by_cases h3 : t = 3
      · subst h3
        have HSM : Hid (∀ j, sF rs s cx r (3 + 1) j = sF rs s cx r 3 j + ndv rs s (pl cx r 3) j * lftT 16776960 r 3 * 256) := fun j => by
          have : lftT 16776960 r (3 + 1) = 0 := by simp [lftT]
          unfold sF; simp only [smT]; rw [this, Int.sub_zero, Int.add_mul]
        have a1 := HK.out.lf 3
        obtain ⟨L, hL⟩ : ∃ L, L = lftT 16776960 r 3 := ⟨_, rfl⟩
        rw [← hL] at a1 HSM ⊢
        clear hL
        go_wp2_with fail
        refine (HK.out.nod 3 (by omega) wr HT.out.b pb _ (HT.out.hp (by omega))).mono ?_
        rintro e w4 ⟨nb, no, nc, m4, rfl, hnc, hnb, rfl⟩
        obtain ⟨X, hX⟩ : ∃ X, X = wr.drewN m4 := ⟨_, rfl⟩
        rw [← hX] at hnc ⊢
        obtain ⟨nv, hnv⟩ : ∃ f, f = ndv rs s (pl cx r 3) := ⟨_, rfl⟩
        obtain ⟨f, hf⟩ : ∃ f, f = sF rs s cx r 3 := ⟨_, rfl⟩
        have hge := HT.out.ge
        have Q0 : Hid (EvI w X pb rb ab sb nb no (rv (pl cx r 3)) (rv r) (oax r) (rv f) nv) := by show EvI _ _ _ _ _ _ _ _ _ _ _ _ _; rw [hX, hf, hnv]; exact ⟨(HT.out.hp (by omega)).drewN _, HT.out.hr.drewN _, HT.out.ha.drewN _, HT.out.hs.drewN _, by rw [← hX]; exact hnc, HT.out.ne, by omega, HT.out.ge, blThenDrew HT.out.b _⟩
        have b0 := HK.out.nd 3 (by omega) 0 (by omega)
        have b1 := HK.out.nd 3 (by omega) 1 (by omega)
        have b2 := HK.out.nd 3 (by omega) 2 (by omega)
        have s0 := HK.out.sb 3 0 (by omega) (by omega)
        have s1 := HK.out.sb 3 1 (by omega) (by omega)
        have s2 := HK.out.sb 3 2 (by omega) (by omega)
        rw [← hnv] at b0 b1 b2 HSM
        rw [← hf] at s0 s1 s2 HSM
        obtain ⟨D, hD⟩ : ∃ x, x = L - 0 := ⟨_, rfl⟩
        have hDb : -16776960 ≤ D ∧ D ≤ 16776960 := by omega
        have HS : Hid (sF rs s cx r (3 + 1) = fun j => f j + nv j * 256 * D) := by show _ = _; funext j; rw [HSM.out j, hD, Int.sub_zero, Int.mul_right_comm]
        obtain ⟨p0, p0'⟩ := mul_bdT b0 hDb
        obtain ⟨p1, p1'⟩ := mul_bdT b1 hDb
        obtain ⟨p2, p2'⟩ := mul_bdT b2 hDb
        have e0 : nv 0 * 256 * D = nv 0 * D * 256 := Int.mul_right_comm _ _ _
        have e1 : nv 1 * 256 * D = nv 1 * D * 256 := Int.mul_right_comm _ _ _
        have e2 : nv 2 * 256 * D = nv 2 * D * 256 := Int.mul_right_comm _ _ _
        have wd : IntKind.i64.wrap (L - 0) = D := by rw [hD]; exact IntWalk.i64_in _ (by omega)
        have wd2 : IntKind.i64.wrap L = D := by rw [hD, Int.sub_zero]; exact IntWalk.i64_in _ (by omega)
        have q0 : IntKind.i64.wrap (nv 0 * 256) = nv 0 * 256 := IntWalk.i64_in _ (by omega)
        have q1 : IntKind.i64.wrap (nv 1 * 256) = nv 1 * 256 := IntWalk.i64_in _ (by omega)
        have q2 : IntKind.i64.wrap (nv 2 * 256) = nv 2 * 256 := IntWalk.i64_in _ (by omega)
        have m0 : IntKind.i64.wrap (nv 0 * 256 * D) = nv 0 * 256 * D := IntWalk.i64_in _ (by omega)
        have m1 : IntKind.i64.wrap (nv 1 * 256 * D) = nv 1 * 256 * D := IntWalk.i64_in _ (by omega)
        have m2 : IntKind.i64.wrap (nv 2 * 256 * D) = nv 2 * 256 * D := IntWalk.i64_in _ (by omega)
        have k0 : IntKind.i64.wrap (f 0 + nv 0 * 256 * D) = f 0 + nv 0 * 256 * D := IntWalk.i64_in _ (by omega)
        have k1 : IntKind.i64.wrap (f 1 + nv 1 * 256 * D) = f 1 + nv 1 * 256 * D := IntWalk.i64_in _ (by omega)
        have k2 : IntKind.i64.wrap (f 2 + nv 2 * 256 * D) = f 2 + nv 2 * 256 * D := IntWalk.i64_in _ (by omega)
        clear hD hX hnc hnv hf HSM hnb HT s0 s1 s2 b0 b1 b2 p0 p1 p2 p0' p1' p2' e0 e1 e2 hge hDb a1
        go_wp2_with fail
        refine wp_loop_rounds 4 ?_
        rw [rounds_succ]
        have y : X.cell? ⟨sb, 0, none⟩ = some (.int .i64 (f 0)) := Q0.out.s.c 0 rfl
        have z := Q0.out.s.f 0
        have n := Q0.out.n 0 (by omega)
        rw [Nat.add_zero] at n
        go_wp2_with fail
        refine wp_region_still_tail 17 (by kernel_rfl) (by kernel_rfl) ?_
        simp only [List.take_succ_cons, List.take_zero, List.drop_succ_cons, List.drop_zero]
        repeat still_step
        refine wpStill_nil ?_
        change wpList _ _ _ _ _ X.drew
        go_wp2_with fail
        obtain ⟨X1, hX⟩ : ∃ W, W = (X.setCell ⟨sb, 0, none⟩ (.int .i64 (f 0 + nv 0 * 256 * D))).drew := ⟨_, rfl⟩
        have Q1 := Lib.hid (Q0.out.put 0 (.int .i64 (f 0 + nv 0 * 256 * D)))
        replace Q1 := Lib.hid (hX ▸ Q1.out)
        rw [← hX]
        clear hX y z n Q0
        rw [rounds_succ]
        have y : X1.cell? ⟨sb, 1, none⟩ = some (.int .i64 (f 1)) := Q1.out.s.c 1 rfl
        have z := Q1.out.s.f 1
        have n := Q1.out.n 1 (by omega)
        go_wp2_with fail
        refine wp_region_still_tail 17 (by kernel_rfl) (by kernel_rfl) ?_
        simp only [List.take_succ_cons, List.take_zero, List.drop_succ_cons, List.drop_zero]
        repeat still_step
        refine wpStill_nil ?_
        change wpList _ _ _ _ _ X1.drew
        go_wp2_with fail
        obtain ⟨X2, hX⟩ : ∃ W, W = (X1.setCell ⟨sb, 1, none⟩ (.int .i64 (f 1 + nv 1 * 256 * D))).drew := ⟨_, rfl⟩
        have Q2 := Lib.hid (Q1.out.put 1 (.int .i64 (f 1 + nv 1 * 256 * D)))
        replace Q2 := Lib.hid (hX ▸ Q2.out)
        rw [← hX]
        clear hX y z n Q1
        rw [rounds_succ]
        have y : X2.cell? ⟨sb, 2, none⟩ = some (.int .i64 (f 2)) := Q2.out.s.c 2 rfl
        have z := Q2.out.s.f 2
        have n := Q2.out.n 2 (by omega)
        go_wp2_with fail
        refine wp_region_still_tail 17 (by kernel_rfl) (by kernel_rfl) ?_
        simp only [List.take_succ_cons, List.take_zero, List.drop_succ_cons, List.drop_zero]
        repeat still_step
        refine wpStill_nil ?_
        change wpList _ _ _ _ _ X2.drew
        go_wp2_with fail
        obtain ⟨X3, hX⟩ : ∃ W, W = (X2.setCell ⟨sb, 2, none⟩ (.int .i64 (f 2 + nv 2 * 256 * D))).drew := ⟨_, rfl⟩
        have Q3 := Lib.hid (Q2.out.put 2 (.int .i64 (f 2 + nv 2 * 256 * D)))
        replace Q3 := Lib.hid (hX ▸ Q3.out)
        rw [← hX]
        clear hX y z n Q2
        rw [rounds_succ]
        clear q0 q1 q2 m0 m1 m2 k0 k1 k2 wd wd2
        have HZ : Hid (EvF w X3 pb rb ab sb rs s cx r (3 + 1)) := by
          have u := Q3.out
          exact ⟨fun h => absurd h (by omega), u.r, u.a, by rw [HS.out]; exact u.s, u.ne, u.ge, u.b⟩
        go_wp2_with fail
        go_roundw
        case rel => exact ⟨3 + 1, by omega, by go_num, by simp [lftT], HZ⟩
        case measure => simp [intOf]
      · obtain rfl : t = 4 := by omega
        have z0 := HT.out.hs.c 0 rfl
        have z1 := HT.out.hs.c 1 rfl
        have z2 := HT.out.hs.c 2 rfl
        have s0 := HK.out.sb 4 0 (by omega) (by omega)
        have s1 := HK.out.sb 4 1 (by omega) (by omega)
        have s2 := HK.out.sb 4 2 (by omega) (by omega)
        have sl := HT.out.hs.lt
        obtain ⟨v, hv⟩ : ∃ v, v = sF rs s cx r 4 := ⟨_, rfl⟩
        rw [← hv] at z0 z1 z2 s0 s1 s2 ⊢
        have HB := Lib.hid HT.out.b
        have HV := Lib.hid hv
        have R0 := fun W => still_rnd (v 0) 16776960 W (by omega) (by omega) (by omega) (by omega)
        have R1 := fun W => still_rnd (v 1) 16776960 W (by omega) (by omega) (by omega) (by omega)
        have R2 := fun W => still_rnd (v 2) 16776960 W (by omega) (by omega) (by omega) (by omega)
        have HR := Lib.hid (And.intro R0 (And.intro R1 R2))
        clear hv HT HK R0 R1 R2
        go_wp2_with fail
        refine wp_region_still_tail 12 (by kernel_rfl) (by kernel_rfl) ?_
        simp only [List.take_succ_cons, List.take_zero, List.drop_succ_cons, List.drop_zero]
        still_step
        still_step
        still_step
        still_call (HR.out.1 _)
        still_step
        still_step
        still_step
        still_call (HR.out.2.1 _)
        still_step
        still_step
        still_step
        still_call (HR.out.2.2 _)
        refine wpStill_nil ?_
        change wpList _ _ _ _ _ wr.drew
        go_wp2_with fail
        have BB := Bx.new wr.drew #[.int .i64 (rnd (v 0) 16776960), .int .i64 (rnd (v 1) 16776960), .int .i64 (rnd (v 2) 16776960)] 2 rfl
        go_ret
        exact ⟨_, _, rfl, by rw [← HV.out]; exact own3 (BB.c 0 rfl) (BB.c 1 rfl) (BB.c 2 rfl) HB.out.size BB.lt BB.th, blThenAlloc HB.out.drew _⟩
end Go.Proofs.YtdjifaaofefpoaaGreat
