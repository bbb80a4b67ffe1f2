/-
  A stage at a colour, by levels or fine numbers: what it tells (evS); the program's closures in stepOf.
  The closures that stepOf makes: curves, a matrix, a grid at a colour.
  The program's stepOf, by kinds.
-/
import Derived.Test.YtlfdpambbgddoaaGrdLA
import Derived.Test.YtlfdpambbgddoaaMatPA
import Derived.Test.YtlfdpambbgddoaaCurA
import Derived.Test.YtlfdpambbgddoaaChnA
namespace Go.Proofs.Ytlfdpambbgddoaa
open Go.RowKit Go.Maps
set_option linter.unusedVariables false
set_option linter.unusedSimpArgs false

/-- what a stage tells of a colour. -/
def evS (o : Int) (t : Stg) (x : Nat → Int) (i : Nat) : Int :=
  if t.kd = 1 then cevo o (rw_ t.cs i) (x i) else if t.kd = 2 then apK o (fl t.rs) x i else gvo o t.sd t.ns x i
/-- the colours on the way through stages. -/
def evW (o : Int) (ts : List Stg) (x : Nat → Int) : Nat → Nat → Int
  | 0 => x
  | k + 1 => evS o (st_ ts k) (evW o ts x k)
theorem crF_fine {cs : Rws} (h : crF cs = 0) : cs.length = 3 ∧ ∀ i, i < 3 → cf (rw_ cs i) = 0 := by
  unfold crF at h
  split at h
  · rename_i h3
    refine ⟨h3, fun i hi => ?_⟩
    simp only [crL] at h
    have a0 : cf (rw_ cs 0) = 0 := by
      by_cases e : cf (rw_ cs 0) = 0
      · exact e
      · simp [e] at h
    have a1 : cf (rw_ cs 1) = 0 := by
      by_cases e : cf (rw_ cs 1) = 0
      · exact e
      · simp [a0, e] at h
    have a2 : cf (rw_ cs 2) = 0 := by simpa [a0, a1] using h
    match i, hi with
    | 0, _ => exact a0
    | 1, _ => exact a1
    | 2, _ => exact a2
  · omega
theorem sgf_zero {t : Stg} (h : sgf t = 0) : stF t = true ∧ ((t.kd = 1 ∧ crF t.cs = 0) ∨ (t.kd = 2 ∧ mf t.rs = 0) ∨ (t.kd = 3 ∧ gf t.sd t.ns = 0)) := by
  rcases Bool.eq_false_or_eq_true (stF t) with hf | hf
  · refine ⟨hf, ?_⟩
    rcases stF_kinds hf with k | k | k
    · exact .inl ⟨k, by rw [← sgf_1 hf k]; exact h⟩
    · exact .inr (.inl ⟨k, by rw [← sgf_2 hf k]; exact h⟩)
    · exact .inr (.inr ⟨k, by rw [← sgf_3 hf k]; exact h⟩)
  · rw [sgf_no hf] at h; omega
/-- what a grid tells is a number again. -/
theorem lft_sum (T : Int) (r : Nat → Int) : (lftT T r 0 - lftT T r 1) + (lftT T r 1 - lftT T r 2) + (lftT T r 2 - lftT T r 3) + (lftT T r 3 - lftT T r 4) = T := by
  rw [lftT_4]; simp only [lftT]; omega
theorem ax_dn (r : Nat → Int) : r (ax r 1) ≤ r (ax r 0) ∧ r (ax r 2) ≤ r (ax r 1) := by
  unfold ax
  by_cases h1 : r 1 > r 0 <;> by_cases h2 : r 2 > r 0 <;> by_cases h3 : r 2 > r 1 <;> simp [h1, h2, h3] <;> omega
theorem lftT_dn {T : Int} (hT : Top T) {r : Nat → Int} (hr : LvT T r) : ∀ t, t < 4 → 0 ≤ lftT T r t - lftT T r (t + 1) := by
  intro t ht
  obtain ⟨a, b⟩ := ax_dn r
  have h0 := hr _ (ax_lt r (t := 0) (by omega))
  have h2 := hr _ (ax_lt r (t := 2) (by omega))
  match t, ht with
  | 0, _ => simp only [lftT]; simp; omega
  | 1, _ => simp only [lftT]; simp; omega
  | 2, _ => simp only [lftT]; simp; omega
  | 3, _ => simp only [lftT]; simp; omega
theorem wt_bd {a b lo hi : Int} (ha : lo ≤ a ∧ a ≤ hi) (hb : 0 ≤ b) : lo * b ≤ a * b ∧ a * b ≤ hi * b := ⟨Int.mul_le_mul_of_nonneg_right ha.1 hb, Int.mul_le_mul_of_nonneg_right ha.2 hb⟩
/-- between the least and the greatest of the four nodes on the way. -/
theorem smT_in {T : Int} (hT : Top T) {rs : Rws} {sd : Int} {c r : Nat → Int} (hr : LvT T r) {i : Nat} {lo hi : Int} (hn : ∀ t, t ≤ 3 → lo ≤ ndv rs sd (pl c r t) i ∧ ndv rs sd (pl c r t) i ≤ hi) : lo * T ≤ smT T rs sd c r 4 i ∧ smT T rs sd c r 4 i ≤ hi * T := by
  have e := lft_sum T r
  have d0 := wt_bd (hn 0 (by omega)) (lftT_dn hT hr 0 (by omega))
  have d1 := wt_bd (hn 1 (by omega)) (lftT_dn hT hr 1 (by omega))
  have d2 := wt_bd (hn 2 (by omega)) (lftT_dn hT hr 2 (by omega))
  have d3 := wt_bd (hn 3 (by omega)) (lftT_dn hT hr 3 (by omega))
  simp only [smT]
  generalize lftT T r 0 - lftT T r 1 = a0 at *
  generalize lftT T r 1 - lftT T r 2 = a1 at *
  generalize lftT T r 2 - lftT T r 3 = a2 at *
  generalize lftT T r 3 - lftT T r 4 = a3 at *
  have e1 : lo * T = lo * a0 + lo * a1 + lo * a2 + lo * a3 := by rw [← e, Int.mul_add, Int.mul_add, Int.mul_add]
  have e2 : hi * T = hi * a0 + hi * a1 + hi * a2 + hi * a3 := by rw [← e, Int.mul_add, Int.mul_add, Int.mul_add]
  omega
theorem rnd_in {a lo hi b : Int} (hb : 0 < b) (h0 : lo * b ≤ a) (h1 : a ≤ hi * b) : lo ≤ rnd a b ∧ rnd a b ≤ hi := by
  have g0 := rnd_mono hb h0
  have g1 := rnd_mono hb h1
  rw [rnd_mul _ _ hb] at g0 g1
  exact ⟨g0, g1⟩
theorem gvo_bd {o : Int} (ho : One o) {s : Nat} {rs : Rws} {v : Nat → Int} (h0 : gf (s : Int) rs = 0) (hv : LvT (65535 * o) v) {i : Nat} (hi : i < 3) : 0 ≤ gvo o s rs v i ∧ gvo o s rs v i ≤ 65535 * o := by
  have hsd : (s : Int) = 2 ∨ (s : Int) = 3 ∨ (s : Int) = 4 := side_cases (gf_zero h0).1
  have hT := ho.top
  have h := smT_in hT (crT_bd hT hsd hv) (rs := rs) (sd := (s : Int)) (c := ccT (65535 * o) s v) (i := i) (lo := 0) (hi := 65535) (fun t ht => ndv_bd h0 (plT_in hT hsd hv ht) i hi)
  unfold gvo
  refine rnd_in (by rcases ho with rfl | rfl <;> omega) ?_ ?_ <;> rcases ho with rfl | rfl <;> omega
theorem evS_bd {o : Int} (ho : One o) {t : Stg} (h : sgf t = 0) {x : Nat → Int} (hx : LvT (65535 * o) x) : LvT (65535 * o) (evS o t x) := by
  intro i hi
  unfold evS
  obtain ⟨-, ⟨k, f⟩ | ⟨k, f⟩ | ⟨k, f⟩⟩ := sgf_zero h
  · rw [if_pos k]
    exact cevo_bd ho (cfine ((crF_fine f).2 i hi)) _
  · rw [if_neg (by omega), if_pos k]
    exact clk_bd ho _
  · rw [if_neg (by omega), if_neg (by omega)]
    obtain ⟨s, hs⟩ : ∃ s : Nat, t.sd = s := ⟨t.sd.toNat, by have := inB_iff.1 (gf_zero f).1; omega⟩
    rw [hs] at f ⊢
    exact gvo_bd ho f hx hi
theorem evW_bd {o : Int} (ho : One o) {ts : List Stg} {x : Nat → Int} (hx : LvT (65535 * o) x) : ∀ k, (∀ i, i < k → sgf (st_ ts i) = 0) → LvT (65535 * o) (evW o ts x k) := by
  intro k
  induction k with
  | zero => intro _; exact hx
  | succ k ih => intro h; exact evS_bd ho (h k (by omega)) (ih fun i hi => h i (by omega))
theorem rv_upd (f : Nat → Int) {k : Nat} (hk : k < 3) (v : Int) : (rv f).set k (.int .i64 v) = rv (fun j => if j = k then v else f j) := by
  match k, hk with
  | 0, _ => rfl
  | 1, _ => rfl
  | 2, _ => rfl
end Go.Proofs.Ytlfdpambbgddoaa
namespace Go.Proofs.Ytlfdpambbgddoaa
open Go.RowKit Go.Maps
set_option linter.unusedVariables false
set_option linter.unusedSimpArgs false

/-- the first k numbers have gone through. -/
def mxv (x y : Nat → Int) (k j : Nat) : Int := if j < k then y j else x j
theorem mxv_0 (x y : Nat → Int) : mxv x y 0 = x := by funext j; unfold mxv; rw [if_neg (by omega)]
theorem mxv_at (x y : Nat → Int) (k : Nat) : mxv x y k k = x k := by unfold mxv; rw [if_neg (by omega)]
theorem mxv_s (x y : Nat → Int) (k : Nat) : (fun j => if j = k then y k else mxv x y k j) = mxv x y (k + 1) := by
  funext j
  unfold mxv
  by_cases e : j = k
  · subst e; rw [if_pos rfl, if_pos (by omega)]
  · by_cases h : j < k
    · rw [if_neg e, if_pos h, if_pos (by omega)]
    · rw [if_neg e, if_neg h, if_neg (by omega)]
theorem mxv_3 (x y : Nat → Int) {j : Nat} (hj : j < 3) : mxv x y 3 j = y j := by unfold mxv; rw [if_pos hj]
set_option maxRecDepth 100000 in
set_option maxHeartbeats 4000000 in
theorem step1_any (o : Int) (ho : One o) (p q : Nat) (A : Option Addr) (n c : Nat) (cs : Rws) (x : Nat → Int) (w : World) (hp : w.cell? ⟨p, 0, none⟩ = some (.slice A n c)) (hq : w.cell? ⟨q, 0, none⟩ = some (.int .i64 o)) (h : ∃ bs, Hd w (rowsD cs) (.slice A n c) bs) (hf : crF cs = 0) (hx : LvT (65535 * o) x) :
    Calls Try.prog 164 #[.agg #[.int .i64 (x 0), .int .i64 (x 1), .int .i64 (x 2)], .pointer (some ⟨p, 0, none⟩), .pointer (some ⟨q, 0, none⟩)] w (PtAns w (cevo o (rw_ cs 0) (x 0)) (cevo o (rw_ cs 1) (x 1)) (cevo o (rw_ cs 2) (x 2))) := by
  obtain ⟨bs, h⟩ := h
  obtain ⟨hl, hc, hm, -⟩ := h.rows
  obtain ⟨h3, hcf⟩ := crF_fine hf
  obtain rfl : n = 3 := by omega
  unfold maxLen at hm
  have H := Lib.hid h
  have HP := Lib.hid hp
  have HQ := Lib.hid hq
  have HO := Lib.hid ho
  have HX := Lib.hid hx
  have HCF := Lib.hid hcf
  obtain ⟨y, hy⟩ : ∃ y : Nat → Int, y = fun i => cevo o (rw_ cs i) (x i) := ⟨_, rfl⟩
  have HY : Hid (∀ i, cevo o (rw_ cs i) (x i) = y i) := fun i => by rw [hy]
  rw [HY.out 0, HY.out 1, HY.out 2]
  obtain ⟨W0, hW0⟩ : ∃ W0, W0 = (w.alloc (.cells #[.int .i64 (x 0), .int .i64 (x 1), .int .i64 (x 2)] 101)).alloc (.cells #[.int .i64 0, .int .i64 0, .int .i64 0] 101) := ⟨_, rfl⟩
  have X0 : Hid (Bx W0 w.heap.size (rv x)) := by show Bx _ _ _; rw [hW0]; exact (Bx.new _ _ _ rfl).alloc _
  have R0 : Hid (Bx W0 (w.heap.size + 1) (rv fun _ => 0)) := by show Bx _ _ _; rw [hW0]; exact Bx.new _ _ _ (by simp)
  have T0 : Hid (Below w.heap.size w W0) := by show Below _ _ _; rw [hW0]; exact blThenAlloc (blAlloc _ _) _
  have HW := Lib.hid hW0
  have p0 := hp
  have pl := cell_lt hp
  clear h hq ho hx hcf hl hc hm h3 hf hW0 hy
  go_enter Try.func164, Try.ntmps164
  go_wp2_with fail
  rw [← HW.out]
  clear HW p0 pl hp
  go_loopw [10] (fun i wr => ∃ k : Nat, k ≤ 3 ∧ i = .int .i64 k ∧ Hid (Bx wr w.heap.size (rv (mxv x y k)) ∧ Bx wr (w.heap.size + 1) (rv fun _ => 0) ∧ Below w.heap.size w wr)) (fun i _ => 3 - (intOf i).toNat)
  case atStart => exact ⟨0, by omega, rfl, by rw [mxv_0]; exact X0.out, R0.out, T0.out⟩
  case round =>
    obtain ⟨k, hk, rfl, HH⟩ := hrel
    by_cases hlt : k < 3
    · obtain ⟨b, oo, B1, L1, C1, g1, rfl, x1, x3, -⟩ := (H.out.bel HH.out.2.2).row hlt
      have HX3 := Lib.hid x3
      have pc := cell_later HH.out.2.2 HP.out
      have qc := cell_later HH.out.2.2 HQ.out
      have ql := cell_lt qc
      have xc := rv_at HH.out.1 hlt
      rw [mxv_at] at xc
      have xf := HH.out.1.f k
      have hgk : (w.heap.size : Nat) < wr.heap.size := HH.out.1.lt
      have CC : Hid (∀ W, Below wr.heap.size wr W → Calls Try.prog 76 #[.agg #[.slice B1 L1 C1], .int .i64 (x k), .int .i64 o] W fun e w' => e = .returned (.int .i64 (y k)) ∧ Below W.heap.size W w') := fun W hW => by
        have hb := HX.out k hlt
        have := curveAt_k o HO.out B1 L1 C1 (rw_ cs k) (x k) W (HX3.out.rd.below hW) (cfine (HCF.out k hlt)) hb.1 hb.2
        rw [HY.out k] at this
        exact this
      clear x3
      go_wp2_with fail
      go_region_with (go_at_call 76; refine (CC.out _ (by first | exact blAlloc _ _ | exact blThenDrew (blAlloc _ _) _ | exact (blAlloc _ _).drew)).mono ?_; rintro e w2 ⟨rfl, hb⟩; have XB := ((HH.out.1.alloc (.cells #[.slice B1 L1 C1] 71)).drewN 1).bel hb; have xf2 := XB.f k; have xl2 := XB.lt; have xc2 := rv_at XB hlt)
      all_goals
        have HBW := blThen ((blAlloc wr (.cells #[.slice B1 L1 C1] 71)).drew) hb
        have HN : Hid (Bx (w2.setCell ⟨w.heap.size, k, none⟩ (.int .i64 (y k))) w.heap.size (rv (mxv x y (k + 1))) ∧ Bx (w2.setCell ⟨w.heap.size, k, none⟩ (.int .i64 (y k))) (w.heap.size + 1) (rv fun _ => 0) ∧ Below w.heap.size w (w2.setCell ⟨w.heap.size, k, none⟩ (.int .i64 (y k)))) := by
          refine ⟨?_, (HH.out.2.1.bel HBW).oth (by omega) k _, bel1 (blThen HH.out.2.2 HBW) (Nat.le_refl _) k _⟩
          rw [← mxv_s, ← rv_upd _ hlt]
          exact XB.set k _
        clear hb XB xf2 xl2 xc2 HBW pc ql qc xc xf hgk x1
        go_wp2_with fail
        go_roundw
        case rel => exact ⟨k + 1, by omega, by go_num, HN.out⟩
        case measure => simp [intOf]; omega
    · obtain rfl : k = 3 := by omega
      have x0 := HH.out.1.c 0 rfl
      have x1 := HH.out.1.c 1 rfl
      have x2 := HH.out.1.c 2 rfl
      have r0 := HH.out.2.1.c 0 rfl
      have r1 := HH.out.2.1.c 1 rfl
      have r2 := HH.out.2.1.c 2 rfl
      have f0 := HH.out.2.1.f 0
      have f1 := HH.out.2.1.f 1
      have f2 := HH.out.2.1.f 2
      rw [mxv_3 x y (by omega)] at x0 x1 x2
      have KK := ((HH.out.2.1.set 0 (.int .i64 (y 0))).set 1 (.int .i64 (y 1))).set 2 (.int .i64 (y 2))
      have k0 := KK.c 0 rfl
      have k1 := KK.c 1 rfl
      have k2 := KK.c 2 rfl
      clear KK
      go_wp2_with fail
      refine bodyPost_ret (v := .agg #[.int .i64 (y 0), .int .i64 (y 1), .int .i64 (y 2)]) (by simp [results, Try.results164, go_sem, k0, k1, k2]) rfl ⟨rfl, ?_⟩
      exact bel_set3 HH.out.2.2 (by omega) _ _ _
set_option maxRecDepth 100000 in
set_option maxHeartbeats 4000000 in
theorem step2_any (o : Int) (ho : One o) (p q : Nat) (m x : Nat → Int) (w : World) (hp : Bx w p [.int .i64 (m 0), .int .i64 (m 1), .int .i64 (m 2), .int .i64 (m 3), .int .i64 (m 4), .int .i64 (m 5), .int .i64 (m 6), .int .i64 (m 7), .int .i64 (m 8)]) (hq : w.cell? ⟨q, 0, none⟩ = some (.int .i64 o)) (hm : ∀ t, t < 9 → -262144 ≤ m t ∧ m t ≤ 262144) (hx : LvT (65535 * o) x) :
    Calls Try.prog 165 #[.agg #[.int .i64 (x 0), .int .i64 (x 1), .int .i64 (x 2)], .pointer (some ⟨p, 0, none⟩), .pointer (some ⟨q, 0, none⟩)] w (PtAns w (apK o m x 0) (apK o m x 1) (apK o m x 2)) := by
  have CM := Lib.hid (fun W => matrixAt_k o ho m x W hm (fun t ht => by have := hx t ht; rcases ho with rfl | rfl <;> omega))
  have pl := hp.lt
  have ql := cell_lt hq
  have c0 := hp.c 0 rfl
  have c1 := hp.c 1 rfl
  have c2 := hp.c 2 rfl
  have c3 := hp.c 3 rfl
  have c4 := hp.c 4 rfl
  have c5 := hp.c 5 rfl
  have c6 := hp.c 6 rfl
  have c7 := hp.c 7 rfl
  have c8 := hp.c 8 rfl
  clear hp hm hx ho
  go_enter Try.func165, Try.ntmps165
  go_wp2_with fail
  refine (CM.out _).mono ?_
  rintro e w1 ⟨rfl, hb⟩
  have R1 := Lib.hid ((Bx.new (w.alloc (.cells #[.int .i64 (x 0), .int .i64 (x 1), .int .i64 (x 2)] 101)) #[.int .i64 0, .int .i64 0, .int .i64 0] 101 (b := w.heap.size + 1) (by simp)).bel hb)
  have T1 := Lib.hid (blThen (blThenAlloc (blAlloc w _) _) hb)
  have r0 := R1.out.c 0 rfl
  have r1 := R1.out.c 1 rfl
  have r2 := R1.out.c 2 rfl
  have f0 := R1.out.f 0
  have f1 := R1.out.f 1
  have f2 := R1.out.f 2
  have l1 := R1.out.lt
  clear hb
  obtain ⟨y, hy⟩ : ∃ y, y = apK o m x := ⟨_, rfl⟩
  rw [← hy]
  have HY := Lib.hid hy
  clear hy
  go_wp2_with fail
  have KK := ((R1.out.set 0 (.int .i64 (y 0))).set 1 (.int .i64 (y 1))).set 2 (.int .i64 (y 2))
  have k0 := KK.c 0 rfl
  have k1 := KK.c 1 rfl
  have k2 := KK.c 2 rfl
  clear KK
  refine bodyPost_ret (v := .agg #[.int .i64 (y 0), .int .i64 (y 1), .int .i64 (y 2)]) (by simp [results, Try.results165, go_sem, k0, k1, k2]) rfl ⟨by rw [HY.out], ?_⟩
  exact bel_set3 T1.out (by omega) _ _ _
set_option maxRecDepth 100000 in
set_option maxHeartbeats 4000000 in
theorem step3_any (o : Int) (ho : One o) (p g q B s : Nat) (V : Value) (rs : Rws) (D : DataW Unit) (x : Nat → Int) (w : World) (hp : w.cell? ⟨p, 0, none⟩ = some (.map (some B))) (hg : w.cell? ⟨g, 0, none⟩ = some (.int .i64 (s : Int))) (hq : w.cell? ⟨q, 0, none⟩ = some (.int .i64 o)) (hM : MapN w B s rs (s * s * s) D) (h0 : gf (s : Int) rs = 0) (hx : LvT (65535 * o) x) :
    Calls Try.prog 166 #[.agg #[.int .i64 (x 0), .int .i64 (x 1), .int .i64 (x 2)], .pointer (some ⟨p, 0, none⟩), .pointer (some ⟨g, 0, none⟩), .pointer (some ⟨q, 0, none⟩)] w (PtAns w (gvo o s rs x 0) (gvo o s rs x 1) (gvo o s rs x 2)) := by
  have CM : Hid (∀ W, Below w.heap.size w W → Calls Try.prog 62 #[.map (some B), .int .i64 (s : Int), .agg #[.int .i64 (x 0), .int .i64 (x 1), .int .i64 (x 2)], .int .i64 o] W (PtAns W (gvo o s rs x 0) (gvo o s rs x 1) (gvo o s rs x 2))) := fun W hW => gridAt_k o ho B s rs D x W (hM.kept hW) h0 hx
  have pl := cell_lt hp
  have gl := cell_lt hg
  have ql := cell_lt hq
  clear hM h0 hx ho
  go_enter Try.func166, Try.ntmps166
  go_wp2_with fail
  refine (CM.out _ (blThenAlloc (blAlloc w _) _)).mono ?_
  rintro e w1 ⟨rfl, hb⟩
  have R1 := Lib.hid ((Bx.new (w.alloc (.cells #[.int .i64 (x 0), .int .i64 (x 1), .int .i64 (x 2)] 101)) #[.int .i64 0, .int .i64 0, .int .i64 0] 101 (b := w.heap.size + 1) (by simp)).bel hb)
  have T1 := Lib.hid (blThen (blThenAlloc (blAlloc w _) _) hb)
  have r0 := R1.out.c 0 rfl
  have r1 := R1.out.c 1 rfl
  have r2 := R1.out.c 2 rfl
  have f0 := R1.out.f 0
  have f1 := R1.out.f 1
  have f2 := R1.out.f 2
  have l1 := R1.out.lt
  clear hb
  obtain ⟨y, hy⟩ : ∃ y, y = gvo o s rs x := ⟨_, rfl⟩
  rw [← hy]
  have HY := Lib.hid hy
  clear hy
  go_wp2_with fail
  have KK := ((R1.out.set 0 (.int .i64 (y 0))).set 1 (.int .i64 (y 1))).set 2 (.int .i64 (y 2))
  have k0 := KK.c 0 rfl
  have k1 := KK.c 1 rfl
  have k2 := KK.c 2 rfl
  clear KK
  refine bodyPost_ret (v := .agg #[.int .i64 (y 0), .int .i64 (y 1), .int .i64 (y 2)]) (by simp [results, Try.results166, go_sem, k0, k1, k2]) rfl ⟨by rw [HY.out], ?_⟩
  exact bel_set3 T1.out (by omega) _ _ _
end Go.Proofs.Ytlfdpambbgddoaa
namespace Go.Proofs.Ytlfdpambbgddoaa
open Go.RowKit Go.Maps
set_option linter.unusedVariables false
set_option linter.unusedSimpArgs false

theorem ta_11 (A : Option Addr) (n c : Nat) (W : World) : (Instr.typeAssert (.iface 155 (.agg #[.slice A n c])) 88 155 true).run Try.prog W = .ok (.tuple #[.agg #[.slice A n c], .bool true]) W := by kernel_rfl
theorem ta_21 (A : Option Addr) (n c : Nat) (W : World) : (Instr.typeAssert (.iface 158 (.agg #[.slice A n c])) 88 155 true).run Try.prog W = .ok (.tuple #[.agg #[.slice none 0 0], .bool false]) W := by kernel_rfl
theorem ta_22 (A : Option Addr) (n c : Nat) (W : World) : (Instr.typeAssert (.iface 158 (.agg #[.slice A n c])) 88 158 true).run Try.prog W = .ok (.tuple #[.agg #[.slice A n c], .bool true]) W := by kernel_rfl
theorem ta_31 (sd : Int) (A : Option Addr) (n c : Nat) (W : World) : (Instr.typeAssert (.iface 161 (.agg #[.int .i64 sd, .slice A n c])) 88 155 true).run Try.prog W = .ok (.tuple #[.agg #[.slice none 0 0], .bool false]) W := by kernel_rfl
theorem ta_32 (sd : Int) (A : Option Addr) (n c : Nat) (W : World) : (Instr.typeAssert (.iface 161 (.agg #[.int .i64 sd, .slice A n c])) 88 158 true).run Try.prog W = .ok (.tuple #[.agg #[.slice none 0 0], .bool false]) W := by kernel_rfl
theorem ta_33 (sd : Int) (A : Option Addr) (n c : Nat) (W : World) : (Instr.typeAssert (.iface 161 (.agg #[.int .i64 sd, .slice A n c])) 88 161 true).run Try.prog W = .ok (.tuple #[.agg #[.int .i64 sd, .slice A n c], .bool true]) W := by kernel_rfl
def SoAns1 (w : World) (o : Int) (A : Option Addr) (n c : Nat) (e : Ending) (w' : World) : Prop :=
  ∃ p q, e = .returned (.func (.func 164) #[] #[.pointer (some ⟨p, 0, none⟩), .pointer (some ⟨q, 0, none⟩)]) ∧ w'.cell? ⟨p, 0, none⟩ = some (.slice A n c) ∧ w'.cell? ⟨q, 0, none⟩ = some (.int .i64 o) ∧ Below w.heap.size w w'
set_option maxRecDepth 100000 in
set_option maxHeartbeats 1000000 in
theorem stepOf_1 (o : Int) (A : Option Addr) (n c : Nat) (w : World) :
    Calls Try.prog 144 #[.iface 155 (.agg #[.slice A n c]), .int .i64 o] w (SoAns1 w o A n c) := by
  have t1 := fun W => ta_11 A n c W
  go_enter Try.func144, Try.ntmps144
  go_wp2_with fail
  go_ret
  exact ⟨_, _, rfl, by simp, by simp, blThenAlloc (blAlloc _ _) _⟩
def SoAns2 (w : World) (o : Int) (rs : Rws) (e : Ending) (w' : World) : Prop :=
  ∃ p q, ∃ m : Nat → Int, e = .returned (.func (.func 165) #[] #[.pointer (some ⟨p, 0, none⟩), .pointer (some ⟨q, 0, none⟩)]) ∧ Bx w' p [.int .i64 (m 0), .int .i64 (m 1), .int .i64 (m 2), .int .i64 (m 3), .int .i64 (m 4), .int .i64 (m 5), .int .i64 (m 6), .int .i64 (m 7), .int .i64 (m 8)] ∧ (∀ t, t < 9 → m t = fl rs t) ∧ w'.cell? ⟨q, 0, none⟩ = some (.int .i64 o) ∧ Below w.heap.size w w'
set_option maxRecDepth 100000 in
set_option maxHeartbeats 1000000 in
theorem stepOf_2 (o : Int) (A : Option Addr) (n c : Nat) (rs : Rws) (w : World) (h : ∃ bs, Hd w (rowsD rs) (.slice A n c) bs) (h0 : mf rs = 0) :
    Calls Try.prog 144 #[.iface 158 (.agg #[.slice A n c]), .int .i64 o] w (SoAns2 w o rs) := by
  obtain ⟨bs, h⟩ := h
  have H := Lib.hid h
  have H0 := Lib.hid h0
  clear h h0
  have t1 := fun W => ta_21 A n c W
  have t2 := fun W => ta_22 A n c W
  go_enter Try.func144, Try.ntmps144
  go_wp2_with fail
  refine (cellsOf_any _ _ _ rs _ _ (H.out.bel (blThenAlloc (blAlloc _ _) _))).mono ?_
  rintro e w1 ⟨m, rfl, hq, hb⟩
  have Q1 := Lib.hid ((Bx.new w #[.int .i64 o] 2 rfl).alloc (.cells #[.slice A n c] 158) |>.bel hb)
  have T1 := Lib.hid (blThen (blThenAlloc (blAlloc w _) _) hb)
  have HM := Lib.hid (hq H0.out)
  clear hb hq
  go_wp2_with fail
  go_ret
  exact ⟨_, _, m, rfl, Bx.new _ _ _ rfl, HM.out, (Q1.out.alloc _).c 0 rfl, blThenAlloc T1.out _⟩
def SoAns3 (w : World) (o : Int) (s : Nat) (rs : Rws) (e : Ending) (w' : World) : Prop :=
  ∃ p g q B D, e = .returned (.func (.func 166) #[] #[.pointer (some ⟨p, 0, none⟩), .pointer (some ⟨g, 0, none⟩), .pointer (some ⟨q, 0, none⟩)]) ∧ w'.cell? ⟨p, 0, none⟩ = some (.map (some B)) ∧ w'.cell? ⟨g, 0, none⟩ = some (.int .i64 (s : Int)) ∧ w'.cell? ⟨q, 0, none⟩ = some (.int .i64 o) ∧ MapN w' B s rs (s * s * s) D ∧ Below w.heap.size w w'
set_option maxRecDepth 100000 in
set_option maxHeartbeats 1000000 in
theorem stepOf_3 (o : Int) (A : Option Addr) (n c s : Nat) (rs : Rws) (w : World) (h : ∃ bs, Hd w (rowsD rs) (.slice A n c) bs) (h0 : gf (s : Int) rs = 0) :
    Calls Try.prog 144 #[.iface 161 (.agg #[.int .i64 (s : Int), .slice A n c]), .int .i64 o] w (SoAns3 w o s rs) := by
  obtain ⟨bs, h⟩ := h
  have H := Lib.hid h
  have H0 := Lib.hid h0
  clear h h0
  have t1 := fun W => ta_31 s A n c W
  have t2 := fun W => ta_32 s A n c W
  have t3 := fun W => ta_33 s A n c W
  go_enter Try.func144, Try.ntmps144
  go_wp2_with fail
  refine (nodesOf_ok A n c s rs _ _ (H.out.bel (blThenAlloc (blAlloc _ _) _)) H0.out).mono ?_
  rintro e w1 ⟨B, D, rfl, hM, hb⟩
  have Q1 := Lib.hid ((Bx.new w #[.int .i64 o] 2 rfl).alloc (.cells #[.int .i64 (s : Int), .slice A n c] 161) |>.bel hb)
  have G1 := Lib.hid ((Bx.new (w.alloc (.cells #[.int .i64 o] 2)) #[.int .i64 (s : Int), .slice A n c] 161 (b := w.heap.size + 1) (by simp)).bel hb)
  have T1 := Lib.hid (blThen (blThenAlloc (blAlloc w _) _) hb)
  have HM := Lib.hid hM
  clear hb hM
  go_wp2_with fail
  go_ret
  exact ⟨_, _, _, B, D, rfl, by simp, (G1.out.alloc _).c 0 rfl, (Q1.out.alloc _).c 0 rfl, HM.out.kept (blAlloc _ _), blThenAlloc T1.out _⟩
end Go.Proofs.Ytlfdpambbgddoaa
