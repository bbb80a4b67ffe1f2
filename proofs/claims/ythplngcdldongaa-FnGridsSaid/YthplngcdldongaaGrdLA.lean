/-
  A row of colours that grows (OwnL): lights behind one another in memory of the call's own.
  What a grid tells between its nodes, by levels or fine numbers: the program's gridAt.
-/
import Derived.Test.YthplngcdldongaaGrdWA
import Derived.Test.YthplngcdldongaaGrowA
import Derived.Maps.AppendAt
import Derived.Deep.RegionLaw
namespace Go.Proofs.Ythplngcdldongaa
open Go.RowKit
set_option linter.unusedVariables false
set_option linter.unusedSimpArgs false

def fvals (f : Nat → Nat → Int) (n : Nat) : List Value := (List.range n).flatMap (fun t => rv (f t))
theorem fvals_succ (f : Nat → Nat → Int) (n : Nat) : fvals f (n + 1) = fvals f n ++ rv (f n) := by unfold fvals; rw [List.range_succ, List.flatMap_append]; simp
theorem fvals_len (f : Nat → Nat → Int) (n : Nat) : (fvals f n).length = n * 3 := by
  induction n with
  | zero => rfl
  | succ n ih => rw [fvals_succ, List.length_append, ih]; simp [rv]; omega
theorem fvals_at (f : Nat → Nat → Int) : ∀ n i, i < n → ∀ j, j < 3 → (fvals f n)[i * 3 + j]? = (rv (f i))[j]? := by
  intro n
  induction n with
  | zero => intro i hi; omega
  | succ n ih =>
    intro i hi j hj
    rw [fvals_succ]
    have hl := fvals_len f n
    by_cases e : i < n
    · rw [List.getElem?_append_left (by omega)]
      exact ih i e j hj
    · obtain rfl : i = n := by omega
      rw [List.getElem?_append_right (by omega), hl]
      congr 1
      omega
/-- the colours f 0 .. f (n - 1), in a row of the call's own. -/
def OwnL (w : World) (base : Nat) (v : Value) (n : Nat) (f : Nat → Nat → Int) : Prop := w.ownsRow base 75 3 v n (fvals f n)
theorem OwnL.below {w w' : World} {base n : Nat} {f : Nat → Nat → Int} {v : Value} (h : OwnL w base v n f) (hb : Below w.heap.size w w') : OwnL w' base v n f := by
  refine World.ownsRow.kept h (row := none) ⟨hb.os, hb.tape, hb.output, hb.size, fun k hk _ => hb.block k hk⟩ ?_
  cases hv : v.ownBlock with
  | none => exact .inl rfl
  | some g => exact .inr (fun e => by cases e)
theorem OwnL.ext {w : World} {base n : Nat} {f f' : Nat → Nat → Int} {v : Value} (h : OwnL w base v n f) (e : ∀ t, t < n → ∀ j, j < 3 → f t j = f' t j) : OwnL w base v n f' := by
  have : fvals f n = fvals f' n := by
    clear h
    induction n with
    | zero => rfl
    | succ n ih =>
      rw [fvals_succ, fvals_succ, ih (fun t ht => e t (by omega))]
      unfold rv
      rw [e n (by omega) 0 (by omega), e n (by omega) 1 (by omega), e n (by omega) 2 (by omega)]
  unfold OwnL
  rw [← this]
  exact h
theorem OwnL.lit (w : World) (f : Nat → Nat → Int) {base : Nat} (hb : base ≤ w.heap.size) : OwnL (w.alloc (.cells #[.int .i64 (f 0 0), .int .i64 (f 0 1), .int .i64 (f 0 2)] 75)) base (.slice (some ⟨w.heap.size, 0, none⟩) 1 1) 1 f := by
  have := World.ownsRow_lit (base := base) (e := 75) (size := 3) w #[.int .i64 (f 0 0), .int .i64 (f 0 1), .int .i64 (f 0 2)] 1 hb (by unfold maxLen; omega) rfl
  exact this
/-- what lies there. -/
theorem OwnL.look {w : World} {base n : Nat} {f : Nat → Nat → Int} {v : Value} (h : OwnL w base v n f) (hn : 0 < n) : ∃ g c, v = .slice (some ⟨g, 0, none⟩) n c ∧ base ≤ g ∧ g < w.heap.size ∧ n ≤ c ∧ c ≤ maxLen ∧
    ∀ k, k < n → ∀ j, j < 3 → w.cell? ⟨g, k * 3 + j, none⟩ = some (.int .i64 (f k j)) := by
  have h' := h
  rcases h.2 with ⟨rfl, rfl⟩ | ⟨g, cap, cur, rfl, b1, b2, b3, b4, b5, b6⟩
  · omega
  · have hgt : g < w.heap.size := (World.ownsRow.lt h g rfl).2
    refine ⟨g, cap, rfl, b1, hgt, b3, b4, fun k hk j hj => ?_⟩
    have hl := fvals_len f n
    have := World.ownsRow.cellAt h' (k * 3 + j) (by omega)
    rw [this, fvals_at f n k hk j hj]
    match j, hj with
    | 0, _ => rfl
    | 1, _ => rfl
    | 2, _ => rfl
theorem info_light : (Try.prog.info? 75).map (fun i => (i.zero, i.size, i.bytes)) = some (some (.agg #[.int .i64 0, .int .i64 0, .int .i64 0]), 3, 24) := by kernel_rfl
theorem info_lightx : ∃ i, Try.prog.info? 75 = some i ∧ i.zero = some (.agg #[.int .i64 0, .int .i64 0, .int .i64 0]) ∧ i.size = 3 ∧ i.bytes = 24 := by
  obtain ⟨i, hi, h⟩ := Option.map_eq_some_iff.1 info_light
  simp only [Prod.mk.injEq] at h
  exact ⟨i, hi, h.1, h.2.1, h.2.2⟩
end Go.Proofs.Ythplngcdldongaa
namespace Go.Proofs.Ythplngcdldongaa
open Go.RowKit Go.Maps
set_option linter.unusedVariables false
set_option linter.unusedSimpArgs false

/-- what gridAt has made, t axes in. -/
structure BtT (T : Int) (w W : World) (z p b : Nat) (rs : Rws) (s : Nat) (c r : Nat → Int) (t : Nat) : Prop where
  hc : Bx W p (rv (pl c r t))
  hr : Bx W (p + 1) (rv r)
  hs : Bx W (p + 1 + 1) (rv (smT T rs s c r t))
  hz : Bx W z (rv fun _ => 0)
  ha : Bx W b (oax r)
  ge : p + 1 + 1 < b
  zl : z < p
  zw : w.heap.size ≤ z
  b : Below w.heap.size w W
theorem BtT.bel {T : Int} {w W W' : World} {z p b : Nat} {rs : Rws} {s : Nat} {c r : Nat → Int} {t : Nat} (h : BtT T w W z p b rs s c r t) (hb : Below W.heap.size W W') : BtT T w W' z p b rs s c r t :=
  ⟨h.hc.bel hb, h.hr.bel hb, h.hs.bel hb, h.hz.bel hb, h.ha.bel hb, h.ge, h.zl, h.zw, blThen h.b hb⟩
/-- the sum has gone on. -/
theorem BtT.sum {T : Int} {w W : World} {z p b : Nat} {rs : Rws} {s : Nat} {c r : Nat → Int} {t : Nat} (h : BtT T w W z p b rs s c r t) (g : Nat → Int) :
    let W' := ((W.setCell ⟨p + 1 + 1, 0, none⟩ (.int .i64 (g 0))).setCell ⟨p + 1 + 1, 1, none⟩ (.int .i64 (g 1))).setCell ⟨p + 1 + 1, 2, none⟩ (.int .i64 (g 2))
    Bx W' p (rv (pl c r t)) ∧ Bx W' (p + 1) (rv r) ∧ Bx W' (p + 1 + 1) (rv g) ∧ Bx W' z (rv fun _ => 0) ∧ Bx W' b (oax r) ∧ Below w.heap.size w W' := by
  have := h.ge
  have := h.zl
  have := h.zw
  exact ⟨bx_oth3 h.hc (by omega) _ _ _, bx_oth3 h.hr (by omega) _ _ _, rv_set3 g h.hs, bx_oth3 h.hz (by omega) _ _ _, bx_oth3 h.ha (by omega) _ _ _, bel_set3 h.b (by omega) _ _ _⟩
set_option maxRecDepth 100000 in
set_option maxHeartbeats 8000000 in
theorem gridAt_1 (B s : Nat) (rs : Rws) (D : DataW Unit) (q c r : Nat → Int) (w : World) (hM : MapN w B s rs (s * s * s) D) (h0 : gf (s : Int) rs = 0) (hq : LvT 65535 q) (hc : c = ccT 65535 s q) (hr : r = crT 65535 s q) :
    Calls Try.prog 46 #[.map (some B), .int .i64 (s : Int), .agg #[.int .i64 (q 0), .int .i64 (q 1), .int .i64 (q 2)], .int .i64 1] w (PtAns w (rnd (smT 65535 rs s c r 4 0) 65535) (rnd (smT 65535 rs s c r 4 1) 65535) (rnd (smT 65535 rs s c r 4 2) 65535)) := by
  have hsd : (s : Int) = 2 ∨ (s : Int) = 3 ∨ (s : Int) = 4 := side_cases (gf_zero h0).1
  have hrr : LvT 65535 r := by rw [hr]; exact crT_bd (by unfold Top; omega) hsd hq
  have hin : ∀ t, t ≤ 3 → inS (s : Int) [pl c r t 0, pl c r t 1, pl c r t 2] = true := fun t ht => by rw [hc]; exact plT_in (by unfold Top; omega) hsd hq ht
  have CO : Hid (∀ W, Calls Try.prog 49 #[.int .i64 (s : Int), .agg #[.int .i64 (q 0), .int .i64 (q 1), .int .i64 (q 2)], .int .i64 1] W (CoAns W c r)) := fun W => by rw [hc, hr]; exact cellOf_1 s q W hsd hq
  have HND : Hid (∀ t, t ≤ 3 → Lv (ndv rs s (pl c r t))) := fun t ht => ndv_bd h0 (hin t ht)
  have HSB : Hid (∀ t i, t ≤ 4 → i < 3 → -4400000000000 ≤ smT 65535 rs s c r t i ∧ smT 65535 rs s c r t i ≤ 4400000000000) := fun t i ht hi => by
    have := smT_bd (by unfold Top; omega) hrr HND.out hi t ht; omega
  have HLK : Hid (∀ t, t ≤ 3 → ∀ W, Below w.heap.size w W → (Instr.lookup 71 (.map (some B)) (.agg #[.int .i64 (pl c r t 0), .int .i64 (pl c r t 1), .int .i64 (pl c r t 2)]) false).run Try.prog W = .ok (.agg #[.int .i64 (ndv rs s (pl c r t) 0), .int .i64 (ndv rs s (pl c r t) 1), .int .i64 (ndv rs s (pl c r t) 2)]) W) := fun t ht W hW => look_light (hM.kept hW) h0 (pl c r t) (hin t ht)
  have HPB : Hid (∀ t, t ≤ 3 → ∀ j, j < 3 → 0 ≤ pl c r t j ∧ pl c r t j ≤ 1000) := fun t ht j hj => by
    have hs := inB_iff.1 (gf_zero h0).1
    obtain ⟨a0, a1, a2⟩ := inS_iff.1 (hin t ht)
    simp only [List.getD_cons_zero, List.getD_cons_succ] at a0 a1 a2
    match j, hj with
    | 0, _ => omega
    | 1, _ => omega
    | 2, _ => omega
  have HR := Lib.hid hrr
  have HLF : Hid (∀ t, 0 ≤ lftT 65535 r t ∧ lftT 65535 r t ≤ 65535) := fun t => lftT_bd (by unfold Top; omega) hrr t
  clear hM h0 hin hrr hsd hc hr hq
  go_enter Try.func46, Try.ntmps46
  go_wp2_with fail
  refine (CO.out _).mono ?_
  rintro e w1 ⟨rfl, hb⟩
  have ZZ := Lib.hid ((Bx.new (w.alloc (.cells #[.int .i64 (q 0), .int .i64 (q 1), .int .i64 (q 2)] 75)) #[.int .i64 0, .int .i64 0, .int .i64 0] 75 (b := w.heap.size + 1) (by simp)).bel hb)
  have T1 := Lib.hid (blThen (blThenAlloc (blAlloc w _) _) hb)
  have hz1 : w.heap.size + 1 < w1.heap.size := ZZ.out.lt
  have HZ1 := Lib.hid hz1
  obtain ⟨W0, hW0⟩ : ∃ W0, W0 = ((w1.alloc (.cells #[.int .i64 (c 0), .int .i64 (c 1), .int .i64 (c 2)] 82)).alloc (.cells #[.int .i64 (r 0), .int .i64 (r 1), .int .i64 (r 2)] 75)).alloc (.cells #[.int .i64 0, .int .i64 0, .int .i64 0] 75) := ⟨_, rfl⟩
  have C0 : Hid (Bx W0 w1.heap.size (rv c)) := by show Bx _ _ _; rw [hW0]; exact ((Bx.new _ _ _ rfl).alloc _).alloc _
  have R0 : Hid (Bx W0 (w1.heap.size + 1) (rv r)) := by show Bx _ _ _; rw [hW0]; exact (Bx.new _ _ _ (by simp)).alloc _
  have S0 : Hid (Bx W0 (w1.heap.size + 1 + 1) (rv fun _ => 0)) := by show Bx _ _ _; rw [hW0]; exact Bx.new _ _ _ (by simp)
  have Z0 : Hid (Bx W0 (w.heap.size + 1) (rv fun _ => 0)) := by show Bx _ _ _; rw [hW0]; exact ((ZZ.out.alloc _).alloc _).alloc _
  have T0 : Hid (Below w.heap.size w W0) := by show Below _ _ _; rw [hW0]; exact blThenAlloc (blThenAlloc (blThenAlloc T1.out _) _) _
  have HW := Lib.hid hW0
  have hz0 : W0.heap.size = w1.heap.size + 3 := by rw [hW0]; simp
  have HZ0 := Lib.hid hz0
  clear hW0 hz0 hb hz1 ZZ T1
  go_wp2_with fail
  rw [← HW.out]
  refine (axesByRest_any r _).mono ?_
  rintro e w2 ⟨b, rfl, hax, hge, hb⟩
  have HS1 : Hid (BtT 65535 w w2 (w.heap.size + 1) w1.heap.size b rs s c r 0) := ⟨C0.out.bel hb, R0.out.bel hb, S0.out.bel hb, Z0.out.bel hb, hax, (show w1.heap.size + 1 + 1 < b by have := HZ0.out; omega), HZ1.out, by omega, blThen T0.out hb⟩
  clear hax hge hb C0 R0 Z0 S0 T0 HW HZ0 HZ1
  go_wp2_with fail
  go_loopw [13, 31] (fun l i wr => ∃ t : Nat, t ≤ 3 ∧ i = .int .i64 t ∧ l = .int .i64 (lftT 65535 r t) ∧ Hid (BtT 65535 w wr (w.heap.size + 1) w1.heap.size b rs s c r t)) (fun _ i _ => 3 - (intOf i).toNat)
  case atStart => exact ⟨0, by omega, rfl, rfl, HS1⟩
  case round =>
    obtain ⟨t, ht, rfl, rfl, HT⟩ := hrel
    by_cases hlt : t < 3
    · obtain ⟨k, hk⟩ : ∃ k, k = ax r t := ⟨_, rfl⟩
      have hk3 : k < 3 := by rw [hk]; exact ax_lt r hlt
      have hk3i : (k : Int) < 3 := by omega
      have xa := oax_at HT.out.ha hlt
      rw [← hk] at xa
      have xr := rv_at HT.out.hr hk3
      have hL1 : Hid (lftT 65535 r (t + 1) = r k) := by show _ = _; simp only [lftT]; rw [if_pos hlt, hk]
      have HPL : Hid (∀ j, pl c r (t + 1) j = if j = k then pl c r t j + 1 else pl c r t j) := fun j => by simp only [pl, bump, hk]
      have HSM : Hid (∀ j, smT 65535 rs s c r (t + 1) j = smT 65535 rs s c r t j + ndv rs s (pl c r t) j * (lftT 65535 r t - r k)) := fun j => by simp only [smT]; rw [hL1.out]
      have x0 := HT.out.hc.c 0 rfl
      have x1 := HT.out.hc.c 1 rfl
      have x2 := HT.out.hc.c 2 rfl
      have y0 := HT.out.hs.c 0 rfl
      have y1 := HT.out.hs.c 1 rfl
      have y2 := HT.out.hs.c 2 rfl
      have z0 := HT.out.hs.f 0
      have z1 := HT.out.hs.f 1
      have z2 := HT.out.hs.f 2
      have hlk := HLK.out t ht wr.drew HT.out.b.drew
      have a1 := HLF.out t
      have a2 := HR.out k hk3
      obtain ⟨L, hL⟩ : ∃ L, L = lftT 65535 r t := ⟨_, rfl⟩
      obtain ⟨q, hq⟩ : ∃ q, q = r k := ⟨_, rfl⟩
      rw [← hL] at a1 HSM ⊢
      rw [← hq] at a2 xr hL1 HSM
      have HRK : Hid (r k = q) := hq.symm
      have hwr : IntKind.i64.wrap (L - q) = L - q := IntWalk.i64_in _ (by omega)
      have CP := fun W => plusTimes_any (smT 65535 rs s c r t 0) (smT 65535 rs s c r t 1) (smT 65535 rs s c r t 2) (ndv rs s (pl c r t) 0) (ndv rs s (pl c r t) 1) (ndv rs s (pl c r t) 2) (L - q) W (by have := HSB.out t 0 (by omega) (by omega); omega) (by have := HSB.out t 1 (by omega) (by omega); omega) (by have := HSB.out t 2 (by omega) (by omega); omega) (HND.out t ht 0 (by omega)) (HND.out t ht 1 (by omega)) (HND.out t ht 2 (by omega)) (by omega)
      have HCP := Lib.hid CP
      clear CP hL hq hk
      go_wp2_with fail
      refine wp_region_still_tail 9 (by kernel_rfl) (by kernel_rfl) ?_
      simp only [List.take_succ_cons, List.take_zero, List.drop_succ_cons, List.drop_zero]
      repeat still_step
      refine wpStill_nil ?_
      change wpList _ _ _ _ _ wr.drew
      go_wp2_with fail
      refine (HCP.out _).mono ?_
      rintro e w3 ⟨rfl, hb⟩
      have HT2 := Lib.hid (HT.out.bel ((Below.refl _ _).drew.trans hb))
      rw [← HSM.out 0, ← HSM.out 1, ← HSM.out 2]
      clear hb HT x0 x1 x2 y0 y1 y2 z0 z1 z2 xa xr hlk hwr HCP HSM
      have x0 := HT2.out.hc.c 0 rfl
      have x1 := HT2.out.hc.c 1 rfl
      have x2 := HT2.out.hc.c 2 rfl
      have y0 := HT2.out.hs.c 0 rfl
      have y1 := HT2.out.hs.c 1 rfl
      have y2 := HT2.out.hs.c 2 rfl
      have z0 := HT2.out.hs.f 0
      have z1 := HT2.out.hs.f 1
      have z2 := HT2.out.hs.f 2
      have xr := rv_at HT2.out.hr hk3
      rw [HRK.out] at xr
      go_wp2_with fail
      obtain ⟨W3, hW3⟩ : ∃ W, W = (((w3).setCell ⟨w1.heap.size + 1 + 1, 0, none⟩ (.int .i64 (smT 65535 rs s c r (t + 1) 0))).setCell ⟨w1.heap.size + 1 + 1, 1, none⟩ (.int .i64 (smT 65535 rs s c r (t + 1) 1))).setCell ⟨w1.heap.size + 1 + 1, 2, none⟩ (.int .i64 (smT 65535 rs s c r (t + 1) 2)) := ⟨_, rfl⟩
      have H3 := Lib.hid (HT2.out.sum (smT 65535 rs s c r (t + 1)))
      have HGE := Lib.hid (And.intro HT2.out.ge (And.intro HT2.out.zl HT2.out.zw))
      rw [← hW3]
      replace H3 := Lib.hid (hW3 ▸ H3.out)
      clear hW3 x0 x1 x2 y0 y1 y2 z0 z1 z2 xr HT2
      refine (next_b _ _ _ k _ hk3 (HPB.out t ht 0 (by omega)) (HPB.out t ht 1 (by omega)) (HPB.out t ht 2 (by omega))).mono ?_
      rintro e w4 ⟨rfl, hb⟩
      rw [← HPL.out 0, ← HPL.out 1, ← HPL.out 2]
      have H4 : Hid (Bx w4 w1.heap.size (rv (pl c r t)) ∧ Bx w4 (w1.heap.size + 1) (rv r) ∧ Bx w4 (w1.heap.size + 1 + 1) (rv (smT 65535 rs s c r (t + 1))) ∧ Bx w4 (w.heap.size + 1) (rv fun _ => 0) ∧ Bx w4 b (oax r) ∧ Below w.heap.size w w4) := by
        obtain ⟨q1, q2, q3, q4, q5, q6⟩ := H3.out
        exact ⟨q1.bel hb, q2.bel hb, q3.bel hb, q4.bel hb, q5.bel hb, blThen q6 hb⟩
      clear hb H3
      have x0 := H4.out.1.c 0 rfl
      have x1 := H4.out.1.c 1 rfl
      have x2 := H4.out.1.c 2 rfl
      have z0 := H4.out.1.f 0
      have z1 := H4.out.1.f 1
      have z2 := H4.out.1.f 2
      go_wp2_with fail
      have H5 : Hid (BtT 65535 w ((((w4).setCell ⟨w1.heap.size, 0, none⟩ (.int .i64 (pl c r (t + 1) 0))).setCell ⟨w1.heap.size, 1, none⟩ (.int .i64 (pl c r (t + 1) 1))).setCell ⟨w1.heap.size, 2, none⟩ (.int .i64 (pl c r (t + 1) 2))) (w.heap.size + 1) w1.heap.size b rs s c r (t + 1)) := by
        obtain ⟨q1, q2, q3, q4, q5, q6⟩ := H4.out
        have := HGE.out.1
        have := HGE.out.2.1
        have := HGE.out.2.2
        exact ⟨rv_set3 (pl c r (t + 1)) q1, bx_oth3 q2 (by omega) _ _ _, bx_oth3 q3 (by omega) _ _ _, bx_oth3 q4 (by omega) _ _ _, bx_oth3 q5 (by omega) _ _ _, HGE.out.1, HGE.out.2.1, HGE.out.2.2, bel_set3 q6 (by omega) _ _ _⟩
      go_roundw
      case rel => exact ⟨t + 1, by omega, by go_num, by rw [hL1.out], H5⟩
      case measure => simp [intOf]; omega
    · obtain rfl : t = 3 := by omega
      have hL1 : Hid (∀ j, smT 65535 rs s c r 4 j = smT 65535 rs s c r 3 j + ndv rs s (pl c r 3) j * lftT 65535 r 3) := fun j => by
        have : lftT 65535 r 4 = 0 := by simp [lftT]
        simp only [smT]; rw [this, Int.sub_zero]
      have x0 := HT.out.hc.c 0 rfl
      have x1 := HT.out.hc.c 1 rfl
      have x2 := HT.out.hc.c 2 rfl
      have y0 := HT.out.hs.c 0 rfl
      have y1 := HT.out.hs.c 1 rfl
      have y2 := HT.out.hs.c 2 rfl
      have hlk := HLK.out 3 ht wr.drew HT.out.b.drew
      have a1 := HLF.out 3
      obtain ⟨L, hL⟩ : ∃ L, L = lftT 65535 r 3 := ⟨_, rfl⟩
      rw [← hL] at a1 hL1 ⊢
      have CP := fun W => plusTimes_any (smT 65535 rs s c r 3 0) (smT 65535 rs s c r 3 1) (smT 65535 rs s c r 3 2) (ndv rs s (pl c r 3) 0) (ndv rs s (pl c r 3) 1) (ndv rs s (pl c r 3) 2) L W (by have := HSB.out 3 0 (by omega) (by omega); omega) (by have := HSB.out 3 1 (by omega) (by omega); omega) (by have := HSB.out 3 2 (by omega) (by omega); omega) (HND.out 3 ht 0 (by omega)) (HND.out 3 ht 1 (by omega)) (HND.out 3 ht 2 (by omega)) (by omega)
      have HCP := Lib.hid CP
      clear CP hL
      go_wp2_with fail
      refine wp_region_still_tail 5 (by kernel_rfl) (by kernel_rfl) ?_
      simp only [List.take_succ_cons, List.take_zero, List.drop_succ_cons, List.drop_zero]
      repeat still_step
      refine wpStill_nil ?_
      change wpList _ _ _ _ _ wr.drew
      go_wp2_with fail
      refine (HCP.out _).mono ?_
      rintro e w3 ⟨rfl, hb⟩
      have HT2 := Lib.hid (HT.out.bel ((Below.refl _ _).drew.trans hb))
      rw [← hL1.out 0, ← hL1.out 1, ← hL1.out 2]
      clear hb HT x0 x1 x2 y0 y1 y2 hlk HCP hL1 a1
      have y0 := HT2.out.hs.c 0 rfl
      have y1 := HT2.out.hs.c 1 rfl
      have y2 := HT2.out.hs.c 2 rfl
      have z0 := HT2.out.hs.f 0
      have z1 := HT2.out.hs.f 1
      have z2 := HT2.out.hs.f 2
      have g0 := HT2.out.ge
      have g1 := HT2.out.zl
      have g2 := HT2.out.zw
      have b0 := HSB.out 4 0 (by omega) (by omega)
      have b1 := HSB.out 4 1 (by omega) (by omega)
      have b2 := HSB.out 4 2 (by omega) (by omega)
      obtain ⟨v, hv⟩ : ∃ v, v = smT 65535 rs s c r 4 := ⟨_, rfl⟩
      rw [← hv] at b0 b1 b2 ⊢
      have HV := Lib.hid hv
      clear hv
      go_wp2_with fail
      obtain ⟨W3, hW3⟩ : ∃ W, W = (((w3).setCell ⟨w1.heap.size + 1 + 1, 0, none⟩ (.int .i64 (v 0))).setCell ⟨w1.heap.size + 1 + 1, 1, none⟩ (.int .i64 (v 1))).setCell ⟨w1.heap.size + 1 + 1, 2, none⟩ (.int .i64 (v 2)) := ⟨_, rfl⟩
      have H3 := Lib.hid (HT2.out.sum v)
      rw [← hW3]
      replace H3 := Lib.hid (hW3 ▸ H3.out)
      clear hW3 y0 y1 y2 z0 z1 z2 HT2
      have y0 := H3.out.2.2.1.c 0 rfl
      have y1 := H3.out.2.2.1.c 1 rfl
      have y2 := H3.out.2.2.1.c 2 rfl
      have z0 := H3.out.2.2.1.f 0
      have z1 := H3.out.2.2.1.f 1
      have z2 := H3.out.2.2.1.f 2
      have r0 := H3.out.2.2.2.1.c 0 rfl
      have r1 := H3.out.2.2.2.1.c 1 rfl
      have r2 := H3.out.2.2.2.1.c 2 rfl
      have u0 := H3.out.2.2.2.1.f 0
      have u1 := H3.out.2.2.2.1.f 1
      have u2 := H3.out.2.2.2.1.f 2
      refine wp_loop_rounds 4 ?_
      rw [rounds_succ]
      have ii := fun W => jx_0 (v 0) (v 1) (v 2) W
      go_wp2_with fail
      clear ii
      refine (nearest_any _ _ _ (by omega) (by omega) (by omega) (by omega)).mono ?_
      rintro e w' ⟨rfl, m0, rfl⟩
      go_wp2_with fail
      rw [rounds_succ]
      have ii := fun W => jx_1 (v 0) (v 1) (v 2) W
      go_wp2_with fail
      clear ii
      refine (nearest_any _ _ _ (by omega) (by omega) (by omega) (by omega)).mono ?_
      rintro e w' ⟨rfl, m1, rfl⟩
      go_wp2_with fail
      rw [rounds_succ]
      have ii := fun W => jx_2 (v 0) (v 1) (v 2) W
      go_wp2_with fail
      clear ii
      refine (nearest_any _ _ _ (by omega) (by omega) (by omega) (by omega)).mono ?_
      rintro e w' ⟨rfl, m2, rfl⟩
      go_wp2_with fail
      rw [rounds_succ]
      go_wp2_with fail
      have k0 := (((((((((H3.out.2.2.2.1.drewN m0).oth (c := w1.heap.size + 1 + 1) (by omega) 0 (.int .i64 (rnd (v 0) 65535))).drewN m1).oth (c := w1.heap.size + 1 + 1) (by omega) 1 (.int .i64 (rnd (v 1) 65535))).drewN m2).oth (c := w1.heap.size + 1 + 1) (by omega) 2 (.int .i64 (rnd (v 2) 65535))).set 0 (.int .i64 (rnd (v 0) 65535))).set 1 (.int .i64 (rnd (v 1) 65535))).set 2 (.int .i64 (rnd (v 2) 65535))).c 0 rfl
      have k1 := (((((((((H3.out.2.2.2.1.drewN m0).oth (c := w1.heap.size + 1 + 1) (by omega) 0 (.int .i64 (rnd (v 0) 65535))).drewN m1).oth (c := w1.heap.size + 1 + 1) (by omega) 1 (.int .i64 (rnd (v 1) 65535))).drewN m2).oth (c := w1.heap.size + 1 + 1) (by omega) 2 (.int .i64 (rnd (v 2) 65535))).set 0 (.int .i64 (rnd (v 0) 65535))).set 1 (.int .i64 (rnd (v 1) 65535))).set 2 (.int .i64 (rnd (v 2) 65535))).c 1 rfl
      have k2 := (((((((((H3.out.2.2.2.1.drewN m0).oth (c := w1.heap.size + 1 + 1) (by omega) 0 (.int .i64 (rnd (v 0) 65535))).drewN m1).oth (c := w1.heap.size + 1 + 1) (by omega) 1 (.int .i64 (rnd (v 1) 65535))).drewN m2).oth (c := w1.heap.size + 1 + 1) (by omega) 2 (.int .i64 (rnd (v 2) 65535))).set 0 (.int .i64 (rnd (v 0) 65535))).set 1 (.int .i64 (rnd (v 1) 65535))).set 2 (.int .i64 (rnd (v 2) 65535))).c 2 rfl
      refine bodyPost_ret (v := .agg #[.int .i64 (rnd (v 0) 65535), .int .i64 (rnd (v 1) 65535), .int .i64 (rnd (v 2) 65535)]) (by simp [results, Try.results46, go_sem, k0, k1, k2]) rfl ⟨by rw [HV.out], ?_⟩
      clear k0 k1 k2
      repeat (first | with_reducible exact H3.out.2.2.2.2.2 | refine Below.setCell ?_ (by simp; try omega) _ | refine blThenDrew ?_ _)
set_option maxRecDepth 100000 in
set_option maxHeartbeats 8000000 in
theorem gridAt_256 (B s : Nat) (rs : Rws) (D : DataW Unit) (q c r : Nat → Int) (w : World) (hM : MapN w B s rs (s * s * s) D) (h0 : gf (s : Int) rs = 0) (hq : LvT 16776960 q) (hc : c = ccT 16776960 s q) (hr : r = crT 16776960 s q) :
    Calls Try.prog 46 #[.map (some B), .int .i64 (s : Int), .agg #[.int .i64 (q 0), .int .i64 (q 1), .int .i64 (q 2)], .int .i64 256] w (PtAns w (rnd (smT 16776960 rs s c r 4 0 * 256) 16776960) (rnd (smT 16776960 rs s c r 4 1 * 256) 16776960) (rnd (smT 16776960 rs s c r 4 2 * 256) 16776960)) := by
  have hsd : (s : Int) = 2 ∨ (s : Int) = 3 ∨ (s : Int) = 4 := side_cases (gf_zero h0).1
  have hrr : LvT 16776960 r := by rw [hr]; exact crT_bd (by unfold Top; omega) hsd hq
  have hin : ∀ t, t ≤ 3 → inS (s : Int) [pl c r t 0, pl c r t 1, pl c r t 2] = true := fun t ht => by rw [hc]; exact plT_in (by unfold Top; omega) hsd hq ht
  have CO : Hid (∀ W, Calls Try.prog 49 #[.int .i64 (s : Int), .agg #[.int .i64 (q 0), .int .i64 (q 1), .int .i64 (q 2)], .int .i64 256] W (CoAns W c r)) := fun W => by rw [hc, hr]; exact cellOf_256 s q W hsd hq
  have HND : Hid (∀ t, t ≤ 3 → Lv (ndv rs s (pl c r t))) := fun t ht => ndv_bd h0 (hin t ht)
  have HSB : Hid (∀ t i, t ≤ 4 → i < 3 → -4400000000000 ≤ smT 16776960 rs s c r t i ∧ smT 16776960 rs s c r t i ≤ 4400000000000) := fun t i ht hi => by
    have := smT_bd (by unfold Top; omega) hrr HND.out hi t ht; omega
  have HLK : Hid (∀ t, t ≤ 3 → ∀ W, Below w.heap.size w W → (Instr.lookup 71 (.map (some B)) (.agg #[.int .i64 (pl c r t 0), .int .i64 (pl c r t 1), .int .i64 (pl c r t 2)]) false).run Try.prog W = .ok (.agg #[.int .i64 (ndv rs s (pl c r t) 0), .int .i64 (ndv rs s (pl c r t) 1), .int .i64 (ndv rs s (pl c r t) 2)]) W) := fun t ht W hW => look_light (hM.kept hW) h0 (pl c r t) (hin t ht)
  have HPB : Hid (∀ t, t ≤ 3 → ∀ j, j < 3 → 0 ≤ pl c r t j ∧ pl c r t j ≤ 1000) := fun t ht j hj => by
    have hs := inB_iff.1 (gf_zero h0).1
    obtain ⟨a0, a1, a2⟩ := inS_iff.1 (hin t ht)
    simp only [List.getD_cons_zero, List.getD_cons_succ] at a0 a1 a2
    match j, hj with
    | 0, _ => omega
    | 1, _ => omega
    | 2, _ => omega
  have HR := Lib.hid hrr
  have HLF : Hid (∀ t, 0 ≤ lftT 16776960 r t ∧ lftT 16776960 r t ≤ 16776960) := fun t => lftT_bd (by unfold Top; omega) hrr t
  clear hM h0 hin hrr hsd hc hr hq
  go_enter Try.func46, Try.ntmps46
  go_wp2_with fail
  refine (CO.out _).mono ?_
  rintro e w1 ⟨rfl, hb⟩
  have ZZ := Lib.hid ((Bx.new (w.alloc (.cells #[.int .i64 (q 0), .int .i64 (q 1), .int .i64 (q 2)] 75)) #[.int .i64 0, .int .i64 0, .int .i64 0] 75 (b := w.heap.size + 1) (by simp)).bel hb)
  have T1 := Lib.hid (blThen (blThenAlloc (blAlloc w _) _) hb)
  have hz1 : w.heap.size + 1 < w1.heap.size := ZZ.out.lt
  have HZ1 := Lib.hid hz1
  obtain ⟨W0, hW0⟩ : ∃ W0, W0 = ((w1.alloc (.cells #[.int .i64 (c 0), .int .i64 (c 1), .int .i64 (c 2)] 82)).alloc (.cells #[.int .i64 (r 0), .int .i64 (r 1), .int .i64 (r 2)] 75)).alloc (.cells #[.int .i64 0, .int .i64 0, .int .i64 0] 75) := ⟨_, rfl⟩
  have C0 : Hid (Bx W0 w1.heap.size (rv c)) := by show Bx _ _ _; rw [hW0]; exact ((Bx.new _ _ _ rfl).alloc _).alloc _
  have R0 : Hid (Bx W0 (w1.heap.size + 1) (rv r)) := by show Bx _ _ _; rw [hW0]; exact (Bx.new _ _ _ (by simp)).alloc _
  have S0 : Hid (Bx W0 (w1.heap.size + 1 + 1) (rv fun _ => 0)) := by show Bx _ _ _; rw [hW0]; exact Bx.new _ _ _ (by simp)
  have Z0 : Hid (Bx W0 (w.heap.size + 1) (rv fun _ => 0)) := by show Bx _ _ _; rw [hW0]; exact ((ZZ.out.alloc _).alloc _).alloc _
  have T0 : Hid (Below w.heap.size w W0) := by show Below _ _ _; rw [hW0]; exact blThenAlloc (blThenAlloc (blThenAlloc T1.out _) _) _
  have HW := Lib.hid hW0
  have hz0 : W0.heap.size = w1.heap.size + 3 := by rw [hW0]; simp
  have HZ0 := Lib.hid hz0
  clear hW0 hz0 hb hz1 ZZ T1
  go_wp2_with fail
  rw [← HW.out]
  refine (axesByRest_any r _).mono ?_
  rintro e w2 ⟨b, rfl, hax, hge, hb⟩
  have HS1 : Hid (BtT 16776960 w w2 (w.heap.size + 1) w1.heap.size b rs s c r 0) := ⟨C0.out.bel hb, R0.out.bel hb, S0.out.bel hb, Z0.out.bel hb, hax, (show w1.heap.size + 1 + 1 < b by have := HZ0.out; omega), HZ1.out, by omega, blThen T0.out hb⟩
  clear hax hge hb C0 R0 Z0 S0 T0 HW HZ0 HZ1
  go_wp2_with fail
  go_loopw [13, 31] (fun l i wr => ∃ t : Nat, t ≤ 3 ∧ i = .int .i64 t ∧ l = .int .i64 (lftT 16776960 r t) ∧ Hid (BtT 16776960 w wr (w.heap.size + 1) w1.heap.size b rs s c r t)) (fun _ i _ => 3 - (intOf i).toNat)
  case atStart => exact ⟨0, by omega, rfl, rfl, HS1⟩
  case round =>
    obtain ⟨t, ht, rfl, rfl, HT⟩ := hrel
    by_cases hlt : t < 3
    · obtain ⟨k, hk⟩ : ∃ k, k = ax r t := ⟨_, rfl⟩
      have hk3 : k < 3 := by rw [hk]; exact ax_lt r hlt
      have hk3i : (k : Int) < 3 := by omega
      have xa := oax_at HT.out.ha hlt
      rw [← hk] at xa
      have xr := rv_at HT.out.hr hk3
      have hL1 : Hid (lftT 16776960 r (t + 1) = r k) := by show _ = _; simp only [lftT]; rw [if_pos hlt, hk]
      have HPL : Hid (∀ j, pl c r (t + 1) j = if j = k then pl c r t j + 1 else pl c r t j) := fun j => by simp only [pl, bump, hk]
      have HSM : Hid (∀ j, smT 16776960 rs s c r (t + 1) j = smT 16776960 rs s c r t j + ndv rs s (pl c r t) j * (lftT 16776960 r t - r k)) := fun j => by simp only [smT]; rw [hL1.out]
      have x0 := HT.out.hc.c 0 rfl
      have x1 := HT.out.hc.c 1 rfl
      have x2 := HT.out.hc.c 2 rfl
      have y0 := HT.out.hs.c 0 rfl
      have y1 := HT.out.hs.c 1 rfl
      have y2 := HT.out.hs.c 2 rfl
      have z0 := HT.out.hs.f 0
      have z1 := HT.out.hs.f 1
      have z2 := HT.out.hs.f 2
      have hlk := HLK.out t ht wr.drew HT.out.b.drew
      have a1 := HLF.out t
      have a2 := HR.out k hk3
      obtain ⟨L, hL⟩ : ∃ L, L = lftT 16776960 r t := ⟨_, rfl⟩
      obtain ⟨q, hq⟩ : ∃ q, q = r k := ⟨_, rfl⟩
      rw [← hL] at a1 HSM ⊢
      rw [← hq] at a2 xr hL1 HSM
      have HRK : Hid (r k = q) := hq.symm
      have hwr : IntKind.i64.wrap (L - q) = L - q := IntWalk.i64_in _ (by omega)
      have CP := fun W => plusTimes_any (smT 16776960 rs s c r t 0) (smT 16776960 rs s c r t 1) (smT 16776960 rs s c r t 2) (ndv rs s (pl c r t) 0) (ndv rs s (pl c r t) 1) (ndv rs s (pl c r t) 2) (L - q) W (by have := HSB.out t 0 (by omega) (by omega); omega) (by have := HSB.out t 1 (by omega) (by omega); omega) (by have := HSB.out t 2 (by omega) (by omega); omega) (HND.out t ht 0 (by omega)) (HND.out t ht 1 (by omega)) (HND.out t ht 2 (by omega)) (by omega)
      have HCP := Lib.hid CP
      clear CP hL hq hk
      go_wp2_with fail
      refine wp_region_still_tail 9 (by kernel_rfl) (by kernel_rfl) ?_
      simp only [List.take_succ_cons, List.take_zero, List.drop_succ_cons, List.drop_zero]
      repeat still_step
      refine wpStill_nil ?_
      change wpList _ _ _ _ _ wr.drew
      go_wp2_with fail
      refine (HCP.out _).mono ?_
      rintro e w3 ⟨rfl, hb⟩
      have HT2 := Lib.hid (HT.out.bel ((Below.refl _ _).drew.trans hb))
      rw [← HSM.out 0, ← HSM.out 1, ← HSM.out 2]
      clear hb HT x0 x1 x2 y0 y1 y2 z0 z1 z2 xa xr hlk hwr HCP HSM
      have x0 := HT2.out.hc.c 0 rfl
      have x1 := HT2.out.hc.c 1 rfl
      have x2 := HT2.out.hc.c 2 rfl
      have y0 := HT2.out.hs.c 0 rfl
      have y1 := HT2.out.hs.c 1 rfl
      have y2 := HT2.out.hs.c 2 rfl
      have z0 := HT2.out.hs.f 0
      have z1 := HT2.out.hs.f 1
      have z2 := HT2.out.hs.f 2
      have xr := rv_at HT2.out.hr hk3
      rw [HRK.out] at xr
      go_wp2_with fail
      obtain ⟨W3, hW3⟩ : ∃ W, W = (((w3).setCell ⟨w1.heap.size + 1 + 1, 0, none⟩ (.int .i64 (smT 16776960 rs s c r (t + 1) 0))).setCell ⟨w1.heap.size + 1 + 1, 1, none⟩ (.int .i64 (smT 16776960 rs s c r (t + 1) 1))).setCell ⟨w1.heap.size + 1 + 1, 2, none⟩ (.int .i64 (smT 16776960 rs s c r (t + 1) 2)) := ⟨_, rfl⟩
      have H3 := Lib.hid (HT2.out.sum (smT 16776960 rs s c r (t + 1)))
      have HGE := Lib.hid (And.intro HT2.out.ge (And.intro HT2.out.zl HT2.out.zw))
      rw [← hW3]
      replace H3 := Lib.hid (hW3 ▸ H3.out)
      clear hW3 x0 x1 x2 y0 y1 y2 z0 z1 z2 xr HT2
      refine (next_b _ _ _ k _ hk3 (HPB.out t ht 0 (by omega)) (HPB.out t ht 1 (by omega)) (HPB.out t ht 2 (by omega))).mono ?_
      rintro e w4 ⟨rfl, hb⟩
      rw [← HPL.out 0, ← HPL.out 1, ← HPL.out 2]
      have H4 : Hid (Bx w4 w1.heap.size (rv (pl c r t)) ∧ Bx w4 (w1.heap.size + 1) (rv r) ∧ Bx w4 (w1.heap.size + 1 + 1) (rv (smT 16776960 rs s c r (t + 1))) ∧ Bx w4 (w.heap.size + 1) (rv fun _ => 0) ∧ Bx w4 b (oax r) ∧ Below w.heap.size w w4) := by
        obtain ⟨q1, q2, q3, q4, q5, q6⟩ := H3.out
        exact ⟨q1.bel hb, q2.bel hb, q3.bel hb, q4.bel hb, q5.bel hb, blThen q6 hb⟩
      clear hb H3
      have x0 := H4.out.1.c 0 rfl
      have x1 := H4.out.1.c 1 rfl
      have x2 := H4.out.1.c 2 rfl
      have z0 := H4.out.1.f 0
      have z1 := H4.out.1.f 1
      have z2 := H4.out.1.f 2
      go_wp2_with fail
      have H5 : Hid (BtT 16776960 w ((((w4).setCell ⟨w1.heap.size, 0, none⟩ (.int .i64 (pl c r (t + 1) 0))).setCell ⟨w1.heap.size, 1, none⟩ (.int .i64 (pl c r (t + 1) 1))).setCell ⟨w1.heap.size, 2, none⟩ (.int .i64 (pl c r (t + 1) 2))) (w.heap.size + 1) w1.heap.size b rs s c r (t + 1)) := by
        obtain ⟨q1, q2, q3, q4, q5, q6⟩ := H4.out
        have := HGE.out.1
        have := HGE.out.2.1
        have := HGE.out.2.2
        exact ⟨rv_set3 (pl c r (t + 1)) q1, bx_oth3 q2 (by omega) _ _ _, bx_oth3 q3 (by omega) _ _ _, bx_oth3 q4 (by omega) _ _ _, bx_oth3 q5 (by omega) _ _ _, HGE.out.1, HGE.out.2.1, HGE.out.2.2, bel_set3 q6 (by omega) _ _ _⟩
      go_roundw
      case rel => exact ⟨t + 1, by omega, by go_num, by rw [hL1.out], H5⟩
      case measure => simp [intOf]; omega
    · obtain rfl : t = 3 := by omega
      have hL1 : Hid (∀ j, smT 16776960 rs s c r 4 j = smT 16776960 rs s c r 3 j + ndv rs s (pl c r 3) j * lftT 16776960 r 3) := fun j => by
        have : lftT 16776960 r 4 = 0 := by simp [lftT]
        simp only [smT]; rw [this, Int.sub_zero]
      have x0 := HT.out.hc.c 0 rfl
      have x1 := HT.out.hc.c 1 rfl
      have x2 := HT.out.hc.c 2 rfl
      have y0 := HT.out.hs.c 0 rfl
      have y1 := HT.out.hs.c 1 rfl
      have y2 := HT.out.hs.c 2 rfl
      have hlk := HLK.out 3 ht wr.drew HT.out.b.drew
      have a1 := HLF.out 3
      obtain ⟨L, hL⟩ : ∃ L, L = lftT 16776960 r 3 := ⟨_, rfl⟩
      rw [← hL] at a1 hL1 ⊢
      have CP := fun W => plusTimes_any (smT 16776960 rs s c r 3 0) (smT 16776960 rs s c r 3 1) (smT 16776960 rs s c r 3 2) (ndv rs s (pl c r 3) 0) (ndv rs s (pl c r 3) 1) (ndv rs s (pl c r 3) 2) L W (by have := HSB.out 3 0 (by omega) (by omega); omega) (by have := HSB.out 3 1 (by omega) (by omega); omega) (by have := HSB.out 3 2 (by omega) (by omega); omega) (HND.out 3 ht 0 (by omega)) (HND.out 3 ht 1 (by omega)) (HND.out 3 ht 2 (by omega)) (by omega)
      have HCP := Lib.hid CP
      clear CP hL
      go_wp2_with fail
      refine wp_region_still_tail 5 (by kernel_rfl) (by kernel_rfl) ?_
      simp only [List.take_succ_cons, List.take_zero, List.drop_succ_cons, List.drop_zero]
      repeat still_step
      refine wpStill_nil ?_
      change wpList _ _ _ _ _ wr.drew
      go_wp2_with fail
      refine (HCP.out _).mono ?_
      rintro e w3 ⟨rfl, hb⟩
      have HT2 := Lib.hid (HT.out.bel ((Below.refl _ _).drew.trans hb))
      rw [← hL1.out 0, ← hL1.out 1, ← hL1.out 2]
      clear hb HT x0 x1 x2 y0 y1 y2 hlk HCP hL1 a1
      have y0 := HT2.out.hs.c 0 rfl
      have y1 := HT2.out.hs.c 1 rfl
      have y2 := HT2.out.hs.c 2 rfl
      have z0 := HT2.out.hs.f 0
      have z1 := HT2.out.hs.f 1
      have z2 := HT2.out.hs.f 2
      have g0 := HT2.out.ge
      have g1 := HT2.out.zl
      have g2 := HT2.out.zw
      have b0 := HSB.out 4 0 (by omega) (by omega)
      have b1 := HSB.out 4 1 (by omega) (by omega)
      have b2 := HSB.out 4 2 (by omega) (by omega)
      obtain ⟨v, hv⟩ : ∃ v, v = smT 16776960 rs s c r 4 := ⟨_, rfl⟩
      rw [← hv] at b0 b1 b2 ⊢
      have HV := Lib.hid hv
      clear hv
      go_wp2_with fail
      obtain ⟨W3, hW3⟩ : ∃ W, W = (((w3).setCell ⟨w1.heap.size + 1 + 1, 0, none⟩ (.int .i64 (v 0))).setCell ⟨w1.heap.size + 1 + 1, 1, none⟩ (.int .i64 (v 1))).setCell ⟨w1.heap.size + 1 + 1, 2, none⟩ (.int .i64 (v 2)) := ⟨_, rfl⟩
      have H3 := Lib.hid (HT2.out.sum v)
      rw [← hW3]
      replace H3 := Lib.hid (hW3 ▸ H3.out)
      clear hW3 y0 y1 y2 z0 z1 z2 HT2
      have y0 := H3.out.2.2.1.c 0 rfl
      have y1 := H3.out.2.2.1.c 1 rfl
      have y2 := H3.out.2.2.1.c 2 rfl
      have z0 := H3.out.2.2.1.f 0
      have z1 := H3.out.2.2.1.f 1
      have z2 := H3.out.2.2.1.f 2
      have r0 := H3.out.2.2.2.1.c 0 rfl
      have r1 := H3.out.2.2.2.1.c 1 rfl
      have r2 := H3.out.2.2.2.1.c 2 rfl
      have u0 := H3.out.2.2.2.1.f 0
      have u1 := H3.out.2.2.2.1.f 1
      have u2 := H3.out.2.2.2.1.f 2
      refine wp_loop_rounds 4 ?_
      rw [rounds_succ]
      have ii := fun W => jx_0 (v 0) (v 1) (v 2) W
      go_wp2_with fail
      clear ii
      refine (nearest_any _ _ _ (by omega) (by omega) (by omega) (by omega)).mono ?_
      rintro e w' ⟨rfl, m0, rfl⟩
      go_wp2_with fail
      rw [rounds_succ]
      have ii := fun W => jx_1 (v 0) (v 1) (v 2) W
      go_wp2_with fail
      clear ii
      refine (nearest_any _ _ _ (by omega) (by omega) (by omega) (by omega)).mono ?_
      rintro e w' ⟨rfl, m1, rfl⟩
      go_wp2_with fail
      rw [rounds_succ]
      have ii := fun W => jx_2 (v 0) (v 1) (v 2) W
      go_wp2_with fail
      clear ii
      refine (nearest_any _ _ _ (by omega) (by omega) (by omega) (by omega)).mono ?_
      rintro e w' ⟨rfl, m2, rfl⟩
      go_wp2_with fail
      rw [rounds_succ]
      go_wp2_with fail
      have k0 := (((((((((H3.out.2.2.2.1.drewN m0).oth (c := w1.heap.size + 1 + 1) (by omega) 0 (.int .i64 (rnd (v 0 * 256) 16776960))).drewN m1).oth (c := w1.heap.size + 1 + 1) (by omega) 1 (.int .i64 (rnd (v 1 * 256) 16776960))).drewN m2).oth (c := w1.heap.size + 1 + 1) (by omega) 2 (.int .i64 (rnd (v 2 * 256) 16776960))).set 0 (.int .i64 (rnd (v 0 * 256) 16776960))).set 1 (.int .i64 (rnd (v 1 * 256) 16776960))).set 2 (.int .i64 (rnd (v 2 * 256) 16776960))).c 0 rfl
      have k1 := (((((((((H3.out.2.2.2.1.drewN m0).oth (c := w1.heap.size + 1 + 1) (by omega) 0 (.int .i64 (rnd (v 0 * 256) 16776960))).drewN m1).oth (c := w1.heap.size + 1 + 1) (by omega) 1 (.int .i64 (rnd (v 1 * 256) 16776960))).drewN m2).oth (c := w1.heap.size + 1 + 1) (by omega) 2 (.int .i64 (rnd (v 2 * 256) 16776960))).set 0 (.int .i64 (rnd (v 0 * 256) 16776960))).set 1 (.int .i64 (rnd (v 1 * 256) 16776960))).set 2 (.int .i64 (rnd (v 2 * 256) 16776960))).c 1 rfl
      have k2 := (((((((((H3.out.2.2.2.1.drewN m0).oth (c := w1.heap.size + 1 + 1) (by omega) 0 (.int .i64 (rnd (v 0 * 256) 16776960))).drewN m1).oth (c := w1.heap.size + 1 + 1) (by omega) 1 (.int .i64 (rnd (v 1 * 256) 16776960))).drewN m2).oth (c := w1.heap.size + 1 + 1) (by omega) 2 (.int .i64 (rnd (v 2 * 256) 16776960))).set 0 (.int .i64 (rnd (v 0 * 256) 16776960))).set 1 (.int .i64 (rnd (v 1 * 256) 16776960))).set 2 (.int .i64 (rnd (v 2 * 256) 16776960))).c 2 rfl
      refine bodyPost_ret (v := .agg #[.int .i64 (rnd (v 0 * 256) 16776960), .int .i64 (rnd (v 1 * 256) 16776960), .int .i64 (rnd (v 2 * 256) 16776960)]) (by simp [results, Try.results46, go_sem, k0, k1, k2]) rfl ⟨by rw [HV.out], ?_⟩
      clear k0 k1 k2
      repeat (first | with_reducible exact H3.out.2.2.2.2.2 | refine Below.setCell ?_ (by simp; try omega) _ | refine blThenDrew ?_ _)
theorem gridAt_k (o : Int) (ho : One o) (B s : Nat) (rs : Rws) (D : DataW Unit) (q : Nat → Int) (w : World) (hM : MapN w B s rs (s * s * s) D) (h0 : gf (s : Int) rs = 0) (hq : LvT (65535 * o) q) :
    Calls Try.prog 46 #[.map (some B), .int .i64 (s : Int), .agg #[.int .i64 (q 0), .int .i64 (q 1), .int .i64 (q 2)], .int .i64 o] w (PtAns w (gvo o s rs q 0) (gvo o s rs q 1) (gvo o s rs q 2)) := by
  unfold gvo
  rcases ho with rfl | rfl
  · have := gridAt_1 B s rs D q _ _ w hM h0 hq rfl rfl
    rw [Int.mul_one, Int.mul_one, Int.mul_one, Int.mul_one]
    exact this
  · exact gridAt_256 B s rs D q _ _ w hM h0 hq rfl rfl
end Go.Proofs.Ythplngcdldongaa
