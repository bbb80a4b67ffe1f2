/-
  A node of a grid by the reference model: l5Node, l1Ints, NodeOf.
  The cell and the rest of a level: the program's cellOfNumber, the model's l5Cell, l7FineCell.
  Evaluating a grid, plain mathematics: the axes by their rests (ax), the places on the way (pl), what is left (lft), the sums (sm).
  Evaluating a grid by levels or fine numbers, plain mathematics: what is left (lftT), the sums (smT), what a grid tells (gvo).
-/
import Derived.Test.YthplngcdldongaaGrdNA
import Derived.Test.YthplngcdldongaaMatEF
import Derived.Test.YthplngcdldongaaNumA
namespace Go.Proofs.Ythplngcdldongaa
open Go.RowKit
set_option linter.unusedVariables false

theorem add_at (b o j : Nat) : (⟨b, o, none⟩ : Addr).add j = ⟨b, o + j, none⟩ := by
  first
    | rfl
    | simp [Addr.add]
theorem heap_new (w : World) (o : Obj) : (w.alloc o).heap[w.heap.size]? = some o := by
  first
    | (show (w.heap.push o)[w.heap.size]? = some o; simp)
    | (unfold World.alloc; simp)
    | rfl
theorem OwnI.empty (w : World) (base : Nat) (hb : base ≤ w.heap.size) : OwnI (w.alloc (.cells #[] 2)) base (.slice (some ⟨w.heap.size, 0, none⟩) 0 0) 0 [] :=
  ⟨rfl, Or.inr ⟨w.heap.size, 0, #[], rfl, hb, heap_new _ _, Nat.le_refl _, Nat.zero_le _, rfl, rfl⟩⟩
/-- a whole list goes behind. -/
theorem wpList_append_list (w : World) {ops : Array Oper} {rest : List Oper} {o : Oper} {a : Act} {Q : Exit → Act → World → Prop} (hgd : o.guard = none) (s x : Operand)
    (ho : o.op = .call { callee := .builtin .append, args := #[s, x], argTypes := #[27, 27] })
    (base : Nat) (v : Value) (k : Nat) (ys : List Int) (hs : a.eval s = v) (hown : OwnI w base v k ys) (ad : Addr) (m c : Nat) (xs : List Int) (hx : a.eval x = .slice (some ad) m c) (hl : xs.length = m) (hcells : ∀ j, j < m → w.cell? (ad.add j) = some (.int .i64 (xs.getD j 0)))
    (hsm : k + m ≤ 1000000) (hbase : base ≤ w.heap.size)
    (h : ∀ v' w', OwnI w' base v' (k + m) (ys ++ xs) → w.grownBy w' v.ownBlock → (∀ g, v.ownBlock = some g → base ≤ g) → wpList Try.prog ops Q rest (a.put o.dst v') w') : wpList Try.prog ops Q (o :: rest) a w := by
  obtain ⟨i, hi, hz, hsz, hby⟩ := info_i64x
  refine wpList_append_own_at w hgd s x 27 ho base 2 i _ 1 8 Try.underlying27 hi hz hsz hby rfl (by omega) v k _ hs hown ad m c (ivals xs) hx (by simp [ivals, hl]) ?_ (ivals_one xs) (by unfold maxLen; omega) (by omega) hbase ?_
  · intro j u hj
    have hjl : j < m := by
      have := (List.getElem?_eq_some_iff.1 hj).1
      simpa [ivals, hl] using this
    rw [hcells j hjl]
    simp only [ivals, List.getElem?_map] at hj
    rw [List.getD, ← hj]
    obtain ⟨y, hy⟩ : ∃ y, xs[j]? = some y := ⟨xs[j]'(by omega), by simp⟩
    rw [hy]; rfl
  · intro v' w' a1 a2 _ a4
    exact h v' w' (by unfold OwnI; simpa [ivals] using a1) a2 (fun g hg => (World.ownsRow.lt hown g hg).1)
def SlAns (w : World) (n : Nat) (xs : List Int) (e : Ending) (w' : World) : Prop := ∃ B cp, e = .returned (.slice B n cp) ∧ Own w' (.ints .i64 xs) (.slice B n cp) w.heap.size w'.heap.size ∧ Below w.heap.size w w'
set_option maxHeartbeats 1000000 in
theorem sInts_any (b o n c : Nat) (xs : List Int) (w : World) (h : Rd .i64 w (some ⟨b, o, none⟩) n xs) (hn : 0 < n) (hsm : n ≤ 1000000) :
    Calls Try.prog 57 #[.slice (some ⟨b, o, none⟩) n c] w (SlAns w n xs) := by
  have H := Lib.hid h
  clear h
  go_enter Try.func57, Try.ntmps57
  go_wp2_with (at_builtin; refine wpList_append_list _ rfl _ _ rfl w.heap.size _ 0 [] rfl (OwnI.empty w _ (Nat.le_refl _)) ⟨b, o, none⟩ n c xs rfl H.out.1 (fun j hj => by
      obtain ⟨b', o', e, hx⟩ := (H.out.below (blAlloc w (.cells #[] 2))).2 hn
      injection e with e; injection e with e1 e2; subst e1; subst e2
      rw [add_at]; exact hx j hj) (by omega) (by simp) ?_; intro v3 w3 ho3 hg3 hgb)
  obtain ⟨A3, c3, rfl⟩ := ho3.form
  have HO := Lib.hid ho3
  have T := Lib.hid ((blAlloc w _).trans (gb_low' hg3 hgb (Nat.le_refl _) (by simp)))
  clear ho3 hg3 hgb
  go_wp2_with fail
  go_ret
  exact ⟨A3, c3, by simp, by have := HO.out.own; simpa using this, T.out⟩
def RowAns (w : World) (rs : Rws) (t : Nat) (e : Ending) (w' : World) : Prop := ∃ B L C gs m, e = .returned (.slice B L C) ∧ Hd w' (.ints .i64 (rw_ rs t)) (.slice B L C) gs ∧ w' = w.drewN m
set_option maxRecDepth 100000 in
set_option maxHeartbeats 2000000 in
theorem sNode5_any (g : Nat) (A : Option Addr) (n c : Nat) (sd : Int) (rs : Rws) (bs : List Nat) (b o d t : Nat) (p0 p1 p2 : Int) (w : World) (h : Hd w (rowsD rs) (.slice A n c) bs) (hg0 : w.cell? ⟨g, 0, none⟩ = some (.int .i64 sd)) (hg1 : w.cell? ⟨g, 1, none⟩ = some (.slice A n c))
    (x0 : w.cell? ⟨b, o, none⟩ = some (.int .i64 p0)) (x1 : w.cell? ⟨b, o + 1, none⟩ = some (.int .i64 p1)) (x2 : w.cell? ⟨b, o + 2, none⟩ = some (.int .i64 p2)) (ht : t < n) (he : (p0 * sd + p1) * sd + p2 = (t : Int)) (hs : sd = 2 ∨ sd = 3 ∨ sd = 4)
    (h0 : 0 ≤ p0 ∧ p0 ≤ 3) (h1 : 0 ≤ p1 ∧ p1 ≤ 3) (h2 : 0 ≤ p2 ∧ p2 ≤ 3) :
    Calls Try.prog 58 #[.pointer (some ⟨g, 0, none⟩), .slice (some ⟨b, o, none⟩) 3 d] w (RowAns w rs t) := by
  have q1 : -9223372036854775808 ≤ p0 * sd ∧ p0 * sd ≤ 9223372036854775807 := by rcases hs with rfl | rfl | rfl <;> omega
  have q2 : -9223372036854775808 ≤ p0 * sd + p1 ∧ p0 * sd + p1 ≤ 9223372036854775807 := by rcases hs with rfl | rfl | rfl <;> omega
  have q3 : -9223372036854775808 ≤ (p0 * sd + p1) * sd ∧ (p0 * sd + p1) * sd ≤ 9223372036854775807 := by rcases hs with rfl | rfl | rfl <;> omega
  obtain ⟨b', o', B1, L1, C1, g1, rfl, y1, y3, -⟩ := h.row ht
  have hn := h.rows.2
  have HY := Lib.hid y3
  have hL := HY.out.caps
  have hLm : n ≤ 9223372036854775807 := by have := hn.2.1; unfold maxLen at this; omega
  clear h y3 hn q1 q2 q3 hL
  rcases hs with rfl | rfl | rfl
  · go_enter Try.func58, Try.ntmps58
    go_wp2_with fail
    go_quiet (fail)
    go_wp2_with fail
    go_ret
    exact ⟨B1, L1, C1, g1, _, rfl, HY.out.bel (below_drewN _ _ _), rfl⟩
  · go_enter Try.func58, Try.ntmps58
    go_wp2_with fail
    go_quiet (fail)
    go_wp2_with fail
    go_ret
    exact ⟨B1, L1, C1, g1, _, rfl, HY.out.bel (below_drewN _ _ _), rfl⟩
  · go_enter Try.func58, Try.ntmps58
    go_wp2_with fail
    go_quiet (fail)
    go_wp2_with fail
    go_ret
    exact ⟨B1, L1, C1, g1, _, rfl, HY.out.bel (below_drewN _ _ _), rfl⟩
def F5 (W : World) (f : Int) (e : Ending) (w' : World) : Prop := e = .returned (.int .i64 f) ∧ ∃ m, w' = W.drewN m
set_option maxRecDepth 100000 in
set_option maxHeartbeats 4000000 in
theorem sNodeOf_any (A P : Option Addr) (n c m d : Nat) (sd : Int) (rs : Rws) (ps : List Int) (bs gs : List Nat) (w : World) (h : Hd w (rowsD rs) (.slice A n c) bs) (hp : Hd w (.ints .i64 ps) (.slice P m d) gs) :
    Calls Try.prog 16 #[.agg #[.int .i64 sd, .slice A n c], .slice P m d] w (IAns w (ncd sd rs ps) (nls sd rs ps)) := by
  have hl := h.rows.1
  have hpl := hp.rd.1
  have hpm := hp.caps.2
  have hpc := hp.caps.1
  unfold maxLen at hpm
  obtain ⟨W0, hW0⟩ : ∃ W0, W0 = (w.alloc (.cells #[.int .i64 sd, .slice A n c] 26)).alloc (.cells #[.int .i64 0, .slice none 0 0] 31) := ⟨_, rfl⟩
  have g0 : W0.cell? ⟨w.heap.size, 0, none⟩ = some (.int .i64 sd) := by rw [hW0]; exact cell_later (blAlloc _ _) (by simp)
  have g1 : W0.cell? ⟨w.heap.size, 1, none⟩ = some (.slice A n c) := by rw [hW0]; exact cell_later (blAlloc _ _) (by simp)
  have r0 : W0.cell? ⟨w.heap.size + 1, 0, none⟩ = some (.int .i64 0) := by rw [hW0, newCell _ _ _ _ _ (by simp)]; rfl
  have r1 : W0.cell? ⟨w.heap.size + 1, 1, none⟩ = some (.slice none 0 0) := by rw [hW0, newCell _ _ _ _ _ (by simp)]; rfl
  have rf : ∀ i, W0.frozen? ⟨w.heap.size + 1, i, none⟩ = false := fun i => by rw [hW0, newFrz _ _ _ _ _ (by simp)]
  have hz : w.heap.size + 1 < W0.heap.size := cell_lt r0
  have T : Hid (Below w.heap.size w W0) := by show Below _ _ _; rw [hW0]; exact blThenAlloc (blAlloc _ _) _
  have H : Hid (Hd W0 (rowsD rs) (.slice A n c) bs) := by show Hd _ _ _ _; rw [hW0]; exact (h.alloc _).alloc _
  have HP : Hid (Rd .i64 W0 P m ps) := by show Rd _ _ _ _ _; rw [hW0]; exact (hp.rd.alloc _).alloc _
  obtain ⟨f, hfe⟩ : ∃ f, gf sd rs = f := ⟨_, rfl⟩
  have CF : Hid (Calls Try.prog 55 #[.pointer (some ⟨w.heap.size, 0, none⟩)] W0 (F5 W0 f)) := by
    show Calls _ _ _ _ _
    rw [← hfe]; exact sFault5_any _ _ _ _ _ rs _ _ H.out g0 g1
  have HW := Lib.hid hW0
  clear h hp
  by_cases h0 : f = 0
  · subst h0
    obtain ⟨hs, hlen, hrow⟩ := gf_zero hfe
    have hsd := side_cases hs
    by_cases hm : m = 3
    · subst hm
      obtain ⟨b, o, rfl, hx⟩ := HP.out.2 (by omega)
      have HX := Lib.hid hx
      have HY := Lib.hid (fun q => ncd_y hfe hpl q)
      have HN := Lib.hid (fun q => ncd_n hfe hpl q)
      have HSD := Lib.hid hsd
      have hs1 : 2 ≤ sd ∧ sd ≤ 4 := by omega
      have HLEN := Lib.hid hlen
      have HL := Lib.hid hl
      have HROW := Lib.hid hrow
      clear hx hfe hs hlen hrow hsd hl hpl hW0
      go_enter Try.func16, Try.ntmps16
      go_wp2_with fail
      rw [← HW.out]
      refine CF.out.mono ?_
      rintro e w1 ⟨rfl, q0, rfl⟩
      clear CF HW
      go_wp2_with fail
      go_loopw [6] (fun x wr => ∃ i q : Nat, i ≤ 3 ∧ x = .int .i64 i ∧ Hid (∀ j, j < i → inB (ps.getD j 0) 0 (sd - 1) = true) ∧ wr = W0.drewN q) (fun x _ => 3 - (intOf x).toNat)
      case atStart => exact ⟨0, _, by omega, rfl, fun j hj => absurd hj (by omega), rfl⟩
      case round =>
        obtain ⟨i, q, hi, rfl, hin, rfl⟩ := hrel
        by_cases hlt : i < 3
        · have y1 := HX.out i hlt
          obtain ⟨v, hv⟩ : ∃ v, v = ps.getD i 0 := ⟨_, rfl⟩
          rw [← hv] at y1
          rcases Bool.eq_false_or_eq_true (inB v 0 (sd - 1)) with hb | hb
          · have HIN : Hid (∀ j, j < i + 1 → inB (ps.getD j 0) 0 (sd - 1) = true) := fun j hj => by
              by_cases e : j = i
              · subst e; rw [← hv]; exact hb
              · exact hin.out j (by omega)
            have CT : Hid (∀ W, Calls Try.prog 56 #[.int .i64 v, .int .i64 0, .int .i64 (sd - 1)] W fun e w' => e = .returned (.bool true) ∧ ∃ m, w' = W.drewN m) := fun W => (sIn_any v 0 (sd - 1) W).mono fun e w' ⟨he, hw⟩ => ⟨by rw [he, hb], 0, hw.symm⟩
            clear hb hv hin
            go_wp2_with fail
            go_quiet ((go_at_call 56; first | exact Calls.quiet_of (CT.out _) | exact quietAD' (CT.out _)))
            go_wp2_with fail
            go_roundw
            case rel => exact ⟨i + 1, _, by omega, by go_num, HIN.out, rfl⟩
            case measure => simp [intOf]; omega
          · have HA : Hid (ncd sd rs ps = 3 ∧ nls sd rs ps = []) := HN.out (by
              rcases Bool.eq_false_or_eq_true (inS sd ps) with r | r
              · exfalso
                obtain ⟨u0, u1, u2⟩ := inS_iff.1 r
                have : inB v 0 (sd - 1) = true := by
                  rw [hv]
                  match i, hlt with
                  | 0, _ => exact inB_iff.2 u0
                  | 1, _ => exact inB_iff.2 u1
                  | 2, _ => exact inB_iff.2 u2
                rw [this] at hb; cases hb
              · exact r)
            have CT : Hid (∀ W, Calls Try.prog 56 #[.int .i64 v, .int .i64 0, .int .i64 (sd - 1)] W fun e w' => e = .returned (.bool false) ∧ ∃ m, w' = W.drewN m) := fun W => (sIn_any v 0 (sd - 1) W).mono fun e w' ⟨he, hw⟩ => ⟨by rw [he, hb], 0, hw.symm⟩
            clear hb hv hin
            go_wp2_with fail
            go_quiet ((go_at_call 56; first | exact Calls.quiet_of (CT.out _) | exact quietAD' (CT.out _)))
            go_wp2_with fail
            refine bodyPost_ret (v := .agg #[.int .i64 3, .slice none 0 0]) (by simp [results, Try.results16, go_sem, r0, r1]) rfl (IAns.bad HA.out ?_)
            repeat (refine Below.setCell ?_ (by simp; try omega) _)
            first | exact (T.out.trans (below_drewN _ _ _)) | exact (T.out.trans (below_drewN _ _ _)).trans (below_drewN _ _ _)
        · obtain rfl : i = 3 := by omega
          have HS : Hid (inS sd ps = true) := inS_iff.2 ⟨inB_iff.1 (hin.out 0 (by omega)), inB_iff.1 (hin.out 1 (by omega)), inB_iff.1 (hin.out 2 (by omega))⟩
          have y0 := HX.out 0 (by omega)
          have y1 := HX.out 1 (by omega)
          have y2 := HX.out 2 (by omega)
          rw [Nat.add_zero] at y0
          obtain ⟨u0, u1, u2⟩ := inS_iff.1 HS.out
          have hsN : ∃ s : Nat, sd = s ∧ (s = 2 ∨ s = 3 ∨ s = 4) := ⟨sd.toNat, by omega, by have := HSD.out; omega⟩
          have HT : Hid (ndI sd ps < n ∧ (ps.getD 0 0 * sd + ps.getD 1 0) * sd + ps.getD 2 0 = ((ndI sd ps : Nat) : Int)) := by
            obtain ⟨s, rfl, h3⟩ := hsN
            obtain ⟨t1, t2, _⟩ := nd_yes h3 HS.out
            refine ⟨?_, t2.symm⟩
            have e1 := HLEN.out
            rw [HL.out] at e1
            have e2 : ((s * s * s : Nat) : Int) = (s : Int) * s * s := by simp
            omega
          have HA := Lib.hid (HY.out HS.out)
          have CNODE := Lib.hid (fun q => sNode5_any w.heap.size A n c sd rs bs b o d (ndI sd ps) _ _ _ (W0.drewN q) (H.out.bel (below_drewN _ _ _)) g0 g1 y0 y1 y2 HT.out.1 HT.out.2 HSD.out (by omega) (by omega) (by omega))
          have h3l := Lib.hid (lf_zero (HROW.out (ndI sd ps) (by rw [HL.out]; exact HT.out.1))).1
          clear hin y0 y1 y2 u0 u1 u2 hsN
          go_wp2_with fail
          refine (CNODE.out _).mono ?_
          rintro e w2 ⟨B1, L1, C1, gs1, q1, rfl, hd1, rfl⟩
          have hr1 := hd1.rd
          have hL1 := hr1.1
          rw [h3l.out] at hL1
          obtain rfl : L1 = 3 := hL1.symm
          rw [World.drewN_drewN] at hr1
          obtain ⟨b1, o1, rfl, -⟩ := hr1.2 (by omega)
          have HR1 := Lib.hid hr1
          clear hd1 hr1 hL1 CNODE
          go_wp2_with fail
          refine (sInts_any b1 o1 3 C1 _ _ HR1.out (by omega) (by omega)).mono ?_
          rintro e w3 ⟨B3, cp3, rfl, ho3, hb3⟩
          have s0 : w3.cell? ⟨w.heap.size + 1, 0, none⟩ = some (.int .i64 0) := cell_later hb3 r0
          have s1 : w3.cell? ⟨w.heap.size + 1, 1, none⟩ = some (.slice none 0 0) := cell_later hb3 r1
          have hf3 := (bcell hb3).2
          have hz3 : w.heap.size + 1 < w3.heap.size := cell_lt s0
          have sf : ∀ i, w3.frozen? ⟨w.heap.size + 1, i, none⟩ = false := fun i => by rw [hf3 _ _ hz]; exact rf i
          have HO3 := Lib.hid ho3
          have T3 := Lib.hid (blThen (T.out.trans (below_drewN _ _ _)) hb3)
          clear ho3 hb3 hf3
          go_wp2_with fail
          refine bodyPost_ret (v := .agg #[.int .i64 0, .slice B3 3 cp3]) (by simp [results, Try.results16, go_sem, s0, s1]) rfl ⟨_, _, _, by rw [HA.out.1], ?_, ?_⟩
          · rw [HA.out.2]
            refine Own.mono (lo := W0.heap.size) (hi := w3.heap.size) ?_ (by omega) (by simp [World.setCell])
            repeat (first | exact HO3.out | refine Own.set ?_ (.inl (by omega)) _ _)
          · repeat (first | exact T3.out | refine Below.setCell ?_ (by simp; try omega) _)
    · have HA := Lib.hid (ncd_l (ps := ps) hfe (by omega))
      have hqm : ((m : Int) == 3) = false := by simp; omega
      clear hfe hs hlen hrow hsd hl hpl hW0
      go_enter Try.func16, Try.ntmps16
      go_wp2_with fail
      rw [← HW.out]
      refine CF.out.mono ?_
      rintro e w1 ⟨rfl, q0, rfl⟩
      clear CF HW
      go_wp2_with fail
      refine bodyPost_ret (v := .agg #[.int .i64 2, .slice none 0 0]) (by simp [results, Try.results16, go_sem, r0, r1]) rfl (IAns.bad HA.out ?_)
      repeat (refine Below.setCell ?_ (by simp; try omega) _)
      exact T.out.trans (below_drewN _ _ _)
  · have HA : Hid (ncd sd rs ps = f ∧ nls sd rs ps = []) := by have q := ncd_f (ps := ps) (sd := sd) (rs := rs) (by rw [hfe]; exact h0); rw [hfe] at q; exact q
    have hqn : (f == 0) = false := by simpa using h0
    clear hfe hl hpl hW0
    go_enter Try.func16, Try.ntmps16
    go_wp2_with fail
    rw [← HW.out]
    refine CF.out.mono ?_
    rintro e w1 ⟨rfl, q0, rfl⟩
    clear CF HW
    go_wp2_with fail
    refine bodyPost_ret (v := .agg #[.int .i64 f, .slice none 0 0]) (by simp [results, Try.results16, go_sem, r0, r1]) rfl (IAns.bad HA.out ?_)
    repeat (refine Below.setCell ?_ (by simp; try omega) _)
    exact T.out.trans (below_drewN _ _ _)
theorem nls_len (sd : Int) (rs : Rws) (ps : List Int) : (nls sd rs ps).length ≤ 3 := by
  unfold nls
  split
  · rename_i h
    by_cases e : ndI sd ps < rs.length
    · exact Nat.le_of_eq (lf_zero ((gf_zero h.1).2.2 _ e)).1
    · have : rw_ rs (ndI sd ps) = [] := by simp [rw_, List.getD, Nat.le_of_not_lt e]
      rw [this]; simp
  · simp
end Go.Proofs.Ythplngcdldongaa
namespace Go.Proofs.Ythplngcdldongaa
open Go.RowKit
set_option linter.unusedVariables false

def clC (sd v : Int) : Int := if v = 65535 then sd - 2 else v * (sd - 1) / 65535
def clR (sd v : Int) : Int := if v = 65535 then 65535 else v * (sd - 1) % 65535
def ClAns (w : World) (sd v : Int) (e : Ending) (w' : World) : Prop := e = .returned (.tuple #[.int .i64 (clC sd v), .int .i64 (clR sd v)]) ∧ w = w'
theorem ClAns.mk {w w' : World} {sd v a b : Int} (h1 : clC sd v = a) (h2 : clR sd v = b) (hw : w = w') : ClAns w sd v (.returned (.tuple #[.int .i64 a, .int .i64 b])) w' := ⟨by rw [h1, h2], hw⟩
/-- with levels or fine numbers, T the last one. -/
def clCT (T sd v : Int) : Int := if v = T then sd - 2 else v * (sd - 1) / T
def clRT (T sd v : Int) : Int := if v = T then T else v * (sd - 1) % T
def ClAnsT (T : Int) (w : World) (sd v : Int) (e : Ending) (w' : World) : Prop := e = .returned (.tuple #[.int .i64 (clCT T sd v), .int .i64 (clRT T sd v)]) ∧ ∃ m, w' = w.drewN m
theorem ClAnsT.mk {T : Int} {w w' : World} {sd v a b : Int} (h1 : clCT T sd v = a) (h2 : clRT T sd v = b) (hw : ∃ m, w' = w.drewN m) : ClAnsT T w sd v (.returned (.tuple #[.int .i64 a, .int .i64 b])) w' := ⟨by rw [h1, h2], hw⟩
set_option maxHeartbeats 1000000 in
theorem cellOfNumber_1 (sd v : Int) (w : World) (hs : sd = 2 ∨ sd = 3 ∨ sd = 4) (h0 : 0 ≤ v) (h1 : v ≤ 65535) : Calls Try.prog 91 #[.int .i64 sd, .int .i64 v, .int .i64 65535] w (ClAnsT 65535 w sd v) := by
  by_cases hv : v = 65535
  · subst hv
    have HC : Hid (clCT 65535 sd 65535 = sd - 2) := by show _ = _; unfold clCT; rw [if_pos rfl]
    have HR : Hid (clRT 65535 sd 65535 = 65535) := by show _ = _; unfold clRT; rw [if_pos rfl]
    have hsb : 2 ≤ sd ∧ sd ≤ 4 := by omega
    clear hs
    go_enter Try.func91, Try.ntmps91
    go_wp2
    go_ret2
    exact ClAnsT.mk HC.out HR.out ⟨0, rfl⟩
  · have HC : Hid (clCT 65535 sd v = v * (sd - 1) / 65535) := by show _ = _; unfold clCT; rw [if_neg hv]
    have HR : Hid (clRT 65535 sd v = v * (sd - 1) % 65535) := by show _ = _; unfold clRT; rw [if_neg hv]
    have he : (v == 65535) = false := by simpa using hv
    rcases hs with rfl | rfl | rfl
    all_goals
      go_enter Try.func91, Try.ntmps91
      go_wp2
      go_quiet (fail)
      go_wp2
      go_ret2
      exact ClAnsT.mk (by rw [HC.out]; simp) (by rw [HR.out]; simp) ⟨_, rfl⟩
set_option maxHeartbeats 1000000 in
theorem cellOfNumber_256 (sd v : Int) (w : World) (hs : sd = 2 ∨ sd = 3 ∨ sd = 4) (h0 : 0 ≤ v) (h1 : v ≤ 16776960) : Calls Try.prog 91 #[.int .i64 sd, .int .i64 v, .int .i64 16776960] w (ClAnsT 16776960 w sd v) := by
  by_cases hv : v = 16776960
  · subst hv
    have HC : Hid (clCT 16776960 sd 16776960 = sd - 2) := by show _ = _; unfold clCT; rw [if_pos rfl]
    have HR : Hid (clRT 16776960 sd 16776960 = 16776960) := by show _ = _; unfold clRT; rw [if_pos rfl]
    have hsb : 2 ≤ sd ∧ sd ≤ 4 := by omega
    clear hs
    go_enter Try.func91, Try.ntmps91
    go_wp2
    go_ret2
    exact ClAnsT.mk HC.out HR.out ⟨0, rfl⟩
  · have HC : Hid (clCT 16776960 sd v = v * (sd - 1) / 16776960) := by show _ = _; unfold clCT; rw [if_neg hv]
    have HR : Hid (clRT 16776960 sd v = v * (sd - 1) % 16776960) := by show _ = _; unfold clRT; rw [if_neg hv]
    have he : (v == 16776960) = false := by simpa using hv
    rcases hs with rfl | rfl | rfl
    all_goals
      go_enter Try.func91, Try.ntmps91
      go_wp2
      go_quiet (fail)
      go_wp2
      go_ret2
      exact ClAnsT.mk (by rw [HC.out]; simp) (by rw [HR.out]; simp) ⟨_, rfl⟩
set_option maxHeartbeats 1000000 in
theorem sCell5_any (sd v : Int) (w : World) (hs : sd = 2 ∨ sd = 3 ∨ sd = 4) (h0 : 0 ≤ v) (h1 : v ≤ 65535) : Calls Try.prog 93 #[.int .i64 sd, .int .i64 v] w (ClAns w sd v) := by
  by_cases hv : v = 65535
  · subst hv
    have HC : Hid (clC sd 65535 = sd - 2) := by show _ = _; unfold clC; rw [if_pos rfl]
    have HR : Hid (clR sd 65535 = 65535) := by show _ = _; unfold clR; rw [if_pos rfl]
    have hsb : 2 ≤ sd ∧ sd ≤ 4 := by omega
    clear hs
    go_enter Try.func93, Try.ntmps93
    go_wp2
    go_ret2
    exact ClAns.mk HC.out HR.out rfl
  · have HC : Hid (clC sd v = v * (sd - 1) / 65535) := by show _ = _; unfold clC; rw [if_neg hv]
    have HR : Hid (clR sd v = v * (sd - 1) % 65535) := by show _ = _; unfold clR; rw [if_neg hv]
    have he : (v == 65535) = false := by simpa using hv
    rcases hs with rfl | rfl | rfl
    · go_enter Try.func93, Try.ntmps93
      go_wp2
      go_ret2
      exact ClAns.mk (by rw [HC.out]; simp) (by rw [HR.out]; simp) rfl
    · go_enter Try.func93, Try.ntmps93
      go_wp2
      go_ret2
      exact ClAns.mk (by rw [HC.out]; simp) (by rw [HR.out]; simp) rfl
    · go_enter Try.func93, Try.ntmps93
      go_wp2
      go_ret2
      exact ClAns.mk (by rw [HC.out]; simp) (by rw [HR.out]; simp) rfl
end Go.Proofs.Ythplngcdldongaa
namespace Go.Proofs.Ythplngcdldongaa
set_option linter.unusedVariables false

/-- the axes by their rests, the greatest first, the lower one of like rests ahead. -/
def ax (r : Nat → Int) (t : Nat) : Nat :=
  if r 1 > r 0 then
    (if r 2 > r 0 then (if r 2 > r 1 then 2 - t else (if t = 0 then 1 else if t = 1 then 2 else 0)) else (if t = 0 then 1 else if t = 1 then 0 else 2))
  else
    (if r 2 > r 1 then (if r 2 > r 0 then (if t = 0 then 2 else if t = 1 then 0 else 1) else (if t = 0 then 0 else if t = 1 then 2 else 1)) else t)
theorem ax_lt (r : Nat → Int) {t : Nat} (ht : t < 3) : ax r t < 3 := by unfold ax; split <;> split <;> (try split) <;> (try split) <;> (try split) <;> omega
def bump (x : Nat → Int) (k j : Nat) : Int := if j = k then x j + 1 else x j
def pl (c r : Nat → Int) : Nat → Nat → Int
  | 0 => c
  | t + 1 => bump (pl c r t) (ax r t)
def lft (r : Nat → Int) : Nat → Int
  | 0 => 65535
  | t + 1 => if t < 3 then r (ax r t) else 0
theorem ax_ne (r : Nat → Int) : ax r 0 ≠ ax r 1 ∧ ax r 0 ≠ ax r 2 ∧ ax r 1 ≠ ax r 2 := by
  unfold ax
  by_cases h1 : r 1 > r 0 <;> by_cases h2 : r 2 > r 0 <;> by_cases h3 : r 2 > r 1 <;> simp [h1, h2, h3]
theorem pl_bd (c r : Nat → Int) {t : Nat} (ht : t ≤ 3) {j : Nat} (hj : j < 3) : c j ≤ pl c r t j ∧ pl c r t j ≤ c j + 1 := by
  have h3 : t = 0 ∨ t = 1 ∨ t = 2 ∨ t = 3 := by omega
  have hj3 : j = 0 ∨ j = 1 ∨ j = 2 := by omega
  rcases h3 with rfl | rfl | rfl | rfl
  · simp [pl]
    omega
  · simp only [pl, bump]
    split <;> omega
  · simp only [pl, bump]
    have := (ax_ne r).1
    split <;> split <;> omega
  · simp only [pl, bump]
    obtain ⟨h01, h02, h12⟩ := ax_ne r
    split <;> split <;> split <;> omega
/-- level i of the node at a place. -/
def ndv (rs : Rws) (sd : Int) (x : Nat → Int) (i : Nat) : Int := (rw_ rs (ndI sd [x 0, x 1, x 2])).getD i 0
def sm (rs : Rws) (sd : Int) (c r : Nat → Int) : Nat → Nat → Int
  | 0, _ => 0
  | t + 1, i => sm rs sd c r t i + ndv rs sd (pl c r t) i * (lft r t - lft r (t + 1))
def Lv (f : Nat → Int) : Prop := ∀ k, k < 3 → 0 ≤ f k ∧ f k ≤ 65535
theorem lft_bd {r : Nat → Int} (hr : Lv r) (t : Nat) : 0 ≤ lft r t ∧ lft r t ≤ 65535 := by
  cases t with
  | zero => simp [lft]
  | succ t =>
    simp only [lft]
    split
    · rename_i h; exact hr _ (ax_lt r h)
    · omega
/-- the cell and the rests of a colour. -/
def cc (sd : Int) (v : Nat → Int) (j : Nat) : Int := clC sd (v j)
def cr (sd : Int) (v : Nat → Int) (j : Nat) : Int := clR sd (v j)
theorem cc_bd {sd : Int} {v : Nat → Int} (hs : sd = 2 ∨ sd = 3 ∨ sd = 4) (hv : Lv v) {j : Nat} (hj : j < 3) : 0 ≤ cc sd v j ∧ cc sd v j ≤ sd - 2 := by
  have h := hv j hj
  unfold cc clC
  split
  · omega
  · rcases hs with rfl | rfl | rfl <;> omega
theorem cr_bd {sd : Int} {v : Nat → Int} (hs : sd = 2 ∨ sd = 3 ∨ sd = 4) (hv : Lv v) : Lv (cr sd v) := by
  intro j hj
  have h := hv j hj
  unfold cr clR
  split
  · omega
  · rcases hs with rfl | rfl | rfl <;> omega
theorem pl_in {sd : Int} {v r : Nat → Int} (hs : sd = 2 ∨ sd = 3 ∨ sd = 4) (hv : Lv v) {t : Nat} (ht : t ≤ 3) : inS sd [pl (cc sd v) r t 0, pl (cc sd v) r t 1, pl (cc sd v) r t 2] = true := by
  have h0 := pl_bd (cc sd v) r ht (j := 0) (by omega)
  have h1 := pl_bd (cc sd v) r ht (j := 1) (by omega)
  have h2 := pl_bd (cc sd v) r ht (j := 2) (by omega)
  have g0 := cc_bd hs hv (j := 0) (by omega)
  have g1 := cc_bd hs hv (j := 1) (by omega)
  have g2 := cc_bd hs hv (j := 2) (by omega)
  rw [inS_iff]
  simp only [List.getD_cons_zero, List.getD_cons_succ]
  omega
theorem ndv_bd {s : Nat} {rs : Rws} (h0 : gf (s : Int) rs = 0) {x : Nat → Int} (hx : inS (s : Int) [x 0, x 1, x 2] = true) : Lv (ndv rs s x) := by
  obtain ⟨hs, hlen, hrow⟩ := gf_zero h0
  have h3 : s = 2 ∨ s = 3 ∨ s = 4 := by rcases side_cases hs with e | e | e <;> omega
  have hNI : ((s * s * s : Nat) : Int) = (s : Int) * s * s := by simp
  have hNN : rs.length = s * s * s := by rw [← hNI] at hlen; omega
  obtain ⟨t1, _⟩ := nd_yes h3 hx
  intro k hk
  exact inB_iff.1 ((lf_zero (hrow _ (by rw [hNN]; exact t1))).2 k hk)
theorem mul_bd {a b : Int} (ha : 0 ≤ a ∧ a ≤ 65535) (hb : -65535 ≤ b ∧ b ≤ 65535) : -4294836225 ≤ a * b ∧ a * b ≤ 4294836225 := by
  have h : (a * b).natAbs ≤ 65535 * 65535 := by rw [Int.natAbs_mul]; exact Nat.mul_le_mul (by omega) (by omega)
  omega
theorem sm_bd {s : Nat} {rs : Rws} {c r : Nat → Int} (hr : Lv r) (hn : ∀ t, t ≤ 3 → Lv (ndv rs s (pl c r t))) {i : Nat} (hi : i < 3) : ∀ t, t ≤ 4 → -4294836225 * t ≤ sm rs s c r t i ∧ sm rs s c r t i ≤ 4294836225 * t := by
  intro t
  induction t with
  | zero => intro _; simp [sm]
  | succ t ih =>
    intro ht
    have h1 := ih (by omega)
    have h2 := mul_bd (hn t (by omega) i hi) (b := lft r t - lft r (t + 1)) (by have := lft_bd hr t; have := lft_bd hr (t + 1); omega)
    simp only [sm]
    have e : ((t + 1 : Nat) : Int) = (t : Int) + 1 := by simp
    rw [e]
    omega
/-- what a grid tells. -/
def gvl (sd : Int) (rs : Rws) (v : Nat → Int) (i : Nat) : Int := rnd (sm rs sd (cc sd v) (cr sd v) 4 i) 65535
def egC (sd : Int) (rs : Rws) (xs : List Int) : Int := if gf sd rs = 0 then lf xs else gf sd rs
def egL (sd : Int) (rs : Rws) (xs : List Int) : List Int := if gf sd rs = 0 ∧ lf xs = 0 then [gvl sd rs (xs.getD · 0) 0, gvl sd rs (xs.getD · 0) 1, gvl sd rs (xs.getD · 0) 2] else []
theorem eg_f {sd : Int} {rs : Rws} {xs : List Int} (h : gf sd rs ≠ 0) : egC sd rs xs = gf sd rs ∧ egL sd rs xs = [] := ⟨by unfold egC; rw [if_neg h], by unfold egL; rw [if_neg (fun q => h q.1)]⟩
theorem eg_l {sd : Int} {rs : Rws} {xs : List Int} (h : gf sd rs = 0) (h1 : lf xs ≠ 0) : egC sd rs xs = lf xs ∧ egL sd rs xs = [] := ⟨by unfold egC; rw [if_pos h], by unfold egL; rw [if_neg (fun q => h1 q.2)]⟩
theorem eg_y {sd : Int} {rs : Rws} {xs : List Int} (h : gf sd rs = 0) (h1 : lf xs = 0) : egC sd rs xs = 0 ∧ egL sd rs xs = [gvl sd rs (xs.getD · 0) 0, gvl sd rs (xs.getD · 0) 1, gvl sd rs (xs.getD · 0) 2] := ⟨by unfold egC; rw [if_pos h, h1], by unfold egL; rw [if_pos ⟨h, h1⟩]⟩
theorem eg_len (sd : Int) (rs : Rws) (xs : List Int) : (egL sd rs xs).length ≤ 3 := by unfold egL; split <;> simp
end Go.Proofs.Ythplngcdldongaa
namespace Go.Proofs.Ythplngcdldongaa
set_option linter.unusedVariables false

def lftT (T : Int) (r : Nat → Int) : Nat → Int
  | 0 => T
  | t + 1 => if t < 3 then r (ax r t) else 0
def smT (T : Int) (rs : Rws) (sd : Int) (c r : Nat → Int) : Nat → Nat → Int
  | 0, _ => 0
  | t + 1, i => smT T rs sd c r t i + ndv rs sd (pl c r t) i * (lftT T r t - lftT T r (t + 1))
def LvT (T : Int) (f : Nat → Int) : Prop := ∀ k, k < 3 → 0 ≤ f k ∧ f k ≤ T
def ccT (T sd : Int) (v : Nat → Int) (j : Nat) : Int := clCT T sd (v j)
def crT (T sd : Int) (v : Nat → Int) (j : Nat) : Int := clRT T sd (v j)
/-- the last number. -/
def Top (T : Int) : Prop := T = 65535 ∨ T = 16776960
theorem One.top {o : Int} (h : One o) : Top (65535 * o) := by
  rcases h with rfl | rfl
  · exact .inl rfl
  · exact .inr rfl
theorem lftT_1 (r : Nat → Int) (t : Nat) : lftT 65535 r t = lft r t := by cases t <;> rfl
theorem smT_1 (rs : Rws) (sd : Int) (c r : Nat → Int) (i : Nat) : ∀ t, smT 65535 rs sd c r t i = sm rs sd c r t i := by
  intro t
  induction t with
  | zero => rfl
  | succ t ih => simp only [smT, sm]; rw [ih, lftT_1, lftT_1]
theorem ccT_1 (sd : Int) (v : Nat → Int) : ccT 65535 sd v = cc sd v := rfl
theorem crT_1 (sd : Int) (v : Nat → Int) : crT 65535 sd v = cr sd v := rfl
theorem lftT_bd {T : Int} (hT : Top T) {r : Nat → Int} (hr : LvT T r) (t : Nat) : 0 ≤ lftT T r t ∧ lftT T r t ≤ T := by
  have h0 : 0 ≤ T := by rcases hT with rfl | rfl <;> omega
  cases t with
  | zero => simp only [lftT]; omega
  | succ t =>
    simp only [lftT]
    split
    · rename_i h; exact hr _ (ax_lt r h)
    · omega
theorem ccT_bd {T sd : Int} (hT : Top T) {v : Nat → Int} (hs : sd = 2 ∨ sd = 3 ∨ sd = 4) (hv : LvT T v) {j : Nat} (hj : j < 3) : 0 ≤ ccT T sd v j ∧ ccT T sd v j ≤ sd - 2 := by
  have h := hv j hj
  unfold ccT clCT
  split
  · omega
  · rcases hT with rfl | rfl <;> rcases hs with rfl | rfl | rfl <;> omega
theorem crT_bd {T sd : Int} (hT : Top T) {v : Nat → Int} (hs : sd = 2 ∨ sd = 3 ∨ sd = 4) (hv : LvT T v) : LvT T (crT T sd v) := by
  intro j hj
  have h := hv j hj
  unfold crT clRT
  split
  · omega
  · rcases hT with rfl | rfl <;> rcases hs with rfl | rfl | rfl <;> omega
theorem plT_in {T sd : Int} (hT : Top T) {v r : Nat → Int} (hs : sd = 2 ∨ sd = 3 ∨ sd = 4) (hv : LvT T v) {t : Nat} (ht : t ≤ 3) : inS sd [pl (ccT T sd v) r t 0, pl (ccT T sd v) r t 1, pl (ccT T sd v) r t 2] = true := by
  have h0 := pl_bd (ccT T sd v) r ht (j := 0) (by omega)
  have h1 := pl_bd (ccT T sd v) r ht (j := 1) (by omega)
  have h2 := pl_bd (ccT T sd v) r ht (j := 2) (by omega)
  have g0 := ccT_bd hT hs hv (j := 0) (by omega)
  have g1 := ccT_bd hT hs hv (j := 1) (by omega)
  have g2 := ccT_bd hT hs hv (j := 2) (by omega)
  rw [inS_iff]
  simp only [List.getD_cons_zero, List.getD_cons_succ]
  omega
theorem mul_bdT {a b : Int} (ha : 0 ≤ a ∧ a ≤ 65535) (hb : -16776960 ≤ b ∧ b ≤ 16776960) : -1099478073600 ≤ a * b ∧ a * b ≤ 1099478073600 := by
  have h : (a * b).natAbs ≤ 65535 * 16776960 := by rw [Int.natAbs_mul]; exact Nat.mul_le_mul (by omega) (by omega)
  omega
theorem smT_bd {T : Int} (hT : Top T) {s : Nat} {rs : Rws} {c r : Nat → Int} (hr : LvT T r) (hn : ∀ t, t ≤ 3 → Lv (ndv rs s (pl c r t))) {i : Nat} (hi : i < 3) : ∀ t, t ≤ 4 → -1099478073600 * t ≤ smT T rs s c r t i ∧ smT T rs s c r t i ≤ 1099478073600 * t := by
  intro t
  induction t with
  | zero => intro _; simp [smT]
  | succ t ih =>
    intro ht
    have h1 := ih (by omega)
    have h2 := mul_bdT (hn t (by omega) i hi) (b := lftT T r t - lftT T r (t + 1)) (by have := lftT_bd hT hr t; have := lftT_bd hT hr (t + 1); rcases hT with rfl | rfl <;> omega)
    simp only [smT]
    have e : ((t + 1 : Nat) : Int) = (t : Int) + 1 := by simp
    rw [e]
    omega
/-- what a grid tells. -/
def gvo (o sd : Int) (rs : Rws) (v : Nat → Int) (i : Nat) : Int := rnd (smT (65535 * o) rs sd (ccT (65535 * o) sd v) (crT (65535 * o) sd v) 4 i * o) (65535 * o)
theorem gvo_1 (sd : Int) (rs : Rws) (v : Nat → Int) (i : Nat) : gvo 1 sd rs v i = gvl sd rs v i := by
  unfold gvo gvl
  rw [Int.mul_one, Int.mul_one, smT_1, ccT_1, crT_1]
/-- what is taken off the weights is all of T: the sums are between the least and the greatest. -/
theorem lftT_4 (T : Int) (r : Nat → Int) : lftT T r 4 = 0 := by simp [lftT]
theorem ax_ext {f g : Nat → Int} (h : ∀ j, j < 3 → f j = g j) (t : Nat) : ax f t = ax g t := by
  unfold ax; rw [h 0 (by omega), h 1 (by omega), h 2 (by omega)]
theorem pl_ext {f f' g g' : Nat → Int} (hf : ∀ j, j < 3 → f j = f' j) (hg : ∀ j, j < 3 → g j = g' j) : ∀ t j, j < 3 → pl f g t j = pl f' g' t j := by
  intro t
  induction t with
  | zero => intro j hj; exact hf j hj
  | succ t ih => intro j hj; simp only [pl, bump]; rw [ax_ext hg, ih j hj]
theorem lftT_ext {T : Int} {g g' : Nat → Int} (hg : ∀ j, j < 3 → g j = g' j) (t : Nat) : lftT T g t = lftT T g' t := by
  cases t with
  | zero => rfl
  | succ t =>
    simp only [lftT]
    split
    · rename_i h; rw [ax_ext hg, hg _ (ax_lt g' h)]
    · rfl
theorem smT_ext {T : Int} {rs : Rws} {sd : Int} {f f' g g' : Nat → Int} (hf : ∀ j, j < 3 → f j = f' j) (hg : ∀ j, j < 3 → g j = g' j) : ∀ t i, smT T rs sd f g t i = smT T rs sd f' g' t i := by
  intro t
  induction t with
  | zero => intro i; rfl
  | succ t ih =>
    intro i
    simp only [smT, ndv]
    rw [ih i, lftT_ext hg, lftT_ext hg (t + 1), pl_ext hf hg t 0 (by omega), pl_ext hf hg t 1 (by omega), pl_ext hf hg t 2 (by omega)]
theorem gvo_ext {o sd : Int} {rs : Rws} {v v' : Nat → Int} (h : ∀ j, j < 3 → v j = v' j) (i : Nat) : gvo o sd rs v i = gvo o sd rs v' i := by
  unfold gvo
  rw [smT_ext (f' := ccT (65535 * o) sd v') (g' := crT (65535 * o) sd v') (fun j hj => by unfold ccT; rw [h j hj]) (fun j hj => by unfold crT; rw [h j hj])]
end Go.Proofs.Ythplngcdldongaa
