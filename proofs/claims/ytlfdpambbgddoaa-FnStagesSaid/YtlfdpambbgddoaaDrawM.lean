/-
  The draws of matrices: l4Draw, l4Bent, DrawApplyMatrix.
-/
import Derived.Test.YtlfdpambbgddoaaDrawF
import Derived.Test.YtlfdpambbgddoaaMatU
import Derived.Deep.RegionHeld3
import Derived.StillTailTactics
namespace Go.Proofs.Ytlfdpambbgddoaa
open Go.RowKit
set_option linter.unusedVariables false
set_option linter.unusedSimpArgs false

theorem Hd.putI {w : World} {k : IntKind} {ps : List Int} {b o m c : Nat} {gs : List Nat} (h : Hd w (.ints k ps) (.slice (some ⟨b, o, none⟩) m c) gs) {i : Nat} (hi' : i < m) (v : Int) :
    Hd (w.setCell ⟨b, o + i, none⟩ (.int k v)) (.ints k (ps.set i v)) (.slice (some ⟨b, o, none⟩) m c) gs := by
  cases h with
  | ints0 => omega
  | ints _ _ _ _ _ _ hn hl hr hc hm =>
    refine .ints k b o m c _ hn (by simpa using hl) (fun j hj => ?_) hc hm
    by_cases e : j = i
    · subst e
      rw [World.cell?_setCell_same' _ _ _ (by rw [hr j hj]; rfl)]
      simp [List.getD, hl, hj]
    · rw [World.cell?_setCell_other _ _ _ _ (by simp; try omega), hr j hj]
      simp [List.getD, List.getElem?_set_ne (Ne.symm e)]
/-- an element of a row of one's own. -/
theorem Own.inner {w : World} {rs : Rws} {b o n c lo hi : Nat} (h : Own w (rowsD rs) (.slice (some ⟨b, o, none⟩) n c) lo hi) {i : Nat} (hi' : i < n) {j : Nat} (hj : j < (rw_ rs i).length) :
    ∃ B O C, w.cell? ⟨b, o + i, none⟩ = some (.slice (some ⟨B, O, none⟩) (rw_ rs i).length C) ∧ (rw_ rs i).length ≤ C ∧ C ≤ maxLen ∧ (∃ v, w.cell? ⟨B, O + j, none⟩ = some v) ∧ w.frozen? ⟨B, O + j, none⟩ = false ∧ lo ≤ B ∧ B < hi ∧ B ≠ b ∧
      ∀ v, Own (w.setCell ⟨B, O + j, none⟩ (.int .i64 v)) (rowsD (rs.set i ((rw_ rs i).set j v))) (.slice (some ⟨b, o, none⟩) n c) lo hi := by
  obtain ⟨bs, hd, nd, hin⟩ := h
  have hl : rs.length = n := hd.rows.1
  obtain ⟨x, gs, hc, hx, hsub, hnb, -, hre⟩ := hd.focus nd (i := i) (j := 0) hi' (by omega)
  rw [rows_at (by omega)] at hx
  rw [Nat.mul_one, Nat.add_zero] at hc
  obtain ⟨A, L, C, rfl, hr, hcc, hmm, hb⟩ := hx.ints_inv
  obtain rfl : L = (rw_ rs i).length := hr.1.symm
  obtain ⟨B, O, hn, rfl, rfl⟩ := hb.resolve_left (fun q => by omega)
  obtain ⟨B', O', e, hcell⟩ := hr.2 (by omega)
  injection e with e
  injection e with e1 e2
  subst e1 e2
  obtain ⟨p, q, r⟩ := hin B (hsub B (by simp))
  have hne : B ≠ b := fun e => hnb (by rw [e]; simp)
  refine ⟨B, O, C, hc, hcc, hmm, ⟨_, hcell j hj⟩, r _, p, q, hne, fun v => ⟨bs, ?_, nd, fun y hy => ?_⟩⟩
  · refine hre _ (.ints .i64 ((rw_ rs i).set j v)) _ (Ch.setCell w (P := (· ∈ [B])) (by simp) _ _) (hx.putI hj v) ⟨by simp [hl], by rw [rows_at (by simp; omega)]; simp [rw_, List.getD, hl, hi'], fun i' hi1 j' hj1 hne' => ?_⟩
    obtain rfl : j' = 0 := by omega
    have hii : i' ≠ i := fun e => hne' ⟨e, rfl⟩
    rw [rows_at (by simp; omega), rows_at (by omega)]
    simp [rw_, List.getD, List.getElem?_set_ne (Ne.symm hii)]
  · obtain ⟨a, b', c'⟩ := hin y hy
    exact ⟨a, b', fun k => by rw [← c' k]; simp⟩
/-- a row is cut short in front. -/
theorem Own.cutRow {w : World} {rs : Rws} {b o n c lo hi : Nat} (h : Own w (rowsD rs) (.slice (some ⟨b, o, none⟩) n c) lo hi) {i : Nat} (hi' : i < n) {x : Int} {ps : List Int} (hr : rw_ rs i = x :: ps) (hps : 0 < ps.length)
    {B O C : Nat} (hc : w.cell? ⟨b, o + i, none⟩ = some (.slice (some ⟨B, O, none⟩) (ps.length + 1) C)) :
    Own (w.setCell ⟨b, o + i, none⟩ (.slice (some ⟨B, O + 1, none⟩) ps.length (C - 1))) (rowsD (rs.set i ps)) (.slice (some ⟨b, o, none⟩) n c) lo hi := by
  obtain ⟨bs, hd, nd, hin⟩ := h
  have hl : rs.length = n := hd.rows.1
  obtain ⟨hl', hc1, hm1, hf⟩ := hd.sl_inv
  obtain ⟨b', o', V, G, e, h0, hrr, hh, rfl⟩ := hf (by omega)
  injection e with e
  injection e with e1 e2
  subst e1 e2
  rw [List.nodup_cons] at nd
  obtain ⟨nd1, nd2⟩ := nd
  have hV : V i 0 = .slice (some ⟨B, O, none⟩) (ps.length + 1) C := by
    have := hrr i hi' 0 (by omega)
    rw [Nat.mul_one, Nat.add_zero, hc] at this
    injection this with this
    exact this.symm
  have hrow : Hd w (.ints .i64 (x :: ps)) (.slice (some ⟨B, O, none⟩) (ps.length + 1) C) (G i 0) := by
    have := hh i hi' 0 (by omega)
    have e : At (rs.map fun r => [Dat.ints .i64 r]) i 0 = .ints .i64 (rw_ rs i) := rows_at (by omega)
    have e2 : ((rs.map fun r => [Dat.ints .i64 r]).getD i []).getD 0 default = .ints .i64 (rw_ rs i) := e
    rw [e2, hV, hr] at this
    exact this
  have htail : Hd w (.ints .i64 ps) (.slice (some ⟨B, O + 1, none⟩) ps.length (C - 1)) (G i 0) := by
    generalize G i 0 = gs at hrow
    cases hrow with
    | ints _ _ _ _ _ _ hn hl hcell hcc hmm =>
      refine .ints .i64 B (O + 1) ps.length (C - 1) _ hps rfl (fun j hj => ?_) (by omega) (by omega)
      have := hcell (j + 1) (by omega)
      rw [show O + 1 + j = O + (j + 1) by omega, this]
      simp [List.getD]
  have hb : ∀ i, i < n → b ∉ G i 0 := fun i hi hx => nd1 (mem_fam.2 ⟨i, hi, 0, by omega, hx⟩)
  have hch : Ch w (w.setCell ⟨b, o + i, none⟩ (.slice (some ⟨B, O + 1, none⟩) ps.length (C - 1))) (· = b) := Ch.setCell w (P := (· = b)) rfl _ _
  refine ⟨_, .sl 1 b o n c _ (updV V i 0 (.slice (some ⟨B, O + 1, none⟩) ps.length (C - 1))) G (by omega) h0 (by simp [hl]) (fun i' hi1 j' hj1 => ?_) (fun i' hi1 j' hj1 => ?_) hc1 hm1, ?_, fun y hy => ?_⟩
  · obtain rfl : j' = 0 := by omega
    rw [show o + i' * 1 + 0 = o + i' by omega]
    by_cases e : i' = i
    · subst e
      rw [World.cell?_setCell_same' w _ _ (by rw [hc]; rfl)]
      simp [updV]
    · have := hrr i' hi1 0 (by omega)
      rw [show o + i' * 1 + 0 = o + i' by omega] at this
      rw [World.cell?_setCell_other _ _ _ _ (by simp; try omega), this]
      simp [updV, e]
  · obtain rfl : j' = 0 := by omega
    have e : At ((rs.set i ps).map fun r => [Dat.ints .i64 r]) i' 0 = .ints .i64 (rw_ (rs.set i ps) i') := rows_at (by simp; omega)
    have e2 : (((rs.set i ps).map fun r => [Dat.ints .i64 r]).getD i' []).getD 0 default = .ints .i64 (rw_ (rs.set i ps) i') := e
    rw [e2]
    by_cases ee : i' = i
    · subst ee
      have : rw_ (rs.set i' ps) i' = ps := by simp [rw_, List.getD, hl, hi']
      rw [this]
      simp only [updV, and_self, if_true]
      exact htail.ch hch (fun y hy e => by subst e; exact hb i' hi1 hy)
    · have : rw_ (rs.set i ps) i' = rw_ rs i' := by simp [rw_, List.getD, List.getElem?_set_ne (Ne.symm ee)]
      rw [this]
      have h2 := hh i' hi1 0 (by omega)
      have e3 : ((rs.map fun r => [Dat.ints .i64 r]).getD i' []).getD 0 default = .ints .i64 (rw_ rs i') := rows_at (by omega)
      rw [e3] at h2
      simp only [updV, ee, false_and, if_false]
      exact h2.ch hch (fun y hy e => by subst e; exact hb i' hi1 hy)
  · rw [List.nodup_cons]; exact ⟨nd1, nd2⟩
  · obtain ⟨a, b', c'⟩ := hin y hy
    exact ⟨a, b', fun k => by rw [← c' k]; simp⟩
/-- a draw of a matrix: rows in memory of its own. -/
def MxDr (w : World) (g : Nat) (A : Option Addr) (n c : Nat) (xs : List Int) (q d : Int) (P : Rws → Prop) (e : Ending) (w' : World) : Prop :=
  ∃ G k cp rs q', e = .returned (.agg #[.slice G k cp]) ∧ P rs ∧ Own w' (rowsD rs) (.slice G k cp) w.heap.size w'.heap.size ∧ q' ≤ q + d ∧ Src w' g A n c xs q' ∧ w.grownBy w' (some g)
def Sq3 (rs : Rws) : Prop := rs.length = 3 ∧ ∀ i, i < 3 → (rw_ rs i).length = 3
theorem Sq3.set {rs : Rws} (h : Sq3 rs) {i : Nat} (hi : i < 3) (j : Nat) (v : Int) : Sq3 (rs.set i ((rw_ rs i).set j v)) := by
  refine ⟨by simp [h.1], fun k hk => ?_⟩
  by_cases e : k = i
  · subst e
    have : rw_ (rs.set k ((rw_ rs k).set j v)) k = (rw_ rs k).set j v := by simp [rw_, List.getD, h.1, hk]
    rw [this]; simp [h.2 k hk]
  · have : rw_ (rs.set i ((rw_ rs i).set j v)) k = rw_ rs k := by simp [rw_, List.getD, List.getElem?_set_ne (Ne.symm e)]
    rw [this]; exact h.2 k hk
set_option maxRecDepth 100000 in
set_option maxHeartbeats 4000000 in
theorem draw4_any (g : Nat) (A : Option Addr) (n c : Nat) (xs : List Int) (q : Int) (w : World) (h : Src w g A n c xs q) (hq : q ≤ 700000000) :
    Calls Try.prog 118 #[.pointer (some ⟨g, 0, none⟩)] w (MxDr w g A n c xs q 30 Sq3) := by
  have HS := Lib.hid h
  have hgw := h.lt
  clear h
  go_enter Try.func118, Try.ntmps118
  go_wp2_with fail
  refine (sUnit4_any _).mono ?_
  rintro e w1 ⟨G, m, cG, rfl, ho, hb⟩
  obtain ⟨bs1, hd1⟩ := ho.hd
  obtain ⟨hl1, hcp1, hcp2, hf1⟩ := hd1.rows
  obtain rfl : m = 3 := by rw [← hl1]; rfl
  obtain ⟨nb, o, rfl, -⟩ := hf1 (by omega)
  have hz1 : w.heap.size + 1 ≤ w1.heap.size := by have := hb.size; simp at this; exact this
  have hnb := (ho.slotQ (i := 0) (by omega)).2.2
  simp only [World.size_alloc] at hnb
  obtain ⟨W3, hW3⟩ : ∃ W3, W3 = w1.alloc (.cells #[.slice (some ⟨nb, o, none⟩) 3 cG] 62) := ⟨_, rfl⟩
  have B03 : Below w.heap.size w W3 := by rw [hW3]; exact blThenAlloc (blThen (blAlloc w _) hb) _
  have B3 : Hid (Bx W3 w1.heap.size [.slice (some ⟨nb, o, none⟩) 3 cG]) := by show Bx _ _ _; rw [hW3]; exact Bx.new _ _ _ rfl
  have R3 : Hid (Bx W3 w.heap.size [.slice none 0 0]) := by show Bx _ _ _; rw [hW3]; exact ((Bx.new w _ _ rfl).bel hb).alloc _
  have HS3 := Lib.hid (HS.out.below B03)
  have O3 : Hid (Own W3 (rowsD [[65536, 0, 0], [0, 65536, 0], [0, 0, 65536]]) (.slice (some ⟨nb, o, none⟩) 3 cG) (w.heap.size + 1) w1.heap.size) := by show Own _ _ _ _ _; rw [hW3]; exact (ho.alloc _).mono (by simp) (Nat.le_refl _)
  have hz3 : w1.heap.size < W3.heap.size := B3.out.lt
  have HCP : Hid (3 ≤ cG ∧ cG ≤ 9223372036854775807) := by unfold maxLen at hcp2; exact ⟨hcp1, hcp2⟩
  have G3 : Hid (w.grownBy W3 (some g)) := gb_below _ B03
  have HW3 := Lib.hid hW3
  clear ho hb hd1 hl1 hcp1 hcp2 hf1 hW3 B03
  go_wp2_with fail
  rw [← HW3.out]
  clear HW3
  refine (next_any g A n c xs q 6 _ HS3.out (by omega) (by omega)).mono ?_
  rintro e w4 ⟨r', ⟨hr0', hr1'⟩, rfl, hs4, hg4⟩
  have hr2' := hr1' (by omega)
  obtain ⟨k0, rfl⟩ : ∃ k0 : Nat, r' = k0 := ⟨r'.toNat, by omega⟩
  have hw1 : w1.heap.size ≠ g := by omega
  have HS4 := Lib.hid hs4
  have B4 := Lib.hid (B3.out.grownG hg4 hw1)
  have R4 := Lib.hid (R3.out.grownG hg4 (by omega))
  have G4 := Lib.hid (gb_trans G3.out hg4)
  have O4 := Lib.hid (own_gb O3.out hg4 (by omega))
  clear hs4 hg4 HS3 B3 R3 G3 O3 hr1'
  have cc1 := HCP.out.1
  have cc2 := HCP.out.2
  go_wp2_with fail
  go_loopw [4] (fun i wr => ∃ (k : Nat) (rs : Rws) (q' : Int), k ≤ k0 ∧ i = .int .i64 k ∧ Hid (Own wr (rowsD rs) (.slice (some ⟨nb, o, none⟩) 3 cG) (w.heap.size + 1) w1.heap.size) ∧ Hid (Sq3 rs) ∧ Hid (Src wr g A n c xs q') ∧ q' ≤ q + 1 + 4 * ((k0 : Int) - k) ∧ Hid (w.grownBy wr (some g)) ∧ Hid (Bx wr w1.heap.size [.slice (some ⟨nb, o, none⟩) 3 cG]) ∧ Hid (Bx wr w.heap.size [.slice none 0 0])) (fun i _ => (intOf i).toNat)
  case atStart => exact ⟨k0, _, _, Nat.le_refl _, rfl, O4.out, ⟨rfl, fun i hi => by match i, hi with
      | 0, _ => rfl
      | 1, _ => rfl
      | 2, _ => rfl⟩, HS4.out, by omega, G4.out, B4.out, R4.out⟩
  case round =>
    obtain ⟨k, rs, q', hk, rfl, HO, HQ3, HSr, hqq, HG, HB, HR⟩ := hrel
    have x1 := HB.out.c 0 rfl
    have y1 := cell_lt x1
    have hw0 := gb_size HG.out
    by_cases h0 : (0 : Int) < k
    · obtain ⟨Bf, Of, Cf, hrow⟩ : ∃ Bf Of Cf : Nat → Nat, ∀ t, t < 3 → (wr.cell? ⟨nb, o + t, none⟩ = some (.slice (some ⟨Bf t, Of t, none⟩) 3 (Cf t)) ∧ 3 ≤ Cf t ∧ Cf t ≤ 9223372036854775807) := by
        have hr : ∀ t, t < 3 → ∃ B O C, (wr.cell? ⟨nb, o + t, none⟩ = some (.slice (some ⟨B, O, none⟩) 3 C) ∧ 3 ≤ C ∧ C ≤ 9223372036854775807) := fun t ht => by
          obtain ⟨B, O, C, h1, h2, h3, -⟩ := HO.out.inner (i := t) (j := 0) ht (by rw [HQ3.out.2 t ht]; omega)
          rw [HQ3.out.2 t ht] at h1 h2
          exact ⟨B, O, C, h1, h2, by unfold maxLen at h3; exact h3⟩
        obtain ⟨B0, O0, C0, h0⟩ := hr 0 (by omega)
        obtain ⟨B1, O1, C1, h1⟩ := hr 1 (by omega)
        obtain ⟨B2, O2, C2, h2⟩ := hr 2 (by omega)
        refine ⟨fun t => if t = 0 then B0 else if t = 1 then B1 else B2, fun t => if t = 0 then O0 else if t = 1 then O1 else O2, fun t => if t = 0 then C0 else if t = 1 then C1 else C2, fun t ht => ?_⟩
        match t, ht with
        | 0, _ => exact h0
        | 1, _ => exact h1
        | 2, _ => exact h2
      have HROW := Lib.hid hrow
      have hnl := (HO.out.slotQ (i := 0) (by omega)).2.2
      clear hrow
      go_wp2_with fail
      go_region_held3 (fun w' => w'.cell? ⟨w1.heap.size, 0, none⟩ = some (.slice (some ⟨nb, o, none⟩) 3 cG) ∧ ∀ t, t < 3 → w'.cell? ⟨nb, o + t, none⟩ = some (.slice (some ⟨Bf t, Of t, none⟩) 3 (Cf t))) (first | (with_reducible exact ⟨cell_s cd (by omega), fun t ht => cell_s (rd t ht) (by omega)⟩) | (with_reducible exact ⟨cd, rd⟩) | (with_reducible exact ⟨cell_later (blAlloc _ _) cc, fun t ht => cell_later (blAlloc _ _) (rc t ht)⟩) | (with_reducible exact ⟨cc, rc⟩) | (with_reducible exact ⟨cb, rb⟩) | (with_reducible exact ⟨ca, ra⟩) | (with_reducible exact ⟨cell_later (Below.refl _ _).drew x1, fun t ht => cell_later (Below.refl _ _).drew (HROW.out t ht).1⟩)) (first
        | (go_at_call 96; (with_reducible refine (next_any g A n c xs q' 3 _ (HSr.out.below (Below.refl _ _).drew) (by omega) (by omega)).mono ?_); rintro e wa ⟨ri, ⟨ha0, ha1⟩, rfl, hsa, hga⟩; have ha2 := ha1 (by omega); obtain ⟨i, rfl⟩ : ∃ i : Nat, ri = i := ⟨ri.toNat, by omega⟩; have hi : i < 3 := (by omega); have HSa := Lib.hid hsa; have Ga := Lib.hid (gb_trans (gb_below _ (Below.refl _ _).drew) hga : wr.grownBy wa (some g)); have ca := (gb_cell Ga.out (p := ⟨w1.heap.size, 0, none⟩) y1 hw1).trans x1; have ra : ∀ t, t < 3 → wa.cell? ⟨nb, o + t, none⟩ = some (.slice (some ⟨Bf t, Of t, none⟩) 3 (Cf t)) := (fun t ht => (gb_cell Ga.out (p := ⟨nb, o + t, none⟩) (cell_lt (HROW.out t ht).1) (by show nb ≠ g; omega)).trans (HROW.out t ht).1); have hq1 := (HROW.out i hi).2.1; have hq2 := (HROW.out i hi).2.2; clear hsa hga ha1)
        | (go_at_call 96; (with_reducible refine (next_any g A n c xs (q' + 1) 3 _ HSa.out (by omega) (by omega)).mono ?_); rintro e wb ⟨rj, ⟨hb0, hb1⟩, rfl, hsb, hgb⟩; have hb2 := hb1 (by omega); obtain ⟨j, rfl⟩ : ∃ j : Nat, rj = j := ⟨rj.toNat, by omega⟩; have hj : j < 3 := (by omega); have HSb := Lib.hid hsb; have Gb := Lib.hid (gb_trans Ga.out hgb : wr.grownBy wb (some g)); have cb := (gb_cell Gb.out (p := ⟨w1.heap.size, 0, none⟩) y1 hw1).trans x1; have rb : ∀ t, t < 3 → wb.cell? ⟨nb, o + t, none⟩ = some (.slice (some ⟨Bf t, Of t, none⟩) 3 (Cf t)) := (fun t ht => (gb_cell Gb.out (p := ⟨nb, o + t, none⟩) (cell_lt (HROW.out t ht).1) (by show nb ≠ g; omega)).trans (HROW.out t ht).1); clear hsb hgb hb1)
        | (go_at_call 96; (with_reducible refine (next_any g A n c xs (q' + 1 + 1) 90000 _ HSb.out (by omega) (by omega)).mono ?_); rintro e wc ⟨rk, ⟨hc0, hc1⟩, rfl, hsc, hgc⟩; have HSc := Lib.hid hsc; have Gc := Lib.hid (gb_trans Gb.out hgc : wr.grownBy wc (some g)); have cc := (gb_cell Gc.out (p := ⟨w1.heap.size, 0, none⟩) y1 hw1).trans x1; have rc : ∀ t, t < 3 → wc.cell? ⟨nb, o + t, none⟩ = some (.slice (some ⟨Bf t, Of t, none⟩) 3 (Cf t)) := (fun t ht => (gb_cell Gc.out (p := ⟨nb, o + t, none⟩) (cell_lt (HROW.out t ht).1) (by show nb ≠ g; omega)).trans (HROW.out t ht).1); clear hsc hgc hc1)
        | (go_at_call 55; (with_reducible refine (pick_any g A n c xs (q' + 1 + 1 + 1) _ 8 8 [0, 1, 65536, -65536, 20000, -7000, 131072, rk] (fun _ => True) _ (HSc.out.gbNew _) (by omega) (rd_lit wc [0, 1, 65536, -65536, 20000, -7000, 131072, rk] _) (by omega) (by omega) (by intro a e; injection e with e; subst e; have := HSc.out.lt; show wc.heap.size ≠ g; omega) (fun _ _ => trivial)).mono ?_); rintro e wd ⟨yv, qd, -, rfl, hqd, hsd, hgd⟩; have HSd := Lib.hid hsd; have Gd := Lib.hid (gb_trans Gc.out (gb_trans (gb_below _ (blAlloc _ _)) hgd) : wr.grownBy wd (some g)); have cd := (gb_cell Gd.out (p := ⟨w1.heap.size, 0, none⟩) y1 hw1).trans x1; have Od := Lib.hid (own_gb HO.out Gd.out (by omega)); have rd : ∀ t, t < 3 → wd.cell? ⟨nb, o + t, none⟩ = some (.slice (some ⟨Bf t, Of t, none⟩) 3 (Cf t)) := (fun t ht => (gb_cell Gd.out (p := ⟨nb, o + t, none⟩) (cell_lt (HROW.out t ht).1) (by show nb ≠ g; omega)).trans (HROW.out t ht).1); obtain ⟨Bd, Odd, Cd, rdd, -, -, ⟨ev, ec⟩, ef, hb1', hb2', hb3', hset⟩ := Od.out.inner (i := i) (j := j) (by omega) (by rw [HQ3.out.2 i hi]; omega); have HSET := Lib.hid hset; have eqq := rdd.symm.trans (rd i hi); simp only [Option.some.injEq, Value.slice.injEq, Addr.mk.injEq, and_true] at eqq; obtain ⟨⟨rfl, rfl⟩, -, rfl⟩ := eqq; have el := cell_lt ec; clear hsd hgd hset rdd))
      all_goals
        have HHb := Lib.hid (HB.out.grownG Gd.out hw1)
        have HRb := Lib.hid (HR.out.grownG Gd.out (by omega))
        have HGb := Lib.hid (gb_trans HG.out Gd.out)
        go_wp2_with fail
        go_roundw
        case rel =>
          refine ⟨k - 1, rs.set i ((rw_ rs i).set j yv), qd, by omega, by go_num, HSET.out yv, HQ3.out.set hi j yv, ?_, by omega, ?_, ?_, ?_⟩
          · exact HS.out.low HSd.out ((Below.refl w.heap.size wd).setCell (p := ⟨Bf i, Of i + j, none⟩) (by show w.heap.size ≤ Bf i; omega) _)
          · exact gb_low HGb.out ((Below.refl w.heap.size wd).setCell (p := ⟨Bf i, Of i + j, none⟩) (by show w.heap.size ≤ Bf i; omega) _)
          · exact HHb.out.oth (by omega) _ _
          · exact HRb.out.oth (by omega) _ _
        case measure => simp [intOf]; omega
    · obtain rfl : k = 0 := by omega
      have r0 := HR.out.c 0 rfl
      have z0 := HR.out.f 0
      have zl := HR.out.lt
      go_wp2_with fail
      have KK := HR.out.set 0 (.slice (some ⟨nb, o, none⟩) 3 cG)
      have k0' := KK.c 0 rfl
      clear KK
      have hbl : Below w.heap.size wr (wr.setCell ⟨w.heap.size, 0, none⟩ (.slice (some ⟨nb, o, none⟩) 3 cG)) := (Below.refl w.heap.size wr).setCell (p := ⟨w.heap.size, 0, none⟩) (Nat.le_refl _) _
      refine bodyPost_ret (v := .agg #[.slice (some ⟨nb, o, none⟩) 3 cG]) (by simp [results, Try.results118, go_sem, k0']) rfl ⟨_, 3, cG, rs, q', rfl, HQ3.out, ?_, by omega, HS.out.low HSr.out hbl, gb_low HG.out hbl⟩
      exact ((HO.out.set (b := w.heap.size) (.inl (by omega)) _ _).mono (by omega) (by simp [World.setCell]; omega))
set_option maxRecDepth 100000 in
set_option maxHeartbeats 4000000 in
theorem bent4_any (g : Nat) (A : Option Addr) (n c : Nat) (xs : List Int) (q : Int) (w : World) (h : Src w g A n c xs q) (hq : q ≤ 600000000) :
    Calls Try.prog 79 #[.pointer (some ⟨g, 0, none⟩)] w (MxDr w g A n c xs q 40 (fun rs => rs.length ≤ 3)) := by
  have HS := Lib.hid h
  have hgw := h.lt
  clear h
  go_enter Try.func79, Try.ntmps79
  go_wp2_with fail
  refine (draw4_any g A n c xs q _ (HS.out.gbNew _) (by omega)).mono ?_
  rintro e w1 ⟨G, k, cp, rs, q1, rfl, hsq, ho, hq1, hs1, hg1⟩
  obtain ⟨bs1, hd1⟩ := ho.hd
  obtain ⟨hl1, hcp1, hcp2, hf1⟩ := hd1.rows
  obtain rfl : k = 3 := by rw [← hl1]; exact hsq.1
  obtain ⟨nb, o, rfl, -⟩ := hf1 (by omega)
  have hz1 : w.heap.size + 1 ≤ w1.heap.size := by have := gb_size hg1; simp at this; exact this
  have hnb := (ho.slotQ (i := 0) (by omega)).2.2
  simp only [World.size_alloc] at hnb
  obtain ⟨W3, hW3⟩ : ∃ W3, W3 = w1.alloc (.cells #[.slice (some ⟨nb, o, none⟩) 3 cp] 62) := ⟨_, rfl⟩
  have B3 : Hid (Bx W3 w1.heap.size [.slice (some ⟨nb, o, none⟩) 3 cp]) := by show Bx _ _ _; rw [hW3]; exact Bx.new _ _ _ rfl
  have R3 : Hid (Bx W3 w.heap.size [.slice none 0 0]) := by show Bx _ _ _; rw [hW3]; exact ((Bx.new w _ _ rfl).grownG hg1 (by omega)).alloc _
  have G3 : Hid (w.grownBy W3 (some g)) := by show World.grownBy _ _ _; rw [hW3]; exact gb_trans (gb_trans (gb_below _ (blAlloc _ _)) hg1) (gb_below _ (blAlloc _ _))
  have HS3 : Hid (Src W3 g A n c xs q1) := by show Src _ _ _ _ _ _ _; rw [hW3]; exact hs1.gbNew _
  have O3 : Hid (Own W3 (rowsD rs) (.slice (some ⟨nb, o, none⟩) 3 cp) (w.heap.size + 1) w1.heap.size) := by show Own _ _ _ _ _; rw [hW3]; exact (ho.alloc _).mono (by simp) (Nat.le_refl _)
  have HCP : Hid (3 ≤ cp ∧ cp ≤ 9223372036854775807) := by unfold maxLen at hcp2; exact ⟨hcp1, hcp2⟩
  have HSQ := Lib.hid hsq
  have hz3 : w1.heap.size < W3.heap.size := B3.out.lt
  have HW3 := Lib.hid hW3
  clear ho hd1 hl1 hcp1 hcp2 hf1 hs1 hg1 hW3 hsq
  go_wp2_with fail
  rw [← HW3.out]
  clear HW3
  refine (next_any g A n c xs q1 12 _ HS3.out (by omega) (by omega)).mono ?_
  rintro e w4 ⟨r, ⟨hr0, hr1⟩, rfl, hs4, hg4⟩
  have hr2 := hr1 (by omega)
  have hw1 : w1.heap.size ≠ g := by omega
  have HS4 := Lib.hid hs4
  have B4 := Lib.hid (B3.out.grownG hg4 hw1)
  have R4 := Lib.hid (R3.out.grownG hg4 (by omega))
  have G4 := Lib.hid (gb_trans G3.out hg4)
  have O4 := Lib.hid (own_gb O3.out hg4 (by omega))
  clear hs4 hg4 HS3 B3 R3 G3 O3 hr1
  have cc1 := HCP.out.1
  have cc2 := HCP.out.2
  have FIN : Hid (∀ (o k cp : Nat) (rs : Rws) (q' : Int) (wr : World), rs.length ≤ 3 → Own wr (rowsD rs) (.slice (some ⟨nb, o, none⟩) k cp) (w.heap.size + 1) w1.heap.size → w1.heap.size ≤ wr.heap.size → q' ≤ q + 40 → Src wr g A n c xs q' → w.grownBy wr (some g) →
      MxDr w g A n c xs q 40 (fun rs => rs.length ≤ 3) (.returned (.agg #[.slice (some ⟨nb, o, none⟩) k cp])) (wr.setCell ⟨w.heap.size, 0, none⟩ (.slice (some ⟨nb, o, none⟩) k cp))) := fun o k cp rs q' wr h3 ho hz hq' hs hg => by
    have hbl : Below w.heap.size wr (wr.setCell ⟨w.heap.size, 0, none⟩ (.slice (some ⟨nb, o, none⟩) k cp)) := (Below.refl w.heap.size wr).setCell (p := ⟨w.heap.size, 0, none⟩) (Nat.le_refl _) _
    exact ⟨_, k, cp, rs, q', rfl, h3, (ho.set (b := w.heap.size) (.inl (by omega)) _ _).mono (by omega) (by simp [World.setCell]; omega), hq', HS.out.low hs hbl, gb_low hg hbl⟩
  have x1 := B4.out.c 0 rfl
  have y1 := cell_lt x1
  have f1 := B4.out.f 0
  have r0 := R4.out.c 0 rfl
  have z0 := R4.out.f 0
  have zl := R4.out.lt
  have ne1 : ¬ w1.heap.size = w.heap.size := by omega
  have ne2 : ¬ w.heap.size = w1.heap.size := by omega
  by_cases e0 : r = 0
  · subst e0
    obtain ⟨Bi, Oi, Ci, ra, hC1, hC2, -, -, hB1, hB2, hB3, -⟩ := O4.out.inner (i := 1) (j := 2) (by omega) (by rw [HSQ.out.2 1 (by omega)]; omega)
    rw [HSQ.out.2 1 (by omega)] at ra hC1
    unfold maxLen at hC2
    have rl := cell_lt ra
    have HRd : Hid (Rd .i64 (w4.alloc (.cells #[.int .i64 262144, .int .i64 262145, .int .i64 (-262145)] 2)).drew (some ⟨w4.heap.size, 0, none⟩) 3 [262144, 262145, -262145]) := (rd_lit w4 [262144, 262145, -262145] 2).below (Below.refl _ _).drew
    clear r0 z0 zl f1
    go_wp2_with fail
    go_region_held3 (fun w' => w'.cell? ⟨w1.heap.size, 0, none⟩ = some (.slice (some ⟨nb, o, none⟩) 3 cp) ∧ w'.cell? ⟨nb, o + 1, none⟩ = some (.slice (some ⟨Bi, Oi, none⟩) 3 Ci)) (first | (with_reducible exact ⟨cell_s cd (by omega), cell_s rd (by omega)⟩) | (with_reducible exact ⟨cd, rd⟩) | (with_reducible exact ⟨cell_later (blAlloc _ _).drew x1, cell_later (blAlloc _ _).drew ra⟩) | (with_reducible exact ⟨cell_later (Below.refl _ _).drew x1, cell_later (Below.refl _ _).drew ra⟩) | exact ⟨cell_later (blAlloc _ _) (cell_later (Below.refl _ _).drew x1), cell_later (blAlloc _ _) (cell_later (Below.refl _ _).drew ra)⟩) (first
      | (go_at_call 55; (with_reducible refine (pick_any g A n c xs (q1 + 1) _ 3 3 [262144, 262145, -262145] (fun _ => True) _ (HS4.out.below (by repeat (first | (with_reducible exact (Below.refl w4.heap.size w4)) | (with_reducible refine blThenAlloc ?_ _) | (with_reducible refine Below.drew ?_)))) (by omega) HRd.out (by omega) (by omega) (by intro a e; injection e with e; subst e; have := HS4.out.lt; show w4.heap.size ≠ g; omega) (fun _ _ => trivial)).mono ?_); rintro e wd ⟨yv, qd, -, rfl, hqd, hsd, hgd⟩; have HSd := Lib.hid hsd; have Gd : Hid (w4.grownBy wd (some g)) := gb_trans (gb_below _ (by repeat (first | (with_reducible exact (Below.refl w4.heap.size w4)) | (with_reducible refine blThenAlloc ?_ _) | (with_reducible refine Below.drew ?_)))) hgd; have cd := (gb_cell Gd.out (p := ⟨w1.heap.size, 0, none⟩) y1 hw1).trans x1; have Od := Lib.hid (own_gb O4.out Gd.out (by omega)); have rd := (gb_cell Gd.out (p := ⟨nb, o + 1, none⟩) rl (by show nb ≠ g; omega)).trans ra; obtain ⟨Bd, Odd, Cd, rdd, -, -, ⟨ev, ec⟩, ef, hb1', hb2', hb3', hset⟩ := Od.out.inner (i := 1) (j := 2) (by omega) (by rw [HSQ.out.2 1 (by omega)]; omega); have HSET := Lib.hid hset; have eqq := rdd.symm.trans rd; simp only [Option.some.injEq, Value.slice.injEq, Addr.mk.injEq, and_true] at eqq; obtain ⟨⟨rfl, rfl⟩, -, rfl⟩ := eqq; have el := cell_lt ec; have B5 := Lib.hid (B4.out.grownG Gd.out hw1); have R5 := Lib.hid (R4.out.grownG Gd.out (by omega)); clear hsd hgd hset rdd))
    all_goals
      have b0 := B5.out.c 0 rfl
      have bl := B5.out.lt
      have r0 := R5.out.c 0 rfl
      have z0 := R5.out.f 0
      have zl := R5.out.lt
      have nB1 : ¬ Bd = w1.heap.size := by omega
      have nB2 : ¬ Bd = w.heap.size := by omega
      have nB3 : ¬ w1.heap.size = Bd := by omega
      have nB4 : ¬ w.heap.size = Bd := by omega
      go_wp2_with fail
      have KK := (R5.out.oth nB2 (Odd + 2) (.int .i64 yv)).set 0 (.slice (some ⟨nb, o, none⟩) 3 cp)
      have k0 := KK.c 0 rfl
      clear KK
      refine bodyPost_ret (v := .agg #[.slice (some ⟨nb, o, none⟩) 3 cp]) (by simp [results, Try.results79, go_sem, k0]) rfl ?_
      have hbl : Below w.heap.size wd (wd.setCell ⟨Bd, Odd + 2, none⟩ (.int .i64 yv)) := (Below.refl w.heap.size wd).setCell (p := ⟨Bd, Odd + 2, none⟩) (by show w.heap.size ≤ Bd; omega) _
      have hsz := gb_size Gd.out
      exact FIN.out o 3 cp (rs.set 1 ((rw_ rs 1).set 2 yv)) qd _ (by simp [HSQ.out.1]) (HSET.out yv) (by simp [World.setCell]; omega) (by omega) (HS.out.low HSd.out hbl) (gb_low (gb_trans G4.out Gd.out) hbl)
  · by_cases e1 : r = 1
    · subst e1
      go_wp2_with fail
      obtain ⟨rr, rs', hrs⟩ : ∃ rr rs', rs = rr :: rs' := by
        match rs, HSQ.out.1 with
        | rr :: rs', _ => exact ⟨rr, rs', rfl⟩
      have ot := O4.out
      have hlr := HSQ.out.1
      rw [hrs] at ot hlr
      simp at hlr
      have KK := (R4.out.oth ne1 0 (.slice (some ⟨nb, o + 1, none⟩) 2 (cp - 1))).set 0 (.slice (some ⟨nb, o + 1, none⟩) 2 (cp - 1))
      have k0 := KK.c 0 rfl
      clear KK
      refine bodyPost_ret (v := .agg #[.slice (some ⟨nb, o + 1, none⟩) 2 (cp - 1)]) (by simp [results, Try.results79, go_sem, k0]) rfl ?_
      have hbl : Below w.heap.size w4 (w4.setCell ⟨w1.heap.size, 0, none⟩ (.slice (some ⟨nb, o + 1, none⟩) 2 (cp - 1))) := (Below.refl w.heap.size w4).setCell (p := ⟨w1.heap.size, 0, none⟩) (by show w.heap.size ≤ w1.heap.size; omega) _
      exact FIN.out (o + 1) 2 (cp - 1) rs' (q1 + 1) _ (by omega) ((ot.tailR (n := 2) (by omega)).set (.inr (Nat.le_refl _)) _ _) (by simp [World.setCell]; omega) (by omega) (HS.out.low HS4.out hbl) (gb_low G4.out hbl)
    · by_cases e2 : r = 2
      · subst e2
        obtain ⟨Bi, Oi, Ci, ra, hC1, hC2, -, -, hB1, hB2, hB3, -⟩ := O4.out.inner (i := 2) (j := 0) (by omega) (by rw [HSQ.out.2 2 (by omega)]; omega)
        rw [HSQ.out.2 2 (by omega)] at ra hC1
        unfold maxLen at hC2
        have rl := cell_lt ra
        have rf := (O4.out.slotQ (i := 2) (by omega)).2.1
        clear r0 z0 zl f1
        go_wp2_with fail
        go_still_tail 8, (by kernel_rfl)
        change wpList _ _ _ _ _ w4.drew
        obtain ⟨W5, hW5⟩ : ∃ W5, W5 = w4.drew := ⟨_, rfl⟩
        have bd : Below w4.heap.size w4 w4.drew := (Below.refl _ _).drew
        rw [← hW5] at bd ⊢
        have HS5 := Lib.hid (HS4.out.below bd)
        have B5 := Lib.hid (B4.out.bel bd)
        have R5 := Lib.hid (R4.out.bel bd)
        have O5 := Lib.hid (O4.out.below bd)
        have G5 := Lib.hid (gb_trans G4.out (gb_below (some g) bd))
        have ra5 := cell_later bd ra
        have rl5 := cell_lt ra5
        have rf5 := (O5.out.slotQ (i := 2) (by omega)).2.1
        have hz5 := bd.size
        clear hW5 ra rl rf x1 y1 bd
        have b0 := B5.out.c 0 rfl
        have bl := B5.out.lt
        have r0 := R5.out.c 0 rfl
        have z0 := R5.out.f 0
        have zl := R5.out.lt
        have nB1 : ¬ nb = w1.heap.size := by omega
        have nB2 : ¬ nb = w.heap.size := by omega
        have nB3 : ¬ w1.heap.size = nb := by omega
        have nB4 : ¬ w.heap.size = nb := by omega
        go_wp2_with fail
        have KK := (R5.out.oth nB2 (o + 2) (.slice (some ⟨Bi, Oi + 1, none⟩) 2 (Ci - 1))).set 0 (.slice (some ⟨nb, o, none⟩) 3 cp)
        have k0 := KK.c 0 rfl
        clear KK
        refine bodyPost_ret (v := .agg #[.slice (some ⟨nb, o, none⟩) 3 cp]) (by simp [results, Try.results79, go_sem, k0]) rfl ?_
        have hbl : Below w.heap.size W5 (W5.setCell ⟨nb, o + 2, none⟩ (.slice (some ⟨Bi, Oi + 1, none⟩) 2 (Ci - 1))) := (Below.refl w.heap.size W5).setCell (p := ⟨nb, o + 2, none⟩) (by show w.heap.size ≤ nb; omega) _
        obtain ⟨x, y, z, hrow⟩ : ∃ x y z, rw_ rs 2 = [x, y, z] := by
          have := HSQ.out.2 2 (by omega)
          match rw_ rs 2, this with
          | [x, y, z], _ => exact ⟨x, y, z, rfl⟩
        have hcut := O5.out.cutRow (i := 2) (by omega) hrow (by simp) ra5
        exact FIN.out o 3 cp (rs.set 2 [y, z]) (q1 + 1) _ (by simp [HSQ.out.1]) hcut (by simp [World.setCell]; omega) (by omega) (HS.out.low HS5.out hbl) (gb_low G5.out hbl)
      · go_wp2_with fail
        have KK := R4.out.set 0 (.slice (some ⟨nb, o, none⟩) 3 cp)
        have k0 := KK.c 0 rfl
        clear KK
        refine bodyPost_ret (v := .agg #[.slice (some ⟨nb, o, none⟩) 3 cp]) (by simp [results, Try.results79, go_sem, k0]) rfl ?_
        exact FIN.out o 3 cp rs (q1 + 1) _ (by rw [HSQ.out.1]; omega) O4.out (by omega) (by omega) HS4.out G4.out
def DrAM (w : World) (e : Ending) (w' : World) : Prop := ∃ G k cp rs H m d ps, e = .returned (.tuple #[.agg #[.slice G k cp], .slice H m d]) ∧ rs.length ≤ 3 ∧ ps.length ≤ 3 ∧ (∃ bs, Hd w' (rowsD rs) (.slice G k cp) bs) ∧ (∃ gs, Hd w' (.ints .i64 ps) (.slice H m d) gs) ∧ Below w.heap.size w w'
set_option maxRecDepth 100000 in
set_option maxHeartbeats 1000000 in
theorem drawApplyMatrix_any (A : Option Addr) (n c : Nat) (xs : List Int) (w : World) (h : Code w A n xs) :
    Calls Try.prog 35 #[.slice A n c] w (DrAM w) := by
  have H := Lib.hid h
  clear h
  go_enter Try.func35, Try.ntmps35
  go_wp2_with fail
  refine (source_any A n c xs _ (H.out.alloc _).reads H.out.u8 H.out.small).mono ?_
  rintro e w1 ⟨rfl, hs1, hb1, hl1⟩
  simp only [World.size_alloc] at hs1 hb1 hl1 ⊢
  have HS1 := Lib.hid hs1
  have B1 : Hid (Below w.heap.size w w1) := (blAlloc w _).trans (hb1.mono (by omega))
  have R1 : Hid (Bx w1 w.heap.size [.slice none 0 0]) := (Bx.new w _ _ rfl).bel (by simpa using hb1)
  clear hs1 hb1
  go_wp2_with fail
  refine (bent4_any (w.heap.size + 1) A n c xs 0 _ HS1.out (by omega)).mono ?_
  rintro e w2 ⟨G, k, cp, rs, q2, rfl, hk3, ho2, hq2, hs2, hg2⟩
  have HS2 := Lib.hid hs2
  have B2 : Hid (Below w.heap.size w w2) := B1.out.trans (gb_to_below hg2 (by omega) B1.out.size)
  have R2 := Lib.hid (R1.out.grownG hg2 (by omega))
  have O2 := Lib.hid ho2
  clear hs2 hg2 ho2
  go_wp2_with fail
  refine (bentLevels4_any (w.heap.size + 1) A n c xs q2 _ HS2.out HS2.out.lt (by omega)).mono ?_
  rintro e w3 ⟨G3, k3, c3, ps, q3, rfl, hl3, ho3, hq3, hs3, hg3⟩
  have B3 : Hid (Below w.heap.size w w3) := B2.out.trans (gb_to_below hg3 (by omega) B2.out.size)
  have R3 := Lib.hid (R2.out.grownG hg3 (by omega))
  have O3 := Lib.hid (own_gb O2.out hg3 (by omega))
  have P3 := Lib.hid ho3
  have hz2 : w.heap.size < w2.heap.size := R2.out.lt
  clear hs3 hg3 ho3
  have r0 := R3.out.c 0 rfl
  have z0 := R3.out.f 0
  have zl := R3.out.lt
  go_wp2_with fail
  have KK := R3.out.set 0 (.slice G k cp)
  have k0 := KK.c 0 rfl
  clear KK
  refine bodyPost_ret (v := .tuple #[.agg #[.slice G k cp], .slice G3 k3 c3]) (by simp [results, Try.results35, go_sem, k0]) rfl ⟨G, k, cp, rs, G3, k3, c3, ps, rfl, hk3, hl3, ?_, ?_, B3.out.setCell (p := ⟨w.heap.size, 0, none⟩) (Nat.le_refl _) _⟩
  · exact (O3.out.set (.inl (by omega)) _ _).hd
  · exact (P3.out.set (.inl (by omega)) _ _).hd
end Go.Proofs.Ytlfdpambbgddoaa
