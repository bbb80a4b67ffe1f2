/-
  The draws of grids: l5Draw, l5Bent, DrawEvalGrid.
-/
import Derived.Test.YthplngcdldongaaDrawE
import Derived.Test.YthplngcdldongaaLinS
import Derived.Test.YthplngcdldongaaPlnA
import Derived.Test.YthplngcdldongaaSceneM
import Derived.Deep.RegionHeld3
namespace Go.Proofs.Ythplngcdldongaa
open Go.RowKit
set_option linter.unusedVariables false
set_option linter.unusedSimpArgs false

/-- a draw of a grid of at least m nodes: in memory of its own. -/
def GrDr (w : World) (g : Nat) (A : Option Addr) (n c : Nat) (xs : List Int) (q d : Int) (m : Nat) (e : Ending) (w' : World) : Prop :=
  ∃ sd G k cp rs q', e = .returned (.agg #[.int .i64 sd, .slice G k cp]) ∧ m ≤ k ∧ k ≤ 64 ∧ Own w' (rowsD rs) (.slice G k cp) w.heap.size w'.heap.size ∧ q' ≤ q + d ∧ Src w' g A n c xs q' ∧ w.grownBy w' (some g)
theorem Own.slotQ {w : World} {b o n c lo hi : Nat} {rs : Rws} (h : Own w (rowsD rs) (.slice (some ⟨b, o, none⟩) n c) lo hi) {i : Nat} (hi' : i < n) : (∃ y, w.cell? ⟨b, o + i, none⟩ = some y) ∧ w.frozen? ⟨b, o + i, none⟩ = false ∧ lo ≤ b ∧ b < hi := by
  obtain ⟨x, y, a, b, c⟩ := Own.slot (m := 1) (i := i) (j := 0) h hi' (by omega)
  rw [Nat.mul_one, Nat.add_zero] at a y
  exact ⟨⟨x, y⟩, a, b, c⟩
theorem Bx.grownG {w w' : World} {b g : Nat} {l : List Value} (h : Bx w b l) (hg : w.grownBy w' (some g)) (hn : b ≠ g) : Bx w' b l :=
  ⟨Nat.lt_of_lt_of_le h.lt hg.size, fun i => by rw [World.frozen?_of_block (hg.block b h.lt (fun e => by injection e with e; exact hn e))]; exact h.th i, fun j v e => (gb_cell hg (p := ⟨b, j, none⟩) h.lt hn).trans (h.at_ j v e)⟩
/-- the rows with another one at a place. -/
theorem Own.putAt {w : World} {b o n c lo mid hi i : Nat} {rs : Rws} {xs : List Int} {x : Value} (h : Own w (rowsD rs) (.slice (some ⟨b, o, none⟩) n c) lo mid) (hi' : i < n)
    (hx : Own w (.ints .i64 xs) x mid hi) (hlo : lo ≤ mid) (hmid : mid ≤ hi) :
    Own (w.setCell ⟨b, o + i, none⟩ x) (rowsD (rs.set i xs)) (.slice (some ⟨b, o, none⟩) n c) lo hi := by
  have hl : rs.length = n := by obtain ⟨bs, hd⟩ := h.hd; exact hd.rows.1
  exact h.putRow hi' hx hlo hmid (by simp) (by simp [rw_, List.getD, hl, hi']) (fun j hj hne => by simp [rw_, List.getD, List.getElem?_set_ne (Ne.symm hne)])
theorem gb_size {a b : World} {g : Nat} (h : a.grownBy b (some g)) : a.heap.size ≤ b.heap.size := h.size
set_option maxRecDepth 100000 in
set_option maxHeartbeats 4000000 in
theorem draw5_any (g : Nat) (A : Option Addr) (n c : Nat) (xs : List Int) (q : Int) (w : World) (h : Src w g A n c xs q) (hq : q ≤ 700000000) :
    Calls Try.prog 86 #[.pointer (some ⟨g, 0, none⟩)] w (GrDr w g A n c xs q 60 8) := by
  have HS := Lib.hid h
  have hgw := h.lt
  clear h
  go_enter Try.func86, Try.ntmps86
  go_wp2_with fail
  refine (next_any g A n c xs q 3 _ (HS.out.gbNew _) (by omega) (by omega)).mono ?_
  rintro e w1 ⟨r, ⟨hr0, hr1⟩, rfl, hs1, hg1⟩
  have hr2 := hr1 (by omega)
  have R1 : Hid (Bx w1 w.heap.size [.int .i64 0, .slice none 0 0]) := (Bx.new w _ _ rfl).grownG hg1 (by omega)
  have G1 : Hid (w.grownBy w1 (some g)) := gb_trans (gb_below _ (blAlloc _ _)) hg1
  have HS1 := Lib.hid hs1
  have hz1 : w.heap.size + 1 ≤ w1.heap.size := by have := gb_size hg1; simp at this; exact this
  clear hs1 hg1 hr1
  obtain ⟨s, hs⟩ : ∃ s : Nat, 2 + r = s := ⟨(2 + r).toNat, by omega⟩
  have h3 : s = 2 ∨ s = 3 ∨ s = 4 := by omega
  have i1 : IntKind.i64.wrap (2 + r) = (s : Int) := by rw [hs]; exact IntWalk.i64_in _ (by omega)
  have CL := Lib.hid (sLine5_any s w1 h3)
  have HN1 : Hid (8 ≤ s * s * s ∧ s * s * s ≤ 64) := by show _ ∧ _; rcases h3 with rfl | rfl | rfl <;> simp
  go_wp2_with fail
  refine CL.out.mono ?_
  rintro e w2 ⟨G, m, cG, rfl, ho, hb⟩
  obtain ⟨bs2, hd2⟩ := ho.hd
  obtain ⟨hl2, hcp1, hcp2, hf2⟩ := hd2.rows
  have hm : m = s * s * s := by rw [← hl2]; simp [lgRs]
  have HM : Hid (8 ≤ m ∧ m ≤ 64) := by show _ ∧ _; rw [hm]; exact HN1.out
  have hM := HM.out
  obtain ⟨nb, o, rfl, -⟩ := hf2 (by omega)
  obtain ⟨W3, hW3⟩ : ∃ W3, W3 = w2.alloc (.cells #[.int .i64 (s : Int), .slice (some ⟨nb, o, none⟩) m cG] 26) := ⟨_, rfl⟩
  have B13 : Below w1.heap.size w1 W3 := by rw [hW3]; exact blThenAlloc hb _
  have B3 : Hid (Bx W3 w2.heap.size [.int .i64 (s : Int), .slice (some ⟨nb, o, none⟩) m cG]) := by show Bx _ _ _; rw [hW3]; exact Bx.new _ _ _ rfl
  have R3 := Lib.hid (R1.out.bel B13)
  have G3 : Hid (w.grownBy W3 (some g)) := gb_trans G1.out (gb_below _ B13)
  have HS3 := Lib.hid (HS1.out.below B13)
  have O3 : Hid (Own W3 (rowsD (lgRs s (s * s * s))) (.slice (some ⟨nb, o, none⟩) m cG) (w.heap.size + 1) W3.heap.size) := by show Own _ _ _ _ _; rw [hW3]; exact (ho.alloc _).mono hz1 (by simp)
  have hz2 : w1.heap.size ≤ w2.heap.size := hb.size
  have hnl : nb < w2.heap.size := (ho.slotQ (i := 0) (by omega)).2.2.2
  have HCP : Hid (m ≤ cG ∧ cG ≤ 9223372036854775807) := by unfold maxLen at hcp2; exact ⟨hcp1, hcp2⟩
  have HW3 := Lib.hid hW3
  clear ho hb hd2 hl2 hcp1 hcp2 hf2 hm hW3 B13 R1 G1 HS1 CL HN1 i1
  go_wp2_with fail
  rw [← HW3.out]
  clear HW3
  refine (next_any g A n c xs (q + 1) 9 _ HS3.out (by omega) (by omega)).mono ?_
  rintro e w4 ⟨r', ⟨hr0', hr1'⟩, rfl, hs4, hg4⟩
  have hr2' := hr1' (by omega)
  obtain ⟨k0, rfl⟩ : ∃ k0 : Nat, r' = k0 := ⟨r'.toNat, by omega⟩
  have hw2 : w2.heap.size ≠ g := by omega
  have HS4 := Lib.hid hs4
  have B4 := Lib.hid (B3.out.grownG hg4 hw2)
  have R4 := Lib.hid (R3.out.grownG hg4 (by omega))
  have G4 := Lib.hid (gb_trans G3.out hg4)
  have O4 : Hid (Own w4 (rowsD (lgRs s (s * s * s))) (.slice (some ⟨nb, o, none⟩) m cG) (w.heap.size + 1) w4.heap.size) := (own_gb O3.out hg4 (by omega)).mono (Nat.le_refl _) (gb_size hg4)
  clear hs4 hg4 HS3 B3 R3 G3 O3 hr1'
  have cc1 := HCP.out.1
  have cc2 := HCP.out.2
  go_wp2_with fail
  go_loopw [4] (fun i wr => ∃ (k : Nat) (rs : Rws) (q' : Int), k ≤ k0 ∧ i = .int .i64 k ∧ Hid (Own wr (rowsD rs) (.slice (some ⟨nb, o, none⟩) m cG) (w.heap.size + 1) wr.heap.size) ∧ Hid (Src wr g A n c xs q') ∧ q' ≤ q + 2 + 7 * ((k0 : Int) - k) ∧ Hid (w.grownBy wr (some g)) ∧ Hid (Bx wr w2.heap.size [.int .i64 (s : Int), .slice (some ⟨nb, o, none⟩) m cG]) ∧ Hid (Bx wr w.heap.size [.int .i64 0, .slice none 0 0])) (fun i _ => (intOf i).toNat)
  case atStart => exact ⟨k0, _, _, Nat.le_refl _, rfl, O4.out, HS4.out, by omega, G4.out, B4.out, R4.out⟩
  case round =>
    obtain ⟨k, rs, q', hk, rfl, HO, HSr, hqq, HG, HB, HR⟩ := hrel
    have x1 := HB.out.c 1 rfl
    have y1 := cell_lt x1
    have hsl := HO.out.slotQ (i := 0) (by omega)
    have hnb := hsl.2.2.1
    have hw0 := gb_size HG.out
    by_cases h0 : (0 : Int) < k
    · have hwr := HB.out.lt
      clear hsl
      go_wp2_with fail
      go_region_held3 (fun w' => w'.cell? ⟨w2.heap.size, 1, none⟩ = some (.slice (some ⟨nb, o, none⟩) m cG)) (first | (with_reducible exact cb) | (with_reducible exact ca) | (with_reducible exact cell_s cb (by omega)) | (with_reducible exact cell_later (Below.refl _ _).drew x1)) (first
        | (go_at_call 50; (with_reducible refine (next_any g A n c xs q' (m : Int) _ (HSr.out.below (Below.refl _ _).drew) (by omega) (by omega)).mono ?_); rintro e wa ⟨ri, ⟨ha0, ha1⟩, rfl, hsa, hga⟩; have ha2 := ha1 (by omega); obtain ⟨i, rfl⟩ : ∃ i : Nat, ri = i := ⟨ri.toNat, by omega⟩; have hi : i < m := (by omega); have HSa := Lib.hid hsa; have Ga := Lib.hid (gb_trans (gb_below _ (Below.refl _ _).drew) hga : wr.grownBy wa (some g)); have ca := (gb_cell Ga.out (p := ⟨w2.heap.size, 1, none⟩) y1 hw2).trans x1; have hza := gb_size Ga.out; clear hsa hga ha1)
        | (go_at_call 87; (with_reducible refine (drawLevels4_any g A n c xs (q' + 1) _ HSa.out (by omega)).mono ?_); rintro e wb ⟨G5, k5, c5, ps, q5, rfl, ⟨hl5, hp5⟩, ho5, hq5, hs5, hg5⟩; have HS5 := Lib.hid hs5; have G5' := Lib.hid (gb_trans Ga.out hg5 : wr.grownBy wb (some g)); have cb := (gb_cell G5'.out (p := ⟨w2.heap.size, 1, none⟩) y1 hw2).trans x1; have hzb := gb_size hg5; have O5 := Lib.hid (own_gb HO.out G5'.out (by omega)); have H5 := Lib.hid ho5; have sl := O5.out.slotQ hi; obtain ⟨yv, yc⟩ := sl.1; have yf := sl.2.1; have yl := cell_lt yc; clear hs5 hg5 ho5 sl))
      all_goals
        have HHb := Lib.hid (HB.out.grownG G5'.out hw2)
        have HRb := Lib.hid (HR.out.grownG G5'.out (by omega))
        have HGb := Lib.hid (gb_trans HG.out G5'.out)
        go_wp2_with fail
        go_roundw
        case rel =>
          refine ⟨k - 1, rs.set i ps, q5, by omega, by go_num, ?_, ?_, by omega, ?_, ?_, ?_⟩
          · show Own _ _ _ _ _
            have ho : Own wb (.ints .i64 ps) (.slice G5 k5 c5) wa.heap.size wb.heap.size := H5.out
            have := ((O5.out.mono (Nat.le_refl _) hza).putAt hi ho (by omega) hzb)
            simpa [World.setCell] using this
          · exact HS.out.low HS5.out ((Below.refl w.heap.size wb).setCell (p := ⟨nb, o + i, none⟩) (by show w.heap.size ≤ nb; omega) _)
          · exact gb_low HGb.out ((Below.refl w.heap.size wb).setCell (p := ⟨nb, o + i, none⟩) (by show w.heap.size ≤ nb; omega) _)
          · exact HHb.out.oth (by omega) _ _
          · exact HRb.out.oth (by omega) _ _
        case measure => simp [intOf]; omega
    · obtain rfl : k = 0 := by omega
      have y0 := HB.out.c 0 rfl
      have r0 := HR.out.c 0 rfl
      have r1 := HR.out.c 1 rfl
      have z0 := HR.out.f 0
      have z1 := HR.out.f 1
      have zl := HR.out.lt
      go_wp2_with fail
      have KK := (HR.out.set 0 (.int .i64 (s : Int))).set 1 (.slice (some ⟨nb, o, none⟩) m cG)
      have k0' := KK.c 0 rfl
      have k1' := KK.c 1 rfl
      clear KK
      have hbl : Below w.heap.size wr ((wr.setCell ⟨w.heap.size, 0, none⟩ (.int .i64 (s : Int))).setCell ⟨w.heap.size, 1, none⟩ (.slice (some ⟨nb, o, none⟩) m cG)) := ((Below.refl w.heap.size wr).setCell (p := ⟨w.heap.size, 0, none⟩) (Nat.le_refl _) _).setCell (p := ⟨w.heap.size, 1, none⟩) (Nat.le_refl _) _
      refine bodyPost_ret (v := .agg #[.int .i64 (s : Int), .slice (some ⟨nb, o, none⟩) m cG]) (by simp [results, Try.results86, go_sem, k0', k1']) rfl ⟨_, _, m, cG, rs, q', rfl, HM.out.1, HM.out.2, ?_, by omega, HS.out.low HSr.out hbl, gb_low HG.out hbl⟩
      refine Own.mono (lo := w.heap.size + 1) (hi := wr.heap.size) ?_ (by omega) (by simp [setSize])
      exact (HO.out.set (.inl (by omega)) _ _).set (.inl (by omega)) _ _
/-- the rows but the first one. -/
theorem Own.tailR {w : World} {r : List Int} {rs : Rws} {b o n c lo hi : Nat} (h : Own w (rowsD (r :: rs)) (.slice (some ⟨b, o, none⟩) (n + 1) c) lo hi) (hn : 0 < n) :
    Own w (rowsD rs) (.slice (some ⟨b, o + 1, none⟩) n (c - 1)) lo hi := by
  obtain ⟨bs, hd, nd, hin⟩ := h
  obtain ⟨hl, hc, hm, hf⟩ := hd.sl_inv
  obtain ⟨b', o', V, G, e, h0, hr, hh, rfl⟩ := hf (by omega)
  injection e with e
  injection e with e1 e2
  subst e1 e2
  have hsub : ∀ x, x ∈ fam n 1 (fun i => G (i + 1)) → x ∈ fam (n + 1) 1 G := fun x hx => by
    obtain ⟨i, hi, j, hj, hx⟩ := mem_fam.1 hx
    exact mem_fam.2 ⟨i + 1, by omega, j, hj, hx⟩
  rw [List.nodup_cons] at nd
  obtain ⟨nd1, nd2⟩ := nd
  have nd2' := fam_nodup.1 nd2
  refine ⟨b :: fam n 1 (fun i => G (i + 1)), .sl 1 b (o + 1) n (c - 1) _ (fun i => V (i + 1)) (fun i => G (i + 1)) hn (by omega) (by simpa using hl) (fun i hi j hj => ?_) (fun i hi j hj => ?_) (by omega) (by omega), ?_, fun y hy => ?_⟩
  · have := hr (i + 1) (by omega) j hj
    rw [← this]
    congr 2
    omega
  · have := hh (i + 1) (by omega) j hj
    simpa [List.getD] using this
  · rw [List.nodup_cons]
    refine ⟨fun hx => nd1 (hsub b hx), fam_nodup.2 ⟨fun i hi j hj => nd2'.1 (i + 1) (by omega) j hj, fun i hi j hj i' hi' j' hj' hne x hx hx' => nd2'.2 (i + 1) (by omega) j hj (i' + 1) (by omega) j' hj' (fun e => hne ⟨by omega, e.2⟩) x hx hx'⟩⟩
  · rcases List.mem_cons.1 hy with rfl | hy
    · exact hin y (by simp)
    · exact hin y (List.mem_cons_of_mem _ (hsub y hy))
set_option maxRecDepth 100000 in
set_option maxHeartbeats 4000000 in
theorem bent5_any (g : Nat) (A : Option Addr) (n c : Nat) (xs : List Int) (q : Int) (w : World) (h : Src w g A n c xs q) (hq : q ≤ 600000000) :
    Calls Try.prog 42 #[.pointer (some ⟨g, 0, none⟩)] w (GrDr w g A n c xs q 80 7) := by
  have HS := Lib.hid h
  have hgw := h.lt
  clear h
  go_enter Try.func42, Try.ntmps42
  go_wp2_with fail
  refine (draw5_any g A n c xs q _ (HS.out.gbNew _) (by omega)).mono ?_
  rintro e w1 ⟨sd, G, k, cp, rs, q1, rfl, hk8, hk64, ho, hq1, hs1, hg1⟩
  obtain ⟨bs1, hd1⟩ := ho.hd
  obtain ⟨hl1, hcp1, hcp2, hf1⟩ := hd1.rows
  obtain ⟨nb, o, rfl, -⟩ := hf1 (by omega)
  have hz1 : w.heap.size + 1 ≤ w1.heap.size := by have := gb_size hg1; simp at this; exact this
  have hnl : nb < w1.heap.size := (ho.slotQ (i := 0) (by omega)).2.2.2
  have hnb : w.heap.size + 1 ≤ nb := by have := (ho.slotQ (i := 0) (by omega)).2.2.1; simp at this; exact this
  obtain ⟨W3, hW3⟩ : ∃ W3, W3 = w1.alloc (.cells #[.int .i64 sd, .slice (some ⟨nb, o, none⟩) k cp] 26) := ⟨_, rfl⟩
  have B3 : Hid (Bx W3 w1.heap.size [.int .i64 sd, .slice (some ⟨nb, o, none⟩) k cp]) := by show Bx _ _ _; rw [hW3]; exact Bx.new _ _ _ rfl
  have R3 : Hid (Bx W3 w.heap.size [.int .i64 0, .slice none 0 0]) := by show Bx _ _ _; rw [hW3]; exact ((Bx.new w _ _ rfl).grownG hg1 (by omega)).alloc _
  have G3 : Hid (w.grownBy W3 (some g)) := by show World.grownBy _ _ _; rw [hW3]; exact gb_trans (gb_trans (gb_below _ (blAlloc _ _)) hg1) (gb_below _ (blAlloc _ _))
  have HS3 : Hid (Src W3 g A n c xs q1) := by show Src _ _ _ _ _ _ _; rw [hW3]; exact hs1.gbNew _
  have O3 : Hid (Own W3 (rowsD rs) (.slice (some ⟨nb, o, none⟩) k cp) (w.heap.size + 1) w1.heap.size) := by show Own _ _ _ _ _; rw [hW3]; exact (ho.alloc _).mono (by simp) (Nat.le_refl _)
  have HCP : Hid (k ≤ cp ∧ cp ≤ 9223372036854775807) := by unfold maxLen at hcp2; exact ⟨hcp1, hcp2⟩
  have HW3 := Lib.hid hW3
  have HLN := Lib.hid hl1
  have hz3 : w1.heap.size < W3.heap.size := B3.out.lt
  clear ho hd1 hl1 hcp1 hcp2 hf1 hs1 hg1 hW3
  go_wp2_with fail
  rw [← HW3.out]
  clear HW3
  refine (next_any g A n c xs q1 12 _ HS3.out (by omega) (by omega)).mono ?_
  rintro e w4 ⟨r, ⟨hr0, hr1⟩, rfl, hs4, hg4⟩
  have hr2 := hr1 (by omega)
  have hw1 : w1.heap.size ≠ g := by omega
  have HS4 := Lib.hid hs4
  have B4 := Lib.hid (B3.out.grownG hg4 hw1)
  have R4 := Lib.hid (R3.out.grownG hg4 (by omega))
  have G4 := Lib.hid (gb_trans G3.out hg4)
  have O4 : Hid (Own w4 (rowsD rs) (.slice (some ⟨nb, o, none⟩) k cp) (w.heap.size + 1) w1.heap.size) := own_gb O3.out hg4 (by omega)
  clear hs4 hg4 HS3 B3 R3 G3 O3 hr1
  have cc1 := HCP.out.1
  have cc2 := HCP.out.2
  have x1 := B4.out.c 1 rfl
  have y1 := cell_lt x1
  -- what stands at the end
  have FIN : Hid (∀ (sd : Int) (o k cp : Nat) (rs : Rws) (q' : Int) (wr : World), 7 ≤ k → k ≤ 64 → Own wr (rowsD rs) (.slice (some ⟨nb, o, none⟩) k cp) (w.heap.size + 1) wr.heap.size → q' ≤ q + 80 → Src wr g A n c xs q' → w.grownBy wr (some g) → Bx wr w.heap.size [.int .i64 0, .slice none 0 0] →
      GrDr w g A n c xs q 80 7 (.returned (.agg #[.int .i64 sd, .slice (some ⟨nb, o, none⟩) k cp])) ((wr.setCell ⟨w.heap.size, 0, none⟩ (.int .i64 sd)).setCell ⟨w.heap.size, 1, none⟩ (.slice (some ⟨nb, o, none⟩) k cp))) := fun sd o k cp rs q' wr h7 h64 ho hq' hs hg hb => by
    have hbl : Below w.heap.size wr ((wr.setCell ⟨w.heap.size, 0, none⟩ (.int .i64 sd)).setCell ⟨w.heap.size, 1, none⟩ (.slice (some ⟨nb, o, none⟩) k cp)) := ((Below.refl w.heap.size wr).setCell (p := ⟨w.heap.size, 0, none⟩) (Nat.le_refl _) _).setCell (p := ⟨w.heap.size, 1, none⟩) (Nat.le_refl _) _
    refine ⟨sd, _, k, cp, rs, q', rfl, h7, h64, ?_, hq', HS.out.low hs hbl, gb_low hg hbl⟩
    refine Own.mono (lo := w.heap.size + 1) (hi := wr.heap.size) ?_ (by omega) (by simp [setSize])
    exact (ho.set (.inl (by omega)) _ _).set (.inl (by omega)) _ _
  by_cases e0 : r = 0
  · subst e0
    go_wp2_with fail
    refine (pick_any g A n c xs (q1 + 1) _ 3 3 [1, 2, 5] (fun _ => True) _ (HS4.out.gbNew _) (by omega) (rd_lit w4 [1, 2, 5] _) (by omega) (by omega) ?_ (fun _ _ => trivial)).mono ?_
    · intro a e; injection e with e; subst e; have := HS4.out.lt; show w4.heap.size ≠ g; omega
    rintro e w5 ⟨y, q5, -, rfl, hq5, hs5, hg5⟩
    have G45 : w4.grownBy w5 (some g) := gb_trans (gb_below _ (blAlloc _ _)) hg5
    have HS5 := Lib.hid hs5
    have B5 := Lib.hid (B4.out.grownG G45 hw1)
    have R5 := Lib.hid (R4.out.grownG G45 (by omega))
    have G5 := Lib.hid (gb_trans G4.out G45)
    have O5 : Hid (Own w5 (rowsD rs) (.slice (some ⟨nb, o, none⟩) k cp) (w.heap.size + 1) w1.heap.size) := own_gb O4.out G45 (by omega)
    clear hs5 hg5 G45 x1 y1
    have x0 := B5.out.c 0 rfl
    have x1 := B5.out.c 1 rfl
    have y1 := cell_lt x1
    have f0 := B5.out.f 0
    have r0 := R5.out.c 0 rfl
    have r1 := R5.out.c 1 rfl
    have z0 := R5.out.f 0
    have z1 := R5.out.f 1
    have zl := R5.out.lt
    have ne1 : ¬ w1.heap.size = w.heap.size := by omega
    have ne2 : ¬ w.heap.size = w1.heap.size := by omega
    go_wp2_with fail
    have KK := ((R5.out.oth ne1 0 (.int .i64 y)).set 0 (.int .i64 y)).set 1 (.slice (some ⟨nb, o, none⟩) k cp)
    have k0 := KK.c 0 rfl
    have k1 := KK.c 1 rfl
    clear KK
    refine bodyPost_ret (v := .agg #[.int .i64 y, .slice (some ⟨nb, o, none⟩) k cp]) (by simp [results, Try.results42, go_sem, k0, k1]) rfl ?_
    have hbl : Below w.heap.size w5 (w5.setCell ⟨w1.heap.size, 0, none⟩ (.int .i64 y)) := (Below.refl w.heap.size w5).setCell (p := ⟨w1.heap.size, 0, none⟩) (by show w.heap.size ≤ w1.heap.size; omega) _
    exact FIN.out y o k cp rs q5 _ (by omega) hk64 ((O5.out.set (.inr (Nat.le_refl _)) _ _).mono (Nat.le_refl _) (by simp [World.setCell]; omega)) (by omega) (HS.out.low HS5.out hbl) (gb_low G5.out hbl) (R5.out.oth ne1 _ _)
  · by_cases e1 : r = 1
    · subst e1
      go_wp2_with fail
      have hsl := O4.out.slotQ (i := 1) (by omega)
      obtain ⟨yv, yc⟩ := hsl.1
      have yf := hsl.2.1
      have yl := cell_lt yc
      have hk1 : (1 : Int) < (k : Int) := by omega
      have hk2 : 1 < k := by omega
      go_region_held3 (fun w' => w'.cell? ⟨w1.heap.size, 1, none⟩ = some (.slice (some ⟨nb, o, none⟩) k cp)) (first | (with_reducible exact cb) | (with_reducible exact cell_s cb (by omega)) | (with_reducible exact cell_later (Below.refl _ _).drew x1)) (first
        | (go_at_call 43; (with_reducible refine (bentLevels4_any g A n c xs (q1 + 1) _ (HS4.out.below (Below.refl _ _).drew) (by have := HS4.out.lt; simpa using this) (by omega)).mono ?_); rintro e wb ⟨G5, k5, c5, ps, q5, rfl, hl5, ho5, hq5, hs5, hg5⟩; have HS5 := Lib.hid hs5; have G5' := Lib.hid (gb_trans (gb_below _ (Below.refl _ _).drew) hg5 : w4.grownBy wb (some g)); have cb := (gb_cell G5'.out (p := ⟨w1.heap.size, 1, none⟩) y1 hw1).trans x1; have hzb := gb_size G5'.out; have O5 := Lib.hid (own_gb O4.out G5'.out (by omega)); have H5 : Hid (Own wb (.ints .i64 ps) (.slice G5 k5 c5) w4.heap.size wb.heap.size) := ho5; have wc1 := (gb_cell G5'.out (p := ⟨nb, o + 1, none⟩) yl (by show nb ≠ g; omega)).trans yc; have wf1 := (O5.out.slotQ (i := 1) (by omega)).2.1; have wl1 := cell_lt wc1; clear hs5 hg5 ho5))
      all_goals
        have R5 := Lib.hid (R4.out.grownG G5'.out (by omega))
        have B5 := Lib.hid (B4.out.grownG G5'.out hw1)
        have GG := Lib.hid (gb_trans G4.out G5'.out)
        have hz4 : w1.heap.size < w4.heap.size := B4.out.lt
        have nbw : ¬ nb = w.heap.size := by omega
        have nb1 : ¬ nb = w1.heap.size := by omega
        have x0 := B5.out.c 0 rfl
        have x1' := B5.out.c 1 rfl
        have r0 := R5.out.c 0 rfl
        have r1 := R5.out.c 1 rfl
        have z0 := R5.out.f 0
        have z1 := R5.out.f 1
        have zl := R5.out.lt
        have nw0 : ¬ w.heap.size = nb := by omega
        have nw1 : ¬ w1.heap.size = nb := by omega
        go_wp2_with fail
        have KK := ((R5.out.oth nbw (o + 1) (.slice G5 k5 c5)).set 0 (.int .i64 sd)).set 1 (.slice (some ⟨nb, o, none⟩) k cp)
        have k0 := KK.c 0 rfl
        have k1 := KK.c 1 rfl
        clear KK
        refine bodyPost_ret (v := .agg #[.int .i64 sd, .slice (some ⟨nb, o, none⟩) k cp]) (by simp [results, Try.results42, go_sem, k0, k1]) rfl ?_
        have hbl : Below w.heap.size wb (wb.setCell ⟨nb, o + 1, none⟩ (.slice G5 k5 c5)) := (Below.refl w.heap.size wb).setCell (p := ⟨nb, o + 1, none⟩) (by show w.heap.size ≤ nb; omega) _
        exact FIN.out sd o k cp (rs.set 1 ps) q5 _ (by omega) hk64 (((O5.out.mono (Nat.le_refl _) (Nat.le_of_lt hz4)).putAt (i := 1) (by omega) H5.out (by omega) hzb).mono (Nat.le_refl _) (by simp [World.setCell])) (by omega) (HS.out.low HS5.out hbl) (gb_low GG.out hbl) (R5.out.oth nbw _ _)
    · have x0 := B4.out.c 0 rfl
      have r0 := R4.out.c 0 rfl
      have r1 := R4.out.c 1 rfl
      have z0 := R4.out.f 0
      have z1 := R4.out.f 1
      have zl := R4.out.lt
      have f1 := B4.out.f 1
      have ne1 : ¬ w1.heap.size = w.heap.size := by omega
      have ne2 : ¬ w.heap.size = w1.heap.size := by omega
      by_cases e2 : r = 2
      · subst e2
        obtain ⟨k', rfl⟩ : ∃ k', k = k' + 1 := ⟨k - 1, by omega⟩
        go_wp2_with fail
        have KK := ((R4.out.oth ne1 1 (.slice (some ⟨nb, o + 1, none⟩) k' (cp - 1))).set 0 (.int .i64 sd)).set 1 (.slice (some ⟨nb, o + 1, none⟩) k' (cp - 1))
        have k0 := KK.c 0 rfl
        have k1 := KK.c 1 rfl
        clear KK
        refine bodyPost_ret (v := .agg #[.int .i64 sd, .slice (some ⟨nb, o + 1, none⟩) k' (cp - 1)]) (by simp [results, Try.results42, go_sem, k0, k1]) rfl ?_
        have hbl : Below w.heap.size w4 (w4.setCell ⟨w1.heap.size, 1, none⟩ (.slice (some ⟨nb, o + 1, none⟩) k' (cp - 1))) := (Below.refl w.heap.size w4).setCell (p := ⟨w1.heap.size, 1, none⟩) (by show w.heap.size ≤ w1.heap.size; omega) _
        obtain ⟨r, rs', hrs⟩ : ∃ r rs', rs = r :: rs' := by
          have := HLN.out
          match rs, this with
          | r :: rs', _ => exact ⟨r, rs', rfl⟩
        have ot := O4.out
        rw [hrs] at ot
        exact FIN.out sd (o + 1) k' (cp - 1) rs' (q1 + 1) _ (by omega) (by omega) (((ot.tailR (by omega)).set (.inr (Nat.le_refl _)) _ _).mono (Nat.le_refl _) (by simp [World.setCell]; omega)) (by omega) (HS.out.low HS4.out hbl) (gb_low G4.out hbl) (R4.out.oth ne1 _ _)
      · go_wp2_with fail
        have KK := (R4.out.set 0 (.int .i64 sd)).set 1 (.slice (some ⟨nb, o, none⟩) k cp)
        have k0 := KK.c 0 rfl
        have k1 := KK.c 1 rfl
        clear KK
        refine bodyPost_ret (v := .agg #[.int .i64 sd, .slice (some ⟨nb, o, none⟩) k cp]) (by simp [results, Try.results42, go_sem, k0, k1]) rfl ?_
        exact FIN.out sd o k cp rs (q1 + 1) _ (by omega) hk64 (O4.out.mono (Nat.le_refl _) (Nat.le_of_lt B4.out.lt)) (by omega) HS4.out G4.out R4.out
theorem bel_2d {w W : World} (h : Below w.heap.size w W) (x y : Value) : Below w.heap.size w ((W.setCell ⟨w.heap.size, 0, none⟩ x).setCell ⟨w.heap.size, 1, none⟩ y) :=
  (h.setCell (p := ⟨w.heap.size, 0, none⟩) (Nat.le_refl _) x).setCell (p := ⟨w.heap.size, 1, none⟩) (Nat.le_refl _) y
def DrEG (w : World) (e : Ending) (w' : World) : Prop := ∃ sd G k cp rs H m d ps, e = .returned (.tuple #[.agg #[.int .i64 sd, .slice G k cp], .slice H m d]) ∧ k ≤ 64 ∧ ps.length ≤ 3 ∧ (∃ bs, Hd w' (rowsD rs) (.slice G k cp) bs) ∧ (∃ gs, Hd w' (.ints .i64 ps) (.slice H m d) gs) ∧ Below w.heap.size w w'
set_option maxRecDepth 100000 in
set_option maxHeartbeats 1000000 in
theorem drawEvalGrid_any (A : Option Addr) (n c : Nat) (xs : List Int) (w : World) (h : Code w A n xs) :
    Calls Try.prog 6 #[.slice A n c] w (DrEG w) := by
  have H := Lib.hid h
  clear h
  go_enter Try.func6, Try.ntmps6
  go_wp2_with fail
  refine (source_any A n c xs _ (H.out.alloc _).reads H.out.u8 H.out.small).mono ?_
  rintro e w1 ⟨rfl, hs1, hb1, hl1⟩
  simp only [World.size_alloc] at hs1 hb1 hl1 ⊢
  have HS1 := Lib.hid hs1
  have B1 : Hid (Below w.heap.size w w1) := (blAlloc w _).trans (hb1.mono (by omega))
  have R1 : Hid (Bx w1 w.heap.size [.int .i64 0, .slice none 0 0]) := (Bx.new w _ _ rfl).bel (by simpa using hb1)
  clear hs1 hb1
  go_wp2_with fail
  refine (bent5_any (w.heap.size + 1) A n c xs 0 _ HS1.out (by omega)).mono ?_
  rintro e w2 ⟨sd, G, k, cp, rs, q2, rfl, hk7, hk64, ho2, hq2, hs2, hg2⟩
  have HS2 := Lib.hid hs2
  have B2 : Hid (Below w.heap.size w w2) := B1.out.trans (gb_to_below hg2 (by omega) B1.out.size)
  have R2 := Lib.hid (R1.out.grownG hg2 (by omega))
  have O2 := Lib.hid ho2
  clear hs2 hg2 ho2
  go_wp2_with fail
  refine (bentLevels4_any (w.heap.size + 1) A n c xs q2 _ HS2.out HS2.out.lt (by omega)).mono ?_
  rintro e w3 ⟨G3, k3, c3, ps, q3, rfl, hl3, ho3, hq3, hs3, hg3⟩
  have B3 : Hid (Below w.heap.size w w3) := B2.out.trans (gb_to_below hg3 (by omega) B2.out.size)
  have R3 := Lib.hid (R2.out.grownG hg3 (by omega))
  have O3 := Lib.hid (own_gb O2.out hg3 (by omega))
  have P3 := Lib.hid ho3
  have hz2 : w.heap.size < w2.heap.size := R2.out.lt
  clear hs3 hg3 ho3
  have r0 := R3.out.c 0 rfl
  have r1 := R3.out.c 1 rfl
  have z0 := R3.out.f 0
  have z1 := R3.out.f 1
  have zl := R3.out.lt
  go_wp2_with fail
  have KK := (R3.out.set 0 (.int .i64 sd)).set 1 (.slice G k cp)
  have k0 := KK.c 0 rfl
  have k1 := KK.c 1 rfl
  clear KK
  refine bodyPost_ret (v := .tuple #[.agg #[.int .i64 sd, .slice G k cp], .slice G3 k3 c3]) (by simp [results, Try.results6, go_sem, k0, k1]) rfl ⟨sd, G, k, cp, rs, G3, k3, c3, ps, rfl, hk64, hl3, ?_, ?_, bel_2d B3.out _ _⟩
  · exact ((O3.out.set (.inl (by omega)) _ _).set (.inl (by omega)) _ _).hd
  · exact ((P3.out.set (.inl (by omega)) _ _).set (.inl (by omega)) _ _).hd
end Go.Proofs.Ythplngcdldongaa
