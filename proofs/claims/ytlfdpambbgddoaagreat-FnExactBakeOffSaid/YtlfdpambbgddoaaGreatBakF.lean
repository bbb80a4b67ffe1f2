/-
  Baking, by the reference model: l9Bake, BakeChain.
-/
import Derived.Test.YtlfdpambbgddoaaGreatBakD
import Derived.Test.YtlfdpambbgddoaaGreatBakE
import Derived.Deep.RegionHeld3
namespace Go.Proofs.YtlfdpambbgddoaaGreat
open Go.RowKit Go.Maps
set_option linter.unusedVariables false
set_option linter.unusedSimpArgs false

def bkX (s : Nat) (ts : List Stg) (N n i : Nat) : Rws := (List.range N).map fun j => if j < i then ev3 1 ts (lgRow s j) n else lgRow s j
theorem bkX_len (s : Nat) (ts : List Stg) (N n i : Nat) : (bkX s ts N n i).length = N := by simp [bkX]
theorem bkX_at {s : Nat} {ts : List Stg} {N n i j : Nat} (h : j < N) : rw_ (bkX s ts N n i) j = if j < i then ev3 1 ts (lgRow s j) n else lgRow s j := by
  simp [rw_, bkX, List.getD, h]
theorem bkX_0 (s : Nat) (ts : List Stg) (N n : Nat) : bkX s ts N n 0 = lgRs s N := by
  unfold bkX lgRs
  refine List.map_congr_left fun j _ => ?_
  rw [if_neg (by omega)]
theorem bkX_n (s : Nat) (ts : List Stg) (N n : Nat) : bkX s ts N n N = bkRs s ts N n := by
  unfold bkX bkRs
  refine List.map_congr_left fun j hj => ?_
  rw [if_pos (List.mem_range.1 hj)]
def Bk9 (w : World) (s : Nat) (rs : Rws) (e : Ending) (w' : World) : Prop :=
  ∃ G n c, e = .returned (.agg #[.int .i64 (s : Int), .slice G n c]) ∧ Own w' (rowsD rs) (.slice G n c) w.heap.size w'.heap.size ∧ Below w.heap.size w w'
theorem cell_lo {w w' : World} {B : Nat} {p : Addr} {v : Value} (h : Below B w w') (hp : p.block < B) (hc : w.cell? p = some v) : w'.cell? p = some v := (h.cell hp).trans hc
theorem Own.gt3 {w : World} {a b c : Int} {B : Option Addr} {d lo hi : Nat} (h : Own w (.ints .i64 [a, b, c]) (.slice B 3 d) lo hi) : lo < hi := by
  obtain ⟨bs, h1, -, h3⟩ := h
  obtain ⟨A', n', c', e, -, -, -, ⟨hn, -⟩ | ⟨b', o', -, -, rfl⟩⟩ := h1.ints_inv
  · cases e; omega
  · obtain ⟨p, q, -⟩ := h3 b' (by simp)
    omega
set_option maxRecDepth 100000 in
set_option maxHeartbeats 4000000 in
theorem sBake9_any (g q : Nat) (A : Option Addr) (n c s : Nat) (ts : List Stg) (bs : List Nat) (w : World) (h : Hd w (chD ts) (.slice A n c) bs) (hg : w.cell? ⟨g, q, none⟩ = some (.slice A n c)) (h0 : bkC ts (s : Int) = 0) :
    Calls Tryz.prog 27 #[.pointer (some ⟨g, q, none⟩), .int .i64 (s : Int)] w (Bk9 w s (bkRs s ts (s * s * s) ts.length)) := by
  obtain ⟨hcf, hs⟩ := bkC_zero h0
  have hsb := inB_iff.1 hs
  have h3 : s = 2 ∨ s = 3 ∨ s = 4 := by omega
  obtain ⟨N, hN⟩ : ∃ N, N = s * s * s := ⟨_, rfl⟩
  have HN1 : Hid (N ≤ 64 ∧ 0 < N) := by show _ ∧ _; rw [hN]; rcases h3 with rfl | rfl | rfl <;> simp
  have HNL : Hid (ts.length = n) := h.stgs.1
  have HCL : Hid (∀ W, Calls Tryz.prog 47 #[.int .i64 (s : Int)] W (Bk9 W s (lgRs s N))) := fun W => by
    have := sLine5_any s W h3
    rw [← hN] at this
    exact this
  have HFI : Hid (∀ j, j < N → chC ts (lgRow s j) = 0) := fun j hj => lgRow_chC h3 (by omega) hcf
  have H := Lib.hid h
  have HG := Lib.hid hg
  have HN := Lib.hid hN
  clear h hg hcf hs hsb h3 hN h0
  go_enter Tryz.func27, Tryz.ntmps27
  go_wp2_with fail
  refine (HCL.out _).mono ?_
  rintro e w2 ⟨G, m, cG, rfl, ho, hb⟩
  obtain ⟨bs2, hd2⟩ := ho.hd
  obtain ⟨hl2, hcp1, hcp2, hf2⟩ := hd2.rows
  obtain rfl : m = N := by rw [← hl2]; simp [lgRs]
  have hNN := HN1.out
  obtain ⟨nb, o, rfl, -⟩ := hf2 (by omega)
  have hsl := ho.slotR (i := 0) (by omega)
  have HNB : Hid (w.heap.size + 1 ≤ nb ∧ nb < w2.heap.size) := by have := hsl.2; simp at this; exact this
  have HLW : Hid (w.heap.size + 1 ≤ w2.heap.size) := by have := hb.size; simp at this; exact this
  obtain ⟨W3, hW3⟩ : ∃ W3, W3 = w2.alloc (.cells #[.int .i64 (s : Int), .slice (some ⟨nb, o, none⟩) m cG] 28) := ⟨_, rfl⟩
  have G3 : Hid (Bx W3 w2.heap.size [.int .i64 (s : Int), .slice (some ⟨nb, o, none⟩) m cG]) := by show Bx _ _ _; rw [hW3]; exact Bx.new _ _ _ rfl
  have T3 : Hid (Below w.heap.size w W3) := by show Below _ _ _; rw [hW3]; exact blThenAlloc (blThen (blAlloc w _) hb) _
  have R3 : Hid (Bx W3 w.heap.size [.int .i64 0, .slice none 0 0]) := by show Bx _ _ _; rw [hW3]; exact ((Bx.new w #[.int .i64 0, .slice none 0 0] 28 rfl).bel hb).alloc _
  have O3 : Hid (Own W3 (rowsD (bkX s ts m n 0)) (.slice (some ⟨nb, o, none⟩) m cG) (w.heap.size + 1) W3.heap.size) := by
    show Own _ _ _ _ _; rw [bkX_0, hW3]
    exact (ho.alloc _).mono (by simp) (by simp)
  have HCP : Hid (m ≤ cG ∧ cG ≤ 9223372036854775807) := by unfold maxLen at hcp2; exact ⟨hcp1, hcp2⟩
  have HW3 := Lib.hid hW3
  have hg0 := G3.out.lt
  clear ho hb hd2 hl2 hcp1 hcp2 hf2 hsl hW3 HCL hNN
  go_wp2_with fail
  rw [← HW3.out]
  clear HW3
  go_loopw [6] (fun i wr => ∃ j : Nat, j ≤ m ∧ i = .int .i64 j ∧ Hid (Own wr (rowsD (bkX s ts m n j)) (.slice (some ⟨nb, o, none⟩) m cG) (w.heap.size + 1) wr.heap.size) ∧ Hid (Ch W3 wr (· = nb))) (fun i _ => m - (intOf i).toNat)
  case atStart => exact ⟨0, by omega, rfl, O3.out, Ch.refl _ _⟩
  case round =>
    obtain ⟨j, hj, rfl, HR, HCH⟩ := hrel
    have hne : w2.heap.size ≠ nb := by have := HNB.out; omega
    have HBR : Hid (Below w.heap.size w wr) := T3.out.trans (HCH.out.below (fun k e => by rw [e]; have := HNB.out.1; omega) T3.out.size)
    have x1 := (HCH.out.cell hg0 hne 1).trans (G3.out.c 1 rfl)
    have z1 := cell_lt x1
    have cc1 := HCP.out.1
    have cc2 := HCP.out.2
    have n64 := HN1.out.1
    by_cases hlt : j < m
    · obtain ⟨bs, hd⟩ := HR.out.hd
      obtain ⟨b', o', B, L, C, gs, e', hcl, hrow, -⟩ := hd.row hlt
      injection e' with e'
      injection e' with e1 e2
      subst e1 e2
      have hfr := (HR.out.slotR hlt).1
      rw [bkX_at hlt, if_neg (by omega)] at hrow
      obtain ⟨bb, oo, rfl, rfl, -, -, -⟩ := hrow.rd.three rfl
      have zn := cell_lt hcl
      have CC : Hid (∀ W, Below wr.heap.size wr W → Calls Tryz.prog 40 #[.pointer (some ⟨g, q, none⟩), .slice (some ⟨bb, oo, none⟩) 3 C] W (SlAns W 3 (ev3 1 ts (lgRow s j) n))) := fun W hW => by
        have hWw : Below w.heap.size w W := blThen HBR.out hW
        exact sChain6_any g q A n c ts _ _ C (lgRow s j) W (H.out.bel hWw) (cell_later hWw HG.out) (hrow.rd.below hW) (HFI.out j hlt)
      clear hd hrow
      go_wp2_with fail
      go_region_law (first | (go_simp; go_at_call 40; (with_reducible refine (CC.out _ (by repeat (first | (with_reducible exact (Below.refl wr.heap.size wr)) | (with_reducible refine Below.drew ?_)))).mono ?_); rintro e wc ⟨B2, d2, rfl, hoc, hbc⟩; have Tc := Lib.hid (show Below wr.heap.size wr wc from blThen (by repeat (first | (with_reducible exact (Below.refl wr.heap.size wr)) | (with_reducible refine Below.drew ?_))) hbc); have Oc := Lib.hid (show Own wc (.ints .i64 (ev3 1 ts (lgRow s j) n)) (.slice B2 3 d2) wr.heap.size wc.heap.size from hoc); have fz : wc.frozen? ⟨nb, o + j, none⟩ = false := (Tc.out.frozen (p := ⟨nb, o + j, none⟩) zn).trans hfr; have y1 := cell_later Tc.out x1; have y2 := cell_later Tc.out hcl; have zc := cell_lt y2))
      all_goals
        have HTC := Lib.hid Tc.out
        have HOC := Lib.hid Oc.out
        clear y1 y2 fz zc Tc Oc CC hcl
        go_wp2_with fail
        go_roundw
        case rel =>
          refine ⟨j + 1, by omega, by go_num, ?_, ?_⟩
          · show Own _ _ _ _ _
            have sz := HTC.out.size
            have llo := HBR.out.size
            have l2 := HLW.out
            have l3 := HNB.out
            have := (HR.out.below HTC.out).putRow (rs' := bkX s ts m n (j + 1)) hlt HOC.out (by omega) sz (by rw [bkX_len, bkX_len]) (by rw [bkX_at hlt, if_pos (by omega)]) (fun t ht hne => by
              rw [bkX_at ht, bkX_at ht]
              by_cases h : t < j
              · rw [if_pos h, if_pos (by omega)]
              · rw [if_neg h, if_neg (by omega)])
            simpa [World.setCell] using this
          · exact (HCH.out.trans (Ch.of_below _ HTC.out)).trans (Ch.setCell _ (P := (· = nb)) rfl _ _)
        case measure => simp [intOf]; omega
    · obtain rfl : j = m := by omega
      have RR := Lib.hid (R3.out.chB HCH.out (by have := HNB.out; show ¬ (w.heap.size = nb); omega))
      have g0 := (HCH.out.cell hg0 hne 0).trans (G3.out.c 0 rfl)
      have r0 := RR.out.c 0 rfl
      have r1 := RR.out.c 1 rfl
      have s0 := RR.out.f 0
      have s1 := RR.out.f 1
      have sl := RR.out.lt
      go_wp2_with fail
      have KK := (RR.out.set 0 (.int .i64 (s : Int))).set 1 (.slice (some ⟨nb, o, none⟩) j cG)
      have k0 := KK.c 0 rfl
      have k1 := KK.c 1 rfl
      clear KK
      refine bodyPost_ret (v := .agg #[.int .i64 (s : Int), .slice (some ⟨nb, o, none⟩) j cG]) (by simp [results, Tryz.results27, go_sem, k0, k1]) rfl ⟨_, _, _, rfl, ?_, ?_⟩
      · rw [← HN.out, HNL.out, ← bkX_n]
        refine Own.mono (lo := w.heap.size + 1) (hi := wr.heap.size) ?_ (by omega) (by simp [setSize])
        exact (HR.out.set (.inl (by omega)) _ _).set (.inl (by omega)) _ _
      · exact (HBR.out.setCell (p := ⟨w.heap.size, 0, none⟩) (Nat.le_refl _) _).setCell (p := ⟨w.heap.size, 1, none⟩) (Nat.le_refl _) _
set_option maxRecDepth 100000 in
set_option maxHeartbeats 2000000 in
theorem sBakeChain_any (A : Option Addr) (n c : Nat) (ts : List Stg) (bs : List Nat) (sd : Int) (w : World) (h : Hd w (chD ts) (.slice A n c) bs) :
    Calls Tryz.prog 7 #[.agg #[.slice A n c], .int .i64 sd] w (GrAns w (bkC ts sd) (bcS ts sd) (bcL ts sd)) := by
  obtain ⟨W0, hW0⟩ : ∃ W0, W0 = (w.alloc (.cells #[.slice A n c] 34)).alloc (.cells #[.int .i64 0, .int .i64 0, .slice none 0 0] 30) := ⟨_, rfl⟩
  have B : Hid (Bx W0 w.heap.size [.slice A n c]) := by show Bx _ _ _; rw [hW0]; exact (Bx.new _ _ _ rfl).alloc _
  have R : Hid (Bx W0 (w.heap.size + 1) [.int .i64 0, .int .i64 0, .slice none 0 0]) := by show Bx _ _ _; rw [hW0]; exact Bx.new _ _ _ (by simp)
  have H : Hid (Hd W0 (chD ts) (.slice A n c) bs) := by show Hd _ _ _ _; rw [hW0]; exact (h.alloc _).alloc _
  have T0 : Hid (Below w.heap.size w W0) := by show Below _ _ _; rw [hW0]; exact blThenAlloc (blAlloc _ _) _
  have HW := Lib.hid hW0
  clear h hW0
  go_enter Tryz.func7, Tryz.ntmps7
  go_wp2_with fail
  rw [← HW.out]
  clear HW
  refine (sAsked9_any w.heap.size 0 A n c ts bs sd _ H.out (B.out.c 0 rfl)).mono ?_
  rintro e w1 ⟨rfl, mm, rfl⟩
  have R1 := Lib.hid (R.out.drewN mm)
  have r0 := R1.out.c 0 rfl
  have r1 := R1.out.c 1 rfl
  have r2 := R1.out.c 2 rfl
  have z0 := R1.out.f 0
  have z1 := R1.out.f 1
  have z2 := R1.out.f 2
  have l1 := R1.out.lt
  have T1 := Lib.hid (blThenDrew T0.out mm)
  by_cases h0 : bkC ts sd = 0
  · have hsb := inB_iff.1 (bkC_zero h0).2
    obtain ⟨s, rfl⟩ : ∃ s : Nat, sd = s := ⟨sd.toNat, by omega⟩
    have HBC := Lib.hid (bc_y h0)
    have H0 := Lib.hid h0
    have CB := Lib.hid (sBake9_any w.heap.size 0 A n c s ts bs (W0.drewN mm) (H.out.bel (below_drewN _ _ _)) ((B.out.drewN mm).c 0 rfl) h0)
    rw [h0]
    clear h0 hsb
    go_wp2_with fail
    refine CB.out.mono ?_
    rintro e w2 ⟨G, m, cG, rfl, ho, hb⟩
    have R2 := Lib.hid (R1.out.bel hb)
    have T2 := Lib.hid (blThen T1.out hb)
    have HO := Lib.hid ho
    have HL : Hid (w.heap.size + 1 < W0.heap.size) := R.out.lt
    clear ho hb R1 T1 r0 r1 r2 z0 z1 z2 l1 CB
    have r0 := R2.out.c 0 rfl
    have r1 := R2.out.c 1 rfl
    have r2 := R2.out.c 2 rfl
    have z0 := R2.out.f 0
    have z1 := R2.out.f 1
    have z2 := R2.out.f 2
    have l1 := R2.out.lt
    go_wp2_with fail
    have KK := ((R2.out.set 0 (.int .i64 0)).set 1 (.int .i64 (s : Int))).set 2 (.slice G m cG)
    have k0 := KK.c 0 rfl
    have k1 := KK.c 1 rfl
    have k2 := KK.c 2 rfl
    clear KK
    refine bodyPost_ret (v := .agg #[.int .i64 0, .int .i64 (s : Int), .slice G m cG]) (by simp [results, Tryz.results7, go_sem, k0, k1, k2]) rfl ⟨_, _, _, by rw [H0.out, HBC.out.1], ?_, ?_⟩
    · rw [HBC.out.2]
      have hlo := HL.out
      refine Own.mono (lo := W0.heap.size) (hi := w2.heap.size) ?_ (by omega) (by simp [setSize])
      exact ((HO.out.set (.inl (by simp; omega)) _ _).set (.inl (by simp; omega)) _ _).set (.inl (by simp; omega)) _ _
    · exact bel_3 T2.out (by omega) _ _ _
  · have HBC := Lib.hid (bc_n h0)
    obtain ⟨f, hf⟩ : ∃ f, bkC ts sd = f := ⟨_, rfl⟩
    have HFF := Lib.hid hf
    rw [hf] at h0 ⊢
    have hqn : (f == 0) = false := by simpa using h0
    clear hf
    go_wp2_with fail
    have KK := ((R1.out.set 0 (.int .i64 f)).set 1 (.int .i64 0)).set 2 (.slice none 0 0)
    have k0 := KK.c 0 rfl
    have k1 := KK.c 1 rfl
    have k2 := KK.c 2 rfl
    clear KK
    refine bodyPost_ret (v := .agg #[.int .i64 f, .int .i64 0, .slice none 0 0]) (by simp [results, Tryz.results7, go_sem, k0, k1, k2]) rfl ⟨none, 0, 0, by rw [HBC.out.1, HFF.out], by rw [HBC.out.2]; exact Own.snil _ _ _ _ _ _ (Nat.zero_le _), ?_⟩
    exact bel_3 T1.out (by omega) _ _ _
theorem bcL_len (ts : List Stg) (sd : Int) : (bcL ts sd).length ≤ 64 := by
  unfold bcL
  split
  · rename_i h
    have hsb := inB_iff.1 (bkC_zero h).2
    have h3 : sd.toNat = 2 ∨ sd.toNat = 3 ∨ sd.toNat = 4 := by omega
    rw [bkRs_len]
    rcases h3 with e | e | e <;> rw [e] <;> simp
  · simp
theorem bcL_small (ts : List Stg) (sd : Int) : RsSmall (bcL ts sd) := by
  refine ⟨by have := bcL_len ts sd; omega, fun i hi => ?_⟩
  unfold bcL at *
  split
  · rename_i h
    rw [if_pos h, bkRs_len] at hi
    rw [bkRs_at hi]
    show 3 ≤ _
    omega
  · rename_i h
    rw [if_neg h] at hi
    simp at hi
end Go.Proofs.YtlfdpambbgddoaaGreat
