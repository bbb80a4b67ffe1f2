/-
  Baking, by the program: BakeChain.
-/
import Derived.Test.YtlfdpambbgddoaaGreatBakC
import Derived.Deep.RegionHeld3
namespace Go.Proofs.YtlfdpambbgddoaaGreat
open Go.RowKit Go.Maps
set_option linter.unusedVariables false
set_option linter.unusedSimpArgs false

def bcS (ts : List Stg) (sd : Int) : Int := if bkC ts sd = 0 then sd else 0
def bcL (ts : List Stg) (sd : Int) : Rws := if bkC ts sd = 0 then bkRs sd.toNat ts (sd.toNat * sd.toNat * sd.toNat) ts.length else []
theorem bc_n {ts : List Stg} {sd : Int} (h : bkC ts sd ≠ 0) : bcS ts sd = 0 ∧ bcL ts sd = [] := ⟨by unfold bcS; rw [if_neg h], by unfold bcL; rw [if_neg h]⟩
theorem bc_y {ts : List Stg} {s : Nat} (h : bkC ts s = 0) : bcS ts s = s ∧ bcL ts s = bkRs s ts (s * s * s) ts.length := ⟨by unfold bcS; rw [if_pos h], by unfold bcL; rw [if_pos h, Int.toNat_natCast]⟩
theorem run_fldG (a b : Int) (A : Option Addr) (n c : Nat) (W : World) : (Instr.field 30 (.agg #[.int .i64 a, .int .i64 b, .slice A n c]) 1).run Tryz.prog W = .ok (.agg #[.int .i64 b, .slice A n c]) W := by kernel_rfl
theorem bel_3 {w W : World} {c : Nat} (h : Below w.heap.size w W) (hc : w.heap.size ≤ c) (x y z : Value) : Below w.heap.size w (((W.setCell ⟨c, 0, none⟩ x).setCell ⟨c, 1, none⟩ y).setCell ⟨c, 2, none⟩ z) :=
  ((h.setCell (p := ⟨c, 0, none⟩) hc x).setCell (p := ⟨c, 1, none⟩) hc y).setCell (p := ⟨c, 2, none⟩) hc z
set_option maxRecDepth 100000 in
set_option maxHeartbeats 4000000 in
theorem BakeChain_any (A : Option Addr) (n c : Nat) (ts : List Stg) (bs : List Nat) (sd : Int) (w : World) (h : Hd w (chD ts) (.slice A n c) bs) :
    Calls Tryz.prog 9 #[.agg #[.slice A n c], .int .i64 sd] w (GrAns w (bkC ts sd) (bcS ts sd) (bcL ts sd)) := by
  have H := Lib.hid h
  clear h
  go_enter Tryz.func9, Tryz.ntmps9
  go_wp2_with fail
  refine (bakeStages_any A n c ts bs sd _ ((H.out.alloc _).alloc _)).mono ?_
  rintro e w1 ⟨v, rfl, hok, hb⟩
  have R1 := Lib.hid ((Bx.new (w.alloc (.cells #[.slice A n c] 34)) #[.int .i64 0, .int .i64 0, .slice none 0 0] 30 (b := w.heap.size + 1) (by simp)).bel hb)
  have T1 := Lib.hid (blThen (blThenAlloc (blAlloc w _) _) hb)
  have r0 := R1.out.c 0 rfl
  have r1 := R1.out.c 1 rfl
  have r2 := R1.out.c 2 rfl
  have z0 := R1.out.f 0
  have z1 := R1.out.f 1
  have z2 := R1.out.f 2
  have l1 := R1.out.lt
  clear hb H
  by_cases h0 : bkC ts sd = 0
  · obtain ⟨vs, hov, hst⟩ := hok h0
    obtain ⟨hcf, hs⟩ := bkC_zero h0
    have hsb := inB_iff.1 hs
    obtain ⟨s, rfl⟩ : ∃ s : Nat, sd = s := ⟨sd.toNat, by omega⟩
    have h3 : s = 2 ∨ s = 3 ∨ s = 4 := by omega
    have h5 := chf_zr hcf
    obtain ⟨A', c', rfl, hc1, hc2, hsts⟩ := Sts.of hov hst (sgL_all _ h5.2)
    obtain ⟨N, hN⟩ : ∃ N, N = s * s * s := ⟨_, rfl⟩
    obtain ⟨K, hK⟩ : ∃ K, K = ts.length := ⟨_, rfl⟩
    have HN1 : Hid (N ≤ 64 ∧ 0 < N) := by show _ ∧ _; rw [hN]; rcases h3 with rfl | rfl | rfl <;> simp
    have HBC := Lib.hid (bc_y h0)
    have HCL : Hid (∀ W, Calls Tryz.prog 30 #[.int .i64 (s : Int)] W (GrAns W 0 s (lgRs s N))) := fun W => by
      have := LineGrid_any (s : Int) W
      rw [(lg_yes hs).1, (lg_yes hs).2.1, (lg_yes hs).2.2, ← hN] at this
      exact this
    have HFI : Hid (∀ k j, k ≤ K → j < N → lfo 1 (ev3 1 ts (lgRow s j) k) = 0) := fun k j hk hj => ev3_fine (.inl rfl) (lgRow_chC h3 (by omega) hcf) (by omega)
    have HST := Lib.hid hsts
    have HC1 := Lib.hid hc1
    have HLW := Lib.hid l1
    have HH0 := Lib.hid h0
    have HN := Lib.hid hN
    have HK := Lib.hid hK
    rw [h0]
    rw [← hK] at hc1 ⊢
    have hK5 : K ≤ 5 := by rw [hK]; exact h5.1
    have HC2 : Hid (c' ≤ 9223372036854775807) := by unfold maxLen at hc2; show c' ≤ _; omega
    have hc2' := HC2.out
    clear hok hov hst h0 hsts hcf hs hsb h3 h5 hN hK hc2 r0 r1 r2 z0 z1 z2
    go_wp2_with fail
    refine (HCL.out w1).mono ?_
    rintro e w2 ⟨G, m, cG, rfl, ho, hb⟩
    obtain ⟨bs2, hd2⟩ := ho.hd
    obtain ⟨hl2, hcp1, hcp2, hf2⟩ := hd2.rows
    obtain rfl : m = N := by rw [← hl2]; simp [lgRs]
    have hNN := HN1.out
    obtain ⟨nb, o, rfl, -⟩ := hf2 (by omega)
    have hsl := ho.slotR (i := 0) (by omega)
    have HNB := Lib.hid hsl.2
    obtain ⟨W3, hW3⟩ : ∃ W3, W3 = w2.alloc (.cells #[.int .i64 (s : Int), .slice (some ⟨nb, o, none⟩) m cG] 28) := ⟨_, rfl⟩
    have G3 : Hid (Bx W3 w2.heap.size [.int .i64 (s : Int), .slice (some ⟨nb, o, none⟩) m cG]) := by show Bx _ _ _; rw [hW3]; exact Bx.new _ _ _ rfl
    have T3 : Hid (Below w.heap.size w W3) := by show Below _ _ _; rw [hW3]; exact blThenAlloc (blThen T1.out hb) _
    have B3 : Hid (Below w1.heap.size w1 W3) := by show Below _ _ _; rw [hW3]; exact blThenAlloc hb _
    have R3 : Hid (Bx W3 (w.heap.size + 1) [.int .i64 0, .int .i64 0, .slice none 0 0]) := by show Bx _ _ _; rw [hW3]; exact (R1.out.bel hb).alloc _
    have O3 : Hid (Own W3 (rowsD (bkRs s ts m 0)) (.slice (some ⟨nb, o, none⟩) m cG) w1.heap.size W3.heap.size) := by show Own _ _ _ _ _; rw [bkRs_0, hW3]; exact (ho.alloc _).mono (Nat.le_refl _) (by simp)
    have HCP := Lib.hid (And.intro hcp1 hcp2)
    have HW3 := Lib.hid hW3
    have hg0 := G3.out.lt
    have fl1 := fun W => run_fldG 0 (s : Int) (some ⟨nb, o, none⟩) m cG W
    have S12 : Hid (w1.heap.size ≤ w2.heap.size) := hb.size
    clear ho hb hd2 hl2 hcp1 hcp2 hf2 hsl hW3 R1 T1 HCL l1 hNN
    go_wp2_with fail
    rw [← HW3.out]
    clear HW3 fl1
    go_loopw [25] (fun i wr => ∃ k : Nat, k ≤ K ∧ i = .int .i64 k ∧ Hid (Own wr (rowsD (bkRs s ts m k)) (.slice (some ⟨nb, o, none⟩) m cG) w1.heap.size wr.heap.size) ∧ Hid (Ch W3 wr (· = nb))) (fun i _ => K - (intOf i).toNat)
    case atStart => exact ⟨0, by omega, rfl, O3.out, Ch.refl _ _⟩
    case round =>
      obtain ⟨k, hk, rfl, HR, HCH⟩ := hrel
      have hne : w2.heap.size ≠ nb := by have := HNB.out; omega
      have HBR : Hid (Below w1.heap.size w1 wr) := B3.out.trans (HCH.out.below (fun k e => by rw [e]; exact HNB.out.1) B3.out.size)
      have g1 := (HCH.out.cell hg0 hne 1).trans (G3.out.c 1 rfl)
      by_cases hlt : k < K
      · obtain ⟨b, rfl, vc⟩ := HST.out.at_ k (by rw [← HK.out]; exact hlt)
        have hfi := HST.out.fine k (by rw [← HK.out]; exact hlt)
        have his := HST.out.st k (by rw [← HK.out]; exact hlt)
        replace vc := cell_later HBR.out vc
        have CB := Lib.hid (bakeStage_any w2.heap.size nb o m cG w1.heap.size s k ts (vs.getD k undef) wr g1 hne HCP.out HR.out HBR.out.size HN1.out.1 HN1.out.2 (by
          obtain ⟨y, hy, -⟩ := Own.slot (m := 1) (i := 0) (j := 0) HR.out HN1.out.2 (by omega)
          exact stepC_any (st_ ts k) (vs.getD k undef) w1 wr nb _ y his HBR.out HNB.out.1 hy hfi) (fun j hj => HFI.out k j (by omega) hj))
        generalize vs.getD k undef = sv at *
        clear hfi his g1
        go_wp2_with fail
        refine CB.out.mono ?_
        rintro e w4 ⟨rfl, ho4, hc4⟩
        have HO4 := Lib.hid ho4
        have HC4 := Lib.hid (HCH.out.trans hc4)
        clear ho4 hc4 CB vc
        go_wp2_with fail
        go_roundw
        case rel => exact ⟨k + 1, by omega, by go_num, HO4.out, HC4.out⟩
        case measure => simp [intOf]; omega
      · obtain rfl : k = K := by omega
        have RR := Lib.hid (R3.out.chB HCH.out (by have := HNB.out; have := HLW.out; show ¬ (w.heap.size + 1 = nb); omega))
        have g0 := (HCH.out.cell hg0 hne 0).trans (G3.out.c 0 rfl)
        have r0 := RR.out.c 0 rfl
        have r1 := RR.out.c 1 rfl
        have r2 := RR.out.c 2 rfl
        have z0 := RR.out.f 0
        have z1 := RR.out.f 1
        have z2 := RR.out.f 2
        go_wp2_with fail
        have KK := ((RR.out.set 0 (.int .i64 0)).set 1 (.int .i64 (s : Int))).set 2 (.slice (some ⟨nb, o, none⟩) m cG)
        have k0 := KK.c 0 rfl
        have k1 := KK.c 1 rfl
        have k2 := KK.c 2 rfl
        clear KK
        refine bodyPost_ret (v := .agg #[.int .i64 0, .int .i64 (s : Int), .slice (some ⟨nb, o, none⟩) m cG]) (by simp [results, Tryz.results9, go_sem, k0, k1, k2]) rfl ⟨_, _, _, by rw [HH0.out, HBC.out.1], ?_, ?_⟩
        · rw [HBC.out.2, ← HN.out, ← HK.out]
          have hlo : w.heap.size + 1 < w1.heap.size := HLW.out
          refine Own.mono (lo := w1.heap.size) (hi := wr.heap.size) ?_ (by omega) (by simp [setSize])
          exact ((HR.out.set (.inl (by omega)) _ _).set (.inl (by omega)) _ _).set (.inl (by omega)) _ _
        · have HBW : Below w.heap.size w wr := T3.out.trans (HCH.out.below (fun k e => by rw [e]; have := HNB.out; have := HLW.out; omega) T3.out.size)
          exact bel_3 HBW (by omega) _ _ _
  · have HBC := Lib.hid (bc_n h0)
    obtain ⟨f, hf⟩ : ∃ f, bkC ts sd = f := ⟨_, rfl⟩
    have HFF := Lib.hid hf
    rw [hf] at h0 ⊢
    have hqn : (f == 0) = false := by simpa using h0
    clear hok hf
    go_wp2_with fail
    have KK := ((R1.out.set 0 (.int .i64 f)).set 1 (.int .i64 0)).set 2 (.slice none 0 0)
    have k0 := KK.c 0 rfl
    have k1 := KK.c 1 rfl
    have k2 := KK.c 2 rfl
    clear KK
    refine bodyPost_ret (v := .agg #[.int .i64 f, .int .i64 0, .slice none 0 0]) (by simp [results, Tryz.results9, go_sem, k0, k1, k2]) rfl ⟨none, 0, 0, by rw [HBC.out.1, HFF.out], by rw [HBC.out.2]; exact Own.snil _ _ _ _ _ _ (Nat.zero_le _), ?_⟩
    exact bel_3 T1.out (by omega) _ _ _
end Go.Proofs.YtlfdpambbgddoaaGreat
