/-
  Baking, by the program: bakeStage, BakeChain.
-/
import Derived.Test.YtlfdpambbgddoaaGreatBakB
import Derived.Deep.RegionHeld3
namespace Go.Proofs.YtlfdpambbgddoaaGreat
open Go.RowKit Go.Maps
set_option linter.unusedVariables false
set_option linter.unusedSimpArgs false

theorem Own.slotR {w : World} {b o n c lo hi : Nat} {rs : Rws} (h : Own w (rowsD rs) (.slice (some ⟨b, o, none⟩) n c) lo hi) {i : Nat} (hi' : i < n) : w.frozen? ⟨b, o + i, none⟩ = false ∧ lo ≤ b ∧ b < hi := by
  obtain ⟨x, -, a, b, c⟩ := Own.slot (m := 1) (i := i) (j := 0) h hi' (by omega)
  rw [Nat.mul_one, Nat.add_zero] at a
  exact ⟨a, b, c⟩
theorem ev3_len (o : Int) (ts : List Stg) (xs : List Int) (k : Nat) : (ev3 o ts xs k).length = 3 := rfl
theorem Rd.three {w : World} {B : Option Addr} {L : Nat} {xs : List Int} (h : Rd .i64 w B L xs) (hl : xs.length = 3) : ∃ b o, B = some ⟨b, o, none⟩ ∧ L = 3 ∧ w.cell? ⟨b, o, none⟩ = some (.int .i64 (xs.getD 0 0)) ∧ w.cell? ⟨b, o + 1, none⟩ = some (.int .i64 (xs.getD 1 0)) ∧ w.cell? ⟨b, o + 2, none⟩ = some (.int .i64 (xs.getD 2 0)) := by
  obtain rfl : L = 3 := by rw [← h.1, hl]
  obtain ⟨b, o, rfl, hc⟩ := h.2 (by omega)
  exact ⟨b, o, rfl, rfl, hc 0 (by omega), hc 1 (by omega), hc 2 (by omega)⟩
set_option maxRecDepth 100000 in
set_option maxHeartbeats 4000000 in
theorem bakeStage_any (gb nb o N c lo s k : Nat) (ts : List Stg) (sv : Value) (w : World) (hg : w.cell? ⟨gb, 1, none⟩ = some (.slice (some ⟨nb, o, none⟩) N c)) (hne : gb ≠ nb) (hcap : N ≤ c ∧ c ≤ maxLen)
    (hown : Own w (rowsD (bkRs s ts N k)) (.slice (some ⟨nb, o, none⟩) N c) lo w.heap.size) (hlo : lo ≤ w.heap.size) (hN : N ≤ 64) (hN0 : 0 < N)
    (hso : Calls Tryz.prog 53 #[sv, .int .i64 1] w (SoC w nb (evS 1 (st_ ts k)))) (hfine : ∀ j, j < N → lfo 1 (ev3 1 ts (lgRow s j) k) = 0) :
    Calls Tryz.prog 31 #[.pointer (some ⟨gb, 0, none⟩), sv] w fun e w' => e = .returned (.tuple #[]) ∧ Own w' (rowsD (bkRs s ts N (k + 1))) (.slice (some ⟨nb, o, none⟩) N c) lo w'.heap.size ∧ Ch w w' (· = nb) := by
  have CS := Lib.hid hso
  have HF := Lib.hid hfine
  have HO := Lib.hid hown
  have HG := Lib.hid hg
  have HC1 := Lib.hid hcap.1
  have HC2 : Hid (c ≤ 9223372036854775807) := by have := hcap.2; unfold maxLen at this; show c ≤ _; omega
  have HLO := Lib.hid hlo
  have g0 := hg
  have zg := cell_lt hg
  clear hso hfine hown hg hcap hlo
  go_enter Tryz.func31, Tryz.ntmps31
  go_wp2_with fail
  refine CS.out.mono ?_
  rintro e w1 ⟨fid, caps, rfl, hen, hst, hb⟩
  have HST := Lib.hid hst
  have HEN := Lib.hid hen
  have HB := Lib.hid hb
  have g1 := cell_later hb g0
  have z1 := cell_lt g1
  clear hst hb hen CS g0 zg
  have c1 := HC1.out
  have c2 := HC2.out
  go_wp2_with fail
  go_loopw [13] (fun i wr => ∃ j : Nat, j ≤ N ∧ i = .int .i64 j ∧ Hid (Own wr (rowsD (bkM s ts N k j)) (.slice (some ⟨nb, o, none⟩) N c) lo wr.heap.size) ∧ Hid (Ch w1 wr (· = nb))) (fun i _ => N - (intOf i).toNat)
  case atStart => exact ⟨0, by omega, rfl, by show Own _ _ _ _ _; rw [bkM_0]; exact (HO.out.below HB.out).mono (Nat.le_refl _) HB.out.size, Ch.refl _ _⟩
  case round =>
    obtain ⟨j, hj, rfl, HR, HCH⟩ := hrel
    have gr := (HCH.out.cell z1 hne 1).trans g1
    have zr := cell_lt gr
    by_cases hlt : j < N
    · obtain ⟨bs, hd⟩ := HR.out.hd
      obtain ⟨b', o', B, L, C, gs, e', hcl, hrow, -⟩ := hd.row hlt
      injection e' with e'
      injection e' with e1 e2
      subst e1 e2
      have hfr := HR.out.slotR hlt
      rw [bkM_at hlt, if_neg (by omega)] at hrow
      obtain ⟨bb, oo, rfl, rfl, a0, a1, a2⟩ := hrow.rd.three (ev3_len _ _ _ _)
      have HON : Hid ([evS 1 (st_ ts k) ((ev3 1 ts (lgRow s j) k).getD · 0) 0, evS 1 (st_ ts k) ((ev3 1 ts (lgRow s j) k).getD · 0) 1, evS 1 (st_ ts k) ((ev3 1 ts (lgRow s j) k).getD · 0) 2] = ev3 1 ts (lgRow s j) (k + 1)) := ev3_on 1 ts (lgRow s j) k
      have HLV : Hid (LvT 65535 ((ev3 1 ts (lgRow s j) k).getD · 0)) := fun t ht => by have := inB_iff.1 ((lfo_zero (HF.out j hlt)).2 t ht); show 0 ≤ (ev3 1 ts (lgRow s j) k).getD t 0 ∧ (ev3 1 ts (lgRow s j) k).getD t 0 ≤ 65535; omega
      obtain ⟨x, hx⟩ : ∃ x : Nat → Int, x = ((ev3 1 ts (lgRow s j) k).getD · 0) := ⟨_, rfl⟩
      obtain ⟨y, hy⟩ : ∃ y : Nat → Int, y = evS 1 (st_ ts k) ((ev3 1 ts (lgRow s j) k).getD · 0) := ⟨_, rfl⟩
      have CN := Lib.hid (bakeNode_any nb (o + j) fid caps bb oo C x y wr HEN.out hcl hfr.1 (by rw [hx]; exact a0) (by rw [hx]; exact a1) (by rw [hx]; exact a2) (fun W hW => by
        have := HST.out W (HCH.out.trans (Ch.of_below _ hW)) x (by rw [hx]; exact HLV.out)
        rw [hy, ← hx]
        exact this))
      have HLB := Lib.hid hfr.2
      have HRW : Hid (ev3 1 ts (lgRow s j) (k + 1) = [y 0, y 1, y 2]) := by show _ = _; rw [hy]; exact HON.out.symm
      clear hd hrow a0 a1 a2 HON HLV hx hy hfr
      go_wp2_with fail
      refine CN.out.mono ?_
      rintro e w2 ⟨W1, vb, rfl, rfl, hb, hvb, bx⟩
      have HB2 := Lib.hid hb
      have HBX := Lib.hid bx
      have HVB := Lib.hid hvb
      clear hb bx hvb CN hcl
      go_wp2_with fail
      go_roundw
      case rel =>
        refine ⟨j + 1, by omega, by go_num, ?_, ?_⟩
        · show Own _ _ _ _ _
          have hx : Own W1 (.ints .i64 (ev3 1 ts (lgRow s j) (k + 1))) (.slice (some ⟨vb, 0, none⟩) 3 3) wr.heap.size W1.heap.size := by
            rw [HRW.out]
            exact (own3L HBX.out).mono HVB.out (Nat.le_refl _)
          have sz := HB2.out.size
          have szl := HCH.out.size
          have szb := HB.out.size
          have llo := HLO.out
          have := (HR.out.below HB2.out).putRow (rs' := bkM s ts N k (j + 1)) hlt hx (by omega) sz (by rw [bkM_len, bkM_len]) (by rw [bkM_at hlt, if_pos (by omega)]) (fun t ht hne => by
            rw [bkM_at ht, bkM_at ht]
            by_cases h : t < j
            · rw [if_pos h, if_pos (by omega)]
            · rw [if_neg h, if_neg (by omega)])
          simpa [World.setCell] using this
        · exact (HCH.out.trans (Ch.of_below _ HB2.out)).trans (Ch.setCell _ (P := (· = nb)) rfl _ _)
      case measure => simp [intOf]; omega
    · obtain rfl : j = N := by omega
      go_wp2_with fail
      refine bodyPost_end (v := .tuple #[]) (by simp [results, Tryz.results31, go_sem]) rfl ⟨rfl, ?_, ?_⟩
      · rw [← bkM_n]; exact HR.out
      · exact (Ch.of_below _ HB.out).trans HCH.out
end Go.Proofs.YtlfdpambbgddoaaGreat
