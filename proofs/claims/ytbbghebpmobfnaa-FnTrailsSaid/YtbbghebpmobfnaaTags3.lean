/-
  The fault of a profile by the program: impl.placesOf, impl.ProfileFault.
-/
import Derived.Test.YtbbghebpmobfnaaTags2
namespace Go.Proofs.Ytbbghebpmobfnaa
open Go.RowKit Go.Maps
set_option linter.unusedVariables false

def PlAns (w : World) (cl : Int) (ts : List Tg) (e : Ending) (w' : World) : Prop :=
  ((∃ B D, pf cl ts = 0 ∧ e = .returned (.tuple #[.map (some B), .int .i64 0]) ∧ MapIs w' B ts ts.length D) ∨ (pf cl ts ≠ 0 ∧ e = .returned (.tuple #[.map none, .int .i64 (pf cl ts)]))) ∧ Below w.heap.size w w'
theorem PlAns.bad {w w' : World} {cl : Int} {ts : List Tg} {c : Int} (h : pf cl ts = c) (hc : c ≠ 0) (hb : Below w.heap.size w w') : PlAns w cl ts (.returned (.tuple #[.map none, .int .i64 c])) w' :=
  ⟨.inr ⟨by rw [h]; exact hc, by rw [h]⟩, hb⟩
theorem run_makeMap_hint (n : Nat) (w : World) (h : n ≤ 1000) : (Instr.makeMap 66 (some (.int .i64 (n : Int)))).run Try.prog w = .ok (.map (some w.heap.size)) (w.alloc (.map #[] 0)) := by
  simp [Instr.makeMap, run_underlying Try.underlying66, asInt, asIntOf]
theorem zeroInt (w : World) : (zeroValue 3).run Try.prog w = .ok (.int .i64 0) w := by kernel_rfl

set_option maxHeartbeats 1000000 in
theorem placesOf_early (A : Option Addr) (n c : Nat) (cl : Int) (ts : List Tg) (bs : List Nat) (w : World) (h : Hd w (tagsD ts) (.slice A n c) bs) (hbad : inB cl 1 3 = false ∨ 8 < n) :
    Calls Try.prog 49 #[.agg #[.int .i64 cl, .slice A n c]] w (PlAns w cl ts) := by
  have hl := h.tags.1
  obtain ⟨-, hc1, hc2, -⟩ := h.tags
  unfold maxLen at hc2
  rcases Bool.eq_false_or_eq_true (inB cl 1 3) with hb | hb
  · have h8 : 8 < n := by rcases hbad with h1 | h1
                          · rw [hb] at h1; cases h1
                          · exact h1
    obtain ⟨b1, b2⟩ := inB_iff.1 hb
    have HP : Hid (pf cl ts = 2) := by unfold pf; rw [hb, if_neg (by simp), if_pos (by omega)]; rfl
    clear h hl hbad hb
    go_enter Try.func49, Try.ntmps49
    go_wp2
    go_ret2
    exact PlAns.bad HP.out (by decide) (blAlloc _ _)
  · have HP : Hid (pf cl ts = 3) := by unfold pf; rw [hb, if_pos rfl]; rfl
    rcases inB_f hb with hb' | hb'
    · clear h hl hbad hb
      go_enter Try.func49, Try.ntmps49
      go_wp2
      go_ret2
      exact PlAns.bad HP.out (by decide) (blAlloc _ _)
    · clear h hl hbad hb
      go_enter Try.func49, Try.ntmps49
      go_wp2
      go_ret2
      exact PlAns.bad HP.out (by decide) (blAlloc _ _)
set_option maxRecDepth 100000 in
set_option maxHeartbeats 2000000 in
theorem placesOf_late (A : Option Addr) (n c : Nat) (cl : Int) (ts : List Tg) (bs : List Nat) (w : World) (h : Hd w (tagsD ts) (.slice A n c) bs) (hs : TsOk ts) (hcl : inB cl 1 3 = true) (h8 : n ≤ 8) :
    Calls Try.prog 49 #[.agg #[.int .i64 cl, .slice A n c]] w (PlAns w cl ts) := by
  have HL := Lib.hid h.tags.1
  have HPF : Hid (pf cl ts = pfl ts n) := by unfold pf; rw [hcl, h.tags.1, if_neg (by simp), if_neg (by omega)]; rfl
  obtain ⟨b1, b2⟩ := inB_iff.1 hcl
  have hmm := fun w => run_makeMap_hint n w (by omega)
  have H := Lib.hid h
  have HS := Lib.hid hs
  clear h hcl hs
  go_enter Try.func49, Try.ntmps49
  go_wp2_with fail
  clear hmm
  go_loopw [30] (fun i wr => ∃ (k : Nat) (D : DataW Unit), k ≤ n ∧ i = .int .i64 k ∧ Hid (pfl ts k = 0) ∧ MapIs wr (w.heap.size + 1) ts k D ∧ Below w.heap.size w wr ∧ w.heap.size + 1 < wr.heap.size ∧ (∀ j, j < k → nm (tg ts j).1 = true)) (fun i _ => n - (intOf i).toNat)
  case atStart =>
    refine ⟨0, .map [], by omega, rfl, rfl, ?_, blThenAlloc (blAlloc _ _) _, by simp, fun j hj => absurd hj (by omega)⟩
    have := MapIs.new (w.alloc (.cells #[.int .i64 cl, .slice A n c] 27)) ts
    simpa using this
  case round =>
    obtain ⟨k, D, hk, rfl, hz, hm, hb, hsz, hnm⟩ := hrel
    have HM := Lib.hid hm
    have HB := Lib.hid hb
    have HN := Lib.hid hnm
    clear hm hb hnm
    by_cases hlt : k < n
    · obtain ⟨b, o, B1, L1, C1, g1, rfl, x1, x2, x3, -⟩ := (H.out.bel HB.out).tag hlt
      have hsk := HS.out k
      have HR := Lib.hid x3.rd.1
      clear x3
      rcases Bool.eq_false_or_eq_true (nm (tg ts k).1) with hn | hn
      · have hkey := ky_of (tg ts k).1
        have HKEY := Lib.hid hkey
        have hno : (∀ j, j ≤ k → nm (tg ts j).1 = true) := fun j hj => by
          by_cases e : j = k
          · subst e; exact hn
          · exact HN.out j (by omega)
        have HNO := Lib.hid hno
        have HPHAS := Lib.hid (HM.out.has (tg ts k).1 hn)
        clear hkey hno
        go_wp2_with fail
        refine (nameOf_yes _ _ hsk hn).mono ?_
        rintro e w1 ⟨rfl, hb1⟩
        obtain ⟨hc, hf⟩ := bcell hb1
        have hw1 : wr.heap.size < w1.heap.size := by have := hb1.size; simp at this; omega
        have HM1 := Lib.hid ((HM.out.below (blAlloc wr (.cells #[.string (tg ts k).1, .slice B1 L1 C1] 63))).below hb1)
        have T1 := Lib.hid (blThen (blThenAlloc HB.out _) hb1)
        clear hb1 x1 x2 HM HB
        rcases Bool.eq_false_or_eq_true (inB (L1 : Int) 1 96) with hL | hL
        · obtain ⟨l1, l2⟩ := inB_iff.1 hL
          rcases Bool.eq_false_or_eq_true (dupB ts k) with hd | hd
          · have HP : Hid (pf cl ts = 1) := by rw [HPF.out]; exact pfl_first hz.out (by unfold flt; rw [if_neg (by rw [hn]; simp), HR.out, if_neg (by rw [hL]; simp), if_pos hd]) (by decide) hlt
            have hhas : Maps.has D (ky (tg ts k).1) = true := by rw [HPHAS.out]; exact hd
            clear hL hd
            go_wp2_with (at_lookup; refine wpList_lookup_own_ok_int _ rfl _ _ 66 rfl 70 3 .i64 keyed Try.underlying66 Try.underlying3 (zeroInt _) (w.heap.size + 1) k D rfl (HM1.out.own.alloc _) _ _ rfl HKEY.out ?_; intro c hat hwc; rw [hhas])
            go_ret2
            exact PlAns.bad HP.out (by decide) (blThenAlloc T1.out _)
          · have HF0 : Hid (flt ts k = 0) := by unfold flt; rw [if_neg (by rw [hn]; simp), HR.out, if_neg (by rw [hL]; simp), if_neg (by rw [hd]; simp)]; rfl
            have hhas : Maps.has D (ky (tg ts k).1) = false := by rw [HPHAS.out]; exact hd
            have HD := Lib.hid hd
            clear hL hd
            go_wp2_with (first | (at_lookup; refine wpList_lookup_own_ok_int _ rfl _ _ 66 rfl 70 3 .i64 keyed Try.underlying66 Try.underlying3 (zeroInt _) (w.heap.size + 1) k D rfl (HM1.out.own.alloc _) _ _ rfl HKEY.out ?_; intro c hat hwc; rw [hhas]; clear hat hwc) | (at_mapUpdate; refine wpList_mapUpdate_own _ rfl _ _ _ 66 rfl 70 3 keyed Try.underlying66 _ (w.heap.size + 1) k D rfl (HM1.out.own.alloc _) (by unfold maxLen; omega) _ _ _ rfl rfl HKEY.out _ [] (plainElem_int Try.underlying3 (WalkArith.wf_i64 (by omega))) ?_; intro w2 hown2 hg2))
            have HM2 := Lib.hid (HM1.out.put HNO.out HD.out hown2)
            have T2 := Lib.hid ((blThenAlloc T1.out _).grown hg2 (by have := T1.out.size; simp; omega) (fun j hj => by cases hj; omega))
            have hw2 : w1.heap.size < w2.heap.size := by have := hg2.size; simp at this; omega
            clear hown2 hg2
            go_wp2_with fail
            go_roundw
            case rel => exact ⟨k + 1, _, by omega, by go_num, pfl_on hz.out HF0.out, HM2.out, T2.out, by omega, fun j hj => HNO.out j (by omega)⟩
            case measure => simp [intOf]; omega
        · have HP : Hid (pf cl ts = 2) := by rw [HPF.out]; exact pfl_first hz.out (by unfold flt; rw [if_neg (by rw [hn]; simp), HR.out, if_pos hL]) (by decide) hlt
          rcases inB_f hL with hL' | hL'
          · clear hL
            go_wp2_with fail
            go_ret2
            exact PlAns.bad HP.out (by decide) (blThenAlloc T1.out _)
          · clear hL
            go_wp2_with fail
            go_ret2
            exact PlAns.bad HP.out (by decide) (blThenAlloc T1.out _)
      · have HP : Hid (pf cl ts = 5) := by rw [HPF.out]; exact pfl_first hz.out (by unfold flt; rw [if_pos hn]) (by decide) hlt
        go_wp2_with fail
        refine (nameOf_no _ _ hsk hn).mono ?_
        rintro e w1 ⟨rfl, hb1⟩
        have T1 := Lib.hid (blThen (blThenAlloc HB.out _) hb1)
        clear hb1 x1 x2
        go_wp2_with fail
        go_ret2
        exact PlAns.bad HP.out (by decide) (blThenAlloc T1.out _)
    · obtain rfl : k = n := by omega
      go_wp2_with fail
      go_ret2
      exact ⟨.inl ⟨_, D, by rw [HPF.out]; exact hz.out, rfl, by rw [HL.out]; exact HM.out⟩, HB.out⟩
theorem placesOf_any (A : Option Addr) (n c : Nat) (cl : Int) (ts : List Tg) (bs : List Nat) (w : World) (h : Hd w (tagsD ts) (.slice A n c) bs) (hs : TsOk ts) :
    Calls Try.prog 49 #[.agg #[.int .i64 cl, .slice A n c]] w (PlAns w cl ts) := by
  rcases Bool.eq_false_or_eq_true (inB cl 1 3) with hb | hb
  · by_cases h8 : n ≤ 8
    · exact placesOf_late A n c cl ts bs w h hs hb h8
    · exact placesOf_early A n c cl ts bs w h (.inr (by omega))
  · exact placesOf_early A n c cl ts bs w h (.inl hb)
theorem PlAns.num {w w' : World} {cl : Int} {ts : List Tg} {e : Ending} (h : PlAns w cl ts e w') : ∃ m, e = .returned (.tuple #[.map m, .int .i64 (pf cl ts)]) ∧ Below w.heap.size w w' := by
  rcases h with ⟨⟨B, D, h0, rfl, _⟩ | ⟨_, rfl⟩, hb⟩
  · exact ⟨_, by rw [h0], hb⟩
  · exact ⟨_, rfl, hb⟩
set_option maxHeartbeats 400000 in
theorem ProfileFault_any (A : Option Addr) (n c : Nat) (cl : Int) (ts : List Tg) (bs : List Nat) (w : World) (h : Hd w (tagsD ts) (.slice A n c) bs) (hs : TsOk ts) :
    Calls Try.prog 24 #[.agg #[.int .i64 cl, .slice A n c]] w fun e w' => e = .returned (.int .i64 (pf cl ts)) ∧ Below w.heap.size w w' := by
  have H := Lib.hid h
  have HS := Lib.hid hs
  clear h hs
  go_enter Try.func24, Try.ntmps24
  go_wp2_with fail
  refine (placesOf_any A n c cl ts bs _ (H.out.alloc _) HS.out).mono ?_
  intro e w1 hp
  obtain ⟨m, rfl, hb⟩ := hp.num
  have T := Lib.hid (blThen (blAlloc w (.cells #[.int .i64 cl, .slice A n c] 27)) hb)
  clear hp hb
  go_wp2_with fail
  go_ret
  exact ⟨rfl, T.out⟩
end Go.Proofs.Ytbbghebpmobfnaa
