/-
  What ranges over a curve's lines: IsMonotone, SlopeOf by the program.
-/
import Derived.Test.YtmmlcdbbjkligaaIt
import Derived.Test.YtmmlcdbbjkligaaCurM
namespace Go.Proofs.Ytmmlcdbbjkligaa
open Go.RowKit Go.Shelf
set_option linter.unusedVariables false
attribute [local go_sem] Oper.semAt_some

/-- the greatest difference of two neighbours. -/
def mxW : List (Int × Int) → Int := List.foldl (fun s p => max s (max (wrap64 (p.2 - p.1)) (wrap64 (p.1 - p.2)))) 0
theorem mxW_snoc (pre : List (Int × Int)) (x : Int × Int) : mxW (pre ++ [x]) = max (mxW pre) (max (wrap64 (x.2 - x.1)) (wrap64 (x.1 - x.2))) := by simp [mxW]
theorem mxW_upto {ps : List Int} (h : CFine ps) (k : Nat) : mxW (upto (lnF ps) k) = slo ps k := by
  induction k with
  | zero => rfl
  | succ k ih =>
    have a := h.lv k
    have b := h.lv (k + 1)
    rw [upto_succ, mxW_snoc, ih, slo]
    simp only [lnF]
    rw [IntWalk.wrap64_in _ ⟨by omega, by omega⟩, IntWalk.wrap64_in _ ⟨by omega, by omega⟩]
set_option maxRecDepth 100000 in
set_option maxHeartbeats 2000000 in
theorem SlopeOf_any (A : Option Addr) (n c : Nat) (ps : List Int) (w : World) (h : Rd .i64 w A n ps) (hm : n ≤ maxLen) :
    Calls Try.prog 117 #[.agg #[.slice A n c]] w fun e w' => e = .returned (.agg #[.int .i64 (cf ps), .int .i64 (slpV ps)]) ∧ Below w.heap.size w w' := by
  have H := Lib.hid h
  clear h
  refine (callsIn_wide (n := 5)).1 ?_
  refine callsIn_of_wp_marks Try.func117 rfl trivial ?_ rfl
  simp only [Try.ntmps117, List.size_toArray, List.length_cons, List.length_nil, Nat.reduceAdd, Nat.reduceSub, Array.replicate_succ, Array.replicate_zero, List.push_toArray, List.append_toArray, List.nil_append, List.cons_append]
  gi_wp2_with fail
  refine ⟨trivial, (callsIn_wide.2 (CurveFault_any _ _ _ ps _ ((H.out.alloc _).alloc _) hm)).mono ?_⟩
  rintro e w1 ⟨rfl, hb⟩
  have x0 : w1.cell? ⟨w.heap.size, 0, none⟩ = some (.slice A n c) := by rw [(bcell hb).1 _ _ (by simp; omega)]; simp
  have x1 : w1.cell? ⟨w.heap.size + 1, 0, none⟩ = some (.int .i64 0) := by rw [(bcell hb).1 _ _ (by simp)]; simp
  have x2 : w1.cell? ⟨w.heap.size + 1, 1, none⟩ = some (.int .i64 0) := by rw [(bcell hb).1 _ _ (by simp)]; simp
  have f1 : ∀ i, w1.frozen? ⟨w.heap.size + 1, i, none⟩ = false := fun i => by rw [(bcell hb).2 _ _ (by simp)]; simp
  have hz : w.heap.size + 1 < w1.heap.size := by have := hb.size; simp at this; omega
  have hz0 : w.heap.size < w1.heap.size := by omega
  have T := Lib.hid (blThen (blThenAlloc (blAlloc w _) _) hb)
  have H1 := Lib.hid (((H.out.alloc _).alloc _).below hb)
  clear hb
  by_cases hk : cf ps = 0
  · have HK := Lib.hid hk
    have HE := Lib.hid (slpV_of H.out.1 hk)
    have HF := cfine hk
    have HMX := Lib.hid (mxW_upto HF (n - 1))
    have HSB := Lib.hid (slo_bd HF (n - 1))
    have hlo := HF.lo
    have hhi := HF.hi
    rw [H.out.1] at hlo hhi
    obtain ⟨b, o, rfl, hcl⟩ := H1.out.2 (by omega)
    have HC : Hid (∀ i, i < n → w1.cell? ⟨b, o + i, none⟩ = some (.int .i64 (pt ps i))) := hcl
    have hbw : b < w.heap.size := by
      obtain ⟨b', o', e, hc'⟩ := H.out.2 (by omega)
      injection e with e
      injection e with e1 e2
      subst e1
      exact cell_lt (hc' 0 (by omega))
    rw [hk]
    clear hk HF hcl
    gi_wp2_with fail
    refine ⟨trivial, (callsIn_wide.2 (linesOf_any _ _ _ _)).mono ?_⟩
    rintro e w2 ⟨rfl, rfl⟩
    gi_wp2_with fail
    have hB0 : Below w.heap.size w ((w1.alloc (.cells #[.int .i64 0] 2)).alloc (.cells #[.slice (some ⟨b, o, none⟩) n c] 171)) := blThenAlloc (blThenAlloc T.out _) _
    have hBB : Below w1.heap.size w1 ((w1.alloc (.cells #[.int .i64 0] 2)).alloc (.cells #[.slice (some ⟨b, o, none⟩) n c] 171)) := blThenAlloc (blAlloc w1 _) _
    have hc2 : ∀ j, j < n → ((w1.alloc (.cells #[.int .i64 0] 2)).alloc (.cells #[.slice (some ⟨b, o, none⟩) n c] 171)).cell? ⟨b, o + j, none⟩ = some (.int .i64 (pt ps j)) := fun j hj => cell_later hBB (HC.out j hj)
    refine wpIn_rangeFunc_ownG rfl (by omega) (gf := 171) (lb := #[.pointer (some ⟨w1.heap.size + 1, 0, none⟩)]) rfl trivial (enters_of Try.func171 (by kernel_rfl) rfl)
      (lines_stops 4 (by omega) (w1.heap.size + 1) b o n c ps hlo hhi _ (by simp) hc2) KpL.trans (KpL.b (by simp; omega) (by simp)) (Below.refl _ _) (fun _ => rfl)
      (fun pre W => (W.cell? ⟨w1.heap.size, 0, none⟩ = some (.int .i64 (mxW pre)) ∧ W.frozen? ⟨w1.heap.size, 0, none⟩ = false ∧ W.cell? ⟨w.heap.size, 0, none⟩ = some (.slice (some ⟨b, o, none⟩) n c) ∧ W.cell? ⟨w.heap.size + 1, 0, none⟩ = some (.int .i64 0) ∧ W.cell? ⟨w.heap.size + 1, 1, none⟩ = some (.int .i64 0) ∧ W.frozen? ⟨w.heap.size + 1, 0, none⟩ = false ∧ W.frozen? ⟨w.heap.size + 1, 1, none⟩ = false) ∧ Below w.heap.size w W)
      (fun _ _ _ => False)
      (OwnFrom.and (Go.Own.from (fun s A B row hs hg hr => ⟨cell_kept hs.1 hg hr, (frozen_kept hs.1 hg hr).trans hs.2.1, cell_kept hs.2.2.1 hg hr, cell_kept hs.2.2.2.1 hg hr, cell_kept hs.2.2.2.2.1 hg hr, (frozen_kept hs.2.2.2.1 hg hr).trans hs.2.2.2.2.2.1, (frozen_kept hs.2.2.2.2.1 hg hr).trans hs.2.2.2.2.2.2⟩) _) (ownFrom_below (Nat.le_refl _) (by simp; omega)))
      (fun _ _ _ _ _ hs _ _ => hs)
      ⟨⟨by simp [mxW], by simp, cell_later hBB x0, cell_later hBB x1, cell_later hBB x2, by rw [(bcell hBB).2 _ _ hz]; exact f1 0, by rw [(bcell hBB).2 _ _ hz]; exact f1 1⟩, hB0⟩
      (fun x => { tmps := #[.agg #[.slice (some ⟨b, o, none⟩) n c], .pointer (some ⟨w.heap.size, 0, none⟩), .pointer (some ⟨w.heap.size + 1, 0, none⟩), .int .i64 0, .pointer (some ⟨w1.heap.size, 0, none⟩), .int .i64 x.1, .int .i64 x.2, .agg #[.slice (some ⟨b, o, none⟩) n c], .int .i64 0, .int .i64 0, .bool false, undef, undef, .agg #[.slice (some ⟨b, o, none⟩) n c], .func (.func 171) #[] #[.pointer (some ⟨w1.heap.size + 1, 0, none⟩)], .int .i64 x.1, .int .i64 x.2, undef, undef, undef, undef, undef, undef, undef, undef, undef, undef, undef, undef, undef, undef, undef], defers := [] }) ?assign ?body ?done ?stop
    case assign =>
      intro l x W K hK
      gi_wp2
      exact hK
    case body =>
      rintro l pre x W ⟨⟨hcm, hfm, h3, h4, h5, h6, h7⟩, hB⟩ _
      gi_wp2
      rename_i hKc
      refine hKc _ _ ?_
      clear hKc
      simp only [Act.put, List.setIfInBounds_toArray, List.set_cons_zero, List.set_cons_succ]
      have HV : Hid ((if wrap64 (x.1 - x.2) > if wrap64 (x.2 - x.1) > mxW pre then wrap64 (x.2 - x.1) else mxW pre then wrap64 (x.1 - x.2) else if wrap64 (x.2 - x.1) > mxW pre then wrap64 (x.2 - x.1) else mxW pre) = mxW (pre ++ [x])) := by
        show _ = _
        rw [mxW_snoc]
        split <;> split <;> omega
      rw [HV.out]
      gi_wp2
      refine ⟨(KeepsOthers.setCell _ _ _).from _, ⟨Below.heap_setCell _ _ _ _ (by show b ≠ w1.heap.size; omega), Below.heap_setCell _ _ _ _ (by show w1.heap.size + 1 ≠ w1.heap.size; omega)⟩, ⟨?_, by rw [World.frozen?_setCell]; exact hfm, ?_, ?_, ?_, by rw [World.frozen?_setCell]; exact h6, by rw [World.frozen?_setCell]; exact h7⟩, hB.setCell (p := ⟨w1.heap.size, 0, none⟩) (by show w.heap.size ≤ w1.heap.size; omega) _⟩
      · exact World.cell?_setCell_same' _ _ _ (by rw [hcm]; rfl)
      · rw [World.cell?_setCell_other _ _ _ _ (by simp; try omega)]; exact h3
      · rw [World.cell?_setCell_other _ _ _ _ (by simp; try omega)]; exact h4
      · rw [World.cell?_setCell_other _ _ _ _ (by simp; try omega)]; exact h5
    case done =>
      rintro D ys W hD rfl ⟨⟨hcm, hfm, h3, h4, h5, h6, h7⟩, hB⟩ hK
      rw [HMX.out] at hcm
      obtain ⟨s0, s1⟩ := HSB.out
      have HE' := HE
      have hmul := Int.mul_le_mul_of_nonneg_right s1 (by omega : (0 : Int) ≤ (n : Int) - 1)
      have hmul0 := Int.mul_nonneg s0 (by omega : (0 : Int) ≤ (n : Int) - 1)
      clear HE
      generalize slo ps (n - 1) = s at *
      gi_wp2
      have hK1 := (KeepsOthers.setCell W ⟨w.heap.size + 1, 0, none⟩ (.int .i64 0)).same D _ hK rfl
      have hK' := (KeepsOthers.setCell _ ⟨w.heap.size + 1, 1, none⟩ (.int .i64 (s * ((n : Int) - 1)))).same D _ hK1 rfl
      refine ⟨by simp, .inl ⟨_, _, rfl, run_takeDeferred hK', ?_⟩⟩
      have y1 : ((W.setCell ⟨w.heap.size + 1, 0, none⟩ (.int .i64 0)).setCell ⟨w.heap.size + 1, 1, none⟩ (.int .i64 (s * ((n : Int) - 1)))).cell? ⟨w.heap.size + 1, 0, none⟩ = some (.int .i64 0) := by
        rw [World.cell?_setCell_other _ _ _ _ (by simp), World.cell?_setCell_same' _ _ _ (by rw [h4]; rfl)]
      have y2 : ((W.setCell ⟨w.heap.size + 1, 0, none⟩ (.int .i64 0)).setCell ⟨w.heap.size + 1, 1, none⟩ (.int .i64 (s * ((n : Int) - 1)))).cell? ⟨w.heap.size + 1, 1, none⟩ = some (.int .i64 (s * ((n : Int) - 1))) := by
        rw [World.cell?_setCell_same' _ _ _ (by rw [World.cell?_setCell_other _ _ _ _ (by simp), h5]; rfl)]
      have hc5 := cell_kept y1 (grownBy_putObj' _ D (.deferred none)) (fun r e => by cases e; exact ⟨_, hK', rfl⟩)
      have hc6 := cell_kept y2 (grownBy_putObj' _ D (.deferred none)) (fun r e => by cases e; exact ⟨_, hK', rfl⟩)
      refine ⟨.agg #[.int .i64 0, .int .i64 (s * ((n : Int) - 1))], ?_, by rw [HK.out, HE'.out], ((hB.setCell (p := ⟨w.heap.size + 1, 0, none⟩) (Nat.le_succ _) _).setCell (p := ⟨w.heap.size + 1, 1, none⟩) (Nat.le_succ _) _).trans (belowK_b (w := w) (Nat.le_refl _) _ D _ _ (by simp at hD; omega) hK' rfl rfl)⟩
      simp [results, Try.f117, go_sem, hc5, hc6]
    case stop =>
      rintro D c pre W _ _ h _
      exact h.elim
  · have HE : Hid (slpV ps = 0) := by show _ = _; unfold slpV; rw [if_neg hk]
    have hk' : (cf ps == 0) = false := by simpa using hk
    clear hk
    gi_wp2_with fail
    refine ⟨.agg #[.int .i64 (cf ps), .int .i64 0], ?_, by rw [HE.out], ?_⟩
    · simp [results, Try.f117, go_sem, x1, x2]
    · repeat (first | exact T.out | refine Below.setCell ?_ (by simp) _)
end Go.Proofs.Ytmmlcdbbjkligaa
