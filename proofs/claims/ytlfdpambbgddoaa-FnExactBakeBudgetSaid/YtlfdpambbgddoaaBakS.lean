/-
  What is asked of a chain and a side, by the program: bakeStages.
-/
import Derived.Test.YtlfdpambbgddoaaBakA
namespace Go.Proofs.Ytlfdpambbgddoaa
open Go.RowKit Go.Maps
set_option linter.unusedVariables false
set_option linter.unusedSimpArgs false

def BsAns (w : World) (ts : List Stg) (sd : Int) (e : Ending) (w' : World) : Prop :=
  ∃ v, e = .returned (.tuple #[v, .int .i64 (bkC ts sd)]) ∧ (bkC ts sd = 0 → ∃ vs, OwnSv w' w.heap.size v ts.length vs ∧ ∀ i, i < ts.length → IsStg w' (st_ ts i) (vs.getD i undef)) ∧ Below w.heap.size w w'
set_option maxRecDepth 100000 in
set_option maxHeartbeats 1000000 in
theorem bakeStages_any (A : Option Addr) (n c : Nat) (ts : List Stg) (bs : List Nat) (sd : Int) (w : World) (h : Hd w (chD ts) (.slice A n c) bs) :
    Calls Try.prog 49 #[.agg #[.slice A n c], .int .i64 sd] w (BsAns w ts sd) := by
  have H := Lib.hid h
  clear h
  go_enter Try.func49, Try.ntmps49
  go_wp2_with fail
  refine (chainStages_any A n c ts bs _ (H.out.alloc _)).mono ?_
  rintro e w1 ⟨v, rfl, hok, hb⟩
  have T1 := Lib.hid (blThen (blAlloc w _) hb)
  clear hb H
  by_cases h0 : chf ts = 0
  · have HK := Lib.hid (hok h0)
    have H0 := Lib.hid h0
    rw [h0]
    clear hok h0
    rcases Bool.eq_false_or_eq_true (inB sd 2 4) with hs | hs
    · have CS : Hid (∀ W, Calls Try.prog 43 #[.int .i64 sd] W fun e w' => e = .returned (.bool true) ∧ W = w') := fun W => by rw [← hs]; exact isSide_any _ W
      have HC := Lib.hid (bkC_y H0.out hs)
      clear hs
      go_wp2_with fail
      refine (CS.out _).mono ?_
      rintro e w2 ⟨rfl, rfl⟩
      go_wp2_with fail
      go_ret2
      refine ⟨v, by rw [HC.out]; rfl, fun _ => ?_, T1.out⟩
      obtain ⟨vs, ho, hst⟩ := HK.out
      exact ⟨vs, ho.mono (by simp), hst⟩
    · have CS : Hid (∀ W, Calls Try.prog 43 #[.int .i64 sd] W fun e w' => e = .returned (.bool false) ∧ W = w') := fun W => by rw [← hs]; exact isSide_any _ W
      have HC := Lib.hid (bkC_s H0.out hs)
      clear hs
      go_wp2_with fail
      refine (CS.out _).mono ?_
      rintro e w2 ⟨rfl, rfl⟩
      go_wp2_with fail
      go_ret2
      exact ⟨_, by rw [HC.out]; rfl, fun q => absurd (HC.out.symm.trans q) (by omega), T1.out⟩
  · have HC := Lib.hid (bkC_f (sd := sd) h0)
    obtain ⟨f, hf⟩ : ∃ f, chf ts = f := ⟨_, rfl⟩
    have HF := Lib.hid hf
    rw [hf] at h0 ⊢
    have hqn : (f == 0) = false := by simpa using h0
    clear hok hf
    go_wp2_with fail
    go_ret2
    exact ⟨_, by rw [HC.out, HF.out]; rfl, fun q => absurd (HF.out.symm.trans (HC.out.symm.trans q)) h0, T1.out⟩

end Go.Proofs.Ytlfdpambbgddoaa
