/-
  Baking, by the reference model: l9Asked.
-/
import Derived.Test.YtlfdpambbgddoaaGreatBakA
namespace Go.Proofs.YtlfdpambbgddoaaGreat
open Go.RowKit Go.Maps
set_option linter.unusedVariables false
set_option linter.unusedSimpArgs false

set_option maxHeartbeats 1000000 in
theorem sAsked9_any (g o : Nat) (A : Option Addr) (n c : Nat) (ts : List Stg) (bs : List Nat) (sd : Int) (w : World) (h : Hd w (chD ts) (.slice A n c) bs) (hg : w.cell? ⟨g, o, none⟩ = some (.slice A n c)) :
    Calls Tryz.prog 26 #[.pointer (some ⟨g, o, none⟩), .int .i64 sd] w fun e w' => e = .returned (.int .i64 (bkC ts sd)) ∧ ∃ m, w' = w.drewN m := by
  have CF := Lib.hid (sFault6_any g o A n c ts bs w h hg)
  clear h hg
  by_cases h0 : chf ts = 0
  · rcases Bool.eq_false_or_eq_true (inB sd 2 4) with hs | hs
    · have CS : Hid (∀ W, Calls Tryz.prog 46 #[.int .i64 sd] W fun e w' => e = .returned (.bool true) ∧ W = w') := fun W => by rw [← hs]; exact sSide5_any _ W
      have HC := Lib.hid (bkC_y h0 hs)
      rw [h0] at CF
      clear hs h0
      go_enter Tryz.func26, Tryz.ntmps26
      go_wp2_with fail
      refine CF.out.mono ?_
      rintro e w1 ⟨rfl, m, rfl⟩
      go_wp2_with fail
      refine (CS.out _).mono ?_
      rintro e w2 ⟨rfl, rfl⟩
      go_wp2_with fail
      go_ret
      exact ⟨by rw [HC.out]; rfl, m, rfl⟩
    · have CS : Hid (∀ W, Calls Tryz.prog 46 #[.int .i64 sd] W fun e w' => e = .returned (.bool false) ∧ W = w') := fun W => by rw [← hs]; exact sSide5_any _ W
      have HC := Lib.hid (bkC_s h0 hs)
      rw [h0] at CF
      clear hs h0
      go_enter Tryz.func26, Tryz.ntmps26
      go_wp2_with fail
      refine CF.out.mono ?_
      rintro e w1 ⟨rfl, m, rfl⟩
      go_wp2_with fail
      refine (CS.out _).mono ?_
      rintro e w2 ⟨rfl, rfl⟩
      go_wp2_with fail
      go_ret
      exact ⟨by rw [HC.out]; rfl, m, rfl⟩
  · have HC := Lib.hid (bkC_f (sd := sd) h0)
    obtain ⟨f, hf⟩ : ∃ f, chf ts = f := ⟨_, rfl⟩
    have HF := Lib.hid hf
    rw [hf] at h0 CF
    have hqn : (f == 0) = false := by simpa using h0
    clear hf
    go_enter Tryz.func26, Tryz.ntmps26
    go_wp2_with fail
    refine CF.out.mono ?_
    rintro e w1 ⟨rfl, m, rfl⟩
    go_wp2_with fail
    go_ret
    exact ⟨by rw [HC.out, HF.out]; rfl, m, rfl⟩
end Go.Proofs.YtlfdpambbgddoaaGreat
