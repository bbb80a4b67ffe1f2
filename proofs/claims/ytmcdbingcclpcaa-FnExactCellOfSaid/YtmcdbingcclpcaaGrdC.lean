/-
  The cell and the rest of a level: the program's cellOfLevel, the model's l5Cell.
-/
import Derived.Test.YtmcdbingcclpcaaNum
namespace Go.Proofs.Ytmcdbingcclpcaa
open Go.RowKit
set_option linter.unusedVariables false

def clC (sd v : Int) : Int := if v = 65535 then sd - 2 else v * (sd - 1) / 65535
def clR (sd v : Int) : Int := if v = 65535 then 65535 else v * (sd - 1) % 65535
def ClAns (w : World) (sd v : Int) (e : Ending) (w' : World) : Prop := e = .returned (.tuple #[.int .i64 (clC sd v), .int .i64 (clR sd v)]) ∧ w = w'
theorem ClAns.mk {w w' : World} {sd v a b : Int} (h1 : clC sd v = a) (h2 : clR sd v = b) (hw : w = w') : ClAns w sd v (.returned (.tuple #[.int .i64 a, .int .i64 b])) w' := ⟨by rw [h1, h2], hw⟩
set_option maxHeartbeats 1000000 in
theorem cellOfLevel_any (sd v : Int) (w : World) (hs : sd = 2 ∨ sd = 3 ∨ sd = 4) (h0 : 0 ≤ v) (h1 : v ≤ 65535) : Calls Try.prog 148 #[.int .i64 sd, .int .i64 v] w (ClAns w sd v) := by
  by_cases hv : v = 65535
  · subst hv
    have HC : Hid (clC sd 65535 = sd - 2) := by show _ = _; unfold clC; rw [if_pos rfl]
    have HR : Hid (clR sd 65535 = 65535) := by show _ = _; unfold clR; rw [if_pos rfl]
    have hsb : 2 ≤ sd ∧ sd ≤ 4 := by omega
    clear hs
    go_enter Try.func148, Try.ntmps148
    go_wp2
    go_ret2
    exact ClAns.mk HC.out HR.out rfl
  · have HC : Hid (clC sd v = v * (sd - 1) / 65535) := by show _ = _; unfold clC; rw [if_neg hv]
    have HR : Hid (clR sd v = v * (sd - 1) % 65535) := by show _ = _; unfold clR; rw [if_neg hv]
    have he : (v == 65535) = false := by simpa using hv
    rcases hs with rfl | rfl | rfl
    · go_enter Try.func148, Try.ntmps148
      go_wp2
      go_ret2
      exact ClAns.mk (by rw [HC.out]; simp) (by rw [HR.out]; simp) rfl
    · go_enter Try.func148, Try.ntmps148
      go_wp2
      go_ret2
      exact ClAns.mk (by rw [HC.out]; simp) (by rw [HR.out]; simp) rfl
    · go_enter Try.func148, Try.ntmps148
      go_wp2
      go_ret2
      exact ClAns.mk (by rw [HC.out]; simp) (by rw [HR.out]; simp) rfl
set_option maxHeartbeats 1000000 in
theorem sCell5_any (sd v : Int) (w : World) (hs : sd = 2 ∨ sd = 3 ∨ sd = 4) (h0 : 0 ≤ v) (h1 : v ≤ 65535) : Calls Try.prog 151 #[.int .i64 sd, .int .i64 v] w (ClAns w sd v) := by
  by_cases hv : v = 65535
  · subst hv
    have HC : Hid (clC sd 65535 = sd - 2) := by show _ = _; unfold clC; rw [if_pos rfl]
    have HR : Hid (clR sd 65535 = 65535) := by show _ = _; unfold clR; rw [if_pos rfl]
    have hsb : 2 ≤ sd ∧ sd ≤ 4 := by omega
    clear hs
    go_enter Try.func151, Try.ntmps151
    go_wp2
    go_ret2
    exact ClAns.mk HC.out HR.out rfl
  · have HC : Hid (clC sd v = v * (sd - 1) / 65535) := by show _ = _; unfold clC; rw [if_neg hv]
    have HR : Hid (clR sd v = v * (sd - 1) % 65535) := by show _ = _; unfold clR; rw [if_neg hv]
    have he : (v == 65535) = false := by simpa using hv
    rcases hs with rfl | rfl | rfl
    · go_enter Try.func151, Try.ntmps151
      go_wp2
      go_ret2
      exact ClAns.mk (by rw [HC.out]; simp) (by rw [HR.out]; simp) rfl
    · go_enter Try.func151, Try.ntmps151
      go_wp2
      go_ret2
      exact ClAns.mk (by rw [HC.out]; simp) (by rw [HR.out]; simp) rfl
    · go_enter Try.func151, Try.ntmps151
      go_wp2
      go_ret2
      exact ClAns.mk (by rw [HC.out]; simp) (by rw [HR.out]; simp) rfl
end Go.Proofs.Ytmcdbingcclpcaa
