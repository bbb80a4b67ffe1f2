/-
  The cell and the rest of a level: the program's cellOfNumber, the model's l5Cell, l7FineCell.
-/
import Derived.Test.YtmmlcdbbjkligaaNum
namespace Go.Proofs.Ytmmlcdbbjkligaa
open Go.RowKit
set_option linter.unusedVariables false

def clC (sd v : Int) : Int := if v = 65535 then sd - 2 else v * (sd - 1) / 65535
def clR (sd v : Int) : Int := if v = 65535 then 65535 else v * (sd - 1) % 65535
def ClAns (w : World) (sd v : Int) (e : Ending) (w' : World) : Prop := e = .returned (.tuple #[.int .i64 (clC sd v), .int .i64 (clR sd v)]) ∧ w = w'
theorem ClAns.mk {w w' : World} {sd v a b : Int} (h1 : clC sd v = a) (h2 : clR sd v = b) (hw : w = w') : ClAns w sd v (.returned (.tuple #[.int .i64 a, .int .i64 b])) w' := ⟨by rw [h1, h2], hw⟩
/-- with levels or fine numbers, T the last one. -/
def clCT (T sd v : Int) : Int := if v = T then sd - 2 else v * (sd - 1) / T
def clRT (T sd v : Int) : Int := if v = T then T else v * (sd - 1) % T
def ClAnsT (T : Int) (w : World) (sd v : Int) (e : Ending) (w' : World) : Prop := e = .returned (.tuple #[.int .i64 (clCT T sd v), .int .i64 (clRT T sd v)]) ∧ ∃ m, w' = w.drewN m
theorem ClAnsT.mk {T : Int} {w w' : World} {sd v a b : Int} (h1 : clCT T sd v = a) (h2 : clRT T sd v = b) (hw : ∃ m, w' = w.drewN m) : ClAnsT T w sd v (.returned (.tuple #[.int .i64 a, .int .i64 b])) w' := ⟨by rw [h1, h2], hw⟩
set_option maxHeartbeats 1000000 in
theorem cellOfNumber_1 (sd v : Int) (w : World) (hs : sd = 2 ∨ sd = 3 ∨ sd = 4) (h0 : 0 ≤ v) (h1 : v ≤ 65535) : Calls Try.prog 128 #[.int .i64 sd, .int .i64 v, .int .i64 65535] w (ClAnsT 65535 w sd v) := by
  by_cases hv : v = 65535
  · subst hv
    have HC : Hid (clCT 65535 sd 65535 = sd - 2) := by show _ = _; unfold clCT; rw [if_pos rfl]
    have HR : Hid (clRT 65535 sd 65535 = 65535) := by show _ = _; unfold clRT; rw [if_pos rfl]
    have hsb : 2 ≤ sd ∧ sd ≤ 4 := by omega
    clear hs
    go_enter Try.func128, Try.ntmps128
    go_wp2
    go_ret2
    exact ClAnsT.mk HC.out HR.out ⟨0, rfl⟩
  · have HC : Hid (clCT 65535 sd v = v * (sd - 1) / 65535) := by show _ = _; unfold clCT; rw [if_neg hv]
    have HR : Hid (clRT 65535 sd v = v * (sd - 1) % 65535) := by show _ = _; unfold clRT; rw [if_neg hv]
    have he : (v == 65535) = false := by simpa using hv
    rcases hs with rfl | rfl | rfl
    all_goals
      go_enter Try.func128, Try.ntmps128
      go_wp2
      go_quiet (fail)
      go_wp2
      go_ret2
      exact ClAnsT.mk (by rw [HC.out]; simp) (by rw [HR.out]; simp) ⟨_, rfl⟩
set_option maxHeartbeats 1000000 in
theorem cellOfNumber_256 (sd v : Int) (w : World) (hs : sd = 2 ∨ sd = 3 ∨ sd = 4) (h0 : 0 ≤ v) (h1 : v ≤ 16776960) : Calls Try.prog 128 #[.int .i64 sd, .int .i64 v, .int .i64 16776960] w (ClAnsT 16776960 w sd v) := by
  by_cases hv : v = 16776960
  · subst hv
    have HC : Hid (clCT 16776960 sd 16776960 = sd - 2) := by show _ = _; unfold clCT; rw [if_pos rfl]
    have HR : Hid (clRT 16776960 sd 16776960 = 16776960) := by show _ = _; unfold clRT; rw [if_pos rfl]
    have hsb : 2 ≤ sd ∧ sd ≤ 4 := by omega
    clear hs
    go_enter Try.func128, Try.ntmps128
    go_wp2
    go_ret2
    exact ClAnsT.mk HC.out HR.out ⟨0, rfl⟩
  · have HC : Hid (clCT 16776960 sd v = v * (sd - 1) / 16776960) := by show _ = _; unfold clCT; rw [if_neg hv]
    have HR : Hid (clRT 16776960 sd v = v * (sd - 1) % 16776960) := by show _ = _; unfold clRT; rw [if_neg hv]
    have he : (v == 16776960) = false := by simpa using hv
    rcases hs with rfl | rfl | rfl
    all_goals
      go_enter Try.func128, Try.ntmps128
      go_wp2
      go_quiet (fail)
      go_wp2
      go_ret2
      exact ClAnsT.mk (by rw [HC.out]; simp) (by rw [HR.out]; simp) ⟨_, rfl⟩
set_option maxHeartbeats 1000000 in
theorem sFineCell_any (sd v : Int) (w : World) (hs : sd = 2 ∨ sd = 3 ∨ sd = 4) (h0 : 0 ≤ v) (h1 : v ≤ 16776960) : Calls Try.prog 142 #[.int .i64 sd, .int .i64 v] w (ClAnsT 16776960 w sd v) := by
  by_cases hv : v = 16776960
  · subst hv
    have HC : Hid (clCT 16776960 sd 16776960 = sd - 2) := by show _ = _; unfold clCT; rw [if_pos rfl]
    have HR : Hid (clRT 16776960 sd 16776960 = 16776960) := by show _ = _; unfold clRT; rw [if_pos rfl]
    have hsb : 2 ≤ sd ∧ sd ≤ 4 := by omega
    clear hs
    go_enter Try.func142, Try.ntmps142
    go_wp2
    go_ret2
    exact ClAnsT.mk HC.out HR.out ⟨0, rfl⟩
  · have HC : Hid (clCT 16776960 sd v = v * (sd - 1) / 16776960) := by show _ = _; unfold clCT; rw [if_neg hv]
    have HR : Hid (clRT 16776960 sd v = v * (sd - 1) % 16776960) := by show _ = _; unfold clRT; rw [if_neg hv]
    have he : (v == 16776960) = false := by simpa using hv
    rcases hs with rfl | rfl | rfl
    all_goals
      go_enter Try.func142, Try.ntmps142
      go_wp2
      go_ret2
      exact ClAnsT.mk (by rw [HC.out]; simp) (by rw [HR.out]; simp) ⟨0, rfl⟩
set_option maxHeartbeats 1000000 in
theorem sCell5_any (sd v : Int) (w : World) (hs : sd = 2 ∨ sd = 3 ∨ sd = 4) (h0 : 0 ≤ v) (h1 : v ≤ 65535) : Calls Try.prog 130 #[.int .i64 sd, .int .i64 v] w (ClAns w sd v) := by
  by_cases hv : v = 65535
  · subst hv
    have HC : Hid (clC sd 65535 = sd - 2) := by show _ = _; unfold clC; rw [if_pos rfl]
    have HR : Hid (clR sd 65535 = 65535) := by show _ = _; unfold clR; rw [if_pos rfl]
    have hsb : 2 ≤ sd ∧ sd ≤ 4 := by omega
    clear hs
    go_enter Try.func130, Try.ntmps130
    go_wp2
    go_ret2
    exact ClAns.mk HC.out HR.out rfl
  · have HC : Hid (clC sd v = v * (sd - 1) / 65535) := by show _ = _; unfold clC; rw [if_neg hv]
    have HR : Hid (clR sd v = v * (sd - 1) % 65535) := by show _ = _; unfold clR; rw [if_neg hv]
    have he : (v == 65535) = false := by simpa using hv
    rcases hs with rfl | rfl | rfl
    · go_enter Try.func130, Try.ntmps130
      go_wp2
      go_ret2
      exact ClAns.mk (by rw [HC.out]; simp) (by rw [HR.out]; simp) rfl
    · go_enter Try.func130, Try.ntmps130
      go_wp2
      go_ret2
      exact ClAns.mk (by rw [HC.out]; simp) (by rw [HR.out]; simp) rfl
    · go_enter Try.func130, Try.ntmps130
      go_wp2
      go_ret2
      exact ClAns.mk (by rw [HC.out]; simp) (by rw [HR.out]; simp) rfl
end Go.Proofs.Ytmmlcdbbjkligaa
