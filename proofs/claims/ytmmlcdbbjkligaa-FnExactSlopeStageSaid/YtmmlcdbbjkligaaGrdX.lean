/-
  The axes by their rests: cmp.Compare, the stable sort of three axes, the program's axesByRest.
-/
import Derived.Test.YtmmlcdbbjkligaaGrdV
import Derived.Test.YtmmlcdbbjkligaaBx
namespace Go.Proofs.Ytmmlcdbbjkligaa
open Go.RowKit
set_option linter.unusedVariables false
set_option linter.unusedSimpArgs false

def cmpv (x y : Int) : Int := if x < y then -1 else if x > y then 1 else 0
theorem cmpv_lt {x y : Int} (h : x < y) : cmpv x y = -1 := by unfold cmpv; rw [if_pos h]
theorem cmpv_gt {x y : Int} (h : y < x) : cmpv x y = 1 := by unfold cmpv; rw [if_neg (by omega), if_pos h]
theorem cmpv_eq {x y : Int} (h : ¬ x < y) (h2 : ¬ y < x) : cmpv x y = 0 := by unfold cmpv; rw [if_neg h, if_neg (by omega)]
theorem cmpv_t {x y : Int} (h : x < y) : decide (cmpv x y < 0) = true := by rw [cmpv_lt h]; rfl
theorem cmpv_f {x y : Int} (h : ¬ x < y) : decide (cmpv x y < 0) = false := by
  by_cases h2 : y < x
  · rw [cmpv_gt h2]; rfl
  · rw [cmpv_eq h h2]; rfl
theorem isNaN_any (x : Int) (w : World) : Calls Try.prog 174 #[.int .i64 x] w fun e w' => e = .returned (.bool false) ∧ w = w' := by
  have he : (x != x) = false := by simp
  go_enter Try.func174, Try.ntmps174
  go_wp2
  go_ret
  exact ⟨by simp, rfl⟩
set_option maxHeartbeats 1000000 in
theorem Compare_any (x y : Int) (w : World) : Calls Try.prog 161 #[.int .i64 x, .int .i64 y] w fun e w' => e = .returned (.int .i64 (cmpv x y)) ∧ w = w' := by
  by_cases h : x < y
  · have HC := Lib.hid (cmpv_lt h)
    go_enter Try.func161, Try.ntmps161
    go_wp2_with (go_at_call 174; refine (isNaN_any _ _).mono ?_; rintro e w' ⟨rfl, rfl⟩)
    go_ret
    exact ⟨ret_int HC.out.symm, rfl⟩
  · by_cases h2 : y < x
    · have HC := Lib.hid (cmpv_gt h2)
      have h3 : x > y := h2
      go_enter Try.func161, Try.ntmps161
      go_wp2_with (go_at_call 174; refine (isNaN_any _ _).mono ?_; rintro e w' ⟨rfl, rfl⟩)
      go_ret
      exact ⟨ret_int HC.out.symm, rfl⟩
    · have HC := Lib.hid (cmpv_eq h h2)
      have h3 : ¬ x > y := h2
      go_enter Try.func161, Try.ntmps161
      go_wp2_with (go_at_call 174; refine (isNaN_any _ _).mono ?_; rintro e w' ⟨rfl, rfl⟩)
      go_ret
      exact ⟨ret_int HC.out.symm, rfl⟩
def rv (r : Nat → Int) : List Value := [.int .i64 (r 0), .int .i64 (r 1), .int .i64 (r 2)]
theorem rv_at {W : World} {g : Nat} {r : Nat → Int} (h : Bx W g (rv r)) {k : Nat} (hk : k < 3) : W.cell? ⟨g, k, none⟩ = some (.int .i64 (r k)) :=
  h.c k (by
    match k, hk with
    | 0, _ => rfl
    | 1, _ => rfl
    | 2, _ => rfl)
set_option maxHeartbeats 1000000 in
theorem byRest_any (g a b : Nat) (r : Nat → Int) (w : World) (h : Bx w g (rv r)) (ha : a < 3) (hb : b < 3) : Calls Try.prog 160 #[.int .i64 a, .int .i64 b, .pointer (some ⟨g, 0, none⟩)] w fun e w' => e = .returned (.int .i64 (cmpv (r b) (r a))) ∧ ∃ m, w' = w.drewN m := by
  have c1 := rv_at h ha
  have c2 := rv_at h hb
  obtain ⟨x, hx⟩ : ∃ x, x = r a := ⟨_, rfl⟩
  obtain ⟨y, hy⟩ : ∃ y, y = r b := ⟨_, rfl⟩
  rw [← hx] at c1 ⊢
  rw [← hy] at c2 ⊢
  clear h hx hy
  go_enter Try.func160, Try.ntmps160
  go_wp2_with fail
  go_quiet ((go_at_call 161; first | exact Calls.quiet_of ((Compare_any _ _ _).mono fun e w' ⟨he, hw⟩ => ⟨he, 0, hw.symm⟩) | exact quietAD' ((Compare_any _ _ _).mono fun e w' ⟨he, hw⟩ => ⟨he, 0, hw.symm⟩)))
  go_wp2_with fail
  go_ret
  exact ⟨rfl, _, rfl⟩
end Go.Proofs.Ytmmlcdbbjkligaa
