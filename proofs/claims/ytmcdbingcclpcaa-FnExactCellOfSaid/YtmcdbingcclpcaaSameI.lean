/-
  Lists of int64 that are compared: the program's slices.Equal, the reference model's l1Same.
-/
import Derived.Test.YtmcdbingcclpcaaHelpI
namespace Go.Proofs.Ytmcdbingcclpcaa
open Go.RowKit
set_option linter.unusedVariables false

def sameI (xs ys : List Int) : Bool := decide (xs = ys)
theorem sameI_len {xs ys : List Int} (h : xs.length ≠ ys.length) : sameI xs ys = false := decide_eq_false (fun e => h (by rw [e]))
theorem sameI_at {xs ys : List Int} {k : Nat} (h : xs.getD k 0 ≠ ys.getD k 0) : sameI xs ys = false := decide_eq_false (fun e => h (by rw [e]))
theorem sameI_all {xs ys : List Int} {n : Nat} (h1 : xs.length = n) (h2 : ys.length = n) (h : ∀ i, i < n → xs.getD i 0 = ys.getD i 0) : sameI xs ys = true := by
  refine decide_eq_true (List.ext_getElem (by omega) fun i hi hj => ?_)
  have := h i (by omega)
  simpa [List.getD, hi, hj] using this
theorem sameI_self (xs : List Int) : sameI xs xs = true := decide_eq_true rfl
set_option maxHeartbeats 400000 in
theorem equalI_any (A A' : Option Addr) (n n' c c' : Nat) (xs ys : List Int) (w : World) (h : Rd .i64 w A n xs) (h' : Rd .i64 w A' n' ys) (hn : n ≤ maxLen) (hn' : n' ≤ maxLen) :
    Calls Try.prog 93 #[.slice A n c, .slice A' n' c'] w fun e w' => e = .returned (.bool (sameI xs ys)) ∧ ∃ m, w' = w.drewN m := by
  unfold maxLen at hn hn'
  have H := Lib.hid h
  have H' := Lib.hid h'
  clear h h'
  by_cases hl : n = n'
  · subst hl
    go_enter Try.func93, Try.ntmps93
    go_wp2
    go_loopw [13] (fun i wr => ∃ k m : Nat, k ≤ n ∧ i = .int .i64 k ∧ wr = w.drewN m ∧ Hid (∀ j, j < k → xs.getD j 0 = ys.getD j 0)) (fun i _ => n - (intOf i).toNat)
    case atStart => exact ⟨0, 0, by omega, rfl, rfl, fun j hj => absurd hj (by omega)⟩
    case round =>
      obtain ⟨k, m, hk, rfl, rfl, hz⟩ := hrel
      by_cases hlt : k < n
      · obtain ⟨b, o, rfl, hc⟩ := H.out.2 (by omega)
        obtain ⟨b', o', rfl, hc'⟩ := H'.out.2 (by omega)
        have c1 := hc k hlt
        have c2 := hc' k hlt
        clear hc hc'
        by_cases e : xs.getD k 0 = ys.getD k 0
        · have HZ : Hid (∀ j, j < k + 1 → xs.getD j 0 = ys.getD j 0) := fun j hj => by
            by_cases e' : j = k
            · rw [e']; exact e
            · exact hz.out j (by omega)
          rw [← e] at c2
          clear e
          generalize xs.getD k 0 = x at *
          go_wp2_with fail
          go_quiet (fail)
          go_wp2_with fail
          go_roundw
          case rel => exact ⟨k + 1, _, by omega, by go_num, rfl, HZ⟩
          case measure => simp [intOf]; omega
        · have HZ := Lib.hid (sameI_at e)
          have he : (xs.getD k 0 == ys.getD k 0) = false := by simpa using e
          clear e
          generalize xs.getD k 0 = x at *
          generalize ys.getD k 0 = y at *
          go_wp2_with fail
          go_quiet (fail)
          go_wp2_with fail
          go_ret
          exact ⟨ret_bool HZ.out.symm, _, World.drewN_drewN ..⟩
      · obtain rfl : k = n := by omega
        go_wp2
        go_ret
        exact ⟨ret_bool (sameI_all H.out.1 H'.out.1 hz.out).symm, _, rfl⟩
  · have HZ : Hid (sameI xs ys = false) := sameI_len (by rw [H.out.1, H'.out.1]; exact hl)
    have hl' : ((n : Int) == (n' : Int)) = false := by simp; omega
    clear H H'
    go_enter Try.func93, Try.ntmps93
    go_wp2
    go_ret
    exact ⟨ret_bool HZ.out.symm, 0, rfl⟩
set_option maxHeartbeats 400000 in
theorem sSame_any (A A' : Option Addr) (n n' c c' : Nat) (xs ys : List Int) (w : World) (h : Rd .i64 w A n xs) (h' : Rd .i64 w A' n' ys) (hn : n ≤ maxLen) (hn' : n' ≤ maxLen) :
    Calls Try.prog 186 #[.slice A n c, .slice A' n' c'] w fun e w' => e = .returned (.bool (sameI xs ys)) ∧ ∃ m, w' = w.drewN m := by
  unfold maxLen at hn hn'
  have H := Lib.hid h
  have H' := Lib.hid h'
  clear h h'
  by_cases hl : n = n'
  · subst hl
    go_enter Try.func186, Try.ntmps186
    go_wp2
    go_loopw [5] (fun i wr => ∃ k m : Nat, k ≤ n ∧ i = .int .i64 k ∧ wr = w.drewN m ∧ Hid (∀ j, j < k → xs.getD j 0 = ys.getD j 0)) (fun i _ => n - (intOf i).toNat)
    case atStart => exact ⟨0, 0, by omega, rfl, rfl, fun j hj => absurd hj (by omega)⟩
    case round =>
      obtain ⟨k, m, hk, rfl, rfl, hz⟩ := hrel
      by_cases hlt : k < n
      · obtain ⟨b, o, rfl, hc⟩ := H.out.2 (by omega)
        obtain ⟨b', o', rfl, hc'⟩ := H'.out.2 (by omega)
        have c1 := hc k hlt
        have c2 := hc' k hlt
        clear hc hc'
        by_cases e : xs.getD k 0 = ys.getD k 0
        · have HZ : Hid (∀ j, j < k + 1 → xs.getD j 0 = ys.getD j 0) := fun j hj => by
            by_cases e' : j = k
            · rw [e']; exact e
            · exact hz.out j (by omega)
          rw [← e] at c2
          clear e
          generalize xs.getD k 0 = x at *
          go_wp2_with fail
          go_quiet (fail)
          go_wp2_with fail
          go_roundw
          case rel => exact ⟨k + 1, _, by omega, by go_num, rfl, HZ⟩
          case measure => simp [intOf]; omega
        · have HZ := Lib.hid (sameI_at e)
          have he : (xs.getD k 0 == ys.getD k 0) = false := by simpa using e
          clear e
          generalize xs.getD k 0 = x at *
          generalize ys.getD k 0 = y at *
          go_wp2_with fail
          go_quiet (fail)
          go_wp2_with fail
          go_ret
          exact ⟨ret_bool HZ.out.symm, _, World.drewN_drewN ..⟩
      · obtain rfl : k = n := by omega
        go_wp2
        go_ret
        exact ⟨ret_bool (sameI_all H.out.1 H'.out.1 hz.out).symm, _, rfl⟩
  · have HZ : Hid (sameI xs ys = false) := sameI_len (by rw [H.out.1, H'.out.1]; exact hl)
    have hl' : ((n : Int) == (n' : Int)) = false := by simp; omega
    clear H H'
    go_enter Try.func186, Try.ntmps186
    go_wp2
    go_ret
    exact ⟨ret_bool HZ.out.symm, 0, rfl⟩
end Go.Proofs.Ytmcdbingcclpcaa
