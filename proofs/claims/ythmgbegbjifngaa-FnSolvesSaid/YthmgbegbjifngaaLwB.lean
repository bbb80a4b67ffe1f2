/-
  The laws' own comparison of bytes.
-/
import Derived.Test.YthmgbegbjifngaaSame
namespace Go.Proofs.Ythmgbegbjifngaa
open Go.RowKit
set_option linter.unusedVariables false

theorem lwBytes_any (A A' : Option Addr) (n n' c c' : Nat) (xs ys : List Int) (w : World) (h : Rd .u8 w A n xs) (h' : Rd .u8 w A' n' ys) : Calls Try.prog 27 #[.slice A n c, .slice A' n' c'] w fun e w' => e = .returned (.bool (sameB xs ys)) ∧ w = w' := by
  have hc := run_convert_rd (c := c) h
  have hc' := run_convert_rd (c := c') h'
  clear h h'
  go_enter Try.func27, Try.ntmps27
  go_wp2
  go_ret
  refine ⟨?_, rfl⟩
  unfold sameB
  rw [← str_eqB]
  rfl
end Go.Proofs.Ythmgbegbjifngaa
