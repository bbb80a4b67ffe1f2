/-
  Matrices: the model's DetOf.
-/
import Derived.Test.YtgkliapejpoalaaMat4
namespace Go.Proofs.Ytgkliapejpoalaa
open Go.RowKit
set_option linter.unusedVariables false

set_option maxHeartbeats 1000000 in
theorem sDetOf_any (A : Option Addr) (n c : Nat) (rs : Rws) (bs : List Nat) (w : World) (h : Hd w (rowsD rs) (.slice A n c) bs) :
    Calls Try.prog 42 #[.agg #[.slice A n c]] w fun e w' => e = .returned (.agg #[.int .i64 (mf rs), .int .i64 (detV rs)]) ∧ Below w.heap.size w w' := by
  have H := Lib.hid h
  clear h
  go_enter Try.func42, Try.ntmps42
  go_wp2_with fail
  refine (sFault4_any _ _ _ _ _ rs _ _ ((H.out.alloc _).alloc _) (cell_later (blAlloc _ _) (by simp))).mono ?_
  rintro e w' ⟨rfl, rfl⟩
  by_cases h0 : mf rs = 0
  · have HV : Hid (detV rs = det (fl rs)) := detV_ok h0
    go_wp2_with fail
    refine (sDet4_any _ _ _ _ _ rs _ _ ((H.out.alloc _).alloc _) h0 (cell_later (blAlloc _ _) (by simp))).mono ?_
    rintro e w' ⟨rfl, m, rfl⟩
    go_wp2_with fail
    refine bodyPost_ret (v := .agg #[.int .i64 0, .int .i64 (det (fl rs))]) (by simp [results, Try.results42, go_sem]) rfl ⟨by rw [HV.out, h0], ?_⟩
    repeat (first | with_reducible exact Below.refl _ _ | with_reducible refine Below.setCell ?_ (by simp) _ | with_reducible refine blThenAlloc ?_ _ | with_reducible refine blThenDrew ?_ _ | with_reducible refine Below.drew ?_)
  · have HV := Lib.hid (detV_no h0)
    go_wp2_with fail
    refine bodyPost_ret (v := .agg #[.int .i64 (mf rs), .int .i64 0]) (by simp [results, Try.results42, go_sem]) rfl ⟨by rw [HV.out], ?_⟩
    repeat (first | with_reducible exact Below.refl _ _ | with_reducible refine Below.setCell ?_ (by simp) _ | with_reducible refine blThenAlloc ?_ _ | with_reducible refine blThenDrew ?_ _ | with_reducible refine Below.drew ?_)
end Go.Proofs.Ytgkliapejpoalaa
