/-
  Matrices: the program's mixed, nearestSigned.
  A colour through a matrix: the program's matrixAt, ApplyMatrix.
-/
import Derived.Test.YtdjifaaofefpoaaMatB
import Derived.Test.YtdjifaaofefpoaaMatCD
import Derived.Test.YtdjifaaofefpoaaNumA
import Derived.Test.YtdjifaaofefpoaaGrdNA
import Derived.Test.YtdjifaaofefpoaaBaseA
import Derived.Test.YtdjifaaofefpoaaGrdWA
namespace Go.Proofs.Ytdjifaaofefpoaa
open Go.RowKit
set_option linter.unusedVariables false

end Go.Proofs.Ytdjifaaofefpoaa
namespace Go.Proofs.Ytdjifaaofefpoaa
open Go.RowKit
set_option linter.unusedVariables false
set_option linter.unusedSimpArgs false

def apC (rs : Rws) (xs : List Int) : Int := if mf rs = 0 then lf xs else mf rs
def apS (q x : Nat → Int) (i : Nat) : Int := q (3 * i) * x 0 + q (3 * i + 1) * x 1 + q (3 * i + 2) * x 2
def apV (q x : Nat → Int) (i : Nat) : Int := clp (rnd (apS q x i) 65536)
def apL (rs : Rws) (xs : List Int) : List Int := if mf rs = 0 ∧ lf xs = 0 then [apV (fl rs) (xs.getD · 0) 0, apV (fl rs) (xs.getD · 0) 1, apV (fl rs) (xs.getD · 0) 2] else []
theorem ap_f {rs : Rws} {xs : List Int} (h : mf rs ≠ 0) : apC rs xs = mf rs ∧ apL rs xs = [] := ⟨by unfold apC; rw [if_neg h], by unfold apL; rw [if_neg (fun q => h q.1)]⟩
theorem ap_l {rs : Rws} {xs : List Int} (h : mf rs = 0) (h1 : lf xs ≠ 0) : apC rs xs = lf xs ∧ apL rs xs = [] := ⟨by unfold apC; rw [if_pos h], by unfold apL; rw [if_neg (fun q => h1 q.2)]⟩
theorem ap_y {rs : Rws} {xs : List Int} (h : mf rs = 0) (h1 : lf xs = 0) : apC rs xs = 0 ∧ apL rs xs = [apV (fl rs) (xs.getD · 0) 0, apV (fl rs) (xs.getD · 0) 1, apV (fl rs) (xs.getD · 0) 2] := ⟨by unfold apC; rw [if_pos h, h1], by unfold apL; rw [if_pos ⟨h, h1⟩]⟩
theorem ap_len (rs : Rws) (xs : List Int) : (apL rs xs).length ≤ 3 := by unfold apL; split <;> simp
theorem ap_bd {a b : Int} (ha : -262144 ≤ a ∧ a ≤ 262144) (hb : 0 ≤ b ∧ b ≤ 65535) : -100000000000 ≤ a * b ∧ a * b ≤ 100000000000 := by
  have := mulbd (a := a) (b := b) 262144 65535 (by omega) (by omega)
  omega
theorem make3 (W : World) : (Instr.makeSlice 73 (.int .i64 3) (.int .i64 3)).run Try.prog W = .ok (.slice (some ⟨W.heap.size, 0, none⟩) 3 3) (W.alloc (.cells #[.int .i64 0, .int .i64 0, .int .i64 0] 2)) := by
  have h := run_make_many (P := Try.prog) 73 2 (.int .i64 0) 1 8 Try.underlying73 info_i64 .i64 .i64 3 (by omega) (by omega) W
  have e : madeCells (Value.int .i64 0).cells (3 * 1) = #[.int .i64 0, .int .i64 0, .int .i64 0] := by first | kernel_rfl | (simp [madeCells, Value.cells]; rfl)
  rw [e] at h
  exact h
def apK (o : Int) (q x : Nat → Int) (i : Nat) : Int := clk o (rnd (apS q x i) 65536)
theorem apK_1 (q x : Nat → Int) (i : Nat) : apK 1 q x i = apV q x i := by unfold apK apV; rw [clk_1]
theorem ap_bdT {a b : Int} (ha : -262144 ≤ a ∧ a ≤ 262144) (hb : 0 ≤ b ∧ b ≤ 16776960) : -100000000000000 ≤ a * b ∧ a * b ≤ 100000000000000 := by
  have h : (a * b).natAbs ≤ 262144 * 16776960 := by rw [Int.natAbs_mul]; exact Nat.mul_le_mul (by omega) (by omega)
  omega
end Go.Proofs.Ytdjifaaofefpoaa
