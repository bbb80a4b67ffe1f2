/-
  The slope of a stage: what it is (slN, slD); the program's slopeOf, SlopeStage.
  The slope of a stage by the reference model: l7Slope, SlopeStage.
  Helpers of the laws over slopes and budgets: eqRatioResult, eqBudgetResult.
-/
import Derived.Test.YtlfdpambbgddoaaGreatStpB
import Derived.Test.YtlfdpambbgddoaaGreatChnA
import Derived.Test.YtlfdpambbgddoaaGreatItA
import Derived.Test.YtlfdpambbgddoaaGreatMatS
import Derived.Test.YtlfdpambbgddoaaGreatSpnA
import Derived.Test.YtlfdpambbgddoaaGreatBaseA
namespace Go.Proofs.YtlfdpambbgddoaaGreat
open Go.RowKit Go.Maps
set_option linter.unusedVariables false
set_option linter.unusedSimpArgs false

def mxC (cs : Rws) : Nat → Int
  | 0 => 0
  | k + 1 => max (mxC cs k) (slpV (rw_ cs k))
def mxR (rs : Rws) : Nat → Int
  | 0 => 0
  | k + 1 => max (mxR rs k) (rowV rs (k : Int))
def slN (t : Stg) : Int := if t.kd = 1 then mxC t.cs 3 else if t.kd = 2 then mxR t.rs 3 else 3 * spV t.sd t.ns * (t.sd - 1)
def slD (t : Stg) : Int := if t.kd = 2 then 65536 else 65535
theorem slpV_bd {ps : List Int} (h : CFine ps) : 0 ≤ slpV ps ∧ slpV ps ≤ 1048560 := by
  have h1 := h.lo
  have h2 := h.hi
  have b := slo_bd h (ps.length - 1)
  unfold slpV
  rw [if_pos (cf_zero h)]
  refine ⟨Int.mul_nonneg b.1 (by omega), ?_⟩
  have := Int.mul_le_mul_of_nonneg_right b.2 (by omega : (0 : Int) ≤ (ps.length : Int) - 1)
  omega
theorem mxC_bd {cs : Rws} (h : ∀ i, i < 3 → cf (rw_ cs i) = 0) : ∀ k, k ≤ 3 → 0 ≤ mxC cs k ∧ mxC cs k ≤ 1048560 := by
  intro k
  induction k with
  | zero => intro _; simp [mxC]
  | succ k ih =>
    intro hk
    have a := ih (by omega)
    have b := slpV_bd (cfine (h k (by omega)))
    simp only [mxC]
    omega
theorem sumR_bd {rs : Rws} (h : mf rs = 0) {i : Nat} (hi : i < 3) : 0 ≤ sumR (fl rs) i ∧ sumR (fl rs) i ≤ 786432 := by
  have a := fl_bd h (3 * i) (by omega)
  have b := fl_bd h (3 * i + 1) (by omega)
  have c := fl_bd h (3 * i + 2) (by omega)
  unfold sumR
  omega
theorem rowV_bd {rs : Rws} (h : mf rs = 0) {i : Nat} (hi : i < 3) : 0 ≤ rowV rs (i : Int) ∧ rowV rs (i : Int) ≤ 786432 := by
  rw [(row_in h (row := (i : Int)) (by omega)).2]
  exact sumR_bd h (by omega)
theorem mxR_bd {rs : Rws} (h : mf rs = 0) : ∀ k, k ≤ 3 → 0 ≤ mxR rs k ∧ mxR rs k ≤ 786432 := by
  intro k
  induction k with
  | zero => intro _; simp [mxR]
  | succ k ih =>
    intro hk
    have a := ih (by omega)
    have b := rowV_bd h (i := k) (by omega)
    simp only [mxR]
    omega
theorem spV_bd {s : Nat} {rs : Rws} (h0 : gf (s : Int) rs = 0) : 0 ≤ spV (s : Int) rs ∧ spV (s : Int) rs ≤ 65535 := by
  obtain ⟨hs, hlen, hrow⟩ := gf_zero h0
  have h3 : s = 2 ∨ s = 3 ∨ s = 4 := by rcases side_cases hs with e | e | e <;> omega
  have hNI : ((s * s * s : Nat) : Int) = (s : Int) * s * s := by simp
  have hNN : rs.length = s * s * s := by rw [← hNI] at hlen; omega
  rw [sp_y h0]
  exact spn_bd h3 (fun t ht k hk => inB_iff.1 ((lf_zero (hrow t (by rw [hNN]; exact ht))).2 k hk)) _ (Nat.le_refl _)
theorem fld1 (a b : Int) (W : World) : (Instr.field 43 (.agg #[.int .i64 a, .int .i64 b]) 1).run Tryz.prog W = .ok (.int .i64 b) W := by kernel_rfl
def RaAns (w : World) (a b : Int) (e : Ending) (w' : World) : Prop := e = .returned (.agg #[.int .i64 0, .int .i64 a, .int .i64 b]) ∧ Below w.heap.size w w'
def slC (t : Stg) : Int := sgf t
def slA (t : Stg) : Int := if sgf t = 0 then slN t else 0
def slB (t : Stg) : Int := if sgf t = 0 then slD t else 0
def SlAns7 (w : World) (t : Stg) (e : Ending) (w' : World) : Prop := e = .returned (.agg #[.int .i64 (sgf t), .int .i64 (slA t), .int .i64 (slB t)]) ∧ Below w.heap.size w w'
end Go.Proofs.YtlfdpambbgddoaaGreat
namespace Go.Proofs.YtlfdpambbgddoaaGreat
open Go.RowKit Go.Maps
set_option linter.unusedVariables false
set_option linter.unusedSimpArgs false

theorem slpV_eq {ps : List Int} {n : Nat} (h : cf ps = 0) (hl : ps.length = n) : slo ps (n - 1) * ((n : Int) - 1) = slpV ps := by
  unfold slpV
  rw [if_pos h, hl]
def S7Ans (w : World) (t : Stg) (e : Ending) (w' : World) : Prop := e = .returned (.tuple #[.int .i64 (slN t), .int .i64 (slD t)]) ∧ Below w.heap.size w w'
end Go.Proofs.YtlfdpambbgddoaaGreat
namespace Go.Proofs.YtlfdpambbgddoaaGreat
open Go.RowKit
set_option linter.unusedVariables false

end Go.Proofs.YtlfdpambbgddoaaGreat
