/-
  Mathematics of FnSwaps: a matrix whose first two rows are exchanged.
-/
import Derived.Test.YtlfdpambbgddoaaMatPA
import Derived.Test.YtlfdpambbgddoaaMatCD
namespace Go.Proofs.Ytlfdpambbgddoaa
open Go.RowKit
set_option linter.unusedVariables false

/-- a matrix without fault, written out. -/
theorem mf_shape {rs : Rws} (h : mf rs = 0) : ∃ a b c d e f g h' i : Int, rs = [[a, b, c], [d, e, f], [g, h', i]] := by
  have h1 := (mf_zero h).1
  have l0 := mf_lens h 0 (by omega)
  have l1 := mf_lens h 1 (by omega)
  have l2 := mf_lens h 2 (by omega)
  match rs, h1 with
  | [p, q, r], _ =>
    match p, q, r, l0, l1, l2 with
    | [a, b, c], [d, e, f], [g, h', i], _, _, _ => exact ⟨a, b, c, d, e, f, g, h', i, rfl⟩
def swp (rs : Rws) : Rws := [rw_ rs 1, rw_ rs 0, rw_ rs 2]
theorem swp_mf {rs : Rws} (h : mf rs = 0) : mf (swp rs) = 0 := by
  have h2 := (mf_zero h).2
  refine mf_ok rfl fun j hj => ?_
  match j, hj with
  | 0, _ => exact h2 1 (by omega)
  | 1, _ => exact h2 0 (by omega)
  | 2, _ => exact h2 2 (by omega)
theorem swp_det {rs : Rws} (h : mf rs = 0) : det (fl (swp rs)) = -det (fl rs) := by
  obtain ⟨a, b, c, d, e, f, g, h', i, rfl⟩ := mf_shape h
  show d * (b * i - c * h') + e * (c * g - a * i) + f * (a * h' - b * g) = -(a * (e * i - f * h') + b * (f * g - d * i) + c * (d * h' - e * g))
  simp only [Int.mul_sub]
  rw [show d * (b * i) = b * (d * i) from Int.mul_left_comm _ _ _, show d * (c * h') = c * (d * h') from Int.mul_left_comm _ _ _, show e * (c * g) = c * (e * g) from Int.mul_left_comm _ _ _, show e * (a * i) = a * (e * i) from Int.mul_left_comm _ _ _, show f * (a * h') = a * (f * h') from Int.mul_left_comm _ _ _, show f * (b * g) = b * (f * g) from Int.mul_left_comm _ _ _]
  omega
theorem swp_detV {rs : Rws} (h : mf rs = 0) : detV (swp rs) = -detV rs := by
  rw [detV_ok (swp_mf h), detV_ok h, swp_det h]
theorem detV_bd {rs : Rws} (h : mf rs = 0) : -108086391056891904 ≤ detV rs ∧ detV rs ≤ 108086391056891904 := by
  rw [detV_ok h]
  exact det_bd (fun t ht => fl_Q9 h t ht)
theorem swp_ap {rs : Rws} {xs : List Int} (h : mf rs = 0) (h1 : lf xs = 0) : ∃ x y z, apL rs xs = [x, y, z] ∧ apL (swp rs) xs = [y, x, z] ∧ apC (swp rs) xs = 0 := by
  obtain ⟨h2, h3⟩ := ap_y (swp_mf h) h1
  refine ⟨_, _, _, (ap_y h h1).2, ?_, h2⟩
  rw [h3]
  obtain ⟨a, b, c, d, e, f, g, h', i, rfl⟩ := mf_shape h
  rfl
theorem ap_zero {rs : Rws} {xs : List Int} (h : apC rs xs = 0) : mf rs = 0 ∧ lf xs = 0 := by
  unfold apC at h
  split at h
  · rename_i h1; exact ⟨h1, h⟩
  · rename_i h1; exact absurd h h1
/-- three rows that were read elsewhere, in a list of their own. -/
theorem hd_three {w : World} {p q r : List Int} {x y z : Value} {g1 g2 g3 : List Nat} {g : Nat} (c0 : w.cell? ⟨g, 0, none⟩ = some x) (c1 : w.cell? ⟨g, 1, none⟩ = some y) (c2 : w.cell? ⟨g, 2, none⟩ = some z) (h0 : Hd w (.ints .i64 p) x g1) (h1 : Hd w (.ints .i64 q) y g2) (h2 : Hd w (.ints .i64 r) z g3) : ∃ bs, Hd w (rowsD [p, q, r]) (.slice (some ⟨g, 0, none⟩) 3 3) bs := by
  refine ⟨_, .sl 1 g 0 3 3 _ (fun i _ => [x, y, z].getD i x) (fun i _ => [g1, g2, g3].getD i []) (by omega) (by omega) rfl (fun i hi j hj => ?_) (fun i hi j hj => ?_) (Nat.le_refl _) (by unfold maxLen; omega)⟩
  · obtain rfl : j = 0 := by omega
    match i, hi with
    | 0, _ => exact c0
    | 1, _ => exact c1
    | 2, _ => exact c2
  · obtain rfl : j = 0 := by omega
    match i, hi with
    | 0, _ => exact h0
    | 1, _ => exact h1
    | 2, _ => exact h2
end Go.Proofs.Ytlfdpambbgddoaa
