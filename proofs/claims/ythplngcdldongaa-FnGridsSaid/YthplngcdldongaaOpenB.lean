/-
  Arguments as the frame hands them: lists of int64, lists of such lists, matrices, as data in known blocks.
  Grids as the frame hands them, as data in known blocks.
-/
import Derived.Test.YthplngcdldongaaOpenA
import Derived.Test.YthplngcdldongaaHelpA
import Derived.Deep.Slices
namespace Go.Proofs.Ythplngcdldongaa
open Go.RowKit Go.ChangeShapes Go.WideShapes Go.Deep Go.Joins
set_option linter.unusedVariables false

/-- each number of each row is an int64. -/
def I64R (rs : Rws) : Prop := ∀ i, I64s (rw_ rs i)
section
variable {H : Type} {enc : TypeId × Value → H} {w : World} {base : Nat} {spare : Nat → Bool} {held : Bool}
theorem rw_range {n : Nat} {f : Nat → List Int} {i : Nat} (h : i < n) : rw_ ((List.range n).map f) i = f i := by simp [rw_, List.getD, h]
theorem rw_out {rs : Rws} {i : Nat} (h : rs.length ≤ i) : rw_ rs i = [] := by simp [rw_, List.getD, h]
set_option maxRecDepth 100000 in
theorem open_i64s {r : Reach} {b0 : Nat} {v : Value} {d : DataW H} {p : List MemPlace} (hv : Value.okWide Try.prog w r b0 27 v) (h : DataW.Trod enc Try.prog w base spare held 27 v d p) :
    ∃ A n c xs bs, v = .slice A n c ∧ Hd w (.ints .i64 xs) (.slice A n c) bs ∧ I64s xs := by
  obtain ⟨A, n, c, rfl⟩ := okWide_slice Try.underlying27 hv
  obtain ⟨fuel, hf⟩ := h
  exact open_hd_i64 Try.underlying27 Try.underlying2 (by kernel_rfl) hf
theorem open_rows {fuel : Nat} {v : Value} {x : DataW H × List MemPlace} (h : DataW.trod enc Try.prog w base spare held fuel 24 [v] = some x) :
    ∃ A n c rs bs, v = .slice A n c ∧ Hd w (rowsD rs) (.slice A n c) bs ∧ I64R rs := by
  rcases open_slice1 Try.underlying24 (by kernel_rfl) h with ⟨hcs, _⟩ | ⟨a, len, cap, m, n, V0, D0, P0, hcs, _, hl, hm, hmm, _, hx⟩
  · obtain rfl : v = .slice none 0 0 := by simpa using hcs
    exact ⟨none, 0, 0, [], [], rfl, .sl0 _ _ _ (Nat.zero_le _), fun i j => by simp [rw_]⟩
  · obtain rfl : v = .slice (some a) len cap := by simpa using hcs
    obtain ⟨b, o, sp⟩ := a
    have hlm : len ≤ m := by rw [hmm]; split <;> omega
    rcases Nat.eq_zero_or_pos len with h0 | h0
    · subst h0
      exact ⟨_, 0, cap, [], [], rfl, .sl0 _ _ _ hm, fun i j => by simp [rw_]⟩
    obtain rfl := cell_spot (by simpa using (hx 0 (by omega)).1)
    have each : ∀ i, ∃ q : List Int × List Nat, i < len → Hd w (.ints .i64 q.1) (V0 i) q.2 ∧ I64s q.1 := fun i => by
      by_cases hi : i < len
      · obtain ⟨_, t1⟩ := hx i (by omega)
        obtain ⟨A', n', c', xs, gs, hv, hd, hu⟩ := open_hd_i64 Try.underlying27 Try.underlying2 (by kernel_rfl) t1
        exact ⟨(xs, gs), fun _ => ⟨by rw [hv]; exact hd, hu⟩⟩
      · exact ⟨default, fun h => absurd h hi⟩
    obtain ⟨q, hq⟩ := Classical.axiomOfChoice each
    refine ⟨_, len, cap, (List.range len).map fun i => (q i).1, _, rfl, .sl 1 b o len cap _ (fun i _ => V0 i) (fun i _ => (q i).2) h0 (by omega) (by simp) (fun i hi j hj => ?_) (fun i hi j hj => ?_) hl hm, fun i => ?_⟩
    · obtain ⟨c0, _⟩ := hx i (by omega)
      rw [add_flat rfl] at c0
      obtain rfl : j = 0 := by omega
      simpa using c0
    · show Hd w (At _ i j) _ _
      obtain rfl : j = 0 := by omega
      rw [rows_at (by simpa using hi), rw_range hi]; exact (hq i hi).1
    · by_cases hi : i < len
      · rw [rw_range hi]; exact (hq i hi).2
      · rw [rw_out (by simp; omega)]; exact fun j => by simp
end
end Go.Proofs.Ythplngcdldongaa
namespace Go.Proofs.Ythplngcdldongaa
open Go.RowKit Go.ChangeShapes Go.WideShapes Go.Deep Go.Joins
set_option linter.unusedVariables false

section
variable {H : Type} {enc : TypeId × Value → H} {w : World} {base : Nat} {spare : Nat → Bool} {held : Bool}
end
end Go.Proofs.Ythplngcdldongaa
