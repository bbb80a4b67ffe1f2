/-
  Arguments as the frame hands them: bytes, and profiles, as data in known blocks.
-/
import Derived.Test.YtmmlcdbbjkligaaTagD
import Derived.Lib.SmallJoins
import Derived.Deep.SlicePairs
namespace Go.Proofs.Ytmmlcdbbjkligaa
open Go.RowKit Go.ChangeShapes Go.WideShapes Go.Deep Go.Joins
set_option linter.unusedVariables false

section
variable {H : Type} {enc : TypeId × Value → H} {w : World} {base : Nat} {spare : Nat → Bool} {held : Bool}
theorem add_flat {b o : Nat} {sp : Option Nat} {i : Nat} (h : sp = none) : (⟨b, o, sp⟩ : Addr).add i = ⟨b, o + i, none⟩ := by
  subst h
  unfold Addr.add
  split
  · rename_i e; subst e; simp
  · rfl
theorem cell_spot {b o : Nat} {sp : Option Nat} {v : Value} (h : w.cell? ((⟨b, o, sp⟩ : Addr).add 0) = some v) : sp = none := by
  have := World.cell?_spot h
  simpa [Addr.add] using this
theorem open_hd_u8 {t e : TypeId} {fuel : Nat} {v : Value} {x : DataW H × List MemPlace} (ht : Try.prog.underlying t = some (.slice e)) (he : Try.prog.underlying e = some (.int .u8)) (hc : Try.prog.cellsOf e = 1)
    (h : DataW.trod enc Try.prog w base spare held fuel t [v] = some x) : ∃ A n c xs bs, v = .slice A n c ∧ Hd w (.ints .u8 xs) (.slice A n c) bs ∧ U8s xs := by
  rcases open_ints ht he hc h with ⟨hcs, _⟩ | ⟨a, l, c, zs, hcs, _, hl, hm, hz, _, hcell, hwz⟩
  · obtain rfl : v = .slice none 0 0 := by simpa using hcs
    exact ⟨none, 0, 0, [], [], rfl, .ints0 _ _ _ (Nat.zero_le _), fun i => by simp⟩
  · obtain rfl : v = .slice (some a) l c := by simpa using hcs
    obtain ⟨b, o, sp⟩ := a
    have hlz : l ≤ zs.length := by rw [hz]; split <;> omega
    have hlen : (zs.take l).length = l := by simp; omega
    have hget : ∀ i, i < l → (zs.take l).getD i 0 = zs.getD i 0 := fun i hi => by simp [List.getD, hi]
    have hu : U8s (zs.take l) := fun i => by
      by_cases hi : i < l
      · rw [hget i hi]
        have : zs.getD i 0 ∈ zs := by
          rw [List.getD_eq_getElem?_getD, List.getElem?_eq_getElem (by omega)]; simp
        exact bounds_u8 (hwz _ this)
      · have : (zs.take l).getD i 0 = 0 := by simp [List.getD, List.getElem?_take, hi]
        rw [this]; omega
    rcases Nat.eq_zero_or_pos l with h0 | h0
    · subst h0
      exact ⟨_, 0, c, [], [], rfl, .ints0 _ _ _ hm, fun i => by simp⟩
    · obtain rfl := cell_spot (hcell 0 (by omega))
      refine ⟨_, l, c, zs.take l, [b], rfl, .ints .u8 b o l c _ h0 hlen (fun i hi => ?_) hl hm, hu⟩
      rw [hget i hi, ← add_flat rfl]
      exact hcell i (by omega)
set_option maxRecDepth 100000 in
theorem open_bytes {r : Reach} {b0 : Nat} {v : Value} {d : DataW H} {p : List MemPlace} (hv : Value.okWide Try.prog w r b0 75 v) (h : DataW.Trod enc Try.prog w base spare held 75 v d p) :
    ∃ A n c xs bs, v = .slice A n c ∧ Hd w (.ints .u8 xs) (.slice A n c) bs ∧ U8s xs := by
  obtain ⟨A, n, c, rfl⟩ := okWide_slice Try.underlying75 hv
  obtain ⟨fuel, hf⟩ := h
  exact open_hd_u8 Try.underlying75 Try.underlying5 (by kernel_rfl) hf
theorem tg_range {n : Nat} {f : Nat → Tg} {i : Nat} (h : i < n) : tg ((List.range n).map f) i = f i := by simp [tg, List.getD, h]
theorem tg_out {ts : List Tg} {i : Nat} (h : ts.length ≤ i) : tg ts i = (ByteArray.empty, []) := by simp [tg, List.getD, h]
end
end Go.Proofs.Ytmmlcdbbjkligaa
