/-
  Arguments as the frame hands them: bytes, and profiles, as data in known blocks.
  Arguments as the frame hands them: lists of int64, and curves, as data in known blocks.
  Closed facts of the seat, for the frames of its laws.
-/
import Derived.Test.YthplngcdldongaaBaseA
import Derived.Lib.SmallJoins
import Derived.Deep.SlicePairs
import Derived.Test.YthplngcdldongaaRows
import Derived.ChangeSame
import Derived.ChangeVars
import Derived.JoinedOf
import Derived.RowKit
import Derived.RowKitTokens
import Derived.LaidLaws
import Derived.ProofKit
import Derived.OpenShut
import Derived.ShutString
import Derived.ChangeOld
import Derived.Below
import Derived.Carry
namespace Go.Proofs.Ythplngcdldongaa
open Go.RowKit Go.ChangeShapes Go.WideShapes Go.Deep Go.Joins
set_option linter.unusedVariables false

section
variable {H : Type} {enc : TypeId × Value → H} {w : World} {base : Nat} {spare : Nat → Bool} {held : Bool}
theorem add_flat {b o : Nat} {sp : Option Nat} {i : Nat} (h : sp = none) : (⟨b, o, sp⟩ : Addr).add i = ⟨b, o + i, none⟩ := by
  subst h
  unfold Addr.add
  split
  · rename_i e; subst e; simp
  · rfl
theorem cell_spot {b o : Nat} {sp : Option Nat} {v : Value} (h : w.cell? ((⟨b, o, sp⟩ : Addr).add 0) = some v) : sp = none := by
  have := World.cell?_spot h
  simpa [Addr.add] using this
theorem open_hd_u8 {t e : TypeId} {fuel : Nat} {v : Value} {x : DataW H × List MemPlace} (ht : Try.prog.underlying t = some (.slice e)) (he : Try.prog.underlying e = some (.int .u8)) (hc : Try.prog.cellsOf e = 1)
    (h : DataW.trod enc Try.prog w base spare held fuel t [v] = some x) : ∃ A n c xs bs, v = .slice A n c ∧ Hd w (.ints .u8 xs) (.slice A n c) bs ∧ U8s xs := by
  rcases open_ints ht he hc h with ⟨hcs, _⟩ | ⟨a, l, c, zs, hcs, _, hl, hm, hz, _, hcell, hwz⟩
  · obtain rfl : v = .slice none 0 0 := by simpa using hcs
    exact ⟨none, 0, 0, [], [], rfl, .ints0 _ _ _ (Nat.zero_le _), fun i => by simp⟩
  · obtain rfl : v = .slice (some a) l c := by simpa using hcs
    obtain ⟨b, o, sp⟩ := a
    have hlz : l ≤ zs.length := by rw [hz]; split <;> omega
    have hlen : (zs.take l).length = l := by simp; omega
    have hget : ∀ i, i < l → (zs.take l).getD i 0 = zs.getD i 0 := fun i hi => by simp [List.getD, hi]
    have hu : U8s (zs.take l) := fun i => by
      by_cases hi : i < l
      · rw [hget i hi]
        have : zs.getD i 0 ∈ zs := by
          rw [List.getD_eq_getElem?_getD, List.getElem?_eq_getElem (by omega)]; simp
        exact bounds_u8 (hwz _ this)
      · have : (zs.take l).getD i 0 = 0 := by simp [List.getD, List.getElem?_take, hi]
        rw [this]; omega
    rcases Nat.eq_zero_or_pos l with h0 | h0
    · subst h0
      exact ⟨_, 0, c, [], [], rfl, .ints0 _ _ _ hm, fun i => by simp⟩
    · obtain rfl := cell_spot (hcell 0 (by omega))
      refine ⟨_, l, c, zs.take l, [b], rfl, .ints .u8 b o l c _ h0 hlen (fun i hi => ?_) hl hm, hu⟩
      rw [hget i hi, ← add_flat rfl]
      exact hcell i (by omega)
set_option maxRecDepth 100000 in
theorem open_bytes {r : Reach} {b0 : Nat} {v : Value} {d : DataW H} {p : List MemPlace} (hv : Value.okWide Try.prog w r b0 22 v) (h : DataW.Trod enc Try.prog w base spare held 22 v d p) :
    ∃ A n c xs bs, v = .slice A n c ∧ Hd w (.ints .u8 xs) (.slice A n c) bs ∧ U8s xs := by
  obtain ⟨A, n, c, rfl⟩ := okWide_slice Try.underlying22 hv
  obtain ⟨fuel, hf⟩ := h
  exact open_hd_u8 Try.underlying22 Try.underlying5 (by kernel_rfl) hf
theorem tg_range {n : Nat} {f : Nat → Tg} {i : Nat} (h : i < n) : tg ((List.range n).map f) i = f i := by simp [tg, List.getD, h]
theorem tg_out {ts : List Tg} {i : Nat} (h : ts.length ≤ i) : tg ts i = (ByteArray.empty, []) := by simp [tg, List.getD, h]
end
end Go.Proofs.Ythplngcdldongaa
namespace Go.Proofs.Ythplngcdldongaa
open Go.RowKit Go.ChangeShapes Go.WideShapes Go.Deep Go.Joins
set_option linter.unusedVariables false

/-- each is an int64. -/
def I64s (xs : List Int) : Prop := ∀ i, -9223372036854775808 ≤ xs.getD i 0 ∧ xs.getD i 0 ≤ 9223372036854775807
section
variable {H : Type} {enc : TypeId × Value → H} {w : World} {base : Nat} {spare : Nat → Bool} {held : Bool}
theorem open_hd_i64 {t e : TypeId} {fuel : Nat} {v : Value} {x : DataW H × List MemPlace} (ht : Try.prog.underlying t = some (.slice e)) (he : Try.prog.underlying e = some (.int .i64)) (hc : Try.prog.cellsOf e = 1)
    (h : DataW.trod enc Try.prog w base spare held fuel t [v] = some x) : ∃ A n c xs bs, v = .slice A n c ∧ Hd w (.ints .i64 xs) (.slice A n c) bs ∧ I64s xs := by
  rcases open_ints ht he hc h with ⟨hcs, _⟩ | ⟨a, l, c, zs, hcs, _, hl, hm, hz, _, hcell, hwz⟩
  · obtain rfl : v = .slice none 0 0 := by simpa using hcs
    exact ⟨none, 0, 0, [], [], rfl, .ints0 _ _ _ (Nat.zero_le _), fun i => by simp⟩
  · obtain rfl : v = .slice (some a) l c := by simpa using hcs
    obtain ⟨b, o, sp⟩ := a
    have hlz : l ≤ zs.length := by rw [hz]; split <;> omega
    have hlen : (zs.take l).length = l := by simp; omega
    have hget : ∀ i, i < l → (zs.take l).getD i 0 = zs.getD i 0 := fun i hi => by simp [List.getD, hi]
    have hu : I64s (zs.take l) := fun i => by
      by_cases hi : i < l
      · rw [hget i hi]
        have : zs.getD i 0 ∈ zs := by
          rw [List.getD_eq_getElem?_getD, List.getElem?_eq_getElem (by omega)]; simp
        exact bounds_i64 (hwz _ this)
      · have : (zs.take l).getD i 0 = 0 := by simp [List.getD, List.getElem?_take, hi]
        rw [this]; omega
    rcases Nat.eq_zero_or_pos l with h0 | h0
    · subst h0
      exact ⟨_, 0, c, [], [], rfl, .ints0 _ _ _ hm, fun i => by simp⟩
    · obtain rfl := cell_spot (hcell 0 (by omega))
      refine ⟨_, l, c, zs.take l, [b], rfl, .ints .i64 b o l c _ h0 hlen (fun i hi => ?_) hl hm, hu⟩
      rw [hget i hi, ← add_flat rfl]
      exact hcell i (by omega)
theorem array1 {α : Type} {cs : Array α} (h : cs.size = 1) : ∃ c0, cs = #[c0] := by
  obtain ⟨l⟩ := cs
  match l, h with
  | [c0], _ => exact ⟨c0, rfl⟩
theorem open_agg1 {P : Program} {r : Reach} {b0 : Nat} {t : TypeId} {f0 : Field} {v : Value} {d : DataW H} {p : List MemPlace} (hs : P.underlying t = some (.struct #[f0])) (hone : oneCellFields P #[f0] = true) (hC : P.cellsOf t = 1)
    (hv : Value.okWide P w r b0 t v) (h : DataW.Trod enc P w base spare held t v d p) :
    ∃ (v0 : Value) (y0 : DataW H × List MemPlace) (n : Nat), v = .agg #[v0] ∧ DataW.trod enc P w base spare held n f0.type [v0] = some y0 := by
  obtain ⟨cs, rfl, hsz⟩ := okWide_struct hs hv
  obtain ⟨c0, rfl⟩ := array1 (hsz.trans hC)
  obtain ⟨fuel, hf⟩ := h
  obtain ⟨xs, n, _, _, hl, hlen, hff⟩ := DataW.trod_struct hs hf
  obtain ⟨o0, k0⟩ := hone_of hone 0 f0 rfl
  match xs, hlen with
  | [y0], _ =>
    have h0 : DataW.trod enc P w base spare held n f0.type _ = some y0 := hff 0 f0 rfl
    exact ⟨c0, y0, n, rfl, by simpa [Value.cells, o0, k0] using h0⟩
end
end Go.Proofs.Ythplngcdldongaa
namespace Go.Proofs.Ythplngcdldongaa
open Go.ChangeShapes Go.WideShapes Go.RowKit
theorem own : ownKnob Try.prog.godebug = none := by kernel_rfl
theorem laidOut : laidOutB Try.prog = true := by kernel_rfl
end Go.Proofs.Ythplngcdldongaa
