/-
  The fault of a profile: impl.placesOf, impl.ProfileFault; the map of names that placesOf makes.
-/
import Derived.Test.YtbbghebpmobfnaaTags1
import Derived.Test.YtbbghebpmobfnaaHelpT
import Derived.Maps.OwnSet
import Derived.Maps.OwnOps
import Derived.DeepKeys4
namespace Go.Proofs.Ytbbghebpmobfnaa
open Go.RowKit Go.Maps
set_option linter.unusedVariables false

/-! ### the fault, as a number -/
def dupB (ts : List Tg) (i : Nat) : Bool := (List.range i).any fun j => decide ((tg ts j).1 = (tg ts i).1)
def flt (ts : List Tg) (i : Nat) : Int := if nm (tg ts i).1 = false then 5 else if inB ((tg ts i).2.length : Int) 1 96 = false then 2 else if dupB ts i = true then 1 else 0
def pfl (ts : List Tg) : Nat → Int
  | 0 => 0
  | i + 1 => if pfl ts i = 0 then flt ts i else pfl ts i
def pf (cl : Int) (ts : List Tg) : Int := if inB cl 1 3 = false then 3 else if 8 < ts.length then 2 else pfl ts ts.length
theorem pfl_stay {ts : List Tg} {i : Nat} (h : pfl ts i ≠ 0) : ∀ n, i ≤ n → pfl ts n = pfl ts i := by
  intro n hn
  induction n with
  | zero => obtain rfl : i = 0 := by omega
            rfl
  | succ n ih =>
    by_cases e : i = n + 1
    · subst e; rfl
    · have := ih (by omega)
      simp only [pfl]
      rw [this, if_neg h]
theorem pfl_first {ts : List Tg} {i n : Nat} {c : Int} (h0 : pfl ts i = 0) (hf : flt ts i = c) (hc : c ≠ 0) (hi : i < n) : pfl ts n = c := by
  have h1 : pfl ts (i + 1) = c := by simp only [pfl]; rw [if_pos h0, hf]
  rw [pfl_stay (by rw [h1]; exact hc) n (by omega), h1]
theorem pfl_on {ts : List Tg} {i : Nat} (h0 : pfl ts i = 0) (hf : flt ts i = 0) : pfl ts (i + 1) = 0 := by simp only [pfl]; rw [if_pos h0, hf]

/-! ### names as keys -/
theorem keyed : Keyed Try.prog 70 := Keyed.of_law (deep_law_laid (m := 3) (by kernel_rfl) (by decide) (of_decide_eq_true (by kernel_rfl)) (by kernel_rfl) (by kernel_rfl))
def ky (s : ByteArray) : Lit := .string (keyBytes [.int .u8 (bt s 0), .int .u8 (bt s 1), .int .u8 (bt s 2), .int .u8 (bt s 3)])
theorem bt_bd (s : ByteArray) (i : Nat) : 0 ≤ bt s i ∧ bt s i ≤ 255 := by
  unfold bt
  have := (s.data.toList.getD i 0).toNat_lt
  omega
theorem ky_of (s : ByteArray) : keyOf Try.prog 70 (.agg #[.int .u8 (bt s 0), .int .u8 (bt s 1), .int .u8 (bt s 2), .int .u8 (bt s 3)]) = some (ky s) := by
  have hu := Try.underlying70
  have hu5 := Try.underlying5
  have hk : Try.prog.keyType 70 = true := by kernel_rfl
  have hc : Try.prog.cellsOf 70 = 4 := by kernel_rfl
  have hc5 : Try.prog.cellsOf 5 = 1 := by kernel_rfl
  have hsz : Try.prog.types.size = 122 := by kernel_rfl
  have wf : ∀ i, (Lit.int .u8 (bt s i)).wf = true := fun i => by
    obtain ⟨h0, h1⟩ := bt_bd s i
    exact WalkArith.wf_u8 ⟨h0, h1⟩
  obtain ⟨d, hd⟩ : ∃ d, Try.prog.types.size + 1 = d + 2 := ⟨Try.prog.types.size - 1, by rw [hsz]⟩
  unfold keyOf
  rw [hd]
  clear hd hsz
  simp [hu, hk, Value.formed, hc, Program.keyLits, hc5, hu5, Value.cells, List.range_succ, wf, ky]
theorem ky_inj {s t : ByteArray} (hs : nm s = true) (ht : nm t = true) (h : ky s = ky t) : s = t := by
  have h1 := ky_of s
  have h2 := ky_of t
  rw [h] at h1
  have e := keyed.inj h1 h2
  obtain ⟨a0, a1, a2, a3, rfl⟩ := four_of (nm_size hs)
  obtain ⟨b0, b1, b2, b3, rfl⟩ := four_of (nm_size ht)
  simp only [Value.agg.injEq] at e
  obtain ⟨p0, p1, p2, p3⟩ := bt_mk a0 a1 a2 a3
  obtain ⟨q0, q1, q2, q3⟩ := bt_mk b0 b1 b2 b3
  rw [p0, p1, p2, p3, q0, q1, q2, q3] at e
  simp only [Array.mk.injEq, List.cons.injEq, Value.int.injEq, true_and, and_true, Int.natCast_inj, UInt8.toNat_inj] at e
  obtain ⟨rfl, rfl, rfl, rfl⟩ := e
  rfl

/-! ### the map of the first i names -/
structure MapIs (w : World) (B : Nat) (ts : List Tg) (i : Nat) (D : DataW Unit) : Prop where
  own : w.ownsMap Try.prog 70 (plainElem Try.prog 3) B i D
  has : ∀ s, nm s = true → Maps.has D (ky s) = (List.range i).any fun j => decide ((tg ts j).1 = s)
  at_ : ∀ j, j < i → ∀ z, D.atKey (ky (tg ts j).1) z = .lit (.int .i64 j)
theorem MapIs.new (w : World) (ts : List Tg) : MapIs (w.alloc (.map #[] 0)) w.heap.size ts 0 (.map []) :=
  ⟨World.ownsMap_made _ _ _ _, fun s _ => rfl, fun j hj => absurd hj (by omega)⟩
theorem MapIs.below {w w' : World} {B : Nat} {ts : List Tg} {i : Nat} {D : DataW Unit} (h : MapIs w B ts i D) (hb : Below w.heap.size w w') : MapIs w' B ts i D :=
  ⟨h.own.kept (row := none) ⟨hb.os, hb.tape, hb.output, hb.size, fun k hk _ => hb.block k hk⟩ (by simp), h.has, h.at_⟩
theorem MapIs.gb {w w' : World} {B : Nat} {ts : List Tg} {i : Nat} {D : DataW Unit} {row : Option Nat} (h : MapIs w B ts i D) (hg : w.grownBy w' row) (hne : some B ≠ row) : MapIs w' B ts i D :=
  ⟨h.own.kept hg hne, h.has, h.at_⟩
theorem MapIs.put {w w' : World} {B : Nat} {ts : List Tg} {i : Nat} {D : DataW Unit} (h : MapIs w B ts i D) (hn : ∀ j, j ≤ i → nm (tg ts j).1 = true) (hd : dupB ts i = false)
    (ho : w'.ownsMap Try.prog 70 (plainElem Try.prog 3) B (i + 1) (D.put (ky (tg ts i).1) (.lit (.int .i64 i)))) : MapIs w' B ts (i + 1) (D.put (ky (tg ts i).1) (.lit (.int .i64 i))) := by
  have hM : IsMap D := h.own.isMap
  have hK : WideAt.IsKeyLit (ky (tg ts i).1) := keyed.key (ky_of _)
  have far : ∀ j, j < i → (tg ts j).1 ≠ (tg ts i).1 := fun j hj e => by
    unfold dupB at hd
    rw [List.any_eq_false] at hd
    exact hd j (List.mem_range.2 hj) (decide_eq_true e)
  refine ⟨ho, fun s hs => ?_, fun j hj z => ?_⟩
  · rw [List.range_succ, List.any_append]
    by_cases e : (tg ts i).1 = s
    · subst e
      rw [has_put_same hM hK]
      simp
    · rw [has_put_other (fun e' => e (ky_inj hs (hn i (Nat.le_refl _)) e').symm), h.has s hs]
      simp [e]
  · by_cases e : j = i
    · subst e; rw [atKey_put_same hM hK]
    · have := far j (by omega)
      rw [atKey_put_other (fun e' => this (ky_inj (hn j (by omega)) (hn i (Nat.le_refl _)) e')), h.at_ j (by omega) z]
end Go.Proofs.Ytbbghebpmobfnaa
