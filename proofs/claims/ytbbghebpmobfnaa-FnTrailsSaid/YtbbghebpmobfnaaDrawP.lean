/-
  The draws of profiles: l2DrawName, l2Draw.
-/
import Derived.Test.YtbbghebpmobfnaaDrawT
namespace Go.Proofs.Ytbbghebpmobfnaa
open Go.RowKit
set_option linter.unusedVariables false

/-- a name that is drawn. -/
def NameD (w : World) (g : Nat) (A : Option Addr) (n c : Nat) (xs : List Int) (q : Int) (e : Ending) (w' : World) : Prop :=
  ∃ s, e = .returned (.string s) ∧ nm s = true ∧ Src w' g A n c xs (q + 1) ∧ w.grownBy w' (some g)
set_option maxHeartbeats 1000000 in
theorem drawName_any (g : Nat) (A : Option Addr) (n c : Nat) (xs : List Int) (q : Int) (w : World) (h : Src w g A n c xs q) (hq : q ≤ 1000000000) :
    Calls Try.prog 48 #[.pointer (some ⟨g, 0, none⟩)] w (NameD w g A n c xs q) := by
  have HS := Lib.hid h
  have hgl := h.lt
  clear h
  go_enter Try.func48, Try.ntmps48
  go_wp2_with fail
  refine (next_any g A n c xs q 5 _ (HS.out.gbNew _) hq (by omega)).mono ?_
  rintro e w1 ⟨r, ⟨hr0, hr1⟩, rfl, hs1, hg1⟩
  have hr2 := hr1 (by omega)
  have HS1 := Lib.hid hs1
  have HG := Lib.hid (gb_trans (gb_below (some g) (blAlloc w _)) hg1)
  have hcell : ∀ j, w1.cell? ⟨w.heap.size, j, none⟩ = (w.alloc (.cells #[.string ⟨#[114, 116, 114, 99]⟩, .string ⟨#[103, 116, 114, 99]⟩, .string ⟨#[109, 116, 114, 120]⟩, .string ⟨#[99, 108, 117, 116]⟩, .string ⟨#[100, 101, 115, 99]⟩] 9)).cell? ⟨w.heap.size, j, none⟩ := fun j => gb_cell hg1 (p := ⟨w.heap.size, j, none⟩) (by simp) (by show w.heap.size ≠ g; omega)
  have c0 : w1.cell? ⟨w.heap.size, 0, none⟩ = some (.string ⟨#[114, 116, 114, 99]⟩) := by rw [hcell]; simp
  have c1 : w1.cell? ⟨w.heap.size, 1, none⟩ = some (.string ⟨#[103, 116, 114, 99]⟩) := by rw [hcell]; simp
  have c2 : w1.cell? ⟨w.heap.size, 2, none⟩ = some (.string ⟨#[109, 116, 114, 120]⟩) := by rw [hcell]; simp
  have c3 : w1.cell? ⟨w.heap.size, 3, none⟩ = some (.string ⟨#[99, 108, 117, 116]⟩) := by rw [hcell]; simp
  have c4 : w1.cell? ⟨w.heap.size, 4, none⟩ = some (.string ⟨#[100, 101, 115, 99]⟩) := by rw [hcell]; simp
  clear hs1 hg1 hr1 hcell
  obtain rfl | rfl | rfl | rfl | rfl : r = 0 ∨ r = 1 ∨ r = 2 ∨ r = 3 ∨ r = 4 := by omega
  all_goals
    go_wp2_with fail
    go_ret
    exact ⟨_, rfl, by decide, HS1.out, HG.out⟩
end Go.Proofs.Ytbbghebpmobfnaa
