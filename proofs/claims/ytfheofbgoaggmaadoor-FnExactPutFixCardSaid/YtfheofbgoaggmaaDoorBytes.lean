/-
  Slices of bytes in memory, and the contracts of the laws' helpers over them: eqByteS (two lists that are alike), markByteS (marks are written), heldByteS (marks are still there).
-/
import Derived.Test.YtfheofbgoaggmaaDoorFixA
namespace Go.Proofs.YtfheofbgoaggmaaDoor
open Go.RowKit
set_option linter.unusedVariables false

/-- The slice '.slice A n c' reads as the numbers xs. -/
def Rd (k : IntKind) (w : World) (A : Option Addr) (n : Nat) (xs : List Int) : Prop :=
  xs.length = n ∧ (0 < n → ∃ b o, A = some ⟨b, o, none⟩ ∧ ∀ i, i < n → w.cell? ⟨b, o + i, none⟩ = some (.int k (xs.getD i 0)))

theorem cell_lt {w : World} {b o : Nat} {v : Value} (h : w.cell? ⟨b, o, none⟩ = some v) : b < w.heap.size := by
  rcases Nat.lt_or_ge b w.heap.size with h1 | h1
  · exact h1
  · simp [World.cell?, Array.getElem?_eq_none h1] at h
theorem Rd.nil {k : IntKind} {w : World} {A : Option Addr} : Rd k w A 0 [] := ⟨rfl, fun h => absurd h (by omega)⟩
theorem Rd.keep {k : IntKind} {w w' : World} {A : Option Addr} {n : Nat} {xs : List Int} (h : Rd k w A n xs)
    (hk : 0 < n → ∀ b o, A = some ⟨b, o, none⟩ → b < w.heap.size → ∀ i, w'.cell? ⟨b, i, none⟩ = w.cell? ⟨b, i, none⟩) : Rd k w' A n xs :=
  ⟨h.1, fun hn => by
    obtain ⟨b, o, e, hc⟩ := h.2 hn
    exact ⟨b, o, e, fun i hi => by rw [hk hn b o e (cell_lt (hc 0 hn))]; exact hc i hi⟩⟩
theorem Rd.below {k : IntKind} {w w' : World} {A : Option Addr} {n : Nat} {xs : List Int} (h : Rd k w A n xs) (hb : Below w.heap.size w w') : Rd k w' A n xs :=
  h.keep fun _ b o _ hlt i => hb.cell (p := ⟨b, i, none⟩) hlt
theorem Rd.drewN {k : IntKind} {w : World} {A : Option Addr} {n : Nat} {xs : List Int} (h : Rd k w A n xs) (m : Nat) : Rd k (w.drewN m) A n xs := h.below (below_drewN _ _ _)
theorem Rd.alloc {k : IntKind} {w : World} {A : Option Addr} {n : Nat} {xs : List Int} (h : Rd k w A n xs) (o : Obj) : Rd k (w.alloc o) A n xs := h.below (blAlloc _ _)

set_option maxHeartbeats 400000 in
theorem eqByteS_same (A A' : Option Addr) (n c c' : Nat) (xs : List Int) (w : World) (h : Rd .u8 w A n xs) (h' : Rd .u8 w A' n xs) (hn : n ≤ 1000000000000) :
    Calls Tryd.prog 38 #[.slice A n c, .slice A' n c'] w fun e w' => e = .returned (.bool true) ∧ ∃ m, w' = w.drewN m := by
  have H : Hid (Rd .u8 w A n xs) := h
  have H' : Hid (Rd .u8 w A' n xs) := h'
  clear h h'
  go_enter Tryd.func38, Tryd.ntmps38
  go_wp2
  go_loopw [5] (fun i wr => ∃ k m : Nat, k ≤ n ∧ i = .int .i64 k ∧ wr = w.drewN m) (fun i _ => n - (intOf i).toNat)
  case atStart => exact ⟨0, 0, by omega, rfl, rfl⟩
  case round =>
    obtain ⟨k, m, hk, rfl, rfl⟩ := hrel
    by_cases hlt : k < n
    · obtain ⟨b, o, rfl, hc⟩ := H.out.2 (by omega)
      obtain ⟨b', o', rfl, hc'⟩ := H'.out.2 (by omega)
      have c1 := hc k hlt
      have c2 := hc' k hlt
      clear hc hc'
      go_wp2_with fail
      go_quiet (fail)
      go_wp2_with fail
      go_roundw
      case rel => exact ⟨k + 1, _, by omega, by go_num, rfl⟩
      case measure => simp [intOf]; omega
    · go_wp2
      go_ret
      exact ⟨rfl, _, rfl⟩

/-- Only the block of A has turned, and in it no mark of freezing. -/
def Only (w w' : World) (A : Option Addr) : Prop :=
  w'.os = w.os ∧ w'.tape = w.tape ∧ w'.output = w.output ∧ w'.heap.size = w.heap.size ∧ (∀ g, (∀ a, A = some a → a.block ≠ g) → w'.heap[g]? = w.heap[g]?) ∧ ∀ a, w'.frozen? a = w.frozen? a
theorem Only.refl (w : World) (A : Option Addr) : Only w w A := ⟨rfl, rfl, rfl, rfl, fun _ _ => rfl, fun _ => rfl⟩
theorem Only.setCell {w w' : World} {b o : Nat} (h : Only w w' (some ⟨b, o, none⟩)) (j : Nat) (v : Value) : Only w (w'.setCell ⟨b, j, none⟩ v) (some ⟨b, o, none⟩) := by
  obtain ⟨h1, h2, h3, h4, h5, h6⟩ := h
  refine ⟨h1, h2, h3, ?_, fun g hg => ?_, fun a => ?_⟩
  · rw [← h4]; simp [World.setCell]
  · rw [Below.heap_setCell w' ⟨b, j, none⟩ v g (fun e => hg ⟨b, o, none⟩ rfl e.symm)]; exact h5 g hg
  · rw [← h6 a]; simp
theorem Only.below {w w' : World} {A : Option Addr} {B : Nat} (h : Only w w' A) (hB : ∀ a, A = some a → B ≤ a.block) : Below B w w' :=
  ⟨h.1, h.2.1, h.2.2.1, Nat.le_of_eq h.2.2.2.1.symm, fun g hg => h.2.2.2.2.1 g (fun a e => by have := hB a e; omega)⟩
def mark (k : Int) (j : Nat) : Int := (k + j) % 256
def marks (k : Int) (n : Nat) : List Int := (List.range n).map (mark k)
theorem marks_get {k : Int} {n i : Nat} (h : i < n) : (marks k n).getD i 0 = mark k i := by
  unfold marks; simp [List.getD, h]

set_option maxHeartbeats 400000 in
theorem markByteS_any (A : Option Addr) (n c : Nat) (k : Int) (xs : List Int) (w : World) (h : Rd .u8 w A n xs) (hn : n ≤ 1000000000000) (h0 : 0 ≤ k) (h1 : k ≤ 1000000000000)
    (hf : ∀ b o, A = some ⟨b, o, none⟩ → ∀ i, i < n → w.frozen? ⟨b, o + i, none⟩ = false) :
    Calls Tryd.prog 60 #[.slice A n c, .int .i64 k] w fun e w' => e = .returned (.int .i64 (k + n)) ∧ Rd .u8 w' A n (marks k n) ∧ Only w w' A := by
  rcases Nat.eq_zero_or_pos n with rfl | hp
  · clear h hf
    go_enter Tryd.func60, Tryd.ntmps60
    go_wp2
    refine wp_loop_rounds 1 ?_
    rw [rounds_succ]
    go_wp2
    go_ret
    exact ⟨ret_int (by omega), Rd.nil, Only.refl _ _⟩
  obtain ⟨b, o, rfl, hc⟩ := h.2 hp
  have hf' := hf b o rfl
  have HC : Hid (∀ i, i < n → w.cell? ⟨b, o + i, none⟩ = some (.int .u8 (xs.getD i 0))) := hc
  have HF : Hid (∀ i, i < n → w.frozen? ⟨b, o + i, none⟩ = false) := hf'
  clear h hc hf hf'
  go_enter Tryd.func60, Tryd.ntmps60
  go_wp2
  go_loopw [1, 5] (fun q i wr => ∃ j : Nat, j ≤ n ∧ i = .int .i64 j ∧ q = .int .i64 (k + j) ∧ (∀ t, t < n → wr.cell? ⟨b, o + t, none⟩ = some (.int .u8 (if t < j then mark k t else xs.getD t 0))) ∧ Only w wr (some ⟨b, o, none⟩)) (fun _ i _ => n - (intOf i).toNat)
  case atStart => exact ⟨0, by omega, rfl, by simp, fun t ht => by simpa using HC.out t ht, Only.refl _ _⟩
  case round =>
    obtain ⟨j, hj, rfl, rfl, hcell, honly⟩ := hrel
    by_cases hlt : j < n
    · have c1 := hcell j hlt
      have f1 : wr.frozen? ⟨b, o + j, none⟩ = false := by rw [honly.2.2.2.2.2]; exact HF.out j hlt
      have HCell : Hid (∀ t, t < n → wr.cell? ⟨b, o + t, none⟩ = some (.int .u8 (if t < j then mark k t else xs.getD t 0))) := hcell
      have HOnly := Lib.hid honly
      clear hcell honly
      go_wp2_with fail
      go_roundw
      case rel =>
        refine ⟨j + 1, by omega, by go_num, by go_num, fun t ht => ?_, HOnly.out.setCell _ _⟩
        by_cases e : t = j
        · subst e
          rw [if_pos (by omega)]
          rw [World.cell?_setCell_same' wr _ _ (by rw [c1]; rfl)]
          rfl
        · rw [World.cell?_setCell_other _ _ _ _ (by simp; try omega), HCell.out t ht]
          by_cases h2 : t < j
          · rw [if_pos h2, if_pos (by omega)]
          · rw [if_neg h2, if_neg (by omega)]
      case measure => simp [intOf]; omega
    · obtain rfl : j = n := by omega
      have HCell : Hid (∀ t, t < j → wr.cell? ⟨b, o + t, none⟩ = some (.int .u8 (if t < j then mark k t else xs.getD t 0))) := hcell
      have HOnly := Lib.hid honly
      clear hcell honly
      go_wp2
      go_ret
      refine ⟨rfl, ⟨by simp [marks], fun _ => ⟨b, o, rfl, fun i hi => ?_⟩⟩, HOnly.out⟩
      rw [HCell.out i hi, if_pos hi, marks_get hi]
set_option maxHeartbeats 400000 in
theorem heldByteS_any (A : Option Addr) (n c : Nat) (k : Int) (w : World) (h : Rd .u8 w A n (marks k n)) (hn : n ≤ 1000000000000) (h0 : 0 ≤ k) (h1 : k ≤ 1000000000000) :
    Calls Tryd.prog 61 #[.slice A n c, .int .i64 k] w fun e w' => e = .returned (.int .i64 (k + n)) ∧ w = w' := by
  have H := Lib.hid h
  clear h
  go_enter Tryd.func61, Tryd.ntmps61
  go_wp2
  go_loop [1, 5] (fun q i => ∃ j : Nat, j ≤ n ∧ i = .int .i64 j ∧ q = .int .i64 (k + j)) (fun _ i => n - (intOf i).toNat)
  case atStart => exact ⟨0, by omega, rfl, by simp⟩
  case round =>
    obtain ⟨j, hj, rfl, rfl⟩ := hrel
    by_cases hlt : j < n
    · obtain ⟨b, o, rfl, hc⟩ := H.out.2 (by omega)
      have c1 := hc j hlt
      rw [marks_get hlt] at c1
      unfold mark at c1
      clear hc
      go_wp2_with fail
      go_round
      case rel => exact ⟨j + 1, by omega, by go_num, by go_num⟩
      case measure => simp [intOf]; omega
    · obtain rfl : j = n := by omega
      go_wp2
      go_ret
      exact ⟨rfl, rfl⟩
end Go.Proofs.YtfheofbgoaggmaaDoor
