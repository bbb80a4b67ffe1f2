/-
  The laws' helpers over results of bytes: eqBytesResult, markBytesResult, heldBytesResult.
-/
import Derived.Test.YthmgbegbjifngaaTagD
namespace Go.Proofs.Ythmgbegbjifngaa
open Go.RowKit
set_option linter.unusedVariables false

set_option maxHeartbeats 400000 in
theorem eqBytesResult_same (A A' : Option Addr) (n n' c c' : Nat) (k : Int) (xs : List Int) (w : World) (h : Rd .u8 w A n xs) (h' : Rd .u8 w A' n' xs) (hn : n ≤ 1000000000000) :
    Calls Try.prog 61 #[.agg #[.int .i64 k, .slice A n c], .agg #[.int .i64 k, .slice A' n' c']] w fun e w' => e = .returned (.bool true) ∧ Below w.heap.size w w' := by
  obtain rfl := h.len_eq h'
  have H := Lib.hid h
  have H' := Lib.hid h'
  clear h h'
  go_enter Try.func61, Try.ntmps61
  go_wp2_with (go_at_call 66; refine (eqByteS_same _ _ _ _ _ xs _ ((H.out.alloc _).alloc _) ((H'.out.alloc _).alloc _) hn).mono ?_; rintro e w' ⟨rfl, m, rfl⟩)
  go_ret
  exact ⟨rfl, ((blAlloc _ _).alloc (by simp) _).trans (below_drewN _ _ _)⟩
set_option maxHeartbeats 400000 in
theorem markBytesResult_any (A : Option Addr) (n c : Nat) (q k : Int) (xs : List Int) (bs : List Nat) (w : World) (h : Hd w (.ints .u8 xs) (.slice A n c) bs) (hf : ∀ b ∈ bs, Thaw w b) (hn : n ≤ 1000000000000) (h0 : 0 ≤ k) (h1 : k ≤ 1000000000000000) :
    Calls Try.prog 63 #[.agg #[.int .i64 q, .slice A n c], .int .i64 k] w fun e w' => e = .returned (.int .i64 (k + n)) ∧ Hd w' (.ints .u8 (marks k n)) (.slice A n c) bs ∧ Ch w w' (· ∈ bs) := by
  have H := Lib.hid h
  have HF := Lib.hid hf
  clear h hf
  go_enter Try.func63, Try.ntmps63
  go_wp2_with fail
  refine (markByteS_any _ _ _ _ xs bs _ (H.out.alloc _) hn h0 h1 (fun b hb => (HF.out b hb).ch (Ch.of_below (fun _ => False) (blAlloc _ _)) (H.out.lt b hb))).mono ?_
  rintro e w1 ⟨rfl, hd, hch⟩
  have HD := Lib.hid hd
  have HCH := Lib.hid ((Ch.of_below (· ∈ bs) (blAlloc w (.cells #[.int .i64 q, .slice A n c] 33))).trans hch)
  clear hd hch
  go_wp2_with fail
  go_ret
  exact ⟨rfl, HD.out, HCH.out⟩
set_option maxHeartbeats 400000 in
theorem heldBytesResult_any (A : Option Addr) (n c : Nat) (q k : Int) (w : World) (h : Rd .u8 w A n (marks k n)) (hn : n ≤ 1000000000000) (h0 : 0 ≤ k) (h1 : k ≤ 1000000000000000) :
    Calls Try.prog 64 #[.agg #[.int .i64 q, .slice A n c], .int .i64 k] w fun e w' => e = .returned (.int .i64 (k + n)) ∧ Below w.heap.size w w' := by
  have H := Lib.hid h
  clear h
  go_enter Try.func64, Try.ntmps64
  go_wp2_with (go_at_call 117; refine (heldByteS_any _ _ _ _ _ (H.out.alloc _) hn h0 h1).mono ?_; rintro e w' ⟨rfl, rfl⟩)
  go_ret
  exact ⟨rfl, blAlloc _ _⟩
end Go.Proofs.Ythmgbegbjifngaa
