/-
  The helpers over an answer of two lists (CellResult): the same, marks, held.
-/
import Derived.Test.YtmcdbingcclpcaaHelpX
import Derived.Test.YtmcdbingcclpcaaBx
namespace Go.Proofs.Ytmcdbingcclpcaa
open Go.RowKit Go.Maps
set_option linter.unusedVariables false
set_option linter.unusedSimpArgs false

set_option maxHeartbeats 400000 in
theorem eqCellResult_same (A A' C C' : Option Addr) (n n' c c' m m' d d' : Nat) (co : Int) (xs ys : List Int) (w : World) (h : Rd .i64 w A n xs) (h' : Rd .i64 w A' n' xs) (k : Rd .i64 w C m ys) (k' : Rd .i64 w C' m' ys) (hn : n ≤ 1000000000000) (hm : m ≤ 1000000000000) :
    Calls Try.prog 53 #[.agg #[.int .i64 co, .slice A n c, .slice C m d], .agg #[.int .i64 co, .slice A' n' c', .slice C' m' d']] w fun e w' => e = .returned (.bool true) ∧ Below w.heap.size w w' := by
  have H := Lib.hid h
  have H' := Lib.hid h'
  have K := Lib.hid k
  have K' := Lib.hid k'
  clear h h' k k'
  go_enter Try.func53, Try.ntmps53
  go_wp2_with fail
  refine (eqInt64S_same _ _ _ _ _ _ xs _ ((H.out.alloc _).alloc _) ((H'.out.alloc _).alloc _) hn).mono ?_
  rintro e w' ⟨rfl, q, rfl⟩
  go_wp2_with fail
  refine (eqInt64S_same _ _ _ _ _ _ ys _ (((K.out.alloc _).alloc _).below (below_drewN _ _ _)) (((K'.out.alloc _).alloc _).below (below_drewN _ _ _)) hm).mono ?_
  rintro e w' ⟨rfl, q', rfl⟩
  go_wp2_with fail
  go_ret
  exact ⟨rfl, ((blAlloc _ _).alloc (by simp) _).trans (below_drewN _ _ _)⟩
set_option maxHeartbeats 400000 in
theorem markCellResult_any (A C : Option Addr) (n c m d : Nat) (q k : Int) (xs ys : List Int) (bs cs : List Nat) (w : World) (h : Hd w (.ints .i64 xs) (.slice A n c) bs) (j : Hd w (.ints .i64 ys) (.slice C m d) cs) (hf : ∀ b ∈ bs, Thaw w b) (jf : ∀ b ∈ cs, Thaw w b) (hd : ∀ b ∈ bs, b ∉ cs)
    (hn : n ≤ 1000000000000) (hm : m ≤ 1000000000000) (h0 : 0 ≤ k) (h1 : k ≤ 100000000000000) :
    Calls Try.prog 54 #[.agg #[.int .i64 q, .slice A n c, .slice C m d], .int .i64 k] w fun e w' => e = .returned (.int .i64 (k + n + m)) ∧ Hd w' (.ints .i64 (imarks k n)) (.slice A n c) bs ∧ Hd w' (.ints .i64 (imarks (k + n) m)) (.slice C m d) cs ∧ Ch w w' (fun b => b ∈ bs ∨ b ∈ cs) := by
  have H := Lib.hid h
  have HF := Lib.hid hf
  have J := Lib.hid j
  have JF := Lib.hid jf
  have HD := Lib.hid hd
  clear h hf j jf hd
  have HB : Hid (Bx (w.alloc (.cells #[.int .i64 q, .slice A n c, .slice C m d] 71)) w.heap.size [.int .i64 q, .slice A n c, .slice C m d]) := Bx.new _ _ _ rfl
  go_enter Try.func54, Try.ntmps54
  go_wp2_with fail
  refine (markInt64S_any _ _ _ _ xs bs _ (H.out.alloc _) hn h0 (by omega) (fun b hb => (HF.out b hb).ch (Ch.of_below (fun _ => False) (blAlloc _ _)) (H.out.lt b hb))).mono ?_
  rintro e w1 ⟨rfl, hd, hch⟩
  have l0 := HB.out.lt
  have x0 : w1.cell? ⟨w.heap.size, 0, none⟩ = some (.int .i64 q) := by rw [hch.cell l0 (fun hb => absurd (H.out.lt _ hb) (by omega))]; exact HB.out.c 0 rfl
  have x1 : w1.cell? ⟨w.heap.size, 1, none⟩ = some (.slice A n c) := by rw [hch.cell l0 (fun hb => absurd (H.out.lt _ hb) (by omega))]; exact HB.out.c 1 rfl
  have x2 : w1.cell? ⟨w.heap.size, 2, none⟩ = some (.slice C m d) := by rw [hch.cell l0 (fun hb => absurd (H.out.lt _ hb) (by omega))]; exact HB.out.c 2 rfl
  have H1 := Lib.hid hd
  have J1 := Lib.hid ((J.out.alloc (.cells #[.int .i64 q, .slice A n c, .slice C m d] 71)).ch hch (fun b hb hb2 => HD.out b hb2 hb))
  have C1 := Lib.hid ((Ch.of_below (· ∈ bs) (blAlloc w (.cells #[.int .i64 q, .slice A n c, .slice C m d] 71))).trans hch)
  clear hd hch HB l0
  have hneg : ¬ (k + (n : Int)) < 0 := by omega
  go_wp2_with fail
  refine (markInt64S_any _ _ _ _ ys cs _ J1.out hm (by omega) (by omega) (fun b hb => (JF.out b hb).ch C1.out (J.out.lt b hb))).mono ?_
  rintro e w2 ⟨rfl, hd, hch⟩
  have J2 := Lib.hid hd
  have H2 := Lib.hid (H1.out.ch hch (fun b hb hb2 => HD.out b hb hb2))
  have C2 := Lib.hid ((C1.out.mono (Q := fun b => b ∈ bs ∨ b ∈ cs) (fun _ h => .inl h)).trans (hch.mono (fun _ h => .inr h)))
  clear hd hch
  go_wp2_with fail
  go_ret
  exact ⟨rfl, H2.out, J2.out, C2.out⟩
set_option maxHeartbeats 400000 in
theorem heldCellResult_any (A C : Option Addr) (n c m d : Nat) (q k : Int) (w : World) (h : Rd .i64 w A n (imarks k n)) (j : Rd .i64 w C m (imarks (k + n) m)) (hn : n ≤ 1000000000000) (hm : m ≤ 1000000000000) (h0 : 0 ≤ k) (h1 : k ≤ 100000000000000) :
    Calls Try.prog 55 #[.agg #[.int .i64 q, .slice A n c, .slice C m d], .int .i64 k] w fun e w' => e = .returned (.int .i64 (k + n + m)) ∧ Below w.heap.size w w' := by
  have H := Lib.hid h
  have J := Lib.hid j
  clear h j
  go_enter Try.func55, Try.ntmps55
  go_wp2_with fail
  refine (heldInt64S_any _ _ _ _ _ (H.out.alloc _) hn h0 (by omega)).mono ?_
  rintro e w' ⟨rfl, rfl⟩
  have hneg : ¬ (k + (n : Int)) < 0 := by omega
  go_wp2_with fail
  refine (heldInt64S_any _ _ _ _ _ (J.out.alloc _) hm (by omega) (by omega)).mono ?_
  rintro e w' ⟨rfl, rfl⟩
  have hneg2 : ¬ (k + (n : Int) + m) < 0 := by omega
  go_wp2_with fail
  go_ret
  exact ⟨rfl, blAlloc _ _⟩
end Go.Proofs.Ytmcdbingcclpcaa
