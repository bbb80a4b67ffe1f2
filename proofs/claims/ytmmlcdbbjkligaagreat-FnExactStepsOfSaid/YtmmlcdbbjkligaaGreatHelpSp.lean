/-
  What the laws do with lists of lists that a result holds: eqStepsResult, markStepsResult, heldStepsResult.
-/
import Derived.Test.YtmmlcdbbjkligaaGreatHelpA
import Derived.Test.YtmmlcdbbjkligaaGreatStvA
namespace Go.Proofs.YtmmlcdbbjkligaaGreat
open Go.RowKit
set_option linter.unusedVariables false
set_option linter.unusedSimpArgs false

set_option maxHeartbeats 400000 in
theorem eqStepsResult_same (A A' : Option Addr) (n n' c c' : Nat) (co : Int) (rs : Rws) (bs bs' : List Nat) (w : World) (h : Hd w (rowsD rs) (.slice A n c) bs) (h' : Hd w (rowsD rs) (.slice A' n' c') bs') (hs : RsSmall rs) :
    Calls Tryz.prog 29 #[.agg #[.int .i64 co, .slice A n c], .agg #[.int .i64 co, .slice A' n' c']] w fun e w' => e = .returned (.bool true) ∧ Below w.heap.size w w' := by
  have H := Lib.hid h
  have H' := Lib.hid h'
  have HS := Lib.hid hs
  clear h h' hs
  go_enter Tryz.func29, Tryz.ntmps29
  go_wp2_with fail
  refine (eqInt64SS_same _ _ _ _ _ _ rs _ _ _ ((H.out.alloc _).alloc _) ((H'.out.alloc _).alloc _) HS.out).mono ?_
  rintro e w1 ⟨rfl, hb⟩
  have T := Lib.hid (blThen (blThenAlloc (blAlloc w (.cells #[.int .i64 co, .slice A n c] 62)) (.cells #[.int .i64 co, .slice A' n' c'] 62)) hb)
  clear hb
  go_wp2_with fail
  go_ret
  exact ⟨rfl, T.out⟩
set_option maxHeartbeats 400000 in
theorem markStepsResult_any (A : Option Addr) (n c k : Nat) (co : Int) (rs : Rws) (bs : List Nat) (w : World) (h : Hd w (rowsD rs) (.slice A n c) bs) (nd : bs.Nodup) (hf : ∀ b ∈ bs, Thaw w b) (hs : RsSmall rs) (hk : k ≤ 8000000000000000000) :
    Calls Tryz.prog 30 #[.agg #[.int .i64 co, .slice A n c], .int .i64 k] w fun e w' => e = .returned (.int .i64 (kR rs k rs.length)) ∧ Hd w' (rowsD (mkRs rs k)) (.slice A n c) bs ∧ Ch w w' (· ∈ bs) := by
  have H := Lib.hid h
  have HS := Lib.hid hs
  have ND := Lib.hid nd
  have HF := Lib.hid hf
  clear h hs nd hf
  go_enter Tryz.func30, Tryz.ntmps30
  go_wp2_with fail
  refine (markInt64SS_any A n c k rs bs _ (H.out.alloc _) ND.out (fun b hb => (HF.out b hb).ch (Ch.of_below (fun _ => False) (blAlloc _ _)) (H.out.lt b hb)) HS.out hk).mono ?_
  rintro e w1 ⟨rfl, hd, hch⟩
  have HD := Lib.hid hd
  have HCH := Lib.hid ((Ch.of_below (· ∈ bs) (blAlloc w (.cells #[.int .i64 co, .slice A n c] 62))).trans hch)
  clear hd hch
  go_wp2_with fail
  go_ret
  exact ⟨rfl, HD.out, HCH.out⟩
set_option maxHeartbeats 400000 in
theorem heldStepsResult_any (A : Option Addr) (n c k : Nat) (co : Int) (rs : Rws) (bs : List Nat) (w : World) (h : Hd w (rowsD (mkRs rs k)) (.slice A n c) bs) (hs : RsSmall rs) (hk : k ≤ 8000000000000000000) :
    Calls Tryz.prog 31 #[.agg #[.int .i64 co, .slice A n c], .int .i64 k] w fun e w' => e = .returned (.int .i64 (kR rs k rs.length)) ∧ Below w.heap.size w w' := by
  have H := Lib.hid h
  have HS := Lib.hid hs
  have hkn : ¬ (kR rs k rs.length : Int) < 0 := by omega
  clear h hs
  go_enter Tryz.func31, Tryz.ntmps31
  go_wp2_with fail
  refine (heldInt64SS_any A n c k rs bs _ (H.out.alloc _) HS.out hk).mono ?_
  rintro e w1 ⟨rfl, rfl⟩
  go_wp2_with fail
  go_ret
  exact ⟨rfl, blAlloc _ _⟩
theorem stL_len (ts : List Stg) (xs : List Int) : (stL ts xs).length ≤ 6 := by
  by_cases h : chC ts xs = 0
  · rw [stL_y h]
    have := (chf_zero (chC_zero h).1).1
    simp [stRs]; omega
  · rw [stL_n h]; simp
theorem stL_small (ts : List Stg) (xs : List Int) : RsSmall (stL ts xs) := by
  refine ⟨by have := stL_len ts xs; omega, fun i hi => ?_⟩
  by_cases h : chC ts xs = 0
  · rw [stL_y h] at hi ⊢
    have e : rw_ (stRs ts xs (ts.length + 1)) i = stR ts xs i := by
      have : i < ts.length + 1 := by simpa [stRs] using hi
      simp [rw_, stRs, List.getD, this]
    rw [e]; simp [stR]
  · rw [stL_n h] at hi
    simp at hi
end Go.Proofs.YtmmlcdbbjkligaaGreat
