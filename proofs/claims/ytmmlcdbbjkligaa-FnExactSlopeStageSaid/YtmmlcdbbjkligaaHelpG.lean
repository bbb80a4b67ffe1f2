/-
  Grids: the laws' helpers over them (eqGrid .. heldGridResult).
-/
import Derived.Test.YtmmlcdbbjkligaaHelpX
namespace Go.Proofs.Ytmmlcdbbjkligaa
open Go.RowKit
set_option linter.unusedVariables false

set_option maxHeartbeats 400000 in
theorem eqGrid_same (A A' : Option Addr) (n n' c c' : Nat) (rs : Rws) (sd : Int) (bs bs' : List Nat) (w : World) (h : Hd w (rowsD rs) (.slice A n c) bs) (h' : Hd w (rowsD rs) (.slice A' n' c') bs') (hs : RsSmall rs) :
    Calls Try.prog 59 #[.agg #[.int .i64 sd, .slice A n c], .agg #[.int .i64 sd, .slice A' n' c']] w fun e w' => e = .returned (.bool true) ∧ Below w.heap.size w w' := by
  have H := Lib.hid h
  have H' := Lib.hid h'
  have HS := Lib.hid hs
  clear h h' hs
  go_enter Try.func59, Try.ntmps59
  go_wp2_with fail
  refine (eqInt64SS_same _ _ _ _ _ _ rs _ _ _ ((H.out.alloc _).alloc _) ((H'.out.alloc _).alloc _) HS.out).mono ?_
  rintro e w1 ⟨rfl, hb⟩
  have T := Lib.hid (blThen (blThenAlloc (blAlloc w (.cells #[.int .i64 sd, .slice A n c] 37)) (.cells #[.int .i64 sd, .slice A' n' c'] 37)) hb)
  clear hb
  go_wp2_with fail
  go_ret
  exact ⟨rfl, T.out⟩
set_option maxHeartbeats 400000 in
theorem szGrid_any (A : Option Addr) (n c : Nat) (rs : Rws) (sd : Int) (bs : List Nat) (l : Int) (w : World) (h : Hd w (rowsD rs) (.slice A n c) bs) (h0 : 0 ≤ l) (h1 : l ≤ 1048576) :
    Calls Try.prog 49 #[.agg #[.int .i64 sd, .slice A n c], .int .i64 l] w (Left w (RsSmall rs) l) := by
  have H := Lib.hid h
  clear h
  go_enter Try.func49, Try.ntmps49
  go_wp2_with fail
  refine (szInt64SS_any A n c rs bs l _ (H.out.alloc _) h0 h1).mono ?_
  rintro e w1 ⟨r, rfl, h2, h3, h4, hb⟩
  have T := Lib.hid (blThen (blAlloc w (.cells #[.int .i64 sd, .slice A n c] 27)) hb)
  have H4 := Lib.hid h4
  clear hb h4
  by_cases hr : r < 0
  · go_wp2_with fail
    go_ret
    exact ⟨-1, rfl, by omega, by omega, by omega, T.out⟩
  · go_wp2_with fail
    go_ret
    exact ⟨r, rfl, by omega, by omega, fun _ => H4.out (by omega), T.out⟩

set_option maxHeartbeats 400000 in
theorem toGrid_any (A : Option Addr) (n c : Nat) (rs : Rws) (sd : Int) (bs : List Nat) (w : World) (h : Hd w (rowsD rs) (.slice A n c) bs) (hs : RsSmall rs) :
    Calls Try.prog 55 #[.agg #[.int .i64 sd, .slice A n c]] w fun e w' => ∃ B, e = .returned (.agg #[.int .i64 sd, .slice B n n]) ∧ Own w' (rowsD rs) (.slice B n n) w.heap.size w'.heap.size ∧ Below w.heap.size w w' := by
  have H := Lib.hid h
  have HS := Lib.hid hs
  clear h hs
  go_enter Try.func55, Try.ntmps55
  go_wp2_with fail
  refine (toInt64SS_any _ _ _ rs bs _ (((H.out.alloc _).alloc _).alloc _) HS.out).mono ?_
  rintro e w1 ⟨B, rfl, ho, hb⟩
  obtain ⟨hc, hf⟩ := bcell hb
  have hz : w.heap.size + 2 < w1.heap.size := by have := hb.size; simp at this; omega
  have HO := Lib.hid ho
  have T := Lib.hid (blThen (blThenAlloc (blThenAlloc (blAlloc w _) _) _) hb)
  clear ho hb
  go_wp2_with fail
  refine bodyPost_ret (v := .agg #[.int .i64 sd, .slice B n n]) (by simp [results, Try.results55, go_sem, hc]) rfl ⟨B, rfl, ?_, ?_⟩
  · refine Own.mono (lo := w.heap.size + 3) (hi := w1.heap.size) ?_ (by omega) (by simp [World.setCell])
    repeat (first | exact (HO.out.mono (by simp) (Nat.le_refl _)) | refine Own.set ?_ (.inl (by omega)) _ _)
  · repeat (first | exact T.out | refine Below.setCell ?_ (by simp; try omega) _)

set_option maxHeartbeats 400000 in
theorem markGrid_any (A : Option Addr) (n c k : Nat) (rs : Rws) (sd : Int) (bs : List Nat) (w : World) (h : Hd w (rowsD rs) (.slice A n c) bs) (nd : bs.Nodup) (hf : ∀ b ∈ bs, Thaw w b) (hs : RsSmall rs) (hk : k ≤ 10000000000000) :
    Calls Try.prog 62 #[.agg #[.int .i64 sd, .slice A n c], .int .i64 k] w fun e w' => e = .returned (.int .i64 (kR rs k rs.length)) ∧ Hd w' (rowsD (mkRs rs k)) (.slice A n c) bs ∧ Ch w w' (· ∈ bs) := by
  have H := Lib.hid h
  have HS := Lib.hid hs
  have ND := Lib.hid nd
  have HF := Lib.hid hf
  clear h hs nd hf
  go_enter Try.func62, Try.ntmps62
  go_wp2_with fail
  refine (markInt64SS_any A n c k rs bs _ (H.out.alloc _) ND.out (fun b hb => (HF.out b hb).ch (Ch.of_below (fun _ => False) (blAlloc _ _)) (H.out.lt b hb)) HS.out hk).mono ?_
  rintro e w1 ⟨rfl, hd, hch⟩
  have HD := Lib.hid hd
  have HCH := Lib.hid ((Ch.of_below (· ∈ bs) (blAlloc w (.cells #[.int .i64 sd, .slice A n c] 37))).trans hch)
  clear hd hch
  go_wp2_with fail
  go_ret
  exact ⟨rfl, HD.out, HCH.out⟩
end Go.Proofs.Ytmmlcdbbjkligaa
