/-
  The reference model's EncodeProfile.
-/
import Derived.Test.YtbbghebpmobfnaaEncS
namespace Go.Proofs.Ytbbghebpmobfnaa
open Go.RowKit
set_option linter.unusedVariables false

set_option maxRecDepth 100000 in
set_option maxHeartbeats 1000000 in
theorem sEncodeProfile_any (A : Option Addr) (n c : Nat) (cl : Int) (ts : List Tg) (bs : List Nat) (w : World) (h : Hd w (tagsD ts) (.slice A n c) bs) (hs : TsOk ts) :
    Calls Try.prog 26 #[.agg #[.int .i64 cl, .slice A n c]] w (BytesAns w (pf cl ts) (enB cl ts)) := by
  have HL := Lib.hid h.tags.1
  have H := Lib.hid h
  have HS := Lib.hid hs
  clear h hs
  go_enter Try.func26, Try.ntmps26
  go_wp2_with fail
  refine (sFault_any _ A n c cl ts bs _ ((Box2.new w 27 (.int .i64 cl) (.slice A n c)).alloc _) ((H.out.alloc _).alloc _) HS.out).mono ?_
  rintro e w1 ⟨rfl, m, rfl⟩
  have T1 := Lib.hid (blThenDrew (blThenAlloc (blAlloc w (.cells #[.int .i64 cl, .slice A n c] 27)) (.cells #[.int .i64 0, .slice none 0 0] 33)) m)
  by_cases hp : pf cl ts = 0
  · have HF := Lib.hid (fine_of hp)
    have HP := Lib.hid hp
    have hp' : (pf cl ts != 0) = false := by simpa using hp
    have E2 : Hid (enB cl ts = enc cl ts) := by show enB cl ts = _; unfold enB; rw [if_pos hp]
    have EB : Hid (enc cl ts = bodyAt cl ts n) := by show enc cl ts = _; unfold enc; rw [HL.out]
    clear hp
    go_wp2_with fail
    refine (sEncode_any w.heap.size A n c cl ts bs _ (((Box2.new w 27 (.int .i64 cl) (.slice A n c)).alloc (.cells #[.int .i64 0, .slice none 0 0] 33)).below (below_drewN _ m _)) (((H.out.alloc (.cells #[.int .i64 cl, .slice A n c] 27)).alloc (.cells #[.int .i64 0, .slice none 0 0] 33)).drewN m) HF.out).mono ?_
    rintro e w3 ⟨v3, rfl, hown3, hb3⟩
    obtain ⟨g3, cap3, hv3, gl3, gu3, gc3, gm3⟩ := hown3.form
    subst hv3
    have hz3 := hb3.size
    simp at hz3
    have y0 : w3.cell? ⟨w.heap.size + 1, 0, none⟩ = some (.int .i64 0) := by rw [hb3.cell (p := ⟨w.heap.size + 1, 0, none⟩) (by simp)]; simp
    have y1 : w3.cell? ⟨w.heap.size + 1, 1, none⟩ = some (.slice none 0 0) := by rw [hb3.cell (p := ⟨w.heap.size + 1, 1, none⟩) (by simp)]; simp
    have k0 : w3.frozen? ⟨w.heap.size + 1, 0, none⟩ = false := by rw [hb3.frozen (p := ⟨w.heap.size + 1, 0, none⟩) (by simp)]; simp
    have k1 : w3.frozen? ⟨w.heap.size + 1, 1, none⟩ = false := by rw [hb3.frozen (p := ⟨w.heap.size + 1, 1, none⟩) (by simp)]; simp
    have T3 := Lib.hid (blThen T1.out hb3)
    have O3 := Lib.hid (hown3.own.mono (lo' := w.heap.size + 2) (by simp) (Nat.le_refl _))
    clear hown3 hb3
    go_wp2_with fail
    refine bodyPost_ret (v := .agg #[.int .i64 0, .slice (some ⟨g3, 0, none⟩) (endAt ts n) cap3]) (by simp [results, Try.results26, go_sem, y0, y1]) rfl ?_
    rw [HP.out, E2.out, EB.out]
    exact BytesAns.done O3.out (by omega) (by omega) T3.out
  · have hp' : (pf cl ts != 0) = true := by simpa using hp
    have e2 : enB cl ts = [] := by unfold enB; rw [if_neg hp]
    have E2 := Lib.hid e2
    clear hp e2
    go_wp2_with fail
    refine bodyPost_ret (v := .agg #[.int .i64 (pf cl ts), .slice none 0 0]) (by simp [results, Try.results26, go_sem]) rfl ?_
    exact bytesAns_err E2.out (g := w.heap.size + 1) (by omega) T1.out
end Go.Proofs.Ytbbghebpmobfnaa
