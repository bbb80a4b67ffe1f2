/-
  A profile read from bytes: the reference model's ParseProfile.
-/
import Derived.Test.YtbbghebpmobfnaaParS2
namespace Go.Proofs.Ytbbghebpmobfnaa
open Go.RowKit
set_option linter.unusedVariables false

set_option maxRecDepth 100000 in
set_option maxHeartbeats 4000000 in
theorem sParseProfile_any (A : Option Addr) (n c : Nat) (xs : List Int) (w : World) (h : Rd .u8 w A n xs) (hx : U8s xs) (hnc : n ≤ c) (hc : c ≤ maxLen) :
    Calls Try.prog 19 #[.slice A n c] w (ParAns w (ppC xs) (ppK xs) (ppT xs)) := by
  have hc' := hc
  unfold maxLen at hc'
  have hl := h.1
  have H := Lib.hid h
  have HX := Lib.hid hx
  clear h hx
  by_cases h1 : 900 < n
  · have hE : rpC xs = 7 := by unfold rpC; rw [if_pos (by omega)]
    have hP : Hid (ppC xs = 7) := by show ppC xs = 7; unfold ppC; rw [if_neg (by rw [hE]; omega), hE]
    clear hE
    go_enter Try.func19, Try.ntmps19
    go_wp2_with fail
    refine bodyPost_ret (v := .agg #[.int .i64 7, .int .i64 0, .slice none 0 0]) (by simp [results, Try.results19, go_sem]) rfl ?_
    exact ParAns.bad hP.out (by omega) (by first | exact set3_below (blAlloc _ _) | exact blAlloc _ _)
  · have HP : Hid (spC xs = ppC xs) := spC_pp (by omega)
    have HPT : Hid (ppC xs = 0 → ppT xs = rdT xs (cntOf xs) ∧ ppK xs = xs.getD 4 0) := fun hh => ⟨by unfold ppT; rw [if_pos hh], by unfold ppK; rw [if_pos hh]⟩
    go_enter Try.func19, Try.ntmps19
    go_wp2_with fail
    refine (sParse_any A n c xs _ (H.out.alloc _) HX.out hnc hc (by omega)).mono ?_
    rintro e1 w1 ⟨k1, A1, n1, c1, rfl, ho1, hb1⟩
    rw [HP.out] at ho1
    rw [HP.out]
    have hs1 := hb1.size
    have hw : w.heap.size < w1.heap.size := by simp at hs1; omega
    obtain ⟨r0, r1, r2⟩ : w1.cell? ⟨w.heap.size, 0, none⟩ = some (.int .i64 0) ∧ w1.cell? ⟨w.heap.size, 1, none⟩ = some (.int .i64 0) ∧ w1.cell? ⟨w.heap.size, 2, none⟩ = some (.slice none 0 0) := by
      refine ⟨?_, ?_, ?_⟩ <;> rw [hb1.cell (by simp)] <;> simp
    obtain ⟨f0, f1, f2⟩ : w1.frozen? ⟨w.heap.size, 0, none⟩ = false ∧ w1.frozen? ⟨w.heap.size, 1, none⟩ = false ∧ w1.frozen? ⟨w.heap.size, 2, none⟩ = false := by
      refine ⟨?_, ?_, ?_⟩ <;> rw [hb1.frozen (by simp)] <;> simp
    have T1 := Lib.hid (blThen (blAlloc w _) hb1)
    by_cases hp : ppC xs = 0
    · obtain ⟨t1, t2⟩ := HPT.out hp
      obtain ⟨rfl, hO⟩ := ho1 hp
      have HT1 := Lib.hid t1
      have HT2 := Lib.hid t2
      have HC := Lib.hid hp
      rw [hp]
      have O1 := Lib.hid hO
      clear hb1 ho1 hp HPT t1 t2 hO HP
      generalize xs.getD 4 0 = y4 at *
      go_wp2_with fail
      refine bodyPost_ret (v := .agg #[.int .i64 0, .int .i64 y4, .slice A1 n1 c1]) (by simp [results, Try.results19, go_sem, r0, r1, r2, hw]) rfl ?_
      rw [HC.out, HT1.out, HT2.out]
      refine ⟨_, _, _, rfl, ?_, (set3_below T1.out).alloc (by simp [World.setCell]; omega) _⟩
      refine Own.mono (lo := w.heap.size + 1) (hi := w1.heap.size) (Own.alloc ?_ _) (by omega) (by simp [World.setCell])
      exact (((O1.out.mono (by simp) (Nat.le_refl _)).set (b := w.heap.size) (.inl (by omega)) _ _).set (b := w.heap.size) (.inl (by omega)) _ _).set (b := w.heap.size) (.inl (by omega)) _ _
    · have hp1 : (ppC xs != 0) = true := by simpa using hp
      have HN := Lib.hid hp
      clear hb1 ho1 hp HPT HP
      go_wp2_with fail
      refine bodyPost_ret (v := .agg #[.int .i64 (ppC xs), .int .i64 0, .slice none 0 0]) (by simp [results, Try.results19, go_sem, r0, r1, r2, hw]) rfl ?_
      exact ParAns.bad rfl HN.out ((set3_below T1.out).alloc (by simp [World.setCell]; omega) _)
end Go.Proofs.Ytbbghebpmobfnaa
