/-
  A profile in its one form: impl.IsCanonical and the reference model's.
-/
import Derived.Test.YtbbghebpmobfnaaEncC
namespace Go.Proofs.Ytbbghebpmobfnaa
open Go.RowKit
set_option linter.unusedVariables false

def icB (xs : List Int) : Bool := if ppC xs = 0 then sameB (enc (ppK xs) (ppT xs)) xs else false
theorem pp_pf {xs : List Int} (h : ppC xs = 0) : pf (ppK xs) (ppT xs) = 0 := by
  have e1 : ppK xs = xs.getD 4 0 := by unfold ppK; rw [if_pos h]
  have e2 : ppT xs = rdT xs (cntOf xs) := by unfold ppT; rw [if_pos h]
  rw [e1, e2]; exact (pp_zero h).2
set_option maxRecDepth 100000 in
set_option maxHeartbeats 2000000 in
theorem IsCanonical_any (A : Option Addr) (n c : Nat) (xs : List Int) (w : World) (h : Rd .u8 w A n xs) (hx : U8s xs) (hnc : n ≤ c) (hc : c ≤ maxLen) :
    Calls Try.prog 20 #[.slice A n c] w fun e w' => e = .returned (.bool (icB xs)) ∧ Below w.heap.size w w' := by
  have hfd : ∀ a b w, (Instr.field 33 (.agg #[a, b]) 1).run Try.prog w = .ok b w := fun a b w => by kernel_rfl
  have H := Lib.hid h
  have HX := Lib.hid hx
  have HOK := Lib.hid (ppT_small xs hx).2
  clear h hx
  go_enter Try.func20, Try.ntmps20
  go_wp2_with fail
  refine (ParseProfile_any A n c xs _ H.out HX.out hnc hc).mono ?_
  rintro e1 w1 ⟨A1, n1, c1, rfl, ho1, hb1⟩
  by_cases hp : ppC xs = 0
  · have HB : Hid (icB xs = sameB (enc (ppK xs) (ppT xs)) xs) := by show icB xs = _; unfold icB; rw [if_pos hp]
    have HP := Lib.hid (pp_pf hp)
    rw [hp]
    obtain ⟨bs1, hd1⟩ := ho1.hd
    have D1 := Lib.hid hd1
    have R1 := Lib.hid (H.out.below hb1)
    have T1 := Lib.hid hb1
    clear ho1 hb1 hd1 hp H HX
    go_wp2_with fail
    refine (EncodeProfile_any A1 n1 c1 _ (ppT xs) bs1 _ (D1.out.alloc _) HOK.out).mono ?_
    rintro e2 w2 ⟨B2, n2, c2, rfl, ho2, hb2⟩
    rw [HP.out]
    have e2 : enB (ppK xs) (ppT xs) = enc (ppK xs) (ppT xs) := by unfold enB; rw [if_pos HP.out]
    rw [e2] at ho2
    obtain ⟨bs2, hd2⟩ := ho2.hd
    have D2 := Lib.hid hd2.rd
    have R2 := Lib.hid ((R1.out.alloc (.cells #[.int .i64 0, .int .i64 (ppK xs), .slice A1 n1 c1] 29)).below hb2)
    have T2 := Lib.hid (blThen (blThenAlloc T1.out _) hb2)
    clear ho2 hb2 hd2 e2
    go_wp2_with fail
    refine (bytesEqual_any _ _ _ _ _ _ _ xs _ D2.out R2.out).mono ?_
    rintro e3 w3 ⟨rfl, rfl⟩
    go_wp2_with fail
    go_ret
    exact ⟨by rw [HB.out]; rfl, T2.out⟩
  · have HB : Hid (icB xs = false) := by show icB xs = _; unfold icB; rw [if_neg hp]
    have hp0 : (ppC xs == 0) = false := by simpa using hp
    have T1 := Lib.hid hb1
    clear ho1 hb1 hp H HX
    go_wp2_with fail
    go_ret
    exact ⟨by rw [HB.out]; rfl, blThenAlloc T1.out _⟩

set_option maxRecDepth 100000 in
set_option maxHeartbeats 2000000 in
theorem sIsCanonical_any (A : Option Addr) (n c : Nat) (xs : List Int) (w : World) (h : Rd .u8 w A n xs) (hx : U8s xs) (hnc : n ≤ c) (hc : c ≤ maxLen) :
    Calls Try.prog 21 #[.slice A n c] w fun e w' => e = .returned (.bool (icB xs)) ∧ Below w.heap.size w w' := by
  have H := Lib.hid h
  have HX := Lib.hid hx
  clear h hx
  go_enter Try.func21, Try.ntmps21
  go_wp2_with fail
  refine (sParseProfile_any A n c xs _ H.out HX.out hnc hc).mono ?_
  rintro e1 w1 ⟨A1, n1, c1, rfl, ho1, hb1⟩
  by_cases hp : ppC xs = 0
  · have HB : Hid (icB xs = sameB (enc (ppK xs) (ppT xs)) xs) := by show icB xs = _; unfold icB; rw [if_pos hp]
    have HP := Lib.hid (fine_of (pp_pf hp))
    rw [hp]
    obtain ⟨bs1, hd1⟩ := ho1.hd
    have D1 := Lib.hid hd1
    have HL := Lib.hid hd1.tags.1
    have R1 := Lib.hid (H.out.below hb1)
    have T1 := Lib.hid hb1
    clear ho1 hb1 hd1 hp H HX
    have hA1 := run_convert_rd (c := c) ((R1.out.alloc (.cells #[.int .i64 0, .int .i64 (ppK xs), .slice A1 n1 c1] 29)).drewN 1)
    have hA2 : (convert 22 9 (.slice A n c)).run Try.prog (w1.alloc (.cells #[.int .i64 0, .int .i64 (ppK xs), .slice A1 n1 c1] 29)).drew = _ := hA1
    go_wp2_with fail
    go_region_with (go_at_call 54; refine (sEncode1_any w1.heap.size A1 n1 c1 (ppK xs) (ppT xs) bs1 _ ⟨by simp, by simp⟩ ((D1.out.alloc _).drewN 1) HP.out).mono ?_; rintro e w2 ⟨v2, rfl, hown2, hb2⟩; obtain ⟨g2, cap2, rfl, gl2, gu2, gc2, gm2⟩ := hown2.form; have hB2 := run_convert_rd (c := cap2) hown2.rd; have hA3 := run_convert_rd (c := c) (((R1.out.alloc _).drewN 1).below hb2); have T2 := Lib.hid (blThen (blThenDrew (blThenAlloc T1.out _) 1) hb2); clear hb2 hown2)
    all_goals
      clear hA1 hA2 hA3 hB2
      go_wp2_with fail
      go_ret
      refine ⟨?_, T2.out⟩
      rw [HB.out]
      unfold sameB enc
      rw [HL.out, ← str_eqB]
      rfl
  · have HB : Hid (icB xs = false) := by show icB xs = _; unfold icB; rw [if_neg hp]
    have hp0 : (ppC xs == 0) = false := by simpa using hp
    have T1 := Lib.hid hb1
    clear ho1 hb1 hp H HX
    go_wp2_with fail
    go_quiet (fail)
    go_wp2_with fail
    go_ret
    exact ⟨by rw [HB.out]; rfl, blThenDrew (blThenAlloc T1.out _) _⟩
end Go.Proofs.Ytbbghebpmobfnaa
