/-
  Proved: at every argument the Go function GetFix answers as its reference model does (the law FnExactGetFix returns true), and the arguments read afterwards as they read before. Condition: the package-level variable errors.errorType of Go's library starts as the program's text lays it (the card ties it).
-/
import Derived.Test.YtfheofbgoaggmaaDoorDoor
import Derived.Test.YtfheofbgoaggmaaDoorFixG
namespace Go.Proofs.YtfheofbgoaggmaaDoor.lExactGetFix
open Go.ChangeShapes Go.WideShapes Go.ChangeAt Go.RowKit
set_option linter.unusedVariables false

set_option maxHeartbeats 1000000 in
theorem walk (a0 : Option Addr) (len cap : Nat) (zs : List Int) (a1 : Int) (w : World) (hL : Laid w) (w0 : IsRow .u8 w a0 len cap zs) (w1 : (Lit.int .i64 a1).wf = true) :
    Calls Tryd.prog 10 #[.slice a0 len cap, .int .i64 a1] w fun e w' => e = .returned (.bool true) ∧ Below w.heap.size w w' := by
  obtain ⟨hr, hx, hlc, hcm⟩ := w0.rd
  generalize zs.take len = xs at hr hx
  have hcm' := hcm
  unfold maxLen at hcm'
  have HX := Lib.hid hx
  have HR := Lib.hid hr
  clear w0 w1 hr hx
  by_cases hbig : 1048576 < len
  · clear HR HX
    go_enter Tryd.func10, Tryd.ntmps10
    go_wp2
    go_ret
    exact ⟨rfl, Below.refl _ _⟩
  have hlm : len ≤ maxLen := by unfold maxLen; omega
  have HM := Lib.hid hlm
  clear hlm hcm
  go_enter Tryd.func10, Tryd.ntmps10
  go_wp2_with fail
  refine (toByteS_any _ _ _ xs _ HR.out (by omega)).mono ?_
  rintro e x1 ⟨B1, rfl, r1, n1, b1⟩
  have HR1 := Lib.hid (HR.out.below b1)
  have L1 := Lib.hid (hL.below b1 hL.pos)
  have P1 := Lib.hid r1
  have T1 := Lib.hid b1
  clear r1 n1 b1 HR hL
  go_wp2_with fail
  refine (sGetFix_any _ _ _ xs _ _ P1.out HX.out (Nat.le_refl _) HM.out).mono ?_
  rintro e x2 ⟨rfl, b2⟩
  have HR2 := Lib.hid ((HR1.out.below b2).alloc (.cells #[.int .i64 (gfC xs a1), .int .i64 (gfV xs a1)] 27))
  have L2 := Lib.hid ((L1.out.below b2 L1.out.pos).alloc (.cells #[.int .i64 (gfC xs a1), .int .i64 (gfV xs a1)] 27))
  have T2 := Lib.hid (blThen (blThen T1.out b2) (blAlloc x2 (.cells #[.int .i64 (gfC xs a1), .int .i64 (gfV xs a1)] 27)))
  have X2 := Lib.hid (Box2.new x2 27 (.int .i64 (gfC xs a1)) (.int .i64 (gfV xs a1)))
  clear b2 HR1 L1 P1 T1
  go_wp2_with fail
  refine (toByteS_any _ _ _ xs _ HR2.out (by omega)).mono ?_
  rintro e x3 ⟨B2, rfl, r3, n3, b3⟩
  have HR3 := Lib.hid (HR2.out.below b3)
  have L3 := Lib.hid (L2.out.below b3 L2.out.pos)
  have T3 := Lib.hid (blThen T2.out b3)
  have X3 := Lib.hid (X2.out.below b3)
  have P3 := Lib.hid r3
  clear r3 n3 b3 HR2 L2 T2 X2
  go_wp2_with fail
  refine (GetFix_any _ _ _ xs _ _ L3.out P3.out HX.out (Nat.le_refl _) HM.out).mono ?_
  rintro e x4 ⟨rfl, b4⟩
  have HR4 := Lib.hid ((HR3.out.below b4).alloc (.cells #[.int .i64 (gfC xs a1), .int .i64 (gfV xs a1)] 27))
  have P4 := Lib.hid ((P3.out.below b4).alloc (.cells #[.int .i64 (gfC xs a1), .int .i64 (gfV xs a1)] 27))
  have T4 := Lib.hid (blThen (blThen T3.out b4) (blAlloc x4 (.cells #[.int .i64 (gfC xs a1), .int .i64 (gfV xs a1)] 27)))
  obtain ⟨y0, y1⟩ := (X3.out.below b4).alloc (.cells #[.int .i64 (gfC xs a1), .int .i64 (gfV xs a1)] 27)
  clear b4 HR3 L3 P3 T3 X3
  go_wp2_with fail
  refine (eqInt_same _ _ _).mono ?_
  rintro e x5 ⟨rfl, b5⟩
  have HR5 := Lib.hid (HR4.out.below b5)
  have P5 := Lib.hid (P4.out.below b5)
  have T5 := Lib.hid (blThen T4.out b5)
  clear y0 y1 b5 HR4 P4 T4
  go_wp2_with fail
  refine (toByteS_any _ _ _ xs _ HR5.out (by omega)).mono ?_
  rintro e x6 ⟨B3, rfl, r6, n6, b6⟩
  have P6 := Lib.hid (P5.out.below b6)
  have Q6 := Lib.hid r6
  have T6 := Lib.hid (blThen T5.out b6)
  clear r6 n6 b6 HR5 P5 T5
  go_wp2_with fail
  refine (eqByteS_same _ _ _ _ _ xs _ P6.out Q6.out (by omega)).mono ?_
  rintro e x7 ⟨rfl, m, rfl⟩
  go_wp2_with fail
  go_ret
  exact ⟨rfl, T6.out.trans (below_drewN _ _ _)⟩

set_option maxRecDepth 100000 in
theorem lifted (os : Os) (started : os.Started) (H : Type) (enc : TypeId × Value → H) :
    ReturnsInHanded {} Tryd.checked os 10 .any (fun w args => (Rows.fnExactGetFixSpec.pre enc Tryd.prog Tryd.f10 [] false w args ∧ laidMetH Tryd.prog laidL w) ∧ sizedMet enc Tryd.prog Tryd.f10 (OpenSpec.ofChange Rows.fnExactGetFixSpec) false w args)
      (Rows.fnExactGetFixSpec.post enc Tryd.prog Tryd.f10 false true false false) := by
  refine returnsInHanded_of_change_and (C := Tryd.checked) (X := fun w _ => laidMetH Tryd.prog laidL w) (fun _ _ _ hh h => h.of_heap hh) own started (by kernel_rfl) Tryd.func10
    (ChangeSpec.witness_at (enc := enc) (C := Tryd.checked) (os := os) (X := fun w _ => laidMetH Tryd.prog laidL w) false (laidWorld os) #[.slice none 0 0, .int .i64 0] 8 rfl (by kernel_rfl) (by kernel_rfl) (by kernel_rfl) (by kernel_rfl) (by kernel_rfl) (laidWorld_met os _)) ?_
  intro W base args ds gs before hval0 hW _ _ hL0 _
  have hval : ∀ (j : Nat) t v, Tryd.f10.params[j]? = some t → args[j]? = some v → Value.okWide Tryd.prog W .any base t v := hval0
  have hW' := hW
  obtain ⟨p, q, hA0, hV0, rfl, hfz, hnd⟩ := hW
  have hA : DataW.TrodAll enc Tryd.prog W 0 (fun _ => true) true Tryd.f10.params.toList args.toList ds p := hA0
  have hV : DataW.TrodVars enc Tryd.prog W (fun _ => true) [] gs q := hV0
  rw [Tryd.params10] at hA hval
  obtain ⟨v0, vs0, d0, ds0, p0, q0, hargs, rfl, rfl, h0, r0⟩ := trodAll_cons hA
  obtain ⟨v1, vs1, d1, ds1, p1, q1, rfl, rfl, rfl, h1, r1⟩ := trodAll_cons r0
  obtain ⟨rfl, rfl, rfl⟩ := trodAll_nil r1
  obtain rfl : args = #[v0, v1] := by cases args; simp_all
  obtain ⟨rfl, rfl⟩ : gs = [] ∧ q = [] := by
    cases gs with
    | nil => exact ⟨rfl, hV⟩
    | cons g r => exact absurd hV (by intro h; cases h)
  have k0 := h0
  have lt0 : ∀ x ∈ p0, x.block < W.heap.size := by obtain ⟨m, hm⟩ := k0; exact DataW.trod_lt m _ _ _ hm
  obtain ⟨a0, len0, cap0, rfl⟩ := okWide_slice Tryd.underlying22 (hval 0 22 v0 rfl rfl)
  obtain ⟨z0, w0⟩ : ∃ zs, IsRow .u8 W a0 len0 cap0 zs := by
    obtain ⟨fuel, hf⟩ := h0
    rcases open_ints Tryd.underlying22 Tryd.underlying5 (by kernel_rfl) hf with ⟨hcs, _⟩ | ⟨x, l, c, zs, hcs, _, hl, hm, hz, _, hcell, hwz⟩
    · simp [Value.cells] at hcs
      obtain ⟨rfl, rfl, rfl⟩ := hcs
      exact ⟨[], .inl ⟨rfl, rfl, rfl, rfl⟩⟩
    · simp [Value.cells] at hcs
      obtain ⟨rfl, rfl, rfl⟩ := hcs
      exact ⟨zs, .inr ⟨_, rfl, hl, hm, by simpa using hz, hcell, hwz⟩⟩
  have k1 := h1
  have lt1 : ∀ x ∈ p1, x.block < W.heap.size := by obtain ⟨m, hm⟩ := k1; exact DataW.trod_lt m _ _ _ hm
  obtain ⟨a1, rfl, e1, f1, w1⟩ := open_int Tryd.underlying2 (hval 1 2 v1 rfl rfl) h1
  have hL := Laid.of hL0
  clear hA0 hval0 hL0
  refine (walk a0 len0 cap0 z0 a1 W hL w0 w1).mono fun e W' ⟨he, bel⟩ => ?_
  subst he
  exact ⟨_, rfl, _, _, _, [], _, [], hW', trodAll_mk1 (shut_bool Tryd.underlying4 _), (trodAll_cons_mk (Below.trod laidOut (by kernel_rfl) (of_decide_eq_true (by kernel_rfl)) k0 bel lt0) (trodAll_cons_mk (Below.trod laidOut (by kernel_rfl) (of_decide_eq_true (by kernel_rfl)) k1 bel lt1) trodAll_mk0)), rfl, bel.frame _, fun h => by cases h⟩

theorem row_holds : Rows.FnExactGetFixSaid :=
  OpenClaim.holds_of_wide 10 Tryd.f10 rfl rfl rfl rfl rfl rfl rfl ⟨rfl, rfl, rfl, rfl, rfl⟩ rfl rfl rfl rfl rfl (by kernel_rfl) Tryd.func10 (by kernel_rfl)
    (of_decide_eq_true (by kernel_rfl)) (by unfold Func.isWrapper; rw [if_neg (of_decide_eq_false (by kernel_rfl))]; exact ⟨rfl, rfl⟩)
    (fun os started H enc _ => lifted os started H enc)

theorem proved : Rows.FnExactGetFixCardSaid :=
  Claim7.holds_tied_plain_at .later [] [.handle] true _ true
    row_holds (fun _ h => by cases h) (by kernel_rfl) (fun _ h => by cases h) fnExactGetFix_row_tie rfl ⟨rfl, rfl⟩ (by kernel_rfl) rfl
    (fun f fn hf hfn => by
      obtain rfl : f = 10 := Option.some.inj ((show Tryd.prog.funcNamed Rows.fnExactGetFixRow.func = some 10 by kernel_rfl).symm.trans hf) |>.symm
      obtain rfl : fn = Tryd.f10 := (Option.some.inj (Tryd.func10.symm.trans hfn)).symm
      exact ⟨by kernel_rfl, fun j t ht => by
        rw [Tryd.params10] at ht
        rcases j with _ | _ | j
        · obtain rfl : 22 = t := by simpa using ht
          exact (show Tryd.prog.wantsStandIn 22 = false by kernel_rfl)
        · obtain rfl : 2 = t := by simpa using ht
          exact (show Tryd.prog.wantsStandIn 2 = false by kernel_rfl)
        · simp at ht⟩)
    (by kernel_rfl)
#print axioms proved

end Go.Proofs.YtfheofbgoaggmaaDoor.lExactGetFix
