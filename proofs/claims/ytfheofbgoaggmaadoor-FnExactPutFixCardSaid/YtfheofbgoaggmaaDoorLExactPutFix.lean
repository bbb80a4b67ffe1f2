/-
  Proved: at every argument the Go function PutFix answers as its reference model does, in new memory that it shares with nothing (the law FnExactPutFix returns true), and the argument reads afterwards as it read before. Condition: the package-level variable errors.errorType of Go's library starts as the program's text lays it (the card ties it).
-/
import Derived.Test.YtfheofbgoaggmaaDoorDoor
import Derived.Test.YtfheofbgoaggmaaDoorFixP
namespace Go.Proofs.YtfheofbgoaggmaaDoor.lExactPutFix
open Go.ChangeShapes Go.WideShapes Go.ChangeAt Go.RowKit
set_option linter.unusedVariables false

theorem pfB_len (v : Int) : (pfB v).length ≤ 4 := by
  unfold pfB pb; split <;> simp

set_option maxHeartbeats 1000000 in
theorem walk (a0 : Int) (w : World) (hL : Laid w) (w0 : (Lit.int .i64 a0).wf = true) : Calls Tryd.prog 9 #[.int .i64 a0] w fun e w' => e = .returned (.bool true) ∧ Below w.heap.size w w' := by
  clear w0
  have hlen := pfB_len a0
  go_enter Tryd.func9, Tryd.ntmps9
  go_wp2_with fail
  refine (sPutFix_any a0 _).mono ?_
  rintro e w1 ⟨A0, n0, c0, rfl, hr0, hn0, hb1, _⟩
  have hL1 := (hL.below hb1 hL.pos).alloc (.cells #[.int .i64 (pfC a0), .slice A0 n0 c0] 33)
  have R0 := Lib.hid (hr0.alloc (.cells #[.int .i64 (pfC a0), .slice A0 n0 c0] 33))
  have NN := Lib.hid hr0.1
  have hn4 : n0 ≤ 4 := by have := hr0.1; omega
  have lt0 := Lib.hid hn0.lt
  have S1 := hb1.size
  have P := hL.pos
  have T := Lib.hid (blThen hb1 (blAlloc w1 (.cells #[.int .i64 (pfC a0), .slice A0 n0 c0] 33)))
  have X0 := Lib.hid (Box2.new w1 33 (.int .i64 (pfC a0)) (.slice A0 n0 c0))
  clear hr0 hn0 hlen hb1 hL
  go_wp2_with fail
  refine (PutFix_any a0 _ hL1).mono ?_
  rintro e w2 ⟨A1, n1, c1, rfl, hr1, hn1, hb2, _⟩
  obtain rfl : n0 = n1 := NN.out.symm.trans hr1.1
  have S2 : w1.heap.size < w2.heap.size := by have := hb2.size; simp at this; omega
  have hL2 := (hL1.below hb2 hL1.pos).alloc (.cells #[.int .i64 (pfC a0), .slice A1 n0 c1] 33)
  have R0b := Lib.hid ((R0.out.below hb2).alloc (.cells #[.int .i64 (pfC a0), .slice A1 n0 c1] 33))
  have R1 := Lib.hid (hr1.alloc (.cells #[.int .i64 (pfC a0), .slice A1 n0 c1] 33))
  have N1 := Lib.hid (hn1.alloc (.cells #[.int .i64 (pfC a0), .slice A1 n0 c1] 33))
  have lt1 := Lib.hid hn1.lt
  have T2 := Lib.hid (blThen (blThen T.out hb2) (blAlloc w2 (.cells #[.int .i64 (pfC a0), .slice A1 n0 c1] 33)))
  have X0b := (X0.out.below hb2).alloc (.cells #[.int .i64 (pfC a0), .slice A1 n0 c1] 33)
  have X1 := Box2.new w2 33 (.int .i64 (pfC a0)) (.slice A1 n0 c1)
  have X0h := Lib.hid X0b
  have X1h := Lib.hid X1
  obtain ⟨x1, x2⟩ := X0b
  obtain ⟨x3, x4⟩ := X1
  clear hr1 hn1 hL1 R0 hb2 X0 T
  go_wp2_with fail
  refine (eqBytes_same _ _ _ _ _ _ (pfB a0) _ R1.out R0b.out (by omega)).mono ?_
  rintro e w3 ⟨rfl, hb3⟩
  clear x1 x2 x3 x4
  have S3 : w2.heap.size < w3.heap.size := by have := hb3.size; simp at this; omega
  have L3 := Lib.hid (hL2.below hb3 hL2.pos)
  have R0c := Lib.hid (R0b.out.below hb3)
  have R1c := Lib.hid (R1.out.below hb3)
  have N1c := Lib.hid (N1.out.below hb3)
  have T3 := Lib.hid (blThen T2.out hb3)
  have X0c := Lib.hid (X0h.out.below hb3)
  have X1c := X1h.out.below hb3
  have X1ch := Lib.hid X1c
  obtain ⟨x3, x4⟩ := X1c
  clear hb3 hL2 R0b R1 N1 T2 X0h X1h
  go_wp2_with fail
  refine (markBytes_any _ _ _ _ 1 (pfB a0) _ R1c.out (by omega) (by omega) (by omega) N1c.out.thaw).mono ?_
  rintro e w4 ⟨rfl, hr4, W, hbW, hSW, ho⟩
  clear x3 x4
  have ne0 : ∀ a a', A0 = some a → A1 = some a' → a'.block ≠ a.block := fun a a' e e' => by
    have := lt0.out a e; have := N1c.out.ge a' e'; simp at this; omega
  have neX0 : ∀ a, A1 = some a → a.block ≠ w1.heap.size := fun a e => by have := N1c.out.ge a e; simp at this; omega
  have neX1 : ∀ a, A1 = some a → a.block ≠ w2.heap.size := fun a e => by have := lt1.out a e; omega
  have L4 := (L3.out.below hbW L3.out.pos).only ho (fun a e => by have := N1c.out.ge a e; simp at this; omega)
  have R0d := Lib.hid ((R0c.out.below hbW).only ho ne0)
  have R1d := Lib.hid hr4
  have T4 := Lib.hid (ho.after (blThen T3.out hbW) (fun a e => by have := N1c.out.ge a e; simp at this; omega))
  have X0d := Lib.hid ((X0c.out.below hbW).only ho neX0)
  have X1d := (X1ch.out.below hbW).only ho neX1
  have X1dh := Lib.hid X1d
  obtain ⟨x3, x4⟩ := X1d
  clear hr4 hbW hSW ho ne0 neX0 neX1 L3 R0c R1c N1c T3 X0c X1ch lt0 lt1
  go_wp2_with fail
  refine (heldBytes_any _ _ _ _ 1 _ R1d.out (by omega) (by omega) (by omega)).mono ?_
  rintro e w5 ⟨rfl, hb5⟩
  clear x3 x4
  have hL5 := L4.below hb5 L4.pos
  have R0e := Lib.hid (R0d.out.below hb5)
  have R1e := Lib.hid (R1d.out.below hb5)
  have T5 := Lib.hid (blThen T4.out hb5)
  have X0e := Lib.hid (X0d.out.below hb5)
  have X1e := Lib.hid (X1dh.out.below hb5)
  clear hb5 L4 R0d R1d T4 X0d X1dh
  go_wp2_with fail
  refine (PutFix_any a0 _ hL5).mono ?_
  rintro e w6 ⟨A2, n2, c2, rfl, hr2, hn2, hb6, _⟩
  obtain rfl : n0 = n2 := NN.out.symm.trans hr2.1
  have R0f := Lib.hid ((R0e.out.below hb6).alloc (.cells #[.int .i64 (pfC a0), .slice A2 n0 c2] 33))
  have R1f := Lib.hid ((R1e.out.below hb6).alloc (.cells #[.int .i64 (pfC a0), .slice A2 n0 c2] 33))
  have R2 := Lib.hid (hr2.alloc (.cells #[.int .i64 (pfC a0), .slice A2 n0 c2] 33))
  have T6 := Lib.hid (blThen (blThen T5.out hb6) (blAlloc w6 (.cells #[.int .i64 (pfC a0), .slice A2 n0 c2] 33)))
  have X0f := (X0e.out.below hb6).alloc (.cells #[.int .i64 (pfC a0), .slice A2 n0 c2] 33)
  have X1f := Lib.hid ((X1e.out.below hb6).alloc (.cells #[.int .i64 (pfC a0), .slice A2 n0 c2] 33))
  obtain ⟨x1, x2⟩ := X0f
  clear hr2 hn2 hb6 hL5 R0e R1e T5 X0e X1e
  go_wp2_with fail
  refine (eqBytes_same _ _ _ _ _ _ (pfB a0) _ R2.out R0f.out (by omega)).mono ?_
  rintro e w7 ⟨rfl, hb7⟩
  clear x1 x2
  have R1g := Lib.hid (R1f.out.below hb7)
  have T7 := Lib.hid (blThen T6.out hb7)
  have X1g := X1f.out.below hb7
  obtain ⟨x3, x4⟩ := X1g
  clear hb7 R0f R1f R2 T6 X1f
  go_wp2_with fail
  refine (heldBytes_any _ _ _ _ 1 _ R1g.out (by omega) (by omega) (by omega)).mono ?_
  rintro e w8 ⟨rfl, hb8⟩
  clear x3 x4
  have T8 := Lib.hid (blThen T7.out hb8)
  clear hb8 R1g T7
  go_wp2_with fail
  go_ret
  exact ⟨rfl, T8.out⟩

set_option maxRecDepth 100000 in
theorem lifted (os : Os) (started : os.Started) (H : Type) (enc : TypeId × Value → H) :
    ReturnsInHanded {} Tryd.checked os 9 .any (fun w args => (Rows.fnExactPutFixSpec.pre enc Tryd.prog Tryd.f9 [] false w args ∧ laidMetH Tryd.prog laidL w) ∧ sizedMet enc Tryd.prog Tryd.f9 (OpenSpec.ofChange Rows.fnExactPutFixSpec) false w args)
      (Rows.fnExactPutFixSpec.post enc Tryd.prog Tryd.f9 false true false false) := by
  refine returnsInHanded_of_change_and (C := Tryd.checked) (X := fun w _ => laidMetH Tryd.prog laidL w) (fun _ _ _ hh h => h.of_heap hh) own started (by kernel_rfl) Tryd.func9
    (ChangeSpec.witness_at (enc := enc) (C := Tryd.checked) (os := os) (X := fun w _ => laidMetH Tryd.prog laidL w) false (laidWorld os) #[.int .i64 0] 8 rfl (by kernel_rfl) (by kernel_rfl) (by kernel_rfl) (by kernel_rfl) (by kernel_rfl) (laidWorld_met os _)) ?_
  intro W base args ds gs before hval0 hW _ _ hL0 _
  have hval : ∀ (j : Nat) t v, Tryd.f9.params[j]? = some t → args[j]? = some v → Value.okWide Tryd.prog W .any base t v := hval0
  have hW' := hW
  obtain ⟨p, q, hA0, hV0, rfl, hfz, hnd⟩ := hW
  have hA : DataW.TrodAll enc Tryd.prog W 0 (fun _ => true) true Tryd.f9.params.toList args.toList ds p := hA0
  have hV : DataW.TrodVars enc Tryd.prog W (fun _ => true) [] gs q := hV0
  rw [Tryd.params9] at hA hval
  obtain ⟨v0, vs0, d0, ds0, p0, q0, hargs, rfl, rfl, h0, r0⟩ := trodAll_cons hA
  obtain ⟨rfl, rfl, rfl⟩ := trodAll_nil r0
  obtain rfl : args = #[v0] := by cases args; simp_all
  obtain ⟨rfl, rfl⟩ : gs = [] ∧ q = [] := by
    cases gs with
    | nil => exact ⟨rfl, hV⟩
    | cons g r => exact absurd hV (by intro h; cases h)
  have k0 := h0
  have lt0 : ∀ x ∈ p0, x.block < W.heap.size := by obtain ⟨m, hm⟩ := k0; exact DataW.trod_lt m _ _ _ hm
  obtain ⟨a0, rfl, e0, f0, w0⟩ := open_int Tryd.underlying2 (hval 0 2 v0 rfl rfl) h0
  have hL := Laid.of hL0
  clear hA0 hval0 hL0
  refine (walk a0 W hL w0).mono fun e W' ⟨he, bel⟩ => ?_
  subst he
  exact ⟨_, rfl, _, _, _, [], _, [], hW', trodAll_mk1 (shut_bool Tryd.underlying4 _), (trodAll_cons_mk (Below.trod laidOut (by kernel_rfl) (of_decide_eq_true (by kernel_rfl)) k0 bel lt0) trodAll_mk0), rfl, bel.frame _, fun h => by cases h⟩

theorem row_holds : Rows.FnExactPutFixSaid :=
  OpenClaim.holds_of_wide 9 Tryd.f9 rfl rfl rfl rfl rfl rfl rfl ⟨rfl, rfl, rfl, rfl, rfl⟩ rfl rfl rfl rfl rfl (by kernel_rfl) Tryd.func9 (by kernel_rfl)
    (of_decide_eq_true (by kernel_rfl)) (by unfold Func.isWrapper; rw [if_neg (of_decide_eq_false (by kernel_rfl))]; exact ⟨rfl, rfl⟩)
    (fun os started H enc _ => lifted os started H enc)

theorem proved : Rows.FnExactPutFixCardSaid :=
  Claim7.holds_tied_plain_at .later [] [.handle] true _ true
    row_holds (fun _ h => by cases h) (by kernel_rfl) (fun _ h => by cases h) fnExactPutFix_row_tie rfl ⟨rfl, rfl⟩ (by kernel_rfl) rfl
    (fun f fn hf hfn => by
      obtain rfl : f = 9 := Option.some.inj ((show Tryd.prog.funcNamed Rows.fnExactPutFixRow.func = some 9 by kernel_rfl).symm.trans hf) |>.symm
      obtain rfl : fn = Tryd.f9 := (Option.some.inj (Tryd.func9.symm.trans hfn)).symm
      exact ⟨by kernel_rfl, fun j t ht => by
        rw [Tryd.params9] at ht
        rcases j with _ | j
        · obtain rfl : 2 = t := by simpa using ht
          exact (show Tryd.prog.wantsStandIn 2 = false by kernel_rfl)
        · simp at ht⟩)
    (by kernel_rfl)
#print axioms proved

end Go.Proofs.YtfheofbgoaggmaaDoor.lExactPutFix
