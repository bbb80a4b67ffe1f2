/-
  Proved: at every row of bytes the Go function IsCanonical answers as its reference model does, and changes nothing of its argument (the law FnExactIsCanonical returns true), and the argument reads afterwards as it read before. Conditions: none.
-/
import Derived.Test.YtbbghebpmobfnaaFront
import Derived.Test.YtbbghebpmobfnaaCan
import Derived.Test.YtbbghebpmobfnaaScene
namespace Go.Proofs.Ytbbghebpmobfnaa.lExactIsCanonical
open Go.ChangeShapes Go.WideShapes Go.ChangeAt Go.RowKit
set_option linter.unusedVariables false

set_option maxRecDepth 100000 in
set_option maxHeartbeats 4000000 in
theorem walk (A : Option Addr) (n c : Nat) (xs : List Int) (bs : List Nat) (w : World) (h : Hd w (.ints .u8 xs) (.slice A n c) bs) (hu : U8s xs) :
    Calls Try.prog 8 #[.slice A n c] w fun e w' => e = .returned (.bool true) ∧ Below w.heap.size w w' := by
  have HU := Lib.hid hu
  have S0 := Lib.hid (Scene.start w [(.ints .u8 xs, .slice A n c)] (by simp; exact ⟨bs, h⟩))
  have hcc := h.caps
  have hcm := hcc.2
  unfold maxLen at hcm
  obtain ⟨hnc, -⟩ := hcc
  clear h hu
  have hM : (1000000000000 : Nat) ≤ maxLen := by unfold maxLen; omega
  by_cases hbig : 1048576 < n
  · go_enter Try.func8, Try.ntmps8
    go_wp2_with fail
    go_ret
    exact ⟨rfl, Below.refl _ _⟩
  go_enter Try.func8, Try.ntmps8
  go_wp2_with fail
  obtain ⟨bs1, hd1⟩ := S0.out.argI 0 rfl
  refine (toByteS_any A n c xs _ hd1.rd (by omega)).mono ?_
  rintro e w1 ⟨B1, rfl, ho1, hb1⟩
  have S1 := Lib.hid (S0.out.below hb1)
  obtain ⟨ds1, dd1⟩ := ho1.hd
  have D1 := Lib.hid dd1
  clear ho1 hb1 dd1 hd1 S0
  go_wp2_with fail
  refine (sIsCanonical_any B1 n n xs _ D1.out.rd HU.out (Nat.le_refl _) (by omega)).mono ?_
  rintro e w2 ⟨rfl, hb2⟩
  have S2 := Lib.hid (S1.out.below hb2)
  clear hb2 S1 D1
  generalize hI : icB xs = r at *
  go_wp2_with fail
  obtain ⟨bs3, hd3⟩ := S2.out.argI 0 rfl
  refine (toByteS_any A n c xs _ hd3.rd (by omega)).mono ?_
  rintro e w3 ⟨B3, rfl, ho3, hb3⟩
  have S3 := Lib.hid ((S2.out.below hb3).addOwn ho3 S2.out.bel.size (Nat.le_refl _))
  clear ho3 hb3 hd3 S2
  go_wp2_with fail
  obtain ⟨bs4, hd4⟩ := (S3.out.ownI 0 rfl).hd
  refine (IsCanonical_any B3 n n xs _ hd4.rd HU.out (Nat.le_refl _) (by omega)).mono ?_
  rintro e w4 ⟨rfl, hb4⟩
  rw [hI]
  have S4 := Lib.hid (S3.out.below hb4)
  clear hb4 hd4 S3 hI
  go_wp2_with fail
  obtain ⟨bs5, hd5⟩ := S4.out.argI 0 rfl
  refine (toByteS_any A n c xs _ hd5.rd (by omega)).mono ?_
  rintro e w6 ⟨B6, rfl, ho6, hb6⟩
  have S6 := Lib.hid (S4.out.below hb6)
  obtain ⟨ds6, dd6⟩ := ho6.hd
  have D6 := Lib.hid dd6
  clear ho6 hb6 dd6 hd5 S4
  go_wp2_with fail
  obtain ⟨bs6, hd6⟩ := (S6.out.ownI 0 rfl).hd
  refine (eqByteS_same _ _ _ _ _ xs _ hd6.rd D6.out.rd (by omega)).mono ?_
  rintro e w7 ⟨rfl, m7, rfl⟩
  have T := Lib.hid (blThenDrew S6.out.bel m7)
  clear hd6 D6 S6
  go_wp2_with fail
  go_ret
  exact ⟨rfl, T.out⟩

set_option maxRecDepth 100000 in
theorem lifted (os : Os) (started : os.Started) (H : Type) (enc : TypeId × Value → H) :
    ReturnsInHanded {} Try.checked os 8 .any (Rows.fnExactIsCanonicalSpec.pre6 enc Try.prog Try.f8 Rows.fnExactIsCanonicalRow.domain false) (Rows.fnExactIsCanonicalSpec.post enc Try.prog Try.f8 false true false false) := by
  refine returnsInHanded_of_change (C := Try.checked) own started (by kernel_rfl) Try.func8
    (ChangeSpec.witness6 (enc := enc) (C := Try.checked) false ⟨#[], #[.slice none 0 0], []⟩ 8 (by kernel_rfl) (by kernel_rfl) (by kernel_rfl) (by kernel_rfl)) ?_
  intro W base args ds gs before hval0 hW hcnd _
  have hval : ∀ (j : Nat) t v, Try.f8.params[j]? = some t → args[j]? = some v → Value.okWide Try.prog W .any base t v := hval0
  have hW' := hW
  obtain ⟨p, q, hA0, hV0, rfl, hfz, hnd⟩ := hW
  have hA : DataW.TrodAll enc Try.prog W 0 (fun _ => true) true Try.f8.params.toList args.toList ds p := hA0
  have hV : DataW.TrodVars enc Try.prog W (fun _ => true) [] gs q := hV0
  rw [Try.params8] at hA hval
  obtain ⟨v0, vs0, d0, ds0, p0, q0, hargs, rfl, rfl, h0, r0⟩ := trodAll_cons hA
  obtain ⟨rfl, rfl, rfl⟩ := trodAll_nil r0
  obtain rfl : args = #[v0] := by cases args; simp_all
  obtain ⟨rfl, rfl⟩ : gs = [] ∧ q = [] := by
    cases gs with
    | nil => exact ⟨rfl, hV⟩
    | cons g r => exact absurd hV (by intro h; cases h)
  have k0 := h0
  have lt0 : ∀ x ∈ p0, x.block < W.heap.size := by obtain ⟨m, hm⟩ := k0; exact DataW.trod_lt m _ _ _ hm
  obtain ⟨a0, n0, c0, xs0, bs0, rfl, hd0, u0⟩ := open_bytes (hval 0 22 v0 rfl rfl) h0
  clear hA0 hval0
  refine (walk a0 n0 c0 xs0 bs0 W hd0 u0).mono fun e W' ⟨he, bel⟩ => ?_
  subst he
  exact ⟨_, rfl, _, _, _, [], _, [], hW', trodAll_mk1 (shut_bool Try.underlying4 _), (trodAll_cons_mk (Below.trod laidOut (by kernel_rfl) (of_decide_eq_true (by kernel_rfl)) k0 bel lt0) trodAll_mk0), rfl, bel.frame _, fun h => by cases h⟩

theorem row_holds : Rows.FnExactIsCanonicalSaid :=
  OpenClaim.holds_of_wide 8 Try.f8 rfl rfl rfl rfl rfl rfl rfl ⟨rfl, rfl, rfl, rfl, rfl⟩ rfl rfl rfl rfl rfl (by kernel_rfl) Try.func8 (by kernel_rfl)
    (of_decide_eq_true (by kernel_rfl)) (by unfold Func.isWrapper; rw [if_neg (of_decide_eq_false (by kernel_rfl))]; exact ⟨rfl, rfl⟩)
    (fun os started H enc _ => lifted os started H enc)

theorem proved : Rows.FnExactIsCanonicalSaid := row_holds
#print axioms proved

end Go.Proofs.Ytbbghebpmobfnaa.lExactIsCanonical
