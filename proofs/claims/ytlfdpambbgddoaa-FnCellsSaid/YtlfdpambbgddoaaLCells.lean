/-
  Proved: whatever the bytes draw, a level is its cell and its rest, CellOf answers with the code of its reference model, and the lines of 2 and of 4 tell each colour itself (the law FnCells returns true), and the argument reads afterwards as it read before. Conditions: none.
-/
import Derived.Test.YtlfdpambbgddoaaOpenA
import Derived.Test.YtlfdpambbgddoaaDrawE
import Derived.Test.YtlfdpambbgddoaaCelH
import Derived.Test.YtlfdpambbgddoaaLinI
import Derived.Test.YtlfdpambbgddoaaLwN
import Derived.Test.YtlfdpambbgddoaaBaseA
import Derived.Deep.RegionHeld3
namespace Go.Proofs.Ytlfdpambbgddoaa.lCells
open Go.ChangeShapes Go.WideShapes Go.ChangeAt Go.RowKit
set_option linter.unusedVariables false
set_option linter.unusedSimpArgs false

theorem Rd.three {w : World} {B : Option Addr} {L : Nat} {xs : List Int} (h : Rd .i64 w B L xs) (hl : xs.length = 3) : ∃ b o, B = some ⟨b, o, none⟩ ∧ L = 3 ∧ w.cell? ⟨b, o, none⟩ = some (.int .i64 (xs.getD 0 0)) ∧ w.cell? ⟨b, o + 1, none⟩ = some (.int .i64 (xs.getD 1 0)) ∧ w.cell? ⟨b, o + 2, none⟩ = some (.int .i64 (xs.getD 2 0)) := by
  obtain rfl : L = 3 := by rw [← h.1, hl]
  obtain ⟨b, o, rfl, hc⟩ := h.2 (by omega)
  exact ⟨b, o, rfl, rfl, hc 0 (by omega), hc 1 (by omega), hc 2 (by omega)⟩
theorem run_fldG (a b : Int) (A : Option Addr) (n c : Nat) (W : World) : (Instr.field 54 (.agg #[.int .i64 a, .int .i64 b, .slice A n c]) 1).run Try.prog W = .ok (.agg #[.int .i64 b, .slice A n c]) W := by kernel_rfl
theorem run_fldI (a : Int) (A : Option Addr) (n c : Nat) (W : World) : (Instr.field 48 (.agg #[.int .i64 a, .slice A n c]) 1).run Try.prog W = .ok (.slice A n c) W := by kernel_rfl
theorem run_fldC (a : Int) (A B : Option Addr) (n c m d : Nat) (W : World) : (Instr.field 44 (.agg #[.int .i64 a, .slice A n c, .slice B m d]) 0).run Try.prog W = .ok (.int .i64 a) W := by kernel_rfl
set_option maxRecDepth 100000 in
set_option maxHeartbeats 4000000 in
theorem walk (A : Option Addr) (n c : Nat) (xs : List Int) (bs : List Nat) (w : World) (h : Hd w (.ints .u8 xs) (.slice A n c) bs) (hu : U8s xs) :
    Calls Try.prog 5 #[.slice A n c] w fun e w' => e = .returned (.bool true) ∧ Below w.heap.size w w' := by
  have hm := Nat.le_trans h.caps.1 h.caps.2
  by_cases hbig : 1048576 < n
  · have hb' : decide ((1048576 : Int) < (n : Int)) = true := by simp; omega
    clear h
    go_enter Try.func5, Try.ntmps5
    go_wp2_with (go_at_call 17; refine (lwBig_any _ _ _ _ hm).mono ?_; rintro e w' ⟨rfl, rfl⟩)
    go_ret
    exact ⟨rfl, Below.refl _ _⟩
  have hb' : decide ((1048576 : Int) < (n : Int)) = false := by simp; omega
  have H : Hid (Code w A n xs) := ⟨h.rd, hu, by omega⟩
  clear h hu
  go_enter Try.func5, Try.ntmps5
  go_wp2_with (go_at_call 17; refine (lwBig_any _ _ _ _ hm).mono ?_; rintro e w' ⟨rfl, rfl⟩)
  clear hb' hm
  refine (drawCellOf_any A n c xs _ H.out).mono ?_
  rintro e w1 ⟨sd, G, k, cp, ps, rfl, hl, ho, hb1⟩
  obtain ⟨d1, hd1⟩ := ho.hd
  have HD := Lib.hid hd1
  have T1 := Lib.hid hb1
  have hcap := hd1.caps
  have HK : Hid (ps.length = k) := hd1.rd.1
  clear ho hb1 hd1
  go_wp2_with fail
  refine (CellOf_any G k cp sd ps d1 _ HD.out).mono ?_
  rintro e w2 ⟨C, p, cC, R, q, cR, la, ha, lb, hb, rfl, hoC, hoR, -, -, -, -, -, hbe⟩
  obtain ⟨dC, hdC⟩ := hoC.hd
  obtain ⟨dR, hdR⟩ := hoR.hd
  obtain ⟨W3, hW3⟩ : ∃ W3, W3 = w2.alloc (.cells #[.int .i64 (ceC sd ps), .slice C p cC, .slice R q cR] 44) := ⟨_, rfl⟩
  have B3 : Hid (Bx W3 w2.heap.size [.int .i64 (ceC sd ps), .slice C p cC, .slice R q cR]) := by show Bx _ _ _; rw [hW3]; exact Bx.new _ _ _ rfl
  have T3 : Hid (Below w.heap.size w W3) := by show Below _ _ _; rw [hW3]; exact blThenAlloc (blThen T1.out hbe) _
  have D3 : Hid (Hd W3 (.ints .i64 ps) (.slice G k cp) d1) := by show Hd _ _ _ _; rw [hW3]; exact (HD.out.bel hbe).alloc _
  have C3 : Hid (Rd .i64 W3 C p (ceL sd ps)) := by show Rd _ _ _ _ _; rw [hW3]; exact hdC.rd.alloc _
  have R3 : Hid (Rd .i64 W3 R q (ceR sd ps)) := by show Rd _ _ _ _ _; rw [hW3]; exact hdR.rd.alloc _
  have HCC := Lib.hid hdC.caps
  have HCR := Lib.hid hdR.caps
  have CS : Hid (∀ W, Below W3.heap.size W3 W → Calls Try.prog 20 #[.int .i64 sd, .slice G k cp] W (IIAns W (ceC sd ps) (ceL sd ps) (ceR sd ps))) := fun W hW => sCellOf_any G k cp sd ps d1 W (D3.out.bel hW)
  obtain ⟨f, hf⟩ : ∃ f, f = ceC sd ps := ⟨_, rfl⟩
  have HF := Lib.hid hf
  rw [← hf] at B3 CS hW3 ⊢
  have HW3 := Lib.hid hW3
  clear hoC hoR hbe hdC hdR hW3 HD T1 hf
  go_wp2_with fail
  rw [← HW3.out]
  clear HW3
  have x0 := B3.out.c 0 rfl
  have y0 := cell_lt x0
  have fc := fun A B n c m d W => run_fldC f A B n c m d W
  go_region_held3 (fun w' => w'.cell? ⟨w2.heap.size, 0, none⟩ = some (.int .i64 f)) (first | (with_reducible exact ca) | (with_reducible exact cell_later (Below.refl _ _).drew x0)) (first | (go_at_call 20; (with_reducible refine (CS.out _ (by repeat (first | (with_reducible exact (Below.refl W3.heap.size W3)) | (with_reducible refine Below.drew ?_)))).mono ?_); rintro e wa ⟨E1, e2, e3, E4, e5, e6, e7, e8, e9, e10, rfl, -, -, -, -, -, -, -, hb⟩; have Ta := Lib.hid (show Below W3.heap.size W3 wa from blThen (by repeat (first | (with_reducible exact (Below.refl W3.heap.size W3)) | (with_reducible refine Below.drew ?_))) hb); have ca := cell_later Ta.out x0; clear hb))
  have HTA := Lib.hid Ta.out
  have B4 := Lib.hid (B3.out.bel HTA.out)
  have D4 := Lib.hid (D3.out.bel HTA.out)
  have C4 := Lib.hid (C3.out.below HTA.out)
  have R4 := Lib.hid (R3.out.below HTA.out)
  have T4 := Lib.hid (blThen T3.out HTA.out)
  clear ca Ta HTA B3 D3 C3 R3 T3 CS fc x0 y0
  have x0 := B4.out.c 0 rfl
  have y0 := cell_lt x0
  by_cases h0 : f = 0
  · have hce := ce_yes (sd := sd) (xs := ps) (HF.out.symm.trans h0)
    have hsd : inB sd 2 4 = true := by
      rcases Bool.eq_false_or_eq_true (inB sd 2 4) with e | e
      · exact e
      · have := hce.1; unfold ceC at this; rw [e] at this; simp at this
    have hlf : lf ps = 0 := by have := hce.1; unfold ceC at this; rw [if_pos hsd] at this; exact this
    have hs2 := inB_iff.1 hsd
    have hlv := (lf_zero hlf).2
    obtain ⟨v0, v1, v2, rfl⟩ : ∃ v0 v1 v2, ps = [v0, v1, v2] := by
      match ps, (lf_zero hlf).1 with
      | [a, b, c], _ => exact ⟨a, b, c, rfl⟩
    have g0 := inB_iff.1 (hlv 0 (by omega))
    have g1 := inB_iff.1 (hlv 1 (by omega))
    have g2 := inB_iff.1 (hlv 2 (by omega))
    obtain ⟨vf, hvf⟩ : ∃ vf : Nat → Int, vf = (([v0, v1, v2] : List Int).getD · 0) := ⟨_, rfl⟩
    have LV : Lv vf := fun j hj => by rw [hvf]; exact inB_iff.1 (hlv j hj)
    rw [← hvf] at hce
    have hs3 := side_cases hsd
    have b0 := cc_bd hs3 LV (j := 0) (by omega)
    have b1 := cc_bd hs3 LV (j := 1) (by omega)
    have b2 := cc_bd hs3 LV (j := 2) (by omega)
    have r0 := cr_bd hs3 LV 0 (by omega)
    have r1 := cr_bd hs3 LV 1 (by omega)
    have r2 := cr_bd hs3 LV 2 (by omega)
    have s0 := cell_sum (sd := sd) hs2 (LV 0 (by omega))
    have s1 := cell_sum (sd := sd) hs2 (LV 1 (by omega))
    have s2 := cell_sum (sd := sd) hs2 (LV 2 (by omega))
    rw [hce.2.1] at C4
    rw [hce.2.2] at R4
    have e0 : vf 0 = v0 := by rw [hvf]; rfl
    have e1 : vf 1 = v1 := by rw [hvf]; rfl
    have e2 : vf 2 = v2 := by rw [hvf]; rfl
    rw [e0] at s0
    rw [e1] at s1
    rw [e2] at s2
    generalize cc sd vf 0 = a0 at *
    generalize cc sd vf 1 = a1 at *
    generalize cc sd vf 2 = a2 at *
    generalize cr sd vf 0 = q0 at *
    generalize cr sd vf 1 = q1 at *
    generalize cr sd vf 2 = q2 at *
    obtain ⟨bC, oC, rfl, rfl, c0, c1, c2⟩ := Rd.three C4.out rfl
    obtain ⟨bR, oR, rfl, rfl, k0, k1, k2⟩ := Rd.three R4.out rfl
    obtain ⟨bV, oV, rfl, rfl, u0, u1, u2⟩ := Rd.three D4.out.rd rfl
    have HLF := Lib.hid hlf
    have cc1 := HCC.out
    have cc2 := HCR.out
    unfold maxLen at cc1 cc2 hcap
    have i1 : IntKind.i64.wrap (sd - 1) = sd - 1 := IntWalk.i64_in _ (by omega)
    have i2 : IntKind.i64.wrap (sd - 2) = sd - 2 := IntWalk.i64_in _ (by omega)
    have j0 : IntKind.i64.wrap (v0 * (sd - 1)) = a0 * 65535 + q0 := by rw [← s0]; exact IntWalk.i64_in _ (by omega)
    have j1 : IntKind.i64.wrap (v1 * (sd - 1)) = a1 * 65535 + q1 := by rw [← s1]; exact IntWalk.i64_in _ (by omega)
    have j2 : IntKind.i64.wrap (v2 * (sd - 1)) = a2 * 65535 + q2 := by rw [← s2]; exact IntWalk.i64_in _ (by omega)
    have m0 : IntKind.i64.wrap (a0 * 65535) = a0 * 65535 := IntWalk.i64_in _ (by omega)
    have m1 : IntKind.i64.wrap (a1 * 65535) = a1 * 65535 := IntWalk.i64_in _ (by omega)
    have m2 : IntKind.i64.wrap (a2 * 65535) = a2 * 65535 := IntWalk.i64_in _ (by omega)
    have n0 : IntKind.i64.wrap (a0 * 65535 + q0) = a0 * 65535 + q0 := IntWalk.i64_in _ (by omega)
    have n1 : IntKind.i64.wrap (a1 * 65535 + q1) = a1 * 65535 + q1 := IntWalk.i64_in _ (by omega)
    have n2 : IntKind.i64.wrap (a2 * 65535 + q2) = a2 * 65535 + q2 := IntWalk.i64_in _ (by omega)
    have x1 := B4.out.c 1 rfl
    have x2 := B4.out.c 2 rfl
    have b0' := b0.1
    have b0'' := b0.2
    have b1' := b1.1
    have b1'' := b1.2
    have b2' := b2.1
    have b2'' := b2.2
    have r0' := r0.1
    have r0'' := r0.2
    have r1' := r1.1
    have r1'' := r1.2
    have r2' := r2.1
    have r2'' := r2.2
    subst h0
    clear hce hsd hlf hlv hvf LV hs3 s0 s1 s2 e0 e1 e2 b0 b1 b2 r0 r1 r2 HF
    go_wp2_with fail
    refine wp_loop_rounds 4 ?_
    rw [rounds_succ]
    go_wp2_with fail
    go_quiet (fail)
    go_wp2_with fail
    rw [rounds_succ]
    go_wp2_with fail
    go_quiet (fail)
    go_wp2_with fail
    rw [rounds_succ]
    go_wp2_with fail
    go_quiet (fail)
    go_wp2_with fail
    rw [rounds_succ]
    go_wp2_with fail
    clear j0 j1 j2 m0 m1 m2 n0 n1 n2 i1 i2 b0' b0'' b1' b1'' b2' b2'' r0' r0'' r1' r1'' r2' r2'' c0 c1 c2 k0 k1 k2 u0 u1 u2 x0 x1 x2 y0 g0 g1 g2 cc1 cc2 hs2 B4
    generalize hW5 : wa.drewN _ = w5
    have T5 : Hid (Below w.heap.size w w5) := by show Below _ _ _; rw [← hW5]; exact blThenDrew T4.out _
    have D5 : Hid (Hd w5 (.ints .i64 [v0, v1, v2]) (.slice (some ⟨bV, oV, none⟩) 3 cp) d1) := by show Hd _ _ _ _; rw [← hW5]; exact D4.out.drewN _
    have LG2 : Hid (∀ W, Calls Try.prog 23 #[.int .i64 2] W (GrAns W 0 2 (lgRs 2 (2 * 2 * 2)))) := fun W => LineGrid_any 2 W
    have LG4 : Hid (∀ W, Calls Try.prog 23 #[.int .i64 4] W (GrAns W 0 4 (lgRs 4 (4 * 4 * 4)))) := fun W => LineGrid_any 4 W
    have EG2 : Hid (egL 2 (lgRs 2 (2 * 2 * 2)) [v0, v1, v2] = [v0, v1, v2]) := egL_line (s := 2) (.inl rfl) HLF.out
    have EG4 : Hid (egL 4 (lgRs 4 (4 * 4 * 4)) [v0, v1, v2] = [v0, v1, v2]) := egL_line (s := 4) (.inr rfl) HLF.out
    clear hW5 C4 R4 D4 T4
    refine (LG2.out w5).mono ?_
    rintro e w6 ⟨G6, n6, k6, rfl, ho, hb⟩
    have HG6 := Lib.hid ho.hd
    have B6 := Lib.hid hb
    have TT6 := Lib.hid (blThen T5.out hb)
    have DD6 := Lib.hid (D5.out.bel hb)
    have fl1 := fun W => run_fldG 0 2 G6 n6 k6 W
    clear ho hb
    go_wp2_with fail
    obtain ⟨d6, hd6⟩ := HG6.out
    refine (EvalGrid_any G6 (some ⟨bV, oV, none⟩) n6 k6 3 cp 2 _ [v0, v1, v2] d6 d1 w6 hd6 DD6.out).mono ?_
    rw [EG2.out]
    rintro e x6 ⟨H6, m6, c6, rfl, ho, hb⟩
    have HE6 := Lib.hid ho.hd
    have TX6 := Lib.hid (blThen TT6.out hb)
    have DX6 := Lib.hid (DD6.out.bel hb)
    have fl2 := fun W => run_fldI (egC 2 (lgRs 2 (2 * 2 * 2)) [v0, v1, v2]) H6 m6 c6 W
    obtain ⟨g6, hg6⟩ := HE6.out
    clear ho hb fl1
    go_wp2_with fail
    refine (lwNums_same H6 (some ⟨bV, oV, none⟩) m6 3 c6 cp [v0, v1, v2] x6 hg6.rd DX6.out.rd (by have := hg6.rd.1; simp at this; omega)).mono ?_
    rintro e y6 ⟨rfl, o6, rfl⟩
    have T6 := Lib.hid (blThenDrew TX6.out o6)
    have D6 := Lib.hid (DX6.out.drewN o6)
    clear fl2
    go_wp2_with fail
    refine (LG4.out _).mono ?_
    rintro e w7 ⟨G7, n7, k7, rfl, ho, hb⟩
    have HG7 := Lib.hid ho.hd
    have B7 := Lib.hid hb
    have TT7 := Lib.hid (blThen T6.out hb)
    have DD7 := Lib.hid (D6.out.bel hb)
    have fl1 := fun W => run_fldG 0 4 G7 n7 k7 W
    clear ho hb
    go_wp2_with fail
    obtain ⟨d7, hd7⟩ := HG7.out
    refine (EvalGrid_any G7 (some ⟨bV, oV, none⟩) n7 k7 3 cp 4 _ [v0, v1, v2] d7 d1 w7 hd7 DD7.out).mono ?_
    rw [EG4.out]
    rintro e x7 ⟨H7, m7, c7, rfl, ho, hb⟩
    have HE7 := Lib.hid ho.hd
    have TX7 := Lib.hid (blThen TT7.out hb)
    have DX7 := Lib.hid (DD7.out.bel hb)
    have fl2 := fun W => run_fldI (egC 4 (lgRs 4 (4 * 4 * 4)) [v0, v1, v2]) H7 m7 c7 W
    obtain ⟨g7, hg7⟩ := HE7.out
    clear ho hb fl1
    go_wp2_with fail
    refine (lwNums_same H7 (some ⟨bV, oV, none⟩) m7 3 c7 cp [v0, v1, v2] x7 hg7.rd DX7.out.rd (by have := hg7.rd.1; simp at this; omega)).mono ?_
    rintro e y7 ⟨rfl, o7, rfl⟩
    have T7 := Lib.hid (blThenDrew TX7.out o7)
    have D7 := Lib.hid (DX7.out.drewN o7)
    clear fl2
    go_wp2_with fail
    go_ret
    exact ⟨rfl, T7.out⟩
  · have hqn : (f == 0) = false := by simpa using h0
    go_wp2_with fail
    go_ret
    exact ⟨rfl, T4.out⟩

set_option maxRecDepth 100000 in
theorem lifted (os : Os) (started : os.Started) (H : Type) (enc : TypeId × Value → H) :
    ReturnsInHanded {} Try.checked os 5 .any (Rows.fnCellsSpec.pre6 enc Try.prog Try.f5 Rows.fnCellsRow.domain false) (Rows.fnCellsSpec.post enc Try.prog Try.f5 false true false false) := by
  refine returnsInHanded_of_change (C := Try.checked) own started (by kernel_rfl) Try.func5
    (ChangeSpec.witness6 (enc := enc) (C := Try.checked) false ⟨#[], #[.slice none 0 0], []⟩ 8 (by kernel_rfl) (by kernel_rfl) (by kernel_rfl) (by kernel_rfl)) ?_
  intro W base args ds gs before hval0 hW hcnd _
  have hval : ∀ (j : Nat) t v, Try.f5.params[j]? = some t → args[j]? = some v → Value.okWide Try.prog W .any base t v := hval0
  have hW' := hW
  obtain ⟨p, q, hA0, hV0, rfl, hfz, hnd⟩ := hW
  have hA : DataW.TrodAll enc Try.prog W 0 (fun _ => true) true Try.f5.params.toList args.toList ds p := hA0
  have hV : DataW.TrodVars enc Try.prog W (fun _ => true) [] gs q := hV0
  rw [Try.params5] at hA hval
  obtain ⟨v0, vs0, d0, ds0, p0, q0, hargs, rfl, rfl, h0, r0⟩ := trodAll_cons hA
  obtain ⟨rfl, rfl, rfl⟩ := trodAll_nil r0
  obtain rfl : args = #[v0] := by cases args; simp_all
  obtain ⟨rfl, rfl⟩ : gs = [] ∧ q = [] := by
    cases gs with
    | nil => exact ⟨rfl, hV⟩
    | cons g r => exact absurd hV (by intro h; cases h)
  have k0 := h0
  have lt0 : ∀ x ∈ p0, x.block < W.heap.size := by obtain ⟨m, hm⟩ := k0; exact DataW.trod_lt m _ _ _ hm
  obtain ⟨a0, n0, c0, xs0, bs0, rfl, hd0, u0⟩ := open_bytes (hval 0 38 v0 rfl rfl) h0
  clear hA0 hval0
  refine (walk a0 n0 c0 xs0 bs0 W hd0 u0).mono fun e W' ⟨he, bel⟩ => ?_
  subst he
  exact ⟨_, rfl, _, _, _, [], _, [], hW', trodAll_mk1 (shut_bool Try.underlying4 _), (trodAll_cons_mk (Below.trod laidOut (by kernel_rfl) (of_decide_eq_true (by kernel_rfl)) k0 bel lt0) trodAll_mk0), rfl, bel.frame _, fun h => by cases h⟩

theorem row_holds : Rows.FnCellsSaid :=
  OpenClaim.holds_of_wide 5 Try.f5 rfl rfl rfl rfl rfl rfl rfl ⟨rfl, rfl, rfl, rfl, rfl⟩ rfl rfl rfl rfl rfl (by kernel_rfl) Try.func5 (by kernel_rfl)
    (of_decide_eq_true (by kernel_rfl)) (by unfold Func.isWrapper; rw [if_neg (of_decide_eq_false (by kernel_rfl))]; exact ⟨rfl, rfl⟩)
    (fun os started H enc _ => lifted os started H enc)

theorem proved : Rows.FnCellsSaid := row_holds
#print axioms proved

end Go.Proofs.Ytlfdpambbgddoaa.lCells
