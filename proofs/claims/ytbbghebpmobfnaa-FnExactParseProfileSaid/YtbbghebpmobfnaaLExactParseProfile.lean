/-
  Proved: at every row of bytes the Go function ParseProfile answers as its reference model does, in new memory that it shares with nothing, and changes nothing of its argument (the law FnExactParseProfile returns true), and the argument reads afterwards as it read before. Conditions: none.
-/
import Derived.Test.YtbbghebpmobfnaaFront
import Derived.Test.YtbbghebpmobfnaaParS3
import Derived.Test.YtbbghebpmobfnaaHelpM
import Derived.Test.YtbbghebpmobfnaaScene
namespace Go.Proofs.Ytbbghebpmobfnaa.lExactParseProfile
open Go.ChangeShapes Go.WideShapes Go.ChangeAt Go.RowKit
set_option linter.unusedVariables false

theorem small {ts : List Tg} {n : Nat} (hl : ts.length = n) (hs : TsSmall ts) : n ≤ 1048576 ∧ ∀ i, i < n → (tg ts i).2.length ≤ 1000000000000 :=
  ⟨by rw [← hl]; exact hs.1, fun i hi => by have := (hs.2 i (by rw [hl]; exact hi)).2; omega⟩
set_option maxRecDepth 100000 in
set_option maxHeartbeats 4000000 in
theorem walk (A : Option Addr) (n c : Nat) (xs : List Int) (bs : List Nat) (w : World) (h : Hd w (.ints .u8 xs) (.slice A n c) bs) (hu : U8s xs) :
    Calls Try.prog 6 #[.slice A n c] w fun e w' => e = .returned (.bool true) ∧ Below w.heap.size w w' := by
  have HU := Lib.hid hu
  have HSM := Lib.hid (ppT_small xs hu).1
  have S0 := Lib.hid (Scene.start w [(.ints .u8 xs, .slice A n c)] (by simp; exact ⟨bs, h⟩))
  have hcc := h.caps
  have hcm := hcc.2
  unfold maxLen at hcm
  obtain ⟨hnc, -⟩ := hcc
  clear h hu
  by_cases hbig : 1048576 < n
  · go_enter Try.func6, Try.ntmps6
    go_wp2_with fail
    go_ret
    exact ⟨rfl, Below.refl _ _⟩
  have hM : (1000000000000 : Nat) ≤ maxLen := by unfold maxLen; omega
  generalize hTT : ppT xs = ts at *
  generalize hCC : ppC xs = co at *
  generalize hKK : ppK xs = cl at *
  have HI : Hid (∀ A n c w, Rd .u8 w A n xs → n ≤ c → c ≤ maxLen → Calls Try.prog 13 #[.slice A n c] w (ParAns w co cl ts)) := fun A n c w h1 h2 h3 => by
    have := ParseProfile_any A n c xs w h1 HU.out h2 h3
    rw [hTT, hCC, hKK] at this
    exact this
  have HSp : Hid (∀ A n c w, Rd .u8 w A n xs → n ≤ c → c ≤ maxLen → Calls Try.prog 19 #[.slice A n c] w (ParAns w co cl ts)) := fun A n c w h1 h2 h3 => by
    have := sParseProfile_any A n c xs w h1 HU.out h2 h3
    rw [hTT, hCC, hKK] at this
    exact this
  clear hTT hCC hKK HU
  go_enter Try.func6, Try.ntmps6
  go_wp2_with fail
  -- w0
  obtain ⟨bs1, hd1⟩ := S0.out.argI 0 rfl
  refine (toByteS_any A n c xs _ hd1.rd (by omega)).mono ?_
  rintro e w1 ⟨B1, rfl, ho1, hb1⟩
  have S1 := Lib.hid (S0.out.below hb1)
  obtain ⟨ds1, dd1⟩ := ho1.hd
  have D1 := Lib.hid dd1
  clear ho1 hb1 dd1 hd1 S0
  go_wp2_with fail
  refine (HSp.out B1 n n _ D1.out.rd (Nat.le_refl _) (by omega)).mono ?_
  rintro e w2 ⟨W0, nW, cW, rfl, ho2, hb2⟩
  obtain ⟨bsW, hdW⟩ := ho2.hd
  have hnl := hdW.tags.1
  have HSS := Lib.hid (small hnl HSM.out)
  have HNL := Lib.hid hnl
  have hnW := HSS.out.1
  have q1 := S1.out.bel.size
  have i2 : w1.heap.size ≤ w2.heap.size := hb2.size
  have S2 := Lib.hid (((S1.out.below hb2).addOwn ho2 S1.out.bel.size (Nat.le_refl _)).addBox [.int .i64 co, .int .i64 cl, .slice W0 nW cW] 29)
  clear ho2 hb2 hdW S1 D1 HSp hnl
  go_wp2_with fail
  -- x0
  obtain ⟨bs3, hd3⟩ := S2.out.argI 0 rfl
  refine (toByteS_any A n c xs _ hd3.rd (by omega)).mono ?_
  rintro e w3 ⟨B3, rfl, ho3, hb3⟩
  have i3 : w2.heap.size < w3.heap.size := by have := hb3.size; simp at this; omega
  have S3 := Lib.hid ((S2.out.below hb3).addOwn (lo := w2.heap.size + 1) (ho3.mono (by simp) (Nat.le_refl _)) (by omega) (Nat.le_refl _))
  clear ho3 hb3 hd3 S2
  go_wp2_with fail
  -- g0
  obtain ⟨bs4, hd4⟩ := (S3.out.ownI 0 rfl).hd
  refine (HI.out B3 n n _ hd4.rd (Nat.le_refl _) (by omega)).mono ?_
  rintro e w4 ⟨G0, nG, cG, rfl, ho4, hb4⟩
  obtain ⟨bsG, hdG⟩ := ho4.hd
  obtain rfl : nW = nG := by rw [← hdG.tags.1]; exact HNL.out.symm
  have i4 : w3.heap.size ≤ w4.heap.size := hb4.size
  have S4a := (S3.out.below hb4).addOwn ho4 S3.out.bel.size (Nat.le_refl _)
  have y0 := S4a.boxI 0 0 rfl rfl
  have y1 := S4a.boxI 0 1 rfl rfl
  have y2 := S4a.boxI 0 2 rfl rfl
  have i42 : w2.heap.size < w4.heap.size := cell_lt y0
  have S4 := Lib.hid (S4a.addBox [.int .i64 co, .int .i64 cl, .slice G0 nW cG] 29)
  clear ho4 hb4 hd4 hdG S3 S4a
  go_wp2_with fail
  -- they are alike
  obtain ⟨bsG, hdG⟩ := (S4.out.ownI 0 rfl).hd
  obtain ⟨bsW, hdW⟩ := (S4.out.ownI 2 rfl).hd
  refine (eqProfileResult_same _ _ _ _ _ _ _ _ ts _ _ _ hdG hdW (by omega) HSS.out.2).mono ?_
  rintro e w5 ⟨rfl, hb5⟩
  have S5 := Lib.hid (S4.out.below hb5)
  clear hb5 hdG hdW S4 y0 y1 y2
  go_wp2_with fail
  -- the argument is as it was
  obtain ⟨bs5, hd5⟩ := S5.out.argI 0 rfl
  refine (toByteS_any A n c xs _ hd5.rd (by omega)).mono ?_
  rintro e w6 ⟨B6, rfl, ho6, hb6⟩
  have S6 := Lib.hid (S5.out.below hb6)
  obtain ⟨ds6, dd6⟩ := ho6.hd
  have D6 := Lib.hid dd6
  clear ho6 hb6 dd6 hd5 S5
  go_wp2_with fail
  obtain ⟨bs6, hd6⟩ := (S6.out.ownI 1 rfl).hd
  refine (eqByteS_same _ _ _ _ _ xs _ hd6.rd D6.out.rd (by omega)).mono ?_
  rintro e w7 ⟨rfl, m7, rfl⟩
  have S7 := S6.out.below (below_drewN _ m7 _)
  clear hd6 D6 S6
  go_wp2_with fail
  -- marks in the argument
  obtain ⟨bs7, hd7, nd7, in7⟩ := S7.ownI 1 rfl
  refine (markByteS_any _ _ _ 1 _ bs7 _ hd7 (by omega) (by omega) (by omega) (fun b hb => (in7 b hb).2.2)).mono ?_
  rintro e w8 ⟨rfl, hd8, hch8⟩
  have S8 := S7.turn (lo := w2.heap.size + 1) (hi := w3.heap.size) (os' := [⟨tagsD ts, .slice G0 nW cG, w3.heap.size, w4.heap.size⟩, ⟨tagsD ts, .slice W0 nW cW, w1.heap.size, w2.heap.size⟩]) hch8 (fun k hk => ⟨(in7 k hk).1, (in7 k hk).2.1⟩) (by omega) (S7.own _ (List.mem_cons_of_mem _ (List.mem_cons_self ..))).2.2
    ⟨bs7, hd8, nd7, fun b hb => ⟨(in7 b hb).1, (in7 b hb).2.1, (in7 b hb).2.2.ch hch8 (hd7.lt b hb)⟩⟩ (by simp; try omega) (by simp; try omega)
  have hk8 : ¬ (1 + (n : Int)) < 0 := by omega
  clear hd7 nd7 in7 hd8 hch8 S7
  have g0 := S8.boxI 0 0 rfl rfl
  have g1 := S8.boxI 0 1 rfl rfl
  have g2 := S8.boxI 0 2 rfl rfl
  have v0 := S8.boxI 1 0 rfl rfl
  have v1 := S8.boxI 1 1 rfl rfl
  have v2 := S8.boxI 1 2 rfl rfl
  go_wp2_with fail
  obtain ⟨bsG, hdG⟩ := (S8.ownI 1 rfl).hd
  obtain ⟨bsW, hdW⟩ := (S8.ownI 2 rfl).hd
  refine (eqProfileResult_same _ _ _ _ _ _ _ _ ts _ _ _ hdG hdW (by omega) HSS.out.2).mono ?_
  rintro e w9 ⟨rfl, hb9⟩
  have S9 := S8.below hb9
  clear hb9 hdG hdW S8 g0 g1 g2 v0 v1 v2
  have g0 := S9.boxI 0 0 rfl rfl
  have g1 := S9.boxI 0 1 rfl rfl
  have g2 := S9.boxI 0 2 rfl rfl
  go_wp2_with fail
  -- marks in the answer
  obtain ⟨bs9, hd9, nd9, in9⟩ := S9.ownI 1 rfl
  refine (markProfileResult_any _ _ _ 1 _ _ ts bs9 _ hd9 nd9 (fun b hb => (in9 b hb).2.2) HSM.out (by omega) (by omega)).mono ?_
  rintro e w10 ⟨rfl, hd10, hch10⟩
  have S10 := S9.turn (lo := w3.heap.size) (hi := w4.heap.size) (os' := [⟨tagsD ts, .slice W0 nW cW, w1.heap.size, w2.heap.size⟩]) hch10 (fun k hk => ⟨(in9 k hk).1, (in9 k hk).2.1⟩) (by omega) (S9.own _ (List.mem_cons_of_mem _ (List.mem_cons_self ..))).2.2
    ⟨bs9, hd10, nd9, fun b hb => ⟨(in9 b hb).1, (in9 b hb).2.1, (in9 b hb).2.2.ch hch10 (hd9.lt b hb)⟩⟩ (by simp; try omega) (by simp; try omega)
  have hk10 := kAt_ge ts 1 ts.length
  have hk10' : ¬ (kAt ts 1 ts.length : Int) < 0 := by omega
  clear hd9 nd9 in9 hd10 hch10 S9 g0 g1 g2
  have g0 := S10.boxI 0 0 rfl rfl
  have g1 := S10.boxI 0 1 rfl rfl
  have g2 := S10.boxI 0 2 rfl rfl
  go_wp2_with fail
  obtain ⟨bs10, hd10⟩ := (S10.ownI 0 rfl).hd
  refine (heldProfileResult_any _ _ _ 1 _ _ ts bs10 _ hd10 HSM.out (by omega) (by omega)).mono ?_
  rintro e w11 ⟨rfl, hb11⟩
  have S11 := Lib.hid (S10.below hb11)
  clear hb11 hd10 S10 g0 g1 g2
  go_wp2_with fail
  -- once more
  obtain ⟨bs11, hd11⟩ := S11.out.argI 0 rfl
  refine (toByteS_any A n c xs _ hd11.rd (by omega)).mono ?_
  rintro e w12 ⟨B12, rfl, ho12, hb12⟩
  have S12 := Lib.hid (S11.out.below hb12)
  obtain ⟨ds12, dd12⟩ := ho12.hd
  have D12 := Lib.hid dd12
  clear ho12 hb12 dd12 hd11 S11
  go_wp2_with fail
  refine (HI.out B12 n n _ D12.out.rd (Nat.le_refl _) (by omega)).mono ?_
  rintro e w13 ⟨H0, nH, cH, rfl, ho13, hb13⟩
  obtain ⟨bsH, hdH⟩ := ho13.hd
  obtain rfl : nW = nH := by rw [← hdH.tags.1]; exact HNL.out.symm
  have S13a := (S12.out.below hb13).addOwn ho13 S12.out.bel.size (Nat.le_refl _)
  have v0 := S13a.boxI 1 0 rfl rfl
  have v1 := S13a.boxI 1 1 rfl rfl
  have v2 := S13a.boxI 1 2 rfl rfl
  have z13 : w2.heap.size < w13.heap.size := cell_lt v0
  have S13 := S13a.addBox [.int .i64 co, .int .i64 cl, .slice H0 nW cH] 29
  clear ho13 hb13 hdH S12 S13a D12
  go_wp2_with fail
  obtain ⟨bsH, hdH⟩ := (S13.ownI 0 rfl).hd
  obtain ⟨bsW, hdW⟩ := (S13.ownI 2 rfl).hd
  refine (eqProfileResult_same _ _ _ _ _ _ _ _ ts _ _ _ hdH hdW (by omega) HSS.out.2).mono ?_
  rintro e w14 ⟨rfl, hb14⟩
  have S14 := S13.below hb14
  clear hb14 hdH hdW S13 v0 v1 v2
  have g0 := S14.boxI 1 0 rfl rfl
  have g1 := S14.boxI 1 1 rfl rfl
  have g2 := S14.boxI 1 2 rfl rfl
  go_wp2_with fail
  obtain ⟨bs14, hd14⟩ := (S14.ownI 1 rfl).hd
  refine (heldProfileResult_any _ _ _ 1 _ _ ts bs14 _ hd14 HSM.out (by omega) (by omega)).mono ?_
  rintro e w15 ⟨rfl, hb15⟩
  have T := Lib.hid (blThen S14.bel hb15)
  clear hb15 hd14 S14 g0 g1 g2
  go_wp2_with fail
  go_ret
  exact ⟨rfl, T.out⟩

set_option maxRecDepth 100000 in
theorem lifted (os : Os) (started : os.Started) (H : Type) (enc : TypeId × Value → H) :
    ReturnsInHanded {} Try.checked os 6 .any (Rows.fnExactParseProfileSpec.pre6 enc Try.prog Try.f6 Rows.fnExactParseProfileRow.domain false) (Rows.fnExactParseProfileSpec.post enc Try.prog Try.f6 false true false false) := by
  refine returnsInHanded_of_change (C := Try.checked) own started (by kernel_rfl) Try.func6
    (ChangeSpec.witness6 (enc := enc) (C := Try.checked) false ⟨#[], #[.slice none 0 0], []⟩ 8 (by kernel_rfl) (by kernel_rfl) (by kernel_rfl) (by kernel_rfl)) ?_
  intro W base args ds gs before hval0 hW hcnd _
  have hval : ∀ (j : Nat) t v, Try.f6.params[j]? = some t → args[j]? = some v → Value.okWide Try.prog W .any base t v := hval0
  have hW' := hW
  obtain ⟨p, q, hA0, hV0, rfl, hfz, hnd⟩ := hW
  have hA : DataW.TrodAll enc Try.prog W 0 (fun _ => true) true Try.f6.params.toList args.toList ds p := hA0
  have hV : DataW.TrodVars enc Try.prog W (fun _ => true) [] gs q := hV0
  rw [Try.params6] at hA hval
  obtain ⟨v0, vs0, d0, ds0, p0, q0, hargs, rfl, rfl, h0, r0⟩ := trodAll_cons hA
  obtain ⟨rfl, rfl, rfl⟩ := trodAll_nil r0
  obtain rfl : args = #[v0] := by cases args; simp_all
  obtain ⟨rfl, rfl⟩ : gs = [] ∧ q = [] := by
    cases gs with
    | nil => exact ⟨rfl, hV⟩
    | cons g r => exact absurd hV (by intro h; cases h)
  have k0 := h0
  have lt0 : ∀ x ∈ p0, x.block < W.heap.size := by obtain ⟨m, hm⟩ := k0; exact DataW.trod_lt m _ _ _ hm
  obtain ⟨a0, n0, c0, xs0, bs0, rfl, hd0, u0⟩ := open_bytes (hval 0 22 v0 rfl rfl) h0
  clear hA0 hval0
  refine (walk a0 n0 c0 xs0 bs0 W hd0 u0).mono fun e W' ⟨he, bel⟩ => ?_
  subst he
  exact ⟨_, rfl, _, _, _, [], _, [], hW', trodAll_mk1 (shut_bool Try.underlying4 _), (trodAll_cons_mk (Below.trod laidOut (by kernel_rfl) (of_decide_eq_true (by kernel_rfl)) k0 bel lt0) trodAll_mk0), rfl, bel.frame _, fun h => by cases h⟩

theorem row_holds : Rows.FnExactParseProfileSaid :=
  OpenClaim.holds_of_wide 6 Try.f6 rfl rfl rfl rfl rfl rfl rfl ⟨rfl, rfl, rfl, rfl, rfl⟩ rfl rfl rfl rfl rfl (by kernel_rfl) Try.func6 (by kernel_rfl)
    (of_decide_eq_true (by kernel_rfl)) (by unfold Func.isWrapper; rw [if_neg (of_decide_eq_false (by kernel_rfl))]; exact ⟨rfl, rfl⟩)
    (fun os started H enc _ => lifted os started H enc)

theorem proved : Rows.FnExactParseProfileSaid := row_holds
#print axioms proved

end Go.Proofs.Ytbbghebpmobfnaa.lExactParseProfile
