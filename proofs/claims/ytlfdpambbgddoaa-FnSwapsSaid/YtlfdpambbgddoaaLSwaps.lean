/-
  Proved: whatever the bytes draw, ApplyMatrix answers with the code of its reference model, so does MatrixFault where there is one, and exchanging the first two rows exchanges the first two numbers and turns the sign of DetOf (the law FnSwaps returns true), and the argument reads afterwards as it read before. Conditions: none.
-/
import Derived.Test.YtlfdpambbgddoaaOpenA
import Derived.Test.YtlfdpambbgddoaaDrawM
import Derived.Test.YtlfdpambbgddoaaMatQ
import Derived.Test.YtlfdpambbgddoaaSwpA
import Derived.Test.YtlfdpambbgddoaaLwN
import Derived.Test.YtlfdpambbgddoaaBaseA
import Derived.Deep.RegionHeld3
import Derived.Deep.CutRange
namespace Go.Proofs.Ytlfdpambbgddoaa.lSwaps
open Go.ChangeShapes Go.WideShapes Go.ChangeAt Go.RowKit
set_option linter.unusedVariables false
set_option linter.unusedSimpArgs false

theorem run_fldI0 (a : Int) (A : Option Addr) (n c : Nat) (W : World) : (Instr.field 48 (.agg #[.int .i64 a, .slice A n c]) 0).run Try.prog W = .ok (.int .i64 a) W := by kernel_rfl
theorem run_fldV (a b : Int) (W : World) : (Instr.field 23 (.agg #[.int .i64 a, .int .i64 b]) 1).run Try.prog W = .ok (.int .i64 b) W := by kernel_rfl
structure Sw2 (W0 W : World) (b g : Nat) (v0 v1 v2 : Value) : Prop where
  x : Bx W b [.slice (some ⟨g, 0, none⟩) 3 3]
  y : Bx W g [v0, v1, v2]
  bl : Below W0.heap.size W0 W
theorem Sw2.drew {W0 W : World} {b g : Nat} {v0 v1 v2 : Value} (h : Sw2 W0 W b g v0 v1 v2) : Sw2 W0 W.drew b g v0 v1 v2 := ⟨h.x.bel (Below.refl _ _).drew, h.y.bel (Below.refl _ _).drew, h.bl.drew⟩
theorem Sw2.ra {W0 V : World} {v0 v1 v2 : Value} (T : Below W0.heap.size W0 V) (t u : TypeId) :
    Sw2 W0 ((V.alloc (.cells #[v0, v1, v2] t)).alloc (.cells #[.slice (some ⟨V.heap.size, 0, none⟩) 3 3] u)) (V.heap.size + 1) V.heap.size v0 v1 v2 :=
  ⟨Bx.new _ _ _ (by simp), (Bx.new _ _ _ rfl).alloc _, blThenAlloc (blThenAlloc T _) _⟩
theorem Sw2.br {W0 V : World} {v0 v1 v2 q : Value} (T : Below W0.heap.size W0 V) (t u : TypeId) :
    Sw2 W0 (((V.alloc (.cells #[q] u)).alloc (.cells #[v0, v1, v2] t)).setCell ⟨V.heap.size, 0, none⟩ (.slice (some ⟨V.heap.size + 1, 0, none⟩) 3 3)) V.heap.size (V.heap.size + 1) v0 v1 v2 :=
  ⟨((Bx.new _ _ _ rfl).alloc _).set 0 _, (Bx.new _ _ _ (by simp)).oth (by omega) _ _, (blThenAlloc (blThenAlloc T _) _).setCell (p := ⟨V.heap.size, 0, none⟩) T.size _⟩
theorem Sw2.br2 {W0 V : World} {v0 v1 v2 : Value} (T : Below W0.heap.size W0 V) (t u : TypeId) :
    Sw2 W0 ((V.alloc (.cells #[.slice (some ⟨V.heap.size + 1, 0, none⟩) 3 3] u)).alloc (.cells #[v0, v1, v2] t)) V.heap.size (V.heap.size + 1) v0 v1 v2 :=
  ⟨(Bx.new _ _ _ rfl).alloc _, Bx.new _ _ _ (by simp), blThenAlloc (blThenAlloc T _) _⟩
theorem Rd.three {w : World} {B : Option Addr} {L : Nat} {xs : List Int} (h : Rd .i64 w B L xs) (hl : xs.length = 3) : ∃ b o, B = some ⟨b, o, none⟩ ∧ L = 3 ∧ w.cell? ⟨b, o, none⟩ = some (.int .i64 (xs.getD 0 0)) ∧ w.cell? ⟨b, o + 1, none⟩ = some (.int .i64 (xs.getD 1 0)) ∧ w.cell? ⟨b, o + 2, none⟩ = some (.int .i64 (xs.getD 2 0)) := by
  obtain rfl : L = 3 := by rw [← h.1, hl]
  obtain ⟨b, o, rfl, hc⟩ := h.2 (by omega)
  exact ⟨b, o, rfl, rfl, hc 0 (by omega), hc 1 (by omega), hc 2 (by omega)⟩
set_option maxRecDepth 100000 in
set_option maxHeartbeats 4000000 in
theorem walk (A : Option Addr) (n c : Nat) (xs : List Int) (bs : List Nat) (w : World) (h : Hd w (.ints .u8 xs) (.slice A n c) bs) (hu : U8s xs) :
    Calls Try.prog 8 #[.slice A n c] w fun e w' => e = .returned (.bool true) ∧ Below w.heap.size w w' := by
  have hm := Nat.le_trans h.caps.1 h.caps.2
  by_cases hbig : 1048576 < n
  · have hb' : decide ((1048576 : Int) < (n : Int)) = true := by simp; omega
    clear h
    go_enter Try.func8, Try.ntmps8
    go_wp2_with (go_at_call 17; refine (lwBig_any _ _ _ _ hm).mono ?_; rintro e w' ⟨rfl, rfl⟩)
    go_ret
    exact ⟨rfl, Below.refl _ _⟩
  have hb' : decide ((1048576 : Int) < (n : Int)) = false := by simp; omega
  have H : Hid (Code w A n xs) := ⟨h.rd, hu, by omega⟩
  clear h hu
  go_enter Try.func8, Try.ntmps8
  go_wp2_with (go_at_call 17; refine (lwBig_any _ _ _ _ hm).mono ?_; rintro e w' ⟨rfl, rfl⟩)
  clear hb' hm
  refine (drawApplyMatrix_any A n c xs _ H.out).mono ?_
  rintro e w1 ⟨G, k, cp, rs, P, m, d, ps, rfl, -, -, ⟨ms, hM⟩, ⟨gs, hV⟩, hb1⟩
  obtain ⟨W2, hW2⟩ : ∃ W2, W2 = w1.alloc (.cells #[.slice G k cp] 62) := ⟨_, rfl⟩
  have M2 : Hid (Hd W2 (rowsD rs) (.slice G k cp) ms) := by show Hd _ _ _ _; rw [hW2]; exact hM.alloc _
  have V2 : Hid (Hd W2 (.ints .i64 ps) (.slice P m d) gs) := by show Hd _ _ _ _; rw [hW2]; exact hV.alloc _
  have X2 : Hid (Bx W2 w1.heap.size [.slice G k cp]) := by show Bx _ _ _; rw [hW2]; exact Bx.new _ _ _ rfl
  have T2 : Hid (Below w.heap.size w W2) := by show Below _ _ _; rw [hW2]; exact blThenAlloc hb1 _
  have HW2 := Lib.hid hW2
  clear hM hV hb1 hW2
  go_wp2_with fail
  rw [← HW2.out]
  clear HW2
  obtain ⟨f, hf⟩ : ∃ f, f = apC rs ps := ⟨_, rfl⟩
  refine (ApplyMatrix_any G P k cp m d rs ps ms gs W2 M2.out V2.out).mono ?_
  rintro e w3 ⟨E, ne, ce, rfl, hoe, hbe⟩
  rw [← hf]
  obtain ⟨W4, hW4⟩ : ∃ W4, W4 = w3.alloc (.cells #[.int .i64 f, .slice E ne ce] 48) := ⟨_, rfl⟩
  have B24 : Below W2.heap.size W2 W4 := by rw [hW4]; exact blThenAlloc hbe _
  have E4 : Hid (Bx W4 w3.heap.size [.int .i64 f, .slice E ne ce]) := by show Bx _ _ _; rw [hW4]; exact Bx.new _ _ _ rfl
  have HE4 : Hid (∃ be, Hd W4 (.ints .i64 (apL rs ps)) (.slice E ne ce) be) := by
    obtain ⟨be, h⟩ := hoe.hd
    exact ⟨be, by rw [hW4]; exact h.alloc _⟩
  have M4 := Lib.hid (M2.out.bel B24)
  have V4 := Lib.hid (V2.out.bel B24)
  have X4 := Lib.hid (X2.out.bel B24)
  have T4 := Lib.hid (blThen T2.out B24)
  have HW4 := Lib.hid hW4
  have HFF := Lib.hid hf
  have CS : Hid (∀ W, Below W4.heap.size W4 W → Calls Try.prog 36 #[.agg #[.slice G k cp], .slice P m d] W (IAns W f (apL rs ps))) := fun W hW => by
    rw [hf]; exact sApplyMatrix_any G P k cp m d rs ps ms gs W (M4.out.bel hW) (V4.out.bel hW)
  clear hoe hbe B24 hW4 hf M2 V2 X2 T2
  have x0 := X4.out.c 0 rfl
  have e0 := E4.out.c 0 rfl
  have xl := cell_lt x0
  have el := cell_lt e0
  have fi := fun A n c W => run_fldI0 f A n c W
  go_wp2_with fail
  rw [← HW4.out]
  clear HW4
  go_region_held3 (fun w' => w'.cell? ⟨w1.heap.size, 0, none⟩ = some (.slice G k cp) ∧ w'.cell? ⟨w3.heap.size, 0, none⟩ = some (.int .i64 f)) (first | (with_reducible exact ⟨ca, cb⟩) | (with_reducible exact ⟨cell_later (Below.refl _ _).drew x0, cell_later (Below.refl _ _).drew e0⟩)) (first | (go_at_call 36; (with_reducible refine (CS.out _ (by repeat (first | (with_reducible exact (Below.refl W4.heap.size W4)) | (with_reducible refine Below.drew ?_)))).mono ?_); rintro e wa ⟨E1, e2, e3, rfl, -, hb⟩; have Ta := Lib.hid (show Below W4.heap.size W4 wa from blThen (by repeat (first | (with_reducible exact (Below.refl W4.heap.size W4)) | (with_reducible refine Below.drew ?_))) hb); have ca := cell_later Ta.out x0; have cb := cell_later Ta.out e0; clear hb))
  have TA := Lib.hid Ta.out
  have M5 := Lib.hid (M4.out.bel TA.out)
  have V5 := Lib.hid (V4.out.bel TA.out)
  have X5 := Lib.hid (X4.out.bel TA.out)
  have E5 := Lib.hid (E4.out.bel TA.out)
  have T5 := Lib.hid (blThen T4.out TA.out)
  have HE5 : Hid (∃ be, Hd wa (.ints .i64 (apL rs ps)) (.slice E ne ce) be) := by
    obtain ⟨be, h⟩ := HE4.out
    exact ⟨be, h.bel TA.out⟩
  clear ca cb Ta TA M4 V4 X4 E4 T4 HE4 CS fi x0 e0 xl el
  have x0 := X5.out.c 0 rfl
  have e0 := E5.out.c 0 rfl
  have e1 := E5.out.c 1 rfl
  have xl := cell_lt x0
  have el := cell_lt e0
  by_cases h0 : f = 0
  · obtain ⟨hmf, hlf⟩ := ap_zero (HFF.out.symm.trans h0)
    obtain ⟨x, y, z, q1, q2, q3⟩ := swp_ap hmf hlf
    have hdv := swp_detV hmf
    have hdb := detV_bd hmf
    have hms := swp_mf hmf
    obtain ⟨hl, hc1, hc2, hfm⟩ := M5.out.rows
    obtain rfl : 3 = k := by rw [← (mf_zero hmf).1]; exact hl
    obtain ⟨b, o, rfl, hr⟩ := hfm (by omega)
    obtain ⟨B0, L0, C0, g0, r0, d0, -⟩ := hr 0 (by omega)
    obtain ⟨B1, L1, C1, g1, r1, d1, -⟩ := hr 1 (by omega)
    obtain ⟨B2, L2, C2, g2, r2, d2, -⟩ := hr 2 (by omega)
    rw [Nat.add_zero] at r0
    have D0 := Lib.hid d0
    have D1 := Lib.hid d1
    have D2 := Lib.hid d2
    rw [q1] at HE5
    have HA := Lib.hid q2
    have HC := Lib.hid q3
    have HDV := Lib.hid hdv
    have HDB := Lib.hid hdb
    have HMF := Lib.hid hmf
    have HMS := Lib.hid hms
    have bl := cell_lt r0
    subst h0
    clear hl hr hfm d0 d1 d2 q1 q2 q3 hdv hdb hmf hlf hms HFF
    unfold maxLen at hc2
    go_wp2_with fail
    go_cut [6] from 33 to 46 (fun p wx => ∃ (b1 b2 : Nat), p = .pointer (some ⟨b1, 0, none⟩) ∧ Sw2 wa wx b1 b2 (.slice B1 L1 C1) (.slice B0 L0 C0) (.slice B2 L2 C2))
    case first =>
      go_region_held3 (fun w' => w'.cell? ⟨w1.heap.size, 0, none⟩ = some (.slice (some ⟨b, o, none⟩) 3 cp) ∧ w'.cell? ⟨b, o, none⟩ = some (.slice B0 L0 C0) ∧ w'.cell? ⟨b, o + 1, none⟩ = some (.slice B1 L1 C1) ∧ w'.cell? ⟨b, o + 2, none⟩ = some (.slice B2 L2 C2)) (refine ⟨?_, ?_, ?_, ?_⟩ <;> ((repeat (first | (with_reducible refine cell_s ?_ (by omega)) | (with_reducible refine cell_later (blAlloc _ _) ?_) | (with_reducible exact x0) | (with_reducible exact r0) | (with_reducible exact r1) | (with_reducible exact r2) | (with_reducible refine cell_later (Below.refl _ _).drew ?_))); done)) (fail)
      all_goals (try go_wp2_with fail)
      all_goals go_meet
      all_goals first
        | exact ⟨_, _, rfl, (Sw2.ra (Below.refl _ _) _ _).drew⟩
        | exact ⟨_, _, rfl, Sw2.ra (Below.refl _ _) _ _⟩
        | exact ⟨_, _, rfl, (Sw2.br (Below.refl _ _) _ _).drew⟩
        | exact ⟨_, _, rfl, Sw2.br (Below.refl _ _) _ _⟩
        | exact ⟨_, _, rfl, (Sw2.br2 (Below.refl _ _) _ _).drew⟩
        | exact ⟨_, _, rfl, Sw2.br2 (Below.refl _ _) _ _⟩
    case rest =>
      rename World => wx
      obtain ⟨s1, s2, rfl, O⟩ := hcut
      obtain ⟨ss, hS⟩ := hd_three (O.y.c 0 rfl) (O.y.c 1 rfl) (O.y.c 2 rfl) (D1.out.bel O.bl) (D0.out.bel O.bl) (D2.out.bel O.bl)
      have S6 : Hid (Hd wx (rowsD (swp rs)) (.slice (some ⟨s2, 0, none⟩) 3 3) ss) := hS
      have M6 := Lib.hid (M5.out.bel O.bl)
      have V6 := Lib.hid (V5.out.bel O.bl)
      have X6 := Lib.hid (X5.out.bel O.bl)
      have E6 := Lib.hid (E5.out.bel O.bl)
      have T6 := Lib.hid (blThen T5.out O.bl)
      have Y6 := Lib.hid O.x
      have HE6 : Hid (∃ be, Hd wx (.ints .i64 [x, y, z]) (.slice E ne ce) be) := by
        obtain ⟨be, h⟩ := HE5.out
        exact ⟨be, h.bel O.bl⟩
      clear hS O D0 D1 D2 M5 V5 X5 E5 T5 HE5 x0 e0 e1 xl el r0 r1 r2 bl
      have y0 := Y6.out.c 0 rfl
      have yl := cell_lt y0
      go_wp2_with fail
      refine (ApplyMatrix_any (some ⟨s2, 0, none⟩) P 3 3 m d (swp rs) ps ss gs wx S6.out V6.out).mono ?_
      rw [HA.out, HC.out]
      rintro e w7 ⟨F, nf, cf, rfl, hof, hbf⟩
      obtain ⟨W8, hW8⟩ : ∃ W8, W8 = w7.alloc (.cells #[.int .i64 0, .slice F nf cf] 48) := ⟨_, rfl⟩
      have B68 : Below wx.heap.size wx W8 := by rw [hW8]; exact blThenAlloc hbf _
      have F8 : Hid (Bx W8 w7.heap.size [.int .i64 0, .slice F nf cf]) := by show Bx _ _ _; rw [hW8]; exact Bx.new _ _ _ rfl
      have HF8 : Hid (∃ be, Hd W8 (.ints .i64 [y, x, z]) (.slice F nf cf) be) := by
        obtain ⟨be, h⟩ := hof.hd
        exact ⟨be, by rw [hW8]; exact h.alloc _⟩
      have S8 := Lib.hid (S6.out.bel B68)
      have M8 := Lib.hid (M6.out.bel B68)
      have X8 := Lib.hid (X6.out.bel B68)
      have Y8 := Lib.hid (Y6.out.bel B68)
      have E8 := Lib.hid (E6.out.bel B68)
      have T8 := Lib.hid (blThen T6.out B68)
      have HE8 : Hid (∃ be, Hd W8 (.ints .i64 [x, y, z]) (.slice E ne ce) be) := by
        obtain ⟨be, h⟩ := HE6.out
        exact ⟨be, h.bel B68⟩
      have HW8 := Lib.hid hW8
      clear hof hbf B68 hW8 S6 M6 V6 X6 Y6 E6 T6 HE6 y0 yl
      obtain ⟨u1, hu1⟩ := HE8.out
      obtain ⟨u2, hu2⟩ := HF8.out
      obtain rfl : ne = 3 := by have := hu1.rd.1; simpa using this.symm
      obtain rfl : nf = 3 := by have := hu2.rd.1; simpa using this.symm
      obtain ⟨bE, oE, rfl, -, t0, t1, t2⟩ := Rd.three hu1.rd rfl
      have t0' : W8.cell? ⟨bE, oE, none⟩ = some (.int .i64 x) := t0
      have t1' : W8.cell? ⟨bE, oE + 1, none⟩ = some (.int .i64 y) := t1
      have t2' : W8.cell? ⟨bE, oE + 2, none⟩ = some (.int .i64 z) := t2
      have RF := Lib.hid hu2.rd
      have x0 := X8.out.c 0 rfl
      have y0 := Y8.out.c 0 rfl
      have e1 := E8.out.c 1 rfl
      have f0 := F8.out.c 0 rfl
      have f1 := F8.out.c 1 rfl
      have fv := fun v W => run_fldV 0 v W
      have hcE := hu1.caps
      unfold maxLen at hcE
      clear hu1 hu2 t0 t1 t2
      obtain ⟨dm, hdm⟩ : ∃ dm, dm = detV rs := ⟨_, rfl⟩
      have hdb := HDB.out
      rw [← hdm] at hdb
      have iw : IntKind.i64.wrap (-dm) = -dm := IntWalk.i64_in _ (by omega)
      have CD1 : Hid (∀ W, Below W8.heap.size W8 W → Calls Try.prog 39 #[.agg #[.slice (some ⟨b, o, none⟩) 3 cp]] W fun e w' => e = .returned (.agg #[.int .i64 0, .int .i64 dm]) ∧ Below W.heap.size W w') := fun W hW => by
        have := DetOf_any _ _ _ rs ms W (M8.out.bel hW)
        rw [HMF.out, ← hdm] at this
        exact this
      have CD2 : Hid (∀ W, Below W8.heap.size W8 W → Calls Try.prog 39 #[.agg #[.slice (some ⟨s2, 0, none⟩) 3 3]] W fun e w' => e = .returned (.agg #[.int .i64 0, .int .i64 (-dm)]) ∧ Below W.heap.size W w') := fun W hW => by
        have := DetOf_any _ _ _ (swp rs) ss W (S8.out.bel hW)
        rw [HMS.out, HDV.out, ← hdm] at this
        exact this
      have CL : Hid (∀ W, Below W8.heap.size W8 W → Rd .i64 W (some ⟨W8.heap.size, 0, none⟩) 3 [y, x, z] → Calls Try.prog 21 #[.slice F 3 cf, .slice (some ⟨W8.heap.size, 0, none⟩) 3 3] W fun e w' => e = .returned (.bool true) ∧ ∃ m, w' = W.drewN m) := fun W hW hR => lwNums_same F _ 3 3 cf 3 [y, x, z] W (RF.out.below hW) hR (by omega)
      have HRd : Hid (∀ W, Below W8.heap.size W8 W → W.heap.size = W8.heap.size → Rd .i64 (W.alloc (.cells #[.int .i64 y, .int .i64 x, .int .i64 z] 2)) (some ⟨W8.heap.size, 0, none⟩) 3 [y, x, z]) := fun W _ hz => by rw [← hz]; exact rd_lit W [y, x, z] 2
      clear hdm hdb HDB HDV HMF HMS HA HC
      go_wp2_with fail
      rw [← HW8.out]
      clear HW8
      go_region_held3 (fun w' => w'.cell? ⟨w1.heap.size, 0, none⟩ = some (.slice (some ⟨b, o, none⟩) 3 cp) ∧ w'.cell? ⟨s1, 0, none⟩ = some (.slice (some ⟨s2, 0, none⟩) 3 3) ∧ w'.cell? ⟨w3.heap.size, 1, none⟩ = some (.slice (some ⟨bE, oE, none⟩) 3 ce) ∧ w'.cell? ⟨w7.heap.size, 0, none⟩ = some (.int .i64 0) ∧ w'.cell? ⟨w7.heap.size, 1, none⟩ = some (.slice F 3 cf) ∧ w'.cell? ⟨bE, oE, none⟩ = some (.int .i64 x) ∧ w'.cell? ⟨bE, oE + 1, none⟩ = some (.int .i64 y) ∧ w'.cell? ⟨bE, oE + 2, none⟩ = some (.int .i64 z)) (refine ⟨?_, ?_, ?_, ?_, ?_, ?_, ?_, ?_⟩ <;> ((repeat (first | (with_reducible exact x0) | (with_reducible exact y0) | (with_reducible exact e1) | (with_reducible exact f0) | (with_reducible exact f1) | (with_reducible exact t0') | (with_reducible exact t1') | (with_reducible exact t2') | (with_reducible refine cell_later (blAlloc _ _) ?_) | (with_reducible refine cell_later Tc.out ?_) | (with_reducible refine cell_later Tb.out ?_) | (with_reducible refine cell_later Ta.out ?_) | (with_reducible refine cell_later (Below.refl _ _).drew ?_))); done)) (first | (go_at_call 21; (with_reducible refine (CL.out _ (by repeat (first | (with_reducible exact (Below.refl W8.heap.size W8)) | (with_reducible exact Tb.out) | (with_reducible exact Ta.out) | (with_reducible refine blThenAlloc ?_ _) | (with_reducible refine Below.drew ?_))) (by first | (with_reducible exact HRd.out _ (Below.refl _ _) rfl) | (with_reducible exact (HRd.out _ (Below.refl _ _) rfl).below (Below.refl _ _).drew))).mono ?_); rintro e wl ⟨rfl, ml, hwl⟩; have Ta := Lib.hid (show Below W8.heap.size W8 wl from (by rw [hwl]; exact blThenDrew (by repeat (first | (with_reducible exact (Below.refl W8.heap.size W8)) | (with_reducible exact Tb.out) | (with_reducible exact Ta.out) | (with_reducible refine blThenAlloc ?_ _) | (with_reducible refine Below.drew ?_))) _)); clear hwl) | (go_at_call 39; (with_reducible refine (CD2.out _ (by repeat (first | (with_reducible exact (Below.refl W8.heap.size W8)) | (with_reducible exact Tb.out) | (with_reducible exact Ta.out) | (with_reducible refine blThenAlloc ?_ _) | (with_reducible refine Below.drew ?_)))).mono ?_); rintro e wm ⟨rfl, hb⟩; have Tb := Lib.hid (show Below W8.heap.size W8 wm from blThen (by repeat (first | (with_reducible exact (Below.refl W8.heap.size W8)) | (with_reducible exact Tb.out) | (with_reducible exact Ta.out) | (with_reducible refine blThenAlloc ?_ _) | (with_reducible refine Below.drew ?_))) hb); clear hb) | (go_at_call 39; (with_reducible refine (CD1.out _ (by repeat (first | (with_reducible exact (Below.refl W8.heap.size W8)) | (with_reducible exact Tb.out) | (with_reducible exact Ta.out) | (with_reducible refine blThenAlloc ?_ _) | (with_reducible refine Below.drew ?_)))).mono ?_); rintro e wn ⟨rfl, hb⟩; have Tc := Lib.hid (show Below W8.heap.size W8 wn from blThen (by repeat (first | (with_reducible exact (Below.refl W8.heap.size W8)) | (with_reducible exact Tb.out) | (with_reducible exact Ta.out) | (with_reducible refine blThenAlloc ?_ _) | (with_reducible refine Below.drew ?_))) hb); clear hb))
      all_goals
        go_wp2_with fail
        go_ret
        exact ⟨rfl, blThen T8.out Tc.out⟩
  · have hqn : (f == 0) = false := by simpa using h0
    obtain ⟨g, hg⟩ : ∃ g, g = mf rs := ⟨_, rfl⟩
    have C1 : Hid (∀ W, Below wa.heap.size wa W → Calls Try.prog 37 #[.agg #[.slice G k cp]] W fun e w' => e = .returned (.int .i64 g) ∧ Below W.heap.size W w') := fun W hW => by
      rw [hg]; exact MatrixFault_any G k cp rs ms W (M5.out.bel hW)
    have C2 : Hid (∀ W, Below wa.heap.size wa W → Calls Try.prog 38 #[.agg #[.slice G k cp]] W fun e w' => e = .returned (.int .i64 g) ∧ Below W.heap.size W w') := fun W hW => by
      rw [hg]; exact sMatrixFault_any G k cp rs ms W (M5.out.bel hW)
    clear hg
    go_wp2_with fail
    go_region_held3 (fun w' => w'.cell? ⟨w1.heap.size, 0, none⟩ = some (.slice G k cp)) (first | (with_reducible exact cc) | (with_reducible exact ca) | (with_reducible exact cell_later (Below.refl _ _).drew x0)) (first | (go_at_call 37; (with_reducible refine (C1.out _ (by repeat (first | (with_reducible exact (Below.refl wa.heap.size wa)) | (with_reducible exact Tc.out) | (with_reducible refine Below.drew ?_)))).mono ?_); rintro e wb ⟨rfl, hb⟩; have Ta := Lib.hid (show Below wa.heap.size wa wb from blThen (by repeat (first | (with_reducible exact (Below.refl wa.heap.size wa)) | (with_reducible exact Tc.out) | (with_reducible refine Below.drew ?_))) hb); have ca := cell_later Ta.out x0; clear hb) | (go_at_call 38; (with_reducible refine (C2.out _ (by repeat (first | (with_reducible exact (Below.refl wa.heap.size wa)) | (with_reducible exact Ta.out) | (with_reducible refine Below.drew ?_)))).mono ?_); rintro e wc ⟨rfl, hb⟩; have Tc := Lib.hid (show Below wa.heap.size wa wc from blThen (by repeat (first | (with_reducible exact (Below.refl wa.heap.size wa)) | (with_reducible exact Ta.out) | (with_reducible refine Below.drew ?_))) hb); have cc := cell_later Tc.out x0; clear hb))
    all_goals
      go_wp2_with fail
      go_ret
      first
        | exact ⟨rfl, blThen T5.out Tc.out⟩
        | exact ⟨rfl, blThen T5.out Ta.out⟩

set_option maxRecDepth 100000 in
theorem lifted (os : Os) (started : os.Started) (H : Type) (enc : TypeId × Value → H) :
    ReturnsInHanded {} Try.checked os 8 .any (Rows.fnSwapsSpec.pre6 enc Try.prog Try.f8 Rows.fnSwapsRow.domain false) (Rows.fnSwapsSpec.post enc Try.prog Try.f8 false true false false) := by
  refine returnsInHanded_of_change (C := Try.checked) own started (by kernel_rfl) Try.func8
    (ChangeSpec.witness6 (enc := enc) (C := Try.checked) false ⟨#[], #[.slice none 0 0], []⟩ 8 (by kernel_rfl) (by kernel_rfl) (by kernel_rfl) (by kernel_rfl)) ?_
  intro W base args ds gs before hval0 hW hcnd _
  have hval : ∀ (j : Nat) t v, Try.f8.params[j]? = some t → args[j]? = some v → Value.okWide Try.prog W .any base t v := hval0
  have hW' := hW
  obtain ⟨p, q, hA0, hV0, rfl, hfz, hnd⟩ := hW
  have hA : DataW.TrodAll enc Try.prog W 0 (fun _ => true) true Try.f8.params.toList args.toList ds p := hA0
  have hV : DataW.TrodVars enc Try.prog W (fun _ => true) [] gs q := hV0
  rw [Try.params8] at hA hval
  obtain ⟨v0, vs0, d0, ds0, p0, q0, hargs, rfl, rfl, h0, r0⟩ := trodAll_cons hA
  obtain ⟨rfl, rfl, rfl⟩ := trodAll_nil r0
  obtain rfl : args = #[v0] := by cases args; simp_all
  obtain ⟨rfl, rfl⟩ : gs = [] ∧ q = [] := by
    cases gs with
    | nil => exact ⟨rfl, hV⟩
    | cons g r => exact absurd hV (by intro h; cases h)
  have k0 := h0
  have lt0 : ∀ x ∈ p0, x.block < W.heap.size := by obtain ⟨m, hm⟩ := k0; exact DataW.trod_lt m _ _ _ hm
  obtain ⟨a0, n0, c0, xs0, bs0, rfl, hd0, u0⟩ := open_bytes (hval 0 38 v0 rfl rfl) h0
  clear hA0 hval0
  refine (walk a0 n0 c0 xs0 bs0 W hd0 u0).mono fun e W' ⟨he, bel⟩ => ?_
  subst he
  exact ⟨_, rfl, _, _, _, [], _, [], hW', trodAll_mk1 (shut_bool Try.underlying4 _), (trodAll_cons_mk (Below.trod laidOut (by kernel_rfl) (of_decide_eq_true (by kernel_rfl)) k0 bel lt0) trodAll_mk0), rfl, bel.frame _, fun h => by cases h⟩

theorem row_holds : Rows.FnSwapsSaid :=
  OpenClaim.holds_of_wide 8 Try.f8 rfl rfl rfl rfl rfl rfl rfl ⟨rfl, rfl, rfl, rfl, rfl⟩ rfl rfl rfl rfl rfl (by kernel_rfl) Try.func8 (by kernel_rfl)
    (of_decide_eq_true (by kernel_rfl)) (by unfold Func.isWrapper; rw [if_neg (of_decide_eq_false (by kernel_rfl))]; exact ⟨rfl, rfl⟩)
    (fun os started H enc _ => lifted os started H enc)

theorem proved : Rows.FnSwapsSaid := row_holds
#print axioms proved

end Go.Proofs.Ytlfdpambbgddoaa.lSwaps
