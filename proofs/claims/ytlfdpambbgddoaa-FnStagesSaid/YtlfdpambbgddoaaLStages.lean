/-
  Proved: whatever the bytes draw, EvalStage and StageFault answer with the codes of their reference models, and a stage tells what its curves, its matrix or its grid tell (the law FnStages returns true), and the argument reads afterwards as it read before. Conditions: none.
-/
import Derived.Test.YtlfdpambbgddoaaOpenA
import Derived.Test.YtlfdpambbgddoaaDrawS
import Derived.Test.YtlfdpambbgddoaaEvM
import Derived.Test.YtlfdpambbgddoaaMatQ
import Derived.Test.YtlfdpambbgddoaaLwN
import Derived.Test.YtlfdpambbgddoaaBaseA
import Derived.Deep.RegionHeld3
namespace Go.Proofs.Ytlfdpambbgddoaa.lStages
open Go.ChangeShapes Go.WideShapes Go.ChangeAt Go.RowKit
set_option linter.unusedVariables false
set_option linter.unusedSimpArgs false

theorem run_fldI0 (a : Int) (A : Option Addr) (n c : Nat) (W : World) : (Instr.field 48 (.agg #[.int .i64 a, .slice A n c]) 0).run Try.prog W = .ok (.int .i64 a) W := by kernel_rfl
theorem run_fldI (a : Int) (A : Option Addr) (n c : Nat) (W : World) : (Instr.field 48 (.agg #[.int .i64 a, .slice A n c]) 1).run Try.prog W = .ok (.slice A n c) W := by kernel_rfl
theorem run_fldV (a b : Int) (W : World) : (Instr.field 23 (.agg #[.int .i64 a, .int .i64 b]) 1).run Try.prog W = .ok (.int .i64 b) W := by kernel_rfl
theorem Rd.three {w : World} {B : Option Addr} {L : Nat} {xs : List Int} (h : Rd .i64 w B L xs) (hl : xs.length = 3) : ∃ b o, B = some ⟨b, o, none⟩ ∧ L = 3 ∧ w.cell? ⟨b, o, none⟩ = some (.int .i64 (xs.getD 0 0)) ∧ w.cell? ⟨b, o + 1, none⟩ = some (.int .i64 (xs.getD 1 0)) ∧ w.cell? ⟨b, o + 2, none⟩ = some (.int .i64 (xs.getD 2 0)) := by
  obtain rfl : L = 3 := by rw [← h.1, hl]
  obtain ⟨b, o, rfl, hc⟩ := h.2 (by omega)
  exact ⟨b, o, rfl, rfl, hc 0 (by omega), hc 1 (by omega), hc 2 (by omega)⟩
theorem es_zero {t : Stg} {xs : List Int} (h : esC 1 t xs = 0) : sgf t = 0 ∧ lf xs = 0 := by
  unfold esC at h
  split at h
  · rename_i h1; exact ⟨h1, by rw [← lfo_1]; exact h⟩
  · rename_i h1; exact absurd h h1
theorem evS_c {t : Stg} {xs : List Int} (kd : t.kd = 1) (hc : crF t.cs = 0) (hl : lf xs = 0) {i : Nat} (hi : i < 3) : evC (rw_ t.cs i) (xs.getD i 0) = 0 ∧ evV (rw_ t.cs i) (xs.getD i 0) = evS 1 t (xs.getD · 0) i := by
  have hcf := (crF_fine hc).2 i hi
  have hv := (lf_zero hl).2 i hi
  have e : evC (rw_ t.cs i) (xs.getD i 0) = 0 := by
    unfold evC
    rw [if_neg (by omega), if_neg (by rw [hv]; simp)]
  refine ⟨e, ?_⟩
  unfold evV evS
  rw [if_pos e, if_pos kd, cevo_1]
theorem evS_m {t : Stg} {xs : List Int} (kd : t.kd = 2) (hm : mf t.rs = 0) (hl : lf xs = 0) : apL t.rs xs = [evS 1 t (xs.getD · 0) 0, evS 1 t (xs.getD · 0) 1, evS 1 t (xs.getD · 0) 2] := by
  have HV : ∀ i, apV (fl t.rs) (xs.getD · 0) i = evS 1 t (xs.getD · 0) i := fun i => by unfold evS; rw [if_neg (by omega), if_pos kd, apK_1]
  rw [(ap_y hm hl).2, HV, HV, HV]
theorem evS_g {t : Stg} {xs : List Int} (kd : t.kd = 3) (hm : gf t.sd t.ns = 0) (hl : lf xs = 0) : egL t.sd t.ns xs = [evS 1 t (xs.getD · 0) 0, evS 1 t (xs.getD · 0) 1, evS 1 t (xs.getD · 0) 2] := by
  have HV : ∀ i, gvl t.sd t.ns (xs.getD · 0) i = evS 1 t (xs.getD · 0) i := fun i => by unfold evS; rw [if_neg (by omega), if_neg (by omega), gvo_1]
  rw [← HV, ← HV, ← HV]
  unfold egL
  rw [if_pos ⟨hm, hl⟩]
set_option maxRecDepth 100000 in
set_option maxHeartbeats 4000000 in
theorem walk (A : Option Addr) (n c : Nat) (xs : List Int) (bs : List Nat) (w : World) (h : Hd w (.ints .u8 xs) (.slice A n c) bs) (hu : U8s xs) :
    Calls Try.prog 7 #[.slice A n c] w fun e w' => e = .returned (.bool true) ∧ Below w.heap.size w w' := by
  have hm := Nat.le_trans h.caps.1 h.caps.2
  by_cases hbig : 1048576 < n
  · have hb' : decide ((1048576 : Int) < (n : Int)) = true := by simp; omega
    clear h
    go_enter Try.func7, Try.ntmps7
    go_wp2_with (go_at_call 17; refine (lwBig_any _ _ _ _ hm).mono ?_; rintro e w' ⟨rfl, rfl⟩)
    go_ret
    exact ⟨rfl, Below.refl _ _⟩
  have hb' : decide ((1048576 : Int) < (n : Int)) = false := by simp; omega
  have H : Hid (Code w A n xs) := ⟨h.rd, hu, by omega⟩
  clear h hu
  go_enter Try.func7, Try.ntmps7
  go_wp2_with (go_at_call 17; refine (lwBig_any _ _ _ _ hm).mono ?_; rintro e w' ⟨rfl, rfl⟩)
  clear hb' hm
  refine (drawEvalStage_any A n c xs _ H.out).mono ?_
  rintro e w1 ⟨t, A1, n1, c1, A2, n2, c2, A3, n3, c3, P, m, d, ps, rfl, hst, ⟨gs, hV⟩, hb1⟩
  obtain ⟨W2, hW2⟩ : ∃ W2, W2 = w1.alloc (.cells #[.int .i64 t.kd, .slice A1 n1 c1, .slice A2 n2 c2, .int .i64 t.sd, .slice A3 n3 c3] 64) := ⟨_, rfl⟩
  have M2 : Hid (HdSt W2 t A1 n1 c1 A2 n2 c2 A3 n3 c3) := by show HdSt _ _ _ _ _ _ _ _ _ _ _; rw [hW2]; exact hst.alloc _
  have V2 : Hid (Hd W2 (.ints .i64 ps) (.slice P m d) gs) := by show Hd _ _ _ _; rw [hW2]; exact hV.alloc _
  have X2 : Hid (Bx W2 w1.heap.size [.int .i64 t.kd, .slice A1 n1 c1, .slice A2 n2 c2, .int .i64 t.sd, .slice A3 n3 c3]) := by show Bx _ _ _; rw [hW2]; exact Bx.new _ _ _ rfl
  have T2 : Hid (Below w.heap.size w W2) := by show Below _ _ _; rw [hW2]; exact blThenAlloc hb1 _
  have HW2 := Lib.hid hW2
  clear hst hV hb1 hW2
  go_wp2_with fail
  rw [← HW2.out]
  clear HW2
  obtain ⟨f, hf⟩ : ∃ f, f = esC 1 t ps := ⟨_, rfl⟩
  refine (EvalStage_any t A1 n1 c1 A2 n2 c2 A3 n3 c3 P m d ps gs W2 M2.out V2.out).mono ?_
  rintro e w3 ⟨E, ne, ce, rfl, hoe, hbe⟩
  rw [← hf]
  obtain ⟨W4, hW4⟩ : ∃ W4, W4 = w3.alloc (.cells #[.int .i64 f, .slice E ne ce] 48) := ⟨_, rfl⟩
  have B24 : Below W2.heap.size W2 W4 := by rw [hW4]; exact blThenAlloc hbe _
  have E4 : Hid (Bx W4 w3.heap.size [.int .i64 f, .slice E ne ce]) := by show Bx _ _ _; rw [hW4]; exact Bx.new _ _ _ rfl
  have HE4 : Hid (∃ be, Hd W4 (.ints .i64 (esL 1 t ps)) (.slice E ne ce) be) := by
    obtain ⟨be, h⟩ := hoe.hd
    exact ⟨be, by rw [hW4]; exact h.alloc _⟩
  have M4 := Lib.hid (M2.out.bel B24)
  have V4 := Lib.hid (V2.out.bel B24)
  have X4 := Lib.hid (X2.out.bel B24)
  have T4 := Lib.hid (blThen T2.out B24)
  have HW4 := Lib.hid hW4
  have HFF := Lib.hid hf
  have CS : Hid (∀ W, Below W4.heap.size W4 W → Calls Try.prog 30 #[.agg #[.int .i64 t.kd, .slice A1 n1 c1, .slice A2 n2 c2, .int .i64 t.sd, .slice A3 n3 c3], .slice P m d] W (IAns W f (esL 1 t ps))) := fun W hW => by
    rw [hf]; exact sEvalStage_any t A1 n1 c1 A2 n2 c2 A3 n3 c3 P m d ps gs W (M4.out.bel hW) (V4.out.bel hW)
  obtain ⟨g, hg⟩ : ∃ g, g = sgf t := ⟨_, rfl⟩
  have C1 : Hid (∀ W, Below W4.heap.size W4 W → Calls Try.prog 31 #[.agg #[.int .i64 t.kd, .slice A1 n1 c1, .slice A2 n2 c2, .int .i64 t.sd, .slice A3 n3 c3]] W fun e w' => e = .returned (.int .i64 g) ∧ Below W.heap.size W w') := fun W hW => by
    rw [hg]; exact StageFault_any t A1 n1 c1 A2 n2 c2 A3 n3 c3 W (M4.out.bel hW)
  have C2 : Hid (∀ W, Below W4.heap.size W4 W → Calls Try.prog 32 #[.agg #[.int .i64 t.kd, .slice A1 n1 c1, .slice A2 n2 c2, .int .i64 t.sd, .slice A3 n3 c3]] W fun e w' => e = .returned (.int .i64 g) ∧ Below W.heap.size W w') := fun W hW => by
    rw [hg]; exact sStageFault_any t A1 n1 c1 A2 n2 c2 A3 n3 c3 W (M4.out.bel hW)
  clear hoe hbe B24 hW4 hf hg M2 V2 X2 T2
  have x0 := X4.out.c 0 rfl
  have x1 := X4.out.c 1 rfl
  have x2 := X4.out.c 2 rfl
  have x3 := X4.out.c 3 rfl
  have x4 := X4.out.c 4 rfl
  have e0 := E4.out.c 0 rfl
  have xl := cell_lt x0
  have el := cell_lt e0
  have fi := fun A n c W => run_fldI0 f A n c W
  go_wp2_with fail
  rw [← HW4.out]
  clear HW4
  go_region_held3 (fun w' => w'.cell? ⟨w1.heap.size, 0, none⟩ = some (.int .i64 t.kd) ∧ w'.cell? ⟨w1.heap.size, 1, none⟩ = some (.slice A1 n1 c1) ∧ w'.cell? ⟨w1.heap.size, 2, none⟩ = some (.slice A2 n2 c2) ∧ w'.cell? ⟨w1.heap.size, 3, none⟩ = some (.int .i64 t.sd) ∧ w'.cell? ⟨w1.heap.size, 4, none⟩ = some (.slice A3 n3 c3) ∧ w'.cell? ⟨w3.heap.size, 0, none⟩ = some (.int .i64 f)) (refine ⟨?_, ?_, ?_, ?_, ?_, ?_⟩ <;> ((repeat (first | (with_reducible exact x0) | (with_reducible exact x1) | (with_reducible exact x2) | (with_reducible exact x3) | (with_reducible exact x4) | (with_reducible exact e0) | (with_reducible refine cell_later Td.out ?_) | (with_reducible refine cell_later Tc.out ?_) | (with_reducible refine cell_later Tb.out ?_) | (with_reducible refine cell_later Ta.out ?_) | (with_reducible refine cell_later (blAlloc _ _) ?_) | (with_reducible refine cell_later (Below.refl _ _).drew ?_))); done)) (first | (go_at_call 30; (with_reducible refine (CS.out _ (by repeat (first | (with_reducible exact (Below.refl W4.heap.size W4)) | (with_reducible exact Tc.out) | (with_reducible exact Tb.out) | (with_reducible exact Ta.out) | (with_reducible refine blThenAlloc ?_ _) | (with_reducible refine Below.drew ?_)))).mono ?_); rintro e wa ⟨E1, e2, e3, rfl, -, hb⟩; have Ta := Lib.hid (show Below W4.heap.size W4 wa from blThen (by repeat (first | (with_reducible exact (Below.refl W4.heap.size W4)) | (with_reducible exact Tc.out) | (with_reducible exact Tb.out) | (with_reducible exact Ta.out) | (with_reducible refine blThenAlloc ?_ _) | (with_reducible refine Below.drew ?_))) hb); clear hb) | (go_at_call 31; (with_reducible refine (C1.out _ (by repeat (first | (with_reducible exact (Below.refl W4.heap.size W4)) | (with_reducible exact Tc.out) | (with_reducible exact Tb.out) | (with_reducible exact Ta.out) | (with_reducible refine blThenAlloc ?_ _) | (with_reducible refine Below.drew ?_)))).mono ?_); rintro e wb ⟨rfl, hb⟩; have Tb := Lib.hid (show Below W4.heap.size W4 wb from blThen (by repeat (first | (with_reducible exact (Below.refl W4.heap.size W4)) | (with_reducible exact Tc.out) | (with_reducible exact Tb.out) | (with_reducible exact Ta.out) | (with_reducible refine blThenAlloc ?_ _) | (with_reducible refine Below.drew ?_))) hb); clear hb) | (go_at_call 32; (with_reducible refine (C2.out _ (by repeat (first | (with_reducible exact (Below.refl W4.heap.size W4)) | (with_reducible exact Tc.out) | (with_reducible exact Tb.out) | (with_reducible exact Ta.out) | (with_reducible refine blThenAlloc ?_ _) | (with_reducible refine Below.drew ?_)))).mono ?_); rintro e wc ⟨rfl, hb⟩; have Tc := Lib.hid (show Below W4.heap.size W4 wc from blThen (by repeat (first | (with_reducible exact (Below.refl W4.heap.size W4)) | (with_reducible exact Tc.out) | (with_reducible exact Tb.out) | (with_reducible exact Ta.out) | (with_reducible refine blThenAlloc ?_ _) | (with_reducible refine Below.drew ?_))) hb); clear hb))
  have M5 := Lib.hid (M4.out.bel Tc.out)
  have V5 := Lib.hid (V4.out.bel Tc.out)
  have X5 := Lib.hid (X4.out.bel Tc.out)
  have E5 := Lib.hid (E4.out.bel Tc.out)
  have T5 := Lib.hid (blThen T4.out Tc.out)
  have HE5 : Hid (∃ be, Hd wc (.ints .i64 (esL 1 t ps)) (.slice E ne ce) be) := by
    obtain ⟨be, h⟩ := HE4.out
    exact ⟨be, h.bel Tc.out⟩
  clear Ta Tb Tc M4 V4 X4 E4 T4 HE4 CS C1 C2 fi x0 x1 x2 x3 x4 e0 xl el
  by_cases h0 : f = 0
  · obtain ⟨hsg, hlf⟩ := es_zero (HFF.out.symm.trans h0)
    have hes := (es_y (o := 1) hsg hlf).2
    obtain ⟨y0, y1, y2, hy⟩ : ∃ y0 y1 y2, y0 = evS 1 t (ps.getD · 0) 0 ∧ y1 = evS 1 t (ps.getD · 0) 1 ∧ y2 = evS 1 t (ps.getD · 0) 2 := ⟨_, _, _, rfl, rfl, rfl⟩
    rw [hes, ← hy.1, ← hy.2.1, ← hy.2.2] at HE5
    obtain ⟨be, hbe⟩ := HE5.out
    obtain rfl : ne = 3 := by have := hbe.rd.1; simpa using this.symm
    have RE := Lib.hid hbe.rd
    subst h0
    have e1 := E5.out.c 1 rfl
    have e0 := E5.out.c 0 rfl
    have el := cell_lt e1
    obtain ⟨-, ⟨kd, hff⟩ | ⟨kd, hff⟩ | ⟨kd, hff⟩⟩ := sgf_zero hsg
    · obtain ⟨ab, hA⟩ := M5.out.a
      have hcl := (crF_fine hff).1
      obtain ⟨hl, hc1, hc2, hfm⟩ := hA.rows
      obtain rfl : 3 = n1 := by rw [← hcl]; exact hl
      obtain ⟨b, o, rfl, hr⟩ := hfm (by omega)
      obtain ⟨B0, L0, K0, g0, r0, d0, -⟩ := hr 0 (by omega)
      obtain ⟨B1, L1, K1, g1, r1, d1, -⟩ := hr 1 (by omega)
      obtain ⟨B2, L2, K2, g2, r2, d2, -⟩ := hr 2 (by omega)
      rw [Nat.add_zero] at r0
      obtain ⟨p0, p1, p2, hps⟩ : ∃ p0 p1 p2, ps = [p0, p1, p2] := by
        match ps, (lf_zero hlf).1 with
        | [a, b, c], _ => exact ⟨a, b, c, rfl⟩
      obtain ⟨v0, v0'⟩ := evS_c kd hff hlf (i := 0) (by omega)
      obtain ⟨v1, v1'⟩ := evS_c kd hff hlf (i := 1) (by omega)
      obtain ⟨v2, v2'⟩ := evS_c kd hff hlf (i := 2) (by omega)
      rw [← hy.1] at v0'
      rw [← hy.2.1] at v1'
      rw [← hy.2.2] at v2'
      subst hps
      have CE0 : Hid (∀ W, Below wc.heap.size wc W → Calls Try.prog 33 #[.agg #[.slice B0 L0 K0], .int .i64 p0] W fun e w' => e = .returned (.agg #[.int .i64 0, .int .i64 y0]) ∧ Below W.heap.size W w') := fun W hW => by
        have := EvalCurve_any B0 L0 K0 (rw_ t.cs 0) p0 W (d0.rd.below hW) (Nat.le_trans d0.caps.1 d0.caps.2)
        rw [show evC (rw_ t.cs 0) p0 = 0 from v0, show evV (rw_ t.cs 0) p0 = y0 from v0'] at this
        exact this
      have CE1 : Hid (∀ W, Below wc.heap.size wc W → Calls Try.prog 33 #[.agg #[.slice B1 L1 K1], .int .i64 p1] W fun e w' => e = .returned (.agg #[.int .i64 0, .int .i64 y1]) ∧ Below W.heap.size W w') := fun W hW => by
        have := EvalCurve_any B1 L1 K1 (rw_ t.cs 1) p1 W (d1.rd.below hW) (Nat.le_trans d1.caps.1 d1.caps.2)
        rw [show evC (rw_ t.cs 1) p1 = 0 from v1, show evV (rw_ t.cs 1) p1 = y1 from v1'] at this
        exact this
      have CE2 : Hid (∀ W, Below wc.heap.size wc W → Calls Try.prog 33 #[.agg #[.slice B2 L2 K2], .int .i64 p2] W fun e w' => e = .returned (.agg #[.int .i64 0, .int .i64 y2]) ∧ Below W.heap.size W w') := fun W hW => by
        have := EvalCurve_any B2 L2 K2 (rw_ t.cs 2) p2 W (d2.rd.below hW) (Nat.le_trans d2.caps.1 d2.caps.2)
        rw [show evC (rw_ t.cs 2) p2 = 0 from v2, show evV (rw_ t.cs 2) p2 = y2 from v2'] at this
        exact this
      obtain ⟨bV, oV, rfl, rfl, u0, u1, u2⟩ := Rd.three V5.out.rd rfl
      have u0' : wc.cell? ⟨bV, oV, none⟩ = some (.int .i64 p0) := u0
      have u1' : wc.cell? ⟨bV, oV + 1, none⟩ = some (.int .i64 p1) := u1
      have u2' : wc.cell? ⟨bV, oV + 2, none⟩ = some (.int .i64 p2) := u2
      have hcV := V5.out.caps
      have kb1 : (t.kd == 1) = true := by simp [kd]
      have HRd : Hid (∀ W : World, Rd .i64 (W.alloc (.cells #[.int .i64 y0, .int .i64 y1, .int .i64 y2] 2)) (some ⟨W.heap.size, 0, none⟩) 3 [y0, y1, y2]) := fun W => rd_lit W [y0, y1, y2] 2
      have x0 := X5.out.c 0 rfl
      have x1 := X5.out.c 1 rfl
      have xl := cell_lt x0
      have fv := fun v W => run_fldV 0 v W
      unfold maxLen at hc2 hcV
      clear hA hcl hl hfm hr d0 d1 d2 v0 v0' v1 v1' v2 v2' hy hes hsg hlf kd hff HFF HE5 hbe u0 u1 u2 M5 V5
      go_wp2_with fail
      go_region_held3 (fun w' => w'.cell? ⟨w1.heap.size, 1, none⟩ = some (.slice (some ⟨b, o, none⟩) 3 c1) ∧ w'.cell? ⟨w3.heap.size, 1, none⟩ = some (.slice E 3 ce) ∧ w'.cell? ⟨b, o, none⟩ = some (.slice B0 L0 K0) ∧ w'.cell? ⟨b, o + 1, none⟩ = some (.slice B1 L1 K1) ∧ w'.cell? ⟨b, o + 2, none⟩ = some (.slice B2 L2 K2) ∧ w'.cell? ⟨bV, oV, none⟩ = some (.int .i64 p0) ∧ w'.cell? ⟨bV, oV + 1, none⟩ = some (.int .i64 p1) ∧ w'.cell? ⟨bV, oV + 2, none⟩ = some (.int .i64 p2)) (refine ⟨?_, ?_, ?_, ?_, ?_, ?_, ?_, ?_⟩ <;> ((repeat (first | (with_reducible exact x1) | (with_reducible exact e1) | (with_reducible exact r0) | (with_reducible exact r1) | (with_reducible exact r2) | (with_reducible exact u0') | (with_reducible exact u1') | (with_reducible exact u2') | (with_reducible refine cell_later Th.out ?_) | (with_reducible refine cell_later Tg.out ?_) | (with_reducible refine cell_later Tf.out ?_) | (with_reducible refine cell_later Te.out ?_) | (with_reducible refine cell_later (blAlloc _ _) ?_) | (with_reducible refine cell_later (Below.refl _ _).drew ?_))); done)) (first
        | (go_at_call 33; (with_reducible refine (CE0.out _ (by repeat (first | (with_reducible exact (Below.refl wc.heap.size wc)) | (with_reducible exact Th.out) | (with_reducible exact Tg.out) | (with_reducible exact Tf.out) | (with_reducible exact Te.out) | (with_reducible refine blThenAlloc ?_ _) | (with_reducible refine Below.drew ?_)))).mono ?_); rintro e we ⟨rfl, hb⟩; have Te := Lib.hid (show Below wc.heap.size wc we from blThen (by repeat (first | (with_reducible exact (Below.refl wc.heap.size wc)) | (with_reducible exact Th.out) | (with_reducible exact Tg.out) | (with_reducible exact Tf.out) | (with_reducible exact Te.out) | (with_reducible refine blThenAlloc ?_ _) | (with_reducible refine Below.drew ?_))) hb); clear hb)
        | (go_at_call 33; (with_reducible refine (CE1.out _ (by repeat (first | (with_reducible exact (Below.refl wc.heap.size wc)) | (with_reducible exact Th.out) | (with_reducible exact Tg.out) | (with_reducible exact Tf.out) | (with_reducible exact Te.out) | (with_reducible refine blThenAlloc ?_ _) | (with_reducible refine Below.drew ?_)))).mono ?_); rintro e wf ⟨rfl, hb⟩; have Tf := Lib.hid (show Below wc.heap.size wc wf from blThen (by repeat (first | (with_reducible exact (Below.refl wc.heap.size wc)) | (with_reducible exact Th.out) | (with_reducible exact Tg.out) | (with_reducible exact Tf.out) | (with_reducible exact Te.out) | (with_reducible refine blThenAlloc ?_ _) | (with_reducible refine Below.drew ?_))) hb); clear hb)
        | (go_at_call 33; (with_reducible refine (CE2.out _ (by repeat (first | (with_reducible exact (Below.refl wc.heap.size wc)) | (with_reducible exact Th.out) | (with_reducible exact Tg.out) | (with_reducible exact Tf.out) | (with_reducible exact Te.out) | (with_reducible refine blThenAlloc ?_ _) | (with_reducible refine Below.drew ?_)))).mono ?_); rintro e wg ⟨rfl, hb⟩; have Tg := Lib.hid (show Below wc.heap.size wc wg from blThen (by repeat (first | (with_reducible exact (Below.refl wc.heap.size wc)) | (with_reducible exact Th.out) | (with_reducible exact Tg.out) | (with_reducible exact Tf.out) | (with_reducible exact Te.out) | (with_reducible refine blThenAlloc ?_ _) | (with_reducible refine Below.drew ?_))) hb); clear hb)
        | (go_at_call 21; (with_reducible refine (lwNums_same E (some ⟨wg.heap.size, 0, none⟩) 3 3 ce 3 [y0, y1, y2] _ (RE.out.below (by repeat (first | (with_reducible exact (Below.refl wc.heap.size wc)) | (with_reducible exact Th.out) | (with_reducible exact Tg.out) | (with_reducible exact Tf.out) | (with_reducible exact Te.out) | (with_reducible refine blThenAlloc ?_ _) | (with_reducible refine Below.drew ?_)))) (by first | (with_reducible exact HRd.out wg) | (with_reducible exact (HRd.out wg).below (Below.refl _ _).drew)) (by omega)).mono ?_); rintro e wl ⟨rfl, ml, hwl⟩; have Th := Lib.hid (show Below wc.heap.size wc wl from (by rw [hwl]; exact blThenDrew (by repeat (first | (with_reducible exact (Below.refl wc.heap.size wc)) | (with_reducible exact Th.out) | (with_reducible exact Tg.out) | (with_reducible exact Tf.out) | (with_reducible exact Te.out) | (with_reducible refine blThenAlloc ?_ _) | (with_reducible refine Below.drew ?_))) _)); clear hwl))
      all_goals
        go_wp2_with fail
        go_ret
        exact ⟨rfl, blThen T5.out Th.out⟩
    · obtain ⟨ab, hA⟩ := M5.out.b
      have hev := evS_m kd hff hlf
      rw [← hy.1, ← hy.2.1, ← hy.2.2] at hev
      have CE : Hid (∀ W, Below wc.heap.size wc W → Calls Try.prog 34 #[.agg #[.slice A2 n2 c2], .slice P m d] W (IAns W 0 [y0, y1, y2])) := fun W hW => by
        have := ApplyMatrix_any A2 P n2 c2 m d t.rs ps ab gs W (hA.bel hW) (V5.out.bel hW)
        rw [hev, (ap_y hff hlf).1] at this
        exact this
      have kb1 : (t.kd == 1) = false := by simp [kd]
      have kb2 : (t.kd == 2) = true := by simp [kd]
      have x0 := X5.out.c 0 rfl
      have x2 := X5.out.c 2 rfl
      have xl := cell_lt x0
      have fv := fun A n c W => run_fldI 0 A n c W
      clear hA hev hy hes hsg hlf kd hff HFF HE5 hbe M5 V5
      go_wp2_with fail
      go_region_held3 (fun w' => w'.cell? ⟨w1.heap.size, 2, none⟩ = some (.slice A2 n2 c2) ∧ w'.cell? ⟨w3.heap.size, 1, none⟩ = some (.slice E 3 ce)) (refine ⟨?_, ?_⟩ <;> ((repeat (first | (with_reducible exact x2) | (with_reducible exact e1) | (with_reducible refine cell_later Th.out ?_) | (with_reducible refine cell_later Tg.out ?_) | (with_reducible refine cell_later Tf.out ?_) | (with_reducible refine cell_later Te.out ?_) | (with_reducible refine cell_later (blAlloc _ _) ?_) | (with_reducible refine cell_later (Below.refl _ _).drew ?_))); done)) (first
        | (go_at_call 34; (with_reducible refine (CE.out _ (by repeat (first | (with_reducible exact (Below.refl wc.heap.size wc)) | (with_reducible exact Th.out) | (with_reducible exact Tg.out) | (with_reducible exact Tf.out) | (with_reducible exact Te.out) | (with_reducible refine blThenAlloc ?_ _) | (with_reducible refine Below.drew ?_)))).mono ?_); rintro e we ⟨F, nf, cf, rfl, hof, hb⟩; have Te := Lib.hid (show Below wc.heap.size wc we from blThen (by repeat (first | (with_reducible exact (Below.refl wc.heap.size wc)) | (with_reducible exact Th.out) | (with_reducible exact Tg.out) | (with_reducible exact Tf.out) | (with_reducible exact Te.out) | (with_reducible refine blThenAlloc ?_ _) | (with_reducible refine Below.drew ?_))) hb); have HF := Lib.hid hof.hd; clear hb hof)
        | (obtain ⟨bf, hbf⟩ := HF.out; go_at_call 21; (with_reducible refine (lwNums_same E F 3 nf ce cf [y0, y1, y2] _ (RE.out.below (by repeat (first | (with_reducible exact (Below.refl wc.heap.size wc)) | (with_reducible exact Th.out) | (with_reducible exact Tg.out) | (with_reducible exact Tf.out) | (with_reducible exact Te.out) | (with_reducible refine blThenAlloc ?_ _) | (with_reducible refine Below.drew ?_)))) (by first | (with_reducible exact hbf.rd) | (with_reducible exact hbf.rd.below (Below.refl _ _).drew)) (by omega)).mono ?_); rintro e wl ⟨rfl, ml, hwl⟩; have Th := Lib.hid (show Below wc.heap.size wc wl from (by rw [hwl]; exact blThenDrew (by repeat (first | (with_reducible exact (Below.refl wc.heap.size wc)) | (with_reducible exact Th.out) | (with_reducible exact Tg.out) | (with_reducible exact Tf.out) | (with_reducible exact Te.out) | (with_reducible refine blThenAlloc ?_ _) | (with_reducible refine Below.drew ?_))) _)); clear hwl))
      all_goals
        go_wp2_with fail
        go_ret
        exact ⟨rfl, blThen T5.out Th.out⟩
    · obtain ⟨ab, hA⟩ := M5.out.d
      have hev := evS_g kd hff hlf
      rw [← hy.1, ← hy.2.1, ← hy.2.2] at hev
      have CE : Hid (∀ W, Below wc.heap.size wc W → Calls Try.prog 22 #[.agg #[.int .i64 t.sd, .slice A3 n3 c3], .slice P m d] W (IAns W 0 [y0, y1, y2])) := fun W hW => by
        have := EvalGrid_any A3 P n3 c3 m d t.sd t.ns ps ab gs W (hA.bel hW) (V5.out.bel hW)
        rw [hev, (eg_y hff hlf).1] at this
        exact this
      have kb1 : (t.kd == 1) = false := by simp [kd]
      have kb2 : (t.kd == 2) = false := by simp [kd]
      have x0 := X5.out.c 0 rfl
      have x3 := X5.out.c 3 rfl
      have x4 := X5.out.c 4 rfl
      have xl := cell_lt x0
      have fv := fun A n c W => run_fldI 0 A n c W
      clear hA hev hy hes hsg hlf kd hff HFF HE5 hbe M5 V5
      go_wp2_with fail
      go_region_held3 (fun w' => w'.cell? ⟨w1.heap.size, 3, none⟩ = some (.int .i64 t.sd) ∧ w'.cell? ⟨w1.heap.size, 4, none⟩ = some (.slice A3 n3 c3) ∧ w'.cell? ⟨w3.heap.size, 1, none⟩ = some (.slice E 3 ce)) (refine ⟨?_, ?_, ?_⟩ <;> ((repeat (first | (with_reducible exact x3) | (with_reducible exact x4) | (with_reducible exact e1) | (with_reducible refine cell_later Th.out ?_) | (with_reducible refine cell_later Tg.out ?_) | (with_reducible refine cell_later Tf.out ?_) | (with_reducible refine cell_later Te.out ?_) | (with_reducible refine cell_later (blAlloc _ _) ?_) | (with_reducible refine cell_later (Below.refl _ _).drew ?_))); done)) (first
        | (go_at_call 22; (with_reducible refine (CE.out _ (by repeat (first | (with_reducible exact (Below.refl wc.heap.size wc)) | (with_reducible exact Th.out) | (with_reducible exact Tg.out) | (with_reducible exact Tf.out) | (with_reducible exact Te.out) | (with_reducible refine blThenAlloc ?_ _) | (with_reducible refine Below.drew ?_)))).mono ?_); rintro e we ⟨F, nf, cf, rfl, hof, hb⟩; have Te := Lib.hid (show Below wc.heap.size wc we from blThen (by repeat (first | (with_reducible exact (Below.refl wc.heap.size wc)) | (with_reducible exact Th.out) | (with_reducible exact Tg.out) | (with_reducible exact Tf.out) | (with_reducible exact Te.out) | (with_reducible refine blThenAlloc ?_ _) | (with_reducible refine Below.drew ?_))) hb); have HF := Lib.hid hof.hd; clear hb hof)
        | (obtain ⟨bf, hbf⟩ := HF.out; go_at_call 21; (with_reducible refine (lwNums_same E F 3 nf ce cf [y0, y1, y2] _ (RE.out.below (by repeat (first | (with_reducible exact (Below.refl wc.heap.size wc)) | (with_reducible exact Th.out) | (with_reducible exact Tg.out) | (with_reducible exact Tf.out) | (with_reducible exact Te.out) | (with_reducible refine blThenAlloc ?_ _) | (with_reducible refine Below.drew ?_)))) (by first | (with_reducible exact hbf.rd) | (with_reducible exact hbf.rd.below (Below.refl _ _).drew)) (by omega)).mono ?_); rintro e wl ⟨rfl, ml, hwl⟩; have Th := Lib.hid (show Below wc.heap.size wc wl from (by rw [hwl]; exact blThenDrew (by repeat (first | (with_reducible exact (Below.refl wc.heap.size wc)) | (with_reducible exact Th.out) | (with_reducible exact Tg.out) | (with_reducible exact Tf.out) | (with_reducible exact Te.out) | (with_reducible refine blThenAlloc ?_ _) | (with_reducible refine Below.drew ?_))) _)); clear hwl))
      all_goals
        go_wp2_with fail
        go_ret
        exact ⟨rfl, blThen T5.out Th.out⟩
  · have hqn : (f == 0) = false := by simpa using h0
    have e0 := E5.out.c 0 rfl
    have el := cell_lt e0
    go_wp2_with fail
    go_ret
    exact ⟨rfl, T5.out⟩

set_option maxRecDepth 100000 in
theorem lifted (os : Os) (started : os.Started) (H : Type) (enc : TypeId × Value → H) :
    ReturnsInHanded {} Try.checked os 7 .any (Rows.fnStagesSpec.pre6 enc Try.prog Try.f7 Rows.fnStagesRow.domain false) (Rows.fnStagesSpec.post enc Try.prog Try.f7 false true false false) := by
  refine returnsInHanded_of_change (C := Try.checked) own started (by kernel_rfl) Try.func7
    (ChangeSpec.witness6 (enc := enc) (C := Try.checked) false ⟨#[], #[.slice none 0 0], []⟩ 8 (by kernel_rfl) (by kernel_rfl) (by kernel_rfl) (by kernel_rfl)) ?_
  intro W base args ds gs before hval0 hW hcnd _
  have hval : ∀ (j : Nat) t v, Try.f7.params[j]? = some t → args[j]? = some v → Value.okWide Try.prog W .any base t v := hval0
  have hW' := hW
  obtain ⟨p, q, hA0, hV0, rfl, hfz, hnd⟩ := hW
  have hA : DataW.TrodAll enc Try.prog W 0 (fun _ => true) true Try.f7.params.toList args.toList ds p := hA0
  have hV : DataW.TrodVars enc Try.prog W (fun _ => true) [] gs q := hV0
  rw [Try.params7] at hA hval
  obtain ⟨v0, vs0, d0, ds0, p0, q0, hargs, rfl, rfl, h0, r0⟩ := trodAll_cons hA
  obtain ⟨rfl, rfl, rfl⟩ := trodAll_nil r0
  obtain rfl : args = #[v0] := by cases args; simp_all
  obtain ⟨rfl, rfl⟩ : gs = [] ∧ q = [] := by
    cases gs with
    | nil => exact ⟨rfl, hV⟩
    | cons g r => exact absurd hV (by intro h; cases h)
  have k0 := h0
  have lt0 : ∀ x ∈ p0, x.block < W.heap.size := by obtain ⟨m, hm⟩ := k0; exact DataW.trod_lt m _ _ _ hm
  obtain ⟨a0, n0, c0, xs0, bs0, rfl, hd0, u0⟩ := open_bytes (hval 0 38 v0 rfl rfl) h0
  clear hA0 hval0
  refine (walk a0 n0 c0 xs0 bs0 W hd0 u0).mono fun e W' ⟨he, bel⟩ => ?_
  subst he
  exact ⟨_, rfl, _, _, _, [], _, [], hW', trodAll_mk1 (shut_bool Try.underlying4 _), (trodAll_cons_mk (Below.trod laidOut (by kernel_rfl) (of_decide_eq_true (by kernel_rfl)) k0 bel lt0) trodAll_mk0), rfl, bel.frame _, fun h => by cases h⟩

theorem row_holds : Rows.FnStagesSaid :=
  OpenClaim.holds_of_wide 7 Try.f7 rfl rfl rfl rfl rfl rfl rfl ⟨rfl, rfl, rfl, rfl, rfl⟩ rfl rfl rfl rfl rfl (by kernel_rfl) Try.func7 (by kernel_rfl)
    (of_decide_eq_true (by kernel_rfl)) (by unfold Func.isWrapper; rw [if_neg (of_decide_eq_false (by kernel_rfl))]; exact ⟨rfl, rfl⟩)
    (fun os started H enc _ => lifted os started H enc)

theorem proved : Rows.FnStagesSaid := row_holds
#print axioms proved

end Go.Proofs.Ytlfdpambbgddoaa.lStages
