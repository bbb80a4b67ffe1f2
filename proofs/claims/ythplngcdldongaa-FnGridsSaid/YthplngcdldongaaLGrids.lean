/-
  Proved: whatever the bytes draw, the functions over grids answer as their reference models, a grid tells nothing beyond its nodes, and at its corners the corner's node (the law FnGrids returns true), and the argument reads afterwards as it read before. Conditions: none.
-/
import Derived.Test.YthplngcdldongaaOpenA
import Derived.Test.YthplngcdldongaaDrawN
import Derived.Test.YthplngcdldongaaGgM
import Derived.Test.YthplngcdldongaaCelH
import Derived.Test.YthplngcdldongaaGrdB
import Derived.Test.YthplngcdldongaaLinS
import Derived.Test.YthplngcdldongaaSpnA
import Derived.Test.YthplngcdldongaaLwN
import Derived.Test.YthplngcdldongaaBaseA
import Derived.Deep.RegionHeld3
import Derived.Deep.CutRange
namespace Go.Proofs.Ythplngcdldongaa.lGrids
open Go.ChangeShapes Go.WideShapes Go.ChangeAt Go.RowKit
set_option linter.unusedVariables false
set_option linter.unusedSimpArgs false

theorem run_fldI0 (a : Int) (A : Option Addr) (n c : Nat) (W : World) : (Instr.field 31 (.agg #[.int .i64 a, .slice A n c]) 0).run Try.prog W = .ok (.int .i64 a) W := by kernel_rfl
theorem run_fldI (a : Int) (A : Option Addr) (n c : Nat) (W : World) : (Instr.field 31 (.agg #[.int .i64 a, .slice A n c]) 1).run Try.prog W = .ok (.slice A n c) W := by kernel_rfl
theorem run_fldC0 (a : Int) (A B : Option Addr) (n c m d : Nat) (W : World) : (Instr.field 36 (.agg #[.int .i64 a, .slice A n c, .slice B m d]) 0).run Try.prog W = .ok (.int .i64 a) W := by kernel_rfl
theorem run_fldC1 (a : Int) (A B : Option Addr) (n c m d : Nat) (W : World) : (Instr.field 36 (.agg #[.int .i64 a, .slice A n c, .slice B m d]) 1).run Try.prog W = .ok (.slice A n c) W := by kernel_rfl
theorem run_fldC2 (a : Int) (A B : Option Addr) (n c m d : Nat) (W : World) : (Instr.field 36 (.agg #[.int .i64 a, .slice A n c, .slice B m d]) 2).run Try.prog W = .ok (.slice B m d) W := by kernel_rfl
theorem run_fldV0 (a b : Int) (W : World) : (Instr.field 42 (.agg #[.int .i64 a, .int .i64 b]) 0).run Try.prog W = .ok (.int .i64 a) W := by kernel_rfl
theorem run_fldV (a b : Int) (W : World) : (Instr.field 42 (.agg #[.int .i64 a, .int .i64 b]) 1).run Try.prog W = .ok (.int .i64 b) W := by kernel_rfl
theorem run_fldG0 (a b : Int) (A : Option Addr) (n c : Nat) (W : World) : (Instr.field 45 (.agg #[.int .i64 a, .int .i64 b, .slice A n c]) 0).run Try.prog W = .ok (.int .i64 a) W := by kernel_rfl
theorem Rd.three {w : World} {B : Option Addr} {L : Nat} {xs : List Int} (h : Rd .i64 w B L xs) (hl : xs.length = 3) : ∃ b o, B = some ⟨b, o, none⟩ ∧ L = 3 ∧ w.cell? ⟨b, o, none⟩ = some (.int .i64 (xs.getD 0 0)) ∧ w.cell? ⟨b, o + 1, none⟩ = some (.int .i64 (xs.getD 1 0)) ∧ w.cell? ⟨b, o + 2, none⟩ = some (.int .i64 (xs.getD 2 0)) := by
  obtain rfl : L = 3 := by rw [← h.1, hl]
  obtain ⟨b, o, rfl, hc⟩ := h.2 (by omega)
  exact ⟨b, o, rfl, rfl, hc 0 (by omega), hc 1 (by omega), hc 2 (by omega)⟩
theorem run_min2 (w : World) (x y : Int) : (Builtin.min_ #[2, 2] 2 #[.int .i64 x, .int .i64 y]).run Try.prog w = .ok (.int .i64 (min x y)) w := by
  have h1 : (if y < x then y else x) = min x y := by split <;> omega
  first
    | (simp [Builtin.min_, go_sem, h1]; done)
    | (rw [← h1]; rfl)
    | (rw [← h1]; simp [Builtin.min_, go_sem]; split <;> simp_all)
theorem eg_zero {sd : Int} {rs : Rws} {xs : List Int} (h : egC sd rs xs = 0) : gf sd rs = 0 ∧ lf xs = 0 := by
  unfold egC at h
  split at h
  · rename_i h1; exact ⟨h1, h⟩
  · rename_i h1; exact absurd h h1
set_option maxRecDepth 100000 in
set_option maxHeartbeats 8000000 in
theorem walk (A : Option Addr) (n c : Nat) (xs : List Int) (bs : List Nat) (w : World) (h : Hd w (.ints .u8 xs) (.slice A n c) bs) (hu : U8s xs) :
    Calls Try.prog 3 #[.slice A n c] w fun e w' => e = .returned (.bool true) ∧ Below w.heap.size w w' := by
  have hm := Nat.le_trans h.caps.1 h.caps.2
  by_cases hbig : 1048576 < n
  · have hb' : decide ((1048576 : Int) < (n : Int)) = true := by simp; omega
    clear h
    go_enter Try.func3, Try.ntmps3
    go_wp2_with (go_at_call 5; refine (lwBig_any _ _ _ _ hm).mono ?_; rintro e w' ⟨rfl, rfl⟩)
    go_ret
    exact ⟨rfl, Below.refl _ _⟩
  have hb' : decide ((1048576 : Int) < (n : Int)) = false := by simp; omega
  have H : Hid (Code w A n xs) := ⟨h.rd, hu, by omega⟩
  clear h hu
  go_enter Try.func3, Try.ntmps3
  go_wp2_with (go_at_call 5; refine (lwBig_any _ _ _ _ hm).mono ?_; rintro e w' ⟨rfl, rfl⟩)
  clear hb' hm
  -- g, v
  refine (drawEvalGrid_any A n c xs _ H.out).mono ?_
  rintro e w1 ⟨sd, G, k, cp, rs, P, m, d, ps, rfl, hk64, -, ⟨ms, hM⟩, ⟨gs, hV⟩, hb1⟩
  obtain ⟨W1, hW1⟩ : ∃ W1, W1 = w1.alloc (.cells #[.int .i64 sd, .slice G k cp] 26) := ⟨_, rfl⟩
  have M1 : Hid (Hd W1 (rowsD rs) (.slice G k cp) ms) := by show Hd _ _ _ _; rw [hW1]; exact hM.alloc _
  have V1 : Hid (Hd W1 (.ints .i64 ps) (.slice P m d) gs) := by show Hd _ _ _ _; rw [hW1]; exact hV.alloc _
  have X1 : Hid (Bx W1 w1.heap.size [.int .i64 sd, .slice G k cp]) := by show Bx _ _ _; rw [hW1]; exact Bx.new _ _ _ rfl
  have T1 : Hid (Below w.heap.size w W1) := by show Below _ _ _; rw [hW1]; exact blThenAlloc hb1 _
  have HW1 := Lib.hid hW1
  clear hM hV hb1 hW1
  go_wp2_with fail
  rw [← HW1.out]
  clear HW1
  -- e
  obtain ⟨f, hf⟩ : ∃ f, f = egC sd rs ps := ⟨_, rfl⟩
  refine (EvalGrid_any G P k cp m d sd rs ps ms gs W1 M1.out V1.out).mono ?_
  rintro e w2 ⟨E, ne, ce, rfl, hoe, hbe⟩
  rw [← hf]
  obtain ⟨W2, hW2⟩ : ∃ W2, W2 = w2.alloc (.cells #[.int .i64 f, .slice E ne ce] 31) := ⟨_, rfl⟩
  have B12 : Below W1.heap.size W1 W2 := by rw [hW2]; exact blThenAlloc hbe _
  have E2 : Hid (Bx W2 w2.heap.size [.int .i64 f, .slice E ne ce]) := by show Bx _ _ _; rw [hW2]; exact Bx.new _ _ _ rfl
  have HE2 : Hid (∃ be, Hd W2 (.ints .i64 (egL sd rs ps)) (.slice E ne ce) be) := by
    obtain ⟨be, h⟩ := hoe.hd
    exact ⟨be, by rw [hW2]; exact h.alloc _⟩
  have T2 := Lib.hid (blThen T1.out B12)
  have HB12 := Lib.hid B12
  have HW2 := Lib.hid hW2
  have HFF := Lib.hid hf
  clear hoe hbe B12 hW2 hf
  go_wp2_with fail
  rw [← HW2.out]
  clear HW2
  -- side, w
  refine (drawCellOf_any A n c xs W2 (H.out.below T2.out)).mono ?_
  rintro e w3 ⟨sd2, G2, k2, cp2, ps2, rfl, -, hC, hb3⟩
  obtain ⟨d2, hd2⟩ := hC.hd
  have D3 := Lib.hid hd2
  have HB23 := Lib.hid hb3
  clear hC hb3 hd2
  go_wp2_with fail
  -- c
  obtain ⟨f2, hf2⟩ : ∃ f2, f2 = ceC sd2 ps2 := ⟨_, rfl⟩
  refine (CellOf_any G2 k2 cp2 sd2 ps2 d2 w3 D3.out).mono ?_
  rintro e w4 ⟨C, pC, cC, R, qR, cR, la, ha, lb, hbb, rfl, hoC, hoR, -, -, -, -, -, hbe⟩
  rw [← hf2]
  obtain ⟨W4, hW4⟩ : ∃ W4, W4 = w4.alloc (.cells #[.int .i64 f2, .slice C pC cC, .slice R qR cR] 36) := ⟨_, rfl⟩
  have B34 : Below w3.heap.size w3 W4 := by rw [hW4]; exact blThenAlloc hbe _
  have C4 : Hid (Bx W4 w4.heap.size [.int .i64 f2, .slice C pC cC, .slice R qR cR]) := by show Bx _ _ _; rw [hW4]; exact Bx.new _ _ _ rfl
  have HC4 : Hid (∃ be, Hd W4 (.ints .i64 (ceL sd2 ps2)) (.slice C pC cC) be) := by
    obtain ⟨be, h⟩ := hoC.hd
    exact ⟨be, by rw [hW4]; exact h.alloc _⟩
  have HR4 : Hid (∃ be, Hd W4 (.ints .i64 (ceR sd2 ps2)) (.slice R qR cR) be) := by
    obtain ⟨be, h⟩ := hoR.hd
    exact ⟨be, by rw [hW4]; exact h.alloc _⟩
  have D4 := Lib.hid (D3.out.bel B34)
  have HB24 := Lib.hid (blThen HB23.out B34)
  have T4 := Lib.hid (blThen T2.out HB24.out)
  have HW4 := Lib.hid hW4
  have HF2 := Lib.hid hf2
  clear hoC hoR hbe B34 hW4 hf2 HB23 D3
  go_wp2_with fail
  rw [← HW4.out]
  clear HW4
  -- x, place
  refine (drawNodeOf_any A n c xs W4 (H.out.below T4.out)).mono ?_
  rintro e w5 ⟨sd3, G3, k3, cp3, rs3, P3, m3, d3, ps3, rfl, hi64, ⟨ms3, hM3⟩, ⟨gs3, hV3⟩, hb5⟩
  obtain ⟨W5, hW5⟩ : ∃ W5, W5 = w5.alloc (.cells #[.int .i64 sd3, .slice G3 k3 cp3] 26) := ⟨_, rfl⟩
  have M5 : Hid (Hd W5 (rowsD rs3) (.slice G3 k3 cp3) ms3) := by show Hd _ _ _ _; rw [hW5]; exact hM3.alloc _
  have V5 : Hid (Hd W5 (.ints .i64 ps3) (.slice P3 m3 d3) gs3) := by show Hd _ _ _ _; rw [hW5]; exact hV3.alloc _
  have X5 : Hid (Bx W5 w5.heap.size [.int .i64 sd3, .slice G3 k3 cp3]) := by show Bx _ _ _; rw [hW5]; exact Bx.new _ _ _ rfl
  have HB45 : Hid (Below W4.heap.size W4 W5) := by show Below _ _ _; rw [hW5]; exact blThenAlloc hb5 _
  have HI64 := Lib.hid hi64
  have HW5 := Lib.hid hW5
  clear hM3 hV3 hb5 hW5 hi64
  go_wp2_with fail
  rw [← HW5.out]
  clear HW5
  -- n
  obtain ⟨f3, hf3⟩ : ∃ f3, f3 = ncd sd3 rs3 ps3 := ⟨_, rfl⟩
  refine (NodeOf_any G3 P3 k3 cp3 m3 d3 sd3 rs3 ps3 ms3 gs3 W5 M5.out V5.out HI64.out).mono ?_
  rintro e w6 ⟨N, nn, cn, rfl, hoe, hbe⟩
  rw [← hf3]
  obtain ⟨W6, hW6⟩ : ∃ W6, W6 = w6.alloc (.cells #[.int .i64 f3, .slice N nn cn] 31) := ⟨_, rfl⟩
  have HB56 : Hid (Below W5.heap.size W5 W6) := by show Below _ _ _; rw [hW6]; exact blThenAlloc hbe _
  have N6 : Hid (Bx W6 w6.heap.size [.int .i64 f3, .slice N nn cn]) := by show Bx _ _ _; rw [hW6]; exact Bx.new _ _ _ rfl
  have HN6 : Hid (∃ be, Hd W6 (.ints .i64 (nls sd3 rs3 ps3)) (.slice N nn cn) be) := by
    obtain ⟨be, h⟩ := hoe.hd
    exact ⟨be, by rw [hW6]; exact h.alloc _⟩
  have T6 := Lib.hid (blThen (blThen T4.out HB45.out) HB56.out)
  have HW6 := Lib.hid hW6
  have HF3 := Lib.hid hf3
  clear hoe hbe hW6 hf3
  go_wp2_with fail
  rw [← HW6.out]
  clear HW6
  -- s
  refine (drawSpanOf_any A n c xs W6 (H.out.below T6.out)).mono ?_
  rintro e w7 ⟨sd4, G4, k4, cp4, rs4, rfl, ⟨ms4, hM4⟩, hb7⟩
  obtain ⟨W7, hW7⟩ : ∃ W7, W7 = w7.alloc (.cells #[.int .i64 sd4, .slice G4 k4 cp4] 26) := ⟨_, rfl⟩
  have M7 : Hid (Hd W7 (rowsD rs4) (.slice G4 k4 cp4) ms4) := by show Hd _ _ _ _; rw [hW7]; exact hM4.alloc _
  have X7 : Hid (Bx W7 w7.heap.size [.int .i64 sd4, .slice G4 k4 cp4]) := by show Bx _ _ _; rw [hW7]; exact Bx.new _ _ _ rfl
  have HB67 : Hid (Below W6.heap.size W6 W7) := by show Below _ _ _; rw [hW7]; exact blThenAlloc hb7 _
  have T7 := Lib.hid (blThen T6.out HB67.out)
  have HW7 := Lib.hid hW7
  clear hM4 hb7 hW7
  go_wp2_with fail
  rw [← HW7.out]
  clear HW7
  -- k
  refine (drawLineGrid_any A n c xs W7 (H.out.below T7.out)).mono ?_
  rintro e W0 ⟨kk, rfl, hb8⟩
  have Q7 := hb8
  have Q6 := blThen HB67.out Q7
  have Q5 := blThen HB56.out Q6
  have Q4 := blThen HB45.out Q5
  have Q2 := blThen HB24.out Q4
  have Q1 := blThen HB12.out Q2
  have M := Lib.hid (M1.out.bel Q1)
  have V := Lib.hid (V1.out.bel Q1)
  have X := Lib.hid (X1.out.bel Q1)
  have EB := Lib.hid (E2.out.bel Q2)
  have HE : Hid (∃ be, Hd W0 (.ints .i64 (egL sd rs ps)) (.slice E ne ce) be) := by
    obtain ⟨be, h⟩ := HE2.out
    exact ⟨be, h.bel Q2⟩
  have D := Lib.hid (D4.out.bel Q4)
  have CB := Lib.hid (C4.out.bel Q4)
  have HC : Hid (∃ be, Hd W0 (.ints .i64 (ceL sd2 ps2)) (.slice C pC cC) be) := by
    obtain ⟨be, h⟩ := HC4.out
    exact ⟨be, h.bel Q4⟩
  have HR : Hid (∃ be, Hd W0 (.ints .i64 (ceR sd2 ps2)) (.slice R qR cR) be) := by
    obtain ⟨be, h⟩ := HR4.out
    exact ⟨be, h.bel Q4⟩
  have M3 := Lib.hid (M5.out.bel Q5)
  have V3 := Lib.hid (V5.out.bel Q5)
  have X3 := Lib.hid (X5.out.bel Q5)
  have NB := Lib.hid (N6.out.bel Q6)
  have HN : Hid (∃ be, Hd W0 (.ints .i64 (nls sd3 rs3 ps3)) (.slice N nn cn) be) := by
    obtain ⟨be, h⟩ := HN6.out
    exact ⟨be, h.bel Q6⟩
  have M4 := Lib.hid (M7.out.bel Q7)
  have X4 := Lib.hid (X7.out.bel Q7)
  have T0 := Lib.hid (blThen T7.out Q7)
  clear hb8 Q1 Q2 Q4 Q5 Q6 Q7 M1 V1 X1 E2 HE2 D4 C4 HC4 HR4 M5 V5 X5 N6 HN6 M7 X7 T1 T2 T4 T6 T7 HB12 HB24 HB45 HB56 HB67
  have c0 := CB.out.c 0 rfl
  have c1 := CB.out.c 1 rfl
  have c2 := CB.out.c 2 rfl
  have n0 := NB.out.c 0 rfl
  have n1 := NB.out.c 1 rfl
  have s0 := X4.out.c 0 rfl
  have s1 := X4.out.c 1 rfl
  have t0 := X3.out.c 0 rfl
  have t1 := X3.out.c 1 rfl
  have cl := cell_lt c0
  have nl := cell_lt n0
  have sl := cell_lt s0
  have tl := cell_lt t0
  obtain ⟨bc, hbc⟩ := HC.out
  obtain ⟨br, hbr⟩ := HR.out
  obtain ⟨bn, hbn⟩ := HN.out
  have RC := Lib.hid hbc.rd
  have RR := Lib.hid hbr.rd
  have RN := Lib.hid hbn.rd
  have kc := hbc.caps
  have kr := hbr.caps
  have kn := hbn.caps
  have lc1 : Hid (pC ≤ 1000000000000) := by
    have := hbc.rd.1
    have := ceL_len sd2 ps2
    show pC ≤ _
    omega
  have lc2 : Hid (qR ≤ 1000000000000) := by
    have := hbr.rd.1
    have := ceR_len sd2 ps2
    show qR ≤ _
    omega
  have lc3 : Hid (nn ≤ 1000000000000) := by
    have := hbn.rd.1
    have := nls_len sd3 rs3 ps3
    show nn ≤ _
    omega
  clear kc kr kn hbc hbr hbn HC HR HN
  have CC : Hid (∀ W, Below W0.heap.size W0 W → Calls Try.prog 14 #[.int .i64 sd2, .slice G2 k2 cp2] W (IIAns W f2 (ceL sd2 ps2) (ceR sd2 ps2))) := fun W hW => by
    rw [HF2.out]; exact sCellOf_any G2 k2 cp2 sd2 ps2 d2 W (D.out.bel hW)
  have NC : Hid (∀ W, Below W0.heap.size W0 W → Calls Try.prog 16 #[.agg #[.int .i64 sd3, .slice G3 k3 cp3], .slice P3 m3 d3] W (IAns W f3 (nls sd3 rs3 ps3))) := fun W hW => by
    rw [HF3.out]; exact sNodeOf_any G3 P3 k3 cp3 m3 d3 sd3 rs3 ps3 ms3 gs3 W (M3.out.bel hW) (V3.out.bel hW)
  obtain ⟨sg, hsg⟩ : ∃ sg, sg = gf sd4 rs4 := ⟨_, rfl⟩
  obtain ⟨sv, hsv⟩ : ∃ sv, sv = spV sd4 rs4 := ⟨_, rfl⟩
  have SP1 : Hid (∀ W, Below W0.heap.size W0 W → Calls Try.prog 17 #[.agg #[.int .i64 sd4, .slice G4 k4 cp4]] W fun e w' => e = .returned (.agg #[.int .i64 sg, .int .i64 sv]) ∧ Below W.heap.size W w') := fun W hW => by
    rw [hsg, hsv]; exact SpanOf_any G4 k4 cp4 sd4 rs4 ms4 W (M4.out.bel hW)
  have SP2 : Hid (∀ W, Below W0.heap.size W0 W → Calls Try.prog 18 #[.agg #[.int .i64 sd4, .slice G4 k4 cp4]] W fun e w' => e = .returned (.agg #[.int .i64 sg, .int .i64 sv]) ∧ Below W.heap.size W w') := fun W hW => by
    rw [hsg, hsv]; exact sSpanOf_any G4 k4 cp4 sd4 rs4 ms4 W (M4.out.bel hW)
  obtain ⟨lc, hlc⟩ : ∃ lc, lc = lgC kk := ⟨_, rfl⟩
  have LG1 : Hid (∀ W, Below W0.heap.size W0 W → Calls Try.prog 19 #[.int .i64 kk] W (GrAns W lc (lgS kk) (lgL kk))) := fun W _ => by rw [hlc]; exact LineGrid_any kk W
  have LG2 : Hid (∀ W, Below W0.heap.size W0 W → Calls Try.prog 20 #[.int .i64 kk] W (GrAns W lc (lgS kk) (lgL kk))) := fun W _ => by rw [hlc]; exact sLineGrid_any kk W
  have fc0 := fun A B n c m d W => run_fldC0 f2 A B n c m d W
  have fc1 := fun A B n c m d W => run_fldC1 f2 A B n c m d W
  have fc2 := fun A B n c m d W => run_fldC2 f2 A B n c m d W
  have fn0 := fun A n c W => run_fldI0 f3 A n c W
  have fn1 := fun A n c W => run_fldI f3 A n c W
  have fs0 := fun W => run_fldV0 sg sv W
  have fs1 := fun W => run_fldV sg sv W
  have fg0 := fun b A n c W => run_fldG0 lc b A n c W
  clear hsg hsv hlc D HF2 HF3 HI64 M3 V3 M4 CB NB X3 X4
  go_wp2_with fail
  go_cut [121] from 49 to 121 (fun p wx => p = .bool false ∧ Below W0.heap.size W0 wx)
  case first =>
    dsimp only [List.append]
    go_region_held3 (fun w' => w'.cell? ⟨w4.heap.size, 0, none⟩ = some (.int .i64 f2) ∧ w'.cell? ⟨w4.heap.size, 1, none⟩ = some (.slice C pC cC) ∧ w'.cell? ⟨w4.heap.size, 2, none⟩ = some (.slice R qR cR) ∧ w'.cell? ⟨w6.heap.size, 0, none⟩ = some (.int .i64 f3) ∧ w'.cell? ⟨w6.heap.size, 1, none⟩ = some (.slice N nn cn) ∧ w'.cell? ⟨w7.heap.size, 0, none⟩ = some (.int .i64 sd4) ∧ w'.cell? ⟨w7.heap.size, 1, none⟩ = some (.slice G4 k4 cp4) ∧ w'.cell? ⟨w5.heap.size, 0, none⟩ = some (.int .i64 sd3) ∧ w'.cell? ⟨w5.heap.size, 1, none⟩ = some (.slice G3 k3 cp3)) (refine ⟨?_, ?_, ?_, ?_, ?_, ?_, ?_, ?_, ?_⟩ <;> ((repeat (first | (with_reducible exact c0) | (with_reducible exact c1) | (with_reducible exact c2) | (with_reducible exact n0) | (with_reducible exact n1) | (with_reducible exact s0) | (with_reducible exact s1) | (with_reducible exact t0) | (with_reducible exact t1) | (with_reducible refine cell_later Tn.out ?_) | (with_reducible refine cell_later Tm.out ?_) | (with_reducible refine cell_later Tl.out ?_) | (with_reducible refine cell_later Tk.out ?_) | (with_reducible refine cell_later Tj.out ?_) | (with_reducible refine cell_later Ti.out ?_) | (with_reducible refine cell_later Th.out ?_) | (with_reducible refine cell_later Tg.out ?_) | (with_reducible refine cell_later Tf.out ?_) | (with_reducible refine cell_later Te.out ?_) | (with_reducible refine cell_later Td.out ?_) | (with_reducible refine cell_later Tc.out ?_) | (with_reducible refine cell_later Tb.out ?_) | (with_reducible refine cell_later Ta.out ?_) | (with_reducible refine cell_later (blAlloc _ _) ?_) | (with_reducible refine cell_later (Below.refl _ _).drew ?_))); done)) (first
      | (go_at_call 14; (fail_if_success have zz := Ta); (with_reducible refine (CC.out _ (by (repeat (first | (with_reducible exact (Below.refl W0.heap.size W0)) | (with_reducible refine blThenAlloc ?_ _) | (with_reducible refine Below.drew ?_))); done)).mono ?_); rintro e wa ⟨Ga, na, ca, Ha, ma, da, la1, la2, la3, la4, rfl, -, -, -, -, -, -, -, hb⟩; have Ta := Lib.hid (show Below W0.heap.size W0 wa from blThen (by (repeat (first | (with_reducible exact (Below.refl W0.heap.size W0)) | (with_reducible refine blThenAlloc ?_ _) | (with_reducible refine Below.drew ?_))); done) hb); clear hb)
      | (go_at_call 14; (fail_if_success have zz := Tb); (with_reducible refine (CC.out _ (by (repeat (first | (with_reducible exact Ta.out) | (with_reducible refine blThenAlloc ?_ _) | (with_reducible refine Below.drew ?_))); done)).mono ?_); rintro e wb ⟨Gb, nb, cb, Hb, mb, db, lb1, lb2, lb3, lb4, rfl, hob, -, -, -, -, -, -, hb⟩; have Tb := Lib.hid (show Below W0.heap.size W0 wb from blThen (by (repeat (first | (with_reducible exact Ta.out) | (with_reducible refine blThenAlloc ?_ _) | (with_reducible refine Below.drew ?_))); done) hb); have Rb := Lib.hid hob.hd.choose_spec.rd; clear hob; have Tb0 := Lib.hid (Below.refl wb.heap.size wb); clear hb)
      | (go_at_call 15; (fail_if_success have zz := Tc); (with_reducible refine (lwNums_same C Gb pC nb cC cb (ceL sd2 ps2) _ (RC.out.below (by (repeat (first | (with_reducible exact Tb.out) | (with_reducible refine blThenAlloc ?_ _) | (with_reducible refine Below.drew ?_))); done)) (Rb.out.below (by (repeat (first | (with_reducible exact Tb0.out) | (with_reducible refine blThenAlloc ?_ _) | (with_reducible refine Below.drew ?_))); done)) lc1.out).mono ?_); rintro e wc ⟨rfl, ml, hwl⟩; have Tc := Lib.hid (show Below W0.heap.size W0 wc from (by rw [hwl]; exact blThenDrew (by (repeat (first | (with_reducible exact Tb.out) | (with_reducible refine blThenAlloc ?_ _) | (with_reducible refine Below.drew ?_))); done) _)); clear hwl)
      | (go_at_call 14; (with_reducible refine (CC.out _ (by (repeat (first | (with_reducible exact Tc.out) | (with_reducible refine blThenAlloc ?_ _) | (with_reducible refine Below.drew ?_))); done)).mono ?_); rintro e wd ⟨Gd, nd, cd, Hd_, md, dd, ld1, ld2, ld3, ld4, rfl, -, hod, -, -, -, -, -, hb⟩; have Td := Lib.hid (show Below W0.heap.size W0 wd from blThen (by (repeat (first | (with_reducible exact Tc.out) | (with_reducible refine blThenAlloc ?_ _) | (with_reducible refine Below.drew ?_))); done) hb); have Rd_ := Lib.hid hod.hd.choose_spec.rd; clear hod; have Td0 := Lib.hid (Below.refl wd.heap.size wd); clear hb)
      | (go_at_call 15; (fail_if_success have zz := Te); (with_reducible refine (lwNums_same R Hd_ qR md cR dd (ceR sd2 ps2) _ (RR.out.below (by (repeat (first | (with_reducible exact Td.out) | (with_reducible refine blThenAlloc ?_ _) | (with_reducible refine Below.drew ?_))); done)) (Rd_.out.below (by (repeat (first | (with_reducible exact Td0.out) | (with_reducible refine blThenAlloc ?_ _) | (with_reducible refine Below.drew ?_))); done)) lc2.out).mono ?_); rintro e we ⟨rfl, ml, hwl⟩; have Te := Lib.hid (show Below W0.heap.size W0 we from (by rw [hwl]; exact blThenDrew (by (repeat (first | (with_reducible exact Td.out) | (with_reducible refine blThenAlloc ?_ _) | (with_reducible refine Below.drew ?_))); done) _)); clear hwl)
      | (go_at_call 16; (fail_if_success have zz := Tf); (with_reducible refine (NC.out _ (by (repeat (first | (with_reducible exact Te.out) | (with_reducible refine blThenAlloc ?_ _) | (with_reducible refine Below.drew ?_))); done)).mono ?_); rintro e wf ⟨Gf, nf, cf, rfl, -, hb⟩; have Tf := Lib.hid (show Below W0.heap.size W0 wf from blThen (by (repeat (first | (with_reducible exact Te.out) | (with_reducible refine blThenAlloc ?_ _) | (with_reducible refine Below.drew ?_))); done) hb); clear hb)
      | (go_at_call 16; (with_reducible refine (NC.out _ (by (repeat (first | (with_reducible exact Tf.out) | (with_reducible refine blThenAlloc ?_ _) | (with_reducible refine Below.drew ?_))); done)).mono ?_); rintro e wg ⟨Gg, ng, cg, rfl, hog, hb⟩; have Tg := Lib.hid (show Below W0.heap.size W0 wg from blThen (by (repeat (first | (with_reducible exact Tf.out) | (with_reducible refine blThenAlloc ?_ _) | (with_reducible refine Below.drew ?_))); done) hb); have Rg := Lib.hid hog.hd.choose_spec.rd; clear hog; have Tg0 := Lib.hid (Below.refl wg.heap.size wg); clear hb)
      | (go_at_call 15; (with_reducible refine (lwNums_same N Gg nn ng cn cg (nls sd3 rs3 ps3) _ (RN.out.below (by (repeat (first | (with_reducible exact Tg.out) | (with_reducible refine blThenAlloc ?_ _) | (with_reducible refine Below.drew ?_))); done)) (Rg.out.below (by (repeat (first | (with_reducible exact Tg0.out) | (with_reducible refine blThenAlloc ?_ _) | (with_reducible refine Below.drew ?_))); done)) lc3.out).mono ?_); rintro e wh ⟨rfl, ml, hwl⟩; have Th := Lib.hid (show Below W0.heap.size W0 wh from (by rw [hwl]; exact blThenDrew (by (repeat (first | (with_reducible exact Tg.out) | (with_reducible refine blThenAlloc ?_ _) | (with_reducible refine Below.drew ?_))); done) _)); clear hwl)
      | (go_at_call 17; (fail_if_success have zz := Ti); (with_reducible refine (SP1.out _ (by (repeat (first | (with_reducible exact Th.out) | (with_reducible refine blThenAlloc ?_ _) | (with_reducible refine Below.drew ?_))); done)).mono ?_); rintro e wi ⟨rfl, hb⟩; have Ti := Lib.hid (show Below W0.heap.size W0 wi from blThen (by (repeat (first | (with_reducible exact Th.out) | (with_reducible refine blThenAlloc ?_ _) | (with_reducible refine Below.drew ?_))); done) hb); clear hb)
      | (go_at_call 18; (fail_if_success have zz := Tj); (with_reducible refine (SP2.out _ (by (repeat (first | (with_reducible exact Ti.out) | (with_reducible refine blThenAlloc ?_ _) | (with_reducible refine Below.drew ?_))); done)).mono ?_); rintro e wj ⟨rfl, hb⟩; have Tj := Lib.hid (show Below W0.heap.size W0 wj from blThen (by (repeat (first | (with_reducible exact Ti.out) | (with_reducible refine blThenAlloc ?_ _) | (with_reducible refine Below.drew ?_))); done) hb); clear hb)
      | (go_at_call 17; (with_reducible refine (SP1.out _ (by (repeat (first | (with_reducible exact Tj.out) | (with_reducible refine blThenAlloc ?_ _) | (with_reducible refine Below.drew ?_))); done)).mono ?_); rintro e wk ⟨rfl, hb⟩; have Tk := Lib.hid (show Below W0.heap.size W0 wk from blThen (by (repeat (first | (with_reducible exact Tj.out) | (with_reducible refine blThenAlloc ?_ _) | (with_reducible refine Below.drew ?_))); done) hb); clear hb)
      | (go_at_call 18; (with_reducible refine (SP2.out _ (by (repeat (first | (with_reducible exact Tk.out) | (with_reducible refine blThenAlloc ?_ _) | (with_reducible refine Below.drew ?_))); done)).mono ?_); rintro e wl ⟨rfl, hb⟩; have Tl := Lib.hid (show Below W0.heap.size W0 wl from blThen (by (repeat (first | (with_reducible exact Tk.out) | (with_reducible refine blThenAlloc ?_ _) | (with_reducible refine Below.drew ?_))); done) hb); clear hb)
      | (go_at_call 19; (with_reducible refine (LG1.out _ (by (repeat (first | (with_reducible exact Tl.out) | (with_reducible refine blThenAlloc ?_ _) | (with_reducible refine Below.drew ?_))); done)).mono ?_); rintro e wm ⟨Gm, nm, cm, rfl, -, hb⟩; have Tm := Lib.hid (show Below W0.heap.size W0 wm from blThen (by (repeat (first | (with_reducible exact Tl.out) | (with_reducible refine blThenAlloc ?_ _) | (with_reducible refine Below.drew ?_))); done) hb); clear hb)
      | (go_at_call 20; (with_reducible refine (LG2.out _ (by (repeat (first | (with_reducible exact Tm.out) | (with_reducible refine blThenAlloc ?_ _) | (with_reducible refine Below.drew ?_))); done)).mono ?_); rintro e wz ⟨Gn, n_, cn_, rfl, -, hb⟩; have Tn := Lib.hid (show Below W0.heap.size W0 wz from blThen (by (repeat (first | (with_reducible exact Tm.out) | (with_reducible refine blThenAlloc ?_ _) | (with_reducible refine Below.drew ?_))); done) hb); clear hb))
    all_goals (try go_wp2_with fail)
    all_goals go_meet
    all_goals exact ⟨rfl, Tn.out⟩
  case rest =>
    rename World => wz
    obtain ⟨rfl, hz⟩ := hcut
    have TZ := Lib.hid hz
    clear hz
    have M8 := Lib.hid (M.out.bel TZ.out)
    have V8 := Lib.hid (V.out.bel TZ.out)
    have X8 := Lib.hid (X.out.bel TZ.out)
    have E8 := Lib.hid (EB.out.bel TZ.out)
    have T8 := Lib.hid (blThen T0.out TZ.out)
    have HE8 : Hid (∃ be, Hd wz (.ints .i64 (egL sd rs ps)) (.slice E ne ce) be) := by
      obtain ⟨be, h⟩ := HE.out
      exact ⟨be, h.bel TZ.out⟩
    clear TZ M V X EB T0 HE CC NC SP1 SP2 LG1 LG2 fc0 fc1 fc2 fn0 fn1 fs0 fs1 fg0 c0 c1 c2 n0 n1 s0 s1 t0 t1 cl nl sl tl RC RR RN lc1 lc2 lc3
    have x0 := X8.out.c 0 rfl
    have x1 := X8.out.c 1 rfl
    have e0 := E8.out.c 0 rfl
    have xl := cell_lt x0
    have el := cell_lt e0
    have CS : Hid (∀ W, Below wz.heap.size wz W → Calls Try.prog 21 #[.agg #[.int .i64 sd, .slice G k cp], .slice P m d] W (IAns W f (egL sd rs ps))) := fun W hW => by
      rw [HFF.out]; exact sEvalGrid_any G P k cp m d sd rs ps ms gs W (M8.out.bel hW) (V8.out.bel hW)
    obtain ⟨g, hg⟩ : ∃ g, g = gf sd rs := ⟨_, rfl⟩
    have C1 : Hid (∀ W, Below wz.heap.size wz W → Calls Try.prog 22 #[.agg #[.int .i64 sd, .slice G k cp]] W fun e w' => e = .returned (.int .i64 g) ∧ Below W.heap.size W w') := fun W hW => by
      rw [hg]; exact GridFault_any G k cp sd rs ms W (M8.out.bel hW)
    have C2 : Hid (∀ W, Below wz.heap.size wz W → Calls Try.prog 23 #[.agg #[.int .i64 sd, .slice G k cp]] W fun e w' => e = .returned (.int .i64 g) ∧ Below W.heap.size W w') := fun W hW => by
      rw [hg]; exact sGridFault_any G k cp sd rs ms W (M8.out.bel hW)
    have fi := fun A n c W => run_fldI0 f A n c W
    clear hg
    go_wp2_with fail
    go_region_held3 (fun w' => w'.cell? ⟨w1.heap.size, 0, none⟩ = some (.int .i64 sd) ∧ w'.cell? ⟨w1.heap.size, 1, none⟩ = some (.slice G k cp) ∧ w'.cell? ⟨w2.heap.size, 0, none⟩ = some (.int .i64 f)) (refine ⟨?_, ?_, ?_⟩ <;> ((repeat (first | (with_reducible exact x0) | (with_reducible exact x1) | (with_reducible exact e0) | (with_reducible refine cell_later Tc.out ?_) | (with_reducible refine cell_later Tb.out ?_) | (with_reducible refine cell_later Ta.out ?_) | (with_reducible refine cell_later (blAlloc _ _) ?_) | (with_reducible refine cell_later (Below.refl _ _).drew ?_))); done)) (first
      | (go_at_call 21; (with_reducible refine (CS.out _ (by (repeat (first | (with_reducible exact (Below.refl wz.heap.size wz)) | (with_reducible exact Tc.out) | (with_reducible exact Tb.out) | (with_reducible exact Ta.out) | (with_reducible refine blThenAlloc ?_ _) | (with_reducible refine Below.drew ?_))); done)).mono ?_); rintro e wa ⟨E1, e2, e3, rfl, -, hb⟩; have Ta := Lib.hid (show Below wz.heap.size wz wa from blThen (by (repeat (first | (with_reducible exact (Below.refl wz.heap.size wz)) | (with_reducible exact Tc.out) | (with_reducible exact Tb.out) | (with_reducible exact Ta.out) | (with_reducible refine blThenAlloc ?_ _) | (with_reducible refine Below.drew ?_))); done) hb); clear hb)
      | (go_at_call 22; (with_reducible refine (C1.out _ (by (repeat (first | (with_reducible exact (Below.refl wz.heap.size wz)) | (with_reducible exact Tc.out) | (with_reducible exact Tb.out) | (with_reducible exact Ta.out) | (with_reducible refine blThenAlloc ?_ _) | (with_reducible refine Below.drew ?_))); done)).mono ?_); rintro e wb ⟨rfl, hb⟩; have Tb := Lib.hid (show Below wz.heap.size wz wb from blThen (by (repeat (first | (with_reducible exact (Below.refl wz.heap.size wz)) | (with_reducible exact Tc.out) | (with_reducible exact Tb.out) | (with_reducible exact Ta.out) | (with_reducible refine blThenAlloc ?_ _) | (with_reducible refine Below.drew ?_))); done) hb); clear hb)
      | (go_at_call 23; (with_reducible refine (C2.out _ (by (repeat (first | (with_reducible exact (Below.refl wz.heap.size wz)) | (with_reducible exact Tc.out) | (with_reducible exact Tb.out) | (with_reducible exact Ta.out) | (with_reducible refine blThenAlloc ?_ _) | (with_reducible refine Below.drew ?_))); done)).mono ?_); rintro e wc ⟨rfl, hb⟩; have Tc := Lib.hid (show Below wz.heap.size wz wc from blThen (by (repeat (first | (with_reducible exact (Below.refl wz.heap.size wz)) | (with_reducible exact Tc.out) | (with_reducible exact Tb.out) | (with_reducible exact Ta.out) | (with_reducible refine blThenAlloc ?_ _) | (with_reducible refine Below.drew ?_))); done) hb); clear hb))
    have M9 := Lib.hid (M8.out.bel Tc.out)
    have V9 := Lib.hid (V8.out.bel Tc.out)
    have X9 := Lib.hid (X8.out.bel Tc.out)
    have E9 := Lib.hid (E8.out.bel Tc.out)
    have T9 := Lib.hid (blThen T8.out Tc.out)
    have HE9 : Hid (∃ be, Hd wc (.ints .i64 (egL sd rs ps)) (.slice E ne ce) be) := by
      obtain ⟨be, h⟩ := HE8.out
      exact ⟨be, h.bel Tc.out⟩
    clear Ta Tb Tc M8 V8 X8 E8 T8 HE8 CS C1 C2 fi x0 x1 e0 xl el
    by_cases h0 : f = 0
    · have hgf := eg_zero (HFF.out.symm.trans h0)
      obtain ⟨s, rfl⟩ : ∃ s : Nat, sd = s := ⟨sd.toNat, by have := inB_iff.1 (gf_zero hgf.1).1; omega⟩
      obtain ⟨hg0, hlf⟩ := hgf
      obtain ⟨hlen, h3⟩ := gf_len hg0
      have hv : Lv (ps.getD · 0) := fun j hj => inB_iff.1 ((lf_zero hlf).2 j hj)
      obtain ⟨yv, hyv⟩ : ∃ yv : Nat → Int, yv = fun i => gvl (s : Int) rs (ps.getD · 0) i := ⟨_, rfl⟩
      have hE : egL (s : Int) rs ps = [yv 0, yv 1, yv 2] := by rw [(eg_y hg0 hlf).2, hyv]
      have HIN : Hid (∀ i, i < 3 → lowN rs i rs.length ≤ yv i ∧ yv i ≤ hghN rs i rs.length) := fun i hi => by rw [hyv]; exact gvl_in hg0 hv hi
      have HLO := Lib.hid (egL_lo hg0)
      have HHI := Lib.hid (egL_hi hg0)
      have HG0 := Lib.hid hg0
      have HLF := Lib.hid hlf
      have HROWL : Hid (∀ j, j < rs.length → (rw_ rs j).length = 3) := fun j hj => (lf_zero (gf_row hg0 hj)).1
      obtain ⟨hl, hc1, hc2, hfm⟩ := M9.out.rows
      subst hl
      have hk8 : 8 ≤ rs.length := by rw [hlen]; rcases h3 with rfl | rfl | rfl <;> omega
      obtain ⟨b, o, rfl, hr⟩ := hfm (by omega)
      have HROW : Hid (∀ j, j < rs.length → ∃ B O C, wc.cell? ⟨b, o + j, none⟩ = some (.slice (some ⟨B, O, none⟩) 3 C) ∧ 3 ≤ C ∧ C ≤ 9223372036854775807 ∧ Rd .i64 wc (some ⟨B, O, none⟩) 3 (rw_ rs j) ∧ ∀ i, i < 3 → wc.cell? ⟨B, O + i, none⟩ = some (.int .i64 ((rw_ rs j).getD i 0))) := fun j hj => by
        obtain ⟨B, L, C, g, r0, d0, -⟩ := hr j hj
        have hL : L = 3 := by rw [← d0.rd.1]; exact HROWL.out j hj
        subst hL
        obtain ⟨bb, oo, e, hc⟩ := d0.rd.2 (by omega)
        subst e
        have := d0.caps
        unfold maxLen at this
        exact ⟨bb, oo, C, r0, this.1, this.2, d0.rd, hc⟩
      rw [hE] at HE9
      obtain ⟨be, hbe⟩ := HE9.out
      obtain rfl : ne = 3 := by have := hbe.rd.1; simpa using this.symm
      have RE := Lib.hid hbe.rd
      obtain ⟨bE, oE, rfl, -, t0, t1, t2⟩ := Rd.three hbe.rd rfl
      have HY : Hid (∀ t, t < 3 → wc.cell? ⟨bE, oE + t, none⟩ = some (.int .i64 (yv t))) := fun t ht => by
        match t, ht with
        | 0, _ => exact t0
        | 1, _ => exact t1
        | 2, _ => exact t2
      have hcE := hbe.caps
      unfold maxLen at hcE hc2
      have HE3 := Lib.hid hE
      subst h0
      have x0 := X9.out.c 0 rfl
      have x1 := X9.out.c 1 rfl
      have e0 := E9.out.c 0 rfl
      have e1 := E9.out.c 1 rfl
      have xl := cell_lt x0
      have el := cell_lt e0
      have HH8 := Lib.hid hk8
      clear HFF hlen h3 hv hyv hE hg0 hlf hfm hr hbe t0 t1 t2 HE9 hk8
      go_wp2_with fail
      go_loopw [14] (fun i wr => ∃ t : Nat, t ≤ 3 ∧ i = .int .i64 t ∧ wr = wc) (fun i _ => 3 - (intOf i).toNat)
      case atStart => exact ⟨0, by omega, rfl, rfl⟩
      case round =>
        obtain ⟨t, ht, rfl, rfl⟩ := hrel
        by_cases hlt : t < 3
        · go_wp2_with fail
          go_loopw [15, 16, 17] (fun lo hi j wq => ∃ u : Nat, u ≤ rs.length ∧ lo = .int .i64 (lowN rs t u) ∧ hi = .int .i64 (hghN rs t u) ∧ j = .int .i64 u ∧ wq = wr) (fun _ _ j _ => rs.length - (intOf j).toNat)
          case atStart => exact ⟨0, by omega, rfl, rfl, rfl, rfl⟩
          case round =>
            obtain ⟨u, hu, rfl, rfl, rfl, rfl⟩ := hrel
            by_cases hul : u < rs.length
            · obtain ⟨B, O, C, y0, k0, k1, -, hc⟩ := HROW.out u hul
              have y1 := hc t hlt
              have hlo : lowN rs t (u + 1) = min (lowN rs t u) ((rw_ rs u).getD t 0) := rfl
              have hhi : hghN rs t (u + 1) = max (hghN rs t u) ((rw_ rs u).getD t 0) := rfl
              have HLO1 := Lib.hid hlo
              have HHI1 := Lib.hid hhi
              generalize (rw_ rs u).getD t 0 = z at y1 HLO1 HHI1
              clear hc hlo hhi
              have hmx := fun W x y => run_max2 W x y
              have hmn := fun W x y => run_min2 W x y
              go_wp2_with fail
              go_roundw
              case rel => exact ⟨u + 1, by omega, by rw [HLO1.out], by rw [HHI1.out], by go_num, by first | trivial | rfl⟩
              case measure => simp [intOf]; omega
            · obtain rfl : u = rs.length := by omega
              have y1 := HY.out t hlt
              have hin := HIN.out t hlt
              have q1 : decide (yv t < lowN rs t rs.length) = false := by simp; omega
              have q2 : decide (hghN rs t rs.length < yv t) = false := by simp; omega
              clear hin
              go_wp2_with fail
              go_roundw
              case rel => exact ⟨t + 1, by omega, by go_num, by first | trivial | rfl⟩
              case measure => simp [intOf]; omega
        · obtain rfl : t = 3 := by omega
          have h8 := HH8.out
          obtain ⟨B1, O1, C1, l0, lk0, lk1, rl, -⟩ := HROW.out (rs.length - 1) (by omega)
          obtain ⟨B2, O2, C2, f0, fk0, fk1, rf, -⟩ := HROW.out 0 (by omega)
          rw [Nat.add_zero] at f0
          have RL := Lib.hid rl
          have RF := Lib.hid rf
          have i1 : IntKind.i64.wrap ((rs.length : Int) - 1) = ((rs.length - 1 : Nat) : Int) := by rw [IntWalk.i64_in _ (by omega)]; omega
          have CE0 : Hid (∀ W X, Below (W.alloc (.cells #[.int .i64 0, .int .i64 0, .int .i64 0] 2)).heap.size (W.alloc (.cells #[.int .i64 0, .int .i64 0, .int .i64 0] 2)) X → Below wr.heap.size wr W → Calls Try.prog 7 #[.agg #[.int .i64 (s : Int), .slice (some ⟨b, o, none⟩) rs.length cp], .slice (some ⟨W.heap.size, 0, none⟩) 3 3] X (IAns X 0 (rw_ rs 0))) := fun W X hX hW => by
            obtain ⟨gl, hl⟩ := (own3L (Bx.new W #[.int .i64 0, .int .i64 0, .int .i64 0] 2 rfl)).hd
            have := EvalGrid_any (some ⟨b, o, none⟩) (some ⟨W.heap.size, 0, none⟩) rs.length cp 3 3 (s : Int) rs [0, 0, 0] ms gl X (M9.out.bel (blThen (blThenAlloc hW _) hX)) (hl.bel hX)
            rw [HLO.out, (eg_y (xs := [0, 0, 0]) HG0.out (by decide)).1] at this
            exact this
          have CE1 : Hid (∀ W X, Below (W.alloc (.cells #[.int .i64 65535, .int .i64 65535, .int .i64 65535] 2)).heap.size (W.alloc (.cells #[.int .i64 65535, .int .i64 65535, .int .i64 65535] 2)) X → Below wr.heap.size wr W → Calls Try.prog 7 #[.agg #[.int .i64 (s : Int), .slice (some ⟨b, o, none⟩) rs.length cp], .slice (some ⟨W.heap.size, 0, none⟩) 3 3] X (IAns X 0 (rw_ rs (rs.length - 1)))) := fun W X hX hW => by
            obtain ⟨gl, hl⟩ := (own3L (Bx.new W #[.int .i64 65535, .int .i64 65535, .int .i64 65535] 2 rfl)).hd
            have := EvalGrid_any (some ⟨b, o, none⟩) (some ⟨W.heap.size, 0, none⟩) rs.length cp 3 3 (s : Int) rs [65535, 65535, 65535] ms gl X (M9.out.bel (blThen (blThenAlloc hW _) hX)) (hl.bel hX)
            rw [HHI.out, (eg_y (xs := [65535, 65535, 65535]) HG0.out (by decide)).1] at this
            exact this
          have CS : Hid (∀ W, Below wr.heap.size wr W → Calls Try.prog 21 #[.agg #[.int .i64 (s : Int), .slice (some ⟨b, o, none⟩) rs.length cp], .slice P m d] W (IAns W 0 [yv 0, yv 1, yv 2])) := fun W hW => by
            have := sEvalGrid_any (some ⟨b, o, none⟩) P rs.length cp m d (s : Int) rs ps ms gs W (M9.out.bel hW) (V9.out.bel hW)
            rw [HE3.out, (eg_y HG0.out HLF.out).1] at this
            exact this
          have fi := fun A n c W => run_fldI 0 A n c W
          have bl1 := cell_lt f0
          have hlt1 : rs.length - 1 < rs.length := by omega
          have hlt0 : 0 < rs.length := by omega
          clear rl rf h8
          go_wp2_with fail
          go_region_held3 (fun w' => w'.cell? ⟨w1.heap.size, 0, none⟩ = some (.int .i64 (s : Int)) ∧ w'.cell? ⟨w1.heap.size, 1, none⟩ = some (.slice (some ⟨b, o, none⟩) rs.length cp) ∧ w'.cell? ⟨w2.heap.size, 1, none⟩ = some (.slice (some ⟨bE, oE, none⟩) 3 ce) ∧ w'.cell? ⟨b, o, none⟩ = some (.slice (some ⟨B2, O2, none⟩) 3 C2)) (refine ⟨?_, ?_, ?_, ?_⟩ <;> ((repeat (first | (with_reducible exact x0) | (with_reducible exact x1) | (with_reducible exact e1) | (with_reducible exact f0) | (with_reducible refine cell_later Tf.out ?_) | (with_reducible refine cell_later Te.out ?_) | (with_reducible refine cell_later Td.out ?_) | (with_reducible refine cell_later Tc.out ?_) | (with_reducible refine cell_later Tb.out ?_) | (with_reducible refine cell_later Ta.out ?_) | (with_reducible refine cell_later (blAlloc _ _) ?_) | (with_reducible refine cell_later (Below.refl _ _).drew ?_))); done)) (first
            | (go_at_call 7; (with_reducible refine (CE0.out wr _ (by repeat (first | (with_reducible exact (Below.refl _ _)) | (with_reducible refine Below.drew ?_))) (Below.refl wr.heap.size wr)).mono ?_); rintro e wa ⟨F1, nf1, cf1, rfl, hof, hb⟩; have Ta := Lib.hid (show Below wr.heap.size wr wa from blThen (by repeat (first | (with_reducible exact (Below.refl wr.heap.size wr)) | (with_reducible refine blThenAlloc ?_ _) | (with_reducible refine Below.drew ?_))) hb); have Ra := Lib.hid hof.hd.choose_spec.rd; have na : nf1 ≤ 1000000000000 := (by have := Ra.out.1; have := HROWL.out 0 (by have := HH8.out; omega); omega); clear hof hb)
            | (go_at_call 15; (with_reducible refine (lwNums_same F1 (some ⟨B2, O2, none⟩) nf1 3 cf1 C2 (rw_ rs 0) _ (Ra.out.below (by repeat (first | (with_reducible exact (Below.refl _ _)) | (with_reducible refine blThenAlloc ?_ _) | (with_reducible refine Below.drew ?_)))) (RF.out.below (by repeat (first | (with_reducible exact Ta.out) | (with_reducible refine blThenAlloc ?_ _) | (with_reducible refine Below.drew ?_)))) na).mono ?_); rintro e wb ⟨rfl, ml, hwl⟩; have Tb := Lib.hid (show Below wr.heap.size wr wb from (by rw [hwl]; exact blThenDrew (by repeat (first | (with_reducible exact Ta.out) | (with_reducible refine blThenAlloc ?_ _) | (with_reducible refine Below.drew ?_))) _)); clear hwl)
            | (go_at_call 7; (with_reducible refine (CE1.out wb _ (by repeat (first | (with_reducible exact (Below.refl _ _)) | (with_reducible refine Below.drew ?_))) Tb.out).mono ?_); rintro e wd ⟨F2, nf2, cf2, rfl, hof, hb⟩; have Tc := Lib.hid (show Below wr.heap.size wr wd from blThen (by repeat (first | (with_reducible exact Tb.out) | (with_reducible refine blThenAlloc ?_ _) | (with_reducible refine Below.drew ?_))) hb); have Rc := Lib.hid hof.hd.choose_spec.rd; have nc : nf2 ≤ 1000000000000 := (by have := Rc.out.1; have := HROWL.out (rs.length - 1) (by have := HH8.out; omega); omega); clear hof hb)
            | (go_at_call 15; (with_reducible refine (lwNums_same F2 (some ⟨B1, O1, none⟩) nf2 3 cf2 C1 (rw_ rs (rs.length - 1)) _ (Rc.out.below (by repeat (first | (with_reducible exact (Below.refl _ _)) | (with_reducible refine blThenAlloc ?_ _) | (with_reducible refine Below.drew ?_)))) (RL.out.below (by repeat (first | (with_reducible exact Tc.out) | (with_reducible refine blThenAlloc ?_ _) | (with_reducible refine Below.drew ?_)))) nc).mono ?_); rintro e we ⟨rfl, ml2, hwl⟩; have Td := Lib.hid (show Below wr.heap.size wr we from (by rw [hwl]; exact blThenDrew (by repeat (first | (with_reducible exact Tc.out) | (with_reducible refine blThenAlloc ?_ _) | (with_reducible refine Below.drew ?_))) _)); clear hwl)
            | (go_at_call 21; (with_reducible refine (CS.out _ (by repeat (first | (with_reducible exact Td.out) | (with_reducible refine blThenAlloc ?_ _) | (with_reducible refine Below.drew ?_)))).mono ?_); rintro e wf ⟨F3, nf3, cf3, rfl, hof, hb⟩; have Te := Lib.hid (show Below wr.heap.size wr wf from blThen (by repeat (first | (with_reducible exact Td.out) | (with_reducible refine blThenAlloc ?_ _) | (with_reducible refine Below.drew ?_))) hb); have Re := Lib.hid hof.hd.choose_spec.rd; clear hof hb)
            | (go_at_call 15; (with_reducible refine (lwNums_same (some ⟨bE, oE, none⟩) F3 3 nf3 ce cf3 [yv 0, yv 1, yv 2] _ (RE.out.below (by repeat (first | (with_reducible exact Te.out) | (with_reducible refine blThenAlloc ?_ _) | (with_reducible refine Below.drew ?_)))) (Re.out.below (by repeat (first | (with_reducible exact (Below.refl _ _)) | (with_reducible refine blThenAlloc ?_ _) | (with_reducible refine Below.drew ?_)))) (by omega)).mono ?_); rintro e wg ⟨rfl, ml3, hwl⟩; have Tf := Lib.hid (show Below wr.heap.size wr wg from (by rw [hwl]; exact blThenDrew (by repeat (first | (with_reducible exact Te.out) | (with_reducible refine blThenAlloc ?_ _) | (with_reducible refine Below.drew ?_))) _)); clear hwl))
          all_goals
            go_wp2_with fail
            go_ret
            exact ⟨rfl, blThen T9.out Tf.out⟩
    · have hqn : (f == 0) = false := by simpa using h0
      have e0 := E9.out.c 0 rfl
      have el := cell_lt e0
      go_wp2_with fail
      go_ret
      exact ⟨rfl, T9.out⟩

set_option maxRecDepth 100000 in
theorem lifted (os : Os) (started : os.Started) (H : Type) (enc : TypeId × Value → H) :
    ReturnsInHanded {} Try.checked os 3 .any (Rows.fnGridsSpec.pre6 enc Try.prog Try.f3 Rows.fnGridsRow.domain false) (Rows.fnGridsSpec.post enc Try.prog Try.f3 false true false false) := by
  refine returnsInHanded_of_change (C := Try.checked) own started (by kernel_rfl) Try.func3
    (ChangeSpec.witness6 (enc := enc) (C := Try.checked) false ⟨#[], #[.slice none 0 0], []⟩ 8 (by kernel_rfl) (by kernel_rfl) (by kernel_rfl) (by kernel_rfl)) ?_
  intro W base args ds gs before hval0 hW hcnd _
  have hval : ∀ (j : Nat) t v, Try.f3.params[j]? = some t → args[j]? = some v → Value.okWide Try.prog W .any base t v := hval0
  have hW' := hW
  obtain ⟨p, q, hA0, hV0, rfl, hfz, hnd⟩ := hW
  have hA : DataW.TrodAll enc Try.prog W 0 (fun _ => true) true Try.f3.params.toList args.toList ds p := hA0
  have hV : DataW.TrodVars enc Try.prog W (fun _ => true) [] gs q := hV0
  rw [Try.params3] at hA hval
  obtain ⟨v0, vs0, d0, ds0, p0, q0, hargs, rfl, rfl, h0, r0⟩ := trodAll_cons hA
  obtain ⟨rfl, rfl, rfl⟩ := trodAll_nil r0
  obtain rfl : args = #[v0] := by cases args; simp_all
  obtain ⟨rfl, rfl⟩ : gs = [] ∧ q = [] := by
    cases gs with
    | nil => exact ⟨rfl, hV⟩
    | cons g r => exact absurd hV (by intro h; cases h)
  have k0 := h0
  have lt0 : ∀ x ∈ p0, x.block < W.heap.size := by obtain ⟨m, hm⟩ := k0; exact DataW.trod_lt m _ _ _ hm
  obtain ⟨a0, n0, c0, xs0, bs0, rfl, hd0, u0⟩ := open_bytes (hval 0 22 v0 rfl rfl) h0
  clear hA0 hval0
  refine (walk a0 n0 c0 xs0 bs0 W hd0 u0).mono fun e W' ⟨he, bel⟩ => ?_
  subst he
  exact ⟨_, rfl, _, _, _, [], _, [], hW', trodAll_mk1 (shut_bool Try.underlying4 _), (trodAll_cons_mk (Below.trod laidOut (by kernel_rfl) (of_decide_eq_true (by kernel_rfl)) k0 bel lt0) trodAll_mk0), rfl, bel.frame _, fun h => by cases h⟩

theorem row_holds : Rows.FnGridsSaid :=
  OpenClaim.holds_of_wide 3 Try.f3 rfl rfl rfl rfl rfl rfl rfl ⟨rfl, rfl, rfl, rfl, rfl⟩ rfl rfl rfl rfl rfl (by kernel_rfl) Try.func3 (by kernel_rfl)
    (of_decide_eq_true (by kernel_rfl)) (by unfold Func.isWrapper; rw [if_neg (of_decide_eq_false (by kernel_rfl))]; exact ⟨rfl, rfl⟩)
    (fun os started H enc _ => lifted os started H enc)

theorem proved : Rows.FnGridsSaid := row_holds
#print axioms proved

end Go.Proofs.Ythplngcdldongaa.lGrids
