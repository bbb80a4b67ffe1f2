/-
  The slope of a stage: what it is (slN, slD); the program's slopeOf, SlopeStage.
  The slope of a stage by the reference model: l7Slope, SlopeStage.
  Helpers of the laws over slopes and budgets: eqRatioResult, eqBudgetResult.
-/
import Derived.Test.YtlfdpambbgddoaaStpB
import Derived.Test.YtlfdpambbgddoaaChnA
import Derived.Test.YtlfdpambbgddoaaItA
import Derived.Test.YtlfdpambbgddoaaMatS
import Derived.Test.YtlfdpambbgddoaaSpnA
import Derived.Test.YtlfdpambbgddoaaBaseA
namespace Go.Proofs.Ytlfdpambbgddoaa
open Go.RowKit Go.Maps
set_option linter.unusedVariables false
set_option linter.unusedSimpArgs false

def mxC (cs : Rws) : Nat → Int
  | 0 => 0
  | k + 1 => max (mxC cs k) (slpV (rw_ cs k))
def mxR (rs : Rws) : Nat → Int
  | 0 => 0
  | k + 1 => max (mxR rs k) (rowV rs (k : Int))
def slN (t : Stg) : Int := if t.kd = 1 then mxC t.cs 3 else if t.kd = 2 then mxR t.rs 3 else 3 * spV t.sd t.ns * (t.sd - 1)
def slD (t : Stg) : Int := if t.kd = 2 then 65536 else 65535
theorem slpV_bd {ps : List Int} (h : CFine ps) : 0 ≤ slpV ps ∧ slpV ps ≤ 1048560 := by
  have h1 := h.lo
  have h2 := h.hi
  have b := slo_bd h (ps.length - 1)
  unfold slpV
  rw [if_pos (cf_zero h)]
  refine ⟨Int.mul_nonneg b.1 (by omega), ?_⟩
  have := Int.mul_le_mul_of_nonneg_right b.2 (by omega : (0 : Int) ≤ (ps.length : Int) - 1)
  omega
theorem mxC_bd {cs : Rws} (h : ∀ i, i < 3 → cf (rw_ cs i) = 0) : ∀ k, k ≤ 3 → 0 ≤ mxC cs k ∧ mxC cs k ≤ 1048560 := by
  intro k
  induction k with
  | zero => intro _; simp [mxC]
  | succ k ih =>
    intro hk
    have a := ih (by omega)
    have b := slpV_bd (cfine (h k (by omega)))
    simp only [mxC]
    omega
theorem sumR_bd {rs : Rws} (h : mf rs = 0) {i : Nat} (hi : i < 3) : 0 ≤ sumR (fl rs) i ∧ sumR (fl rs) i ≤ 786432 := by
  have a := fl_bd h (3 * i) (by omega)
  have b := fl_bd h (3 * i + 1) (by omega)
  have c := fl_bd h (3 * i + 2) (by omega)
  unfold sumR
  omega
theorem rowV_bd {rs : Rws} (h : mf rs = 0) {i : Nat} (hi : i < 3) : 0 ≤ rowV rs (i : Int) ∧ rowV rs (i : Int) ≤ 786432 := by
  rw [(row_in h (row := (i : Int)) (by omega)).2]
  exact sumR_bd h (by omega)
theorem mxR_bd {rs : Rws} (h : mf rs = 0) : ∀ k, k ≤ 3 → 0 ≤ mxR rs k ∧ mxR rs k ≤ 786432 := by
  intro k
  induction k with
  | zero => intro _; simp [mxR]
  | succ k ih =>
    intro hk
    have a := ih (by omega)
    have b := rowV_bd h (i := k) (by omega)
    simp only [mxR]
    omega
theorem spV_bd {s : Nat} {rs : Rws} (h0 : gf (s : Int) rs = 0) : 0 ≤ spV (s : Int) rs ∧ spV (s : Int) rs ≤ 65535 := by
  obtain ⟨hs, hlen, hrow⟩ := gf_zero h0
  have h3 : s = 2 ∨ s = 3 ∨ s = 4 := by rcases side_cases hs with e | e | e <;> omega
  have hNI : ((s * s * s : Nat) : Int) = (s : Int) * s * s := by simp
  have hNN : rs.length = s * s * s := by rw [← hNI] at hlen; omega
  rw [sp_y h0]
  exact spn_bd h3 (fun t ht k hk => inB_iff.1 ((lf_zero (hrow t (by rw [hNN]; exact ht))).2 k hk)) _ (Nat.le_refl _)
theorem fld1 (a b : Int) (W : World) : (Instr.field 23 (.agg #[.int .i64 a, .int .i64 b]) 1).run Try.prog W = .ok (.int .i64 b) W := by kernel_rfl
def RaAns (w : World) (a b : Int) (e : Ending) (w' : World) : Prop := e = .returned (.agg #[.int .i64 0, .int .i64 a, .int .i64 b]) ∧ Below w.heap.size w w'
set_option maxRecDepth 100000 in
set_option maxHeartbeats 4000000 in
theorem slopeOf_1 (A : Option Addr) (n c : Nat) (cs : Rws) (w : World) (h : ∃ bs, Hd w (rowsD cs) (.slice A n c) bs) (h0 : crF cs = 0) :
    Calls Try.prog 51 #[.iface 155 (.agg #[.slice A n c])] w (RaAns w (mxC cs 3) 65535) := by
  obtain ⟨bs, h⟩ := h
  obtain ⟨hl, hc, hm, -⟩ := h.rows
  obtain ⟨h3, hcf⟩ := crF_fine h0
  obtain rfl : n = 3 := by omega
  have H := Lib.hid h
  have HCF := Lib.hid hcf
  have HB := Lib.hid (mxC_bd hcf)
  have t1 := fun W => ta_11 A 3 c W
  clear h hl hc hm h0 h3 hcf
  go_enter Try.func51, Try.ntmps51
  go_wp2_with fail
  obtain ⟨W0, hW0⟩ : ∃ W0, W0 = ((w.alloc (.cells #[.int .i64 0, .int .i64 0, .int .i64 0] 90)).alloc (.cells #[.int .i64 0, .int .i64 0, .int .i64 65535] 90)).alloc (.cells #[.slice A 3 c] 155) := ⟨_, rfl⟩
  have R0 : Hid (Bx W0 w.heap.size [.int .i64 0, .int .i64 0, .int .i64 0]) := by show Bx _ _ _; rw [hW0]; exact ((Bx.new _ _ _ rfl).alloc _).alloc _
  have M0 : Hid (Bx W0 (w.heap.size + 1) [.int .i64 0, .int .i64 0, .int .i64 65535]) := by show Bx _ _ _; rw [hW0]; exact (Bx.new _ _ _ (by simp)).alloc _
  have T0 : Hid (Below w.heap.size w W0) := by show Below _ _ _; rw [hW0]; exact blThenAlloc (blThenAlloc (blAlloc _ _) _) _
  rw [← hW0]
  clear hW0 t1
  go_loopw [18] (fun i wr => ∃ k : Nat, k ≤ 3 ∧ i = .int .i64 k ∧ Hid (Bx wr w.heap.size [.int .i64 0, .int .i64 0, .int .i64 0] ∧ Bx wr (w.heap.size + 1) [.int .i64 0, .int .i64 (mxC cs k), .int .i64 65535] ∧ Below w.heap.size w wr)) (fun i _ => 3 - (intOf i).toNat)
  case atStart => exact ⟨0, by omega, rfl, R0.out, M0.out, T0.out⟩
  case round =>
    obtain ⟨k, hk, rfl, HH⟩ := hrel
    by_cases hlt : k < 3
    · obtain ⟨b, oo, B1, L1, C1, g1, rfl, x1, x3, -⟩ := (H.out.bel HH.out.2.2).row hlt
      have HX3 := Lib.hid x3
      have CC : Hid (∀ W, Below wr.heap.size wr W → Calls Try.prog 92 #[.agg #[.slice B1 L1 C1]] W fun e w' => e = .returned (.agg #[.int .i64 0, .int .i64 (slpV (rw_ cs k))]) ∧ Below W.heap.size W w') := fun W hW => by
        have := SlopeOf_any B1 L1 C1 (rw_ cs k) W (HX3.out.rd.below hW) (Nat.le_trans HX3.out.caps.1 HX3.out.caps.2)
        rw [HCF.out k hlt] at this
        exact this
      have HMX : Hid (mxC cs (k + 1) = max (mxC cs k) (slpV (rw_ cs k))) := rfl
      obtain ⟨m, hm⟩ : ∃ m, m = mxC cs k := ⟨_, rfl⟩
      obtain ⟨y, hy⟩ : ∃ y, y = slpV (rw_ cs k) := ⟨_, rfl⟩
      rw [← hm] at HH HMX
      rw [← hy] at CC HMX
      have y1 := HH.out.2.1.c 1 rfl
      have yl := HH.out.2.1.lt
      have yf := HH.out.2.1.f 1
      have hmx := fun W x y => run_max2 W x y
      have hfl := fun W => fld1 0 y W
      clear x3 hm hy
      go_wp2_with fail
      go_region_with (go_at_call 92; refine (CC.out _ (by first | exact blAlloc _ _ | exact (blAlloc _ _).drew)).mono ?_; rintro e w2 ⟨rfl, hb⟩; have XB := ((HH.out.2.1.alloc (.cells #[.slice B1 L1 C1] 71)).drewN 1).bel hb; have xc2 := XB.c 1 rfl; have xl2 := XB.lt; have xf2 := XB.f 1)
      all_goals
        have HBW := blThen ((blAlloc wr (.cells #[.slice B1 L1 C1] 71)).drew) hb
        have HN : Hid (Bx (w2.setCell ⟨w.heap.size + 1, 1, none⟩ (.int .i64 (max m y))) w.heap.size [.int .i64 0, .int .i64 0, .int .i64 0] ∧ Bx (w2.setCell ⟨w.heap.size + 1, 1, none⟩ (.int .i64 (max m y))) (w.heap.size + 1) [.int .i64 0, .int .i64 (mxC cs (k + 1)), .int .i64 65535] ∧ Below w.heap.size w (w2.setCell ⟨w.heap.size + 1, 1, none⟩ (.int .i64 (max m y)))) := by
          rw [HMX.out]
          exact ⟨(HH.out.1.bel HBW).oth (by omega) 1 _, XB.set 1 _, bel1 (blThen HH.out.2.2 HBW) (by omega) 1 _⟩
        clear hb XB xc2 xl2 xf2 HBW y1 yl yf hmx hfl x1
        go_wp2_with fail
        go_roundw
        case rel => exact ⟨k + 1, by omega, by go_num, HN.out⟩
        case measure => simp [intOf]; omega
    · obtain rfl : k = 3 := by omega
      obtain ⟨m, hm⟩ : ∃ m, m = mxC cs 3 := ⟨_, rfl⟩
      rw [← hm] at HH
      have HM := Lib.hid hm
      have x0 := HH.out.1.c 0 rfl
      have x1 := HH.out.1.c 1 rfl
      have x2 := HH.out.1.c 2 rfl
      have f0 := HH.out.1.f 0
      have f1 := HH.out.1.f 1
      have f2 := HH.out.1.f 2
      have y0 := HH.out.2.1.c 0 rfl
      have y1 := HH.out.2.1.c 1 rfl
      have y2 := HH.out.2.1.c 2 rfl
      have l1 := HH.out.1.lt
      have KK := ((HH.out.1.set 0 (.int .i64 0)).set 1 (.int .i64 m)).set 2 (.int .i64 65535)
      have k0 := KK.c 0 rfl
      have k1 := KK.c 1 rfl
      have k2 := KK.c 2 rfl
      clear KK hm
      go_wp2_with fail
      refine bodyPost_ret (v := .agg #[.int .i64 0, .int .i64 m, .int .i64 65535]) (by simp [results, Try.results51, go_sem, k0, k1, k2]) rfl ⟨by rw [HM.out], ?_⟩
      exact bel_set3 HH.out.2.2 (Nat.le_refl _) _ _ _
set_option maxRecDepth 100000 in
set_option maxHeartbeats 4000000 in
theorem slopeOf_2 (A : Option Addr) (n c : Nat) (rs : Rws) (w : World) (h : ∃ bs, Hd w (rowsD rs) (.slice A n c) bs) (h0 : mf rs = 0) :
    Calls Try.prog 51 #[.iface 158 (.agg #[.slice A n c])] w (RaAns w (mxR rs 3) 65536) := by
  obtain ⟨bs, h⟩ := h
  have H := Lib.hid h
  have H0 := Lib.hid h0
  have t1 := fun W => ta_21 A n c W
  have t2 := fun W => ta_22 A n c W
  clear h h0
  obtain ⟨W0, hW0⟩ : ∃ W0, W0 = ((w.alloc (.cells #[.int .i64 0, .int .i64 0, .int .i64 0] 90)).alloc (.cells #[.int .i64 0, .int .i64 0, .int .i64 65536] 90)).alloc (.cells #[.slice A n c] 158) := ⟨_, rfl⟩
  have R0 : Hid (Bx W0 w.heap.size [.int .i64 0, .int .i64 0, .int .i64 0]) := by show Bx _ _ _; rw [hW0]; exact ((Bx.new _ _ _ rfl).alloc _).alloc _
  have M0 : Hid (Bx W0 (w.heap.size + 1) [.int .i64 0, .int .i64 0, .int .i64 65536]) := by show Bx _ _ _; rw [hW0]; exact (Bx.new _ _ _ (by simp)).alloc _
  have O0 : Hid (Bx W0 (w.heap.size + 1 + 1) [.slice A n c]) := by show Bx _ _ _; rw [hW0]; exact Bx.new _ _ _ (by simp)
  have T0 : Hid (Below w.heap.size w W0) := by show Below _ _ _; rw [hW0]; exact blThenAlloc (blThenAlloc (blAlloc _ _) _) _
  go_enter Try.func51, Try.ntmps51
  go_wp2_with fail
  try rw [← hW0]
  clear hW0 t1 t2
  go_loopw [34] (fun i wr => ∃ k : Nat, k ≤ 3 ∧ i = .int .i64 k ∧ Hid (Bx wr w.heap.size [.int .i64 0, .int .i64 0, .int .i64 0] ∧ Bx wr (w.heap.size + 1) [.int .i64 0, .int .i64 (mxR rs k), .int .i64 65536] ∧ Bx wr (w.heap.size + 1 + 1) [.slice A n c] ∧ Below w.heap.size w wr)) (fun i _ => 3 - (intOf i).toNat)
  case atStart => exact ⟨0, by omega, rfl, R0.out, M0.out, O0.out, T0.out⟩
  case round =>
    obtain ⟨k, hk, rfl, HH⟩ := hrel
    by_cases hlt : k < 3
    · have CC : Hid (∀ W, Below w.heap.size w W → Calls Try.prog 93 #[.agg #[.slice A n c], .int .i64 (k : Int)] W fun e w' => e = .returned (.agg #[.int .i64 0, .int .i64 (rowV rs (k : Int))]) ∧ Below W.heap.size W w') := fun W hW => by
        have := SumOfRow_any A n c rs _ (k : Int) W (H.out.bel hW)
        rw [(row_in H0.out (row := (k : Int)) (by omega)).1] at this
        exact this
      have HMX : Hid (mxR rs (k + 1) = max (mxR rs k) (rowV rs (k : Int))) := rfl
      obtain ⟨m, hm⟩ : ∃ m, m = mxR rs k := ⟨_, rfl⟩
      obtain ⟨y, hy⟩ : ∃ y, y = rowV rs (k : Int) := ⟨_, rfl⟩
      rw [← hm] at HH HMX
      rw [← hy] at CC HMX
      have y1 := HH.out.2.1.c 1 rfl
      have yl := HH.out.2.1.lt
      have yf := HH.out.2.1.f 1
      have o1 := HH.out.2.2.1.c 0 rfl
      have ol := HH.out.2.2.1.lt
      have hmx := fun W x y => run_max2 W x y
      have hfl := fun W => fld1 0 y W
      clear hm hy
      go_wp2_with fail
      go_region_with (go_at_call 93; refine (CC.out _ (by first | exact HH.out.2.2.2 | exact HH.out.2.2.2.drew)).mono ?_; rintro e w2 ⟨rfl, hb⟩; have XB := (HH.out.2.1.drewN 1).bel hb; have xc2 := XB.c 1 rfl; have xl2 := XB.lt; have xf2 := XB.f 1)
      all_goals
        have HBW := blThen ((Below.refl wr.heap.size wr).drew) hb
        have HN : Hid (Bx (w2.setCell ⟨w.heap.size + 1, 1, none⟩ (.int .i64 (max m y))) w.heap.size [.int .i64 0, .int .i64 0, .int .i64 0] ∧ Bx (w2.setCell ⟨w.heap.size + 1, 1, none⟩ (.int .i64 (max m y))) (w.heap.size + 1) [.int .i64 0, .int .i64 (mxR rs (k + 1)), .int .i64 65536] ∧ Bx (w2.setCell ⟨w.heap.size + 1, 1, none⟩ (.int .i64 (max m y))) (w.heap.size + 1 + 1) [.slice A n c] ∧ Below w.heap.size w (w2.setCell ⟨w.heap.size + 1, 1, none⟩ (.int .i64 (max m y)))) := by
          rw [HMX.out]
          exact ⟨(HH.out.1.bel HBW).oth (by omega) 1 _, XB.set 1 _, (HH.out.2.2.1.bel HBW).oth (by omega) 1 _, bel1 (blThen HH.out.2.2.2 HBW) (by omega) 1 _⟩
        clear hb XB xc2 xl2 xf2 HBW y1 yl yf hmx hfl o1 ol
        go_wp2_with fail
        go_roundw
        case rel => exact ⟨k + 1, by omega, by go_num, HN.out⟩
        case measure => simp [intOf]; omega
    · obtain rfl : k = 3 := by omega
      obtain ⟨m, hm⟩ : ∃ m, m = mxR rs 3 := ⟨_, rfl⟩
      rw [← hm] at HH
      have HM := Lib.hid hm
      have x0 := HH.out.1.c 0 rfl
      have x1 := HH.out.1.c 1 rfl
      have x2 := HH.out.1.c 2 rfl
      have f0 := HH.out.1.f 0
      have f1 := HH.out.1.f 1
      have f2 := HH.out.1.f 2
      have y0 := HH.out.2.1.c 0 rfl
      have y1 := HH.out.2.1.c 1 rfl
      have y2 := HH.out.2.1.c 2 rfl
      have l1 := HH.out.1.lt
      have KK := ((HH.out.1.set 0 (.int .i64 0)).set 1 (.int .i64 m)).set 2 (.int .i64 65536)
      have k0 := KK.c 0 rfl
      have k1 := KK.c 1 rfl
      have k2 := KK.c 2 rfl
      clear KK hm
      go_wp2_with fail
      refine bodyPost_ret (v := .agg #[.int .i64 0, .int .i64 m, .int .i64 65536]) (by simp [results, Try.results51, go_sem, k0, k1, k2]) rfl ⟨by rw [HM.out], ?_⟩
      exact bel_set3 HH.out.2.2.2 (Nat.le_refl _) _ _ _
set_option maxRecDepth 100000 in
set_option maxHeartbeats 4000000 in
theorem slopeOf_3 (A : Option Addr) (n c s : Nat) (rs : Rws) (w : World) (h : ∃ bs, Hd w (rowsD rs) (.slice A n c) bs) (h0 : gf (s : Int) rs = 0) :
    Calls Try.prog 51 #[.iface 161 (.agg #[.int .i64 (s : Int), .slice A n c])] w (RaAns w (3 * spV (s : Int) rs * ((s : Int) - 1)) 65535) := by
  obtain ⟨bs, h⟩ := h
  have H := Lib.hid h
  have hsd := side_cases (gf_zero h0).1
  have hsp := spV_bd h0
  have CC : Hid (∀ W, Below w.heap.size w W → Calls Try.prog 27 #[.agg #[.int .i64 (s : Int), .slice A n c]] W fun e w' => e = .returned (.agg #[.int .i64 0, .int .i64 (spV (s : Int) rs)]) ∧ Below W.heap.size W w') := fun W hW => by
    have := SpanOf_any A n c (s : Int) rs _ W (H.out.bel hW)
    unfold SpAns at this
    rw [h0] at this
    exact this
  have t1 := fun W => ta_31 (s : Int) A n c W
  have t2 := fun W => ta_32 (s : Int) A n c W
  have t3 := fun W => ta_33 (s : Int) A n c W
  obtain ⟨y, hy⟩ : ∃ y, y = spV (s : Int) rs := ⟨_, rfl⟩
  rw [← hy] at hsp CC ⊢
  obtain ⟨D, hD⟩ : ∃ D, D = (s : Int) - 1 := ⟨_, rfl⟩
  have wd : IntKind.i64.wrap ((s : Int) - 1) = D := by rw [hD]; exact IntWalk.i64_in _ (by omega)
  have hpb : 0 ≤ 3 * y * D ∧ 3 * y * D ≤ 589815 := by
    have hd3 : D = 1 ∨ D = 2 ∨ D = 3 := by omega
    rcases hd3 with e | e | e <;> rw [e] <;> omega
  have wp : IntKind.i64.wrap (3 * y * D) = 3 * y * D := IntWalk.i64_in _ (by omega)
  have w3 : IntKind.i64.wrap (3 * y) = 3 * y := IntWalk.i64_in _ (by omega)
  rw [← hD]
  have HHD := Lib.hid hD
  have hfl := fun W => fld1 0 y W
  have G2 := Lib.hid (Bx.new ((w.alloc (.cells #[.int .i64 0, .int .i64 0, .int .i64 0] 90)).alloc (.cells #[.int .i64 0, .int .i64 0, .int .i64 65535] 90)) #[.int .i64 (s : Int), .slice A n c] 161 (b := w.heap.size + 1 + 1) (by simp))
  have M2 := Lib.hid ((Bx.new (w.alloc (.cells #[.int .i64 0, .int .i64 0, .int .i64 0] 90)) #[.int .i64 0, .int .i64 0, .int .i64 65535] 90 (b := w.heap.size + 1) (by simp)).alloc (.cells #[.int .i64 (s : Int), .slice A n c] 161))
  have R2 := Lib.hid (((Bx.new w #[.int .i64 0, .int .i64 0, .int .i64 0] 90 rfl).alloc (.cells #[.int .i64 0, .int .i64 0, .int .i64 65535] 90)).alloc (.cells #[.int .i64 (s : Int), .slice A n c] 161))
  clear h h0 hy hD hsd
  go_enter Try.func51, Try.ntmps51
  go_wp2_with fail
  go_region_with (go_at_call 27; refine (CC.out _ (by first | exact blThenAlloc (blThenAlloc (blAlloc _ _) _) _ | exact (blThenAlloc (blThenAlloc (blAlloc _ _) _) _).drew)).mono ?_; rintro e w2 ⟨rfl, hb⟩; have XG := (G2.out.drewN 1).bel hb; have g0 := XG.c 0 rfl; have gl := XG.lt; have XB := (M2.out.drewN 1).bel hb; have xc2 := XB.c 1 rfl; have xl2 := XB.lt; have xf2 := XB.f 1)
  all_goals
    have HBW := blThen ((blThenAlloc (blThenAlloc (blAlloc w (.cells #[.int .i64 0, .int .i64 0, .int .i64 0] 90)) (.cells #[.int .i64 0, .int .i64 0, .int .i64 65535] 90)) (.cells #[.int .i64 (s : Int), .slice A n c] 161)).drew) hb
    have HN : Hid (Bx (w2.setCell ⟨w.heap.size + 1, 1, none⟩ (.int .i64 (3 * y * D))) w.heap.size [.int .i64 0, .int .i64 0, .int .i64 0] ∧ Bx (w2.setCell ⟨w.heap.size + 1, 1, none⟩ (.int .i64 (3 * y * D))) (w.heap.size + 1) [.int .i64 0, .int .i64 (3 * y * D), .int .i64 65535] ∧ Below w.heap.size w (w2.setCell ⟨w.heap.size + 1, 1, none⟩ (.int .i64 (3 * y * D)))) :=
      ⟨((R2.out.drewN 1).bel hb).oth (by omega) 1 _, XB.set 1 _, bel1 HBW (by omega) 1 _⟩
    clear hb XB xc2 xl2 xf2 HBW XG g0 gl t1 t2 t3 hfl wd hpb hsp
    obtain ⟨z, hz⟩ : ∃ z, z = 3 * y * D := ⟨_, rfl⟩
    have HZ := Lib.hid hz
    (try simp only [w3, wp])
    rw [← hz] at HN ⊢
    clear hz wp w3
    have x0 := HN.out.1.c 0 rfl
    have x1 := HN.out.1.c 1 rfl
    have x2 := HN.out.1.c 2 rfl
    have f0 := HN.out.1.f 0
    have f1 := HN.out.1.f 1
    have f2 := HN.out.1.f 2
    have y0 := HN.out.2.1.c 0 rfl
    have y1 := HN.out.2.1.c 1 rfl
    have y2 := HN.out.2.1.c 2 rfl
    have l1 := HN.out.1.lt
    have KK := ((HN.out.1.set 0 (.int .i64 0)).set 1 (.int .i64 z)).set 2 (.int .i64 65535)
    have k0 := KK.c 0 rfl
    have k1 := KK.c 1 rfl
    have k2 := KK.c 2 rfl
    clear KK
    obtain ⟨W3, hW3⟩ : ∃ W, W = w2.setCell ⟨w.heap.size + 1, 1, none⟩ (.int .i64 z) := ⟨_, rfl⟩
    rw [← hW3] at x0 x1 x2 f0 f1 f2 y0 y1 y2 l1 k0 k1 k2 HN ⊢
    clear hW3
    go_wp2_with fail
    refine bodyPost_ret (v := .agg #[.int .i64 0, .int .i64 z, .int .i64 65535]) (by simp [results, Try.results51, go_sem, k0, k1, k2]) rfl ⟨by rw [HZ.out], ?_⟩
    exact bel_set3 HN.out.2.2 (Nat.le_refl _) _ _ _
/-- the slope of a stage without fault, whatever its kind. -/
theorem slopeOf_any (t : Stg) (v : Value) (w : World) (h : IsStg w t v) (h0 : sgf t = 0) : Calls Try.prog 51 #[v] w (RaAns w (slN t) (slD t)) := by
  obtain ⟨hsf, A1, n1, c1, A2, n2, c2, A3, n3, c3, V, XS⟩ := h
  obtain ⟨-, ⟨kd, hff⟩ | ⟨kd, hff⟩ | ⟨kd, hff⟩⟩ := sgf_zero h0
  · rw [V.one kd]
    unfold slN slD
    rw [if_pos kd, if_neg (by omega)]
    exact slopeOf_1 A1 n1 c1 t.cs w XS.a hff
  · rw [V.two kd]
    unfold slN slD
    rw [if_neg (by omega), if_pos kd, if_pos kd]
    exact slopeOf_2 A2 n2 c2 t.rs w XS.b hff
  · rw [V.thr kd]
    obtain ⟨s, hs⟩ : ∃ s : Nat, t.sd = s := ⟨t.sd.toNat, by have := inB_iff.1 (gf_zero hff).1; omega⟩
    unfold slN slD
    rw [if_neg (by omega), if_neg (by omega), if_neg (by omega), hs]
    rw [hs] at hff
    exact slopeOf_3 A3 n3 c3 s t.ns w XS.d hff
def slC (t : Stg) : Int := sgf t
def slA (t : Stg) : Int := if sgf t = 0 then slN t else 0
def slB (t : Stg) : Int := if sgf t = 0 then slD t else 0
def SlAns7 (w : World) (t : Stg) (e : Ending) (w' : World) : Prop := e = .returned (.agg #[.int .i64 (sgf t), .int .i64 (slA t), .int .i64 (slB t)]) ∧ Below w.heap.size w w'
end Go.Proofs.Ytlfdpambbgddoaa
namespace Go.Proofs.Ytlfdpambbgddoaa
open Go.RowKit Go.Maps
set_option linter.unusedVariables false
set_option linter.unusedSimpArgs false

theorem slpV_eq {ps : List Int} {n : Nat} (h : cf ps = 0) (hl : ps.length = n) : slo ps (n - 1) * ((n : Int) - 1) = slpV ps := by
  unfold slpV
  rw [if_pos h, hl]
def S7Ans (w : World) (t : Stg) (e : Ending) (w' : World) : Prop := e = .returned (.tuple #[.int .i64 (slN t), .int .i64 (slD t)]) ∧ Below w.heap.size w w'
set_option maxRecDepth 100000 in
set_option maxHeartbeats 4000000 in
theorem sSlope7_any (g o : Nat) (t : Stg) (A1 : Option Addr) (n1 c1 : Nat) (A2 : Option Addr) (n2 c2 : Nat) (A3 : Option Addr) (n3 c3 : Nat) (w : World) (h : At5 w g o t A1 n1 c1 A2 n2 c2 A3 n3 c3) (hd : HdSt w t A1 n1 c1 A2 n2 c2 A3 n3 c3) (h0 : sgf t = 0) :
    Calls Try.prog 88 #[.pointer (some ⟨g, o, none⟩)] w (S7Ans w t) := by
  obtain ⟨y0, y1, y2, y3, y4⟩ := h
  have HD := Lib.hid hd
  obtain ⟨-, ⟨kd, hff⟩ | ⟨kd, hff⟩ | ⟨kd, hff⟩⟩ := sgf_zero h0
  · obtain ⟨bs, hr⟩ := hd.a
    have hl := hr.rows.1
    obtain ⟨h3, hcf⟩ := crF_fine hff
    obtain rfl : n1 = 3 := by omega
    have H := Lib.hid hr
    have HCF := Lib.hid hcf
    have HN : Hid (slN t = mxC t.cs 3 ∧ slD t = 65535) := by show _ ∧ _; unfold slN slD; rw [if_pos kd, if_neg (by omega)]; exact ⟨rfl, rfl⟩
    rw [kd] at y0
    clear hd hr hl h3 hcf h0 hff kd
    go_enter Try.func88, Try.ntmps88
    go_wp2_with fail
    go_loopw [4, 5] (fun m i wr => ∃ k q : Nat, k ≤ 3 ∧ i = .int .i64 k ∧ m = .int .i64 (mxC t.cs k) ∧ wr = w.drewN q) (fun _ i _ => 3 - (intOf i).toNat)
    case atStart => exact ⟨0, 0, by omega, rfl, rfl, rfl⟩
    case round =>
      obtain ⟨k, q, hk, rfl, rfl, rfl⟩ := hrel
      by_cases hlt : k < 3
      · obtain ⟨b, oo, B1, L1, C1, g1, rfl, x1, x3, -⟩ := H.out.row hlt
        have CC : Hid (∀ W, Below w.heap.size w W → Calls Try.prog 127 #[.pointer (some ⟨b, oo + k, none⟩)] W fun e w' => e = .returned (.int .i64 (slpV (rw_ t.cs k))) ∧ ∃ m, w' = W.drewN m) := fun W hW => by
          have := sSlope_any b (oo + k) B1 L1 C1 (rw_ t.cs k) W (cell_later hW x1) (x3.rd.below hW) (cfine (HCF.out k hlt))
          rw [slpV_eq (HCF.out k hlt) x3.rd.1] at this
          exact this
        have HMX : Hid (mxC t.cs (k + 1) = max (mxC t.cs k) (slpV (rw_ t.cs k))) := rfl
        clear x3 x1
        go_wp2_with fail
        refine (CC.out _ (below_drewN _ _ _)).mono ?_
        rintro e w2 ⟨rfl, m2, rfl⟩
        go_wp2_with (go_at_call 126; refine (sMax_any _ _ _).mono ?_; rintro e w' ⟨rfl, rfl⟩)
        go_roundw
        case rel => exact ⟨k + 1, _, by omega, by go_num, by rw [HMX.out], by first | rfl | simp only [World.drewN_drewN]⟩
        case measure => simp [intOf]; omega
      · obtain rfl : k = 3 := by omega
        obtain ⟨m, hm⟩ : ∃ m, m = mxC t.cs 3 := ⟨_, rfl⟩
        rw [← hm] at HN ⊢
        clear hm
        go_wp2_with fail
        go_ret2
        exact ⟨by rw [HN.out.1, HN.out.2]; rfl, below_drewN _ _ _⟩
  · obtain ⟨bs, hr⟩ := hd.b
    have H := Lib.hid hr
    have HF := Lib.hid hff
    have HN : Hid (slN t = mxR t.rs 3 ∧ slD t = 65536) := by show _ ∧ _; unfold slN slD; rw [if_neg (by omega), if_pos kd, if_pos kd]; exact ⟨rfl, rfl⟩
    rw [kd] at y0
    have lg := cell_lt y2
    clear hd hr h0 hff kd
    go_enter Try.func88, Try.ntmps88
    go_wp2_with fail
    go_loopw [4, 6] (fun m i wr => ∃ k : Nat, k ≤ 3 ∧ i = .int .i64 k ∧ m = .int .i64 (mxR t.rs k) ∧ Hid (Below w.heap.size w wr)) (fun _ i _ => 3 - (intOf i).toNat)
    case atStart => exact ⟨0, by omega, rfl, rfl, Below.refl _ _⟩
    case round =>
      obtain ⟨k, hk, rfl, rfl, HB⟩ := hrel
      by_cases hlt : k < 3
      · have CC : Hid (∀ W, Below w.heap.size w W → Calls Try.prog 128 #[.agg #[.slice A2 n2 c2], .int .i64 (k : Int)] W fun e w' => e = .returned (.agg #[.int .i64 0, .int .i64 (rowV t.rs (k : Int))]) ∧ Below W.heap.size W w') := fun W hW => by
          have := sSumOfRow_any A2 n2 c2 t.rs _ (k : Int) W (H.out.bel hW)
          rw [(row_in HF.out (row := (k : Int)) (by omega)).1] at this
          exact this
        have HMX : Hid (mxR t.rs (k + 1) = max (mxR t.rs k) (rowV t.rs (k : Int))) := rfl
        have z2 := cell_later HB.out y2
        have zl := cell_lt z2
        obtain ⟨y, hy⟩ : ∃ y, y = rowV t.rs (k : Int) := ⟨_, rfl⟩
        rw [← hy] at CC HMX
        have hfl := fun W => fld1 0 y W
        clear hy
        go_wp2_with fail
        refine (CC.out _ HB.out).mono ?_
        rintro e w2 ⟨rfl, hb⟩
        have HB2 := Lib.hid (blThen HB.out hb)
        clear hb
        go_wp2_with (go_at_call 126; refine (sMax_any _ _ _).mono ?_; rintro e w' ⟨rfl, rfl⟩)
        go_roundw
        case rel => exact ⟨k + 1, by omega, by go_num, by rw [HMX.out], HB2⟩
        case measure => simp [intOf]; omega
      · obtain rfl : k = 3 := by omega
        obtain ⟨m, hm⟩ : ∃ m, m = mxR t.rs 3 := ⟨_, rfl⟩
        rw [← hm] at HN ⊢
        clear hm
        go_wp2_with fail
        go_ret2
        exact ⟨by rw [HN.out.1, HN.out.2]; rfl, HB.out⟩
  · obtain ⟨bs, hr⟩ := hd.d
    obtain ⟨s, hs⟩ : ∃ s : Nat, t.sd = s := ⟨t.sd.toNat, by have := inB_iff.1 (gf_zero hff).1; omega⟩
    have HN : Hid (slN t = 3 * spV (s : Int) t.ns * ((s : Int) - 1) ∧ slD t = 65535) := by show _ ∧ _; unfold slN slD; rw [if_neg (by omega), if_neg (by omega), if_neg (by omega), hs]; exact ⟨rfl, rfl⟩
    rw [hs] at y3 hff
    have hsd := side_cases (gf_zero hff).1
    have hsp := spV_bd hff
    have CC : Hid (∀ W, Below w.heap.size w W → Calls Try.prog 129 #[.pointer (some ⟨g, o + 3, none⟩)] W fun e w' => e = .returned (.int .i64 (spV (s : Int) t.ns)) ∧ Below W.heap.size W w') := fun W hW => by
      rw [sp_y hff]
      exact sSpan5_any g (o + 3) A3 n3 c3 s t.ns _ W (hr.bel hW) (cell_later hW y3) (cell_later hW y4) hff
    obtain ⟨y, hy⟩ : ∃ y, y = spV (s : Int) t.ns := ⟨_, rfl⟩
    rw [← hy] at hsp CC HN
    obtain ⟨D, hD⟩ : ∃ D, D = (s : Int) - 1 := ⟨_, rfl⟩
    have wd : IntKind.i64.wrap ((s : Int) - 1) = D := by rw [hD]; exact IntWalk.i64_in _ (by omega)
    have hpb : 0 ≤ 3 * y * D ∧ 3 * y * D ≤ 589815 := by
      have hd3 : D = 1 ∨ D = 2 ∨ D = 3 := by omega
      rcases hd3 with e | e | e <;> rw [e] <;> omega
    have wp : IntKind.i64.wrap (3 * y * D) = 3 * y * D := IntWalk.i64_in _ (by omega)
    have w3 : IntKind.i64.wrap (3 * y) = 3 * y := IntWalk.i64_in _ (by omega)
    rw [← hD] at HN
    rw [kd] at y0
    have lg := cell_lt y3
    clear hd hr h0 hff kd hy hD hsd hs HD y1 y2
    go_enter Try.func88, Try.ntmps88
    go_wp2_with fail
    go_region_with (go_at_call 129; refine (CC.out _ (by first | exact (Below.refl _ _).drew | exact Below.refl _ _)).mono ?_; rintro e w2 ⟨rfl, hb⟩; have k3 := cell_later (blThen (Below.refl w.heap.size w).drew hb) y3)
    all_goals
      have HB := Lib.hid (blThen (Below.refl w.heap.size w).drew hb)
      clear hb k3
      (try simp only [w3, wp])
      go_wp2_with fail
      go_ret2
      exact ⟨by rw [HN.out.1, HN.out.2]; rfl, HB.out⟩
end Go.Proofs.Ytlfdpambbgddoaa
namespace Go.Proofs.Ytlfdpambbgddoaa
open Go.RowKit
set_option linter.unusedVariables false

end Go.Proofs.Ytlfdpambbgddoaa
