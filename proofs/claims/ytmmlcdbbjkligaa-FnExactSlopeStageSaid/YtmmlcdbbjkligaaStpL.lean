/-
  The closures that stepOf makes: curves, a matrix, a grid at a colour.
-/
import Derived.Test.YtmmlcdbbjkligaaStpK
namespace Go.Proofs.Ytmmlcdbbjkligaa
open Go.RowKit Go.Maps
set_option linter.unusedVariables false
set_option linter.unusedSimpArgs false

/-- the first k numbers have gone through. -/
def mxv (x y : Nat → Int) (k j : Nat) : Int := if j < k then y j else x j
theorem mxv_0 (x y : Nat → Int) : mxv x y 0 = x := by funext j; unfold mxv; rw [if_neg (by omega)]
theorem mxv_at (x y : Nat → Int) (k : Nat) : mxv x y k k = x k := by unfold mxv; rw [if_neg (by omega)]
theorem mxv_s (x y : Nat → Int) (k : Nat) : (fun j => if j = k then y k else mxv x y k j) = mxv x y (k + 1) := by
  funext j
  unfold mxv
  by_cases e : j = k
  · subst e; rw [if_pos rfl, if_pos (by omega)]
  · by_cases h : j < k
    · rw [if_neg e, if_pos h, if_pos (by omega)]
    · rw [if_neg e, if_neg h, if_neg (by omega)]
theorem mxv_3 (x y : Nat → Int) {j : Nat} (hj : j < 3) : mxv x y 3 j = y j := by unfold mxv; rw [if_pos hj]
set_option maxRecDepth 100000 in
set_option maxHeartbeats 4000000 in
theorem step1_any (o : Int) (ho : One o) (p q : Nat) (A : Option Addr) (n c : Nat) (cs : Rws) (x : Nat → Int) (w : World) (hp : w.cell? ⟨p, 0, none⟩ = some (.slice A n c)) (hq : w.cell? ⟨q, 0, none⟩ = some (.int .i64 o)) (h : ∃ bs, Hd w (rowsD cs) (.slice A n c) bs) (hf : crF cs = 0) (hx : LvT (65535 * o) x) :
    Calls Try.prog 164 #[.agg #[.int .i64 (x 0), .int .i64 (x 1), .int .i64 (x 2)], .pointer (some ⟨p, 0, none⟩), .pointer (some ⟨q, 0, none⟩)] w (PtAns w (cevo o (rw_ cs 0) (x 0)) (cevo o (rw_ cs 1) (x 1)) (cevo o (rw_ cs 2) (x 2))) := by
  obtain ⟨bs, h⟩ := h
  obtain ⟨hl, hc, hm, -⟩ := h.rows
  obtain ⟨h3, hcf⟩ := crF_fine hf
  obtain rfl : n = 3 := by omega
  unfold maxLen at hm
  have H := Lib.hid h
  have HP := Lib.hid hp
  have HQ := Lib.hid hq
  have HO := Lib.hid ho
  have HX := Lib.hid hx
  have HCF := Lib.hid hcf
  obtain ⟨y, hy⟩ : ∃ y : Nat → Int, y = fun i => cevo o (rw_ cs i) (x i) := ⟨_, rfl⟩
  have HY : Hid (∀ i, cevo o (rw_ cs i) (x i) = y i) := fun i => by rw [hy]
  rw [HY.out 0, HY.out 1, HY.out 2]
  obtain ⟨W0, hW0⟩ : ∃ W0, W0 = (w.alloc (.cells #[.int .i64 (x 0), .int .i64 (x 1), .int .i64 (x 2)] 137)).alloc (.cells #[.int .i64 0, .int .i64 0, .int .i64 0] 137) := ⟨_, rfl⟩
  have X0 : Hid (Bx W0 w.heap.size (rv x)) := by show Bx _ _ _; rw [hW0]; exact (Bx.new _ _ _ rfl).alloc _
  have R0 : Hid (Bx W0 (w.heap.size + 1) (rv fun _ => 0)) := by show Bx _ _ _; rw [hW0]; exact Bx.new _ _ _ (by simp)
  have T0 : Hid (Below w.heap.size w W0) := by show Below _ _ _; rw [hW0]; exact blThenAlloc (blAlloc _ _) _
  have HW := Lib.hid hW0
  have p0 := hp
  have pl := cell_lt hp
  clear h hq ho hx hcf hl hc hm h3 hf hW0 hy
  go_enter Try.func164, Try.ntmps164
  go_wp2_with fail
  rw [← HW.out]
  clear HW p0 pl hp
  go_loopw [10] (fun i wr => ∃ k : Nat, k ≤ 3 ∧ i = .int .i64 k ∧ Hid (Bx wr w.heap.size (rv (mxv x y k)) ∧ Bx wr (w.heap.size + 1) (rv fun _ => 0) ∧ Below w.heap.size w wr)) (fun i _ => 3 - (intOf i).toNat)
  case atStart => exact ⟨0, by omega, rfl, by rw [mxv_0]; exact X0.out, R0.out, T0.out⟩
  case round =>
    obtain ⟨k, hk, rfl, HH⟩ := hrel
    by_cases hlt : k < 3
    · obtain ⟨b, oo, B1, L1, C1, g1, rfl, x1, x3, -⟩ := (H.out.bel HH.out.2.2).row hlt
      have HX3 := Lib.hid x3
      have pc := cell_later HH.out.2.2 HP.out
      have qc := cell_later HH.out.2.2 HQ.out
      have ql := cell_lt qc
      have xc := rv_at HH.out.1 hlt
      rw [mxv_at] at xc
      have xf := HH.out.1.f k
      have hgk : (w.heap.size : Nat) < wr.heap.size := HH.out.1.lt
      have CC : Hid (∀ W, Below wr.heap.size wr W → Calls Try.prog 165 #[.agg #[.slice B1 L1 C1], .int .i64 (x k), .int .i64 o] W fun e w' => e = .returned (.int .i64 (y k)) ∧ Below W.heap.size W w') := fun W hW => by
        have hb := HX.out k hlt
        have := curveAt_k o HO.out B1 L1 C1 (rw_ cs k) (x k) W (HX3.out.rd.below hW) (cfine (HCF.out k hlt)) hb.1 hb.2
        rw [HY.out k] at this
        exact this
      clear x3
      go_wp2_with fail
      go_region_with (go_at_call 165; refine (CC.out _ (by first | exact blAlloc _ _ | exact blThenDrew (blAlloc _ _) _ | exact (blAlloc _ _).drew)).mono ?_; rintro e w2 ⟨rfl, hb⟩; have XB := ((HH.out.1.alloc (.cells #[.slice B1 L1 C1] 171)).drewN 1).bel hb; have xf2 := XB.f k; have xl2 := XB.lt; have xc2 := rv_at XB hlt)
      all_goals
        have HBW := blThen ((blAlloc wr (.cells #[.slice B1 L1 C1] 171)).drew) hb
        have HN : Hid (Bx (w2.setCell ⟨w.heap.size, k, none⟩ (.int .i64 (y k))) w.heap.size (rv (mxv x y (k + 1))) ∧ Bx (w2.setCell ⟨w.heap.size, k, none⟩ (.int .i64 (y k))) (w.heap.size + 1) (rv fun _ => 0) ∧ Below w.heap.size w (w2.setCell ⟨w.heap.size, k, none⟩ (.int .i64 (y k)))) := by
          refine ⟨?_, (HH.out.2.1.bel HBW).oth (by omega) k _, bel1 (blThen HH.out.2.2 HBW) (Nat.le_refl _) k _⟩
          rw [← mxv_s, ← rv_upd _ hlt]
          exact XB.set k _
        clear hb XB xf2 xl2 xc2 HBW pc ql qc xc xf hgk x1
        go_wp2_with fail
        go_roundw
        case rel => exact ⟨k + 1, by omega, by go_num, HN.out⟩
        case measure => simp [intOf]; omega
    · obtain rfl : k = 3 := by omega
      have x0 := HH.out.1.c 0 rfl
      have x1 := HH.out.1.c 1 rfl
      have x2 := HH.out.1.c 2 rfl
      have r0 := HH.out.2.1.c 0 rfl
      have r1 := HH.out.2.1.c 1 rfl
      have r2 := HH.out.2.1.c 2 rfl
      have f0 := HH.out.2.1.f 0
      have f1 := HH.out.2.1.f 1
      have f2 := HH.out.2.1.f 2
      rw [mxv_3 x y (by omega)] at x0 x1 x2
      have KK := ((HH.out.2.1.set 0 (.int .i64 (y 0))).set 1 (.int .i64 (y 1))).set 2 (.int .i64 (y 2))
      have k0 := KK.c 0 rfl
      have k1 := KK.c 1 rfl
      have k2 := KK.c 2 rfl
      clear KK
      go_wp2_with fail
      refine bodyPost_ret (v := .agg #[.int .i64 (y 0), .int .i64 (y 1), .int .i64 (y 2)]) (by simp [results, Try.results164, go_sem, k0, k1, k2]) rfl ⟨rfl, ?_⟩
      exact bel_set3 HH.out.2.2 (by omega) _ _ _
set_option maxRecDepth 100000 in
set_option maxHeartbeats 4000000 in
theorem step2_any (o : Int) (ho : One o) (p q : Nat) (m x : Nat → Int) (w : World) (hp : Bx w p [.int .i64 (m 0), .int .i64 (m 1), .int .i64 (m 2), .int .i64 (m 3), .int .i64 (m 4), .int .i64 (m 5), .int .i64 (m 6), .int .i64 (m 7), .int .i64 (m 8)]) (hq : w.cell? ⟨q, 0, none⟩ = some (.int .i64 o)) (hm : ∀ t, t < 9 → -262144 ≤ m t ∧ m t ≤ 262144) (hx : LvT (65535 * o) x) :
    Calls Try.prog 166 #[.agg #[.int .i64 (x 0), .int .i64 (x 1), .int .i64 (x 2)], .pointer (some ⟨p, 0, none⟩), .pointer (some ⟨q, 0, none⟩)] w (PtAns w (apK o m x 0) (apK o m x 1) (apK o m x 2)) := by
  have CM := Lib.hid (fun W => matrixAt_k o ho m x W hm (fun t ht => by have := hx t ht; rcases ho with rfl | rfl <;> omega))
  have pl := hp.lt
  have ql := cell_lt hq
  have c0 := hp.c 0 rfl
  have c1 := hp.c 1 rfl
  have c2 := hp.c 2 rfl
  have c3 := hp.c 3 rfl
  have c4 := hp.c 4 rfl
  have c5 := hp.c 5 rfl
  have c6 := hp.c 6 rfl
  have c7 := hp.c 7 rfl
  have c8 := hp.c 8 rfl
  clear hp hm hx ho
  go_enter Try.func166, Try.ntmps166
  go_wp2_with fail
  refine (CM.out _).mono ?_
  rintro e w1 ⟨rfl, hb⟩
  have R1 := Lib.hid ((Bx.new (w.alloc (.cells #[.int .i64 (x 0), .int .i64 (x 1), .int .i64 (x 2)] 137)) #[.int .i64 0, .int .i64 0, .int .i64 0] 137 (b := w.heap.size + 1) (by simp)).bel hb)
  have T1 := Lib.hid (blThen (blThenAlloc (blAlloc w _) _) hb)
  have r0 := R1.out.c 0 rfl
  have r1 := R1.out.c 1 rfl
  have r2 := R1.out.c 2 rfl
  have f0 := R1.out.f 0
  have f1 := R1.out.f 1
  have f2 := R1.out.f 2
  have l1 := R1.out.lt
  clear hb
  obtain ⟨y, hy⟩ : ∃ y, y = apK o m x := ⟨_, rfl⟩
  rw [← hy]
  have HY := Lib.hid hy
  clear hy
  go_wp2_with fail
  have KK := ((R1.out.set 0 (.int .i64 (y 0))).set 1 (.int .i64 (y 1))).set 2 (.int .i64 (y 2))
  have k0 := KK.c 0 rfl
  have k1 := KK.c 1 rfl
  have k2 := KK.c 2 rfl
  clear KK
  refine bodyPost_ret (v := .agg #[.int .i64 (y 0), .int .i64 (y 1), .int .i64 (y 2)]) (by simp [results, Try.results166, go_sem, k0, k1, k2]) rfl ⟨by rw [HY.out], ?_⟩
  exact bel_set3 T1.out (by omega) _ _ _
set_option maxRecDepth 100000 in
set_option maxHeartbeats 4000000 in
theorem step3_any (o : Int) (ho : One o) (p g q B s : Nat) (V : Value) (rs : Rws) (D : DataW Unit) (x : Nat → Int) (w : World) (hp : w.cell? ⟨p, 0, none⟩ = some (.map (some B))) (hg : w.cell? ⟨g, 0, none⟩ = some (.int .i64 (s : Int))) (hq : w.cell? ⟨q, 0, none⟩ = some (.int .i64 o)) (hM : MapN w B s rs (s * s * s) D) (h0 : gf (s : Int) rs = 0) (hx : LvT (65535 * o) x) :
    Calls Try.prog 168 #[.agg #[.int .i64 (x 0), .int .i64 (x 1), .int .i64 (x 2)], .pointer (some ⟨p, 0, none⟩), .pointer (some ⟨g, 0, none⟩), .pointer (some ⟨q, 0, none⟩)] w (PtAns w (gvo o s rs x 0) (gvo o s rs x 1) (gvo o s rs x 2)) := by
  have CM : Hid (∀ W, Below w.heap.size w W → Calls Try.prog 89 #[.map (some B), .int .i64 (s : Int), .agg #[.int .i64 (x 0), .int .i64 (x 1), .int .i64 (x 2)], .int .i64 o] W (PtAns W (gvo o s rs x 0) (gvo o s rs x 1) (gvo o s rs x 2))) := fun W hW => gridAt_k o ho B s rs D x W (hM.kept hW) h0 hx
  have pl := cell_lt hp
  have gl := cell_lt hg
  have ql := cell_lt hq
  clear hM h0 hx ho
  go_enter Try.func168, Try.ntmps168
  go_wp2_with fail
  refine (CM.out _ (blThenAlloc (blAlloc w _) _)).mono ?_
  rintro e w1 ⟨rfl, hb⟩
  have R1 := Lib.hid ((Bx.new (w.alloc (.cells #[.int .i64 (x 0), .int .i64 (x 1), .int .i64 (x 2)] 137)) #[.int .i64 0, .int .i64 0, .int .i64 0] 137 (b := w.heap.size + 1) (by simp)).bel hb)
  have T1 := Lib.hid (blThen (blThenAlloc (blAlloc w _) _) hb)
  have r0 := R1.out.c 0 rfl
  have r1 := R1.out.c 1 rfl
  have r2 := R1.out.c 2 rfl
  have f0 := R1.out.f 0
  have f1 := R1.out.f 1
  have f2 := R1.out.f 2
  have l1 := R1.out.lt
  clear hb
  obtain ⟨y, hy⟩ : ∃ y, y = gvo o s rs x := ⟨_, rfl⟩
  rw [← hy]
  have HY := Lib.hid hy
  clear hy
  go_wp2_with fail
  have KK := ((R1.out.set 0 (.int .i64 (y 0))).set 1 (.int .i64 (y 1))).set 2 (.int .i64 (y 2))
  have k0 := KK.c 0 rfl
  have k1 := KK.c 1 rfl
  have k2 := KK.c 2 rfl
  clear KK
  refine bodyPost_ret (v := .agg #[.int .i64 (y 0), .int .i64 (y 1), .int .i64 (y 2)]) (by simp [results, Try.results168, go_sem, k0, k1, k2]) rfl ⟨by rw [HY.out], ?_⟩
  exact bel_set3 T1.out (by omega) _ _ _
end Go.Proofs.Ytmmlcdbbjkligaa
