/-
  Stages and chains that are compared: the program's SameChains.
-/
import Derived.Test.YtdjifaaofefpoaaGreatChnA
import Derived.Test.YtdjifaaofefpoaaGreatCurS
import Derived.Test.YtdjifaaofefpoaaGreatMatEF
import Derived.Test.YtdjifaaofefpoaaGreatGrdS
namespace Go.Proofs.YtdjifaaofefpoaaGreat
open Go.RowKit
set_option linter.unusedVariables false
set_option linter.unusedSimpArgs false

def sameStg (t u : Stg) : Bool := decide (t.kd = u.kd) && (sameM t.cs u.cs && (sameM t.rs u.rs && sameG t.sd u.sd t.ns u.ns))
def sameC (ts us : List Stg) : Bool := decide (ts.length = us.length) && (List.range ts.length).all fun i => sameStg (st_ ts i) (st_ us i)
theorem sameC_len {ts us : List Stg} (h : ts.length ≠ us.length) : sameC ts us = false := by unfold sameC; rw [decide_eq_false h]; rfl
theorem sameC_at {ts us : List Stg} {n k : Nat} (hl : ts.length = n) (hk : k < n) (h : sameStg (st_ ts k) (st_ us k) = false) : sameC ts us = false := by
  unfold sameC
  rw [Bool.and_eq_false_iff]
  right
  rw [List.all_eq_false]
  exact ⟨k, by simp [hl, hk], by rw [h]; simp⟩
theorem sameC_all {ts us : List Stg} {n : Nat} (hl : ts.length = n) (hl' : us.length = n) (h : ∀ j, j < n → sameStg (st_ ts j) (st_ us j) = true) : sameC ts us = true := by
  unfold sameC
  rw [decide_eq_true (hl.trans hl'.symm), Bool.true_and, List.all_eq_true]
  intro i hi
  exact h i (by have := List.mem_range.1 hi; omega)
def SbAns (w : World) (b : Bool) (e : Ending) (w' : World) : Prop := e = .returned (.bool b) ∧ Below w.heap.size w w'
set_option maxRecDepth 100000 in
set_option maxHeartbeats 2000000 in
theorem equalCurves_any (A A' : Option Addr) (n n' c c' : Nat) (rs us : Rws) (bs bs' : List Nat) (w : World) (h : Hd w (rowsD rs) (.slice A n c) bs) (h' : Hd w (rowsD us) (.slice A' n' c') bs') :
    Calls Tryz.prog 146 #[.slice A n c, .slice A' n' c', .func (.func 147) #[] #[]] w (SbAns w (sameM rs us)) := by
  have hl := h.rows.1
  have hl' := h'.rows.1
  obtain ⟨-, hc1, hc2, -⟩ := h.rows
  obtain ⟨-, hc1', hc2', -⟩ := h'.rows
  unfold maxLen at hc2 hc2'
  by_cases en : n = n'
  · subst en
    have HL := Lib.hid hl
    have HL' := Lib.hid hl'
    have H := Lib.hid h
    have H' := Lib.hid h'
    clear h h' hl hl'
    go_enter Tryz.func146, Tryz.ntmps146
    go_wp2
    go_loopw [17] (fun i wr => ∃ k : Nat, k ≤ n ∧ i = .int .i64 k ∧ Hid (∀ j, j < k → sameI (rw_ rs j) (rw_ us j) = true) ∧ Hid (Below w.heap.size w wr)) (fun i _ => n - (intOf i).toNat)
    case atStart => exact ⟨0, by omega, rfl, fun j hj => absurd hj (by omega), Below.refl _ _⟩
    case round =>
      obtain ⟨k, hk, rfl, hsk, HB⟩ := hrel
      by_cases hlt : k < n
      · obtain ⟨b, o, B1, L1, C1, g1, rfl, x1, x3, -⟩ := (H.out.bel HB.out).row hlt
        obtain ⟨b', o', B2, L2, C2, g2, rfl, y1, y3, -⟩ := (H'.out.bel HB.out).row hlt
        have R1 := Lib.hid x3.rd
        have R2 := Lib.hid y3.rd
        have l1 := Lib.hid (Nat.le_trans x3.caps.1 x3.caps.2)
        have l2 := Lib.hid (Nat.le_trans y3.caps.1 y3.caps.2)
        have lb := cell_lt x1
        have lb' := cell_lt y1
        clear x3 y3
        go_wp2_with fail
        refine (SameCurves_any _ _ _ _ _ _ _ _ _ ((R1.out.alloc _).alloc _) ((R2.out.alloc _).alloc _) l1.out l2.out).mono ?_
        rintro e w1 ⟨rfl, hb⟩
        have HB1 := Lib.hid (blThen (blThenAlloc (blThenAlloc HB.out _) _) hb)
        clear x1 y1 hb HB
        rcases Bool.eq_false_or_eq_true (sameI (rw_ rs k) (rw_ us k)) with hs | hs
        · have HK : Hid (∀ j, j < k + 1 → sameI (rw_ rs j) (rw_ us j) = true) := fun j hj => by
            by_cases e : j = k
            · subst e; exact hs
            · exact hsk.out j (by omega)
          go_wp2_with fail
          go_roundw
          case rel => exact ⟨k + 1, by omega, by go_num, HK, HB1⟩
          case measure => simp [intOf]; omega
        · have HK := Lib.hid (sameM_at hs)
          go_wp2_with fail
          go_ret
          exact ⟨ret_bool HK.out.symm, HB1.out⟩
      · obtain rfl : k = n := by omega
        have HK := Lib.hid (sameM_all HL.out HL'.out hsk.out)
        clear hsk
        go_wp2
        go_ret
        exact ⟨ret_bool HK.out.symm, HB.out⟩
  · have HS : Hid (sameM rs us = false) := sameM_len (by omega)
    have he : ((n : Int) == (n' : Int)) = false := by simp; omega
    clear h h' hl hl'
    go_enter Tryz.func146, Tryz.ntmps146
    go_wp2
    go_ret
    exact ⟨ret_bool HS.out.symm, Below.refl _ _⟩

set_option maxRecDepth 100000 in
set_option maxHeartbeats 4000000 in
theorem sameStages_any (t u : Stg) (A1t A2t A3t : Option Addr) (n1t c1t n2t c2t n3t c3t : Nat) (A1u A2u A3u : Option Addr) (n1u c1u n2u c2u n3u c3u : Nat) (w : World) (h : HdSt w t A1t n1t c1t A2t n2t c2t A3t n3t c3t) (h' : HdSt w u A1u n1u c1u A2u n2u c2u A3u n3u c3u) :
    Calls Tryz.prog 105 #[.agg #[.int .i64 t.kd, .slice A1t n1t c1t, .slice A2t n2t c2t, .int .i64 t.sd, .slice A3t n3t c3t], .agg #[.int .i64 u.kd, .slice A1u n1u c1u, .slice A2u n2u c2u, .int .i64 u.sd, .slice A3u n3u c3u]] w (SbAns w (sameStg t u)) := by
  obtain ⟨W0, hW0⟩ : ∃ W0, W0 = (w.alloc (.cells #[.int .i64 t.kd, .slice A1t n1t c1t, .slice A2t n2t c2t, .int .i64 t.sd, .slice A3t n3t c3t] 98)).alloc (.cells #[.int .i64 u.kd, .slice A1u n1u c1u, .slice A2u n2u c2u, .int .i64 u.sd, .slice A3u n3u c3u] 98) := ⟨_, rfl⟩
  have X0 : Hid (Bx W0 w.heap.size [.int .i64 t.kd, .slice A1t n1t c1t, .slice A2t n2t c2t, .int .i64 t.sd, .slice A3t n3t c3t]) := by show Bx _ _ _; rw [hW0]; exact (Bx.new _ _ _ rfl).alloc _
  have Y0 : Hid (Bx W0 (w.heap.size + 1) [.int .i64 u.kd, .slice A1u n1u c1u, .slice A2u n2u c2u, .int .i64 u.sd, .slice A3u n3u c3u]) := by show Bx _ _ _; rw [hW0]; exact Bx.new _ _ _ (by simp)
  have T0 : Hid (Below w.heap.size w W0) := by show Below _ _ _; rw [hW0]; exact blThenAlloc (blAlloc _ _) _
  have HT := Lib.hid (h.bel T0.out)
  have HU := Lib.hid (h'.bel T0.out)
  have HW := Lib.hid hW0
  clear h h' hW0
  have x0 := X0.out.c 0 rfl
  have y0 := Y0.out.c 0 rfl
  have x1 := X0.out.c 1 rfl
  have y1 := Y0.out.c 1 rfl
  have x2 := X0.out.c 2 rfl
  have y2 := Y0.out.c 2 rfl
  have x3 := X0.out.c 3 rfl
  have y3 := Y0.out.c 3 rfl
  have x4 := X0.out.c 4 rfl
  have y4 := Y0.out.c 4 rfl
  have lx := X0.out.lt
  have ly := Y0.out.lt
  by_cases hk : t.kd = u.kd
  · have hq : (t.kd == u.kd) = true := by simpa using hk
    have HK := Lib.hid hk
    clear hk
    go_enter Tryz.func105, Tryz.ntmps105
    go_wp2_with fail
    rw [← HW.out]
    clear HW
    refine (equalCurves_any _ _ _ _ _ _ t.cs u.cs _ _ _ HT.out.a.choose_spec HU.out.a.choose_spec).mono ?_
    rintro e w1 ⟨rfl, hb⟩
    have X1 := Lib.hid (X0.out.bel hb)
    have Y1 := Lib.hid (Y0.out.bel hb)
    have T1 := Lib.hid (blThen T0.out hb)
    have HT1 := Lib.hid (HT.out.bel hb)
    have HU1 := Lib.hid (HU.out.bel hb)
    clear hb x0 x1 x2 x3 x4 y0 y1 y2 y3 y4 lx ly
    have x0 := X1.out.c 0 rfl
    have y0 := Y1.out.c 0 rfl
    have x1 := X1.out.c 1 rfl
    have y1 := Y1.out.c 1 rfl
    have x2 := X1.out.c 2 rfl
    have y2 := Y1.out.c 2 rfl
    have x3 := X1.out.c 3 rfl
    have y3 := Y1.out.c 3 rfl
    have x4 := X1.out.c 4 rfl
    have y4 := Y1.out.c 4 rfl
    have lx := X1.out.lt
    have ly := Y1.out.lt
    rcases Bool.eq_false_or_eq_true (sameM t.cs u.cs) with hb0 | hb0
    · have HB0 := Lib.hid hb0
      rw [hb0]
      clear hb0
      go_wp2_with fail
      refine (SameMatrices_any _ _ _ _ _ _ t.rs u.rs _ _ _ HT1.out.b.choose_spec HU1.out.b.choose_spec).mono ?_
      rintro e w2 ⟨rfl, hb⟩
      have X2 := Lib.hid (X1.out.bel hb)
      have Y2 := Lib.hid (Y1.out.bel hb)
      have T2 := Lib.hid (blThen T1.out hb)
      have HT2 := Lib.hid (HT1.out.bel hb)
      have HU2 := Lib.hid (HU1.out.bel hb)
      clear hb x0 x1 x2 x3 x4 y0 y1 y2 y3 y4 lx ly
      have x0 := X2.out.c 0 rfl
      have y0 := Y2.out.c 0 rfl
      have x1 := X2.out.c 1 rfl
      have y1 := Y2.out.c 1 rfl
      have x2 := X2.out.c 2 rfl
      have y2 := Y2.out.c 2 rfl
      have x3 := X2.out.c 3 rfl
      have y3 := Y2.out.c 3 rfl
      have x4 := X2.out.c 4 rfl
      have y4 := Y2.out.c 4 rfl
      have lx := X2.out.lt
      have ly := Y2.out.lt
      rcases Bool.eq_false_or_eq_true (sameM t.rs u.rs) with hb1 | hb1
      · have HB1 := Lib.hid hb1
        rw [hb1]
        clear hb1
        go_wp2_with fail
        refine (SameGrids_any _ _ _ _ _ _ t.sd u.sd t.ns u.ns _ _ _ HT2.out.d.choose_spec HU2.out.d.choose_spec).mono ?_
        rintro e w3 ⟨rfl, hb⟩
        have X3 := Lib.hid (X2.out.bel hb)
        have Y3 := Lib.hid (Y2.out.bel hb)
        have T3 := Lib.hid (blThen T2.out hb)
        have HT3 := Lib.hid (HT2.out.bel hb)
        have HU3 := Lib.hid (HU2.out.bel hb)
        clear hb x0 x1 x2 x3 x4 y0 y1 y2 y3 y4 lx ly
        have x0 := X3.out.c 0 rfl
        have y0 := Y3.out.c 0 rfl
        have x1 := X3.out.c 1 rfl
        have y1 := Y3.out.c 1 rfl
        have x2 := X3.out.c 2 rfl
        have y2 := Y3.out.c 2 rfl
        have x3 := X3.out.c 3 rfl
        have y3 := Y3.out.c 3 rfl
        have x4 := X3.out.c 4 rfl
        have y4 := Y3.out.c 4 rfl
        have lx := X3.out.lt
        have ly := Y3.out.lt
        have HR : Hid (sameStg t u = sameG t.sd u.sd t.ns u.ns) := by show _ = _; unfold sameStg; rw [decide_eq_true HK.out, HB0.out, HB1.out]; rfl
        go_wp2_with fail
        go_ret
        exact ⟨ret_bool HR.out.symm, T3.out⟩
      · have HB1 := Lib.hid hb1
        rw [hb1]
        clear hb1
        have HR : Hid (sameStg t u = false) := by show _ = _; unfold sameStg; rw [decide_eq_true HK.out, HB0.out, HB1.out]; simp
        go_wp2_with fail
        go_ret
        exact ⟨ret_bool HR.out.symm, T2.out⟩
    · have HB0 := Lib.hid hb0
      rw [hb0]
      clear hb0
      have HR : Hid (sameStg t u = false) := by show _ = _; unfold sameStg; rw [decide_eq_true HK.out, HB0.out]; simp
      go_wp2_with fail
      go_ret
      exact ⟨ret_bool HR.out.symm, T1.out⟩
  · have hq : (t.kd == u.kd) = false := by simpa using hk
    have HR : Hid (sameStg t u = false) := by show _ = _; unfold sameStg; rw [decide_eq_false hk]; rfl
    clear hk
    go_enter Tryz.func105, Tryz.ntmps105
    go_wp2_with fail
    go_ret
    exact ⟨ret_bool HR.out.symm, by rw [← HW.out]; exact T0.out⟩
end Go.Proofs.YtdjifaaofefpoaaGreat
