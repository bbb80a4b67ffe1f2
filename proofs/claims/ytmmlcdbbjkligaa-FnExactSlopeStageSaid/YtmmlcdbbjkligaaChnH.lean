/-
  Faults of stages and chains: the program's StageFault, ChainFault; the reference model's l6Stage, l6Fault, StageFault, ChainFault.
-/
import Derived.Test.YtmmlcdbbjkligaaChnG
import Derived.Test.YtmmlcdbbjkligaaMatF
namespace Go.Proofs.Ytmmlcdbbjkligaa
open Go.RowKit
set_option linter.unusedVariables false
set_option linter.unusedSimpArgs false

/-- a stage in a box, as a list of one. -/
theorem chOne {W : World} {t : Stg} {A1 : Option Addr} {n1 c1 : Nat} {A2 : Option Addr} {n2 c2 : Nat} {A3 : Option Addr} {n3 c3 : Nat} {b : Nat} (h : HdSt W t A1 n1 c1 A2 n2 c2 A3 n3 c3) (hB : Bx W b [.int .i64 t.kd, .slice A1 n1 c1, .slice A2 n2 c2, .int .i64 t.sd, .slice A3 n3 c3]) :
    ∃ bs, Hd W (chD [t]) (.slice (some ⟨b, 0, none⟩) 1 1) bs := by
  obtain ⟨⟨g1, h1⟩, ⟨g2, h2⟩, ⟨g3, h3⟩⟩ := h
  refine ⟨_, .sl 5 b 0 1 1 _ (fun _ j => [.int .i64 t.kd, .slice A1 n1 c1, .slice A2 n2 c2, .int .i64 t.sd, .slice A3 n3 c3].getD j undef) (fun _ j => [[], g1, g2, [], g3].getD j []) (by omega) (by omega) rfl (fun i hi j hj => ?_) (fun i hi j hj => ?_) (Nat.le_refl _) (by unfold maxLen; omega)⟩
  · obtain rfl : i = 0 := by omega
    match j, hj with
    | 0, _ => exact hB.c 0 rfl
    | 1, _ => exact hB.c 1 rfl
    | 2, _ => exact hB.c 2 rfl
    | 3, _ => exact hB.c 3 rfl
    | 4, _ => exact hB.c 4 rfl
  · obtain rfl : i = 0 := by omega
    match j, hj with
    | 0, _ => exact .int _ _
    | 1, _ => exact h1
    | 2, _ => exact h2
    | 3, _ => exact .int _ _
    | 4, _ => exact h3
theorem sgL_one (t : Stg) : sgL [t] 1 = sgf t := by simp [sgL, st_]
def ChAns (w : World) (ts : List Stg) (e : Ending) (w' : World) : Prop :=
  ∃ v, e = .returned (.tuple #[v, .int .i64 (chf ts)]) ∧ (chf ts = 0 → ∃ vs, OwnV w' w.heap.size v ts.length vs ∧ ∀ i, i < ts.length → IsStg w' (st_ ts i) (vs.getD i undef)) ∧ Below w.heap.size w w'
theorem OwnV.mono {w : World} {base base' n : Nat} {v : Value} {ys : List Value} (h : OwnV w base v n ys) (hb : base' ≤ base) : OwnV w base' v n ys := by
  refine ⟨h.1, ?_⟩
  rcases h.2 with q | ⟨g, cap, cur, q1, q2, q3⟩
  · exact .inl q
  · exact .inr ⟨g, cap, cur, q1, Nat.le_trans hb q2, q3⟩
set_option maxRecDepth 100000 in
set_option maxHeartbeats 2000000 in
theorem chainStages_any (A : Option Addr) (n c : Nat) (ts : List Stg) (bs : List Nat) (w : World) (h : Hd w (chD ts) (.slice A n c) bs) :
    Calls Try.prog 71 #[.agg #[.slice A n c]] w (ChAns w ts) := by
  have hl := h.stgs.1
  have hm := h.stgs.2.2
  have hc := h.stgs.2.1
  unfold maxLen at hm
  have H := Lib.hid h
  clear h
  by_cases h5 : 5 < n
  · have HF : Hid (chf ts = 2) := by show _ = _; unfold chf; rw [if_pos (by omega)]
    clear hl
    go_enter Try.func71, Try.ntmps71
    go_wp2_with fail
    go_ret2
    exact ⟨_, by rw [HF.out]; rfl, fun e => by rw [HF.out] at e; omega, blAlloc _ _⟩
  · have HF : Hid (chf ts = sgL ts ts.length) := by show _ = _; unfold chf; rw [if_neg (by omega)]
    clear hl
    go_enter Try.func71, Try.ntmps71
    go_wp2_with fail
    refine (stagesOf_any _ _ _ ts _ _ (H.out.alloc _) (by omega)).mono ?_
    rintro e w1 ⟨v, rfl, hv, hb⟩
    have T := Lib.hid (blThen (blAlloc w _) hb)
    have HV := Lib.hid hv
    clear hb hv
    go_wp2_with fail
    go_ret2
    refine ⟨v, by rw [HF.out]; rfl, fun e => ?_, T.out⟩
    obtain ⟨vs, a, b⟩ := HV.out (by rw [← HF.out]; exact e)
    exact ⟨vs, a.mono (by simp), b⟩
/-! ### the model's -/
set_option maxRecDepth 100000 in
set_option maxHeartbeats 1000000 in
theorem sFault5_o (g o : Nat) (A : Option Addr) (n c : Nat) (sd : Int) (rs : Rws) (bs : List Nat) (w : World) (h : Hd w (rowsD rs) (.slice A n c) bs) (hg0 : w.cell? ⟨g, o, none⟩ = some (.int .i64 sd)) (hg1 : w.cell? ⟨g, o + 1, none⟩ = some (.slice A n c)) :
    Calls Try.prog 93 #[.pointer (some ⟨g, o, none⟩)] w fun e w' => e = .returned (.int .i64 (gf sd rs)) ∧ ∃ m, w' = w.drewN m := by
  obtain ⟨hl, hc, hm, -⟩ := h.rows
  unfold maxLen at hm
  have H := Lib.hid h
  clear h
  rcases Bool.eq_false_or_eq_true (inB sd 2 4) with hs | hs
  · have CS : Hid (∀ W, Calls Try.prog 85 #[.int .i64 sd] W fun e w' => e = .returned (.bool true) ∧ W = w') := fun W => by rw [← hs]; exact sSide5_any sd W
    have hq : sd * sd * sd = 8 ∨ sd * sd * sd = 27 ∨ sd * sd * sd = 64 := by rcases side_cases hs with rfl | rfl | rfl <;> simp
    have hq1 : -9223372036854775808 ≤ sd * sd ∧ sd * sd ≤ 9223372036854775807 := by rcases side_cases hs with rfl | rfl | rfl <;> simp
    have hq2 : -9223372036854775808 ≤ sd * sd * sd ∧ sd * sd * sd ≤ 9223372036854775807 := by omega
    obtain ⟨hs1, hs2⟩ := inB_iff.1 hs
    by_cases hn : (n : Int) = sd * sd * sd
    · have HG := Lib.hid (gf_rows hl hs hn)
      have he : ((n : Int) == sd * sd * sd) = true := by rw [hn]; simp
      have he2 : ((n : Int) != sd * sd * sd) = false := by rw [bne, he]; rfl
      clear hl hs hn
      go_enter Try.func93, Try.ntmps93
      go_wp2_with (go_at_call 85; refine (CS.out _).mono ?_; rintro e w' ⟨rfl, rfl⟩)
      go_quiet (fail)
      go_wp2_with fail
      go_loopw [3, 4] (fun x y wr => ∃ i m : Nat, i ≤ n ∧ x = .int .i64 i ∧ Hid (gfl rs i = 0) ∧ wr = w.drewN m) (fun x _ _ => n - (intOf x).toNat)
      case atStart => exact ⟨0, _, by omega, rfl, rfl, rfl⟩
      case round =>
        obtain ⟨i, m, hi, rfl, hz, rfl⟩ := hrel
        by_cases hlt : i < n
        · obtain ⟨b, o', B1, L1, C1, g1, rfl, x1, x3, -⟩ := H.out.row hlt
          have HR := Lib.hid x3.rd
          have hcap := Lib.hid x3.caps.1
          have hm1 := Lib.hid x3.caps.2
          clear x3
          by_cases hf : lf (rw_ rs i) = 0
          · have HF := Lib.hid hf
            have CL : Hid (∀ m, Calls Try.prog 86 #[.slice B1 L1 C1] (w.drewN m) fun e w' => e = .returned (.int .i64 0) ∧ (w.drewN m) = w') := fun m => by rw [← hf]; exact sLevels4_any _ _ _ _ _ (HR.out.drewN m) hcap.out hm1.out
            clear hf
            go_wp2_with (go_at_call 86; refine (CL.out _).mono ?_; rintro e w' ⟨rfl, rfl⟩)
            go_roundw
            case rel => exact ⟨i + 1, m, by omega, by go_num, gfl_on hz.out HF.out, rfl⟩
            case measure => simp [intOf]; omega
          · obtain ⟨q, hq2⟩ : ∃ q, q = lf (rw_ rs i) := ⟨_, rfl⟩
            have HM := Lib.hid (gfl_first hz.out hq2.symm (by rw [hq2]; exact hf) hlt)
            have CL : Hid (∀ m, Calls Try.prog 86 #[.slice B1 L1 C1] (w.drewN m) fun e w' => e = .returned (.int .i64 q) ∧ (w.drewN m) = w') := fun m => by rw [hq2]; exact sLevels4_any _ _ _ _ _ (HR.out.drewN m) hcap.out hm1.out
            have hqn : (q == 0) = false := by rw [hq2]; simpa using hf
            have hqn' : q ≠ 0 := by rw [hq2]; exact hf
            clear hf hq2
            go_wp2_with (go_at_call 86; refine (CL.out _).mono ?_; rintro e w' ⟨rfl, rfl⟩)
            go_ret
            exact ⟨by rw [HG.out, HM.out]; rfl, m, rfl⟩
        · obtain rfl : i = n := by omega
          go_wp2_with fail
          go_ret
          exact ⟨by rw [HG.out, hz.out]; rfl, m, rfl⟩
    · have HG := Lib.hid (gf_many hl hs hn)
      have he : ((n : Int) == sd * sd * sd) = false := by simpa using hn
      have he2 : ((n : Int) != sd * sd * sd) = true := by rw [bne, he]; rfl
      clear hl hs
      go_enter Try.func93, Try.ntmps93
      go_wp2_with (go_at_call 85; refine (CS.out _).mono ?_; rintro e w' ⟨rfl, rfl⟩)
      go_quiet (fail)
      go_wp2_with fail
      go_ret
      exact ⟨by rw [HG.out]; rfl, _, rfl⟩
  · have HG := Lib.hid (gf_side (rs := rs) hs)
    have CS : Hid (∀ W, Calls Try.prog 85 #[.int .i64 sd] W fun e w' => e = .returned (.bool false) ∧ W = w') := fun W => by rw [← hs]; exact sSide5_any sd W
    clear hs
    go_enter Try.func93, Try.ntmps93
    go_wp2_with (go_at_call 85; refine (CS.out _).mono ?_; rintro e w' ⟨rfl, rfl⟩)
    go_ret
    exact ⟨by rw [HG.out]; rfl, 0, rfl⟩
set_option maxHeartbeats 400000 in
theorem sNoGrid_any (g o n c : Nat) (A : Option Addr) (sd : Int) (w : World) (hm : n ≤ maxLen) (h0 : w.cell? ⟨g, o, none⟩ = some (.int .i64 sd)) (h1 : w.cell? ⟨g, o + 1, none⟩ = some (.slice A n c)) :
    Calls Try.prog 138 #[.pointer (some ⟨g, o, none⟩)] w fun e w' => e = .returned (.bool (decide (sd = 0 ∧ n = 0))) ∧ w = w' := by
  unfold maxLen at hm
  by_cases hs : sd = 0
  · subst hs
    rcases Nat.eq_zero_or_pos n with hn | hn
    · subst hn
      go_enter Try.func138, Try.ntmps138
      go_wp2_with fail
      go_ret
      exact ⟨rfl, rfl⟩
    · have e : ((n : Int) == 0) = false := by simp; omega
      go_enter Try.func138, Try.ntmps138
      go_wp2_with fail
      go_ret
      exact ⟨ret_bool (by simp; omega), rfl⟩
  · have e : (sd == 0) = false := by simpa using hs
    go_enter Try.func138, Try.ntmps138
    go_wp2_with fail
    go_ret
    exact ⟨ret_bool (by simp [hs]), rfl⟩
/-- the five cells of a stage, anywhere. -/
structure At5 (w : World) (g o : Nat) (t : Stg) (A1 : Option Addr) (n1 c1 : Nat) (A2 : Option Addr) (n2 c2 : Nat) (A3 : Option Addr) (n3 c3 : Nat) : Prop where
  a0 : w.cell? ⟨g, o, none⟩ = some (.int .i64 t.kd)
  a1 : w.cell? ⟨g, o + 1, none⟩ = some (.slice A1 n1 c1)
  a2 : w.cell? ⟨g, o + 2, none⟩ = some (.slice A2 n2 c2)
  a3 : w.cell? ⟨g, o + 3, none⟩ = some (.int .i64 t.sd)
  a4 : w.cell? ⟨g, o + 3 + 1, none⟩ = some (.slice A3 n3 c3)
set_option maxRecDepth 100000 in
set_option maxHeartbeats 4000000 in
theorem sForm_any (g o : Nat) (t : Stg) (A1 : Option Addr) (n1 c1 : Nat) (A2 : Option Addr) (n2 c2 : Nat) (A3 : Option Addr) (n3 c3 : Nat) (w : World) (h : At5 w g o t A1 n1 c1 A2 n2 c2 A3 n3 c3) (l1 : t.cs.length = n1) (l2 : t.rs.length = n2) (l3 : t.ns.length = n3) (m1 : n1 ≤ maxLen) (m2 : n2 ≤ maxLen) (m3 : n3 ≤ maxLen) :
    Calls Try.prog 99 #[.pointer (some ⟨g, o, none⟩)] w fun e w' => e = .returned (.bool (stF t)) ∧ w = w' := by
  have M : n1 ≤ 9223372036854775807 ∧ n2 ≤ 9223372036854775807 := by unfold maxLen at *; omega
  obtain ⟨p1, p2⟩ := M
  clear m1 m2
  obtain ⟨y0, y1, y2, y3, y4⟩ := h
  obtain ⟨kd, cs, rs, sd, ns⟩ := t
  simp only at l1 l2 l3 y0 y1 y2 y3 y4 ⊢
  have L1 := Lib.hid l1
  have L2 := Lib.hid l2
  have L3 := Lib.hid l3
  clear l1 l2 l3
  by_cases k1 : kd = 1
  · subst k1
    have hin : inB 1 1 3 = true := by decide
    rcases Nat.eq_zero_or_pos n2 with h | h
    · subst h
      go_enter Try.func99, Try.ntmps99
      go_wp2_with (first | (go_at_call 51; refine (sIn_any _ _ _ _).mono ?_; rintro e w' ⟨rfl, rfl⟩) | (go_at_call 138; refine (sNoGrid_any _ _ _ _ _ _ _ m3 y3 y4).mono ?_; rintro e w' ⟨rfl, rfl⟩))
      go_ret
      refine ⟨ret_bool ?_, rfl⟩
      have q1 := L1.out
      have q2 := L2.out
      have q3 := L3.out
      simp [stF, q1, q2, q3]
      try omega
    · have e : ((n2 : Int) == 0) = false := by simp; omega
      go_enter Try.func99, Try.ntmps99
      go_wp2_with (first | (go_at_call 51; refine (sIn_any _ _ _ _).mono ?_; rintro e w' ⟨rfl, rfl⟩) | (go_at_call 138; refine (sNoGrid_any _ _ _ _ _ _ _ m3 y3 y4).mono ?_; rintro e w' ⟨rfl, rfl⟩))
      go_ret
      refine ⟨ret_bool ?_, rfl⟩
      have q1 := L1.out
      have q2 := L2.out
      have q3 := L3.out
      simp [stF, q1, q2, q3]
      try omega
  by_cases k2 : kd = 2
  · subst k2
    have hin : inB 2 1 3 = true := by decide
    rcases Nat.eq_zero_or_pos n1 with h | h
    · subst h
      go_enter Try.func99, Try.ntmps99
      go_wp2_with (first | (go_at_call 51; refine (sIn_any _ _ _ _).mono ?_; rintro e w' ⟨rfl, rfl⟩) | (go_at_call 138; refine (sNoGrid_any _ _ _ _ _ _ _ m3 y3 y4).mono ?_; rintro e w' ⟨rfl, rfl⟩))
      go_ret
      refine ⟨ret_bool ?_, rfl⟩
      have q1 := L1.out
      have q2 := L2.out
      have q3 := L3.out
      simp [stF, q1, q2, q3]
      try omega
    · have e : ((n1 : Int) == 0) = false := by simp; omega
      go_enter Try.func99, Try.ntmps99
      go_wp2_with (first | (go_at_call 51; refine (sIn_any _ _ _ _).mono ?_; rintro e w' ⟨rfl, rfl⟩) | (go_at_call 138; refine (sNoGrid_any _ _ _ _ _ _ _ m3 y3 y4).mono ?_; rintro e w' ⟨rfl, rfl⟩))
      go_ret
      refine ⟨ret_bool ?_, rfl⟩
      have q1 := L1.out
      have q2 := L2.out
      have q3 := L3.out
      simp [stF, q1, q2, q3]
      try omega
  by_cases k3 : kd = 3
  · subst k3
    have hin : inB 3 1 3 = true := by decide
    rcases Nat.eq_zero_or_pos n1 with h | h
    · subst h
      rcases Nat.eq_zero_or_pos n2 with h | h
      · subst h
        go_enter Try.func99, Try.ntmps99
        go_wp2_with (first | (go_at_call 51; refine (sIn_any _ _ _ _).mono ?_; rintro e w' ⟨rfl, rfl⟩) | (go_at_call 138; refine (sNoGrid_any _ _ _ _ _ _ _ m3 y3 y4).mono ?_; rintro e w' ⟨rfl, rfl⟩))
        go_ret
        refine ⟨ret_bool ?_, rfl⟩
        have q1 := L1.out
        have q2 := L2.out
        have q3 := L3.out
        simp [stF, q1, q2, q3]
        try omega
      · have e : ((n2 : Int) == 0) = false := by simp; omega
        go_enter Try.func99, Try.ntmps99
        go_wp2_with (first | (go_at_call 51; refine (sIn_any _ _ _ _).mono ?_; rintro e w' ⟨rfl, rfl⟩) | (go_at_call 138; refine (sNoGrid_any _ _ _ _ _ _ _ m3 y3 y4).mono ?_; rintro e w' ⟨rfl, rfl⟩))
        go_ret
        refine ⟨ret_bool ?_, rfl⟩
        have q1 := L1.out
        have q2 := L2.out
        have q3 := L3.out
        simp [stF, q1, q2, q3]
        try omega
    · have e : ((n1 : Int) == 0) = false := by simp; omega
      go_enter Try.func99, Try.ntmps99
      go_wp2_with (first | (go_at_call 51; refine (sIn_any _ _ _ _).mono ?_; rintro e w' ⟨rfl, rfl⟩) | (go_at_call 138; refine (sNoGrid_any _ _ _ _ _ _ _ m3 y3 y4).mono ?_; rintro e w' ⟨rfl, rfl⟩))
      go_ret
      refine ⟨ret_bool ?_, rfl⟩
      have q1 := L1.out
      have q2 := L2.out
      have q3 := L3.out
      simp [stF, q1, q2, q3]
      try omega
  have HF : Hid (stF ⟨kd, cs, rs, sd, ns⟩ = false) := by show _ = _; unfold stF; rw [if_neg k1, if_neg k2, if_neg k3]
  have hin : inB kd 1 3 = false := by
    rcases Bool.eq_false_or_eq_true (inB kd 1 3) with q | q
    · have := inB_iff.1 q; omega
    · exact q
  go_enter Try.func99, Try.ntmps99
  go_wp2_with (go_at_call 51; refine (sIn_any _ _ _ _).mono ?_; rintro e w' ⟨rfl, rfl⟩; rw [hin])
  go_ret
  exact ⟨ret_bool (by rw [HF.out]), rfl⟩
set_option maxRecDepth 100000 in
set_option maxHeartbeats 2000000 in
theorem sCurves6_any (A : Option Addr) (n c : Nat) (cs : Rws) (w : World) (h : ∃ bs, Hd w (rowsD cs) (.slice A n c) bs) :
    Calls Try.prog 100 #[.slice A n c] w fun e w' => e = .returned (.int .i64 (crF cs)) ∧ w = w' := by
  obtain ⟨bs, h⟩ := h
  obtain ⟨hl, hc, hm, -⟩ := h.rows
  unfold maxLen at hm
  have H := Lib.hid h
  clear h
  by_cases hn : n = 3
  · subst hn
    have HF : Hid (crF cs = crL cs 3) := by show _ = _; unfold crF; rw [if_pos hl]
    clear hl hm
    go_enter Try.func100, Try.ntmps100
    go_wp2_with fail
    go_loop [3] (fun x => ∃ i : Nat, i ≤ 3 ∧ x = .int .i64 i ∧ crL cs i = 0) (fun x => 3 - (intOf x).toNat)
    case atStart => exact ⟨0, by omega, rfl, rfl⟩
    case round =>
      obtain ⟨i, hi, rfl, hz⟩ := hrel
      by_cases hlt : i < 3
      · obtain ⟨b, o, B1, L1, C1, g1, rfl, x1, x3, -⟩ := H.out.row hlt
        have X := Lib.hid x3
        have HZ := Lib.hid hz
        clear x3 hz
        go_wp2_with fail
        refine (sFault3_any _ _ _ _ _ (rw_ cs i) _ x1 X.out.rd (Nat.le_trans X.out.caps.1 X.out.caps.2)).mono ?_
        rintro e w1 ⟨rfl, rfl⟩
        by_cases h0 : cf (rw_ cs i) = 0
        · go_wp2_with fail
          go_round
          case rel => exact ⟨i + 1, by omega, by go_num, crL_on HZ.out h0⟩
          case measure => simp [intOf]; omega
        · have HA := Lib.hid (crL_bad (n := 3) HZ.out h0 hlt)
          go_wp2_with fail
          go_ret
          exact ⟨by rw [HF.out, HA.out]; rfl, rfl⟩
      · obtain rfl : i = 3 := by omega
        have HZ := Lib.hid hz
        clear hz
        go_wp2_with fail
        go_ret
        exact ⟨by rw [HF.out, HZ.out]; rfl, rfl⟩
  · have HF : Hid (crF cs = 2) := by show _ = _; unfold crF; rw [if_neg (by omega)]
    go_enter Try.func100, Try.ntmps100
    go_wp2_with fail
    go_ret
    exact ⟨by rw [HF.out]; rfl, rfl⟩
set_option maxRecDepth 100000 in
set_option maxHeartbeats 4000000 in
theorem sStage6_any (g o : Nat) (t : Stg) (A1 : Option Addr) (n1 c1 : Nat) (A2 : Option Addr) (n2 c2 : Nat) (A3 : Option Addr) (n3 c3 : Nat) (w : World) (h : At5 w g o t A1 n1 c1 A2 n2 c2 A3 n3 c3) (hd : HdSt w t A1 n1 c1 A2 n2 c2 A3 n3 c3) :
    Calls Try.prog 50 #[.pointer (some ⟨g, o, none⟩)] w fun e w' => e = .returned (.int .i64 (sgf t)) ∧ ∃ m, w' = w.drewN m := by
  have CF := Lib.hid (sForm_any g o t _ _ _ _ _ _ _ _ _ w h hd.len.1 hd.len.2.1 hd.len.2.2 (Nat.le_trans hd.caps.1.1 hd.caps.1.2) (Nat.le_trans hd.caps.2.1.1 hd.caps.2.1.2) (Nat.le_trans hd.caps.2.2.1 hd.caps.2.2.2))
  have HD := Lib.hid hd
  obtain ⟨y0, y1, y2, y3, y4⟩ := h
  clear hd
  rcases Bool.eq_false_or_eq_true (stF t) with hf | hf
  · rw [hf] at CF
    have HF := Lib.hid hf
    rcases stF_kinds hf with kd | kd | kd
    · have HG := Lib.hid (sgf_1 hf kd)
      rw [kd] at y0
      clear hf kd
      go_enter Try.func50, Try.ntmps50
      go_wp2_with fail
      refine CF.out.mono ?_
      rintro e w' ⟨rfl, rfl⟩
      go_wp2_with fail
      refine (sCurves6_any _ _ _ t.cs _ HD.out.a).mono ?_
      rintro e w' ⟨rfl, rfl⟩
      go_wp2_with fail
      go_ret
      exact ⟨by rw [HG.out]; rfl, 0, rfl⟩
    · have HG := Lib.hid (sgf_2 hf kd)
      rw [kd] at y0
      clear hf kd
      go_enter Try.func50, Try.ntmps50
      go_wp2_with fail
      refine CF.out.mono ?_
      rintro e w' ⟨rfl, rfl⟩
      go_wp2_with fail
      refine (sFault4_any _ _ _ _ _ t.rs _ _ HD.out.b.choose_spec y2).mono ?_
      rintro e w' ⟨rfl, rfl⟩
      go_wp2_with fail
      go_ret
      exact ⟨by rw [HG.out]; rfl, 0, rfl⟩
    · have HG := Lib.hid (sgf_3 hf kd)
      rw [kd] at y0
      clear hf kd
      go_enter Try.func50, Try.ntmps50
      go_wp2_with fail
      refine CF.out.mono ?_
      rintro e w' ⟨rfl, rfl⟩
      go_wp2_with fail
      refine (sFault5_o _ _ _ _ _ t.sd t.ns _ _ HD.out.d.choose_spec y3 y4).mono ?_
      rintro e w' ⟨rfl, m, rfl⟩
      go_wp2_with fail
      go_ret
      exact ⟨by rw [HG.out]; rfl, m, rfl⟩
  · have HG := Lib.hid (sgf_no hf)
    rw [hf] at CF
    clear hf
    go_enter Try.func50, Try.ntmps50
    go_wp2_with fail
    refine CF.out.mono ?_
    rintro e w' ⟨rfl, rfl⟩
    go_wp2_with fail
    go_ret
    exact ⟨by rw [HG.out]; rfl, 0, rfl⟩
set_option maxRecDepth 100000 in
set_option maxHeartbeats 2000000 in
theorem sFault6_any (g o : Nat) (A : Option Addr) (n c : Nat) (ts : List Stg) (bs : List Nat) (w : World) (h : Hd w (chD ts) (.slice A n c) bs) (hg : w.cell? ⟨g, o, none⟩ = some (.slice A n c)) :
    Calls Try.prog 68 #[.pointer (some ⟨g, o, none⟩)] w fun e w' => e = .returned (.int .i64 (chf ts)) ∧ ∃ m, w' = w.drewN m := by
  have hl := h.stgs.1
  have hm := h.stgs.2.2
  have hc := h.stgs.2.1
  unfold maxLen at hm
  have H := Lib.hid h
  clear h
  by_cases h5 : 5 < n
  · have HF : Hid (chf ts = 2) := by show _ = _; unfold chf; rw [if_pos (by omega)]
    clear hl
    go_enter Try.func68, Try.ntmps68
    go_wp2_with fail
    go_ret
    exact ⟨by rw [HF.out]; rfl, 0, rfl⟩
  · have HF : Hid (chf ts = sgL ts n) := by show _ = _; unfold chf; rw [if_neg (by omega), hl]
    have HG := Lib.hid hg
    clear hl hg
    go_enter Try.func68, Try.ntmps68
    have hg := HG.out
    go_wp2_with fail
    clear hg
    go_loopw [3] (fun x wr => ∃ k m : Nat, k ≤ n ∧ x = .int .i64 k ∧ sgL ts k = 0 ∧ wr = w.drewN m) (fun x _ => n - (intOf x).toNat)
    case atStart => exact ⟨0, 0, by omega, rfl, rfl, rfl⟩
    case round =>
      obtain ⟨k, m, hk, rfl, hz, rfl⟩ := hrel
      have hg : (w.drewN m).cell? ⟨g, o, none⟩ = some (.slice A n c) := cell_later (below_drewN _ _ _) HG.out
      by_cases hlt : k < n
      · obtain ⟨b, o', A1, n1, c1, A2, n2, c2, A3, n3, c3, rfl, x0, x1, x2, x3, x4, xs⟩ := (H.out.drewN m).stg hlt
        have A5 : Hid (At5 (w.drewN m) b (o' + k * 5) (st_ ts k) A1 n1 c1 A2 n2 c2 A3 n3 c3) := ⟨x0, x1, x2, x3, x4⟩
        have XS := Lib.hid xs
        have HZ := Lib.hid hz
        clear xs hz x0 x1 x2 x3 x4
        go_wp2_with fail
        refine (sStage6_any _ _ (st_ ts k) _ _ _ _ _ _ _ _ _ _ A5.out XS.out).mono ?_
        rintro e w1 ⟨rfl, m2, rfl⟩
        clear hg
        have HD : Hid (∃ q, (w.drewN m).drewN m2 = w.drewN q) := ⟨m + m2, by simp⟩
        obtain ⟨q, hq⟩ := HD.out
        rw [hq]
        clear hq HD
        obtain ⟨f, hf⟩ : ∃ f, f = sgf (st_ ts k) := ⟨_, rfl⟩
        rw [← hf]
        by_cases h0 : f = 0
        · subst h0
          have HN := Lib.hid (sgL_on HZ.out hf.symm)
          clear hf
          go_wp2_with fail
          go_roundw
          case rel => exact ⟨k + 1, q, by omega, by go_num, HN.out, rfl⟩
          case measure => simp [intOf]; omega
        · have HA := Lib.hid (sgL_bad (n := n) HZ.out (by rw [← hf]; exact h0) hlt)
          rw [← hf] at HA
          clear hf
          go_wp2_with fail
          go_ret
          exact ⟨by rw [HF.out, HA.out]; rfl, q, rfl⟩
      · obtain rfl : k = n := by omega
        have HZ := Lib.hid hz
        clear hz
        go_wp2_with fail
        go_ret
        exact ⟨by rw [HF.out, HZ.out]; rfl, m, rfl⟩
end Go.Proofs.Ytmmlcdbbjkligaa
