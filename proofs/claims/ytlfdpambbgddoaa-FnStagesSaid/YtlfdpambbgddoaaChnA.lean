/-
  Faults of stages: the form of a stage (ofKind, l6Form), faults of curves in a stage, the model's l6Stage, l6Fault, StageFault, ChainFault.
  Faults of stages, the program's: fault of each kind, stagesOf, chainStages, StageFault, ChainFault.
  Faults of stages and chains: the program's StageFault, ChainFault; the reference model's l6Stage, l6Fault, StageFault, ChainFault.
-/
import Derived.Test.YtlfdpambbgddoaaHelpSt
import Derived.Test.YtlfdpambbgddoaaOpenA
import Derived.Test.YtlfdpambbgddoaaCurA
import Derived.Test.YtlfdpambbgddoaaGrdNA
import Derived.Test.YtlfdpambbgddoaaGrowA
import Derived.Test.YtlfdpambbgddoaaMatEF
namespace Go.Proofs.Ytlfdpambbgddoaa
open Go.RowKit
set_option linter.unusedVariables false
set_option linter.unusedSimpArgs false

def stF (t : Stg) : Bool := if t.kd = 1 then decide (t.rs.length = 0 ∧ t.sd = 0 ∧ t.ns.length = 0) else if t.kd = 2 then decide (t.cs.length = 0 ∧ t.sd = 0 ∧ t.ns.length = 0) else if t.kd = 3 then decide (t.cs.length = 0 ∧ t.rs.length = 0) else false
/-- the fault of the first curve that has one. -/
def crL (cs : Rws) : Nat → Int
  | 0 => 0
  | k + 1 => if crL cs k = 0 then cf (rw_ cs k) else crL cs k
def crF (cs : Rws) : Int := if cs.length = 3 then crL cs 3 else 2
def sgf (t : Stg) : Int := if stF t = true then (if t.kd = 1 then crF t.cs else if t.kd = 2 then mf t.rs else gf t.sd t.ns) else 1
def sgL (ts : List Stg) : Nat → Int
  | 0 => 0
  | k + 1 => if sgL ts k = 0 then sgf (st_ ts k) else sgL ts k
def chf (ts : List Stg) : Int := if 5 < ts.length then 2 else sgL ts ts.length
theorem crL_stop {cs : Rws} {k : Nat} (h : crL cs k ≠ 0) : ∀ n, k ≤ n → crL cs n = crL cs k := by
  intro n
  induction n with
  | zero => intro h'; rw [show k = 0 by omega]
  | succ n ih =>
    intro h'
    by_cases e : k = n + 1
    · subst e; rfl
    · have := ih (by omega); simp only [crL]; rw [this, if_neg h]
theorem sgL_stop {ts : List Stg} {k : Nat} (h : sgL ts k ≠ 0) : ∀ n, k ≤ n → sgL ts n = sgL ts k := by
  intro n
  induction n with
  | zero => intro h'; rw [show k = 0 by omega]
  | succ n ih =>
    intro h'
    by_cases e : k = n + 1
    · subst e; rfl
    · have := ih (by omega); simp only [sgL]; rw [this, if_neg h]
theorem crL_bad {cs : Rws} {k n : Nat} (h0 : crL cs k = 0) (hc : cf (rw_ cs k) ≠ 0) (hk : k < n) : crL cs n = cf (rw_ cs k) := by
  have e : crL cs (k + 1) = cf (rw_ cs k) := by simp only [crL]; rw [if_pos h0]
  rw [crL_stop (k := k + 1) (by rw [e]; exact hc) n (by omega), e]
theorem sgL_bad {ts : List Stg} {k n : Nat} (h0 : sgL ts k = 0) (hc : sgf (st_ ts k) ≠ 0) (hk : k < n) : sgL ts n = sgf (st_ ts k) := by
  have e : sgL ts (k + 1) = sgf (st_ ts k) := by simp only [sgL]; rw [if_pos h0]
  rw [sgL_stop (k := k + 1) (by rw [e]; exact hc) n (by omega), e]
theorem crL_on {cs : Rws} {k : Nat} (h0 : crL cs k = 0) (hc : cf (rw_ cs k) = 0) : crL cs (k + 1) = 0 := by simp only [crL]; rw [if_pos h0, hc]
theorem sgL_on {ts : List Stg} {k : Nat} (h0 : sgL ts k = 0) (hc : sgf (st_ ts k) = 0) : sgL ts (k + 1) = 0 := by simp only [sgL]; rw [if_pos h0, hc]
theorem HdSt.len {w : World} {t : Stg} {A1 : Option Addr} {n1 c1 : Nat} {A2 : Option Addr} {n2 c2 : Nat} {A3 : Option Addr} {n3 c3 : Nat} (h : HdSt w t A1 n1 c1 A2 n2 c2 A3 n3 c3) : t.cs.length = n1 ∧ t.rs.length = n2 ∧ t.ns.length = n3 :=
  ⟨h.a.choose_spec.rows.1, h.b.choose_spec.rows.1, h.d.choose_spec.rows.1⟩
theorem HdSt.caps {w : World} {t : Stg} {A1 : Option Addr} {n1 c1 : Nat} {A2 : Option Addr} {n2 c2 : Nat} {A3 : Option Addr} {n3 c3 : Nat} (h : HdSt w t A1 n1 c1 A2 n2 c2 A3 n3 c3) : (n1 ≤ c1 ∧ c1 ≤ maxLen) ∧ (n2 ≤ c2 ∧ c2 ≤ maxLen) ∧ (n3 ≤ c3 ∧ c3 ≤ maxLen) :=
  ⟨h.a.choose_spec.caps, h.b.choose_spec.caps, h.d.choose_spec.caps⟩
/-- the value of a stage by its kind. -/
structure IsV (t : Stg) (A1 : Option Addr) (n1 c1 : Nat) (A2 : Option Addr) (n2 c2 : Nat) (A3 : Option Addr) (n3 c3 : Nat) (v : Value) : Prop where
  one : t.kd = 1 → v = .iface 155 (.agg #[.slice A1 n1 c1])
  two : t.kd = 2 → v = .iface 158 (.agg #[.slice A2 n2 c2])
  thr : t.kd = 3 → v = .iface 161 (.agg #[.int .i64 t.sd, .slice A3 n3 c3])
def KdAns (w : World) (t : Stg) (A1 : Option Addr) (n1 c1 : Nat) (A2 : Option Addr) (n2 c2 : Nat) (A3 : Option Addr) (n3 c3 : Nat) (e : Ending) (w' : World) : Prop :=
  ∃ v, e = .returned (.tuple #[v, .bool (stF t)]) ∧ (stF t = true → IsV t A1 n1 c1 A2 n2 c2 A3 n3 c3 v) ∧ Below w.heap.size w w'
theorem dz (n : Nat) : decide (n = 0) = !decide (0 < n) := by cases n <;> simp
theorem KdAns.mk {w w' : World} {t : Stg} {A1 : Option Addr} {n1 c1 : Nat} {A2 : Option Addr} {n2 c2 : Nat} {A3 : Option Addr} {n3 c3 : Nat} {v : Value} {b : Bool} (hb : stF t = b) (hv : b = true → IsV t A1 n1 c1 A2 n2 c2 A3 n3 c3 v) (hw : Below w.heap.size w w') : KdAns w t A1 n1 c1 A2 n2 c2 A3 n3 c3 (.returned (.tuple #[v, .bool b])) w' :=
  ⟨v, by rw [hb], fun h => hv (by rw [← hb]; exact h), hw⟩
set_option maxRecDepth 100000 in
set_option maxHeartbeats 8000000 in
theorem ofKind_any (t : Stg) (A1 : Option Addr) (n1 c1 : Nat) (A2 : Option Addr) (n2 c2 : Nat) (A3 : Option Addr) (n3 c3 : Nat) (w : World) (l1 : t.cs.length = n1) (l2 : t.rs.length = n2) (l3 : t.ns.length = n3) (m1 : n1 ≤ maxLen) (m2 : n2 ≤ maxLen) (m3 : n3 ≤ maxLen) :
    Calls Try.prog 114 #[.agg #[.int .i64 t.kd, .slice A1 n1 c1, .slice A2 n2 c2, .int .i64 t.sd, .slice A3 n3 c3]] w (KdAns w t A1 n1 c1 A2 n2 c2 A3 n3 c3) := by
  have M : n1 ≤ 9223372036854775807 ∧ n2 ≤ 9223372036854775807 ∧ n3 ≤ 9223372036854775807 := by unfold maxLen at *; omega
  obtain ⟨p1, p2, p3⟩ := M
  clear m1 m2 m3
  obtain ⟨kd, cs, rs, sd, ns⟩ := t
  simp only at l1 l2 l3 ⊢
  have L1 := Lib.hid l1
  have L2 := Lib.hid l2
  have L3 := Lib.hid l3
  clear l1 l2 l3
  by_cases k1 : kd = 1
  · subst k1
    rcases Nat.eq_zero_or_pos n2 with h | h <;> by_cases hs : sd = 0
    all_goals
      (try subst hs)
      (try subst h)
      go_enter Try.func114, Try.ntmps114
      go_wp2
      all_goals go_ret2
      all_goals
        refine KdAns.mk ?_ (fun _ => ⟨?_, ?_, ?_⟩) (blAlloc _ _)
        · have q1 := L1.out
          have q2 := L2.out
          have q3 := L3.out
          simp [stF, q1, q2, q3]
          try exact dz _
          try omega
        all_goals first | (intro e; rfl) | (intro e; simp at e; try omega)
  by_cases k2 : kd = 2
  · subst k2
    rcases Nat.eq_zero_or_pos n1 with h | h <;> by_cases hs : sd = 0
    all_goals
      (try subst hs)
      (try subst h)
      go_enter Try.func114, Try.ntmps114
      go_wp2
      all_goals go_ret2
      all_goals
        refine KdAns.mk ?_ (fun _ => ⟨?_, ?_, ?_⟩) (blAlloc _ _)
        · have q1 := L1.out
          have q2 := L2.out
          have q3 := L3.out
          simp [stF, q1, q2, q3]
          try exact dz _
          try omega
        all_goals first | (intro e; rfl) | (intro e; simp at e; try omega)
  by_cases k3 : kd = 3
  · subst k3
    rcases Nat.eq_zero_or_pos n1 with h | h <;> by_cases hs : sd = 0
    all_goals
      (try subst hs)
      (try subst h)
      go_enter Try.func114, Try.ntmps114
      go_wp2
      all_goals go_ret2
      all_goals
        refine KdAns.mk ?_ (fun _ => ⟨?_, ?_, ?_⟩) (blAlloc _ _)
        · have q1 := L1.out
          have q2 := L2.out
          have q3 := L3.out
          simp [stF, q1, q2, q3]
          try exact dz _
          try omega
        all_goals first | (intro e; rfl) | (intro e; simp at e; try omega)
  have e1 : (kd == 1) = false := by simpa using k1
  have e2 : (kd == 2) = false := by simpa using k2
  have e3 : (kd == 3) = false := by simpa using k3
  have HF : Hid (stF ⟨kd, cs, rs, sd, ns⟩ = false) := by show _ = _; unfold stF; rw [if_neg k1, if_neg k2, if_neg k3]
  by_cases hs : sd = 0
  all_goals
    (try subst hs)
    go_enter Try.func114, Try.ntmps114
    go_wp2
    go_ret2
    exact KdAns.mk HF.out (fun h => by cases h) (blAlloc _ _)
end Go.Proofs.Ytlfdpambbgddoaa
namespace Go.Proofs.Ytlfdpambbgddoaa
open Go.RowKit
set_option linter.unusedVariables false
set_option linter.unusedSimpArgs false

set_option maxRecDepth 100000 in
set_option maxHeartbeats 2000000 in
theorem faultC_any (A : Option Addr) (n c : Nat) (cs : Rws) (w : World) (h : ∃ bs, Hd w (rowsD cs) (.slice A n c) bs) :
    Calls Try.prog 189 #[.agg #[.slice A n c]] w fun e w' => e = .returned (.int .i64 (crF cs)) ∧ Below w.heap.size w w' := by
  obtain ⟨bs, h⟩ := h
  obtain ⟨hl, hc, hm, -⟩ := h.rows
  unfold maxLen at hm
  have H := Lib.hid h
  clear h
  by_cases hn : n = 3
  · subst hn
    have HF : Hid (crF cs = crL cs 3) := by show _ = _; unfold crF; rw [if_pos hl]
    clear hl hm
    go_enter Try.func189, Try.ntmps189
    go_wp2_with fail
    go_loopw [13] (fun x wr => ∃ i : Nat, i ≤ 3 ∧ x = .int .i64 i ∧ crL cs i = 0 ∧ Below w.heap.size w wr ∧ Hid (wr.cell? ⟨w.heap.size, 0, none⟩ = some (.slice A 3 c))) (fun x _ => 3 - (intOf x).toNat)
    case atStart => exact ⟨0, by omega, rfl, rfl, blAlloc _ _, by show _ = _; simp⟩
    case round =>
      obtain ⟨i, hi, rfl, hz, hb, hbx⟩ := hrel
      by_cases hlt : i < 3
      · obtain ⟨b, o, B1, L1, C1, g1, rfl, x1, x3, -⟩ := (H.out.bel hb).row hlt
        have X := Lib.hid x3
        have HB := Lib.hid hb
        have HZ := Lib.hid hz
        clear x3 hb hz
        go_wp2_with fail
        refine (CurveFault_any _ _ _ (rw_ cs i) _ (X.out.rd.alloc _) (Nat.le_trans X.out.caps.1 X.out.caps.2)).mono ?_
        rintro e w1 ⟨rfl, hb1⟩
        have T := Lib.hid (blThen (blThenAlloc HB.out _) hb1)
        have BX : Hid (w1.cell? ⟨w.heap.size, 0, none⟩ = some (.slice (some ⟨b, o, none⟩) 3 c)) := cell_later hb1 (cell_later (blAlloc _ _) hbx.out)
        clear hb1 HB x1 hbx
        by_cases h0 : cf (rw_ cs i) = 0
        · go_wp2_with fail
          go_roundw
          case rel => exact ⟨i + 1, by omega, by go_num, crL_on HZ.out h0, T.out, BX.out⟩
          case measure => simp [intOf]; omega
        · have HA := Lib.hid (crL_bad (n := 3) HZ.out h0 hlt)
          go_wp2_with fail
          go_ret
          exact ⟨by rw [HF.out, HA.out]; rfl, T.out⟩
      · obtain rfl : i = 3 := by omega
        have HZ := Lib.hid hz
        have HB := Lib.hid hb
        clear hz hb
        go_wp2_with fail
        go_ret
        exact ⟨by rw [HF.out, HZ.out]; rfl, HB.out⟩
  · have HF : Hid (crF cs = 2) := by show _ = _; unfold crF; rw [if_neg (by omega)]
    go_enter Try.func189, Try.ntmps189
    go_wp2_with fail
    go_ret
    exact ⟨by rw [HF.out]; rfl, blAlloc _ _⟩
set_option maxHeartbeats 400000 in
theorem faultM_any (A : Option Addr) (n c : Nat) (rs : Rws) (w : World) (h : ∃ bs, Hd w (rowsD rs) (.slice A n c) bs) :
    Calls Try.prog 190 #[.agg #[.slice A n c]] w fun e w' => e = .returned (.int .i64 (mf rs)) ∧ Below w.heap.size w w' := by
  obtain ⟨bs, h⟩ := h
  have H := Lib.hid h
  clear h
  go_enter Try.func190, Try.ntmps190
  go_wp2_with fail
  refine (MatrixFault_any _ _ _ rs _ _ (H.out.alloc _)).mono ?_
  rintro e w1 ⟨rfl, hb⟩
  have T := Lib.hid (blThen (blAlloc w _) hb)
  clear hb
  go_wp2_with fail
  go_ret
  exact ⟨rfl, T.out⟩
set_option maxHeartbeats 400000 in
theorem faultG_any (A : Option Addr) (n c : Nat) (sd : Int) (rs : Rws) (w : World) (h : ∃ bs, Hd w (rowsD rs) (.slice A n c) bs) :
    Calls Try.prog 191 #[.agg #[.int .i64 sd, .slice A n c]] w fun e w' => e = .returned (.int .i64 (gf sd rs)) ∧ Below w.heap.size w w' := by
  obtain ⟨bs, h⟩ := h
  have H := Lib.hid h
  clear h
  go_enter Try.func191, Try.ntmps191
  go_wp2_with fail
  refine (GridFault_any _ _ _ sd rs _ _ (H.out.alloc _)).mono ?_
  rintro e w1 ⟨rfl, hb⟩
  have T := Lib.hid (blThen (blAlloc w _) hb)
  clear hb
  go_wp2_with fail
  go_ret
  exact ⟨rfl, T.out⟩
/-- a row of stages of the call's own. -/
def OwnSv (w : World) (base : Nat) (v : Value) (n : Nat) (vs : List Value) : Prop := w.ownsRow base 88 1 v n vs
theorem info_stg : ∃ i, Try.prog.info? 88 = some i ∧ i.zero = some .nilIface ∧ i.size = 1 ∧ i.bytes = 16 := by
  have h : (Try.prog.info? 88).map (fun i => (i.zero, i.size, i.bytes)) = some (some .nilIface, 1, 16) := by kernel_rfl
  obtain ⟨i, hi, h⟩ := Option.map_eq_some_iff.1 h
  simp only [Prod.mk.injEq] at h
  exact ⟨i, hi, h.1, h.2.1, h.2.2⟩
theorem OwnSv.below {w w' : World} {base n : Nat} {v : Value} {ys : List Value} (h : OwnSv w base v n ys) (hb : Below w.heap.size w w') : OwnSv w' base v n ys :=
  World.ownsRow.kept h (row := none) ⟨hb.os, hb.tape, hb.output, hb.size, fun k hk _ => hb.block k hk⟩ (by
    cases hv : v.ownBlock with
    | none => exact .inl rfl
    | some g => exact .inr (fun e => by cases e))
theorem wpList_append_stg (w : World) {ops : Array Oper} {rest : List Oper} {o : Oper} {a : Act} {Q : Exit → Act → World → Prop} (hgd : o.guard = none) (s x : Operand)
    (ho : o.op = .call { callee := .builtin .append, args := #[s, x], argTypes := #[84, 84] })
    (base : Nat) (v : Value) (n : Nat) (ys : List Value) (hs : a.eval s = v) (hown : OwnSv w base v n ys) (q c : Nat) (y : Value) (hx : a.eval x = .slice (some ⟨q, 0, none⟩) 1 c) (hq : w.cell? ⟨q, 0, none⟩ = some y) (hy : y.oneCell' = true)
    (h63 : n ≤ 1000000) (hbase : base ≤ w.heap.size)
    (h : ∀ v' w', OwnSv w' base v' (n + 1) (ys ++ [y]) → w.grownBy w' v.ownBlock → (∀ g, v.ownBlock = some g → base ≤ g) → wpList Try.prog ops Q rest (a.put o.dst v') w') : wpList Try.prog ops Q (o :: rest) a w := by
  obtain ⟨i, hi, hz, hsz, hby⟩ := info_stg
  refine wpList_append_own_at w hgd s x 84 ho base 88 i _ 1 16 Try.underlying84 hi hz hsz hby rfl (by omega) v n ys hs hown ⟨q, 0, none⟩ 1 c [y] hx rfl ?_ (fun u hu => by simp at hu; rw [hu]; exact hy) (by unfold maxLen; omega) (by omega) hbase ?_
  · intro j u hj
    match j, hj with
    | 0, hj => obtain rfl := Option.some.inj hj; exact hq
  · intro v' w' a1 a2 _ a4
    exact h v' w' a1 a2 (fun g hg => (World.ownsRow.lt hown g hg).1)
/-- a value that is the stage t. -/
def IsStg (w : World) (t : Stg) (v : Value) : Prop := stF t = true ∧ ∃ A1 n1 c1 A2 n2 c2 A3 n3 c3, IsV t A1 n1 c1 A2 n2 c2 A3 n3 c3 v ∧ HdSt w t A1 n1 c1 A2 n2 c2 A3 n3 c3
theorem IsStg.bel {w w' : World} {t : Stg} {v : Value} (h : IsStg w t v) (hb : Below w.heap.size w w') : IsStg w' t v := by
  obtain ⟨h0, A1, n1, c1, A2, n2, c2, A3, n3, c3, a, b⟩ := h
  exact ⟨h0, A1, n1, c1, A2, n2, c2, A3, n3, c3, a, b.bel hb⟩
theorem stg_snoc {w : World} {ts : List Stg} {vs : List Value} {k : Nat} {y : Value} (hvl : vs.length = k) (hy : IsStg w (st_ ts k) y) (h : ∀ i, i < k → IsStg w (st_ ts i) (vs.getD i undef)) : ∀ i, i < k + 1 → IsStg w (st_ ts i) ((vs ++ [y]).getD i undef) := fun i hi => by
  by_cases e : i = k
  · subst e
    rw [show (vs ++ [y]).getD i undef = y from by simp [List.getD, ← hvl]]
    exact hy
  · rw [show (vs ++ [y]).getD i undef = vs.getD i undef from by simp [List.getD, List.getElem?_append_left (show i < vs.length by omega)]]
    exact h i (by omega)
theorem stF_kinds {t : Stg} (h : stF t = true) : t.kd = 1 ∨ t.kd = 2 ∨ t.kd = 3 := by
  unfold stF at h
  split at h
  · exact .inl (by assumption)
  · split at h
    · exact .inr (.inl (by assumption))
    · split at h
      · exact .inr (.inr (by assumption))
      · cases h
theorem sgf_no {t : Stg} (h : stF t = false) : sgf t = 1 := by unfold sgf; rw [if_neg (by rw [h]; simp)]
theorem sgf_1 {t : Stg} (h : stF t = true) (k : t.kd = 1) : sgf t = crF t.cs := by unfold sgf; rw [if_pos h, if_pos k]
theorem sgf_2 {t : Stg} (h : stF t = true) (k : t.kd = 2) : sgf t = mf t.rs := by unfold sgf; rw [if_pos h, if_neg (by omega), if_pos k]
theorem sgf_3 {t : Stg} (h : stF t = true) (k : t.kd = 3) : sgf t = gf t.sd t.ns := by unfold sgf; rw [if_pos h, if_neg (by omega), if_neg (by omega)]
def SgAns (w : World) (ts : List Stg) (e : Ending) (w' : World) : Prop :=
  ∃ v, e = .returned (.tuple #[v, .int .i64 (sgL ts ts.length)]) ∧ (sgL ts ts.length = 0 → ∃ vs, OwnSv w' w.heap.size v ts.length vs ∧ ∀ i, i < ts.length → IsStg w' (st_ ts i) (vs.getD i undef)) ∧ Below w.heap.size w w'
theorem SgAns.bad {w w' : World} {ts : List Stg} {v : Value} {c : Int} (h : sgL ts ts.length = c) (h0 : c ≠ 0) (hb : Below w.heap.size w w') : SgAns w ts (.returned (.tuple #[v, .int .i64 c])) w' :=
  ⟨v, by rw [h], fun e => absurd (h.symm.trans e) h0, hb⟩
set_option maxRecDepth 100000 in
set_option maxHeartbeats 8000000 in
theorem stagesOf_any (A : Option Addr) (n c : Nat) (ts : List Stg) (bs : List Nat) (w : World) (h : Hd w (chD ts) (.slice A n c) bs) (hsm : n ≤ 100000) :
    Calls Try.prog 73 #[.slice A n c] w (SgAns w ts) := by
  have hl := h.stgs.1
  have H := Lib.hid h
  have HL := Lib.hid hl
  clear h hl
  go_enter Try.func73, Try.ntmps73
  go_wp2_with fail
  go_loopw [4, 12] (fun v x wr => ∃ (k : Nat) (vs : List Value), k ≤ n ∧ x = .int .i64 k ∧ OwnSv wr w.heap.size v k vs ∧ (∀ i, i < k → IsStg w (st_ ts i) (vs.getD i undef)) ∧ sgL ts k = 0 ∧ Below w.heap.size w wr) (fun _ x _ => n - (intOf x).toNat)
  case atStart => exact ⟨0, [], by omega, rfl, World.ownsRow_nil _ _ _ _, fun i hi => absurd hi (by omega), rfl, Below.refl _ _⟩
  case round =>
    obtain ⟨k, vs, hk, rfl, ho, hst, hz, hb⟩ := hrel
    by_cases hlt : k < n
    · obtain ⟨b, o, A1, n1, c1, A2, n2, c2, A3, n3, c3, rfl, x0, x1, x2, x3, x4, xs⟩ := H.out.stg hlt
      replace x0 := cell_later hb x0
      replace x1 := cell_later hb x1
      replace x2 := cell_later hb x2
      replace x3 := cell_later hb x3
      replace x4 := cell_later hb x4
      have XS := Lib.hid xs
      have HO := Lib.hid ho
      have HST := Lib.hid hst
      have HZ := Lib.hid hz
      have HB := Lib.hid hb
      clear xs ho hst hz hb
      go_wp2_with fail
      refine (ofKind_any (st_ ts k) _ _ _ _ _ _ _ _ _ _ XS.out.len.1 XS.out.len.2.1 XS.out.len.2.2 (Nat.le_trans XS.out.caps.1.1 XS.out.caps.1.2) (Nat.le_trans XS.out.caps.2.1.1 XS.out.caps.2.1.2) (Nat.le_trans XS.out.caps.2.2.1 XS.out.caps.2.2.2)).mono ?_
      rintro e w1 ⟨s, rfl, hv, hb1⟩
      have T1 := Lib.hid (blThen (blThenAlloc HB.out _) hb1)
      have B1 := Lib.hid ((blAlloc wr _).trans (hb1.mono (by simp)))
      clear hb1 x0 x1 x2 x3 x4
      rcases Bool.eq_false_or_eq_true (stF (st_ ts k)) with hf | hf
      · have V := Lib.hid (hv hf)
        have HF := Lib.hid hf
        rw [hf]
        clear hv hf
        rcases stF_kinds HF.out with kd | kd | kd
        · obtain rfl := V.out.one kd
          have HG := Lib.hid (sgf_1 HF.out kd)
          have hm : ∀ (v : Value) W, (method 347 155 v "loop.example/g00639/impl.fault").run Try.prog W = .ok (189, v) W := fun v W => by kernel_rfl
          have hna : ∀ (v : Value) W, (nilAhead 347 155 v "loop.example/g00639/impl.fault").run Try.prog W = .ok (some false) W := fun v W => by kernel_rfl
          clear kd
          go_wp2_with fail
          refine (faultC_any _ _ _ (st_ ts k).cs _ (XS.out.bel T1.out).a).mono ?_
          rintro e w2 ⟨rfl, hb2⟩
          have T2 := Lib.hid (blThen T1.out hb2)
          have B2 := Lib.hid (B1.out.trans (hb2.mono B1.out.size))
          obtain ⟨f, hf⟩ : ∃ f, f = crF (st_ ts k).cs := ⟨_, rfl⟩
          rw [← hf] at HG ⊢
          clear hb2 hm hna hf
          by_cases h0 : f = 0
          · subst h0
            go_wp2_with (at_builtin; refine wpList_append_stg _ rfl _ _ rfl w.heap.size _ k vs rfl ((HO.out.below B2.out).below (blAlloc _ _)) _ _ _ rfl (new_cell _ _ _) rfl (by omega) (by have := T2.out.size; simp; omega) ?_; intro v3 w3 ho3 hg3 hgb)
            have B3 := Lib.hid ((blThenAlloc T2.out _).trans (gb_low' hg3 hgb (Nat.le_refl _) (by have := T2.out.size; simp; omega)))
            have HN := Lib.hid (stg_snoc (by have := HO.out.1; simpa using this) (⟨HF.out, _, _, _, _, _, _, _, _, _, V.out, XS.out⟩ : IsStg w (st_ ts k) _) HST.out)
            have O3 := Lib.hid ho3
            clear ho3 hg3 hgb
            go_wp2_with fail
            go_roundw
            case rel => exact ⟨k + 1, _, by omega, by go_num, O3.out, HN.out, sgL_on HZ.out HG.out, B3.out⟩
            case measure => simp [intOf]; omega
          · have HA := Lib.hid (sgL_bad (n := n) HZ.out (by rw [HG.out]; exact h0) hlt)
            go_wp2_with fail
            go_ret2
            exact SgAns.bad (by rw [HL.out, HA.out, HG.out]) h0 T2.out
        · obtain rfl := V.out.two kd
          have HG := Lib.hid (sgf_2 HF.out kd)
          have hm : ∀ (v : Value) W, (method 347 158 v "loop.example/g00639/impl.fault").run Try.prog W = .ok (190, v) W := fun v W => by kernel_rfl
          have hna : ∀ (v : Value) W, (nilAhead 347 158 v "loop.example/g00639/impl.fault").run Try.prog W = .ok (some false) W := fun v W => by kernel_rfl
          clear kd
          go_wp2_with fail
          refine (faultM_any _ _ _ (st_ ts k).rs _ (XS.out.bel T1.out).b).mono ?_
          rintro e w2 ⟨rfl, hb2⟩
          have T2 := Lib.hid (blThen T1.out hb2)
          have B2 := Lib.hid (B1.out.trans (hb2.mono B1.out.size))
          obtain ⟨f, hf⟩ : ∃ f, f = mf (st_ ts k).rs := ⟨_, rfl⟩
          rw [← hf] at HG ⊢
          clear hb2 hm hna hf
          by_cases h0 : f = 0
          · subst h0
            go_wp2_with (at_builtin; refine wpList_append_stg _ rfl _ _ rfl w.heap.size _ k vs rfl ((HO.out.below B2.out).below (blAlloc _ _)) _ _ _ rfl (new_cell _ _ _) rfl (by omega) (by have := T2.out.size; simp; omega) ?_; intro v3 w3 ho3 hg3 hgb)
            have B3 := Lib.hid ((blThenAlloc T2.out _).trans (gb_low' hg3 hgb (Nat.le_refl _) (by have := T2.out.size; simp; omega)))
            have HN := Lib.hid (stg_snoc (by have := HO.out.1; simpa using this) (⟨HF.out, _, _, _, _, _, _, _, _, _, V.out, XS.out⟩ : IsStg w (st_ ts k) _) HST.out)
            have O3 := Lib.hid ho3
            clear ho3 hg3 hgb
            go_wp2_with fail
            go_roundw
            case rel => exact ⟨k + 1, _, by omega, by go_num, O3.out, HN.out, sgL_on HZ.out HG.out, B3.out⟩
            case measure => simp [intOf]; omega
          · have HA := Lib.hid (sgL_bad (n := n) HZ.out (by rw [HG.out]; exact h0) hlt)
            go_wp2_with fail
            go_ret2
            exact SgAns.bad (by rw [HL.out, HA.out, HG.out]) h0 T2.out
        · obtain rfl := V.out.thr kd
          have HG := Lib.hid (sgf_3 HF.out kd)
          have hm : ∀ (v : Value) W, (method 347 161 v "loop.example/g00639/impl.fault").run Try.prog W = .ok (191, v) W := fun v W => by kernel_rfl
          have hna : ∀ (v : Value) W, (nilAhead 347 161 v "loop.example/g00639/impl.fault").run Try.prog W = .ok (some false) W := fun v W => by kernel_rfl
          clear kd
          go_wp2_with fail
          refine (faultG_any _ _ _ (st_ ts k).sd (st_ ts k).ns _ (XS.out.bel T1.out).d).mono ?_
          rintro e w2 ⟨rfl, hb2⟩
          have T2 := Lib.hid (blThen T1.out hb2)
          have B2 := Lib.hid (B1.out.trans (hb2.mono B1.out.size))
          obtain ⟨f, hf⟩ : ∃ f, f = gf (st_ ts k).sd (st_ ts k).ns := ⟨_, rfl⟩
          rw [← hf] at HG ⊢
          clear hb2 hm hna hf
          by_cases h0 : f = 0
          · subst h0
            go_wp2_with (at_builtin; refine wpList_append_stg _ rfl _ _ rfl w.heap.size _ k vs rfl ((HO.out.below B2.out).below (blAlloc _ _)) _ _ _ rfl (new_cell _ _ _) rfl (by omega) (by have := T2.out.size; simp; omega) ?_; intro v3 w3 ho3 hg3 hgb)
            have B3 := Lib.hid ((blThenAlloc T2.out _).trans (gb_low' hg3 hgb (Nat.le_refl _) (by have := T2.out.size; simp; omega)))
            have HN := Lib.hid (stg_snoc (by have := HO.out.1; simpa using this) (⟨HF.out, _, _, _, _, _, _, _, _, _, V.out, XS.out⟩ : IsStg w (st_ ts k) _) HST.out)
            have O3 := Lib.hid ho3
            clear ho3 hg3 hgb
            go_wp2_with fail
            go_roundw
            case rel => exact ⟨k + 1, _, by omega, by go_num, O3.out, HN.out, sgL_on HZ.out HG.out, B3.out⟩
            case measure => simp [intOf]; omega
          · have HA := Lib.hid (sgL_bad (n := n) HZ.out (by rw [HG.out]; exact h0) hlt)
            go_wp2_with fail
            go_ret2
            exact SgAns.bad (by rw [HL.out, HA.out, HG.out]) h0 T2.out
      · have HA := Lib.hid (sgL_bad (n := n) HZ.out (by rw [sgf_no hf]; omega) hlt)
        have HG := Lib.hid (sgf_no hf)
        rw [hf]
        clear hv hf
        go_wp2_with fail
        go_ret2
        exact SgAns.bad (by rw [HL.out, HA.out, HG.out]) (by omega) T1.out
    · obtain rfl : k = n := by omega
      have HO := Lib.hid ho
      have HST := Lib.hid hst
      have HZ := Lib.hid hz
      have HB := Lib.hid hb
      clear ho hst hz hb
      go_wp2_with fail
      go_ret2
      exact ⟨_, by rw [HL.out, HZ.out]; rfl, fun _ => ⟨vs, by rw [HL.out]; exact HO.out, fun i hi => (HST.out i (by rw [HL.out] at hi; exact hi)).bel HB.out⟩, HB.out⟩
end Go.Proofs.Ytlfdpambbgddoaa
namespace Go.Proofs.Ytlfdpambbgddoaa
open Go.RowKit
set_option linter.unusedVariables false
set_option linter.unusedSimpArgs false

/-- a stage in a box, as a list of one. -/
theorem chOne {W : World} {t : Stg} {A1 : Option Addr} {n1 c1 : Nat} {A2 : Option Addr} {n2 c2 : Nat} {A3 : Option Addr} {n3 c3 : Nat} {b : Nat} (h : HdSt W t A1 n1 c1 A2 n2 c2 A3 n3 c3) (hB : Bx W b [.int .i64 t.kd, .slice A1 n1 c1, .slice A2 n2 c2, .int .i64 t.sd, .slice A3 n3 c3]) :
    ∃ bs, Hd W (chD [t]) (.slice (some ⟨b, 0, none⟩) 1 1) bs := by
  obtain ⟨⟨g1, h1⟩, ⟨g2, h2⟩, ⟨g3, h3⟩⟩ := h
  refine ⟨_, .sl 5 b 0 1 1 _ (fun _ j => [.int .i64 t.kd, .slice A1 n1 c1, .slice A2 n2 c2, .int .i64 t.sd, .slice A3 n3 c3].getD j undef) (fun _ j => [[], g1, g2, [], g3].getD j []) (by omega) (by omega) rfl (fun i hi j hj => ?_) (fun i hi j hj => ?_) (Nat.le_refl _) (by unfold maxLen; omega)⟩
  · obtain rfl : i = 0 := by omega
    match j, hj with
    | 0, _ => exact hB.c 0 rfl
    | 1, _ => exact hB.c 1 rfl
    | 2, _ => exact hB.c 2 rfl
    | 3, _ => exact hB.c 3 rfl
    | 4, _ => exact hB.c 4 rfl
  · obtain rfl : i = 0 := by omega
    match j, hj with
    | 0, _ => exact .int _ _
    | 1, _ => exact h1
    | 2, _ => exact h2
    | 3, _ => exact .int _ _
    | 4, _ => exact h3
theorem sgL_one (t : Stg) : sgL [t] 1 = sgf t := by simp [sgL, st_]
set_option maxRecDepth 100000 in
set_option maxHeartbeats 2000000 in
theorem StageFault_any (t : Stg) (A1 : Option Addr) (n1 c1 : Nat) (A2 : Option Addr) (n2 c2 : Nat) (A3 : Option Addr) (n3 c3 : Nat) (w : World) (h : HdSt w t A1 n1 c1 A2 n2 c2 A3 n3 c3) :
    Calls Try.prog 31 #[.agg #[.int .i64 t.kd, .slice A1 n1 c1, .slice A2 n2 c2, .int .i64 t.sd, .slice A3 n3 c3]] w fun e w' => e = .returned (.int .i64 (sgf t)) ∧ Below w.heap.size w w' := by
  have H := Lib.hid (chOne ((h.alloc (.cells #[.int .i64 t.kd, .slice A1 n1 c1, .slice A2 n2 c2, .int .i64 t.sd, .slice A3 n3 c3] 64)).alloc (.cells #[.int .i64 t.kd, .slice A1 n1 c1, .slice A2 n2 c2, .int .i64 t.sd, .slice A3 n3 c3] 64)) (Bx.new (w.alloc (.cells #[.int .i64 t.kd, .slice A1 n1 c1, .slice A2 n2 c2, .int .i64 t.sd, .slice A3 n3 c3] 64)) #[.int .i64 t.kd, .slice A1 n1 c1, .slice A2 n2 c2, .int .i64 t.sd, .slice A3 n3 c3] 64 (b := w.heap.size + 1) (by simp)))
  clear h
  go_enter Try.func31, Try.ntmps31
  go_wp2_with fail
  refine (stagesOf_any _ _ _ [t] _ _ H.out.choose_spec (by omega)).mono ?_
  rintro e w1 ⟨v, rfl, -, hb⟩
  have T := Lib.hid (blThen (blThenAlloc (blAlloc w _) _) hb)
  have HS := Lib.hid (sgL_one t)
  clear hb
  go_wp2_with fail
  go_ret
  exact ⟨by show _ = Ending.returned (.int .i64 (sgf t)); rw [← HS.out]; rfl, T.out⟩
def ChAns (w : World) (ts : List Stg) (e : Ending) (w' : World) : Prop :=
  ∃ v, e = .returned (.tuple #[v, .int .i64 (chf ts)]) ∧ (chf ts = 0 → ∃ vs, OwnSv w' w.heap.size v ts.length vs ∧ ∀ i, i < ts.length → IsStg w' (st_ ts i) (vs.getD i undef)) ∧ Below w.heap.size w w'
theorem OwnSv.mono {w : World} {base base' n : Nat} {v : Value} {ys : List Value} (h : OwnSv w base v n ys) (hb : base' ≤ base) : OwnSv w base' v n ys := by
  refine ⟨h.1, ?_⟩
  rcases h.2 with q | ⟨g, cap, cur, q1, q2, q3⟩
  · exact .inl q
  · exact .inr ⟨g, cap, cur, q1, Nat.le_trans hb q2, q3⟩
set_option maxRecDepth 100000 in
set_option maxHeartbeats 2000000 in
theorem chainStages_any (A : Option Addr) (n c : Nat) (ts : List Stg) (bs : List Nat) (w : World) (h : Hd w (chD ts) (.slice A n c) bs) :
    Calls Try.prog 91 #[.agg #[.slice A n c]] w (ChAns w ts) := by
  have hl := h.stgs.1
  have hm := h.stgs.2.2
  have hc := h.stgs.2.1
  unfold maxLen at hm
  have H := Lib.hid h
  clear h
  by_cases h5 : 5 < n
  · have HF : Hid (chf ts = 2) := by show _ = _; unfold chf; rw [if_pos (by omega)]
    clear hl
    go_enter Try.func91, Try.ntmps91
    go_wp2_with fail
    go_ret2
    exact ⟨_, by rw [HF.out]; rfl, fun e => by rw [HF.out] at e; omega, blAlloc _ _⟩
  · have HF : Hid (chf ts = sgL ts ts.length) := by show _ = _; unfold chf; rw [if_neg (by omega)]
    clear hl
    go_enter Try.func91, Try.ntmps91
    go_wp2_with fail
    refine (stagesOf_any _ _ _ ts _ _ (H.out.alloc _) (by omega)).mono ?_
    rintro e w1 ⟨v, rfl, hv, hb⟩
    have T := Lib.hid (blThen (blAlloc w _) hb)
    have HV := Lib.hid hv
    clear hb hv
    go_wp2_with fail
    go_ret2
    refine ⟨v, by rw [HF.out]; rfl, fun e => ?_, T.out⟩
    obtain ⟨vs, a, b⟩ := HV.out (by rw [← HF.out]; exact e)
    exact ⟨vs, a.mono (by simp), b⟩
/-! ### the model's -/
set_option maxRecDepth 100000 in
set_option maxHeartbeats 1000000 in
theorem sFault5_o (g o : Nat) (A : Option Addr) (n c : Nat) (sd : Int) (rs : Rws) (bs : List Nat) (w : World) (h : Hd w (rowsD rs) (.slice A n c) bs) (hg0 : w.cell? ⟨g, o, none⟩ = some (.int .i64 sd)) (hg1 : w.cell? ⟨g, o + 1, none⟩ = some (.slice A n c)) :
    Calls Try.prog 65 #[.pointer (some ⟨g, o, none⟩)] w fun e w' => e = .returned (.int .i64 (gf sd rs)) ∧ ∃ m, w' = w.drewN m := by
  obtain ⟨hl, hc, hm, -⟩ := h.rows
  unfold maxLen at hm
  have H := Lib.hid h
  clear h
  rcases Bool.eq_false_or_eq_true (inB sd 2 4) with hs | hs
  · have CS : Hid (∀ W, Calls Try.prog 40 #[.int .i64 sd] W fun e w' => e = .returned (.bool true) ∧ W = w') := fun W => by rw [← hs]; exact sSide5_any sd W
    have hq : sd * sd * sd = 8 ∨ sd * sd * sd = 27 ∨ sd * sd * sd = 64 := by rcases side_cases hs with rfl | rfl | rfl <;> simp
    have hq1 : -9223372036854775808 ≤ sd * sd ∧ sd * sd ≤ 9223372036854775807 := by rcases side_cases hs with rfl | rfl | rfl <;> simp
    have hq2 : -9223372036854775808 ≤ sd * sd * sd ∧ sd * sd * sd ≤ 9223372036854775807 := by omega
    obtain ⟨hs1, hs2⟩ := inB_iff.1 hs
    by_cases hn : (n : Int) = sd * sd * sd
    · have HG := Lib.hid (gf_rows hl hs hn)
      have he : ((n : Int) == sd * sd * sd) = true := by rw [hn]; simp
      have he2 : ((n : Int) != sd * sd * sd) = false := by rw [bne, he]; rfl
      clear hl hs hn
      go_enter Try.func65, Try.ntmps65
      go_wp2_with (go_at_call 40; refine (CS.out _).mono ?_; rintro e w' ⟨rfl, rfl⟩)
      go_quiet (fail)
      go_wp2_with fail
      go_loopw [3, 4] (fun x y wr => ∃ i m : Nat, i ≤ n ∧ x = .int .i64 i ∧ Hid (gfl rs i = 0) ∧ wr = w.drewN m) (fun x _ _ => n - (intOf x).toNat)
      case atStart => exact ⟨0, _, by omega, rfl, rfl, rfl⟩
      case round =>
        obtain ⟨i, m, hi, rfl, hz, rfl⟩ := hrel
        by_cases hlt : i < n
        · obtain ⟨b, o', B1, L1, C1, g1, rfl, x1, x3, -⟩ := H.out.row hlt
          have HR := Lib.hid x3.rd
          have hcap := Lib.hid x3.caps.1
          have hm1 := Lib.hid x3.caps.2
          clear x3
          by_cases hf : lf (rw_ rs i) = 0
          · have HF := Lib.hid hf
            have CL : Hid (∀ m, Calls Try.prog 59 #[.slice B1 L1 C1] (w.drewN m) fun e w' => e = .returned (.int .i64 0) ∧ (w.drewN m) = w') := fun m => by rw [← hf]; exact sLevels4_any _ _ _ _ _ (HR.out.drewN m) hcap.out hm1.out
            clear hf
            go_wp2_with (go_at_call 59; refine (CL.out _).mono ?_; rintro e w' ⟨rfl, rfl⟩)
            go_roundw
            case rel => exact ⟨i + 1, m, by omega, by go_num, gfl_on hz.out HF.out, rfl⟩
            case measure => simp [intOf]; omega
          · obtain ⟨q, hq2⟩ : ∃ q, q = lf (rw_ rs i) := ⟨_, rfl⟩
            have HM := Lib.hid (gfl_first hz.out hq2.symm (by rw [hq2]; exact hf) hlt)
            have CL : Hid (∀ m, Calls Try.prog 59 #[.slice B1 L1 C1] (w.drewN m) fun e w' => e = .returned (.int .i64 q) ∧ (w.drewN m) = w') := fun m => by rw [hq2]; exact sLevels4_any _ _ _ _ _ (HR.out.drewN m) hcap.out hm1.out
            have hqn : (q == 0) = false := by rw [hq2]; simpa using hf
            have hqn' : q ≠ 0 := by rw [hq2]; exact hf
            clear hf hq2
            go_wp2_with (go_at_call 59; refine (CL.out _).mono ?_; rintro e w' ⟨rfl, rfl⟩)
            go_ret
            exact ⟨by rw [HG.out, HM.out]; rfl, m, rfl⟩
        · obtain rfl : i = n := by omega
          go_wp2_with fail
          go_ret
          exact ⟨by rw [HG.out, hz.out]; rfl, m, rfl⟩
    · have HG := Lib.hid (gf_many hl hs hn)
      have he : ((n : Int) == sd * sd * sd) = false := by simpa using hn
      have he2 : ((n : Int) != sd * sd * sd) = true := by rw [bne, he]; rfl
      clear hl hs
      go_enter Try.func65, Try.ntmps65
      go_wp2_with (go_at_call 40; refine (CS.out _).mono ?_; rintro e w' ⟨rfl, rfl⟩)
      go_quiet (fail)
      go_wp2_with fail
      go_ret
      exact ⟨by rw [HG.out]; rfl, _, rfl⟩
  · have HG := Lib.hid (gf_side (rs := rs) hs)
    have CS : Hid (∀ W, Calls Try.prog 40 #[.int .i64 sd] W fun e w' => e = .returned (.bool false) ∧ W = w') := fun W => by rw [← hs]; exact sSide5_any sd W
    clear hs
    go_enter Try.func65, Try.ntmps65
    go_wp2_with (go_at_call 40; refine (CS.out _).mono ?_; rintro e w' ⟨rfl, rfl⟩)
    go_ret
    exact ⟨by rw [HG.out]; rfl, 0, rfl⟩
set_option maxHeartbeats 400000 in
theorem sNoGrid_any (g o n c : Nat) (A : Option Addr) (sd : Int) (w : World) (hm : n ≤ maxLen) (h0 : w.cell? ⟨g, o, none⟩ = some (.int .i64 sd)) (h1 : w.cell? ⟨g, o + 1, none⟩ = some (.slice A n c)) :
    Calls Try.prog 145 #[.pointer (some ⟨g, o, none⟩)] w fun e w' => e = .returned (.bool (decide (sd = 0 ∧ n = 0))) ∧ w = w' := by
  unfold maxLen at hm
  by_cases hs : sd = 0
  · subst hs
    rcases Nat.eq_zero_or_pos n with hn | hn
    · subst hn
      go_enter Try.func145, Try.ntmps145
      go_wp2_with fail
      go_ret
      exact ⟨rfl, rfl⟩
    · have e : ((n : Int) == 0) = false := by simp; omega
      go_enter Try.func145, Try.ntmps145
      go_wp2_with fail
      go_ret
      exact ⟨ret_bool (by simp; omega), rfl⟩
  · have e : (sd == 0) = false := by simpa using hs
    go_enter Try.func145, Try.ntmps145
    go_wp2_with fail
    go_ret
    exact ⟨ret_bool (by simp [hs]), rfl⟩
/-- the five cells of a stage, anywhere. -/
structure At5 (w : World) (g o : Nat) (t : Stg) (A1 : Option Addr) (n1 c1 : Nat) (A2 : Option Addr) (n2 c2 : Nat) (A3 : Option Addr) (n3 c3 : Nat) : Prop where
  a0 : w.cell? ⟨g, o, none⟩ = some (.int .i64 t.kd)
  a1 : w.cell? ⟨g, o + 1, none⟩ = some (.slice A1 n1 c1)
  a2 : w.cell? ⟨g, o + 2, none⟩ = some (.slice A2 n2 c2)
  a3 : w.cell? ⟨g, o + 3, none⟩ = some (.int .i64 t.sd)
  a4 : w.cell? ⟨g, o + 3 + 1, none⟩ = some (.slice A3 n3 c3)
set_option maxRecDepth 100000 in
set_option maxHeartbeats 4000000 in
theorem sForm_any (g o : Nat) (t : Stg) (A1 : Option Addr) (n1 c1 : Nat) (A2 : Option Addr) (n2 c2 : Nat) (A3 : Option Addr) (n3 c3 : Nat) (w : World) (h : At5 w g o t A1 n1 c1 A2 n2 c2 A3 n3 c3) (l1 : t.cs.length = n1) (l2 : t.rs.length = n2) (l3 : t.ns.length = n3) (m1 : n1 ≤ maxLen) (m2 : n2 ≤ maxLen) (m3 : n3 ≤ maxLen) :
    Calls Try.prog 111 #[.pointer (some ⟨g, o, none⟩)] w fun e w' => e = .returned (.bool (stF t)) ∧ w = w' := by
  have M : n1 ≤ 9223372036854775807 ∧ n2 ≤ 9223372036854775807 := by unfold maxLen at *; omega
  obtain ⟨p1, p2⟩ := M
  clear m1 m2
  obtain ⟨y0, y1, y2, y3, y4⟩ := h
  obtain ⟨kd, cs, rs, sd, ns⟩ := t
  simp only at l1 l2 l3 y0 y1 y2 y3 y4 ⊢
  have L1 := Lib.hid l1
  have L2 := Lib.hid l2
  have L3 := Lib.hid l3
  clear l1 l2 l3
  by_cases k1 : kd = 1
  · subst k1
    have hin : inB 1 1 3 = true := by decide
    rcases Nat.eq_zero_or_pos n2 with h | h
    · subst h
      go_enter Try.func111, Try.ntmps111
      go_wp2_with (first | (go_at_call 41; refine (sIn_any _ _ _ _).mono ?_; rintro e w' ⟨rfl, rfl⟩) | (go_at_call 145; refine (sNoGrid_any _ _ _ _ _ _ _ m3 y3 y4).mono ?_; rintro e w' ⟨rfl, rfl⟩))
      go_ret
      refine ⟨ret_bool ?_, rfl⟩
      have q1 := L1.out
      have q2 := L2.out
      have q3 := L3.out
      simp [stF, q1, q2, q3]
      try omega
    · have e : ((n2 : Int) == 0) = false := by simp; omega
      go_enter Try.func111, Try.ntmps111
      go_wp2_with (first | (go_at_call 41; refine (sIn_any _ _ _ _).mono ?_; rintro e w' ⟨rfl, rfl⟩) | (go_at_call 145; refine (sNoGrid_any _ _ _ _ _ _ _ m3 y3 y4).mono ?_; rintro e w' ⟨rfl, rfl⟩))
      go_ret
      refine ⟨ret_bool ?_, rfl⟩
      have q1 := L1.out
      have q2 := L2.out
      have q3 := L3.out
      simp [stF, q1, q2, q3]
      try omega
  by_cases k2 : kd = 2
  · subst k2
    have hin : inB 2 1 3 = true := by decide
    rcases Nat.eq_zero_or_pos n1 with h | h
    · subst h
      go_enter Try.func111, Try.ntmps111
      go_wp2_with (first | (go_at_call 41; refine (sIn_any _ _ _ _).mono ?_; rintro e w' ⟨rfl, rfl⟩) | (go_at_call 145; refine (sNoGrid_any _ _ _ _ _ _ _ m3 y3 y4).mono ?_; rintro e w' ⟨rfl, rfl⟩))
      go_ret
      refine ⟨ret_bool ?_, rfl⟩
      have q1 := L1.out
      have q2 := L2.out
      have q3 := L3.out
      simp [stF, q1, q2, q3]
      try omega
    · have e : ((n1 : Int) == 0) = false := by simp; omega
      go_enter Try.func111, Try.ntmps111
      go_wp2_with (first | (go_at_call 41; refine (sIn_any _ _ _ _).mono ?_; rintro e w' ⟨rfl, rfl⟩) | (go_at_call 145; refine (sNoGrid_any _ _ _ _ _ _ _ m3 y3 y4).mono ?_; rintro e w' ⟨rfl, rfl⟩))
      go_ret
      refine ⟨ret_bool ?_, rfl⟩
      have q1 := L1.out
      have q2 := L2.out
      have q3 := L3.out
      simp [stF, q1, q2, q3]
      try omega
  by_cases k3 : kd = 3
  · subst k3
    have hin : inB 3 1 3 = true := by decide
    rcases Nat.eq_zero_or_pos n1 with h | h
    · subst h
      rcases Nat.eq_zero_or_pos n2 with h | h
      · subst h
        go_enter Try.func111, Try.ntmps111
        go_wp2_with (first | (go_at_call 41; refine (sIn_any _ _ _ _).mono ?_; rintro e w' ⟨rfl, rfl⟩) | (go_at_call 145; refine (sNoGrid_any _ _ _ _ _ _ _ m3 y3 y4).mono ?_; rintro e w' ⟨rfl, rfl⟩))
        go_ret
        refine ⟨ret_bool ?_, rfl⟩
        have q1 := L1.out
        have q2 := L2.out
        have q3 := L3.out
        simp [stF, q1, q2, q3]
        try omega
      · have e : ((n2 : Int) == 0) = false := by simp; omega
        go_enter Try.func111, Try.ntmps111
        go_wp2_with (first | (go_at_call 41; refine (sIn_any _ _ _ _).mono ?_; rintro e w' ⟨rfl, rfl⟩) | (go_at_call 145; refine (sNoGrid_any _ _ _ _ _ _ _ m3 y3 y4).mono ?_; rintro e w' ⟨rfl, rfl⟩))
        go_ret
        refine ⟨ret_bool ?_, rfl⟩
        have q1 := L1.out
        have q2 := L2.out
        have q3 := L3.out
        simp [stF, q1, q2, q3]
        try omega
    · have e : ((n1 : Int) == 0) = false := by simp; omega
      go_enter Try.func111, Try.ntmps111
      go_wp2_with (first | (go_at_call 41; refine (sIn_any _ _ _ _).mono ?_; rintro e w' ⟨rfl, rfl⟩) | (go_at_call 145; refine (sNoGrid_any _ _ _ _ _ _ _ m3 y3 y4).mono ?_; rintro e w' ⟨rfl, rfl⟩))
      go_ret
      refine ⟨ret_bool ?_, rfl⟩
      have q1 := L1.out
      have q2 := L2.out
      have q3 := L3.out
      simp [stF, q1, q2, q3]
      try omega
  have HF : Hid (stF ⟨kd, cs, rs, sd, ns⟩ = false) := by show _ = _; unfold stF; rw [if_neg k1, if_neg k2, if_neg k3]
  have hin : inB kd 1 3 = false := by
    rcases Bool.eq_false_or_eq_true (inB kd 1 3) with q | q
    · have := inB_iff.1 q; omega
    · exact q
  go_enter Try.func111, Try.ntmps111
  go_wp2_with (go_at_call 41; refine (sIn_any _ _ _ _).mono ?_; rintro e w' ⟨rfl, rfl⟩; rw [hin])
  go_ret
  exact ⟨ret_bool (by rw [HF.out]), rfl⟩
set_option maxRecDepth 100000 in
set_option maxHeartbeats 2000000 in
theorem sCurves6_any (A : Option Addr) (n c : Nat) (cs : Rws) (w : World) (h : ∃ bs, Hd w (rowsD cs) (.slice A n c) bs) :
    Calls Try.prog 112 #[.slice A n c] w fun e w' => e = .returned (.int .i64 (crF cs)) ∧ w = w' := by
  obtain ⟨bs, h⟩ := h
  obtain ⟨hl, hc, hm, -⟩ := h.rows
  unfold maxLen at hm
  have H := Lib.hid h
  clear h
  by_cases hn : n = 3
  · subst hn
    have HF : Hid (crF cs = crL cs 3) := by show _ = _; unfold crF; rw [if_pos hl]
    clear hl hm
    go_enter Try.func112, Try.ntmps112
    go_wp2_with fail
    go_loop [3] (fun x => ∃ i : Nat, i ≤ 3 ∧ x = .int .i64 i ∧ crL cs i = 0) (fun x => 3 - (intOf x).toNat)
    case atStart => exact ⟨0, by omega, rfl, rfl⟩
    case round =>
      obtain ⟨i, hi, rfl, hz⟩ := hrel
      by_cases hlt : i < 3
      · obtain ⟨b, o, B1, L1, C1, g1, rfl, x1, x3, -⟩ := H.out.row hlt
        have X := Lib.hid x3
        have HZ := Lib.hid hz
        clear x3 hz
        go_wp2_with fail
        refine (sFault3_any _ _ _ _ _ (rw_ cs i) _ x1 X.out.rd (Nat.le_trans X.out.caps.1 X.out.caps.2)).mono ?_
        rintro e w1 ⟨rfl, rfl⟩
        by_cases h0 : cf (rw_ cs i) = 0
        · go_wp2_with fail
          go_round
          case rel => exact ⟨i + 1, by omega, by go_num, crL_on HZ.out h0⟩
          case measure => simp [intOf]; omega
        · have HA := Lib.hid (crL_bad (n := 3) HZ.out h0 hlt)
          go_wp2_with fail
          go_ret
          exact ⟨by rw [HF.out, HA.out]; rfl, rfl⟩
      · obtain rfl : i = 3 := by omega
        have HZ := Lib.hid hz
        clear hz
        go_wp2_with fail
        go_ret
        exact ⟨by rw [HF.out, HZ.out]; rfl, rfl⟩
  · have HF : Hid (crF cs = 2) := by show _ = _; unfold crF; rw [if_neg (by omega)]
    go_enter Try.func112, Try.ntmps112
    go_wp2_with fail
    go_ret
    exact ⟨by rw [HF.out]; rfl, rfl⟩
set_option maxRecDepth 100000 in
set_option maxHeartbeats 4000000 in
theorem sStage6_any (g o : Nat) (t : Stg) (A1 : Option Addr) (n1 c1 : Nat) (A2 : Option Addr) (n2 c2 : Nat) (A3 : Option Addr) (n3 c3 : Nat) (w : World) (h : At5 w g o t A1 n1 c1 A2 n2 c2 A3 n3 c3) (hd : HdSt w t A1 n1 c1 A2 n2 c2 A3 n3 c3) :
    Calls Try.prog 71 #[.pointer (some ⟨g, o, none⟩)] w fun e w' => e = .returned (.int .i64 (sgf t)) ∧ ∃ m, w' = w.drewN m := by
  have CF := Lib.hid (sForm_any g o t _ _ _ _ _ _ _ _ _ w h hd.len.1 hd.len.2.1 hd.len.2.2 (Nat.le_trans hd.caps.1.1 hd.caps.1.2) (Nat.le_trans hd.caps.2.1.1 hd.caps.2.1.2) (Nat.le_trans hd.caps.2.2.1 hd.caps.2.2.2))
  have HD := Lib.hid hd
  obtain ⟨y0, y1, y2, y3, y4⟩ := h
  clear hd
  rcases Bool.eq_false_or_eq_true (stF t) with hf | hf
  · rw [hf] at CF
    have HF := Lib.hid hf
    rcases stF_kinds hf with kd | kd | kd
    · have HG := Lib.hid (sgf_1 hf kd)
      rw [kd] at y0
      clear hf kd
      go_enter Try.func71, Try.ntmps71
      go_wp2_with fail
      refine CF.out.mono ?_
      rintro e w' ⟨rfl, rfl⟩
      go_wp2_with fail
      refine (sCurves6_any _ _ _ t.cs _ HD.out.a).mono ?_
      rintro e w' ⟨rfl, rfl⟩
      go_wp2_with fail
      go_ret
      exact ⟨by rw [HG.out]; rfl, 0, rfl⟩
    · have HG := Lib.hid (sgf_2 hf kd)
      rw [kd] at y0
      clear hf kd
      go_enter Try.func71, Try.ntmps71
      go_wp2_with fail
      refine CF.out.mono ?_
      rintro e w' ⟨rfl, rfl⟩
      go_wp2_with fail
      refine (sFault4_any _ _ _ _ _ t.rs _ _ HD.out.b.choose_spec y2).mono ?_
      rintro e w' ⟨rfl, rfl⟩
      go_wp2_with fail
      go_ret
      exact ⟨by rw [HG.out]; rfl, 0, rfl⟩
    · have HG := Lib.hid (sgf_3 hf kd)
      rw [kd] at y0
      clear hf kd
      go_enter Try.func71, Try.ntmps71
      go_wp2_with fail
      refine CF.out.mono ?_
      rintro e w' ⟨rfl, rfl⟩
      go_wp2_with fail
      refine (sFault5_o _ _ _ _ _ t.sd t.ns _ _ HD.out.d.choose_spec y3 y4).mono ?_
      rintro e w' ⟨rfl, m, rfl⟩
      go_wp2_with fail
      go_ret
      exact ⟨by rw [HG.out]; rfl, m, rfl⟩
  · have HG := Lib.hid (sgf_no hf)
    rw [hf] at CF
    clear hf
    go_enter Try.func71, Try.ntmps71
    go_wp2_with fail
    refine CF.out.mono ?_
    rintro e w' ⟨rfl, rfl⟩
    go_wp2_with fail
    go_ret
    exact ⟨by rw [HG.out]; rfl, 0, rfl⟩
set_option maxRecDepth 100000 in
set_option maxHeartbeats 2000000 in
theorem sStageFault_any (t : Stg) (A1 : Option Addr) (n1 c1 : Nat) (A2 : Option Addr) (n2 c2 : Nat) (A3 : Option Addr) (n3 c3 : Nat) (w : World) (h : HdSt w t A1 n1 c1 A2 n2 c2 A3 n3 c3) :
    Calls Try.prog 32 #[.agg #[.int .i64 t.kd, .slice A1 n1 c1, .slice A2 n2 c2, .int .i64 t.sd, .slice A3 n3 c3]] w fun e w' => e = .returned (.int .i64 (sgf t)) ∧ Below w.heap.size w w' := by
  have B := Lib.hid (Bx.new w #[.int .i64 t.kd, .slice A1 n1 c1, .slice A2 n2 c2, .int .i64 t.sd, .slice A3 n3 c3] 64 rfl)
  have H := Lib.hid (h.alloc (.cells #[.int .i64 t.kd, .slice A1 n1 c1, .slice A2 n2 c2, .int .i64 t.sd, .slice A3 n3 c3] 64))
  clear h
  go_enter Try.func32, Try.ntmps32
  go_wp2_with fail
  refine (sStage6_any w.heap.size 0 t _ _ _ _ _ _ _ _ _ _ ⟨B.out.c 0 rfl, B.out.c 1 rfl, B.out.c 2 rfl, B.out.c 3 rfl, B.out.c 4 rfl⟩ H.out).mono ?_
  rintro e w' ⟨rfl, m, rfl⟩
  go_wp2_with fail
  go_ret
  exact ⟨rfl, blThenDrew (blAlloc _ _) m⟩
set_option maxRecDepth 100000 in
set_option maxHeartbeats 2000000 in
theorem sFault6_any (g o : Nat) (A : Option Addr) (n c : Nat) (ts : List Stg) (bs : List Nat) (w : World) (h : Hd w (chD ts) (.slice A n c) bs) (hg : w.cell? ⟨g, o, none⟩ = some (.slice A n c)) :
    Calls Try.prog 86 #[.pointer (some ⟨g, o, none⟩)] w fun e w' => e = .returned (.int .i64 (chf ts)) ∧ ∃ m, w' = w.drewN m := by
  have hl := h.stgs.1
  have hm := h.stgs.2.2
  have hc := h.stgs.2.1
  unfold maxLen at hm
  have H := Lib.hid h
  clear h
  by_cases h5 : 5 < n
  · have HF : Hid (chf ts = 2) := by show _ = _; unfold chf; rw [if_pos (by omega)]
    clear hl
    go_enter Try.func86, Try.ntmps86
    go_wp2_with fail
    go_ret
    exact ⟨by rw [HF.out]; rfl, 0, rfl⟩
  · have HF : Hid (chf ts = sgL ts n) := by show _ = _; unfold chf; rw [if_neg (by omega), hl]
    have HG := Lib.hid hg
    clear hl hg
    go_enter Try.func86, Try.ntmps86
    have hg := HG.out
    go_wp2_with fail
    clear hg
    go_loopw [3] (fun x wr => ∃ k m : Nat, k ≤ n ∧ x = .int .i64 k ∧ sgL ts k = 0 ∧ wr = w.drewN m) (fun x _ => n - (intOf x).toNat)
    case atStart => exact ⟨0, 0, by omega, rfl, rfl, rfl⟩
    case round =>
      obtain ⟨k, m, hk, rfl, hz, rfl⟩ := hrel
      have hg : (w.drewN m).cell? ⟨g, o, none⟩ = some (.slice A n c) := cell_later (below_drewN _ _ _) HG.out
      by_cases hlt : k < n
      · obtain ⟨b, o', A1, n1, c1, A2, n2, c2, A3, n3, c3, rfl, x0, x1, x2, x3, x4, xs⟩ := (H.out.drewN m).stg hlt
        have A5 : Hid (At5 (w.drewN m) b (o' + k * 5) (st_ ts k) A1 n1 c1 A2 n2 c2 A3 n3 c3) := ⟨x0, x1, x2, x3, x4⟩
        have XS := Lib.hid xs
        have HZ := Lib.hid hz
        clear xs hz x0 x1 x2 x3 x4
        go_wp2_with fail
        refine (sStage6_any _ _ (st_ ts k) _ _ _ _ _ _ _ _ _ _ A5.out XS.out).mono ?_
        rintro e w1 ⟨rfl, m2, rfl⟩
        clear hg
        have HD : Hid (∃ q, (w.drewN m).drewN m2 = w.drewN q) := ⟨m + m2, by simp⟩
        obtain ⟨q, hq⟩ := HD.out
        rw [hq]
        clear hq HD
        obtain ⟨f, hf⟩ : ∃ f, f = sgf (st_ ts k) := ⟨_, rfl⟩
        rw [← hf]
        by_cases h0 : f = 0
        · subst h0
          have HN := Lib.hid (sgL_on HZ.out hf.symm)
          clear hf
          go_wp2_with fail
          go_roundw
          case rel => exact ⟨k + 1, q, by omega, by go_num, HN.out, rfl⟩
          case measure => simp [intOf]; omega
        · have HA := Lib.hid (sgL_bad (n := n) HZ.out (by rw [← hf]; exact h0) hlt)
          rw [← hf] at HA
          clear hf
          go_wp2_with fail
          go_ret
          exact ⟨by rw [HF.out, HA.out]; rfl, q, rfl⟩
      · obtain rfl : k = n := by omega
        have HZ := Lib.hid hz
        clear hz
        go_wp2_with fail
        go_ret
        exact ⟨by rw [HF.out, HZ.out]; rfl, m, rfl⟩
end Go.Proofs.Ytlfdpambbgddoaa
