/-
  Faults of stages: the form of a stage (ofKind, l6Form), faults of curves in a stage, the model's l6Stage, l6Fault, StageFault, ChainFault.
-/
import Derived.Test.YtmmlcdbbjkligaaHelpS
import Derived.Test.YtmmlcdbbjkligaaOpenC
import Derived.Test.YtmmlcdbbjkligaaCur2
import Derived.Test.YtmmlcdbbjkligaaGrdN
namespace Go.Proofs.Ytmmlcdbbjkligaa
open Go.RowKit
set_option linter.unusedVariables false
set_option linter.unusedSimpArgs false

def stF (t : Stg) : Bool := if t.kd = 1 then decide (t.rs.length = 0 ∧ t.sd = 0 ∧ t.ns.length = 0) else if t.kd = 2 then decide (t.cs.length = 0 ∧ t.sd = 0 ∧ t.ns.length = 0) else if t.kd = 3 then decide (t.cs.length = 0 ∧ t.rs.length = 0) else false
/-- the fault of the first curve that has one. -/
def crL (cs : Rws) : Nat → Int
  | 0 => 0
  | k + 1 => if crL cs k = 0 then cf (rw_ cs k) else crL cs k
def crF (cs : Rws) : Int := if cs.length = 3 then crL cs 3 else 2
def sgf (t : Stg) : Int := if stF t = true then (if t.kd = 1 then crF t.cs else if t.kd = 2 then mf t.rs else gf t.sd t.ns) else 1
def sgL (ts : List Stg) : Nat → Int
  | 0 => 0
  | k + 1 => if sgL ts k = 0 then sgf (st_ ts k) else sgL ts k
def chf (ts : List Stg) : Int := if 5 < ts.length then 2 else sgL ts ts.length
theorem crL_stop {cs : Rws} {k : Nat} (h : crL cs k ≠ 0) : ∀ n, k ≤ n → crL cs n = crL cs k := by
  intro n
  induction n with
  | zero => intro h'; rw [show k = 0 by omega]
  | succ n ih =>
    intro h'
    by_cases e : k = n + 1
    · subst e; rfl
    · have := ih (by omega); simp only [crL]; rw [this, if_neg h]
theorem sgL_stop {ts : List Stg} {k : Nat} (h : sgL ts k ≠ 0) : ∀ n, k ≤ n → sgL ts n = sgL ts k := by
  intro n
  induction n with
  | zero => intro h'; rw [show k = 0 by omega]
  | succ n ih =>
    intro h'
    by_cases e : k = n + 1
    · subst e; rfl
    · have := ih (by omega); simp only [sgL]; rw [this, if_neg h]
theorem crL_bad {cs : Rws} {k n : Nat} (h0 : crL cs k = 0) (hc : cf (rw_ cs k) ≠ 0) (hk : k < n) : crL cs n = cf (rw_ cs k) := by
  have e : crL cs (k + 1) = cf (rw_ cs k) := by simp only [crL]; rw [if_pos h0]
  rw [crL_stop (k := k + 1) (by rw [e]; exact hc) n (by omega), e]
theorem sgL_bad {ts : List Stg} {k n : Nat} (h0 : sgL ts k = 0) (hc : sgf (st_ ts k) ≠ 0) (hk : k < n) : sgL ts n = sgf (st_ ts k) := by
  have e : sgL ts (k + 1) = sgf (st_ ts k) := by simp only [sgL]; rw [if_pos h0]
  rw [sgL_stop (k := k + 1) (by rw [e]; exact hc) n (by omega), e]
theorem crL_on {cs : Rws} {k : Nat} (h0 : crL cs k = 0) (hc : cf (rw_ cs k) = 0) : crL cs (k + 1) = 0 := by simp only [crL]; rw [if_pos h0, hc]
theorem sgL_on {ts : List Stg} {k : Nat} (h0 : sgL ts k = 0) (hc : sgf (st_ ts k) = 0) : sgL ts (k + 1) = 0 := by simp only [sgL]; rw [if_pos h0, hc]
theorem HdSt.len {w : World} {t : Stg} {A1 : Option Addr} {n1 c1 : Nat} {A2 : Option Addr} {n2 c2 : Nat} {A3 : Option Addr} {n3 c3 : Nat} (h : HdSt w t A1 n1 c1 A2 n2 c2 A3 n3 c3) : t.cs.length = n1 ∧ t.rs.length = n2 ∧ t.ns.length = n3 :=
  ⟨h.a.choose_spec.rows.1, h.b.choose_spec.rows.1, h.d.choose_spec.rows.1⟩
theorem HdSt.caps {w : World} {t : Stg} {A1 : Option Addr} {n1 c1 : Nat} {A2 : Option Addr} {n2 c2 : Nat} {A3 : Option Addr} {n3 c3 : Nat} (h : HdSt w t A1 n1 c1 A2 n2 c2 A3 n3 c3) : (n1 ≤ c1 ∧ c1 ≤ maxLen) ∧ (n2 ≤ c2 ∧ c2 ≤ maxLen) ∧ (n3 ≤ c3 ∧ c3 ≤ maxLen) :=
  ⟨h.a.choose_spec.caps, h.b.choose_spec.caps, h.d.choose_spec.caps⟩
/-- the value of a stage by its kind. -/
structure IsV (t : Stg) (A1 : Option Addr) (n1 c1 : Nat) (A2 : Option Addr) (n2 c2 : Nat) (A3 : Option Addr) (n3 c3 : Nat) (v : Value) : Prop where
  one : t.kd = 1 → v = .iface 186 (.agg #[.slice A1 n1 c1])
  two : t.kd = 2 → v = .iface 189 (.agg #[.slice A2 n2 c2])
  thr : t.kd = 3 → v = .iface 191 (.agg #[.int .i64 t.sd, .slice A3 n3 c3])
def KdAns (w : World) (t : Stg) (A1 : Option Addr) (n1 c1 : Nat) (A2 : Option Addr) (n2 c2 : Nat) (A3 : Option Addr) (n3 c3 : Nat) (e : Ending) (w' : World) : Prop :=
  ∃ v, e = .returned (.tuple #[v, .bool (stF t)]) ∧ (stF t = true → IsV t A1 n1 c1 A2 n2 c2 A3 n3 c3 v) ∧ Below w.heap.size w w'
theorem dz (n : Nat) : decide (n = 0) = !decide (0 < n) := by cases n <;> simp
theorem KdAns.mk {w w' : World} {t : Stg} {A1 : Option Addr} {n1 c1 : Nat} {A2 : Option Addr} {n2 c2 : Nat} {A3 : Option Addr} {n3 c3 : Nat} {v : Value} {b : Bool} (hb : stF t = b) (hv : b = true → IsV t A1 n1 c1 A2 n2 c2 A3 n3 c3 v) (hw : Below w.heap.size w w') : KdAns w t A1 n1 c1 A2 n2 c2 A3 n3 c3 (.returned (.tuple #[v, .bool b])) w' :=
  ⟨v, by rw [hb], fun h => hv (by rw [← hb]; exact h), hw⟩
set_option maxRecDepth 100000 in
set_option maxHeartbeats 8000000 in
theorem ofKind_any (t : Stg) (A1 : Option Addr) (n1 c1 : Nat) (A2 : Option Addr) (n2 c2 : Nat) (A3 : Option Addr) (n3 c3 : Nat) (w : World) (l1 : t.cs.length = n1) (l2 : t.rs.length = n2) (l3 : t.ns.length = n3) (m1 : n1 ≤ maxLen) (m2 : n2 ≤ maxLen) (m3 : n3 ≤ maxLen) :
    Calls Try.prog 116 #[.agg #[.int .i64 t.kd, .slice A1 n1 c1, .slice A2 n2 c2, .int .i64 t.sd, .slice A3 n3 c3]] w (KdAns w t A1 n1 c1 A2 n2 c2 A3 n3 c3) := by
  have M : n1 ≤ 9223372036854775807 ∧ n2 ≤ 9223372036854775807 ∧ n3 ≤ 9223372036854775807 := by unfold maxLen at *; omega
  obtain ⟨p1, p2, p3⟩ := M
  clear m1 m2 m3
  obtain ⟨kd, cs, rs, sd, ns⟩ := t
  simp only at l1 l2 l3 ⊢
  have L1 := Lib.hid l1
  have L2 := Lib.hid l2
  have L3 := Lib.hid l3
  clear l1 l2 l3
  by_cases k1 : kd = 1
  · subst k1
    rcases Nat.eq_zero_or_pos n2 with h | h <;> by_cases hs : sd = 0
    all_goals
      (try subst hs)
      (try subst h)
      go_enter Try.func116, Try.ntmps116
      go_wp2
      all_goals go_ret2
      all_goals
        refine KdAns.mk ?_ (fun _ => ⟨?_, ?_, ?_⟩) (blAlloc _ _)
        · have q1 := L1.out
          have q2 := L2.out
          have q3 := L3.out
          simp [stF, q1, q2, q3]
          try exact dz _
          try omega
        all_goals first | (intro e; rfl) | (intro e; simp at e; try omega)
  by_cases k2 : kd = 2
  · subst k2
    rcases Nat.eq_zero_or_pos n1 with h | h <;> by_cases hs : sd = 0
    all_goals
      (try subst hs)
      (try subst h)
      go_enter Try.func116, Try.ntmps116
      go_wp2
      all_goals go_ret2
      all_goals
        refine KdAns.mk ?_ (fun _ => ⟨?_, ?_, ?_⟩) (blAlloc _ _)
        · have q1 := L1.out
          have q2 := L2.out
          have q3 := L3.out
          simp [stF, q1, q2, q3]
          try exact dz _
          try omega
        all_goals first | (intro e; rfl) | (intro e; simp at e; try omega)
  by_cases k3 : kd = 3
  · subst k3
    rcases Nat.eq_zero_or_pos n1 with h | h <;> by_cases hs : sd = 0
    all_goals
      (try subst hs)
      (try subst h)
      go_enter Try.func116, Try.ntmps116
      go_wp2
      all_goals go_ret2
      all_goals
        refine KdAns.mk ?_ (fun _ => ⟨?_, ?_, ?_⟩) (blAlloc _ _)
        · have q1 := L1.out
          have q2 := L2.out
          have q3 := L3.out
          simp [stF, q1, q2, q3]
          try exact dz _
          try omega
        all_goals first | (intro e; rfl) | (intro e; simp at e; try omega)
  have e1 : (kd == 1) = false := by simpa using k1
  have e2 : (kd == 2) = false := by simpa using k2
  have e3 : (kd == 3) = false := by simpa using k3
  have HF : Hid (stF ⟨kd, cs, rs, sd, ns⟩ = false) := by show _ = _; unfold stF; rw [if_neg k1, if_neg k2, if_neg k3]
  by_cases hs : sd = 0
  all_goals
    (try subst hs)
    go_enter Try.func116, Try.ntmps116
    go_wp2
    go_ret2
    exact KdAns.mk HF.out (fun h => by cases h) (blAlloc _ _)
end Go.Proofs.Ytmmlcdbbjkligaa
