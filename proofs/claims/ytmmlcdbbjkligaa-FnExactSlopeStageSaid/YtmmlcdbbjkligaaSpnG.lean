/-
  The span of a grid: the program's SpanOf.
-/
import Derived.Test.YtmmlcdbbjkligaaSpnD
import Derived.Test.YtmmlcdbbjkligaaGrdW
import Derived.Deep.RegionHeld3
namespace Go.Proofs.Ytmmlcdbbjkligaa
open Go.RowKit Go.Maps
set_option linter.unusedVariables false
set_option linter.unusedSimpArgs false

/-- the node at place t. -/
theorem look_at {W : World} {B s : Nat} {rs : Rws} {D : DataW Unit} (hM : MapN W B s rs (s * s * s) D) {t : Nat} (ht : t < s * s * s) (hs : s = 2 ∨ s = 3 ∨ s = 4) :
    (Instr.lookup 147 (.map (some B)) (.agg #[.int .i64 ((cor s t 0 : Nat) : Int), .int .i64 ((cor s t 1 : Nat) : Int), .int .i64 ((cor s t 2 : Nat) : Int)]) false).run Try.prog W = .ok (.agg #[.int .i64 (rwf rs t 0), .int .i64 (rwf rs t 1), .int .i64 (rwf rs t 2)]) W := by
  have h0 := cor_lt hs ht (k := 0) (by omega)
  have h1 := cor_lt hs ht (k := 1) (by omega)
  have h2 := cor_lt hs ht (k := 2) (by omega)
  have hkey : keyOf Try.prog 141 (.agg #[.int .i64 ((cor s t 0 : Nat) : Int), .int .i64 ((cor s t 1 : Nat) : Int), .int .i64 ((cor s t 2 : Nat) : Int)]) = some (kt s t) := by
    rw [cor_kt]; exact kp_nat _ _ _ (by omega) (by omega) (by omega)
  obtain ⟨v, ps, hrun, hv⟩ := hM.own.lookup keyP Try.underlying147 (zeroLights W) (lightElem_mk 0 0 0) hkey
  rw [hrun]
  rw [hM.at_ _ ht] at hv
  obtain ⟨a, b, c, rfl, he⟩ := lightElem_form hv
  unfold rowDat at he
  simp only [DataW.agg.injEq, List.cons.injEq, DataW.lit.injEq, Lit.int.injEq, true_and, and_true] at he
  unfold rwf
  rw [he.1, he.2.1, he.2.2]
def nxt (s t k j : Nat) : Nat := if j = k then cor s t j + 1 else cor s t j
/-- is there a place behind? -/
theorem has_next {W : World} {B s : Nat} {rs : Rws} {D : DataW Unit} (hM : MapN W B s rs (s * s * s) D) {t k : Nat} (ht : t < s * s * s) (hk : k < 3) (hs : s = 2 ∨ s = 3 ∨ s = 4) :
    Maps.has D (kp ((nxt s t k 0 : Nat) : Int) ((nxt s t k 1 : Nat) : Int) ((nxt s t k 2 : Nat) : Int)) = decide (cor s t k + 1 < s) ∧
    (cor s t k + 1 < s → ∀ z a0 a1 a2, D.atKey (kp ((nxt s t k 0 : Nat) : Int) ((nxt s t k 1 : Nat) : Int) ((nxt s t k 2 : Nat) : Int)) z = .agg [.lit (.int .i64 a0), .lit (.int .i64 a1), .lit (.int .i64 a2)] → a0 = rwf rs (t + stq s k) 0 ∧ a1 = rwf rs (t + stq s k) 1 ∧ a2 = rwf rs (t + stq s k) 2) := by
  have c0 := cor_lt hs ht (k := 0) (by omega)
  have c1 := cor_lt hs ht (k := 1) (by omega)
  have c2 := cor_lt hs ht (k := 2) (by omega)
  have nb : ∀ j, j < 3 → nxt s t k j ≤ 1000 := fun j hj => by
    have := cor_lt hs ht hj
    unfold nxt; split <;> omega
  have W0 : (Lit.int .i64 ((nxt s t k 0 : Nat) : Int)).wf = true := wfN (nb 0 (by omega))
  have W1 : (Lit.int .i64 ((nxt s t k 1 : Nat) : Int)).wf = true := wfN (nb 1 (by omega))
  have W2 : (Lit.int .i64 ((nxt s t k 2 : Nat) : Int)).wf = true := wfN (nb 2 (by omega))
  by_cases hc : cor s t k + 1 < s
  · obtain ⟨h1, h2⟩ := cor_next hs ht hk hc
    have e : ∀ j, j < 3 → nxt s t k j = cor s (t + stq s k) j := fun j hj => (h2 j hj).symm
    have hkt : kp ((nxt s t k 0 : Nat) : Int) ((nxt s t k 1 : Nat) : Int) ((nxt s t k 2 : Nat) : Int) = kt s (t + stq s k) := by
      rw [cor_kt, e 0 (by omega), e 1 (by omega), e 2 (by omega)]
    refine ⟨?_, fun _ z a0 a1 a2 ha => ?_⟩
    · rw [decide_eq_true hc]
      exact (hM.has _ _ _ W0 W1 W2).2 ⟨t + stq s k, h1, by rw [e 0 (by omega)]; rfl, by rw [e 1 (by omega)]; rfl, by rw [e 2 (by omega)]; rfl⟩
    · rw [hkt, hM.at_ _ h1] at ha
      unfold rowDat at ha
      simp only [DataW.agg.injEq, List.cons.injEq, DataW.lit.injEq, Lit.int.injEq, true_and, and_true] at ha
      unfold rwf
      exact ⟨ha.1.symm, ha.2.1.symm, ha.2.2.symm⟩
  · refine ⟨?_, fun h => absurd h hc⟩
    rw [decide_eq_false hc]
    rcases Bool.eq_false_or_eq_true (Maps.has D (kp ((nxt s t k 0 : Nat) : Int) ((nxt s t k 1 : Nat) : Int) ((nxt s t k 2 : Nat) : Int))) with r | r
    · exfalso
      obtain ⟨u, u1, u2, u3, u4⟩ := (hM.has _ _ _ W0 W1 W2).1 r
      have d0 := cor_lt hs u1 (k := 0) (by omega)
      have d1 := cor_lt hs u1 (k := 1) (by omega)
      have d2 := cor_lt hs u1 (k := 2) (by omega)
      have e0 : cor s u 0 = nxt s t k 0 := Int.ofNat.inj u2
      have e1 : cor s u 1 = nxt s t k 1 := Int.ofNat.inj u3
      have e2 : cor s u 2 = nxt s t k 2 := Int.ofNat.inj u4
      have hkk : k = 0 ∨ k = 1 ∨ k = 2 := by omega
      rcases hkk with rfl | rfl | rfl <;> simp only [nxt, if_true] at e0 e1 e2 <;> omega
    · exact r
end Go.Proofs.Ytmmlcdbbjkligaa
