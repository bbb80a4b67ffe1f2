/-
  A row of colours that grows (OwnL): lights behind one another in memory of the call's own.
-/
import Derived.Test.YtmmlcdbbjkligaaGrdCo
import Derived.Test.YtmmlcdbbjkligaaGrow
import Derived.Maps.AppendAt
import Derived.Deep.RegionLaw
namespace Go.Proofs.Ytmmlcdbbjkligaa
open Go.RowKit
set_option linter.unusedVariables false
set_option linter.unusedSimpArgs false

def fvals (f : Nat → Nat → Int) (n : Nat) : List Value := (List.range n).flatMap (fun t => rv (f t))
theorem fvals_succ (f : Nat → Nat → Int) (n : Nat) : fvals f (n + 1) = fvals f n ++ rv (f n) := by unfold fvals; rw [List.range_succ, List.flatMap_append]; simp
theorem fvals_len (f : Nat → Nat → Int) (n : Nat) : (fvals f n).length = n * 3 := by
  induction n with
  | zero => rfl
  | succ n ih => rw [fvals_succ, List.length_append, ih]; simp [rv]; omega
theorem fvals_at (f : Nat → Nat → Int) : ∀ n i, i < n → ∀ j, j < 3 → (fvals f n)[i * 3 + j]? = (rv (f i))[j]? := by
  intro n
  induction n with
  | zero => intro i hi; omega
  | succ n ih =>
    intro i hi j hj
    rw [fvals_succ]
    have hl := fvals_len f n
    by_cases e : i < n
    · rw [List.getElem?_append_left (by omega)]
      exact ih i e j hj
    · obtain rfl : i = n := by omega
      rw [List.getElem?_append_right (by omega), hl]
      congr 1
      omega
/-- the colours f 0 .. f (n - 1), in a row of the call's own. -/
def OwnL (w : World) (base : Nat) (v : Value) (n : Nat) (f : Nat → Nat → Int) : Prop := w.ownsRow base 137 3 v n (fvals f n)
theorem OwnL.below {w w' : World} {base n : Nat} {f : Nat → Nat → Int} {v : Value} (h : OwnL w base v n f) (hb : Below w.heap.size w w') : OwnL w' base v n f := by
  refine World.ownsRow.kept h (row := none) ⟨hb.os, hb.tape, hb.output, hb.size, fun k hk _ => hb.block k hk⟩ ?_
  cases hv : v.ownBlock with
  | none => exact .inl rfl
  | some g => exact .inr (fun e => by cases e)
theorem OwnL.ext {w : World} {base n : Nat} {f f' : Nat → Nat → Int} {v : Value} (h : OwnL w base v n f) (e : ∀ t, t < n → ∀ j, j < 3 → f t j = f' t j) : OwnL w base v n f' := by
  have : fvals f n = fvals f' n := by
    clear h
    induction n with
    | zero => rfl
    | succ n ih =>
      rw [fvals_succ, fvals_succ, ih (fun t ht => e t (by omega))]
      unfold rv
      rw [e n (by omega) 0 (by omega), e n (by omega) 1 (by omega), e n (by omega) 2 (by omega)]
  unfold OwnL
  rw [← this]
  exact h
theorem OwnL.lit (w : World) (f : Nat → Nat → Int) {base : Nat} (hb : base ≤ w.heap.size) : OwnL (w.alloc (.cells #[.int .i64 (f 0 0), .int .i64 (f 0 1), .int .i64 (f 0 2)] 137)) base (.slice (some ⟨w.heap.size, 0, none⟩) 1 1) 1 f := by
  have := World.ownsRow_lit (base := base) (e := 137) (size := 3) w #[.int .i64 (f 0 0), .int .i64 (f 0 1), .int .i64 (f 0 2)] 1 hb (by unfold maxLen; omega) rfl
  exact this
/-- what lies there. -/
theorem OwnL.look {w : World} {base n : Nat} {f : Nat → Nat → Int} {v : Value} (h : OwnL w base v n f) (hn : 0 < n) : ∃ g c, v = .slice (some ⟨g, 0, none⟩) n c ∧ base ≤ g ∧ g < w.heap.size ∧ n ≤ c ∧ c ≤ maxLen ∧
    ∀ k, k < n → ∀ j, j < 3 → w.cell? ⟨g, k * 3 + j, none⟩ = some (.int .i64 (f k j)) := by
  have h' := h
  rcases h.2 with ⟨rfl, rfl⟩ | ⟨g, cap, cur, rfl, b1, b2, b3, b4, b5, b6⟩
  · omega
  · have hgt : g < w.heap.size := (World.ownsRow.lt h g rfl).2
    refine ⟨g, cap, rfl, b1, hgt, b3, b4, fun k hk j hj => ?_⟩
    have hl := fvals_len f n
    have := World.ownsRow.cellAt h' (k * 3 + j) (by omega)
    rw [this, fvals_at f n k hk j hj]
    match j, hj with
    | 0, _ => rfl
    | 1, _ => rfl
    | 2, _ => rfl
theorem info_light : (Try.prog.info? 137).map (fun i => (i.zero, i.size, i.bytes)) = some (some (.agg #[.int .i64 0, .int .i64 0, .int .i64 0]), 3, 24) := by kernel_rfl
theorem info_lightx : ∃ i, Try.prog.info? 137 = some i ∧ i.zero = some (.agg #[.int .i64 0, .int .i64 0, .int .i64 0]) ∧ i.size = 3 ∧ i.bytes = 24 := by
  obtain ⟨i, hi, h⟩ := Option.map_eq_some_iff.1 info_light
  simp only [Prod.mk.injEq] at h
  exact ⟨i, hi, h.1, h.2.1, h.2.2⟩
theorem run_append_light (w : World) (ty : TypeId) (base : Nat) (v : Value) (n : Nat) (f : Nat → Nat → Int) (hown : OwnL w base v n f) (q c : Nat) (hq : ∀ j, j < 3 → w.cell? ⟨q, j, none⟩ = some (.int .i64 (f n j))) (h63 : n ≤ 1000000) (hbase : base ≤ w.heap.size) :
    ∃ v' w', (Builtin.append_ #[176, 176] ty #[v, .slice (some ⟨q, 0, none⟩) 1 c]).run Try.prog w = .ok v' w' ∧ OwnL w' base v' (n + 1) f ∧ w.grownBy w' v.ownBlock ∧ (∀ g, v.ownBlock = some g → base ≤ g) := by
  obtain ⟨i, hi, hz, hs, hb⟩ := info_lightx
  obtain ⟨v', w', h1, h2, h3, _, _⟩ := run_append_own_at (P := Try.prog) w base 176 ty 137 i (.agg #[.int .i64 0, .int .i64 0, .int .i64 0]) 3 24 Try.underlying176 hi hz hs hb rfl (by omega) v n _ hown ⟨q, 0, none⟩ 1 c (rv (f n)) rfl (by
      intro j u hj
      have := fun (j : Nat) (hj : j < 3) => hq j hj
      match j, hj with
      | 0, hj => obtain rfl := Option.some.inj hj; exact this 0 (by omega)
      | 1, hj => obtain rfl := Option.some.inj hj; exact this 1 (by omega)
      | 2, hj => obtain rfl := Option.some.inj hj; exact this 2 (by omega)
      | _ + 3, hj => cases hj) (by
      intro u hu
      simp only [rv, List.mem_cons, List.not_mem_nil, or_false] at hu
      rcases hu with rfl | rfl | rfl <;> rfl) (by unfold maxLen; omega) (by omega) hbase
  exact ⟨v', w', h1, by unfold OwnL; rw [fvals_succ]; exact h2, h3, fun g hg => (World.ownsRow.lt hown g hg).1⟩
/-- an append to the row in a drawn region. -/
theorem step_append_light (w : World) {ops : Array Oper} {op : Oper} {a : Act} {K : Act → World → Prop} {Q : Exit → Act → World → Prop} {E : Prop} (hgd : op.guard = none) (s x : Operand)
    (ho : op.op = .call { callee := .builtin .append, args := #[s, x], argTypes := #[176, 176] })
    (base : Nat) (v : Value) (n : Nat) (f : Nat → Nat → Int) (hs : a.eval s = v) (hown : OwnL w base v n f) (q c : Nat) (hx : a.eval x = .slice (some ⟨q, 0, none⟩) 1 c) (hq : ∀ j, j < 3 → w.cell? ⟨q, j, none⟩ = some (.int .i64 (f n j))) (h63 : n ≤ 1000000) (hbase : base ≤ w.heap.size)
    (H : ∀ v' w', OwnL w' base v' (n + 1) f → Below base w w' → K (a.put op.dst v') w') : if Region.wanted op (yielded ops a.tmps) = true then Oper.wp Try.prog op a w K Q else E := by
  have hwn : Region.wanted op (yielded ops a.tmps) = true := by simp [Region.wanted, hgd]
  rw [if_pos hwn]
  obtain ⟨v', w', hr', ha, hg, hgb⟩ := run_append_light w op.type base v n f hown q c hq h63 hbase
  unfold Oper.wp execOp
  simp only [ho, resolve, invoke, builtin, Sem.run_bind, Sem.run_pure, Result.andThen_ok, List.map_toArray, List.map_cons, List.map_nil, hs, hx, hr']
  exact H v' w' ha (gb_low' hg hgb (Nat.le_refl _) hbase)
end Go.Proofs.Ytmmlcdbbjkligaa
