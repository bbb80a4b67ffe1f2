/-
  Lists of int64 that a call makes by append (OwnI, nil among them): at one element that goes behind, alone or in a drawn region.
-/
import Derived.Test.YtmmlcdbbjkligaaHelpI
import Derived.Maps.AppendAt
import Derived.Deep.RegionLaw
import Derived.Deep.AppendLies
namespace Go.Proofs.Ytmmlcdbbjkligaa
open Go.RowKit
set_option linter.unusedVariables false

def ivals (ys : List Int) : List Value := ys.map (Value.int .i64)
theorem ivals_one (ys : List Int) : ∀ u ∈ ivals ys, u.oneCell' = true := by
  intro u hu
  simp only [ivals, List.mem_map] at hu
  obtain ⟨x, _, rfl⟩ := hu
  rfl
/-- a list of int64 of the call's own. -/
def OwnI (w : World) (base : Nat) (v : Value) (n : Nat) (ys : List Int) : Prop := w.ownsRow base 2 1 v n (ivals ys)
theorem OwnI.nil (w : World) (base : Nat) : OwnI w base (.slice none 0 0) 0 [] := World.ownsRow_nil w base _ _
theorem OwnI.len {w : World} {base n : Nat} {v : Value} {ys : List Int} (h : OwnI w base v n ys) : ys.length = n := by have := h.1; simpa [ivals] using this
theorem OwnI.form {w : World} {base n : Nat} {v : Value} {ys : List Int} (h : OwnI w base v n ys) : ∃ A c, v = .slice A n c := by
  rcases h.2 with ⟨rfl, rfl⟩ | ⟨g, cap, cur, rfl, _⟩
  · exact ⟨_, _, rfl⟩
  · exact ⟨_, _, rfl⟩
theorem OwnI.ch {w w' : World} {base n : Nat} {v : Value} {ys : List Int} (h : OwnI w base v n ys) {q : Option Nat} (hc : w.grownBy w' q) (hq : ∀ b, q = some b → b < base) : OwnI w' base v n ys := by
  refine World.ownsRow.kept h hc ?_
  cases hv : v.ownBlock with
  | none => exact .inl rfl
  | some g => exact .inr (fun e => by have := hq g e.symm; have := (World.ownsRow.lt h g hv).1; omega)
theorem OwnI.below {w w' : World} {base n : Nat} {v : Value} {ys : List Int} (h : OwnI w base v n ys) (hb : Below w.heap.size w w') : OwnI w' base v n ys :=
  h.ch (q := none) ⟨hb.os, hb.tape, hb.output, hb.size, fun k hk _ => hb.block k hk⟩ (fun b e => by cases e)
theorem OwnI.alloc {w : World} {base n : Nat} {v : Value} {ys : List Int} (h : OwnI w base v n ys) (o : Obj) : OwnI (w.alloc o) base v n ys := h.below (blAlloc _ _)
theorem OwnI.drewN {w : World} {base n : Nat} {v : Value} {ys : List Int} (h : OwnI w base v n ys) (m : Nat) : OwnI (w.drewN m) base v n ys := h.below (below_drewN _ _ _)
theorem OwnI.set {w : World} {base n : Nat} {v : Value} {ys : List Int} (h : OwnI w base v n ys) {b : Nat} (hb : b < base) (i : Nat) (x : Value) : OwnI (w.setCell ⟨b, i, none⟩ x) base v n ys :=
  h.ch (q := some b) ⟨rfl, rfl, rfl, by simp [World.setCell], fun k _ hn => Below.heap_setCell _ _ _ _ (fun e => hn (by rw [e]))⟩ (fun c e => by injection e with e; omega)
theorem OwnI.own {w : World} {base n : Nat} {v : Value} {ys : List Int} (h : OwnI w base v n ys) : Own w (.ints .i64 ys) v base w.heap.size := by
  have hl := h.len
  have h' := h
  rcases h.2 with ⟨rfl, rfl⟩ | ⟨g, cap, cur, rfl, b1, b2, b3, b4, b5, b6⟩
  · obtain rfl : ys = [] := List.eq_nil_of_length_eq_zero hl
    exact Own.nil _ _ _ _ _ _ (Nat.zero_le _)
  · have hgt : g < w.heap.size := (World.ownsRow.lt h g rfl).2
    have hr : Rd .i64 w (some ⟨g, 0, none⟩) n ys := by
      refine ⟨hl, fun _ => ⟨g, 0, rfl, fun i hi => ?_⟩⟩
      have := World.ownsRow.cellAt h' i (by omega)
      rw [Nat.zero_add, this]
      simp [ivals, hl, hi]
    obtain ⟨bs, a, b, c⟩ := Hd.of_rd (c := cap) hr b3 b4
    refine ⟨bs, a, b, fun x hx => ?_⟩
    obtain ⟨_, o, e⟩ := c x hx
    obtain rfl : g = x := by injection e with e; injection e
    exact ⟨b1, hgt, fun i => by simp [World.frozen?, b2]⟩
theorem info_i64x : ∃ i, Try.prog.info? 2 = some i ∧ i.zero = some (.int .i64 0) ∧ i.size = 1 ∧ i.bytes = 8 := by
  obtain ⟨i, hi, h⟩ := Option.map_eq_some_iff.1 info_i64
  simp only [Prod.mk.injEq] at h
  exact ⟨i, hi, h.1, h.2.1, h.2.2⟩
theorem run_append_i64 (w : World) (ty : TypeId) (base : Nat) (v : Value) (n : Nat) (ys : List Int) (hown : OwnI w base v n ys) (q c : Nat) (x : Int) (hq : w.cell? ⟨q, 0, none⟩ = some (.int .i64 x)) (h63 : n ≤ 1000000000000) (hbase : base ≤ w.heap.size) :
    ∃ v' w', (Builtin.append_ #[30, 30] ty #[v, .slice (some ⟨q, 0, none⟩) 1 c]).run Try.prog w = .ok v' w' ∧ OwnI w' base v' (n + 1) (ys ++ [x]) ∧ w.grownBy w' v.ownBlock ∧ (v'.ownBlock = v.ownBlock ∨ v'.ownBlock = some w.heap.size) := by
  obtain ⟨i, hi, hz, hs, hb⟩ := info_i64x
  obtain ⟨v', w', h1, h2, h3, _, h5⟩ := run_append_own_at (P := Try.prog) w base 30 ty 2 i (.int .i64 0) 1 8 Try.underlying30 hi hz hs hb rfl (by omega) v n (ivals ys) hown ⟨q, 0, none⟩ 1 c [.int .i64 x] rfl (by
      intro j u hj
      match j, hj with
      | 0, hj => obtain rfl := Option.some.inj hj; exact hq) (by
      intro u hu
      simp only [List.mem_cons, List.not_mem_nil, or_false] at hu
      subst hu; rfl) (by unfold maxLen; omega) (by omega) hbase
  exact ⟨v', w', h1, by unfold OwnI; simpa [ivals] using h2, h3, h5⟩
/-- one goes behind, in a plain region. -/
theorem wpList_append_i64 (w : World) {ops : Array Oper} {rest : List Oper} {o : Oper} {a : Act} {Q : Exit → Act → World → Prop} (hgd : o.guard = none) (s x : Operand)
    (ho : o.op = .call { callee := .builtin .append, args := #[s, x], argTypes := #[30, 30] })
    (base : Nat) (v : Value) (n : Nat) (ys : List Int) (hs : a.eval s = v) (hown : OwnI w base v n ys) (q c : Nat) (y : Int) (hx : a.eval x = .slice (some ⟨q, 0, none⟩) 1 c) (hq : w.cell? ⟨q, 0, none⟩ = some (.int .i64 y))
    (h63 : n ≤ 1000000000000) (hbase : base ≤ w.heap.size)
    (h : ∀ v' w', OwnI w' base v' (n + 1) (ys ++ [y]) → w.grownBy w' v.ownBlock → (∀ g, v.ownBlock = some g → base ≤ g) → wpList Try.prog ops Q rest (a.put o.dst v') w') : wpList Try.prog ops Q (o :: rest) a w := by
  refine wpList_plain hgd fun K hK => ?_
  obtain ⟨v', w', hr', h2, h3, _⟩ := run_append_i64 w o.type base v n ys hown q c y hq h63 hbase
  unfold Oper.wp execOp
  simp only [ho, resolve, invoke, builtin, Sem.run_bind, Sem.run_pure, Result.andThen_ok, List.map_toArray, List.map_cons, List.map_nil, hs, hx, hr']
  exact hK _ _ (h v' w' h2 h3 (fun g hg => (World.ownsRow.lt hown g hg).1))
/-- one goes behind, in a drawn region. -/
theorem step_append_i64 (w : World) {ops : Array Oper} {op : Oper} {a : Act} {K : Act → World → Prop} {Q : Exit → Act → World → Prop} {E : Prop} (hgd : op.guard = none) (s x : Operand)
    (ho : op.op = .call { callee := .builtin .append, args := #[s, x], argTypes := #[30, 30] })
    (base : Nat) (v : Value) (n : Nat) (ys : List Int) (hs : a.eval s = v) (hown : OwnI w base v n ys) (q c : Nat) (y : Int) (hx : a.eval x = .slice (some ⟨q, 0, none⟩) 1 c) (hq : w.cell? ⟨q, 0, none⟩ = some (.int .i64 y))
    (h63 : n ≤ 1000000000000) (hbase : base ≤ w.heap.size)
    (h : ∀ v' w', OwnI w' base v' (n + 1) (ys ++ [y]) → w.grownBy w' v.ownBlock → (∀ g, v.ownBlock = some g → base ≤ g) → K (a.put op.dst v') w') : if Region.wanted op (yielded ops a.tmps) = true then Oper.wp Try.prog op a w K Q else E := by
  have hw : Region.wanted op (yielded ops a.tmps) = true := by simp [Region.wanted, hgd]
  rw [if_pos hw]
  obtain ⟨v', w', hr', h2, h3, _⟩ := run_append_i64 w op.type base v n ys hown q c y hq h63 hbase
  unfold Oper.wp execOp
  simp only [ho, resolve, invoke, builtin, Sem.run_bind, Sem.run_pure, Result.andThen_ok, List.map_toArray, List.map_cons, List.map_nil, hs, hx, hr']
  exact h v' w' h2 h3 (fun g hg => (World.ownsRow.lt hown g hg).1)
/-- cells of another block, behind an append. -/
theorem gb_keep {w w' : World} {v : Value} {base b : Nat} (hg : w.grownBy w' v.ownBlock) (hv : ∀ g, v.ownBlock = some g → base ≤ g) (hb : b < base) (hl : b < w.heap.size) : (∀ i, w'.cell? ⟨b, i, none⟩ = w.cell? ⟨b, i, none⟩) ∧ (∀ i, w'.frozen? ⟨b, i, none⟩ = w.frozen? ⟨b, i, none⟩) := by
  have hk := hg.block b hl (fun e => by have := hv b e.symm; omega)
  exact ⟨fun i => World.cell?_of_block hk, fun i => World.frozen?_of_block hk⟩
theorem gb_low' {w w' : World} {v : Value} {base B : Nat} (hg : w.grownBy w' v.ownBlock) (hv : ∀ g, v.ownBlock = some g → base ≤ g) (hB : B ≤ base) (hs : B ≤ w.heap.size) : Below B w w' :=
  ⟨hg.os, hg.tape, hg.output, hg.size, fun i hi => hg.block i (by omega) (fun e => by have := hv i e.symm; omega)⟩
theorem new_cell (w : World) (x : Value) (t : TypeId) : (w.alloc (.cells #[x] t)).cell? ⟨w.heap.size, 0, none⟩ = some x := by simp
/-- a list that was made, and filled. -/
theorem fill_own {W0 wr : World} {N : Nat} {xs : List Int} (hl : xs.length = N) (hN : N ≤ 1000000000000) (hcell : ∀ t, t < N → wr.cell? ⟨W0.heap.size, t, none⟩ = some (.int .i64 (xs.getD t 0))) (honly : Ch (W0.alloc (.cells (madeCells #[.int .i64 0] N) 2)) wr (· = W0.heap.size)) :
    Own wr (.ints .i64 xs) (.slice (some ⟨W0.heap.size, 0, none⟩) N N) W0.heap.size wr.heap.size := by
  have hsz := honly.size
  simp at hsz
  obtain ⟨bs, h1, h2, h3⟩ := Hd.of_rd (c := N) (k := .i64) (xs := xs) (w := wr) (A := some ⟨W0.heap.size, 0, none⟩) (n := N) ⟨hl, fun _ => ⟨W0.heap.size, 0, rfl, fun i hi => by
    have := hcell i hi
    simpa using this⟩⟩ (Nat.le_refl _) (by unfold maxLen; omega)
  refine ⟨bs, h1, h2, fun b hb => ?_⟩
  obtain ⟨_, o, e⟩ := h3 b hb
  injection e with e
  injection e with e1 e2
  subst e1
  exact ⟨Nat.le_refl _, by omega, fun i => by rw [honly.frozen _ _ (by simp)]; simp⟩
end Go.Proofs.Ytmmlcdbbjkligaa
