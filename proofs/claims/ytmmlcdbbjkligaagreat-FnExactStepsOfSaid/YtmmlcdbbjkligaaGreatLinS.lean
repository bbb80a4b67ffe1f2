/-
  A grid that does nothing, by the reference model: l5Line, LineGrid.
-/
import Derived.Test.YtmmlcdbbjkligaaGreatLinG
import Derived.Deep.RegionLaw
namespace Go.Proofs.YtmmlcdbbjkligaaGreat
open Go.RowKit
set_option linter.unusedVariables false
set_option linter.unusedSimpArgs false

theorem run_append_rv (w : World) (ty : TypeId) (base : Nat) (v : Value) (n : Nat) (ys : List Value) (hown : OwnV w base v n ys) (q c : Nat) (y : Value) (hq : w.cell? ⟨q, 0, none⟩ = some y) (hy : y.oneCell' = true) (h63 : n ≤ 1000000) (hbase : base ≤ w.heap.size) :
    ∃ g' c' w', (Builtin.append_ #[23, 23] ty #[v, .slice (some ⟨q, 0, none⟩) 1 c]).run Tryz.prog w = .ok (.slice (some ⟨g', 0, none⟩) (n + 1) c') w' ∧ AppV w w' base v (n + 1) (ys ++ [y]) g' c' := by
  obtain ⟨i, hi, hz, hs, hb⟩ := info_rvx
  obtain ⟨v', w', h1, h2, h3, _, h5⟩ := run_append_own_at (P := Tryz.prog) w base 23 ty 30 i (.slice none 0 0) 1 24 Tryz.underlying23 hi hz hs hb rfl (by omega) v n ys hown ⟨q, 0, none⟩ 1 c [y] rfl (by
      intro j u hj
      match j, hj with
      | 0, hj => obtain rfl := Option.some.inj hj; exact hq) (by
      intro u hu
      simp only [List.mem_cons, List.not_mem_nil, or_false] at hu
      subst hu; exact hy) (by unfold maxLen; omega) (by omega) hbase
  obtain ⟨g', c', hv, -, -⟩ := World.ownsRow.form h2 (by omega)
  subst hv
  refine ⟨g', c', w', h1, h2, h3, ?_⟩
  rcases h5 with h5 | h5
  · exact .inl h5.symm
  · exact .inr (by injection h5)
/-- the same in a drawn region. -/
theorem step_append_rsl (w : World) {ops : Array Oper} {op : Oper} {a : Act} {K : Act → World → Prop} {Q : Exit → Act → World → Prop} {E : Prop} (hgd : op.guard = none) (s x : Operand)
    (ho : op.op = .call { callee := .builtin .append, args := #[s, x], argTypes := #[23, 23] })
    (w0 : World) (t : TypeId) (base : Nat) (v : Value) (n : Nat) (rs : Rws) (xs : List Int) (y : Value) (lo : Nat) (hs : a.eval s = v) (hw : w = w0.alloc (.cells #[y] t)) (q : Nat) (hx : a.eval x = .slice (some ⟨q, 0, none⟩) 1 1) (hq : q = w0.heap.size)
    (W1 : World) (hW : Below W1.heap.size W1 w0) (h : RsL W1 base v n rs) (hr : Own w0 (.ints .i64 xs) y lo w0.heap.size) (hlo : W1.heap.size ≤ lo) (hlw : lo ≤ w0.heap.size) (hy : y.oneCell' = true) (h63 : n ≤ 1000000)
    (H : ∀ g' c' w', RsL w' base (.slice (some ⟨g', 0, none⟩) (n + 1) c') (n + 1) (rs ++ [xs]) → Below base w w' → K (a.put op.dst (.slice (some ⟨g', 0, none⟩) (n + 1) c')) w') : if Region.wanted op (yielded ops a.tmps) = true then Oper.wp Tryz.prog op a w K Q else E := by
  have hwn : Region.wanted op (yielded ops a.tmps) = true := by simp [Region.wanted, hgd]
  rw [if_pos hwn]
  subst hw hq
  obtain ⟨V, lo1, hi1, h⟩ := h
  have h0 := h.bel hW
  have hb : base ≤ w0.heap.size := by have := h0.bl; have := h0.ll; omega
  obtain ⟨g', c', w', hr', ha⟩ := run_append_rv (w0.alloc (.cells #[y] t)) op.type base v n _ (h0.below (blAlloc _ _)).own w0.heap.size 1 y (by simp) hy h63 (by simp; omega)
  unfold Oper.wp execOp
  simp only [ho, resolve, invoke, builtin, Sem.run_bind, Sem.run_pure, Result.andThen_ok, List.map_toArray, List.map_cons, List.map_nil, hs, hx, hr']
  refine H g' c' w' ⟨_, _, _, h0.next hr hlo hlw (Nat.le_refl _) ha⟩ ?_
  exact gb_low' ha.gb (fun g q => (World.ownsRow.lt h0.own g q).1) (Nat.le_refl _) (by simp; omega)
theorem bel1' {w W : World} {c : Nat} (h : Below w.heap.size w W) (hc : w.heap.size ≤ c) (i : Nat) (v : Value) : Below w.heap.size w (W.setCell ⟨c, i, none⟩ v) := h.setCell (p := ⟨c, i, none⟩) hc v
theorem Bx.low' {w w' : World} {b lim : Nat} {l : List Value} (h : Bx w b l) (hb : Below lim w w') (hl : b < lim) : Bx w' b l :=
  ⟨Nat.lt_of_lt_of_le h.lt hb.size, fun j => by rw [hb.frozen (p := ⟨b, j, none⟩) hl]; exact h.th j, fun j v e => by rw [hb.cell (p := ⟨b, j, none⟩) hl]; exact h.at_ j v e⟩
/-- the rows, and the box that holds them. -/
structure LsS (w W : World) (s k : Nat) (v : Value) : Prop where
  box : Bx W (w.heap.size + 1) [.int .i64 (s : Int), v]
  res : Bx W w.heap.size [.int .i64 0, .slice none 0 0]
  rows : RsL W (w.heap.size + 2) v k (lgRs s k)
  b : Below w.heap.size w W
theorem lgRow_eq {s a b c : Nat} (hs : s = 2 ∨ s = 3 ∨ s = 4) (ha : a < s) (hb : b < s) (hc : c < s) : lgRow s (a * (s * s) + b * s + c) = [lgV s a, lgV s b, lgV s c] := by
  obtain ⟨h1, h2, h3⟩ := place_eq hs ha hb hc
  unfold lgRow; rw [h1, h2, h3]
end Go.Proofs.YtmmlcdbbjkligaaGreat
