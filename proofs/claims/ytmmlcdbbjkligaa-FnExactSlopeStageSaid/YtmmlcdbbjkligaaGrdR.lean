/-
  A node of a grid by the reference model: l5Node, l1Ints, NodeOf.
-/
import Derived.Test.YtmmlcdbbjkligaaGrdQ
import Derived.Test.YtmmlcdbbjkligaaMatF
namespace Go.Proofs.Ytmmlcdbbjkligaa
open Go.RowKit
set_option linter.unusedVariables false

theorem add_at (b o j : Nat) : (⟨b, o, none⟩ : Addr).add j = ⟨b, o + j, none⟩ := by
  first
    | rfl
    | simp [Addr.add]
theorem heap_new (w : World) (o : Obj) : (w.alloc o).heap[w.heap.size]? = some o := by
  first
    | (show (w.heap.push o)[w.heap.size]? = some o; simp)
    | (unfold World.alloc; simp)
    | rfl
theorem OwnI.empty (w : World) (base : Nat) (hb : base ≤ w.heap.size) : OwnI (w.alloc (.cells #[] 2)) base (.slice (some ⟨w.heap.size, 0, none⟩) 0 0) 0 [] :=
  ⟨rfl, Or.inr ⟨w.heap.size, 0, #[], rfl, hb, heap_new _ _, Nat.le_refl _, Nat.zero_le _, rfl, rfl⟩⟩
/-- a whole list goes behind. -/
theorem wpList_append_list (w : World) {ops : Array Oper} {rest : List Oper} {o : Oper} {a : Act} {Q : Exit → Act → World → Prop} (hgd : o.guard = none) (s x : Operand)
    (ho : o.op = .call { callee := .builtin .append, args := #[s, x], argTypes := #[30, 30] })
    (base : Nat) (v : Value) (k : Nat) (ys : List Int) (hs : a.eval s = v) (hown : OwnI w base v k ys) (ad : Addr) (m c : Nat) (xs : List Int) (hx : a.eval x = .slice (some ad) m c) (hl : xs.length = m) (hcells : ∀ j, j < m → w.cell? (ad.add j) = some (.int .i64 (xs.getD j 0)))
    (hsm : k + m ≤ 1000000) (hbase : base ≤ w.heap.size)
    (h : ∀ v' w', OwnI w' base v' (k + m) (ys ++ xs) → w.grownBy w' v.ownBlock → (∀ g, v.ownBlock = some g → base ≤ g) → wpList Try.prog ops Q rest (a.put o.dst v') w') : wpList Try.prog ops Q (o :: rest) a w := by
  obtain ⟨i, hi, hz, hsz, hby⟩ := info_i64x
  refine wpList_append_own_at w hgd s x 30 ho base 2 i _ 1 8 Try.underlying30 hi hz hsz hby rfl (by omega) v k _ hs hown ad m c (ivals xs) hx (by simp [ivals, hl]) ?_ (ivals_one xs) (by unfold maxLen; omega) (by omega) hbase ?_
  · intro j u hj
    have hjl : j < m := by
      have := (List.getElem?_eq_some_iff.1 hj).1
      simpa [ivals, hl] using this
    rw [hcells j hjl]
    simp only [ivals, List.getElem?_map] at hj
    rw [List.getD, ← hj]
    obtain ⟨y, hy⟩ : ∃ y, xs[j]? = some y := ⟨xs[j]'(by omega), by simp⟩
    rw [hy]; rfl
  · intro v' w' a1 a2 _ a4
    exact h v' w' (by unfold OwnI; simpa [ivals] using a1) a2 (fun g hg => (World.ownsRow.lt hown g hg).1)
def SlAns (w : World) (n : Nat) (xs : List Int) (e : Ending) (w' : World) : Prop := ∃ B cp, e = .returned (.slice B n cp) ∧ Own w' (.ints .i64 xs) (.slice B n cp) w.heap.size w'.heap.size ∧ Below w.heap.size w w'
set_option maxHeartbeats 1000000 in
theorem sInts_any (b o n c : Nat) (xs : List Int) (w : World) (h : Rd .i64 w (some ⟨b, o, none⟩) n xs) (hn : 0 < n) (hsm : n ≤ 1000000) :
    Calls Try.prog 153 #[.slice (some ⟨b, o, none⟩) n c] w (SlAns w n xs) := by
  have H := Lib.hid h
  clear h
  go_enter Try.func153, Try.ntmps153
  go_wp2_with (at_builtin; refine wpList_append_list _ rfl _ _ rfl w.heap.size _ 0 [] rfl (OwnI.empty w _ (Nat.le_refl _)) ⟨b, o, none⟩ n c xs rfl H.out.1 (fun j hj => by
      obtain ⟨b', o', e, hx⟩ := (H.out.below (blAlloc w (.cells #[] 2))).2 hn
      injection e with e; injection e with e1 e2; subst e1; subst e2
      rw [add_at]; exact hx j hj) (by omega) (by simp) ?_; intro v3 w3 ho3 hg3 hgb)
  obtain ⟨A3, c3, rfl⟩ := ho3.form
  have HO := Lib.hid ho3
  have T := Lib.hid ((blAlloc w _).trans (gb_low' hg3 hgb (Nat.le_refl _) (by simp)))
  clear ho3 hg3 hgb
  go_wp2_with fail
  go_ret
  exact ⟨A3, c3, by simp, by have := HO.out.own; simpa using this, T.out⟩
def RowAns (w : World) (rs : Rws) (t : Nat) (e : Ending) (w' : World) : Prop := ∃ B L C gs m, e = .returned (.slice B L C) ∧ Hd w' (.ints .i64 (rw_ rs t)) (.slice B L C) gs ∧ w' = w.drewN m
set_option maxRecDepth 100000 in
set_option maxHeartbeats 2000000 in
theorem sNode5_any (g : Nat) (A : Option Addr) (n c : Nat) (sd : Int) (rs : Rws) (bs : List Nat) (b o d t : Nat) (p0 p1 p2 : Int) (w : World) (h : Hd w (rowsD rs) (.slice A n c) bs) (hg0 : w.cell? ⟨g, 0, none⟩ = some (.int .i64 sd)) (hg1 : w.cell? ⟨g, 1, none⟩ = some (.slice A n c))
    (x0 : w.cell? ⟨b, o, none⟩ = some (.int .i64 p0)) (x1 : w.cell? ⟨b, o + 1, none⟩ = some (.int .i64 p1)) (x2 : w.cell? ⟨b, o + 2, none⟩ = some (.int .i64 p2)) (ht : t < n) (he : (p0 * sd + p1) * sd + p2 = (t : Int)) (hs : sd = 2 ∨ sd = 3 ∨ sd = 4)
    (h0 : 0 ≤ p0 ∧ p0 ≤ 3) (h1 : 0 ≤ p1 ∧ p1 ≤ 3) (h2 : 0 ≤ p2 ∧ p2 ≤ 3) :
    Calls Try.prog 135 #[.pointer (some ⟨g, 0, none⟩), .slice (some ⟨b, o, none⟩) 3 d] w (RowAns w rs t) := by
  have q1 : -9223372036854775808 ≤ p0 * sd ∧ p0 * sd ≤ 9223372036854775807 := by rcases hs with rfl | rfl | rfl <;> omega
  have q2 : -9223372036854775808 ≤ p0 * sd + p1 ∧ p0 * sd + p1 ≤ 9223372036854775807 := by rcases hs with rfl | rfl | rfl <;> omega
  have q3 : -9223372036854775808 ≤ (p0 * sd + p1) * sd ∧ (p0 * sd + p1) * sd ≤ 9223372036854775807 := by rcases hs with rfl | rfl | rfl <;> omega
  obtain ⟨b', o', B1, L1, C1, g1, rfl, y1, y3, -⟩ := h.row ht
  have hn := h.rows.2
  have HY := Lib.hid y3
  have hL := HY.out.caps
  have hLm : n ≤ 9223372036854775807 := by have := hn.2.1; unfold maxLen at this; omega
  clear h y3 hn q1 q2 q3 hL
  rcases hs with rfl | rfl | rfl
  · go_enter Try.func135, Try.ntmps135
    go_wp2_with fail
    go_quiet (fail)
    go_wp2_with fail
    go_ret
    exact ⟨B1, L1, C1, g1, _, rfl, HY.out.bel (below_drewN _ _ _), rfl⟩
  · go_enter Try.func135, Try.ntmps135
    go_wp2_with fail
    go_quiet (fail)
    go_wp2_with fail
    go_ret
    exact ⟨B1, L1, C1, g1, _, rfl, HY.out.bel (below_drewN _ _ _), rfl⟩
  · go_enter Try.func135, Try.ntmps135
    go_wp2_with fail
    go_quiet (fail)
    go_wp2_with fail
    go_ret
    exact ⟨B1, L1, C1, g1, _, rfl, HY.out.bel (below_drewN _ _ _), rfl⟩
def F5 (W : World) (f : Int) (e : Ending) (w' : World) : Prop := e = .returned (.int .i64 f) ∧ ∃ m, w' = W.drewN m
theorem nls_len (sd : Int) (rs : Rws) (ps : List Int) : (nls sd rs ps).length ≤ 3 := by
  unfold nls
  split
  · rename_i h
    by_cases e : ndI sd ps < rs.length
    · exact Nat.le_of_eq (lf_zero ((gf_zero h.1).2.2 _ e)).1
    · have : rw_ rs (ndI sd ps) = [] := by simp [rw_, List.getD, Nat.le_of_not_lt e]
      rw [this]; simp
  · simp
end Go.Proofs.Ytmmlcdbbjkligaa
