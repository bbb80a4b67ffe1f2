/-
  A node of a grid by the reference model: l5Node, l1Ints, NodeOf.
  The cell and the rest of a level: the program's cellOfNumber, the model's l5Cell, l7FineCell.
  Evaluating a grid, plain mathematics: the axes by their rests (ax), the places on the way (pl), what is left (lft), the sums (sm).
  Evaluating a grid by levels or fine numbers, plain mathematics: what is left (lftT), the sums (smT), what a grid tells (gvo).
-/
import Derived.Test.YtlfdpambbgddoaaGrdNA
import Derived.Test.YtlfdpambbgddoaaMatEF
import Derived.Test.YtlfdpambbgddoaaNumA
namespace Go.Proofs.Ytlfdpambbgddoaa
open Go.RowKit
set_option linter.unusedVariables false

theorem add_at (b o j : Nat) : (⟨b, o, none⟩ : Addr).add j = ⟨b, o + j, none⟩ := by
  first
    | rfl
    | simp [Addr.add]
theorem heap_new (w : World) (o : Obj) : (w.alloc o).heap[w.heap.size]? = some o := by
  first
    | (show (w.heap.push o)[w.heap.size]? = some o; simp)
    | (unfold World.alloc; simp)
    | rfl
theorem OwnI.empty (w : World) (base : Nat) (hb : base ≤ w.heap.size) : OwnI (w.alloc (.cells #[] 2)) base (.slice (some ⟨w.heap.size, 0, none⟩) 0 0) 0 [] :=
  ⟨rfl, Or.inr ⟨w.heap.size, 0, #[], rfl, hb, heap_new _ _, Nat.le_refl _, Nat.zero_le _, rfl, rfl⟩⟩
/-- a whole list goes behind. -/
theorem wpList_append_list (w : World) {ops : Array Oper} {rest : List Oper} {o : Oper} {a : Act} {Q : Exit → Act → World → Prop} (hgd : o.guard = none) (s x : Operand)
    (ho : o.op = .call { callee := .builtin .append, args := #[s, x], argTypes := #[40, 40] })
    (base : Nat) (v : Value) (k : Nat) (ys : List Int) (hs : a.eval s = v) (hown : OwnI w base v k ys) (ad : Addr) (m c : Nat) (xs : List Int) (hx : a.eval x = .slice (some ad) m c) (hl : xs.length = m) (hcells : ∀ j, j < m → w.cell? (ad.add j) = some (.int .i64 (xs.getD j 0)))
    (hsm : k + m ≤ 1000000) (hbase : base ≤ w.heap.size)
    (h : ∀ v' w', OwnI w' base v' (k + m) (ys ++ xs) → w.grownBy w' v.ownBlock → (∀ g, v.ownBlock = some g → base ≤ g) → wpList Try.prog ops Q rest (a.put o.dst v') w') : wpList Try.prog ops Q (o :: rest) a w := by
  obtain ⟨i, hi, hz, hsz, hby⟩ := info_i64x
  refine wpList_append_own_at w hgd s x 40 ho base 2 i _ 1 8 Try.underlying40 hi hz hsz hby rfl (by omega) v k _ hs hown ad m c (ivals xs) hx (by simp [ivals, hl]) ?_ (ivals_one xs) (by unfold maxLen; omega) (by omega) hbase ?_
  · intro j u hj
    have hjl : j < m := by
      have := (List.getElem?_eq_some_iff.1 hj).1
      simpa [ivals, hl] using this
    rw [hcells j hjl]
    simp only [ivals, List.getElem?_map] at hj
    rw [List.getD, ← hj]
    obtain ⟨y, hy⟩ : ∃ y, xs[j]? = some y := ⟨xs[j]'(by omega), by simp⟩
    rw [hy]; rfl
  · intro v' w' a1 a2 _ a4
    exact h v' w' (by unfold OwnI; simpa [ivals] using a1) a2 (fun g hg => (World.ownsRow.lt hown g hg).1)
def SlAns (w : World) (n : Nat) (xs : List Int) (e : Ending) (w' : World) : Prop := ∃ B cp, e = .returned (.slice B n cp) ∧ Own w' (.ints .i64 xs) (.slice B n cp) w.heap.size w'.heap.size ∧ Below w.heap.size w w'
def RowAns (w : World) (rs : Rws) (t : Nat) (e : Ending) (w' : World) : Prop := ∃ B L C gs m, e = .returned (.slice B L C) ∧ Hd w' (.ints .i64 (rw_ rs t)) (.slice B L C) gs ∧ w' = w.drewN m
set_option maxRecDepth 100000 in
set_option maxHeartbeats 2000000 in
theorem sNode5_any (g : Nat) (A : Option Addr) (n c : Nat) (sd : Int) (rs : Rws) (bs : List Nat) (b o d t : Nat) (p0 p1 p2 : Int) (w : World) (h : Hd w (rowsD rs) (.slice A n c) bs) (hg0 : w.cell? ⟨g, 0, none⟩ = some (.int .i64 sd)) (hg1 : w.cell? ⟨g, 1, none⟩ = some (.slice A n c))
    (x0 : w.cell? ⟨b, o, none⟩ = some (.int .i64 p0)) (x1 : w.cell? ⟨b, o + 1, none⟩ = some (.int .i64 p1)) (x2 : w.cell? ⟨b, o + 2, none⟩ = some (.int .i64 p2)) (ht : t < n) (he : (p0 * sd + p1) * sd + p2 = (t : Int)) (hs : sd = 2 ∨ sd = 3 ∨ sd = 4)
    (h0 : 0 ≤ p0 ∧ p0 ≤ 3) (h1 : 0 ≤ p1 ∧ p1 ≤ 3) (h2 : 0 ≤ p2 ∧ p2 ≤ 3) :
    Calls Try.prog 106 #[.pointer (some ⟨g, 0, none⟩), .slice (some ⟨b, o, none⟩) 3 d] w (RowAns w rs t) := by
  have q1 : -9223372036854775808 ≤ p0 * sd ∧ p0 * sd ≤ 9223372036854775807 := by rcases hs with rfl | rfl | rfl <;> omega
  have q2 : -9223372036854775808 ≤ p0 * sd + p1 ∧ p0 * sd + p1 ≤ 9223372036854775807 := by rcases hs with rfl | rfl | rfl <;> omega
  have q3 : -9223372036854775808 ≤ (p0 * sd + p1) * sd ∧ (p0 * sd + p1) * sd ≤ 9223372036854775807 := by rcases hs with rfl | rfl | rfl <;> omega
  obtain ⟨b', o', B1, L1, C1, g1, rfl, y1, y3, -⟩ := h.row ht
  have hn := h.rows.2
  have HY := Lib.hid y3
  have hL := HY.out.caps
  have hLm : n ≤ 9223372036854775807 := by have := hn.2.1; unfold maxLen at this; omega
  clear h y3 hn q1 q2 q3 hL
  rcases hs with rfl | rfl | rfl
  · go_enter Try.func106, Try.ntmps106
    go_wp2_with fail
    go_quiet (fail)
    go_wp2_with fail
    go_ret
    exact ⟨B1, L1, C1, g1, _, rfl, HY.out.bel (below_drewN _ _ _), rfl⟩
  · go_enter Try.func106, Try.ntmps106
    go_wp2_with fail
    go_quiet (fail)
    go_wp2_with fail
    go_ret
    exact ⟨B1, L1, C1, g1, _, rfl, HY.out.bel (below_drewN _ _ _), rfl⟩
  · go_enter Try.func106, Try.ntmps106
    go_wp2_with fail
    go_quiet (fail)
    go_wp2_with fail
    go_ret
    exact ⟨B1, L1, C1, g1, _, rfl, HY.out.bel (below_drewN _ _ _), rfl⟩
def F5 (W : World) (f : Int) (e : Ending) (w' : World) : Prop := e = .returned (.int .i64 f) ∧ ∃ m, w' = W.drewN m
theorem nls_len (sd : Int) (rs : Rws) (ps : List Int) : (nls sd rs ps).length ≤ 3 := by
  unfold nls
  split
  · rename_i h
    by_cases e : ndI sd ps < rs.length
    · exact Nat.le_of_eq (lf_zero ((gf_zero h.1).2.2 _ e)).1
    · have : rw_ rs (ndI sd ps) = [] := by simp [rw_, List.getD, Nat.le_of_not_lt e]
      rw [this]; simp
  · simp
end Go.Proofs.Ytlfdpambbgddoaa
namespace Go.Proofs.Ytlfdpambbgddoaa
open Go.RowKit
set_option linter.unusedVariables false

def clC (sd v : Int) : Int := if v = 65535 then sd - 2 else v * (sd - 1) / 65535
def clR (sd v : Int) : Int := if v = 65535 then 65535 else v * (sd - 1) % 65535
def ClAns (w : World) (sd v : Int) (e : Ending) (w' : World) : Prop := e = .returned (.tuple #[.int .i64 (clC sd v), .int .i64 (clR sd v)]) ∧ w = w'
theorem ClAns.mk {w w' : World} {sd v a b : Int} (h1 : clC sd v = a) (h2 : clR sd v = b) (hw : w = w') : ClAns w sd v (.returned (.tuple #[.int .i64 a, .int .i64 b])) w' := ⟨by rw [h1, h2], hw⟩
/-- with levels or fine numbers, T the last one. -/
def clCT (T sd v : Int) : Int := if v = T then sd - 2 else v * (sd - 1) / T
def clRT (T sd v : Int) : Int := if v = T then T else v * (sd - 1) % T
def ClAnsT (T : Int) (w : World) (sd v : Int) (e : Ending) (w' : World) : Prop := e = .returned (.tuple #[.int .i64 (clCT T sd v), .int .i64 (clRT T sd v)]) ∧ ∃ m, w' = w.drewN m
theorem ClAnsT.mk {T : Int} {w w' : World} {sd v a b : Int} (h1 : clCT T sd v = a) (h2 : clRT T sd v = b) (hw : ∃ m, w' = w.drewN m) : ClAnsT T w sd v (.returned (.tuple #[.int .i64 a, .int .i64 b])) w' := ⟨by rw [h1, h2], hw⟩
set_option maxHeartbeats 1000000 in
theorem cellOfNumber_1 (sd v : Int) (w : World) (hs : sd = 2 ∨ sd = 3 ∨ sd = 4) (h0 : 0 ≤ v) (h1 : v ≤ 65535) : Calls Try.prog 99 #[.int .i64 sd, .int .i64 v, .int .i64 65535] w (ClAnsT 65535 w sd v) := by
  by_cases hv : v = 65535
  · subst hv
    have HC : Hid (clCT 65535 sd 65535 = sd - 2) := by show _ = _; unfold clCT; rw [if_pos rfl]
    have HR : Hid (clRT 65535 sd 65535 = 65535) := by show _ = _; unfold clRT; rw [if_pos rfl]
    have hsb : 2 ≤ sd ∧ sd ≤ 4 := by omega
    clear hs
    go_enter Try.func99, Try.ntmps99
    go_wp2
    go_ret2
    exact ClAnsT.mk HC.out HR.out ⟨0, rfl⟩
  · have HC : Hid (clCT 65535 sd v = v * (sd - 1) / 65535) := by show _ = _; unfold clCT; rw [if_neg hv]
    have HR : Hid (clRT 65535 sd v = v * (sd - 1) % 65535) := by show _ = _; unfold clRT; rw [if_neg hv]
    have he : (v == 65535) = false := by simpa using hv
    rcases hs with rfl | rfl | rfl
    all_goals
      go_enter Try.func99, Try.ntmps99
      go_wp2
      go_quiet (fail)
      go_wp2
      go_ret2
      exact ClAnsT.mk (by rw [HC.out]; simp) (by rw [HR.out]; simp) ⟨_, rfl⟩
set_option maxHeartbeats 1000000 in
theorem cellOfNumber_256 (sd v : Int) (w : World) (hs : sd = 2 ∨ sd = 3 ∨ sd = 4) (h0 : 0 ≤ v) (h1 : v ≤ 16776960) : Calls Try.prog 99 #[.int .i64 sd, .int .i64 v, .int .i64 16776960] w (ClAnsT 16776960 w sd v) := by
  by_cases hv : v = 16776960
  · subst hv
    have HC : Hid (clCT 16776960 sd 16776960 = sd - 2) := by show _ = _; unfold clCT; rw [if_pos rfl]
    have HR : Hid (clRT 16776960 sd 16776960 = 16776960) := by show _ = _; unfold clRT; rw [if_pos rfl]
    have hsb : 2 ≤ sd ∧ sd ≤ 4 := by omega
    clear hs
    go_enter Try.func99, Try.ntmps99
    go_wp2
    go_ret2
    exact ClAnsT.mk HC.out HR.out ⟨0, rfl⟩
  · have HC : Hid (clCT 16776960 sd v = v * (sd - 1) / 16776960) := by show _ = _; unfold clCT; rw [if_neg hv]
    have HR : Hid (clRT 16776960 sd v = v * (sd - 1) % 16776960) := by show _ = _; unfold clRT; rw [if_neg hv]
    have he : (v == 16776960) = false := by simpa using hv
    rcases hs with rfl | rfl | rfl
    all_goals
      go_enter Try.func99, Try.ntmps99
      go_wp2
      go_quiet (fail)
      go_wp2
      go_ret2
      exact ClAnsT.mk (by rw [HC.out]; simp) (by rw [HR.out]; simp) ⟨_, rfl⟩
set_option maxHeartbeats 1000000 in
theorem sCell5_any (sd v : Int) (w : World) (hs : sd = 2 ∨ sd = 3 ∨ sd = 4) (h0 : 0 ≤ v) (h1 : v ≤ 65535) : Calls Try.prog 101 #[.int .i64 sd, .int .i64 v] w (ClAns w sd v) := by
  by_cases hv : v = 65535
  · subst hv
    have HC : Hid (clC sd 65535 = sd - 2) := by show _ = _; unfold clC; rw [if_pos rfl]
    have HR : Hid (clR sd 65535 = 65535) := by show _ = _; unfold clR; rw [if_pos rfl]
    have hsb : 2 ≤ sd ∧ sd ≤ 4 := by omega
    clear hs
    go_enter Try.func101, Try.ntmps101
    go_wp2
    go_ret2
    exact ClAns.mk HC.out HR.out rfl
  · have HC : Hid (clC sd v = v * (sd - 1) / 65535) := by show _ = _; unfold clC; rw [if_neg hv]
    have HR : Hid (clR sd v = v * (sd - 1) % 65535) := by show _ = _; unfold clR; rw [if_neg hv]
    have he : (v == 65535) = false := by simpa using hv
    rcases hs with rfl | rfl | rfl
    · go_enter Try.func101, Try.ntmps101
      go_wp2
      go_ret2
      exact ClAns.mk (by rw [HC.out]; simp) (by rw [HR.out]; simp) rfl
    · go_enter Try.func101, Try.ntmps101
      go_wp2
      go_ret2
      exact ClAns.mk (by rw [HC.out]; simp) (by rw [HR.out]; simp) rfl
    · go_enter Try.func101, Try.ntmps101
      go_wp2
      go_ret2
      exact ClAns.mk (by rw [HC.out]; simp) (by rw [HR.out]; simp) rfl
end Go.Proofs.Ytlfdpambbgddoaa
namespace Go.Proofs.Ytlfdpambbgddoaa
set_option linter.unusedVariables false

/-- the axes by their rests, the greatest first, the lower one of like rests ahead. -/
def ax (r : Nat → Int) (t : Nat) : Nat :=
  if r 1 > r 0 then
    (if r 2 > r 0 then (if r 2 > r 1 then 2 - t else (if t = 0 then 1 else if t = 1 then 2 else 0)) else (if t = 0 then 1 else if t = 1 then 0 else 2))
  else
    (if r 2 > r 1 then (if r 2 > r 0 then (if t = 0 then 2 else if t = 1 then 0 else 1) else (if t = 0 then 0 else if t = 1 then 2 else 1)) else t)
theorem ax_lt (r : Nat → Int) {t : Nat} (ht : t < 3) : ax r t < 3 := by unfold ax; split <;> split <;> (try split) <;> (try split) <;> (try split) <;> omega
def bump (x : Nat → Int) (k j : Nat) : Int := if j = k then x j + 1 else x j
def pl (c r : Nat → Int) : Nat → Nat → Int
  | 0 => c
  | t + 1 => bump (pl c r t) (ax r t)
def lft (r : Nat → Int) : Nat → Int
  | 0 => 65535
  | t + 1 => if t < 3 then r (ax r t) else 0
theorem ax_ne (r : Nat → Int) : ax r 0 ≠ ax r 1 ∧ ax r 0 ≠ ax r 2 ∧ ax r 1 ≠ ax r 2 := by
  unfold ax
  by_cases h1 : r 1 > r 0 <;> by_cases h2 : r 2 > r 0 <;> by_cases h3 : r 2 > r 1 <;> simp [h1, h2, h3]
theorem pl_bd (c r : Nat → Int) {t : Nat} (ht : t ≤ 3) {j : Nat} (hj : j < 3) : c j ≤ pl c r t j ∧ pl c r t j ≤ c j + 1 := by
  have h3 : t = 0 ∨ t = 1 ∨ t = 2 ∨ t = 3 := by omega
  have hj3 : j = 0 ∨ j = 1 ∨ j = 2 := by omega
  rcases h3 with rfl | rfl | rfl | rfl
  · simp [pl]
    omega
  · simp only [pl, bump]
    split <;> omega
  · simp only [pl, bump]
    have := (ax_ne r).1
    split <;> split <;> omega
  · simp only [pl, bump]
    obtain ⟨h01, h02, h12⟩ := ax_ne r
    split <;> split <;> split <;> omega
/-- level i of the node at a place. -/
def ndv (rs : Rws) (sd : Int) (x : Nat → Int) (i : Nat) : Int := (rw_ rs (ndI sd [x 0, x 1, x 2])).getD i 0
def sm (rs : Rws) (sd : Int) (c r : Nat → Int) : Nat → Nat → Int
  | 0, _ => 0
  | t + 1, i => sm rs sd c r t i + ndv rs sd (pl c r t) i * (lft r t - lft r (t + 1))
def Lv (f : Nat → Int) : Prop := ∀ k, k < 3 → 0 ≤ f k ∧ f k ≤ 65535
theorem lft_bd {r : Nat → Int} (hr : Lv r) (t : Nat) : 0 ≤ lft r t ∧ lft r t ≤ 65535 := by
  cases t with
  | zero => simp [lft]
  | succ t =>
    simp only [lft]
    split
    · rename_i h; exact hr _ (ax_lt r h)
    · omega
/-- the cell and the rests of a colour. -/
def cc (sd : Int) (v : Nat → Int) (j : Nat) : Int := clC sd (v j)
def cr (sd : Int) (v : Nat → Int) (j : Nat) : Int := clR sd (v j)
theorem cc_bd {sd : Int} {v : Nat → Int} (hs : sd = 2 ∨ sd = 3 ∨ sd = 4) (hv : Lv v) {j : Nat} (hj : j < 3) : 0 ≤ cc sd v j ∧ cc sd v j ≤ sd - 2 := by
  have h := hv j hj
  unfold cc clC
  split
  · omega
  · rcases hs with rfl | rfl | rfl <;> omega
theorem cr_bd {sd : Int} {v : Nat → Int} (hs : sd = 2 ∨ sd = 3 ∨ sd = 4) (hv : Lv v) : Lv (cr sd v) := by
  intro j hj
  have h := hv j hj
  unfold cr clR
  split
  · omega
  · rcases hs with rfl | rfl | rfl <;> omega
theorem pl_in {sd : Int} {v r : Nat → Int} (hs : sd = 2 ∨ sd = 3 ∨ sd = 4) (hv : Lv v) {t : Nat} (ht : t ≤ 3) : inS sd [pl (cc sd v) r t 0, pl (cc sd v) r t 1, pl (cc sd v) r t 2] = true := by
  have h0 := pl_bd (cc sd v) r ht (j := 0) (by omega)
  have h1 := pl_bd (cc sd v) r ht (j := 1) (by omega)
  have h2 := pl_bd (cc sd v) r ht (j := 2) (by omega)
  have g0 := cc_bd hs hv (j := 0) (by omega)
  have g1 := cc_bd hs hv (j := 1) (by omega)
  have g2 := cc_bd hs hv (j := 2) (by omega)
  rw [inS_iff]
  simp only [List.getD_cons_zero, List.getD_cons_succ]
  omega
theorem ndv_bd {s : Nat} {rs : Rws} (h0 : gf (s : Int) rs = 0) {x : Nat → Int} (hx : inS (s : Int) [x 0, x 1, x 2] = true) : Lv (ndv rs s x) := by
  obtain ⟨hs, hlen, hrow⟩ := gf_zero h0
  have h3 : s = 2 ∨ s = 3 ∨ s = 4 := by rcases side_cases hs with e | e | e <;> omega
  have hNI : ((s * s * s : Nat) : Int) = (s : Int) * s * s := by simp
  have hNN : rs.length = s * s * s := by rw [← hNI] at hlen; omega
  obtain ⟨t1, _⟩ := nd_yes h3 hx
  intro k hk
  exact inB_iff.1 ((lf_zero (hrow _ (by rw [hNN]; exact t1))).2 k hk)
theorem mul_bd {a b : Int} (ha : 0 ≤ a ∧ a ≤ 65535) (hb : -65535 ≤ b ∧ b ≤ 65535) : -4294836225 ≤ a * b ∧ a * b ≤ 4294836225 := by
  have h : (a * b).natAbs ≤ 65535 * 65535 := by rw [Int.natAbs_mul]; exact Nat.mul_le_mul (by omega) (by omega)
  omega
theorem sm_bd {s : Nat} {rs : Rws} {c r : Nat → Int} (hr : Lv r) (hn : ∀ t, t ≤ 3 → Lv (ndv rs s (pl c r t))) {i : Nat} (hi : i < 3) : ∀ t, t ≤ 4 → -4294836225 * t ≤ sm rs s c r t i ∧ sm rs s c r t i ≤ 4294836225 * t := by
  intro t
  induction t with
  | zero => intro _; simp [sm]
  | succ t ih =>
    intro ht
    have h1 := ih (by omega)
    have h2 := mul_bd (hn t (by omega) i hi) (b := lft r t - lft r (t + 1)) (by have := lft_bd hr t; have := lft_bd hr (t + 1); omega)
    simp only [sm]
    have e : ((t + 1 : Nat) : Int) = (t : Int) + 1 := by simp
    rw [e]
    omega
/-- what a grid tells. -/
def gvl (sd : Int) (rs : Rws) (v : Nat → Int) (i : Nat) : Int := rnd (sm rs sd (cc sd v) (cr sd v) 4 i) 65535
def egC (sd : Int) (rs : Rws) (xs : List Int) : Int := if gf sd rs = 0 then lf xs else gf sd rs
def egL (sd : Int) (rs : Rws) (xs : List Int) : List Int := if gf sd rs = 0 ∧ lf xs = 0 then [gvl sd rs (xs.getD · 0) 0, gvl sd rs (xs.getD · 0) 1, gvl sd rs (xs.getD · 0) 2] else []
theorem eg_f {sd : Int} {rs : Rws} {xs : List Int} (h : gf sd rs ≠ 0) : egC sd rs xs = gf sd rs ∧ egL sd rs xs = [] := ⟨by unfold egC; rw [if_neg h], by unfold egL; rw [if_neg (fun q => h q.1)]⟩
theorem eg_l {sd : Int} {rs : Rws} {xs : List Int} (h : gf sd rs = 0) (h1 : lf xs ≠ 0) : egC sd rs xs = lf xs ∧ egL sd rs xs = [] := ⟨by unfold egC; rw [if_pos h], by unfold egL; rw [if_neg (fun q => h1 q.2)]⟩
theorem eg_y {sd : Int} {rs : Rws} {xs : List Int} (h : gf sd rs = 0) (h1 : lf xs = 0) : egC sd rs xs = 0 ∧ egL sd rs xs = [gvl sd rs (xs.getD · 0) 0, gvl sd rs (xs.getD · 0) 1, gvl sd rs (xs.getD · 0) 2] := ⟨by unfold egC; rw [if_pos h, h1], by unfold egL; rw [if_pos ⟨h, h1⟩]⟩
theorem eg_len (sd : Int) (rs : Rws) (xs : List Int) : (egL sd rs xs).length ≤ 3 := by unfold egL; split <;> simp
end Go.Proofs.Ytlfdpambbgddoaa
namespace Go.Proofs.Ytlfdpambbgddoaa
set_option linter.unusedVariables false

def lftT (T : Int) (r : Nat → Int) : Nat → Int
  | 0 => T
  | t + 1 => if t < 3 then r (ax r t) else 0
def smT (T : Int) (rs : Rws) (sd : Int) (c r : Nat → Int) : Nat → Nat → Int
  | 0, _ => 0
  | t + 1, i => smT T rs sd c r t i + ndv rs sd (pl c r t) i * (lftT T r t - lftT T r (t + 1))
def LvT (T : Int) (f : Nat → Int) : Prop := ∀ k, k < 3 → 0 ≤ f k ∧ f k ≤ T
def ccT (T sd : Int) (v : Nat → Int) (j : Nat) : Int := clCT T sd (v j)
def crT (T sd : Int) (v : Nat → Int) (j : Nat) : Int := clRT T sd (v j)
/-- the last number. -/
def Top (T : Int) : Prop := T = 65535 ∨ T = 16776960
theorem One.top {o : Int} (h : One o) : Top (65535 * o) := by
  rcases h with rfl | rfl
  · exact .inl rfl
  · exact .inr rfl
theorem lftT_1 (r : Nat → Int) (t : Nat) : lftT 65535 r t = lft r t := by cases t <;> rfl
theorem smT_1 (rs : Rws) (sd : Int) (c r : Nat → Int) (i : Nat) : ∀ t, smT 65535 rs sd c r t i = sm rs sd c r t i := by
  intro t
  induction t with
  | zero => rfl
  | succ t ih => simp only [smT, sm]; rw [ih, lftT_1, lftT_1]
theorem ccT_1 (sd : Int) (v : Nat → Int) : ccT 65535 sd v = cc sd v := rfl
theorem crT_1 (sd : Int) (v : Nat → Int) : crT 65535 sd v = cr sd v := rfl
theorem lftT_bd {T : Int} (hT : Top T) {r : Nat → Int} (hr : LvT T r) (t : Nat) : 0 ≤ lftT T r t ∧ lftT T r t ≤ T := by
  have h0 : 0 ≤ T := by rcases hT with rfl | rfl <;> omega
  cases t with
  | zero => simp only [lftT]; omega
  | succ t =>
    simp only [lftT]
    split
    · rename_i h; exact hr _ (ax_lt r h)
    · omega
theorem ccT_bd {T sd : Int} (hT : Top T) {v : Nat → Int} (hs : sd = 2 ∨ sd = 3 ∨ sd = 4) (hv : LvT T v) {j : Nat} (hj : j < 3) : 0 ≤ ccT T sd v j ∧ ccT T sd v j ≤ sd - 2 := by
  have h := hv j hj
  unfold ccT clCT
  split
  · omega
  · rcases hT with rfl | rfl <;> rcases hs with rfl | rfl | rfl <;> omega
theorem crT_bd {T sd : Int} (hT : Top T) {v : Nat → Int} (hs : sd = 2 ∨ sd = 3 ∨ sd = 4) (hv : LvT T v) : LvT T (crT T sd v) := by
  intro j hj
  have h := hv j hj
  unfold crT clRT
  split
  · omega
  · rcases hT with rfl | rfl <;> rcases hs with rfl | rfl | rfl <;> omega
theorem plT_in {T sd : Int} (hT : Top T) {v r : Nat → Int} (hs : sd = 2 ∨ sd = 3 ∨ sd = 4) (hv : LvT T v) {t : Nat} (ht : t ≤ 3) : inS sd [pl (ccT T sd v) r t 0, pl (ccT T sd v) r t 1, pl (ccT T sd v) r t 2] = true := by
  have h0 := pl_bd (ccT T sd v) r ht (j := 0) (by omega)
  have h1 := pl_bd (ccT T sd v) r ht (j := 1) (by omega)
  have h2 := pl_bd (ccT T sd v) r ht (j := 2) (by omega)
  have g0 := ccT_bd hT hs hv (j := 0) (by omega)
  have g1 := ccT_bd hT hs hv (j := 1) (by omega)
  have g2 := ccT_bd hT hs hv (j := 2) (by omega)
  rw [inS_iff]
  simp only [List.getD_cons_zero, List.getD_cons_succ]
  omega
theorem mul_bdT {a b : Int} (ha : 0 ≤ a ∧ a ≤ 65535) (hb : -16776960 ≤ b ∧ b ≤ 16776960) : -1099478073600 ≤ a * b ∧ a * b ≤ 1099478073600 := by
  have h : (a * b).natAbs ≤ 65535 * 16776960 := by rw [Int.natAbs_mul]; exact Nat.mul_le_mul (by omega) (by omega)
  omega
theorem smT_bd {T : Int} (hT : Top T) {s : Nat} {rs : Rws} {c r : Nat → Int} (hr : LvT T r) (hn : ∀ t, t ≤ 3 → Lv (ndv rs s (pl c r t))) {i : Nat} (hi : i < 3) : ∀ t, t ≤ 4 → -1099478073600 * t ≤ smT T rs s c r t i ∧ smT T rs s c r t i ≤ 1099478073600 * t := by
  intro t
  induction t with
  | zero => intro _; simp [smT]
  | succ t ih =>
    intro ht
    have h1 := ih (by omega)
    have h2 := mul_bdT (hn t (by omega) i hi) (b := lftT T r t - lftT T r (t + 1)) (by have := lftT_bd hT hr t; have := lftT_bd hT hr (t + 1); rcases hT with rfl | rfl <;> omega)
    simp only [smT]
    have e : ((t + 1 : Nat) : Int) = (t : Int) + 1 := by simp
    rw [e]
    omega
/-- what a grid tells. -/
def gvo (o sd : Int) (rs : Rws) (v : Nat → Int) (i : Nat) : Int := rnd (smT (65535 * o) rs sd (ccT (65535 * o) sd v) (crT (65535 * o) sd v) 4 i * o) (65535 * o)
theorem gvo_1 (sd : Int) (rs : Rws) (v : Nat → Int) (i : Nat) : gvo 1 sd rs v i = gvl sd rs v i := by
  unfold gvo gvl
  rw [Int.mul_one, Int.mul_one, smT_1, ccT_1, crT_1]
/-- what is taken off the weights is all of T: the sums are between the least and the greatest. -/
theorem lftT_4 (T : Int) (r : Nat → Int) : lftT T r 4 = 0 := by simp [lftT]
theorem ax_ext {f g : Nat → Int} (h : ∀ j, j < 3 → f j = g j) (t : Nat) : ax f t = ax g t := by
  unfold ax; rw [h 0 (by omega), h 1 (by omega), h 2 (by omega)]
theorem pl_ext {f f' g g' : Nat → Int} (hf : ∀ j, j < 3 → f j = f' j) (hg : ∀ j, j < 3 → g j = g' j) : ∀ t j, j < 3 → pl f g t j = pl f' g' t j := by
  intro t
  induction t with
  | zero => intro j hj; exact hf j hj
  | succ t ih => intro j hj; simp only [pl, bump]; rw [ax_ext hg, ih j hj]
theorem lftT_ext {T : Int} {g g' : Nat → Int} (hg : ∀ j, j < 3 → g j = g' j) (t : Nat) : lftT T g t = lftT T g' t := by
  cases t with
  | zero => rfl
  | succ t =>
    simp only [lftT]
    split
    · rename_i h; rw [ax_ext hg, hg _ (ax_lt g' h)]
    · rfl
theorem smT_ext {T : Int} {rs : Rws} {sd : Int} {f f' g g' : Nat → Int} (hf : ∀ j, j < 3 → f j = f' j) (hg : ∀ j, j < 3 → g j = g' j) : ∀ t i, smT T rs sd f g t i = smT T rs sd f' g' t i := by
  intro t
  induction t with
  | zero => intro i; rfl
  | succ t ih =>
    intro i
    simp only [smT, ndv]
    rw [ih i, lftT_ext hg, lftT_ext hg (t + 1), pl_ext hf hg t 0 (by omega), pl_ext hf hg t 1 (by omega), pl_ext hf hg t 2 (by omega)]
theorem gvo_ext {o sd : Int} {rs : Rws} {v v' : Nat → Int} (h : ∀ j, j < 3 → v j = v' j) (i : Nat) : gvo o sd rs v i = gvo o sd rs v' i := by
  unfold gvo
  rw [smT_ext (f' := ccT (65535 * o) sd v') (g' := crT (65535 * o) sd v') (fun j hj => by unfold ccT; rw [h j hj]) (fun j hj => by unfold crT; rw [h j hj])]
end Go.Proofs.Ytlfdpambbgddoaa
