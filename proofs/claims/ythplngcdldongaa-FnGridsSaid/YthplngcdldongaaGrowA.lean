/-
  Lists of int64 that a call makes by append (OwnI, nil among them): at one element that goes behind, alone or in a drawn region.
  Places of a grid: the program's isSide, gridPlaces; a row of places that grows.
  A list of rows that a call makes by append (RsG): any number of rows, of any lengths, each in memory of its own.
-/
import Derived.Test.YthplngcdldongaaHelpA
import Derived.Maps.AppendAt
import Derived.Deep.RegionLaw
import Derived.Deep.AppendLies
import Derived.Test.YthplngcdldongaaNumA
import Derived.Test.YthplngcdldongaaBaseA
namespace Go.Proofs.Ythplngcdldongaa
open Go.RowKit
set_option linter.unusedVariables false

def ivals (ys : List Int) : List Value := ys.map (Value.int .i64)
theorem ivals_one (ys : List Int) : ∀ u ∈ ivals ys, u.oneCell' = true := by
  intro u hu
  simp only [ivals, List.mem_map] at hu
  obtain ⟨x, _, rfl⟩ := hu
  rfl
/-- a list of int64 of the call's own. -/
def OwnI (w : World) (base : Nat) (v : Value) (n : Nat) (ys : List Int) : Prop := w.ownsRow base 2 1 v n (ivals ys)
theorem OwnI.nil (w : World) (base : Nat) : OwnI w base (.slice none 0 0) 0 [] := World.ownsRow_nil w base _ _
theorem OwnI.len {w : World} {base n : Nat} {v : Value} {ys : List Int} (h : OwnI w base v n ys) : ys.length = n := by have := h.1; simpa [ivals] using this
theorem OwnI.form {w : World} {base n : Nat} {v : Value} {ys : List Int} (h : OwnI w base v n ys) : ∃ A c, v = .slice A n c := by
  rcases h.2 with ⟨rfl, rfl⟩ | ⟨g, cap, cur, rfl, _⟩
  · exact ⟨_, _, rfl⟩
  · exact ⟨_, _, rfl⟩
theorem OwnI.ch {w w' : World} {base n : Nat} {v : Value} {ys : List Int} (h : OwnI w base v n ys) {q : Option Nat} (hc : w.grownBy w' q) (hq : ∀ b, q = some b → b < base) : OwnI w' base v n ys := by
  refine World.ownsRow.kept h hc ?_
  cases hv : v.ownBlock with
  | none => exact .inl rfl
  | some g => exact .inr (fun e => by have := hq g e.symm; have := (World.ownsRow.lt h g hv).1; omega)
theorem OwnI.below {w w' : World} {base n : Nat} {v : Value} {ys : List Int} (h : OwnI w base v n ys) (hb : Below w.heap.size w w') : OwnI w' base v n ys :=
  h.ch (q := none) ⟨hb.os, hb.tape, hb.output, hb.size, fun k hk _ => hb.block k hk⟩ (fun b e => by cases e)
theorem OwnI.alloc {w : World} {base n : Nat} {v : Value} {ys : List Int} (h : OwnI w base v n ys) (o : Obj) : OwnI (w.alloc o) base v n ys := h.below (blAlloc _ _)
theorem OwnI.drewN {w : World} {base n : Nat} {v : Value} {ys : List Int} (h : OwnI w base v n ys) (m : Nat) : OwnI (w.drewN m) base v n ys := h.below (below_drewN _ _ _)
theorem OwnI.set {w : World} {base n : Nat} {v : Value} {ys : List Int} (h : OwnI w base v n ys) {b : Nat} (hb : b < base) (i : Nat) (x : Value) : OwnI (w.setCell ⟨b, i, none⟩ x) base v n ys :=
  h.ch (q := some b) ⟨rfl, rfl, rfl, by simp [World.setCell], fun k _ hn => Below.heap_setCell _ _ _ _ (fun e => hn (by rw [e]))⟩ (fun c e => by injection e with e; omega)
theorem OwnI.own {w : World} {base n : Nat} {v : Value} {ys : List Int} (h : OwnI w base v n ys) : Own w (.ints .i64 ys) v base w.heap.size := by
  have hl := h.len
  have h' := h
  rcases h.2 with ⟨rfl, rfl⟩ | ⟨g, cap, cur, rfl, b1, b2, b3, b4, b5, b6⟩
  · obtain rfl : ys = [] := List.eq_nil_of_length_eq_zero hl
    exact Own.nil _ _ _ _ _ _ (Nat.zero_le _)
  · have hgt : g < w.heap.size := (World.ownsRow.lt h g rfl).2
    have hr : Rd .i64 w (some ⟨g, 0, none⟩) n ys := by
      refine ⟨hl, fun _ => ⟨g, 0, rfl, fun i hi => ?_⟩⟩
      have := World.ownsRow.cellAt h' i (by omega)
      rw [Nat.zero_add, this]
      simp [ivals, hl, hi]
    obtain ⟨bs, a, b, c⟩ := Hd.of_rd (c := cap) hr b3 b4
    refine ⟨bs, a, b, fun x hx => ?_⟩
    obtain ⟨_, o, e⟩ := c x hx
    obtain rfl : g = x := by injection e with e; injection e
    exact ⟨b1, hgt, fun i => by simp [World.frozen?, b2]⟩
theorem info_i64x : ∃ i, Try.prog.info? 2 = some i ∧ i.zero = some (.int .i64 0) ∧ i.size = 1 ∧ i.bytes = 8 := by
  obtain ⟨i, hi, h⟩ := Option.map_eq_some_iff.1 info_i64
  simp only [Prod.mk.injEq] at h
  exact ⟨i, hi, h.1, h.2.1, h.2.2⟩
theorem run_append_i64 (w : World) (ty : TypeId) (base : Nat) (v : Value) (n : Nat) (ys : List Int) (hown : OwnI w base v n ys) (q c : Nat) (x : Int) (hq : w.cell? ⟨q, 0, none⟩ = some (.int .i64 x)) (h63 : n ≤ 1000000000000) (hbase : base ≤ w.heap.size) :
    ∃ v' w', (Builtin.append_ #[27, 27] ty #[v, .slice (some ⟨q, 0, none⟩) 1 c]).run Try.prog w = .ok v' w' ∧ OwnI w' base v' (n + 1) (ys ++ [x]) ∧ w.grownBy w' v.ownBlock ∧ (v'.ownBlock = v.ownBlock ∨ v'.ownBlock = some w.heap.size) := by
  obtain ⟨i, hi, hz, hs, hb⟩ := info_i64x
  obtain ⟨v', w', h1, h2, h3, _, h5⟩ := run_append_own_at (P := Try.prog) w base 27 ty 2 i (.int .i64 0) 1 8 Try.underlying27 hi hz hs hb rfl (by omega) v n (ivals ys) hown ⟨q, 0, none⟩ 1 c [.int .i64 x] rfl (by
      intro j u hj
      match j, hj with
      | 0, hj => obtain rfl := Option.some.inj hj; exact hq) (by
      intro u hu
      simp only [List.mem_cons, List.not_mem_nil, or_false] at hu
      subst hu; rfl) (by unfold maxLen; omega) (by omega) hbase
  exact ⟨v', w', h1, by unfold OwnI; simpa [ivals] using h2, h3, h5⟩
/-- one goes behind, in a plain region. -/
theorem wpList_append_i64 (w : World) {ops : Array Oper} {rest : List Oper} {o : Oper} {a : Act} {Q : Exit → Act → World → Prop} (hgd : o.guard = none) (s x : Operand)
    (ho : o.op = .call { callee := .builtin .append, args := #[s, x], argTypes := #[27, 27] })
    (base : Nat) (v : Value) (n : Nat) (ys : List Int) (hs : a.eval s = v) (hown : OwnI w base v n ys) (q c : Nat) (y : Int) (hx : a.eval x = .slice (some ⟨q, 0, none⟩) 1 c) (hq : w.cell? ⟨q, 0, none⟩ = some (.int .i64 y))
    (h63 : n ≤ 1000000000000) (hbase : base ≤ w.heap.size)
    (h : ∀ v' w', OwnI w' base v' (n + 1) (ys ++ [y]) → w.grownBy w' v.ownBlock → (∀ g, v.ownBlock = some g → base ≤ g) → wpList Try.prog ops Q rest (a.put o.dst v') w') : wpList Try.prog ops Q (o :: rest) a w := by
  refine wpList_plain hgd fun K hK => ?_
  obtain ⟨v', w', hr', h2, h3, _⟩ := run_append_i64 w o.type base v n ys hown q c y hq h63 hbase
  unfold Oper.wp execOp
  simp only [ho, resolve, invoke, builtin, Sem.run_bind, Sem.run_pure, Result.andThen_ok, List.map_toArray, List.map_cons, List.map_nil, hs, hx, hr']
  exact hK _ _ (h v' w' h2 h3 (fun g hg => (World.ownsRow.lt hown g hg).1))
/-- one goes behind, in a drawn region. -/
theorem step_append_i64 (w : World) {ops : Array Oper} {op : Oper} {a : Act} {K : Act → World → Prop} {Q : Exit → Act → World → Prop} {E : Prop} (hgd : op.guard = none) (s x : Operand)
    (ho : op.op = .call { callee := .builtin .append, args := #[s, x], argTypes := #[27, 27] })
    (base : Nat) (v : Value) (n : Nat) (ys : List Int) (hs : a.eval s = v) (hown : OwnI w base v n ys) (q c : Nat) (y : Int) (hx : a.eval x = .slice (some ⟨q, 0, none⟩) 1 c) (hq : w.cell? ⟨q, 0, none⟩ = some (.int .i64 y))
    (h63 : n ≤ 1000000000000) (hbase : base ≤ w.heap.size)
    (h : ∀ v' w', OwnI w' base v' (n + 1) (ys ++ [y]) → w.grownBy w' v.ownBlock → (∀ g, v.ownBlock = some g → base ≤ g) → K (a.put op.dst v') w') : if Region.wanted op (yielded ops a.tmps) = true then Oper.wp Try.prog op a w K Q else E := by
  have hw : Region.wanted op (yielded ops a.tmps) = true := by simp [Region.wanted, hgd]
  rw [if_pos hw]
  obtain ⟨v', w', hr', h2, h3, _⟩ := run_append_i64 w op.type base v n ys hown q c y hq h63 hbase
  unfold Oper.wp execOp
  simp only [ho, resolve, invoke, builtin, Sem.run_bind, Sem.run_pure, Result.andThen_ok, List.map_toArray, List.map_cons, List.map_nil, hs, hx, hr']
  exact h v' w' h2 h3 (fun g hg => (World.ownsRow.lt hown g hg).1)
/-- cells of another block, behind an append. -/
theorem gb_keep {w w' : World} {v : Value} {base b : Nat} (hg : w.grownBy w' v.ownBlock) (hv : ∀ g, v.ownBlock = some g → base ≤ g) (hb : b < base) (hl : b < w.heap.size) : (∀ i, w'.cell? ⟨b, i, none⟩ = w.cell? ⟨b, i, none⟩) ∧ (∀ i, w'.frozen? ⟨b, i, none⟩ = w.frozen? ⟨b, i, none⟩) := by
  have hk := hg.block b hl (fun e => by have := hv b e.symm; omega)
  exact ⟨fun i => World.cell?_of_block hk, fun i => World.frozen?_of_block hk⟩
theorem gb_low' {w w' : World} {v : Value} {base B : Nat} (hg : w.grownBy w' v.ownBlock) (hv : ∀ g, v.ownBlock = some g → base ≤ g) (hB : B ≤ base) (hs : B ≤ w.heap.size) : Below B w w' :=
  ⟨hg.os, hg.tape, hg.output, hg.size, fun i hi => hg.block i (by omega) (fun e => by have := hv i e.symm; omega)⟩
theorem new_cell (w : World) (x : Value) (t : TypeId) : (w.alloc (.cells #[x] t)).cell? ⟨w.heap.size, 0, none⟩ = some x := by simp
/-- a list that was made, and filled. -/
theorem fill_own {W0 wr : World} {N : Nat} {xs : List Int} (hl : xs.length = N) (hN : N ≤ 1000000000000) (hcell : ∀ t, t < N → wr.cell? ⟨W0.heap.size, t, none⟩ = some (.int .i64 (xs.getD t 0))) (honly : Ch (W0.alloc (.cells (madeCells #[.int .i64 0] N) 2)) wr (· = W0.heap.size)) :
    Own wr (.ints .i64 xs) (.slice (some ⟨W0.heap.size, 0, none⟩) N N) W0.heap.size wr.heap.size := by
  have hsz := honly.size
  simp at hsz
  obtain ⟨bs, h1, h2, h3⟩ := Hd.of_rd (c := N) (k := .i64) (xs := xs) (w := wr) (A := some ⟨W0.heap.size, 0, none⟩) (n := N) ⟨hl, fun _ => ⟨W0.heap.size, 0, rfl, fun i hi => by
    have := hcell i hi
    simpa using this⟩⟩ (Nat.le_refl _) (by unfold maxLen; omega)
  refine ⟨bs, h1, h2, fun b hb => ?_⟩
  obtain ⟨_, o, e⟩ := h3 b hb
  injection e with e
  injection e with e1 e2
  subst e1
  exact ⟨Nat.le_refl _, by omega, fun i => by rw [honly.frozen _ _ (by simp)]; simp⟩
end Go.Proofs.Ythplngcdldongaa
namespace Go.Proofs.Ythplngcdldongaa
open Go.RowKit
set_option linter.unusedVariables false
theorem inB_no {v a b : Int} (h : v < a ∨ b < v) : inB v a b = false := by
  rcases Bool.eq_false_or_eq_true (inB v a b) with q | q
  · exact absurd (inB_iff.1 q) (by omega)
  · exact q
set_option maxHeartbeats 1000000 in
theorem isSide_any (sd : Int) (w : World) : Calls Try.prog 48 #[.int .i64 sd] w fun e w' => e = .returned (.bool (inB sd 2 4)) ∧ w = w' := by
  by_cases h : 2 ≤ sd
  · by_cases h2 : sd ≤ 4
    · have HB : Hid (inB sd 2 4 = true) := inB_iff.2 ⟨h, h2⟩
      go_enter Try.func48, Try.ntmps48
      go_wp2
      go_ret
      exact ⟨ret_bool HB.out.symm, rfl⟩
    · have HB : Hid (inB sd 2 4 = false) := inB_no (.inr (by omega))
      go_enter Try.func48, Try.ntmps48
      go_wp2
      go_ret
      exact ⟨ret_bool HB.out.symm, rfl⟩
  · have HB : Hid (inB sd 2 4 = false) := inB_no (.inl (by omega))
    go_enter Try.func48, Try.ntmps48
    go_wp2
    go_ret
    exact ⟨ret_bool HB.out.symm, rfl⟩

/-! ### a row of places -/
def plc (s t : Nat) : List Value := [.int .i64 ((t / (s * s) : Nat) : Int), .int .i64 ((t / s % s : Nat) : Int), .int .i64 ((t % s : Nat) : Int)]
def pvals (s n : Nat) : List Value := (List.range n).flatMap (plc s)
theorem pvals_succ (s n : Nat) : pvals s (n + 1) = pvals s n ++ plc s n := by unfold pvals; rw [List.range_succ, List.flatMap_append]; simp
theorem pvals_len (s n : Nat) : (pvals s n).length = n * 3 := by
  induction n with
  | zero => rfl
  | succ n ih => rw [pvals_succ, List.length_append, ih]; simp [plc]; omega
theorem pvals_at (s : Nat) : ∀ n i, i < n → ∀ j, j < 3 → (pvals s n)[i * 3 + j]? = (plc s i)[j]? := by
  intro n
  induction n with
  | zero => intro i hi; omega
  | succ n ih =>
    intro i hi j hj
    rw [pvals_succ]
    have hl := pvals_len s n
    by_cases e : i < n
    · rw [List.getElem?_append_left (by omega)]
      exact ih i e j hj
    · obtain rfl : i = n := by omega
      rw [List.getElem?_append_right (by omega), hl]
      congr 1
      omega
/-- the first n places of a grid of side s, in a row of the call's own. -/
def OwnP (w : World) (base : Nat) (v : Value) (n s : Nat) : Prop := w.ownsRow base 82 3 v n (pvals s n)
theorem OwnP.nil (w : World) (base s : Nat) : OwnP w base (.slice none 0 0) 0 s := World.ownsRow_nil w base _ _
theorem OwnP.below {w w' : World} {base n s : Nat} {v : Value} (h : OwnP w base v n s) (hb : Below w.heap.size w w') : OwnP w' base v n s := by
  refine World.ownsRow.kept h (row := none) ⟨hb.os, hb.tape, hb.output, hb.size, fun k hk _ => hb.block k hk⟩ ?_
  cases hv : v.ownBlock with
  | none => exact .inl rfl
  | some g => exact .inr (fun e => by cases e)
theorem OwnP.gb {w w' : World} {base n s b : Nat} {v : Value} (h : OwnP w base v n s) (hg : w.grownBy w' (some b)) (hb : v.ownBlock ≠ some b) : OwnP w' base v n s := by
  refine World.ownsRow.kept h hg ?_
  cases hv : v.ownBlock with
  | none => exact .inl rfl
  | some g => exact .inr (fun e => hb (by rw [hv, e]))
/-- what lies there. -/
theorem OwnP.look {w : World} {base n s : Nat} {v : Value} (h : OwnP w base v n s) (hn : 0 < n) : ∃ g o c, v = .slice (some ⟨g, o, none⟩) n c ∧ base ≤ g ∧ g < w.heap.size ∧ n ≤ c ∧ c ≤ maxLen ∧
    ∀ k, k < n → w.cell? ⟨g, o + k * 3, none⟩ = some (.int .i64 ((k / (s * s) : Nat) : Int)) ∧ w.cell? ⟨g, o + k * 3 + 1, none⟩ = some (.int .i64 ((k / s % s : Nat) : Int)) ∧ w.cell? ⟨g, o + k * 3 + 2, none⟩ = some (.int .i64 ((k % s : Nat) : Int)) := by
  have h' := h
  rcases h.2 with ⟨rfl, rfl⟩ | ⟨g, cap, cur, rfl, b1, b2, b3, b4, b5, b6⟩
  · omega
  · have hgt : g < w.heap.size := (World.ownsRow.lt h g rfl).2
    have cel : ∀ k, k < n → ∀ j, j < 3 → w.cell? ⟨g, 0 + k * 3 + j, none⟩ = (plc s k)[j]? := fun k hk j hj => by
      have hl := pvals_len s n
      have := World.ownsRow.cellAt h' (k * 3 + j) (by omega)
      rw [Nat.zero_add, this, pvals_at s n k hk j hj]
    exact ⟨g, 0, cap, rfl, b1, hgt, b3, b4, fun k hk => ⟨cel k hk 0 (by omega), cel k hk 1 (by omega), cel k hk 2 (by omega)⟩⟩
theorem info_place : (Try.prog.info? 82).map (fun i => (i.zero, i.size, i.bytes)) = some (some (.agg #[.int .i64 0, .int .i64 0, .int .i64 0]), 3, 24) := by kernel_rfl
theorem info_placex : ∃ i, Try.prog.info? 82 = some i ∧ i.zero = some (.agg #[.int .i64 0, .int .i64 0, .int .i64 0]) ∧ i.size = 3 ∧ i.bytes = 24 := by
  obtain ⟨i, hi, h⟩ := Option.map_eq_some_iff.1 info_place
  simp only [Prod.mk.injEq] at h
  exact ⟨i, hi, h.1, h.2.1, h.2.2⟩
theorem wpList_append_place (w : World) {ops : Array Oper} {rest : List Oper} {o : Oper} {a : Act} {Q : Exit → Act → World → Prop} (hgd : o.guard = none) (s x : Operand)
    (ho : o.op = .call { callee := .builtin .append, args := #[s, x], argTypes := #[96, 96] })
    (base : Nat) (v : Value) (n sd : Nat) (hs : a.eval s = v) (hown : OwnP w base v n sd) (q c : Nat) (hx : a.eval x = .slice (some ⟨q, 0, none⟩) 1 c)
    (hq : ∀ j u, (plc sd n)[j]? = some u → w.cell? ⟨q, 0 + j, none⟩ = some u) (h63 : n ≤ 1000000) (hbase : base ≤ w.heap.size)
    (h : ∀ v' w', OwnP w' base v' (n + 1) sd → w.grownBy w' v.ownBlock → (∀ g, v.ownBlock = some g → base ≤ g) → wpList Try.prog ops Q rest (a.put o.dst v') w') : wpList Try.prog ops Q (o :: rest) a w := by
  obtain ⟨i, hi, hz, hsz, hby⟩ := info_placex
  refine wpList_append_own_at w hgd s x 96 ho base 82 i _ 3 24 Try.underlying96 hi hz hsz hby rfl (by omega) v n _ hs hown ⟨q, 0, none⟩ 1 c (plc sd n) hx rfl ?_ ?_ (by unfold maxLen; omega) (by omega) hbase ?_
  · intro j u hj
    match j, hj with
    | 0, hj => exact hq 0 u hj
    | 1, hj => exact hq 1 u hj
    | 2, hj => exact hq 2 u hj
    | _ + 3, hj => cases hj
  · intro u hu
    simp only [plc, List.mem_cons, List.not_mem_nil, or_false] at hu
    rcases hu with rfl | rfl | rfl <;> rfl
  · intro v' w' a1 a2 _ a4
    exact h v' w' (by unfold OwnP; rw [pvals_succ]; exact a1) a2 (fun g hg => (World.ownsRow.lt hown g hg).1)
theorem place_eq {s a b c : Nat} (hs : s = 2 ∨ s = 3 ∨ s = 4) (ha : a < s) (hb : b < s) (hc : c < s) : (a * (s * s) + b * s + c) / (s * s) = a ∧ (a * (s * s) + b * s + c) / s % s = b ∧ (a * (s * s) + b * s + c) % s = c := by
  rcases hs with rfl | rfl | rfl <;> simp only [Nat.reduceMul] <;> refine ⟨?_, ?_, ?_⟩ <;> omega
theorem plc_eq {s a b c : Nat} (hs : s = 2 ∨ s = 3 ∨ s = 4) (ha : a < s) (hb : b < s) (hc : c < s) : plc s (a * (s * s) + b * s + c) = [.int .i64 (a : Int), .int .i64 (b : Int), .int .i64 (c : Int)] := by
  obtain ⟨h1, h2, h3⟩ := place_eq hs ha hb hc
  unfold plc; rw [h1, h2, h3]
theorem bound_n {s a b c : Nat} (hs : s = 2 ∨ s = 3 ∨ s = 4) (ha : a < s) (hb : b < s) (hc : c < s) : a * (s * s) + b * s + c ≤ 1000000 := by
  rcases hs with rfl | rfl | rfl <;> simp only [Nat.reduceMul] <;> omega
set_option maxRecDepth 100000 in
set_option maxHeartbeats 2000000 in
theorem gridPlaces_any (s : Nat) (w : World) (hs : s = 2 ∨ s = 3 ∨ s = 4) :
    Calls Try.prog 59 #[.int .i64 (s : Int)] w fun e w' => ∃ v, e = .returned v ∧ OwnP w' w.heap.size v (s * s * s) s ∧ Below w.heap.size w w' := by
  have HS := Lib.hid hs
  have hs4 : s ≤ 4 := by omega
  clear hs
  go_enter Try.func59, Try.ntmps59
  go_wp2_with fail
  go_loopw [3, 8] (fun p i wr => ∃ a : Nat, a ≤ s ∧ i = .int .i64 a ∧ Hid (OwnP wr w.heap.size p (a * (s * s)) s) ∧ Hid (Below w.heap.size w wr)) (fun _ i _ => s - (intOf i).toNat)
  case atStart => exact ⟨0, by omega, rfl, by show OwnP _ _ _ _ _; rw [Nat.zero_mul]; exact OwnP.nil _ _ _, Below.refl _ _⟩
  case round =>
    obtain ⟨a, ha, rfl, HO, HB⟩ := hrel
    by_cases hlt : a < s
    · go_wp2_with fail
      (try simp only [show decide ((a : Int) < (s : Int)) = true from decide_eq_true (by omega)])
      go_loopw [3, 12] (fun p i wr => ∃ b : Nat, b ≤ s ∧ i = .int .i64 b ∧ Hid (OwnP wr w.heap.size p (a * (s * s) + b * s) s) ∧ Hid (Below w.heap.size w wr)) (fun _ i _ => s - (intOf i).toNat)
      case atStart => exact ⟨0, by omega, rfl, by show OwnP _ _ _ _ _; rw [Nat.zero_mul, Nat.add_zero]; exact HO.out, HB⟩
      case round =>
        obtain ⟨b, hb, rfl, HO1, HB1⟩ := hrel
        by_cases hlb : b < s
        · go_wp2_with fail
          (try simp only [show decide ((b : Int) < (s : Int)) = true from decide_eq_true (by omega)])
          go_loopw [3, 16] (fun p i wr => ∃ c : Nat, c ≤ s ∧ i = .int .i64 c ∧ Hid (OwnP wr w.heap.size p (a * (s * s) + b * s + c) s) ∧ Hid (Below w.heap.size w wr)) (fun _ i _ => s - (intOf i).toNat)
          case atStart => exact ⟨0, by omega, rfl, HO1, HB1⟩
          case round =>
            obtain ⟨c, hc, rfl, HO2, HB2⟩ := hrel
            by_cases hlc : c < s
            · have HPL := Lib.hid (plc_eq HS.out hlt hlb hlc)
              have HBN := Lib.hid (bound_n HS.out hlt hlb hlc)
              have hsz := HB2.out.size
              go_wp2_with (at_builtin; refine wpList_append_place _ rfl _ _ rfl w.heap.size _ (a * (s * s) + b * s + c) s rfl (HO2.out.below (blAlloc _ _)) wr.heap.size 1 rfl (by rw [HPL.out]; intro j u hj; (match j, hj with | 0, hj => (obtain rfl := Option.some.inj hj; simp) | 1, hj => (obtain rfl := Option.some.inj hj; simp) | 2, hj => (obtain rfl := Option.some.inj hj; simp))) HBN.out (by simp; omega) ?_; intro v3 w3 ho3 hg3 hgb)
              have HO3 := Lib.hid ho3
              have HB3 := Lib.hid ((blThenAlloc HB2.out _).trans (gb_low' hg3 hgb (Nat.le_refl _) (by simp; omega)))
              clear ho3 hg3 hgb
              go_wp2_with fail
              go_roundw
              case rel => exact ⟨c + 1, by omega, by go_num, HO3.out, HB3.out⟩
              case measure => simp [intOf]; omega
            · obtain rfl : c = s := by omega
              go_wp2_with fail
              go_roundw
              case rel => exact ⟨b + 1, by omega, by go_num, by show OwnP _ _ _ _ _; rw [Nat.succ_mul, ← Nat.add_assoc]; exact HO2.out, HB2⟩
              case measure => simp [intOf]; omega
        · obtain rfl : b = s := by omega
          go_wp2_with fail
          go_roundw
          case rel => exact ⟨a + 1, by omega, by go_num, by show OwnP _ _ _ _ _; rw [Nat.succ_mul]; exact HO1.out, HB1⟩
          case measure => simp [intOf]; omega
    · obtain rfl : a = s := by omega
      go_wp2_with fail
      go_ret
      exact ⟨_, rfl, by rw [Nat.mul_assoc]; exact HO.out, HB.out⟩
end Go.Proofs.Ythplngcdldongaa
namespace Go.Proofs.Ythplngcdldongaa
open Go.RowKit
set_option linter.unusedVariables false
set_option linter.unusedSimpArgs false

def OwnV (w : World) (base : Nat) (v : Value) (n : Nat) (vs : List Value) : Prop := w.ownsRow base 27 1 v n vs
theorem info_rvx : ∃ i, Try.prog.info? 27 = some i ∧ i.zero = some (.slice none 0 0) ∧ i.size = 1 ∧ i.bytes = 24 := by
  obtain ⟨i, hi, h⟩ := Option.map_eq_some_iff.1 info_rows
  simp only [Prod.mk.injEq] at h
  exact ⟨i, hi, h.1, h.2.1, h.2.2⟩
/-- what an append gives. -/
structure AppV (w w' : World) (base : Nat) (v : Value) (n : Nat) (vs : List Value) (g c : Nat) : Prop where
  own : OwnV w' base (.slice (some ⟨g, 0, none⟩) n c) n vs
  gb : w.grownBy w' v.ownBlock
  d : v.ownBlock = some g ∨ g = w.heap.size
theorem wpList_append_rv (w : World) {ops : Array Oper} {rest : List Oper} {o : Oper} {a : Act} {Q : Exit → Act → World → Prop} (hgd : o.guard = none) (s x : Operand)
    (ho : o.op = .call { callee := .builtin .append, args := #[s, x], argTypes := #[24, 24] })
    (base : Nat) (v : Value) (n : Nat) (ys : List Value) (hs : a.eval s = v) (hown : OwnV w base v n ys) (q c : Nat) (y : Value) (hx : a.eval x = .slice (some ⟨q, 0, none⟩) 1 c) (hq : w.cell? ⟨q, 0, none⟩ = some y) (hy : y.oneCell' = true)
    (h63 : n ≤ 1000000) (hbase : base ≤ w.heap.size)
    (h : ∀ g' c' w', AppV w w' base v (n + 1) (ys ++ [y]) g' c' → wpList Try.prog ops Q rest (a.put o.dst (.slice (some ⟨g', 0, none⟩) (n + 1) c')) w') : wpList Try.prog ops Q (o :: rest) a w := by
  obtain ⟨i, hi, hz, hsz, hby⟩ := info_rvx
  refine wpList_append_own_at w hgd s x 24 ho base 27 i _ 1 24 Try.underlying24 hi hz hsz hby rfl (by omega) v n ys hs hown ⟨q, 0, none⟩ 1 c [y] hx rfl ?_ (fun u hu => by simp at hu; rw [hu]; exact hy) (by unfold maxLen; omega) (by omega) hbase ?_
  · intro j u hj
    match j, hj with
    | 0, hj => obtain rfl := Option.some.inj hj; exact hq
  · intro v' w' a1 a2 a3 a4
    obtain ⟨g', c', hv, -, -⟩ := World.ownsRow.form a1 (by omega)
    subst hv
    refine h g' c' w' ⟨a1, a2, ?_⟩
    rcases a4 with a4 | a4
    · exact .inl a4.symm
    · exact .inr (by injection a4)
structure RsG (W : World) (base : Nat) (v : Value) (n : Nat) (rs : Rws) (lim : Nat) (V : Nat → Value) (lo hi : Nat → Nat) : Prop where
  own : OwnV W base v n ((List.range n).map V)
  len : rs.length = n
  row : ∀ i, i < n → Own W (.ints .i64 (rw_ rs i)) (V i) (lo i) (hi i) ∧ base ≤ lo i ∧ lo i ≤ hi i ∧ hi i ≤ lim ∧ ∀ g, v.ownBlock = some g → g < lo i ∨ hi i ≤ g
  dis : ∀ i j, i < j → j < n → hi i ≤ lo j
  vl : ∀ g, v.ownBlock = some g → g < lim
  bl : base ≤ lim
  ll : lim ≤ W.heap.size
theorem RsG.nil (W : World) (base lim : Nat) (hb : base ≤ lim) (hl : lim ≤ W.heap.size) (V : Nat → Value) (lo hi : Nat → Nat) : RsG W base (.slice none 0 0) 0 [] lim V lo hi :=
  ⟨World.ownsRow_nil _ _ _ _, rfl, fun i h => absurd h (by omega), fun i j _ h => absurd h (by omega), fun g q => by simp [Value.ownBlock] at q, hb, hl⟩
theorem OwnV.block {w w' : World} {base n : Nat} {v : Value} {vs : List Value} (h : OwnV w base v n vs) (hb : ∀ g, v.ownBlock = some g → w'.heap[g]? = w.heap[g]?) : OwnV w' base v n vs := by
  refine ⟨h.1, ?_⟩
  rcases h.2 with hn | ⟨g, cap, cur, rfl, q1, q2, rest⟩
  · exact .inl hn
  · exact .inr ⟨g, cap, cur, rfl, q1, by rw [hb g rfl]; exact q2, rest⟩
theorem Own.block {w w' : World} {d : Dat} {v : Value} {lo hi : Nat} (h : Own w d v lo hi) (hb : ∀ g, lo ≤ g → g < hi → g < w.heap.size → w'.heap[g]? = w.heap[g]?) : Own w' d v lo hi := by
  obtain ⟨bs, a1, a2, a3⟩ := h
  have e : ∀ x ∈ bs, w'.heap[x]? = w.heap[x]? := fun x hx => hb x (a3 x hx).1 (a3 x hx).2.1 (a1.lt x hx)
  exact ⟨bs, a1.keep fun x hx k => World.cell?_of_block (e x hx), a2, fun x hx => ⟨(a3 x hx).1, (a3 x hx).2.1, fun k => by rw [World.frozen?_of_block (a := ⟨x, k, none⟩) (e x hx)]; exact (a3 x hx).2.2 k⟩⟩
/-- what lies between base and lim is as it was. -/
theorem RsG.keep {W W' : World} {base n lim : Nat} {v : Value} {rs : Rws} {V : Nat → Value} {lo hi : Nat → Nat} (h : RsG W base v n rs lim V lo hi) (hb : ∀ g, base ≤ g → g < lim → W'.heap[g]? = W.heap[g]?) (hs : W.heap.size ≤ W'.heap.size) : RsG W' base v n rs lim V lo hi :=
  ⟨h.own.block fun g q => hb g (World.ownsRow.lt h.own g q).1 (h.vl g q), h.len, fun i hi' => by
    obtain ⟨a, b, c, d, e⟩ := h.row i hi'
    exact ⟨a.block fun g g1 g2 _ => hb g (by omega) (by omega), b, c, d, e⟩, h.dis, h.vl, h.bl, Nat.le_trans h.ll hs⟩
theorem RsG.bel {W W' : World} {base n lim : Nat} {v : Value} {rs : Rws} {V : Nat → Value} {lo hi : Nat → Nat} (h : RsG W base v n rs lim V lo hi) (hb : Below lim W W') : RsG W' base v n rs lim V lo hi :=
  h.keep (fun g _ hg => hb.block g hg) hb.size
theorem RsG.below {W W' : World} {base n lim : Nat} {v : Value} {rs : Rws} {V : Nat → Value} {lo hi : Nat → Nat} (h : RsG W base v n rs lim V lo hi) (hb : Below W.heap.size W W') : RsG W' base v n rs lim V lo hi :=
  h.bel (hb.mono h.ll)
/-- one row goes behind. -/
theorem RsG.next {W W' : World} {base n lim lo' hi' g c : Nat} {v x : Value} {rs : Rws} {xs : List Int} {t : TypeId} {V : Nat → Value} {lo hi : Nat → Nat} (h : RsG W base v n rs lim V lo hi) (hr : Own W (.ints .i64 xs) x lo' hi') (hlo : lim ≤ lo') (hle : lo' ≤ hi') (hhi : hi' ≤ W.heap.size)
    (ha : AppV (W.alloc (.cells #[x] t)) W' base v (n + 1) ((List.range n).map V ++ [x]) g c) :
    RsG W' base (.slice (some ⟨g, 0, none⟩) (n + 1) c) (n + 1) (rs ++ [xs]) W'.heap.size (fun j => if j = n then x else V j) (fun j => if j = n then lo' else lo j) (fun j => if j = n then hi' else hi j) := by
  have hs1 : (W.alloc (.cells #[x] t)).heap.size = W.heap.size + 1 := by simp
  have hs2 := ha.gb.size
  have hlt := World.ownsRow.lt ha.own g rfl
  have hd := ha.d
  rw [hs1] at hs2 hd
  have ll := h.ll
  have hl := h.len
  have hblk : ∀ k, k < W.heap.size → v.ownBlock ≠ some k → W'.heap[k]? = W.heap[k]? := fun k hk hn => by
    rw [ha.gb.block k (by rw [hs1]; omega) (fun q => hn q.symm)]
    exact (blAlloc W _).block k hk
  have own1 : ∀ {d : Dat} {u : Value} {a b : Nat}, Own W d u a b → (∀ k, v.ownBlock = some k → k < a ∨ b ≤ k) → Own W' d u a b := fun ho hn => ho.block fun k k1 k2 k3 => hblk k k3 fun q => by
    have := hn k q; omega
  refine ⟨?_, by simp [hl], fun i hi' => ?_, fun i j hij hj => ?_, fun k q => ?_, ?_, Nat.le_refl _⟩
  · have e : (List.range (n + 1)).map (fun j => if j = n then x else V j) = (List.range n).map V ++ [x] := by
      rw [List.range_succ, List.map_append]
      congr 1
      · refine List.map_congr_left fun j hj => ?_
        have : j ≠ n := by have := List.mem_range.1 hj; omega
        simp [this]
      · simp
    rw [e]; exact ha.own
  · by_cases e : i = n
    · subst e
      have er : rw_ (rs ++ [xs]) i = xs := by simp [rw_, List.getD, ← hl]
      simp only [if_true]
      rw [er]
      refine ⟨own1 hr (fun k q => ?_), by have := h.bl; omega, hle, by omega, fun k q => ?_⟩
      · have := h.vl k q; omega
      · have q' : g = k := by injection q
        subst q'
        rcases hd with hd | hd
        · have := h.vl _ hd; omega
        · omega
    · obtain ⟨a, b, c', d, f⟩ := h.row i (by omega)
      have er : rw_ (rs ++ [xs]) i = rw_ rs i := by
        have : i < rs.length := by omega
        simp [rw_, List.getD, List.getElem?_append_left this]
      simp only [if_neg e]
      rw [er]
      refine ⟨own1 a f, b, c', by omega, fun k q => ?_⟩
      have q' : g = k := by injection q
      subst q'
      rcases hd with hd | hd
      · exact f _ hd
      · omega
  · by_cases e : j = n
    · subst e
      simp only [if_true, if_neg (show i ≠ j by omega)]
      have := (h.row i (by omega)).2.2.2.1; omega
    · simp only [if_neg e, if_neg (show i ≠ n by omega)]
      exact h.dis i j hij (by omega)
  · injection q with q
    rw [← q]; exact hlt.2
  · have := h.bl; omega
theorem fam1 {n : Nat} (F : Nat → List Nat) : ((List.range n).flatMap fun i => (List.range 1).flatMap ((fun i _ => F i) i)) = (List.range n).flatMap F := by
  congr 1
  funext i
  simp [List.range_succ]
theorem nodup_fam {F : Nat → List Nat} {lo hi : Nat → Nat} : ∀ {n : Nat}, (∀ i, i < n → (F i).Nodup ∧ ∀ b ∈ F i, lo i ≤ b ∧ b < hi i) → (∀ i j, i < j → j < n → hi i ≤ lo j) → ((List.range n).flatMap F).Nodup := by
  intro n
  induction n with
  | zero => intro _ _; simp
  | succ n ih =>
    intro h1 h2
    rw [List.range_succ, List.flatMap_append, List.nodup_append]
    refine ⟨ih (fun i hi => h1 i (by omega)) (fun i j hij hj => h2 i j hij (by omega)), by simpa using (h1 n (by omega)).1, fun x hx y hy q => ?_⟩
    simp only [List.mem_flatMap, List.mem_range] at hx
    obtain ⟨i, hi', hx⟩ := hx
    have hy' : y ∈ F n := by simpa using hy
    have a := (h1 i (by omega)).2 x hx
    have b := (h1 n (by omega)).2 y hy'
    have := h2 i n hi' (by omega)
    omega
/-- the whole list, in memory of its own. -/
theorem RsG.fin {W : World} {base n lim : Nat} {v : Value} {rs : Rws} {V : Nat → Value} {lo hi : Nat → Nat} (h : RsG W base v n rs lim V lo hi) : Own W (rowsD rs) v base W.heap.size := by
  rcases Nat.eq_zero_or_pos n with rfl | hn
  · obtain rfl : rs = [] := List.eq_nil_of_length_eq_zero h.len
    rcases h.own.2 with ⟨rfl, _⟩ | ⟨g, cap, cur, rfl, _, _, _, q2, _⟩
    · exact Own.snil _ _ _ _ _ _ (Nat.zero_le _)
    · exact Own.snil _ _ _ _ _ _ q2
  · obtain ⟨g, cap, hv, hb, hl⟩ := World.ownsRow.form h.own hn
    subst hv
    have caps : n ≤ cap ∧ cap ≤ maxLen := by
      rcases h.own.2 with ⟨q, _⟩ | ⟨g', cap', cur, q, _, _, q1, q2, _⟩
      · cases q
      · cases q; exact ⟨q1, q2⟩
    have hcell : ∀ j, j < n → W.cell? ⟨g, j, none⟩ = some (V j) := fun j hj => by
      rw [World.ownsRow.cellAt h.own j (by omega)]
      simp [hj]
    have hfr : Thaw W g := fun j => World.ownsRow.frozenAt h.own j
    have ex : ∀ i, ∃ bs, i < n → Hd W (.ints .i64 (rw_ rs i)) (V i) bs ∧ bs.Nodup ∧ ∀ b ∈ bs, lo i ≤ b ∧ b < hi i ∧ Thaw W b := fun i => by
      by_cases hi' : i < n
      · obtain ⟨bs, a1, a2, a3⟩ := (h.row i hi').1
        exact ⟨bs, fun _ => ⟨a1, a2, a3⟩⟩
      · exact ⟨[], fun q => absurd q hi'⟩
    obtain ⟨F, hF⟩ : ∃ F : Nat → List Nat, ∀ i, i < n → Hd W (.ints .i64 (rw_ rs i)) (V i) (F i) ∧ (F i).Nodup ∧ ∀ b ∈ F i, lo i ≤ b ∧ b < hi i ∧ Thaw W b := ⟨fun i => (ex i).choose, fun i hi' => (ex i).choose_spec hi'⟩
    have hd : Hd W (rowsD rs) (.slice (some ⟨g, 0, none⟩) n cap) (g :: (List.range n).flatMap fun i => (List.range 1).flatMap ((fun i _ => F i) i)) := by
      refine .sl 1 g 0 n cap _ (fun i _ => V i) (fun i _ => F i) hn (by omega) (by simp [h.len]) (fun i hi' j hj => ?_) (fun i hi' j hj => ?_) caps.1 caps.2
      · obtain rfl : j = 0 := by omega
        rw [Nat.zero_add, Nat.mul_one, Nat.add_zero]; exact hcell i hi'
      · obtain rfl : j = 0 := by omega
        have := rows_at (rs := rs) (i := i) (by rw [h.len]; exact hi')
        unfold At at this
        rw [this]
        exact (hF i hi').1
    rw [fam1] at hd
    have hin : ∀ x ∈ (List.range n).flatMap F, ∃ i, i < n ∧ lo i ≤ x ∧ x < hi i ∧ Thaw W x := fun x hx => by
      simp only [List.mem_flatMap, List.mem_range] at hx
      obtain ⟨i, hi', hx⟩ := hx
      exact ⟨i, hi', (hF i hi').2.2 x hx⟩
    refine ⟨_, hd, ?_, ?_⟩
    · rw [List.nodup_cons]
      refine ⟨fun hm => ?_, nodup_fam (fun i hi' => ⟨(hF i hi').2.1, fun b hb => ⟨((hF i hi').2.2 b hb).1, ((hF i hi').2.2 b hb).2.1⟩⟩) h.dis⟩
      obtain ⟨i, hi', q1, q2, -⟩ := hin g hm
      have := (h.row i hi').2.2.2.2 g rfl
      omega
    · intro x hx
      rcases List.mem_cons.1 hx with rfl | hx
      · exact ⟨hb, hl, hfr⟩
      · obtain ⟨i, hi', q1, q2, q3⟩ := hin x hx
        have r := h.row i hi'
        have := h.ll
        exact ⟨by omega, by omega, q3⟩
end Go.Proofs.Ythplngcdldongaa
