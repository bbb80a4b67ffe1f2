/-
  Slices of bytes that a call makes: by append (OwnB), by make and copy; contracts of impl.copyBytes and the reference model's l1Copy.
-/
import Derived.Test.YthplngcdldongaaBaseA
import Derived.Maps.AppendAt
import Derived.Laws.AppendOwnNone
import Derived.Laws.IdiomCopy
import Derived.Lib.AppendStr
import Derived.Lib.AppendZerosOnto
namespace Go.Proofs.Ythplngcdldongaa
open Go.RowKit
set_option linter.unusedVariables false

def vals (ys : List Int) : List Value := ys.map (Value.int .u8)
theorem vals_len (ys : List Int) : (vals ys).length = ys.length := by simp [vals]
theorem vals_one (ys : List Int) : ∀ u ∈ vals ys, u.oneCell' = true := by
  intro u hu
  simp only [vals, List.mem_map] at hu
  obtain ⟨x, _, rfl⟩ := hu
  rfl
/-- a slice of bytes of the call's own, not nil. -/
def OwnB (w : World) (base : Nat) (v : Value) (n : Nat) (ys : List Int) : Prop := w.ownsRow base 5 1 v n (vals ys) ∧ v ≠ .slice none 0 0
theorem OwnB.form {w : World} {base n : Nat} {v : Value} {ys : List Int} (h : OwnB w base v n ys) : ∃ g cap, v = .slice (some ⟨g, 0, none⟩) n cap ∧ base ≤ g ∧ g < w.heap.size ∧ n ≤ cap ∧ cap ≤ maxLen := by
  rcases h.1.2 with ⟨e, _⟩ | ⟨g, cap, cur, rfl, h1, h2, h3, h4, h5, h6⟩
  · exact absurd e h.2
  · refine ⟨g, cap, rfl, h1, ?_, h3, h4⟩
    rcases Nat.lt_or_ge g w.heap.size with hl | hl
    · exact hl
    · rw [Array.getElem?_eq_none hl] at h2; cases h2
theorem OwnB.len {w : World} {base n : Nat} {v : Value} {ys : List Int} (h : OwnB w base v n ys) : ys.length = n := by have := h.1.1; simpa [vals] using this
theorem OwnB.rd {w : World} {base n g cap : Nat} {ys : List Int} (h : OwnB w base (.slice (some ⟨g, 0, none⟩) n cap) n ys) : Rd .u8 w (some ⟨g, 0, none⟩) n ys := by
  have hl := h.len
  refine ⟨hl, fun _ => ⟨g, 0, rfl, fun i hi => ?_⟩⟩
  have := h.1.cellAt i (by omega)
  rw [Nat.zero_add, this]
  simp [vals, hl, hi]
theorem OwnB.thaw {w : World} {base n g cap : Nat} {ys : List Int} (h : OwnB w base (.slice (some ⟨g, 0, none⟩) n cap) n ys) : Thaw w g := by
  rcases h.1.2 with ⟨e, _⟩ | ⟨g', cap', cur, e, h1, h2, _⟩
  · exact absurd e h.2
  · obtain rfl : g = g' := by injection e with e; injection e with e; injection e
    intro i
    simp [World.frozen?, h2]
/-- it reads as data of one's own. -/
theorem OwnB.own {w : World} {base n : Nat} {v : Value} {ys : List Int} (h : OwnB w base v n ys) : Own w (.ints .u8 ys) v base w.heap.size := by
  obtain ⟨g, cap, rfl, h1, h2, h3, h4⟩ := h.form
  obtain ⟨bs, a, b, c⟩ := Hd.of_rd (c := cap) h.rd h3 h4
  refine ⟨bs, a, b, fun x hx => ?_⟩
  obtain ⟨_, o, e⟩ := c x hx
  obtain rfl : g = x := by injection e with e; injection e
  exact ⟨h1, h2, h.thaw⟩
theorem OwnB.below {w w' : World} {base n : Nat} {v : Value} {ys : List Int} (h : OwnB w base v n ys) (hb : Below w.heap.size w w') : OwnB w' base v n ys := by
  refine ⟨h.1.kept (row := none) ⟨hb.os, hb.tape, hb.output, hb.size, fun k hk _ => hb.block k hk⟩ ?_, h.2⟩
  right
  obtain ⟨g', cap, rfl, h1, _⟩ := h.form
  simp [Value.ownBlock]
theorem OwnB.alloc {w : World} {base n : Nat} {v : Value} {ys : List Int} (h : OwnB w base v n ys) (o : Obj) : OwnB (w.alloc o) base v n ys := h.below (blAlloc _ _)
theorem OwnB.lit (w : World) (ys : List Int) (base n : Nat) (hl : ys.length = n) (hb : base ≤ w.heap.size) (hn : n ≤ maxLen) : OwnB (w.alloc (.cells (vals ys).toArray 5)) base (.slice (some ⟨w.heap.size, 0, none⟩) n n) n ys := by
  subst hl
  refine ⟨?_, by simp⟩
  have := World.ownsRow_lit (e := 5) (size := 1) w (vals ys).toArray ys.length hb hn (by simp [vals])
  simpa using this
theorem gb_refl (w : World) (r : Option Nat) : w.grownBy w r := ⟨rfl, rfl, rfl, Nat.le_refl _, fun _ _ _ => rfl⟩
theorem gb_to_below {a b : World} {g B : Nat} (h : a.grownBy b (some g)) (hB : B ≤ g) (hs : B ≤ a.heap.size) : Below B a b :=
  ⟨h.os, h.tape, h.output, h.size, fun i hi => h.block i (by omega) (fun e => by injection e; omega)⟩
theorem info_u8x : ∃ i, Try.prog.info? 5 = some i ∧ i.zero = some (.int .u8 0) ∧ i.size = 1 ∧ i.bytes = 1 := by
  obtain ⟨i, hi, h⟩ := Option.map_eq_some_iff.1 info_u8
  simp only [Prod.mk.injEq] at h
  exact ⟨i, hi, h.1, h.2.1, h.2.2⟩
theorem run_append_bytes (w : World) (ty : TypeId) (base : Nat) (v : Value) (n : Nat) (ys : List Int) (hown : OwnB w base v n ys) (A : Option Addr) (m c : Nat) (zs : List Int) (hr : Rd .u8 w A m zs) (h63 : n + m ≤ 1000000000000) (hbase : base ≤ w.heap.size) :
    ∃ v' w', (Builtin.append_ #[22, 22] ty #[v, .slice A m c]).run Try.prog w = .ok v' w' ∧ OwnB w' base v' (n + m) (ys ++ zs) ∧ w.grownBy w' v.ownBlock := by
  obtain ⟨i, hi, hz, hs, hb⟩ := info_u8x
  cases A with
  | none =>
    have hm : m = 0 := by
      rcases Nat.eq_zero_or_pos m with h | h
      · exact h
      · obtain ⟨_, _, e, _⟩ := hr.2 h; cases e
    subst hm
    obtain rfl : zs = [] := List.eq_nil_of_length_eq_zero hr.1
    obtain ⟨g, cap, rfl, h1, h2, h3, h4⟩ := hown.form
    refine ⟨_, w, ?_, by simpa using hown, gb_refl _ _⟩
    simp [Builtin.append_, run_underlying Try.underlying22, sizeOf, typeInfo, hi, Builtin.lenOf, Builtin.firstCells, h3, storeCells]
  | some ad =>
    have hcells : ∀ j u, (vals zs)[j]? = some u → w.cell? (ad.add j) = some u := by
      intro j u hu
      rcases Nat.eq_zero_or_pos m with h | h
      · subst h
        obtain rfl : zs = [] := List.eq_nil_of_length_eq_zero hr.1
        simp [vals] at hu
      · obtain ⟨b, o, e, hc⟩ := hr.2 h
        obtain rfl : ad = ⟨b, o, none⟩ := by injection e
        have hj : j < zs.length := by
          rcases Nat.lt_or_ge j zs.length with h' | h'
          · exact h'
          · rw [List.getElem?_eq_none (by simpa [vals] using h')] at hu; cases hu
        have hadd := addr_add b o j
        rw [hadd, hc j (by have := hr.1; omega)]
        simpa [vals, List.getD, hj] using hu
    obtain ⟨v', w', h1, h2, h3, h4, _⟩ := run_append_own_at (P := Try.prog) w base 22 ty 5 i (.int .u8 0) 1 1 Try.underlying22 hi hz hs hb rfl (by omega) v n (vals ys) hown.1 ad m c (vals zs) (by simp [vals, hr.1]) hcells (vals_one zs) (by unfold maxLen; omega) (by omega) hbase
    refine ⟨v', w', h1, ⟨by simpa [vals] using h2, fun e => hown.2 (h4.1 e).1⟩, h3⟩
theorem wpList_append_bytes (w : World) {ops : Array Oper} {rest : List Oper} {o : Oper} {a : Act} {Q : Exit → Act → World → Prop} (hgd : o.guard = none) (s x : Operand)
    (ho : o.op = .call { callee := .builtin .append, args := #[s, x], argTypes := #[22, 22] })
    (base : Nat) (v : Value) (n : Nat) (ys : List Int) (hs : a.eval s = v) (hown : OwnB w base v n ys) (A : Option Addr) (m c : Nat) (zs : List Int) (hx : a.eval x = .slice A m c) (hr : Rd .u8 w A m zs)
    (h63 : n + m ≤ 1000000000000) (hbase : base ≤ w.heap.size)
    (h : ∀ v' w', OwnB w' base v' (n + m) (ys ++ zs) → w.grownBy w' v.ownBlock → wpList Try.prog ops Q rest (a.put o.dst v') w') : wpList Try.prog ops Q (o :: rest) a w := by
  refine wpList_plain hgd fun K hK => ?_
  obtain ⟨v', w', hr', h2, h3⟩ := run_append_bytes w o.type base v n ys hown A m c zs hr h63 hbase
  unfold Oper.wp execOp
  simp only [ho, resolve, invoke, builtin, Sem.run_bind, Sem.run_pure, Result.andThen_ok, List.map_toArray, List.map_cons, List.map_nil, hs, hx, hr']
  exact hK _ _ (h v' w' h2 h3)

theorem gb_cell {a b : World} {g : Nat} (h : a.grownBy b (some g)) {p : Addr} (h1 : p.block < a.heap.size) (h2 : p.block ≠ g) : b.cell? p = a.cell? p :=
  World.cell?_of_block (h.block _ h1 (fun e => h2 (by injection e)))
theorem gb_frozen {a b : World} {g : Nat} (h : a.grownBy b (some g)) {p : Addr} (h1 : p.block < a.heap.size) (h2 : p.block ≠ g) : b.frozen? p = a.frozen? p :=
  World.frozen?_of_block (h.block _ h1 (fun e => h2 (by injection e)))
/-- a text goes behind. -/
def nb (s : ByteArray) : List Int := s.data.toList.map fun b => (b.toNat : Int)
theorem nb_len (s : ByteArray) : (nb s).length = s.size := by rw [nb, List.length_map, Array.length_toList]; rfl
theorem nb_vals (s : ByteArray) : vals (nb s) = Lib.strCells s := by simp [vals, nb, Lib.strCells]
theorem wpList_append_text (w : World) {ops : Array Oper} {rest : List Oper} {o : Oper} {a : Act} {Q : Exit → Act → World → Prop} (hgd : o.guard = none) (s x : Operand)
    (ho : o.op = .call { callee := .builtin .append, args := #[s, x], argTypes := #[22, 9] })
    (base : Nat) (v : Value) (n : Nat) (ys : List Int) (hs : a.eval s = v) (hown : OwnB w base v n ys) (t : ByteArray) (hx : a.eval x = .string t)
    (h63 : n + t.size ≤ 1000000000000) (hbase : base ≤ w.heap.size)
    (h : ∀ v' w', OwnB w' base v' (n + t.size) (ys ++ nb t) → w.grownBy w' v.ownBlock → wpList Try.prog ops Q rest (a.put o.dst v') w') : wpList Try.prog ops Q (o :: rest) a w := by
  obtain ⟨i, hi, hz, hs', hb⟩ := info_u8x
  refine Lib.wpList_append_own_string w hgd s x 22 9 ho base 5 i Try.underlying22 Try.underlying9 hi hz hs' hb v n (vals ys) hs hown.1 t hx (by unfold maxLen; omega) (by omega) hbase (fun v' w' h1 h2 h3 => h v' w' ⟨?_, fun e => hown.2 (h3.1 e).1⟩ h2)
  rw [← nb_vals] at h1
  simpa [vals] using h1
/-- zeros go behind. -/
theorem zeroCells_u8 (k : Nat) : (Builtin.zeroCells (Value.int IntKind.u8 0).cells k).toList = vals (List.replicate k 0) := by
  refine List.ext_getElem (by simp [Builtin.zeroCells, vals, Value.cells]) (fun j h1 h2 => ?_)
  simp [Builtin.zeroCells, vals, Value.cells, Nat.mod_one]
theorem run_append_zeros (w : World) (ty : TypeId) (base : Nat) (v : Value) (n : Nat) (ys : List Int) (hown : OwnB w base v n ys) (k : Nat) (h63 : n + k ≤ 1000000000000) (hbase : base ≤ w.heap.size) :
    ∃ v' w', (Builtin.append_ #[22, 3] ty #[v, .int .i64 k]).run Try.prog w = .ok v' w' ∧ OwnB w' base v' (n + k) (ys ++ List.replicate k 0) ∧ w.grownBy w' v.ownBlock := by
  obtain ⟨i, hi, hz, hs, hb⟩ := info_u8x
  have hw : IntKind.i64.wrap (k : Int) = k := by rw [IntKind.wrap_i64]; omega
  have hneg : ¬ ((k : Int) < 0) := by omega
  have h48i : ¬ (281474976710656 < (k : Int)) := by omega
  have hyl := hown.len
  rcases hown.1.2 with ⟨e, _⟩ | ⟨g, cap, cur, rfl, hbg, hg, hnc, hcm, hcs, htake⟩
  · exact absurd e hown.2
  have hcs' : cur.size = cap := by simpa using hcs
  have ht' : cur.toList.take n = vals ys := by simpa using htake
  by_cases hk : k = 0
  · subst hk
    have hw0 : IntKind.i64.wrap 0 = 0 := by decide
    refine ⟨_, w, ?_, by simpa using hown, gb_refl _ _⟩
    simp [Builtin.append_, run_underlying Try.underlying22, run_underlying Try.underlying3, sizeOf, typeInfo, hi, hb, asInt, asIntOf, hnc, storeCells, hw0]
  have hk1 : (n + k) * 1 = (vals ys ++ vals (List.replicate k 0)).length := by simp [vals, hyl]
  have hva : vals (ys ++ List.replicate k 0) = vals ys ++ vals (List.replicate k 0) := by simp [vals]
  by_cases hroom : n + k ≤ cap
  · have hst := run_storeCells_at Try.prog g n 5 (vals (List.replicate k 0)) 0 cur w hg (by simp [vals]; omega) (vals_one _)
    simp only [Nat.add_zero, vals_len, List.length_replicate] at hst
    have hz0 := zeroCells_u8 k
    refine ⟨.slice (some ⟨g, 0, none⟩) (n + k) cap, w.setRow g (cur.toList.take n ++ vals (List.replicate k 0) ++ cur.toList.drop (n + k)).toArray, ?_, ⟨⟨?_, .inr ⟨g, cap, _, rfl, hbg, setRow_heap w g cur _ 5 _ hg, hroom, hcm, ?_, ?_⟩⟩, by simp⟩, ⟨rfl, rfl, rfl, by simp, fun j _ hj => setRow_other w g j _ (fun e => hj (by simp [Value.ownBlock, e]))⟩⟩
    · simp [Builtin.append_, run_underlying Try.underlying22, run_underlying Try.underlying3, sizeOf, typeInfo, zeroValue, hi, hz, hs, hb, asInt, asIntOf, hw, hneg, h48i, hroom, hk, hz0, Addr.add_lit, hst]
    · rw [hva]; exact hk1.symm
    · simp only [List.size_toArray, List.length_append, List.length_take, List.length_drop, Array.length_toList, vals_len, List.length_replicate]
      omega
    · rw [ht', hva, hk1]
      exact List.take_left
  · have holds : ∀ j u, (vals ys)[j]? = some u → w.drew.cell? ((⟨g, 0, none⟩ : Addr).add j) = some u := by
      intro j u hu
      have := hown.1.cells (g := g) rfl j u hu
      simpa using this
    have hfo := run_firstCells_some (P := Try.prog) w.drew i.size n ⟨g, 0, none⟩ n cap (vals ys) (by rw [hs, vals_len, hyl, Nat.mul_one]) holds
    have hr := Lib.run_append_grow_zeros (P := Try.prog) w 22 3 ty 5 i (.int .u8 0) .i64 .i64 Try.underlying22 Try.underlying3 hi hz (some ⟨g, 0, none⟩) n cap (vals ys) hfo k (by omega) (by omega) (by omega) (by omega) (by rw [hb]; omega) (by rw [hb]; exact growslice_fits (by omega) (by omega))
    have hge := grownCap_ge w (n + k) cap 5
    have hcm' : grownCap w (n + k) cap 5 ≤ maxLen := grownCap_le_maxLen w (n + k) cap 5 (by unfold maxLen; omega)
    refine ⟨_, _, hr, ⟨⟨by rw [hva]; exact hk1.symm, .inr ⟨w.heap.size, _, _, rfl, hbase, heap_alloc_new w.drew _, hge, hcm', ?_, ?_⟩⟩, by simp⟩, ⟨rfl, rfl, rfl, by simp, fun j hj _ => Below.heap_alloc w.drew _ j hj⟩⟩
    · have hz1 : (Value.int IntKind.u8 0).cells.size = 1 := rfl
      simp only [Array.size_append, List.size_toArray, size_zeroCells, hz1, vals_len, hyl]
      omega
    · simp only [Array.toList_append, zeroCells_u8, List.append_assoc]
      rw [← List.append_assoc, hva, hk1]
      exact List.take_left
theorem wpList_append_zeros (w : World) {ops : Array Oper} {rest : List Oper} {o : Oper} {a : Act} {Q : Exit → Act → World → Prop} (hgd : o.guard = none) (s x : Operand)
    (ho : o.op = .call { callee := .builtin .append, args := #[s, x], argTypes := #[22, 3] })
    (base : Nat) (v : Value) (n : Nat) (ys : List Int) (hs : a.eval s = v) (hown : OwnB w base v n ys) (k : Nat) (hx : a.eval x = .int .i64 k)
    (h63 : n + k ≤ 1000000000000) (hbase : base ≤ w.heap.size)
    (h : ∀ v' w', OwnB w' base v' (n + k) (ys ++ List.replicate k 0) → w.grownBy w' v.ownBlock → wpList Try.prog ops Q rest (a.put o.dst v') w') : wpList Try.prog ops Q (o :: rest) a w := by
  refine wpList_plain hgd fun K hK => ?_
  obtain ⟨v', w', hr', h2, h3⟩ := run_append_zeros w o.type base v n ys hown k h63 hbase
  unfold Oper.wp execOp
  simp only [ho, resolve, invoke, builtin, Sem.run_bind, Sem.run_pure, Result.andThen_ok, List.map_toArray, List.map_cons, List.map_nil, hs, hx, hr']
  exact hK _ _ (h v' w' h2 h3)
theorem rd_cells {w : World} {b o n : Nat} {ys : List Int} (hy : Rd .u8 w (some ⟨b, o, none⟩) n ys) (hn : 0 < n) : ∀ j u, (vals ys)[j]? = some u → w.cell? ((⟨b, o, none⟩ : Addr).add j) = some u := by
  intro j u hu
  obtain ⟨b', o', e, hc⟩ := hy.2 hn
  injection e with e
  injection e with e1 e2
  subst e1 e2
  have hj : j < ys.length := by
    rcases Nat.lt_or_ge j ys.length with h' | h'
    · exact h'
    · rw [List.getElem?_eq_none (by simpa [vals] using h')] at hu; cases hu
  rw [addr_add, hc j (by have := hy.1; omega)]
  simpa [vals, List.getD, hj] using hu
/-- onto a row that is full, and is not written: a new one is made. -/
theorem run_append_full (w : World) (ty : TypeId) (base : Nat) (b o n : Nat) (ys : List Int) (hy : Rd .u8 w (some ⟨b, o, none⟩) n ys) (hn : 0 < n) (ba oa m c : Nat) (zs : List Int) (hr : Rd .u8 w (some ⟨ba, oa, none⟩) m zs) (hm : 0 < m) (h63 : n + m ≤ 1000000000000) (hbase : base ≤ w.heap.size) :
    ∃ v' w', (Builtin.append_ #[22, 22] ty #[.slice (some ⟨b, o, none⟩) n n, .slice (some ⟨ba, oa, none⟩) m c]).run Try.prog w = .ok v' w' ∧ OwnB w' base v' (n + m) (ys ++ zs) ∧ Below w.heap.size w w' := by
  obtain ⟨i, hi, hz, hs, hb⟩ := info_u8x
  have hva : vals (ys ++ zs) = vals ys ++ vals zs := by simp [vals]
  have hk1 : (n + m) * 1 = (vals ys ++ vals zs).length := by simp [vals, hy.1, hr.1]
  have hrun := run_append_grow (P := Try.prog) w 22 ty 5 i (.int .u8 0) Try.underlying22 hi hz ⟨b, o, none⟩ n n (vals ys) (by rw [hs, vals_len, hy.1, Nat.mul_one]) (rd_cells hy hn) ⟨ba, oa, none⟩ m c (vals zs) (by rw [hs, vals_len, hr.1, Nat.mul_one]) (rd_cells hr hm) (by omega) (by omega) (by rw [hb]; exact growslice_fits (by omega) (by omega))
  have hge := grownCap_ge w (n + m) n 5
  have hcm' : grownCap w (n + m) n 5 ≤ maxLen := grownCap_le_maxLen w (n + m) n 5 (by unfold maxLen; omega)
  refine ⟨_, _, hrun, ⟨⟨by rw [hva]; exact hk1.symm, .inr ⟨w.heap.size, _, _, rfl, hbase, heap_alloc_new w.drew _, hge, hcm', ?_, ?_⟩⟩, by simp⟩, ⟨rfl, rfl, rfl, by simp, fun j hj => Below.heap_alloc w.drew _ j hj⟩⟩
  · have hz1 : (Value.int IntKind.u8 0).cells.size = 1 := rfl
    simp only [Array.size_append, List.size_toArray, size_zeroCells, hz1, vals_len, hy.1, hr.1]
    omega
  · simp only [Array.toList_append, List.append_assoc]
    rw [← List.append_assoc, hva, hk1]
    exact List.take_left
theorem wpList_append_full (w : World) {ops : Array Oper} {rest : List Oper} {op : Oper} {a : Act} {Q : Exit → Act → World → Prop} (hgd : op.guard = none) (s x : Operand)
    (ho : op.op = .call { callee := .builtin .append, args := #[s, x], argTypes := #[22, 22] })
    (base : Nat) (b o n : Nat) (ys : List Int) (hs : a.eval s = .slice (some ⟨b, o, none⟩) n n) (hy : Rd .u8 w (some ⟨b, o, none⟩) n ys) (hn : 0 < n) (ba oa m c : Nat) (zs : List Int) (hx : a.eval x = .slice (some ⟨ba, oa, none⟩) m c) (hr : Rd .u8 w (some ⟨ba, oa, none⟩) m zs) (hm : 0 < m)
    (h63 : n + m ≤ 1000000000000) (hbase : base ≤ w.heap.size)
    (h : ∀ v' w', OwnB w' base v' (n + m) (ys ++ zs) → Below w.heap.size w w' → wpList Try.prog ops Q rest (a.put op.dst v') w') : wpList Try.prog ops Q (op :: rest) a w := by
  refine wpList_plain hgd fun K hK => ?_
  obtain ⟨v', w', hr', h2, h3⟩ := run_append_full w op.type base b o n ys hy hn ba oa m c zs hr hm h63 hbase
  unfold Oper.wp execOp
  simp only [ho, resolve, invoke, builtin, Sem.run_bind, Sem.run_pure, Result.andThen_ok, List.map_toArray, List.map_cons, List.map_nil, hs, hx, hr']
  exact hK _ _ (h v' w' h2 h3)

/-! ### copies -/
theorem setCells_ch (b : Nat) : ∀ (vs : List Value) (o : Nat) (w : World), Ch w (w.setCells b o vs) (· = b)
  | [], _, w => Ch.refl _ _
  | v :: r, o, w => (Ch.setCell w (P := (· = b)) rfl o v).trans (setCells_ch b r (o + 1) _)
/-- what copy lays into a new row. -/
theorem run_copy_new (w : World) (ty : TypeId) (A : Option Addr) (n c : Nat) (xs : List Int) (hr : Rd .u8 w A n xs) :
    (Builtin.copy_ #[22, 22] ty #[.slice (some ⟨w.heap.size, 0, none⟩) n n, .slice A n c]).run Try.prog (w.alloc (.cells (madeCells #[.int .u8 0] n) 5)) =
      .ok (.int .i64 n) ((w.alloc (.cells (madeCells #[.int .u8 0] n) 5)).setCells w.heap.size 0 (vals xs)) := by
  have hs : (Try.prog.info? 5).map (·.size) = some 1 := by kernel_rfl
  rcases Nat.eq_zero_or_pos n with rfl | hn
  · obtain rfl : xs = [] := List.eq_nil_of_length_eq_zero hr.1
    exact run_copy_none _ _ _ _ _ _ _ _ _ _ _ Try.underlying22 hs rfl
  · obtain ⟨b, o, rfl, hc⟩ := hr.2 hn
    have hl : (vals xs).length = n := by rw [vals_len]; exact hr.1
    have := run_copy_cells (P := Try.prog) (w.alloc (.cells (madeCells #[.int .u8 0] n) 5)) 22 22 ty 5 w.heap.size 0 n n ⟨b, o, none⟩ n c (vals xs) Try.underlying22 hs (by rw [hl]; exact (Nat.min_self n).symm)
      (fun j v hj => by
        have hjl : j < xs.length := by
          rcases Nat.lt_or_ge j xs.length with h' | h'
          · exact h'
          · rw [List.getElem?_eq_none (by simpa [vals] using h')] at hj; cases hj
        have hadd := addr_add b o j
        have hcj := hc j (by have := hr.1; omega)
        rw [hadd, World.cell?_alloc_lt _ _ _ (cell_lt hcj), hcj]
        simpa [vals, List.getD, hjl] using hj)
      (fun j hj => by rw [Nat.zero_add, made_cell _ _ _ _ _ (by omega)]; rfl) (fun j _ => by simp) (vals_one xs)
    rw [hl] at this
    exact this
end Go.Proofs.Ythplngcdldongaa
