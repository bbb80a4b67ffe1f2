/-
  Slices of bytes that a call makes: by append (OwnB), by make and copy; contracts of impl.copyBytes and the reference model's l1Copy.
-/
import Derived.Test.YtbbghebpmobfnaaHelpB
import Derived.Maps.AppendAt
import Derived.Laws.AppendOwnNone
import Derived.Laws.IdiomCopy
namespace Go.Proofs.Ytbbghebpmobfnaa
open Go.RowKit
set_option linter.unusedVariables false

def vals (ys : List Int) : List Value := ys.map (Value.int .u8)
theorem vals_len (ys : List Int) : (vals ys).length = ys.length := by simp [vals]
theorem vals_one (ys : List Int) : ∀ u ∈ vals ys, u.oneCell' = true := by
  intro u hu
  simp only [vals, List.mem_map] at hu
  obtain ⟨x, _, rfl⟩ := hu
  rfl
/-- a slice of bytes of the call's own, not nil. -/
def OwnB (w : World) (base : Nat) (v : Value) (n : Nat) (ys : List Int) : Prop := w.ownsRow base 5 1 v n (vals ys) ∧ v ≠ .slice none 0 0
theorem OwnB.form {w : World} {base n : Nat} {v : Value} {ys : List Int} (h : OwnB w base v n ys) : ∃ g cap, v = .slice (some ⟨g, 0, none⟩) n cap ∧ base ≤ g ∧ g < w.heap.size ∧ n ≤ cap ∧ cap ≤ maxLen := by
  rcases h.1.2 with ⟨e, _⟩ | ⟨g, cap, cur, rfl, h1, h2, h3, h4, h5, h6⟩
  · exact absurd e h.2
  · refine ⟨g, cap, rfl, h1, ?_, h3, h4⟩
    rcases Nat.lt_or_ge g w.heap.size with hl | hl
    · exact hl
    · rw [Array.getElem?_eq_none hl] at h2; cases h2
theorem OwnB.len {w : World} {base n : Nat} {v : Value} {ys : List Int} (h : OwnB w base v n ys) : ys.length = n := by have := h.1.1; simpa [vals] using this
theorem OwnB.rd {w : World} {base n g cap : Nat} {ys : List Int} (h : OwnB w base (.slice (some ⟨g, 0, none⟩) n cap) n ys) : Rd .u8 w (some ⟨g, 0, none⟩) n ys := by
  have hl := h.len
  refine ⟨hl, fun _ => ⟨g, 0, rfl, fun i hi => ?_⟩⟩
  have := h.1.cellAt i (by omega)
  rw [Nat.zero_add, this]
  simp [vals, hl, hi]
theorem OwnB.thaw {w : World} {base n g cap : Nat} {ys : List Int} (h : OwnB w base (.slice (some ⟨g, 0, none⟩) n cap) n ys) : Thaw w g := by
  rcases h.1.2 with ⟨e, _⟩ | ⟨g', cap', cur, e, h1, h2, _⟩
  · exact absurd e h.2
  · obtain rfl : g = g' := by injection e with e; injection e with e; injection e
    intro i
    simp [World.frozen?, h2]
/-- it reads as data of one's own. -/
theorem OwnB.own {w : World} {base n : Nat} {v : Value} {ys : List Int} (h : OwnB w base v n ys) : Own w (.ints .u8 ys) v base w.heap.size := by
  obtain ⟨g, cap, rfl, h1, h2, h3, h4⟩ := h.form
  obtain ⟨bs, a, b, c⟩ := Hd.of_rd (c := cap) h.rd h3 h4
  refine ⟨bs, a, b, fun x hx => ?_⟩
  obtain ⟨_, o, e⟩ := c x hx
  obtain rfl : g = x := by injection e with e; injection e
  exact ⟨h1, h2, h.thaw⟩
theorem OwnB.below {w w' : World} {base n : Nat} {v : Value} {ys : List Int} (h : OwnB w base v n ys) (hb : Below w.heap.size w w') : OwnB w' base v n ys := by
  refine ⟨h.1.kept (row := none) ⟨hb.os, hb.tape, hb.output, hb.size, fun k hk _ => hb.block k hk⟩ ?_, h.2⟩
  right
  obtain ⟨g', cap, rfl, h1, _⟩ := h.form
  simp [Value.ownBlock]
theorem OwnB.alloc {w : World} {base n : Nat} {v : Value} {ys : List Int} (h : OwnB w base v n ys) (o : Obj) : OwnB (w.alloc o) base v n ys := h.below (blAlloc _ _)
theorem OwnB.lit (w : World) (ys : List Int) (base n : Nat) (hl : ys.length = n) (hb : base ≤ w.heap.size) (hn : n ≤ maxLen) : OwnB (w.alloc (.cells (vals ys).toArray 5)) base (.slice (some ⟨w.heap.size, 0, none⟩) n n) n ys := by
  subst hl
  refine ⟨?_, by simp⟩
  have := World.ownsRow_lit (e := 5) (size := 1) w (vals ys).toArray ys.length hb hn (by simp [vals])
  simpa using this
theorem gb_refl (w : World) (r : Option Nat) : w.grownBy w r := ⟨rfl, rfl, rfl, Nat.le_refl _, fun _ _ _ => rfl⟩
theorem gb_to_below {a b : World} {g B : Nat} (h : a.grownBy b (some g)) (hB : B ≤ g) (hs : B ≤ a.heap.size) : Below B a b :=
  ⟨h.os, h.tape, h.output, h.size, fun i hi => h.block i (by omega) (fun e => by injection e; omega)⟩
theorem info_u8x : ∃ i, Try.prog.info? 5 = some i ∧ i.zero = some (.int .u8 0) ∧ i.size = 1 ∧ i.bytes = 1 := by
  obtain ⟨i, hi, h⟩ := Option.map_eq_some_iff.1 info_u8
  simp only [Prod.mk.injEq] at h
  exact ⟨i, hi, h.1, h.2.1, h.2.2⟩
theorem run_append_bytes (w : World) (ty : TypeId) (base : Nat) (v : Value) (n : Nat) (ys : List Int) (hown : OwnB w base v n ys) (A : Option Addr) (m c : Nat) (zs : List Int) (hr : Rd .u8 w A m zs) (h63 : n + m ≤ 1000000000000) (hbase : base ≤ w.heap.size) :
    ∃ v' w', (Builtin.append_ #[22, 22] ty #[v, .slice A m c]).run Try.prog w = .ok v' w' ∧ OwnB w' base v' (n + m) (ys ++ zs) ∧ w.grownBy w' v.ownBlock := by
  obtain ⟨i, hi, hz, hs, hb⟩ := info_u8x
  cases A with
  | none =>
    have hm : m = 0 := by
      rcases Nat.eq_zero_or_pos m with h | h
      · exact h
      · obtain ⟨_, _, e, _⟩ := hr.2 h; cases e
    subst hm
    obtain rfl : zs = [] := List.eq_nil_of_length_eq_zero hr.1
    obtain ⟨g, cap, rfl, h1, h2, h3, h4⟩ := hown.form
    refine ⟨_, w, ?_, by simpa using hown, gb_refl _ _⟩
    simp [Builtin.append_, run_underlying Try.underlying22, sizeOf, typeInfo, hi, Builtin.lenOf, Builtin.firstCells, h3, storeCells]
  | some ad =>
    have hcells : ∀ j u, (vals zs)[j]? = some u → w.cell? (ad.add j) = some u := by
      intro j u hu
      rcases Nat.eq_zero_or_pos m with h | h
      · subst h
        obtain rfl : zs = [] := List.eq_nil_of_length_eq_zero hr.1
        simp [vals] at hu
      · obtain ⟨b, o, e, hc⟩ := hr.2 h
        obtain rfl : ad = ⟨b, o, none⟩ := by injection e
        have hj : j < zs.length := by
          rcases Nat.lt_or_ge j zs.length with h' | h'
          · exact h'
          · rw [List.getElem?_eq_none (by simpa [vals] using h')] at hu; cases hu
        have hadd : (⟨b, o, none⟩ : Addr).add j = ⟨b, o + j, none⟩ := by unfold Addr.add; split <;> simp_all
        rw [hadd, hc j (by have := hr.1; omega)]
        simpa [vals, List.getD, hj] using hu
    obtain ⟨v', w', h1, h2, h3, h4, _⟩ := run_append_own_at (P := Try.prog) w base 22 ty 5 i (.int .u8 0) 1 1 Try.underlying22 hi hz hs hb rfl (by omega) v n (vals ys) hown.1 ad m c (vals zs) (by simp [vals, hr.1]) hcells (vals_one zs) (by unfold maxLen; omega) (by omega) hbase
    refine ⟨v', w', h1, ⟨by simpa [vals] using h2, fun e => hown.2 (h4.1 e).1⟩, h3⟩
theorem wpList_append_bytes (w : World) {ops : Array Oper} {rest : List Oper} {o : Oper} {a : Act} {Q : Exit → Act → World → Prop} (hgd : o.guard = none) (s x : Operand)
    (ho : o.op = .call { callee := .builtin .append, args := #[s, x], argTypes := #[22, 22] })
    (base : Nat) (v : Value) (n : Nat) (ys : List Int) (hs : a.eval s = v) (hown : OwnB w base v n ys) (A : Option Addr) (m c : Nat) (zs : List Int) (hx : a.eval x = .slice A m c) (hr : Rd .u8 w A m zs)
    (h63 : n + m ≤ 1000000000000) (hbase : base ≤ w.heap.size)
    (h : ∀ v' w', OwnB w' base v' (n + m) (ys ++ zs) → Below base w w' → wpList Try.prog ops Q rest (a.put o.dst v') w') : wpList Try.prog ops Q (o :: rest) a w := by
  refine wpList_plain hgd fun K hK => ?_
  obtain ⟨v', w', hr', h2, h3⟩ := run_append_bytes w o.type base v n ys hown A m c zs hr h63 hbase
  have hbl : Below base w w' := by
    obtain ⟨g, cap, rfl, k1, k2, _⟩ := hown.form
    exact gb_to_below (g := g) (by simpa [Value.ownBlock] using h3) k1 hbase
  unfold Oper.wp execOp
  simp only [ho, resolve, invoke, builtin, Sem.run_bind, Sem.run_pure, Result.andThen_ok, List.map_toArray, List.map_cons, List.map_nil, hs, hx, hr']
  exact hK _ _ (h v' w' h2 hbl)

/-! ### copies -/
theorem setCells_ch (b : Nat) : ∀ (vs : List Value) (o : Nat) (w : World), Ch w (w.setCells b o vs) (· = b)
  | [], _, w => Ch.refl _ _
  | v :: r, o, w => (Ch.setCell w (P := (· = b)) rfl o v).trans (setCells_ch b r (o + 1) _)
/-- what copy lays into a new row. -/
theorem run_copy_new (w : World) (ty : TypeId) (A : Option Addr) (n c : Nat) (xs : List Int) (hr : Rd .u8 w A n xs) :
    (Builtin.copy_ #[22, 22] ty #[.slice (some ⟨w.heap.size, 0, none⟩) n n, .slice A n c]).run Try.prog (w.alloc (.cells (madeCells #[.int .u8 0] n) 5)) =
      .ok (.int .i64 n) ((w.alloc (.cells (madeCells #[.int .u8 0] n) 5)).setCells w.heap.size 0 (vals xs)) := by
  have hs : (Try.prog.info? 5).map (·.size) = some 1 := by kernel_rfl
  rcases Nat.eq_zero_or_pos n with rfl | hn
  · obtain rfl : xs = [] := List.eq_nil_of_length_eq_zero hr.1
    exact run_copy_none _ _ _ _ _ _ _ _ _ _ _ Try.underlying22 hs rfl
  · obtain ⟨b, o, rfl, hc⟩ := hr.2 hn
    have hl : (vals xs).length = n := by rw [vals_len]; exact hr.1
    have := run_copy_cells (P := Try.prog) (w.alloc (.cells (madeCells #[.int .u8 0] n) 5)) 22 22 ty 5 w.heap.size 0 n n ⟨b, o, none⟩ n c (vals xs) Try.underlying22 hs (by rw [hl]; exact (Nat.min_self n).symm)
      (fun j v hj => by
        have hjl : j < xs.length := by
          rcases Nat.lt_or_ge j xs.length with h' | h'
          · exact h'
          · rw [List.getElem?_eq_none (by simpa [vals] using h')] at hj; cases hj
        have hadd : (⟨b, o, none⟩ : Addr).add j = ⟨b, o + j, none⟩ := by unfold Addr.add; split <;> simp_all
        have hcj := hc j (by have := hr.1; omega)
        rw [hadd, World.cell?_alloc_lt _ _ _ (cell_lt hcj), hcj]
        simpa [vals, List.getD, hjl] using hj)
      (fun j hj => by rw [Nat.zero_add, made_cell _ _ _ _ _ (by omega)]; rfl) (fun j _ => by simp) (vals_one xs)
    rw [hl] at this
    exact this
set_option maxHeartbeats 400000 in
theorem copyBytes_any (A : Option Addr) (n c : Nat) (xs : List Int) (w : World) (h : Rd .u8 w A n xs) (hn : n ≤ 1000000000000) :
    Calls Try.prog 51 #[.slice A n c] w fun e w' => ∃ B, e = .returned (.slice B n n) ∧ Own w' (.ints .u8 xs) (.slice B n n) w.heap.size w'.heap.size ∧ Below w.heap.size w w' := by
  have hmk := run_make_row' (P := Try.prog) 22 5 (.int .u8 0) 1 Try.underlying22 info_u8 rfl .i64 .i64 n (by omega) (by omega)
  have hcp := fun ty => run_copy_new w ty A n c xs h
  have H := Lib.hid h
  clear h
  go_enter Try.func51, Try.ntmps51
  go_wp2_with fail
  go_ret
  have hch := setCells_ch w.heap.size (vals xs) 0 (w.alloc (.cells (madeCells #[.int .u8 0] n) 5))
  refine ⟨_, rfl, ?_, (blAlloc _ _).trans (hch.below (fun k e => by omega) (by simp))⟩
  have hl : (vals xs).length = n := by rw [vals_len]; exact H.out.1
  obtain ⟨bs, h1, h2, h3⟩ := Hd.of_rd (c := n) (k := .u8) (xs := xs) (w := (w.alloc (.cells (madeCells #[.int .u8 0] n) 5)).setCells w.heap.size 0 (vals xs)) (A := some ⟨w.heap.size, 0, none⟩) (n := n) ⟨H.out.1, fun _ => ⟨w.heap.size, 0, rfl, fun i hi => by
    rw [World.cell?_setCells_in w.heap.size (vals xs) 0 _ (fun j hj => by rw [Nat.zero_add, made_cell _ _ _ _ _ (by omega)]; rfl) i (by omega)]
    simp [vals, List.getD, H.out.1, hi]⟩⟩ (Nat.le_refl _) (by unfold maxLen; omega)
  refine ⟨bs, h1, h2, fun b hb => ?_⟩
  obtain ⟨_, o, e⟩ := h3 b hb
  injection e with e
  injection e with e1 e2
  subst e1
  have := hch.size
  simp at this
  exact ⟨Nat.le_refl _, by omega, fun i => by rw [hch.frozen _ _ (by simp)]; simp⟩
set_option maxHeartbeats 400000 in
theorem sCopy_any (A : Option Addr) (n c : Nat) (xs : List Int) (w : World) (h : Rd .u8 w A n xs) (hn : n ≤ 1000000000) :
    Calls Try.prog 57 #[.slice A n c] w fun e w' => ∃ B cp, e = .returned (.slice B n cp) ∧ Own w' (.ints .u8 xs) (.slice B n cp) w.heap.size w'.heap.size ∧ Below w.heap.size w w' := by
  have H := Lib.hid h
  have HO := Lib.hid (OwnB.lit w [] w.heap.size 0 rfl (Nat.le_refl _) (Nat.zero_le _))
  clear h
  go_enter Try.func57, Try.ntmps57
  go_wp2_with (at_builtin; refine wpList_append_bytes _ rfl _ _ rfl w.heap.size _ 0 [] rfl HO.out A n c xs rfl (H.out.alloc _) (by omega) (by simp) ?_; intro v' w1 hown hb)
  rw [Nat.zero_add, List.nil_append] at hown
  obtain ⟨g, cap, rfl, h1, h2, h3, h4⟩ := hown.form
  have HO1 := Lib.hid hown
  have HB := Lib.hid ((blAlloc w (.cells #[] 5)).trans hb)
  clear hown hb
  go_wp2_with fail
  go_ret
  exact ⟨_, _, rfl, HO1.out.own, HB.out⟩
end Go.Proofs.Ytbbghebpmobfnaa
