/-
  A list of rows that a call makes by append, each row by append (RS): the reference model's matrices.
-/
import Derived.Test.YtmcdbingcclpcaaMatU
namespace Go.Proofs.Ytmcdbingcclpcaa
open Go.RowKit
set_option linter.unusedVariables false
set_option linter.unusedSimpArgs false

def OwnW (w : World) (base : Nat) (v : Value) (n : Nat) (vs : List Value) : Prop := w.ownsRow base 27 1 v n vs
theorem info_rowx : ∃ i, Try.prog.info? 27 = some i ∧ i.zero = some (.slice none 0 0) ∧ i.size = 1 ∧ i.bytes = 24 := by
  obtain ⟨i, hi, h⟩ := Option.map_eq_some_iff.1 info_rows
  simp only [Prod.mk.injEq] at h
  exact ⟨i, hi, h.1, h.2.1, h.2.2⟩
theorem wpList_append_row (w : World) {ops : Array Oper} {rest : List Oper} {o : Oper} {a : Act} {Q : Exit → Act → World → Prop} (hgd : o.guard = none) (s x : Operand)
    (ho : o.op = .call { callee := .builtin .append, args := #[s, x], argTypes := #[24, 24] })
    (base : Nat) (v : Value) (n n1 : Nat) (hn1 : n1 = n + 1) (ys : List Value) (hs : a.eval s = v) (hown : OwnW w base v n ys) (q c : Nat) (y : Value) (hx : a.eval x = .slice (some ⟨q, 0, none⟩) 1 c) (hq : w.cell? ⟨q, 0, none⟩ = some y) (hy : y.oneCell' = true)
    (h63 : n ≤ 1000000) (hbase : base ≤ w.heap.size)
    (h : ∀ g' c' w', OwnW w' base (.slice (some ⟨g', 0, none⟩) n1 c') n1 (ys ++ [y]) → w.grownBy w' v.ownBlock → Hid ((Value.slice (some ⟨g', 0, none⟩) n1 c').ownBlock = v.ownBlock ∨ (Value.slice (some ⟨g', 0, none⟩) n1 c').ownBlock = some w.heap.size) → wpList Try.prog ops Q rest (a.put o.dst (.slice (some ⟨g', 0, none⟩) n1 c')) w') : wpList Try.prog ops Q (o :: rest) a w := by
  subst hn1
  obtain ⟨i, hi, hz, hsz, hby⟩ := info_rowx
  refine wpList_append_own_at w hgd s x 24 ho base 27 i _ 1 24 Try.underlying24 hi hz hsz hby rfl (by omega) v n ys hs hown ⟨q, 0, none⟩ 1 c [y] hx rfl ?_ (fun u hu => by simp at hu; rw [hu]; exact hy) (by unfold maxLen; omega) (by omega) hbase ?_
  · intro j u hj
    match j, hj with
    | 0, hj => obtain rfl := Option.some.inj hj; exact hq
  · intro v' w' a1 a2 a3 a4
    obtain ⟨g', c', hv, -, -⟩ := World.ownsRow.form a1 (by omega)
    subst hv
    exact h g' c' w' a1 a2 (Lib.hid a4)
def rowVs (gs cs : Nat → Nat) (i : Nat) : List Value := (List.range i).map fun j => .slice (some ⟨gs j, 0, none⟩) 3 (cs j)
theorem rowVs_next (gs cs : Nat → Nat) (i : Nat) : rowVs gs cs (i + 1) = rowVs gs cs i ++ [.slice (some ⟨gs i, 0, none⟩) 3 (cs i)] := by unfold rowVs; rw [List.range_succ, List.map_append]; rfl
theorem OwnW.low {w w' : World} {base n lim : Nat} {v : Value} {vs : List Value} (h : OwnW w base v n vs) (hb : Below lim w w') (hl : ∀ g, v.ownBlock = some g → g < lim) : OwnW w' base v n vs := by
  refine ⟨h.1, ?_⟩
  rcases h.2 with hn | ⟨g, cap, cur, rfl, q1, q2, rest⟩
  · exact .inl hn
  · exact .inr ⟨g, cap, cur, rfl, q1, by rw [hb.block g (hl g rfl)]; exact q2, rest⟩
theorem Own.low {w w' : World} {d : Dat} {v : Value} {lo hi lim : Nat} (h : Own w d v lo hi) (hb : Below lim w w') (hl : hi ≤ lim) : Own w' d v lo hi := by
  obtain ⟨bs, a1, a2, a3⟩ := h
  refine ⟨bs, a1.keep fun x hx k => hb.cell (p := ⟨x, k, none⟩) (by have := (a3 x hx).2.1; show x < lim; omega), a2, fun x hx => ⟨(a3 x hx).1, (a3 x hx).2.1, fun k => ?_⟩⟩
  rw [hb.frozen (p := ⟨x, k, none⟩) (by have := (a3 x hx).2.1; show x < lim; omega)]
  exact (a3 x hx).2.2 k
theorem Own.grown {w w' : World} {d : Dat} {v : Value} {g : Nat} {q : Option Nat} (h : Own w d v g (g + 1)) (hg : w.grownBy w' q) (hn : q ≠ some g) : Own w' d v g (g + 1) := by
  obtain ⟨bs, a1, a2, a3⟩ := h
  have e : ∀ x ∈ bs, w'.heap[x]? = w.heap[x]? := fun x hx => by
    have h1 := (a3 x hx).1; have h2 := (a3 x hx).2.1
    obtain rfl : x = g := by omega
    exact hg.block x (a1.lt x hx) (fun e => hn e.symm)
  exact ⟨bs, a1.keep fun x hx k => World.cell?_of_block (e x hx), a2, fun x hx => ⟨(a3 x hx).1, (a3 x hx).2.1, fun k => by rw [World.frozen?_of_block (a := ⟨x, k, none⟩) (e x hx)]; exact (a3 x hx).2.2 k⟩⟩
theorem Bx.grown {w w' : World} {b : Nat} {l : List Value} {q : Option Nat} (h : Bx w b l) (hg : w.grownBy w' q) (hn : q ≠ some b) : Bx w' b l := by
  have e := hg.block b h.lt (fun e => hn e.symm)
  exact ⟨Nat.lt_of_lt_of_le h.lt hg.size, fun k => by rw [World.frozen?_of_block (a := ⟨b, k, none⟩) e]; exact h.th k, fun j v hv => by rw [World.cell?_of_block (a := ⟨b, j, none⟩) e]; exact h.at_ j v hv⟩
theorem Bx.low {w w' : World} {b lim : Nat} {l : List Value} (h : Bx w b l) (hb : Below lim w w') (hl : b < lim) : Bx w' b l :=
  ⟨Nat.lt_of_lt_of_le h.lt hb.size, fun j => by rw [hb.frozen (p := ⟨b, j, none⟩) hl]; exact h.th j, fun j v e => by rw [hb.cell (p := ⟨b, j, none⟩) hl]; exact h.at_ j v e⟩
theorem OwnI.own1 {w : World} {base n g c : Nat} {ys : List Int} (h : OwnI w base (.slice (some ⟨g, 0, none⟩) n c) n ys) : Own w (.ints .i64 ys) (.slice (some ⟨g, 0, none⟩) n c) g (g + 1) := by
  obtain ⟨bs, a1, a2, a3⟩ := h.own
  refine ⟨bs, a1, a2, fun x hx => ?_⟩
  obtain ⟨A', n', c', e, _, _, _, q | ⟨b', o', _, e2, e3⟩⟩ := a1.ints_inv
  · rw [q.2] at hx; cases hx
  · cases e
    injection e2 with e2
    injection e2 with e2 _
    rw [e3] at hx
    obtain rfl : x = b' := by simpa using hx
    subst e2
    exact ⟨Nat.le_refl _, by omega, (a3 _ (by rw [e3]; simp)).2.2⟩
def upN (f : Nat → Nat) (i v : Nat) : Nat → Nat := fun j => if j = i then v else f j
def upL (f : Nat → List Int) (i : Nat) (v : List Int) : Nat → List Int := fun j => if j = i then v else f j
theorem rowVs_up (gs cs : Nat → Nat) (i g c : Nat) : rowVs (upN gs i g) (upN cs i c) (i + 1) = rowVs gs cs i ++ [.slice (some ⟨g, 0, none⟩) 3 c] := by
  rw [rowVs_next]
  have e : rowVs (upN gs i g) (upN cs i c) i = rowVs gs cs i := by
    unfold rowVs
    refine List.map_congr_left fun j hj => ?_
    have : j ≠ i := by have := List.mem_range.1 hj; omega
    simp [upN, this]
  rw [e]
  simp [upN]
/-- i rows have been laid; every block that counts lies below lim. -/
structure RS (w W : World) (lim ob : Nat) (vR : Value) (i : Nat) (gs cs : Nat → Nat) (xs : Nat → List Int) (rb : Nat) (rl : List Value) (lb : Nat) : Prop where
  o : Bx W ob [vR]
  wb : w.heap.size ≤ lb ∧ rb < lb ∧ ob < lb ∧ lb ≤ lim
  r : Bx W rb rl
  rlim : rb < lim ∧ ob ≠ rb ∧ vR.ownBlock ≠ some rb
  rows : OwnW W lb vR i (rowVs gs cs i)
  done : ∀ j, j < i → Own W (.ints .i64 (xs j)) (.slice (some ⟨gs j, 0, none⟩) 3 (cs j)) (gs j) (gs j + 1) ∧ lb ≤ gs j ∧ gs j < lim ∧ vR.ownBlock ≠ some (gs j) ∧ ob ≠ gs j
  dis : ∀ j k, j < k → k < i → gs j ≠ gs k
  b : Below w.heap.size w W
  ol : ob < lim
  wl : w.heap.size ≤ ob
  on : vR.ownBlock ≠ some ob
  vl : ∀ g, vR.ownBlock = some g → g < lim
  ll : lim ≤ W.heap.size
theorem RS.bel {w W W' : World} {lim ob : Nat} {vR : Value} {i : Nat} {gs cs : Nat → Nat} {xs : Nat → List Int} {rb : Nat} {rl : List Value} {lb : Nat} (h : RS w W lim ob vR i gs cs xs rb rl lb) (hb : Below lim W W') : RS w W' lim ob vR i gs cs xs rb rl lb :=
  ⟨h.o.low hb h.ol, h.wb, h.r.low hb h.rlim.1, h.rlim, h.rows.low hb h.vl, fun j hj => ⟨(h.done j hj).1.low hb (h.done j hj).2.2.1, (h.done j hj).2⟩, h.dis, h.b.trans (hb.mono (Nat.le_trans h.wl (Nat.le_of_lt h.ol))), h.ol, h.wl, h.on, h.vl, Nat.le_trans h.ll hb.size⟩
/-- one row more has gone behind. -/
theorem RS.next {w W w' W' : World} {lim ob g c : Nat} {vR v' : Value} {i : Nat} {gs cs : Nat → Nat} {xs : Nat → List Int} {ys : List Int} {t : TypeId} {rb : Nat} {rl : List Value} {lb : Nat} (h : RS w W lim ob vR i gs cs xs rb rl lb) (hr : OwnI W lim (.slice (some ⟨g, 0, none⟩) 3 c) 3 ys)
    (hw : OwnW w' lb v' (i + 1) (rowVs gs cs i ++ [.slice (some ⟨g, 0, none⟩) 3 c])) (hg : (W.alloc (.cells #[.slice (some ⟨g, 0, none⟩) 3 c] t)).grownBy w' vR.ownBlock) (hd : v'.ownBlock = vR.ownBlock ∨ v'.ownBlock = some (W.alloc (.cells #[.slice (some ⟨g, 0, none⟩) 3 c] t)).heap.size)
    (e : W' = w'.setCell ⟨ob, 0, none⟩ v') : RS w W' W'.heap.size ob v' (i + 1) (upN gs i g) (upN cs i c) (upL xs i ys) rb rl lb := by
  obtain ⟨g1, g2⟩ := World.ownsRow.lt hr g rfl
  have hs1 : (W.alloc (.cells #[.slice (some ⟨g, 0, none⟩) 3 c] t)).heap.size = W.heap.size + 1 := by simp
  rw [hs1] at hd
  have hs2 := hg.size
  rw [hs1] at hs2
  have hs3 : W'.heap.size = w'.heap.size := by rw [e, setSize]
  have ol := h.ol; have wl := h.wl; have ll := h.ll; obtain ⟨wb1, wb2, wb3, wb4⟩ := h.wb
  have on' : v'.ownBlock ≠ some ob := fun q => by
    rcases hd with d | d
    · exact h.on (by rw [← d]; exact q)
    · rw [d] at q; injection q with q; omega
  have low : Below w.heap.size w w' := by
    have hb := h.b
    refine (blThenAlloc hb _).trans ⟨hg.os, hg.tape, hg.output, hg.size, fun k hk => hg.block k (by rw [hs1]; have := hb.size; omega) (fun q => by
      have := (World.ownsRow.lt h.rows k q.symm).1; omega)⟩
  obtain ⟨r1, r2, r4⟩ := h.rlim
  refine ⟨?_, ⟨by omega, by omega, by omega, by omega⟩, ?_, ⟨by omega, r2, fun q => ?_⟩, ?_, ?_, ?_, ?_, by omega, wl, on', ?_, Nat.le_refl _⟩
  · rw [e]; exact ((h.o.alloc _).grown hg h.on).set 0 v'
  · rw [e]; exact ((h.r.alloc _).grown hg r4).oth r2 0 v'
  · rcases hd with d | d
    · exact r4 (by rw [← d]; exact q)
    · rw [d] at q; injection q with q; omega
  · rw [rowVs_up, e]
    exact World.ownsRow.kept hw (row := some ob) ⟨rfl, rfl, rfl, by simp [World.setCell], fun k _ hn => Below.heap_setCell _ _ _ _ (fun q => hn (by rw [q]))⟩ (.inr on')
  · intro j hj
    by_cases ej : j = i
    · subst ej
      have k0 : vR.ownBlock ≠ some g := fun q => by have := h.vl g q; omega
      simp only [upN, upL, if_true]
      refine ⟨?_, by omega, by omega, fun q => ?_, by omega⟩
      · rw [e]; exact (((hr.own1).alloc _).grown hg k0).set (b := ob) (by omega) 0 v'
      · rcases hd with d | d
        · exact k0 (by rw [← d]; exact q)
        · rw [d] at q; injection q with q; omega
    · obtain ⟨a, b, cc, d, f⟩ := h.done j (by omega)
      simp only [upN, upL, if_neg ej]
      refine ⟨?_, b, by omega, fun q => ?_, f⟩
      · rw [e]; exact ((a.alloc _).grown hg d).set (b := ob) (by omega) 0 v'
      · rcases hd with d' | d'
        · exact d (by rw [← d']; exact q)
        · rw [d'] at q; injection q with q; omega
  · intro j k hjk hk
    by_cases ek : k = i
    · subst ek
      have := (h.done j hjk).2.2.1
      simp only [upN, if_true, if_neg (show j ≠ k by omega)]
      omega
    · simp only [upN, if_neg ek, if_neg (show j ≠ i by omega)]
      exact h.dis j k hjk (by omega)
  · rw [e]; exact low.setCell (by simpa using wl) v'
  · intro q hq
    rcases hd with d | d
    · have := h.vl q (by rw [← d]; exact hq); omega
    · rw [d] at hq; injection hq with hq
      have := (World.ownsRow.lt hw q (by rw [d, hq])).2
      omega
/-- three rows: a matrix of one's own. -/
theorem RS.own {w W : World} {lim ob : Nat} {vR : Value} {gs cs : Nat → Nat} {xs : Nat → List Int} {rb : Nat} {rl : List Value} {lb : Nat} (h : RS w W lim ob vR 3 gs cs xs rb rl lb) : ∃ g cap, vR = .slice (some ⟨g, 0, none⟩) 3 cap ∧ Own W (rowsD [xs 0, xs 1, xs 2]) vR lb W.heap.size := by
  obtain ⟨g, cap, hv, hb, hl⟩ := World.ownsRow.form h.rows (by omega)
  subst hv
  refine ⟨g, cap, rfl, ?_⟩
  obtain ⟨k0, a0, b0, c0, d0⟩ := h.done 0 (by omega)
  obtain ⟨k1, a1, b1, c1, d1⟩ := h.done 1 (by omega)
  obtain ⟨k2, a2, b2, c2, d2⟩ := h.done 2 (by omega)
  have e01 := h.dis 0 1 (by omega) (by omega)
  have e02 := h.dis 0 2 (by omega) (by omega)
  have e12 := h.dis 1 2 (by omega) (by omega)
  have n0 : g ≠ gs 0 := fun q => c0 (by rw [← q]; rfl)
  have n1 : g ≠ gs 1 := fun q => c1 (by rw [← q]; rfl)
  have n2 : g ≠ gs 2 := fun q => c2 (by rw [← q]; rfl)
  have ll := h.ll
  have caps : 3 ≤ cap ∧ cap ≤ maxLen := by
    rcases h.rows.2 with ⟨q, _⟩ | ⟨g', cap', cur, q, _, _, q1, q2, _⟩
    · cases q
    · cases q; exact ⟨q1, q2⟩
  have hcell : ∀ j, j < 3 → W.cell? ⟨g, j, none⟩ = some (.slice (some ⟨gs j, 0, none⟩) 3 (cs j)) := fun j hj => by
    rw [World.ownsRow.cellAt h.rows j (by omega)]
    simp [rowVs, hj]
  have hfr : Thaw W g := fun j => World.ownsRow.frozenAt h.rows j
  obtain ⟨bs0, p0, nd0, in0⟩ := k0
  obtain ⟨bs1, p1, nd1, in1⟩ := k1
  obtain ⟨bs2, p2, nd2, in2⟩ := k2
  have hd : Hd W (rowsD [xs 0, xs 1, xs 2]) (.slice (some ⟨g, 0, none⟩) 3 cap) (g :: (List.range 3).flatMap fun i => (List.range 1).flatMap ((fun i _ => if i = 0 then bs0 else if i = 1 then bs1 else bs2) i)) := by
    refine .sl 1 g 0 3 cap _ (fun i _ => .slice (some ⟨gs i, 0, none⟩) 3 (cs i)) (fun i _ => if i = 0 then bs0 else if i = 1 then bs1 else bs2) (by omega) (by omega) (by simp) (fun i hi j hj => ?_) (fun i hi j hj => ?_) caps.1 caps.2
    · obtain rfl : j = 0 := by omega
      rw [Nat.zero_add, Nat.mul_one, Nat.add_zero]; exact hcell i hi
    · obtain rfl : j = 0 := by omega
      match i, hi with
      | 0, _ => exact p0
      | 1, _ => exact p1
      | 2, _ => exact p2
  have e : ((List.range 3).flatMap fun i => (List.range 1).flatMap ((fun i _ => if i = 0 then bs0 else if i = 1 then bs1 else bs2) i)) = bs0 ++ (bs1 ++ bs2) := by
    simp [List.range_succ]
  rw [e] at hd
  refine ⟨_, hd, ?_, ?_⟩
  · rw [List.nodup_cons, List.nodup_append, List.nodup_append]
    refine ⟨?_, nd0, ⟨nd1, nd2, ?_⟩, ?_⟩
    · intro hm
      simp only [List.mem_append] at hm
      rcases hm with hm | hm | hm
      · have := (in0 g hm); omega
      · have := (in1 g hm); omega
      · have := (in2 g hm); omega
    · intro x hx y hy q
      subst q
      have := (in1 x hx); have := (in2 x hy); omega
    · intro x hx y hy q
      subst q
      simp only [List.mem_append] at hy
      have := (in0 x hx)
      rcases hy with hy | hy
      · have := (in1 x hy); omega
      · have := (in2 x hy); omega
  · intro x hx
    simp only [List.mem_cons, List.mem_append] at hx
    rcases hx with rfl | hx | hx | hx
    · exact ⟨hb, hl, hfr⟩
    · obtain ⟨p, q, r⟩ := in0 x hx; exact ⟨by omega, by omega, r⟩
    · obtain ⟨p, q, r⟩ := in1 x hx; exact ⟨by omega, by omega, r⟩
    · obtain ⟨p, q, r⟩ := in2 x hx; exact ⟨by omega, by omega, r⟩
theorem RS.start (w : World) (t : TypeId) (x : Value) (t2 : TypeId) : RS w ((w.alloc (.cells #[x] t)).alloc (.cells #[.slice none 0 0] t2)) (w.heap.size + 2) (w.heap.size + 1) (.slice none 0 0) 0 (fun _ => 0) (fun _ => 0) (fun _ => []) w.heap.size [x] (w.heap.size + 2) :=
  ⟨Bx.new _ _ _ (by simp), ⟨by omega, by omega, by omega, by omega⟩, (Bx.new _ _ _ rfl).alloc _, ⟨by omega, by omega, by simp [Value.ownBlock]⟩, World.ownsRow_nil _ _ _ _, fun j hj => absurd hj (by omega), fun j k _ hk => absurd hk (by omega), blThenAlloc (blAlloc _ _) _, by omega, by omega, by simp [Value.ownBlock], fun g q => by simp [Value.ownBlock] at q, by simp⟩
theorem RS.begin (V : World) (t : TypeId) {rb : Nat} {rl : List Value} (h : Bx V rb rl) : RS V (V.alloc (.cells #[.slice none 0 0] t)) (V.alloc (.cells #[.slice none 0 0] t)).heap.size V.heap.size (.slice none 0 0) 0 (fun _ => 0) (fun _ => 0) (fun _ => []) rb rl (V.heap.size + 1) := by
  have hs : (V.alloc (.cells #[.slice none 0 0] t)).heap.size = V.heap.size + 1 := by simp
  have := h.lt
  exact ⟨Bx.new _ _ _ rfl, ⟨by omega, by omega, by omega, by omega⟩, h.alloc _, ⟨by omega, by omega, by simp [Value.ownBlock]⟩, World.ownsRow_nil _ _ _ _, fun j hj => absurd hj (by omega), fun j k _ hk => absurd hk (by omega), blAlloc _ _, by omega, Nat.le_refl _, by simp [Value.ownBlock], fun g q => by simp [Value.ownBlock] at q, Nat.le_refl _⟩
end Go.Proofs.Ytmcdbingcclpcaa
