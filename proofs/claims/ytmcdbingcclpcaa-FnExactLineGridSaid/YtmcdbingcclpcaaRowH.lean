/-
  A list of rows that a call makes by append (RsG): any number of rows, of any lengths, each in memory of its own.
-/
import Derived.Test.YtmcdbingcclpcaaHelpX
import Derived.Test.YtmcdbingcclpcaaGrow
import Derived.Test.YtmcdbingcclpcaaBx
namespace Go.Proofs.Ytmcdbingcclpcaa
open Go.RowKit
set_option linter.unusedVariables false
set_option linter.unusedSimpArgs false

def OwnV (w : World) (base : Nat) (v : Value) (n : Nat) (vs : List Value) : Prop := w.ownsRow base 27 1 v n vs
theorem info_rvx : ∃ i, Try.prog.info? 27 = some i ∧ i.zero = some (.slice none 0 0) ∧ i.size = 1 ∧ i.bytes = 24 := by
  obtain ⟨i, hi, h⟩ := Option.map_eq_some_iff.1 info_rows
  simp only [Prod.mk.injEq] at h
  exact ⟨i, hi, h.1, h.2.1, h.2.2⟩
/-- what an append gives. -/
structure AppV (w w' : World) (base : Nat) (v : Value) (n : Nat) (vs : List Value) (g c : Nat) : Prop where
  own : OwnV w' base (.slice (some ⟨g, 0, none⟩) n c) n vs
  gb : w.grownBy w' v.ownBlock
  d : v.ownBlock = some g ∨ g = w.heap.size
theorem wpList_append_rv (w : World) {ops : Array Oper} {rest : List Oper} {o : Oper} {a : Act} {Q : Exit → Act → World → Prop} (hgd : o.guard = none) (s x : Operand)
    (ho : o.op = .call { callee := .builtin .append, args := #[s, x], argTypes := #[24, 24] })
    (base : Nat) (v : Value) (n : Nat) (ys : List Value) (hs : a.eval s = v) (hown : OwnV w base v n ys) (q c : Nat) (y : Value) (hx : a.eval x = .slice (some ⟨q, 0, none⟩) 1 c) (hq : w.cell? ⟨q, 0, none⟩ = some y) (hy : y.oneCell' = true)
    (h63 : n ≤ 1000000) (hbase : base ≤ w.heap.size)
    (h : ∀ g' c' w', AppV w w' base v (n + 1) (ys ++ [y]) g' c' → wpList Try.prog ops Q rest (a.put o.dst (.slice (some ⟨g', 0, none⟩) (n + 1) c')) w') : wpList Try.prog ops Q (o :: rest) a w := by
  obtain ⟨i, hi, hz, hsz, hby⟩ := info_rvx
  refine wpList_append_own_at w hgd s x 24 ho base 27 i _ 1 24 Try.underlying24 hi hz hsz hby rfl (by omega) v n ys hs hown ⟨q, 0, none⟩ 1 c [y] hx rfl ?_ (fun u hu => by simp at hu; rw [hu]; exact hy) (by unfold maxLen; omega) (by omega) hbase ?_
  · intro j u hj
    match j, hj with
    | 0, hj => obtain rfl := Option.some.inj hj; exact hq
  · intro v' w' a1 a2 a3 a4
    obtain ⟨g', c', hv, -, -⟩ := World.ownsRow.form a1 (by omega)
    subst hv
    refine h g' c' w' ⟨a1, a2, ?_⟩
    rcases a4 with a4 | a4
    · exact .inl a4.symm
    · exact .inr (by injection a4)
structure RsG (W : World) (base : Nat) (v : Value) (n : Nat) (rs : Rws) (lim : Nat) (V : Nat → Value) (lo hi : Nat → Nat) : Prop where
  own : OwnV W base v n ((List.range n).map V)
  len : rs.length = n
  row : ∀ i, i < n → Own W (.ints .i64 (rw_ rs i)) (V i) (lo i) (hi i) ∧ base ≤ lo i ∧ lo i ≤ hi i ∧ hi i ≤ lim ∧ ∀ g, v.ownBlock = some g → g < lo i ∨ hi i ≤ g
  dis : ∀ i j, i < j → j < n → hi i ≤ lo j
  vl : ∀ g, v.ownBlock = some g → g < lim
  bl : base ≤ lim
  ll : lim ≤ W.heap.size
theorem RsG.nil (W : World) (base lim : Nat) (hb : base ≤ lim) (hl : lim ≤ W.heap.size) (V : Nat → Value) (lo hi : Nat → Nat) : RsG W base (.slice none 0 0) 0 [] lim V lo hi :=
  ⟨World.ownsRow_nil _ _ _ _, rfl, fun i h => absurd h (by omega), fun i j _ h => absurd h (by omega), fun g q => by simp [Value.ownBlock] at q, hb, hl⟩
theorem OwnV.block {w w' : World} {base n : Nat} {v : Value} {vs : List Value} (h : OwnV w base v n vs) (hb : ∀ g, v.ownBlock = some g → w'.heap[g]? = w.heap[g]?) : OwnV w' base v n vs := by
  refine ⟨h.1, ?_⟩
  rcases h.2 with hn | ⟨g, cap, cur, rfl, q1, q2, rest⟩
  · exact .inl hn
  · exact .inr ⟨g, cap, cur, rfl, q1, by rw [hb g rfl]; exact q2, rest⟩
theorem Own.block {w w' : World} {d : Dat} {v : Value} {lo hi : Nat} (h : Own w d v lo hi) (hb : ∀ g, lo ≤ g → g < hi → g < w.heap.size → w'.heap[g]? = w.heap[g]?) : Own w' d v lo hi := by
  obtain ⟨bs, a1, a2, a3⟩ := h
  have e : ∀ x ∈ bs, w'.heap[x]? = w.heap[x]? := fun x hx => hb x (a3 x hx).1 (a3 x hx).2.1 (a1.lt x hx)
  exact ⟨bs, a1.keep fun x hx k => World.cell?_of_block (e x hx), a2, fun x hx => ⟨(a3 x hx).1, (a3 x hx).2.1, fun k => by rw [World.frozen?_of_block (a := ⟨x, k, none⟩) (e x hx)]; exact (a3 x hx).2.2 k⟩⟩
/-- what lies between base and lim is as it was. -/
theorem RsG.keep {W W' : World} {base n lim : Nat} {v : Value} {rs : Rws} {V : Nat → Value} {lo hi : Nat → Nat} (h : RsG W base v n rs lim V lo hi) (hb : ∀ g, base ≤ g → g < lim → W'.heap[g]? = W.heap[g]?) (hs : W.heap.size ≤ W'.heap.size) : RsG W' base v n rs lim V lo hi :=
  ⟨h.own.block fun g q => hb g (World.ownsRow.lt h.own g q).1 (h.vl g q), h.len, fun i hi' => by
    obtain ⟨a, b, c, d, e⟩ := h.row i hi'
    exact ⟨a.block fun g g1 g2 _ => hb g (by omega) (by omega), b, c, d, e⟩, h.dis, h.vl, h.bl, Nat.le_trans h.ll hs⟩
theorem RsG.bel {W W' : World} {base n lim : Nat} {v : Value} {rs : Rws} {V : Nat → Value} {lo hi : Nat → Nat} (h : RsG W base v n rs lim V lo hi) (hb : Below lim W W') : RsG W' base v n rs lim V lo hi :=
  h.keep (fun g _ hg => hb.block g hg) hb.size
theorem RsG.below {W W' : World} {base n lim : Nat} {v : Value} {rs : Rws} {V : Nat → Value} {lo hi : Nat → Nat} (h : RsG W base v n rs lim V lo hi) (hb : Below W.heap.size W W') : RsG W' base v n rs lim V lo hi :=
  h.bel (hb.mono h.ll)
/-- one row goes behind. -/
theorem RsG.next {W W' : World} {base n lim lo' hi' g c : Nat} {v x : Value} {rs : Rws} {xs : List Int} {t : TypeId} {V : Nat → Value} {lo hi : Nat → Nat} (h : RsG W base v n rs lim V lo hi) (hr : Own W (.ints .i64 xs) x lo' hi') (hlo : lim ≤ lo') (hle : lo' ≤ hi') (hhi : hi' ≤ W.heap.size)
    (ha : AppV (W.alloc (.cells #[x] t)) W' base v (n + 1) ((List.range n).map V ++ [x]) g c) :
    RsG W' base (.slice (some ⟨g, 0, none⟩) (n + 1) c) (n + 1) (rs ++ [xs]) W'.heap.size (fun j => if j = n then x else V j) (fun j => if j = n then lo' else lo j) (fun j => if j = n then hi' else hi j) := by
  have hs1 : (W.alloc (.cells #[x] t)).heap.size = W.heap.size + 1 := by simp
  have hs2 := ha.gb.size
  have hlt := World.ownsRow.lt ha.own g rfl
  have hd := ha.d
  rw [hs1] at hs2 hd
  have ll := h.ll
  have hl := h.len
  have hblk : ∀ k, k < W.heap.size → v.ownBlock ≠ some k → W'.heap[k]? = W.heap[k]? := fun k hk hn => by
    rw [ha.gb.block k (by rw [hs1]; omega) (fun q => hn q.symm)]
    exact (blAlloc W _).block k hk
  have own1 : ∀ {d : Dat} {u : Value} {a b : Nat}, Own W d u a b → (∀ k, v.ownBlock = some k → k < a ∨ b ≤ k) → Own W' d u a b := fun ho hn => ho.block fun k k1 k2 k3 => hblk k k3 fun q => by
    have := hn k q; omega
  refine ⟨?_, by simp [hl], fun i hi' => ?_, fun i j hij hj => ?_, fun k q => ?_, ?_, Nat.le_refl _⟩
  · have e : (List.range (n + 1)).map (fun j => if j = n then x else V j) = (List.range n).map V ++ [x] := by
      rw [List.range_succ, List.map_append]
      congr 1
      · refine List.map_congr_left fun j hj => ?_
        have : j ≠ n := by have := List.mem_range.1 hj; omega
        simp [this]
      · simp
    rw [e]; exact ha.own
  · by_cases e : i = n
    · subst e
      have er : rw_ (rs ++ [xs]) i = xs := by simp [rw_, List.getD, ← hl]
      simp only [if_true]
      rw [er]
      refine ⟨own1 hr (fun k q => ?_), by have := h.bl; omega, hle, by omega, fun k q => ?_⟩
      · have := h.vl k q; omega
      · have q' : g = k := by injection q
        subst q'
        rcases hd with hd | hd
        · have := h.vl _ hd; omega
        · omega
    · obtain ⟨a, b, c', d, f⟩ := h.row i (by omega)
      have er : rw_ (rs ++ [xs]) i = rw_ rs i := by
        have : i < rs.length := by omega
        simp [rw_, List.getD, List.getElem?_append_left this]
      simp only [if_neg e]
      rw [er]
      refine ⟨own1 a f, b, c', by omega, fun k q => ?_⟩
      have q' : g = k := by injection q
      subst q'
      rcases hd with hd | hd
      · exact f _ hd
      · omega
  · by_cases e : j = n
    · subst e
      simp only [if_true, if_neg (show i ≠ j by omega)]
      have := (h.row i (by omega)).2.2.2.1; omega
    · simp only [if_neg e, if_neg (show i ≠ n by omega)]
      exact h.dis i j hij (by omega)
  · injection q with q
    rw [← q]; exact hlt.2
  · have := h.bl; omega
theorem fam1 {n : Nat} (F : Nat → List Nat) : ((List.range n).flatMap fun i => (List.range 1).flatMap ((fun i _ => F i) i)) = (List.range n).flatMap F := by
  congr 1
  funext i
  simp [List.range_succ]
theorem nodup_fam {F : Nat → List Nat} {lo hi : Nat → Nat} : ∀ {n : Nat}, (∀ i, i < n → (F i).Nodup ∧ ∀ b ∈ F i, lo i ≤ b ∧ b < hi i) → (∀ i j, i < j → j < n → hi i ≤ lo j) → ((List.range n).flatMap F).Nodup := by
  intro n
  induction n with
  | zero => intro _ _; simp
  | succ n ih =>
    intro h1 h2
    rw [List.range_succ, List.flatMap_append, List.nodup_append]
    refine ⟨ih (fun i hi => h1 i (by omega)) (fun i j hij hj => h2 i j hij (by omega)), by simpa using (h1 n (by omega)).1, fun x hx y hy q => ?_⟩
    simp only [List.mem_flatMap, List.mem_range] at hx
    obtain ⟨i, hi', hx⟩ := hx
    have hy' : y ∈ F n := by simpa using hy
    have a := (h1 i (by omega)).2 x hx
    have b := (h1 n (by omega)).2 y hy'
    have := h2 i n hi' (by omega)
    omega
/-- the whole list, in memory of its own. -/
theorem RsG.fin {W : World} {base n lim : Nat} {v : Value} {rs : Rws} {V : Nat → Value} {lo hi : Nat → Nat} (h : RsG W base v n rs lim V lo hi) : Own W (rowsD rs) v base W.heap.size := by
  rcases Nat.eq_zero_or_pos n with rfl | hn
  · obtain rfl : rs = [] := List.eq_nil_of_length_eq_zero h.len
    rcases h.own.2 with ⟨rfl, _⟩ | ⟨g, cap, cur, rfl, _, _, _, q2, _⟩
    · exact Own.snil _ _ _ _ _ _ (Nat.zero_le _)
    · exact Own.snil _ _ _ _ _ _ q2
  · obtain ⟨g, cap, hv, hb, hl⟩ := World.ownsRow.form h.own hn
    subst hv
    have caps : n ≤ cap ∧ cap ≤ maxLen := by
      rcases h.own.2 with ⟨q, _⟩ | ⟨g', cap', cur, q, _, _, q1, q2, _⟩
      · cases q
      · cases q; exact ⟨q1, q2⟩
    have hcell : ∀ j, j < n → W.cell? ⟨g, j, none⟩ = some (V j) := fun j hj => by
      rw [World.ownsRow.cellAt h.own j (by omega)]
      simp [hj]
    have hfr : Thaw W g := fun j => World.ownsRow.frozenAt h.own j
    have ex : ∀ i, ∃ bs, i < n → Hd W (.ints .i64 (rw_ rs i)) (V i) bs ∧ bs.Nodup ∧ ∀ b ∈ bs, lo i ≤ b ∧ b < hi i ∧ Thaw W b := fun i => by
      by_cases hi' : i < n
      · obtain ⟨bs, a1, a2, a3⟩ := (h.row i hi').1
        exact ⟨bs, fun _ => ⟨a1, a2, a3⟩⟩
      · exact ⟨[], fun q => absurd q hi'⟩
    obtain ⟨F, hF⟩ : ∃ F : Nat → List Nat, ∀ i, i < n → Hd W (.ints .i64 (rw_ rs i)) (V i) (F i) ∧ (F i).Nodup ∧ ∀ b ∈ F i, lo i ≤ b ∧ b < hi i ∧ Thaw W b := ⟨fun i => (ex i).choose, fun i hi' => (ex i).choose_spec hi'⟩
    have hd : Hd W (rowsD rs) (.slice (some ⟨g, 0, none⟩) n cap) (g :: (List.range n).flatMap fun i => (List.range 1).flatMap ((fun i _ => F i) i)) := by
      refine .sl 1 g 0 n cap _ (fun i _ => V i) (fun i _ => F i) hn (by omega) (by simp [h.len]) (fun i hi' j hj => ?_) (fun i hi' j hj => ?_) caps.1 caps.2
      · obtain rfl : j = 0 := by omega
        rw [Nat.zero_add, Nat.mul_one, Nat.add_zero]; exact hcell i hi'
      · obtain rfl : j = 0 := by omega
        have := rows_at (rs := rs) (i := i) (by rw [h.len]; exact hi')
        unfold At at this
        rw [this]
        exact (hF i hi').1
    rw [fam1] at hd
    have hin : ∀ x ∈ (List.range n).flatMap F, ∃ i, i < n ∧ lo i ≤ x ∧ x < hi i ∧ Thaw W x := fun x hx => by
      simp only [List.mem_flatMap, List.mem_range] at hx
      obtain ⟨i, hi', hx⟩ := hx
      exact ⟨i, hi', (hF i hi').2.2 x hx⟩
    refine ⟨_, hd, ?_, ?_⟩
    · rw [List.nodup_cons]
      refine ⟨fun hm => ?_, nodup_fam (fun i hi' => ⟨(hF i hi').2.1, fun b hb => ⟨((hF i hi').2.2 b hb).1, ((hF i hi').2.2 b hb).2.1⟩⟩) h.dis⟩
      obtain ⟨i, hi', q1, q2, -⟩ := hin g hm
      have := (h.row i hi').2.2.2.2 g rfl
      omega
    · intro x hx
      rcases List.mem_cons.1 hx with rfl | hx
      · exact ⟨hb, hl, hfr⟩
      · obtain ⟨i, hi', q1, q2, q3⟩ := hin x hx
        have r := h.row i hi'
        have := h.ll
        exact ⟨by omega, by omega, q3⟩
end Go.Proofs.Ytmcdbingcclpcaa
