/-
  JoinChains, by the program: chainAnswer, slices.Concat.
-/
import Derived.Lib.AppendZeros
import Derived.Test.YtlfdpambbgddoaaGreatJonA
namespace Go.Proofs.YtlfdpambbgddoaaGreat
open Go.RowKit Go.Maps
set_option linter.unusedVariables false
set_option linter.unusedSimpArgs false

theorem take_stg {ts : List Stg} {k : Nat} (h : k < ts.length) : ts.take (k + 1) = ts.take k ++ [st_ ts k] := by
  rw [List.take_succ_eq_append_getElem h]
  simp [st_, List.getD, h]
def CcAns (w : World) (ts : List Stg) (e : Ending) (w' : World) : Prop := ∃ A n c, e = .returned (.agg #[.slice A n c]) ∧ Own w' (chD ts) (.slice A n c) w.heap.size w'.heap.size ∧ Below w.heap.size w w'
/-! ### slices.Concat of two -/
theorem zeroCells_stg (k : Nat) : (Builtin.zeroCells Value.nilIface.cells k).size = k := by simp [Builtin.zeroCells, Value.cells]
def GwAns (w : World) (e : Ending) (w' : World) : Prop := ∃ A c, e = .returned (.slice A 0 c) ∧ OwnSv w' w.heap.size (.slice A 0 c) 0 [] ∧ Below w.heap.size w w'
theorem run_append_rows {ts T : TypeId} {m0 by_ : Nat} (E : Ety ts T m0 by_) (w : World) (ty : TypeId) (base : Nat) (v : Value) (n : Nat) (xs : List Value) (hown : w.ownsRow base T m0 v n xs) (A : Option Addr) (m c : Nat) (news : List Value) (hl : news.length = m * m0)
    (hc : 0 < m → ∃ b o, A = some ⟨b, o, none⟩ ∧ ∀ j u, news[j]? = some u → w.cell? ⟨b, o + j, none⟩ = some u) (h1 : ∀ u ∈ news, u.oneCell' = true) (h63 : n + m ≤ 1000000) (hbase : base ≤ w.heap.size) :
    ∃ v' w', (Builtin.append_ #[ts, ts] ty #[v, .slice A m c]).run Tryz.prog w = .ok v' w' ∧ w'.ownsRow base T m0 v' (n + m) (xs ++ news) ∧ w.grownBy w' v.ownBlock ∧ (v'.ownBlock = v.ownBlock ∨ v'.ownBlock = some w.heap.size) := by
  obtain ⟨i, z, hi, hz, hs, hb, hzs⟩ := E.inf
  cases A with
  | none =>
    have hm : m = 0 := by
      rcases Nat.eq_zero_or_pos m with h | h
      · exact h
      · obtain ⟨_, _, e, _⟩ := hc h; cases e
    subst hm
    obtain rfl : news = [] := List.eq_nil_of_length_eq_zero (by omega)
    refine ⟨v, w, ?_, by simpa using hown, ⟨rfl, rfl, rfl, Nat.le_refl _, fun _ _ _ => rfl⟩, .inl rfl⟩
    rcases hown.2 with ⟨rfl, rfl⟩ | ⟨g, cap, cur, rfl, b1, b2, b3, b4, b5, b6⟩
    · simp [Builtin.append_, run_underlying E.u, sizeOf, typeInfo, hi, Builtin.lenOf, Builtin.firstCells, storeCells]
    · simp [Builtin.append_, run_underlying E.u, sizeOf, typeInfo, hi, Builtin.lenOf, Builtin.firstCells, b3, storeCells]
  | some ad =>
    have hby : (n + m) * by_ ≤ 140737488355328 := Nat.le_trans (Nat.mul_le_mul h63 E.le) (by omega)
    obtain ⟨v', w', e1, e2, e3, e4, e5⟩ := run_append_own_at (P := Tryz.prog) w base ts ty T i z m0 by_ E.u hi hz hs hb hzs E.pos v n _ hown ad m c news hl (by
      intro j u hj
      have hm : 0 < m := by
        rcases Nat.eq_zero_or_pos m with h | h
        · subst h
          obtain rfl : news = [] := List.eq_nil_of_length_eq_zero (by omega)
          simp at hj
        · exact h
      obtain ⟨b, o, e, hcc⟩ := hc hm
      obtain rfl : ad = ⟨b, o, none⟩ := by injection e
      have hadd : ((⟨b, o, none⟩ : Addr).add j) = ⟨b, o + j, none⟩ := by unfold Addr.add; split <;> simp_all
      rw [hadd]
      exact hcc j u hj) h1 (by unfold maxLen; omega) hby hbase
    exact ⟨v', w', e1, e2, e3, e5⟩
theorem ety_st : Ety 59 64 1 16 := by
  obtain ⟨i, hi, hz, hs, hb⟩ := info_stg
  exact ⟨Tryz.underlying59, ⟨i, _, hi, hz, hs, hb, rfl⟩, by omega, by omega⟩
/-- the values of the stages, as many as there are. -/
def nvs (vs : List Value) (n : Nat) : List Value := (List.range n).map fun i => vs.getD i undef
theorem nvs_len (vs : List Value) (n : Nat) : (nvs vs n).length = n := by simp [nvs]
theorem nvs_get {vs : List Value} {n i : Nat} (h : i < n) : (nvs vs n).getD i undef = vs.getD i undef := by simp [nvs, List.getD, h]
theorem IsStg.one {w : World} {t : Stg} {v : Value} (h : IsStg w t v) : v.oneCell' = true := by
  obtain ⟨hs, A1, n1, c1, A2, n2, c2, A3, n3, c3, V, -⟩ := h
  rcases stF_kinds hs with k | k | k
  · rw [V.one k]; rfl
  · rw [V.two k]; rfl
  · rw [V.thr k]; rfl
theorem wpList_append_sts (w : World) {ops : Array Oper} {rest : List Oper} {o : Oper} {a : Act} {Q : Exit → Act → World → Prop} (hgd : o.guard = none) (s x : Operand)
    (ho : o.op = .call { callee := .builtin .append, args := #[s, x], argTypes := #[59, 59] })
    (base : Nat) (v : Value) (n : Nat) (ys : List Value) (hs : a.eval s = v) (hown : OwnSv w base v n ys) (ts : List Stg) (A : Option Addr) (m c : Nat) (vs : List Value) (hx : a.eval x = .slice A m c) (hst : Sts w ts A m vs)
    (h63 : n + m ≤ 1000000) (hbase : base ≤ w.heap.size)
    (K : ∀ v' w', OwnSv w' base v' (n + m) (ys ++ nvs vs m) → Below base w w' → wpList Tryz.prog ops Q rest (a.put o.dst v') w') : wpList Tryz.prog ops Q (o :: rest) a w := by
  obtain ⟨v', w', e1, e2, e3, -⟩ := run_append_rows ety_st w o.type base v n ys hown A m c (nvs vs m) (by rw [nvs_len]; omega) (fun hm => by
    obtain ⟨b, e, -⟩ := hst.at_ 0 hm
    refine ⟨b, 0, e, fun j u hj => ?_⟩
    have hjm : j < m := by
      have := (List.getElem?_eq_some_iff.1 hj).1
      rwa [nvs_len] at this
    obtain ⟨b', e', hc⟩ := hst.at_ j hjm
    rw [e] at e'
    cases e'
    have hu : u = vs.getD j undef := by
      rw [← nvs_get (vs := vs) hjm]
      simp [List.getD, hj]
    rw [hu, Nat.zero_add]
    exact hc) (fun u hu => by
    simp only [nvs, List.mem_map, List.mem_range] at hu
    obtain ⟨j, hj, rfl⟩ := hu
    exact (hst.st j hj).one) h63 hbase
  refine wpList_plain hgd fun K' hK => ?_
  unfold Oper.wp execOp
  simp only [ho, resolve, invoke, builtin, Sem.run_bind, Sem.run_pure, Result.andThen_ok, List.map_toArray, List.map_cons, List.map_nil, hs, hx, e1]
  exact hK _ _ (K v' w' e2 (gb_low' e3 (fun g hg => (World.ownsRow.lt hown g hg).1) (Nat.le_refl _) hbase))
theorem st_appl {ts us : List Stg} {i : Nat} (h : i < ts.length) : st_ (ts ++ us) i = st_ ts i := by unfold st_; rw [List.getD, List.getElem?_append_left h]; rfl
theorem st_appr {ts us : List Stg} {i : Nat} (h : ts.length ≤ i) : st_ (ts ++ us) i = st_ us (i - ts.length) := by unfold st_; rw [List.getD, List.getElem?_append_right h]; rfl
theorem nvs_appl {vs us : List Value} {n m i : Nat} (h : i < n) : (nvs vs n ++ nvs us m).getD i undef = vs.getD i undef := by
  rw [List.getD, List.getElem?_append_left (by rw [nvs_len]; exact h)]
  exact nvs_get h
theorem nvs_appr {vs us : List Value} {n m i : Nat} (h : n ≤ i) (h2 : i < n + m) : (nvs vs n ++ nvs us m).getD i undef = us.getD (i - n) undef := by
  rw [List.getD, List.getElem?_append_right (by rw [nvs_len]; exact h), nvs_len]
  exact nvs_get (by omega)
def CatAns (w : World) (ts : List Stg) (e : Ending) (w' : World) : Prop := ∃ A c vs, e = .returned (.slice A ts.length c) ∧ Sts w' ts A ts.length vs ∧ Below w.heap.size w w'
/-! ### JoinChains -/
def joC (ts us : List Stg) : Int := if chf ts = 0 then (if chf us = 0 then (if 5 < ts.length + us.length then 2 else 0) else chf us) else chf ts
def joL (ts us : List Stg) : List Stg := if joC ts us = 0 then ts ++ us else []
theorem joL_n {ts us : List Stg} (h : joC ts us ≠ 0) : joL ts us = [] := by unfold joL; rw [if_neg h]
theorem joL_y {ts us : List Stg} (h : joC ts us = 0) : joL ts us = ts ++ us := by unfold joL; rw [if_pos h]
theorem joC_1 {ts us : List Stg} (h : chf ts ≠ 0) : joC ts us = chf ts := by unfold joC; rw [if_neg h]
theorem joC_2 {ts us : List Stg} (h : chf ts = 0) (h2 : chf us ≠ 0) : joC ts us = chf us := by unfold joC; rw [if_pos h, if_neg h2]
theorem joC_3 {ts us : List Stg} (h : chf ts = 0) (h2 : chf us = 0) (h3 : 5 < ts.length + us.length) : joC ts us = 2 := by unfold joC; rw [if_pos h, if_pos h2, if_pos h3]
theorem joC_4 {ts us : List Stg} (h : chf ts = 0) (h2 : chf us = 0) (h3 : ¬ 5 < ts.length + us.length) : joC ts us = 0 := by unfold joC; rw [if_pos h, if_pos h2, if_neg h3]
def ChnAns (w : World) (co : Int) (ts : List Stg) (e : Ending) (w' : World) : Prop := ∃ G n c, e = .returned (.agg #[.int .i64 co, .slice G n c]) ∧ Own w' (chD ts) (.slice G n c) w.heap.size w'.heap.size ∧ Below w.heap.size w w'
theorem ChnAns.bad {w w' : World} {co c : Int} {ts : List Stg} (h : co = c ∧ ts = []) (hb : Below w.heap.size w w') : ChnAns w co ts (.returned (.agg #[.int .i64 c, .slice none 0 0])) w' :=
  ⟨none, 0, 0, by rw [h.1], by rw [h.2]; exact Own.snil _ _ _ _ _ _ (Nat.zero_le _), hb⟩
theorem chf_zj {ts : List Stg} (h : chf ts = 0) : ts.length ≤ 5 ∧ sgL ts ts.length = 0 := by
  unfold chf at h
  by_cases h5 : 5 < ts.length
  · rw [if_pos h5] at h; omega
  · rw [if_neg h5] at h; exact ⟨by omega, h⟩
end Go.Proofs.YtlfdpambbgddoaaGreat
