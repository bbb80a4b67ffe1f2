/-
  JoinChains, by the program: chainAnswer, slices.Concat.
-/
import Derived.Lib.AppendZeros
import Derived.Test.YtdjifaaofefpoaaGreatJonA
namespace Go.Proofs.YtdjifaaofefpoaaGreat
open Go.RowKit Go.Maps
set_option linter.unusedVariables false
set_option linter.unusedSimpArgs false

theorem take_stg {ts : List Stg} {k : Nat} (h : k < ts.length) : ts.take (k + 1) = ts.take k ++ [st_ ts k] := by
  rw [List.take_succ_eq_append_getElem h]
  simp [st_, List.getD, h]
def CcAns (w : World) (ts : List Stg) (e : Ending) (w' : World) : Prop := ∃ A n c, e = .returned (.agg #[.slice A n c]) ∧ Own w' (chD ts) (.slice A n c) w.heap.size w'.heap.size ∧ Below w.heap.size w w'
set_option maxRecDepth 100000 in
set_option maxHeartbeats 4000000 in
theorem chainAnswer_any (A : Option Addr) (n c : Nat) (ts : List Stg) (vs : List Value) (w : World) (h : Sts w ts A n vs) (hn : n ≤ 100) :
    Calls Tryz.prog 41 #[.slice A n c] w (CcAns w ts) := by
  obtain ⟨W0, hW0⟩ : ∃ W0, W0 = (w.alloc (.cells #[.slice none 0 0] 32)).alloc (.cells #[.slice none 0 0] 32) := ⟨_, rfl⟩
  have R0 : Hid (Bx W0 w.heap.size [.slice none 0 0]) := by show Bx _ _ _; rw [hW0]; exact (Bx.new _ _ _ rfl).alloc _
  have M0 : Hid (Bx W0 (w.heap.size + 1) [.slice none 0 0]) := by show Bx _ _ _; rw [hW0]; exact Bx.new _ _ _ (by simp)
  have T0 : Hid (Below w.heap.size w W0) := by show Below _ _ _; rw [hW0]; exact blThenAlloc (blAlloc _ _) _
  have HZ : Hid (W0.heap.size = w.heap.size + 2) := by show _ = _; rw [hW0]; simp
  have HW := Lib.hid hW0
  have H := Lib.hid h
  have HL : Hid (ts.length = n) := h.len
  clear h hW0
  go_enter Tryz.func41, Tryz.ntmps41
  go_wp2_with fail
  rw [← HW.out]
  clear HW
  go_loopw [8] (fun i wr => ∃ (k : Nat) (v : Value), k ≤ n ∧ i = .int .i64 k ∧ Hid (OwnE 98 5 wr W0.heap.size v k ((ts.take k).map stD) wr.heap.size) ∧ Hid (Bx wr (w.heap.size + 1) [v]) ∧ Hid (Bx wr w.heap.size [.slice none 0 0]) ∧ Hid (Below w.heap.size w wr) ∧ W0.heap.size ≤ wr.heap.size) (fun i _ => n - (intOf i).toNat)
  case atStart => exact ⟨0, .slice none 0 0, by omega, rfl, by rw [List.take_zero]; exact OwnE.nil _ _ _ _ _, M0.out, R0.out, T0.out, Nat.le_refl _⟩
  case round =>
    obtain ⟨k, v, hk, rfl, HO, HM, HB, HT, hsz⟩ := hrel
    by_cases hlt : k < n
    · obtain ⟨b, rfl, vc⟩ := H.out.at_ k hlt
      replace vc := cell_later HT.out vc
      have HTK : Hid (ts.take (k + 1) = ts.take k ++ [st_ ts k]) := take_stg (by rw [HL.out]; exact hlt)
      obtain ⟨A9, c9, rfl⟩ := HO.out.form
      have m1 := HM.out.c 0 rfl
      have p1 := HM.out.f 0
      have ml := HM.out.lt
      have CC : Hid (∀ W, Below wr.heap.size wr W → Calls Tryz.prog 65 #[vs.getD k undef] W (StAns W (st_ ts k))) := fun W hW => stageAnswer_any (st_ ts k) _ W (((H.out.st k hlt).bel HT.out).bel hW) (H.out.fine k hlt)
      generalize vs.getD k undef = sv at *
      go_wp2_with fail
      clear vc
      go_region_law (first
        | (refine step_append_owne ety_stage _ rfl _ _ rfl W0.heap.size (.slice A9 k c9) k _ wr.heap.size rfl (O2.out.below (blAlloc _ _)) (stD (st_ ts k)) (stV (st_ ts k).kd (.slice B1 x1 d1) (.slice B2 x2 d2) (st_ ts k).sd (.slice B3 x3 d3)) _ _ (OX.out.below (blAlloc _ _)) w2.heap.size 1 rfl AE.out AO.out (by omega) (by simp only [World.size_drew]; omega) (by simp) hsz (by have := B2b.out.size; simp; omega) ?_; intro A' c' w4 ho4 hb4; have M4 := Lib.hid ((M2.out.alloc _).low hb4 (by have := HZ.out; omega)); have B4 := Lib.hid ((BB2.out.alloc _).low hb4 (by have := HZ.out; omega)); have m41 := M4.out.c 0 rfl; have p41 := M4.out.f 0; have ml4 := M4.out.lt)
        | (go_simp; go_at_call 65; (with_reducible refine (CC.out _ (by first | exact Below.refl _ _ | exact (Below.refl _ _).drew | exact below_drewN _ _ _)).mono ?_); rintro e w2 ⟨B1, x1, d1, B2, x2, d2, B3, x3, d3, rfl, how, hb2⟩; have B2b := Lib.hid (blThen (by first | exact Below.refl _ _ | exact (Below.refl _ _).drew | exact below_drewN _ _ _) hb2 : Below wr.heap.size wr w2); have OX := Lib.hid how; have O2 := Lib.hid (HO.out.below B2b.out); have M2 := Lib.hid (HM.out.bel B2b.out); have BB2 := Lib.hid (HB.out.bel B2b.out); have BXN := Lib.hid (Bx.new w2 #[.int .i64 (st_ ts k).kd, .slice B1 x1 d1, .slice B2 x2 d2, .int .i64 (st_ ts k).sd, .slice B3 x3 d3] 98 rfl); have AE : Hid (∀ j, j < 5 → (w2.alloc (.cells #[.int .i64 (st_ ts k).kd, .slice B1 x1 d1, .slice B2 x2 d2, .int .i64 (st_ ts k).sd, .slice B3 x3 d3] 98)).cell? ⟨w2.heap.size, j, none⟩ = some (stV (st_ ts k).kd (.slice B1 x1 d1) (.slice B2 x2 d2) (st_ ts k).sd (.slice B3 x3 d3) j)) := (stV_box BXN.out); have AO : Hid (∀ j, j < 5 → (stV (st_ ts k).kd (.slice B1 x1 d1) (.slice B2 x2 d2) (st_ ts k).sd (.slice B3 x3 d3) j).oneCell' = true) := (stV_one _ _ _ _ _ rfl rfl rfl); have n12 := M2.out.c 0 rfl; have nl2 := M2.out.lt; clear how hb2))
      all_goals
        have e1 : ((ts.take (k + 1)).map stD) = ((ts.take k).map stD) ++ [stD (st_ ts k)] := by rw [HTK.out, List.map_append]; rfl
        have T4 := Lib.hid (show Below w.heap.size w w4 from (blThen HT.out (blThenAlloc B2b.out _)).trans (hb4.mono (by have := HZ.out; omega)))
        have HO4 := Lib.hid ho4
        have HE1 := Lib.hid e1
        have HSW := Lib.hid (show W0.heap.size ≤ w4.heap.size from by have a1 := hb4.size; have a2 := B2b.out.size; simp only [World.size_alloc] at a1; omega)
        clear ho4 hb4 e1
        try go_wp2_with fail
        go_roundw
        case rel =>
          refine ⟨k + 1, .slice A' (k + 1) c', by omega, by go_num, ?_, M4.out.set 0 _, B4.out.oth (c := w.heap.size + 1) (by omega) _ _, ?_, ?_⟩
          · show OwnE _ _ _ _ _ _ _ _
            rw [HE1.out]
            simp only [setSize]
            exact HO4.out.set (.inl (by have := HZ.out; omega)) _ _
          · exact T4.out.setCell (by simp) _
          · simp only [setSize]; exact HSW.out
        case measure => simp [intOf]; omega
    · obtain rfl : k = n := by omega
      obtain ⟨B, d, rfl⟩ := HO.out.form
      have HF := Lib.hid (show Own wr (chD ts) (.slice B k d) W0.heap.size wr.heap.size from by
        have := HO.out.own (by omega)
        rw [List.take_of_length_le (by rw [HL.out]; exact Nat.le_refl _)] at this
        exact this)
      have r0 := HB.out.c 0 rfl
      have q0 := HB.out.f 0
      have m0 := HM.out.c 0 rfl
      have rl := HB.out.lt
      have ml := HM.out.lt
      clear HO HM
      go_wp2_with fail
      have KK := HB.out.set 0 (.slice B k d)
      have k0 := KK.c 0 rfl
      clear KK
      refine bodyPost_ret (v := .agg #[.slice B k d]) (by simp [results, Tryz.results41, go_sem, k0]) rfl ⟨B, k, d, rfl, ?_, ?_⟩
      · refine Own.mono (lo := W0.heap.size) (hi := wr.heap.size) ?_ (by have := HZ.out; omega) (by simp only [setSize]; exact Nat.le_refl _)
        exact HF.out.set (.inl (by have := HZ.out; omega)) _ _
      · exact HT.out.setCell (by simp) _
/-! ### slices.Concat of two -/
theorem zeroCells_stg (k : Nat) : (Builtin.zeroCells Value.nilIface.cells k).size = k := by simp [Builtin.zeroCells, Value.cells]
def GwAns (w : World) (e : Ending) (w' : World) : Prop := ∃ A c, e = .returned (.slice A 0 c) ∧ OwnSv w' w.heap.size (.slice A 0 c) 0 [] ∧ Below w.heap.size w w'
theorem run_append_rows {ts T : TypeId} {m0 by_ : Nat} (E : Ety ts T m0 by_) (w : World) (ty : TypeId) (base : Nat) (v : Value) (n : Nat) (xs : List Value) (hown : w.ownsRow base T m0 v n xs) (A : Option Addr) (m c : Nat) (news : List Value) (hl : news.length = m * m0)
    (hc : 0 < m → ∃ b o, A = some ⟨b, o, none⟩ ∧ ∀ j u, news[j]? = some u → w.cell? ⟨b, o + j, none⟩ = some u) (h1 : ∀ u ∈ news, u.oneCell' = true) (h63 : n + m ≤ 1000000) (hbase : base ≤ w.heap.size) :
    ∃ v' w', (Builtin.append_ #[ts, ts] ty #[v, .slice A m c]).run Tryz.prog w = .ok v' w' ∧ w'.ownsRow base T m0 v' (n + m) (xs ++ news) ∧ w.grownBy w' v.ownBlock ∧ (v'.ownBlock = v.ownBlock ∨ v'.ownBlock = some w.heap.size) := by
  obtain ⟨i, z, hi, hz, hs, hb, hzs⟩ := E.inf
  cases A with
  | none =>
    have hm : m = 0 := by
      rcases Nat.eq_zero_or_pos m with h | h
      · exact h
      · obtain ⟨_, _, e, _⟩ := hc h; cases e
    subst hm
    obtain rfl : news = [] := List.eq_nil_of_length_eq_zero (by omega)
    refine ⟨v, w, ?_, by simpa using hown, ⟨rfl, rfl, rfl, Nat.le_refl _, fun _ _ _ => rfl⟩, .inl rfl⟩
    rcases hown.2 with ⟨rfl, rfl⟩ | ⟨g, cap, cur, rfl, b1, b2, b3, b4, b5, b6⟩
    · simp [Builtin.append_, run_underlying E.u, sizeOf, typeInfo, hi, Builtin.lenOf, Builtin.firstCells, storeCells]
    · simp [Builtin.append_, run_underlying E.u, sizeOf, typeInfo, hi, Builtin.lenOf, Builtin.firstCells, b3, storeCells]
  | some ad =>
    have hby : (n + m) * by_ ≤ 140737488355328 := Nat.le_trans (Nat.mul_le_mul h63 E.le) (by omega)
    obtain ⟨v', w', e1, e2, e3, e4, e5⟩ := run_append_own_at (P := Tryz.prog) w base ts ty T i z m0 by_ E.u hi hz hs hb hzs E.pos v n _ hown ad m c news hl (by
      intro j u hj
      have hm : 0 < m := by
        rcases Nat.eq_zero_or_pos m with h | h
        · subst h
          obtain rfl : news = [] := List.eq_nil_of_length_eq_zero (by omega)
          simp at hj
        · exact h
      obtain ⟨b, o, e, hcc⟩ := hc hm
      obtain rfl : ad = ⟨b, o, none⟩ := by injection e
      have hadd : ((⟨b, o, none⟩ : Addr).add j) = ⟨b, o + j, none⟩ := by unfold Addr.add; split <;> simp_all
      rw [hadd]
      exact hcc j u hj) h1 (by unfold maxLen; omega) hby hbase
    exact ⟨v', w', e1, e2, e3, e5⟩
theorem ety_st : Ety 71 78 1 16 := by
  obtain ⟨i, hi, hz, hs, hb⟩ := info_stg
  exact ⟨Tryz.underlying71, ⟨i, _, hi, hz, hs, hb, rfl⟩, by omega, by omega⟩
/-- the values of the stages, as many as there are. -/
def nvs (vs : List Value) (n : Nat) : List Value := (List.range n).map fun i => vs.getD i undef
theorem nvs_len (vs : List Value) (n : Nat) : (nvs vs n).length = n := by simp [nvs]
theorem nvs_get {vs : List Value} {n i : Nat} (h : i < n) : (nvs vs n).getD i undef = vs.getD i undef := by simp [nvs, List.getD, h]
theorem IsStg.one {w : World} {t : Stg} {v : Value} (h : IsStg w t v) : v.oneCell' = true := by
  obtain ⟨hs, A1, n1, c1, A2, n2, c2, A3, n3, c3, V, -⟩ := h
  rcases stF_kinds hs with k | k | k
  · rw [V.one k]; rfl
  · rw [V.two k]; rfl
  · rw [V.thr k]; rfl
theorem wpList_append_sts (w : World) {ops : Array Oper} {rest : List Oper} {o : Oper} {a : Act} {Q : Exit → Act → World → Prop} (hgd : o.guard = none) (s x : Operand)
    (ho : o.op = .call { callee := .builtin .append, args := #[s, x], argTypes := #[71, 71] })
    (base : Nat) (v : Value) (n : Nat) (ys : List Value) (hs : a.eval s = v) (hown : OwnSv w base v n ys) (ts : List Stg) (A : Option Addr) (m c : Nat) (vs : List Value) (hx : a.eval x = .slice A m c) (hst : Sts w ts A m vs)
    (h63 : n + m ≤ 1000000) (hbase : base ≤ w.heap.size)
    (K : ∀ v' w', OwnSv w' base v' (n + m) (ys ++ nvs vs m) → Below base w w' → wpList Tryz.prog ops Q rest (a.put o.dst v') w') : wpList Tryz.prog ops Q (o :: rest) a w := by
  obtain ⟨v', w', e1, e2, e3, -⟩ := run_append_rows ety_st w o.type base v n ys hown A m c (nvs vs m) (by rw [nvs_len]; omega) (fun hm => by
    obtain ⟨b, e, -⟩ := hst.at_ 0 hm
    refine ⟨b, 0, e, fun j u hj => ?_⟩
    have hjm : j < m := by
      have := (List.getElem?_eq_some_iff.1 hj).1
      rwa [nvs_len] at this
    obtain ⟨b', e', hc⟩ := hst.at_ j hjm
    rw [e] at e'
    cases e'
    have hu : u = vs.getD j undef := by
      rw [← nvs_get (vs := vs) hjm]
      simp [List.getD, hj]
    rw [hu, Nat.zero_add]
    exact hc) (fun u hu => by
    simp only [nvs, List.mem_map, List.mem_range] at hu
    obtain ⟨j, hj, rfl⟩ := hu
    exact (hst.st j hj).one) h63 hbase
  refine wpList_plain hgd fun K' hK => ?_
  unfold Oper.wp execOp
  simp only [ho, resolve, invoke, builtin, Sem.run_bind, Sem.run_pure, Result.andThen_ok, List.map_toArray, List.map_cons, List.map_nil, hs, hx, e1]
  exact hK _ _ (K v' w' e2 (gb_low' e3 (fun g hg => (World.ownsRow.lt hown g hg).1) (Nat.le_refl _) hbase))
theorem st_appl {ts us : List Stg} {i : Nat} (h : i < ts.length) : st_ (ts ++ us) i = st_ ts i := by unfold st_; rw [List.getD, List.getElem?_append_left h]; rfl
theorem st_appr {ts us : List Stg} {i : Nat} (h : ts.length ≤ i) : st_ (ts ++ us) i = st_ us (i - ts.length) := by unfold st_; rw [List.getD, List.getElem?_append_right h]; rfl
theorem nvs_appl {vs us : List Value} {n m i : Nat} (h : i < n) : (nvs vs n ++ nvs us m).getD i undef = vs.getD i undef := by
  rw [List.getD, List.getElem?_append_left (by rw [nvs_len]; exact h)]
  exact nvs_get h
theorem nvs_appr {vs us : List Value} {n m i : Nat} (h : n ≤ i) (h2 : i < n + m) : (nvs vs n ++ nvs us m).getD i undef = us.getD (i - n) undef := by
  rw [List.getD, List.getElem?_append_right (by rw [nvs_len]; exact h), nvs_len]
  exact nvs_get (by omega)
def CatAns (w : World) (ts : List Stg) (e : Ending) (w' : World) : Prop := ∃ A c vs, e = .returned (.slice A ts.length c) ∧ Sts w' ts A ts.length vs ∧ Below w.heap.size w w'
/-! ### JoinChains -/
def joC (ts us : List Stg) : Int := if chf ts = 0 then (if chf us = 0 then (if 5 < ts.length + us.length then 2 else 0) else chf us) else chf ts
def joL (ts us : List Stg) : List Stg := if joC ts us = 0 then ts ++ us else []
theorem joL_n {ts us : List Stg} (h : joC ts us ≠ 0) : joL ts us = [] := by unfold joL; rw [if_neg h]
theorem joL_y {ts us : List Stg} (h : joC ts us = 0) : joL ts us = ts ++ us := by unfold joL; rw [if_pos h]
theorem joC_1 {ts us : List Stg} (h : chf ts ≠ 0) : joC ts us = chf ts := by unfold joC; rw [if_neg h]
theorem joC_2 {ts us : List Stg} (h : chf ts = 0) (h2 : chf us ≠ 0) : joC ts us = chf us := by unfold joC; rw [if_pos h, if_neg h2]
theorem joC_3 {ts us : List Stg} (h : chf ts = 0) (h2 : chf us = 0) (h3 : 5 < ts.length + us.length) : joC ts us = 2 := by unfold joC; rw [if_pos h, if_pos h2, if_pos h3]
theorem joC_4 {ts us : List Stg} (h : chf ts = 0) (h2 : chf us = 0) (h3 : ¬ 5 < ts.length + us.length) : joC ts us = 0 := by unfold joC; rw [if_pos h, if_pos h2, if_neg h3]
def ChnAns (w : World) (co : Int) (ts : List Stg) (e : Ending) (w' : World) : Prop := ∃ G n c, e = .returned (.agg #[.int .i64 co, .slice G n c]) ∧ Own w' (chD ts) (.slice G n c) w.heap.size w'.heap.size ∧ Below w.heap.size w w'
theorem ChnAns.bad {w w' : World} {co c : Int} {ts : List Stg} (h : co = c ∧ ts = []) (hb : Below w.heap.size w w') : ChnAns w co ts (.returned (.agg #[.int .i64 c, .slice none 0 0])) w' :=
  ⟨none, 0, 0, by rw [h.1], by rw [h.2]; exact Own.snil _ _ _ _ _ _ (Nat.zero_le _), hb⟩
theorem chf_zj {ts : List Stg} (h : chf ts = 0) : ts.length ≤ 5 ∧ sgL ts ts.length = 0 := by
  unfold chf at h
  by_cases h5 : 5 < ts.length
  · rw [if_pos h5] at h; omega
  · rw [if_neg h5] at h; exact ⟨by omega, h⟩
end Go.Proofs.YtdjifaaofefpoaaGreat
