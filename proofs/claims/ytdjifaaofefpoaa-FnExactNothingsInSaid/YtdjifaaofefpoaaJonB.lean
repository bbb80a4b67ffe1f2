/-
  JoinChains, by the program: chainAnswer, slices.Concat.
-/
import Derived.Lib.AppendZeros
import Derived.Test.YtdjifaaofefpoaaJonA
namespace Go.Proofs.Ytdjifaaofefpoaa
open Go.RowKit Go.Maps
set_option linter.unusedVariables false
set_option linter.unusedSimpArgs false

theorem take_stg {ts : List Stg} {k : Nat} (h : k < ts.length) : ts.take (k + 1) = ts.take k ++ [st_ ts k] := by
  rw [List.take_succ_eq_append_getElem h]
  simp [st_, List.getD, h]
def CcAns (w : World) (ts : List Stg) (e : Ending) (w' : World) : Prop := ∃ A n c, e = .returned (.agg #[.slice A n c]) ∧ Own w' (chD ts) (.slice A n c) w.heap.size w'.heap.size ∧ Below w.heap.size w w'
set_option maxRecDepth 100000 in
set_option maxHeartbeats 4000000 in
theorem chainAnswer_any (A : Option Addr) (n c : Nat) (ts : List Stg) (vs : List Value) (w : World) (h : Sts w ts A n vs) (hn : n ≤ 100) :
    Calls Try.prog 54 #[.slice A n c] w (CcAns w ts) := by
  obtain ⟨W0, hW0⟩ : ∃ W0, W0 = (w.alloc (.cells #[.slice none 0 0] 31)).alloc (.cells #[.slice none 0 0] 31) := ⟨_, rfl⟩
  have R0 : Hid (Bx W0 w.heap.size [.slice none 0 0]) := by show Bx _ _ _; rw [hW0]; exact (Bx.new _ _ _ rfl).alloc _
  have M0 : Hid (Bx W0 (w.heap.size + 1) [.slice none 0 0]) := by show Bx _ _ _; rw [hW0]; exact Bx.new _ _ _ (by simp)
  have T0 : Hid (Below w.heap.size w W0) := by show Below _ _ _; rw [hW0]; exact blThenAlloc (blAlloc _ _) _
  have HZ : Hid (W0.heap.size = w.heap.size + 2) := by show _ = _; rw [hW0]; simp
  have HW := Lib.hid hW0
  have H := Lib.hid h
  have HL : Hid (ts.length = n) := h.len
  clear h hW0
  go_enter Try.func54, Try.ntmps54
  go_wp2_with fail
  rw [← HW.out]
  clear HW
  go_loopw [8] (fun i wr => ∃ (k : Nat) (v : Value), k ≤ n ∧ i = .int .i64 k ∧ Hid (OwnE 57 5 wr W0.heap.size v k ((ts.take k).map stD) wr.heap.size) ∧ Hid (Bx wr (w.heap.size + 1) [v]) ∧ Hid (Bx wr w.heap.size [.slice none 0 0]) ∧ Hid (Below w.heap.size w wr) ∧ W0.heap.size ≤ wr.heap.size) (fun i _ => n - (intOf i).toNat)
  case atStart => exact ⟨0, .slice none 0 0, by omega, rfl, by rw [List.take_zero]; exact OwnE.nil _ _ _ _ _, M0.out, R0.out, T0.out, Nat.le_refl _⟩
  case round =>
    obtain ⟨k, v, hk, rfl, HO, HM, HB, HT, hsz⟩ := hrel
    by_cases hlt : k < n
    · obtain ⟨b, rfl, vc⟩ := H.out.at_ k hlt
      replace vc := cell_later HT.out vc
      have HTK : Hid (ts.take (k + 1) = ts.take k ++ [st_ ts k]) := take_stg (by rw [HL.out]; exact hlt)
      obtain ⟨A9, c9, rfl⟩ := HO.out.form
      have m1 := HM.out.c 0 rfl
      have p1 := HM.out.f 0
      have ml := HM.out.lt
      have CC : Hid (∀ W, Below wr.heap.size wr W → Calls Try.prog 102 #[vs.getD k undef] W (StAns W (st_ ts k))) := fun W hW => stageAnswer_any (st_ ts k) _ W (((H.out.st k hlt).bel HT.out).bel hW) (H.out.fine k hlt)
      generalize vs.getD k undef = sv at *
      go_wp2_with fail
      clear vc
      go_region_law (first
        | (refine step_append_owne ety_stage _ rfl _ _ rfl W0.heap.size (.slice A9 k c9) k _ wr.heap.size rfl (O2.out.below (blAlloc _ _)) (stD (st_ ts k)) (stV (st_ ts k).kd (.slice B1 x1 d1) (.slice B2 x2 d2) (st_ ts k).sd (.slice B3 x3 d3)) _ _ (OX.out.below (blAlloc _ _)) w2.heap.size 1 rfl AE.out AO.out (by omega) (by simp only [World.size_drew]; omega) (by simp) hsz (by have := B2b.out.size; simp; omega) ?_; intro A' c' w4 ho4 hb4; have M4 := Lib.hid ((M2.out.alloc _).low hb4 (by have := HZ.out; omega)); have B4 := Lib.hid ((BB2.out.alloc _).low hb4 (by have := HZ.out; omega)); have m41 := M4.out.c 0 rfl; have p41 := M4.out.f 0; have ml4 := M4.out.lt)
        | (go_simp; go_at_call 102; (with_reducible refine (CC.out _ (by first | exact Below.refl _ _ | exact (Below.refl _ _).drew | exact below_drewN _ _ _)).mono ?_); rintro e w2 ⟨B1, x1, d1, B2, x2, d2, B3, x3, d3, rfl, how, hb2⟩; have B2b := Lib.hid (blThen (by first | exact Below.refl _ _ | exact (Below.refl _ _).drew | exact below_drewN _ _ _) hb2 : Below wr.heap.size wr w2); have OX := Lib.hid how; have O2 := Lib.hid (HO.out.below B2b.out); have M2 := Lib.hid (HM.out.bel B2b.out); have BB2 := Lib.hid (HB.out.bel B2b.out); have BXN := Lib.hid (Bx.new w2 #[.int .i64 (st_ ts k).kd, .slice B1 x1 d1, .slice B2 x2 d2, .int .i64 (st_ ts k).sd, .slice B3 x3 d3] 57 rfl); have AE : Hid (∀ j, j < 5 → (w2.alloc (.cells #[.int .i64 (st_ ts k).kd, .slice B1 x1 d1, .slice B2 x2 d2, .int .i64 (st_ ts k).sd, .slice B3 x3 d3] 57)).cell? ⟨w2.heap.size, j, none⟩ = some (stV (st_ ts k).kd (.slice B1 x1 d1) (.slice B2 x2 d2) (st_ ts k).sd (.slice B3 x3 d3) j)) := (stV_box BXN.out); have AO : Hid (∀ j, j < 5 → (stV (st_ ts k).kd (.slice B1 x1 d1) (.slice B2 x2 d2) (st_ ts k).sd (.slice B3 x3 d3) j).oneCell' = true) := (stV_one _ _ _ _ _ rfl rfl rfl); have n12 := M2.out.c 0 rfl; have nl2 := M2.out.lt; clear how hb2))
      all_goals
        have e1 : ((ts.take (k + 1)).map stD) = ((ts.take k).map stD) ++ [stD (st_ ts k)] := by rw [HTK.out, List.map_append]; rfl
        have T4 := Lib.hid (show Below w.heap.size w w4 from (blThen HT.out (blThenAlloc B2b.out _)).trans (hb4.mono (by have := HZ.out; omega)))
        have HO4 := Lib.hid ho4
        have HE1 := Lib.hid e1
        have HSW := Lib.hid (show W0.heap.size ≤ w4.heap.size from by have a1 := hb4.size; have a2 := B2b.out.size; simp only [World.size_alloc] at a1; omega)
        clear ho4 hb4 e1
        try go_wp2_with fail
        go_roundw
        case rel =>
          refine ⟨k + 1, .slice A' (k + 1) c', by omega, by go_num, ?_, M4.out.set 0 _, B4.out.oth (c := w.heap.size + 1) (by omega) _ _, ?_, ?_⟩
          · show OwnE _ _ _ _ _ _ _ _
            rw [HE1.out]
            simp only [setSize]
            exact HO4.out.set (.inl (by have := HZ.out; omega)) _ _
          · exact T4.out.setCell (by simp) _
          · simp only [setSize]; exact HSW.out
        case measure => simp [intOf]; omega
    · obtain rfl : k = n := by omega
      obtain ⟨B, d, rfl⟩ := HO.out.form
      have HF := Lib.hid (show Own wr (chD ts) (.slice B k d) W0.heap.size wr.heap.size from by
        have := HO.out.own (by omega)
        rw [List.take_of_length_le (by rw [HL.out]; exact Nat.le_refl _)] at this
        exact this)
      have r0 := HB.out.c 0 rfl
      have q0 := HB.out.f 0
      have m0 := HM.out.c 0 rfl
      have rl := HB.out.lt
      have ml := HM.out.lt
      clear HO HM
      go_wp2_with fail
      have KK := HB.out.set 0 (.slice B k d)
      have k0 := KK.c 0 rfl
      clear KK
      refine bodyPost_ret (v := .agg #[.slice B k d]) (by simp [results, Try.results54, go_sem, k0]) rfl ⟨B, k, d, rfl, ?_, ?_⟩
      · refine Own.mono (lo := W0.heap.size) (hi := wr.heap.size) ?_ (by have := HZ.out; omega) (by simp only [setSize]; exact Nat.le_refl _)
        exact HF.out.set (.inl (by have := HZ.out; omega)) _ _
      · exact HT.out.setCell (by simp) _
/-! ### slices.Concat of two -/
theorem zeroCells_stg (k : Nat) : (Builtin.zeroCells Value.nilIface.cells k).size = k := by simp [Builtin.zeroCells, Value.cells]
def GwAns (w : World) (e : Ending) (w' : World) : Prop := ∃ A c, e = .returned (.slice A 0 c) ∧ OwnSv w' w.heap.size (.slice A 0 c) 0 [] ∧ Below w.heap.size w w'
set_option maxRecDepth 100000 in
set_option maxHeartbeats 2000000 in
theorem Grow_any (N : Nat) (w : World) (hN : N ≤ 100) : Calls Try.prog 103 #[.slice none 0 0, .int .i64 N] w (GwAns w) := by
  have h0 : ¬ (N : Int) < 0 := by omega
  by_cases hz : N = 0
  · subst hz
    go_enter Try.func103, Try.ntmps103
    go_wp2_with fail
    go_ret
    exact ⟨none, 0, rfl, World.ownsRow_nil _ _ _ _, Below.refl _ _⟩
  · obtain ⟨i, hi, hzz, hs, hb⟩ := info_stg
    have hge := grownCap_ge w N 0 107
    have hcm : grownCap w N 0 107 ≤ maxLen := grownCap_le_maxLen w N 0 107 (by unfold maxLen; omega)
    have hp : (N : Int) > 0 := by omega
    have i1 : IntKind.i64.wrap ((N : Int) - 0) = N := by rw [IntWalk.i64_in _ (by omega)]; omega
    have HR := Lib.hid (fun ty => Lib.run_append_nil_zeros (P := Try.prog) w 96 3 ty 107 i .nilIface .i64 .i64 Try.underlying96 Try.underlying3 hi hzz N (by omega) (by omega) (by omega) (by rw [hb]; omega))
    have HOWN : Hid (OwnSv (w.drew.alloc (.cells (Builtin.zeroCells Value.nilIface.cells N ++ Builtin.zeroCells Value.nilIface.cells (grownCap w N 0 107 - N)) 107)) w.heap.size (.slice (some ⟨w.heap.size, 0, none⟩) 0 (grownCap w N 0 107)) 0 []) :=
      ⟨rfl, .inr ⟨w.heap.size, _, _, rfl, Nat.le_refl _, heap_alloc_new w.drew _, Nat.zero_le _, hcm, by rw [Array.size_append, zeroCells_stg, zeroCells_stg]; omega, by simp⟩⟩
    obtain ⟨cp, hcp⟩ : ∃ cp, cp = grownCap w N 0 107 := ⟨_, rfl⟩
    rw [← hcp] at HR HOWN hge hcm
    obtain ⟨wz, hwz⟩ : ∃ wz, wz = w.drew.alloc (.cells (Builtin.zeroCells Value.nilIface.cells N ++ Builtin.zeroCells Value.nilIface.cells (cp - N)) 107) := ⟨_, rfl⟩
    rw [← hwz] at HR HOWN
    have T : Hid (Below w.heap.size w wz) := by show Below _ _ _; rw [hwz]; exact blThenAlloc (Below.refl _ _).drew _
    clear hi hzz hs hb hcp hwz
    unfold maxLen at hcm
    go_enter Try.func103, Try.ntmps103
    go_wp2_with (at_builtin; refine Lib.wpList_append_run _ rfl _ _ _ _ rfl _ _ rfl rfl _ _ (HR.out _) ?_)
    go_ret
    exact ⟨_, _, rfl, HOWN.out, T.out⟩
theorem run_append_rows {ts T : TypeId} {m0 by_ : Nat} (E : Ety ts T m0 by_) (w : World) (ty : TypeId) (base : Nat) (v : Value) (n : Nat) (xs : List Value) (hown : w.ownsRow base T m0 v n xs) (A : Option Addr) (m c : Nat) (news : List Value) (hl : news.length = m * m0)
    (hc : 0 < m → ∃ b o, A = some ⟨b, o, none⟩ ∧ ∀ j u, news[j]? = some u → w.cell? ⟨b, o + j, none⟩ = some u) (h1 : ∀ u ∈ news, u.oneCell' = true) (h63 : n + m ≤ 1000000) (hbase : base ≤ w.heap.size) :
    ∃ v' w', (Builtin.append_ #[ts, ts] ty #[v, .slice A m c]).run Try.prog w = .ok v' w' ∧ w'.ownsRow base T m0 v' (n + m) (xs ++ news) ∧ w.grownBy w' v.ownBlock ∧ (v'.ownBlock = v.ownBlock ∨ v'.ownBlock = some w.heap.size) := by
  obtain ⟨i, z, hi, hz, hs, hb, hzs⟩ := E.inf
  cases A with
  | none =>
    have hm : m = 0 := by
      rcases Nat.eq_zero_or_pos m with h | h
      · exact h
      · obtain ⟨_, _, e, _⟩ := hc h; cases e
    subst hm
    obtain rfl : news = [] := List.eq_nil_of_length_eq_zero (by omega)
    refine ⟨v, w, ?_, by simpa using hown, ⟨rfl, rfl, rfl, Nat.le_refl _, fun _ _ _ => rfl⟩, .inl rfl⟩
    rcases hown.2 with ⟨rfl, rfl⟩ | ⟨g, cap, cur, rfl, b1, b2, b3, b4, b5, b6⟩
    · simp [Builtin.append_, run_underlying E.u, sizeOf, typeInfo, hi, Builtin.lenOf, Builtin.firstCells, storeCells]
    · simp [Builtin.append_, run_underlying E.u, sizeOf, typeInfo, hi, Builtin.lenOf, Builtin.firstCells, b3, storeCells]
  | some ad =>
    have hby : (n + m) * by_ ≤ 140737488355328 := Nat.le_trans (Nat.mul_le_mul h63 E.le) (by omega)
    obtain ⟨v', w', e1, e2, e3, e4, e5⟩ := run_append_own_at (P := Try.prog) w base ts ty T i z m0 by_ E.u hi hz hs hb hzs E.pos v n _ hown ad m c news hl (by
      intro j u hj
      have hm : 0 < m := by
        rcases Nat.eq_zero_or_pos m with h | h
        · subst h
          obtain rfl : news = [] := List.eq_nil_of_length_eq_zero (by omega)
          simp at hj
        · exact h
      obtain ⟨b, o, e, hcc⟩ := hc hm
      obtain rfl : ad = ⟨b, o, none⟩ := by injection e
      have hadd : ((⟨b, o, none⟩ : Addr).add j) = ⟨b, o + j, none⟩ := by unfold Addr.add; split <;> simp_all
      rw [hadd]
      exact hcc j u hj) h1 (by unfold maxLen; omega) hby hbase
    exact ⟨v', w', e1, e2, e3, e5⟩
theorem ety_st : Ety 96 107 1 16 := by
  obtain ⟨i, hi, hz, hs, hb⟩ := info_stg
  exact ⟨Try.underlying96, ⟨i, _, hi, hz, hs, hb, rfl⟩, by omega, by omega⟩
/-- the values of the stages, as many as there are. -/
def nvs (vs : List Value) (n : Nat) : List Value := (List.range n).map fun i => vs.getD i undef
theorem nvs_len (vs : List Value) (n : Nat) : (nvs vs n).length = n := by simp [nvs]
theorem nvs_get {vs : List Value} {n i : Nat} (h : i < n) : (nvs vs n).getD i undef = vs.getD i undef := by simp [nvs, List.getD, h]
theorem IsStg.one {w : World} {t : Stg} {v : Value} (h : IsStg w t v) : v.oneCell' = true := by
  obtain ⟨hs, A1, n1, c1, A2, n2, c2, A3, n3, c3, V, -⟩ := h
  rcases stF_kinds hs with k | k | k
  · rw [V.one k]; rfl
  · rw [V.two k]; rfl
  · rw [V.thr k]; rfl
theorem wpList_append_sts (w : World) {ops : Array Oper} {rest : List Oper} {o : Oper} {a : Act} {Q : Exit → Act → World → Prop} (hgd : o.guard = none) (s x : Operand)
    (ho : o.op = .call { callee := .builtin .append, args := #[s, x], argTypes := #[96, 96] })
    (base : Nat) (v : Value) (n : Nat) (ys : List Value) (hs : a.eval s = v) (hown : OwnSv w base v n ys) (ts : List Stg) (A : Option Addr) (m c : Nat) (vs : List Value) (hx : a.eval x = .slice A m c) (hst : Sts w ts A m vs)
    (h63 : n + m ≤ 1000000) (hbase : base ≤ w.heap.size)
    (K : ∀ v' w', OwnSv w' base v' (n + m) (ys ++ nvs vs m) → Below base w w' → wpList Try.prog ops Q rest (a.put o.dst v') w') : wpList Try.prog ops Q (o :: rest) a w := by
  obtain ⟨v', w', e1, e2, e3, -⟩ := run_append_rows ety_st w o.type base v n ys hown A m c (nvs vs m) (by rw [nvs_len]; omega) (fun hm => by
    obtain ⟨b, e, -⟩ := hst.at_ 0 hm
    refine ⟨b, 0, e, fun j u hj => ?_⟩
    have hjm : j < m := by
      have := (List.getElem?_eq_some_iff.1 hj).1
      rwa [nvs_len] at this
    obtain ⟨b', e', hc⟩ := hst.at_ j hjm
    rw [e] at e'
    cases e'
    have hu : u = vs.getD j undef := by
      rw [← nvs_get (vs := vs) hjm]
      simp [List.getD, hj]
    rw [hu, Nat.zero_add]
    exact hc) (fun u hu => by
    simp only [nvs, List.mem_map, List.mem_range] at hu
    obtain ⟨j, hj, rfl⟩ := hu
    exact (hst.st j hj).one) h63 hbase
  refine wpList_plain hgd fun K' hK => ?_
  unfold Oper.wp execOp
  simp only [ho, resolve, invoke, builtin, Sem.run_bind, Sem.run_pure, Result.andThen_ok, List.map_toArray, List.map_cons, List.map_nil, hs, hx, e1]
  exact hK _ _ (K v' w' e2 (gb_low' e3 (fun g hg => (World.ownsRow.lt hown g hg).1) (Nat.le_refl _) hbase))
theorem st_appl {ts us : List Stg} {i : Nat} (h : i < ts.length) : st_ (ts ++ us) i = st_ ts i := by unfold st_; rw [List.getD, List.getElem?_append_left h]; rfl
theorem st_appr {ts us : List Stg} {i : Nat} (h : ts.length ≤ i) : st_ (ts ++ us) i = st_ us (i - ts.length) := by unfold st_; rw [List.getD, List.getElem?_append_right h]; rfl
theorem nvs_appl {vs us : List Value} {n m i : Nat} (h : i < n) : (nvs vs n ++ nvs us m).getD i undef = vs.getD i undef := by
  rw [List.getD, List.getElem?_append_left (by rw [nvs_len]; exact h)]
  exact nvs_get h
theorem nvs_appr {vs us : List Value} {n m i : Nat} (h : n ≤ i) (h2 : i < n + m) : (nvs vs n ++ nvs us m).getD i undef = us.getD (i - n) undef := by
  rw [List.getD, List.getElem?_append_right (by rw [nvs_len]; exact h), nvs_len]
  exact nvs_get (by omega)
def CatAns (w : World) (ts : List Stg) (e : Ending) (w' : World) : Prop := ∃ A c vs, e = .returned (.slice A ts.length c) ∧ Sts w' ts A ts.length vs ∧ Below w.heap.size w w'
set_option maxRecDepth 100000 in
set_option maxHeartbeats 4000000 in
theorem Concat_any (q : Nat) (A : Option Addr) (n c : Nat) (ts : List Stg) (vs : List Value) (A' : Option Addr) (n' c' : Nat) (us : List Stg) (ws : List Value) (w : World) (h : Sts w ts A n vs) (h' : Sts w us A' n' ws) (hq : Bx w q [.slice A n c, .slice A' n' c']) (hn : n + n' ≤ 100) :
    Calls Try.prog 55 #[.slice (some ⟨q, 0, none⟩) 2 2] w (CatAns w (ts ++ us)) := by
  have H := Lib.hid h
  have H' := Lib.hid h'
  have x0 := hq.c 0 rfl
  have x1 := hq.c 1 rfl
  have ql := hq.lt
  have X0 := Lib.hid x0
  have X1 := Lib.hid x1
  have HL : Hid (ts.length = n) := h.len
  have HL' : Hid (us.length = n') := h'.len
  have i0 : IntKind.i64.wrap ((n : Int) + (n' : Int)) = ((n + n' : Nat) : Int) := by rw [IntWalk.i64_in _ (by omega)]; simp
  have i1 : IntKind.i64.wrap (0 + (n : Int)) = (n : Int) := by rw [IntWalk.i64_in _ (by omega)]; omega
  have p0 : ¬ (n : Int) < 0 := by omega
  have p1 : ¬ ((n + n' : Nat) : Int) < 0 := by omega
  clear h h' hq
  go_enter Try.func55, Try.ntmps55
  go_wp2_with fail
  go_loopw [3, 11] (fun s i wr => w = wr ∧ ((i = .int .i64 0 ∧ s = .int .i64 0) ∨ (i = .int .i64 1 ∧ s = .int .i64 n) ∨ (i = .int .i64 2 ∧ s = .int .i64 ((n + n' : Nat) : Int)))) (fun _ i _ => 2 - (intOf i).toNat)
  case atStart => exact ⟨rfl, .inl ⟨rfl, rfl⟩⟩
  case round =>
    obtain ⟨rfl, ⟨rfl, rfl⟩ | ⟨rfl, rfl⟩ | ⟨rfl, rfl⟩⟩ := hrel
    · go_wp2_with fail
      go_roundw
      case rel => exact ⟨by first | rfl | trivial, .inr (.inl ⟨by go_num, by first | rfl | go_num⟩)⟩
      case measure => simp [intOf]
    · go_wp2_with fail
      go_roundw
      case rel => exact ⟨by first | rfl | trivial, .inr (.inr ⟨by go_num, by first | rfl | go_num⟩)⟩
      case measure => simp [intOf]
    · clear x0 x1
      go_wp2_with fail
      refine (Grow_any (n + n') _ (by omega)).mono ?_
      rintro e w1 ⟨G, k, rfl, ho, hb⟩
      have T1 := Lib.hid hb
      have O1 := Lib.hid ho
      have HS1 := Lib.hid (H.out.bel hb)
      have HS1' := Lib.hid (H'.out.bel hb)
      clear ho hb i0 i1
      go_wp2_with fail
      go_loopw [6, 27] (fun v i wr => Hid (Below w.heap.size w wr) ∧ ((i = .int .i64 0 ∧ Hid (OwnSv wr w.heap.size v 0 [])) ∨ (i = .int .i64 1 ∧ Hid (OwnSv wr w.heap.size v n (nvs vs n))) ∨ (i = .int .i64 2 ∧ Hid (OwnSv wr w.heap.size v (n + n') (nvs vs n ++ nvs ws n'))))) (fun _ i _ => 2 - (intOf i).toNat)
      case atStart => exact ⟨T1.out, .inl ⟨rfl, O1.out⟩⟩
      case round =>
        obtain ⟨HB, ⟨rfl, HO⟩ | ⟨rfl, HO⟩ | ⟨rfl, HO⟩⟩ := hrel
        · have y0 := cell_later HB.out X0.out
          have HS2 := Lib.hid (H.out.bel HB.out)
          go_wp2_with (at_builtin; refine wpList_append_sts _ rfl _ _ rfl w.heap.size _ 0 [] rfl HO.out ts A n c vs rfl HS2.out (by omega) HB.out.size ?_; intro v5 w5 ho5 hb5)
          have HO5 : Hid (OwnSv w5 w.heap.size v5 n (nvs vs n)) := by
            have := ho5
            rw [Nat.zero_add, List.nil_append] at this
            exact this
          have HB5 := Lib.hid (HB.out.trans hb5)
          clear ho5 hb5 y0
          go_wp2_with fail
          go_roundw
          case rel => exact ⟨HB5, .inr (.inl ⟨by go_num, HO5⟩)⟩
          case measure => simp [intOf]
        · have y0 := cell_later HB.out X1.out
          have HS2 := Lib.hid (H'.out.bel HB.out)
          go_wp2_with (at_builtin; refine wpList_append_sts _ rfl _ _ rfl w.heap.size _ n (nvs vs n) rfl HO.out us A' n' c' ws rfl HS2.out (by omega) HB.out.size ?_; intro v5 w5 ho5 hb5)
          have HO5 : Hid (OwnSv w5 w.heap.size v5 (n + n') (nvs vs n ++ nvs ws n')) := ho5
          have HB5 := Lib.hid (HB.out.trans hb5)
          clear ho5 hb5 y0
          go_wp2_with fail
          go_roundw
          case rel => exact ⟨HB5, .inr (.inr ⟨by go_num, HO5⟩)⟩
          case measure => simp [intOf]
        · have hlen : (ts ++ us).length = n + n' := by rw [List.length_append, HL.out, HL'.out]
          have HOO : Hid (OwnSv wr w.heap.size u6 (ts ++ us).length (nvs vs n ++ nvs ws n')) := by show OwnSv _ _ _ _ _; rw [hlen]; exact HO.out
          have HST := Lib.hid (Sts.of HOO.out (fun i hi => by
            by_cases e : i < n
            · rw [st_appl (by rw [HL.out]; exact e), nvs_appl e]
              exact (H.out.st i e).bel HB.out
            · rw [st_appr (by rw [HL.out]; omega), nvs_appr (by omega) (by omega), HL.out]
              exact (H'.out.st (i - n) (by omega)).bel HB.out) (fun i hi => by
            by_cases e : i < n
            · rw [st_appl (by rw [HL.out]; exact e)]
              exact H.out.fine i e
            · rw [st_appr (by rw [HL.out]; omega), HL.out]
              exact H'.out.fine (i - n) (by omega)))
          go_wp2_with fail
          go_ret
          obtain ⟨A2, c2, e2, -, -, hs2⟩ := HST.out
          exact ⟨A2, c2, _, by rw [← e2]; rfl, hs2, HB.out⟩
/-! ### JoinChains -/
def joC (ts us : List Stg) : Int := if chf ts = 0 then (if chf us = 0 then (if 5 < ts.length + us.length then 2 else 0) else chf us) else chf ts
def joL (ts us : List Stg) : List Stg := if joC ts us = 0 then ts ++ us else []
theorem joL_n {ts us : List Stg} (h : joC ts us ≠ 0) : joL ts us = [] := by unfold joL; rw [if_neg h]
theorem joL_y {ts us : List Stg} (h : joC ts us = 0) : joL ts us = ts ++ us := by unfold joL; rw [if_pos h]
theorem joC_1 {ts us : List Stg} (h : chf ts ≠ 0) : joC ts us = chf ts := by unfold joC; rw [if_neg h]
theorem joC_2 {ts us : List Stg} (h : chf ts = 0) (h2 : chf us ≠ 0) : joC ts us = chf us := by unfold joC; rw [if_pos h, if_neg h2]
theorem joC_3 {ts us : List Stg} (h : chf ts = 0) (h2 : chf us = 0) (h3 : 5 < ts.length + us.length) : joC ts us = 2 := by unfold joC; rw [if_pos h, if_pos h2, if_pos h3]
theorem joC_4 {ts us : List Stg} (h : chf ts = 0) (h2 : chf us = 0) (h3 : ¬ 5 < ts.length + us.length) : joC ts us = 0 := by unfold joC; rw [if_pos h, if_pos h2, if_neg h3]
def ChnAns (w : World) (co : Int) (ts : List Stg) (e : Ending) (w' : World) : Prop := ∃ G n c, e = .returned (.agg #[.int .i64 co, .slice G n c]) ∧ Own w' (chD ts) (.slice G n c) w.heap.size w'.heap.size ∧ Below w.heap.size w w'
theorem ChnAns.bad {w w' : World} {co c : Int} {ts : List Stg} (h : co = c ∧ ts = []) (hb : Below w.heap.size w w') : ChnAns w co ts (.returned (.agg #[.int .i64 c, .slice none 0 0])) w' :=
  ⟨none, 0, 0, by rw [h.1], by rw [h.2]; exact Own.snil _ _ _ _ _ _ (Nat.zero_le _), hb⟩
theorem chf_zj {ts : List Stg} (h : chf ts = 0) : ts.length ≤ 5 ∧ sgL ts ts.length = 0 := by
  unfold chf at h
  by_cases h5 : 5 < ts.length
  · rw [if_pos h5] at h; omega
  · rw [if_neg h5] at h; exact ⟨by omega, h⟩
set_option maxRecDepth 100000 in
set_option maxHeartbeats 4000000 in
theorem JoinChains_any (A : Option Addr) (A' : Option Addr) (n c n' c' : Nat) (ts us : List Stg) (bs bs' : List Nat) (w : World) (h : Hd w (chD ts) (.slice A n c) bs) (h' : Hd w (chD us) (.slice A' n' c') bs') :
    Calls Try.prog 17 #[.agg #[.slice A n c], .agg #[.slice A' n' c']] w (ChnAns w (joC ts us) (joL ts us)) := by
  obtain ⟨W0, hW0⟩ : ∃ W0, W0 = ((w.alloc (.cells #[.slice A n c] 31)).alloc (.cells #[.slice A' n' c'] 31)).alloc (.cells #[.int .i64 0, .slice none 0 0] 37) := ⟨_, rfl⟩
  have B0 : Hid (Bx W0 (w.heap.size + 1) [.slice A' n' c']) := by show Bx _ _ _; rw [hW0]; exact (Bx.new _ _ _ (by simp)).alloc _
  have R0 : Hid (Bx W0 (w.heap.size + 1 + 1) [.int .i64 0, .slice none 0 0]) := by show Bx _ _ _; rw [hW0]; exact Bx.new _ _ _ (by simp)
  have T0 : Hid (Below w.heap.size w W0) := by show Below _ _ _; rw [hW0]; exact blThenAlloc (blThenAlloc (blAlloc _ _) _) _
  have HZ : Hid (W0.heap.size = w.heap.size + 3) := by show _ = _; rw [hW0]; simp
  have HW := Lib.hid hW0
  have H := Lib.hid h
  have H' := Lib.hid h'
  clear h h' hW0
  go_enter Try.func17, Try.ntmps17
  go_wp2_with fail
  rw [← HW.out]
  clear HW
  refine (chainStages_any A n c ts bs _ (H.out.bel T0.out)).mono ?_
  rintro e w1 ⟨v, rfl, hok, hb⟩
  have T1 := Lib.hid (blThen T0.out hb)
  have R1 := Lib.hid (R0.out.bel hb)
  have B1 := Lib.hid (B0.out.bel hb)
  have s1 := Lib.hid hb.size
  have r0 := R1.out.c 0 rfl
  have r1 := R1.out.c 1 rfl
  have z0 := R1.out.f 0
  have z1 := R1.out.f 1
  have l1 := R1.out.lt
  have y0 := B1.out.c 0 rfl
  have yl := B1.out.lt
  clear hb
  by_cases h0 : chf ts = 0
  · obtain ⟨vs, hov, hst⟩ := hok h0
    have H5 := Lib.hid (chf_zj h0)
    obtain ⟨X, x, rfl, hc1, hc2, hsts⟩ := Sts.of hov hst (sgL_all _ H5.out.2)
    have HST := Lib.hid hsts
    have H0 := Lib.hid h0
    rw [h0]
    clear hok hov hst h0 hsts hc1 hc2
    go_wp2_with fail
    refine (chainStages_any A' n' c' us bs' _ (H'.out.bel T1.out)).mono ?_
    rintro e w2 ⟨v, rfl, hok, hb⟩
    have T2 := Lib.hid (blThen T1.out hb)
    have R2 := Lib.hid (R1.out.bel hb)
    have HST2 := Lib.hid (HST.out.bel hb)
    have s2 := Lib.hid hb.size
    clear hb r0 r1 z0 z1 l1 y0 yl R1 B1 T1 HST
    have r0 := R2.out.c 0 rfl
    have r1 := R2.out.c 1 rfl
    have z0 := R2.out.f 0
    have z1 := R2.out.f 1
    have l1 := R2.out.lt
    by_cases h0 : chf us = 0
    · obtain ⟨ws, hov, hst⟩ := hok h0
      have H6 := Lib.hid (chf_zj h0)
      obtain ⟨Y, y, rfl, hc1, hc2, hsts⟩ := Sts.of hov hst (sgL_all _ H6.out.2)
      have HST3 := Lib.hid hsts
      have H0' := Lib.hid h0
      have m1 := H5.out.1
      have m2 := H6.out.1
      have HLA : Hid ((ts ++ us).length = ts.length + us.length) := List.length_append
      have HC3 : Hid (5 < ts.length + us.length → joC ts us = 2) := fun q => joC_3 H0.out h0 q
      have HC4 : Hid (¬ 5 < ts.length + us.length → joC ts us = 0) := fun q => joC_4 H0.out h0 q
      rw [h0]
      clear hok hov hst h0 hsts hc1 hc2
      obtain ⟨N, hN⟩ : ∃ N, N = ts.length := ⟨_, rfl⟩
      obtain ⟨M, hM⟩ : ∃ M, M = us.length := ⟨_, rfl⟩
      rw [← hN] at HST2 m1 HLA HC3 HC4 ⊢
      rw [← hM] at HST3 m2 HLA HC3 HC4 ⊢
      clear hN hM
      have i1 : IntKind.i64.wrap ((N : Int) + (M : Int)) = ((N + M : Nat) : Int) := by rw [IntWalk.i64_in _ (by omega)]; simp
      by_cases h5 : 5 < N + M
      · have HJ := Lib.hid (HC3.out h5)
        have HN := Lib.hid (joL_n (ts := ts) (us := us) (by rw [HJ.out]; omega))
        have g5 : ((N + M : Nat) : Int) > 5 := by omega
        go_wp2_with fail
        have KK := (R2.out.set 0 (.int .i64 2)).set 1 (.slice none 0 0)
        have k0 := KK.c 0 rfl
        have k1 := KK.c 1 rfl
        clear KK
        refine bodyPost_ret (v := .agg #[.int .i64 2, .slice none 0 0]) (by simp [results, Try.results17, go_sem, k0, k1]) rfl (ChnAns.bad ⟨HJ.out, HN.out⟩ ?_)
        repeat (refine Below.setCell ?_ (by simp; try omega) _)
        exact T2.out
      · have HJ := Lib.hid (HC4.out h5)
        have HY := Lib.hid (joL_y HJ.out)
        have g5 : ¬ ((N + M : Nat) : Int) > 5 := by omega
        go_wp2_with fail
        refine (Concat_any w2.heap.size X N x ts vs Y M y us ws _ (HST2.out.bel (blAlloc _ _)) (HST3.out.bel (blAlloc _ _)) (Bx.new w2 #[.slice X N x, .slice Y M y] _ rfl) (by omega)).mono ?_
        rintro e w3 ⟨Q, q, qs, rfl, hs, hb⟩
        have T3 := Lib.hid (blThen (blThenAlloc T2.out _) hb)
        have R3 := Lib.hid ((R2.out.alloc _).bel hb)
        have CC := Lib.hid (chainAnswer_any Q (ts ++ us).length q (ts ++ us) qs w3 hs (by have := HLA.out; omega))
        rw [HLA.out] at CC ⊢
        clear hb hs r0 r1 z0 z1 l1 R2 T2 HST2 HST3 i1
        go_wp2_with fail
        refine CC.out.mono ?_
        rintro e w4 ⟨G, k, d, rfl, ho, hb⟩
        have T4 := Lib.hid (blThen T3.out hb)
        have R4 := Lib.hid (R3.out.bel hb)
        have O4 := Lib.hid ho
        have z3 := Lib.hid (show w.heap.size + 1 + 1 < w3.heap.size from R3.out.lt)
        clear hb ho R3 T3 CC
        have r0 := R4.out.c 0 rfl
        have r1 := R4.out.c 1 rfl
        have z0 := R4.out.f 0
        have z1 := R4.out.f 1
        have l1 := R4.out.lt
        go_wp2_with fail
        have KK := (R4.out.set 0 (.int .i64 0)).set 1 (.slice G k d)
        have k0 := KK.c 0 rfl
        have k1 := KK.c 1 rfl
        clear KK
        refine bodyPost_ret (v := .agg #[.int .i64 0, .slice G k d]) (by simp [results, Try.results17, go_sem, k0, k1]) rfl ⟨G, k, d, by rw [HJ.out], ?_, ?_⟩
        · rw [HY.out]
          refine Own.mono (lo := w3.heap.size) (hi := w4.heap.size) ?_ (by have := z3.out; omega) (by simp only [setSize]; exact Nat.le_refl _)
          exact (O4.out.set (.inl (by have := z3.out; omega)) _ _).set (.inl (by have := z3.out; omega)) _ _
        · repeat (refine Below.setCell ?_ (by simp; try omega) _)
          exact T4.out
    · have HJ := Lib.hid (joC_2 H0.out h0)
      obtain ⟨f, hf⟩ : ∃ f, chf us = f := ⟨_, rfl⟩
      rw [hf] at h0 HJ ⊢
      have hqn : (f == 0) = false := by simpa using h0
      have HN := Lib.hid (joL_n (ts := ts) (us := us) (by rw [HJ.out]; exact h0))
      clear hok hf
      go_wp2_with fail
      have KK := (R2.out.set 0 (.int .i64 f)).set 1 (.slice none 0 0)
      have k0 := KK.c 0 rfl
      have k1 := KK.c 1 rfl
      clear KK
      refine bodyPost_ret (v := .agg #[.int .i64 f, .slice none 0 0]) (by simp [results, Try.results17, go_sem, k0, k1]) rfl (ChnAns.bad ⟨HJ.out, HN.out⟩ ?_)
      repeat (refine Below.setCell ?_ (by simp; try omega) _)
      exact T2.out
  · have HJ := Lib.hid (joC_1 (us := us) h0)
    obtain ⟨f, hf⟩ : ∃ f, chf ts = f := ⟨_, rfl⟩
    rw [hf] at h0 HJ ⊢
    have hqn : (f == 0) = false := by simpa using h0
    have HN := Lib.hid (joL_n (ts := ts) (us := us) (by rw [HJ.out]; exact h0))
    clear hok hf
    go_wp2_with fail
    have KK := (R1.out.set 0 (.int .i64 f)).set 1 (.slice none 0 0)
    have k0 := KK.c 0 rfl
    have k1 := KK.c 1 rfl
    clear KK
    refine bodyPost_ret (v := .agg #[.int .i64 f, .slice none 0 0]) (by simp [results, Try.results17, go_sem, k0, k1]) rfl (ChnAns.bad ⟨HJ.out, HN.out⟩ ?_)
    repeat (refine Below.setCell ?_ (by simp; try omega) _)
    exact T1.out
end Go.Proofs.Ytdjifaaofefpoaa
