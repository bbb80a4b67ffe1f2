/-
  FoldChain: the program's.
-/
import Derived.Test.YtdjifaaofefpoaaGreatFldD
import Derived.Test.YtdjifaaofefpoaaGreatFldE
namespace Go.Proofs.YtdjifaaofefpoaaGreat
open Go.RowKit Go.Maps
set_option linter.unusedVariables false
set_option linter.unusedSimpArgs false

theorem kps_nn (ts : List Stg) (n : Nat) : kps ts n n = (List.range n).filter fun j => !noV (st_ ts j) := by
  unfold kps
  refine List.filter_congr fun j hj => ?_
  have := List.mem_range.1 hj
  rw [decide_eq_false (by omega)]; rfl
theorem fdL_kps (ts : List Stg) (n : Nat) : fdL ts n = (kps ts n n).map (st_ ts) := by
  rw [kps_nn]
  induction n with
  | zero => rfl
  | succ n ih =>
    rw [List.range_succ, List.filter_append, List.map_append, ← ih]
    show fdL ts n ++ _ = _
    congr 1
    by_cases h : noV (st_ ts n) = true
    · simp [h]
    · rw [Bool.not_eq_true] at h; simp [h]
theorem kps_lt {ts : List Stg} {n k j : Nat} (h : j ∈ kps ts n k) : j < n := List.mem_range.1 (List.mem_filter.1 h).1
/-- What the map tells at a place that is left. -/
theorem at_ent {vs : List Value} {z : DataW Value} : ∀ {l : List Nat} {j : Nat}, j ∈ l → (DataW.map (l.map (ent vs))).atKey (lk j) z = .held (vs.getD j undef) := by
  intro l j h
  induction l with
  | nil => cases h
  | cons i r ih =>
    have e : (ent vs i).1.sameKey (lk j) = decide (i = j) := lk_same i j
    rw [List.map_cons]
    by_cases hij : i = j
    · simp only [DataW.atKey, List.find?_cons, e, decide_eq_true hij]
      rw [← hij]; rfl
    · have hr := ih (by rcases List.mem_cons.1 h with q | q; exact absurd q.symm hij; exact q)
      simp only [DataW.atKey, List.find?_cons, e, decide_eq_false hij] at hr ⊢
      exact hr
theorem keys_form {w : World} {base : Nat} {v : Value} {l : List Nat} (ho : w.ownsRow base 3 1 v l.length ((l.map fun j : Nat => (j : Int)).map encZ)) : ∃ A c, v = .slice A l.length c ∧ l.length ≤ c ∧ c ≤ maxLen ∧ ∀ i, i < l.length → ∃ g, A = some ⟨g, 0, none⟩ ∧ w.cell? ⟨g, i, none⟩ = some (.int .i64 ((l.getD i 0 : Nat) : Int)) := by
  have ho' := ho
  rcases ho.2 with ⟨rfl, hn⟩ | ⟨g, cap, cur, rfl, b1, b2, b3, b4, b5, b6⟩
  · rw [hn]
    exact ⟨none, 0, rfl, Nat.le_refl _, by unfold maxLen; omega, fun i hi => by omega⟩
  · refine ⟨some ⟨g, 0, none⟩, cap, rfl, b3, b4, fun i hi => ⟨g, rfl, ?_⟩⟩
    rw [World.ownsRow.cellAt ho' i (by omega)]
    simp [List.getD, hi, encZ]
theorem getD_mem {l : List Nat} {i : Nat} (h : i < l.length) : l.getD i 0 ∈ l := by
  simp only [List.getD]
  rw [List.getElem?_eq_getElem h]
  exact List.getElem_mem h
theorem sts_left {w : World} {base : Nat} {v : Value} {ts : List Stg} {vs : List Value} {n : Nat} (ho : OwnSv w base v (kps ts n n).length ((kps ts n n).map fun j => vs.getD j undef)) (hs : ∀ i, i < n → IsStg w (st_ ts i) (vs.getD i undef)) (hf : ∀ i, i < n → sgf (st_ ts i) = 0) :
    ∃ A c ws, v = .slice A (fdL ts n).length c ∧ Sts w (fdL ts n) A (fdL ts n).length ws := by
  have hl : (fdL ts n).length = (kps ts n n).length := by rw [fdL_kps, List.length_map]
  have e1 : ∀ i, i < (kps ts n n).length → st_ (fdL ts n) i = st_ ts ((kps ts n n).getD i 0) := fun i hi => by rw [fdL_kps]; simp [st_, List.getD, hi]
  have e2 : ∀ i, i < (kps ts n n).length → ((kps ts n n).map fun j => vs.getD j undef).getD i undef = vs.getD ((kps ts n n).getD i 0) undef := fun i hi => by simp [List.getD, hi]
  rw [← hl] at ho
  obtain ⟨A, c, h1, -, -, h4⟩ := Sts.of ho (fun i hi => by rw [e1 i (by omega), e2 i (by omega)]; exact hs _ (kps_lt (getD_mem (by omega)))) (fun i hi => by rw [e1 i (by omega)]; exact hf _ (kps_lt (getD_mem (by omega))))
  exact ⟨A, c, _, h1, h4⟩
theorem IsStg.ifc {w : World} {t : Stg} {v : Value} (h : IsStg w t v) : ∃ T x, v = .iface T x := by
  obtain ⟨hs, A1, n1, c1, A2, n2, c2, A3, n3, c3, hv, -⟩ := h
  rcases stF_kinds hs with kd | kd | kd
  · exact ⟨_, _, hv.one kd⟩
  · exact ⟨_, _, hv.two kd⟩
  · exact ⟨_, _, hv.thr kd⟩
theorem take_one (l : List Nat) (f : Nat → Value) (k : Nat) (h : k < l.length) : (l.take (k + 1)).map f = (l.take k).map f ++ [f (l.getD k 0)] := by
  rw [List.take_succ_eq_append_getElem h, List.map_append]
  simp [List.getD, h]
theorem zeroStg (w : World) : (zeroValue 78).run Tryz.prog w = .ok .nilIface w := by kernel_rfl
theorem wpList_look_stg (w : World) {ops : Array Oper} {rest : List Oper} {o : Oper} {a : Act} {Q : Exit → Act → World → Prop} (hg : o.guard = none) (m x : Operand) (hop : o.op = Op.lookup 68 m x false)
    (b n : Nat) (D : DataW Value) (hm : a.eval m = .map (some b)) (hown : w.ownsMap Tryz.prog 3 anyE b n D) (key : Value) (kl : Lit) (hx : a.eval x = key) (hkey : keyOf Tryz.prog 3 key = some kl) (v : Value) (hat : ∀ z, D.atKey kl z = .held v)
    (hK : wpList Tryz.prog ops Q rest (a.put o.dst v) w) : wpList Tryz.prog ops Q (o :: rest) a w := by
  refine wpList_plain hg fun K' hK' => ?_
  obtain ⟨u, ps, hrun, hv⟩ := hown.lookup keyN Tryz.underlying68 (zeroStg w) (R := anyE) (zd := .held .nilIface) (zp := []) rfl hkey
  rw [hat] at hv
  obtain rfl : u = v := by
    have := congrArg (fun r => r.map Prod.fst) hv
    simp only [anyE, Option.map_some, Option.some.injEq, DataW.held.injEq] at this
    exact this
  unfold Oper.wp
  simp [execOp, hop, hm, hx, hrun, Result.andThen]
  exact hK' _ _ hK
set_option maxRecDepth 100000 in
set_option maxHeartbeats 4000000 in
theorem FoldChain_any (A : Option Addr) (n c : Nat) (ts : List Stg) (bs : List Nat) (w : World) (h : Hd w (chD ts) (.slice A n c) bs) :
    Calls Tryz.prog 18 #[.agg #[.slice A n c]] w (ChnAns w (chf ts) (foL ts)) := by
  obtain ⟨W0, hW0⟩ : ∃ W0, W0 = (w.alloc (.cells #[.slice A n c] 32)).alloc (.cells #[.int .i64 0, .slice none 0 0] 41) := ⟨_, rfl⟩
  have R0 : Hid (Bx W0 (w.heap.size + 1) [.int .i64 0, .slice none 0 0]) := by show Bx _ _ _; rw [hW0]; exact Bx.new _ _ _ (by simp)
  have T0 : Hid (Below w.heap.size w W0) := by show Below _ _ _; rw [hW0]; exact blThenAlloc (blAlloc _ _) _
  have HZ : Hid (W0.heap.size = w.heap.size + 2) := by show _ = _; rw [hW0]; simp
  have HW := Lib.hid hW0
  have H : Hid (Hd W0 (chD ts) (.slice A n c) bs) := h.bel T0.out
  have HL := Lib.hid h.stgs.1
  clear h hW0
  go_enter Tryz.func18, Tryz.ntmps18
  go_wp2_with fail
  rw [← HW.out]
  clear HW
  refine (leftOf_any A n c ts bs _ H.out).mono ?_
  rintro e w1 ⟨m, rfl, hok, hb⟩
  have R1 := Lib.hid (R0.out.bel hb)
  have T1 := Lib.hid (blThen T0.out hb)
  have HZ1 : Hid (w.heap.size + 2 ≤ w1.heap.size) := by show _ ≤ _; have := HZ.out; have := hb.size; omega
  clear hb R0 T0 HZ H
  by_cases h0 : chf ts = 0
  · obtain ⟨b, D, vs, rfl, hm, hst⟩ := hok h0
    rw [HL.out] at hm hst
    have HF : Hid (foL ts = fdL ts n) := by show _ = _; unfold foL; rw [if_pos h0, HL.out]
    have n5 : n ≤ 5 := by have := (chf_zj h0).1; have := HL.out; omega
    have FA := Lib.hid (sgL_all _ (chf_zj h0).2)
    have H0 := Lib.hid h0
    have HM := Lib.hid hm
    have HST := Lib.hid hst
    have CS := Lib.hid (sortedL_any b n ts n vs D w1 hm.own hm.ex (by omega))
    have CK := Lib.hid (keysL_any (some b) w1)
    rw [h0]
    clear hok h0 hm hst
    go_wp2_with fail
    refine CK.out.mono ?_
    rintro e w2 ⟨rfl, rfl⟩
    go_wp2_with fail
    refine CS.out.mono ?_
    rintro e w3 ⟨v, rfl, hrow, hb⟩
    have B3 := Lib.hid (show Below w1.heap.size w1 w3 from (blAlloc w1 _).trans (hb.mono (by omega)))
    have HR := Lib.hid hrow
    clear hb hrow CK CS
    obtain ⟨X, x, rfl, hx1, hx2, hcl⟩ := keys_form HR.out
    have HC := Lib.hid hcl
    obtain ⟨M, hM⟩ : ∃ M, (kps ts n n).length = M := ⟨_, rfl⟩
    have hM5 : M ≤ 5 := by
      have : (kps ts n n).length ≤ n := by
        refine Nat.le_trans (List.length_filter_le _ _) ?_
        rw [List.length_range]; exact Nat.le_refl _
      omega
    rw [hM] at hx1 HC ⊢
    have HMM := Lib.hid hM
    clear hcl hM HR
    go_wp2_with fail
    go_loopw [5, 21] (fun v i wr => ∃ (k : Nat) (u : Value), k ≤ M ∧ i = .int .i64 k ∧ u = v ∧ Hid (OwnSv wr w3.heap.size u k (((kps ts n n).take k).map fun j => vs.getD j undef)) ∧ Hid (Below w3.heap.size w3 wr)) (fun _ i _ => M - (intOf i).toNat)
    case atStart => exact ⟨0, _, by omega, rfl, rfl, World.ownsRow_nil _ _ _ _, Below.refl _ _⟩
    case round =>
      obtain ⟨k, v, hk, rfl, rfl, HO, HB⟩ := hrel
      by_cases hlt : k < M
      · obtain ⟨g, rfl, kc⟩ := HC.out k hlt
        replace kc := cell_later HB.out kc
        have hmem : (kps ts n n).getD k 0 ∈ kps ts n n := getD_mem (by rw [HMM.out]; exact hlt)
        have TK := Lib.hid (take_one (kps ts n n) (fun j => vs.getD j undef) k (by rw [HMM.out]; exact hlt))
        have HAT : Hid (∀ z, D.atKey (lk ((kps ts n n).getD k 0)) z = .held (vs.getD ((kps ts n n).getD k 0) undef)) := fun z => by rw [HM.out.ex]; exact at_ent hmem
        obtain ⟨sT, sx, hsv⟩ := (HST.out _ (kps_lt hmem)).ifc
        have hj5 := kps_lt hmem
        have HMW := Lib.hid ((HM.out.bel B3.out).bel HB.out)
        clear hmem
        obtain ⟨j, hj⟩ : ∃ j, (kps ts n n).getD k 0 = j := ⟨_, rfl⟩
        rw [hj] at kc TK HAT hsv hj5
        rw [hsv] at HAT
        have TK2 : Hid (((kps ts n n).take (k + 1)).map (fun j => vs.getD j undef) = ((kps ts n n).take k).map (fun j => vs.getD j undef) ++ [.iface sT sx]) := by show _ = _; rw [← hsv]; exact TK.out
        clear hj hsv TK
        obtain ⟨us, hus⟩ : ∃ us, ((kps ts n n).take k).map (fun j => vs.getD j undef) = us := ⟨_, rfl⟩
        rw [hus] at HO TK2
        clear hus
        go_wp2_with (first
          | (at_lookup; refine wpList_look_stg _ rfl _ _ rfl b n D rfl HMW.out.own _ _ rfl (lk_key j (by omega)) (.iface sT sx) HAT.out ?_)
          | (at_builtin; refine wpList_append_stg _ rfl _ _ rfl w3.heap.size _ k us rfl (HO.out.below (blAlloc _ _)) _ _ _ rfl (new_cell _ _ _) rfl (by omega) (by have := HB.out.size; simp; omega) ?_; intro v4 w4 ho4 hg4 hgb))
        have B4 := Lib.hid ((blThenAlloc HB.out _).trans (gb_low' hg4 hgb (Nat.le_refl _) (by have := HB.out.size; simp; omega)))
        have O4 := Lib.hid ho4
        clear ho4 hg4 hgb kc
        go_wp2_with fail
        go_roundw
        case rel => exact ⟨k + 1, _, by omega, by go_num, rfl, by show OwnSv _ _ _ _ _; rw [TK2.out]; exact O4.out, B4.out⟩
        case measure => simp [intOf]; omega
      · obtain rfl : k = M := by omega
        have HOS : Hid (OwnSv wr w3.heap.size v (kps ts n n).length ((kps ts n n).map fun j => vs.getD j undef)) := by
          show OwnSv _ _ _ _ _
          have := HO.out
          rw [List.take_of_length_le (by rw [HMM.out]; exact Nat.le_refl _)] at this
          rw [HMM.out]; exact this
        have BW := Lib.hid (show Below w1.heap.size w1 wr from B3.out.trans (HB.out.mono B3.out.size))
        obtain ⟨Y, y, ws, rfl, hsts⟩ := sts_left HOS.out (fun i hi => (HST.out i hi).bel BW.out) (fun i hi => FA.out i (by rw [HL.out]; exact hi))
        have CA := Lib.hid (chainAnswer_any Y (fdL ts n).length y (fdL ts n) ws wr hsts (by have := fdL_le ts n; omega))
        have R3 := Lib.hid (R1.out.bel BW.out)
        have T3 := Lib.hid (blThen T1.out BW.out)
        have HZ3 := Lib.hid (show w.heap.size + 2 ≤ wr.heap.size from by have := HZ1.out; have := BW.out.size; omega)
        obtain ⟨Q, hQ⟩ : ∃ Q, (fdL ts n).length = Q := ⟨_, rfl⟩
        rw [hQ] at CA ⊢
        clear hsts HOS HO hQ
        go_wp2_with fail
        refine CA.out.mono ?_
        rintro e w5 ⟨G, p, d, rfl, ho, hb⟩
        have R5 := Lib.hid (R3.out.bel hb)
        have T5 := Lib.hid (blThen T3.out hb)
        have O5 := Lib.hid ho
        clear hb ho CA
        have r0 := R5.out.c 0 rfl
        have r1 := R5.out.c 1 rfl
        have z0 := R5.out.f 0
        have z1 := R5.out.f 1
        have l1 := R5.out.lt
        go_wp2_with fail
        have KK := (R5.out.set 0 (.int .i64 0)).set 1 (.slice G p d)
        have k0 := KK.c 0 rfl
        have k1 := KK.c 1 rfl
        clear KK
        refine bodyPost_ret (v := .agg #[.int .i64 0, .slice G p d]) (by simp [results, Tryz.results18, go_sem, k0, k1]) rfl ⟨G, p, d, by rw [H0.out], ?_, ?_⟩
        · rw [HF.out]
          have := HZ3.out
          refine Own.mono (lo := wr.heap.size) (hi := w5.heap.size) ?_ (by omega) (by simp only [setSize]; exact Nat.le_refl _)
          exact (O5.out.set (.inl (by omega)) _ _).set (.inl (by omega)) _ _
        · repeat (refine Below.setCell ?_ (by simp; try omega) _)
          exact T5.out
  · have HF : Hid (foL ts = []) := by show _ = _; unfold foL; rw [if_neg h0]
    obtain ⟨f, hf⟩ : ∃ f, chf ts = f := ⟨_, rfl⟩
    have HFF := Lib.hid hf
    rw [hf] at h0 ⊢
    have hqn : (f == 0) = false := by simpa using h0
    have hqm : (f != 0) = true := by simpa using h0
    clear hf hok
    have r0 := R1.out.c 0 rfl
    have r1 := R1.out.c 1 rfl
    have z0 := R1.out.f 0
    have z1 := R1.out.f 1
    have l1 := R1.out.lt
    go_wp2_with fail
    have KK := (R1.out.set 0 (.int .i64 f)).set 1 (.slice none 0 0)
    have k0 := KK.c 0 rfl
    have k1 := KK.c 1 rfl
    clear KK
    refine bodyPost_ret (v := .agg #[.int .i64 f, .slice none 0 0]) (by simp [results, Tryz.results18, go_sem, k0, k1]) rfl (ChnAns.bad ⟨HFF.out, HF.out⟩ ?_)
    repeat (refine Below.setCell ?_ (by simp; try omega) _)
    exact T1.out
theorem foL_len (ts : List Stg) : (foL ts).length ≤ 5 := by
  unfold foL
  by_cases h : chf ts = 0
  · rw [if_pos h]
    have := fdL_le ts ts.length
    have := (chf_zj h).1
    omega
  · rw [if_neg h]; simp
theorem foL_small (ts : List Stg) : ChSmall (foL ts) := by
  refine ⟨by have := foL_len ts; omega, fun i hi => ?_⟩
  unfold foL at hi ⊢
  by_cases h : chf ts = 0
  · rw [if_pos h] at hi ⊢
    have hi' : i < (kps ts ts.length ts.length).length := by rw [fdL_kps, List.length_map] at hi; exact hi
    have e1 : st_ (fdL ts ts.length) i = st_ ts ((kps ts ts.length ts.length).getD i 0) := by rw [fdL_kps]; simp [st_, List.getD, hi']
    rw [e1]
    obtain ⟨a, b, c⟩ := stg_ok (sgL_all _ (chf_zj h).2 _ (kps_lt (getD_mem hi')))
    exact ⟨rwOk_small a, rwOk_small b, rwOk_small c⟩
  · rw [if_neg h] at hi; simp at hi
end Go.Proofs.YtdjifaaofefpoaaGreat
