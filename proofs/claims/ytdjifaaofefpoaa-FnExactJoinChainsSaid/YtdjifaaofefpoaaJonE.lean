/-
  The reference model's copy of a chain, and its JoinChains.
-/
import Derived.Test.YtdjifaaofefpoaaJonD
namespace Go.Proofs.Ytdjifaaofefpoaa
open Go.RowKit Go.Maps
set_option linter.unusedVariables false
set_option linter.unusedSimpArgs false

theorem OwnE.lower {T : TypeId} {m : Nat} {w : World} {base base' hi n : Nat} {v : Value} {els : List (List Dat)} (h : OwnE T m w base v n els hi) (hb : base' ≤ base) : OwnE T m w base' v n els hi := by
  obtain ⟨U, G, h1, h2, h3, h4, h5, h6⟩ := h
  refine ⟨U, G, h1, ⟨h2.1, ?_⟩, h3, h4, fun i hi' j hj b hb' => by obtain ⟨a1, a2, a3, a4⟩ := h5 i hi' j hj b hb'; exact ⟨by omega, a2, a3, a4⟩, h6⟩
  rcases h2.2 with e | ⟨g, cap, cur, e1, e2, r⟩
  · exact .inl e
  · exact .inr ⟨g, cap, cur, e1, by omega, r⟩
theorem Hd.one {w : World} {d : Dat} {v : Value} {bs : List Nat} (h : Hd w d v bs) : v.oneCell' = true := by
  cases h <;> rfl
set_option maxRecDepth 100000 in
/-- the elements of a second list go behind. -/
theorem run_append_cat {ts T : TypeId} {m by_ : Nat} (E : Ety ts T m by_) (w : World) (ty : TypeId) (base : Nat) (v : Value) (n : Nat) (els : List (List Dat)) (mid : Nat) (h : OwnE T m w base v n els mid) (base2 : Nat) (A2 : Option Addr) (n2 c2 : Nat) (els2 : List (List Dat)) (hi2 : Nat) (h2 : OwnE T m w base2 (.slice A2 n2 c2) n2 els2 hi2)
    (l1 : mid ≤ base2) (l2 : hi2 ≤ w.heap.size) (hbm : base ≤ mid) (hbw : base ≤ w.heap.size) (h63 : n + n2 ≤ 1000000) :
    ∃ v' w', (Builtin.append_ #[ts, ts] ty #[v, .slice A2 n2 c2]).run Try.prog w = .ok v' w' ∧ OwnE T m w' base v' (n + n2) (els ++ els2) w'.heap.size ∧ Below base w w' := by
  obtain ⟨U, G, a1, a2, a3, a4, a5, a6⟩ := h
  obtain ⟨U2, G2, b1, b2, b3, b4, b5, b6⟩ := h2
  have hm := E.pos
  obtain ⟨v', w', e1, e2, e3, e4⟩ := run_append_rows E w ty base v n _ a2 A2 n2 c2 (ecs m U2 n2) (ecs_len m U2 n2) (fun hn2 => by
    rcases b2.2 with ⟨e, rfl⟩ | ⟨g, cap, cur, e, r⟩
    · omega
    · injection e with e _ _
      subst e
      refine ⟨g, 0, rfl, fun j u hj => ?_⟩
      have hc := b2.cells (g := g) rfl j u hj
      have hadd : ((⟨g, 0, none⟩ : Addr).add j) = ⟨g, 0 + j, none⟩ := by unfold Addr.add; split <;> simp_all
      rw [hadd] at hc
      exact hc) (fun u hu => by
    obtain ⟨p, hp⟩ := List.getElem?_of_mem hu
    have hlt : p < n2 * m := by
      have := (List.getElem?_eq_some_iff.1 hp).1
      rwa [ecs_len] at this
    have hd : p / m < n2 := Nat.div_lt_of_lt_mul (by rw [Nat.mul_comm]; exact hlt)
    have hr : p % m < m := Nat.mod_lt _ hm
    have hat := ecs_at (m := m) U2 hd hr
    rw [show p / m * m + p % m = p by rw [Nat.mul_comm]; exact Nat.div_add_mod p m] at hat
    rw [hat] at hp
    obtain rfl := Option.some.inj hp
    exact (b3 _ hd _ hr).one) h63 hbw
  have hnew : ∀ i, i < n2 → ∀ j, j < m → ∀ b ∈ G2 i j, some b ≠ v.ownBlock := fun i hi j hj b hb e => by have := a6 b e.symm; have := (b5 i hi j hj b hb).1; omega
  subst a1
  subst b1
  have p1 : ∀ i j, i < els.length → At (els ++ els2) i j = At els i j := fun i j hi => by unfold At; congr 1; simp only [List.getD]; rw [List.getElem?_append_left hi]
  have p2 : ∀ i j, els.length ≤ i → At (els ++ els2) i j = At els2 (i - els.length) j := fun i j hi => by unfold At; congr 1; simp only [List.getD]; rw [List.getElem?_append_right hi]
  refine ⟨v', w', e1, ⟨fun i j => if i < els.length then U i j else U2 (i - els.length) j, fun i j => if i < els.length then G i j else G2 (i - els.length) j, by simp, ?_, fun i hi j hj => ?_, ?_, fun i hi j hj b hb => ?_, fun g hgv => (e2.lt g hgv).2⟩, gb_low' e3 (fun g hg => (World.ownsRow.lt a2 g hg).1) (Nat.le_refl _) hbw⟩
  · have ee : ∀ q, ecs m (fun i j => if i < els.length then U i j else U2 (i - els.length) j) (els.length + q) = ecs m U els.length ++ ecs m U2 q := by
      intro q
      induction q with
      | zero =>
        rw [Nat.add_zero, show ecs m U2 0 = [] from rfl, List.append_nil]
        exact ecs_congr fun i hi j _ => by simp [hi]
      | succ q ih =>
        rw [← Nat.add_assoc, ecs_succ, ih, ecs_succ, List.append_assoc]
        congr 2
        refine List.map_congr_left fun j _ => ?_
        have hq : ¬ els.length + q < els.length := by omega
        simp [hq]
    rw [ee]
    exact e2
  · by_cases e : i < els.length
    · simp only [e, if_true]
      rw [p1 i j e]
      exact (a3 i e j hj).keep fun b hb k => World.cell?_of_block (e3.block b ((a3 i e j hj).lt b hb) (fun e' => (a5 i e j hj b hb).2.2.2 e'.symm))
    · simp only [e, if_false]
      rw [p2 i j (by omega)]
      exact (b3 _ (by omega) j hj).keep fun b hb k => World.cell?_of_block (e3.block b ((b3 _ (by omega) j hj).lt b hb) (hnew _ (by omega) j hj b hb))
  · refine fam_nodup.2 ⟨fun i hi j hj => ?_, fun i hi j hj i' hi' j' hj' hne x hx hx' => ?_⟩
    · by_cases e : i < els.length
      · simp only [e, if_true]; exact (fam_nodup.1 a4).1 i e j hj
      · simp only [e, if_false]; exact (fam_nodup.1 b4).1 _ (by omega) j hj
    · by_cases e : i < els.length <;> by_cases e' : i' < els.length <;> simp only [e, e', if_true, if_false] at hx hx'
      · exact (fam_nodup.1 a4).2 i e j hj i' e' j' hj' hne x hx hx'
      · have := (a5 i e j hj x hx).2.1
        have := (b5 _ (by omega) j' hj' x hx').1
        omega
      · have := (a5 i' e' j' hj' x hx').2.1
        have := (b5 _ (by omega) j hj x hx).1
        omega
      · exact (fam_nodup.1 b4).2 (i - els.length) (by omega) j hj (i' - els.length) (by omega) j' hj' (fun q => hne ⟨by omega, q.2⟩) x hx hx'
  · have hcore : base ≤ b ∧ b < w.heap.size ∧ Thaw w b ∧ v.ownBlock ≠ some b := by
      by_cases e : i < els.length
      · simp only [e, if_true] at hb
        obtain ⟨c1, c2, c3, c4⟩ := a5 i e j hj b hb
        exact ⟨c1, (a3 i e j hj).lt b hb, c3, c4⟩
      · simp only [e, if_false] at hb
        obtain ⟨c1, c2, c3, c4⟩ := b5 _ (by omega) j hj b hb
        exact ⟨by omega, by omega, c3, fun e' => hnew _ (by omega) j hj b hb e'.symm⟩
    obtain ⟨c1, c2, c3, c4⟩ := hcore
    refine ⟨c1, by have := e3.size; omega, fun k => ?_, fun e => ?_⟩
    · rw [← c3 k]
      unfold World.frozen?
      rw [e3.block b c2 (fun e' => c4 e'.symm)]
    · rcases e4 with hh | hh
      · exact c4 (hh ▸ e)
      · rw [hh] at e; injection e with e; omega
theorem step_append_cat {ts T : TypeId} {m by_ : Nat} (E : Ety ts T m by_) (w : World) {ops : Array Oper} {op : Oper} {a : Act} {K : Act → World → Prop} {Q : Exit → Act → World → Prop} {EE : Prop} (hgd : op.guard = none) (s x : Operand)
    (ho : op.op = .call { callee := .builtin .append, args := #[s, x], argTypes := #[ts, ts] })
    (base : Nat) (v : Value) (n : Nat) (els : List (List Dat)) (mid : Nat) (hs : a.eval s = v) (h : OwnE T m w base v n els mid) (base2 : Nat) (A2 : Option Addr) (n2 c2 : Nat) (els2 : List (List Dat)) (hi2 : Nat) (hx : a.eval x = .slice A2 n2 c2) (h2 : OwnE T m w base2 (.slice A2 n2 c2) n2 els2 hi2)
    (l1 : mid ≤ base2) (l2 : hi2 ≤ w.heap.size) (hbm : base ≤ mid) (hbw : base ≤ w.heap.size) (h63 : n + n2 ≤ 1000000)
    (H : ∀ A c' w', OwnE T m w' base (.slice A (n + n2) c') (n + n2) (els ++ els2) w'.heap.size → Below base w w' → K (a.put op.dst (.slice A (n + n2) c')) w') : if Region.wanted op (yielded ops a.tmps) = true then Oper.wp Try.prog op a w K Q else EE := by
  have hwn : Region.wanted op (yielded ops a.tmps) = true := by simp [Region.wanted, hgd]
  rw [if_pos hwn]
  obtain ⟨v', w', e1, e2, e3⟩ := run_append_cat E w op.type base v n els mid h base2 A2 n2 c2 els2 hi2 h2 l1 l2 hbm hbw h63
  obtain ⟨A, c', rfl⟩ := e2.form
  unfold Oper.wp execOp
  simp only [ho, resolve, invoke, builtin, Sem.run_bind, Sem.run_pure, Result.andThen_ok, List.map_toArray, List.map_cons, List.map_nil, hs, hx, e1]
  exact H A c' w' e2 e3
theorem fldC (G : Option Addr) (n c : Nat) (W : World) : (Instr.field 31 (.agg #[.slice G n c]) 0).run Try.prog W = .ok (.slice G n c) W := by kernel_rfl
def CyAns (w : World) (n : Nat) (ts : List Stg) (e : Ending) (w' : World) : Prop := ∃ A c, e = .returned (.agg #[.slice A n c]) ∧ OwnE 57 5 w' w.heap.size (.slice A n c) n (ts.map stD) w'.heap.size ∧ Below w.heap.size w w'
set_option maxRecDepth 100000 in
set_option maxHeartbeats 4000000 in
theorem sCopy6_any (A : Option Addr) (n c : Nat) (ts : List Stg) (bs : List Nat) (w : World) (h : Hd w (chD ts) (.slice A n c) bs) (hn : n ≤ 100) (hf : ∀ i, i < n → sgf (st_ ts i) = 0) :
    Calls Try.prog 53 #[.agg #[.slice A n c]] w (CyAns w n ts) := by
  obtain ⟨W0, hW0⟩ : ∃ W0, W0 = ((w.alloc (.cells #[.slice A n c] 31)).alloc (.cells #[.slice none 0 0] 31)).alloc (.cells #[.slice none 0 0] 31) := ⟨_, rfl⟩
  have A0 : Hid (Bx W0 w.heap.size [.slice A n c]) := by show Bx _ _ _; rw [hW0]; exact ((Bx.new _ _ _ rfl).alloc _).alloc _
  have R0 : Hid (Bx W0 (w.heap.size + 1) [.slice none 0 0]) := by show Bx _ _ _; rw [hW0]; exact (Bx.new _ _ _ (by simp)).alloc _
  have M0 : Hid (Bx W0 (w.heap.size + 1 + 1) [.slice none 0 0]) := by show Bx _ _ _; rw [hW0]; exact Bx.new _ _ _ (by simp)
  have T0 : Hid (Below w.heap.size w W0) := by show Below _ _ _; rw [hW0]; exact blThenAlloc (blThenAlloc (blAlloc _ _) _) _
  have hz0 : W0.heap.size = w.heap.size + 3 := by rw [hW0]; simp
  have hz : w.heap.size + 3 ≤ W0.heap.size := by omega
  have HLn := Lib.hid h.stgs.1
  have HH : Hid (Hd w (chD ts) (.slice A n c) bs) := h
  have HFN := Lib.hid hf
  have HW := Lib.hid hW0
  clear h hf hW0 hz0
  go_enter Try.func53, Try.ntmps53
  go_wp2_with fail
  rw [← HW.out]
  clear HW
  go_loopw [4] (fun i wr => ∃ (k : Nat) (v : Value), k ≤ n ∧ i = .int .i64 k ∧ Hid (OwnE 57 5 wr W0.heap.size v k ((ts.take k).map stD) wr.heap.size) ∧ Hid (Bx wr (w.heap.size + 1 + 1) [v]) ∧ Hid (Bx wr w.heap.size [.slice A n c]) ∧ Hid (Bx wr (w.heap.size + 1) [.slice none 0 0]) ∧ Hid (Below w.heap.size w wr) ∧ W0.heap.size ≤ wr.heap.size) (fun i _ => n - (intOf i).toNat)
  case atStart => exact ⟨0, .slice none 0 0, by omega, rfl, by rw [List.take_zero]; exact OwnE.nil _ _ _ _ _, M0.out, A0.out, R0.out, T0.out, Nat.le_refl _⟩
  case round =>
    obtain ⟨k, v, hk, rfl, HO, HM, HA, HQ, HT, hsz⟩ := hrel
    have a0 := HA.out.c 0 rfl
    have al := HA.out.lt
    have fr := HM.out.lt
    by_cases hlt : k < n
    · obtain ⟨b, oo, A1, n1, c1, A2, n2, c2, A3, n3, c3, rfl, x0, x1, x2, x3, x4, xs⟩ := (HH.out.bel HT.out).stg hlt
      have HTK : Hid (ts.take (k + 1) = ts.take k ++ [st_ ts k]) := take_stg (by rw [HLn.out]; exact hlt)
      obtain ⟨A9, c9, rfl⟩ := HO.out.form
      have m1 := HM.out.c 0 rfl
      have p1 := HM.out.f 0
      have xl := cell_lt x0
      have HXS := Lib.hid xs
      have CC : Hid (∀ W, Below wr.heap.size wr W → Calls Try.prog 101 #[.agg #[.int .i64 (st_ ts k).kd, .slice A1 n1 c1, .slice A2 n2 c2, .int .i64 (st_ ts k).sd, .slice A3 n3 c3]] W (StAns W (st_ ts k))) := fun W hW => sCopyStage_any (st_ ts k) A1 n1 c1 A2 n2 c2 A3 n3 c3 W (HXS.out.bel hW) (HFN.out k hlt)
      clear xs
      go_wp2_with fail
      go_region_law (first
        | (refine step_append_owne ety_stage _ rfl _ _ rfl W0.heap.size (.slice A9 k c9) k _ wr.heap.size rfl (O2.out.below (blAlloc _ _)) (stD (st_ ts k)) (stV (st_ ts k).kd (.slice B1 y1 d1) (.slice B2 y2 d2) (st_ ts k).sd (.slice B3 y3 d3)) _ _ (OX.out.below (blAlloc _ _)) w2.heap.size 1 rfl AE.out AO.out (by omega) (by simp only [World.size_drew]; omega) (by simp) hsz (by have := B2b.out.size; simp; omega) ?_; intro A' c' w4 ho4 hb4; have M4 := Lib.hid ((M2.out.alloc _).low hb4 (by omega)); have m41 := M4.out.c 0 rfl; have p41 := M4.out.f 0; have ml4 := M4.out.lt)
        | (go_simp; go_at_call 101; (with_reducible refine (CC.out _ (by first | exact Below.refl _ _ | exact (Below.refl _ _).drew | exact below_drewN _ _ _)).mono ?_); rintro e w2 ⟨B1, y1, d1, B2, y2, d2, B3, y3, d3, rfl, how, hb2⟩; have B2b := Lib.hid (blThen (by first | exact Below.refl _ _ | exact (Below.refl _ _).drew | exact below_drewN _ _ _) hb2 : Below wr.heap.size wr w2); have OX := Lib.hid how; have O2 := Lib.hid (HO.out.below B2b.out); have M2 := Lib.hid (HM.out.bel B2b.out); have A2b := Lib.hid (HA.out.bel B2b.out); have Q2 := Lib.hid (HQ.out.bel B2b.out); have BXN := Lib.hid (Bx.new w2 #[.int .i64 (st_ ts k).kd, .slice B1 y1 d1, .slice B2 y2 d2, .int .i64 (st_ ts k).sd, .slice B3 y3 d3] 57 rfl); have AE : Hid (∀ j, j < 5 → (w2.alloc (.cells #[.int .i64 (st_ ts k).kd, .slice B1 y1 d1, .slice B2 y2 d2, .int .i64 (st_ ts k).sd, .slice B3 y3 d3] 57)).cell? ⟨w2.heap.size, j, none⟩ = some (stV (st_ ts k).kd (.slice B1 y1 d1) (.slice B2 y2 d2) (st_ ts k).sd (.slice B3 y3 d3) j)) := (stV_box BXN.out); have AO : Hid (∀ j, j < 5 → (stV (st_ ts k).kd (.slice B1 y1 d1) (.slice B2 y2 d2) (st_ ts k).sd (.slice B3 y3 d3) j).oneCell' = true) := (stV_one _ _ _ _ _ rfl rfl rfl); have n12 := M2.out.c 0 rfl; have nl2 := M2.out.lt; clear how hb2))
      all_goals
        have e1 : ((ts.take (k + 1)).map stD) = ((ts.take k).map stD) ++ [stD (st_ ts k)] := by rw [HTK.out, List.map_append]; rfl
        have T4 := Lib.hid (show Below w.heap.size w w4 from (blThen HT.out (blThenAlloc B2b.out _)).trans (hb4.mono (by omega)))
        have HA4 := Lib.hid ((A2b.out.alloc _).low hb4 (by omega))
        have HQ4 := Lib.hid ((Q2.out.alloc _).low hb4 (by omega))
        have HO4 := Lib.hid ho4
        have HE1 := Lib.hid e1
        have HSW := Lib.hid (show W0.heap.size ≤ w4.heap.size from by have a1 := hb4.size; have a2 := B2b.out.size; simp only [World.size_alloc] at a1; omega)
        clear ho4 hb4 e1
        try go_wp2_with fail
        go_roundw
        case rel =>
          refine ⟨k + 1, .slice A' (k + 1) c', by omega, by go_num, ?_, M4.out.set 0 _, HA4.out.oth (c := w.heap.size + 1 + 1) (by omega) _ _, HQ4.out.oth (c := w.heap.size + 1 + 1) (by omega) _ _, ?_, ?_⟩
          · show OwnE _ _ _ _ _ _ _ _
            rw [HE1.out]
            simp only [setSize]
            exact HO4.out.set (.inl (by omega)) _ _
          · exact T4.out.setCell (by simp; omega) _
          · simp only [setSize]; exact HSW.out
        case measure => simp [intOf]; omega
    · obtain rfl : k = n := by omega
      obtain ⟨B, d, rfl⟩ := HO.out.form
      have HF := Lib.hid (show OwnE 57 5 wr W0.heap.size (.slice B k d) k (ts.map stD) wr.heap.size from by
        have := HO.out
        rw [List.take_of_length_le (by rw [HLn.out]; exact Nat.le_refl _)] at this
        exact this)
      have r0 := HQ.out.c 0 rfl
      have q0 := HQ.out.f 0
      have m0 := HM.out.c 0 rfl
      have rl := HQ.out.lt
      clear HO HM
      go_wp2_with fail
      have KK := HQ.out.set 0 (.slice B k d)
      have k0 := KK.c 0 rfl
      clear KK
      refine bodyPost_ret (v := .agg #[.slice B k d]) (by simp [results, Try.results53, go_sem, k0]) rfl ⟨B, d, rfl, ?_, ?_⟩
      · simp only [setSize]
        exact (HF.out.set (.inl (by omega)) _ _).lower (by omega)
      · exact HT.out.setCell (by simp) _
set_option maxRecDepth 100000 in
set_option maxHeartbeats 4000000 in
theorem sJoinChains_any (A : Option Addr) (A' : Option Addr) (n c n' c' : Nat) (ts us : List Stg) (bs bs' : List Nat) (w : World) (h : Hd w (chD ts) (.slice A n c) bs) (h' : Hd w (chD us) (.slice A' n' c') bs') :
    Calls Try.prog 16 #[.agg #[.slice A n c], .agg #[.slice A' n' c']] w (ChnAns w (joC ts us) (joL ts us)) := by
  obtain ⟨W0, hW0⟩ : ∃ W0, W0 = ((w.alloc (.cells #[.slice A n c] 31)).alloc (.cells #[.slice A' n' c'] 31)).alloc (.cells #[.int .i64 0, .slice none 0 0] 37) := ⟨_, rfl⟩
  have A0 : Hid (Bx W0 w.heap.size [.slice A n c]) := by show Bx _ _ _; rw [hW0]; exact ((Bx.new _ _ _ rfl).alloc _).alloc _
  have B0 : Hid (Bx W0 (w.heap.size + 1) [.slice A' n' c']) := by show Bx _ _ _; rw [hW0]; exact (Bx.new _ _ _ (by simp)).alloc _
  have R0 : Hid (Bx W0 (w.heap.size + 1 + 1) [.int .i64 0, .slice none 0 0]) := by show Bx _ _ _; rw [hW0]; exact Bx.new _ _ _ (by simp)
  have T0 : Hid (Below w.heap.size w W0) := by show Below _ _ _; rw [hW0]; exact blThenAlloc (blThenAlloc (blAlloc _ _) _) _
  have HZ : Hid (W0.heap.size = w.heap.size + 3) := by show _ = _; rw [hW0]; simp
  have HW := Lib.hid hW0
  have H : Hid (Hd W0 (chD ts) (.slice A n c) bs) := h.bel T0.out
  have H' : Hid (Hd W0 (chD us) (.slice A' n' c') bs') := h'.bel T0.out
  have HL := Lib.hid h.stgs.1
  have HL' := Lib.hid h'.stgs.1
  clear h h' hW0
  go_enter Try.func16, Try.ntmps16
  go_wp2_with fail
  rw [← HW.out]
  clear HW
  refine (sFault6_any w.heap.size 0 A n c ts bs _ H.out (A0.out.c 0 rfl)).mono ?_
  rintro e w1 ⟨rfl, k1, rfl⟩
  have R1 := Lib.hid (R0.out.drewN k1)
  have r0 := R1.out.c 0 rfl
  have r1 := R1.out.c 1 rfl
  have z0 := R1.out.f 0
  have z1 := R1.out.f 1
  have l1 := R1.out.lt
  by_cases h0 : chf ts = 0
  · have H0 := Lib.hid h0
    rw [h0]
    go_wp2_with fail
    refine (sFault6_any (w.heap.size + 1) 0 A' n' c' us bs' _ (H'.out.bel (below_drewN _ _ _)) ((B0.out.drewN k1).c 0 rfl)).mono ?_
    rintro e w2 ⟨rfl, k2, rfl⟩
    have R2 := Lib.hid (R1.out.drewN k2)
    have A2 := Lib.hid ((A0.out.drewN k1).drewN k2)
    have B2 := Lib.hid ((B0.out.drewN k1).drewN k2)
    have T2 := Lib.hid (blThenDrew (blThenDrew T0.out k1) k2)
    have D2 := Lib.hid ((H.out.bel (below_drewN _ k1 _)).bel (below_drewN _ k2 _))
    have D2' := Lib.hid ((H'.out.bel (below_drewN _ k1 _)).bel (below_drewN _ k2 _))
    obtain ⟨WX, hWX⟩ : ∃ WX, WX = (W0.drewN k1).drewN k2 := ⟨_, rfl⟩
    have hzx : w.heap.size + 3 ≤ WX.heap.size := by rw [hWX]; have := HZ.out; simp; omega
    rw [← hWX] at R2 A2 B2 T2 D2 D2' ⊢
    clear hWX r0 r1 z0 z1 l1 R1 R0 A0 B0 H H' h0
    have r0 := R2.out.c 0 rfl
    have r1 := R2.out.c 1 rfl
    have z0 := R2.out.f 0
    have z1 := R2.out.f 1
    have l1 := R2.out.lt
    by_cases h0 : chf us = 0
    · have m1 := (chf_zj H0.out).1
      have m2 := (chf_zj h0).1
      have hl := HL.out
      have hl' := HL'.out
      have FA := Lib.hid (sgL_all _ (chf_zj H0.out).2)
      have FB := Lib.hid (sgL_all _ (chf_zj h0).2)
      have HC3 : Hid (5 < n + n' → joC ts us = 2) := fun q => joC_3 H0.out h0 (by omega)
      have HC4 : Hid (¬ 5 < n + n' → joC ts us = 0) := fun q => joC_4 H0.out h0 (by omega)
      have n5 : n ≤ 5 := by omega
      have n5' : n' ≤ 5 := by omega
      have CA : Hid (∀ W, Below WX.heap.size WX W → Calls Try.prog 53 #[.agg #[.slice A n c]] W (CyAns W n ts)) := fun W hW => sCopy6_any A n c ts bs W (D2.out.bel hW) (by omega) (fun i hi => FA.out i (by omega))
      have CB : Hid (∀ W, Below WX.heap.size WX W → Calls Try.prog 53 #[.agg #[.slice A' n' c']] W (CyAns W n' us)) := fun W hW => sCopy6_any A' n' c' us bs' W (D2'.out.bel hW) (by omega) (fun i hi => FB.out i (by omega))
      rw [h0]
      clear h0 m1 m2 hl hl'
      have a0 := A2.out.c 0 rfl
      have al := A2.out.lt
      have b0 := B2.out.c 0 rfl
      have bl := B2.out.lt
      have i1 : IntKind.i64.wrap ((n : Int) + (n' : Int)) = ((n + n' : Nat) : Int) := by rw [IntWalk.i64_in _ (by omega)]; simp
      by_cases h5 : 5 < n + n'
      · have HJ := Lib.hid (HC3.out h5)
        have HN := Lib.hid (joL_n (ts := ts) (us := us) (by rw [HJ.out]; omega))
        have g5 : ((n + n' : Nat) : Int) > 5 := by omega
        go_wp2_with fail
        have KK := (R2.out.set 0 (.int .i64 2)).set 1 (.slice none 0 0)
        have k0 := KK.c 0 rfl
        have k1 := KK.c 1 rfl
        clear KK
        refine bodyPost_ret (v := .agg #[.int .i64 2, .slice none 0 0]) (by simp [results, Try.results16, go_sem, k0, k1]) rfl (ChnAns.bad ⟨HJ.out, HN.out⟩ ?_)
        repeat (refine Below.setCell ?_ (by simp; try omega) _)
        exact T2.out
      · have HJ := Lib.hid (HC4.out h5)
        have HY := Lib.hid (joL_y HJ.out)
        have g5 : ¬ ((n + n' : Nat) : Int) > 5 := by omega
        go_wp2_with fail
        clear r0 r1 z0 z1 l1 i1 g5
        have hfc := fun G n c W => fldC G n c W
        go_region_law (first
          | (refine step_append_cat ety_stage _ rfl _ _ rfl WX.heap.size (.slice G1 n g1) n _ wa.heap.size rfl Oc.out wa.heap.size G2 n' g2 _ wb.heap.size rfl Ob.out (Nat.le_refl _) (Nat.le_refl _) Ba.out.size (Nat.le_trans Ba.out.size Lb.out.size) (by omega) ?_; intro A4 c4 w4 ho4 hb4; have R4 := Lib.hid (R3.out.low hb4 (by omega)); have r0 := R4.out.c 0 rfl; have r1 := R4.out.c 1 rfl; have z0 := R4.out.f 0; have z1 := R4.out.f 1; have l1 := R4.out.lt)
          | (go_simp; go_at_call 53; (with_reducible refine (CA.out _ (by first | exact Below.refl _ _ | exact (Below.refl _ _).drew | exact below_drewN _ _ _)).mono ?_); rintro e wa ⟨G1, g1, rfl, ho, hb⟩; have Ba := Lib.hid (blThen (by first | exact Below.refl _ _ | exact (Below.refl _ _).drew | exact below_drewN _ _ _) hb : Below WX.heap.size WX wa); have Oa := Lib.hid (show OwnE 57 5 wa WX.heap.size (.slice G1 n g1) n (ts.map stD) wa.heap.size from ho.lower (Nat.le_refl _)); have b1 := cell_later Ba.out b0; have bl1 := cell_lt b1; clear ho hb)
          | (go_simp; go_at_call 53; (with_reducible refine (CB.out _ Ba.out).mono ?_); rintro e wb ⟨G2, g2, rfl, ho, hb⟩; have Lb := Lib.hid (show Below wa.heap.size wa wb from hb); have Ob := Lib.hid (show OwnE 57 5 wb wa.heap.size (.slice G2 n' g2) n' (us.map stD) wb.heap.size from ho); have Oc := Lib.hid (Oa.out.below Lb.out); have R3 := Lib.hid ((R2.out.bel Ba.out).bel Lb.out); clear ho hb))
        all_goals
          have HO4 := Lib.hid (show Own w4 (chD (ts ++ us)) (.slice A4 (n + n') c4) WX.heap.size w4.heap.size from by
            have := ho4.own (by omega)
            rw [← List.map_append] at this
            exact this)
          have T4 := Lib.hid (show Below w.heap.size w w4 from (blThen (blThen T2.out Ba.out) Lb.out).trans (hb4.mono (by omega)))
          clear ho4 hb4
          try go_wp2_with fail
          have KK := (R4.out.set 0 (.int .i64 0)).set 1 (.slice A4 (n + n') c4)
          have k0 := KK.c 0 rfl
          have k1 := KK.c 1 rfl
          clear KK
          refine bodyPost_ret (v := .agg #[.int .i64 0, .slice A4 (n + n') c4]) (by simp [results, Try.results16, go_sem, k0, k1]) rfl ⟨A4, n + n', c4, by rw [HJ.out], ?_, ?_⟩
          · rw [HY.out]
            refine Own.mono (lo := WX.heap.size) (hi := w4.heap.size) ?_ (by omega) (by simp only [setSize]; exact Nat.le_refl _)
            exact (HO4.out.set (.inl (by omega)) _ _).set (.inl (by omega)) _ _
          · repeat (refine Below.setCell ?_ (by simp; try omega) _)
            exact T4.out
    · have HJ := Lib.hid (joC_2 H0.out h0)
      obtain ⟨f, hf⟩ : ∃ f, chf us = f := ⟨_, rfl⟩
      rw [hf] at h0 HJ ⊢
      have hqn : (f == 0) = false := by simpa using h0
      have HN := Lib.hid (joL_n (ts := ts) (us := us) (by rw [HJ.out]; exact h0))
      clear hf
      go_wp2_with fail
      have KK := (R2.out.set 0 (.int .i64 f)).set 1 (.slice none 0 0)
      have k0 := KK.c 0 rfl
      have k1 := KK.c 1 rfl
      clear KK
      refine bodyPost_ret (v := .agg #[.int .i64 f, .slice none 0 0]) (by simp [results, Try.results16, go_sem, k0, k1]) rfl (ChnAns.bad ⟨HJ.out, HN.out⟩ ?_)
      repeat (refine Below.setCell ?_ (by simp; try omega) _)
      exact T2.out
  · have HJ := Lib.hid (joC_1 (us := us) h0)
    obtain ⟨f, hf⟩ : ∃ f, chf ts = f := ⟨_, rfl⟩
    rw [hf] at h0 HJ ⊢
    have hqn : (f == 0) = false := by simpa using h0
    have HN := Lib.hid (joL_n (ts := ts) (us := us) (by rw [HJ.out]; exact h0))
    clear hf
    go_wp2_with fail
    have KK := (R1.out.set 0 (.int .i64 f)).set 1 (.slice none 0 0)
    have k0 := KK.c 0 rfl
    have k1 := KK.c 1 rfl
    clear KK
    refine bodyPost_ret (v := .agg #[.int .i64 f, .slice none 0 0]) (by simp [results, Try.results16, go_sem, k0, k1]) rfl (ChnAns.bad ⟨HJ.out, HN.out⟩ ?_)
    repeat (refine Below.setCell ?_ (by simp; try omega) _)
    exact blThenDrew T0.out _
theorem rwOk_small {rs : Rws} (h : RwOk rs) : RsSmall rs := ⟨by have := h.1; omega, fun i hi => by have := (h.2 i hi).2; omega⟩
theorem joL_fine {ts us : List Stg} (h : joC ts us = 0) : chf ts = 0 ∧ chf us = 0 ∧ ts.length + us.length ≤ 5 := by
  by_cases h1 : chf ts = 0
  · by_cases h2 : chf us = 0
    · by_cases h3 : 5 < ts.length + us.length
      · rw [joC_3 h1 h2 h3] at h; omega
      · exact ⟨h1, h2, by omega⟩
    · rw [joC_2 h1 h2] at h; exact absurd h h2
  · rw [joC_1 h1] at h; exact absurd h h1
theorem joL_len (ts us : List Stg) : (joL ts us).length ≤ 5 := by
  by_cases h : joC ts us = 0
  · rw [joL_y h, List.length_append]; exact (joL_fine h).2.2
  · rw [joL_n h]; simp
theorem joL_small (ts us : List Stg) : ChSmall (joL ts us) := by
  refine ⟨by have := joL_len ts us; omega, fun i hi => ?_⟩
  by_cases h : joC ts us = 0
  · obtain ⟨h1, h2, h3⟩ := joL_fine h
    rw [joL_y h] at hi ⊢
    have key : sgf (st_ (ts ++ us) i) = 0 := by
      by_cases e : i < ts.length
      · rw [st_appl e]; exact sgL_all _ (chf_zj h1).2 i e
      · rw [st_appr (by omega)]
        rw [List.length_append] at hi
        exact sgL_all _ (chf_zj h2).2 _ (by omega)
    obtain ⟨a, b, c⟩ := stg_ok key
    exact ⟨rwOk_small a, rwOk_small b, rwOk_small c⟩
  · rw [joL_n h] at hi; simp at hi
end Go.Proofs.Ytdjifaaofefpoaa
