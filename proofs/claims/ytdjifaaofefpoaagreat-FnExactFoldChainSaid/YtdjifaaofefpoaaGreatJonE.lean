/-
  The reference model's copy of a chain, and its JoinChains.
-/
import Derived.Test.YtdjifaaofefpoaaGreatJonD
namespace Go.Proofs.YtdjifaaofefpoaaGreat
open Go.RowKit Go.Maps
set_option linter.unusedVariables false
set_option linter.unusedSimpArgs false

theorem OwnE.lower {T : TypeId} {m : Nat} {w : World} {base base' hi n : Nat} {v : Value} {els : List (List Dat)} (h : OwnE T m w base v n els hi) (hb : base' ≤ base) : OwnE T m w base' v n els hi := by
  obtain ⟨U, G, h1, h2, h3, h4, h5, h6⟩ := h
  refine ⟨U, G, h1, ⟨h2.1, ?_⟩, h3, h4, fun i hi' j hj b hb' => by obtain ⟨a1, a2, a3, a4⟩ := h5 i hi' j hj b hb'; exact ⟨by omega, a2, a3, a4⟩, h6⟩
  rcases h2.2 with e | ⟨g, cap, cur, e1, e2, r⟩
  · exact .inl e
  · exact .inr ⟨g, cap, cur, e1, by omega, r⟩
theorem Hd.one {w : World} {d : Dat} {v : Value} {bs : List Nat} (h : Hd w d v bs) : v.oneCell' = true := by
  cases h <;> rfl
set_option maxRecDepth 100000 in
/-- the elements of a second list go behind. -/
theorem run_append_cat {ts T : TypeId} {m by_ : Nat} (E : Ety ts T m by_) (w : World) (ty : TypeId) (base : Nat) (v : Value) (n : Nat) (els : List (List Dat)) (mid : Nat) (h : OwnE T m w base v n els mid) (base2 : Nat) (A2 : Option Addr) (n2 c2 : Nat) (els2 : List (List Dat)) (hi2 : Nat) (h2 : OwnE T m w base2 (.slice A2 n2 c2) n2 els2 hi2)
    (l1 : mid ≤ base2) (l2 : hi2 ≤ w.heap.size) (hbm : base ≤ mid) (hbw : base ≤ w.heap.size) (h63 : n + n2 ≤ 1000000) :
    ∃ v' w', (Builtin.append_ #[ts, ts] ty #[v, .slice A2 n2 c2]).run Tryz.prog w = .ok v' w' ∧ OwnE T m w' base v' (n + n2) (els ++ els2) w'.heap.size ∧ Below base w w' := by
  obtain ⟨U, G, a1, a2, a3, a4, a5, a6⟩ := h
  obtain ⟨U2, G2, b1, b2, b3, b4, b5, b6⟩ := h2
  have hm := E.pos
  obtain ⟨v', w', e1, e2, e3, e4⟩ := run_append_rows E w ty base v n _ a2 A2 n2 c2 (ecs m U2 n2) (ecs_len m U2 n2) (fun hn2 => by
    rcases b2.2 with ⟨e, rfl⟩ | ⟨g, cap, cur, e, r⟩
    · omega
    · injection e with e _ _
      subst e
      refine ⟨g, 0, rfl, fun j u hj => ?_⟩
      have hc := b2.cells (g := g) rfl j u hj
      have hadd : ((⟨g, 0, none⟩ : Addr).add j) = ⟨g, 0 + j, none⟩ := by unfold Addr.add; split <;> simp_all
      rw [hadd] at hc
      exact hc) (fun u hu => by
    obtain ⟨p, hp⟩ := List.getElem?_of_mem hu
    have hlt : p < n2 * m := by
      have := (List.getElem?_eq_some_iff.1 hp).1
      rwa [ecs_len] at this
    have hd : p / m < n2 := Nat.div_lt_of_lt_mul (by rw [Nat.mul_comm]; exact hlt)
    have hr : p % m < m := Nat.mod_lt _ hm
    have hat := ecs_at (m := m) U2 hd hr
    rw [show p / m * m + p % m = p by rw [Nat.mul_comm]; exact Nat.div_add_mod p m] at hat
    rw [hat] at hp
    obtain rfl := Option.some.inj hp
    exact (b3 _ hd _ hr).one) h63 hbw
  have hnew : ∀ i, i < n2 → ∀ j, j < m → ∀ b ∈ G2 i j, some b ≠ v.ownBlock := fun i hi j hj b hb e => by have := a6 b e.symm; have := (b5 i hi j hj b hb).1; omega
  subst a1
  subst b1
  have p1 : ∀ i j, i < els.length → At (els ++ els2) i j = At els i j := fun i j hi => by unfold At; congr 1; simp only [List.getD]; rw [List.getElem?_append_left hi]
  have p2 : ∀ i j, els.length ≤ i → At (els ++ els2) i j = At els2 (i - els.length) j := fun i j hi => by unfold At; congr 1; simp only [List.getD]; rw [List.getElem?_append_right hi]
  refine ⟨v', w', e1, ⟨fun i j => if i < els.length then U i j else U2 (i - els.length) j, fun i j => if i < els.length then G i j else G2 (i - els.length) j, by simp, ?_, fun i hi j hj => ?_, ?_, fun i hi j hj b hb => ?_, fun g hgv => (e2.lt g hgv).2⟩, gb_low' e3 (fun g hg => (World.ownsRow.lt a2 g hg).1) (Nat.le_refl _) hbw⟩
  · have ee : ∀ q, ecs m (fun i j => if i < els.length then U i j else U2 (i - els.length) j) (els.length + q) = ecs m U els.length ++ ecs m U2 q := by
      intro q
      induction q with
      | zero =>
        rw [Nat.add_zero, show ecs m U2 0 = [] from rfl, List.append_nil]
        exact ecs_congr fun i hi j _ => by simp [hi]
      | succ q ih =>
        rw [← Nat.add_assoc, ecs_succ, ih, ecs_succ, List.append_assoc]
        congr 2
        refine List.map_congr_left fun j _ => ?_
        have hq : ¬ els.length + q < els.length := by omega
        simp [hq]
    rw [ee]
    exact e2
  · by_cases e : i < els.length
    · simp only [e, if_true]
      rw [p1 i j e]
      exact (a3 i e j hj).keep fun b hb k => World.cell?_of_block (e3.block b ((a3 i e j hj).lt b hb) (fun e' => (a5 i e j hj b hb).2.2.2 e'.symm))
    · simp only [e, if_false]
      rw [p2 i j (by omega)]
      exact (b3 _ (by omega) j hj).keep fun b hb k => World.cell?_of_block (e3.block b ((b3 _ (by omega) j hj).lt b hb) (hnew _ (by omega) j hj b hb))
  · refine fam_nodup.2 ⟨fun i hi j hj => ?_, fun i hi j hj i' hi' j' hj' hne x hx hx' => ?_⟩
    · by_cases e : i < els.length
      · simp only [e, if_true]; exact (fam_nodup.1 a4).1 i e j hj
      · simp only [e, if_false]; exact (fam_nodup.1 b4).1 _ (by omega) j hj
    · by_cases e : i < els.length <;> by_cases e' : i' < els.length <;> simp only [e, e', if_true, if_false] at hx hx'
      · exact (fam_nodup.1 a4).2 i e j hj i' e' j' hj' hne x hx hx'
      · have := (a5 i e j hj x hx).2.1
        have := (b5 _ (by omega) j' hj' x hx').1
        omega
      · have := (a5 i' e' j' hj' x hx').2.1
        have := (b5 _ (by omega) j hj x hx).1
        omega
      · exact (fam_nodup.1 b4).2 (i - els.length) (by omega) j hj (i' - els.length) (by omega) j' hj' (fun q => hne ⟨by omega, q.2⟩) x hx hx'
  · have hcore : base ≤ b ∧ b < w.heap.size ∧ Thaw w b ∧ v.ownBlock ≠ some b := by
      by_cases e : i < els.length
      · simp only [e, if_true] at hb
        obtain ⟨c1, c2, c3, c4⟩ := a5 i e j hj b hb
        exact ⟨c1, (a3 i e j hj).lt b hb, c3, c4⟩
      · simp only [e, if_false] at hb
        obtain ⟨c1, c2, c3, c4⟩ := b5 _ (by omega) j hj b hb
        exact ⟨by omega, by omega, c3, fun e' => hnew _ (by omega) j hj b hb e'.symm⟩
    obtain ⟨c1, c2, c3, c4⟩ := hcore
    refine ⟨c1, by have := e3.size; omega, fun k => ?_, fun e => ?_⟩
    · rw [← c3 k]
      unfold World.frozen?
      rw [e3.block b c2 (fun e' => c4 e'.symm)]
    · rcases e4 with hh | hh
      · exact c4 (hh ▸ e)
      · rw [hh] at e; injection e with e; omega
theorem step_append_cat {ts T : TypeId} {m by_ : Nat} (E : Ety ts T m by_) (w : World) {ops : Array Oper} {op : Oper} {a : Act} {K : Act → World → Prop} {Q : Exit → Act → World → Prop} {EE : Prop} (hgd : op.guard = none) (s x : Operand)
    (ho : op.op = .call { callee := .builtin .append, args := #[s, x], argTypes := #[ts, ts] })
    (base : Nat) (v : Value) (n : Nat) (els : List (List Dat)) (mid : Nat) (hs : a.eval s = v) (h : OwnE T m w base v n els mid) (base2 : Nat) (A2 : Option Addr) (n2 c2 : Nat) (els2 : List (List Dat)) (hi2 : Nat) (hx : a.eval x = .slice A2 n2 c2) (h2 : OwnE T m w base2 (.slice A2 n2 c2) n2 els2 hi2)
    (l1 : mid ≤ base2) (l2 : hi2 ≤ w.heap.size) (hbm : base ≤ mid) (hbw : base ≤ w.heap.size) (h63 : n + n2 ≤ 1000000)
    (H : ∀ A c' w', OwnE T m w' base (.slice A (n + n2) c') (n + n2) (els ++ els2) w'.heap.size → Below base w w' → K (a.put op.dst (.slice A (n + n2) c')) w') : if Region.wanted op (yielded ops a.tmps) = true then Oper.wp Tryz.prog op a w K Q else EE := by
  have hwn : Region.wanted op (yielded ops a.tmps) = true := by simp [Region.wanted, hgd]
  rw [if_pos hwn]
  obtain ⟨v', w', e1, e2, e3⟩ := run_append_cat E w op.type base v n els mid h base2 A2 n2 c2 els2 hi2 h2 l1 l2 hbm hbw h63
  obtain ⟨A, c', rfl⟩ := e2.form
  unfold Oper.wp execOp
  simp only [ho, resolve, invoke, builtin, Sem.run_bind, Sem.run_pure, Result.andThen_ok, List.map_toArray, List.map_cons, List.map_nil, hs, hx, e1]
  exact H A c' w' e2 e3
theorem fldC (G : Option Addr) (n c : Nat) (W : World) : (Instr.field 32 (.agg #[.slice G n c]) 0).run Tryz.prog W = .ok (.slice G n c) W := by kernel_rfl
def CyAns (w : World) (n : Nat) (ts : List Stg) (e : Ending) (w' : World) : Prop := ∃ A c, e = .returned (.agg #[.slice A n c]) ∧ OwnE 98 5 w' w.heap.size (.slice A n c) n (ts.map stD) w'.heap.size ∧ Below w.heap.size w w'
theorem rwOk_small {rs : Rws} (h : RwOk rs) : RsSmall rs := ⟨by have := h.1; omega, fun i hi => by have := (h.2 i hi).2; omega⟩
theorem joL_fine {ts us : List Stg} (h : joC ts us = 0) : chf ts = 0 ∧ chf us = 0 ∧ ts.length + us.length ≤ 5 := by
  by_cases h1 : chf ts = 0
  · by_cases h2 : chf us = 0
    · by_cases h3 : 5 < ts.length + us.length
      · rw [joC_3 h1 h2 h3] at h; omega
      · exact ⟨h1, h2, by omega⟩
    · rw [joC_2 h1 h2] at h; exact absurd h h2
  · rw [joC_1 h1] at h; exact absurd h h1
theorem joL_len (ts us : List Stg) : (joL ts us).length ≤ 5 := by
  by_cases h : joC ts us = 0
  · rw [joL_y h, List.length_append]; exact (joL_fine h).2.2
  · rw [joL_n h]; simp
theorem joL_small (ts us : List Stg) : ChSmall (joL ts us) := by
  refine ⟨by have := joL_len ts us; omega, fun i hi => ?_⟩
  by_cases h : joC ts us = 0
  · obtain ⟨h1, h2, h3⟩ := joL_fine h
    rw [joL_y h] at hi ⊢
    have key : sgf (st_ (ts ++ us) i) = 0 := by
      by_cases e : i < ts.length
      · rw [st_appl e]; exact sgL_all _ (chf_zj h1).2 i e
      · rw [st_appr (by omega)]
        rw [List.length_append] at hi
        exact sgL_all _ (chf_zj h2).2 _ (by omega)
    obtain ⟨a, b, c⟩ := stg_ok key
    exact ⟨rwOk_small a, rwOk_small b, rwOk_small c⟩
  · rw [joL_n h] at hi; simp at hi
end Go.Proofs.YtdjifaaofefpoaaGreat
