/-
  Faults of stages, the program's: fault of each kind, stagesOf, chainStages, StageFault, ChainFault.
-/
import Derived.Test.YtmmlcdbbjkligaaChnF
import Derived.Test.YtmmlcdbbjkligaaGrow
namespace Go.Proofs.Ytmmlcdbbjkligaa
open Go.RowKit
set_option linter.unusedVariables false
set_option linter.unusedSimpArgs false

set_option maxRecDepth 100000 in
set_option maxHeartbeats 2000000 in
theorem faultC_any (A : Option Addr) (n c : Nat) (cs : Rws) (w : World) (h : ∃ bs, Hd w (rowsD cs) (.slice A n c) bs) :
    Calls Try.prog 195 #[.agg #[.slice A n c]] w fun e w' => e = .returned (.int .i64 (crF cs)) ∧ Below w.heap.size w w' := by
  obtain ⟨bs, h⟩ := h
  obtain ⟨hl, hc, hm, -⟩ := h.rows
  unfold maxLen at hm
  have H := Lib.hid h
  clear h
  by_cases hn : n = 3
  · subst hn
    have HF : Hid (crF cs = crL cs 3) := by show _ = _; unfold crF; rw [if_pos hl]
    clear hl hm
    go_enter Try.func195, Try.ntmps195
    go_wp2_with fail
    go_loopw [13] (fun x wr => ∃ i : Nat, i ≤ 3 ∧ x = .int .i64 i ∧ crL cs i = 0 ∧ Below w.heap.size w wr ∧ Hid (wr.cell? ⟨w.heap.size, 0, none⟩ = some (.slice A 3 c))) (fun x _ => 3 - (intOf x).toNat)
    case atStart => exact ⟨0, by omega, rfl, rfl, blAlloc _ _, by show _ = _; simp⟩
    case round =>
      obtain ⟨i, hi, rfl, hz, hb, hbx⟩ := hrel
      by_cases hlt : i < 3
      · obtain ⟨b, o, B1, L1, C1, g1, rfl, x1, x3, -⟩ := (H.out.bel hb).row hlt
        have X := Lib.hid x3
        have HB := Lib.hid hb
        have HZ := Lib.hid hz
        clear x3 hb hz
        go_wp2_with fail
        refine (CurveFault_any _ _ _ (rw_ cs i) _ (X.out.rd.alloc _) (Nat.le_trans X.out.caps.1 X.out.caps.2)).mono ?_
        rintro e w1 ⟨rfl, hb1⟩
        have T := Lib.hid (blThen (blThenAlloc HB.out _) hb1)
        have BX : Hid (w1.cell? ⟨w.heap.size, 0, none⟩ = some (.slice (some ⟨b, o, none⟩) 3 c)) := cell_later hb1 (cell_later (blAlloc _ _) hbx.out)
        clear hb1 HB x1 hbx
        by_cases h0 : cf (rw_ cs i) = 0
        · go_wp2_with fail
          go_roundw
          case rel => exact ⟨i + 1, by omega, by go_num, crL_on HZ.out h0, T.out, BX.out⟩
          case measure => simp [intOf]; omega
        · have HA := Lib.hid (crL_bad (n := 3) HZ.out h0 hlt)
          go_wp2_with fail
          go_ret
          exact ⟨by rw [HF.out, HA.out]; rfl, T.out⟩
      · obtain rfl : i = 3 := by omega
        have HZ := Lib.hid hz
        have HB := Lib.hid hb
        clear hz hb
        go_wp2_with fail
        go_ret
        exact ⟨by rw [HF.out, HZ.out]; rfl, HB.out⟩
  · have HF : Hid (crF cs = 2) := by show _ = _; unfold crF; rw [if_neg (by omega)]
    go_enter Try.func195, Try.ntmps195
    go_wp2_with fail
    go_ret
    exact ⟨by rw [HF.out]; rfl, blAlloc _ _⟩
set_option maxHeartbeats 400000 in
theorem faultM_any (A : Option Addr) (n c : Nat) (rs : Rws) (w : World) (h : ∃ bs, Hd w (rowsD rs) (.slice A n c) bs) :
    Calls Try.prog 196 #[.agg #[.slice A n c]] w fun e w' => e = .returned (.int .i64 (mf rs)) ∧ Below w.heap.size w w' := by
  obtain ⟨bs, h⟩ := h
  have H := Lib.hid h
  clear h
  go_enter Try.func196, Try.ntmps196
  go_wp2_with fail
  refine (MatrixFault_any _ _ _ rs _ _ (H.out.alloc _)).mono ?_
  rintro e w1 ⟨rfl, hb⟩
  have T := Lib.hid (blThen (blAlloc w _) hb)
  clear hb
  go_wp2_with fail
  go_ret
  exact ⟨rfl, T.out⟩
set_option maxHeartbeats 400000 in
theorem faultG_any (A : Option Addr) (n c : Nat) (sd : Int) (rs : Rws) (w : World) (h : ∃ bs, Hd w (rowsD rs) (.slice A n c) bs) :
    Calls Try.prog 198 #[.agg #[.int .i64 sd, .slice A n c]] w fun e w' => e = .returned (.int .i64 (gf sd rs)) ∧ Below w.heap.size w w' := by
  obtain ⟨bs, h⟩ := h
  have H := Lib.hid h
  clear h
  go_enter Try.func198, Try.ntmps198
  go_wp2_with fail
  refine (GridFault_any _ _ _ sd rs _ _ (H.out.alloc _)).mono ?_
  rintro e w1 ⟨rfl, hb⟩
  have T := Lib.hid (blThen (blAlloc w _) hb)
  clear hb
  go_wp2_with fail
  go_ret
  exact ⟨rfl, T.out⟩
/-- a row of stages of the call's own. -/
def OwnV (w : World) (base : Nat) (v : Value) (n : Nat) (vs : List Value) : Prop := w.ownsRow base 116 1 v n vs
theorem info_stg : ∃ i, Try.prog.info? 116 = some i ∧ i.zero = some .nilIface ∧ i.size = 1 ∧ i.bytes = 16 := by
  have h : (Try.prog.info? 116).map (fun i => (i.zero, i.size, i.bytes)) = some (some .nilIface, 1, 16) := by kernel_rfl
  obtain ⟨i, hi, h⟩ := Option.map_eq_some_iff.1 h
  simp only [Prod.mk.injEq] at h
  exact ⟨i, hi, h.1, h.2.1, h.2.2⟩
theorem OwnV.below {w w' : World} {base n : Nat} {v : Value} {ys : List Value} (h : OwnV w base v n ys) (hb : Below w.heap.size w w') : OwnV w' base v n ys :=
  World.ownsRow.kept h (row := none) ⟨hb.os, hb.tape, hb.output, hb.size, fun k hk _ => hb.block k hk⟩ (by
    cases hv : v.ownBlock with
    | none => exact .inl rfl
    | some g => exact .inr (fun e => by cases e))
theorem wpList_append_stg (w : World) {ops : Array Oper} {rest : List Oper} {o : Oper} {a : Act} {Q : Exit → Act → World → Prop} (hgd : o.guard = none) (s x : Operand)
    (ho : o.op = .call { callee := .builtin .append, args := #[s, x], argTypes := #[111, 111] })
    (base : Nat) (v : Value) (n : Nat) (ys : List Value) (hs : a.eval s = v) (hown : OwnV w base v n ys) (q c : Nat) (y : Value) (hx : a.eval x = .slice (some ⟨q, 0, none⟩) 1 c) (hq : w.cell? ⟨q, 0, none⟩ = some y) (hy : y.oneCell' = true)
    (h63 : n ≤ 1000000) (hbase : base ≤ w.heap.size)
    (h : ∀ v' w', OwnV w' base v' (n + 1) (ys ++ [y]) → w.grownBy w' v.ownBlock → (∀ g, v.ownBlock = some g → base ≤ g) → wpList Try.prog ops Q rest (a.put o.dst v') w') : wpList Try.prog ops Q (o :: rest) a w := by
  obtain ⟨i, hi, hz, hsz, hby⟩ := info_stg
  refine wpList_append_own_at w hgd s x 111 ho base 116 i _ 1 16 Try.underlying111 hi hz hsz hby rfl (by omega) v n ys hs hown ⟨q, 0, none⟩ 1 c [y] hx rfl ?_ (fun u hu => by simp at hu; rw [hu]; exact hy) (by unfold maxLen; omega) (by omega) hbase ?_
  · intro j u hj
    match j, hj with
    | 0, hj => obtain rfl := Option.some.inj hj; exact hq
  · intro v' w' a1 a2 _ a4
    exact h v' w' a1 a2 (fun g hg => (World.ownsRow.lt hown g hg).1)
/-- a value that is the stage t. -/
def IsStg (w : World) (t : Stg) (v : Value) : Prop := stF t = true ∧ ∃ A1 n1 c1 A2 n2 c2 A3 n3 c3, IsV t A1 n1 c1 A2 n2 c2 A3 n3 c3 v ∧ HdSt w t A1 n1 c1 A2 n2 c2 A3 n3 c3
theorem IsStg.bel {w w' : World} {t : Stg} {v : Value} (h : IsStg w t v) (hb : Below w.heap.size w w') : IsStg w' t v := by
  obtain ⟨h0, A1, n1, c1, A2, n2, c2, A3, n3, c3, a, b⟩ := h
  exact ⟨h0, A1, n1, c1, A2, n2, c2, A3, n3, c3, a, b.bel hb⟩
theorem stg_snoc {w : World} {ts : List Stg} {vs : List Value} {k : Nat} {y : Value} (hvl : vs.length = k) (hy : IsStg w (st_ ts k) y) (h : ∀ i, i < k → IsStg w (st_ ts i) (vs.getD i undef)) : ∀ i, i < k + 1 → IsStg w (st_ ts i) ((vs ++ [y]).getD i undef) := fun i hi => by
  by_cases e : i = k
  · subst e
    rw [show (vs ++ [y]).getD i undef = y from by simp [List.getD, ← hvl]]
    exact hy
  · rw [show (vs ++ [y]).getD i undef = vs.getD i undef from by simp [List.getD, List.getElem?_append_left (show i < vs.length by omega)]]
    exact h i (by omega)
theorem stF_kinds {t : Stg} (h : stF t = true) : t.kd = 1 ∨ t.kd = 2 ∨ t.kd = 3 := by
  unfold stF at h
  split at h
  · exact .inl (by assumption)
  · split at h
    · exact .inr (.inl (by assumption))
    · split at h
      · exact .inr (.inr (by assumption))
      · cases h
theorem sgf_no {t : Stg} (h : stF t = false) : sgf t = 1 := by unfold sgf; rw [if_neg (by rw [h]; simp)]
theorem sgf_1 {t : Stg} (h : stF t = true) (k : t.kd = 1) : sgf t = crF t.cs := by unfold sgf; rw [if_pos h, if_pos k]
theorem sgf_2 {t : Stg} (h : stF t = true) (k : t.kd = 2) : sgf t = mf t.rs := by unfold sgf; rw [if_pos h, if_neg (by omega), if_pos k]
theorem sgf_3 {t : Stg} (h : stF t = true) (k : t.kd = 3) : sgf t = gf t.sd t.ns := by unfold sgf; rw [if_pos h, if_neg (by omega), if_neg (by omega)]
def SgAns (w : World) (ts : List Stg) (e : Ending) (w' : World) : Prop :=
  ∃ v, e = .returned (.tuple #[v, .int .i64 (sgL ts ts.length)]) ∧ (sgL ts ts.length = 0 → ∃ vs, OwnV w' w.heap.size v ts.length vs ∧ ∀ i, i < ts.length → IsStg w' (st_ ts i) (vs.getD i undef)) ∧ Below w.heap.size w w'
theorem SgAns.bad {w w' : World} {ts : List Stg} {v : Value} {c : Int} (h : sgL ts ts.length = c) (h0 : c ≠ 0) (hb : Below w.heap.size w w') : SgAns w ts (.returned (.tuple #[v, .int .i64 c])) w' :=
  ⟨v, by rw [h], fun e => absurd (h.symm.trans e) h0, hb⟩
set_option maxRecDepth 100000 in
set_option maxHeartbeats 8000000 in
theorem stagesOf_any (A : Option Addr) (n c : Nat) (ts : List Stg) (bs : List Nat) (w : World) (h : Hd w (chD ts) (.slice A n c) bs) (hsm : n ≤ 100000) :
    Calls Try.prog 65 #[.slice A n c] w (SgAns w ts) := by
  have hl := h.stgs.1
  have H := Lib.hid h
  have HL := Lib.hid hl
  clear h hl
  go_enter Try.func65, Try.ntmps65
  go_wp2_with fail
  go_loopw [4, 12] (fun v x wr => ∃ (k : Nat) (vs : List Value), k ≤ n ∧ x = .int .i64 k ∧ OwnV wr w.heap.size v k vs ∧ (∀ i, i < k → IsStg w (st_ ts i) (vs.getD i undef)) ∧ sgL ts k = 0 ∧ Below w.heap.size w wr) (fun _ x _ => n - (intOf x).toNat)
  case atStart => exact ⟨0, [], by omega, rfl, World.ownsRow_nil _ _ _ _, fun i hi => absurd hi (by omega), rfl, Below.refl _ _⟩
  case round =>
    obtain ⟨k, vs, hk, rfl, ho, hst, hz, hb⟩ := hrel
    by_cases hlt : k < n
    · obtain ⟨b, o, A1, n1, c1, A2, n2, c2, A3, n3, c3, rfl, x0, x1, x2, x3, x4, xs⟩ := H.out.stg hlt
      replace x0 := cell_later hb x0
      replace x1 := cell_later hb x1
      replace x2 := cell_later hb x2
      replace x3 := cell_later hb x3
      replace x4 := cell_later hb x4
      have XS := Lib.hid xs
      have HO := Lib.hid ho
      have HST := Lib.hid hst
      have HZ := Lib.hid hz
      have HB := Lib.hid hb
      clear xs ho hst hz hb
      go_wp2_with fail
      refine (ofKind_any (st_ ts k) _ _ _ _ _ _ _ _ _ _ XS.out.len.1 XS.out.len.2.1 XS.out.len.2.2 (Nat.le_trans XS.out.caps.1.1 XS.out.caps.1.2) (Nat.le_trans XS.out.caps.2.1.1 XS.out.caps.2.1.2) (Nat.le_trans XS.out.caps.2.2.1 XS.out.caps.2.2.2)).mono ?_
      rintro e w1 ⟨s, rfl, hv, hb1⟩
      have T1 := Lib.hid (blThen (blThenAlloc HB.out _) hb1)
      have B1 := Lib.hid ((blAlloc wr _).trans (hb1.mono (by simp)))
      clear hb1 x0 x1 x2 x3 x4
      rcases Bool.eq_false_or_eq_true (stF (st_ ts k)) with hf | hf
      · have V := Lib.hid (hv hf)
        have HF := Lib.hid hf
        rw [hf]
        clear hv hf
        rcases stF_kinds HF.out with kd | kd | kd
        · obtain rfl := V.out.one kd
          have HG := Lib.hid (sgf_1 HF.out kd)
          have hm : ∀ (v : Value) W, (method 353 186 v "loop.example/g00639/impl.fault").run Try.prog W = .ok (195, v) W := fun v W => by kernel_rfl
          have hna : ∀ (v : Value) W, (nilAhead 353 186 v "loop.example/g00639/impl.fault").run Try.prog W = .ok (some false) W := fun v W => by kernel_rfl
          clear kd
          go_wp2_with fail
          refine (faultC_any _ _ _ (st_ ts k).cs _ (XS.out.bel T1.out).a).mono ?_
          rintro e w2 ⟨rfl, hb2⟩
          have T2 := Lib.hid (blThen T1.out hb2)
          have B2 := Lib.hid (B1.out.trans (hb2.mono B1.out.size))
          obtain ⟨f, hf⟩ : ∃ f, f = crF (st_ ts k).cs := ⟨_, rfl⟩
          rw [← hf] at HG ⊢
          clear hb2 hm hna hf
          by_cases h0 : f = 0
          · subst h0
            go_wp2_with (at_builtin; refine wpList_append_stg _ rfl _ _ rfl w.heap.size _ k vs rfl ((HO.out.below B2.out).below (blAlloc _ _)) _ _ _ rfl (new_cell _ _ _) rfl (by omega) (by have := T2.out.size; simp; omega) ?_; intro v3 w3 ho3 hg3 hgb)
            have B3 := Lib.hid ((blThenAlloc T2.out _).trans (gb_low' hg3 hgb (Nat.le_refl _) (by have := T2.out.size; simp; omega)))
            have HN := Lib.hid (stg_snoc (by have := HO.out.1; simpa using this) (⟨HF.out, _, _, _, _, _, _, _, _, _, V.out, XS.out⟩ : IsStg w (st_ ts k) _) HST.out)
            have O3 := Lib.hid ho3
            clear ho3 hg3 hgb
            go_wp2_with fail
            go_roundw
            case rel => exact ⟨k + 1, _, by omega, by go_num, O3.out, HN.out, sgL_on HZ.out HG.out, B3.out⟩
            case measure => simp [intOf]; omega
          · have HA := Lib.hid (sgL_bad (n := n) HZ.out (by rw [HG.out]; exact h0) hlt)
            go_wp2_with fail
            go_ret2
            exact SgAns.bad (by rw [HL.out, HA.out, HG.out]) h0 T2.out
        · obtain rfl := V.out.two kd
          have HG := Lib.hid (sgf_2 HF.out kd)
          have hm : ∀ (v : Value) W, (method 353 189 v "loop.example/g00639/impl.fault").run Try.prog W = .ok (196, v) W := fun v W => by kernel_rfl
          have hna : ∀ (v : Value) W, (nilAhead 353 189 v "loop.example/g00639/impl.fault").run Try.prog W = .ok (some false) W := fun v W => by kernel_rfl
          clear kd
          go_wp2_with fail
          refine (faultM_any _ _ _ (st_ ts k).rs _ (XS.out.bel T1.out).b).mono ?_
          rintro e w2 ⟨rfl, hb2⟩
          have T2 := Lib.hid (blThen T1.out hb2)
          have B2 := Lib.hid (B1.out.trans (hb2.mono B1.out.size))
          obtain ⟨f, hf⟩ : ∃ f, f = mf (st_ ts k).rs := ⟨_, rfl⟩
          rw [← hf] at HG ⊢
          clear hb2 hm hna hf
          by_cases h0 : f = 0
          · subst h0
            go_wp2_with (at_builtin; refine wpList_append_stg _ rfl _ _ rfl w.heap.size _ k vs rfl ((HO.out.below B2.out).below (blAlloc _ _)) _ _ _ rfl (new_cell _ _ _) rfl (by omega) (by have := T2.out.size; simp; omega) ?_; intro v3 w3 ho3 hg3 hgb)
            have B3 := Lib.hid ((blThenAlloc T2.out _).trans (gb_low' hg3 hgb (Nat.le_refl _) (by have := T2.out.size; simp; omega)))
            have HN := Lib.hid (stg_snoc (by have := HO.out.1; simpa using this) (⟨HF.out, _, _, _, _, _, _, _, _, _, V.out, XS.out⟩ : IsStg w (st_ ts k) _) HST.out)
            have O3 := Lib.hid ho3
            clear ho3 hg3 hgb
            go_wp2_with fail
            go_roundw
            case rel => exact ⟨k + 1, _, by omega, by go_num, O3.out, HN.out, sgL_on HZ.out HG.out, B3.out⟩
            case measure => simp [intOf]; omega
          · have HA := Lib.hid (sgL_bad (n := n) HZ.out (by rw [HG.out]; exact h0) hlt)
            go_wp2_with fail
            go_ret2
            exact SgAns.bad (by rw [HL.out, HA.out, HG.out]) h0 T2.out
        · obtain rfl := V.out.thr kd
          have HG := Lib.hid (sgf_3 HF.out kd)
          have hm : ∀ (v : Value) W, (method 353 191 v "loop.example/g00639/impl.fault").run Try.prog W = .ok (198, v) W := fun v W => by kernel_rfl
          have hna : ∀ (v : Value) W, (nilAhead 353 191 v "loop.example/g00639/impl.fault").run Try.prog W = .ok (some false) W := fun v W => by kernel_rfl
          clear kd
          go_wp2_with fail
          refine (faultG_any _ _ _ (st_ ts k).sd (st_ ts k).ns _ (XS.out.bel T1.out).d).mono ?_
          rintro e w2 ⟨rfl, hb2⟩
          have T2 := Lib.hid (blThen T1.out hb2)
          have B2 := Lib.hid (B1.out.trans (hb2.mono B1.out.size))
          obtain ⟨f, hf⟩ : ∃ f, f = gf (st_ ts k).sd (st_ ts k).ns := ⟨_, rfl⟩
          rw [← hf] at HG ⊢
          clear hb2 hm hna hf
          by_cases h0 : f = 0
          · subst h0
            go_wp2_with (at_builtin; refine wpList_append_stg _ rfl _ _ rfl w.heap.size _ k vs rfl ((HO.out.below B2.out).below (blAlloc _ _)) _ _ _ rfl (new_cell _ _ _) rfl (by omega) (by have := T2.out.size; simp; omega) ?_; intro v3 w3 ho3 hg3 hgb)
            have B3 := Lib.hid ((blThenAlloc T2.out _).trans (gb_low' hg3 hgb (Nat.le_refl _) (by have := T2.out.size; simp; omega)))
            have HN := Lib.hid (stg_snoc (by have := HO.out.1; simpa using this) (⟨HF.out, _, _, _, _, _, _, _, _, _, V.out, XS.out⟩ : IsStg w (st_ ts k) _) HST.out)
            have O3 := Lib.hid ho3
            clear ho3 hg3 hgb
            go_wp2_with fail
            go_roundw
            case rel => exact ⟨k + 1, _, by omega, by go_num, O3.out, HN.out, sgL_on HZ.out HG.out, B3.out⟩
            case measure => simp [intOf]; omega
          · have HA := Lib.hid (sgL_bad (n := n) HZ.out (by rw [HG.out]; exact h0) hlt)
            go_wp2_with fail
            go_ret2
            exact SgAns.bad (by rw [HL.out, HA.out, HG.out]) h0 T2.out
      · have HA := Lib.hid (sgL_bad (n := n) HZ.out (by rw [sgf_no hf]; omega) hlt)
        have HG := Lib.hid (sgf_no hf)
        rw [hf]
        clear hv hf
        go_wp2_with fail
        go_ret2
        exact SgAns.bad (by rw [HL.out, HA.out, HG.out]) (by omega) T1.out
    · obtain rfl : k = n := by omega
      have HO := Lib.hid ho
      have HST := Lib.hid hst
      have HZ := Lib.hid hz
      have HB := Lib.hid hb
      clear ho hst hz hb
      go_wp2_with fail
      go_ret2
      exact ⟨_, by rw [HL.out, HZ.out]; rfl, fun _ => ⟨vs, by rw [HL.out]; exact HO.out, fun i hi => (HST.out i (by rw [HL.out] at hi; exact hi)).bel HB.out⟩, HB.out⟩
end Go.Proofs.Ytmmlcdbbjkligaa
