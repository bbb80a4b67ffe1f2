/-
  IsNothing, by the reference model.
-/
import Derived.Test.YtdjifaaofefpoaaGreatNotB
import Derived.Test.YtdjifaaofefpoaaGreatLinS
import Derived.Test.YtdjifaaofefpoaaGreatGrdS
import Derived.Deep.RegionHeld3
namespace Go.Proofs.YtdjifaaofefpoaaGreat
open Go.RowKit Go.Maps
set_option linter.unusedVariables false
set_option linter.unusedSimpArgs false

def alc (cs : Rws) : Nat → Bool
  | 0 => true
  | k + 1 => alc cs k && sameI (rw_ cs k) lc2
theorem alc_no {cs : Rws} {k : Nat} (h : alc cs k = false) : ∀ n, k ≤ n → alc cs n = false := by
  intro n
  induction n with
  | zero => intro hk; rw [show k = 0 by omega] at h; exact h
  | succ n ih =>
    intro hk
    by_cases e : k = n + 1
    · rw [← e]; exact h
    · simp only [alc]; rw [ih (by omega)]; rfl
theorem alc_at {cs : Rws} : ∀ n, alc cs n = true → ∀ i, i < n → rw_ cs i = lc2 := by
  intro n
  induction n with
  | zero => intro _ i hi; omega
  | succ n ih =>
    intro h i hi
    simp only [alc, Bool.and_eq_true] at h
    by_cases e : i = n
    · subst e; exact of_decide_eq_true h.2
    · exact ih h.1 i (by omega)
def noV (t : Stg) : Bool := if t.kd = 1 then alc t.cs t.cs.length else if t.kd = 2 then sameM t.rs unM else (sameG t.sd 2 t.ns (lgRs 2 8) || sameG t.sd 4 t.ns (lgRs 4 64))
theorem sgf_nt : sgf nt1 = 0 ∧ sgf nt2 = 0 ∧ sgf nt3 = 0 ∧ sgf nt4 = 0 := by decide +kernel
theorem noV_nt : noV nt1 = true ∧ noV nt2 = true ∧ noV nt3 = true ∧ noV nt4 = true := by decide +kernel
theorem stF_hasN {t : Stg} (h : stF t = true) : (t.kd = 1 → t.rs = [] ∧ t.sd = 0 ∧ t.ns = []) ∧ (t.kd = 2 → t.cs = [] ∧ t.sd = 0 ∧ t.ns = []) ∧ (t.kd = 3 → t.cs = [] ∧ t.rs = []) := by
  unfold stF at h
  refine ⟨fun k => ?_, fun k => ?_, fun k => ?_⟩
  · rw [if_pos k] at h
    have := of_decide_eq_true h
    exact ⟨List.eq_nil_of_length_eq_zero this.1, this.2.1, List.eq_nil_of_length_eq_zero this.2.2⟩
  · rw [if_neg (by omega), if_pos k] at h
    have := of_decide_eq_true h
    exact ⟨List.eq_nil_of_length_eq_zero this.1, this.2.1, List.eq_nil_of_length_eq_zero this.2.2⟩
  · rw [if_neg (by omega), if_neg (by omega), if_pos k] at h
    have := of_decide_eq_true h
    exact ⟨List.eq_nil_of_length_eq_zero this.1, List.eq_nil_of_length_eq_zero this.2⟩
theorem isN_of {t : Stg} (h : t = nt1 ∨ t = nt2 ∨ t = nt3 ∨ t = nt4) : isN t = true := by
  unfold isN
  rcases h with rfl | rfl | rfl | rfl <;> simp [sameStg_iff.2 rfl]
theorem isN_inv {t : Stg} (h : isN t = true) : t = nt1 ∨ t = nt2 ∨ t = nt3 ∨ t = nt4 := by
  unfold isN at h
  simp only [Bool.or_eq_true, sameStg_iff] at h
  rcases h with h | h | h | h
  · exact .inl h.symm
  · exact .inr (.inl h.symm)
  · exact .inr (.inr (.inl h.symm))
  · exact .inr (.inr (.inr h.symm))
theorem isN_n {t : Stg} (h : sgf t ≠ 0) : isN t = false := by
  rcases Bool.eq_false_or_eq_true (isN t) with e | e
  · rcases isN_inv e with rfl | rfl | rfl | rfl
    · exact absurd sgf_nt.1 h
    · exact absurd sgf_nt.2.1 h
    · exact absurd sgf_nt.2.2.1 h
    · exact absurd sgf_nt.2.2.2 h
  · exact e
theorem isN_y {t : Stg} (h : sgf t = 0) : isN t = noV t := by
  rw [Bool.eq_iff_iff]
  constructor
  · intro e
    rcases isN_inv e with rfl | rfl | rfl | rfl
    · exact noV_nt.1
    · exact noV_nt.2.1
    · exact noV_nt.2.2.1
    · exact noV_nt.2.2.2
  · intro e
    apply isN_of
    obtain ⟨hs, ⟨kd, hff⟩ | ⟨kd, hff⟩ | ⟨kd, hff⟩⟩ := sgf_zero h
    · obtain ⟨x1, x2, x3⟩ := (stF_hasN hs).1 kd
      have h3 := (crF_fine hff).1
      unfold noV at e
      rw [if_pos kd] at e
      have hc := alc_at _ e
      left
      have hcs : t.cs = [lc2, lc2, lc2] := by
        refine List.ext_getElem (by rw [h3]; rfl) (fun i h1 h2 => ?_)
        have := hc i h1
        have e1 : rw_ t.cs i = t.cs[i] := by simp [rw_, List.getD, h1]
        rw [← e1, this]
        have hi : i < 3 := by omega
        match i, hi with
        | 0, _ => rfl
        | 1, _ => rfl
        | 2, _ => rfl
      obtain ⟨kd', cs', rs', sd', ns'⟩ := t
      simp only at kd x1 x2 x3 hcs
      subst kd x1 x2 x3 hcs
      rfl
    · obtain ⟨x1, x2, x3⟩ := (stF_hasN hs).2.1 kd
      unfold noV at e
      rw [if_neg (by omega), if_pos kd] at e
      have hrs : t.rs = unM := of_decide_eq_true e
      right; left
      obtain ⟨kd', cs', rs', sd', ns'⟩ := t
      simp only at kd x1 x2 x3 hrs
      subst kd x1 x2 x3 hrs
      rfl
    · obtain ⟨x1, x2⟩ := (stF_hasN hs).2.2 kd
      unfold noV at e
      rw [if_neg (by omega), if_neg (by omega)] at e
      simp only [sameG, sameM, Bool.or_eq_true, Bool.and_eq_true, decide_eq_true_eq] at e
      right; right
      obtain ⟨kd', cs', rs', sd', ns'⟩ := t
      simp only at kd x1 x2 e
      rcases e with ⟨e1, e2⟩ | ⟨e1, e2⟩
      · left; subst kd x1 x2 e1 e2; rfl
      · right; subst kd x1 x2 e1 e2; rfl
set_option maxRecDepth 100000 in
set_option maxHeartbeats 2000000 in
theorem sCurves8_any (A : Option Addr) (n c : Nat) (cs : Rws) (bs : List Nat) (w : World) (h : Hd w (rowsD cs) (.slice A n c) bs) :
    Calls Tryz.prog 95 #[.slice A n c] w (SbAns w (alc cs n)) := by
  have hcap := h.caps
  unfold maxLen at hcap
  have HL := Lib.hid h.rows.1
  have H := Lib.hid h
  clear h
  go_enter Tryz.func95, Tryz.ntmps95
  go_wp2_with fail
  go_loopw [3] (fun i wr => ∃ k : Nat, k ≤ n ∧ i = .int .i64 k ∧ Hid (alc cs k = true) ∧ Hid (Below w.heap.size w wr)) (fun i _ => n - (intOf i).toNat)
  case atStart => exact ⟨0, by omega, rfl, rfl, Below.refl _ _⟩
  case round =>
    obtain ⟨k, hk, rfl, HA, HB⟩ := hrel
    by_cases hlt : k < n
    · obtain ⟨b, o, B1, L1, C1, g1, rfl, x1, x3, -⟩ := (H.out.bel HB.out).row hlt
      have xl := cell_lt x1
      have hc1 := x3.caps
      have HR : Hid (Rd .i64 (wr.alloc (.cells #[.int .i64 0, .int .i64 65535] 2)) (some ⟨wr.heap.size, 0, none⟩) 2 lc2) := by
        have BB := Bx.new wr #[.int .i64 0, .int .i64 65535] 2 rfl
        exact ⟨rfl, fun _ => ⟨wr.heap.size, 0, rfl, fun i hi => by
          match i, hi with
          | 0, _ => exact BB.c 0 rfl
          | 1, _ => exact BB.c 1 rfl⟩⟩
      obtain ⟨s, hs⟩ : ∃ s, s = sameI (rw_ cs k) lc2 := ⟨_, rfl⟩
      have HAS : Hid (alc cs (k + 1) = (alc cs k && s)) := by show _ = _; rw [hs]; rfl
      have CS : Hid (Calls Tryz.prog 44 #[.slice B1 L1 C1, .slice (some ⟨wr.heap.size, 0, none⟩) 2 2] (wr.alloc (.cells #[.int .i64 0, .int .i64 65535] 2)) fun e w' => e = .returned (.bool s) ∧ ∃ m, w' = (wr.alloc (.cells #[.int .i64 0, .int .i64 65535] 2)).drewN m) := by
        show Calls _ _ _ _ _
        rw [hs]
        exact sSame_any _ _ _ _ _ _ _ _ _ (x3.alloc _).rd HR.out (by omega) (by unfold maxLen; omega)
      clear x3 hs hc1
      cases s
      · go_wp2_with fail
        refine CS.out.mono ?_
        rintro e w2 ⟨rfl, m, rfl⟩
        go_wp2_with fail
        go_ret
        exact ⟨by rw [alc_no (k := k + 1) (by rw [HAS.out]; simp) n (by omega)]; rfl, blThenDrew (blThenAlloc HB.out _) _⟩
      · go_wp2_with fail
        refine CS.out.mono ?_
        rintro e w2 ⟨rfl, m, rfl⟩
        clear x1 xl CS
        go_wp2_with fail
        go_roundw
        case rel => exact ⟨k + 1, by omega, by go_num, by rw [HAS.out, HA.out]; rfl, blThenDrew (blThenAlloc HB.out _) _⟩
        case measure => simp [intOf]; omega
    · obtain rfl : k = n := by omega
      go_wp2_with fail
      go_ret
      exact ⟨by rw [HA.out]; rfl, HB.out⟩
set_option maxRecDepth 100000 in
set_option maxHeartbeats 8000000 in
theorem sNothing8_any (g o : Nat) (t : Stg) (A1 : Option Addr) (n1 c1 : Nat) (A2 : Option Addr) (n2 c2 : Nat) (A3 : Option Addr) (n3 c3 : Nat) (w : World) (h : At5 w g o t A1 n1 c1 A2 n2 c2 A3 n3 c3) (hd : HdSt w t A1 n1 c1 A2 n2 c2 A3 n3 c3) :
    Calls Tryz.prog 59 #[.pointer (some ⟨g, o, none⟩)] w (SbAns w (noV t)) := by
  obtain ⟨y0, y1, y2, y3, y4⟩ := h
  have yl := cell_lt y0
  have HD := Lib.hid hd
  by_cases k1 : t.kd = 1
  · have hl := hd.a.choose_spec.rows.1
    have CC : Hid (Calls Tryz.prog 95 #[.slice A1 n1 c1] w (SbAns w (noV t))) := by
      show Calls _ _ _ _ _
      unfold noV
      rw [if_pos k1, hl]
      exact sCurves8_any A1 n1 c1 t.cs _ w hd.a.choose_spec
    rw [k1] at y0
    clear hd hl
    go_enter Tryz.func59, Tryz.ntmps59
    go_wp2_with fail
    refine CC.out.mono ?_
    rintro e w1 ⟨rfl, hb⟩
    have T1 := Lib.hid hb
    clear hb
    go_wp2_with fail
    go_ret
    exact ⟨rfl, T1.out⟩
  · have q1 : (t.kd == 1) = false := by simpa using k1
    by_cases k2 : t.kd = 2
    · have HV : Hid (noV t = sameM t.rs unM) := by show _ = _; unfold noV; rw [if_neg k1, if_pos k2]
      rw [HV.out]
      have CU : Hid (∀ W, Calls Tryz.prog 97 #[] W (RsAns W unM)) := fun W => sUnit4_any W
      have CM : Hid (∀ W G n c, Below w.heap.size w W → (∃ q, Hd W (rowsD unM) (.slice G n c) q) → Calls Tryz.prog 96 #[.agg #[.slice A2 n2 c2], .agg #[.slice G n c]] W (SbAns W (sameM t.rs unM))) := fun W G n c hW hq => sSameMatrices_any _ _ _ _ _ _ _ _ _ _ W (HD.out.b.choose_spec.bel hW) hq.choose_spec
      rw [k2] at y0
      clear hd HV k1 q1
      go_enter Tryz.func59, Tryz.ntmps59
      go_wp2_with fail
      go_region_held3 (fun w' => w'.cell? ⟨g, o + 2, none⟩ = some (.slice A2 n2 c2)) (first | (with_reducible exact cell_later Tb.out y2) | (with_reducible exact cell_later Ta.out y2) | (with_reducible exact cell_later (Below.refl _ _).drew y2)) (first | (go_at_call 97; (with_reducible refine (CU.out _).mono ?_); rintro e wa ⟨Ga, na, ca, rfl, ho, hb⟩; have Ta := Lib.hid (show Below w.heap.size w wa from blThen (by first | exact (Below.refl w.heap.size w) | exact ((Below.refl w.heap.size w)).drew) hb); have Oa := Lib.hid ho; clear ho) | (go_at_call 96; (with_reducible refine (CM.out _ _ _ _ (by first | exact Ta.out | exact (Ta.out).drew) (Oa.out.below (by first | exact Below.refl _ _ | exact (Below.refl _ _).drew)).hd).mono ?_); rintro e wb ⟨rfl, hb⟩; have Tb := Lib.hid (show Below w.heap.size w wb from blThen (by first | exact Ta.out | exact (Ta.out).drew) hb)))
      all_goals (try go_wp2_with fail)
      all_goals go_ret
      all_goals exact ⟨rfl, Tb.out⟩
    · have q2 : (t.kd == 2) = false := by simpa using k2
      obtain ⟨s2, hs2⟩ : ∃ s, s = sameG t.sd 2 t.ns (lgRs 2 8) := ⟨_, rfl⟩
      obtain ⟨s4, hs4⟩ : ∃ s, s = sameG t.sd 4 t.ns (lgRs 4 64) := ⟨_, rfl⟩
      have HV : Hid (noV t = (s2 || s4)) := by show _ = _; unfold noV; rw [if_neg k1, if_neg k2, hs2, hs4]
      rw [HV.out]
      have CL2 : Hid (∀ W, Calls Tryz.prog 99 #[.int .i64 2] W fun e w' => ∃ G n c, e = .returned (.agg #[.int .i64 2, .slice G n c]) ∧ Own w' (rowsD (lgRs 2 8)) (.slice G n c) W.heap.size w'.heap.size ∧ Below W.heap.size W w') := fun W => sLine5_any 2 W (.inl rfl)
      have CL4 : Hid (∀ W, Calls Tryz.prog 99 #[.int .i64 4] W fun e w' => ∃ G n c, e = .returned (.agg #[.int .i64 4, .slice G n c]) ∧ Own w' (rowsD (lgRs 4 64)) (.slice G n c) W.heap.size w'.heap.size ∧ Below W.heap.size W w') := fun W => sLine5_any 4 W (.inr (.inr rfl))
      have CS2 : Hid (∀ W G n c, Below w.heap.size w W → (∃ q, Hd W (rowsD (lgRs 2 8)) (.slice G n c) q) → Calls Tryz.prog 98 #[.agg #[.int .i64 t.sd, .slice A3 n3 c3], .agg #[.int .i64 2, .slice G n c]] W (SbAns W s2)) := fun W G n c hW hq => by rw [hs2]; exact sSameGrids_any _ _ _ _ _ _ _ _ _ _ _ _ W (HD.out.d.choose_spec.bel hW) hq.choose_spec
      have CS4 : Hid (∀ W G n c, Below w.heap.size w W → (∃ q, Hd W (rowsD (lgRs 4 64)) (.slice G n c) q) → Calls Tryz.prog 98 #[.agg #[.int .i64 t.sd, .slice A3 n3 c3], .agg #[.int .i64 4, .slice G n c]] W (SbAns W s4)) := fun W G n c hW hq => by rw [hs4]; exact sSameGrids_any _ _ _ _ _ _ _ _ _ _ _ _ W (HD.out.d.choose_spec.bel hW) hq.choose_spec
      clear hd hs2 hs4 HV k1 k2
      cases s2
      · go_enter Tryz.func59, Tryz.ntmps59
        go_wp2_with fail
        refine wp_region_noPanic ?_
        refine wp_region_held_drew (S := (fun w' => w'.cell? ⟨g, o + 3, none⟩ = some (.int .i64 t.sd) ∧ w'.cell? ⟨g, o + 4, none⟩ = some (.slice A3 n3 c3))) (by kernel_rfl) ?_ (fun hHeld => ?_)
        · (try dsimp only); (first | exact ⟨cell_later Td.out y3, cell_later Td.out y4⟩ | exact ⟨cell_later Tc.out y3, cell_later Tc.out y4⟩ | exact ⟨cell_later Tb.out y3, cell_later Tb.out y4⟩ | exact ⟨cell_later Ta.out y3, cell_later Ta.out y4⟩ | exact ⟨y3, y4⟩ | exact ⟨cell_later (Below.refl _ _).drew y3, cell_later (Below.refl _ _).drew y4⟩)
        change wpAnyH _ _ _ _ _ 15 _ _ _
        (refine wpAnyH_take (i := 0) (v := ?_) rfl (by kernel_rfl) (by kernel_rfl) (by kernel_rfl) (fun _ _ _ h => h) (Or.inl ⟨by rfl, ?_⟩) (by assumption) ?_; rotate_left 1; (focus (intro w hSw; (try dsimp only at hSw); (try simp only [List.getElem_toArray, List.getElem_cons_zero]); go_simp; try with_reducible rfl)); ((try simp only [List.getElem_toArray, List.getElem_cons_zero]); simp only [Act.put, List.setIfInBounds_toArray, List.set_cons_zero, List.set_cons_succ]))
        (refine wpAnyH_take (i := 1) (v := ?_) rfl (by kernel_rfl) (by kernel_rfl) (by kernel_rfl) (fun _ _ _ h => h) (Or.inl ⟨by rfl, ?_⟩) (by assumption) ?_; rotate_left 1; (focus (intro w hSw; (try dsimp only at hSw); (try simp only [List.getElem_toArray, List.getElem_cons_succ, List.getElem_cons_zero]); go_simp; try with_reducible rfl)); ((try simp only [List.getElem_toArray, List.getElem_cons_succ, List.getElem_cons_zero]); simp only [Act.put, List.setIfInBounds_toArray, List.set_cons_zero, List.set_cons_succ]))
        (refine wpAnyH_take (i := 2) (v := ?_) rfl (by kernel_rfl) (by kernel_rfl) (by kernel_rfl) (fun _ _ _ h => h) (Or.inl ⟨by rfl, ?_⟩) (by assumption) ?_; rotate_left 1; (focus (intro w hSw; (try dsimp only at hSw); (try simp only [List.getElem_toArray, List.getElem_cons_succ, List.getElem_cons_zero]); go_simp; try with_reducible rfl)); ((try simp only [List.getElem_toArray, List.getElem_cons_succ, List.getElem_cons_zero]); simp only [Act.put, List.setIfInBounds_toArray, List.set_cons_zero, List.set_cons_succ]))
        (refine wpAnyH_take (i := 3) (v := ?_) rfl (by kernel_rfl) (by kernel_rfl) (by kernel_rfl) (fun _ _ _ h => h) (Or.inl ⟨by rfl, ?_⟩) (by assumption) ?_; rotate_left 1; (focus (intro w hSw; (try dsimp only at hSw); (try simp only [List.getElem_toArray, List.getElem_cons_succ, List.getElem_cons_zero]); go_simp; try with_reducible rfl)); ((try simp only [List.getElem_toArray, List.getElem_cons_succ, List.getElem_cons_zero]); simp only [Act.put, List.setIfInBounds_toArray, List.set_cons_zero, List.set_cons_succ]))
        (refine wpAnyH_ready (rs := [4]) (by kernel_rfl) (by simp) ?_; refine AllReadyH.cons rfl (fun K hK => ?_) AllReadyH.nil; go_simp; (first | (go_at_call 99; (with_reducible refine (CL2.out _).mono ?_); rintro e wa ⟨Ga, na, ca, rfl, ho, hb⟩; have Ta := Lib.hid (show Below w.heap.size w wa from blThen (by first | exact (Below.refl w.heap.size w) | exact ((Below.refl w.heap.size w)).drew) hb); have Oa := Lib.hid ho; clear ho hb) | (go_at_call 98; (with_reducible refine (CS2.out _ _ _ _ (by first | exact Ta.out | exact (Ta.out).drew) (Oa.out.below (by first | exact Below.refl _ _ | exact (Below.refl _ _).drew)).hd).mono ?_); rintro e wb ⟨rfl, hb⟩; have Tb := Lib.hid (show Below w.heap.size w wb from blThen (by first | exact Ta.out | exact (Ta.out).drew) hb); clear hb) | (go_at_call 99; (with_reducible refine (CL4.out _).mono ?_); rintro e wc ⟨Gc, nc, cc, rfl, ho, hb⟩; have Tc := Lib.hid (show Below w.heap.size w wc from blThen (by first | exact Tb.out | exact (Tb.out).drew) hb); have Oc := Lib.hid ho; clear ho hb) | (go_at_call 98; (with_reducible refine (CS4.out _ _ _ _ (by first | exact Tc.out | exact (Tc.out).drew) (Oc.out.below (by first | exact Below.refl _ _ | exact (Below.refl _ _).drew)).hd).mono ?_); rintro e wd ⟨rfl, hb⟩; have Td := Lib.hid (show Below w.heap.size w wd from blThen (by first | exact Tc.out | exact (Tc.out).drew) hb); clear hb)); (try go_simp); refine hK.out _ _ ?_ (fun hHeld => ?_); (focus ((try dsimp only); (first | exact ⟨cell_later Td.out y3, cell_later Td.out y4⟩ | exact ⟨cell_later Tc.out y3, cell_later Tc.out y4⟩ | exact ⟨cell_later Tb.out y3, cell_later Tb.out y4⟩ | exact ⟨cell_later Ta.out y3, cell_later Ta.out y4⟩ | exact ⟨y3, y4⟩ | exact ⟨cell_later (Below.refl _ _).drew y3, cell_later (Below.refl _ _).drew y4⟩))); clear hK K; (try ((try simp only [List.getElem_toArray, List.getElem_cons_succ, List.getElem_cons_zero]); simp only [Act.put, List.setIfInBounds_toArray, List.set_cons_zero, List.set_cons_succ])))
        (refine wpAnyH_ready (rs := [5]) (by kernel_rfl) (by simp) ?_; refine AllReadyH.cons rfl (fun K hK => ?_) AllReadyH.nil; go_simp; (first | (go_at_call 99; (with_reducible refine (CL2.out _).mono ?_); rintro e wa ⟨Ga, na, ca, rfl, ho, hb⟩; have Ta := Lib.hid (show Below w.heap.size w wa from blThen (by first | exact (Below.refl w.heap.size w) | exact ((Below.refl w.heap.size w)).drew) hb); have Oa := Lib.hid ho; clear ho hb) | (go_at_call 98; (with_reducible refine (CS2.out _ _ _ _ (by first | exact Ta.out | exact (Ta.out).drew) (Oa.out.below (by first | exact Below.refl _ _ | exact (Below.refl _ _).drew)).hd).mono ?_); rintro e wb ⟨rfl, hb⟩; have Tb := Lib.hid (show Below w.heap.size w wb from blThen (by first | exact Ta.out | exact (Ta.out).drew) hb); clear hb) | (go_at_call 99; (with_reducible refine (CL4.out _).mono ?_); rintro e wc ⟨Gc, nc, cc, rfl, ho, hb⟩; have Tc := Lib.hid (show Below w.heap.size w wc from blThen (by first | exact Tb.out | exact (Tb.out).drew) hb); have Oc := Lib.hid ho; clear ho hb) | (go_at_call 98; (with_reducible refine (CS4.out _ _ _ _ (by first | exact Tc.out | exact (Tc.out).drew) (Oc.out.below (by first | exact Below.refl _ _ | exact (Below.refl _ _).drew)).hd).mono ?_); rintro e wd ⟨rfl, hb⟩; have Td := Lib.hid (show Below w.heap.size w wd from blThen (by first | exact Tc.out | exact (Tc.out).drew) hb); clear hb)); (try go_simp); refine hK.out _ _ ?_ (fun hHeld => ?_); (focus ((try dsimp only); (first | exact ⟨cell_later Td.out y3, cell_later Td.out y4⟩ | exact ⟨cell_later Tc.out y3, cell_later Tc.out y4⟩ | exact ⟨cell_later Tb.out y3, cell_later Tb.out y4⟩ | exact ⟨cell_later Ta.out y3, cell_later Ta.out y4⟩ | exact ⟨y3, y4⟩ | exact ⟨cell_later (Below.refl _ _).drew y3, cell_later (Below.refl _ _).drew y4⟩))); clear hK K; (try ((try simp only [List.getElem_toArray, List.getElem_cons_succ, List.getElem_cons_zero]); simp only [Act.put, List.setIfInBounds_toArray, List.set_cons_zero, List.set_cons_succ])))
        (refine wpAnyH_take (i := 6) (v := ?_) rfl (by kernel_rfl) (by kernel_rfl) (by kernel_rfl) (fun _ _ _ h => h) (Or.inl ⟨by rfl, ?_⟩) (by assumption) ?_; rotate_left 1; (focus (intro w hSw; (try dsimp only at hSw); (try simp only [List.getElem_toArray, List.getElem_cons_succ, List.getElem_cons_zero]); go_simp; try with_reducible rfl)); ((try simp only [List.getElem_toArray, List.getElem_cons_succ, List.getElem_cons_zero]); simp only [Act.put, List.setIfInBounds_toArray, List.set_cons_zero, List.set_cons_succ]))
        first | (refine wpAnyH_take (i := 7) (v := undef) rfl (by kernel_rfl) (by kernel_rfl) (by kernel_rfl) (fun _ _ _ h => h) (Or.inr ⟨by rfl, rfl⟩) (by assumption) ?_; ((try simp only [List.getElem_toArray, List.getElem_cons_succ, List.getElem_cons_zero]); simp only [Act.put, List.setIfInBounds_toArray, List.set_cons_zero, List.set_cons_succ])) | (refine wpAnyH_take (i := 7) (v := ?_) rfl (by kernel_rfl) (by kernel_rfl) (by kernel_rfl) (fun _ _ _ h => h) (Or.inl ⟨by rfl, ?_⟩) (by assumption) ?_; rotate_left 1; (focus (intro w hSw; (try dsimp only at hSw); (try simp only [List.getElem_toArray, List.getElem_cons_succ, List.getElem_cons_zero]); go_simp; try with_reducible rfl)); ((try simp only [List.getElem_toArray, List.getElem_cons_succ, List.getElem_cons_zero]); simp only [Act.put, List.setIfInBounds_toArray, List.set_cons_zero, List.set_cons_succ]))
        first | (refine wpAnyH_take (i := 8) (v := undef) rfl (by kernel_rfl) (by kernel_rfl) (by kernel_rfl) (fun _ _ _ h => h) (Or.inr ⟨by rfl, rfl⟩) (by assumption) ?_; ((try simp only [List.getElem_toArray, List.getElem_cons_succ, List.getElem_cons_zero]); simp only [Act.put, List.setIfInBounds_toArray, List.set_cons_zero, List.set_cons_succ])) | (refine wpAnyH_take (i := 8) (v := ?_) rfl (by kernel_rfl) (by kernel_rfl) (by kernel_rfl) (fun _ _ _ h => h) (Or.inl ⟨by rfl, ?_⟩) (by assumption) ?_; rotate_left 1; (focus (intro w hSw; (try dsimp only at hSw); (try simp only [List.getElem_toArray, List.getElem_cons_succ, List.getElem_cons_zero]); go_simp; try with_reducible rfl)); ((try simp only [List.getElem_toArray, List.getElem_cons_succ, List.getElem_cons_zero]); simp only [Act.put, List.setIfInBounds_toArray, List.set_cons_zero, List.set_cons_succ]))
        first | (refine wpAnyH_take (i := 9) (v := undef) rfl (by kernel_rfl) (by kernel_rfl) (by kernel_rfl) (fun _ _ _ h => h) (Or.inr ⟨by rfl, rfl⟩) (by assumption) ?_; ((try simp only [List.getElem_toArray, List.getElem_cons_succ, List.getElem_cons_zero]); simp only [Act.put, List.setIfInBounds_toArray, List.set_cons_zero, List.set_cons_succ])) | (refine wpAnyH_take (i := 9) (v := ?_) rfl (by kernel_rfl) (by kernel_rfl) (by kernel_rfl) (fun _ _ _ h => h) (Or.inl ⟨by rfl, ?_⟩) (by assumption) ?_; rotate_left 1; (focus (intro w hSw; (try dsimp only at hSw); (try simp only [List.getElem_toArray, List.getElem_cons_succ, List.getElem_cons_zero]); go_simp; try with_reducible rfl)); ((try simp only [List.getElem_toArray, List.getElem_cons_succ, List.getElem_cons_zero]); simp only [Act.put, List.setIfInBounds_toArray, List.set_cons_zero, List.set_cons_succ]))
        first | (refine wpAnyH_take (i := 10) (v := undef) rfl (by kernel_rfl) (by kernel_rfl) (by kernel_rfl) (fun _ _ _ h => h) (Or.inr ⟨by rfl, rfl⟩) (by assumption) ?_; ((try simp only [List.getElem_toArray, List.getElem_cons_succ, List.getElem_cons_zero]); simp only [Act.put, List.setIfInBounds_toArray, List.set_cons_zero, List.set_cons_succ])) | (refine wpAnyH_take (i := 10) (v := ?_) rfl (by kernel_rfl) (by kernel_rfl) (by kernel_rfl) (fun _ _ _ h => h) (Or.inl ⟨by rfl, ?_⟩) (by assumption) ?_; rotate_left 1; (focus (intro w hSw; (try dsimp only at hSw); (try simp only [List.getElem_toArray, List.getElem_cons_succ, List.getElem_cons_zero]); go_simp; try with_reducible rfl)); ((try simp only [List.getElem_toArray, List.getElem_cons_succ, List.getElem_cons_zero]); simp only [Act.put, List.setIfInBounds_toArray, List.set_cons_zero, List.set_cons_succ]))
        first | (refine wpAnyH_take (i := 11) (v := undef) rfl (by kernel_rfl) (by kernel_rfl) (by kernel_rfl) (fun _ _ _ h => h) (Or.inr ⟨by rfl, rfl⟩) (by assumption) ?_; ((try simp only [List.getElem_toArray, List.getElem_cons_succ, List.getElem_cons_zero]); simp only [Act.put, List.setIfInBounds_toArray, List.set_cons_zero, List.set_cons_succ])) | (refine wpAnyH_ready (rs := [11]) (by kernel_rfl) (by simp) ?_; refine AllReadyH.cons rfl (fun K hK => ?_) AllReadyH.nil; go_simp; (first | (go_at_call 99; (with_reducible refine (CL2.out _).mono ?_); rintro e wa ⟨Ga, na, ca, rfl, ho, hb⟩; have Ta := Lib.hid (show Below w.heap.size w wa from blThen (by first | exact (Below.refl w.heap.size w) | exact ((Below.refl w.heap.size w)).drew) hb); have Oa := Lib.hid ho; clear ho hb) | (go_at_call 98; (with_reducible refine (CS2.out _ _ _ _ (by first | exact Ta.out | exact (Ta.out).drew) (Oa.out.below (by first | exact Below.refl _ _ | exact (Below.refl _ _).drew)).hd).mono ?_); rintro e wb ⟨rfl, hb⟩; have Tb := Lib.hid (show Below w.heap.size w wb from blThen (by first | exact Ta.out | exact (Ta.out).drew) hb); clear hb) | (go_at_call 99; (with_reducible refine (CL4.out _).mono ?_); rintro e wc ⟨Gc, nc, cc, rfl, ho, hb⟩; have Tc := Lib.hid (show Below w.heap.size w wc from blThen (by first | exact Tb.out | exact (Tb.out).drew) hb); have Oc := Lib.hid ho; clear ho hb) | (go_at_call 98; (with_reducible refine (CS4.out _ _ _ _ (by first | exact Tc.out | exact (Tc.out).drew) (Oc.out.below (by first | exact Below.refl _ _ | exact (Below.refl _ _).drew)).hd).mono ?_); rintro e wd ⟨rfl, hb⟩; have Td := Lib.hid (show Below w.heap.size w wd from blThen (by first | exact Tc.out | exact (Tc.out).drew) hb); clear hb)); (try go_simp); refine hK.out _ _ ?_ (fun hHeld => ?_); (focus ((try dsimp only); (first | exact ⟨cell_later Td.out y3, cell_later Td.out y4⟩ | exact ⟨cell_later Tc.out y3, cell_later Tc.out y4⟩ | exact ⟨cell_later Tb.out y3, cell_later Tb.out y4⟩ | exact ⟨cell_later Ta.out y3, cell_later Ta.out y4⟩ | exact ⟨y3, y4⟩ | exact ⟨cell_later (Below.refl _ _).drew y3, cell_later (Below.refl _ _).drew y4⟩))); clear hK K; (try ((try simp only [List.getElem_toArray, List.getElem_cons_succ, List.getElem_cons_zero]); simp only [Act.put, List.setIfInBounds_toArray, List.set_cons_zero, List.set_cons_succ])))
        first | (refine wpAnyH_take (i := 12) (v := undef) rfl (by kernel_rfl) (by kernel_rfl) (by kernel_rfl) (fun _ _ _ h => h) (Or.inr ⟨by rfl, rfl⟩) (by assumption) ?_; ((try simp only [List.getElem_toArray, List.getElem_cons_succ, List.getElem_cons_zero]); simp only [Act.put, List.setIfInBounds_toArray, List.set_cons_zero, List.set_cons_succ])) | (refine wpAnyH_ready (rs := [12]) (by kernel_rfl) (by simp) ?_; refine AllReadyH.cons rfl (fun K hK => ?_) AllReadyH.nil; go_simp; (first | (go_at_call 99; (with_reducible refine (CL2.out _).mono ?_); rintro e wa ⟨Ga, na, ca, rfl, ho, hb⟩; have Ta := Lib.hid (show Below w.heap.size w wa from blThen (by first | exact (Below.refl w.heap.size w) | exact ((Below.refl w.heap.size w)).drew) hb); have Oa := Lib.hid ho; clear ho hb) | (go_at_call 98; (with_reducible refine (CS2.out _ _ _ _ (by first | exact Ta.out | exact (Ta.out).drew) (Oa.out.below (by first | exact Below.refl _ _ | exact (Below.refl _ _).drew)).hd).mono ?_); rintro e wb ⟨rfl, hb⟩; have Tb := Lib.hid (show Below w.heap.size w wb from blThen (by first | exact Ta.out | exact (Ta.out).drew) hb); clear hb) | (go_at_call 99; (with_reducible refine (CL4.out _).mono ?_); rintro e wc ⟨Gc, nc, cc, rfl, ho, hb⟩; have Tc := Lib.hid (show Below w.heap.size w wc from blThen (by first | exact Tb.out | exact (Tb.out).drew) hb); have Oc := Lib.hid ho; clear ho hb) | (go_at_call 98; (with_reducible refine (CS4.out _ _ _ _ (by first | exact Tc.out | exact (Tc.out).drew) (Oc.out.below (by first | exact Below.refl _ _ | exact (Below.refl _ _).drew)).hd).mono ?_); rintro e wd ⟨rfl, hb⟩; have Td := Lib.hid (show Below w.heap.size w wd from blThen (by first | exact Tc.out | exact (Tc.out).drew) hb); clear hb)); (try go_simp); refine hK.out _ _ ?_ (fun hHeld => ?_); (focus ((try dsimp only); (first | exact ⟨cell_later Td.out y3, cell_later Td.out y4⟩ | exact ⟨cell_later Tc.out y3, cell_later Tc.out y4⟩ | exact ⟨cell_later Tb.out y3, cell_later Tb.out y4⟩ | exact ⟨cell_later Ta.out y3, cell_later Ta.out y4⟩ | exact ⟨y3, y4⟩ | exact ⟨cell_later (Below.refl _ _).drew y3, cell_later (Below.refl _ _).drew y4⟩))); clear hK K; (try ((try simp only [List.getElem_toArray, List.getElem_cons_succ, List.getElem_cons_zero]); simp only [Act.put, List.setIfInBounds_toArray, List.set_cons_zero, List.set_cons_succ])))
        (refine wpAnyH_take (i := 13) (v := ?_) rfl (by kernel_rfl) (by kernel_rfl) (by kernel_rfl) (fun _ _ _ h => h) (Or.inl ⟨by rfl, ?_⟩) (by assumption) ?_; rotate_left 1; (focus (intro w hSw; (try dsimp only at hSw); (try simp only [List.getElem_toArray, List.getElem_cons_succ, List.getElem_cons_zero]); go_simp; try with_reducible rfl)); ((try simp only [List.getElem_toArray, List.getElem_cons_succ, List.getElem_cons_zero]); simp only [Act.put, List.setIfInBounds_toArray, List.set_cons_zero, List.set_cons_succ]))
        (refine wpAnyH_take (i := 14) (v := ?_) rfl (by kernel_rfl) (by kernel_rfl) (by kernel_rfl) (fun _ _ _ h => h) (Or.inl ⟨by rfl, ?_⟩) (by assumption) ?_; rotate_left 1; (focus (intro w hSw; (try dsimp only at hSw); (try simp only [List.getElem_toArray, List.getElem_cons_succ, List.getElem_cons_zero]); go_simp; try with_reducible rfl)); ((try simp only [List.getElem_toArray, List.getElem_cons_succ, List.getElem_cons_zero]); simp only [Act.put, List.setIfInBounds_toArray, List.set_cons_zero, List.set_cons_succ]))
        refine wpAnyH_done (by kernel_rfl) ?_ _
        refine NoPanic.normal ?_
        go_wp2_with fail
        go_ret
        exact ⟨rfl, Td.out⟩
      · go_enter Tryz.func59, Tryz.ntmps59
        go_wp2_with fail
        refine wp_region_noPanic ?_
        refine wp_region_held_drew (S := (fun w' => w'.cell? ⟨g, o + 3, none⟩ = some (.int .i64 t.sd) ∧ w'.cell? ⟨g, o + 4, none⟩ = some (.slice A3 n3 c3))) (by kernel_rfl) ?_ (fun hHeld => ?_)
        · (try dsimp only); (first | exact ⟨cell_later Td.out y3, cell_later Td.out y4⟩ | exact ⟨cell_later Tc.out y3, cell_later Tc.out y4⟩ | exact ⟨cell_later Tb.out y3, cell_later Tb.out y4⟩ | exact ⟨cell_later Ta.out y3, cell_later Ta.out y4⟩ | exact ⟨y3, y4⟩ | exact ⟨cell_later (Below.refl _ _).drew y3, cell_later (Below.refl _ _).drew y4⟩)
        change wpAnyH _ _ _ _ _ 15 _ _ _
        (refine wpAnyH_take (i := 0) (v := ?_) rfl (by kernel_rfl) (by kernel_rfl) (by kernel_rfl) (fun _ _ _ h => h) (Or.inl ⟨by rfl, ?_⟩) (by assumption) ?_; rotate_left 1; (focus (intro w hSw; (try dsimp only at hSw); (try simp only [List.getElem_toArray, List.getElem_cons_zero]); go_simp; try with_reducible rfl)); ((try simp only [List.getElem_toArray, List.getElem_cons_zero]); simp only [Act.put, List.setIfInBounds_toArray, List.set_cons_zero, List.set_cons_succ]))
        (refine wpAnyH_take (i := 1) (v := ?_) rfl (by kernel_rfl) (by kernel_rfl) (by kernel_rfl) (fun _ _ _ h => h) (Or.inl ⟨by rfl, ?_⟩) (by assumption) ?_; rotate_left 1; (focus (intro w hSw; (try dsimp only at hSw); (try simp only [List.getElem_toArray, List.getElem_cons_succ, List.getElem_cons_zero]); go_simp; try with_reducible rfl)); ((try simp only [List.getElem_toArray, List.getElem_cons_succ, List.getElem_cons_zero]); simp only [Act.put, List.setIfInBounds_toArray, List.set_cons_zero, List.set_cons_succ]))
        (refine wpAnyH_take (i := 2) (v := ?_) rfl (by kernel_rfl) (by kernel_rfl) (by kernel_rfl) (fun _ _ _ h => h) (Or.inl ⟨by rfl, ?_⟩) (by assumption) ?_; rotate_left 1; (focus (intro w hSw; (try dsimp only at hSw); (try simp only [List.getElem_toArray, List.getElem_cons_succ, List.getElem_cons_zero]); go_simp; try with_reducible rfl)); ((try simp only [List.getElem_toArray, List.getElem_cons_succ, List.getElem_cons_zero]); simp only [Act.put, List.setIfInBounds_toArray, List.set_cons_zero, List.set_cons_succ]))
        (refine wpAnyH_take (i := 3) (v := ?_) rfl (by kernel_rfl) (by kernel_rfl) (by kernel_rfl) (fun _ _ _ h => h) (Or.inl ⟨by rfl, ?_⟩) (by assumption) ?_; rotate_left 1; (focus (intro w hSw; (try dsimp only at hSw); (try simp only [List.getElem_toArray, List.getElem_cons_succ, List.getElem_cons_zero]); go_simp; try with_reducible rfl)); ((try simp only [List.getElem_toArray, List.getElem_cons_succ, List.getElem_cons_zero]); simp only [Act.put, List.setIfInBounds_toArray, List.set_cons_zero, List.set_cons_succ]))
        (refine wpAnyH_ready (rs := [4]) (by kernel_rfl) (by simp) ?_; refine AllReadyH.cons rfl (fun K hK => ?_) AllReadyH.nil; go_simp; (first | (go_at_call 99; (with_reducible refine (CL2.out _).mono ?_); rintro e wa ⟨Ga, na, ca, rfl, ho, hb⟩; have Ta := Lib.hid (show Below w.heap.size w wa from blThen (by first | exact (Below.refl w.heap.size w) | exact ((Below.refl w.heap.size w)).drew) hb); have Oa := Lib.hid ho; clear ho hb) | (go_at_call 98; (with_reducible refine (CS2.out _ _ _ _ (by first | exact Ta.out | exact (Ta.out).drew) (Oa.out.below (by first | exact Below.refl _ _ | exact (Below.refl _ _).drew)).hd).mono ?_); rintro e wb ⟨rfl, hb⟩; have Tb := Lib.hid (show Below w.heap.size w wb from blThen (by first | exact Ta.out | exact (Ta.out).drew) hb); clear hb) | (go_at_call 99; (with_reducible refine (CL4.out _).mono ?_); rintro e wc ⟨Gc, nc, cc, rfl, ho, hb⟩; have Tc := Lib.hid (show Below w.heap.size w wc from blThen (by first | exact Tb.out | exact (Tb.out).drew) hb); have Oc := Lib.hid ho; clear ho hb) | (go_at_call 98; (with_reducible refine (CS4.out _ _ _ _ (by first | exact Tc.out | exact (Tc.out).drew) (Oc.out.below (by first | exact Below.refl _ _ | exact (Below.refl _ _).drew)).hd).mono ?_); rintro e wd ⟨rfl, hb⟩; have Td := Lib.hid (show Below w.heap.size w wd from blThen (by first | exact Tc.out | exact (Tc.out).drew) hb); clear hb)); (try go_simp); refine hK.out _ _ ?_ (fun hHeld => ?_); (focus ((try dsimp only); (first | exact ⟨cell_later Td.out y3, cell_later Td.out y4⟩ | exact ⟨cell_later Tc.out y3, cell_later Tc.out y4⟩ | exact ⟨cell_later Tb.out y3, cell_later Tb.out y4⟩ | exact ⟨cell_later Ta.out y3, cell_later Ta.out y4⟩ | exact ⟨y3, y4⟩ | exact ⟨cell_later (Below.refl _ _).drew y3, cell_later (Below.refl _ _).drew y4⟩))); clear hK K; (try ((try simp only [List.getElem_toArray, List.getElem_cons_succ, List.getElem_cons_zero]); simp only [Act.put, List.setIfInBounds_toArray, List.set_cons_zero, List.set_cons_succ])))
        (refine wpAnyH_ready (rs := [5]) (by kernel_rfl) (by simp) ?_; refine AllReadyH.cons rfl (fun K hK => ?_) AllReadyH.nil; go_simp; (first | (go_at_call 99; (with_reducible refine (CL2.out _).mono ?_); rintro e wa ⟨Ga, na, ca, rfl, ho, hb⟩; have Ta := Lib.hid (show Below w.heap.size w wa from blThen (by first | exact (Below.refl w.heap.size w) | exact ((Below.refl w.heap.size w)).drew) hb); have Oa := Lib.hid ho; clear ho hb) | (go_at_call 98; (with_reducible refine (CS2.out _ _ _ _ (by first | exact Ta.out | exact (Ta.out).drew) (Oa.out.below (by first | exact Below.refl _ _ | exact (Below.refl _ _).drew)).hd).mono ?_); rintro e wb ⟨rfl, hb⟩; have Tb := Lib.hid (show Below w.heap.size w wb from blThen (by first | exact Ta.out | exact (Ta.out).drew) hb); clear hb) | (go_at_call 99; (with_reducible refine (CL4.out _).mono ?_); rintro e wc ⟨Gc, nc, cc, rfl, ho, hb⟩; have Tc := Lib.hid (show Below w.heap.size w wc from blThen (by first | exact Tb.out | exact (Tb.out).drew) hb); have Oc := Lib.hid ho; clear ho hb) | (go_at_call 98; (with_reducible refine (CS4.out _ _ _ _ (by first | exact Tc.out | exact (Tc.out).drew) (Oc.out.below (by first | exact Below.refl _ _ | exact (Below.refl _ _).drew)).hd).mono ?_); rintro e wd ⟨rfl, hb⟩; have Td := Lib.hid (show Below w.heap.size w wd from blThen (by first | exact Tc.out | exact (Tc.out).drew) hb); clear hb)); (try go_simp); refine hK.out _ _ ?_ (fun hHeld => ?_); (focus ((try dsimp only); (first | exact ⟨cell_later Td.out y3, cell_later Td.out y4⟩ | exact ⟨cell_later Tc.out y3, cell_later Tc.out y4⟩ | exact ⟨cell_later Tb.out y3, cell_later Tb.out y4⟩ | exact ⟨cell_later Ta.out y3, cell_later Ta.out y4⟩ | exact ⟨y3, y4⟩ | exact ⟨cell_later (Below.refl _ _).drew y3, cell_later (Below.refl _ _).drew y4⟩))); clear hK K; (try ((try simp only [List.getElem_toArray, List.getElem_cons_succ, List.getElem_cons_zero]); simp only [Act.put, List.setIfInBounds_toArray, List.set_cons_zero, List.set_cons_succ])))
        (refine wpAnyH_take (i := 6) (v := ?_) rfl (by kernel_rfl) (by kernel_rfl) (by kernel_rfl) (fun _ _ _ h => h) (Or.inl ⟨by rfl, ?_⟩) (by assumption) ?_; rotate_left 1; (focus (intro w hSw; (try dsimp only at hSw); (try simp only [List.getElem_toArray, List.getElem_cons_succ, List.getElem_cons_zero]); go_simp; try with_reducible rfl)); ((try simp only [List.getElem_toArray, List.getElem_cons_succ, List.getElem_cons_zero]); simp only [Act.put, List.setIfInBounds_toArray, List.set_cons_zero, List.set_cons_succ]))
        first | (refine wpAnyH_take (i := 7) (v := undef) rfl (by kernel_rfl) (by kernel_rfl) (by kernel_rfl) (fun _ _ _ h => h) (Or.inr ⟨by rfl, rfl⟩) (by assumption) ?_; ((try simp only [List.getElem_toArray, List.getElem_cons_succ, List.getElem_cons_zero]); simp only [Act.put, List.setIfInBounds_toArray, List.set_cons_zero, List.set_cons_succ])) | (refine wpAnyH_take (i := 7) (v := ?_) rfl (by kernel_rfl) (by kernel_rfl) (by kernel_rfl) (fun _ _ _ h => h) (Or.inl ⟨by rfl, ?_⟩) (by assumption) ?_; rotate_left 1; (focus (intro w hSw; (try dsimp only at hSw); (try simp only [List.getElem_toArray, List.getElem_cons_succ, List.getElem_cons_zero]); go_simp; try with_reducible rfl)); ((try simp only [List.getElem_toArray, List.getElem_cons_succ, List.getElem_cons_zero]); simp only [Act.put, List.setIfInBounds_toArray, List.set_cons_zero, List.set_cons_succ]))
        first | (refine wpAnyH_take (i := 8) (v := undef) rfl (by kernel_rfl) (by kernel_rfl) (by kernel_rfl) (fun _ _ _ h => h) (Or.inr ⟨by rfl, rfl⟩) (by assumption) ?_; ((try simp only [List.getElem_toArray, List.getElem_cons_succ, List.getElem_cons_zero]); simp only [Act.put, List.setIfInBounds_toArray, List.set_cons_zero, List.set_cons_succ])) | (refine wpAnyH_take (i := 8) (v := ?_) rfl (by kernel_rfl) (by kernel_rfl) (by kernel_rfl) (fun _ _ _ h => h) (Or.inl ⟨by rfl, ?_⟩) (by assumption) ?_; rotate_left 1; (focus (intro w hSw; (try dsimp only at hSw); (try simp only [List.getElem_toArray, List.getElem_cons_succ, List.getElem_cons_zero]); go_simp; try with_reducible rfl)); ((try simp only [List.getElem_toArray, List.getElem_cons_succ, List.getElem_cons_zero]); simp only [Act.put, List.setIfInBounds_toArray, List.set_cons_zero, List.set_cons_succ]))
        first | (refine wpAnyH_take (i := 9) (v := undef) rfl (by kernel_rfl) (by kernel_rfl) (by kernel_rfl) (fun _ _ _ h => h) (Or.inr ⟨by rfl, rfl⟩) (by assumption) ?_; ((try simp only [List.getElem_toArray, List.getElem_cons_succ, List.getElem_cons_zero]); simp only [Act.put, List.setIfInBounds_toArray, List.set_cons_zero, List.set_cons_succ])) | (refine wpAnyH_take (i := 9) (v := ?_) rfl (by kernel_rfl) (by kernel_rfl) (by kernel_rfl) (fun _ _ _ h => h) (Or.inl ⟨by rfl, ?_⟩) (by assumption) ?_; rotate_left 1; (focus (intro w hSw; (try dsimp only at hSw); (try simp only [List.getElem_toArray, List.getElem_cons_succ, List.getElem_cons_zero]); go_simp; try with_reducible rfl)); ((try simp only [List.getElem_toArray, List.getElem_cons_succ, List.getElem_cons_zero]); simp only [Act.put, List.setIfInBounds_toArray, List.set_cons_zero, List.set_cons_succ]))
        first | (refine wpAnyH_take (i := 10) (v := undef) rfl (by kernel_rfl) (by kernel_rfl) (by kernel_rfl) (fun _ _ _ h => h) (Or.inr ⟨by rfl, rfl⟩) (by assumption) ?_; ((try simp only [List.getElem_toArray, List.getElem_cons_succ, List.getElem_cons_zero]); simp only [Act.put, List.setIfInBounds_toArray, List.set_cons_zero, List.set_cons_succ])) | (refine wpAnyH_take (i := 10) (v := ?_) rfl (by kernel_rfl) (by kernel_rfl) (by kernel_rfl) (fun _ _ _ h => h) (Or.inl ⟨by rfl, ?_⟩) (by assumption) ?_; rotate_left 1; (focus (intro w hSw; (try dsimp only at hSw); (try simp only [List.getElem_toArray, List.getElem_cons_succ, List.getElem_cons_zero]); go_simp; try with_reducible rfl)); ((try simp only [List.getElem_toArray, List.getElem_cons_succ, List.getElem_cons_zero]); simp only [Act.put, List.setIfInBounds_toArray, List.set_cons_zero, List.set_cons_succ]))
        first | (refine wpAnyH_take (i := 11) (v := undef) rfl (by kernel_rfl) (by kernel_rfl) (by kernel_rfl) (fun _ _ _ h => h) (Or.inr ⟨by rfl, rfl⟩) (by assumption) ?_; ((try simp only [List.getElem_toArray, List.getElem_cons_succ, List.getElem_cons_zero]); simp only [Act.put, List.setIfInBounds_toArray, List.set_cons_zero, List.set_cons_succ])) | (refine wpAnyH_ready (rs := [11]) (by kernel_rfl) (by simp) ?_; refine AllReadyH.cons rfl (fun K hK => ?_) AllReadyH.nil; go_simp; (first | (go_at_call 99; (with_reducible refine (CL2.out _).mono ?_); rintro e wa ⟨Ga, na, ca, rfl, ho, hb⟩; have Ta := Lib.hid (show Below w.heap.size w wa from blThen (by first | exact (Below.refl w.heap.size w) | exact ((Below.refl w.heap.size w)).drew) hb); have Oa := Lib.hid ho; clear ho hb) | (go_at_call 98; (with_reducible refine (CS2.out _ _ _ _ (by first | exact Ta.out | exact (Ta.out).drew) (Oa.out.below (by first | exact Below.refl _ _ | exact (Below.refl _ _).drew)).hd).mono ?_); rintro e wb ⟨rfl, hb⟩; have Tb := Lib.hid (show Below w.heap.size w wb from blThen (by first | exact Ta.out | exact (Ta.out).drew) hb); clear hb) | (go_at_call 99; (with_reducible refine (CL4.out _).mono ?_); rintro e wc ⟨Gc, nc, cc, rfl, ho, hb⟩; have Tc := Lib.hid (show Below w.heap.size w wc from blThen (by first | exact Tb.out | exact (Tb.out).drew) hb); have Oc := Lib.hid ho; clear ho hb) | (go_at_call 98; (with_reducible refine (CS4.out _ _ _ _ (by first | exact Tc.out | exact (Tc.out).drew) (Oc.out.below (by first | exact Below.refl _ _ | exact (Below.refl _ _).drew)).hd).mono ?_); rintro e wd ⟨rfl, hb⟩; have Td := Lib.hid (show Below w.heap.size w wd from blThen (by first | exact Tc.out | exact (Tc.out).drew) hb); clear hb)); (try go_simp); refine hK.out _ _ ?_ (fun hHeld => ?_); (focus ((try dsimp only); (first | exact ⟨cell_later Td.out y3, cell_later Td.out y4⟩ | exact ⟨cell_later Tc.out y3, cell_later Tc.out y4⟩ | exact ⟨cell_later Tb.out y3, cell_later Tb.out y4⟩ | exact ⟨cell_later Ta.out y3, cell_later Ta.out y4⟩ | exact ⟨y3, y4⟩ | exact ⟨cell_later (Below.refl _ _).drew y3, cell_later (Below.refl _ _).drew y4⟩))); clear hK K; (try ((try simp only [List.getElem_toArray, List.getElem_cons_succ, List.getElem_cons_zero]); simp only [Act.put, List.setIfInBounds_toArray, List.set_cons_zero, List.set_cons_succ])))
        first | (refine wpAnyH_take (i := 12) (v := undef) rfl (by kernel_rfl) (by kernel_rfl) (by kernel_rfl) (fun _ _ _ h => h) (Or.inr ⟨by rfl, rfl⟩) (by assumption) ?_; ((try simp only [List.getElem_toArray, List.getElem_cons_succ, List.getElem_cons_zero]); simp only [Act.put, List.setIfInBounds_toArray, List.set_cons_zero, List.set_cons_succ])) | (refine wpAnyH_ready (rs := [12]) (by kernel_rfl) (by simp) ?_; refine AllReadyH.cons rfl (fun K hK => ?_) AllReadyH.nil; go_simp; (first | (go_at_call 99; (with_reducible refine (CL2.out _).mono ?_); rintro e wa ⟨Ga, na, ca, rfl, ho, hb⟩; have Ta := Lib.hid (show Below w.heap.size w wa from blThen (by first | exact (Below.refl w.heap.size w) | exact ((Below.refl w.heap.size w)).drew) hb); have Oa := Lib.hid ho; clear ho hb) | (go_at_call 98; (with_reducible refine (CS2.out _ _ _ _ (by first | exact Ta.out | exact (Ta.out).drew) (Oa.out.below (by first | exact Below.refl _ _ | exact (Below.refl _ _).drew)).hd).mono ?_); rintro e wb ⟨rfl, hb⟩; have Tb := Lib.hid (show Below w.heap.size w wb from blThen (by first | exact Ta.out | exact (Ta.out).drew) hb); clear hb) | (go_at_call 99; (with_reducible refine (CL4.out _).mono ?_); rintro e wc ⟨Gc, nc, cc, rfl, ho, hb⟩; have Tc := Lib.hid (show Below w.heap.size w wc from blThen (by first | exact Tb.out | exact (Tb.out).drew) hb); have Oc := Lib.hid ho; clear ho hb) | (go_at_call 98; (with_reducible refine (CS4.out _ _ _ _ (by first | exact Tc.out | exact (Tc.out).drew) (Oc.out.below (by first | exact Below.refl _ _ | exact (Below.refl _ _).drew)).hd).mono ?_); rintro e wd ⟨rfl, hb⟩; have Td := Lib.hid (show Below w.heap.size w wd from blThen (by first | exact Tc.out | exact (Tc.out).drew) hb); clear hb)); (try go_simp); refine hK.out _ _ ?_ (fun hHeld => ?_); (focus ((try dsimp only); (first | exact ⟨cell_later Td.out y3, cell_later Td.out y4⟩ | exact ⟨cell_later Tc.out y3, cell_later Tc.out y4⟩ | exact ⟨cell_later Tb.out y3, cell_later Tb.out y4⟩ | exact ⟨cell_later Ta.out y3, cell_later Ta.out y4⟩ | exact ⟨y3, y4⟩ | exact ⟨cell_later (Below.refl _ _).drew y3, cell_later (Below.refl _ _).drew y4⟩))); clear hK K; (try ((try simp only [List.getElem_toArray, List.getElem_cons_succ, List.getElem_cons_zero]); simp only [Act.put, List.setIfInBounds_toArray, List.set_cons_zero, List.set_cons_succ])))
        (refine wpAnyH_take (i := 13) (v := ?_) rfl (by kernel_rfl) (by kernel_rfl) (by kernel_rfl) (fun _ _ _ h => h) (Or.inl ⟨by rfl, ?_⟩) (by assumption) ?_; rotate_left 1; (focus (intro w hSw; (try dsimp only at hSw); (try simp only [List.getElem_toArray, List.getElem_cons_succ, List.getElem_cons_zero]); go_simp; try with_reducible rfl)); ((try simp only [List.getElem_toArray, List.getElem_cons_succ, List.getElem_cons_zero]); simp only [Act.put, List.setIfInBounds_toArray, List.set_cons_zero, List.set_cons_succ]))
        (refine wpAnyH_take (i := 14) (v := ?_) rfl (by kernel_rfl) (by kernel_rfl) (by kernel_rfl) (fun _ _ _ h => h) (Or.inl ⟨by rfl, ?_⟩) (by assumption) ?_; rotate_left 1; (focus (intro w hSw; (try dsimp only at hSw); (try simp only [List.getElem_toArray, List.getElem_cons_succ, List.getElem_cons_zero]); go_simp; try with_reducible rfl)); ((try simp only [List.getElem_toArray, List.getElem_cons_succ, List.getElem_cons_zero]); simp only [Act.put, List.setIfInBounds_toArray, List.set_cons_zero, List.set_cons_succ]))
        refine wpAnyH_done (by kernel_rfl) ?_ _
        refine NoPanic.normal ?_
        go_wp2_with fail
        go_ret
        exact ⟨rfl, Tb.out⟩
end Go.Proofs.YtdjifaaofefpoaaGreat
