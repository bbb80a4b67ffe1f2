/-
  A stage at a colour by the reference model: l6Eval, EvalStage.
-/
import Derived.Test.YtlfdpambbgddoaaStpB
import Derived.Test.YtlfdpambbgddoaaMatQ
import Derived.Test.YtlfdpambbgddoaaGrdB
namespace Go.Proofs.Ytlfdpambbgddoaa
open Go.RowKit Go.Maps
set_option linter.unusedVariables false
set_option linter.unusedSimpArgs false

/-- the first k numbers through their curves. -/
def evT (cs : Rws) (xs : List Int) (k : Nat) : List Int := (List.range k).map fun i => cev (rw_ cs i) (xs.getD i 0)
theorem evT_step (cs : Rws) (xs : List Int) (k : Nat) : evT cs xs (k + 1) = evT cs xs k ++ [cev (rw_ cs k) (xs.getD k 0)] := by unfold evT; rw [List.range_succ, List.map_append]; rfl
theorem evT_3 {t : Stg} {xs : List Int} (kd : t.kd = 1) : evT t.cs xs 3 = [evS 1 t (xs.getD · 0) 0, evS 1 t (xs.getD · 0) 1, evS 1 t (xs.getD · 0) 2] := by
  unfold evS
  simp only [if_pos kd, cevo_1]
  rfl
set_option maxRecDepth 100000 in
set_option maxHeartbeats 4000000 in
theorem sEval6_any (g o : Nat) (t : Stg) (A1 : Option Addr) (n1 c1 : Nat) (A2 : Option Addr) (n2 c2 : Nat) (A3 : Option Addr) (n3 c3 : Nat) (P : Option Addr) (d : Nat) (xs : List Int) (w : World) (h : At5 w g o t A1 n1 c1 A2 n2 c2 A3 n3 c3) (hd : HdSt w t A1 n1 c1 A2 n2 c2 A3 n3 c3) (hp : Rd .i64 w P 3 xs) (h0 : sgf t = 0) (h1 : lf xs = 0) :
    Calls Try.prog 72 #[.pointer (some ⟨g, o, none⟩), .slice P 3 d] w (SlAns w 3 [evS 1 t (xs.getD · 0) 0, evS 1 t (xs.getD · 0) 1, evS 1 t (xs.getD · 0) 2]) := by
  obtain ⟨y0, y1, y2, y3, y4⟩ := h
  have hlv := (lf_zero h1).2
  obtain ⟨-, ⟨kd, hff⟩ | ⟨kd, hff⟩ | ⟨kd, hff⟩⟩ := sgf_zero h0
  · obtain ⟨bs, hr⟩ := hd.a
    have hl := hr.rows.1
    obtain ⟨h3, hcf⟩ := crF_fine hff
    obtain rfl : n1 = 3 := by omega
    obtain ⟨pb, po, rfl, hpc⟩ := hp.2 (by omega)
    have H := Lib.hid hr
    have HCF := Lib.hid hcf
    have HLV := Lib.hid hlv
    have HPC := Lib.hid hpc
    have HR := Lib.hid (evT_3 (xs := xs) kd)
    rw [← HR.out]
    rw [kd] at y0
    have OE := Lib.hid (OwnI.empty w w.heap.size (Nat.le_refl _))
    clear hd hr hl h3 hcf h0 hff kd hlv hpc hp h1
    go_enter Try.func72, Try.ntmps72
    go_wp2_with fail
    go_loopw [5, 6] (fun v i wr => ∃ k : Nat, k ≤ 3 ∧ i = .int .i64 k ∧ OwnI wr w.heap.size v k (evT t.cs xs k) ∧ Below w.heap.size w wr) (fun _ i _ => 3 - (intOf i).toNat)
    case atStart => exact ⟨0, by omega, rfl, OE.out, blAlloc _ _⟩
    case round =>
      obtain ⟨k, hk, rfl, how, hb⟩ := hrel
      obtain ⟨VA, VC, rfl⟩ := how.form
      have HO := Lib.hid how
      have HB := Lib.hid hb
      clear how hb
      by_cases hlt : k < 3
      · obtain ⟨b, oo, B1, L1, C1, g1, rfl, x1, x3, -⟩ := H.out.row hlt
        have CC : Hid (∀ W, Below wr.heap.size wr W → Calls Try.prog 113 #[.pointer (some ⟨b, oo + k, none⟩), .int .i64 (xs.getD k 0)] W fun e w' => e = .returned (.int .i64 (cev (rw_ t.cs k) (xs.getD k 0))) ∧ Below W.heap.size W w') := fun W hW => by
          have hv := inB_iff.1 (HLV.out k hlt)
          have hW2 := blThen HB.out hW
          exact (sEval_any b (oo + k) B1 L1 C1 (rw_ t.cs k) (xs.getD k 0) W (cell_later hW2 x1) (x3.rd.below hW2) (cfine (HCF.out k hlt)) hv.1 hv.2).mono fun e w' ⟨he, m, hm⟩ => ⟨he, by rw [hm]; exact below_drewN _ _ _⟩
        have HST := Lib.hid (evT_step t.cs xs k)
        have px := cell_later HB.out (HPC.out k hlt)
        have z1 := cell_later HB.out y1
        obtain ⟨y, hy⟩ : ∃ y, y = cev (rw_ t.cs k) (xs.getD k 0) := ⟨_, rfl⟩
        obtain ⟨x, hx⟩ : ∃ x, x = xs.getD k 0 := ⟨_, rfl⟩
        rw [← hy] at CC HST
        rw [← hx] at CC px
        clear x1 x3 hy hx
        go_wp2_with fail
        go_region_law (first
          | (refine step_append_i64 _ rfl _ _ rfl w.heap.size (.slice VA k VC) k (evT t.cs xs k) rfl ((HO.out.below HB2.out).alloc _) w2.heap.size 1 y rfl (new_cell w2 _ _) (by omega) (by have := (blThen HB.out HB2.out).size; simp; omega) ?_; intro v5 w5 ho5 hg5 hgb5)
          | (go_simp; go_at_call 113; (with_reducible refine (CC.out _ (by first | exact Below.refl _ _ | exact (Below.refl _ _).drew | exact below_drewN _ _ _)).mono ?_); rintro e w2 ⟨rfl, hb2⟩; have HB2 := Lib.hid (blThen (by first | exact Below.refl _ _ | exact (Below.refl _ _).drew | exact below_drewN _ _ _) hb2 : Below wr.heap.size wr w2); have z2 := cell_later HB2.out z1; have p2 := cell_later HB2.out px))
        all_goals
          have HN : Hid (OwnI w5 w.heap.size v5 (k + 1) (evT t.cs xs (k + 1)) ∧ Below w.heap.size w w5) := ⟨by rw [HST.out]; exact ho5, (blThenAlloc (blThen HB.out HB2.out) _).trans (gb_low' hg5 hgb5 (Nat.le_refl _) (by have := (blThen HB.out HB2.out).size; simp; omega))⟩
          clear ho5 hg5 hgb5
          go_wp2_with fail
          go_roundw
          case rel => exact ⟨k + 1, by omega, by go_num, HN.out.1, HN.out.2⟩
          case measure => simp [intOf]; omega
      · obtain rfl : k = 3 := by omega
        go_wp2_with fail
        go_ret
        exact ⟨_, _, rfl, HO.out.own, HB.out⟩
  · obtain ⟨bs, hr⟩ := hd.b
    have CE := Lib.hid (sApply4_any g (o + 2) A2 P n2 c2 3 d t.rs xs bs w hr y2 hp hff h1)
    have HV : Hid (∀ i, apV (fl t.rs) (xs.getD · 0) i = evS 1 t (xs.getD · 0) i) := fun i => by unfold evS; rw [if_neg (by omega), if_pos kd, apK_1]
    rw [HV.out 0, HV.out 1, HV.out 2] at CE
    rw [kd] at y0
    have l2 := cell_lt y2
    clear hd hr h0 hff kd hlv hp h1 HV
    go_enter Try.func72, Try.ntmps72
    go_wp2_with fail
    refine CE.out.mono ?_
    rintro e w1 ⟨B, cp, rfl, how, hb⟩
    have HO := Lib.hid how
    have HB := Lib.hid hb
    clear how hb
    go_wp2_with fail
    go_ret
    exact ⟨_, _, rfl, HO.out, HB.out⟩
  · obtain ⟨bs, hr⟩ := hd.d
    obtain ⟨s, hs⟩ : ∃ s : Nat, t.sd = s := ⟨t.sd.toNat, by have := inB_iff.1 (gf_zero hff).1; omega⟩
    have HV : Hid (∀ i, gvl (s : Int) t.ns (xs.getD · 0) i = evS 1 t (xs.getD · 0) i) := fun i => by unfold evS; rw [if_neg (by omega), if_neg (by omega), gvo_1, hs]
    rw [hs] at y3 hff
    have CE := Lib.hid (sEval5_any g (o + 3) A3 P n3 c3 d s t.ns xs bs w hr y3 y4 hp hff h1)
    rw [HV.out 0, HV.out 1, HV.out 2] at CE
    rw [kd] at y0
    have l2 := cell_lt y3
    clear hd hr h0 hff kd hlv hp h1 HV hs
    go_enter Try.func72, Try.ntmps72
    go_wp2_with fail
    refine CE.out.mono ?_
    rintro e w1 ⟨B, cp, rfl, how, hb⟩
    have HO := Lib.hid how
    have HB := Lib.hid hb
    clear how hb
    go_wp2_with fail
    go_ret
    exact ⟨_, _, rfl, HO.out, HB.out⟩
set_option maxRecDepth 100000 in
set_option maxHeartbeats 2000000 in
theorem sEvalStage_any (t : Stg) (A1 : Option Addr) (n1 c1 : Nat) (A2 : Option Addr) (n2 c2 : Nat) (A3 : Option Addr) (n3 c3 : Nat) (P : Option Addr) (m d : Nat) (xs : List Int) (gs : List Nat) (w : World) (h : HdSt w t A1 n1 c1 A2 n2 c2 A3 n3 c3) (hp : Hd w (.ints .i64 xs) (.slice P m d) gs) :
    Calls Try.prog 30 #[.agg #[.int .i64 t.kd, .slice A1 n1 c1, .slice A2 n2 c2, .int .i64 t.sd, .slice A3 n3 c3], .slice P m d] w (IAns w (esC 1 t xs) (esL 1 t xs)) := by
  have B := Lib.hid ((Bx.new w #[.int .i64 t.kd, .slice A1 n1 c1, .slice A2 n2 c2, .int .i64 t.sd, .slice A3 n3 c3] 64 rfl).alloc (.cells #[.int .i64 0, .slice none 0 0] 48))
  have R := Lib.hid (Bx.new (w.alloc (.cells #[.int .i64 t.kd, .slice A1 n1 c1, .slice A2 n2 c2, .int .i64 t.sd, .slice A3 n3 c3] 64)) #[.int .i64 0, .slice none 0 0] 48 (b := w.heap.size + 1) (by simp))
  have H := Lib.hid ((h.alloc (.cells #[.int .i64 t.kd, .slice A1 n1 c1, .slice A2 n2 c2, .int .i64 t.sd, .slice A3 n3 c3] 64)).alloc (.cells #[.int .i64 0, .slice none 0 0] 48))
  have HP := Lib.hid ((hp.alloc (.cells #[.int .i64 t.kd, .slice A1 n1 c1, .slice A2 n2 c2, .int .i64 t.sd, .slice A3 n3 c3] 64)).alloc (.cells #[.int .i64 0, .slice none 0 0] 48))
  clear h hp
  go_enter Try.func30, Try.ntmps30
  go_wp2_with fail
  refine (sStage6_any w.heap.size 0 t _ _ _ _ _ _ _ _ _ _ ⟨B.out.c 0 rfl, B.out.c 1 rfl, B.out.c 2 rfl, B.out.c 3 rfl, B.out.c 4 rfl⟩ H.out).mono ?_
  rintro e w1 ⟨rfl, mm, rfl⟩
  have B1 := Lib.hid (B.out.drewN mm)
  have R1 := Lib.hid (R.out.drewN mm)
  have H1 := Lib.hid (H.out.bel (below_drewN _ mm _))
  have P1 := Lib.hid (HP.out.bel (below_drewN _ mm _))
  have T1 := Lib.hid (blThenDrew (blThenAlloc (blAlloc w (.cells #[.int .i64 t.kd, .slice A1 n1 c1, .slice A2 n2 c2, .int .i64 t.sd, .slice A3 n3 c3] 64)) (.cells #[.int .i64 0, .slice none 0 0] 48)) mm)
  obtain ⟨W1, hW1⟩ : ∃ W, W = ((w.alloc (.cells #[.int .i64 t.kd, .slice A1 n1 c1, .slice A2 n2 c2, .int .i64 t.sd, .slice A3 n3 c3] 64)).alloc (.cells #[.int .i64 0, .slice none 0 0] 48)).drewN mm := ⟨_, rfl⟩
  rw [← hW1] at B1 R1 H1 T1 P1 ⊢
  clear hW1 B R H HP
  have r0 := R1.out.c 0 rfl
  have r1 := R1.out.c 1 rfl
  have z0 := R1.out.f 0
  have z1 := R1.out.f 1
  have l1 := R1.out.lt
  by_cases h0 : sgf t = 0
  · have H0 := Lib.hid h0
    rw [h0]
    clear h0
    go_wp2_with fail
    refine (sLevels4_any _ _ _ _ _ P1.out.rd P1.out.caps.1 P1.out.caps.2).mono ?_
    rintro e w2 ⟨rfl, rfl⟩
    by_cases h1 : lf xs = 0
    · obtain rfl : 3 = m := by rw [← (lf_zero h1).1]; exact P1.out.rd.1
      have HA := Lib.hid (es_y (o := 1) H0.out (h1 : lfo 1 xs = 0))
      have CE := Lib.hid (sEval6_any w.heap.size 0 t _ _ _ _ _ _ _ _ _ P d xs W1 ⟨B1.out.c 0 rfl, B1.out.c 1 rfl, B1.out.c 2 rfl, B1.out.c 3 rfl, B1.out.c 4 rfl⟩ H1.out P1.out.rd H0.out h1)
      rw [h1]
      clear h1
      go_wp2_with fail
      refine CE.out.mono ?_
      rintro e w3 ⟨G, cp, rfl, how, hb⟩
      have R3 := Lib.hid (R1.out.bel hb)
      have HPT := Lib.hid (IAns.put (w := w) (b := w.heap.size + 1) 0 (by omega) l1 how (blThen T1.out hb))
      clear how hb r0 r1 z0 z1 l1 R1 CE
      have r0 := R3.out.c 0 rfl
      have r1 := R3.out.c 1 rfl
      have z0 := R3.out.f 0
      have z1 := R3.out.f 1
      have l1 := R3.out.lt
      go_wp2_with fail
      have KK := (R3.out.set 0 (.int .i64 0)).set 1 (.slice G 3 cp)
      have k0 := KK.c 0 rfl
      have k1 := KK.c 1 rfl
      clear KK
      refine bodyPost_ret (v := .agg #[.int .i64 0, .slice G 3 cp]) (by simp [results, Try.results30, go_sem, k0, k1]) rfl ⟨G, 3, cp, by rw [HA.out.1], ?_, HPT.out.2⟩
      rw [HA.out.2]
      exact HPT.out.1
    · have HA := Lib.hid (es_l (o := 1) H0.out (h1 : lfo 1 xs ≠ 0))
      change Hid (_ = lf xs ∧ _) at HA
      obtain ⟨f, hf⟩ : ∃ f, lf xs = f := ⟨_, rfl⟩
      rw [hf] at h1 HA ⊢
      have hqn : (f == 0) = false := by simpa using h1
      clear hf
      go_wp2_with fail
      have KK := (R1.out.set 0 (.int .i64 f)).set 1 (.slice none 0 0)
      have k0 := KK.c 0 rfl
      have k1 := KK.c 1 rfl
      clear KK
      refine bodyPost_ret (v := .agg #[.int .i64 f, .slice none 0 0]) (by simp [results, Try.results30, go_sem, k0, k1]) rfl (IAns.bad HA.out ?_)
      exact bel1 (bel1 T1.out (c := w.heap.size + 1) (by omega) 0 _) (c := w.heap.size + 1) (by omega) 1 _
  · have HA := Lib.hid (es_f (o := 1) (xs := xs) h0)
    obtain ⟨f, hf⟩ : ∃ f, sgf t = f := ⟨_, rfl⟩
    rw [hf] at h0 HA ⊢
    have hqn : (f == 0) = false := by simpa using h0
    clear hf
    go_wp2_with fail
    have KK := (R1.out.set 0 (.int .i64 f)).set 1 (.slice none 0 0)
    have k0 := KK.c 0 rfl
    have k1 := KK.c 1 rfl
    clear KK
    refine bodyPost_ret (v := .agg #[.int .i64 f, .slice none 0 0]) (by simp [results, Try.results30, go_sem, k0, k1]) rfl (IAns.bad HA.out ?_)
    exact bel1 (bel1 T1.out (c := w.heap.size + 1) (by omega) 0 _) (c := w.heap.size + 1) (by omega) 1 _
end Go.Proofs.Ytlfdpambbgddoaa
