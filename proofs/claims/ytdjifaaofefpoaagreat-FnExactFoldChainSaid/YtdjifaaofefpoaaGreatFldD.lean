/-
  FoldChain, by the reference model.
-/
import Derived.Test.YtdjifaaofefpoaaGreatJonE
import Derived.Test.YtdjifaaofefpoaaGreatFldA
namespace Go.Proofs.YtdjifaaofefpoaaGreat
open Go.RowKit Go.Maps
set_option linter.unusedVariables false
set_option linter.unusedSimpArgs false

/-- Of the first k stages those that do something. -/
def fdL (ts : List Stg) : Nat → List Stg
  | 0 => []
  | k + 1 => fdL ts k ++ (if noV (st_ ts k) then [] else [st_ ts k])
theorem fdL_y {ts : List Stg} {k : Nat} (h : noV (st_ ts k) = true) : fdL ts (k + 1) = fdL ts k := by simp [fdL, h]
theorem fdL_n {ts : List Stg} {k : Nat} (h : noV (st_ ts k) = false) : fdL ts (k + 1) = fdL ts k ++ [st_ ts k] := by simp [fdL, h]
theorem fdL_le (ts : List Stg) : ∀ k, (fdL ts k).length ≤ k := by
  intro k
  induction k with
  | zero => exact Nat.le_refl 0
  | succ k ih => simp only [fdL, List.length_append]; split <;> simp <;> omega
set_option maxRecDepth 100000 in
set_option maxHeartbeats 4000000 in
theorem sFold8_any (g o : Nat) (A : Option Addr) (n c : Nat) (ts : List Stg) (bs : List Nat) (w : World) (h : Hd w (chD ts) (.slice A n c) bs) (hg : w.cell? ⟨g, o, none⟩ = some (.slice A n c)) (hn : n ≤ 100) (hf : ∀ i, i < n → sgf (st_ ts i) = 0) :
    Calls Tryz.prog 37 #[.pointer (some ⟨g, o, none⟩)] w (CyAns w (fdL ts n).length (fdL ts n)) := by
  obtain ⟨W0, hW0⟩ : ∃ W0, W0 = (w.alloc (.cells #[.slice none 0 0] 32)).alloc (.cells #[.slice none 0 0] 32) := ⟨_, rfl⟩
  have R0 : Hid (Bx W0 w.heap.size [.slice none 0 0]) := by show Bx _ _ _; rw [hW0]; exact (Bx.new _ _ _ rfl).alloc _
  have M0 : Hid (Bx W0 (w.heap.size + 1) [.slice none 0 0]) := by show Bx _ _ _; rw [hW0]; exact Bx.new _ _ _ (by simp)
  have T0 : Hid (Below w.heap.size w W0) := by show Below _ _ _; rw [hW0]; exact blThenAlloc (blAlloc _ _) _
  have hz0 : W0.heap.size = w.heap.size + 2 := by rw [hW0]; simp
  have hz : w.heap.size + 2 ≤ W0.heap.size := by omega
  have HLn := Lib.hid h.stgs.1
  have HH : Hid (Hd w (chD ts) (.slice A n c) bs) := h
  have HFN := Lib.hid hf
  have HG := Lib.hid hg
  have HW := Lib.hid hW0
  clear h hf hW0 hz0 hg
  go_enter Tryz.func37, Tryz.ntmps37
  go_wp2_with fail
  rw [← HW.out]
  clear HW
  go_loopw [4] (fun i wr => ∃ (k : Nat) (v : Value), k ≤ n ∧ i = .int .i64 k ∧ Hid (OwnE 98 5 wr W0.heap.size v (fdL ts k).length ((fdL ts k).map stD) wr.heap.size) ∧ Hid (Bx wr (w.heap.size + 1) [v]) ∧ Hid (Bx wr w.heap.size [.slice none 0 0]) ∧ Hid (Below w.heap.size w wr) ∧ W0.heap.size ≤ wr.heap.size) (fun i _ => n - (intOf i).toNat)
  case atStart => exact ⟨0, .slice none 0 0, by omega, rfl, OwnE.nil _ _ _ _ _, M0.out, R0.out, T0.out, Nat.le_refl _⟩
  case round =>
    obtain ⟨k, v, hk, rfl, HO, HM, HQ, HT, hsz⟩ := hrel
    have a0 := cell_later HT.out HG.out
    have al := cell_lt a0
    have fr := HM.out.lt
    by_cases hlt : k < n
    · obtain ⟨b, oo, A1, n1, c1, A2, n2, c2, A3, n3, c3, rfl, x0, x1, x2, x3, x4, xs⟩ := (HH.out.bel HT.out).stg hlt
      have A5 : Hid (At5 wr b (oo + k * 5) (st_ ts k) A1 n1 c1 A2 n2 c2 A3 n3 c3) := ⟨x0, x1, x2, x3, x4⟩
      have CN : Hid (Calls Tryz.prog 59 #[.pointer (some ⟨b, oo + k * 5, none⟩)] wr (SbAns wr (noV (st_ ts k)))) := sNothing8_any _ _ (st_ ts k) _ _ _ _ _ _ _ _ _ _ A5.out xs
      have HXS := Lib.hid xs
      obtain ⟨s, hs⟩ : ∃ s, noV (st_ ts k) = s := ⟨_, rfl⟩
      rw [hs] at CN
      have HSS := Lib.hid hs
      clear hs xs x0 x1 x2 x3 x4
      cases s
      · have HTK := Lib.hid (fdL_n HSS.out)
        have HLE := Lib.hid (fdL_le ts k)
        obtain ⟨L, hL⟩ : ∃ L, fdL ts k = L := ⟨_, rfl⟩
        rw [hL] at HTK HLE HO
        obtain ⟨mm, hmm⟩ : ∃ m, L.length = m := ⟨_, rfl⟩
        rw [hmm] at HO
        have hm5 : mm ≤ 100 := by have := HLE.out; omega
        have HMM := Lib.hid hmm
        clear hL hmm HLE
        obtain ⟨A9, c9, rfl⟩ := HO.out.form
        go_wp2_with fail
        refine CN.out.mono ?_
        rintro e wq ⟨rfl, hbq⟩
        have TQ := Lib.hid (blThen HT.out hbq)
        have OQ := Lib.hid (HO.out.below hbq)
        have MQ := Lib.hid (HM.out.bel hbq)
        have QQ := Lib.hid (HQ.out.bel hbq)
        have XQ := Lib.hid (HXS.out.bel hbq)
        have hsq : W0.heap.size ≤ wq.heap.size := Nat.le_trans hsz hbq.size
        have y0 := cell_later hbq A5.out.1
        have y1 := cell_later hbq A5.out.2
        have y2 := cell_later hbq A5.out.3
        have y3 := cell_later hbq A5.out.4
        have y4 := cell_later hbq A5.out.5
        have a1 := cell_later hbq a0
        have al1 := cell_lt a1
        have m1 := MQ.out.c 0 rfl
        have p1 := MQ.out.f 0
        have fr1 := MQ.out.lt
        have xl := cell_lt y0
        have HZQ := Lib.hid (show wr.heap.size ≤ wq.heap.size from hbq.size)
        have CC : Hid (∀ W, Below wq.heap.size wq W → Calls Tryz.prog 60 #[.agg #[.int .i64 (st_ ts k).kd, .slice A1 n1 c1, .slice A2 n2 c2, .int .i64 (st_ ts k).sd, .slice A3 n3 c3]] W (StAns W (st_ ts k))) := fun W hW => sCopyStage_any (st_ ts k) A1 n1 c1 A2 n2 c2 A3 n3 c3 W (XQ.out.bel hW) (HFN.out k hlt)
        have OQ2 : Hid (OwnE 98 5 wq W0.heap.size (.slice A9 mm c9) mm (L.map stD) wr.heap.size) := OQ.out
        clear hbq HO HM HQ HT HXS CN a0 al fr A5 OQ
        go_wp2_with fail
        go_region_law (first
          | (refine step_append_owne ety_stage _ rfl _ _ rfl W0.heap.size (.slice A9 mm c9) mm _ wr.heap.size rfl (O2.out.below (blAlloc _ _)) (stD (st_ ts k)) (stV (st_ ts k).kd (.slice B1 z1 d1) (.slice B2 z2 d2) (st_ ts k).sd (.slice B3 z3 d3)) _ _ (OX.out.below (blAlloc _ _)) w2.heap.size 1 rfl AE.out AO.out (by omega) (by have := HZQ.out; simp only [World.size_drew]; omega) (by simp) hsz (by have := B2b.out.size; have := HZQ.out; simp; omega) ?_; intro A' c' w4 ho4 hb4; have M4 := Lib.hid ((M2.out.alloc _).low hb4 (by omega)); have m41 := M4.out.c 0 rfl; have p41 := M4.out.f 0; have ml4 := M4.out.lt)
          | (go_simp; go_at_call 60; (with_reducible refine (CC.out _ (by first | exact Below.refl _ _ | exact (Below.refl _ _).drew | exact below_drewN _ _ _)).mono ?_); rintro e w2 ⟨B1, z1, d1, B2, z2, d2, B3, z3, d3, rfl, how, hb2⟩; have B2b := Lib.hid (blThen (by first | exact Below.refl _ _ | exact (Below.refl _ _).drew | exact below_drewN _ _ _) hb2 : Below wq.heap.size wq w2); have OX := Lib.hid how; have O2 := Lib.hid (OQ2.out.below B2b.out); have M2 := Lib.hid (MQ.out.bel B2b.out); have Q2 := Lib.hid (QQ.out.bel B2b.out); have BXN := Lib.hid (Bx.new w2 #[.int .i64 (st_ ts k).kd, .slice B1 z1 d1, .slice B2 z2 d2, .int .i64 (st_ ts k).sd, .slice B3 z3 d3] 98 rfl); have AE : Hid (∀ j, j < 5 → (w2.alloc (.cells #[.int .i64 (st_ ts k).kd, .slice B1 z1 d1, .slice B2 z2 d2, .int .i64 (st_ ts k).sd, .slice B3 z3 d3] 98)).cell? ⟨w2.heap.size, j, none⟩ = some (stV (st_ ts k).kd (.slice B1 z1 d1) (.slice B2 z2 d2) (st_ ts k).sd (.slice B3 z3 d3) j)) := (stV_box BXN.out); have AO : Hid (∀ j, j < 5 → (stV (st_ ts k).kd (.slice B1 z1 d1) (.slice B2 z2 d2) (st_ ts k).sd (.slice B3 z3 d3) j).oneCell' = true) := (stV_one _ _ _ _ _ rfl rfl rfl); have n12 := M2.out.c 0 rfl; have nl2 := M2.out.lt; clear how hb2))
        all_goals
          have e1 : (L ++ [st_ ts k]).map stD = (L.map stD) ++ [stD (st_ ts k)] := by rw [List.map_append]; rfl
          have T4 := Lib.hid (show Below w.heap.size w w4 from (blThen TQ.out (blThenAlloc B2b.out _)).trans (hb4.mono (by omega)))
          have HQ4 := Lib.hid ((Q2.out.alloc _).low hb4 (by omega))
          have HO4 := Lib.hid ho4
          have HE1 := Lib.hid e1
          have HSW := Lib.hid (show W0.heap.size ≤ w4.heap.size from by have a1 := hb4.size; have a2 := B2b.out.size; have a3 := HZQ.out; simp only [World.size_alloc] at a1; omega)
          clear ho4 hb4 e1
          try go_wp2_with fail
          go_roundw
          case rel =>
            refine ⟨k + 1, .slice A' (mm + 1) c', by omega, by go_num, ?_, M4.out.set 0 _, HQ4.out.oth (c := w.heap.size + 1) (by omega) _ _, ?_, ?_⟩
            · show OwnE _ _ _ _ _ _ _ _
              rw [HTK.out, HE1.out, List.length_append, HMM.out]
              simp only [setSize]
              exact HO4.out.set (.inl (by omega)) _ _
            · exact T4.out.setCell (by simp; try omega) _
            · simp only [setSize]; exact HSW.out
          case measure => simp [intOf]; omega
      · have HTK := Lib.hid (fdL_y HSS.out)
        go_wp2_with fail
        refine CN.out.mono ?_
        rintro e wq ⟨rfl, hbq⟩
        have TQ := Lib.hid (blThen HT.out hbq)
        have OQ : Hid (OwnE 98 5 wq W0.heap.size v (fdL ts (k + 1)).length ((fdL ts (k + 1)).map stD) wq.heap.size) := by
          show OwnE _ _ _ _ _ _ _ _
          rw [HTK.out]
          exact (HO.out.below hbq).mono hbq.size
        have MQ := Lib.hid (HM.out.bel hbq)
        have QQ := Lib.hid (HQ.out.bel hbq)
        have hsq : W0.heap.size ≤ wq.heap.size := Nat.le_trans hsz hbq.size
        clear hbq HO HM HQ HT HXS CN a0 al fr
        go_wp2_with fail
        go_roundw
        case rel => exact ⟨k + 1, v, by omega, by go_num, OQ.out, MQ.out, QQ.out, TQ.out, hsq⟩
        case measure => simp [intOf]; omega
    · obtain rfl : k = n := by omega
      obtain ⟨B, d, rfl⟩ := HO.out.form
      have HF := HO
      have r0 := HQ.out.c 0 rfl
      have q0 := HQ.out.f 0
      have m0 := HM.out.c 0 rfl
      have rl := HQ.out.lt
      obtain ⟨mm, hmm⟩ : ∃ m, (fdL ts k).length = m := ⟨_, rfl⟩
      rw [hmm] at HF m0
      have HMM := Lib.hid hmm
      clear HO HM hmm
      go_wp2_with fail
      have KK := HQ.out.set 0 (.slice B mm d)
      have k0 := KK.c 0 rfl
      clear KK
      refine bodyPost_ret (v := .agg #[.slice B mm d]) (by simp [results, Tryz.results37, go_sem, k0]) rfl ⟨B, d, by rw [HMM.out], ?_, ?_⟩
      · simp only [setSize]
        rw [HMM.out]
        exact (HF.out.set (.inl (by omega)) _ _).lower (by omega)
      · exact HT.out.setCell (by simp) _
/-- What FoldChain answers: the chain of those that do something, or nothing where there is a fault. -/
def foL (ts : List Stg) : List Stg := if chf ts = 0 then fdL ts ts.length else []
set_option maxRecDepth 100000 in
set_option maxHeartbeats 4000000 in
theorem sFoldChain_any (A : Option Addr) (n c : Nat) (ts : List Stg) (bs : List Nat) (w : World) (h : Hd w (chD ts) (.slice A n c) bs) :
    Calls Tryz.prog 17 #[.agg #[.slice A n c]] w (ChnAns w (chf ts) (foL ts)) := by
  obtain ⟨W0, hW0⟩ : ∃ W0, W0 = (w.alloc (.cells #[.slice A n c] 32)).alloc (.cells #[.int .i64 0, .slice none 0 0] 41) := ⟨_, rfl⟩
  have A0 : Hid (Bx W0 w.heap.size [.slice A n c]) := by show Bx _ _ _; rw [hW0]; exact (Bx.new _ _ _ rfl).alloc _
  have R0 : Hid (Bx W0 (w.heap.size + 1) [.int .i64 0, .slice none 0 0]) := by show Bx _ _ _; rw [hW0]; exact Bx.new _ _ _ (by simp)
  have T0 : Hid (Below w.heap.size w W0) := by show Below _ _ _; rw [hW0]; exact blThenAlloc (blAlloc _ _) _
  have HZ : Hid (W0.heap.size = w.heap.size + 2) := by show _ = _; rw [hW0]; simp
  have HW := Lib.hid hW0
  have H : Hid (Hd W0 (chD ts) (.slice A n c) bs) := h.bel T0.out
  have HL := Lib.hid h.stgs.1
  clear h hW0
  go_enter Tryz.func17, Tryz.ntmps17
  go_wp2_with fail
  rw [← HW.out]
  clear HW
  refine (sFault6_any w.heap.size 0 A n c ts bs _ H.out (A0.out.c 0 rfl)).mono ?_
  rintro e w1 ⟨rfl, k1, rfl⟩
  have R1 := Lib.hid (R0.out.drewN k1)
  have A1 := Lib.hid (A0.out.drewN k1)
  have H1 := Lib.hid (H.out.bel (below_drewN _ k1 _))
  have T1 := Lib.hid (blThenDrew T0.out k1)
  have HZ1 : Hid (w.heap.size + 2 ≤ (W0.drewN k1).heap.size) := by show _ ≤ _; have := HZ.out; simp; omega
  obtain ⟨WX, hWX⟩ : ∃ WX, WX = W0.drewN k1 := ⟨_, rfl⟩
  rw [← hWX] at R1 A1 H1 T1 HZ1 ⊢
  clear hWX R0 A0 H T0 HZ
  by_cases h0 : chf ts = 0
  · have n5 : n ≤ 5 := by have := (chf_zj h0).1; have := HL.out; omega
    have HF : Hid (foL ts = fdL ts n) := by show _ = _; unfold foL; rw [if_pos h0, HL.out]
    have FA := Lib.hid (sgL_all _ (chf_zj h0).2)
    have CF := Lib.hid (sFold8_any w.heap.size 0 A n c ts bs WX H1.out (A1.out.c 0 rfl) (by omega) (fun i hi => FA.out i (by have := HL.out; omega)))
    have HLE := Lib.hid (fdL_le ts n)
    have H0 := Lib.hid h0
    rw [h0]
    clear h0
    go_wp2_with fail
    refine CF.out.mono ?_
    rintro e w2 ⟨G, d, rfl, ho, hb⟩
    have R2 := Lib.hid (R1.out.bel hb)
    have T2 := Lib.hid (blThen T1.out hb)
    obtain ⟨mm, hmm⟩ : ∃ m, (fdL ts n).length = m := ⟨_, rfl⟩
    rw [hmm] at ho ⊢
    have hm5 : mm ≤ 5 := by have := HLE.out; omega
    have HO2 : Hid (Own w2 (chD (fdL ts n)) (.slice G mm d) WX.heap.size w2.heap.size) := ho.own (by omega)
    clear ho hb hmm CF HLE
    have r0 := R2.out.c 0 rfl
    have r1 := R2.out.c 1 rfl
    have z0 := R2.out.f 0
    have z1 := R2.out.f 1
    have l1 := R2.out.lt
    go_wp2_with fail
    have KK := (R2.out.set 0 (.int .i64 0)).set 1 (.slice G mm d)
    have k0 := KK.c 0 rfl
    have k1 := KK.c 1 rfl
    clear KK
    refine bodyPost_ret (v := .agg #[.int .i64 0, .slice G mm d]) (by simp [results, Tryz.results17, go_sem, k0, k1]) rfl ⟨G, mm, d, by rw [H0.out], ?_, ?_⟩
    · rw [HF.out]
      have := HZ1.out
      refine Own.mono (lo := WX.heap.size) (hi := w2.heap.size) ?_ (by omega) (by simp only [setSize]; exact Nat.le_refl _)
      exact (HO2.out.set (.inl (by omega)) _ _).set (.inl (by omega)) _ _
    · repeat (refine Below.setCell ?_ (by simp; try omega) _)
      exact T2.out
  · have HF : Hid (foL ts = []) := by show _ = _; unfold foL; rw [if_neg h0]
    obtain ⟨f, hf⟩ : ∃ f, chf ts = f := ⟨_, rfl⟩
    have HFF := Lib.hid hf
    rw [hf] at h0 ⊢
    have hqn : (f == 0) = false := by simpa using h0
    clear hf
    have r0 := R1.out.c 0 rfl
    have r1 := R1.out.c 1 rfl
    have z0 := R1.out.f 0
    have z1 := R1.out.f 1
    have l1 := R1.out.lt
    go_wp2_with fail
    have KK := (R1.out.set 0 (.int .i64 f)).set 1 (.slice none 0 0)
    have k0 := KK.c 0 rfl
    have k1 := KK.c 1 rfl
    clear KK
    refine bodyPost_ret (v := .agg #[.int .i64 f, .slice none 0 0]) (by simp [results, Tryz.results17, go_sem, k0, k1]) rfl (ChnAns.bad ⟨HFF.out, HF.out⟩ ?_)
    repeat (refine Below.setCell ?_ (by simp; try omega) _)
    exact T1.out
end Go.Proofs.YtdjifaaofefpoaaGreat
