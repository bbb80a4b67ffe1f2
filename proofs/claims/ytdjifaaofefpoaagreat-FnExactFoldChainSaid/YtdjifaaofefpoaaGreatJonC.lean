/-
  The reference model's copies of matrices, grids, stages and chains, and its JoinChains.
-/
import Derived.Test.YtdjifaaofefpoaaGreatJonB
import Derived.Test.YtdjifaaofefpoaaGreatGrdRA
import Derived.Deep.CutRange
namespace Go.Proofs.YtdjifaaofefpoaaGreat
open Go.RowKit Go.Maps
set_option linter.unusedVariables false
set_option linter.unusedSimpArgs false

theorem info_rw : (Tryz.prog.info? 25).map (fun i => (i.zero, i.size, i.bytes)) = some (some (.slice none 0 0), 1, 24) := by kernel_rfl
theorem ety_rows : Ety 85 25 1 24 := by
  obtain ⟨i, hi, h⟩ := Option.map_eq_some_iff.1 info_rw
  simp only [Prod.mk.injEq] at h
  exact ⟨Tryz.underlying85, ⟨i, _, hi, h.1, h.2.1, h.2.2, rfl⟩, by omega, by omega⟩
theorem Own.lowJ {w w' : World} {d : Dat} {v : Value} {lo hi lim : Nat} (h : Own w d v lo hi) (hb : Below lim w w') (hl : hi ≤ lim) : Own w' d v lo hi := by
  obtain ⟨bs, h1, h2, h3⟩ := h
  refine ⟨bs, h1.keep (fun b hb' i => hb.cell (p := ⟨b, i, none⟩) (Nat.lt_of_lt_of_le (h3 b hb').2.1 hl)), h2, fun b hb' => ⟨(h3 b hb').1, (h3 b hb').2.1, fun i => ?_⟩⟩
  rw [hb.frozen (p := ⟨b, i, none⟩) (Nat.lt_of_lt_of_le (h3 b hb').2.1 hl)]
  exact (h3 b hb').2.2 i
theorem Bx.lowA {W W' : World} {b B : Nat} {l : List Value} (h : Bx W b l) (hb : Below B W W') (hB : b < B) : Bx W' b l := h.low hb hB
set_option maxRecDepth 100000 in
set_option maxHeartbeats 4000000 in
theorem sCopy4_any (A : Option Addr) (n c : Nat) (rs : Rws) (bs : List Nat) (w : World) (h : Hd w (rowsD rs) (.slice A n c) bs) (hn : n ≤ 100) (hr : ∀ k, k < n → 0 < (rw_ rs k).length ∧ (rw_ rs k).length ≤ 100) :
    Calls Tryz.prog 100 #[.agg #[.slice A n c]] w fun e w' => ∃ B d, e = .returned (.agg #[.slice B n d]) ∧ Own w' (rowsD rs) (.slice B n d) w.heap.size w'.heap.size ∧ Below w.heap.size w w' := by
  obtain ⟨W0, hW0⟩ : ∃ W0, W0 = ((w.alloc (.cells #[.slice A n c] 95)).alloc (.cells #[.slice none 0 0] 95)).alloc (.cells #[.slice none 0 0] 95) := ⟨_, rfl⟩
  have A0 : Hid (Bx W0 w.heap.size [.slice A n c]) := by show Bx _ _ _; rw [hW0]; exact ((Bx.new _ _ _ rfl).alloc _).alloc _
  have R0 : Hid (Bx W0 (w.heap.size + 1) [.slice none 0 0]) := by show Bx _ _ _; rw [hW0]; exact (Bx.new _ _ _ (by simp)).alloc _
  have HQ0 := R0
  have M0 : Hid (Bx W0 (w.heap.size + 1 + 1) [.slice none 0 0]) := by show Bx _ _ _; rw [hW0]; exact Bx.new _ _ _ (by simp)
  have T0 : Hid (Below w.heap.size w W0) := by show Below _ _ _; rw [hW0]; exact blThenAlloc (blThenAlloc (blAlloc _ _) _) _
  have hz0 : W0.heap.size = w.heap.size + 3 := by rw [hW0]; simp
  have hz : w.heap.size + 3 ≤ W0.heap.size := by omega
  have HLn := Lib.hid h.rows.1
  have HH : Hid (Hd w (rowsD rs) (.slice A n c) bs) := h
  have HR := Lib.hid hr
  have HW := Lib.hid hW0
  clear h hr hW0 hz0
  go_enter Tryz.func100, Tryz.ntmps100
  go_wp2_with fail
  rw [← HW.out]
  clear HW
  go_loopw [4] (fun i wr => ∃ (k : Nat) (v : Value), k ≤ n ∧ i = .int .i64 k ∧ Hid (OwnE 25 1 wr W0.heap.size v k ((rs.take k).map fun r => [Dat.ints .i64 r]) wr.heap.size) ∧ Hid (Bx wr (w.heap.size + 1 + 1) [v]) ∧ Hid (Bx wr w.heap.size [.slice A n c]) ∧ Hid (Below w.heap.size w wr) ∧ W0.heap.size ≤ wr.heap.size ∧ Hid (Bx wr (w.heap.size + 1) [.slice none 0 0])) (fun i _ => n - (intOf i).toNat)
  case atStart => exact ⟨0, .slice none 0 0, by omega, rfl, by rw [List.take_zero]; exact OwnE.nil _ _ _ _ _, M0.out, A0.out, T0.out, Nat.le_refl _, HQ0.out⟩
  case round =>
    obtain ⟨k, v, hk, rfl, HO, HM, HA, HT, hsz, HQ⟩ := hrel
    have a0 := HA.out.c 0 rfl
    have al := HA.out.lt
    have fr := HM.out.lt
    by_cases hlt : k < n
    · obtain ⟨b, o, B1, L1, C1, g1, rfl, x1, x3, -⟩ := (HH.out.bel HT.out).row hlt
      have hL : (rw_ rs k).length = L1 := x3.rd.1
      have hLL := HR.out k hlt
      obtain ⟨p, q, rfl, -⟩ := x3.rd.2 (by omega)
      have HRD := Lib.hid x3.rd
      have hL1 : 0 < L1 ∧ L1 ≤ 100 := by omega
      have HTK : Hid (rs.take (k + 1) = rs.take k ++ [rw_ rs k]) := take_row (by rw [HLn.out]; exact hlt)
      obtain ⟨A9, c9, rfl⟩ := HO.out.form
      have m1 := HM.out.c 0 rfl
      have p1 := HM.out.f 0
      have xl := cell_lt x1
      have CC : Hid (∀ W, Below wr.heap.size wr W → Calls Tryz.prog 69 #[.slice (some ⟨p, q, none⟩) L1 C1] W (SlAns W L1 (rw_ rs k))) := fun W hW => sInts_any p q L1 C1 (rw_ rs k) W (HRD.out.below hW) hL1.1 (by omega)
      clear x3 hL hLL HRD
      go_wp2_with fail
      go_region_law (first
        | (refine step_append_owne ety_rows _ rfl _ _ rfl W0.heap.size (.slice A9 k c9) k _ wr.heap.size rfl (O2.out.below (blAlloc _ _)) [Dat.ints .i64 (rw_ rs k)] (fun _ => .slice G L1 cq) _ _ ((OwnX.one OW2.out).below (blAlloc _ _)) w2.heap.size 1 rfl AE.out (fun _ _ => rfl) (by omega) (by simp only [World.size_drew]; omega) (by simp) hsz (by have := B2.out.size; simp; omega) ?_; intro A' c' w4 ho4 hb4; have M4 := Lib.hid ((M2.out.alloc _).low hb4 (by omega)); have m41 := M4.out.c 0 rfl; have p41 := M4.out.f 0; have ml4 := M4.out.lt)
        | (go_simp; go_at_call 69; (with_reducible refine (CC.out _ (by first | exact Below.refl _ _ | exact (Below.refl _ _).drew | exact below_drewN _ _ _)).mono ?_); rintro e w2 ⟨G, cq, rfl, how, hb2⟩; have B2 := Lib.hid (blThen (by first | exact Below.refl _ _ | exact (Below.refl _ _).drew | exact below_drewN _ _ _) hb2 : Below wr.heap.size wr w2); have OW2 := Lib.hid how; have O2 := Lib.hid (HO.out.below B2.out); have M2 := Lib.hid (HM.out.bel B2.out); have A2 := Lib.hid (HA.out.bel B2.out); have HQ2 := Lib.hid (HQ.out.bel B2.out); have AE : Hid (∀ j, j < 1 → (w2.alloc (.cells #[.slice G L1 cq] 25)).cell? ⟨w2.heap.size, j, none⟩ = some (.slice G L1 cq)) := (fun j hj => by rw [show j = 0 from (by omega)]; exact (Bx.new w2 #[.slice G L1 cq] 25 rfl).c 0 rfl); have n12 := M2.out.c 0 rfl; have nl2 := M2.out.lt; have a02 := A2.out.c 0 rfl; have al2 := A2.out.lt; have x12 := cell_later B2.out x1; have xl2 := cell_lt x12; clear how hb2))
      all_goals
        have e1 : ((rs.take (k + 1)).map fun r => [Dat.ints .i64 r]) = ((rs.take k).map fun r => [Dat.ints .i64 r]) ++ [[Dat.ints .i64 (rw_ rs k)]] := by rw [HTK.out, List.map_append]; rfl
        have T4 := Lib.hid (show Below w.heap.size w w4 from (blThen HT.out (blThenAlloc B2.out _)).trans (hb4.mono (by omega)))
        have HA4 := Lib.hid ((A2.out.alloc _).low hb4 (by omega))
        have HQ4 := Lib.hid ((HQ2.out.alloc _).low hb4 (by omega))
        have HO4 := Lib.hid ho4
        have HE1 := Lib.hid e1
        have HSW := Lib.hid (show W0.heap.size ≤ w4.heap.size from by have a1 := hb4.size; have a2 := B2.out.size; simp only [World.size_alloc] at a1; omega)
        clear ho4 hb4 e1
        try go_wp2_with fail
        go_roundw
        case rel =>
          refine ⟨k + 1, .slice A' (k + 1) c', by omega, by go_num, ?_, M4.out.set 0 _, HA4.out.oth (c := (w.heap.size + 1 + 1)) (by omega) _ _, ?_, ?_, HQ4.out.oth (c := (w.heap.size + 1 + 1)) (by omega) _ _⟩
          · show OwnE _ _ _ _ _ _ _ _
            rw [HE1.out]
            simp only [setSize]
            exact HO4.out.set (.inl (by omega)) _ _
          · exact T4.out.setCell (by simp; omega) _
          · simp only [setSize]; exact HSW.out
        case measure => simp [intOf]; omega
    · obtain rfl : k = n := by omega
      obtain ⟨B, d, rfl⟩ := HO.out.form
      have HF := Lib.hid (show Own wr (rowsD rs) (.slice B k d) W0.heap.size wr.heap.size from by
        have := HO.out.own (by omega)
        rw [List.take_of_length_le (by rw [HLn.out]; exact Nat.le_refl _)] at this
        exact this)
      have r0 := HQ.out.c 0 rfl
      have q0 := HQ.out.f 0
      have m0 := HM.out.c 0 rfl
      have rl := HQ.out.lt
      clear HO HM
      go_wp2_with fail
      have KK := (HQ.out.set 0 (.slice B k d))
      have k0 := KK.c 0 rfl
      clear KK
      refine bodyPost_ret (v := .agg #[.slice B k d]) (by simp [results, Tryz.results100, go_sem, k0]) rfl ⟨B, d, rfl, ?_, ?_⟩
      · refine Own.mono (lo := W0.heap.size) (hi := wr.heap.size) ?_ (by omega) (by simp only [setSize]; exact Nat.le_refl _)
        repeat (refine Own.set ?_ (.inl (by omega)) _ _)
        exact HF.out
      · repeat (refine Below.setCell ?_ (by simp; try omega) _)
        exact HT.out
set_option maxRecDepth 100000 in
set_option maxHeartbeats 4000000 in
theorem sCopy5_any (sd : Int) (A : Option Addr) (n c : Nat) (rs : Rws) (bs : List Nat) (w : World) (h : Hd w (rowsD rs) (.slice A n c) bs) (hn : n ≤ 100) (hr : ∀ k, k < n → 0 < (rw_ rs k).length ∧ (rw_ rs k).length ≤ 100) :
    Calls Tryz.prog 101 #[.agg #[.int .i64 sd, .slice A n c]] w fun e w' => ∃ B d, e = .returned (.agg #[.int .i64 sd, .slice B n d]) ∧ Own w' (rowsD rs) (.slice B n d) w.heap.size w'.heap.size ∧ Below w.heap.size w w' := by
  obtain ⟨W0, hW0⟩ : ∃ W0, W0 = ((w.alloc (.cells #[.int .i64 sd, .slice A n c] 96)).alloc (.cells #[.int .i64 0, .slice none 0 0] 96)).alloc (.cells #[.int .i64 sd, .slice none 0 0] 96) := ⟨_, rfl⟩
  have A0 : Hid (Bx W0 w.heap.size [.int .i64 sd, .slice A n c]) := by show Bx _ _ _; rw [hW0]; exact ((Bx.new _ _ _ rfl).alloc _).alloc _
  have R0 : Hid (Bx W0 (w.heap.size + 1) [.int .i64 0, .slice none 0 0]) := by show Bx _ _ _; rw [hW0]; exact (Bx.new _ _ _ (by simp)).alloc _
  have HQ0 := R0
  have M0 : Hid (Bx W0 (w.heap.size + 1 + 1) [.int .i64 sd, .slice none 0 0]) := by show Bx _ _ _; rw [hW0]; exact Bx.new _ _ _ (by simp)
  have T0 : Hid (Below w.heap.size w W0) := by show Below _ _ _; rw [hW0]; exact blThenAlloc (blThenAlloc (blAlloc _ _) _) _
  have hz0 : W0.heap.size = w.heap.size + 3 := by rw [hW0]; simp
  have hz : w.heap.size + 3 ≤ W0.heap.size := by omega
  have HLn := Lib.hid h.rows.1
  have HH : Hid (Hd w (rowsD rs) (.slice A n c) bs) := h
  have HR := Lib.hid hr
  have HW := Lib.hid hW0
  clear h hr hW0 hz0
  go_enter Tryz.func101, Tryz.ntmps101
  go_wp2_with fail
  rw [← HW.out]
  clear HW
  go_loopw [4] (fun i wr => ∃ (k : Nat) (v : Value), k ≤ n ∧ i = .int .i64 k ∧ Hid (OwnE 25 1 wr W0.heap.size v k ((rs.take k).map fun r => [Dat.ints .i64 r]) wr.heap.size) ∧ Hid (Bx wr (w.heap.size + 1 + 1) [.int .i64 sd, v]) ∧ Hid (Bx wr w.heap.size [.int .i64 sd, .slice A n c]) ∧ Hid (Below w.heap.size w wr) ∧ W0.heap.size ≤ wr.heap.size ∧ Hid (Bx wr (w.heap.size + 1) [.int .i64 0, .slice none 0 0])) (fun i _ => n - (intOf i).toNat)
  case atStart => exact ⟨0, .slice none 0 0, by omega, rfl, by rw [List.take_zero]; exact OwnE.nil _ _ _ _ _, M0.out, A0.out, T0.out, Nat.le_refl _, HQ0.out⟩
  case round =>
    obtain ⟨k, v, hk, rfl, HO, HM, HA, HT, hsz, HQ⟩ := hrel
    have a0 := HA.out.c 1 rfl
    have al := HA.out.lt
    have fr := HM.out.lt
    by_cases hlt : k < n
    · obtain ⟨b, o, B1, L1, C1, g1, rfl, x1, x3, -⟩ := (HH.out.bel HT.out).row hlt
      have hL : (rw_ rs k).length = L1 := x3.rd.1
      have hLL := HR.out k hlt
      obtain ⟨p, q, rfl, -⟩ := x3.rd.2 (by omega)
      have HRD := Lib.hid x3.rd
      have hL1 : 0 < L1 ∧ L1 ≤ 100 := by omega
      have HTK : Hid (rs.take (k + 1) = rs.take k ++ [rw_ rs k]) := take_row (by rw [HLn.out]; exact hlt)
      obtain ⟨A9, c9, rfl⟩ := HO.out.form
      have m1 := HM.out.c 1 rfl
      have p1 := HM.out.f 1
      have xl := cell_lt x1
      have CC : Hid (∀ W, Below wr.heap.size wr W → Calls Tryz.prog 69 #[.slice (some ⟨p, q, none⟩) L1 C1] W (SlAns W L1 (rw_ rs k))) := fun W hW => sInts_any p q L1 C1 (rw_ rs k) W (HRD.out.below hW) hL1.1 (by omega)
      clear x3 hL hLL HRD
      go_wp2_with fail
      go_region_law (first
        | (refine step_append_owne ety_rows _ rfl _ _ rfl W0.heap.size (.slice A9 k c9) k _ wr.heap.size rfl (O2.out.below (blAlloc _ _)) [Dat.ints .i64 (rw_ rs k)] (fun _ => .slice G L1 cq) _ _ ((OwnX.one OW2.out).below (blAlloc _ _)) w2.heap.size 1 rfl AE.out (fun _ _ => rfl) (by omega) (by simp only [World.size_drew]; omega) (by simp) hsz (by have := B2.out.size; simp; omega) ?_; intro A' c' w4 ho4 hb4; have M4 := Lib.hid ((M2.out.alloc _).low hb4 (by omega)); have m41 := M4.out.c 1 rfl; have p41 := M4.out.f 1; have ml4 := M4.out.lt)
        | (go_simp; go_at_call 69; (with_reducible refine (CC.out _ (by first | exact Below.refl _ _ | exact (Below.refl _ _).drew | exact below_drewN _ _ _)).mono ?_); rintro e w2 ⟨G, cq, rfl, how, hb2⟩; have B2 := Lib.hid (blThen (by first | exact Below.refl _ _ | exact (Below.refl _ _).drew | exact below_drewN _ _ _) hb2 : Below wr.heap.size wr w2); have OW2 := Lib.hid how; have O2 := Lib.hid (HO.out.below B2.out); have M2 := Lib.hid (HM.out.bel B2.out); have A2 := Lib.hid (HA.out.bel B2.out); have HQ2 := Lib.hid (HQ.out.bel B2.out); have AE : Hid (∀ j, j < 1 → (w2.alloc (.cells #[.slice G L1 cq] 25)).cell? ⟨w2.heap.size, j, none⟩ = some (.slice G L1 cq)) := (fun j hj => by rw [show j = 0 from (by omega)]; exact (Bx.new w2 #[.slice G L1 cq] 25 rfl).c 0 rfl); have n12 := M2.out.c 1 rfl; have nl2 := M2.out.lt; have a02 := A2.out.c 1 rfl; have al2 := A2.out.lt; have x12 := cell_later B2.out x1; have xl2 := cell_lt x12; clear how hb2))
      all_goals
        have e1 : ((rs.take (k + 1)).map fun r => [Dat.ints .i64 r]) = ((rs.take k).map fun r => [Dat.ints .i64 r]) ++ [[Dat.ints .i64 (rw_ rs k)]] := by rw [HTK.out, List.map_append]; rfl
        have T4 := Lib.hid (show Below w.heap.size w w4 from (blThen HT.out (blThenAlloc B2.out _)).trans (hb4.mono (by omega)))
        have HA4 := Lib.hid ((A2.out.alloc _).low hb4 (by omega))
        have HQ4 := Lib.hid ((HQ2.out.alloc _).low hb4 (by omega))
        have HO4 := Lib.hid ho4
        have HE1 := Lib.hid e1
        have HSW := Lib.hid (show W0.heap.size ≤ w4.heap.size from by have a1 := hb4.size; have a2 := B2.out.size; simp only [World.size_alloc] at a1; omega)
        clear ho4 hb4 e1
        try go_wp2_with fail
        go_roundw
        case rel =>
          refine ⟨k + 1, .slice A' (k + 1) c', by omega, by go_num, ?_, M4.out.set 1 _, HA4.out.oth (c := (w.heap.size + 1 + 1)) (by omega) _ _, ?_, ?_, HQ4.out.oth (c := (w.heap.size + 1 + 1)) (by omega) _ _⟩
          · show OwnE _ _ _ _ _ _ _ _
            rw [HE1.out]
            simp only [setSize]
            exact HO4.out.set (.inl (by omega)) _ _
          · exact T4.out.setCell (by simp; omega) _
          · simp only [setSize]; exact HSW.out
        case measure => simp [intOf]; omega
    · obtain rfl : k = n := by omega
      obtain ⟨B, d, rfl⟩ := HO.out.form
      have HF := Lib.hid (show Own wr (rowsD rs) (.slice B k d) W0.heap.size wr.heap.size from by
        have := HO.out.own (by omega)
        rw [List.take_of_length_le (by rw [HLn.out]; exact Nat.le_refl _)] at this
        exact this)
      have r0 := HQ.out.c 0 rfl
      have q0 := HQ.out.f 0
      have m0 := HM.out.c 0 rfl
      have r1 := HQ.out.c 1 rfl
      have q1 := HQ.out.f 1
      have m1 := HM.out.c 1 rfl
      have rl := HQ.out.lt
      clear HO HM
      go_wp2_with fail
      have KK := ((HQ.out.set 0 (.int .i64 sd))).set 1 (.slice B k d)
      have k0 := KK.c 0 rfl
      have k1 := KK.c 1 rfl
      clear KK
      refine bodyPost_ret (v := .agg #[.int .i64 sd, .slice B k d]) (by simp [results, Tryz.results101, go_sem, k0, k1]) rfl ⟨B, d, rfl, ?_, ?_⟩
      · refine Own.mono (lo := W0.heap.size) (hi := wr.heap.size) ?_ (by omega) (by simp only [setSize]; exact Nat.le_refl _)
        repeat (refine Own.set ?_ (.inl (by omega)) _ _)
        exact HF.out
      · repeat (refine Below.setCell ?_ (by simp; try omega) _)
        exact HT.out
end Go.Proofs.YtdjifaaofefpoaaGreat
