/-
  SameEverywhere, by the reference model.
-/
import Derived.Test.YtdjifaaofefpoaaGreatSevA
namespace Go.Proofs.YtdjifaaofefpoaaGreat
open Go.RowKit Go.Maps
set_option linter.unusedVariables false
set_option linter.unusedSimpArgs false

theorem sev_n1 {ts us : List Stg} {xs : List Int} (h : chC ts xs ≠ 0) : sevV ts us xs = false := by unfold sevV svV; simp [h]
theorem sev_n2 {ts us : List Stg} {xs : List Int} (h : chC us xs ≠ 0) : sevV ts us xs = false := by unfold sevV svV; simp [h]
theorem sev_y {ts us : List Stg} {xs : List Int} (h : chC ts xs = 0) (h' : chC us xs = 0) : sevV ts us xs = (sameI (ev3 1 ts xs ts.length) (ev3 1 us xs us.length) && sameI (ev3 256 ts xs ts.length) (ev3 256 us xs us.length)) := by
  unfold sevV svV
  rw [chL_3 h, chL_3 h', chL_3 h, chL_3 h', h, h']
  simp
set_option maxRecDepth 100000 in
set_option maxHeartbeats 4000000 in
theorem sSameEverywhere_any (A : Option Addr) (n c : Nat) (ts : List Stg) (bs : List Nat) (A' : Option Addr) (n' c' : Nat) (us : List Stg) (bs' : List Nat) (P : Option Addr) (m d : Nat) (xs : List Int) (gs : List Nat) (w : World)
    (h : Hd w (chD ts) (.slice A n c) bs) (h' : Hd w (chD us) (.slice A' n' c') bs') (hp : Hd w (.ints .i64 xs) (.slice P m d) gs) :
    Calls Tryz.prog 23 #[.agg #[.slice A n c], .agg #[.slice A' n' c'], .slice P m d] w fun e w' => e = .returned (.bool (sevV ts us xs)) ∧ Below w.heap.size w w' := by
  obtain ⟨W0, hW0⟩ : ∃ W0, W0 = (w.alloc (.cells #[.slice A n c] 32)).alloc (.cells #[.slice A' n' c'] 32) := ⟨_, rfl⟩
  have H : Hid (Hd W0 (chD ts) (.slice A n c) bs) := by show Hd _ _ _ _; rw [hW0]; exact (h.alloc _).alloc _
  have H' : Hid (Hd W0 (chD us) (.slice A' n' c') bs') := by show Hd _ _ _ _; rw [hW0]; exact (h'.alloc _).alloc _
  have HP : Hid (Hd W0 (.ints .i64 xs) (.slice P m d) gs) := by show Hd _ _ _ _; rw [hW0]; exact (hp.alloc _).alloc _
  have T0 : Hid (Below w.heap.size w W0) := by show Below _ _ _; rw [hW0]; exact blThenAlloc (blAlloc _ _) _
  have x0 : Hid (W0.cell? ⟨w.heap.size, 0, none⟩ = some (.slice A n c)) := by show _ = _; rw [hW0]; exact ((Bx.new w #[.slice A n c] 32 rfl).alloc _).c 0 rfl
  have x1 : Hid (W0.cell? ⟨w.heap.size + 1, 0, none⟩ = some (.slice A' n' c')) := by show _ = _; rw [hW0]; exact (Bx.new (w.alloc (.cells #[.slice A n c] 32)) #[.slice A' n' c'] 32 (b := w.heap.size + 1) (by simp)).c 0 rfl
  have HW := Lib.hid hW0
  have CA : Hid (∀ W, Below W0.heap.size W0 W → Calls Tryz.prog 26 #[.pointer (some ⟨w.heap.size, 0, none⟩), .slice P m d] W fun e w' => e = .returned (.int .i64 (chC ts xs)) ∧ ∃ m, w' = W.drewN m) := fun W hW => sAsked_any _ 0 A n c ts bs P m d xs gs W (H.out.bel hW) (cell_later hW x0.out) (HP.out.bel hW)
  have CB : Hid (∀ W, Below W0.heap.size W0 W → Calls Tryz.prog 26 #[.pointer (some ⟨w.heap.size + 1, 0, none⟩), .slice P m d] W fun e w' => e = .returned (.int .i64 (chC us xs)) ∧ ∃ m, w' = W.drewN m) := fun W hW => sAsked_any _ 0 A' n' c' us bs' P m d xs gs W (H'.out.bel hW) (cell_later hW x1.out) (HP.out.bel hW)
  clear h h' hp hW0
  by_cases h0 : chC ts xs = 0
  · by_cases h1 : chC us xs = 0
    · have HV := Lib.hid (sev_y h0 h1)
      obtain rfl : 3 = m := by rw [← (lfo_zero (chC_zero h0).2).1]; exact HP.out.rd.1
      have hl := H.out.stgs.1
      have hl' := H'.out.stgs.1
      rw [hl, hl'] at HV
      have C1 : Hid (∀ W, Below W0.heap.size W0 W → Calls Tryz.prog 45 #[.pointer (some ⟨w.heap.size, 0, none⟩), .slice P 3 d] W (SlAns W 3 (ev3 1 ts xs n))) := fun W hW => sChain6_any _ 0 A n c ts bs P d xs W (H.out.bel hW) (cell_later hW x0.out) (HP.out.bel hW).rd h0
      have C2 : Hid (∀ W, Below W0.heap.size W0 W → Calls Tryz.prog 45 #[.pointer (some ⟨w.heap.size + 1, 0, none⟩), .slice P 3 d] W (SlAns W 3 (ev3 1 us xs n'))) := fun W hW => sChain6_any _ 0 A' n' c' us bs' P d xs W (H'.out.bel hW) (cell_later hW x1.out) (HP.out.bel hW).rd h1
      have C3 : Hid (∀ W, Below W0.heap.size W0 W → Calls Tryz.prog 46 #[.pointer (some ⟨w.heap.size, 0, none⟩), .slice P 3 d] W (SlAns W 3 (ev3 256 ts xs n))) := fun W hW => sFineChain_any0 _ 0 A n c ts bs P d xs W (H.out.bel hW) (cell_later hW x0.out) (HP.out.bel hW).rd h0
      have C4 : Hid (∀ W, Below W0.heap.size W0 W → Calls Tryz.prog 46 #[.pointer (some ⟨w.heap.size + 1, 0, none⟩), .slice P 3 d] W (SlAns W 3 (ev3 256 us xs n'))) := fun W hW => sFineChain_any0 _ 0 A' n' c' us bs' P d xs W (H'.out.bel hW) (cell_later hW x1.out) (HP.out.bel hW).rd h1
      rw [h0] at CA
      rw [h1] at CB
      obtain ⟨E1, hE1⟩ : ∃ E, E = ev3 1 ts xs n := ⟨_, rfl⟩
      obtain ⟨E2, hE2⟩ : ∃ E, E = ev3 1 us xs n' := ⟨_, rfl⟩
      obtain ⟨E3, hE3⟩ : ∃ E, E = ev3 256 ts xs n := ⟨_, rfl⟩
      obtain ⟨E4, hE4⟩ : ∃ E, E = ev3 256 us xs n' := ⟨_, rfl⟩
      rw [← hE1] at C1 HV
      rw [← hE2] at C2 HV
      rw [← hE3] at C3 HV
      rw [← hE4] at C4 HV
      obtain ⟨b1, hb1⟩ : ∃ b, b = sameI E1 E2 := ⟨_, rfl⟩
      rw [HV.out, ← hb1]
      have HB1 := Lib.hid hb1
      clear hE1 hE2 hE3 hE4 hl hl' h0 h1 HV hb1
      cases b1
      · go_enter Tryz.func23, Tryz.ntmps23
        go_wp2_with fail
        rw [← HW.out]
        clear HW
        refine (CA.out _ (Below.refl _ _)).mono ?_
        rintro e w1 ⟨rfl, m1, rfl⟩
        go_wp2_with fail
        refine (CB.out _ (below_drewN _ _ _)).mono ?_
        rintro e w1 ⟨rfl, m2, rfl⟩
        go_wp2_with fail
        refine (C1.out _ (below_drewN _ _ _)).mono ?_
        rintro e w1 ⟨G1, k1, rfl, ho, hb⟩
        have TA := Lib.hid (blThen (below_drewN W0.heap.size (m1 + m2) W0) hb)
        have O1 := Lib.hid ho
        clear ho hb
        go_wp2_with fail
        refine (C2.out _ TA.out).mono ?_
        rintro e w2 ⟨G2, k2, rfl, ho, hb⟩
        have TB := Lib.hid (blThen TA.out hb)
        have O2 := Lib.hid ho
        have O1b := Lib.hid (O1.out.below hb)
        clear ho hb
        have CS : Hid (∀ W, Below w2.heap.size w2 W → Calls Tryz.prog 44 #[.slice G1 3 k1, .slice G2 3 k2] W fun e w' => e = .returned (.bool false) ∧ ∃ m, w' = W.drewN m) := fun W hW => by rw [HB1.out]; exact sSame_any _ _ _ _ _ _ _ _ _ (O1b.out.below hW).hd.choose_spec.rd (O2.out.below hW).hd.choose_spec.rd (by unfold maxLen; omega) (by unfold maxLen; omega)
        go_wp2_with fail
        refine (CS.out _ (Below.refl _ _)).mono ?_
        rintro e w3 ⟨rfl, m3, rfl⟩
        go_wp2_with fail
        go_ret
        exact ⟨rfl, blThenDrew (blThen T0.out TB.out) _⟩
      · go_enter Tryz.func23, Tryz.ntmps23
        go_wp2_with fail
        rw [← HW.out]
        clear HW
        refine (CA.out _ (Below.refl _ _)).mono ?_
        rintro e w1 ⟨rfl, m1, rfl⟩
        go_wp2_with fail
        refine (CB.out _ (below_drewN _ _ _)).mono ?_
        rintro e w1 ⟨rfl, m2, rfl⟩
        go_wp2_with fail
        refine (C1.out _ (below_drewN _ _ _)).mono ?_
        rintro e w1 ⟨G1, k1, rfl, ho, hb⟩
        have TA := Lib.hid (blThen (below_drewN W0.heap.size (m1 + m2) W0) hb)
        have O1 := Lib.hid ho
        clear ho hb
        go_wp2_with fail
        refine (C2.out _ TA.out).mono ?_
        rintro e w2 ⟨G2, k2, rfl, ho, hb⟩
        have TB := Lib.hid (blThen TA.out hb)
        have O2 := Lib.hid ho
        have O1b := Lib.hid (O1.out.below hb)
        clear ho hb
        have CS : Hid (∀ W, Below w2.heap.size w2 W → Calls Tryz.prog 44 #[.slice G1 3 k1, .slice G2 3 k2] W fun e w' => e = .returned (.bool true) ∧ ∃ m, w' = W.drewN m) := fun W hW => by rw [HB1.out]; exact sSame_any _ _ _ _ _ _ _ _ _ (O1b.out.below hW).hd.choose_spec.rd (O2.out.below hW).hd.choose_spec.rd (by unfold maxLen; omega) (by unfold maxLen; omega)
        go_wp2_with fail
        refine (CS.out _ (Below.refl _ _)).mono ?_
        rintro e w3 ⟨rfl, m3, rfl⟩
        go_wp2_with fail
        refine (C3.out _ (blThenDrew TB.out _)).mono ?_
        rintro e w4 ⟨G3, k3, rfl, ho, hb⟩
        have TC := Lib.hid (blThen (blThenDrew TB.out m3) hb)
        have O3 := Lib.hid ho
        clear ho hb
        go_wp2_with fail
        refine (C4.out _ TC.out).mono ?_
        rintro e w5 ⟨G4, k4, rfl, ho, hb⟩
        have TD := Lib.hid (blThen TC.out hb)
        have O4 := Lib.hid ho
        have O3b := Lib.hid (O3.out.below hb)
        clear ho hb
        go_wp2_with fail
        refine (sSame_any _ _ _ _ _ _ E3 E4 _ O3b.out.hd.choose_spec.rd O4.out.hd.choose_spec.rd (by unfold maxLen; omega) (by unfold maxLen; omega)).mono ?_
        rintro e w6 ⟨rfl, m6, rfl⟩
        go_wp2_with fail
        go_ret
        exact ⟨rfl, blThenDrew (blThen T0.out TD.out) _⟩
    · have HV := Lib.hid (sev_n2 (ts := ts) h1)
      rw [HV.out]
      rw [h0] at CA
      obtain ⟨f, hf⟩ : ∃ f, chC us xs = f := ⟨_, rfl⟩
      rw [hf] at h1 CB
      have hqn : (f == 0) = false := by simpa using h1
      clear hf HV h0
      go_enter Tryz.func23, Tryz.ntmps23
      go_wp2_with fail
      rw [← HW.out]
      clear HW
      refine (CA.out _ (Below.refl _ _)).mono ?_
      rintro e w1 ⟨rfl, m1, rfl⟩
      go_wp2_with fail
      refine (CB.out _ (below_drewN _ _ _)).mono ?_
      rintro e w1 ⟨rfl, m2, rfl⟩
      go_wp2_with fail
      go_ret
      exact ⟨rfl, blThenDrew T0.out _⟩
  · have HV := Lib.hid (sev_n1 (us := us) h0)
    rw [HV.out]
    obtain ⟨f, hf⟩ : ∃ f, chC ts xs = f := ⟨_, rfl⟩
    rw [hf] at h0 CA
    have hqn : (f == 0) = false := by simpa using h0
    clear hf HV
    go_enter Tryz.func23, Tryz.ntmps23
    go_wp2_with fail
    rw [← HW.out]
    clear HW
    refine (CA.out _ (Below.refl _ _)).mono ?_
    rintro e w1 ⟨rfl, m1, rfl⟩
    go_wp2_with fail
    go_ret
    exact ⟨rfl, blThenDrew T0.out _⟩
end Go.Proofs.YtdjifaaofefpoaaGreat
