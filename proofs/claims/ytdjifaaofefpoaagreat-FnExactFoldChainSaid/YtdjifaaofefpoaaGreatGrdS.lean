/-
  Grids that are compared: the program's SameGrids, the model's SameGrids.
-/
import Derived.Test.YtdjifaaofefpoaaGreatMatEF
import Derived.Test.YtdjifaaofefpoaaGreatHelpA
namespace Go.Proofs.YtdjifaaofefpoaaGreat
open Go.RowKit
set_option linter.unusedVariables false

def sameG (sd sd' : Int) (rs us : Rws) : Bool := decide (sd = sd') && sameM rs us
theorem sameG_eq (sd : Int) (rs us : Rws) : sameG sd sd rs us = sameM rs us := by simp [sameG]
theorem sameG_ne {sd sd' : Int} (h : sd ≠ sd') (rs us : Rws) : sameG sd sd' rs us = false := by simp [sameG, h]
set_option maxRecDepth 100000 in
set_option maxHeartbeats 2000000 in
theorem SameGrids_any (A A' : Option Addr) (n n' c c' : Nat) (sd sd' : Int) (rs us : Rws) (bs bs' : List Nat) (w : World) (h : Hd w (rowsD rs) (.slice A n c) bs) (h' : Hd w (rowsD us) (.slice A' n' c') bs') :
    Calls Tryz.prog 149 #[.agg #[.int .i64 sd, .slice A n c], .agg #[.int .i64 sd', .slice A' n' c']] w fun e w' => e = .returned (.bool (sameG sd sd' rs us)) ∧ Below w.heap.size w w' := by
  have H := Lib.hid h
  have H' := Lib.hid h'
  clear h h'
  by_cases e : sd = sd'
  · subst e
    have HS := Lib.hid (sameG_eq sd rs us)
    go_enter Tryz.func149, Tryz.ntmps149
    go_wp2_with fail
    refine (equalRows_any _ _ _ _ _ _ rs us _ _ _ ((H.out.alloc _).alloc _) ((H'.out.alloc _).alloc _)).mono ?_
    rintro e w' ⟨rfl, m, rfl⟩
    go_wp2_with fail
    go_ret
    exact ⟨ret_bool HS.out.symm, blThenDrew (blThenAlloc (blAlloc _ _) _) _⟩
  · have HS := Lib.hid (sameG_ne e rs us)
    have he : (sd == sd') = false := by simpa using e
    go_enter Tryz.func149, Tryz.ntmps149
    go_wp2
    go_ret
    exact ⟨ret_bool HS.out.symm, blThenAlloc (blAlloc _ _) _⟩
set_option maxRecDepth 100000 in
set_option maxHeartbeats 2000000 in
theorem sSameGrids_any (A A' : Option Addr) (n n' c c' : Nat) (sd sd' : Int) (rs us : Rws) (bs bs' : List Nat) (w : World) (h : Hd w (rowsD rs) (.slice A n c) bs) (h' : Hd w (rowsD us) (.slice A' n' c') bs') :
    Calls Tryz.prog 98 #[.agg #[.int .i64 sd, .slice A n c], .agg #[.int .i64 sd', .slice A' n' c']] w fun e w' => e = .returned (.bool (sameG sd sd' rs us)) ∧ Below w.heap.size w w' := by
  have hl := h.rows.1
  have hl' := h'.rows.1
  obtain ⟨-, hc1, hc2, -⟩ := h.rows
  obtain ⟨-, hc1', hc2', -⟩ := h'.rows
  unfold maxLen at hc2 hc2'
  by_cases es : sd = sd'
  · subst es
    by_cases en : n = n'
    · subst en
      have HL := Lib.hid hl
      have HL' := Lib.hid hl'
      have HG := Lib.hid (sameG_eq sd rs us)
      obtain ⟨W0, hW0⟩ : ∃ W0, W0 = (w.alloc (.cells #[.int .i64 sd, .slice A n c] 96)).alloc (.cells #[.int .i64 sd, .slice A' n c'] 96) := ⟨_, rfl⟩
      have xa : W0.cell? ⟨w.heap.size, 1, none⟩ = some (.slice A n c) := by rw [hW0]; exact cell_later (blAlloc _ _) (by simp)
      have xb : W0.cell? ⟨w.heap.size + 1, 1, none⟩ = some (.slice A' n c') := by rw [hW0, newCell _ _ _ _ _ (by simp)]; rfl
      have H : Hid (Hd W0 (rowsD rs) (.slice A n c) bs) := by show Hd _ _ _ _; rw [hW0]; exact (h.alloc _).alloc _
      have H' : Hid (Hd W0 (rowsD us) (.slice A' n c') bs') := by show Hd _ _ _ _; rw [hW0]; exact (h'.alloc _).alloc _
      have T : Hid (Below w.heap.size w W0) := by show Below _ _ _; rw [hW0]; exact blThenAlloc (blAlloc _ _) _
      clear h h' hl hl'
      go_enter Tryz.func98, Tryz.ntmps98
      go_wp2
      rw [← hW0]
      clear hW0
      go_loopw [5] (fun i wr => ∃ k m : Nat, k ≤ n ∧ i = .int .i64 k ∧ Hid (∀ j, j < k → sameI (rw_ rs j) (rw_ us j) = true) ∧ wr = W0.drewN m) (fun i _ => n - (intOf i).toNat)
      case atStart => exact ⟨0, 0, by omega, rfl, fun j hj => absurd hj (by omega), rfl⟩
      case round =>
        obtain ⟨k, m, hk, rfl, hsk, rfl⟩ := hrel
        by_cases hlt : k < n
        · obtain ⟨b, o, B1, L1, C1, g1, rfl, x1, x3, -⟩ := H.out.row hlt
          obtain ⟨b', o', B2, L2, C2, g2, rfl, y1, y3, -⟩ := H'.out.row hlt
          have R1 := Lib.hid x3.rd
          have R2 := Lib.hid y3.rd
          have l1 := Lib.hid (Nat.le_trans x3.caps.1 x3.caps.2)
          have l2 := Lib.hid (Nat.le_trans y3.caps.1 y3.caps.2)
          clear x3 y3
          rcases Bool.eq_false_or_eq_true (sameI (rw_ rs k) (rw_ us k)) with hs | hs
          · have HK : Hid (∀ j, j < k + 1 → sameI (rw_ rs j) (rw_ us j) = true) := fun j hj => by
              by_cases e : j = k
              · subst e; exact hs
              · exact hsk.out j (by omega)
            have CT : Hid (∀ W, Below W0.heap.size W0 W → Calls Tryz.prog 44 #[.slice B1 L1 C1, .slice B2 L2 C2] W fun e w' => e = .returned (.bool true) ∧ ∃ m, w' = W.drewN m) := fun W hW => by rw [← hs]; exact sSame_any _ _ _ _ _ _ _ _ _ (R1.out.below hW) (R2.out.below hW) l1.out l2.out
            clear hs
            go_wp2_with fail
            go_quiet ((go_at_call 44; first | exact Calls.quiet_of (CT.out _ (below_drewN _ _ _)) | exact quietAD' (CT.out _ (below_drewN _ _ _))))
            go_wp2_with fail
            go_roundw
            case rel => exact ⟨k + 1, _, by omega, by go_num, HK, rfl⟩
            case measure => simp [intOf]; omega
          · have HK := Lib.hid (sameM_at hs)
            have CT : Hid (∀ W, Below W0.heap.size W0 W → Calls Tryz.prog 44 #[.slice B1 L1 C1, .slice B2 L2 C2] W fun e w' => e = .returned (.bool false) ∧ ∃ m, w' = W.drewN m) := fun W hW => by rw [← hs]; exact sSame_any _ _ _ _ _ _ _ _ _ (R1.out.below hW) (R2.out.below hW) l1.out l2.out
            clear hs
            go_wp2_with fail
            go_quiet ((go_at_call 44; first | exact Calls.quiet_of (CT.out _ (below_drewN _ _ _)) | exact quietAD' (CT.out _ (below_drewN _ _ _))))
            go_wp2_with fail
            go_ret
            exact ⟨ret_bool (HG.out.trans HK.out).symm, (T.out.trans (below_drewN _ _ _)).trans (below_drewN _ _ _)⟩
        · obtain rfl : k = n := by omega
          have HK := Lib.hid (sameM_all HL.out HL'.out hsk.out)
          clear hsk
          go_wp2
          go_ret
          exact ⟨ret_bool (HG.out.trans HK.out).symm, T.out.trans (below_drewN _ _ _)⟩
    · have HS : Hid (sameG sd sd rs us = false) := (sameG_eq sd rs us).trans (sameM_len (by omega))
      have he : ((n : Int) == (n' : Int)) = false := by simp; omega
      clear h h' hl hl'
      go_enter Tryz.func98, Tryz.ntmps98
      go_wp2
      go_ret
      exact ⟨ret_bool HS.out.symm, blThenAlloc (blAlloc _ _) _⟩
  · have HS := Lib.hid (sameG_ne es rs us)
    have he : (sd == sd') = false := by simpa using es
    clear h h' hl hl'
    go_enter Tryz.func98, Tryz.ntmps98
    go_wp2
    go_ret
    exact ⟨ret_bool HS.out.symm, blThenAlloc (blAlloc _ _) _⟩
end Go.Proofs.YtdjifaaofefpoaaGreat
