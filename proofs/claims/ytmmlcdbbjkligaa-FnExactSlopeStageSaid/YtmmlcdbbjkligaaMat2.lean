/-
  Matrices: the program's MatrixFault, lightsOf; the model's l4Fault, MatrixFault, l4Levels.
-/
import Derived.Test.YtmmlcdbbjkligaaMat1
import Derived.Test.YtmmlcdbbjkligaaMatC
namespace Go.Proofs.Ytmmlcdbbjkligaa
open Go.RowKit
set_option linter.unusedVariables false

set_option maxHeartbeats 1000000 in
theorem MatrixFault_any (A : Option Addr) (n c : Nat) (rs : Rws) (bs : List Nat) (w : World) (h : Hd w (rowsD rs) (.slice A n c) bs) :
    Calls Try.prog 197 #[.agg #[.slice A n c]] w fun e w' => e = .returned (.int .i64 (mf rs)) ∧ Below w.heap.size w w' := by
  have H := Lib.hid h
  clear h
  go_enter Try.func197, Try.ntmps197
  go_wp2_with fail
  refine (cellsOf_any _ _ _ rs _ _ (H.out.alloc _)).mono ?_
  rintro e w1 ⟨q, rfl, -, hb⟩
  have T := Lib.hid (blThen (blAlloc w _) hb)
  clear hb
  go_wp2_with fail
  go_ret
  exact ⟨rfl, blThenAlloc T.out _⟩
def LtsAns (o : Int) (w : World) (xs : List Int) (e : Ending) (w' : World) : Prop :=
  ∃ q : Nat → Int, e = .returned (.tuple #[.agg #[.int .i64 (q 0), .int .i64 (q 1), .int .i64 (q 2)], .int .i64 (lfo o xs)]) ∧ (lfo o xs = 0 → ∀ t, t < 3 → q t = xs.getD t 0) ∧ Below w.heap.size w w'
set_option maxRecDepth 100000 in
set_option maxHeartbeats 1000000 in
theorem lightsOf_k (o : Int) (ho : One o) (A : Option Addr) (n c : Nat) (xs : List Int) (w : World) (h : Rd .i64 w A n xs) (hcap : n ≤ c) (hm : c ≤ maxLen) :
    Calls Try.prog 83 #[.slice A n c, .int .i64 o] w (LtsAns o w xs) := by
  unfold maxLen at hm
  have H := Lib.hid h
  have hl := h.1
  clear h
  by_cases hn : n = 3
  · subst hn
    have HL := Lib.hid hl
    clear hl
    go_enter Try.func83, Try.ntmps83
    go_wp2_with fail
    obtain ⟨b, oo, rfl, hx⟩ := H.out.2 (by omega)
    have HX := Lib.hid hx
    clear hx
    go_loopw [14] (fun x wr => ∃ k : Nat, k ≤ 3 ∧ x = .int .i64 k ∧ (∀ j, j < k → inB (xs.getD j 0) 0 (65535 * o) = true) ∧ wr = w.alloc (.cells #[.int .i64 0, .int .i64 0, .int .i64 0] 137)) (fun x _ => 3 - (intOf x).toNat)
    case atStart => exact ⟨0, by omega, rfl, fun j hj => absurd hj (by omega), rfl⟩
    case round =>
      obtain ⟨k, hk, rfl, hcs, rfl⟩ := hrel
      by_cases hlk : k < 3
      · have y1 := HX.out k hlk
        obtain ⟨v, hv⟩ : ∃ v, v = xs.getD k 0 := ⟨_, rfl⟩
        rw [← hv] at y1
        have hbl := cell_lt y1
        by_cases hce : inB v 0 (65535 * o) = true
        · have HCS : Hid (∀ j, j < k + 1 → inB (xs.getD j 0) 0 (65535 * o) = true) := fun j hj => by
            by_cases e : j = k
            · subst e; rw [← hv]; exact hce
            · exact hcs j (by omega)
          have CC : Hid (∀ W, Calls Try.prog 127 #[.int .i64 v, .int .i64 o] W fun e w' => e = .returned (.int .i64 v) ∧ W = w') := fun W => by
            have hb := inB_iff.1 hce
            have := clamp_any v o ho W
            rw [clk_in hb.1 hb.2] at this
            exact this
          clear hcs hv
          go_wp2_with (go_at_call 127; refine (CC.out _).mono ?_; rintro e w' ⟨rfl, rfl⟩)
          go_roundw
          case rel => exact ⟨k + 1, by omega, by go_num, HCS.out, by first | rfl | trivial⟩
          case measure => simp [intOf]; omega
        · have hce' : inB v 0 (65535 * o) = false := by simpa using hce
          have HM : Hid (lfo o xs = 3) := lfo_bad HL.out hlk (by rw [← hv]; exact hce')
          obtain ⟨x, hx⟩ : ∃ x, clk o v = x := ⟨_, rfl⟩
          have hne : ¬ v = x := fun e => by
            have := clk_bd ho v
            rw [hx, ← e] at this
            rw [inB_iff.2 this] at hce'
            cases hce'
          have hvx : (v != x) = true := by simpa using hne
          have hvx2 : (v == x) = false := by simpa using hne
          have CC : Hid (∀ W, Calls Try.prog 127 #[.int .i64 v, .int .i64 o] W fun e w' => e = .returned (.int .i64 x) ∧ W = w') := fun W => by
            have := clamp_any v o ho W
            rw [hx] at this
            exact this
          clear hcs hv hce hce' hx hne
          go_wp2_with (go_at_call 127; refine (CC.out _).mono ?_; rintro e w' ⟨rfl, rfl⟩)
          refine bodyPost_ret (v := .tuple #[.agg #[.int .i64 0, .int .i64 0, .int .i64 0], .int .i64 3]) (by simp [results, Try.results83, go_sem]) rfl ⟨fun _ => 0, by rw [HM.out], fun e => by rw [HM.out] at e; omega, ?_⟩
          repeat (refine Below.setCell ?_ (by simp) _)
          exact blAlloc _ _
      · obtain rfl : k = 3 := by omega
        have HM := Lib.hid (lfo_ok HL.out hcs)
        have y0 := HX.out 0 (by omega)
        have y1 := HX.out 1 (by omega)
        have y2 := HX.out 2 (by omega)
        have hbl := cell_lt y0
        rw [Nat.add_zero] at y0
        obtain ⟨v0, e0⟩ : ∃ v, v = xs.getD 0 0 := ⟨_, rfl⟩
        obtain ⟨v1, e1⟩ : ∃ v, v = xs.getD 1 0 := ⟨_, rfl⟩
        obtain ⟨v2, e2⟩ : ∃ v, v = xs.getD 2 0 := ⟨_, rfl⟩
        rw [← e0] at y0
        rw [← e1] at y1
        rw [← e2] at y2
        have HE : Hid (∀ t, t < 3 → (fun t => if t = 0 then v0 else if t = 1 then v1 else v2) t = xs.getD t 0) := fun t ht => by
          match t, ht with
          | 0, _ => exact e0
          | 1, _ => exact e1
          | 2, _ => exact e2
        clear hcs e0 e1 e2
        have hat : ∀ W, (Instr.arrayAt 137 (.slice (some ⟨b, oo, none⟩) 3 c)).run Try.prog W = .ok (.pointer (some ⟨b, oo, none⟩)) W := fun W => by kernel_rfl
        go_wp2_with fail
        refine bodyPost_ret (v := .tuple #[.agg #[.int .i64 v0, .int .i64 v1, .int .i64 v2], .int .i64 0]) (by simp [results, Try.results83, go_sem]) rfl ⟨fun t => if t = 0 then v0 else if t = 1 then v1 else v2, by rw [HM.out]; rfl, fun _ => HE.out, ?_⟩
        repeat (refine Below.setCell ?_ (by simp) _)
        exact blAlloc _ _
  · have HM := Lib.hid (lfo_len (o := o) (v := xs) (by omega))
    clear hl
    go_enter Try.func83, Try.ntmps83
    go_wp2_with fail
    refine bodyPost_ret (v := .tuple #[.agg #[.int .i64 0, .int .i64 0, .int .i64 0], .int .i64 2]) (by simp [results, Try.results83, go_sem]) rfl ⟨fun _ => 0, by rw [HM.out], fun e => by rw [HM.out] at e; omega, ?_⟩
    repeat (refine Below.setCell ?_ (by simp) _)
    exact blAlloc _ _
def LightsAns (w : World) (xs : List Int) (e : Ending) (w' : World) : Prop :=
  ∃ q : Nat → Int, e = .returned (.tuple #[.agg #[.int .i64 (q 0), .int .i64 (q 1), .int .i64 (q 2)], .int .i64 (lf xs)]) ∧ (lf xs = 0 → ∀ t, t < 3 → q t = xs.getD t 0) ∧ Below w.heap.size w w'
theorem lightsOf_any (A : Option Addr) (n c : Nat) (xs : List Int) (w : World) (h : Rd .i64 w A n xs) (hcap : n ≤ c) (hm : c ≤ maxLen) :
    Calls Try.prog 83 #[.slice A n c, .int .i64 1] w (LightsAns w xs) := lightsOf_k 1 (.inl rfl) A n c xs w h hcap hm

/-! ### the model's -/
set_option maxHeartbeats 1000000 in
theorem sFault4_any (g o : Nat) (A : Option Addr) (n c : Nat) (rs : Rws) (bs : List Nat) (w : World) (h : Hd w (rowsD rs) (.slice A n c) bs) (hg : w.cell? ⟨g, o, none⟩ = some (.slice A n c)) :
    Calls Try.prog 101 #[.pointer (some ⟨g, o, none⟩)] w fun e w' => e = .returned (.int .i64 (mf rs)) ∧ w = w' := by
  obtain ⟨hl, hc, hm, -⟩ := h.rows
  unfold maxLen at hm
  have H := Lib.hid h
  clear h
  by_cases hn : n = 3
  · subst hn
    have HL := Lib.hid hl
    clear hl hm
    go_enter Try.func101, Try.ntmps101
    go_wp2_with fail
    go_loop [3] (fun x => ∃ i : Nat, i ≤ 3 ∧ x = .int .i64 i ∧ (∀ j, j < i → rowF (rw_ rs j) = 0)) (fun x => 3 - (intOf x).toNat)
    case atStart => exact ⟨0, by omega, rfl, fun j hj => absurd hj (by omega)⟩
    case round =>
      obtain ⟨i, hi, rfl, hrows⟩ := hrel
      by_cases hlt : i < 3
      · obtain ⟨b, o', B1, L1, C1, g1, rfl, x1, x3, -⟩ := H.out.row hlt
        have hr1 := x3.rd
        have hcap := x3.caps.1
        have hm1 := x3.caps.2
        unfold maxLen at hm1
        by_cases hL : L1 = 3
        · subst hL
          have HR := Lib.hid hr1
          have HRW := Lib.hid hrows
          clear hrows hr1 x3
          go_wp2_with fail
          (try simp only [show decide ((i : Int) < 3) = true from decide_eq_true (by omega)])
          go_loop [4] (fun x => ∃ k : Nat, k ≤ 3 ∧ x = .int .i64 k ∧ (∀ j, j < k → cel ((rw_ rs i).getD j 0) = true)) (fun x => 3 - (intOf x).toNat)
          case atStart => exact ⟨0, by omega, rfl, fun j hj => absurd hj (by omega)⟩
          case round =>
            obtain ⟨k, hk, rfl, hcs⟩ := hrel
            by_cases hlk : k < 3
            · obtain ⟨b1, o1, rfl, hx⟩ := HR.out.2 (by omega)
              have y1 := hx k hlk
              clear hx
              obtain ⟨v, hv⟩ : ∃ v, v = (rw_ rs i).getD k 0 := ⟨_, rfl⟩
              rw [← hv] at y1
              by_cases hce : cel v = true
              · have HCS : Hid (∀ j, j < k + 1 → cel ((rw_ rs i).getD j 0) = true) := fun j hj => by
                  by_cases e : j = k
                  · subst e; rw [← hv]; exact hce
                  · exact hcs j (by omega)
                clear hcs hv
                go_wp2_with (go_at_call 140; refine (sIn4_any _ _).mono ?_; rintro e w' ⟨rfl, rfl⟩)
                go_round
                case rel => exact ⟨k + 1, by omega, by go_num, HCS.out⟩
                case measure => simp [intOf]; omega
              · have hce' : cel v = false := by simpa using hce
                have HM : Hid (mf rs = 3) := by
                  have e := rowF_bad (r := rw_ rs i) (HR.out.1) hlk (by rw [← hv]; exact hce')
                  show _ = _
                  rw [mf_row HL.out hlt HRW.out (by omega), e]
                clear hcs hv hce
                go_wp2_with (go_at_call 140; refine (sIn4_any _ _).mono ?_; rintro e w' ⟨rfl, rfl⟩)
                go_ret
                exact ⟨by rw [HM.out]; rfl, rfl⟩
            · obtain rfl : k = 3 := by omega
              have HOK := Lib.hid (rowF_ok HR.out.1 hcs)
              clear hcs
              go_wp2_with fail
              go_round
              case rel =>
                refine ⟨i + 1, by omega, by go_num, fun j hj => ?_⟩
                by_cases e : j = i
                · subst e; exact HOK.out
                · exact HRW.out j (by omega)
              case measure => simp [intOf]; omega
        · have HM : Hid (mf rs = 2) := by
            have e := rowF_len (r := rw_ rs i) (by rw [hr1.1]; exact hL)
            show _ = _
            rw [mf_row HL.out hlt hrows (by omega), e]
          clear hrows hr1 x3
          go_wp2_with fail
          go_ret
          exact ⟨by rw [HM.out]; rfl, rfl⟩
      · obtain rfl : i = 3 := by omega
        have HM := Lib.hid (mf_ok HL.out hrows)
        clear hrows
        go_wp2_with fail
        go_ret
        exact ⟨by rw [HM.out]; rfl, rfl⟩
  · have HM := Lib.hid (mf_len (rs := rs) (by omega))
    go_enter Try.func101, Try.ntmps101
    go_wp2_with fail
    go_ret
    exact ⟨by rw [HM.out]; rfl, rfl⟩
set_option maxHeartbeats 400000 in
theorem sLevels4_any (A : Option Addr) (n c : Nat) (xs : List Int) (w : World) (h : Rd .i64 w A n xs) (hcap : n ≤ c) (hm : c ≤ maxLen) :
    Calls Try.prog 86 #[.slice A n c] w fun e w' => e = .returned (.int .i64 (lf xs)) ∧ w = w' := by
  unfold maxLen at hm
  have H := Lib.hid h
  have hl := h.1
  clear h
  by_cases hn : n = 3
  · subst hn
    have HL := Lib.hid hl
    clear hl
    go_enter Try.func86, Try.ntmps86
    go_wp2_with fail
    obtain ⟨b, o, rfl, hx⟩ := H.out.2 (by omega)
    have HX := Lib.hid hx
    clear hx
    go_loop [3] (fun x => ∃ k : Nat, k ≤ 3 ∧ x = .int .i64 k ∧ (∀ j, j < k → inB (xs.getD j 0) 0 65535 = true)) (fun x => 3 - (intOf x).toNat)
    case atStart => exact ⟨0, by omega, rfl, fun j hj => absurd hj (by omega)⟩
    case round =>
      obtain ⟨k, hk, rfl, hcs⟩ := hrel
      by_cases hlk : k < 3
      · have y1 := HX.out k hlk
        obtain ⟨v, hv⟩ : ∃ v, v = xs.getD k 0 := ⟨_, rfl⟩
        rw [← hv] at y1
        by_cases hce : inB v 0 65535 = true
        · have HCS : Hid (∀ j, j < k + 1 → inB (xs.getD j 0) 0 65535 = true) := fun j hj => by
            by_cases e : j = k
            · subst e; rw [← hv]; exact hce
            · exact hcs j (by omega)
          clear hcs hv
          go_wp2_with (go_at_call 129; refine (sLevel_any _ _).mono ?_; rintro e w' ⟨rfl, rfl⟩)
          go_round
          case rel => exact ⟨k + 1, by omega, by go_num, HCS.out⟩
          case measure => simp [intOf]; omega
        · have hce' : inB v 0 65535 = false := by simpa using hce
          have HM : Hid (lf xs = 3) := lf_bad HL.out hlk (by rw [← hv]; exact hce')
          clear hcs hv hce
          go_wp2_with (go_at_call 129; refine (sLevel_any _ _).mono ?_; rintro e w' ⟨rfl, rfl⟩)
          go_ret
          exact ⟨by rw [HM.out]; rfl, rfl⟩
      · obtain rfl : k = 3 := by omega
        have HM := Lib.hid (lf_ok HL.out hcs)
        clear hcs
        go_wp2_with fail
        go_ret
        exact ⟨by rw [HM.out]; rfl, rfl⟩
  · have HM := Lib.hid (lf_len (v := xs) (by omega))
    clear hl
    go_enter Try.func86, Try.ntmps86
    go_wp2_with fail
    go_ret
    exact ⟨by rw [HM.out]; rfl, rfl⟩
end Go.Proofs.Ytmmlcdbbjkligaa
