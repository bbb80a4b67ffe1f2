/-
  Grids: the fault as a number; the reference model's fault (l5Side, l5Fault, GridFault).
-/
import Derived.Test.YtmmlcdbbjkligaaMat2
import Derived.Test.YtmmlcdbbjkligaaHelpG
namespace Go.Proofs.Ytmmlcdbbjkligaa
open Go.RowKit
set_option linter.unusedVariables false

/-- the first fault of the first i nodes. -/
def gfl (rs : Rws) : Nat → Int
  | 0 => 0
  | i + 1 => if gfl rs i = 0 then lf (rw_ rs i) else gfl rs i
def gf (sd : Int) (rs : Rws) : Int := if inB sd 2 4 = false then 3 else if (rs.length : Int) ≠ sd * sd * sd then 2 else gfl rs rs.length
theorem gfl_stay {rs : Rws} {i : Nat} (h : gfl rs i ≠ 0) : ∀ n, i ≤ n → gfl rs n = gfl rs i := by
  intro n hn
  induction n with
  | zero => obtain rfl : i = 0 := by omega
            rfl
  | succ n ih =>
    by_cases e : i = n + 1
    · subst e; rfl
    · have := ih (by omega)
      simp only [gfl]
      rw [this, if_neg h]
theorem gfl_first {rs : Rws} {i n : Nat} {c : Int} (h0 : gfl rs i = 0) (hf : lf (rw_ rs i) = c) (hc : c ≠ 0) (hi : i < n) : gfl rs n = c := by
  have h1 : gfl rs (i + 1) = c := by simp only [gfl]; rw [if_pos h0, hf]
  rw [gfl_stay (by rw [h1]; exact hc) n (by omega), h1]
theorem gfl_on {rs : Rws} {i : Nat} (h0 : gfl rs i = 0) (hf : lf (rw_ rs i) = 0) : gfl rs (i + 1) = 0 := by simp only [gfl]; rw [if_pos h0, hf]
theorem gf_side {sd : Int} {rs : Rws} (h : inB sd 2 4 = false) : gf sd rs = 3 := by unfold gf; rw [if_pos h]
theorem gf_many {sd : Int} {rs : Rws} {n : Nat} (hl : rs.length = n) (h : inB sd 2 4 = true) (h2 : (n : Int) ≠ sd * sd * sd) : gf sd rs = 2 := by
  unfold gf; rw [if_neg (by rw [h]; simp), if_pos (by rw [hl]; exact h2)]
theorem gf_rows {sd : Int} {rs : Rws} {n : Nat} (hl : rs.length = n) (h : inB sd 2 4 = true) (h2 : (n : Int) = sd * sd * sd) : gf sd rs = gfl rs n := by
  unfold gf; rw [if_neg (by rw [h]; simp), if_neg (by rw [hl]; exact fun e => e h2), hl]
theorem side_cases {sd : Int} (h : inB sd 2 4 = true) : sd = 2 ∨ sd = 3 ∨ sd = 4 := by
  obtain ⟨a, b⟩ := inB_iff.1 h; omega

theorem sSide5_any (sd : Int) (w : World) : Calls Try.prog 85 #[.int .i64 sd] w fun e w' => e = .returned (.bool (inB sd 2 4)) ∧ w = w' := by
  go_enter Try.func85, Try.ntmps85
  go_wp2_with (go_at_call 51; refine (sIn_any _ _ _ _).mono ?_; rintro e w' ⟨rfl, rfl⟩)
  go_ret
  exact ⟨rfl, rfl⟩
set_option maxRecDepth 100000 in
set_option maxHeartbeats 1000000 in
theorem sFault5_any (g : Nat) (A : Option Addr) (n c : Nat) (sd : Int) (rs : Rws) (bs : List Nat) (w : World) (h : Hd w (rowsD rs) (.slice A n c) bs) (hg0 : w.cell? ⟨g, 0, none⟩ = some (.int .i64 sd)) (hg1 : w.cell? ⟨g, 1, none⟩ = some (.slice A n c)) :
    Calls Try.prog 93 #[.pointer (some ⟨g, 0, none⟩)] w fun e w' => e = .returned (.int .i64 (gf sd rs)) ∧ ∃ m, w' = w.drewN m := by
  obtain ⟨hl, hc, hm, -⟩ := h.rows
  unfold maxLen at hm
  have H := Lib.hid h
  clear h
  rcases Bool.eq_false_or_eq_true (inB sd 2 4) with hs | hs
  · have CS : Hid (∀ W, Calls Try.prog 85 #[.int .i64 sd] W fun e w' => e = .returned (.bool true) ∧ W = w') := fun W => by rw [← hs]; exact sSide5_any sd W
    have hq : sd * sd * sd = 8 ∨ sd * sd * sd = 27 ∨ sd * sd * sd = 64 := by rcases side_cases hs with rfl | rfl | rfl <;> simp
    have hq1 : -9223372036854775808 ≤ sd * sd ∧ sd * sd ≤ 9223372036854775807 := by rcases side_cases hs with rfl | rfl | rfl <;> simp
    have hq2 : -9223372036854775808 ≤ sd * sd * sd ∧ sd * sd * sd ≤ 9223372036854775807 := by omega
    obtain ⟨hs1, hs2⟩ := inB_iff.1 hs
    by_cases hn : (n : Int) = sd * sd * sd
    · have HG := Lib.hid (gf_rows hl hs hn)
      have he : ((n : Int) == sd * sd * sd) = true := by rw [hn]; simp
      have he2 : ((n : Int) != sd * sd * sd) = false := by rw [bne, he]; rfl
      clear hl hs hn
      go_enter Try.func93, Try.ntmps93
      go_wp2_with (go_at_call 85; refine (CS.out _).mono ?_; rintro e w' ⟨rfl, rfl⟩)
      go_quiet (fail)
      go_wp2_with fail
      go_loopw [3, 4] (fun x y wr => ∃ i m : Nat, i ≤ n ∧ x = .int .i64 i ∧ Hid (gfl rs i = 0) ∧ wr = w.drewN m) (fun x _ _ => n - (intOf x).toNat)
      case atStart => exact ⟨0, _, by omega, rfl, rfl, rfl⟩
      case round =>
        obtain ⟨i, m, hi, rfl, hz, rfl⟩ := hrel
        by_cases hlt : i < n
        · obtain ⟨b, o', B1, L1, C1, g1, rfl, x1, x3, -⟩ := H.out.row hlt
          have HR := Lib.hid x3.rd
          have hcap := Lib.hid x3.caps.1
          have hm1 := Lib.hid x3.caps.2
          clear x3
          by_cases hf : lf (rw_ rs i) = 0
          · have HF := Lib.hid hf
            have CL : Hid (∀ m, Calls Try.prog 86 #[.slice B1 L1 C1] (w.drewN m) fun e w' => e = .returned (.int .i64 0) ∧ (w.drewN m) = w') := fun m => by rw [← hf]; exact sLevels4_any _ _ _ _ _ (HR.out.drewN m) hcap.out hm1.out
            clear hf
            go_wp2_with (go_at_call 86; refine (CL.out _).mono ?_; rintro e w' ⟨rfl, rfl⟩)
            go_roundw
            case rel => exact ⟨i + 1, m, by omega, by go_num, gfl_on hz.out HF.out, rfl⟩
            case measure => simp [intOf]; omega
          · obtain ⟨q, hq2⟩ : ∃ q, q = lf (rw_ rs i) := ⟨_, rfl⟩
            have HM := Lib.hid (gfl_first hz.out hq2.symm (by rw [hq2]; exact hf) hlt)
            have CL : Hid (∀ m, Calls Try.prog 86 #[.slice B1 L1 C1] (w.drewN m) fun e w' => e = .returned (.int .i64 q) ∧ (w.drewN m) = w') := fun m => by rw [hq2]; exact sLevels4_any _ _ _ _ _ (HR.out.drewN m) hcap.out hm1.out
            have hqn : (q == 0) = false := by rw [hq2]; simpa using hf
            have hqn' : q ≠ 0 := by rw [hq2]; exact hf
            clear hf hq2
            go_wp2_with (go_at_call 86; refine (CL.out _).mono ?_; rintro e w' ⟨rfl, rfl⟩)
            go_ret
            exact ⟨by rw [HG.out, HM.out]; rfl, m, rfl⟩
        · obtain rfl : i = n := by omega
          go_wp2_with fail
          go_ret
          exact ⟨by rw [HG.out, hz.out]; rfl, m, rfl⟩
    · have HG := Lib.hid (gf_many hl hs hn)
      have he : ((n : Int) == sd * sd * sd) = false := by simpa using hn
      have he2 : ((n : Int) != sd * sd * sd) = true := by rw [bne, he]; rfl
      clear hl hs
      go_enter Try.func93, Try.ntmps93
      go_wp2_with (go_at_call 85; refine (CS.out _).mono ?_; rintro e w' ⟨rfl, rfl⟩)
      go_quiet (fail)
      go_wp2_with fail
      go_ret
      exact ⟨by rw [HG.out]; rfl, _, rfl⟩
  · have HG := Lib.hid (gf_side (rs := rs) hs)
    have CS : Hid (∀ W, Calls Try.prog 85 #[.int .i64 sd] W fun e w' => e = .returned (.bool false) ∧ W = w') := fun W => by rw [← hs]; exact sSide5_any sd W
    clear hs
    go_enter Try.func93, Try.ntmps93
    go_wp2_with (go_at_call 85; refine (CS.out _).mono ?_; rintro e w' ⟨rfl, rfl⟩)
    go_ret
    exact ⟨by rw [HG.out]; rfl, 0, rfl⟩
end Go.Proofs.Ytmmlcdbbjkligaa
