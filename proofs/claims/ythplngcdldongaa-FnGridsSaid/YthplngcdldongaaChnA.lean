/-
  Faults of stages: the form of a stage (ofKind, l6Form), faults of curves in a stage, the model's l6Stage, l6Fault, StageFault, ChainFault.
  Faults of stages, the program's: fault of each kind, stagesOf, chainStages, StageFault, ChainFault.
  Faults of stages and chains: the program's StageFault, ChainFault; the reference model's l6Stage, l6Fault, StageFault, ChainFault.
-/
import Derived.Test.YthplngcdldongaaHelpSt
import Derived.Test.YthplngcdldongaaOpenA
import Derived.Test.YthplngcdldongaaCurA
import Derived.Test.YthplngcdldongaaGrdNA
import Derived.Test.YthplngcdldongaaGrowA
import Derived.Test.YthplngcdldongaaMatEF
namespace Go.Proofs.Ythplngcdldongaa
open Go.RowKit
set_option linter.unusedVariables false
set_option linter.unusedSimpArgs false

def stF (t : Stg) : Bool := if t.kd = 1 then decide (t.rs.length = 0 ∧ t.sd = 0 ∧ t.ns.length = 0) else if t.kd = 2 then decide (t.cs.length = 0 ∧ t.sd = 0 ∧ t.ns.length = 0) else if t.kd = 3 then decide (t.cs.length = 0 ∧ t.rs.length = 0) else false
/-- the fault of the first curve that has one. -/
def crL (cs : Rws) : Nat → Int
  | 0 => 0
  | k + 1 => if crL cs k = 0 then cf (rw_ cs k) else crL cs k
def crF (cs : Rws) : Int := if cs.length = 3 then crL cs 3 else 2
def sgf (t : Stg) : Int := if stF t = true then (if t.kd = 1 then crF t.cs else if t.kd = 2 then mf t.rs else gf t.sd t.ns) else 1
def sgL (ts : List Stg) : Nat → Int
  | 0 => 0
  | k + 1 => if sgL ts k = 0 then sgf (st_ ts k) else sgL ts k
def chf (ts : List Stg) : Int := if 5 < ts.length then 2 else sgL ts ts.length
theorem crL_stop {cs : Rws} {k : Nat} (h : crL cs k ≠ 0) : ∀ n, k ≤ n → crL cs n = crL cs k := by
  intro n
  induction n with
  | zero => intro h'; rw [show k = 0 by omega]
  | succ n ih =>
    intro h'
    by_cases e : k = n + 1
    · subst e; rfl
    · have := ih (by omega); simp only [crL]; rw [this, if_neg h]
theorem sgL_stop {ts : List Stg} {k : Nat} (h : sgL ts k ≠ 0) : ∀ n, k ≤ n → sgL ts n = sgL ts k := by
  intro n
  induction n with
  | zero => intro h'; rw [show k = 0 by omega]
  | succ n ih =>
    intro h'
    by_cases e : k = n + 1
    · subst e; rfl
    · have := ih (by omega); simp only [sgL]; rw [this, if_neg h]
theorem crL_bad {cs : Rws} {k n : Nat} (h0 : crL cs k = 0) (hc : cf (rw_ cs k) ≠ 0) (hk : k < n) : crL cs n = cf (rw_ cs k) := by
  have e : crL cs (k + 1) = cf (rw_ cs k) := by simp only [crL]; rw [if_pos h0]
  rw [crL_stop (k := k + 1) (by rw [e]; exact hc) n (by omega), e]
theorem sgL_bad {ts : List Stg} {k n : Nat} (h0 : sgL ts k = 0) (hc : sgf (st_ ts k) ≠ 0) (hk : k < n) : sgL ts n = sgf (st_ ts k) := by
  have e : sgL ts (k + 1) = sgf (st_ ts k) := by simp only [sgL]; rw [if_pos h0]
  rw [sgL_stop (k := k + 1) (by rw [e]; exact hc) n (by omega), e]
theorem crL_on {cs : Rws} {k : Nat} (h0 : crL cs k = 0) (hc : cf (rw_ cs k) = 0) : crL cs (k + 1) = 0 := by simp only [crL]; rw [if_pos h0, hc]
theorem sgL_on {ts : List Stg} {k : Nat} (h0 : sgL ts k = 0) (hc : sgf (st_ ts k) = 0) : sgL ts (k + 1) = 0 := by simp only [sgL]; rw [if_pos h0, hc]
theorem HdSt.len {w : World} {t : Stg} {A1 : Option Addr} {n1 c1 : Nat} {A2 : Option Addr} {n2 c2 : Nat} {A3 : Option Addr} {n3 c3 : Nat} (h : HdSt w t A1 n1 c1 A2 n2 c2 A3 n3 c3) : t.cs.length = n1 ∧ t.rs.length = n2 ∧ t.ns.length = n3 :=
  ⟨h.a.choose_spec.rows.1, h.b.choose_spec.rows.1, h.d.choose_spec.rows.1⟩
theorem HdSt.caps {w : World} {t : Stg} {A1 : Option Addr} {n1 c1 : Nat} {A2 : Option Addr} {n2 c2 : Nat} {A3 : Option Addr} {n3 c3 : Nat} (h : HdSt w t A1 n1 c1 A2 n2 c2 A3 n3 c3) : (n1 ≤ c1 ∧ c1 ≤ maxLen) ∧ (n2 ≤ c2 ∧ c2 ≤ maxLen) ∧ (n3 ≤ c3 ∧ c3 ≤ maxLen) :=
  ⟨h.a.choose_spec.caps, h.b.choose_spec.caps, h.d.choose_spec.caps⟩
theorem dz (n : Nat) : decide (n = 0) = !decide (0 < n) := by cases n <;> simp
end Go.Proofs.Ythplngcdldongaa
namespace Go.Proofs.Ythplngcdldongaa
open Go.RowKit
set_option linter.unusedVariables false
set_option linter.unusedSimpArgs false

theorem stF_kinds {t : Stg} (h : stF t = true) : t.kd = 1 ∨ t.kd = 2 ∨ t.kd = 3 := by
  unfold stF at h
  split at h
  · exact .inl (by assumption)
  · split at h
    · exact .inr (.inl (by assumption))
    · split at h
      · exact .inr (.inr (by assumption))
      · cases h
theorem sgf_no {t : Stg} (h : stF t = false) : sgf t = 1 := by unfold sgf; rw [if_neg (by rw [h]; simp)]
theorem sgf_1 {t : Stg} (h : stF t = true) (k : t.kd = 1) : sgf t = crF t.cs := by unfold sgf; rw [if_pos h, if_pos k]
theorem sgf_2 {t : Stg} (h : stF t = true) (k : t.kd = 2) : sgf t = mf t.rs := by unfold sgf; rw [if_pos h, if_neg (by omega), if_pos k]
theorem sgf_3 {t : Stg} (h : stF t = true) (k : t.kd = 3) : sgf t = gf t.sd t.ns := by unfold sgf; rw [if_pos h, if_neg (by omega), if_neg (by omega)]
end Go.Proofs.Ythplngcdldongaa
namespace Go.Proofs.Ythplngcdldongaa
open Go.RowKit
set_option linter.unusedVariables false
set_option linter.unusedSimpArgs false

/-- a stage in a box, as a list of one. -/
theorem chOne {W : World} {t : Stg} {A1 : Option Addr} {n1 c1 : Nat} {A2 : Option Addr} {n2 c2 : Nat} {A3 : Option Addr} {n3 c3 : Nat} {b : Nat} (h : HdSt W t A1 n1 c1 A2 n2 c2 A3 n3 c3) (hB : Bx W b [.int .i64 t.kd, .slice A1 n1 c1, .slice A2 n2 c2, .int .i64 t.sd, .slice A3 n3 c3]) :
    ∃ bs, Hd W (chD [t]) (.slice (some ⟨b, 0, none⟩) 1 1) bs := by
  obtain ⟨⟨g1, h1⟩, ⟨g2, h2⟩, ⟨g3, h3⟩⟩ := h
  refine ⟨_, .sl 5 b 0 1 1 _ (fun _ j => [.int .i64 t.kd, .slice A1 n1 c1, .slice A2 n2 c2, .int .i64 t.sd, .slice A3 n3 c3].getD j undef) (fun _ j => [[], g1, g2, [], g3].getD j []) (by omega) (by omega) rfl (fun i hi j hj => ?_) (fun i hi j hj => ?_) (Nat.le_refl _) (by unfold maxLen; omega)⟩
  · obtain rfl : i = 0 := by omega
    match j, hj with
    | 0, _ => exact hB.c 0 rfl
    | 1, _ => exact hB.c 1 rfl
    | 2, _ => exact hB.c 2 rfl
    | 3, _ => exact hB.c 3 rfl
    | 4, _ => exact hB.c 4 rfl
  · obtain rfl : i = 0 := by omega
    match j, hj with
    | 0, _ => exact .int _ _
    | 1, _ => exact h1
    | 2, _ => exact h2
    | 3, _ => exact .int _ _
    | 4, _ => exact h3
theorem sgL_one (t : Stg) : sgL [t] 1 = sgf t := by simp [sgL, st_]
/-! ### the model's -/
set_option maxRecDepth 100000 in
set_option maxHeartbeats 1000000 in
theorem sFault5_o (g o : Nat) (A : Option Addr) (n c : Nat) (sd : Int) (rs : Rws) (bs : List Nat) (w : World) (h : Hd w (rowsD rs) (.slice A n c) bs) (hg0 : w.cell? ⟨g, o, none⟩ = some (.int .i64 sd)) (hg1 : w.cell? ⟨g, o + 1, none⟩ = some (.slice A n c)) :
    Calls Try.prog 55 #[.pointer (some ⟨g, o, none⟩)] w fun e w' => e = .returned (.int .i64 (gf sd rs)) ∧ ∃ m, w' = w.drewN m := by
  obtain ⟨hl, hc, hm, -⟩ := h.rows
  unfold maxLen at hm
  have H := Lib.hid h
  clear h
  rcases Bool.eq_false_or_eq_true (inB sd 2 4) with hs | hs
  · have CS : Hid (∀ W, Calls Try.prog 52 #[.int .i64 sd] W fun e w' => e = .returned (.bool true) ∧ W = w') := fun W => by rw [← hs]; exact sSide5_any sd W
    have hq : sd * sd * sd = 8 ∨ sd * sd * sd = 27 ∨ sd * sd * sd = 64 := by rcases side_cases hs with rfl | rfl | rfl <;> simp
    have hq1 : -9223372036854775808 ≤ sd * sd ∧ sd * sd ≤ 9223372036854775807 := by rcases side_cases hs with rfl | rfl | rfl <;> simp
    have hq2 : -9223372036854775808 ≤ sd * sd * sd ∧ sd * sd * sd ≤ 9223372036854775807 := by omega
    obtain ⟨hs1, hs2⟩ := inB_iff.1 hs
    by_cases hn : (n : Int) = sd * sd * sd
    · have HG := Lib.hid (gf_rows hl hs hn)
      have he : ((n : Int) == sd * sd * sd) = true := by rw [hn]; simp
      have he2 : ((n : Int) != sd * sd * sd) = false := by rw [bne, he]; rfl
      clear hl hs hn
      go_enter Try.func55, Try.ntmps55
      go_wp2_with (go_at_call 52; refine (CS.out _).mono ?_; rintro e w' ⟨rfl, rfl⟩)
      go_quiet (fail)
      go_wp2_with fail
      go_loopw [3, 4] (fun x y wr => ∃ i m : Nat, i ≤ n ∧ x = .int .i64 i ∧ Hid (gfl rs i = 0) ∧ wr = w.drewN m) (fun x _ _ => n - (intOf x).toNat)
      case atStart => exact ⟨0, _, by omega, rfl, rfl, rfl⟩
      case round =>
        obtain ⟨i, m, hi, rfl, hz, rfl⟩ := hrel
        by_cases hlt : i < n
        · obtain ⟨b, o', B1, L1, C1, g1, rfl, x1, x3, -⟩ := H.out.row hlt
          have HR := Lib.hid x3.rd
          have hcap := Lib.hid x3.caps.1
          have hm1 := Lib.hid x3.caps.2
          clear x3
          by_cases hf : lf (rw_ rs i) = 0
          · have HF := Lib.hid hf
            have CL : Hid (∀ m, Calls Try.prog 53 #[.slice B1 L1 C1] (w.drewN m) fun e w' => e = .returned (.int .i64 0) ∧ (w.drewN m) = w') := fun m => by rw [← hf]; exact sLevels4_any _ _ _ _ _ (HR.out.drewN m) hcap.out hm1.out
            clear hf
            go_wp2_with (go_at_call 53; refine (CL.out _).mono ?_; rintro e w' ⟨rfl, rfl⟩)
            go_roundw
            case rel => exact ⟨i + 1, m, by omega, by go_num, gfl_on hz.out HF.out, rfl⟩
            case measure => simp [intOf]; omega
          · obtain ⟨q, hq2⟩ : ∃ q, q = lf (rw_ rs i) := ⟨_, rfl⟩
            have HM := Lib.hid (gfl_first hz.out hq2.symm (by rw [hq2]; exact hf) hlt)
            have CL : Hid (∀ m, Calls Try.prog 53 #[.slice B1 L1 C1] (w.drewN m) fun e w' => e = .returned (.int .i64 q) ∧ (w.drewN m) = w') := fun m => by rw [hq2]; exact sLevels4_any _ _ _ _ _ (HR.out.drewN m) hcap.out hm1.out
            have hqn : (q == 0) = false := by rw [hq2]; simpa using hf
            have hqn' : q ≠ 0 := by rw [hq2]; exact hf
            clear hf hq2
            go_wp2_with (go_at_call 53; refine (CL.out _).mono ?_; rintro e w' ⟨rfl, rfl⟩)
            go_ret
            exact ⟨by rw [HG.out, HM.out]; rfl, m, rfl⟩
        · obtain rfl : i = n := by omega
          go_wp2_with fail
          go_ret
          exact ⟨by rw [HG.out, hz.out]; rfl, m, rfl⟩
    · have HG := Lib.hid (gf_many hl hs hn)
      have he : ((n : Int) == sd * sd * sd) = false := by simpa using hn
      have he2 : ((n : Int) != sd * sd * sd) = true := by rw [bne, he]; rfl
      clear hl hs
      go_enter Try.func55, Try.ntmps55
      go_wp2_with (go_at_call 52; refine (CS.out _).mono ?_; rintro e w' ⟨rfl, rfl⟩)
      go_quiet (fail)
      go_wp2_with fail
      go_ret
      exact ⟨by rw [HG.out]; rfl, _, rfl⟩
  · have HG := Lib.hid (gf_side (rs := rs) hs)
    have CS : Hid (∀ W, Calls Try.prog 52 #[.int .i64 sd] W fun e w' => e = .returned (.bool false) ∧ W = w') := fun W => by rw [← hs]; exact sSide5_any sd W
    clear hs
    go_enter Try.func55, Try.ntmps55
    go_wp2_with (go_at_call 52; refine (CS.out _).mono ?_; rintro e w' ⟨rfl, rfl⟩)
    go_ret
    exact ⟨by rw [HG.out]; rfl, 0, rfl⟩
/-- the five cells of a stage, anywhere. -/
structure At5 (w : World) (g o : Nat) (t : Stg) (A1 : Option Addr) (n1 c1 : Nat) (A2 : Option Addr) (n2 c2 : Nat) (A3 : Option Addr) (n3 c3 : Nat) : Prop where
  a0 : w.cell? ⟨g, o, none⟩ = some (.int .i64 t.kd)
  a1 : w.cell? ⟨g, o + 1, none⟩ = some (.slice A1 n1 c1)
  a2 : w.cell? ⟨g, o + 2, none⟩ = some (.slice A2 n2 c2)
  a3 : w.cell? ⟨g, o + 3, none⟩ = some (.int .i64 t.sd)
  a4 : w.cell? ⟨g, o + 3 + 1, none⟩ = some (.slice A3 n3 c3)
end Go.Proofs.Ythplngcdldongaa
