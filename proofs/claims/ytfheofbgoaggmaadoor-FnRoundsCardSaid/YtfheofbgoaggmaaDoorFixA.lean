/-
  Contracts of chapter 1's functions over numbers alone: nearest, isFix, fitFix, intAnswer, RoundDiv, MulFix, DivFix, and the reference model's own (l1Floor, l1Round, l1In, l1Fix, l1Held, RoundDiv, MulFix, DivFix).
-/
import Derived.Test.YtfheofbgoaggmaaDoorAs
import Derived.Test.YtfheofbgoaggmaaDoorFixMath
import Derived.Deep.QuietTactic
import Derived.BigQuiet
import Derived.IntWalk
import Derived.WalkSpells
namespace Go.Proofs.YtfheofbgoaggmaaDoor
open Go.RowKit
set_option linter.unusedVariables false

theorem ret_int {k : IntKind} {a b : Int} (h : a = b) : Ending.returned (.int k a) = .returned (.int k b) := by rw [h]
theorem below_drewN (B n : Nat) (w : World) : Below B w (w.drewN n) := by
  induction n with
  | zero => exact Below.refl _ _
  | succ n ih => exact ih.drew
def inB (v lo hi : Int) : Bool := decide (lo ≤ v ∧ v ≤ hi)
theorem inB_t {v lo hi : Int} (h1 : lo ≤ v) (h2 : v ≤ hi) : inB v lo hi = true := decide_eq_true ⟨h1, h2⟩
theorem inB_lo {v lo hi : Int} (h : v < lo) : inB v lo hi = false := decide_eq_false (by omega)
theorem inB_hi {v lo hi : Int} (h : hi < v) : inB v lo hi = false := decide_eq_false (by omega)
theorem inB_iff {v lo hi : Int} : inB v lo hi = true ↔ (lo ≤ v ∧ v ≤ hi) := by unfold inB; simp

/-! ### the program's -/
set_option maxHeartbeats 400000 in
theorem nearest_any (a b : Int) (w : World) (hb : 0 < b) (hb2 : b ≤ 1000000000000000000) (h1 : -1000000000000000000 ≤ a) (h2 : a ≤ 1000000000000000000) :
    Calls Tryd.prog 63 #[.int .i64 a, .int .i64 b] w fun e w' => e = .returned (.int .i64 (rnd a b)) ∧ ∃ n, w' = w.drewN n := by
  obtain ⟨t1a, t1b⟩ := tmod_lo a b hb
  obtain ⟨t2a, t2b⟩ := tdiv_bd a b 1000000000000000000 hb h1 h2
  go_enter Tryd.func63, Tryd.ntmps63
  go_wp2_with fail
  go_quiet (fail)
  go_wp2_with fail
  all_goals go_ret
  · exact ⟨ret_int (by rw [← rnd_np hb ‹_› ‹_›]; omega), _, rfl⟩
  · exact ⟨ret_int (rnd_nn hb ‹_› (by omega)), _, rfl⟩
  · exact ⟨ret_int (rnd_pp hb (by omega) ‹_›), _, rfl⟩
  · exact ⟨ret_int (rnd_pn hb (by omega) (by omega)), _, rfl⟩

theorem inB_hi' {v lo hi : Int} (h : lo ≤ v) : inB v lo hi = decide (v ≤ hi) := by unfold inB; simp [h]
theorem isFix_any (v : Int) (w : World) : Calls Tryd.prog 65 #[.int .i64 v] w fun e w' => e = .returned (.bool (inB v (-16777216) 16777216)) ∧ w = w' := by
  by_cases h1 : v < -16777216
  · rw [inB_lo h1]
    go_enter Tryd.func65, Tryd.ntmps65
    go_wp2
    go_ret
    exact ⟨rfl, rfl⟩
  · rw [inB_hi' (by omega)]
    go_enter Tryd.func65, Tryd.ntmps65
    go_wp2
    go_ret
    exact ⟨rfl, rfl⟩

theorem fitFix_yes (v : Int) (w : World) (h : inB v (-16777216) 16777216 = true) : Calls Tryd.prog 66 #[.int .i64 v] w fun e w' => e = .returned (.tuple #[.int .i64 v, .nilIface]) ∧ w = w' := by
  go_enter Tryd.func66, Tryd.ntmps66
  go_wp2_with (go_at_call 65; refine (isFix_any _ _).mono ?_; rintro e w' ⟨rfl, rfl⟩)
  go_ret2
  exact ⟨rfl, rfl⟩
theorem fitFix_no (v : Int) (w : World) (h : inB v (-16777216) 16777216 = false) : Calls Tryd.prog 66 #[.int .i64 v] w fun e w' => e = .returned (.tuple #[.int .i64 0, .iface 72 (.agg #[.int .i64 7])]) ∧ w = w' := by
  go_enter Tryd.func66, Tryd.ntmps66
  go_wp2_with (go_at_call 65; refine (isFix_any _ _).mono ?_; rintro e w' ⟨rfl, rfl⟩)
  go_ret2
  exact ⟨rfl, rfl⟩

theorem bcell {W w1 : World} (hb : Below W.heap.size W w1) : (∀ b o, b < W.heap.size → w1.cell? ⟨b, o, none⟩ = W.cell? ⟨b, o, none⟩) ∧ (∀ b o, b < W.heap.size → w1.frozen? ⟨b, o, none⟩ = W.frozen? ⟨b, o, none⟩) :=
  ⟨fun b o h => hb.cell (p := ⟨b, o, none⟩) h, fun b o h => hb.frozen (p := ⟨b, o, none⟩) h⟩

theorem blThen {w W w1 : World} (h : Below w.heap.size w W) (hb : Below W.heap.size W w1) : Below w.heap.size w w1 := h.trans (hb.mono h.size)
theorem blAlloc (w : World) (o : Obj) : Below w.heap.size w (w.alloc o) := (Below.refl _ _).alloc (Nat.le_refl _) o

set_option maxHeartbeats 400000 in
theorem intAnswer_ok (v : Int) (w : World) : Calls Tryd.prog 42 #[.int .i64 v, .nilIface] w fun e w' => e = .returned (.agg #[.int .i64 0, .int .i64 v]) ∧ Below w.heap.size w w' := by
  go_enter Tryd.func42, Tryd.ntmps42
  go_wp2_with fail
  refine (codeOf_nil _).mono ?_
  rintro e w1 ⟨rfl, hb⟩
  obtain ⟨hc, hf⟩ := bcell hb
  have hz : w.heap.size < w1.heap.size := by have := hb.size; simp at this; omega
  go_wp2_with fail
  exact bodyPost_ret (v := .agg #[.int .i64 0, .int .i64 v]) (by simp [results, Tryd.results42, go_sem, hc]) rfl ⟨rfl, by repeat (first | exact blThen (blAlloc _ _) hb | refine Below.setCell ?_ (by simp) _)⟩

set_option maxHeartbeats 400000 in
theorem intAnswer_err (v c : Int) (w : World) (hL : Laid w) (h0 : c ≠ 0) : Calls Tryd.prog 42 #[.int .i64 v, .iface 72 (.agg #[.int .i64 c])] w fun e w' => e = .returned (.agg #[.int .i64 c, .int .i64 0]) ∧ Below w.heap.size w w' := by
  have h0' : (c != 0) = true := by simpa using h0
  go_enter Tryd.func42, Tryd.ntmps42
  go_wp2_with fail
  refine (codeOf_hit c _ (hL.alloc _)).mono ?_
  rintro e w1 ⟨rfl, hb⟩
  obtain ⟨hc, hf⟩ := bcell hb
  have hz : w.heap.size < w1.heap.size := by have := hb.size; simp at this; omega
  go_wp2_with fail
  exact bodyPost_ret (v := .agg #[.int .i64 c, .int .i64 0]) (by simp [results, Tryd.results42, go_sem, hc]) rfl ⟨rfl, by repeat (first | exact blThen (blAlloc _ _) hb | refine Below.setCell ?_ (by simp) _)⟩

/-! ### a number and an error: what the program hands on -/
def errV (c : Int) : Value := if c = 0 then .nilIface else .iface 72 (.agg #[.int .i64 c])
def ansV (c v : Int) : Int := if c = 0 then v else 0
theorem errV_0 : errV 0 = .nilIface := if_pos rfl
theorem errV_n {c : Int} (h : c ≠ 0) : errV c = .iface 72 (.agg #[.int .i64 c]) := if_neg h
theorem Laid.drewN {w : World} (h : Laid w) (n : Nat) : Laid (w.drewN n) := h.below (below_drewN w.heap.size n w) h.pos

theorem intAnswer_any (v c : Int) (w : World) (hL : Laid w) : Calls Tryd.prog 42 #[.int .i64 v, errV c] w fun e w' => e = .returned (.agg #[.int .i64 c, .int .i64 (ansV c v)]) ∧ Below w.heap.size w w' := by
  unfold ansV
  by_cases h : c = 0
  · subst h
    rw [errV_0, if_pos rfl]
    exact intAnswer_ok v w
  · rw [errV_n h, if_neg h]
    exact intAnswer_err v c w hL h

/-! ### fitFix, RoundDiv, MulFix, DivFix -/
def okF (v : Int) : Bool := inB v (-16777216) 16777216
def hdC (v : Int) : Int := if okF v then 0 else 7
def hdV (v : Int) : Int := if okF v then v else 0
theorem fitFix_any (v : Int) (w : World) : Calls Tryd.prog 66 #[.int .i64 v] w fun e w' => e = .returned (.tuple #[.int .i64 (hdV v), errV (hdC v)]) ∧ w = w' := by
  unfold hdV hdC
  by_cases h : okF v = true
  · rw [if_pos h, if_pos h, errV_0]
    exact fitFix_yes v w h
  · rw [if_neg h, if_neg h, errV_n (by decide)]
    exact fitFix_no v w (by simpa [okF] using h)

def okD (a b : Int) : Bool := inB a (-1000000000000000) 1000000000000000 && inB b 1 1000000000
def rdC (a b : Int) : Int := if okD a b then 0 else 3
def rdV (a b : Int) : Int := if okD a b then rnd a b else 0
theorem rd_ans (a b : Int) : ansV (rdC a b) (rdV a b) = rdV a b := by
  unfold ansV rdC rdV; split <;> simp_all

set_option maxHeartbeats 400000 in
theorem roundDiv_yes (a b : Int) (w : World) (h : okD a b = true) : Calls Tryd.prog 43 #[.int .i64 a, .int .i64 b] w fun e w' => e = .returned (.tuple #[.int .i64 (rnd a b), .nilIface]) ∧ ∃ n, w' = w.drewN n := by
  unfold okD at h
  rw [Bool.and_eq_true, inB_iff, inB_iff] at h
  obtain ⟨⟨h1, h2⟩, h3, h4⟩ := h
  go_enter Tryd.func43, Tryd.ntmps43
  go_wp2_with (go_at_call 63; refine (nearest_any _ _ _ (by omega) (by omega) (by omega) (by omega)).mono ?_; rintro e w' ⟨rfl, n, rfl⟩)
  go_ret2
  exact ⟨rfl, _, rfl⟩
set_option maxHeartbeats 400000 in
theorem roundDiv_no (a b : Int) (w : World) (h : okD a b = false) : Calls Tryd.prog 43 #[.int .i64 a, .int .i64 b] w fun e w' => e = .returned (.tuple #[.int .i64 0, .iface 72 (.agg #[.int .i64 3])]) ∧ w = w' := by
  have h' : ¬ ((-1000000000000000 ≤ a ∧ a ≤ 1000000000000000) ∧ 1 ≤ b ∧ b ≤ 1000000000) := by
    intro hh
    have : okD a b = true := by unfold okD; rw [Bool.and_eq_true, inB_iff, inB_iff]; exact hh
    rw [h] at this; cases this
  clear h
  by_cases c1 : a < -1000000000000000
  · go_enter Tryd.func43, Tryd.ntmps43
    go_wp2
    go_ret2
    exact ⟨rfl, rfl⟩
  by_cases c2 : 1000000000000000 < a
  · go_enter Tryd.func43, Tryd.ntmps43
    go_wp2
    go_ret2
    exact ⟨rfl, rfl⟩
  by_cases c3 : b < 1
  · go_enter Tryd.func43, Tryd.ntmps43
    go_wp2
    go_ret2
    exact ⟨rfl, rfl⟩
  have c4 : 1000000000 < b := by omega
  go_enter Tryd.func43, Tryd.ntmps43
  go_wp2
  go_ret2
  exact ⟨rfl, rfl⟩
theorem roundDiv_any (a b : Int) (w : World) : Calls Tryd.prog 43 #[.int .i64 a, .int .i64 b] w fun e w' => e = .returned (.tuple #[.int .i64 (rdV a b), errV (rdC a b)]) ∧ ∃ n, w' = w.drewN n := by
  unfold rdV rdC
  by_cases h : okD a b = true
  · rw [if_pos h, if_pos h, errV_0]
    exact roundDiv_yes a b w h
  · rw [if_neg h, if_neg h, errV_n (by decide)]
    exact (roundDiv_no a b w (by simpa using h)).mono fun e w' ⟨h1, h2⟩ => ⟨h1, 0, h2.symm⟩
set_option maxHeartbeats 400000 in
theorem RoundDiv_any (a b : Int) (w : World) (hL : Laid w) : Calls Tryd.prog 13 #[.int .i64 a, .int .i64 b] w fun e w' => e = .returned (.agg #[.int .i64 (rdC a b), .int .i64 (rdV a b)]) ∧ Below w.heap.size w w' := by
  go_enter Tryd.func13, Tryd.ntmps13
  go_wp2_with fail
  refine (roundDiv_any a b _).mono ?_
  rintro e w' ⟨rfl, n, rfl⟩
  go_wp2_with fail
  refine (intAnswer_any _ _ _ ((hL.alloc _).drewN n)).mono ?_
  rintro e w1 ⟨rfl, hb⟩
  obtain ⟨hc, hf⟩ := bcell hb
  have hz : w.heap.size < w1.heap.size := by have := hb.size; simp at this; omega
  go_wp2_with fail
  refine bodyPost_ret (v := .agg #[.int .i64 (rdC a b), .int .i64 (ansV (rdC a b) (rdV a b))]) (by simp [results, Tryd.results13, go_sem, hc]) rfl ⟨?_, by repeat (first | exact blThen ((blAlloc _ _).trans (below_drewN _ _ _)) hb | refine Below.setCell ?_ (by simp) _)⟩
  rw [rd_ans]


def okM (a b : Int) : Bool := okF a && okF b
def mfC (a b : Int) : Int := if okM a b then hdC (rnd (a * b) 65536) else 3
def mfV (a b : Int) : Int := if okM a b then hdV (rnd (a * b) 65536) else 0
theorem hd_ans (v : Int) : ansV (hdC v) (hdV v) = hdV v := by
  unfold ansV hdC hdV; split <;> simp_all
theorem mf_ans (a b : Int) : ansV (mfC a b) (mfV a b) = mfV a b := by
  unfold mfC mfV
  split
  · exact hd_ans _
  · simp [ansV]
theorem fix_mul {a b : Int} (ha : okF a = true) (hb : okF b = true) : -281474976710656 ≤ a * b ∧ a * b ≤ 281474976710656 := by
  unfold okF at ha hb
  rw [inB_iff] at ha hb
  obtain ⟨a1, a2⟩ := ha
  obtain ⟨b1, b2⟩ := hb
  have h : (a * b).natAbs ≤ 16777216 * 16777216 := by
    rw [Int.natAbs_mul]; exact Nat.mul_le_mul (by omega) (by omega)
  omega

set_option maxHeartbeats 400000 in
theorem mulFix_yes (a b : Int) (w : World) (ha : okF a = true) (hb : okF b = true) : Calls Tryd.prog 45 #[.int .i64 a, .int .i64 b] w fun e w' => e = .returned (.tuple #[.int .i64 (hdV (rnd (a * b) 65536)), errV (hdC (rnd (a * b) 65536))]) ∧ ∃ n, w' = w.drewN n := by
  obtain ⟨m1, m2⟩ := fix_mul ha hb
  have ha' : inB a (-16777216) 16777216 = true := ha
  have hb' : inB b (-16777216) 16777216 = true := hb
  clear ha hb
  go_enter Tryd.func45, Tryd.ntmps45
  go_wp2_with (first | (go_at_call 65; refine (isFix_any _ _).mono ?_; rintro e w' ⟨rfl, rfl⟩) | (go_at_call 63; refine (nearest_any _ _ _ (by omega) (by omega) (by omega) (by omega)).mono ?_; rintro e w' ⟨rfl, n, rfl⟩) | (go_at_call 66; refine (fitFix_any _ _).mono ?_; rintro e w' ⟨rfl, rfl⟩))
  go_ret2
  exact ⟨rfl, _, rfl⟩
set_option maxHeartbeats 400000 in
theorem mulFix_no (a b : Int) (w : World) (h : okM a b = false) : Calls Tryd.prog 45 #[.int .i64 a, .int .i64 b] w fun e w' => e = .returned (.tuple #[.int .i64 0, .iface 72 (.agg #[.int .i64 3])]) ∧ w = w' := by
  by_cases ha : inB a (-16777216) 16777216 = true
  · have hb : inB b (-16777216) 16777216 = false := by
      unfold okM okF at h; rw [ha] at h; simpa using h
    clear h
    go_enter Tryd.func45, Tryd.ntmps45
    go_wp2_with (go_at_call 65; refine (isFix_any _ _).mono ?_; rintro e w' ⟨rfl, rfl⟩)
    go_ret2
    exact ⟨rfl, rfl⟩
  · have ha' : inB a (-16777216) 16777216 = false := by simpa using ha
    clear h ha
    go_enter Tryd.func45, Tryd.ntmps45
    go_wp2_with (go_at_call 65; refine (isFix_any _ _).mono ?_; rintro e w' ⟨rfl, rfl⟩)
    go_ret2
    exact ⟨rfl, rfl⟩
theorem mulFix_any (a b : Int) (w : World) : Calls Tryd.prog 45 #[.int .i64 a, .int .i64 b] w fun e w' => e = .returned (.tuple #[.int .i64 (mfV a b), errV (mfC a b)]) ∧ ∃ n, w' = w.drewN n := by
  unfold mfV mfC
  by_cases h : okM a b = true
  · rw [if_pos h, if_pos h]
    unfold okM at h
    rw [Bool.and_eq_true] at h
    exact mulFix_yes a b w h.1 h.2
  · rw [if_neg h, if_neg h, errV_n (by decide)]
    exact (mulFix_no a b w (by simpa using h)).mono fun e w' ⟨h1, h2⟩ => ⟨h1, 0, h2.symm⟩
set_option maxHeartbeats 400000 in
theorem MulFix_any (a b : Int) (w : World) (hL : Laid w) : Calls Tryd.prog 15 #[.int .i64 a, .int .i64 b] w fun e w' => e = .returned (.agg #[.int .i64 (mfC a b), .int .i64 (mfV a b)]) ∧ Below w.heap.size w w' := by
  go_enter Tryd.func15, Tryd.ntmps15
  go_wp2_with fail
  refine (mulFix_any a b _).mono ?_
  rintro e w' ⟨rfl, n, rfl⟩
  go_wp2_with fail
  refine (intAnswer_any _ _ _ ((hL.alloc _).drewN n)).mono ?_
  rintro e w1 ⟨rfl, hb⟩
  obtain ⟨hc, hf⟩ := bcell hb
  have hz : w.heap.size < w1.heap.size := by have := hb.size; simp at this; omega
  go_wp2_with fail
  refine bodyPost_ret (v := .agg #[.int .i64 (mfC a b), .int .i64 (ansV (mfC a b) (mfV a b))]) (by simp [results, Tryd.results15, go_sem, hc]) rfl ⟨?_, by repeat (first | exact blThen ((blAlloc _ _).trans (below_drewN _ _ _)) hb | refine Below.setCell ?_ (by simp) _)⟩
  rw [mf_ans]


def okQ (a b : Int) : Bool := okF a && okF b && decide (1 ≤ b)
def dfC (a b : Int) : Int := if okQ a b then hdC (rnd (a * 65536) b) else 3
def dfV (a b : Int) : Int := if okQ a b then hdV (rnd (a * 65536) b) else 0
theorem df_ans (a b : Int) : ansV (dfC a b) (dfV a b) = dfV a b := by
  unfold dfC dfV
  split
  · exact hd_ans _
  · simp [ansV]
set_option maxHeartbeats 400000 in
theorem divFix_yes (a b : Int) (w : World) (ha : okF a = true) (hb : okF b = true) (h1 : 1 ≤ b) : Calls Tryd.prog 46 #[.int .i64 a, .int .i64 b] w fun e w' => e = .returned (.tuple #[.int .i64 (hdV (rnd (a * 65536) b)), errV (hdC (rnd (a * 65536) b))]) ∧ ∃ n, w' = w.drewN n := by
  have ha' : inB a (-16777216) 16777216 = true := ha
  have hb' : inB b (-16777216) 16777216 = true := hb
  obtain ⟨a1, a2⟩ := inB_iff.1 ha'
  obtain ⟨b1, b2⟩ := inB_iff.1 hb'
  clear ha hb
  go_enter Tryd.func46, Tryd.ntmps46
  go_wp2_with (first | (go_at_call 65; refine (isFix_any _ _).mono ?_; rintro e w' ⟨rfl, rfl⟩) | (go_at_call 63; refine (nearest_any _ _ _ (by omega) (by omega) (by omega) (by omega)).mono ?_; rintro e w' ⟨rfl, n, rfl⟩) | (go_at_call 66; refine (fitFix_any _ _).mono ?_; rintro e w' ⟨rfl, rfl⟩))
  go_ret2
  exact ⟨rfl, _, rfl⟩
set_option maxHeartbeats 400000 in
theorem divFix_no (a b : Int) (w : World) (h : okQ a b = false) : Calls Tryd.prog 46 #[.int .i64 a, .int .i64 b] w fun e w' => e = .returned (.tuple #[.int .i64 0, .iface 72 (.agg #[.int .i64 3])]) ∧ w = w' := by
  by_cases ha : inB a (-16777216) 16777216 = true
  · by_cases hb : inB b (-16777216) 16777216 = true
    · have h1 : b < 1 := by
        unfold okQ okF at h; rw [ha, hb] at h; simp at h; omega
      clear h
      go_enter Tryd.func46, Tryd.ntmps46
      go_wp2_with (go_at_call 65; refine (isFix_any _ _).mono ?_; rintro e w' ⟨rfl, rfl⟩)
      go_ret2
      exact ⟨rfl, rfl⟩
    · have hb' : inB b (-16777216) 16777216 = false := by simpa using hb
      clear h hb
      go_enter Tryd.func46, Tryd.ntmps46
      go_wp2_with (go_at_call 65; refine (isFix_any _ _).mono ?_; rintro e w' ⟨rfl, rfl⟩)
      go_ret2
      exact ⟨rfl, rfl⟩
  · have ha' : inB a (-16777216) 16777216 = false := by simpa using ha
    clear h ha
    go_enter Tryd.func46, Tryd.ntmps46
    go_wp2_with (go_at_call 65; refine (isFix_any _ _).mono ?_; rintro e w' ⟨rfl, rfl⟩)
    go_ret2
    exact ⟨rfl, rfl⟩
theorem divFix_any (a b : Int) (w : World) : Calls Tryd.prog 46 #[.int .i64 a, .int .i64 b] w fun e w' => e = .returned (.tuple #[.int .i64 (dfV a b), errV (dfC a b)]) ∧ ∃ n, w' = w.drewN n := by
  unfold dfV dfC
  by_cases h : okQ a b = true
  · rw [if_pos h, if_pos h]
    unfold okQ at h
    rw [Bool.and_eq_true, Bool.and_eq_true, decide_eq_true_iff] at h
    exact divFix_yes a b w h.1.1 h.1.2 h.2
  · rw [if_neg h, if_neg h, errV_n (by decide)]
    exact (divFix_no a b w (by simpa using h)).mono fun e w' ⟨h1, h2⟩ => ⟨h1, 0, h2.symm⟩
set_option maxHeartbeats 400000 in
theorem DivFix_any (a b : Int) (w : World) (hL : Laid w) : Calls Tryd.prog 17 #[.int .i64 a, .int .i64 b] w fun e w' => e = .returned (.agg #[.int .i64 (dfC a b), .int .i64 (dfV a b)]) ∧ Below w.heap.size w w' := by
  go_enter Tryd.func17, Tryd.ntmps17
  go_wp2_with fail
  refine (divFix_any a b _).mono ?_
  rintro e w' ⟨rfl, n, rfl⟩
  go_wp2_with fail
  refine (intAnswer_any _ _ _ ((hL.alloc _).drewN n)).mono ?_
  rintro e w1 ⟨rfl, hb⟩
  obtain ⟨hc, hf⟩ := bcell hb
  have hz : w.heap.size < w1.heap.size := by have := hb.size; simp at this; omega
  go_wp2_with fail
  refine bodyPost_ret (v := .agg #[.int .i64 (dfC a b), .int .i64 (ansV (dfC a b) (dfV a b))]) (by simp [results, Tryd.results17, go_sem, hc]) rfl ⟨?_, by repeat (first | exact blThen ((blAlloc _ _).trans (below_drewN _ _ _)) hb | refine Below.setCell ?_ (by simp) _)⟩
  rw [df_ans]

end Go.Proofs.YtfheofbgoaggmaaDoor
