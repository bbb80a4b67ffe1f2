/-
  Contracts over numbers alone (a plain seat): nearest, isFix, isLevel; the reference model's l1In, l1Level, l1Floor, l1Round, l1Max.
  Levels that are clamped (a plain seat): the program's clamp, ClampLevel.
  Plain mathematics for chapter 3: a curve as a list of points; its fault, its true value, whether it falls, the least level that comes so far, its slope.
-/
import Derived.Test.YthplngcdldongaaBaseA
import Derived.Test.YthplngcdldongaaFixMath
namespace Go.Proofs.Ythplngcdldongaa
open Go.RowKit
set_option linter.unusedVariables false

theorem quietAD' {P : Program} {f : FuncId} {args : Array Value} {w : World} {a n : Nat} {v : Value}
    (h : Calls P f args (w.drewN (a + n)) fun e w' => e = .returned v ∧ ∃ m, w' = (w.drewN (a + n)).drewN m) : Calls P f args (w.drewN (a + n)) fun e w'' => e = .returned v ∧ ∃ m, w'' = w.drewN (a + m) :=
  h.mono fun _ _ ⟨he, m, hm⟩ => ⟨he, n + m, by rw [hm, World.drewN_drewN, Nat.add_assoc]⟩
/-! ### the program's -/
set_option maxHeartbeats 400000 in
theorem nearest_any (a b : Int) (w : World) (hb : 0 < b) (hb2 : b ≤ 1000000000000000000) (h1 : -1000000000000000000 ≤ a) (h2 : a ≤ 1000000000000000000) :
    Calls Try.prog 72 #[.int .i64 a, .int .i64 b] w fun e w' => e = .returned (.int .i64 (rnd a b)) ∧ ∃ n, w' = w.drewN n := by
  obtain ⟨t1a, t1b⟩ := tmod_lo a b hb
  obtain ⟨t2a, t2b⟩ := tdiv_bd a b 1000000000000000000 hb h1 h2
  go_enter Try.func72, Try.ntmps72
  go_wp2_with fail
  go_quiet (fail)
  go_wp2_with fail
  all_goals go_ret
  · exact ⟨ret_int (by rw [← rnd_np hb ‹_› ‹_›]; omega), _, rfl⟩
  · exact ⟨ret_int (rnd_nn hb ‹_› (by omega)), _, rfl⟩
  · exact ⟨ret_int (rnd_pp hb (by omega) ‹_›), _, rfl⟩
  · exact ⟨ret_int (rnd_pn hb (by omega) (by omega)), _, rfl⟩

theorem evenLevel_any (i n : Int) (w : World) (hi : 0 ≤ i ∧ i ≤ 1000000) (hn : 2 ≤ n ∧ n ≤ 1000000) :
    Calls Try.prog 63 #[.int .i64 i, .int .i64 n] w fun e w' => e = .returned (.int .i64 (rnd (i * 65535) (n - 1))) ∧ ∃ m, w' = w.drewN m := by
  have i1 : IntKind.i64.wrap (i * 65535) = i * 65535 := IntWalk.i64_in _ (by omega)
  have i2 : IntKind.i64.wrap (n - 1) = n - 1 := IntWalk.i64_in _ (by omega)
  go_enter Try.func63, Try.ntmps63
  go_wp2_with fail
  refine (nearest_any _ _ _ (by omega) (by omega) (by omega) (by omega)).mono ?_
  rintro e w' ⟨rfl, m, rfl⟩
  go_wp2_with fail
  go_ret
  exact ⟨rfl, m, rfl⟩

theorem inB_hi' {v lo hi : Int} (h : lo ≤ v) : inB v lo hi = decide (v ≤ hi) := by unfold inB; simp [h]
/-! ### the reference model's -/
theorem sIn_any (v lo hi : Int) (w : World) : Calls Try.prog 56 #[.int .i64 v, .int .i64 lo, .int .i64 hi] w fun e w' => e = .returned (.bool (inB v lo hi)) ∧ w = w' := by
  by_cases h1 : v < lo
  · rw [inB_lo h1]
    go_enter Try.func56, Try.ntmps56
    go_wp2
    go_ret
    exact ⟨rfl, rfl⟩
  · rw [inB_hi' (by omega)]
    go_enter Try.func56, Try.ntmps56
    go_wp2
    go_ret
    exact ⟨rfl, rfl⟩
theorem sLevel_any (v : Int) (w : World) : Calls Try.prog 92 #[.int .i64 v] w fun e w' => e = .returned (.bool (inB v 0 65535)) ∧ w = w' := by
  go_enter Try.func92, Try.ntmps92
  go_wp2_with (go_at_call 56; refine (sIn_any _ _ _ _).mono ?_; rintro e w' ⟨rfl, rfl⟩)
  go_ret
  exact ⟨rfl, rfl⟩
theorem sMax_any (a b : Int) (w : World) : Calls Try.prog 84 #[.int .i64 a, .int .i64 b] w fun e w' => e = .returned (.int .i64 (max a b)) ∧ w = w' := by
  by_cases h : a > b
  · go_enter Try.func84, Try.ntmps84
    go_wp2
    go_ret
    exact ⟨ret_int (by omega), rfl⟩
  · go_enter Try.func84, Try.ntmps84
    go_wp2
    go_ret
    exact ⟨ret_int (by omega), rfl⟩
set_option maxHeartbeats 400000 in
theorem sFloor_any (a b : Int) (w : World) (hb : 0 < b) (hb2 : b ≤ 4000000000000000000) (h1 : -4000000000000000000 ≤ a) (h2 : a ≤ 4000000000000000000) :
    Calls Try.prog 100 #[.int .i64 a, .int .i64 b] w fun e w' => e = .returned (.int .i64 (a / b)) ∧ w = w' := by
  obtain ⟨t1a, t1b⟩ := tmod_lo a b hb
  obtain ⟨t2a, t2b⟩ := tdiv_bd a b 4000000000000000000 hb h1 h2
  by_cases hn : a.tmod b < 0
  · rw [floor_neg hb hn]
    go_enter Try.func100, Try.ntmps100
    go_wp2
    go_ret
    exact ⟨rfl, rfl⟩
  · rw [floor_pos hb hn]
    go_enter Try.func100, Try.ntmps100
    go_wp2
    go_ret
    exact ⟨rfl, rfl⟩
set_option maxHeartbeats 400000 in
theorem sRound_any (a b : Int) (w : World) (hb : 0 < b) (hb2 : b ≤ 1000000000000000000) (h1 : -1000000000000000000 ≤ a) (h2 : a ≤ 1000000000000000000) :
    Calls Try.prog 81 #[.int .i64 a, .int .i64 b] w fun e w' => e = .returned (.int .i64 (rnd a b)) ∧ w = w' := by
  go_enter Try.func81, Try.ntmps81
  go_wp2_with (go_at_call 100; refine (sFloor_any _ _ _ (by omega) (by omega) (by omega) (by omega)).mono ?_; rintro e w' ⟨rfl, rfl⟩)
  go_ret
  exact ⟨rfl, rfl⟩
end Go.Proofs.Ythplngcdldongaa
namespace Go.Proofs.Ythplngcdldongaa
open Go.RowKit
set_option linter.unusedVariables false

def clp (v : Int) : Int := if v < 0 then 0 else if 65535 < v then 65535 else v
theorem clp_lo {v : Int} (h : v < 0) : clp v = 0 := by unfold clp; rw [if_pos h]
theorem clp_hi {v : Int} (h : 65535 < v) : clp v = 65535 := by unfold clp; rw [if_neg (by omega), if_pos h]
theorem clp_in {v : Int} (h : 0 ≤ v) (h' : v ≤ 65535) : clp v = v := by unfold clp; rw [if_neg (by omega), if_neg (by omega)]
/-- as levels, or as fine numbers. -/
def One (o : Int) : Prop := o = 1 ∨ o = 256
def clk (o v : Int) : Int := if v < 0 then 0 else if 65535 * o < v then 65535 * o else v
theorem clk_lo {o v : Int} (h : v < 0) : clk o v = 0 := by unfold clk; rw [if_pos h]
theorem clk_hi {o v : Int} (ho : One o) (h : 65535 * o < v) : clk o v = 65535 * o := by unfold clk; rw [if_neg (by rcases ho with rfl | rfl <;> omega), if_pos h]
theorem clk_in {o v : Int} (h : 0 ≤ v) (h' : v ≤ 65535 * o) : clk o v = v := by unfold clk; rw [if_neg (by omega), if_neg (by omega)]
theorem clk_1 (v : Int) : clk 1 v = clp v := by unfold clk clp; simp
theorem clk_bd {o : Int} (ho : One o) (v : Int) : 0 ≤ clk o v ∧ clk o v ≤ 65535 * o := by
  unfold clk
  rcases ho with rfl | rfl <;> split <;> (try split) <;> omega
set_option maxHeartbeats 800000 in
theorem clamp_any (v o : Int) (ho : One o) (w : World) : Calls Try.prog 88 #[.int .i64 v, .int .i64 o] w fun e w' => e = .returned (.int .i64 (clk o v)) ∧ w = w' := by
  by_cases h1 : v < 0
  · have HC := Lib.hid (clk_lo (o := o) h1)
    rcases ho with rfl | rfl
    all_goals
      go_enter Try.func88, Try.ntmps88
      go_wp2
      all_goals go_ret
      all_goals exact ⟨ret_int (by rw [HC.out]; try omega), rfl⟩
  · by_cases h2 : 65535 * o < v
    · have HC := Lib.hid (clk_hi ho h2)
      rcases ho with rfl | rfl
      all_goals
        go_enter Try.func88, Try.ntmps88
        go_wp2
        all_goals go_ret
        all_goals exact ⟨ret_int (by rw [HC.out]; try omega), rfl⟩
    · have HC := Lib.hid (clk_in (v := v) (o := o) (by omega) (by omega))
      rcases ho with rfl | rfl
      all_goals
        go_enter Try.func88, Try.ntmps88
        go_wp2
        all_goals go_ret
        all_goals exact ⟨ret_int (by rw [HC.out]; try omega), rfl⟩
end Go.Proofs.Ythplngcdldongaa
namespace Go.Proofs.Ythplngcdldongaa
set_option linter.unusedVariables false

/-- the i-th point. -/
def pt (ps : List Int) (i : Nat) : Int := ps.getD i 0
/-- the first k are levels. -/
def lvl (ps : List Int) : Nat → Bool
  | 0 => true
  | k + 1 => lvl ps k && inB (pt ps k) 0 65535
def cf (ps : List Int) : Int := if inB (ps.length : Int) 2 17 = false then 2 else if lvl ps ps.length = true then 0 else 3
/-- no fault. -/
structure CFine (ps : List Int) : Prop where
  lo : 2 ≤ ps.length
  hi : ps.length ≤ 17
  lv : ∀ i, 0 ≤ pt ps i ∧ pt ps i ≤ 65535
theorem lvl_get {ps : List Int} {k : Nat} (h : lvl ps k = true) : ∀ i, i < k → 0 ≤ pt ps i ∧ pt ps i ≤ 65535 := by
  induction k with
  | zero => intro i hi; omega
  | succ k ih =>
    simp only [lvl, Bool.and_eq_true] at h
    intro i hi
    by_cases e : i = k
    · subst e; exact inB_iff.1 h.2
    · exact ih h.1 i (by omega)
theorem lvl_of {ps : List Int} {k : Nat} (h : ∀ i, i < k → 0 ≤ pt ps i ∧ pt ps i ≤ 65535) : lvl ps k = true := by
  induction k with
  | zero => rfl
  | succ k ih =>
    simp only [lvl, Bool.and_eq_true]
    exact ⟨ih fun i hi => h i (by omega), inB_iff.2 (h k (by omega))⟩
theorem lvl_no {ps : List Int} {k n : Nat} (h : lvl ps k = false) (hk : k ≤ n) : lvl ps n = false := by
  rw [Bool.eq_false_iff] at h ⊢
  exact fun e => h (lvl_of fun i hi => lvl_get e i (by omega))
theorem pt_out {ps : List Int} {i : Nat} (h : ps.length ≤ i) : pt ps i = 0 := by simp [pt, List.getD, h]
theorem cfine {ps : List Int} (h : cf ps = 0) : CFine ps := by
  unfold cf at h
  by_cases h1 : inB (ps.length : Int) 2 17 = false
  · rw [if_pos h1] at h; omega
  · rw [if_neg h1] at h
    obtain ⟨a, b⟩ := inB_iff.1 (by simpa using h1)
    by_cases h2 : lvl ps ps.length = true
    · refine ⟨by omega, by omega, fun i => ?_⟩
      by_cases hi : i < ps.length
      · exact lvl_get h2 i hi
      · rw [pt_out (by omega)]; omega
    · rw [if_neg h2] at h; omega
theorem cf_zero {ps : List Int} (h : CFine ps) : cf ps = 0 := by
  have h1 := h.lo
  have h2 := h.hi
  unfold cf
  rw [if_neg (by rw [inB_t (by omega) (by omega)]; simp), if_pos (lvl_of fun i _ => h.lv i)]

/-- the true value, times 65535. -/
def ctru (ps : List Int) (v : Int) : Int :=
  let x := v * ((ps.length : Int) - 1)
  let i := (x / 65535).toNat
  let r := x % 65535
  if r = 0 then pt ps i * 65535 else pt ps i * (65535 - r) + pt ps (i + 1) * r
def cev (ps : List Int) (v : Int) : Int := rnd (ctru ps v) 65535
theorem rnd_mul (a b : Int) (hb : 0 < b) : rnd (a * b) b = a := by
  unfold rnd
  have : 2 * (a * b) + b = b + a * (2 * b) := by rw [Int.mul_left_comm]; omega
  rw [this, Int.add_mul_ediv_right _ _ (by omega), Int.ediv_eq_zero_of_lt (by omega) (by omega)]
  omega
/-- what is mixed of two levels. -/
theorem mix_bd {a b r : Int} (ha : 0 ≤ a) (ha' : a ≤ 65535) (hb : 0 ≤ b) (hb' : b ≤ 65535) (h0 : 0 ≤ r) (h1 : r ≤ 65535) : 0 ≤ a * (65535 - r) ∧ a * (65535 - r) ≤ 4294836225 ∧ 0 ≤ b * r ∧ b * r ≤ 4294836225 ∧ a * (65535 - r) + b * r ≤ 4294836225 := by
  have p1 := Int.mul_nonneg ha (by omega : 0 ≤ 65535 - r)
  have p2 := Int.mul_nonneg hb h0
  have q1 := Int.mul_le_mul_of_nonneg_right ha' (by omega : 0 ≤ 65535 - r)
  have q2 := Int.mul_le_mul_of_nonneg_right hb' h0
  have e : (65535 : Int) * (65535 - r) + 65535 * r = 4294836225 := by omega
  omega
theorem ctru_bd {ps : List Int} (h : CFine ps) (v : Int) (h0 : 0 ≤ v) (h1 : v ≤ 65535) : 0 ≤ ctru ps v ∧ ctru ps v ≤ 4294836225 := by
  unfold ctru
  simp only
  have hr0 := Int.emod_nonneg (v * ((ps.length : Int) - 1)) (by omega : (65535 : Int) ≠ 0)
  have hr1 := Int.emod_lt_of_pos (v * ((ps.length : Int) - 1)) (by omega : (0 : Int) < 65535)
  generalize (v * ((ps.length : Int) - 1)) % 65535 = r at *
  generalize (v * ((ps.length : Int) - 1) / 65535).toNat = i at *
  have a := h.lv i
  have b := h.lv (i + 1)
  split
  · omega
  · have := mix_bd a.1 a.2 b.1 b.2 hr0 (by omega)
    omega
theorem rnd_lv {a : Int} (h0 : 0 ≤ a) (h1 : a ≤ 4294836225) : 0 ≤ rnd a 65535 ∧ rnd a 65535 ≤ 65535 := by
  unfold rnd
  omega
theorem cev_lv {ps : List Int} (h : CFine ps) (v : Int) (h0 : 0 ≤ v) (h1 : v ≤ 65535) : 0 ≤ cev ps v ∧ cev ps v ≤ 65535 := by
  have := ctru_bd h v h0 h1
  exact rnd_lv this.1 this.2

/-! ### curves that do not fall -/
def mon (ps : List Int) : Nat → Bool
  | 0 => true
  | k + 1 => mon ps k && decide (pt ps k ≤ pt ps (k + 1))
theorem mon_get {ps : List Int} {k : Nat} (h : mon ps k = true) : ∀ i, i < k → pt ps i ≤ pt ps (i + 1) := by
  induction k with
  | zero => intro i hi; omega
  | succ k ih =>
    simp only [mon, Bool.and_eq_true, decide_eq_true_eq] at h
    intro i hi
    by_cases e : i = k
    · subst e; exact h.2
    · exact ih h.1 i (by omega)
theorem mon_of {ps : List Int} {k : Nat} (h : ∀ i, i < k → pt ps i ≤ pt ps (i + 1)) : mon ps k = true := by
  induction k with
  | zero => rfl
  | succ k ih =>
    simp only [mon, Bool.and_eq_true, decide_eq_true_eq]
    exact ⟨ih fun i hi => h i (by omega), h k (by omega)⟩
theorem mon_no {ps : List Int} {k n : Nat} (h : mon ps k = false) (hk : k ≤ n) : mon ps n = false := by
  rw [Bool.eq_false_iff] at h ⊢
  exact fun e => h (mon_of fun i hi => mon_get e i (by omega))
theorem mon_le {ps : List Int} {k : Nat} (h : mon ps k = true) {i j : Nat} (hij : i ≤ j) (hj : j ≤ k) : pt ps i ≤ pt ps j := by
  induction j with
  | zero => obtain rfl : i = 0 := by omega
            exact Int.le_refl _
  | succ j ih =>
    by_cases e : i = j + 1
    · subst e; exact Int.le_refl _
    · exact Int.le_trans (ih (by omega) (by omega)) (mon_get h j (by omega))
/-- IsMonotone. -/
def cmon (ps : List Int) : Bool := decide (cf ps = 0) && mon ps (ps.length - 1)
theorem rnd_mono {a b c : Int} (hc : 0 < c) (h : a ≤ b) : rnd a c ≤ rnd b c := by
  unfold rnd
  exact Int.ediv_le_ediv (by omega) (by omega)
/-- of a curve that does not fall more is never less. -/
theorem cev_mono {ps : List Int} (h : CFine ps) (hm : mon ps (ps.length - 1) = true) {v w : Int} (h0 : 0 ≤ v) (hvw : v ≤ w) (h1 : w ≤ 65535) : cev ps v ≤ cev ps w := by
  refine rnd_mono (by omega) ?_
  unfold ctru
  simp only
  have hl := h.lo
  have hN : (0 : Int) ≤ (ps.length : Int) - 1 := by omega
  have x0 := Int.mul_nonneg h0 hN
  have xm := Int.mul_le_mul_of_nonneg_right hvw hN
  have xw := Int.mul_le_mul_of_nonneg_right h1 hN
  generalize hX : v * ((ps.length : Int) - 1) = X at *
  generalize hY : w * ((ps.length : Int) - 1) = Y at *
  obtain ⟨i, hi⟩ : ∃ i : Nat, X / 65535 = i := ⟨(X / 65535).toNat, by omega⟩
  obtain ⟨j, hj⟩ : ∃ j : Nat, Y / 65535 = j := ⟨(Y / 65535).toNat, by omega⟩
  rw [hi, hj, Int.toNat_natCast, Int.toNat_natCast]
  have rX0 : 0 ≤ X % 65535 := by omega
  have rX1 : X % 65535 < 65535 := by omega
  have rY0 : 0 ≤ Y % 65535 := by omega
  have rY1 : Y % 65535 < 65535 := by omega
  have eX : X = 65535 * i + X % 65535 := by omega
  have eY : Y = 65535 * j + Y % 65535 := by omega
  have hjn : (j : Int) ≤ (ps.length : Int) - 1 := by omega
  generalize X % 65535 = r at *
  generalize Y % 65535 = s at *
  have hjs : s ≠ 0 → j + 1 ≤ ps.length - 1 := by intro hs; omega
  have hir : r ≠ 0 → i + 1 ≤ ps.length - 1 := by intro hs; omega
  -- both as p_i * 65535 + (p_{i+1} - p_i) * r
  have e1 : ∀ a b t : Int, a * (65535 - t) + b * t = a * 65535 + (b - a) * t := by
    intro a b t; rw [Int.mul_sub, Int.sub_mul]; omega
  have lo2 : pt ps j * 65535 ≤ (if s = 0 then pt ps j * 65535 else pt ps j * (65535 - s) + pt ps (j + 1) * s) := by
    split
    · exact Int.le_refl _
    · rename_i hs
      rw [e1]
      have := mon_get hm j (by have := hjs hs; omega)
      have := Int.mul_nonneg (by omega : 0 ≤ pt ps (j + 1) - pt ps j) rY0
      omega
  by_cases hij : i < j
  · refine Int.le_trans ?_ lo2
    have hle : pt ps (i + 1) ≤ pt ps j := mon_le hm (by omega) (by omega)
    have hle0 : pt ps i ≤ pt ps (i + 1) := mon_get hm i (by omega)
    split
    · omega
    · rw [e1]
      have := Int.mul_le_mul_of_nonneg_left (by omega : r ≤ 65535) (by omega : 0 ≤ pt ps (i + 1) - pt ps i)
      omega
  · have hij' : i = j := by omega
    subst hij'
    by_cases hr : r = 0
    · rw [if_pos hr]; exact lo2
    · have hs : s ≠ 0 := by omega
      rw [if_neg hr, if_neg hs, e1, e1]
      have := mon_get hm i (by have := hir hr; omega)
      have := Int.mul_le_mul_of_nonneg_left (by omega : r ≤ s) (by omega : 0 ≤ pt ps (i + 1) - pt ps i)
      omega

/-! ### the least level that comes so far -/
def srch (ps : List Int) (y : Int) (lo hi : Nat) : Nat :=
  if h : lo < hi then if cev ps (((lo + hi) / 2 : Nat) : Int) < y then srch ps y ((lo + hi) / 2 + 1) hi else srch ps y lo ((lo + hi) / 2) else lo
termination_by hi - lo
theorem srch_end (ps : List Int) (y : Int) (lo : Nat) : srch ps y lo lo = lo := by rw [srch]; simp
theorem srch_up {ps : List Int} {y : Int} {lo hi : Nat} (h : lo < hi) (hc : cev ps (((lo + hi) / 2 : Nat) : Int) < y) : srch ps y lo hi = srch ps y ((lo + hi) / 2 + 1) hi := by
  rw [srch, dif_pos h, if_pos hc]
theorem srch_down {ps : List Int} {y : Int} {lo hi : Nat} (h : lo < hi) (hc : ¬ cev ps (((lo + hi) / 2 : Nat) : Int) < y) : srch ps y lo hi = srch ps y lo ((lo + hi) / 2) := by
  rw [srch, dif_pos h, if_neg hc]
/-- what was found: not less than y there, less than y one ahead. -/
theorem srch_is {ps : List Int} {y : Int} : ∀ (d lo hi : Nat), hi - lo = d → lo ≤ hi → ¬ cev ps (hi : Int) < y → (lo = 0 ∨ cev ps ((lo : Int) - 1) < y) →
    lo ≤ srch ps y lo hi ∧ srch ps y lo hi ≤ hi ∧ ¬ cev ps (srch ps y lo hi : Int) < y ∧ (srch ps y lo hi = 0 ∨ cev ps ((srch ps y lo hi : Int) - 1) < y) := by
  intro d
  induction d using Nat.strongRecOn with
  | ind d ih =>
    intro lo hi hd hle h1 h2
    by_cases h : lo < hi
    · by_cases hc : cev ps (((lo + hi) / 2 : Nat) : Int) < y
      · rw [srch_up h hc]
        obtain ⟨a, b, c⟩ := ih (hi - ((lo + hi) / 2 + 1)) (by omega) ((lo + hi) / 2 + 1) hi rfl (by omega) h1 (.inr (by
          have : (((lo + hi) / 2 + 1 : Nat) : Int) - 1 = (((lo + hi) / 2 : Nat) : Int) := by omega
          rw [this]; exact hc))
        exact ⟨by omega, b, c⟩
      · rw [srch_down h hc]
        obtain ⟨a, b, c⟩ := ih ((lo + hi) / 2 - lo) (by omega) lo ((lo + hi) / 2) rfl (by omega) hc h2
        exact ⟨a, by omega, c⟩
    · obtain rfl : lo = hi := by omega
      rw [srch_end]
      exact ⟨Nat.le_refl _, Nat.le_refl _, h1, h2⟩
theorem srch_le (ps : List Int) (y : Int) : ∀ (d lo hi : Nat), hi - lo = d → lo ≤ hi → lo ≤ srch ps y lo hi ∧ srch ps y lo hi ≤ hi := by
  intro d
  induction d using Nat.strongRecOn with
  | ind d ih =>
    intro lo hi hd hle
    by_cases h : lo < hi
    · by_cases hc : cev ps (((lo + hi) / 2 : Nat) : Int) < y
      · rw [srch_up h hc]
        have := ih (hi - ((lo + hi) / 2 + 1)) (by omega) ((lo + hi) / 2 + 1) hi rfl (by omega)
        omega
      · rw [srch_down h hc]
        have := ih ((lo + hi) / 2 - lo) (by omega) lo ((lo + hi) / 2) rfl (by omega)
        omega
    · obtain rfl : lo = hi := by omega
      rw [srch_end]; omega
def solC (ps : List Int) (y : Int) : Int := if cf ps ≠ 0 then cf ps else if mon ps (ps.length - 1) = false then 8 else if inB y 0 65535 = false then 3 else if pt ps (ps.length - 1) < y then 4 else 0
def solV (ps : List Int) (y : Int) : Int := if solC ps y = 0 then (srch ps y 0 65535 : Nat) else 0
/-- at the last level a curve is its last point. -/
theorem cev_last {ps : List Int} (h : CFine ps) : cev ps 65535 = pt ps (ps.length - 1) := by
  have hl := h.lo
  unfold cev ctru
  simp only
  have e1 : (65535 : Int) * ((ps.length : Int) - 1) % 65535 = 0 := Int.mul_emod_right _ _
  have e2 : ((65535 : Int) * ((ps.length : Int) - 1) / 65535).toNat = ps.length - 1 := by rw [Int.mul_ediv_cancel_left _ (by omega)]; omega
  rw [e1, if_pos rfl, e2, rnd_mul _ _ (by omega)]

/-! ### slopes -/
def slo (ps : List Int) : Nat → Int
  | 0 => 0
  | k + 1 => max (slo ps k) (max (pt ps (k + 1) - pt ps k) (pt ps k - pt ps (k + 1)))
theorem slo_bd {ps : List Int} (h : CFine ps) (k : Nat) : 0 ≤ slo ps k ∧ slo ps k ≤ 65535 := by
  induction k with
  | zero => simp only [slo]; omega
  | succ k ih =>
    have a := h.lv k
    have b := h.lv (k + 1)
    simp only [slo]; omega
def slpV (ps : List Int) : Int := if cf ps = 0 then slo ps (ps.length - 1) * ((ps.length : Int) - 1) else 0
def evC (ps : List Int) (v : Int) : Int := if cf ps ≠ 0 then cf ps else if inB v 0 65535 = false then 3 else 0
def evV (ps : List Int) (v : Int) : Int := if evC ps v = 0 then cev ps v else 0
/-! ### levels or fine numbers -/
/-- what is mixed of two levels, in parts of T. -/
theorem mix_bdT {a b r T : Int} (hT : 0 ≤ T) (ha : 0 ≤ a) (ha' : a ≤ 65535) (hb : 0 ≤ b) (hb' : b ≤ 65535) (h0 : 0 ≤ r) (h1 : r ≤ T) : 0 ≤ a * (T - r) ∧ a * (T - r) ≤ 65535 * T ∧ 0 ≤ b * r ∧ b * r ≤ 65535 * T ∧ a * (T - r) + b * r ≤ 65535 * T := by
  have p1 := Int.mul_nonneg ha (by omega : 0 ≤ T - r)
  have p2 := Int.mul_nonneg hb h0
  have q1 := Int.mul_le_mul_of_nonneg_right ha' (by omega : 0 ≤ T - r)
  have q2 := Int.mul_le_mul_of_nonneg_right hb' h0
  have e : (65535 : Int) * (T - r) + 65535 * r = 65535 * T := by omega
  omega
/-- the true value in levels, times T. -/
def ctrT (T : Int) (ps : List Int) (v : Int) : Int :=
  let x := v * ((ps.length : Int) - 1)
  let i := (x / T).toNat
  let r := x % T
  if r = 0 then pt ps i * T else pt ps i * (T - r) + pt ps (i + 1) * r
def cevo (o : Int) (ps : List Int) (v : Int) : Int := rnd (ctrT (65535 * o) ps v * o) (65535 * o)
theorem cevo_1 (ps : List Int) (v : Int) : cevo 1 ps v = cev ps v := by
  unfold cevo cev
  rw [Int.mul_one, Int.mul_one]
  rfl
theorem ctrT_bd {T : Int} (hT : 0 < T) {ps : List Int} (h : CFine ps) (v : Int) : 0 ≤ ctrT T ps v ∧ ctrT T ps v ≤ 65535 * T := by
  unfold ctrT
  simp only
  have hr0 := Int.emod_nonneg (v * ((ps.length : Int) - 1)) (by omega : T ≠ 0)
  have hr1 := Int.emod_lt_of_pos (v * ((ps.length : Int) - 1)) hT
  generalize (v * ((ps.length : Int) - 1)) % T = r at *
  generalize (v * ((ps.length : Int) - 1) / T).toNat = i at *
  have a := h.lv i
  have b := h.lv (i + 1)
  split
  · exact ⟨Int.mul_nonneg a.1 (by omega), Int.mul_le_mul_of_nonneg_right a.2 (by omega)⟩
  · have := mix_bdT (by omega) a.1 a.2 b.1 b.2 hr0 (by omega : r ≤ T)
    omega
theorem cevo_bd {o : Int} (ho : o = 1 ∨ o = 256) {ps : List Int} (h : CFine ps) (v : Int) : 0 ≤ cevo o ps v ∧ cevo o ps v ≤ 65535 * o := by
  have := ctrT_bd (T := 65535 * o) (by rcases ho with rfl | rfl <;> omega) h v
  unfold cevo rnd
  rcases ho with rfl | rfl <;> omega
end Go.Proofs.Ythplngcdldongaa
