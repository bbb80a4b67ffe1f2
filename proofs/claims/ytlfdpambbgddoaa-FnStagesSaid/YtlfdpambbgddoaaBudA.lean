/-
  Whole numbers below 2 to the 53rd as floats: written, read, added, exactly. What is said of budgets, as data.
-/
import Derived.Laws.ComplexArith
import Derived.Test.YtlfdpambbgddoaaSlpA
namespace Go.Proofs.Ytlfdpambbgddoaa
open Go.RowKit Go.Maps
set_option linter.unusedVariables false
set_option linter.unusedSimpArgs false

theorem dbl_least : Ieee.double.leastPlace = -1074 := by decide
theorem dbl_binade : Ieee.double.binade = 4503599627370496 := by decide
theorem dbl_inf : Ieee.double.infRung = 2047 * 4503599627370496 := by decide
theorem dbl_sign : Ieee.double.signWeight = 2048 * 4503599627370496 := by decide
theorem dbl_frac : Ieee.double.fractionBits = 52 := rfl

theorem cut_even0 (neg : Bool) (n : Nat) : Ieee.Toward.even.cut neg n 0 = n := by
  unfold Ieee.Toward.cut
  simp [Nat.mod_one]
theorem cut_pow (way : Ieee.Toward) (neg : Bool) (n d : Nat) (h : n ≠ 0) : way.cut neg (n * 2 ^ d) d = n := by
  have hp : 0 < 2 ^ d := Nat.two_pow_pos d
  have hl : d ≤ (n * 2 ^ d).log2 := by
    rw [Nat.le_log2 (Nat.mul_ne_zero h (Nat.ne_of_gt hp))]
    exact Nat.le_mul_of_pos_left _ (Nat.pos_of_ne_zero h)
  unfold Ieee.Toward.cut
  have hm : min d ((n * 2 ^ d).log2 + 2) = d := by omega
  simp only [hm, Nat.one_shiftLeft, Nat.mul_mod_left, Nat.mul_div_cancel _ hp]
  cases way <;> simp

/-- The word of a whole number below 2 to the 53rd, however it is scaled. -/
def flw (n : Nat) : Nat := if n = 0 then 0 else (n.log2 + 1022) * 4503599627370496 + n * 2 ^ (52 - n.log2)
theorem log_53 {n : Nat} (h0 : n ≠ 0) (h : n < 2 ^ 53) : n.log2 ≤ 52 := by
  have := (Nat.log2_lt h0).2 h
  omega
theorem mant_53 {n : Nat} (h0 : n ≠ 0) (h : n < 2 ^ 53) : 4503599627370496 ≤ n * 2 ^ (52 - n.log2) ∧ n * 2 ^ (52 - n.log2) < 2 * 4503599627370496 := by
  have hk := log_53 h0 h
  have h1 := Nat.log2_self_le h0
  have h2 := Nat.lt_log2_self (n := n)
  have e : 2 ^ n.log2 * 2 ^ (52 - n.log2) = 4503599627370496 := by rw [← Nat.pow_add, show n.log2 + (52 - n.log2) = 52 by omega]
  have hp : 0 < 2 ^ (52 - n.log2) := Nat.two_pow_pos _
  have a1 := Nat.mul_le_mul_right (2 ^ (52 - n.log2)) h1
  have a2 := Nat.mul_lt_mul_of_pos_right h2 hp
  rw [Nat.pow_succ] at a2
  have a3 : 2 ^ n.log2 * 2 * 2 ^ (52 - n.log2) = 2 * (2 ^ n.log2 * 2 ^ (52 - n.log2)) := by rw [Nat.mul_comm (2 ^ n.log2) 2, Nat.mul_assoc]
  omega
theorem log_scale {n : Nat} (h0 : n ≠ 0) (p : Nat) : (n * 2 ^ p).log2 = n.log2 + p := by
  have hp : 0 < 2 ^ p := Nat.two_pow_pos p
  have hz : n * 2 ^ p ≠ 0 := Nat.mul_ne_zero h0 (Nat.ne_of_gt hp)
  rw [Nat.log2_eq_iff hz]
  constructor
  · rw [Nat.pow_add]; exact Nat.mul_le_mul_right _ (Nat.log2_self_le h0)
  · rw [show n.log2 + p + 1 = n.log2 + 1 + p by omega, Nat.pow_add]
    exact Nat.mul_lt_mul_of_pos_right Nat.lt_log2_self hp
theorem nearest_scale (n p : Nat) (h : n < 2 ^ 53) : Ieee.double.nearest false (n * 2 ^ p) (-(p : Int)) = flw n := by
  unfold Ieee.Format.nearest flw
  by_cases h0 : n = 0
  · subst h0; simp [Ieee.Format.word]
  · have hp : 0 < 2 ^ p := Nat.two_pow_pos p
    have hz : n * 2 ^ p ≠ 0 := Nat.mul_ne_zero h0 (Nat.ne_of_gt hp)
    have hk := log_53 h0 h
    have hm := mant_53 h0 h
    rw [if_neg hz, if_neg h0]
    simp only [dbl_least, dbl_frac, dbl_binade, dbl_inf, log_scale h0]
    have e1 : max (-(p : Int) + ((n.log2 + p : Nat) : Int) - ((52 : Nat) : Int)) (-1074) = (n.log2 : Int) - 52 := by omega
    rw [e1]
    have ek : Ieee.Toward.even.cut false ((n * 2 ^ p) <<< (-(p : Int) - ((n.log2 : Int) - 52)).toNat) (((n.log2 : Int) - 52) - -(p : Int)).toNat = n * 2 ^ (52 - n.log2) := by
      by_cases hc : p ≤ 52 - n.log2
      · rw [show (((n.log2 : Int) - 52) - -(p : Int)).toNat = 0 by omega, cut_even0, Nat.shiftLeft_eq, Nat.mul_assoc, ← Nat.pow_add, show p + (-(p : Int) - ((n.log2 : Int) - 52)).toNat = 52 - n.log2 by omega]
      · rw [show (-(p : Int) - ((n.log2 : Int) - 52)).toNat = 0 by omega, Nat.shiftLeft_zero]
        have es : n * 2 ^ p = n * 2 ^ (52 - n.log2) * 2 ^ (((n.log2 : Int) - 52) - -(p : Int)).toNat := by
          rw [Nat.mul_assoc, ← Nat.pow_add, show 52 - n.log2 + (((n.log2 : Int) - 52) - -(p : Int)).toNat = p by omega]
        rw [es]
        exact cut_pow _ _ _ _ (by omega)
    rw [ek, show ((n.log2 : Int) - 52 - -1074).toNat = n.log2 + 1022 by omega]
    simp only [Ieee.Format.word, Bool.false_eq_true, if_false]
    omega
theorem read_flw {n : Nat} (h0 : n ≠ 0) (h : n < 2 ^ 53) : Ieee.double.read (flw n) = .number false (n * 2 ^ (52 - n.log2)) ((n.log2 : Int) - 52) := by
  have hk := log_53 h0 h
  have hm := mant_53 h0 h
  unfold Ieee.Format.read flw
  rw [if_neg h0]
  simp only [dbl_least, dbl_binade, dbl_inf, dbl_sign]
  obtain ⟨M, hM⟩ : ∃ M, M = n * 2 ^ (52 - n.log2) := ⟨_, rfl⟩
  rw [← hM] at hm ⊢
  have a1 : ((n.log2 + 1022) * 4503599627370496 + M) / (2048 * 4503599627370496) = 0 := by omega
  have a2 : ((n.log2 + 1022) * 4503599627370496 + M) % (2048 * 4503599627370496) = (n.log2 + 1022) * 4503599627370496 + M := by omega
  rw [a1, a2, if_neg (by omega), if_pos (by omega)]
  have a3 : ((n.log2 + 1022) * 4503599627370496 + M) % 4503599627370496 = M - 4503599627370496 := by omega
  have a4 : ((n.log2 + 1022) * 4503599627370496 + M) / 4503599627370496 = n.log2 + 1023 := by omega
  rw [a3, a4]
  have a5 : 4503599627370496 + (M - 4503599627370496) = M := by omega
  have a6 : (-1074 : Int) + ((n.log2 + 1023 - 1 : Nat) : Int) = (n.log2 : Int) - 52 := by omega
  rw [a5, a6]
  rfl
theorem read_0 : Ieee.double.read 0 = .number false 0 (-1074) := by decide
/-- A word that stands for a whole number. -/
theorem read_any (n : Nat) (h : n < 2 ^ 53) : ∃ p : Nat, Ieee.double.read (flw n) = .number false (n * 2 ^ p) (-(p : Int)) := by
  by_cases h0 : n = 0
  · subst h0
    obtain ⟨p, hp⟩ : ∃ p : Nat, (-1074 : Int) = -(p : Int) := ⟨1074, rfl⟩
    exact ⟨p, by rw [show flw 0 = 0 from rfl, read_0, Nat.zero_mul, hp]⟩
  · refine ⟨52 - n.log2, ?_⟩
    have hk := log_53 h0 h
    rw [read_flw h0 h]
    congr 1
    omega
theorem floatOfInt_nat (n : Nat) (h : n < 2 ^ 53) : floatOfInt .f64 (n : Int) = flw n := by
  have := nearest_scale n 0 h
  simp only [Nat.pow_zero, Nat.mul_one] at this
  unfold floatOfInt FloatKind.nearest FloatKind.encode
  simp only [FloatKind.format, Ieee.Format.write]
  rw [← this]
  have e : decide ((n : Int) < 0) = false := by simp
  rw [e]; rfl
theorem toInt_flw (n : Nat) (h : n < 2 ^ 53) : floatToIntVal .f64 (flw n) .i64 = some (n : Int) := by
  obtain ⟨p, hp⟩ := read_any n h
  unfold floatToIntVal FloatKind.decode
  simp only [FloatKind.format]
  rw [hp]
  simp only [Ieee.Datum.toInt, Ieee.Datum.integral]
  have e1 : (-(p : Int)).toNat = 0 := by omega
  have e2 : (- -(p : Int)).toNat = p := by omega
  rw [e1, e2, Nat.shiftLeft_zero]
  have e3 : Ieee.Toward.zero.cut false (n * 2 ^ p) p = n := by
    by_cases h0 : n = 0
    · subst h0; simp [Ieee.Toward.cut]
    · exact cut_pow _ _ _ _ h0
  rw [e3]
  simp only [Ieee.signed, Bool.false_eq_true, if_false, Nat.shiftLeft_zero]
  rw [if_pos]
  constructor
  · show IntKind.min .i64 ≤ (n : Int); have : IntKind.min .i64 = -9223372036854775808 := by decide
    omega
  · show (n : Int) ≤ IntKind.max .i64; have : IntKind.max .i64 = 9223372036854775807 := by decide
    omega
theorem add_flw (a b : Nat) (h : a + b < 2 ^ 53) : floatBits .add .f64 (flw a) (flw b) = some (flw (a + b)) := by
  obtain ⟨p, hp⟩ := read_any a (by omega)
  obtain ⟨q, hq⟩ := read_any b (by omega)
  simp only [floatBits, FloatKind.format, Ieee.Format.add]
  rw [hp, hq]
  simp only [Ieee.Datum.sum, Option.map, Ieee.signed, Bool.false_eq_true, if_false, Bool.and_self]
  obtain ⟨m, hm⟩ : ∃ m, m = max p q := ⟨_, rfl⟩
  have e0 : min (-(p : Int)) (-(q : Int)) = -(m : Int) := by omega
  rw [e0]
  have e1 : (-(p : Int) - -(m : Int)).toNat = m - p := by omega
  have e2 : (-(q : Int) - -(m : Int)).toNat = m - q := by omega
  rw [e1, e2, Nat.shiftLeft_eq, Nat.shiftLeft_eq, Nat.mul_assoc, Nat.mul_assoc, ← Nat.pow_add, ← Nat.pow_add, show p + (m - p) = m by omega, show q + (m - q) = m by omega]
  have e3 : ((a * 2 ^ m : Nat) : Int) + ((b * 2 ^ m : Nat) : Int) = (((a + b) * 2 ^ m : Nat) : Int) := by rw [Nat.add_mul]; push_cast; rfl
  rw [e3, Int.natAbs_natCast]
  have e4 : (if (((a + b) * 2 ^ m : Nat) : Int) = 0 then false else decide ((((a + b) * 2 ^ m : Nat) : Int) < 0)) = false := by
    split
    · rfl
    · exact decide_eq_false (by have := Int.natCast_nonneg ((a + b) * 2 ^ m); omega)
  simp only [e4, Ieee.Format.write]
  rw [nearest_scale _ _ h]
theorem cadd_flw (a b c d : Nat) (h1 : a + c < 2 ^ 53) (h2 : b + d < 2 ^ 53) : cSumBits .add .f64 (flw a) (flw b) (flw c) (flw d) = some (flw (a + c), flw (b + d)) := by
  unfold cSumBits
  rw [add_flw _ _ h1, add_flw _ _ h2]
  rfl

/-! ### budgets -/
theorem chf_zr {ts : List Stg} (h : chf ts = 0) : ts.length ≤ 5 ∧ sgL ts ts.length = 0 := by
  unfold chf at h
  by_cases h5 : 5 < ts.length
  · rw [if_pos h5] at h; omega
  · rw [if_neg h5] at h; exact ⟨by omega, h⟩
theorem sl_bd {t : Stg} (h : sgf t = 0) : 0 ≤ slN t ∧ slN t ≤ 1048560 ∧ 65535 ≤ slD t ∧ slD t ≤ 65536 ∧ slN t ≤ 16 * slD t := by
  obtain ⟨-, ⟨kd, hff⟩ | ⟨kd, hff⟩ | ⟨kd, hff⟩⟩ := sgf_zero h
  · have b := mxC_bd (crF_fine hff).2 3 (Nat.le_refl _)
    unfold slN slD
    rw [if_pos kd, if_neg (by omega)]
    omega
  · have b := mxR_bd hff 3 (Nat.le_refl _)
    unfold slN slD
    rw [if_neg (by omega), if_pos kd, if_pos kd]
    omega
  · obtain ⟨s, hs⟩ : ∃ s : Nat, t.sd = s := ⟨t.sd.toNat, by have := inB_iff.1 (gf_zero hff).1; omega⟩
    have h3 := side_cases (gf_zero hff).1
    rw [hs] at hff h3
    have b := spV_bd hff
    unfold slN slD
    rw [if_neg (by omega), if_neg (by omega), if_neg (by omega), hs]
    rcases h3 with e | e | e <;> rw [e] at b ⊢ <;> omega
/-- rounded up. -/
def upV (a b : Int) : Int := (a + b - 1) / b
theorem upV_bd {x n d : Int} (hx : 0 ≤ x) (hn : 0 ≤ n) (hd : 0 < d) (h : n ≤ 16 * d) : 0 ≤ upV (x * n) d ∧ upV (x * n) d ≤ 16 * x := by
  have h0 : 0 ≤ x * n := Int.mul_nonneg hx hn
  have h1 : x * n ≤ x * (16 * d) := Int.mul_le_mul_of_nonneg_left h hx
  have h2 : x * (16 * d) = 16 * x * d := by rw [← Int.mul_assoc, Int.mul_comm x 16]
  unfold upV
  refine ⟨Int.ediv_nonneg (by omega) (by omega), ?_⟩
  have : (x * n + d - 1) / d < 16 * x + 1 := by
    refine Int.ediv_lt_of_lt_mul hd ?_
    rw [Int.add_mul, Int.one_mul]
    omega
  omega
def budV (q : Int) (ts : List Stg) : Nat → Int
  | 0 => 0
  | k + 1 => upV (budV q ts k * slN (st_ ts k)) (slD (st_ ts k)) + q
def budB : Nat → Int
  | 0 => 0
  | k + 1 => 16 * budB k + 128
theorem budB_le : ∀ k, k ≤ 5 → 0 ≤ budB k ∧ budB k ≤ 8947840 := by
  intro k hk
  match k, hk with
  | 0, _ => simp [budB]
  | 1, _ => simp [budB]
  | 2, _ => simp [budB]
  | 3, _ => simp [budB]
  | 4, _ => simp [budB]
  | 5, _ => simp [budB]
theorem budV_bd {q : Int} (hq : 0 ≤ q ∧ q ≤ 128) {ts : List Stg} (h : ∀ i, i < ts.length → sgf (st_ ts i) = 0) (h5 : ts.length ≤ 5) : ∀ k, k ≤ ts.length → 0 ≤ budV q ts k ∧ budV q ts k ≤ 8947840 := by
  have key : ∀ k, k ≤ ts.length → 0 ≤ budV q ts k ∧ budV q ts k ≤ budB k := by
    intro k
    induction k with
    | zero => intro _; simp [budV, budB]
    | succ k ih =>
      intro hk
      have a := ih (by omega)
      have s := sl_bd (h k (by omega))
      have u := upV_bd a.1 s.1 (by omega) s.2.2.2.2
      simp only [budV, budB]
      omega
  intro k hk
  have a := key k hk
  have b := budB_le k (by omega)
  omega
/-- the code, and what is told. -/
def bgV (q : Int) (ts : List Stg) : Int := if chf ts = 0 then budV q ts ts.length else 0
theorem bgV_n {q : Int} {ts : List Stg} (h : chf ts ≠ 0) : bgV q ts = 0 := by unfold bgV; rw [if_neg h]
theorem bgV_y {q : Int} {ts : List Stg} (h : chf ts = 0) : bgV q ts = budV q ts ts.length := by unfold bgV; rw [if_pos h]
/-- the word of a budget. -/
def flI (z : Int) : Nat := flw z.toNat
theorem flI_of {z : Int} (h : 0 ≤ z ∧ z ≤ 100000000000) : floatOfInt .f64 z = flI z := by
  have := floatOfInt_nat z.toNat (by omega)
  rw [show ((z.toNat : Nat) : Int) = z by omega] at this
  exact this
theorem flI_to {z : Int} (h : 0 ≤ z ∧ z ≤ 100000000000) : floatToIntVal .f64 (flI z) .i64 = some z := by
  have := toInt_flw z.toNat (by omega)
  rw [show ((z.toNat : Nat) : Int) = z by omega] at this
  exact this
theorem flI_add {a b c d : Int} (ha : 0 ≤ a ∧ a ≤ 100000000000) (hb : 0 ≤ b ∧ b ≤ 100000000000) (hc : 0 ≤ c ∧ c ≤ 100000000000) (hd : 0 ≤ d ∧ d ≤ 100000000000) :
    cSumBits .add .f64 (flI a) (flI b) (flI c) (flI d) = some (flI (a + c), flI (b + d)) := by
  have := cadd_flw a.toNat b.toNat c.toNat d.toNat (by omega) (by omega)
  rw [show a.toNat + c.toNat = (a + c).toNat by omega, show b.toNat + d.toNat = (b + d).toNat by omega] at this
  exact this
end Go.Proofs.Ytlfdpambbgddoaa
