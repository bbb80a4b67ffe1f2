/-
  UnitStage, by the program and by the reference model.
-/
import Derived.Test.YtdjifaaofefpoaaNotC
namespace Go.Proofs.Ytdjifaaofefpoaa
open Go.RowKit Go.Maps
set_option linter.unusedVariables false
set_option linter.unusedSimpArgs false

def unC (k : Int) : Int := if k = 1 ∨ k = 2 ∨ k = 3 then 0 else 3
def unS (k : Int) : Stg := if k = 1 then nt1 else if k = 2 then nt2 else if k = 3 then nt3 else stZ
/-- a stage's three lists, of one's own, of any capacity. -/
def OwnS3 (w : World) (t : Stg) (s1 s2 s3 : Value) (lo hi : Nat) : Prop := ∃ p q, Own w (rowsD t.cs) s1 lo p ∧ Own w (rowsD t.rs) s2 p q ∧ Own w (rowsD t.ns) s3 q hi ∧ lo ≤ p ∧ p ≤ q ∧ q ≤ hi
def UnAns (w : World) (k : Int) (e : Ending) (w' : World) : Prop :=
  ∃ B1 m1 d1 B2 m2 d2 B3 m3 d3, e = .returned (.agg #[.int .i64 (unC k), .int .i64 (unS k).kd, .slice B1 m1 d1, .slice B2 m2 d2, .int .i64 (unS k).sd, .slice B3 m3 d3]) ∧
    OwnS3 w' (unS k) (.slice B1 m1 d1) (.slice B2 m2 d2) (.slice B3 m3 d3) w.heap.size w'.heap.size ∧ Below w.heap.size w w'
theorem ownN (w : World) (lo hi : Nat) : Own w (rowsD []) (.slice none 0 0) lo hi := Own.snil _ _ _ _ _ _ (Nat.zero_le _)
theorem OwnS3.a {w : World} {B : Option Addr} {n c lo hi : Nat} (h : Own w (rowsD nt1.cs) (.slice B n c) lo hi) (l : lo ≤ hi) : OwnS3 w nt1 (.slice B n c) (.slice none 0 0) (.slice none 0 0) lo hi := ⟨hi, hi, h, ownN _ _ _, ownN _ _ _, l, Nat.le_refl _, Nat.le_refl _⟩
theorem OwnS3.b {w : World} {B : Option Addr} {n c lo hi : Nat} (h : Own w (rowsD nt2.rs) (.slice B n c) lo hi) (l : lo ≤ hi) : OwnS3 w nt2 (.slice none 0 0) (.slice B n c) (.slice none 0 0) lo hi := ⟨lo, hi, ownN _ _ _, h, ownN _ _ _, Nat.le_refl _, l, Nat.le_refl _⟩
theorem OwnS3.d {w : World} {B : Option Addr} {n c lo hi : Nat} (h : Own w (rowsD nt3.ns) (.slice B n c) lo hi) (l : lo ≤ hi) : OwnS3 w nt3 (.slice none 0 0) (.slice none 0 0) (.slice B n c) lo hi := ⟨lo, lo, ownN _ _ _, ownN _ _ _, h, Nat.le_refl _, Nat.le_refl _, l⟩
theorem OwnS3.z (w : World) {lo hi : Nat} (l : lo ≤ hi) : OwnS3 w stZ (.slice none 0 0) (.slice none 0 0) (.slice none 0 0) lo hi := ⟨lo, lo, ownN _ _ _, ownN _ _ _, ownN _ _ _, Nat.le_refl _, Nat.le_refl _, l⟩
theorem unS_1 : unC 1 = 0 ∧ unS 1 = nt1 := by unfold unC unS; simp
theorem unS_2 : unC 2 = 0 ∧ unS 2 = nt2 := by unfold unC unS; simp
theorem unS_3 : unC 3 = 0 ∧ unS 3 = nt3 := by unfold unC unS; simp
theorem unS_n {k : Int} (h1 : ¬ k = 1) (h2 : ¬ k = 2) (h3 : ¬ k = 3) : unC k = 3 ∧ unS k = stZ := by unfold unC unS; simp [h1, h2, h3]
set_option maxRecDepth 100000 in
set_option maxHeartbeats 8000000 in
theorem UnitStage_any (kd : Int) (w : World) : Calls Try.prog 31 #[.int .i64 kd] w (UnAns w kd) := by
  obtain ⟨W0, hW0⟩ : ∃ W0, W0 = w.alloc (.cells #[.int .i64 0, .int .i64 0, .slice none 0 0, .slice none 0 0, .int .i64 0, .slice none 0 0] 66) := ⟨_, rfl⟩
  have R0 : Hid (Bx W0 w.heap.size [.int .i64 0, .int .i64 0, .slice none 0 0, .slice none 0 0, .int .i64 0, .slice none 0 0]) := by show Bx _ _ _; rw [hW0]; exact Bx.new _ _ _ rfl
  have T0 : Hid (Below w.heap.size w W0) := by show Below _ _ _; rw [hW0]; exact blAlloc _ _
  have hz0 : W0.heap.size = w.heap.size + 1 := by rw [hW0]; simp
  have HZ := Lib.hid hz0
  have HW := Lib.hid hW0
  clear hW0 hz0
  go_enter Try.func31, Try.ntmps31
  go_wp2_with fail
  rw [← HW.out]
  clear HW
  refine (nothings_any _).mono ?_
  rintro e w1 ⟨g, B1, k1, B2, k2, B3, k3, B4, k4, l1, l2, l3, l4, rfl, hn, hb⟩
  have R1 := Lib.hid (R0.out.bel hb)
  have T1 := Lib.hid (blThen T0.out hb)
  have hx := hn.x
  have HN := Lib.hid hn
  have X0 := Lib.hid (hx.c 0 rfl)
  have X1 := Lib.hid (hx.c 1 rfl)
  have X2 := Lib.hid (hx.c 2 rfl)
  have X3 := Lib.hid (hx.c 3 rfl)
  have X4 := Lib.hid (hx.c 4 rfl)
  have X5 := Lib.hid (hx.c 5 rfl)
  have X6 := Lib.hid (hx.c 6 rfl)
  have X7 := Lib.hid (hx.c 7 rfl)
  have X8 := Lib.hid (hx.c 8 rfl)
  have X9 := Lib.hid (hx.c 9 rfl)
  have X10 := Lib.hid (hx.c 10 rfl)
  have X11 := Lib.hid (hx.c 11 rfl)
  have X12 := Lib.hid (hx.c 12 rfl)
  have X13 := Lib.hid (hx.c 13 rfl)
  have X14 := Lib.hid (hx.c 14 rfl)
  have X15 := Lib.hid (hx.c 15 rfl)
  have X16 := Lib.hid (hx.c 16 rfl)
  have X17 := Lib.hid (hx.c 17 rfl)
  have X18 := Lib.hid (hx.c 18 rfl)
  have X19 := Lib.hid (hx.c 19 rfl)
  clear hx hn hb R0
  go_wp2_with fail
  go_loopw [7] (fun i wr => Hid (Below w1.heap.size w1 wr) ∧ ((i = .int .i64 0) ∨ (i = .int .i64 1 ∧ Hid (¬ kd = 1)) ∨ (i = .int .i64 2 ∧ Hid (¬ kd = 1) ∧ Hid (¬ kd = 2)) ∨ (i = .int .i64 3 ∧ Hid (¬ kd = 1) ∧ Hid (¬ kd = 2) ∧ Hid (¬ kd = 3)) ∨ (i = .int .i64 4 ∧ Hid (¬ kd = 1) ∧ Hid (¬ kd = 2) ∧ Hid (¬ kd = 3)))) (fun i _ => 4 - (intOf i).toNat)
  case atStart => exact ⟨Below.refl _ _, .inl rfl⟩
  case round =>
    obtain ⟨HB, rfl | ⟨rfl, q1⟩ | ⟨rfl, q1, q2⟩ | ⟨rfl, q1, q2, q3⟩ | ⟨rfl, q1, q2, q3⟩⟩ := hrel
    · have y0 := cell_later HB.out X0.out
      have y1 := cell_later HB.out X1.out
      have y2 := cell_later HB.out X2.out
      have y3 := cell_later HB.out X3.out
      have y4 := cell_later HB.out X4.out
      have yl := cell_lt y0
      have RR := Lib.hid (R1.out.bel HB.out)
      by_cases hk0 : kd = 1
      · subst hk0
        have r0 := RR.out.c 0 rfl
        have q0f := RR.out.f 0
        have r1 := RR.out.c 1 rfl
        have q1f := RR.out.f 1
        have r2 := RR.out.c 2 rfl
        have q2f := RR.out.f 2
        have r3 := RR.out.c 3 rfl
        have q3f := RR.out.f 3
        have r4 := RR.out.c 4 rfl
        have q4f := RR.out.f 4
        have r5 := RR.out.c 5 rfl
        have q5f := RR.out.f 5
        have rl := RR.out.lt
        have HOW := Lib.hid ((HN.out.bel HB.out).a)
        have HLE := Lib.hid HN.out.le
        have hsz := HB.out.size
        have hwl := T1.out.size
        go_wp2_with fail
        have KK := (((((((RR.out).set 0 (.int .i64 0)).set 1 (.int .i64 1)).set 2 (.slice B1 3 k1)).set 3 (.slice none 0 0)).set 4 (.int .i64 0)).set 5 (.slice none 0 0)).alloc (.cells #[.int .i64 1, .slice B1 3 k1, .slice none 0 0, .int .i64 0, .slice none 0 0] 57)
        have k0q := KK.c 0 rfl
        have k1q := KK.c 1 rfl
        have k2q := KK.c 2 rfl
        have k3q := KK.c 3 rfl
        have k4q := KK.c 4 rfl
        have k5q := KK.c 5 rfl
        clear KK
        refine bodyPost_ret (v := .agg #[.int .i64 0, .int .i64 1, .slice B1 3 k1, .slice none 0 0, .int .i64 0, .slice none 0 0]) (by simp [results, Try.results31, go_sem, k0q, k1q, k2q, k3q, k4q, k5q]) rfl ⟨B1, 3, k1, none, 0, 0, none, 0, 0, by rw [unS_1.1, unS_1.2]; rfl, ?_, ?_⟩
        · rw [unS_1.2]
          refine OwnS3.a ?_ (by have := HZ.out; simp only [setSize, World.size_alloc]; omega)
          refine Own.mono (lo := W0.heap.size) (hi := l1) ?_ (by have := HZ.out; have := HLE.out; omega) (by have := HLE.out; have := HN.out.x.lt; simp only [setSize, World.size_alloc]; omega)
          repeat (first | (with_reducible refine Own.set ?_ (.inl (by have := HZ.out; have := HLE.out; omega)) _ _) | (with_reducible refine Own.alloc ?_ _))
          exact HOW.out
        · repeat (first | (with_reducible refine Below.setCell ?_ (by simp) _) | (with_reducible refine blThenAlloc ?_ _))
          exact blThen T1.out HB.out
      · have hk : Hid (¬ kd = 1) := hk0
        clear hk0
        have hkk : (((1 : Int)) == kd) = false := by simpa using fun e => hk.out e.symm
        have HB5 := Lib.hid (blThenAlloc HB.out (.cells #[.int .i64 1, .slice B1 3 k1, .slice none 0 0, .int .i64 0, .slice none 0 0] 57))
        go_wp2_with fail
        go_roundw
        case rel => exact ⟨HB5, .inr (.inl ⟨by go_num, hk⟩)⟩
        case measure => simp [intOf]
    · have y0 := cell_later HB.out X5.out
      have y1 := cell_later HB.out X6.out
      have y2 := cell_later HB.out X7.out
      have y3 := cell_later HB.out X8.out
      have y4 := cell_later HB.out X9.out
      have yl := cell_lt y0
      have RR := Lib.hid (R1.out.bel HB.out)
      by_cases hk0 : kd = 2
      · subst hk0
        have r0 := RR.out.c 0 rfl
        have q0f := RR.out.f 0
        have r1 := RR.out.c 1 rfl
        have q1f := RR.out.f 1
        have r2 := RR.out.c 2 rfl
        have q2f := RR.out.f 2
        have r3 := RR.out.c 3 rfl
        have q3f := RR.out.f 3
        have r4 := RR.out.c 4 rfl
        have q4f := RR.out.f 4
        have r5 := RR.out.c 5 rfl
        have q5f := RR.out.f 5
        have rl := RR.out.lt
        have HOW := Lib.hid ((HN.out.bel HB.out).b)
        have HLE := Lib.hid HN.out.le
        have hsz := HB.out.size
        have hwl := T1.out.size
        go_wp2_with fail
        have KK := (((((((RR.out).set 0 (.int .i64 0)).set 1 (.int .i64 2)).set 2 (.slice none 0 0)).set 3 (.slice B2 3 k2)).set 4 (.int .i64 0)).set 5 (.slice none 0 0)).alloc (.cells #[.int .i64 2, .slice none 0 0, .slice B2 3 k2, .int .i64 0, .slice none 0 0] 57)
        have k0q := KK.c 0 rfl
        have k1q := KK.c 1 rfl
        have k2q := KK.c 2 rfl
        have k3q := KK.c 3 rfl
        have k4q := KK.c 4 rfl
        have k5q := KK.c 5 rfl
        clear KK
        refine bodyPost_ret (v := .agg #[.int .i64 0, .int .i64 2, .slice none 0 0, .slice B2 3 k2, .int .i64 0, .slice none 0 0]) (by simp [results, Try.results31, go_sem, k0q, k1q, k2q, k3q, k4q, k5q]) rfl ⟨none, 0, 0, B2, 3, k2, none, 0, 0, by rw [unS_2.1, unS_2.2]; rfl, ?_, ?_⟩
        · rw [unS_2.2]
          refine OwnS3.b ?_ (by have := HZ.out; simp only [setSize, World.size_alloc]; omega)
          refine Own.mono (lo := l1) (hi := l2) ?_ (by have := HZ.out; have := HLE.out; omega) (by have := HLE.out; have := HN.out.x.lt; simp only [setSize, World.size_alloc]; omega)
          repeat (first | (with_reducible refine Own.set ?_ (.inl (by have := HZ.out; have := HLE.out; omega)) _ _) | (with_reducible refine Own.alloc ?_ _))
          exact HOW.out
        · repeat (first | (with_reducible refine Below.setCell ?_ (by simp) _) | (with_reducible refine blThenAlloc ?_ _))
          exact blThen T1.out HB.out
      · have hk : Hid (¬ kd = 2) := hk0
        clear hk0
        have hkk : (((2 : Int)) == kd) = false := by simpa using fun e => hk.out e.symm
        have HB5 := Lib.hid (blThenAlloc HB.out (.cells #[.int .i64 2, .slice none 0 0, .slice B2 3 k2, .int .i64 0, .slice none 0 0] 57))
        go_wp2_with fail
        go_roundw
        case rel => exact ⟨HB5, .inr (.inr (.inl ⟨by go_num, q1, hk⟩))⟩
        case measure => simp [intOf]
    · have y0 := cell_later HB.out X10.out
      have y1 := cell_later HB.out X11.out
      have y2 := cell_later HB.out X12.out
      have y3 := cell_later HB.out X13.out
      have y4 := cell_later HB.out X14.out
      have yl := cell_lt y0
      have RR := Lib.hid (R1.out.bel HB.out)
      by_cases hk0 : kd = 3
      · subst hk0
        have r0 := RR.out.c 0 rfl
        have q0f := RR.out.f 0
        have r1 := RR.out.c 1 rfl
        have q1f := RR.out.f 1
        have r2 := RR.out.c 2 rfl
        have q2f := RR.out.f 2
        have r3 := RR.out.c 3 rfl
        have q3f := RR.out.f 3
        have r4 := RR.out.c 4 rfl
        have q4f := RR.out.f 4
        have r5 := RR.out.c 5 rfl
        have q5f := RR.out.f 5
        have rl := RR.out.lt
        have HOW := Lib.hid ((HN.out.bel HB.out).d)
        have HLE := Lib.hid HN.out.le
        have hsz := HB.out.size
        have hwl := T1.out.size
        go_wp2_with fail
        have KK := (((((((RR.out).set 0 (.int .i64 0)).set 1 (.int .i64 3)).set 2 (.slice none 0 0)).set 3 (.slice none 0 0)).set 4 (.int .i64 2)).set 5 (.slice B3 8 k3)).alloc (.cells #[.int .i64 3, .slice none 0 0, .slice none 0 0, .int .i64 2, .slice B3 8 k3] 57)
        have k0q := KK.c 0 rfl
        have k1q := KK.c 1 rfl
        have k2q := KK.c 2 rfl
        have k3q := KK.c 3 rfl
        have k4q := KK.c 4 rfl
        have k5q := KK.c 5 rfl
        clear KK
        refine bodyPost_ret (v := .agg #[.int .i64 0, .int .i64 3, .slice none 0 0, .slice none 0 0, .int .i64 2, .slice B3 8 k3]) (by simp [results, Try.results31, go_sem, k0q, k1q, k2q, k3q, k4q, k5q]) rfl ⟨none, 0, 0, none, 0, 0, B3, 8, k3, by rw [unS_3.1, unS_3.2]; rfl, ?_, ?_⟩
        · rw [unS_3.2]
          refine OwnS3.d ?_ (by have := HZ.out; simp only [setSize, World.size_alloc]; omega)
          refine Own.mono (lo := l2) (hi := l3) ?_ (by have := HZ.out; have := HLE.out; omega) (by have := HLE.out; have := HN.out.x.lt; simp only [setSize, World.size_alloc]; omega)
          repeat (first | (with_reducible refine Own.set ?_ (.inl (by have := HZ.out; have := HLE.out; omega)) _ _) | (with_reducible refine Own.alloc ?_ _))
          exact HOW.out
        · repeat (first | (with_reducible refine Below.setCell ?_ (by simp) _) | (with_reducible refine blThenAlloc ?_ _))
          exact blThen T1.out HB.out
      · have hk : Hid (¬ kd = 3) := hk0
        clear hk0
        have hkk : (((3 : Int)) == kd) = false := by simpa using fun e => hk.out e.symm
        have HB5 := Lib.hid (blThenAlloc HB.out (.cells #[.int .i64 3, .slice none 0 0, .slice none 0 0, .int .i64 2, .slice B3 8 k3] 57))
        go_wp2_with fail
        go_roundw
        case rel => exact ⟨HB5, .inr (.inr (.inr (.inl ⟨by go_num, q1, q2, hk⟩)))⟩
        case measure => simp [intOf]
    · have y0 := cell_later HB.out X15.out
      have y1 := cell_later HB.out X16.out
      have y2 := cell_later HB.out X17.out
      have y3 := cell_later HB.out X18.out
      have y4 := cell_later HB.out X19.out
      have yl := cell_lt y0
      have RR := Lib.hid (R1.out.bel HB.out)
      have hk := q3
      have hkk : (((3 : Int)) == kd) = false := by simpa using fun e => hk.out e.symm
      have HB5 := Lib.hid (blThenAlloc HB.out (.cells #[.int .i64 3, .slice none 0 0, .slice none 0 0, .int .i64 4, .slice B4 64 k4] 57))
      go_wp2_with fail
      go_roundw
      case rel => exact ⟨HB5, .inr (.inr (.inr (.inr ⟨by go_num, q1, q2, q3⟩)))⟩
      case measure => simp [intOf]
    · have RR := Lib.hid (R1.out.bel HB.out)
      have r0 := RR.out.c 0 rfl
      have q0f := RR.out.f 0
      have r1 := RR.out.c 1 rfl
      have q1f := RR.out.f 1
      have r2 := RR.out.c 2 rfl
      have q2f := RR.out.f 2
      have r3 := RR.out.c 3 rfl
      have q3f := RR.out.f 3
      have r4 := RR.out.c 4 rfl
      have q4f := RR.out.f 4
      have r5 := RR.out.c 5 rfl
      have q5f := RR.out.f 5
      have rl := RR.out.lt
      have hsz := HB.out.size
      have hwl := T1.out.size
      have HU := Lib.hid (unS_n q1.out q2.out q3.out)
      go_wp2_with fail
      have KK := ((((((RR.out).set 0 (.int .i64 3)).set 1 (.int .i64 0)).set 2 (.slice none 0 0)).set 3 (.slice none 0 0)).set 4 (.int .i64 0)).set 5 (.slice none 0 0)
      have k0q := KK.c 0 rfl
      have k1q := KK.c 1 rfl
      have k2q := KK.c 2 rfl
      have k3q := KK.c 3 rfl
      have k4q := KK.c 4 rfl
      have k5q := KK.c 5 rfl
      clear KK
      refine bodyPost_ret (v := .agg #[.int .i64 3, .int .i64 0, .slice none 0 0, .slice none 0 0, .int .i64 0, .slice none 0 0]) (by simp [results, Try.results31, go_sem, k0q, k1q, k2q, k3q, k4q, k5q]) rfl ⟨none, 0, 0, none, 0, 0, none, 0, 0, by rw [HU.out.1, HU.out.2]; rfl, ?_, ?_⟩
      · rw [HU.out.2]
        exact OwnS3.z _ (by simp only [setSize, World.size_alloc]; omega)
      · repeat (first | (with_reducible refine Below.setCell ?_ (by simp) _) | (with_reducible refine blThenAlloc ?_ _))
        exact blThen T1.out HB.out
end Go.Proofs.Ytdjifaaofefpoaa
