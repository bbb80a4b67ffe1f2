/-
  UnitStage, by the reference model.
-/
import Derived.Test.YtdjifaaofefpoaaUniB
namespace Go.Proofs.Ytdjifaaofefpoaa
open Go.RowKit Go.Maps
set_option linter.unusedVariables false
set_option linter.unusedSimpArgs false

def UuAns (w : World) (k : Int) (e : Ending) (w' : World) : Prop :=
  ∃ B1 m1 d1 B2 m2 d2 B3 m3 d3, e = .returned (.agg #[.int .i64 (unS k).kd, .slice B1 m1 d1, .slice B2 m2 d2, .int .i64 (unS k).sd, .slice B3 m3 d3]) ∧
    OwnS3 w' (unS k) (.slice B1 m1 d1) (.slice B2 m2 d2) (.slice B3 m3 d3) w.heap.size w'.heap.size ∧ Below w.heap.size w w'
theorem OwnS3.mono {w : World} {t : Stg} {s1 s2 s3 : Value} {lo hi lo' hi' : Nat} (h : OwnS3 w t s1 s2 s3 lo hi) (h1 : lo' ≤ lo) (h2 : hi ≤ hi') : OwnS3 w t s1 s2 s3 lo' hi' := by
  obtain ⟨p, q, a, b, d, l1, l2, l3⟩ := h
  exact ⟨p, q, a.mono h1 (Nat.le_refl _), b, d.mono (Nat.le_refl _) h2, by omega, l2, by omega⟩
theorem OwnS3.set {w : World} {t : Stg} {s1 s2 s3 : Value} {lo hi : Nat} (h : OwnS3 w t s1 s2 s3 lo hi) {b : Nat} (hb : b < lo ∨ hi ≤ b) (i : Nat) (x : Value) : OwnS3 (w.setCell ⟨b, i, none⟩ x) t s1 s2 s3 lo hi :=
  h.ch (Ch.setCell w (P := (· = b)) rfl i x) (fun k h1 h2 e => by subst e; omega)
theorem lnP_2 : lnP 2 2 = lc2 := by decide
set_option maxRecDepth 100000 in
set_option maxHeartbeats 4000000 in
theorem sUnit8_any (kd : Int) (w : World) (hk : kd = 1 ∨ kd = 2 ∨ kd = 3) : Calls Try.prog 75 #[.int .i64 kd] w (UuAns w kd) := by
  obtain ⟨W0, hW0⟩ : ∃ W0, W0 = w.alloc (.cells #[.int .i64 0, .slice none 0 0, .slice none 0 0, .int .i64 0, .slice none 0 0] 57) := ⟨_, rfl⟩
  have R0 : Hid (Bx W0 w.heap.size [.int .i64 0, .slice none 0 0, .slice none 0 0, .int .i64 0, .slice none 0 0]) := by show Bx _ _ _; rw [hW0]; exact Bx.new _ _ _ rfl
  have T0 : Hid (Below w.heap.size w W0) := by show Below _ _ _; rw [hW0]; exact blAlloc _ _
  have HZ : Hid (W0.heap.size = w.heap.size + 1) := by show _ = _; rw [hW0]; simp
  have HW := Lib.hid hW0
  have CL : Hid (∀ W, Calls Try.prog 128 #[.int .i64 2] W fun e w' => ∃ G c, e = .returned (.agg #[.slice G 2 c]) ∧ Own w' (.ints .i64 lc2) (.slice G 2 c) W.heap.size w'.heap.size ∧ Below W.heap.size W w') := fun W => by
    have := sLine_any 2 W (by omega) (by omega)
    rw [show lnP ((2 : Nat) : Int) 2 = lc2 from lnP_2] at this
    exact this
  clear hW0
  rcases hk with rfl | rfl | rfl
  · go_enter Try.func75, Try.ntmps75
    go_wp2_with fail
    rw [← HW.out]
    clear HW
    refine (CL.out _).mono ?_
    rintro e w1 ⟨G1, c1, rfl, o1, b1⟩
    have T1 := Lib.hid b1
    have O1 := Lib.hid o1
    have S1 := Lib.hid b1.size
    clear o1 b1
    go_wp2_with fail
    refine (CL.out _).mono ?_
    rintro e w2 ⟨G2, c2, rfl, o2, b2⟩
    have T2 := Lib.hid (blThen T1.out b2)
    have O1b := Lib.hid (O1.out.below b2)
    have O2 := Lib.hid o2
    have S2 := Lib.hid b2.size
    clear o2 b2
    go_wp2_with fail
    refine (CL.out _).mono ?_
    rintro e w3 ⟨G3, c3, rfl, o3, b3⟩
    have T3 := Lib.hid (blThen T2.out b3)
    have O1c := Lib.hid (O1b.out.below b3)
    have O2c := Lib.hid (O2.out.below b3)
    have O3 := Lib.hid o3
    have S3 := Lib.hid b3.size
    clear o3 b3 O1 O1b O2
    have RR := Lib.hid (R0.out.bel T3.out)
    have TT := Lib.hid (blThen T0.out T3.out)
    have HZZ := Lib.hid (show w.heap.size ≤ w3.heap.size from TT.out.size)
    have r0 := RR.out.c 0 rfl
    have q0f := RR.out.f 0
    have r1 := RR.out.c 1 rfl
    have q1f := RR.out.f 1
    have r2 := RR.out.c 2 rfl
    have q2f := RR.out.f 2
    have r3 := RR.out.c 3 rfl
    have q3f := RR.out.f 3
    have r4 := RR.out.c 4 rfl
    have q4f := RR.out.f 4
    have rl := RR.out.lt
    go_wp2_with fail
    have KK := ((((((RR.out).set 0 (.int .i64 1)).set 1 (.slice (some ⟨w3.heap.size, 0, none⟩) 3 3)).set 2 (.slice none 0 0)).set 3 (.int .i64 0)).set 4 (.slice none 0 0)).alloc (.cells #[.slice G1 2 c1, .slice G2 2 c2, .slice G3 2 c3] 180)
    have k0q := KK.c 0 rfl
    have k1q := KK.c 1 rfl
    have k2q := KK.c 2 rfl
    have k3q := KK.c 3 rfl
    have k4q := KK.c 4 rfl
    clear KK
    refine bodyPost_ret (v := .agg #[.int .i64 1, .slice (some ⟨w3.heap.size, 0, none⟩) 3 3, .slice none 0 0, .int .i64 0, .slice none 0 0]) (by simp [results, Try.results75, go_sem, k0q, k1q, k2q, k3q, k4q]) rfl ⟨some ⟨w3.heap.size, 0, none⟩, 3, 3, none, 0, 0, none, 0, 0, by rw [unS_1.2]; rfl, ?_, ?_⟩
    · rw [unS_1.2]
      refine OwnS3.a ?_ (by have := HZZ.out; simp only [World.size_alloc, setSize]; omega)
      refine Own.mono (lo := W0.heap.size) ?_ (by have := HZ.out; omega) (Nat.le_refl _)
      exact rows3 (Bx.new _ #[.slice G1 2 c1, .slice G2 2 c2, .slice G3 2 c3] _ (by simp only [setSize])) (((((((O1c.out).set (.inl (by have := HZ.out; have := S1.out; have := S2.out; omega)) 0 _).set (.inl (by have := HZ.out; have := S1.out; have := S2.out; omega)) 1 _).set (.inl (by have := HZ.out; have := S1.out; have := S2.out; omega)) 2 _).set (.inl (by have := HZ.out; have := S1.out; have := S2.out; omega)) 3 _).set (.inl (by have := HZ.out; have := S1.out; have := S2.out; omega)) 4 _).alloc _) (((((((O2c.out).set (.inl (by have := HZ.out; have := S1.out; have := S2.out; omega)) 0 _).set (.inl (by have := HZ.out; have := S1.out; have := S2.out; omega)) 1 _).set (.inl (by have := HZ.out; have := S1.out; have := S2.out; omega)) 2 _).set (.inl (by have := HZ.out; have := S1.out; have := S2.out; omega)) 3 _).set (.inl (by have := HZ.out; have := S1.out; have := S2.out; omega)) 4 _).alloc _) (((((((O3.out).set (.inl (by have := HZ.out; have := S1.out; have := S2.out; omega)) 0 _).set (.inl (by have := HZ.out; have := S1.out; have := S2.out; omega)) 1 _).set (.inl (by have := HZ.out; have := S1.out; have := S2.out; omega)) 2 _).set (.inl (by have := HZ.out; have := S1.out; have := S2.out; omega)) 3 _).set (.inl (by have := HZ.out; have := S1.out; have := S2.out; omega)) 4 _).alloc _) (by have := S1.out; have := S2.out; have := S3.out; first | omega | (simp only [World.size_alloc, setSize]; omega)) (by have := S1.out; have := S2.out; have := S3.out; first | omega | (simp only [World.size_alloc, setSize]; omega)) (.inr (by have := S1.out; have := S2.out; have := S3.out; first | omega | (simp only [World.size_alloc, setSize]; omega))) (by have := S1.out; have := S2.out; have := S3.out; first | omega | (simp only [World.size_alloc, setSize]; omega)) (by have := S1.out; have := S2.out; have := S3.out; first | omega | (simp only [World.size_alloc, setSize]; omega)) (by have := S1.out; have := S2.out; have := S3.out; first | omega | (simp only [World.size_alloc, setSize]; omega)) (by have := S1.out; have := S2.out; have := S3.out; first | omega | (simp only [World.size_alloc, setSize]; omega)) (by have := S1.out; have := S2.out; have := S3.out; first | omega | (simp only [World.size_alloc, setSize]; omega)) (by have := S1.out; have := S2.out; have := S3.out; first | omega | (simp only [World.size_alloc, setSize]; omega))
    · refine blThenAlloc ?_ _
      repeat (with_reducible refine Below.setCell ?_ (by simp) _)
      exact TT.out
  · go_enter Try.func75, Try.ntmps75
    go_wp2_with fail
    rw [← HW.out]
    clear HW
    refine (sUnit4_any _).mono ?_
    rintro e w1 ⟨G1, n1, c1, rfl, o1, b1⟩
    obtain rfl : 3 = n1 := o1.hd.choose_spec.rows.1
    have RR := Lib.hid (R0.out.bel b1)
    have TT := Lib.hid (blThen T0.out b1)
    have OO : Hid (Own w1 (rowsD nt2.rs) (.slice G1 3 c1) W0.heap.size w1.heap.size) := o1
    have HZZ := Lib.hid (show w.heap.size ≤ w1.heap.size from TT.out.size)
    have r0 := RR.out.c 0 rfl
    have q0f := RR.out.f 0
    have r1 := RR.out.c 1 rfl
    have q1f := RR.out.f 1
    have r2 := RR.out.c 2 rfl
    have q2f := RR.out.f 2
    have r3 := RR.out.c 3 rfl
    have q3f := RR.out.f 3
    have r4 := RR.out.c 4 rfl
    have q4f := RR.out.f 4
    have rl := RR.out.lt
    clear o1 b1
    go_wp2_with fail
    have KK := (((((RR.out).set 0 (.int .i64 2)).set 1 (.slice none 0 0)).set 2 (.slice G1 3 c1)).set 3 (.int .i64 0)).set 4 (.slice none 0 0)
    have k0q := KK.c 0 rfl
    have k1q := KK.c 1 rfl
    have k2q := KK.c 2 rfl
    have k3q := KK.c 3 rfl
    have k4q := KK.c 4 rfl
    clear KK
    refine bodyPost_ret (v := .agg #[.int .i64 2, .slice none 0 0, .slice G1 3 c1, .int .i64 0, .slice none 0 0]) (by simp [results, Try.results75, go_sem, k0q, k1q, k2q, k3q, k4q]) rfl ⟨none, 0, 0, G1, 3, c1, none, 0, 0, by rw [unS_2.2]; rfl, ?_, ?_⟩
    · rw [unS_2.2]
      refine OwnS3.b ?_ (by have := HZZ.out; simp only [setSize]; omega)
      refine Own.mono (lo := W0.heap.size) (hi := w1.heap.size) ?_ (by have := HZ.out; omega) (by simp only [setSize]; exact Nat.le_refl _)
      repeat (with_reducible refine Own.set ?_ (.inl (by have := HZ.out; omega)) _ _)
      exact OO.out
    · repeat (with_reducible refine Below.setCell ?_ (by simp) _)
      exact TT.out
  · go_enter Try.func75, Try.ntmps75
    go_wp2_with fail
    rw [← HW.out]
    clear HW
    refine (sLine5_any 2 _ (.inl rfl)).mono ?_
    rintro e w1 ⟨G1, n1, c1, rfl, o1, b1⟩
    obtain rfl : 8 = n1 := by have := o1.hd.choose_spec.rows.1; simpa [lgRs] using this
    have RR := Lib.hid (R0.out.bel b1)
    have TT := Lib.hid (blThen T0.out b1)
    have OO : Hid (Own w1 (rowsD nt3.ns) (.slice G1 8 c1) W0.heap.size w1.heap.size) := o1
    have HZZ := Lib.hid (show w.heap.size ≤ w1.heap.size from TT.out.size)
    have r0 := RR.out.c 0 rfl
    have q0f := RR.out.f 0
    have r1 := RR.out.c 1 rfl
    have q1f := RR.out.f 1
    have r2 := RR.out.c 2 rfl
    have q2f := RR.out.f 2
    have r3 := RR.out.c 3 rfl
    have q3f := RR.out.f 3
    have r4 := RR.out.c 4 rfl
    have q4f := RR.out.f 4
    have rl := RR.out.lt
    clear o1 b1
    go_wp2_with fail
    have KK := (((((RR.out).set 0 (.int .i64 3)).set 1 (.slice none 0 0)).set 2 (.slice none 0 0)).set 3 (.int .i64 2)).set 4 (.slice G1 8 c1)
    have k0q := KK.c 0 rfl
    have k1q := KK.c 1 rfl
    have k2q := KK.c 2 rfl
    have k3q := KK.c 3 rfl
    have k4q := KK.c 4 rfl
    clear KK
    refine bodyPost_ret (v := .agg #[.int .i64 3, .slice none 0 0, .slice none 0 0, .int .i64 2, .slice G1 8 c1]) (by simp [results, Try.results75, go_sem, k0q, k1q, k2q, k3q, k4q]) rfl ⟨none, 0, 0, none, 0, 0, G1, 8, c1, by rw [unS_3.2]; rfl, ?_, ?_⟩
    · rw [unS_3.2]
      refine OwnS3.d ?_ (by have := HZZ.out; simp only [setSize]; omega)
      refine Own.mono (lo := W0.heap.size) (hi := w1.heap.size) ?_ (by have := HZ.out; omega) (by simp only [setSize]; exact Nat.le_refl _)
      repeat (with_reducible refine Own.set ?_ (.inl (by have := HZ.out; omega)) _ _)
      exact OO.out
    · repeat (with_reducible refine Below.setCell ?_ (by simp) _)
      exact TT.out
set_option maxRecDepth 100000 in
set_option maxHeartbeats 4000000 in
theorem sUnitStage_any (kd : Int) (w : World) : Calls Try.prog 30 #[.int .i64 kd] w (UnAns w kd) := by
  obtain ⟨W0, hW0⟩ : ∃ W0, W0 = w.alloc (.cells #[.int .i64 0, .int .i64 0, .slice none 0 0, .slice none 0 0, .int .i64 0, .slice none 0 0] 66) := ⟨_, rfl⟩
  have R0 : Hid (Bx W0 w.heap.size [.int .i64 0, .int .i64 0, .slice none 0 0, .slice none 0 0, .int .i64 0, .slice none 0 0]) := by show Bx _ _ _; rw [hW0]; exact Bx.new _ _ _ rfl
  have T0 : Hid (Below w.heap.size w W0) := by show Below _ _ _; rw [hW0]; exact blAlloc _ _
  have HZ : Hid (W0.heap.size = w.heap.size + 1) := by show _ = _; rw [hW0]; simp
  have HW := Lib.hid hW0
  clear hW0
  rcases Bool.eq_false_or_eq_true (inB kd 1 3) with hb | hb
  · have hk : kd = 1 ∨ kd = 2 ∨ kd = 3 := by have := inB_iff.1 hb; omega
    have hC : unC kd = 0 := by unfold unC; rw [if_pos hk]
    have HC := Lib.hid hC
    have CI : Hid (∀ W, Calls Try.prog 74 #[.int .i64 kd, .int .i64 1, .int .i64 3] W fun e w' => e = .returned (.bool true) ∧ W = w') := fun W => by rw [← hb]; exact sIn_any kd 1 3 W
    have CU := Lib.hid (sUnit8_any kd W0 hk)
    clear hk hC hb
    go_enter Try.func30, Try.ntmps30
    go_wp2_with (go_at_call 74; refine (CI.out _).mono ?_; rintro e w' ⟨rfl, rfl⟩)
    rw [← HW.out]
    clear HW
    refine CU.out.mono ?_
    rintro e w1 ⟨B1, m1, d1, B2, m2, d2, B3, m3, d3, rfl, ho, hb⟩
    have RR := Lib.hid (R0.out.bel hb)
    have TT := Lib.hid (blThen T0.out hb)
    have OO := Lib.hid ho
    obtain ⟨K, hK⟩ : ∃ K, K = (unS kd).kd := ⟨_, rfl⟩
    obtain ⟨D, hD⟩ : ∃ D, D = (unS kd).sd := ⟨_, rfl⟩
    have HKK := Lib.hid hK
    have HDD := Lib.hid hD
    rw [← hK, ← hD]
    clear ho hb hK hD
    have r0 := RR.out.c 0 rfl
    have q0f := RR.out.f 0
    have r1 := RR.out.c 1 rfl
    have q1f := RR.out.f 1
    have r2 := RR.out.c 2 rfl
    have q2f := RR.out.f 2
    have r3 := RR.out.c 3 rfl
    have q3f := RR.out.f 3
    have r4 := RR.out.c 4 rfl
    have q4f := RR.out.f 4
    have r5 := RR.out.c 5 rfl
    have q5f := RR.out.f 5
    have rl := RR.out.lt
    go_wp2_with fail
    have KK := ((((((RR.out).set 0 (.int .i64 0)).set 1 (.int .i64 K)).set 2 (.slice B1 m1 d1)).set 3 (.slice B2 m2 d2)).set 4 (.int .i64 D)).set 5 (.slice B3 m3 d3)
    have k0q := KK.c 0 rfl
    have k1q := KK.c 1 rfl
    have k2q := KK.c 2 rfl
    have k3q := KK.c 3 rfl
    have k4q := KK.c 4 rfl
    have k5q := KK.c 5 rfl
    clear KK
    refine bodyPost_ret (v := .agg #[.int .i64 0, .int .i64 K, .slice B1 m1 d1, .slice B2 m2 d2, .int .i64 D, .slice B3 m3 d3]) (by simp [results, Try.results30, go_sem, k0q, k1q, k2q, k3q, k4q, k5q]) rfl ⟨B1, m1, d1, B2, m2, d2, B3, m3, d3, by rw [HC.out, HKK.out, HDD.out], ?_, ?_⟩
    · refine OwnS3.mono (lo := W0.heap.size) (hi := w1.heap.size) ?_ (by have := HZ.out; omega) (by simp only [setSize]; exact Nat.le_refl _)
      repeat (with_reducible refine OwnS3.set ?_ (.inl (by have := HZ.out; omega)) _ _)
      exact OO.out
    · repeat (with_reducible refine Below.setCell ?_ (by simp) _)
      exact TT.out
  · have hk : ¬ (kd = 1 ∨ kd = 2 ∨ kd = 3) := fun h => by
      have : inB kd 1 3 = true := inB_iff.2 (by omega)
      rw [this] at hb
      cases hb
    have HU := Lib.hid (unS_n (k := kd) (by omega) (by omega) (by omega))
    have CI : Hid (∀ W, Calls Try.prog 74 #[.int .i64 kd, .int .i64 1, .int .i64 3] W fun e w' => e = .returned (.bool false) ∧ W = w') := fun W => by rw [← hb]; exact sIn_any kd 1 3 W
    clear hk hb
    go_enter Try.func30, Try.ntmps30
    go_wp2_with (go_at_call 74; refine (CI.out _).mono ?_; rintro e w' ⟨rfl, rfl⟩)
    refine bodyPost_ret (v := .agg #[.int .i64 3, .int .i64 0, .slice none 0 0, .slice none 0 0, .int .i64 0, .slice none 0 0]) (by simp [results, Try.results30, go_sem]) rfl ⟨none, 0, 0, none, 0, 0, none, 0, 0, by rw [HU.out.1, HU.out.2]; rfl, ?_, ?_⟩
    · rw [HU.out.2]
      exact OwnS3.z _ (by simp only [World.size_alloc, setSize]; omega)
    · repeat (first | (with_reducible refine Below.setCell ?_ (by simp) _) | (with_reducible exact blAlloc _ _))
end Go.Proofs.Ytdjifaaofefpoaa
