/-
  NodeLevel, by the program and by the reference model.
-/
import Derived.Test.YtlfdpambbgddoaaBakA
namespace Go.Proofs.Ytlfdpambbgddoaa
open Go.RowKit Go.Maps
set_option linter.unusedVariables false
set_option linter.unusedSimpArgs false

theorem nl_no {sd i : Int} (h : ¬ (inB sd 2 4 = true ∧ 0 ≤ i ∧ i < sd)) : nlC sd i = 3 ∧ nlV sd i = 0 := ⟨by unfold nlC; rw [if_neg h], by unfold nlV; rw [if_neg h]⟩
theorem nl_y {sd i : Int} (h : inB sd 2 4 = true ∧ 0 ≤ i ∧ i < sd) : nlC sd i = 0 ∧ nlV sd i = rnd (i * 65535) (sd - 1) := ⟨by unfold nlC; rw [if_pos h], by unfold nlV; rw [if_pos h]⟩
def NlAns (w : World) (sd i : Int) (e : Ending) (w' : World) : Prop := e = .returned (.agg #[.int .i64 (nlC sd i), .int .i64 (nlV sd i)]) ∧ Below w.heap.size w w'
set_option maxHeartbeats 2000000 in
theorem NodeLevel_any (sd i : Int) (w : World) : Calls Try.prog 10 #[.int .i64 sd, .int .i64 i] w (NlAns w sd i) := by
  rcases Bool.eq_false_or_eq_true (inB sd 2 4) with hs | hs
  · have hsb := inB_iff.1 hs
    have CS : Hid (∀ W, Calls Try.prog 43 #[.int .i64 sd] W fun e w' => e = .returned (.bool true) ∧ W = w') := fun W => by rw [← hs]; exact isSide_any _ W
    by_cases h0 : i < 0
    · have HC := Lib.hid (nl_no (sd := sd) (i := i) (fun h => by omega))
      clear hs hsb
      go_enter Try.func10, Try.ntmps10
      go_wp2_with (go_at_call 43; refine (CS.out _).mono ?_; rintro e w' ⟨rfl, rfl⟩)
      refine bodyPost_ret (v := .agg #[.int .i64 3, .int .i64 0]) (by simp [results, Try.results10, go_sem]) rfl ⟨by rw [HC.out.1, HC.out.2], ?_⟩
      repeat (first | exact blAlloc _ _ | refine Below.setCell ?_ (by simp) _)
    · by_cases h1 : sd ≤ i
      · have HC := Lib.hid (nl_no (sd := sd) (i := i) (fun h => by omega))
        clear hs hsb
        go_enter Try.func10, Try.ntmps10
        go_wp2_with (go_at_call 43; refine (CS.out _).mono ?_; rintro e w' ⟨rfl, rfl⟩)
        refine bodyPost_ret (v := .agg #[.int .i64 3, .int .i64 0]) (by simp [results, Try.results10, go_sem]) rfl ⟨by rw [HC.out.1, HC.out.2], ?_⟩
        repeat (first | exact blAlloc _ _ | refine Below.setCell ?_ (by simp) _)
      · have HC := Lib.hid (nl_y (sd := sd) (i := i) ⟨hs, by omega, by omega⟩)
        have h2 : ¬ i ≥ sd := by omega
        have CE : Hid (∀ W, Calls Try.prog 44 #[.int .i64 i, .int .i64 sd] W fun e w' => e = .returned (.int .i64 (rnd (i * 65535) (sd - 1))) ∧ ∃ m, w' = W.drewN m) := fun W => evenLevel_any _ _ _ (by omega) (by omega)
        clear hs hsb
        obtain ⟨r, hr⟩ : ∃ r, r = rnd (i * 65535) (sd - 1) := ⟨_, rfl⟩
        rw [← hr] at CE HC
        clear hr
        go_enter Try.func10, Try.ntmps10
        go_wp2_with (first | (go_at_call 43; refine (CS.out _).mono ?_; rintro e w' ⟨rfl, rfl⟩) | (go_at_call 44; refine (CE.out _).mono ?_; rintro e w' ⟨rfl, m, rfl⟩))
        refine bodyPost_ret (v := .agg #[.int .i64 0, .int .i64 r]) (by simp [results, Try.results10, go_sem]) rfl ⟨by rw [HC.out.1, HC.out.2], ?_⟩
        repeat (first | exact blAlloc _ _ | exact blThenDrew (blAlloc _ _) _ | refine Below.setCell ?_ (by simp) _ | refine Below.drew ?_)
  · have CS : Hid (∀ W, Calls Try.prog 43 #[.int .i64 sd] W fun e w' => e = .returned (.bool false) ∧ W = w') := fun W => by rw [← hs]; exact isSide_any _ W
    have HC := Lib.hid (nl_no (sd := sd) (i := i) (fun h => by rw [hs] at h; simp at h))
    clear hs
    go_enter Try.func10, Try.ntmps10
    go_wp2_with (go_at_call 43; refine (CS.out _).mono ?_; rintro e w' ⟨rfl, rfl⟩)
    refine bodyPost_ret (v := .agg #[.int .i64 3, .int .i64 0]) (by simp [results, Try.results10, go_sem]) rfl ⟨by rw [HC.out.1, HC.out.2], ?_⟩
    repeat (first | exact blAlloc _ _ | refine Below.setCell ?_ (by simp) _)
/-! ### the model's -/
theorem sLevel9_any (sd i : Int) (w : World) (hi : 0 ≤ i ∧ i ≤ 1000000) (hs : 2 ≤ sd ∧ sd ≤ 1000000) : Calls Try.prog 42 #[.int .i64 sd, .int .i64 i] w fun e w' => e = .returned (.int .i64 (rnd (i * 65535) (sd - 1))) ∧ w = w' := by
  have i1 : IntKind.i64.wrap (i * 65535) = i * 65535 := IntWalk.i64_in _ (by omega)
  have i2 : IntKind.i64.wrap (sd - 1) = sd - 1 := IntWalk.i64_in _ (by omega)
  go_enter Try.func42, Try.ntmps42
  go_wp2_with fail
  refine (sRound_any _ _ _ (by omega) (by omega) (by omega) (by omega)).mono ?_
  rintro e w' ⟨rfl, rfl⟩
  go_wp2_with fail
  go_ret
  exact ⟨rfl, rfl⟩
set_option maxHeartbeats 2000000 in
theorem sNodeLevel_any (sd i : Int) (w : World) : Calls Try.prog 9 #[.int .i64 sd, .int .i64 i] w (NlAns w sd i) := by
  rcases Bool.eq_false_or_eq_true (inB sd 2 4) with hs | hs
  · have hsb := inB_iff.1 hs
    have CS : Hid (∀ W, Calls Try.prog 40 #[.int .i64 sd] W fun e w' => e = .returned (.bool true) ∧ W = w') := fun W => by rw [← hs]; exact sSide5_any _ W
    have i2 : IntKind.i64.wrap (sd - 1) = sd - 1 := IntWalk.i64_in _ (by omega)
    rcases Bool.eq_false_or_eq_true (inB i 0 (sd - 1)) with hi | hi
    · have hib := inB_iff.1 hi
      have CI : Hid (∀ W, Calls Try.prog 41 #[.int .i64 i, .int .i64 0, .int .i64 (sd - 1)] W fun e w' => e = .returned (.bool true) ∧ W = w') := fun W => by rw [← hi]; exact sIn_any _ _ _ W
      have HC := Lib.hid (nl_y (sd := sd) (i := i) ⟨hs, by omega, by omega⟩)
      have CE : Hid (∀ W, Calls Try.prog 42 #[.int .i64 sd, .int .i64 i] W fun e w' => e = .returned (.int .i64 (rnd (i * 65535) (sd - 1))) ∧ W = w') := fun W => sLevel9_any _ _ _ (by omega) (by omega)
      clear hs hsb hi hib
      obtain ⟨r, hr⟩ : ∃ r, r = rnd (i * 65535) (sd - 1) := ⟨_, rfl⟩
      rw [← hr] at CE HC
      clear hr
      go_enter Try.func9, Try.ntmps9
      go_wp2_with (first | (go_at_call 40; refine (CS.out _).mono ?_; rintro e w' ⟨rfl, rfl⟩) | (go_at_call 41; refine (CI.out _).mono ?_; rintro e w' ⟨rfl, rfl⟩) | (go_at_call 42; refine (CE.out _).mono ?_; rintro e w' ⟨rfl, rfl⟩))
      refine bodyPost_ret (v := .agg #[.int .i64 0, .int .i64 r]) (by simp [results, Try.results9, go_sem]) rfl ⟨by rw [HC.out.1, HC.out.2], ?_⟩
      repeat (first | exact blAlloc _ _ | exact blThenDrew (blAlloc _ _) _ | refine Below.setCell ?_ (by simp) _ | refine Below.drew ?_)
    · have CI : Hid (∀ W, Calls Try.prog 41 #[.int .i64 i, .int .i64 0, .int .i64 (sd - 1)] W fun e w' => e = .returned (.bool false) ∧ W = w') := fun W => by rw [← hi]; exact sIn_any _ _ _ W
      have HC := Lib.hid (nl_no (sd := sd) (i := i) (fun h => by
        have : inB i 0 (sd - 1) = true := inB_iff.2 (by omega)
        rw [hi] at this; simp at this))
      clear hs hsb hi
      go_enter Try.func9, Try.ntmps9
      go_wp2_with (first | (go_at_call 40; refine (CS.out _).mono ?_; rintro e w' ⟨rfl, rfl⟩) | (go_at_call 41; refine (CI.out _).mono ?_; rintro e w' ⟨rfl, rfl⟩))
      refine bodyPost_ret (v := .agg #[.int .i64 3, .int .i64 0]) (by simp [results, Try.results9, go_sem]) rfl ⟨by rw [HC.out.1, HC.out.2], ?_⟩
      repeat (first | exact blAlloc _ _ | refine Below.setCell ?_ (by simp) _)
  · have CS : Hid (∀ W, Calls Try.prog 40 #[.int .i64 sd] W fun e w' => e = .returned (.bool false) ∧ W = w') := fun W => by rw [← hs]; exact sSide5_any _ W
    have HC := Lib.hid (nl_no (sd := sd) (i := i) (fun h => by rw [hs] at h; simp at h))
    clear hs
    go_enter Try.func9, Try.ntmps9
    go_wp2_with (go_at_call 40; refine (CS.out _).mono ?_; rintro e w' ⟨rfl, rfl⟩)
    refine bodyPost_ret (v := .agg #[.int .i64 3, .int .i64 0]) (by simp [results, Try.results9, go_sem]) rfl ⟨by rw [HC.out.1, HC.out.2], ?_⟩
    repeat (first | exact blAlloc _ _ | refine Below.setCell ?_ (by simp) _)
end Go.Proofs.Ytlfdpambbgddoaa
