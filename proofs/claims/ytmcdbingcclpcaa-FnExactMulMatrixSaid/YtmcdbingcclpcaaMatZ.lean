/-
  The product of two matrices, with its faults: the program's MulMatrix, the model's MulMatrix.
-/
import Derived.Test.YtmcdbingcclpcaaMatY
namespace Go.Proofs.Ytmcdbingcclpcaa
open Go.RowKit
set_option linter.unusedVariables false
set_option linter.unusedSimpArgs false

def muC (rs us : Rws) : Int := if mf rs = 0 then (if mf us = 0 then maC (mulQ (fl rs) (fl us)) else mf us) else mf rs
def muR (rs us : Rws) : Rws := if mf rs = 0 ∧ mf us = 0 then maR (mulQ (fl rs) (fl us)) else []
theorem mu_f {rs us : Rws} (h : mf rs ≠ 0) : muC rs us = mf rs ∧ muR rs us = [] := ⟨by unfold muC; rw [if_neg h], by unfold muR; rw [if_neg (fun q => h q.1)]⟩
theorem mu_g {rs us : Rws} (h : mf rs = 0) (h1 : mf us ≠ 0) : muC rs us = mf us ∧ muR rs us = [] := ⟨by unfold muC; rw [if_pos h, if_neg h1], by unfold muR; rw [if_neg (fun q => h1 q.2)]⟩
theorem mu_y {rs us : Rws} (h : mf rs = 0) (h1 : mf us = 0) : muC rs us = maC (mulQ (fl rs) (fl us)) ∧ muR rs us = maR (mulQ (fl rs) (fl us)) := ⟨by unfold muC; rw [if_pos h, if_pos h1], by unfold muR; rw [if_pos ⟨h, h1⟩]⟩
theorem muR_small (rs us : Rws) : RsSmall (muR rs us) := by
  unfold muR
  split
  · exact maR_small _
  · exact ⟨by simp, fun i hi => by simp at hi⟩
theorem muR_len (rs us : Rws) : (muR rs us).length ≤ 3 := by
  unfold muR
  split
  · exact maR_len _
  · simp
set_option maxRecDepth 100000 in
set_option maxHeartbeats 4000000 in
theorem MulMatrix_any (A A' : Option Addr) (n n' c c' : Nat) (rs us : Rws) (bs bs' : List Nat) (w : World) (h : Hd w (rowsD rs) (.slice A n c) bs) (h' : Hd w (rowsD us) (.slice A' n' c') bs') :
    Calls Try.prog 16 #[.agg #[.slice A n c], .agg #[.slice A' n' c']] w (MAns w (muC rs us) (muR rs us)) := by
  by_cases h0 : mf rs = 0
  · by_cases h1 : mf us = 0
    · obtain ⟨e1, e2⟩ := mu_y h0 h1
      rw [e1, e2]
      exact MulMatrix_ok A A' n n' c c' rs us bs bs' w h h' h0 h1
    · have HA := Lib.hid (mu_g h0 h1)
      have H := Lib.hid h
      have H' := Lib.hid h'
      clear h h'
      go_enter Try.func16, Try.ntmps16
      go_wp2_with fail
      refine (cellsOf_any _ _ _ rs _ _ (((H.out.alloc _).alloc _).alloc _)).mono ?_
      rintro e w1 ⟨p, rfl, -, hb⟩
      rw [h0]
      have R1 := Lib.hid ((Bx.new ((w.alloc (.cells #[.slice A n c] 26)).alloc (.cells #[.slice A' n' c'] 26)) #[.int .i64 0, .slice none 0 0] 36 (b := w.heap.size + 1 + 1) (by simp)).bel hb)
      have M1 := Lib.hid (((Bx.new (w.alloc (.cells #[.slice A n c] 26)) #[.slice A' n' c'] 26 (b := w.heap.size + 1) (by simp)).alloc (.cells #[.int .i64 0, .slice none 0 0] 36)).bel hb)
      have T1 := Lib.hid (blThen (blThenAlloc (blThenAlloc (blAlloc w _) _) _) hb)
      clear hb
      have y0 := M1.out.c 0 rfl
      have y1 := M1.out.lt
      have y2 := R1.out.lt
      go_wp2_with fail
      refine (cellsOf_any _ _ _ us _ _ ((H'.out.bel T1.out).alloc _)).mono ?_
      rintro e w2 ⟨q, rfl, -, hb⟩
      have R2 := Lib.hid ((R1.out.alloc (.cells #[.int .i64 (p 0), .int .i64 (p 1), .int .i64 (p 2), .int .i64 (p 3), .int .i64 (p 4), .int .i64 (p 5), .int .i64 (p 6), .int .i64 (p 7), .int .i64 (p 8)] 108)).bel hb)
      have T2 := Lib.hid (blThen (blThenAlloc T1.out _) hb)
      obtain ⟨f, hf⟩ : ∃ f, f = mf us := ⟨_, rfl⟩
      rw [← hf] at h1 HA ⊢
      clear hb y0 y1 y2 R1 M1 T1 hf
      have r0 := R2.out.c 0 rfl
      have r1 := R2.out.c 1 rfl
      have z0 := R2.out.f 0
      have z1 := R2.out.f 1
      have m2 := R2.out.lt
      have k0 := (((R2.out.set 0 (.int .i64 f)).set 1 (.slice none 0 0)).alloc (.cells #[.int .i64 (q 0), .int .i64 (q 1), .int .i64 (q 2), .int .i64 (q 3), .int .i64 (q 4), .int .i64 (q 5), .int .i64 (q 6), .int .i64 (q 7), .int .i64 (q 8)] 108)).c 0 rfl
      have k1 := (((R2.out.set 0 (.int .i64 f)).set 1 (.slice none 0 0)).alloc (.cells #[.int .i64 (q 0), .int .i64 (q 1), .int .i64 (q 2), .int .i64 (q 3), .int .i64 (q 4), .int .i64 (q 5), .int .i64 (q 6), .int .i64 (q 7), .int .i64 (q 8)] 108)).c 1 rfl
      go_wp2_with fail
      refine bodyPost_ret (v := .agg #[.int .i64 f, .slice none 0 0]) (by simp [results, Try.results16, go_sem, k0, k1]) rfl (MAns.bad HA.out ?_)
      refine blThenAlloc ?_ _
      repeat (refine Below.setCell ?_ (by simp; try omega) _)
      exact T2.out
  · have HA := Lib.hid (mu_f (us := us) h0)
    have H := Lib.hid h
    clear h h'
    go_enter Try.func16, Try.ntmps16
    go_wp2_with fail
    refine (cellsOf_any _ _ _ rs _ _ (((H.out.alloc _).alloc _).alloc _)).mono ?_
    rintro e w1 ⟨p, rfl, -, hb⟩
    have R1 := Lib.hid ((Bx.new ((w.alloc (.cells #[.slice A n c] 26)).alloc (.cells #[.slice A' n' c'] 26)) #[.int .i64 0, .slice none 0 0] 36 (b := w.heap.size + 1 + 1) (by simp)).bel hb)
    have T1 := Lib.hid (blThen (blThenAlloc (blThenAlloc (blAlloc w _) _) _) hb)
    obtain ⟨f, hf⟩ : ∃ f, f = mf rs := ⟨_, rfl⟩
    rw [← hf] at h0 HA ⊢
    clear hb hf
    have r0 := R1.out.c 0 rfl
    have r1 := R1.out.c 1 rfl
    have z0 := R1.out.f 0
    have z1 := R1.out.f 1
    have m2 := R1.out.lt
    have k0 := (((R1.out.set 0 (.int .i64 f)).set 1 (.slice none 0 0)).alloc (.cells #[.int .i64 (p 0), .int .i64 (p 1), .int .i64 (p 2), .int .i64 (p 3), .int .i64 (p 4), .int .i64 (p 5), .int .i64 (p 6), .int .i64 (p 7), .int .i64 (p 8)] 108)).c 0 rfl
    have k1 := (((R1.out.set 0 (.int .i64 f)).set 1 (.slice none 0 0)).alloc (.cells #[.int .i64 (p 0), .int .i64 (p 1), .int .i64 (p 2), .int .i64 (p 3), .int .i64 (p 4), .int .i64 (p 5), .int .i64 (p 6), .int .i64 (p 7), .int .i64 (p 8)] 108)).c 1 rfl
    go_wp2_with fail
    refine bodyPost_ret (v := .agg #[.int .i64 f, .slice none 0 0]) (by simp [results, Try.results16, go_sem, k0, k1]) rfl (MAns.bad HA.out ?_)
    refine blThenAlloc ?_ _
    repeat (refine Below.setCell ?_ (by simp; try omega) _)
    exact T1.out
set_option maxRecDepth 100000 in
set_option maxHeartbeats 4000000 in
theorem sMulMatrix_any (A A' : Option Addr) (n n' c c' : Nat) (rs us : Rws) (bs bs' : List Nat) (w : World) (h : Hd w (rowsD rs) (.slice A n c) bs) (h' : Hd w (rowsD us) (.slice A' n' c') bs') :
    Calls Try.prog 21 #[.agg #[.slice A n c], .agg #[.slice A' n' c']] w (MAns w (muC rs us) (muR rs us)) := by
  obtain ⟨W0, hW0⟩ : ∃ W0, W0 = ((w.alloc (.cells #[.slice A n c] 26)).alloc (.cells #[.slice A' n' c'] 26)).alloc (.cells #[.int .i64 0, .slice none 0 0] 36) := ⟨_, rfl⟩
  have a0 : Hid (Bx W0 w.heap.size [.slice A n c]) := by show Bx _ _ _; rw [hW0]; exact ((Bx.new _ _ _ rfl).alloc _).alloc _
  have a1 : Hid (Bx W0 (w.heap.size + 1) [.slice A' n' c']) := by show Bx _ _ _; rw [hW0]; exact (Bx.new _ _ _ (by simp)).alloc _
  have R : Hid (Bx W0 (w.heap.size + 1 + 1) [.int .i64 0, .slice none 0 0]) := by show Bx _ _ _; rw [hW0]; exact Bx.new _ _ _ (by simp)
  have T : Hid (Below w.heap.size w W0) := by show Below _ _ _; rw [hW0]; exact blThenAlloc (blThenAlloc (blAlloc _ _) _) _
  have H := Lib.hid (h.bel T.out)
  have H' := Lib.hid (h'.bel T.out)
  have HW := Lib.hid hW0
  clear h h' hW0
  have r0 := R.out.c 0 rfl
  have r1 := R.out.c 1 rfl
  have z0 := R.out.f 0
  have z1 := R.out.f 1
  have m2 := R.out.lt
  go_enter Try.func21, Try.ntmps21
  go_wp2_with fail
  rw [← HW.out]
  refine (sFault4_any _ _ _ _ _ rs _ _ H.out (a0.out.c 0 rfl)).mono ?_
  rintro e w1 ⟨rfl, rfl⟩
  by_cases h0 : mf rs = 0
  · rw [h0]
    go_wp2_with fail
    refine (sFault4_any _ _ _ _ _ us _ _ H'.out (a1.out.c 0 rfl)).mono ?_
    rintro e w1 ⟨rfl, rfl⟩
    by_cases h1 : mf us = 0
    · rw [h1]
      have HA := Lib.hid (mu_y h0 h1)
      go_wp2_with fail
      refine (sMul4_any _ _ _ _ _ _ _ _ _ _ rs us _ _ _ H.out H'.out (a0.out.c 0 rfl) (a1.out.c 0 rfl) h0 h1).mono ?_
      rintro e w2 ⟨G, n2, c2, rfl, ho, hb⟩
      have R2 := Lib.hid (R.out.bel hb)
      have T2 := Lib.hid (blThen T.out hb)
      have HO := Lib.hid ho
      have HS := Lib.hid hb.size
      clear ho hb r0 r1 z0 z1 m2
      go_wp2_with fail
      refine (sHeld4_any G n2 c2 _ _ _ _ HO.out (Nat.le_refl _)).mono ?_
      rintro e w3 ⟨G3, n3, c3, rfl, ho, hb⟩
      have R3 := Lib.hid (R2.out.bel hb)
      have T3 := Lib.hid (blThen T2.out hb)
      have HO3 := Lib.hid ho
      have HS3 := Lib.hid hb.size
      clear ho hb
      have r0 := R3.out.c 0 rfl
      have r1 := R3.out.c 1 rfl
      have z0 := R3.out.f 0
      have z1 := R3.out.f 1
      have m2 := R3.out.lt
      have k0 := ((R3.out.set 0 (.int .i64 (maC (mulQ (fl rs) (fl us))))).set 1 (.slice G3 n3 c3)).c 0 rfl
      have k1 := ((R3.out.set 0 (.int .i64 (maC (mulQ (fl rs) (fl us))))).set 1 (.slice G3 n3 c3)).c 1 rfl
      go_wp2_with fail
      refine bodyPost_ret (v := .agg #[.int .i64 (maC (mulQ (fl rs) (fl us))), .slice G3 n3 c3]) (by simp [results, Try.results21, go_sem, k0, k1]) rfl ⟨_, _, _, by rw [HA.out.1], ?_, ?_⟩
      · rw [HA.out.2]
        refine Own.mono (lo := W0.heap.size) (hi := w2.heap.size) ?_ (by have := T.out.size; omega) (by simp only [setSize]; have := HS3.out; omega)
        repeat (refine Own.set ?_ (.inl (R.out.lt)) _ _)
        exact HO3.out
      · repeat (refine Below.setCell ?_ (by simp; try omega) _)
        exact T3.out
    · have HA := Lib.hid (mu_g h0 h1)
      obtain ⟨f, hf⟩ : ∃ f, f = mf us := ⟨_, rfl⟩
      rw [← hf] at h1 HA ⊢
      clear hf
      have k0 := ((R.out.set 0 (.int .i64 f)).set 1 (.slice none 0 0)).c 0 rfl
      have k1 := ((R.out.set 0 (.int .i64 f)).set 1 (.slice none 0 0)).c 1 rfl
      go_wp2_with fail
      refine bodyPost_ret (v := .agg #[.int .i64 f, .slice none 0 0]) (by simp [results, Try.results21, go_sem, k0, k1]) rfl (MAns.bad HA.out ?_)
      repeat (refine Below.setCell ?_ (by simp; try omega) _)
      exact T.out
  · have HA := Lib.hid (mu_f (us := us) h0)
    obtain ⟨f, hf⟩ : ∃ f, f = mf rs := ⟨_, rfl⟩
    rw [← hf] at h0 HA ⊢
    clear hf
    have k0 := ((R.out.set 0 (.int .i64 f)).set 1 (.slice none 0 0)).c 0 rfl
    have k1 := ((R.out.set 0 (.int .i64 f)).set 1 (.slice none 0 0)).c 1 rfl
    go_wp2_with fail
    refine bodyPost_ret (v := .agg #[.int .i64 f, .slice none 0 0]) (by simp [results, Try.results21, go_sem, k0, k1]) rfl (MAns.bad HA.out ?_)
    repeat (refine Below.setCell ?_ (by simp; try omega) _)
    exact T.out
end Go.Proofs.Ytmcdbingcclpcaa
