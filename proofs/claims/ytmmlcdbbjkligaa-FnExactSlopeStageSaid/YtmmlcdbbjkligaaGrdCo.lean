/-
  The cell and the rests of a colour, by levels or fine numbers: the program's cellOf.
-/
import Derived.Test.YtmmlcdbbjkligaaGrdW
import Derived.Test.YtmmlcdbbjkligaaGrdT
namespace Go.Proofs.Ytmmlcdbbjkligaa
open Go.RowKit Go.Maps
set_option linter.unusedVariables false
set_option linter.unusedSimpArgs false

theorem bel1 {w W : World} {c : Nat} (h : Below w.heap.size w W) (hc : w.heap.size ≤ c) (i : Nat) (v : Value) : Below w.heap.size w (W.setCell ⟨c, i, none⟩ v) := h.setCell (p := ⟨c, i, none⟩) hc v
def CoAns (w : World) (f g : Nat → Int) (e : Ending) (w' : World) : Prop :=
  e = .returned (.tuple #[.agg #[.int .i64 (f 0), .int .i64 (f 1), .int .i64 (f 2)], .agg #[.int .i64 (g 0), .int .i64 (g 1), .int .i64 (g 2)]]) ∧ Below w.heap.size w w'
set_option maxRecDepth 100000 in
set_option maxHeartbeats 4000000 in
theorem cellOf_1 (sd : Int) (q : Nat → Int) (w : World) (hs : sd = 2 ∨ sd = 3 ∨ sd = 4) (hq : LvT 65535 q) : Calls Try.prog 84 #[.int .i64 sd, .agg #[.int .i64 (q 0), .int .i64 (q 1), .int .i64 (q 2)], .int .i64 1] w (CoAns w (ccT 65535 sd q) (crT 65535 sd q)) := by
  obtain ⟨cv, hcv⟩ : ∃ f, f = ccT 65535 sd q := ⟨_, rfl⟩
  obtain ⟨dv, hdv⟩ : ∃ f, f = crT 65535 sd q := ⟨_, rfl⟩
  have HV : Hid (∀ j, clCT 65535 sd (q j) = cv j ∧ clRT 65535 sd (q j) = dv j) := fun j => by rw [hcv, hdv]; exact ⟨rfl, rfl⟩
  rw [← hcv, ← hdv]
  have H3 := Lib.hid hs
  have HQB := Lib.hid hq
  obtain ⟨W2, hW2⟩ : ∃ W2, W2 = ((((w.alloc (.cells #[.int .i64 (q 0), .int .i64 (q 1), .int .i64 (q 2)] 137)).alloc (.cells #[.int .i64 0, .int .i64 0, .int .i64 0] 141)).alloc (.cells #[.int .i64 0, .int .i64 0, .int .i64 0] 137)).alloc (.cells #[.int .i64 0, .int .i64 0, .int .i64 0] 141)).alloc (.cells #[.int .i64 0, .int .i64 0, .int .i64 0] 137) := ⟨_, rfl⟩
  have A2 : Hid (Bx W2 (w.heap.size + 1) (rv fun _ => 0)) := by show Bx _ _ _; rw [hW2]; exact (((Bx.new _ _ _ (by simp)).alloc _).alloc _).alloc _
  have B2 : Hid (Bx W2 (w.heap.size + 1 + 1) (rv fun _ => 0)) := by show Bx _ _ _; rw [hW2]; exact ((Bx.new _ _ _ (by simp)).alloc _).alloc _
  have C2 : Hid (Bx W2 (w.heap.size + 1 + 1 + 1) (rv fun _ => 0)) := by show Bx _ _ _; rw [hW2]; exact (Bx.new _ _ _ (by simp)).alloc _
  have R2 : Hid (Bx W2 (w.heap.size + 1 + 1 + 1 + 1) (rv fun _ => 0)) := by show Bx _ _ _; rw [hW2]; exact Bx.new _ _ _ (by simp)
  have T2 : Hid (Below w.heap.size w W2) := by show Below _ _ _; rw [hW2]; exact blThenAlloc (blThenAlloc (blThenAlloc (blThenAlloc (blAlloc _ _) _) _) _) _
  have HW := Lib.hid hW2
  clear hW2 hcv hdv hs hq
  go_enter Try.func84, Try.ntmps84
  go_wp2_with fail
  rw [← HW.out]
  clear HW
  have a0 := A2.out.c 0 rfl
  have af0 := A2.out.f 0
  have a1 := A2.out.c 1 rfl
  have af1 := A2.out.f 1
  have a2 := A2.out.c 2 rfl
  have af2 := A2.out.f 2
  have b0 := B2.out.c 0 rfl
  have bf0 := B2.out.f 0
  have b1 := B2.out.c 1 rfl
  have bf1 := B2.out.f 1
  have b2 := B2.out.c 2 rfl
  have bf2 := B2.out.f 2
  have c0 := C2.out.c 0 rfl
  have cf0 := C2.out.f 0
  have c1 := C2.out.c 1 rfl
  have cf1 := C2.out.f 1
  have c2 := C2.out.c 2 rfl
  have cf2 := C2.out.f 2
  have r0 := R2.out.c 0 rfl
  have rf0 := R2.out.f 0
  have r1 := R2.out.c 1 rfl
  have rf1 := R2.out.f 1
  have r2 := R2.out.c 2 rfl
  have rf2 := R2.out.f 2
  refine wp_loop_rounds 4 ?_
  rw [rounds_succ]
  have ii := fun W => jx_0 (q 0) (q 1) (q 2) W
  go_wp2_with (go_at_call 128; refine (cellOfNumber_1 sd (q 0) _ H3.out (HQB.out 0 (by omega)).1 (HQB.out 0 (by omega)).2).mono ?_; rintro e w' ⟨rfl, m0, rfl⟩)
  clear ii
  rw [(HV.out 0).1, (HV.out 0).2]
  rw [rounds_succ]
  have ii := fun W => jx_1 (q 0) (q 1) (q 2) W
  go_wp2_with (go_at_call 128; refine (cellOfNumber_1 sd (q 1) _ H3.out (HQB.out 1 (by omega)).1 (HQB.out 1 (by omega)).2).mono ?_; rintro e w' ⟨rfl, m1, rfl⟩)
  clear ii
  rw [(HV.out 1).1, (HV.out 1).2]
  rw [rounds_succ]
  have ii := fun W => jx_2 (q 0) (q 1) (q 2) W
  go_wp2_with (go_at_call 128; refine (cellOfNumber_1 sd (q 2) _ H3.out (HQB.out 2 (by omega)).1 (HQB.out 2 (by omega)).2).mono ?_; rintro e w' ⟨rfl, m2, rfl⟩)
  clear ii
  rw [(HV.out 2).1, (HV.out 2).2]
  rw [rounds_succ]
  go_wp2_with fail
  go_region
  go_wp2_with fail
  have AA := (((((((((((((((A2.out.drewN m0).oth (c := w.heap.size + 1 + 1 + 1) (by omega) 0 (.int .i64 (cv 0))).oth (c := w.heap.size + 1 + 1 + 1 + 1) (by omega) 0 (.int .i64 (dv 0))).drewN m1).oth (c := w.heap.size + 1 + 1 + 1) (by omega) 1 (.int .i64 (cv 1))).oth (c := w.heap.size + 1 + 1 + 1 + 1) (by omega) 1 (.int .i64 (dv 1))).drewN m2).oth (c := w.heap.size + 1 + 1 + 1) (by omega) 2 (.int .i64 (cv 2))).oth (c := w.heap.size + 1 + 1 + 1 + 1) (by omega) 2 (.int .i64 (dv 2))).set 0 (.int .i64 (cv 0))).set 1 (.int .i64 (cv 1))).set 2 (.int .i64 (cv 2))).oth (c := w.heap.size + 1 + 1) (by omega) 0 (.int .i64 (dv 0))).oth (c := w.heap.size + 1 + 1) (by omega) 1 (.int .i64 (dv 1))).oth (c := w.heap.size + 1 + 1) (by omega) 2 (.int .i64 (dv 2)))
  have BB := (((((((((((((((B2.out.drewN m0).oth (c := w.heap.size + 1 + 1 + 1) (by omega) 0 (.int .i64 (cv 0))).oth (c := w.heap.size + 1 + 1 + 1 + 1) (by omega) 0 (.int .i64 (dv 0))).drewN m1).oth (c := w.heap.size + 1 + 1 + 1) (by omega) 1 (.int .i64 (cv 1))).oth (c := w.heap.size + 1 + 1 + 1 + 1) (by omega) 1 (.int .i64 (dv 1))).drewN m2).oth (c := w.heap.size + 1 + 1 + 1) (by omega) 2 (.int .i64 (cv 2))).oth (c := w.heap.size + 1 + 1 + 1 + 1) (by omega) 2 (.int .i64 (dv 2))).oth (c := w.heap.size + 1) (by omega) 0 (.int .i64 (cv 0))).oth (c := w.heap.size + 1) (by omega) 1 (.int .i64 (cv 1))).oth (c := w.heap.size + 1) (by omega) 2 (.int .i64 (cv 2))).set 0 (.int .i64 (dv 0))).set 1 (.int .i64 (dv 1))).set 2 (.int .i64 (dv 2)))
  have k0 := AA.c 0 rfl
  have k1 := AA.c 1 rfl
  have k2 := AA.c 2 rfl
  have k3 := BB.c 0 rfl
  have k4 := BB.c 1 rfl
  have k5 := BB.c 2 rfl
  clear AA BB
  refine bodyPost_ret (v := .tuple #[.agg #[.int .i64 (cv 0), .int .i64 (cv 1), .int .i64 (cv 2)], .agg #[.int .i64 (dv 0), .int .i64 (dv 1), .int .i64 (dv 2)]]) (by simp [results, Try.results84, go_sem, k0, k1, k2, k3, k4, k5]) rfl ⟨rfl, ?_⟩
  clear k0 k1 k2 k3 k4 k5
  exact Below.drew (bel1 (bel1 (bel1 (bel1 (bel1 (bel1 (bel1 (bel1 (blThenDrew (bel1 (bel1 (blThenDrew (bel1 (bel1 (blThenDrew T2.out m0) (c := w.heap.size + 1 + 1 + 1) (by omega) 0 (.int .i64 (cv 0))) (c := w.heap.size + 1 + 1 + 1 + 1) (by omega) 0 (.int .i64 (dv 0))) m1) (c := w.heap.size + 1 + 1 + 1) (by omega) 1 (.int .i64 (cv 1))) (c := w.heap.size + 1 + 1 + 1 + 1) (by omega) 1 (.int .i64 (dv 1))) m2) (c := w.heap.size + 1 + 1 + 1) (by omega) 2 (.int .i64 (cv 2))) (c := w.heap.size + 1 + 1 + 1 + 1) (by omega) 2 (.int .i64 (dv 2))) (c := w.heap.size + 1) (by omega) 0 (.int .i64 (cv 0))) (c := w.heap.size + 1) (by omega) 1 (.int .i64 (cv 1))) (c := w.heap.size + 1) (by omega) 2 (.int .i64 (cv 2))) (c := w.heap.size + 1 + 1) (by omega) 0 (.int .i64 (dv 0))) (c := w.heap.size + 1 + 1) (by omega) 1 (.int .i64 (dv 1))) (c := w.heap.size + 1 + 1) (by omega) 2 (.int .i64 (dv 2)))
set_option maxRecDepth 100000 in
set_option maxHeartbeats 4000000 in
theorem cellOf_256 (sd : Int) (q : Nat → Int) (w : World) (hs : sd = 2 ∨ sd = 3 ∨ sd = 4) (hq : LvT 16776960 q) : Calls Try.prog 84 #[.int .i64 sd, .agg #[.int .i64 (q 0), .int .i64 (q 1), .int .i64 (q 2)], .int .i64 256] w (CoAns w (ccT 16776960 sd q) (crT 16776960 sd q)) := by
  obtain ⟨cv, hcv⟩ : ∃ f, f = ccT 16776960 sd q := ⟨_, rfl⟩
  obtain ⟨dv, hdv⟩ : ∃ f, f = crT 16776960 sd q := ⟨_, rfl⟩
  have HV : Hid (∀ j, clCT 16776960 sd (q j) = cv j ∧ clRT 16776960 sd (q j) = dv j) := fun j => by rw [hcv, hdv]; exact ⟨rfl, rfl⟩
  rw [← hcv, ← hdv]
  have H3 := Lib.hid hs
  have HQB := Lib.hid hq
  obtain ⟨W2, hW2⟩ : ∃ W2, W2 = ((((w.alloc (.cells #[.int .i64 (q 0), .int .i64 (q 1), .int .i64 (q 2)] 137)).alloc (.cells #[.int .i64 0, .int .i64 0, .int .i64 0] 141)).alloc (.cells #[.int .i64 0, .int .i64 0, .int .i64 0] 137)).alloc (.cells #[.int .i64 0, .int .i64 0, .int .i64 0] 141)).alloc (.cells #[.int .i64 0, .int .i64 0, .int .i64 0] 137) := ⟨_, rfl⟩
  have A2 : Hid (Bx W2 (w.heap.size + 1) (rv fun _ => 0)) := by show Bx _ _ _; rw [hW2]; exact (((Bx.new _ _ _ (by simp)).alloc _).alloc _).alloc _
  have B2 : Hid (Bx W2 (w.heap.size + 1 + 1) (rv fun _ => 0)) := by show Bx _ _ _; rw [hW2]; exact ((Bx.new _ _ _ (by simp)).alloc _).alloc _
  have C2 : Hid (Bx W2 (w.heap.size + 1 + 1 + 1) (rv fun _ => 0)) := by show Bx _ _ _; rw [hW2]; exact (Bx.new _ _ _ (by simp)).alloc _
  have R2 : Hid (Bx W2 (w.heap.size + 1 + 1 + 1 + 1) (rv fun _ => 0)) := by show Bx _ _ _; rw [hW2]; exact Bx.new _ _ _ (by simp)
  have T2 : Hid (Below w.heap.size w W2) := by show Below _ _ _; rw [hW2]; exact blThenAlloc (blThenAlloc (blThenAlloc (blThenAlloc (blAlloc _ _) _) _) _) _
  have HW := Lib.hid hW2
  clear hW2 hcv hdv hs hq
  go_enter Try.func84, Try.ntmps84
  go_wp2_with fail
  rw [← HW.out]
  clear HW
  have a0 := A2.out.c 0 rfl
  have af0 := A2.out.f 0
  have a1 := A2.out.c 1 rfl
  have af1 := A2.out.f 1
  have a2 := A2.out.c 2 rfl
  have af2 := A2.out.f 2
  have b0 := B2.out.c 0 rfl
  have bf0 := B2.out.f 0
  have b1 := B2.out.c 1 rfl
  have bf1 := B2.out.f 1
  have b2 := B2.out.c 2 rfl
  have bf2 := B2.out.f 2
  have c0 := C2.out.c 0 rfl
  have cf0 := C2.out.f 0
  have c1 := C2.out.c 1 rfl
  have cf1 := C2.out.f 1
  have c2 := C2.out.c 2 rfl
  have cf2 := C2.out.f 2
  have r0 := R2.out.c 0 rfl
  have rf0 := R2.out.f 0
  have r1 := R2.out.c 1 rfl
  have rf1 := R2.out.f 1
  have r2 := R2.out.c 2 rfl
  have rf2 := R2.out.f 2
  refine wp_loop_rounds 4 ?_
  rw [rounds_succ]
  have ii := fun W => jx_0 (q 0) (q 1) (q 2) W
  go_wp2_with (go_at_call 128; refine (cellOfNumber_256 sd (q 0) _ H3.out (HQB.out 0 (by omega)).1 (HQB.out 0 (by omega)).2).mono ?_; rintro e w' ⟨rfl, m0, rfl⟩)
  clear ii
  rw [(HV.out 0).1, (HV.out 0).2]
  rw [rounds_succ]
  have ii := fun W => jx_1 (q 0) (q 1) (q 2) W
  go_wp2_with (go_at_call 128; refine (cellOfNumber_256 sd (q 1) _ H3.out (HQB.out 1 (by omega)).1 (HQB.out 1 (by omega)).2).mono ?_; rintro e w' ⟨rfl, m1, rfl⟩)
  clear ii
  rw [(HV.out 1).1, (HV.out 1).2]
  rw [rounds_succ]
  have ii := fun W => jx_2 (q 0) (q 1) (q 2) W
  go_wp2_with (go_at_call 128; refine (cellOfNumber_256 sd (q 2) _ H3.out (HQB.out 2 (by omega)).1 (HQB.out 2 (by omega)).2).mono ?_; rintro e w' ⟨rfl, m2, rfl⟩)
  clear ii
  rw [(HV.out 2).1, (HV.out 2).2]
  rw [rounds_succ]
  go_wp2_with fail
  go_region
  go_wp2_with fail
  have AA := (((((((((((((((A2.out.drewN m0).oth (c := w.heap.size + 1 + 1 + 1) (by omega) 0 (.int .i64 (cv 0))).oth (c := w.heap.size + 1 + 1 + 1 + 1) (by omega) 0 (.int .i64 (dv 0))).drewN m1).oth (c := w.heap.size + 1 + 1 + 1) (by omega) 1 (.int .i64 (cv 1))).oth (c := w.heap.size + 1 + 1 + 1 + 1) (by omega) 1 (.int .i64 (dv 1))).drewN m2).oth (c := w.heap.size + 1 + 1 + 1) (by omega) 2 (.int .i64 (cv 2))).oth (c := w.heap.size + 1 + 1 + 1 + 1) (by omega) 2 (.int .i64 (dv 2))).set 0 (.int .i64 (cv 0))).set 1 (.int .i64 (cv 1))).set 2 (.int .i64 (cv 2))).oth (c := w.heap.size + 1 + 1) (by omega) 0 (.int .i64 (dv 0))).oth (c := w.heap.size + 1 + 1) (by omega) 1 (.int .i64 (dv 1))).oth (c := w.heap.size + 1 + 1) (by omega) 2 (.int .i64 (dv 2)))
  have BB := (((((((((((((((B2.out.drewN m0).oth (c := w.heap.size + 1 + 1 + 1) (by omega) 0 (.int .i64 (cv 0))).oth (c := w.heap.size + 1 + 1 + 1 + 1) (by omega) 0 (.int .i64 (dv 0))).drewN m1).oth (c := w.heap.size + 1 + 1 + 1) (by omega) 1 (.int .i64 (cv 1))).oth (c := w.heap.size + 1 + 1 + 1 + 1) (by omega) 1 (.int .i64 (dv 1))).drewN m2).oth (c := w.heap.size + 1 + 1 + 1) (by omega) 2 (.int .i64 (cv 2))).oth (c := w.heap.size + 1 + 1 + 1 + 1) (by omega) 2 (.int .i64 (dv 2))).oth (c := w.heap.size + 1) (by omega) 0 (.int .i64 (cv 0))).oth (c := w.heap.size + 1) (by omega) 1 (.int .i64 (cv 1))).oth (c := w.heap.size + 1) (by omega) 2 (.int .i64 (cv 2))).set 0 (.int .i64 (dv 0))).set 1 (.int .i64 (dv 1))).set 2 (.int .i64 (dv 2)))
  have k0 := AA.c 0 rfl
  have k1 := AA.c 1 rfl
  have k2 := AA.c 2 rfl
  have k3 := BB.c 0 rfl
  have k4 := BB.c 1 rfl
  have k5 := BB.c 2 rfl
  clear AA BB
  refine bodyPost_ret (v := .tuple #[.agg #[.int .i64 (cv 0), .int .i64 (cv 1), .int .i64 (cv 2)], .agg #[.int .i64 (dv 0), .int .i64 (dv 1), .int .i64 (dv 2)]]) (by simp [results, Try.results84, go_sem, k0, k1, k2, k3, k4, k5]) rfl ⟨rfl, ?_⟩
  clear k0 k1 k2 k3 k4 k5
  exact Below.drew (bel1 (bel1 (bel1 (bel1 (bel1 (bel1 (bel1 (bel1 (blThenDrew (bel1 (bel1 (blThenDrew (bel1 (bel1 (blThenDrew T2.out m0) (c := w.heap.size + 1 + 1 + 1) (by omega) 0 (.int .i64 (cv 0))) (c := w.heap.size + 1 + 1 + 1 + 1) (by omega) 0 (.int .i64 (dv 0))) m1) (c := w.heap.size + 1 + 1 + 1) (by omega) 1 (.int .i64 (cv 1))) (c := w.heap.size + 1 + 1 + 1 + 1) (by omega) 1 (.int .i64 (dv 1))) m2) (c := w.heap.size + 1 + 1 + 1) (by omega) 2 (.int .i64 (cv 2))) (c := w.heap.size + 1 + 1 + 1 + 1) (by omega) 2 (.int .i64 (dv 2))) (c := w.heap.size + 1) (by omega) 0 (.int .i64 (cv 0))) (c := w.heap.size + 1) (by omega) 1 (.int .i64 (cv 1))) (c := w.heap.size + 1) (by omega) 2 (.int .i64 (cv 2))) (c := w.heap.size + 1 + 1) (by omega) 0 (.int .i64 (dv 0))) (c := w.heap.size + 1 + 1) (by omega) 1 (.int .i64 (dv 1))) (c := w.heap.size + 1 + 1) (by omega) 2 (.int .i64 (dv 2)))
theorem cellOf_k (o : Int) (ho : One o) (sd : Int) (q : Nat → Int) (w : World) (hs : sd = 2 ∨ sd = 3 ∨ sd = 4) (hq : LvT (65535 * o) q) : Calls Try.prog 84 #[.int .i64 sd, .agg #[.int .i64 (q 0), .int .i64 (q 1), .int .i64 (q 2)], .int .i64 o] w (CoAns w (ccT (65535 * o) sd q) (crT (65535 * o) sd q)) := by
  rcases ho with rfl | rfl
  · exact cellOf_1 sd q w hs hq
  · exact cellOf_256 sd q w hs hq
end Go.Proofs.Ytmmlcdbbjkligaa
