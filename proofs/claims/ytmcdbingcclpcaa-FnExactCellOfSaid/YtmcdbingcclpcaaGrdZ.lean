/-
  The cell and the rests of a colour: the program's cellOf; a grid at a colour: the program's EvalGrid.
-/
import Derived.Test.YtmcdbingcclpcaaGrdW
namespace Go.Proofs.Ytmcdbingcclpcaa
open Go.RowKit Go.Maps
set_option linter.unusedVariables false
set_option linter.unusedSimpArgs false

/-- the sums speak of three places alone. -/
theorem ax_ext {f g : Nat → Int} (h : ∀ j, j < 3 → f j = g j) (t : Nat) : ax f t = ax g t := by
  unfold ax; rw [h 0 (by omega), h 1 (by omega), h 2 (by omega)]
theorem pl_ext {f f' g g' : Nat → Int} (hf : ∀ j, j < 3 → f j = f' j) (hg : ∀ j, j < 3 → g j = g' j) : ∀ t j, j < 3 → pl f g t j = pl f' g' t j := by
  intro t
  induction t with
  | zero => intro j hj; exact hf j hj
  | succ t ih => intro j hj; simp only [pl, bump]; rw [ax_ext hg, ih j hj]
theorem lft_ext {g g' : Nat → Int} (hg : ∀ j, j < 3 → g j = g' j) (t : Nat) : lft g t = lft g' t := by
  cases t with
  | zero => rfl
  | succ t =>
    simp only [lft]
    split
    · rename_i h; rw [ax_ext hg, hg _ (ax_lt g' h)]
    · rfl
theorem sm_ext' {rs : Rws} {sd : Int} {f f' g g' : Nat → Int} (hf : ∀ j, j < 3 → f j = f' j) (hg : ∀ j, j < 3 → g j = g' j) : ∀ t i, sm rs sd f g t i = sm rs sd f' g' t i := by
  intro t
  induction t with
  | zero => intro i; rfl
  | succ t ih =>
    intro i
    simp only [sm, ndv]
    rw [ih i, lft_ext hg, lft_ext hg (t + 1), pl_ext hf hg t 0 (by omega), pl_ext hf hg t 1 (by omega), pl_ext hf hg t 2 (by omega)]
theorem sm_ext {rs : Rws} {sd : Int} {v f g : Nat → Int} (hf : ∀ j, j < 3 → f j = cc sd v j) (hg : ∀ j, j < 3 → g j = cr sd v j) {i : Nat} : sm rs sd (cc sd v) (cr sd v) 4 i = sm rs sd f g 4 i := (sm_ext' hf hg 4 i).symm
theorem bel1 {w W : World} {c : Nat} (h : Below w.heap.size w W) (hc : w.heap.size ≤ c) (i : Nat) (v : Value) : Below w.heap.size w (W.setCell ⟨c, i, none⟩ v) := h.setCell (p := ⟨c, i, none⟩) hc v
def CoAns (w : World) (sd : Int) (xs : List Int) (e : Ending) (w' : World) : Prop :=
  ∃ f g : Nat → Int, ∃ code, e = .returned (.tuple #[.agg #[.int .i64 (f 0), .int .i64 (f 1), .int .i64 (f 2)], .agg #[.int .i64 (g 0), .int .i64 (g 1), .int .i64 (g 2)], .int .i64 code]) ∧ Below w.heap.size w w' ∧
    code = (if inB sd 2 4 = true then lf xs else 3) ∧ (code = 0 → ∀ j, j < 3 → f j = cc sd (xs.getD · 0) j ∧ g j = cr sd (xs.getD · 0) j)
theorem CoAns.bad {w w' : World} {sd code : Int} {xs : List Int} (hb : Below w.heap.size w w') (hc : code = (if inB sd 2 4 = true then lf xs else 3)) (h0 : code ≠ 0) : CoAns w sd xs (.returned (.tuple #[.agg #[.int .i64 0, .int .i64 0, .int .i64 0], .agg #[.int .i64 0, .int .i64 0, .int .i64 0], .int .i64 code])) w' :=
  ⟨fun _ => 0, fun _ => 0, code, rfl, hb, hc, fun h => absurd h h0⟩
set_option maxRecDepth 100000 in
set_option maxHeartbeats 4000000 in
theorem cellOf_any (P : Option Addr) (m d : Nat) (sd : Int) (xs : List Int) (w : World) (hp : Rd .i64 w P m xs) (hcap : m ≤ d) (hm : d ≤ maxLen) : Calls Try.prog 109 #[.int .i64 sd, .slice P m d] w (CoAns w sd xs) := by
  obtain ⟨W0, hW0⟩ : ∃ W0, W0 = (w.alloc (.cells #[.int .i64 0, .int .i64 0, .int .i64 0] 139)).alloc (.cells #[.int .i64 0, .int .i64 0, .int .i64 0] 106) := ⟨_, rfl⟩
  have A0 : Hid (Bx W0 w.heap.size (rv fun _ => 0)) := by show Bx _ _ _; rw [hW0]; exact (Bx.new _ _ _ rfl).alloc _
  have B0 : Hid (Bx W0 (w.heap.size + 1) (rv fun _ => 0)) := by show Bx _ _ _; rw [hW0]; exact Bx.new _ _ _ (by simp)
  have T0 : Hid (Below w.heap.size w W0) := by show Below _ _ _; rw [hW0]; exact blThenAlloc (blAlloc _ _) _
  have HP := Lib.hid (hp.below T0.out)
  have HW := Lib.hid hW0
  have HC := Lib.hid (And.intro hcap hm)
  clear hW0 hp hcap hm
  rcases Bool.eq_false_or_eq_true (inB sd 2 4) with hs | hs
  · have CS : Hid (∀ W, Calls Try.prog 115 #[.int .i64 sd] W fun e w' => e = .returned (.bool true) ∧ W = w') := fun W => by rw [← hs]; exact isSide_any sd W
    have HE : Hid ((if inB sd 2 4 = true then lf xs else 3) = lf xs) := by show _ = _; rw [hs]; rfl
    have H3 := Lib.hid (side_cases hs)
    clear hs
    go_enter Try.func109, Try.ntmps109
    go_wp2_with (go_at_call 115; refine (CS.out _).mono ?_; rintro e w' ⟨rfl, rfl⟩)
    rw [← HW.out]
    refine (lightsOf_any _ _ _ xs _ HP.out HC.out.1 HC.out.2).mono ?_
    rintro e w1 ⟨q, rfl, hq, hb⟩
    have A1 := Lib.hid (A0.out.bel hb)
    have B1 := Lib.hid (B0.out.bel hb)
    have T1 := Lib.hid (blThen T0.out hb)
    have HQ := Lib.hid hq
    clear hb hq CS HW HP A0 B0 T0
    by_cases h0 : lf xs = 0
    · rw [h0]
      have HQB : Hid (∀ j, j < 3 → 0 ≤ q j ∧ q j ≤ 65535) := fun j hj => by rw [HQ.out h0 j hj]; exact inB_iff.1 ((lf_zero h0).2 j hj)
      obtain ⟨cv, hcv⟩ : ∃ f, f = cc sd (xs.getD · 0) := ⟨_, rfl⟩
      obtain ⟨dv, hdv⟩ : ∃ f, f = cr sd (xs.getD · 0) := ⟨_, rfl⟩
      have HCD := Lib.hid (And.intro hcv hdv)
      have HV : Hid (∀ j, j < 3 → clC sd (q j) = cv j ∧ clR sd (q j) = dv j) := fun j hj => by rw [HQ.out h0 j hj, hcv, hdv]; exact ⟨rfl, rfl⟩
      clear hcv hdv
      replace HE : Hid ((if inB sd 2 4 = true then lf xs else 3) = 0) := by show _ = _; rw [HE.out, h0]
      clear h0 HQ
      obtain ⟨W2, hW2⟩ : ∃ W2, W2 = ((w1.alloc (.cells #[.int .i64 (q 0), .int .i64 (q 1), .int .i64 (q 2)] 106)).alloc (.cells #[.int .i64 0, .int .i64 0, .int .i64 0] 139)).alloc (.cells #[.int .i64 0, .int .i64 0, .int .i64 0] 106) := ⟨_, rfl⟩
      have Q2 : Hid (Bx W2 w1.heap.size (rv q)) := by show Bx _ _ _; rw [hW2]; exact ((Bx.new _ _ _ rfl).alloc _).alloc _
      have C2 : Hid (Bx W2 (w1.heap.size + 1) (rv fun _ => 0)) := by show Bx _ _ _; rw [hW2]; exact (Bx.new _ _ _ (by simp)).alloc _
      have R2 : Hid (Bx W2 (w1.heap.size + 1 + 1) (rv fun _ => 0)) := by show Bx _ _ _; rw [hW2]; exact Bx.new _ _ _ (by simp)
      have A2 : Hid (Bx W2 w.heap.size (rv fun _ => 0)) := by show Bx _ _ _; rw [hW2]; exact ((A1.out.alloc _).alloc _).alloc _
      have B2 : Hid (Bx W2 (w.heap.size + 1) (rv fun _ => 0)) := by show Bx _ _ _; rw [hW2]; exact ((B1.out.alloc _).alloc _).alloc _
      have T2 : Hid (Below w.heap.size w W2) := by show Below _ _ _; rw [hW2]; exact blThenAlloc (blThenAlloc (blThenAlloc T1.out _) _) _
      have l0 := A1.out.lt
      have l1 := B1.out.lt
      go_wp2_with fail
      rw [← hW2]
      clear hW2 A1 B1 T1
      have a0 := A2.out.c 0 rfl
      have af0 := A2.out.f 0
      have a1 := A2.out.c 1 rfl
      have af1 := A2.out.f 1
      have a2 := A2.out.c 2 rfl
      have af2 := A2.out.f 2
      have b0 := B2.out.c 0 rfl
      have bf0 := B2.out.f 0
      have b1 := B2.out.c 1 rfl
      have bf1 := B2.out.f 1
      have b2 := B2.out.c 2 rfl
      have bf2 := B2.out.f 2
      have c0 := C2.out.c 0 rfl
      have cf0 := C2.out.f 0
      have c1 := C2.out.c 1 rfl
      have cf1 := C2.out.f 1
      have c2 := C2.out.c 2 rfl
      have cf2 := C2.out.f 2
      have r0 := R2.out.c 0 rfl
      have rf0 := R2.out.f 0
      have r1 := R2.out.c 1 rfl
      have rf1 := R2.out.f 1
      have r2 := R2.out.c 2 rfl
      have rf2 := R2.out.f 2
      have q0 := Q2.out.c 0 rfl
      have q1 := Q2.out.c 1 rfl
      have q2 := Q2.out.c 2 rfl
      refine wp_loop_rounds 4 ?_
      rw [rounds_succ]
      go_wp2_with (go_at_call 148; refine (cellOfLevel_any sd (q 0) _ H3.out (HQB.out 0 (by omega)).1 (HQB.out 0 (by omega)).2).mono ?_; rintro e w' ⟨rfl, rfl⟩)
      rw [(HV.out 0 (by omega)).1, (HV.out 0 (by omega)).2]
      rw [rounds_succ]
      go_wp2_with (go_at_call 148; refine (cellOfLevel_any sd (q 1) _ H3.out (HQB.out 1 (by omega)).1 (HQB.out 1 (by omega)).2).mono ?_; rintro e w' ⟨rfl, rfl⟩)
      rw [(HV.out 1 (by omega)).1, (HV.out 1 (by omega)).2]
      rw [rounds_succ]
      go_wp2_with (go_at_call 148; refine (cellOfLevel_any sd (q 2) _ H3.out (HQB.out 2 (by omega)).1 (HQB.out 2 (by omega)).2).mono ?_; rintro e w' ⟨rfl, rfl⟩)
      rw [(HV.out 2 (by omega)).1, (HV.out 2 (by omega)).2]
      rw [rounds_succ]
      go_wp2_with fail
      go_region
      go_wp2_with fail
      have AA := ((((((((((((A2.out.oth (c := w1.heap.size + 1) (by omega) 0 (.int .i64 (cv 0))).oth (c := w1.heap.size + 1 + 1) (by omega) 0 (.int .i64 (dv 0))).oth (c := w1.heap.size + 1) (by omega) 1 (.int .i64 (cv 1))).oth (c := w1.heap.size + 1 + 1) (by omega) 1 (.int .i64 (dv 1))).oth (c := w1.heap.size + 1) (by omega) 2 (.int .i64 (cv 2))).oth (c := w1.heap.size + 1 + 1) (by omega) 2 (.int .i64 (dv 2))).set 0 (.int .i64 (cv 0))).set 1 (.int .i64 (cv 1))).set 2 (.int .i64 (cv 2))).oth (c := w.heap.size + 1) (by omega) 0 (.int .i64 (dv 0))).oth (c := w.heap.size + 1) (by omega) 1 (.int .i64 (dv 1))).oth (c := w.heap.size + 1) (by omega) 2 (.int .i64 (dv 2)))
      have BB := ((((((((((((B2.out.oth (c := w1.heap.size + 1) (by omega) 0 (.int .i64 (cv 0))).oth (c := w1.heap.size + 1 + 1) (by omega) 0 (.int .i64 (dv 0))).oth (c := w1.heap.size + 1) (by omega) 1 (.int .i64 (cv 1))).oth (c := w1.heap.size + 1 + 1) (by omega) 1 (.int .i64 (dv 1))).oth (c := w1.heap.size + 1) (by omega) 2 (.int .i64 (cv 2))).oth (c := w1.heap.size + 1 + 1) (by omega) 2 (.int .i64 (dv 2))).oth (c := w.heap.size) (by omega) 0 (.int .i64 (cv 0))).oth (c := w.heap.size) (by omega) 1 (.int .i64 (cv 1))).oth (c := w.heap.size) (by omega) 2 (.int .i64 (cv 2))).set 0 (.int .i64 (dv 0))).set 1 (.int .i64 (dv 1))).set 2 (.int .i64 (dv 2)))
      have k0 := AA.c 0 rfl
      have k1 := AA.c 1 rfl
      have k2 := AA.c 2 rfl
      have k3 := BB.c 0 rfl
      have k4 := BB.c 1 rfl
      have k5 := BB.c 2 rfl
      clear AA BB
      refine bodyPost_ret (v := .tuple #[.agg #[.int .i64 (cv 0), .int .i64 (cv 1), .int .i64 (cv 2)], .agg #[.int .i64 (dv 0), .int .i64 (dv 1), .int .i64 (dv 2)], .int .i64 0]) (by simp [results, Try.results109, go_sem, k0, k1, k2, k3, k4, k5]) rfl ⟨cv, dv, 0, rfl, ?_, HE.out.symm, fun _ j hj => by rw [HCD.out.1, HCD.out.2]; exact ⟨rfl, rfl⟩⟩
      clear k0 k1 k2 k3 k4 k5
      exact Below.drew (bel1 (bel1 (bel1 (bel1 (bel1 (bel1 (bel1 (bel1 (bel1 (bel1 (bel1 (bel1 T2.out (c := w1.heap.size + 1) (by omega) 0 (.int .i64 (cv 0))) (c := w1.heap.size + 1 + 1) (by omega) 0 (.int .i64 (dv 0))) (c := w1.heap.size + 1) (by omega) 1 (.int .i64 (cv 1))) (c := w1.heap.size + 1 + 1) (by omega) 1 (.int .i64 (dv 1))) (c := w1.heap.size + 1) (by omega) 2 (.int .i64 (cv 2))) (c := w1.heap.size + 1 + 1) (by omega) 2 (.int .i64 (dv 2))) (c := w.heap.size) (by omega) 0 (.int .i64 (cv 0))) (c := w.heap.size) (by omega) 1 (.int .i64 (cv 1))) (c := w.heap.size) (by omega) 2 (.int .i64 (cv 2))) (c := w.heap.size + 1) (by omega) 0 (.int .i64 (dv 0))) (c := w.heap.size + 1) (by omega) 1 (.int .i64 (dv 1))) (c := w.heap.size + 1) (by omega) 2 (.int .i64 (dv 2)))
    · obtain ⟨f, hf⟩ : ∃ f, f = lf xs := ⟨_, rfl⟩
      replace HE : Hid ((if inB sd 2 4 = true then lf xs else 3) = f) := by show _ = _; rw [HE.out, hf]
      rw [← hf] at h0 ⊢
      have hqn : (f == 0) = false := by simpa using h0
      clear hf HQ
      have x0 := A1.out.c 0 rfl
      have x1 := A1.out.c 1 rfl
      have x2 := A1.out.c 2 rfl
      have y0 := B1.out.c 0 rfl
      have y1 := B1.out.c 1 rfl
      have y2 := B1.out.c 2 rfl
      have z0 := A1.out.f 0
      have z1 := A1.out.f 1
      have z2 := A1.out.f 2
      have u0 := B1.out.f 0
      have u1 := B1.out.f 1
      have u2 := B1.out.f 2
      have l0 := A1.out.lt
      have l1 := B1.out.lt
      go_wp2_with fail
      have AA := ((((((A1.out.set 0 (.int .i64 0)).set 1 (.int .i64 0)).set 2 (.int .i64 0)).oth (c := w.heap.size + 1) (by omega) 0 (.int .i64 0)).oth (c := w.heap.size + 1) (by omega) 1 (.int .i64 0)).oth (c := w.heap.size + 1) (by omega) 2 (.int .i64 0)).alloc (.cells #[.int .i64 (q 0), .int .i64 (q 1), .int .i64 (q 2)] 106)
      have BB := ((((((B1.out.oth (c := w.heap.size) (by omega) 0 (.int .i64 0)).oth (c := w.heap.size) (by omega) 1 (.int .i64 0)).oth (c := w.heap.size) (by omega) 2 (.int .i64 0)).set 0 (.int .i64 0)).set 1 (.int .i64 0)).set 2 (.int .i64 0)).alloc (.cells #[.int .i64 (q 0), .int .i64 (q 1), .int .i64 (q 2)] 106)
      have k0 := AA.c 0 rfl
      have k1 := AA.c 1 rfl
      have k2 := AA.c 2 rfl
      have k3 := BB.c 0 rfl
      have k4 := BB.c 1 rfl
      have k5 := BB.c 2 rfl
      clear AA BB
      refine bodyPost_ret (v := .tuple #[.agg #[.int .i64 0, .int .i64 0, .int .i64 0], .agg #[.int .i64 0, .int .i64 0, .int .i64 0], .int .i64 f]) (by simp [results, Try.results109, go_sem, k0, k1, k2, k3, k4, k5]) rfl (CoAns.bad ?_ HE.out.symm h0)
      clear k0 k1 k2 k3 k4 k5
      exact blThenAlloc (bel1 (bel1 (bel1 (bel1 (bel1 (bel1 T1.out (c := w.heap.size) (by omega) 0 (.int .i64 0)) (c := w.heap.size) (by omega) 1 (.int .i64 0)) (c := w.heap.size) (by omega) 2 (.int .i64 0)) (c := w.heap.size + 1) (by omega) 0 (.int .i64 0)) (c := w.heap.size + 1) (by omega) 1 (.int .i64 0)) (c := w.heap.size + 1) (by omega) 2 (.int .i64 0)) _
  · have CS : Hid (∀ W, Calls Try.prog 115 #[.int .i64 sd] W fun e w' => e = .returned (.bool false) ∧ W = w') := fun W => by rw [← hs]; exact isSide_any sd W
    have HE : Hid (3 = (if inB sd 2 4 = true then lf xs else 3)) := by show _ = _; rw [hs]; rfl
    clear hs
    go_enter Try.func109, Try.ntmps109
    go_wp2_with (go_at_call 115; refine (CS.out _).mono ?_; rintro e w' ⟨rfl, rfl⟩)
    rw [← HW.out]
    have x0 := A0.out.c 0 rfl
    have x1 := A0.out.c 1 rfl
    have x2 := A0.out.c 2 rfl
    have y0 := B0.out.c 0 rfl
    have y1 := B0.out.c 1 rfl
    have y2 := B0.out.c 2 rfl
    refine bodyPost_ret (v := .tuple #[.agg #[.int .i64 0, .int .i64 0, .int .i64 0], .agg #[.int .i64 0, .int .i64 0, .int .i64 0], .int .i64 3]) (by simp [results, Try.results109, go_sem, x0, x1, x2, y0, y1, y2]) rfl ?_
    exact CoAns.bad T0.out HE.out (by omega)
set_option maxRecDepth 100000 in
set_option maxHeartbeats 4000000 in
theorem EvalGrid_f (A P : Option Addr) (n c m d : Nat) (sd : Int) (rs : Rws) (xs : List Int) (bs : List Nat) (w : World) (h : Hd w (rowsD rs) (.slice A n c) bs) (h0 : gf sd rs ≠ 0) :
    Calls Try.prog 43 #[.agg #[.int .i64 sd, .slice A n c], .slice P m d] w (IAns w (egC sd rs xs) (egL sd rs xs)) := by
  have HA := Lib.hid (eg_f (xs := xs) h0)
  obtain ⟨f, hfe⟩ : ∃ f, gf sd rs = f := ⟨_, rfl⟩
  have CN : Hid (∀ W, Hd W (rowsD rs) (.slice A n c) bs → Calls Try.prog 108 #[.agg #[.int .i64 sd, .slice A n c]] W (NdF W f)) := fun W hW => (nodesOf_any A n c sd rs bs W hW).mono fun e w' hh => by
    obtain ⟨m, he, hb⟩ := hh; exact ⟨m, by rw [he, hfe], hb⟩
  rw [hfe] at h0 HA
  have hqn : (f == 0) = false := by simpa using h0
  have H := Lib.hid h
  clear h hfe
  go_enter Try.func43, Try.ntmps43
  go_wp2_with fail
  refine (CN.out _ ((H.out.alloc _).alloc _)).mono ?_
  rintro e w1 ⟨q, rfl, hb⟩
  obtain ⟨hc, hf⟩ := bcell hb
  have hz : w.heap.size + 1 < w1.heap.size := by have := hb.size; simp at this; omega
  have T := Lib.hid (blThen (blThenAlloc (blAlloc w _) _) hb)
  clear hb CN H
  go_wp2_with fail
  refine bodyPost_ret (v := .agg #[.int .i64 f, .slice none 0 0]) (by simp [results, Try.results43, go_sem, hc]) rfl (IAns.bad HA.out ?_)
  repeat (first | exact T.out | refine Below.setCell ?_ (by simp; try omega) _)
set_option maxRecDepth 100000 in
set_option maxHeartbeats 4000000 in
theorem EvalGrid_z (A P : Option Addr) (n c m d s : Nat) (rs : Rws) (xs : List Int) (bs gs : List Nat) (w : World) (h : Hd w (rowsD rs) (.slice A n c) bs) (hp : Hd w (.ints .i64 xs) (.slice P m d) gs) (h0 : gf (s : Int) rs = 0) :
    Calls Try.prog 43 #[.agg #[.int .i64 (s : Int), .slice A n c], .slice P m d] w (IAns w (egC (s : Int) rs xs) (egL (s : Int) rs xs)) := by
  have CN := Lib.hid (fun W (hW : Hd W (rowsD rs) (.slice A n c) bs) => nodesOf_ok A n c s rs bs W hW h0)
  have HP := Lib.hid hp
  have H := Lib.hid h
  have HG := Lib.hid h0
  clear h hp h0
  go_enter Try.func43, Try.ntmps43
  go_wp2_with fail
  refine (CN.out _ ((H.out.alloc _).alloc _)).mono ?_
  rintro e w1 ⟨B, D, rfl, hM, hb⟩
  have HM := Lib.hid hM
  have G1 := Lib.hid (((Bx.new w #[.int .i64 (s : Int), .slice A n c] 61 rfl).alloc (.cells #[.int .i64 0, .slice none 0 0] 31)).bel hb)
  have R1 := Lib.hid ((Bx.new (w.alloc (.cells #[.int .i64 (s : Int), .slice A n c] 61)) #[.int .i64 0, .slice none 0 0] 31 (b := w.heap.size + 1) (by simp)).bel hb)
  have T1 := Lib.hid (blThen (blThenAlloc (blAlloc w _) _) hb)
  clear hb hM CN
  have x0 := G1.out.c 0 rfl
  go_wp2_with fail
  refine (cellOf_any P m d (s : Int) xs _ (HP.out.rd.below T1.out) HP.out.caps.1 HP.out.caps.2).mono ?_
  rintro e w2 ⟨f, g, code, rfl, hb, hcode, hfg⟩
  have R2 := Lib.hid (R1.out.bel hb)
  have T2 := Lib.hid (blThen T1.out hb)
  have HM2 := Lib.hid (HM.out.kept hb)
  have hcd : code = lf xs := by rw [hcode, (gf_zero HG.out).1]; rfl
  clear hb hcode R1 T1 HM G1 x0
  have r0 := R2.out.c 0 rfl
  have r1 := R2.out.c 1 rfl
  have z0 := R2.out.f 0
  have z1 := R2.out.f 1
  have l0 := R2.out.lt
  have l1 : w.heap.size < w2.heap.size := by omega
  have l2 : w.heap.size + 1 < w2.heap.size + 1 := by omega
  have F1 : Hid (Bx ((w2.alloc (.cells #[.int .i64 (f 0), .int .i64 (f 1), .int .i64 (f 2)] 139)).alloc (.cells #[.int .i64 (g 0), .int .i64 (g 1), .int .i64 (g 2)] 106)) w2.heap.size (rv f)) := (Bx.new _ _ _ rfl).alloc _
  have F2 : Hid (Bx ((w2.alloc (.cells #[.int .i64 (f 0), .int .i64 (f 1), .int .i64 (f 2)] 139)).alloc (.cells #[.int .i64 (g 0), .int .i64 (g 1), .int .i64 (g 2)] 106)) (w2.heap.size + 1) (rv g)) := Bx.new _ _ _ (by simp)
  by_cases h0 : code = 0
  · subst h0
    have hl := hcd.symm
    have HA := Lib.hid (eg_y HG.out hl)
    have hsd := side_cases (gf_zero HG.out).1
    have hv : Lv (xs.getD · 0) := fun j hj => inB_iff.1 ((lf_zero hl).2 j hj)
    have HIN : Hid (∀ t, t ≤ 3 → inS (s : Int) [pl f g t 0, pl f g t 1, pl f g t 2] = true) := fun t ht => by
      have hb : ∀ j, j < 3 → 0 ≤ f j ∧ f j ≤ (s : Int) - 2 := fun j hj => by rw [(hfg rfl j hj).1]; exact cc_bd hsd hv hj
      have h0 := pl_bd f g ht (j := 0) (by omega)
      have h1 := pl_bd f g ht (j := 1) (by omega)
      have h2 := pl_bd f g ht (j := 2) (by omega)
      have g0 := hb 0 (by omega)
      have g1 := hb 1 (by omega)
      have g2 := hb 2 (by omega)
      rw [inS_iff]
      simp only [List.getD_cons_zero, List.getD_cons_succ]
      omega
    have HLG : Hid (Lv g) := fun j hj => by rw [(hfg rfl j hj).2]; exact cr_bd hsd hv j hj
    have HFG : Hid (∀ i, i < 3 → gvl (s : Int) rs (xs.getD · 0) i = rnd (sm rs s f g 4 i) 65535) := fun i hi => by
      unfold gvl
      rw [sm_ext (f := f) (g := g) (fun j hj => (hfg rfl j hj).1) (fun j hj => (hfg rfl j hj).2)]
    clear hcd hfg hl hsd hv
    go_wp2_with fail
    refine (between_any B s rs D f g _ (HM2.out.kept (blThenAlloc (blAlloc w2 _) _)) HG.out HIN.out HLG.out).mono ?_
    rintro e w3 ⟨rfl, hb⟩
    have R3 := Lib.hid (((R2.out.alloc (.cells #[.int .i64 (f 0), .int .i64 (f 1), .int .i64 (f 2)] 139)).alloc (.cells #[.int .i64 (g 0), .int .i64 (g 1), .int .i64 (g 2)] 106)).bel hb)
    have T3 := Lib.hid (blThen (blThenAlloc (blThenAlloc T2.out _) _) hb)
    have hz : w2.heap.size + 1 < w3.heap.size := by have := hb.size; simp at this; omega
    rw [← HFG.out 0 (by omega), ← HFG.out 1 (by omega), ← HFG.out 2 (by omega)]
    have HA1 := Lib.hid HA.out.1
    have HA2 := Lib.hid HA.out.2
    obtain ⟨v, hv⟩ : ∃ v, v = gvl (s : Int) rs (xs.getD · 0) := ⟨_, rfl⟩
    replace HA2 : Hid (egL (s : Int) rs xs = [v 0, v 1, v 2]) := by show _ = _; rw [HA2.out, hv]
    rw [← hv]
    clear hb R2 T2 HM2 F1 F2 HIN HLG HFG r0 r1 z0 z1 hv HA
    have r0 := R3.out.c 0 rfl
    have r1 := R3.out.c 1 rfl
    have z0 := R3.out.f 0
    have z1 := R3.out.f 1
    have l3 := R3.out.lt
    go_wp2_with fail
    have KK := ((R3.out.set 0 (.int .i64 0)).set 1 (.slice (some ⟨w3.heap.size, 0, none⟩) 3 3)).alloc (.cells #[.int .i64 (v 0), .int .i64 (v 1), .int .i64 (v 2)] 106)
    have k0 := KK.c 0 rfl
    have k1 := KK.c 1 rfl
    clear KK
    refine bodyPost_ret (v := .agg #[.int .i64 0, .slice (some ⟨w3.heap.size, 0, none⟩) 3 3]) (by simp [results, Try.results43, go_sem, k0, k1]) rfl ⟨_, _, _, by rw [HA1.out], ?_, ?_⟩
    · rw [HA2.out]
      exact al_own _ _ _ _ _ _ _ _ _ (by omega)
    · exact blThenAlloc (bel1 (bel1 T3.out (c := w.heap.size + 1) (by omega) 0 _) (c := w.heap.size + 1) (by omega) 1 _) _
  · have HA := Lib.hid (eg_l (xs := xs) HG.out (by rw [← hcd]; exact h0))
    have HCD := Lib.hid hcd
    have hqn : (code == 0) = false := by simpa using h0
    clear hcd hfg
    go_wp2_with fail
    have KK := (((R2.out.set 0 (.int .i64 code)).set 1 (.slice none 0 0)).alloc (.cells #[.int .i64 (f 0), .int .i64 (f 1), .int .i64 (f 2)] 139)).alloc (.cells #[.int .i64 (g 0), .int .i64 (g 1), .int .i64 (g 2)] 106)
    have k0 := KK.c 0 rfl
    have k1 := KK.c 1 rfl
    clear KK
    refine bodyPost_ret (v := .agg #[.int .i64 code, .slice none 0 0]) (by simp [results, Try.results43, go_sem, k0, k1]) rfl (IAns.bad ⟨by rw [HA.out.1, HCD.out], HA.out.2⟩ ?_)
    exact blThenAlloc (blThenAlloc (bel1 (bel1 T2.out (c := w.heap.size + 1) (by omega) 0 _) (c := w.heap.size + 1) (by omega) 1 _) _) _
theorem EvalGrid_any (A P : Option Addr) (n c m d : Nat) (sd : Int) (rs : Rws) (xs : List Int) (bs gs : List Nat) (w : World) (h : Hd w (rowsD rs) (.slice A n c) bs) (hp : Hd w (.ints .i64 xs) (.slice P m d) gs) :
    Calls Try.prog 43 #[.agg #[.int .i64 sd, .slice A n c], .slice P m d] w (IAns w (egC sd rs xs) (egL sd rs xs)) := by
  by_cases h0 : gf sd rs = 0
  · obtain ⟨s, rfl⟩ : ∃ s : Nat, sd = s := ⟨sd.toNat, by have := inB_iff.1 (gf_zero h0).1; omega⟩
    exact EvalGrid_z A P n c m d s rs xs bs gs w h hp h0
  · exact EvalGrid_f A P n c m d sd rs xs bs w h h0
end Go.Proofs.Ytmcdbingcclpcaa
