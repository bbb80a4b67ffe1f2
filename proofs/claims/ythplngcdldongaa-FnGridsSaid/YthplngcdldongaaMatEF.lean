/-
  Lists of int64 that are compared: the program's slices.Equal, the reference model's l1Same.
  Matrices that are compared: slices.EqualFunc over rows, the program's and the model's SameMatrices.
  Matrices that are compared by the model: SameMatrices.
-/
import Derived.Test.YthplngcdldongaaHelpA
import Derived.Test.YthplngcdldongaaMatB
namespace Go.Proofs.Ythplngcdldongaa
open Go.RowKit
set_option linter.unusedVariables false

def sameI (xs ys : List Int) : Bool := decide (xs = ys)
theorem sameI_len {xs ys : List Int} (h : xs.length ≠ ys.length) : sameI xs ys = false := decide_eq_false (fun e => h (by rw [e]))
theorem sameI_at {xs ys : List Int} {k : Nat} (h : xs.getD k 0 ≠ ys.getD k 0) : sameI xs ys = false := decide_eq_false (fun e => h (by rw [e]))
theorem sameI_all {xs ys : List Int} {n : Nat} (h1 : xs.length = n) (h2 : ys.length = n) (h : ∀ i, i < n → xs.getD i 0 = ys.getD i 0) : sameI xs ys = true := by
  refine decide_eq_true (List.ext_getElem (by omega) fun i hi hj => ?_)
  have := h i (by omega)
  simpa [List.getD, hi, hj] using this
theorem sameI_self (xs : List Int) : sameI xs xs = true := decide_eq_true rfl
set_option maxHeartbeats 400000 in
theorem equalI_any (A A' : Option Addr) (n n' c c' : Nat) (xs ys : List Int) (w : World) (h : Rd .i64 w A n xs) (h' : Rd .i64 w A' n' ys) (hn : n ≤ maxLen) (hn' : n' ≤ maxLen) :
    Calls Try.prog 80 #[.slice A n c, .slice A' n' c'] w fun e w' => e = .returned (.bool (sameI xs ys)) ∧ ∃ m, w' = w.drewN m := by
  unfold maxLen at hn hn'
  have H := Lib.hid h
  have H' := Lib.hid h'
  clear h h'
  by_cases hl : n = n'
  · subst hl
    go_enter Try.func80, Try.ntmps80
    go_wp2
    go_loopw [13] (fun i wr => ∃ k m : Nat, k ≤ n ∧ i = .int .i64 k ∧ wr = w.drewN m ∧ Hid (∀ j, j < k → xs.getD j 0 = ys.getD j 0)) (fun i _ => n - (intOf i).toNat)
    case atStart => exact ⟨0, 0, by omega, rfl, rfl, fun j hj => absurd hj (by omega)⟩
    case round =>
      obtain ⟨k, m, hk, rfl, rfl, hz⟩ := hrel
      by_cases hlt : k < n
      · obtain ⟨b, o, rfl, hc⟩ := H.out.2 (by omega)
        obtain ⟨b', o', rfl, hc'⟩ := H'.out.2 (by omega)
        have c1 := hc k hlt
        have c2 := hc' k hlt
        clear hc hc'
        by_cases e : xs.getD k 0 = ys.getD k 0
        · have HZ : Hid (∀ j, j < k + 1 → xs.getD j 0 = ys.getD j 0) := fun j hj => by
            by_cases e' : j = k
            · rw [e']; exact e
            · exact hz.out j (by omega)
          rw [← e] at c2
          clear e
          generalize xs.getD k 0 = x at *
          go_wp2_with fail
          go_quiet (fail)
          go_wp2_with fail
          go_roundw
          case rel => exact ⟨k + 1, _, by omega, by go_num, rfl, HZ⟩
          case measure => simp [intOf]; omega
        · have HZ := Lib.hid (sameI_at e)
          have he : (xs.getD k 0 == ys.getD k 0) = false := by simpa using e
          clear e
          generalize xs.getD k 0 = x at *
          generalize ys.getD k 0 = y at *
          go_wp2_with fail
          go_quiet (fail)
          go_wp2_with fail
          go_ret
          exact ⟨ret_bool HZ.out.symm, _, World.drewN_drewN ..⟩
      · obtain rfl : k = n := by omega
        go_wp2
        go_ret
        exact ⟨ret_bool (sameI_all H.out.1 H'.out.1 hz.out).symm, _, rfl⟩
  · have HZ : Hid (sameI xs ys = false) := sameI_len (by rw [H.out.1, H'.out.1]; exact hl)
    have hl' : ((n : Int) == (n' : Int)) = false := by simp; omega
    clear H H'
    go_enter Try.func80, Try.ntmps80
    go_wp2
    go_ret
    exact ⟨ret_bool HZ.out.symm, 0, rfl⟩
end Go.Proofs.Ythplngcdldongaa
namespace Go.Proofs.Ythplngcdldongaa
open Go.RowKit
set_option linter.unusedVariables false
set_option linter.unusedSimpArgs false

def sameM (rs us : Rws) : Bool := decide (rs = us)
theorem sameM_len {rs us : Rws} (h : rs.length ≠ us.length) : sameM rs us = false := decide_eq_false (fun e => h (by rw [e]))
theorem sameM_at {rs us : Rws} {k : Nat} (h : sameI (rw_ rs k) (rw_ us k) = false) : sameM rs us = false := decide_eq_false (fun e => by subst e; rw [sameI_self] at h; cases h)
theorem sameM_all {rs us : Rws} {n : Nat} (h1 : rs.length = n) (h2 : us.length = n) (h : ∀ i, i < n → sameI (rw_ rs i) (rw_ us i) = true) : sameM rs us = true := by
  refine decide_eq_true (List.ext_getElem (by omega) fun i hi hj => ?_)
  have := of_decide_eq_true (h i (by omega))
  simpa [rw_, List.getD, hi, hj] using this
theorem sameM_self (rs : Rws) : sameM rs rs = true := decide_eq_true rfl
theorem sameM_nine {rs us : Rws} (h : mf rs = 0) (h' : mf us = 0) (q p : Nat → Int) (hq : ∀ t, t < 9 → q t = fl rs t) (hp : ∀ t, t < 9 → p t = fl us t) (e : ∀ t, t < 9 → q t = p t) : sameM rs us = true := by
  refine sameM_all (mf_zero h).1 (mf_zero h').1 fun i hi => sameI_all (mf_lens h i hi) (mf_lens h' i hi) fun k hk => ?_
  rw [← fl_at rs i k hk, ← fl_at us i k hk, ← hq _ (by omega), ← hp _ (by omega)]
  exact e _ (by omega)
theorem sameM_not {rs us : Rws} (q p : Nat → Int) (hq : ∀ t, t < 9 → q t = fl rs t) (hp : ∀ t, t < 9 → p t = fl us t) {t : Nat} (ht : t < 9) (e : q t ≠ p t) : sameM rs us = false :=
  decide_eq_false (fun h => e (by rw [hq t ht, hp t ht, h]))
set_option maxRecDepth 100000 in
set_option maxHeartbeats 1000000 in
theorem equalRows_any (A A' : Option Addr) (n n' c c' : Nat) (rs us : Rws) (bs bs' : List Nat) (w : World) (h : Hd w (rowsD rs) (.slice A n c) bs) (h' : Hd w (rowsD us) (.slice A' n' c') bs') :
    Calls Try.prog 79 #[.slice A n c, .slice A' n' c', .func (.func 80) #[] #[]] w fun e w' => e = .returned (.bool (sameM rs us)) ∧ ∃ m, w' = w.drewN m := by
  have hl := h.rows.1
  have hl' := h'.rows.1
  obtain ⟨-, hc1, hc2, -⟩ := h.rows
  obtain ⟨-, hc1', hc2', -⟩ := h'.rows
  unfold maxLen at hc2 hc2'
  by_cases en : n = n'
  · subst en
    have HL := Lib.hid hl
    have HL' := Lib.hid hl'
    have H := Lib.hid h
    have H' := Lib.hid h'
    clear h h' hl hl'
    go_enter Try.func79, Try.ntmps79
    go_wp2
    go_loopw [17] (fun i wr => ∃ k m : Nat, k ≤ n ∧ i = .int .i64 k ∧ Hid (∀ j, j < k → sameI (rw_ rs j) (rw_ us j) = true) ∧ wr = w.drewN m) (fun i _ => n - (intOf i).toNat)
    case atStart => exact ⟨0, 0, by omega, rfl, fun j hj => absurd hj (by omega), rfl⟩
    case round =>
      obtain ⟨k, m, hk, rfl, hsk, rfl⟩ := hrel
      by_cases hlt : k < n
      · obtain ⟨b, o, B1, L1, C1, g1, rfl, x1, x3, -⟩ := H.out.row hlt
        obtain ⟨b', o', B2, L2, C2, g2, rfl, y1, y3, -⟩ := H'.out.row hlt
        have R1 := Lib.hid x3.rd
        have R2 := Lib.hid y3.rd
        have l1 := Lib.hid (Nat.le_trans x3.caps.1 x3.caps.2)
        have l2 := Lib.hid (Nat.le_trans y3.caps.1 y3.caps.2)
        clear x3 y3
        go_wp2_with fail
        refine (equalI_any _ _ _ _ _ _ _ _ _ (R1.out.drewN _) (R2.out.drewN _) l1.out l2.out).mono ?_
        rintro e w1 ⟨rfl, m1, rfl⟩
        clear x1 y1
        rcases Bool.eq_false_or_eq_true (sameI (rw_ rs k) (rw_ us k)) with hs | hs
        · have HK : Hid (∀ j, j < k + 1 → sameI (rw_ rs j) (rw_ us j) = true) := fun j hj => by
            by_cases e : j = k
            · subst e; exact hs
            · exact hsk.out j (by omega)
          go_wp2_with fail
          go_roundw
          case rel => exact ⟨k + 1, _, by omega, by go_num, HK, rfl⟩
          case measure => simp [intOf]; omega
        · have HK := Lib.hid (sameM_at hs)
          go_wp2_with fail
          go_ret
          exact ⟨ret_bool HK.out.symm, _, rfl⟩
      · obtain rfl : k = n := by omega
        have HK := Lib.hid (sameM_all HL.out HL'.out hsk.out)
        clear hsk
        go_wp2
        go_ret
        exact ⟨ret_bool HK.out.symm, _, rfl⟩
  · have HS : Hid (sameM rs us = false) := sameM_len (by omega)
    have he : ((n : Int) == (n' : Int)) = false := by simp; omega
    clear h h' hl hl'
    go_enter Try.func79, Try.ntmps79
    go_wp2
    go_ret
    exact ⟨ret_bool HS.out.symm, 0, rfl⟩
/-! arrays that are compared -/
theorem sz_int (W : World) : (sizeOf 2).run Try.prog W = .ok 1 W := by kernel_rfl
theorem sz_lights (W : World) : (sizeOf 75).run Try.prog W = .ok 3 W := by kernel_rfl
theorem part3_0 (a b c : Int) (W : World) : (part 2 #[.int .i64 a, .int .i64 b, .int .i64 c] 0).run Try.prog W = .ok (.int .i64 a) W := by kernel_rfl
theorem part3_1 (a b c : Int) (W : World) : (part 2 #[.int .i64 a, .int .i64 b, .int .i64 c] 1).run Try.prog W = .ok (.int .i64 b) W := by kernel_rfl
theorem part3_2 (a b c : Int) (W : World) : (part 2 #[.int .i64 a, .int .i64 b, .int .i64 c] 2).run Try.prog W = .ok (.int .i64 c) W := by kernel_rfl
theorem part9_0 (q : Nat → Int) (W : World) : (part 75 #[.int .i64 (q 0), .int .i64 (q 1), .int .i64 (q 2), .int .i64 (q 3), .int .i64 (q 4), .int .i64 (q 5), .int .i64 (q 6), .int .i64 (q 7), .int .i64 (q 8)] 0).run Try.prog W = .ok (.agg #[.int .i64 (q 0), .int .i64 (q 1), .int .i64 (q 2)]) W := by kernel_rfl
theorem part9_1 (q : Nat → Int) (W : World) : (part 75 #[.int .i64 (q 0), .int .i64 (q 1), .int .i64 (q 2), .int .i64 (q 3), .int .i64 (q 4), .int .i64 (q 5), .int .i64 (q 6), .int .i64 (q 7), .int .i64 (q 8)] 3).run Try.prog W = .ok (.agg #[.int .i64 (q 3), .int .i64 (q 4), .int .i64 (q 5)]) W := by kernel_rfl
theorem part9_2 (q : Nat → Int) (W : World) : (part 75 #[.int .i64 (q 0), .int .i64 (q 1), .int .i64 (q 2), .int .i64 (q 3), .int .i64 (q 4), .int .i64 (q 5), .int .i64 (q 6), .int .i64 (q 7), .int .i64 (q 8)] 6).run Try.prog W = .ok (.agg #[.int .i64 (q 6), .int .i64 (q 7), .int .i64 (q 8)]) W := by kernel_rfl
def b3 (a b c a' b' c' : Int) : Bool := (a == a') && ((b == b') && (c == c'))
set_option maxRecDepth 100000 in
theorem equal3 (d : Nat) (a b c a' b' c' : Int) (W : World) : (Op.equalIn (d + 2) 75 (.agg #[.int .i64 a, .int .i64 b, .int .i64 c]) (.agg #[.int .i64 a', .int .i64 b', .int .i64 c'])).run Try.prog W = .ok (b3 a b c a' b' c') W := by
  have pe : ∀ x y W, (Op.equalIn (d + 1) 2 (.int .i64 x) (.int .i64 y)).run Try.prog W = .ok (x == y) W := fun x y W => run_equalIn_int W d _ .i64 .i64 _ _ Try.underlying2
  rw [Op.equalIn]
  simp only [Sem.run_bind, run_underlying Try.underlying75, Result.andThen_ok, sz_int, Std.Legacy.Range.forIn_eq_forIn_range', Std.Legacy.Range.size, Nat.sub_zero, Nat.add_sub_cancel, Nat.div_one, List.range', List.forIn_cons, List.forIn_nil, Nat.zero_add, Nat.reduceAdd, Nat.reduceMul, Nat.mul_one, Nat.zero_mul, part3_0, part3_1, part3_2, pe]
  unfold b3
  cases h0 : (a == a') <;> cases h1 : (b == b') <;> cases h2 : (c == c') <;> simp [part3_0, part3_1, part3_2, pe, h0, h1, h2, Result.andThen, Sem.run_pure]
def b9 (q p : Nat → Int) : Bool := b3 (q 0) (q 1) (q 2) (p 0) (p 1) (p 2) && (b3 (q 3) (q 4) (q 5) (p 3) (p 4) (p 5) && b3 (q 6) (q 7) (q 8) (p 6) (p 7) (p 8))
set_option maxRecDepth 100000 in
theorem equal9 (q p : Nat → Int) (W : World) : (binOp .eql 104 (.agg #[.int .i64 (q 0), .int .i64 (q 1), .int .i64 (q 2), .int .i64 (q 3), .int .i64 (q 4), .int .i64 (q 5), .int .i64 (q 6), .int .i64 (q 7), .int .i64 (q 8)]) (.agg #[.int .i64 (p 0), .int .i64 (p 1), .int .i64 (p 2), .int .i64 (p 3), .int .i64 (p 4), .int .i64 (p 5), .int .i64 (p 6), .int .i64 (p 7), .int .i64 (p 8)])).run Try.prog W = .ok (.bool (b9 q p)) W := by
  have pe := equal3 9997
  rw [run_eql_struct, Op.equalIn]
  simp only [Sem.run_bind, run_underlying Try.underlying104, Result.andThen_ok, sz_lights, Std.Legacy.Range.forIn_eq_forIn_range', Std.Legacy.Range.size, Nat.sub_zero, Nat.add_sub_cancel, Nat.div_one, List.range', List.forIn_cons, List.forIn_nil, Nat.zero_add, Nat.reduceAdd, Nat.reduceMul, Nat.mul_one, Nat.one_mul, Nat.zero_mul, part9_0, part9_1, part9_2, pe]
  unfold b9
  cases h0 : b3 (q 0) (q 1) (q 2) (p 0) (p 1) (p 2) <;> cases h1 : b3 (q 3) (q 4) (q 5) (p 3) (p 4) (p 5) <;> cases h2 : b3 (q 6) (q 7) (q 8) (p 6) (p 7) (p 8) <;> simp [part9_0, part9_1, part9_2, pe, h0, h1, h2, Result.andThen, Sem.run_pure]
theorem b9_all {q p : Nat → Int} (h : b9 q p = true) : ∀ t, t < 9 → q t = p t := by
  unfold b9 b3 at h
  simp only [Bool.and_eq_true, beq_iff_eq] at h
  obtain ⟨⟨e0, e1, e2⟩, ⟨e3, e4, e5⟩, e6, e7, e8⟩ := h
  intro t ht
  match t, ht with
  | 0, _ => exact e0
  | 1, _ => exact e1
  | 2, _ => exact e2
  | 3, _ => exact e3
  | 4, _ => exact e4
  | 5, _ => exact e5
  | 6, _ => exact e6
  | 7, _ => exact e7
  | 8, _ => exact e8
theorem b9_of {q p : Nat → Int} (h : ∀ t, t < 9 → q t = p t) : b9 q p = true := by
  unfold b9 b3
  simp [h 0 (by omega), h 1 (by omega), h 2 (by omega), h 3 (by omega), h 4 (by omega), h 5 (by omega), h 6 (by omega), h 7 (by omega), h 8 (by omega)]
theorem sameM_b9 {rs us : Rws} (h : mf rs = 0) (h' : mf us = 0) {q p : Nat → Int} (hq : ∀ t, t < 9 → q t = fl rs t) (hp : ∀ t, t < 9 → p t = fl us t) : b9 q p = sameM rs us := by
  cases hb : b9 q p
  · refine (decide_eq_false (fun e => ?_)).symm
    subst e
    rw [b9_of (fun t ht => (hq t ht).trans (hp t ht).symm)] at hb
    cases hb
  · exact (sameM_nine h h' q p hq hp (b9_all hb)).symm
set_option maxRecDepth 100000 in
set_option maxHeartbeats 2000000 in
theorem SameMatrices_any (A A' : Option Addr) (n n' c c' : Nat) (rs us : Rws) (bs bs' : List Nat) (w : World) (h : Hd w (rowsD rs) (.slice A n c) bs) (h' : Hd w (rowsD us) (.slice A' n' c') bs') :
    Calls Try.prog 33 #[.agg #[.slice A n c], .agg #[.slice A' n' c']] w fun e w' => e = .returned (.bool (sameM rs us)) ∧ Below w.heap.size w w' := by
  have H := Lib.hid h
  have H' := Lib.hid h'
  clear h h'
  go_enter Try.func33, Try.ntmps33
  go_wp2_with fail
  refine (cellsOf_any _ _ _ rs _ _ ((H.out.alloc _).alloc _)).mono ?_
  rintro e w1 ⟨q, rfl, hq, hb⟩
  have xa : w1.cell? ⟨w.heap.size, 0, none⟩ = some (.slice A n c) := cell_later hb (cell_later (blAlloc _ _) (by simp))
  have xb : w1.cell? ⟨w.heap.size + 1, 0, none⟩ = some (.slice A' n' c') := cell_later hb (by rw [newCell _ _ _ _ _ (by simp)]; rfl)
  have HA := Lib.hid (((H.out.alloc _).alloc _).bel hb)
  have HB := Lib.hid (((H'.out.alloc _).alloc _).bel hb)
  have T := Lib.hid (blThen (blThenAlloc (blAlloc w _) _) hb)
  have lz : w.heap.size + 1 < w1.heap.size := cell_lt xb
  have HQ := Lib.hid hq
  clear hb H H' hq
  go_wp2_with fail
  refine (cellsOf_any _ _ _ us _ _ (HB.out.alloc _)).mono ?_
  rintro e w2 ⟨p, rfl, hp, hb⟩
  have c0 := fun t (ht : t < 9) (v : Value) (hv : (w1.alloc (.cells #[.int .i64 (q 0), .int .i64 (q 1), .int .i64 (q 2), .int .i64 (q 3), .int .i64 (q 4), .int .i64 (q 5), .int .i64 (q 6), .int .i64 (q 7), .int .i64 (q 8)] 104)).cell? ⟨w1.heap.size, t, none⟩ = some v) => cell_later hb hv
  have q0 := c0 0 (by omega) (.int .i64 (q 0)) (by simp)
  have q1 := c0 1 (by omega) (.int .i64 (q 1)) (by simp)
  have q2 := c0 2 (by omega) (.int .i64 (q 2)) (by simp)
  have q3 := c0 3 (by omega) (.int .i64 (q 3)) (by simp)
  have q4 := c0 4 (by omega) (.int .i64 (q 4)) (by simp)
  have q5 := c0 5 (by omega) (.int .i64 (q 5)) (by simp)
  have q6 := c0 6 (by omega) (.int .i64 (q 6)) (by simp)
  have q7 := c0 7 (by omega) (.int .i64 (q 7)) (by simp)
  have q8 := c0 8 (by omega) (.int .i64 (q 8)) (by simp)
  clear c0
  have ya := cell_later hb (cell_later (blAlloc _ _) xa)
  have yb := cell_later hb (cell_later (blAlloc _ _) xb)
  have lw := cell_lt q0
  have HA2 := Lib.hid ((HA.out.alloc _).bel hb)
  have HB2 := Lib.hid ((HB.out.alloc _).bel hb)
  have T2 := Lib.hid (blThen (blThenAlloc T.out _) hb)
  have la := cell_lt ya
  have lb := cell_lt yb
  have HP := Lib.hid hp
  clear hb xa xb HA HB T hp
  by_cases h1 : mf rs = 0
  · by_cases h2 : mf us = 0
    · have HS := Lib.hid (sameM_b9 h1 h2 (HQ.out h1) (HP.out h2))
      have he := equal9 q p
      go_wp2_with fail
      go_ret
      exact ⟨ret_bool HS.out, blThenAlloc T2.out _⟩
    · go_wp2_with fail
      refine (equalRows_any _ _ _ _ _ _ rs us _ _ _ (HA2.out.alloc _) (HB2.out.alloc _)).mono ?_
      rintro e w' ⟨rfl, m, rfl⟩
      go_wp2_with fail
      go_ret
      exact ⟨rfl, blThenDrew (blThenAlloc T2.out _) _⟩
  · go_wp2_with fail
    refine (equalRows_any _ _ _ _ _ _ rs us _ _ _ (HA2.out.alloc _) (HB2.out.alloc _)).mono ?_
    rintro e w' ⟨rfl, m, rfl⟩
    go_wp2_with fail
    go_ret
    exact ⟨rfl, blThenDrew (blThenAlloc T2.out _) _⟩
end Go.Proofs.Ythplngcdldongaa
namespace Go.Proofs.Ythplngcdldongaa
open Go.RowKit
set_option linter.unusedVariables false

end Go.Proofs.Ythplngcdldongaa
