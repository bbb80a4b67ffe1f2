/-
  The laws' helpers over lists of int64 and over curves: eqInt64S, markInt64S, heldInt64S, toInt64S, szInt64S; eqCurve, eqCurveResult, markCurve, heldCurve, markCurveResult, heldCurveResult, toCurve, szCurve; eqIntResult.
-/
import Derived.Test.YtmmlcdbbjkligaaTagD
namespace Go.Proofs.Ytmmlcdbbjkligaa
open Go.RowKit
set_option linter.unusedVariables false

set_option maxHeartbeats 400000 in
theorem eqInt64S_same (A A' : Option Addr) (n n' c c' : Nat) (xs : List Int) (w : World) (h : Rd .i64 w A n xs) (h' : Rd .i64 w A' n' xs) (hn : n ≤ 1000000000000) :
    Calls Try.prog 16 #[.slice A n c, .slice A' n' c'] w fun e w' => e = .returned (.bool true) ∧ ∃ m, w' = w.drewN m := by
  obtain rfl := h.len_eq h'
  have H : Hid (Rd .i64 w A n xs) := h
  have H' : Hid (Rd .i64 w A' n xs) := h'
  clear h h'
  go_enter Try.func16, Try.ntmps16
  go_wp2
  go_loopw [5] (fun i wr => ∃ k m : Nat, k ≤ n ∧ i = .int .i64 k ∧ wr = w.drewN m) (fun i _ => n - (intOf i).toNat)
  case atStart => exact ⟨0, 0, by omega, rfl, rfl⟩
  case round =>
    obtain ⟨k, m, hk, rfl, rfl⟩ := hrel
    by_cases hlt : k < n
    · obtain ⟨b, o, rfl, hc⟩ := H.out.2 (by omega)
      obtain ⟨b', o', rfl, hc'⟩ := H'.out.2 (by omega)
      have c1 := hc k hlt
      have c2 := hc' k hlt
      clear hc hc'
      generalize xs.getD k 0 = x at c1 c2
      go_wp2_with fail
      go_quiet (fail)
      go_wp2_with fail
      go_roundw
      case rel => exact ⟨k + 1, _, by omega, by go_num, rfl⟩
      case measure => simp [intOf]; omega
    · go_wp2
      go_ret
      exact ⟨rfl, _, rfl⟩

def imark (k : Int) (j : Nat) : Int := k + j
def imarks (k : Int) (n : Nat) : List Int := (List.range n).map (imark k)
theorem imarks_get {k : Int} {n i : Nat} (h : i < n) : (imarks k n).getD i 0 = imark k i := by
  unfold imarks; simp [List.getD, h]
theorem imarks_len (k : Int) (n : Nat) : (imarks k n).length = n := by simp [imarks]

set_option maxHeartbeats 400000 in
theorem markInt64S_any (A : Option Addr) (n c : Nat) (k : Int) (xs : List Int) (bs : List Nat) (w : World) (h : Hd w (.ints .i64 xs) (.slice A n c) bs) (hn : n ≤ 1000000000000) (h0 : 0 ≤ k) (h1 : k ≤ 1000000000000000)
    (hf : ∀ b ∈ bs, Thaw w b) :
    Calls Try.prog 18 #[.slice A n c, .int .i64 k] w fun e w' => e = .returned (.int .i64 (k + n)) ∧ Hd w' (.ints .i64 (imarks k n)) (.slice A n c) bs ∧ Ch w w' (· ∈ bs) := by
  obtain ⟨A', n', c', e, hr, hc1, hc2, hb⟩ := h.ints_inv
  cases e
  rcases hb with ⟨rfl, rfl⟩ | ⟨b, o, hp, rfl, rfl⟩
  · clear h hf hr
    go_enter Try.func18, Try.ntmps18
    go_wp2
    refine wp_loop_rounds 1 ?_
    rw [rounds_succ]
    go_wp2
    go_ret
    exact ⟨ret_int (by omega), .ints0 .i64 A c hc2, Ch.refl _ _⟩
  obtain ⟨b', o', e, hc⟩ := hr.2 hp
  injection e with e
  injection e with e1 e2
  subst e1 e2
  have HC : Hid (∀ i, i < n → w.cell? ⟨b, o + i, none⟩ = some (.int .i64 (xs.getD i 0))) := hc
  have HF := Lib.hid (hf b (by simp))
  have HM := Lib.hid hc2
  clear h hc hf hr hc2
  go_enter Try.func18, Try.ntmps18
  go_wp2
  go_loopw [1, 5] (fun q i wr => ∃ j : Nat, j ≤ n ∧ i = .int .i64 j ∧ q = .int .i64 (k + j) ∧ (∀ t, t < n → wr.cell? ⟨b, o + t, none⟩ = some (.int .i64 (if t < j then imark k t else xs.getD t 0))) ∧ Ch w wr (· ∈ [b])) (fun _ i _ => n - (intOf i).toNat)
  case atStart => exact ⟨0, by omega, rfl, by simp, fun t ht => by simpa using HC.out t ht, Ch.refl _ _⟩
  case round =>
    obtain ⟨j, hj, rfl, rfl, hcell, honly⟩ := hrel
    by_cases hlt : j < n
    · have c1 := hcell j hlt
      have f1 : wr.frozen? ⟨b, o + j, none⟩ = false := by rw [honly.frozen _ _ (cell_lt (HC.out j hlt))]; exact HF.out _
      have HCell : Hid (∀ t, t < n → wr.cell? ⟨b, o + t, none⟩ = some (.int .i64 (if t < j then imark k t else xs.getD t 0))) := hcell
      have HOnly := Lib.hid honly
      clear hcell honly
      go_wp2_with fail
      go_roundw
      case rel =>
        refine ⟨j + 1, by omega, by go_num, by go_num, fun t ht => ?_, HOnly.out.trans (Ch.setCell wr (P := (· ∈ [b])) (by simp) _ _)⟩
        by_cases e : t = j
        · subst e
          rw [if_pos (by omega)]
          rw [World.cell?_setCell_same' wr _ _ (by rw [c1]; rfl)]
          rfl
        · rw [World.cell?_setCell_other _ _ _ _ (by simp; try omega), HCell.out t ht]
          by_cases h2 : t < j
          · rw [if_pos h2, if_pos (by omega)]
          · rw [if_neg h2, if_neg (by omega)]
      case measure => simp [intOf]; omega
    · obtain rfl : j = n := by omega
      have HCell : Hid (∀ t, t < j → wr.cell? ⟨b, o + t, none⟩ = some (.int .i64 (if t < j then imark k t else xs.getD t 0))) := hcell
      have HOnly := Lib.hid honly
      clear hcell honly
      go_wp2
      go_ret
      refine ⟨rfl, .ints .i64 b o j c _ hp (imarks_len _ _) (fun i hi => ?_) hc1 HM.out, HOnly.out⟩
      rw [HCell.out i hi, if_pos hi, imarks_get hi]
set_option maxHeartbeats 400000 in
theorem heldInt64S_any (A : Option Addr) (n c : Nat) (k : Int) (w : World) (h : Rd .i64 w A n (imarks k n)) (hn : n ≤ 1000000000000) (h0 : 0 ≤ k) (h1 : k ≤ 1000000000000000) :
    Calls Try.prog 63 #[.slice A n c, .int .i64 k] w fun e w' => e = .returned (.int .i64 (k + n)) ∧ w = w' := by
  have H := Lib.hid h
  clear h
  go_enter Try.func63, Try.ntmps63
  go_wp2
  go_loop [1, 5] (fun q i => ∃ j : Nat, j ≤ n ∧ i = .int .i64 j ∧ q = .int .i64 (k + j)) (fun _ i => n - (intOf i).toNat)
  case atStart => exact ⟨0, by omega, rfl, by simp⟩
  case round =>
    obtain ⟨j, hj, rfl, rfl⟩ := hrel
    by_cases hlt : j < n
    · obtain ⟨b, o, rfl, hc⟩ := H.out.2 (by omega)
      have c1 := hc j hlt
      rw [imarks_get hlt] at c1
      unfold imark at c1
      clear hc
      go_wp2_with fail
      go_round
      case rel => exact ⟨j + 1, by omega, by go_num, by go_num⟩
      case measure => simp [intOf]; omega
    · obtain rfl : j = n := by omega
      go_wp2
      go_ret
      exact ⟨rfl, rfl⟩

theorem info_i64 : (Try.prog.info? 2).map (fun i => (i.zero, i.size, i.bytes)) = some (some (.int .i64 0), 1, 8) := by kernel_rfl
set_option maxHeartbeats 400000 in
theorem toInt64S_any (A : Option Addr) (n c : Nat) (xs : List Int) (w : World) (h : Rd .i64 w A n xs) (hn : n ≤ 1000000000000) :
    Calls Try.prog 12 #[.slice A n c] w fun e w' => ∃ B, e = .returned (.slice B n n) ∧ Own w' (.ints .i64 xs) (.slice B n n) w.heap.size w'.heap.size ∧ Below w.heap.size w w' := by
  have hmk := run_make_row' (P := Try.prog) 30 2 (.int .i64 0) 8 Try.underlying30 info_i64 rfl .i64 .i64 n (by omega) (by omega)
  have H := Lib.hid h
  clear h
  go_enter Try.func12, Try.ntmps12
  go_wp2_with fail
  clear hmk
  go_loopw [4] (fun i wr => ∃ j : Nat, j ≤ n ∧ i = .int .i64 j ∧ (∀ t, t < n → wr.cell? ⟨w.heap.size, t, none⟩ = some (.int .i64 (if t < j then xs.getD t 0 else 0))) ∧ Ch (w.alloc (.cells (madeCells #[.int .i64 0] n) 2)) wr (· = w.heap.size)) (fun i _ => n - (intOf i).toNat)
  case atStart => exact ⟨0, by omega, rfl, fun t ht => by simpa using made_cell w (.int .i64 0) n t 2 ht, Ch.refl _ _⟩
  case round =>
    obtain ⟨j, hj, rfl, hcell, honly⟩ := hrel
    by_cases hlt : j < n
    · obtain ⟨b, o, rfl, hc⟩ := H.out.2 (by omega)
      have hbl := cell_lt (hc j hlt)
      have c1 : wr.cell? ⟨b, o + j, none⟩ = some (.int .i64 (xs.getD j 0)) := by
        rw [honly.cell (by simp; omega) (by omega), World.cell?_alloc_lt _ _ ⟨b, o + j, none⟩ hbl]; exact hc j hlt
      have c2 := hcell j hlt
      have f2 : wr.frozen? ⟨w.heap.size, j, none⟩ = false := by rw [honly.frozen _ _ (by simp)]; simp
      have HCell := Lib.hid hcell
      have HOnly := Lib.hid honly
      clear hcell honly hc
      go_wp2_with fail
      go_roundw
      case rel =>
        refine ⟨j + 1, by omega, by go_num, fun t ht => ?_, HOnly.out.trans (Ch.setCell wr (P := (· = w.heap.size)) rfl _ _)⟩
        by_cases e : t = j
        · subst e
          rw [if_pos (by omega), World.cell?_setCell_same' wr _ _ (by rw [c2]; rfl)]
          simp
        · rw [World.cell?_setCell_other _ _ _ _ (by simp; try omega), HCell.out t ht]
          by_cases h2 : t < j
          · rw [if_pos h2, if_pos (by omega)]
          · rw [if_neg h2, if_neg (by omega)]
      case measure => simp [intOf]; omega
    · obtain rfl : j = n := by omega
      have HCell := Lib.hid hcell
      have HOnly := Lib.hid honly
      clear hcell honly
      go_wp2
      go_ret
      refine ⟨_, rfl, ?_, (blAlloc _ _).trans (HOnly.out.below (fun k e => by omega) (by simp))⟩
      obtain ⟨bs, h1, h2, h3⟩ := Hd.of_rd (c := j) (k := .i64) (xs := xs) (w := wr) (A := some ⟨w.heap.size, 0, none⟩) (n := j) ⟨H.out.1, fun _ => ⟨w.heap.size, 0, rfl, fun i hi => by
        have := HCell.out i hi
        rw [if_pos hi] at this
        simpa using this⟩⟩ (Nat.le_refl _) (by unfold maxLen; omega)
      refine ⟨bs, h1, h2, fun b hb => ?_⟩
      obtain ⟨_, o, e⟩ := h3 b hb
      injection e with e
      injection e with e1 e2
      subst e1
      have := HOnly.out.size
      simp at this
      exact ⟨Nat.le_refl _, by omega, fun i => by rw [HOnly.out.frozen _ _ (by simp)]; simp⟩
theorem szInt64S_any (A : Option Addr) (n c : Nat) (l : Int) (w : World) (hn : n ≤ maxLen) (h0 : 0 ≤ l) (h1 : l ≤ 1048576) :
    Calls Try.prog 137 #[.slice A n c, .int .i64 l] w (Left w (n ≤ 1048576) l) := by
  unfold maxLen at hn
  by_cases h : l < n
  · go_enter Try.func137, Try.ntmps137
    go_wp2
    go_ret
    exact ⟨-1, rfl, by omega, by omega, by omega, Below.refl _ _⟩
  · go_enter Try.func137, Try.ntmps137
    go_wp2
    go_ret
    exact ⟨_, rfl, by omega, by omega, by omega, Below.refl _ _⟩

/-! ### curves -/
set_option maxHeartbeats 400000 in
theorem szCurve_any (A : Option Addr) (n c : Nat) (l : Int) (w : World) (hn : n ≤ maxLen) (h0 : 0 ≤ l) (h1 : l ≤ 1048576) :
    Calls Try.prog 97 #[.agg #[.slice A n c], .int .i64 l] w (Left w (n ≤ 1048576) l) := by
  go_enter Try.func97, Try.ntmps97
  go_wp2_with fail
  refine (szInt64S_any A n c _ _ hn (by omega) (by omega)).mono ?_
  rintro e w1 ⟨r, rfl, h2, h3, h4, hb⟩
  have T := Lib.hid (blThen (blAlloc w (.cells #[.slice A n c] 163)) hb)
  clear hb
  by_cases hr : r < 0
  · clear h4
    go_wp2_with fail
    go_ret
    exact ⟨-1, rfl, by omega, by omega, by omega, T.out⟩
  · have h5 := h4 (by omega)
    clear h4
    go_wp2_with fail
    go_ret
    exact ⟨r, rfl, by omega, by omega, fun _ => h5, T.out⟩
set_option maxHeartbeats 400000 in
theorem toCurve_any (A : Option Addr) (n c : Nat) (xs : List Int) (w : World) (h : Rd .i64 w A n xs) (hn : n ≤ 1000000000000) :
    Calls Try.prog 105 #[.agg #[.slice A n c]] w fun e w' => ∃ B, e = .returned (.agg #[.slice B n n]) ∧ Own w' (.ints .i64 xs) (.slice B n n) w.heap.size w'.heap.size ∧ Below w.heap.size w w' := by
  have H := Lib.hid h
  clear h
  go_enter Try.func105, Try.ntmps105
  go_wp2_with fail
  refine (toInt64S_any _ _ _ xs _ (((H.out.alloc _).alloc _).alloc _) hn).mono ?_
  rintro e w1 ⟨B, rfl, ho, hb⟩
  obtain ⟨hc, hf⟩ := bcell hb
  have hz : w.heap.size + 2 < w1.heap.size := by have := hb.size; simp at this; omega
  have HO := Lib.hid ho
  have T := Lib.hid (blThen (blThenAlloc (blThenAlloc (blAlloc w _) _) _) hb)
  clear ho hb
  go_wp2_with fail
  refine bodyPost_ret (v := .agg #[.slice B n n]) (by simp [results, Try.results105, go_sem, hc]) rfl ⟨B, rfl, ?_, ?_⟩
  · refine Own.mono (lo := w.heap.size + 3) (hi := w1.heap.size) ?_ (by omega) (by simp [World.setCell])
    repeat (first | exact (HO.out.mono (by simp) (Nat.le_refl _)) | refine Own.set ?_ (.inl (by omega)) _ _)
  · repeat (first | exact T.out | refine Below.setCell ?_ (by simp; try omega) _)
set_option maxHeartbeats 400000 in
theorem eqCurve_same (A A' : Option Addr) (n n' c c' : Nat) (xs : List Int) (w : World) (h : Rd .i64 w A n xs) (h' : Rd .i64 w A' n' xs) (hn : n ≤ 1000000000000) :
    Calls Try.prog 109 #[.agg #[.slice A n c], .agg #[.slice A' n' c']] w fun e w' => e = .returned (.bool true) ∧ Below w.heap.size w w' := by
  have H := Lib.hid h
  have H' := Lib.hid h'
  clear h h'
  go_enter Try.func109, Try.ntmps109
  go_wp2_with (go_at_call 16; refine (eqInt64S_same _ _ _ _ _ _ xs _ ((H.out.alloc _).alloc _) ((H'.out.alloc _).alloc _) hn).mono ?_; rintro e w' ⟨rfl, m, rfl⟩)
  go_ret
  exact ⟨rfl, ((blAlloc _ _).alloc (by simp) _).trans (below_drewN _ _ _)⟩
end Go.Proofs.Ytmmlcdbbjkligaa
