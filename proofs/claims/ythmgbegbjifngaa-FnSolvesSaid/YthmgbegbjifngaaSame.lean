/-
  Profiles that are compared: bytes.Equal, impl.sameTags, slices.EqualFunc over tags, impl.SameProfiles; the reference model's SameProfiles.
-/
import Derived.Test.YthmgbegbjifngaaTagD
import Derived.Laws.BytesArg
namespace Go.Proofs.Ythmgbegbjifngaa
open Go.RowKit
set_option linter.unusedVariables false

theorem run_convert_rd {w : World} {A : Option Addr} {n c : Nat} {xs : List Int} (h : Rd .u8 w A n xs) : (convert 22 9 (.slice A n c)).run Try.prog w = .ok (.string (strOfNums xs)) w := by
  rcases Nat.eq_zero_or_pos n with rfl | hn
  · obtain rfl : xs = [] := List.eq_nil_of_length_eq_zero h.1
    cases A with
    | none => exact run_convert_bytes_nil w _ _ Try.underlying22 Try.underlying5 _ _ _ Try.underlying9
    | some a =>
      rw [run_convert_bytes_string w _ _ _ _ _ _ Try.underlying22 Try.underlying5 Try.underlying9,
        run_bytesToString w a 0 c [] (by simpa using run_loadCells_list (P := Try.prog) w a [] (by simp))]
      rfl
  · obtain ⟨b, o, rfl, hc⟩ := h.2 hn
    exact run_convert_bytes_arg w _ _ Try.underlying22 Try.underlying5 b o n c xs h.1 hc _ Try.underlying9

def sameB (xs ys : List Int) : Bool := decide (strOfNums xs = strOfNums ys)
def sameT (t u : Tg) : Bool := decide (t.1 = u.1) && sameB t.2 u.2
/-- the first n tags are the same. -/
def sameN (ts us : List Tg) : Nat → Bool
  | 0 => true
  | i + 1 => sameN ts us i && sameT (tg ts i) (tg us i)
def sameTs (ts us : List Tg) : Bool := decide (ts.length = us.length) && sameN ts us ts.length
def sameP (cl cl' : Int) (ts us : List Tg) : Bool := decide (cl = cl') && sameTs ts us
theorem sameN_stay {ts us : List Tg} {i : Nat} (h : sameT (tg ts i) (tg us i) = false) : ∀ n, i < n → sameN ts us n = false := by
  intro n hn
  induction n with
  | zero => omega
  | succ n ih =>
    simp only [sameN]
    by_cases e : i = n
    · subst e; rw [h]; simp
    · rw [ih (by omega)]; rfl

theorem bytesEqual_any (A A' : Option Addr) (n n' c c' : Nat) (xs ys : List Int) (w : World) (h : Rd .u8 w A n xs) (h' : Rd .u8 w A' n' ys) : Calls Try.prog 80 #[.slice A n c, .slice A' n' c'] w fun e w' => e = .returned (.bool (sameB xs ys)) ∧ w = w' := by
  have hc := run_convert_rd (c := c) h
  have hc' := run_convert_rd (c := c') h'
  clear h h'
  have he := str_eqB (strOfNums xs) (strOfNums ys)
  have HS : Hid (sameB xs ys = decide (strOfNums xs = strOfNums ys)) := rfl
  go_enter Try.func80, Try.ntmps80
  go_wp2
  go_ret
  exact ⟨ret_bool HS.out.symm, rfl⟩
set_option maxHeartbeats 400000 in
theorem sameTags_any (s t : ByteArray) (A A' : Option Addr) (n n' c c' : Nat) (xs ys : List Int) (w : World) (h : Rd .u8 w A n xs) (h' : Rd .u8 w A' n' ys) :
    Calls Try.prog 86 #[.agg #[.string s, .slice A n c], .agg #[.string t, .slice A' n' c']] w fun e w' => e = .returned (.bool (sameT (s, xs) (t, ys))) ∧ Below w.heap.size w w' := by
  have H := Lib.hid h
  have H' := Lib.hid h'
  clear h h'
  by_cases e : s = t
  · have he := str_eq e
    have HS : Hid (sameT (s, xs) (t, ys) = sameB xs ys) := by unfold sameT; rw [decide_eq_true e]; rfl
    clear e
    go_enter Try.func86, Try.ntmps86
    go_wp2_with (go_at_call 80; refine (bytesEqual_any _ _ _ _ _ _ xs ys _ ((H.out.alloc _).alloc _) ((H'.out.alloc _).alloc _)).mono ?_; rintro e w' ⟨rfl, rfl⟩)
    go_ret
    exact ⟨ret_bool HS.out.symm, blThenAlloc (blAlloc _ _) _⟩
  · have he := str_ne e
    have HS : Hid (sameT (s, xs) (t, ys) = false) := by unfold sameT; rw [decide_eq_false e]; rfl
    clear e
    go_enter Try.func86, Try.ntmps86
    go_wp2_with fail
    go_ret
    exact ⟨ret_bool HS.out.symm, blThenAlloc (blAlloc _ _) _⟩
set_option maxRecDepth 100000 in
set_option maxHeartbeats 1000000 in
theorem EqualFunc_any (A A' : Option Addr) (n n' c c' : Nat) (ts us : List Tg) (bs bs' : List Nat) (w : World) (h : Hd w (tagsD ts) (.slice A n c) bs) (h' : Hd w (tagsD us) (.slice A' n' c') bs') :
    Calls Try.prog 85 #[.slice A n c, .slice A' n' c', .func (.func 86) #[] #[]] w fun e w' => e = .returned (.bool (sameTs ts us)) ∧ Below w.heap.size w w' := by
  have hl := h.tags.1
  have hl' := h'.tags.1
  obtain ⟨-, hc1, hc2, -⟩ := h.tags
  obtain ⟨-, hc1', hc2', -⟩ := h'.tags
  unfold maxLen at hc2 hc2'
  by_cases en : n = n'
  · subst en
    have HL := Lib.hid hl
    have HS : Hid (sameTs ts us = sameN ts us n) := by unfold sameTs; rw [decide_eq_true (hl.trans hl'.symm), hl]; rfl
    have H := Lib.hid h
    have H' := Lib.hid h'
    clear h h' hl hl'
    go_enter Try.func85, Try.ntmps85
    go_wp2
    go_loopw [17] (fun i wr => ∃ k : Nat, k ≤ n ∧ i = .int .i64 k ∧ Hid (sameN ts us k = true) ∧ Below w.heap.size w wr) (fun i _ => n - (intOf i).toNat)
    case atStart => exact ⟨0, by omega, rfl, rfl, Below.refl _ _⟩
    case round =>
      obtain ⟨k, hk, rfl, hsk, hb⟩ := hrel
      by_cases hlt : k < n
      · obtain ⟨b, o, B1, L1, C1, g1, rfl, x1, x2, x3, -⟩ := (H.out.bel hb).tag hlt
        obtain ⟨b', o', B2, L2, C2, g2, rfl, y1, y2, y3, -⟩ := (H'.out.bel hb).tag hlt
        have R1 := Lib.hid x3.rd
        have R2 := Lib.hid y3.rd
        have HB := Lib.hid hb
        clear x3 y3 hb
        have hlb := cell_lt y1
        go_wp2_with fail
        refine (sameTags_any _ _ _ _ _ _ _ _ _ _ _ ((R1.out.alloc _).alloc _) ((R2.out.alloc _).alloc _)).mono ?_
        rintro e w1 ⟨rfl, hb1⟩
        have T1 := Lib.hid (blThen (blThenAlloc (blThenAlloc HB.out (.cells #[.string (tg ts k).1, .slice B1 L1 C1] 82)) (.cells #[.string (tg us k).1, .slice B2 L2 C2] 82)) hb1)
        clear hb1 x1 x2 y1 y2 HB
        rcases Bool.eq_false_or_eq_true (sameT (tg ts k) (tg us k)) with hs | hs
        · have HK : Hid (sameN ts us (k + 1) = true) := by simp only [sameN]; rw [hsk.out, hs]; rfl
          have hs' : sameT ((tg ts k).1, (tg ts k).2) ((tg us k).1, (tg us k).2) = true := hs
          clear hs
          go_wp2_with fail
          go_roundw
          case rel => exact ⟨k + 1, by omega, by go_num, HK.out, T1.out⟩
          case measure => simp [intOf]; omega
        · have HK := Lib.hid (sameN_stay hs n hlt)
          have hs' : sameT ((tg ts k).1, (tg ts k).2) ((tg us k).1, (tg us k).2) = false := hs
          clear hs
          go_wp2_with fail
          go_ret
          exact ⟨ret_bool (by rw [HS.out, HK.out]), T1.out⟩
      · obtain rfl : k = n := by omega
        have HB := Lib.hid hb
        clear hb
        go_wp2
        go_ret
        exact ⟨ret_bool (by rw [HS.out, hsk.out]), HB.out⟩
  · have HS : Hid (sameTs ts us = false) := by unfold sameTs; rw [decide_eq_false (by omega)]; rfl
    have he : ((n : Int) != (n' : Int)) = true := by simp; omega
    clear h h' hl hl'
    go_enter Try.func85, Try.ntmps85
    go_wp2
    go_ret
    exact ⟨ret_bool HS.out.symm, Below.refl _ _⟩
set_option maxHeartbeats 400000 in
theorem SameProfiles_any (A A' : Option Addr) (n n' c c' : Nat) (cl cl' : Int) (ts us : List Tg) (bs bs' : List Nat) (w : World) (h : Hd w (tagsD ts) (.slice A n c) bs) (h' : Hd w (tagsD us) (.slice A' n' c') bs') :
    Calls Try.prog 29 #[.agg #[.int .i64 cl, .slice A n c], .agg #[.int .i64 cl', .slice A' n' c']] w fun e w' => e = .returned (.bool (sameP cl cl' ts us)) ∧ Below w.heap.size w w' := by
  have H := Lib.hid h
  have H' := Lib.hid h'
  clear h h'
  by_cases e : cl = cl'
  · subst e
    go_enter Try.func29, Try.ntmps29
    go_wp2_with fail
    refine (EqualFunc_any _ _ _ _ _ _ ts us _ _ _ ((H.out.alloc _).alloc _) ((H'.out.alloc _).alloc _)).mono ?_
    rintro e w1 ⟨rfl, hb1⟩
    have T1 := Lib.hid (blThen (blThenAlloc (blAlloc w (.cells #[.int .i64 cl, .slice A n c] 27)) (.cells #[.int .i64 cl, .slice A' n' c'] 27)) hb1)
    clear hb1
    go_wp2_with fail
    go_ret
    exact ⟨ret_bool (by simp [sameP]), T1.out⟩
  · have HS : Hid (sameP cl cl' ts us = false) := by unfold sameP; rw [decide_eq_false e]; rfl
    have he : (cl == cl') = false := beq_eq_false_iff_ne.2 e
    clear e
    go_enter Try.func29, Try.ntmps29
    go_wp2_with fail
    go_ret
    exact ⟨ret_bool HS.out.symm, blThenAlloc (blAlloc _ _) _⟩

/-! ### the reference model's -/
theorem sameT_name {t u : Tg} (h : t.1 ≠ u.1) : sameT t u = false := by unfold sameT; rw [decide_eq_false h]; rfl
theorem sameT_bytes {t u : Tg} (h : t.1 = u.1) : sameT t u = sameB t.2 u.2 := by unfold sameT; rw [decide_eq_true h]; rfl
end Go.Proofs.Ythmgbegbjifngaa
