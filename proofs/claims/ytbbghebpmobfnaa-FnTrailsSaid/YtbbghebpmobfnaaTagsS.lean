/-
  The reference model's fault of a profile: l1In, l2At, l2Fault, ProfileFault.
-/
import Derived.Test.YtbbghebpmobfnaaTags2
namespace Go.Proofs.Ytbbghebpmobfnaa
open Go.RowKit
set_option linter.unusedVariables false

theorem sIn_any (v lo hi : Int) (w : World) : Calls Try.prog 74 #[.int .i64 v, .int .i64 lo, .int .i64 hi] w fun e w' => e = .returned (.bool (inB v lo hi)) ∧ w = w' := by
  by_cases h1 : lo ≤ v
  · by_cases h2 : v ≤ hi
    · rw [inB_t h1 h2]
      go_enter Try.func74, Try.ntmps74
      go_wp2
      go_ret
      exact ⟨rfl, rfl⟩
    · rw [inB_hi (by omega)]
      go_enter Try.func74, Try.ntmps74
      go_wp2
      go_ret
      exact ⟨rfl, rfl⟩
  · rw [inB_lo (by omega)]
    go_enter Try.func74, Try.ntmps74
    go_wp2
    go_ret
    exact ⟨rfl, rfl⟩

/-- the first of the first n tags that has the name s; -1: none. -/
def fst (ts : List Tg) (s : ByteArray) : Nat → Int
  | 0 => -1
  | n + 1 => if 0 ≤ fst ts s n then fst ts s n else if (tg ts n).1 = s then n else -1
theorem fst_stay {ts : List Tg} {s : ByteArray} {i : Nat} (h : 0 ≤ fst ts s i) : ∀ n, i ≤ n → fst ts s n = fst ts s i := by
  intro n hn
  induction n with
  | zero => obtain rfl : i = 0 := by omega
            rfl
  | succ n ih =>
    by_cases e : i = n + 1
    · subst e; rfl
    · have := ih (by omega)
      simp only [fst]
      rw [this, if_pos h]
theorem fst_lo (ts : List Tg) (s : ByteArray) (n : Nat) : fst ts s n = -1 ∨ 0 ≤ fst ts s n := by
  induction n with
  | zero => exact .inl rfl
  | succ n ih =>
    simp only [fst]
    split
    · exact .inr (by assumption)
    · split
      · exact .inr (by omega)
      · exact .inl rfl
theorem fst_hit {ts : List Tg} {s : ByteArray} {i n : Nat} (h0 : fst ts s i = -1) (he : (tg ts i).1 = s) (hi : i < n) : fst ts s n = i := by
  have h1 : fst ts s (i + 1) = i := by simp only [fst]; rw [h0, if_neg (by omega), if_pos he]
  rw [fst_stay (by rw [h1]; omega) n (by omega), h1]
theorem fst_miss {ts : List Tg} {s : ByteArray} {i : Nat} (h0 : fst ts s i = -1) (he : (tg ts i).1 ≠ s) : fst ts s (i + 1) = -1 := by
  simp only [fst]; rw [h0, if_neg (by omega), if_neg he]
theorem fst_any (ts : List Tg) (s : ByteArray) (n : Nat) : decide (0 ≤ fst ts s n) = (List.range n).any fun j => decide ((tg ts j).1 = s) := by
  induction n with
  | zero => rfl
  | succ n ih =>
    rw [List.range_succ, List.any_append, ← ih]
    simp only [fst]
    by_cases h : 0 ≤ fst ts s n
    · simp [h]
    · by_cases e : (tg ts n).1 = s
      · simp [h, e]
      · simp [h, e]
theorem dup_fst (ts : List Tg) (i : Nat) : dupB ts i = decide (0 ≤ fst ts (tg ts i).1 i) := (fst_any _ _ _).symm

/-- the names of the first n tags lie at A. -/
def NmRd (w : World) (A : Option Addr) (n : Nat) (ts : List Tg) : Prop := ∀ i, i < n → ∃ b o, A = some ⟨b, o, none⟩ ∧ w.cell? ⟨b, o + i * 2, none⟩ = some (.string (tg ts i).1)
theorem Hd.nmRd {w : World} {ts : List Tg} {A : Option Addr} {n c : Nat} {bs : List Nat} (h : Hd w (tagsD ts) (.slice A n c) bs) : NmRd w A n ts := fun i hi => by
  obtain ⟨b, o, B, L, C, gs, e, c0, _⟩ := h.tag hi
  exact ⟨b, o, e, c0⟩
theorem NmRd.le {w : World} {ts : List Tg} {A : Option Addr} {n m : Nat} (h : NmRd w A n ts) (hm : m ≤ n) : NmRd w A m ts := fun i hi => h i (by omega)
set_option maxHeartbeats 400000 in
theorem sAt_any (A : Option Addr) (n c : Nat) (ts : List Tg) (s : ByteArray) (w : World) (h : NmRd w A n ts) (hn : n ≤ 1000000000000) : Calls Try.prog 56 #[.slice A n c, .string s] w fun e w' => e = .returned (.int .i64 (fst ts s n)) ∧ w = w' := by
  have H := Lib.hid h
  clear h
  go_enter Try.func56, Try.ntmps56
  go_wp2
  go_loop [5] (fun i => ∃ j : Nat, j ≤ n ∧ i = .int .i64 j ∧ Hid (fst ts s j = -1)) (fun i => n - (intOf i).toNat)
  case atStart => exact ⟨0, by omega, rfl, rfl⟩
  case round =>
    obtain ⟨j, hj, rfl, hf⟩ := hrel
    by_cases hlt : j < n
    · obtain ⟨b, o, rfl, hc⟩ := H.out j hlt
      by_cases e : (tg ts j).1 = s
      · have HF := Lib.hid (fst_hit hf.out e hlt)
        rw [e] at hc
        clear hf e
        go_wp2_with fail
        go_ret
        exact ⟨ret_int HF.out.symm, rfl⟩
      · have HF := Lib.hid (fst_miss hf.out e)
        generalize (tg ts j).1 = t at hc e
        have hne := str_ne e
        clear hf e
        go_wp2_with fail
        go_round
        case rel => exact ⟨j + 1, by omega, by go_num, HF.out⟩
        case measure => simp [intOf]; omega
    · obtain rfl : j = n := by omega
      go_wp2_with fail
      go_ret
      exact ⟨ret_int hf.out.symm, rfl⟩

set_option maxHeartbeats 1000000 in
theorem sFault_any (g : Nat) (A : Option Addr) (n c : Nat) (cl : Int) (ts : List Tg) (bs : List Nat) (w : World) (hg : Box2 w g (.int .i64 cl) (.slice A n c)) (h : Hd w (tagsD ts) (.slice A n c) bs) (hs : TsOk ts) :
    Calls Try.prog 55 #[.pointer (some ⟨g, 0, none⟩)] w fun e w' => e = .returned (.int .i64 (pf cl ts)) ∧ ∃ m, w' = w.drewN m := by
  obtain ⟨hl, hc1, hc2, -⟩ := h.tags
  have hc2' := hc2
  unfold maxLen at hc2'
  obtain ⟨y0, y1⟩ := hg
  have H := Lib.hid h
  have HS := Lib.hid hs
  have HL := Lib.hid hl
  clear h hs hl hc2
  rcases Bool.eq_false_or_eq_true (inB cl 1 3) with hb | hb
  · by_cases h8 : 8 < n
    · have HP : Hid (pf cl ts = 2) := by unfold pf; rw [hb, if_neg (by simp), HL.out, if_pos (by omega)]; rfl
      go_enter Try.func55, Try.ntmps55
      go_wp2_with (go_at_call 74; refine (sIn_any _ _ _ _).mono ?_; rintro e w' ⟨rfl, rfl⟩; rw [hb])
      go_ret
      exact ⟨ret_int HP.out.symm, 0, rfl⟩
    · have h8' : decide ((8 : Int) < (n : Int)) = false := decide_eq_false (by omega)
      have HPF : Hid (pf cl ts = pfl ts n) := by unfold pf; rw [hb, if_neg (by simp), HL.out, if_neg (by omega)]; rfl
      go_enter Try.func55, Try.ntmps55
      go_wp2_with (go_at_call 74; refine (sIn_any _ _ _ _).mono ?_; rintro e w' ⟨rfl, rfl⟩; rw [hb])
      clear hb
      go_loopw [3] (fun i wr => ∃ k m : Nat, k ≤ n ∧ i = .int .i64 k ∧ wr = w.drewN m ∧ Hid (pfl ts k = 0)) (fun i _ => n - (intOf i).toNat)
      case atStart => exact ⟨0, 0, by omega, rfl, rfl, rfl⟩
      case round =>
        obtain ⟨k, m, hk, rfl, rfl, hz⟩ := hrel
        by_cases hlt : k < n
        · obtain ⟨b, o, B1, L1, C1, g1, rfl, x1, x2, x3, -⟩ := H.out.tag hlt
          have hsk := HS.out k
          have HR := Lib.hid x3.rd.1
          have hcap : L1 ≤ maxLen := Nat.le_trans x3.caps.1 x3.caps.2
          unfold maxLen at hcap
          clear x3
          rcases Bool.eq_false_or_eq_true (nm (tg ts k).1) with hn | hn
          · rcases Bool.eq_false_or_eq_true (inB (L1 : Int) 1 96) with hL | hL
            · obtain ⟨l1, l2⟩ := inB_iff.1 hL
              have HNM := Lib.hid (H.out.nmRd.le (m := k) (by omega))
              have hdf := dup_fst ts k
              go_wp2_with (go_at_call 75; refine (sName_any _ _ hsk).mono ?_; rintro e w' ⟨rfl, rfl⟩; rw [hn])
              go_quiet ((go_at_call 56; exact quietA (sAt_any _ _ _ ts _ _ HNM.out (by omega))))
              rcases Bool.eq_false_or_eq_true (dupB ts k) with hd | hd
              · have HP : Hid (pf cl ts = 1) := by rw [HPF.out]; exact pfl_first hz.out (by unfold flt; rw [if_neg (by rw [hn]; simp), HR.out, if_neg (by rw [hL]; simp), if_pos hd]) (by decide) hlt
                rw [hd] at hdf
                have hge : 0 ≤ fst ts (tg ts k).1 k := of_decide_eq_true hdf.symm
                clear hL hd hdf
                go_wp2_with fail
                go_ret
                exact ⟨ret_int HP.out.symm, _, World.drewN_drewN _ _ _⟩
              · have HF0 : Hid (flt ts k = 0) := by unfold flt; rw [if_neg (by rw [hn]; simp), HR.out, if_neg (by rw [hL]; simp), if_neg (by rw [hd]; simp)]; rfl
                rw [hd] at hdf
                have hge : ¬ 0 ≤ fst ts (tg ts k).1 k := of_decide_eq_false hdf.symm
                clear hL hd hdf
                go_wp2_with fail
                go_roundw
                case rel => exact ⟨k + 1, _, by omega, by go_num, (by first | exact World.drewN_drewN _ _ _ | rfl), pfl_on hz.out HF0.out⟩
                case measure => simp [intOf]; omega
            · have HP : Hid (pf cl ts = 2) := by rw [HPF.out]; exact pfl_first hz.out (by unfold flt; rw [if_neg (by rw [hn]; simp), HR.out, if_pos hL]) (by decide) hlt
              rcases inB_f hL with hL' | hL'
              · clear hL
                go_wp2_with (go_at_call 75; refine (sName_any _ _ hsk).mono ?_; rintro e w' ⟨rfl, rfl⟩; rw [hn])
                go_ret
                exact ⟨ret_int HP.out.symm, _, rfl⟩
              · clear hL
                go_wp2_with (go_at_call 75; refine (sName_any _ _ hsk).mono ?_; rintro e w' ⟨rfl, rfl⟩; rw [hn])
                go_ret
                exact ⟨ret_int HP.out.symm, _, rfl⟩
          · have HP : Hid (pf cl ts = 5) := by rw [HPF.out]; exact pfl_first hz.out (by unfold flt; rw [if_pos hn]) (by decide) hlt
            go_wp2_with (go_at_call 75; refine (sName_any _ _ hsk).mono ?_; rintro e w' ⟨rfl, rfl⟩; rw [hn])
            go_ret
            exact ⟨ret_int HP.out.symm, _, rfl⟩
        · obtain rfl : k = n := by omega
          go_wp2_with fail
          go_ret
          exact ⟨ret_int (by rw [HPF.out, hz.out]), _, rfl⟩
  · have HP : Hid (pf cl ts = 3) := by unfold pf; rw [hb, if_pos rfl]; rfl
    go_enter Try.func55, Try.ntmps55
    go_wp2_with (go_at_call 74; refine (sIn_any _ _ _ _).mono ?_; rintro e w' ⟨rfl, rfl⟩; rw [hb])
    go_ret
    exact ⟨ret_int HP.out.symm, 0, rfl⟩
set_option maxHeartbeats 400000 in
theorem sProfileFault_any (A : Option Addr) (n c : Nat) (cl : Int) (ts : List Tg) (bs : List Nat) (w : World) (h : Hd w (tagsD ts) (.slice A n c) bs) (hs : TsOk ts) :
    Calls Try.prog 28 #[.agg #[.int .i64 cl, .slice A n c]] w fun e w' => e = .returned (.int .i64 (pf cl ts)) ∧ Below w.heap.size w w' := by
  have H := Lib.hid h
  have HS := Lib.hid hs
  clear h hs
  go_enter Try.func28, Try.ntmps28
  go_wp2_with fail
  refine (sFault_any _ A n c cl ts bs _ (Box2.new _ _ _ _) (H.out.alloc _) HS.out).mono ?_
  rintro e w1 ⟨rfl, m, rfl⟩
  go_wp2_with fail
  go_ret
  exact ⟨rfl, blThenDrew (blAlloc _ _) _⟩
end Go.Proofs.Ytbbghebpmobfnaa
