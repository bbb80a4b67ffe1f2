/-
  The laws' helpers over tags and profiles: eqTag, eqTagS, eqProfile, eqProfileResult; szTag, szTagS, szProfile; toTag, toTagS, toProfile; markText, markTagS, heldTagS and what goes over a profile by them.
-/
import Derived.Test.YtbbghebpmobfnaaHelpB
import Derived.Deep.RegionHeld3
namespace Go.Proofs.Ytbbghebpmobfnaa
open Go.RowKit
set_option linter.unusedVariables false

abbrev Tg := ByteArray × List Int
def tgD (t : Tg) : List Dat := [.str t.1, .ints .u8 t.2]
def tagsD (ts : List Tg) : Dat := .sl 2 (ts.map tgD)
def tg (ts : List Tg) (i : Nat) : Tg := ts.getD i (ByteArray.empty, [])
theorem tags_el {ts : List Tg} {i : Nat} (h : i < ts.length) : (ts.map tgD).getD i [] = tgD (tg ts i) := by
  simp [tg, List.getD, h]
theorem tags_at0 {ts : List Tg} {i : Nat} (h : i < ts.length) : At (ts.map tgD) i 0 = .str (tg ts i).1 := by unfold At; rw [tags_el h]; rfl
theorem tags_at1 {ts : List Tg} {i : Nat} (h : i < ts.length) : At (ts.map tgD) i 1 = .ints .u8 (tg ts i).2 := by unfold At; rw [tags_el h]; rfl
theorem Hd.tags {w : World} {ts : List Tg} {A : Option Addr} {n c : Nat} {bs : List Nat} (h : Hd w (tagsD ts) (.slice A n c) bs) :
    ts.length = n ∧ n ≤ c ∧ c ≤ maxLen ∧ (0 < n → ∃ b o, A = some ⟨b, o, none⟩ ∧ ∀ i, i < n → w.cell? ⟨b, o + i * 2, none⟩ = some (.string (tg ts i).1) ∧
      ∃ B L C gs, w.cell? ⟨b, o + i * 2 + 1, none⟩ = some (.slice B L C) ∧ Hd w (.ints .u8 (tg ts i).2) (.slice B L C) gs ∧ ∀ g ∈ gs, g ∈ bs) := by
  obtain ⟨hl, hc, hm, hf⟩ := h.sl_inv
  rw [List.length_map] at hl
  refine ⟨hl, hc, hm, fun hn => ?_⟩
  obtain ⟨b, o, V, G, rfl, h0, hr, hh, rfl⟩ := hf hn
  refine ⟨b, o, rfl, fun i hi => ?_⟩
  have c0 := hr i hi 0 (by omega)
  have c1 := hr i hi 1 (by omega)
  have d0 : Hd w (At (ts.map tgD) i 0) _ _ := hh i hi 0 (by omega)
  have d1 : Hd w (At (ts.map tgD) i 1) _ _ := hh i hi 1 (by omega)
  rw [tags_at0 (by omega)] at d0
  rw [tags_at1 (by omega)] at d1
  rw [d0.str_inv] at c0
  obtain ⟨B, L, C, e, _⟩ := d1.ints_inv
  rw [e] at c1 d1
  exact ⟨c0, B, L, C, _, c1, d1, fun g hg => List.mem_cons_of_mem _ (mem_fam.2 ⟨i, hi, 1, by omega, hg⟩)⟩

/-! ### eq -/
set_option maxHeartbeats 400000 in
theorem eqTag_same (s : ByteArray) (A A' : Option Addr) (n c c' : Nat) (xs : List Int) (w : World) (h : Rd .u8 w A n xs) (h' : Rd .u8 w A' n xs) (hn : n ≤ 1000000000000) :
    Calls Try.prog 78 #[.agg #[.string s, .slice A n c], .agg #[.string s, .slice A' n c']] w fun e w' => e = .returned (.bool true) ∧ Below w.heap.size w w' := by
  have H := Lib.hid h
  have H' := Lib.hid h'
  clear h h'
  go_enter Try.func78, Try.ntmps78
  go_wp2_with (go_at_call 33; refine (eqByteS_same _ _ _ _ _ xs _ ((H.out.alloc _).alloc _) ((H'.out.alloc _).alloc _) hn).mono ?_; rintro e w' ⟨rfl, m, rfl⟩)
  go_ret
  exact ⟨rfl, ((blAlloc _ _).alloc (by simp) _).trans (below_drewN _ _ _)⟩

theorem Rd.len_eq {k : IntKind} {w w' : World} {A A' : Option Addr} {n n' : Nat} {xs : List Int} (h : Rd k w A n xs) (h' : Rd k w' A' n' xs) : n = n' := h.1.symm.trans h'.1
/-- one tag of a list. -/
theorem Hd.tag {w : World} {ts : List Tg} {A : Option Addr} {n c : Nat} {bs : List Nat} (h : Hd w (tagsD ts) (.slice A n c) bs) {k : Nat} (hk : k < n) :
    ∃ b o B L C gs, A = some ⟨b, o, none⟩ ∧ w.cell? ⟨b, o + k * 2, none⟩ = some (.string (tg ts k).1) ∧ w.cell? ⟨b, o + k * 2 + 1, none⟩ = some (.slice B L C) ∧ Hd w (.ints .u8 (tg ts k).2) (.slice B L C) gs ∧ (∀ g ∈ gs, g ∈ bs) := by
  obtain ⟨_, _, _, hf⟩ := h.tags
  obtain ⟨b, o, e, hf⟩ := hf (by omega)
  obtain ⟨c0, B, L, C, gs, c1, hd, hg⟩ := hf k hk
  exact ⟨b, o, B, L, C, gs, e, c0, c1, hd, hg⟩
structure EqS (w w' : World) (B1 B2 : Option Addr) (L : Nat) (xs : List Int) : Prop where
  a : Rd .u8 w' B1 L xs
  b : Rd .u8 w' B2 L xs
  c : Below w.heap.size w w'
theorem EqS.below {w w1 w' : World} {B1 B2 : Option Addr} {L : Nat} {xs : List Int} (h : EqS w w1 B1 B2 L xs) (hb : Below w1.heap.size w1 w') : EqS w w' B1 B2 L xs :=
  ⟨h.a.below hb, h.b.below hb, blThen h.c hb⟩
set_option maxHeartbeats 1000000 in
theorem eqTagS_same (A A' : Option Addr) (n n' c c' : Nat) (ts : List Tg) (bs bs' : List Nat) (w : World) (h : Hd w (tagsD ts) (.slice A n c) bs) (h' : Hd w (tagsD ts) (.slice A' n' c') bs')
    (hn : n ≤ 1000000000000) (hs : ∀ i, i < n → (tg ts i).2.length ≤ 1000000000000) :
    Calls Try.prog 62 #[.slice A n c, .slice A' n' c'] w fun e w' => e = .returned (.bool true) ∧ Below w.heap.size w w' := by
  obtain rfl : n = n' := h.tags.1.symm.trans h'.tags.1
  have HH := Lib.hid h
  have HH' := Lib.hid h'
  have HS := Lib.hid hs
  clear h h' hs
  go_enter Try.func62, Try.ntmps62
  go_wp2
  go_loopw [5] (fun i wr => ∃ k : Nat, k ≤ n ∧ i = .int .i64 k ∧ Below w.heap.size w wr) (fun i _ => n - (intOf i).toNat)
  case atStart => exact ⟨0, by omega, rfl, Below.refl _ _⟩
  case round =>
    obtain ⟨k, hk, rfl, hb⟩ := hrel
    by_cases hlt : k < n
    · obtain ⟨b, o, B1, L1, C1, g1, rfl, x1, x2, x3, -⟩ := (HH.out.bel hb).tag hlt
      obtain ⟨b', o', B2, L2, C2, g2, rfl, y1, y2, y3, -⟩ := (HH'.out.bel hb).tag hlt
      have r1 := x3.rd
      have r2 := y3.rd
      obtain rfl := r1.len_eq r2
      have r3 : L1 ≤ 1000000000000 := by rw [← r1.1]; exact HS.out k hlt
      have E0 : EqS w wr B1 B2 L1 (tg ts k).2 := ⟨r1, r2, hb⟩
      clear x3 y3 r1 r2 hb
      go_wp2_with fail
      go_region_held3 (fun w' => w'.cell? ⟨b, o + k * 2, none⟩ = some (.string (tg ts k).1) ∧ w'.cell? ⟨b, o + k * 2 + 1, none⟩ = some (.slice B1 L1 C1) ∧ w'.cell? ⟨b', o' + k * 2, none⟩ = some (.string (tg ts k).1) ∧ w'.cell? ⟨b', o' + k * 2 + 1, none⟩ = some (.slice B2 L1 C2) ∧ EqS w w' B1 B2 L1 (tg ts k).2) (first | (go_split_ands; exact ⟨cell_later hb (by assumption), cell_later hb (by assumption), cell_later hb (by assumption), cell_later hb (by assumption), EqS.below (by assumption) hb⟩) | exact ⟨x1, x2, y1, y2, E0.below (Below.refl _ _).drew⟩) (first | (go_at_call 78; go_split_ands; refine (eqTag_same _ _ _ _ _ _ (tg ts k).2 _ (EqS.a (by assumption)) (EqS.b (by assumption)) r3).mono ?_; rintro e w' ⟨rfl, hb⟩))
      go_split_ands
      rename EqS w _ _ _ _ _ => hE
      have HB := Lib.hid hE.c
      clear hE x1 x2 y1 y2 E0
      go_wp2_with fail
      go_roundw
      case rel => exact ⟨k + 1, by omega, by go_num, HB.out⟩
      case measure => simp [intOf]; omega
    · go_wp2
      go_ret
      exact ⟨rfl, hb⟩
set_option maxHeartbeats 400000 in
theorem eqProfile_same (A A' : Option Addr) (n n' c c' : Nat) (cl : Int) (ts : List Tg) (bs bs' : List Nat) (w : World) (h : Hd w (tagsD ts) (.slice A n c) bs) (h' : Hd w (tagsD ts) (.slice A' n' c') bs')
    (hn : n ≤ 1000000000000) (hs : ∀ i, i < n → (tg ts i).2.length ≤ 1000000000000) :
    Calls Try.prog 30 #[.agg #[.int .i64 cl, .slice A n c], .agg #[.int .i64 cl, .slice A' n' c']] w fun e w' => e = .returned (.bool true) ∧ Below w.heap.size w w' := by
  have H := Lib.hid h
  have H' := Lib.hid h'
  have HS := Lib.hid hs
  clear h h' hs
  go_enter Try.func30, Try.ntmps30
  go_wp2_with fail
  refine (eqTagS_same _ _ _ _ _ _ ts _ _ _ ((H.out.alloc _).alloc _) ((H'.out.alloc _).alloc _) hn HS.out).mono ?_
  rintro e w1 ⟨rfl, hb⟩
  have T := Lib.hid (blThen (blThenAlloc (blAlloc w (.cells #[.int .i64 cl, .slice A n c] 27)) (.cells #[.int .i64 cl, .slice A' n' c'] 27)) hb)
  clear hb
  go_wp2_with fail
  go_ret
  exact ⟨rfl, T.out⟩
set_option maxHeartbeats 400000 in
theorem eqProfileResult_same (A A' : Option Addr) (n n' c c' : Nat) (co cl : Int) (ts : List Tg) (bs bs' : List Nat) (w : World) (h : Hd w (tagsD ts) (.slice A n c) bs) (h' : Hd w (tagsD ts) (.slice A' n' c') bs')
    (hn : n ≤ 1000000000000) (hs : ∀ i, i < n → (tg ts i).2.length ≤ 1000000000000) :
    Calls Try.prog 32 #[.agg #[.int .i64 co, .int .i64 cl, .slice A n c], .agg #[.int .i64 co, .int .i64 cl, .slice A' n' c']] w fun e w' => e = .returned (.bool true) ∧ Below w.heap.size w w' := by
  have H := Lib.hid h
  have H' := Lib.hid h'
  have HS := Lib.hid hs
  clear h h' hs
  go_enter Try.func32, Try.ntmps32
  go_wp2_with fail
  refine (eqProfile_same _ _ _ _ _ _ _ ts _ _ _ ((H.out.alloc _).alloc _) ((H'.out.alloc _).alloc _) hn HS.out).mono ?_
  rintro e w1 ⟨rfl, hb⟩
  have T := Lib.hid (blThen (blThenAlloc (blAlloc w (.cells #[.int .i64 co, .int .i64 cl, .slice A n c] 29)) (.cells #[.int .i64 co, .int .i64 cl, .slice A' n' c'] 29)) hb)
  clear hb
  go_wp2_with fail
  go_ret
  exact ⟨rfl, T.out⟩

/-! ### sz -/
/-- how much is left: below 0, or both are small. -/
def Left (w : World) (p : Prop) (l : Int) (e : Ending) (w' : World) : Prop := ∃ r : Int, e = .returned (.int .i64 r) ∧ r ≤ l ∧ -1 ≤ r ∧ (0 ≤ r → p) ∧ Below w.heap.size w w'
theorem szByteS_any (A : Option Addr) (n c : Nat) (l : Int) (w : World) (hn : n ≤ maxLen) (h0 : 0 ≤ l) (h1 : l ≤ 1048576) :
    Calls Try.prog 84 #[.slice A n c, .int .i64 l] w (Left w (n ≤ 1048576) l) := by
  unfold maxLen at hn
  by_cases h : l < n
  · go_enter Try.func84, Try.ntmps84
    go_wp2
    go_ret
    exact ⟨-1, rfl, by omega, by omega, by omega, Below.refl _ _⟩
  · go_enter Try.func84, Try.ntmps84
    go_wp2
    go_ret
    exact ⟨_, rfl, by omega, by omega, by omega, Below.refl _ _⟩
set_option maxHeartbeats 400000 in
theorem szTag_any (s : ByteArray) (A : Option Addr) (n c : Nat) (l : Int) (w : World) (hs : s.size ≤ maxLen) (hn : n ≤ maxLen) (h0 : 0 ≤ l) (h1 : l ≤ 1048576) :
    Calls Try.prog 76 #[.agg #[.string s, .slice A n c], .int .i64 l] w (Left w (s.size ≤ 1048576 ∧ n ≤ 1048576) l) := by
  have hs' := hs
  unfold maxLen at hs'
  by_cases h : l < s.size
  · go_enter Try.func76, Try.ntmps76
    go_wp2
    go_ret
    exact ⟨-1, rfl, by omega, by omega, by omega, blAlloc _ _⟩
  · go_enter Try.func76, Try.ntmps76
    go_wp2_with fail
    refine (szByteS_any A n c _ _ hn (by omega) (by omega)).mono ?_
    rintro e w1 ⟨r, rfl, h2, h3, h4, hb⟩
    have T := Lib.hid (blThen (blAlloc w (.cells #[.string s, .slice A n c] 98)) hb)
    clear hb
    by_cases hr : r < 0
    · clear h4
      go_wp2_with fail
      go_ret
      exact ⟨-1, rfl, by omega, by omega, by omega, T.out⟩
    · have h5 := h4 (by omega)
      clear h4
      go_wp2_with fail
      go_ret
      exact ⟨r, rfl, by omega, by omega, fun _ => ⟨by omega, h5⟩, T.out⟩
def TsOk (ts : List Tg) : Prop := ∀ i, (tg ts i).1.size ≤ maxLen
def TsSmall (ts : List Tg) : Prop := ts.length ≤ 1048576 ∧ ∀ i, i < ts.length → (tg ts i).1.size ≤ 1048576 ∧ (tg ts i).2.length ≤ 1048576
set_option maxHeartbeats 1000000 in
theorem szTagS_any (A : Option Addr) (n c : Nat) (ts : List Tg) (bs : List Nat) (l : Int) (w : World) (h : Hd w (tagsD ts) (.slice A n c) bs) (hs : TsOk ts) (h0 : 0 ≤ l) (h1 : l ≤ 1048576) :
    Calls Try.prog 60 #[.slice A n c, .int .i64 l] w (Left w (TsSmall ts) l) := by
  obtain ⟨hl, hc, hm, -⟩ := h.tags
  have hm' := hm
  unfold maxLen at hm'
  have HL := Lib.hid hl
  have H := Lib.hid h
  have HS := Lib.hid hs
  clear h hs hl hm
  by_cases hbig : l < n
  · go_enter Try.func60, Try.ntmps60
    go_wp2
    go_ret
    exact ⟨-1, rfl, by omega, by omega, by omega, Below.refl _ _⟩
  go_enter Try.func60, Try.ntmps60
  go_wp2
  go_loopw [1, 5] (fun q i wr => ∃ (k : Nat) (r : Int), k ≤ n ∧ i = .int .i64 k ∧ q = .int .i64 r ∧ 0 ≤ r ∧ r ≤ l ∧ (∀ i, i < k → (tg ts i).1.size ≤ 1048576 ∧ (tg ts i).2.length ≤ 1048576) ∧ Below w.heap.size w wr) (fun _ i _ => n - (intOf i).toNat)
  case atStart => exact ⟨0, _, by omega, rfl, rfl, by omega, by omega, fun i hi => absurd hi (by omega), Below.refl _ _⟩
  case round =>
    obtain ⟨k, r, hk, rfl, rfl, hr0, hr1, hsm, hb⟩ := hrel
    by_cases hlt : k < n
    · obtain ⟨b, o, B1, L1, C1, g1, rfl, x1, x2, x3, -⟩ := (H.out.bel hb).tag hlt
      have r1 := Lib.hid x3.rd.1
      have r2 : L1 ≤ maxLen := Nat.le_trans x3.caps.1 x3.caps.2
      have r3 := HS.out k
      have HB := Lib.hid hb
      have HSM := Lib.hid hsm
      clear hb x3 hsm
      go_wp2_with fail
      refine (szTag_any _ _ _ _ r _ r3 r2 hr0 (by omega)).mono ?_
      rintro e w1 ⟨r', rfl, h2, h3, h4, hb1⟩
      have T := Lib.hid (blThen HB.out hb1)
      clear hb1 HB x1 x2
      by_cases hr : r' < 0
      · clear h4
        go_wp2_with fail
        go_ret
        exact ⟨-1, rfl, by omega, by omega, by omega, T.out⟩
      · have h5 := Lib.hid (h4 (by omega))
        clear h4
        go_wp2_with fail
        go_roundw
        case rel =>
          refine ⟨k + 1, r', by omega, by go_num, rfl, by omega, by omega, fun i hi => ?_, T.out⟩
          by_cases e : i = k
          · subst e; exact ⟨h5.out.1, by rw [r1.out]; exact h5.out.2⟩
          · exact HSM.out i (by omega)
        case measure => simp [intOf]; omega
    · have HSM := Lib.hid hsm
      have HB := Lib.hid hb
      clear hsm hb
      go_wp2
      go_ret
      exact ⟨r, rfl, by omega, by omega, fun _ => ⟨by rw [HL.out]; omega, fun i hi => HSM.out i (by rw [HL.out] at hi; omega)⟩, HB.out⟩
set_option maxHeartbeats 400000 in
theorem szProfile_any (A : Option Addr) (n c : Nat) (cl : Int) (ts : List Tg) (bs : List Nat) (l : Int) (w : World) (h : Hd w (tagsD ts) (.slice A n c) bs) (hs : TsOk ts) (h0 : 0 ≤ l) (h1 : l ≤ 1048576) :
    Calls Try.prog 27 #[.agg #[.int .i64 cl, .slice A n c], .int .i64 l] w (Left w (TsSmall ts) l) := by
  have H := Lib.hid h
  have HS := Lib.hid hs
  clear h hs
  go_enter Try.func27, Try.ntmps27
  go_wp2_with fail
  refine (szTagS_any A n c ts bs l _ (H.out.alloc _) HS.out h0 h1).mono ?_
  rintro e w1 ⟨r, rfl, h2, h3, h4, hb⟩
  have T := Lib.hid (blThen (blAlloc w (.cells #[.int .i64 cl, .slice A n c] 43)) hb)
  have H4 := Lib.hid h4
  clear hb h4
  by_cases hr : r < 0
  · go_wp2_with fail
    go_ret
    exact ⟨-1, rfl, by omega, by omega, by omega, T.out⟩
  · go_wp2_with fail
    go_ret
    exact ⟨r, rfl, by omega, by omega, fun _ => H4.out (by omega), T.out⟩

/-! ### to -/
set_option maxHeartbeats 400000 in
theorem toTag_any (s : ByteArray) (A : Option Addr) (n c : Nat) (xs : List Int) (w : World) (h : Rd .u8 w A n xs) (hn : n ≤ 1000000000000) :
    Calls Try.prog 77 #[.agg #[.string s, .slice A n c]] w fun e w' => ∃ B, e = .returned (.agg #[.string s, .slice B n n]) ∧ Own w' (.ints .u8 xs) (.slice B n n) w.heap.size w'.heap.size ∧ Below w.heap.size w w' := by
  have H := Lib.hid h
  clear h
  go_enter Try.func77, Try.ntmps77
  go_wp2_with fail
  refine (toByteS_any _ _ _ xs _ (((H.out.alloc _).alloc _).alloc _) hn).mono ?_
  rintro e w1 ⟨B, rfl, ho, hb⟩
  obtain ⟨hc, hf⟩ := bcell hb
  have hz : w.heap.size + 2 < w1.heap.size := by have := hb.size; simp at this; omega
  have HO := Lib.hid ho
  have T := Lib.hid (blThen (blThenAlloc (blThenAlloc (blAlloc w _) _) _) hb)
  clear ho hb
  go_wp2_with fail
  refine bodyPost_ret (v := .agg #[.string s, .slice B n n]) (by simp [results, Try.results77, go_sem, hc]) rfl ⟨B, rfl, ?_, ?_⟩
  · refine Own.mono (lo := w.heap.size + 3) (hi := w1.heap.size) ?_ (by omega) (by simp [World.setCell])
    repeat (first | exact (HO.out.mono (by simp) (Nat.le_refl _)) | refine Own.set ?_ (.inl (by omega)) _ _)
  · repeat (first | exact T.out | refine Below.setCell ?_ (by simp; try omega) _)
theorem info_tag : (Try.prog.info? 63).map (fun i => (i.zero, i.size, i.bytes)) = some (some (.agg #[.string ByteArray.empty, .slice none 0 0]), 2, 40) := by kernel_rfl
def partT (ts : List Tg) (k : Nat) : List (List Dat) := (List.range ts.length).map fun i => if i < k then tgD (tg ts i) else [.str ByteArray.empty, .ints .u8 []]
theorem partT_zero (ts : List Tg) : partT ts 0 = List.replicate ts.length [.str ByteArray.empty, .ints .u8 []] := by
  unfold partT
  refine List.ext_getElem (by simp) (fun i h1 h2 => ?_)
  simp
theorem partT_wide {ts : List Tg} {k i : Nat} (hi : i < ts.length) : ((partT ts k).getD i []).length = 2 := by
  unfold partT; rw [el_range hi]; split <;> rfl
theorem partT_old {ts : List Tg} {k : Nat} (hk : k < ts.length) (j : Nat) : At (partT ts k) k j = [.str ByteArray.empty, .ints .u8 []].getD j default := by
  unfold partT; rw [at_range hk, if_neg (by omega)]
theorem zero_tag (w : World) (j : Nat) (hj : j < (#[.string ByteArray.empty, .slice none 0 0] : Array Value).size) : Hd w (([.str ByteArray.empty, .ints .u8 []] : List Dat).getD j default) ((#[.string ByteArray.empty, .slice none 0 0] : Array Value)[j]) [] := by
  match j, hj with
  | 0, _ => exact .str _
  | 1, _ => exact .ints0 _ _ _ (Nat.zero_le _)
/-- one tag more has been laid. -/
theorem partT_step {w : World} {ts : List Tg} {k n c b o lo mid hi : Nat} {x : Value} (hl : ts.length = n) (hk : k < n) (h : Own w (.sl 2 (partT ts k)) (.slice (some ⟨b, o, none⟩) n c) lo mid) (hx : Own w (.ints .u8 (tg ts k).2) x mid hi) (hlo : lo ≤ mid) (hmid : mid ≤ hi) (hblk : b < mid) :
    Own ((w.setCell ⟨b, o + k * 2 + 0, none⟩ (.string (tg ts k).1)).setCell ⟨b, o + k * 2 + 1, none⟩ x) (.sl 2 (partT ts (k + 1))) (.slice (some ⟨b, o, none⟩) n c) lo hi := by
  have w0 : 0 < ((partT ts k).getD k []).length := by rw [partT_wide (by omega)]; omega
  have pl : (partT ts k).length = n := by simp [partT, hl]
  have s1 := h.fill (els' := setEl (partT ts k) k 0 (.str (tg ts k).1)) (d := .str (tg ts k).1) hk (by omega : 0 < 2) (fun gs x hd => by rw [partT_old (by omega)] at hd; exact hd.flat_str) (Own.str w _ mid mid) hlo (Nat.le_refl _) (put_setEl pl hk w0)
  have w1 : 1 < ((setEl (partT ts k) k 0 (.str (tg ts k).1)).getD k []).length := by rw [setEl_wide, partT_wide (by omega)]; omega
  have pl1 : (setEl (partT ts k) k 0 (.str (tg ts k).1)).length = n := by rw [setEl_len, pl]
  have a1 : At (setEl (partT ts k) k 0 (.str (tg ts k).1)) k 1 = .ints .u8 [] := by rw [at_setEl (by omega) w0, if_neg (by omega), partT_old (by omega)]; rfl
  have s2 := s1.fill (els' := setEl (setEl (partT ts k) k 0 (.str (tg ts k).1)) k 1 (.ints .u8 (tg ts k).2)) hk (by omega : 1 < 2) (fun gs x hd => by rw [a1] at hd; exact hd.flat_nil) (hx.set (.inl hblk) _ _) hlo hmid (put_setEl pl1 hk w1)
  refine s2.ext (by rw [setEl_len, setEl_len]; simp [partT]) (fun i hi' j hj => ?_)
  rw [at_setEl (by omega) w1, at_setEl (by omega) w0]
  unfold partT
  rw [at_range (by omega), at_range (by omega)]
  by_cases e : i = k
  · subst e
    match j, hj with
    | 0, _ => simp [tgD]
    | 1, _ => simp [tgD]
  · by_cases h2 : i < k
    · simp [e, h2, show i < k + 1 by omega]
    · simp [e, h2, show ¬ i < k + 1 by omega]
theorem partT_all (ts : List Tg) : partT ts ts.length = ts.map tgD := by
  unfold partT
  refine List.ext_getElem (by simp) (fun i h1 h2 => ?_)
  have : i < ts.length := by simpa using h1
  simp [this, tg, List.getD]
set_option maxHeartbeats 1000000 in
theorem toTagS_any (A : Option Addr) (n c : Nat) (ts : List Tg) (bs : List Nat) (w : World) (h : Hd w (tagsD ts) (.slice A n c) bs) (hn : n ≤ 1000000000) (hs : ∀ i, i < n → (tg ts i).2.length ≤ 1000000000000) :
    Calls Try.prog 61 #[.slice A n c] w fun e w' => ∃ B, e = .returned (.slice B n n) ∧ Own w' (tagsD ts) (.slice B n n) w.heap.size w'.heap.size ∧ Below w.heap.size w w' := by
  have hmk := run_make_many (P := Try.prog) 25 63 (.agg #[.string ByteArray.empty, .slice none 0 0]) 2 40 Try.underlying25 info_tag .i64 .i64 n (by omega) (by omega)
  have hl := h.tags.1
  have HL := Lib.hid hl
  have H := Lib.hid h
  have HS := Lib.hid hs
  clear h hs hl
  go_enter Try.func61, Try.ntmps61
  go_wp2_with fail
  clear hmk
  go_loopw [4] (fun i wr => ∃ k : Nat, k ≤ n ∧ i = .int .i64 k ∧ Own wr (.sl 2 (partT ts k)) (.slice (some ⟨w.heap.size, 0, none⟩) n n) w.heap.size wr.heap.size ∧ Below w.heap.size w wr ∧ w.heap.size < wr.heap.size) (fun i _ => n - (intOf i).toNat)
  case atStart =>
    refine ⟨0, by omega, rfl, ?_, blAlloc _ _, by simp⟩
    rw [partT_zero, HL.out]
    exact (Own.made w #[.string ByteArray.empty, .slice none 0 0] _ n _ (by decide) zero_tag (by unfold maxLen; omega)).mono (Nat.le_refl _) (by simp)
  case round =>
    obtain ⟨k, hk, rfl, ho, hb, hz⟩ := hrel
    by_cases hlt : k < n
    · obtain ⟨b, o, B1, L1, C1, g1, rfl, x1, x2, x3, -⟩ := (H.out.bel hb).tag hlt
      have r1 := Lib.hid x3.rd
      have r3 : L1 ≤ 1000000000000 := by rw [← x3.rd.1]; exact HS.out k hlt
      have HO := Lib.hid ho
      have HB := Lib.hid hb
      clear ho hb x3
      go_wp2_with fail
      refine (toTag_any _ _ _ _ (tg ts k).2 _ r1.out r3).mono ?_
      rintro e w1 ⟨B, rfl, ho1, hb1⟩
      have hw := hb1.size
      obtain ⟨y0, c0, f0, hlo, hhi⟩ := (HO.out.below hb1).slot hlt (by omega : 0 < 2)
      obtain ⟨y1, c1, f1, -, -⟩ := (HO.out.below hb1).slot hlt (by omega : 1 < 2)
      rw [Nat.zero_add, Nat.add_zero] at c0 f0
      rw [Nat.zero_add] at c1 f1
      have HN := Lib.hid (partT_step HL.out hlt (HO.out.below hb1) ho1 (by omega) hw hhi)
      have T := Lib.hid (blThen HB.out hb1)
      clear ho1 hb1 HO HB x1 x2 r1
      go_wp2_with fail
      go_roundw
      case rel =>
        refine ⟨k + 1, by omega, by go_num, ?_, (T.out.setCell (by simp) _).setCell (by simp) _, by simp [World.setCell]; omega⟩
        have := HN.out
        rw [Nat.zero_add, Nat.add_zero] at this
        exact this.mono (Nat.le_refl _) (by simp [World.setCell])
      case measure => simp [intOf]; omega
    · obtain rfl : k = n := by omega
      have HO := Lib.hid ho
      have HB := Lib.hid hb
      clear ho hb
      go_wp2
      go_ret
      refine ⟨_, rfl, ?_, HB.out⟩
      have := HO.out
      rw [← HL.out, partT_all] at this
      rw [← HL.out]
      exact this
set_option maxHeartbeats 400000 in
theorem toProfile_any (A : Option Addr) (n c : Nat) (cl : Int) (ts : List Tg) (bs : List Nat) (w : World) (h : Hd w (tagsD ts) (.slice A n c) bs) (hn : n ≤ 1000000000) (hs : ∀ i, i < n → (tg ts i).2.length ≤ 1000000000000) :
    Calls Try.prog 29 #[.agg #[.int .i64 cl, .slice A n c]] w fun e w' => ∃ B, e = .returned (.agg #[.int .i64 cl, .slice B n n]) ∧ Own w' (tagsD ts) (.slice B n n) w.heap.size w'.heap.size ∧ Below w.heap.size w w' := by
  have H := Lib.hid h
  have HS := Lib.hid hs
  clear h hs
  go_enter Try.func29, Try.ntmps29
  go_wp2_with fail
  refine (toTagS_any _ _ _ ts bs _ (((H.out.alloc _).alloc _).alloc _) hn HS.out).mono ?_
  rintro e w1 ⟨B, rfl, ho, hb⟩
  obtain ⟨hc, hf⟩ := bcell hb
  have hz : w.heap.size + 2 < w1.heap.size := by have := hb.size; simp at this; omega
  have HO := Lib.hid ho
  have T := Lib.hid (blThen (blThenAlloc (blThenAlloc (blAlloc w _) _) _) hb)
  clear ho hb
  go_wp2_with fail
  refine bodyPost_ret (v := .agg #[.int .i64 cl, .slice B n n]) (by simp [results, Try.results29, go_sem, hc]) rfl ⟨B, rfl, ?_, ?_⟩
  · refine Own.mono (lo := w.heap.size + 3) (hi := w1.heap.size) ?_ (by omega) (by simp [World.setCell])
    repeat (first | exact (HO.out.mono (by simp) (Nat.le_refl _)) | refine Own.set ?_ (.inl (by omega)) _ _)
  · repeat (first | exact T.out | refine Below.setCell ?_ (by simp; try omega) _)
end Go.Proofs.Ytbbghebpmobfnaa
