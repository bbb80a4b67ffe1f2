/-
  Marks in tags: markText, markTagS, heldTagS, and what goes over profiles and results by them.
-/
import Derived.Test.YtbbghebpmobfnaaHelpT
import Derived.Laws.BytesArg
namespace Go.Proofs.Ytbbghebpmobfnaa
open Go.RowKit
set_option linter.unusedVariables false

/-- the digits of k ahead of out. -/
def mt (k : Nat) (out : ByteArray) : ByteArray := if h : k = 0 then out else mt (k / 10) (strOfNums [48 + (k : Int) % 10] ++ out)
termination_by k
theorem mt_zero (out : ByteArray) : mt 0 out = out := by rw [mt]; simp
theorem mt_pos {k : Nat} (h : 0 < k) (out : ByteArray) : mt k out = mt (k / 10) (strOfNums [48 + (k : Int) % 10] ++ out) := by rw [mt]; simp [Nat.pos_iff_ne_zero.1 h]
def mtxt (k : Nat) : ByteArray := ⟨#[109]⟩ ++ mt k ⟨#[]⟩
theorem one_size (x : Int) : (strOfNums [x]).size = 1 := by rw [strOfNums_size]; rfl
set_option maxHeartbeats 400000 in
theorem markText_any (k : Nat) (w : World) (h : k ≤ 1000000000000000) (h0 : 0 < k) : Calls Try.prog 80 #[.int .i64 k] w fun e w' => e = .returned (.string (mtxt k)) ∧ Below w.heap.size w w' := by
  have hcv : ∀ (W : World) (x : Int), (convert 22 9 (.slice (some ⟨W.heap.size, 0, none⟩) 1 1)).run Try.prog (W.alloc (.cells #[.int .u8 x] 5)) = .ok (.string (strOfNums [x])) (W.alloc (.cells #[.int .u8 x] 5)) := fun W x =>
    run_convert_bytes_arg _ _ _ Try.underlying22 Try.underlying5 _ _ _ _ [x] rfl (fun i hi => (by cases Nat.lt_one_iff.1 hi; simp)) _ Try.underlying9
  have hk0 : ¬ k = 0 := by omega
  go_enter Try.func80, Try.ntmps80
  go_wp2
  go_loopw [0, 3] (fun q t wr => ∃ (j : Nat) (out : ByteArray), out.size + j ≤ k ∧ q = .int .i64 j ∧ t = .string out ∧ Hid (mt j out = mt k ⟨#[]⟩) ∧ Below w.heap.size w wr) (fun q _ _ => (intOf q).toNat)
  case atStart => exact ⟨k, _, by simp [ByteArray.size], rfl, rfl, rfl, Below.refl _ _⟩
  case round =>
    obtain ⟨j, out, hj, rfl, rfl, hm, hb⟩ := hrel
    have HB := Lib.hid hb
    clear hb
    by_cases hlt : 0 < j
    · have hr1 := Int.emod_nonneg (j : Int) (by omega : (10 : Int) ≠ 0)
      have hr2 := Int.emod_lt_of_pos (j : Int) (by omega : (0 : Int) < 10)
      have hsz := one_size (48 + (j : Int) % 10)
      go_wp2_with fail
      go_roundw
      case rel => exact ⟨j / 10, _, by rw [ByteArray.size_append, one_size]; omega, by rw [Int.natCast_ediv]; rfl, rfl, by rw [← mt_pos hlt]; exact hm, HB.out.alloc HB.out.size _⟩
      case measure => simp [intOf]; omega
    · obtain rfl : j = 0 := by omega
      have hs : ¬ 9223372036854775807 < 1 + out.size := by omega
      have HM : Hid (out = mt k ⟨#[]⟩) := by rw [← hm.out, mt_zero]; rfl
      clear hm
      go_wp2_with fail
      go_ret
      refine ⟨?_, HB.out⟩
      show Ending.returned (Value.string (⟨#[109]⟩ ++ out)) = _
      rw [HM.out]
      rfl

def kAt (ts : List Tg) (k : Nat) : Nat → Nat
  | 0 => k
  | i + 1 => kAt ts k i + 1 + (tg ts i).2.length
def mkT (ts : List Tg) (k i : Nat) : List Tg := (List.range ts.length).map fun j => if j < i then (mtxt (kAt ts k j), marks (kAt ts k j + 1 : Nat) (tg ts j).2.length) else tg ts j
theorem mkT_len (ts : List Tg) (k i : Nat) : (mkT ts k i).length = ts.length := by simp [mkT]
theorem mkT_get {ts : List Tg} {k i j : Nat} (hj : j < ts.length) : tg (mkT ts k i) j = if j < i then (mtxt (kAt ts k j), marks (kAt ts k j + 1 : Nat) (tg ts j).2.length) else tg ts j := by
  conv => lhs; unfold tg mkT
  simp [List.getD, hj]
theorem mkT_zero (ts : List Tg) (k : Nat) : mkT ts k 0 = ts := by
  unfold mkT
  refine List.ext_getElem (by simp) (fun i h1 h2 => ?_)
  simp [tg, List.getD, h2]
theorem kAt_le (ts : List Tg) (k : Nat) (hs : TsSmall ts) (i : Nat) (hi : i ≤ ts.length) : kAt ts k i ≤ k + i * 1048577 := by
  induction i with
  | zero => simp [kAt]
  | succ i ih =>
    have h1 := ih (by omega)
    have h2 := (hs.2 i (by omega)).2
    simp only [kAt]
    omega
theorem kAt_big {ts : List Tg} {k : Nat} (hs : TsSmall ts) (hk : k ≤ 10000000000000) {i : Nat} (hi : i ≤ ts.length) : kAt ts k i ≤ 900000000000000 := by
  have h1 := kAt_le ts k hs i hi
  have h2 := hs.1
  have h3 : i * 1048577 ≤ 1048576 * 1048577 := Nat.mul_le_mul_right _ (by omega)
  omega
theorem kAt_ge (ts : List Tg) (k i : Nat) : k ≤ kAt ts k i := by
  induction i with
  | zero => exact Nat.le_refl _
  | succ i ih => simp only [kAt]; omega

/-- the name of tag i is marked. -/
def namedT (ts : List Tg) (k i : Nat) : List (List Dat) := setEl ((mkT ts k i).map tgD) i 0 (.str (mtxt (kAt ts k i)))
theorem mkT_name {w : World} {ts : List Tg} {k i n c b o : Nat} {bs : List Nat} (hl : ts.length = n) (hi : i < n) (h : Hd w (tagsD (mkT ts k i)) (.slice (some ⟨b, o, none⟩) n c) bs) (nd : bs.Nodup) :
    Hd (w.setCell ⟨b, o + i * 2 + 0, none⟩ (.string (mtxt (kAt ts k i)))) (.sl 2 (namedT ts k i)) (.slice (some ⟨b, o, none⟩) n c) bs := by
  have hw : 0 < (((mkT ts k i).map tgD).getD i []).length := by rw [tags_el (by rw [mkT_len]; omega)]; simp [tgD]
  obtain ⟨bs', h1, _, _, h4⟩ := h.fill (x0 := .bool true) (els' := namedT ts k i) (d := .str (mtxt (kAt ts k i))) nd hi (by omega : 0 < 2) (fun gs x hd => by rw [tags_at0 (by rw [mkT_len]; omega)] at hd; exact hd.flat_str) (Hd.str _) (by simp) (by simp) (put_setEl (by simp [mkT_len, hl]) hi hw)
  rw [h4 rfl] at h1
  exact h1
theorem mkT_bytes {w : World} {ts : List Tg} {k i n c b o : Nat} {bs : List Nat} (hl : ts.length = n) (hi : i < n) (h : Hd w (.sl 2 (namedT ts k i)) (.slice (some ⟨b, o, none⟩) n c) bs) (nd : bs.Nodup) :
    ∃ B L C gs, w.cell? ⟨b, o + i * 2 + 1, none⟩ = some (.slice B L C) ∧ Hd w (.ints .u8 (tg ts i).2) (.slice B L C) gs ∧ (∀ g ∈ gs, g ∈ bs) ∧
      ∀ w', Ch w w' (· ∈ gs) → Hd w' (.ints .u8 (marks (kAt ts k i + 1 : Nat) L)) (.slice B L C) gs → Hd w' (tagsD (mkT ts k (i + 1))) (.slice (some ⟨b, o, none⟩) n c) bs := by
  have hw0 : 0 < (((mkT ts k i).map tgD).getD i []).length := by rw [tags_el (by rw [mkT_len]; omega)]; simp [tgD]
  have hml : ((mkT ts k i).map tgD).length = n := by simp [mkT_len, hl]
  have hat : At (namedT ts k i) i 1 = .ints .u8 (tg ts i).2 := by
    unfold namedT
    rw [at_setEl (by omega) hw0, if_neg (by omega), tags_at1 (by rw [mkT_len]; omega), mkT_get (by omega), if_neg (by omega)]
  obtain ⟨x, gs, hc, hd, hsub, _, _, hback⟩ := h.focus nd hi (by omega : 1 < 2)
  rw [hat] at hd
  obtain ⟨B, L, C, rfl, hrd, _⟩ := hd.ints_inv
  refine ⟨B, L, C, gs, hc, hd, hsub, fun w' hch hd' => ?_⟩
  have hwn : 1 < ((namedT ts k i).getD i []).length := by unfold namedT; rw [setEl_wide, tags_el (by rw [mkT_len]; omega)]; simp [tgD]
  have hnl : (namedT ts k i).length = n := by unfold namedT; rw [setEl_len]; exact hml
  have := hback w' _ _ hch hd' (put_setEl hnl hi hwn)
  refine this.ext (by rw [setEl_len, hnl, List.length_map, mkT_len, hl]) (fun i' hi' j' hj' => ?_)
  rw [at_setEl (by omega) hwn]
  unfold namedT
  rw [at_setEl (by omega) hw0]
  have e1 := mkT_get (ts := ts) (k := k) (i := i + 1) (j := i') (by omega)
  have e2 := mkT_get (ts := ts) (k := k) (i := i) (j := i') (by omega)
  have l1 : i' < (mkT ts k (i + 1)).length := by rw [mkT_len]; omega
  have l2 : i' < (mkT ts k i).length := by rw [mkT_len]; omega
  have hL := hrd.1
  match j', hj' with
  | 0, _ =>
    rw [tags_at0 l1, tags_at0 l2, e1, e2]
    by_cases e : i' = i
    · subst e; simp
    · by_cases h2 : i' < i
      · simp [e, h2, show i' < i + 1 by omega]
      · simp [e, h2, show ¬ i' < i + 1 by omega]
  | 1, _ =>
    rw [tags_at1 l1, tags_at1 l2, e1, e2]
    by_cases e : i' = i
    · subst e; simp [hL]
    · by_cases h2 : i' < i
      · simp [e, h2, show i' < i + 1 by omega]
      · simp [e, h2, show ¬ i' < i + 1 by omega]
theorem hd_blk {w : World} {m b o n c : Nat} {els : List (List Dat)} {bs : List Nat} (h : Hd w (.sl m els) (.slice (some ⟨b, o, none⟩) n c) bs) (hn : 0 < n) : b ∈ bs := by
  obtain ⟨_, _, _, hf⟩ := h.sl_inv
  obtain ⟨b', o', V, G, e, _, hr, _, rfl⟩ := hf hn
  injection e with e
  injection e with e1 e2
  subst e1
  simp
set_option maxHeartbeats 1000000 in
theorem markTagS_any (A : Option Addr) (n c k : Nat) (ts : List Tg) (bs : List Nat) (w : World) (h : Hd w (tagsD ts) (.slice A n c) bs) (nd : bs.Nodup) (hf : ∀ b ∈ bs, Thaw w b) (hs : TsSmall ts) (hk : k ≤ 10000000000000) (hk0 : 0 < k) :
    Calls Try.prog 64 #[.slice A n c, .int .i64 k] w fun e w' => e = .returned (.int .i64 (kAt ts k ts.length)) ∧ Hd w' (tagsD (mkT ts k ts.length)) (.slice A n c) bs ∧ Ch w w' (· ∈ bs) := by
  have hl := h.tags.1
  have hn : n ≤ 1048576 := by have := hs.1; omega
  have HL := Lib.hid hl
  have H := Lib.hid h
  have HS := Lib.hid hs
  have ND := Lib.hid nd
  have HF := Lib.hid hf
  clear h hs nd hf hl
  go_enter Try.func64, Try.ntmps64
  go_wp2
  go_loopw [1, 5] (fun q i wr => ∃ j : Nat, j ≤ n ∧ i = .int .i64 j ∧ q = .int .i64 (kAt ts k j : Nat) ∧ Hd wr (tagsD (mkT ts k j)) (.slice A n c) bs ∧ Ch w wr (· ∈ bs)) (fun _ i _ => n - (intOf i).toNat)
  case atStart => exact ⟨0, by omega, rfl, rfl, by rw [mkT_zero]; exact H.out, Ch.refl _ _⟩
  case round =>
    obtain ⟨j, hj, rfl, rfl, hd, hch⟩ := hrel
    by_cases hlt : j < n
    · obtain ⟨b, o, B1, L1, C1, g1, rfl, x1, x2, -, -⟩ := hd.tag hlt
      have hkb := kAt_big HS.out hk (i := j) (by rw [HL.out]; omega)
      have hkg := kAt_ge ts k j
      have hb := hd_blk hd (by omega)
      have f1 : wr.frozen? ⟨b, o + j * 2, none⟩ = false := by rw [hch.frozen _ _ (H.out.lt b hb)]; exact HF.out b hb _
      have hbw := hd.lt b hb
      have HB := Lib.hid hb
      have HD := Lib.hid hd
      have HCH := Lib.hid hch
      clear hd hch hb
      go_wp2_with fail
      refine (markText_any _ _ (by omega) (by omega)).mono ?_
      rintro e w1 ⟨rfl, hb1⟩
      have HD1 := HD.out.bel hb1
      have d1 := mkT_name HL.out hlt HD1 ND.out
      obtain ⟨B, L, C, gs, y1, hd2, hsub, hback⟩ := mkT_bytes HL.out hlt d1 ND.out
      rw [Nat.add_zero] at y1 hd2 hback
      have z1 := cell_later hb1 x1
      have f2 := f1
      rw [← hb1.frozen (p := ⟨b, o + j * 2, none⟩) hbw] at f2
      have hL : L ≤ 1048576 := by rw [← hd2.rd.1]; exact (HS.out.2 j (by rw [HL.out]; exact hlt)).2
      have CH1 := HCH.out.trans ((Ch.of_below (· ∈ bs) hb1).trans (Ch.setCell w1 (P := (· ∈ bs)) HB.out (o + j * 2) (.string (mtxt (kAt ts k j)))))
      have TH : ∀ g ∈ gs, Thaw (w1.setCell ⟨b, o + j * 2, none⟩ (.string (mtxt (kAt ts k j)))) g := fun g hg => (HF.out g (hsub g hg)).ch CH1 (H.out.lt g (hsub g hg))
      have HTH := Lib.hid TH
      have HCH1 := Lib.hid CH1
      have HD2 := Lib.hid hd2
      have HBK := Lib.hid hback
      have HSUB := Lib.hid hsub
      have HLL := Lib.hid hd2.rd.1
      clear HD1 d1 hd2 hsub hback CH1 TH x1 f1 hb1 HD HCH x2
      go_wp2_with fail
      refine (markByteS_any _ _ _ _ _ gs _ HD2.out (by omega) (by omega) (by omega) HTH.out).mono ?_
      rintro e w2 ⟨rfl, hd3, hch3⟩
      have HD3 := Lib.hid hd3
      have HCH3 := Lib.hid hch3
      clear hd3 hch3 y1 z1 f2
      go_wp2_with fail
      go_roundw
      case rel =>
        refine ⟨j + 1, by omega, by go_num, ?_, HBK.out _ HCH3.out ?_, HCH1.out.trans (HCH3.out.mono HSUB.out)⟩
        · rw [kAt, HLL.out]; go_num
        · have := HD3.out
          rw [show ((kAt ts k j : Nat) : Int) + 1 = ((kAt ts k j + 1 : Nat) : Int) by omega] at this
          exact this
      case measure => simp [intOf]; omega
    · obtain rfl : j = n := by omega
      have HD := Lib.hid hd
      have HCH := Lib.hid hch
      clear hd hch
      go_wp2
      go_ret
      refine ⟨ret_int (by rw [HL.out]), ?_, HCH.out⟩
      rw [HL.out]; exact HD.out
/-- all is marked. -/
def mkAll (ts : List Tg) (k : Nat) : List Tg := mkT ts k ts.length
theorem mkAll_len (ts : List Tg) (k : Nat) : (mkAll ts k).length = ts.length := mkT_len _ _ _
theorem mkAll_get {ts : List Tg} {k j : Nat} (hj : j < ts.length) : tg (mkAll ts k) j = (mtxt (kAt ts k j), marks (kAt ts k j + 1 : Nat) (tg ts j).2.length) := by
  unfold mkAll; rw [mkT_get hj, if_pos hj]
set_option maxHeartbeats 1000000 in
theorem heldTagS_any (A : Option Addr) (n c k : Nat) (ts : List Tg) (bs : List Nat) (w : World) (h : Hd w (tagsD (mkAll ts k)) (.slice A n c) bs) (hs : TsSmall ts) (hk : k ≤ 10000000000000) (hk0 : 0 < k) :
    Calls Try.prog 79 #[.slice A n c, .int .i64 k] w fun e w' => e = .returned (.int .i64 (kAt ts k ts.length)) ∧ Below w.heap.size w w' := by
  have hl := h.tags.1
  rw [mkAll_len] at hl
  have hn : n ≤ 1048576 := by have := hs.1; omega
  have HL := Lib.hid hl
  have H := Lib.hid h
  have HS := Lib.hid hs
  clear h hs hl
  go_enter Try.func79, Try.ntmps79
  go_wp2
  go_loopw [1, 5] (fun q i wr => ∃ j : Nat, j ≤ n ∧ i = .int .i64 j ∧ q = .int .i64 (kAt ts k j : Nat) ∧ Below w.heap.size w wr) (fun _ i _ => n - (intOf i).toNat)
  case atStart => exact ⟨0, by omega, rfl, rfl, Below.refl _ _⟩
  case round =>
    obtain ⟨j, hj, rfl, rfl, hb⟩ := hrel
    by_cases hlt : j < n
    · obtain ⟨b, o, B1, L1, C1, g1, rfl, x1, x2, x3, -⟩ := (H.out.bel hb).tag hlt
      rw [mkAll_get (by rw [HL.out]; exact hlt)] at x1 x3
      have hkb := kAt_big HS.out hk (i := j) (by rw [HL.out]; omega)
      have hkg := kAt_ge ts k j
      have hL : (tg ts j).2.length = L1 := by rw [← x3.rd.1, marks_len]
      have hL2 : L1 ≤ 1048576 := by rw [← hL]; exact (HS.out.2 j (by rw [HL.out]; exact hlt)).2
      have hr := x3.rd
      simp only at hr
      rw [hL] at hr
      have HLL := Lib.hid hL
      have HR := Lib.hid hr
      have HB := Lib.hid hb
      clear hb x3 hr hL
      go_wp2_with fail
      go_region_held3 (fun w' => w'.cell? ⟨b, o + j * 2, none⟩ = some (.string (mtxt (kAt ts k j))) ∧ Below wr.heap.size wr w') (first | (go_split_ands; exact ⟨cell_later hb (by assumption), blThen (by assumption) hb⟩) | exact ⟨x1, (Below.refl _ _).drew⟩) (first | (go_at_call 80; go_split_ands; refine (markText_any _ _ (by omega) (by omega)).mono ?_; rintro e w' ⟨rfl, hb⟩))
      go_split_ands
      rename Below wr.heap.size wr _ => hB
      have x2' := cell_later hB x2
      have HR' := Lib.hid (HR.out.below hB)
      have T := Lib.hid (blThen HB.out hB)
      clear hB x1 x2 HR HB
      go_wp2_with fail
      refine (heldByteS_any _ _ _ _ _ ?_ (by omega) (by omega) (by omega)).mono ?_
      · have := HR'.out
        rw [show ((kAt ts k j + 1 : Nat) : Int) = ((kAt ts k j : Nat) : Int) + 1 by omega] at this
        exact this
      rintro e w2 ⟨rfl, rfl⟩
      clear x2'
      go_wp2_with fail
      go_roundw
      case rel => exact ⟨j + 1, by omega, by go_num, by rw [kAt, HLL.out]; go_num, T.out⟩
      case measure => simp [intOf]; omega
    · obtain rfl : j = n := by omega
      have HB := Lib.hid hb
      clear hb
      go_wp2
      go_ret
      exact ⟨ret_int (by rw [HL.out]), HB.out⟩

/-! ### over profiles and results -/
theorem Hd.ch0 {w w' : World} {d : Dat} {v : Value} {bs : List Nat} (h : Hd w d v bs) (hc : Ch w w' (fun _ => False)) : Hd w' d v bs := h.ch hc (fun _ _ => id)
set_option maxHeartbeats 400000 in
theorem markProfile_any (A : Option Addr) (n c k : Nat) (cl : Int) (ts : List Tg) (bs : List Nat) (w : World) (h : Hd w (tagsD ts) (.slice A n c) bs) (nd : bs.Nodup) (hf : ∀ b ∈ bs, Thaw w b) (hs : TsSmall ts) (hk : k ≤ 10000000000000) (hk0 : 0 < k) :
    Calls Try.prog 38 #[.agg #[.int .i64 cl, .slice A n c], .int .i64 k] w fun e w' => e = .returned (.int .i64 (kAt ts k ts.length)) ∧ Hd w' (tagsD (mkAll ts k)) (.slice A n c) bs ∧ Ch w w' (· ∈ bs) := by
  have H := Lib.hid h
  have HS := Lib.hid hs
  have ND := Lib.hid nd
  have HF := Lib.hid hf
  clear h hs nd hf
  go_enter Try.func38, Try.ntmps38
  go_wp2_with fail
  refine (markTagS_any A n c k ts bs _ (H.out.alloc _) ND.out (fun b hb => (HF.out b hb).ch (Ch.of_below (fun _ => False) (blAlloc _ _)) (H.out.lt b hb)) HS.out hk hk0).mono ?_
  rintro e w1 ⟨rfl, hd, hch⟩
  have HD := Lib.hid hd
  have HCH := Lib.hid ((Ch.of_below (· ∈ bs) (blAlloc w (.cells #[.int .i64 cl, .slice A n c] 27))).trans hch)
  clear hd hch
  go_wp2_with fail
  go_ret
  exact ⟨rfl, HD.out, HCH.out⟩
set_option maxHeartbeats 400000 in
theorem heldProfile_any (A : Option Addr) (n c k : Nat) (cl : Int) (ts : List Tg) (bs : List Nat) (w : World) (h : Hd w (tagsD (mkAll ts k)) (.slice A n c) bs) (hs : TsSmall ts) (hk : k ≤ 10000000000000) (hk0 : 0 < k) :
    Calls Try.prog 63 #[.agg #[.int .i64 cl, .slice A n c], .int .i64 k] w fun e w' => e = .returned (.int .i64 (kAt ts k ts.length)) ∧ Below w.heap.size w w' := by
  have H := Lib.hid h
  have HS := Lib.hid hs
  have hkg := kAt_ge ts k ts.length
  have hkn : ¬ (kAt ts k ts.length : Int) < 0 := by omega
  clear h hs
  go_enter Try.func63, Try.ntmps63
  go_wp2_with fail
  refine (heldTagS_any A n c k ts bs _ (H.out.alloc _) HS.out hk hk0).mono ?_
  rintro e w1 ⟨rfl, hb⟩
  have T := Lib.hid (blThen (blAlloc w _) hb)
  clear hb
  go_wp2_with fail
  go_ret
  exact ⟨rfl, T.out⟩
set_option maxHeartbeats 400000 in
theorem markProfileResult_any (A : Option Addr) (n c k : Nat) (co cl : Int) (ts : List Tg) (bs : List Nat) (w : World) (h : Hd w (tagsD ts) (.slice A n c) bs) (nd : bs.Nodup) (hf : ∀ b ∈ bs, Thaw w b) (hs : TsSmall ts) (hk : k ≤ 10000000000000) (hk0 : 0 < k) :
    Calls Try.prog 35 #[.agg #[.int .i64 co, .int .i64 cl, .slice A n c], .int .i64 k] w fun e w' => e = .returned (.int .i64 (kAt ts k ts.length)) ∧ Hd w' (tagsD (mkAll ts k)) (.slice A n c) bs ∧ Ch w w' (· ∈ bs) := by
  have H := Lib.hid h
  have HS := Lib.hid hs
  have ND := Lib.hid nd
  have HF := Lib.hid hf
  clear h hs nd hf
  go_enter Try.func35, Try.ntmps35
  go_wp2_with fail
  refine (markProfile_any A n c k cl ts bs _ (H.out.alloc _) ND.out (fun b hb => (HF.out b hb).ch (Ch.of_below (fun _ => False) (blAlloc _ _)) (H.out.lt b hb)) HS.out hk hk0).mono ?_
  rintro e w1 ⟨rfl, hd, hch⟩
  have HD := Lib.hid hd
  have HCH := Lib.hid ((Ch.of_below (· ∈ bs) (blAlloc w (.cells #[.int .i64 co, .int .i64 cl, .slice A n c] 29))).trans hch)
  clear hd hch
  go_wp2_with fail
  go_ret
  exact ⟨rfl, HD.out, HCH.out⟩
set_option maxHeartbeats 400000 in
theorem heldProfileResult_any (A : Option Addr) (n c k : Nat) (co cl : Int) (ts : List Tg) (bs : List Nat) (w : World) (h : Hd w (tagsD (mkAll ts k)) (.slice A n c) bs) (hs : TsSmall ts) (hk : k ≤ 10000000000000) (hk0 : 0 < k) :
    Calls Try.prog 36 #[.agg #[.int .i64 co, .int .i64 cl, .slice A n c], .int .i64 k] w fun e w' => e = .returned (.int .i64 (kAt ts k ts.length)) ∧ Below w.heap.size w w' := by
  have H := Lib.hid h
  have HS := Lib.hid hs
  have hkg := kAt_ge ts k ts.length
  have hkn : ¬ (kAt ts k ts.length : Int) < 0 := by omega
  clear h hs
  go_enter Try.func36, Try.ntmps36
  go_wp2_with fail
  refine (heldProfile_any A n c k cl ts bs _ (H.out.alloc _) HS.out hk hk0).mono ?_
  rintro e w1 ⟨rfl, hb⟩
  have T := Lib.hid (blThen (blAlloc w _) hb)
  clear hb
  go_wp2_with fail
  go_ret
  exact ⟨rfl, T.out⟩
set_option maxHeartbeats 400000 in
theorem eqBytesResult_same (A A' : Option Addr) (n n' c c' : Nat) (k : Int) (xs : List Int) (w : World) (h : Rd .u8 w A n xs) (h' : Rd .u8 w A' n' xs) (hn : n ≤ 1000000000000) :
    Calls Try.prog 37 #[.agg #[.int .i64 k, .slice A n c], .agg #[.int .i64 k, .slice A' n' c']] w fun e w' => e = .returned (.bool true) ∧ Below w.heap.size w w' := by
  obtain rfl := h.len_eq h'
  have H := Lib.hid h
  have H' := Lib.hid h'
  clear h h'
  go_enter Try.func37, Try.ntmps37
  go_wp2_with (go_at_call 33; refine (eqByteS_same _ _ _ _ _ xs _ ((H.out.alloc _).alloc _) ((H'.out.alloc _).alloc _) hn).mono ?_; rintro e w' ⟨rfl, m, rfl⟩)
  go_ret
  exact ⟨rfl, ((blAlloc _ _).alloc (by simp) _).trans (below_drewN _ _ _)⟩
set_option maxHeartbeats 400000 in
theorem markBytesResult_any (A : Option Addr) (n c : Nat) (q k : Int) (xs : List Int) (bs : List Nat) (w : World) (h : Hd w (.ints .u8 xs) (.slice A n c) bs) (hf : ∀ b ∈ bs, Thaw w b) (hn : n ≤ 1000000000000) (h0 : 0 ≤ k) (h1 : k ≤ 1000000000000000) :
    Calls Try.prog 39 #[.agg #[.int .i64 q, .slice A n c], .int .i64 k] w fun e w' => e = .returned (.int .i64 (k + n)) ∧ Hd w' (.ints .u8 (marks k n)) (.slice A n c) bs ∧ Ch w w' (· ∈ bs) := by
  have H := Lib.hid h
  have HF := Lib.hid hf
  clear h hf
  go_enter Try.func39, Try.ntmps39
  go_wp2_with fail
  refine (markByteS_any _ _ _ _ xs bs _ (H.out.alloc _) hn h0 h1 (fun b hb => (HF.out b hb).ch (Ch.of_below (fun _ => False) (blAlloc _ _)) (H.out.lt b hb))).mono ?_
  rintro e w1 ⟨rfl, hd, hch⟩
  have HD := Lib.hid hd
  have HCH := Lib.hid ((Ch.of_below (· ∈ bs) (blAlloc w (.cells #[.int .i64 q, .slice A n c] 33))).trans hch)
  clear hd hch
  go_wp2_with fail
  go_ret
  exact ⟨rfl, HD.out, HCH.out⟩
set_option maxHeartbeats 400000 in
theorem heldBytesResult_any (A : Option Addr) (n c : Nat) (q k : Int) (w : World) (h : Rd .u8 w A n (marks k n)) (hn : n ≤ 1000000000000) (h0 : 0 ≤ k) (h1 : k ≤ 1000000000000000) :
    Calls Try.prog 40 #[.agg #[.int .i64 q, .slice A n c], .int .i64 k] w fun e w' => e = .returned (.int .i64 (k + n)) ∧ Below w.heap.size w w' := by
  have H := Lib.hid h
  clear h
  go_enter Try.func40, Try.ntmps40
  go_wp2_with (go_at_call 65; refine (heldByteS_any _ _ _ _ _ (H.out.alloc _) hn h0 h1).mono ?_; rintro e w' ⟨rfl, rfl⟩)
  go_ret
  exact ⟨rfl, blAlloc _ _⟩
end Go.Proofs.Ytbbghebpmobfnaa
