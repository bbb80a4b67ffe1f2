/-
  A profile written out: impl.stepAt, tableEndOf, putTwo, putHead, EncodeProfile.
-/
import Derived.Test.YtbbghebpmobfnaaFind
import Derived.Lib.SlBytesConst
namespace Go.Proofs.Ytbbghebpmobfnaa
open Go.RowKit
set_option linter.unusedVariables false

/-! ### the bytes -/
def padI (n : Nat) : Nat := (n + 3) / 4 * 4
def two (v : Nat) : List Int := [(v / 256 : Nat), (v % 256 : Nat)]
/-- where the bytes of the first i tags end. -/
def endAt (ts : List Tg) : Nat → Nat
  | 0 => 6 + 8 * ts.length
  | i + 1 => padI (endAt ts i) + (tg ts i).2.length
def tabAt (ts : List Tg) : Nat → List Int
  | 0 => []
  | i + 1 => tabAt ts i ++ nb (tg ts i).1 ++ two (padI (endAt ts i)) ++ two (tg ts i).2.length
def hdB (cl : Int) (ts : List Tg) (i : Nat) : List Int := [112, 114, 111, 102] ++ [cl, (ts.length : Int)] ++ tabAt ts i
def bodyAt (cl : Int) (ts : List Tg) : Nat → List Int
  | 0 => hdB cl ts ts.length
  | i + 1 => bodyAt cl ts i ++ List.replicate (padI (bodyAt cl ts i).length - (bodyAt cl ts i).length) 0 ++ (tg ts i).2
def enc (cl : Int) (ts : List Tg) : List Int := bodyAt cl ts ts.length

structure Fine (cl : Int) (ts : List Tg) : Prop where
  lo : 1 ≤ cl
  hi : cl ≤ 3
  len : ts.length ≤ 8
  name : ∀ i, i < ts.length → nm (tg ts i).1 = true
  blo : ∀ i, i < ts.length → 1 ≤ (tg ts i).2.length
  bhi : ∀ i, i < ts.length → (tg ts i).2.length ≤ 96
theorem fine_of {cl : Int} {ts : List Tg} (h : pf cl ts = 0) : Fine cl ts := by
  obtain ⟨h1, h2, h3⟩ := pf_zero h
  obtain ⟨a, b⟩ := inB_iff.1 h1
  exact ⟨a, b, h2, fun i hi => (pf_names h hi).1, fun i hi => by have := (inB_iff.1 (pf_names h hi).2.1).1; omega, fun i hi => by have := (inB_iff.1 (pf_names h hi).2.1).2; omega⟩
theorem endAt_le {cl : Int} {ts : List Tg} (h : Fine cl ts) (i : Nat) (hi : i ≤ ts.length) : endAt ts i ≤ 70 + 100 * i := by
  induction i with
  | zero => have := h.len; simp only [endAt]; omega
  | succ i ih =>
    have := ih (by omega)
    have := h.bhi i (by omega)
    simp only [endAt, padI]; omega
theorem endAt_le' {cl : Int} {ts : List Tg} (h : Fine cl ts) {i : Nat} (hi : i ≤ ts.length) : endAt ts i ≤ 870 := by have := endAt_le h i hi; have := h.len; omega
theorem tabAt_len {cl : Int} {ts : List Tg} (h : Fine cl ts) (i : Nat) (hi : i ≤ ts.length) : (tabAt ts i).length = 8 * i := by
  induction i with
  | zero => rfl
  | succ i ih =>
    have := ih (by omega)
    have h4 := nm_size (h.name i (by omega))
    simp only [tabAt, List.length_append, nb_len, two, List.length_cons, List.length_nil]; omega
theorem hdB_len {cl : Int} {ts : List Tg} (h : Fine cl ts) (i : Nat) (hi : i ≤ ts.length) : (hdB cl ts i).length = 6 + 8 * i := by
  simp only [hdB, List.length_append, List.length_cons, List.length_nil, tabAt_len h i hi]
theorem bodyAt_len {cl : Int} {ts : List Tg} (h : Fine cl ts) (i : Nat) (hi : i ≤ ts.length) : (bodyAt cl ts i).length = endAt ts i := by
  induction i with
  | zero => simp only [bodyAt, endAt]; exact hdB_len h _ (Nat.le_refl _)
  | succ i ih =>
    have := ih (by omega)
    simp only [bodyAt, endAt, List.length_append, List.length_replicate, this, padI]; omega

/-! ### the program's -/
theorem stepAt_any (n : Nat) (w : World) (h : n ≤ 1000000000) : Calls Try.prog 47 #[.int .i64 n] w fun e w' => e = .returned (.int .i64 (padI n : Nat)) ∧ w = w' := by
  go_enter Try.func47, Try.ntmps47
  go_wp2
  go_ret
  exact ⟨ret_int (by unfold padI; omega), rfl⟩
theorem tableEndOf_any (n : Nat) (w : World) (h : n ≤ 1000000000) : Calls Try.prog 69 #[.int .i64 n] w fun e w' => e = .returned (.int .i64 (6 + 8 * n : Nat)) ∧ w = w' := by
  go_enter Try.func69, Try.ntmps69
  go_wp2
  go_ret
  exact ⟨ret_int (by omega), rfl⟩
/-- block q is a row of elements of type t. -/
def TyAt (w : World) (q : Nat) (t : TypeId) : Prop := ∃ cs fr, w.heap[q]? = some (.cells cs t fr)
theorem TyAt.new (w : World) (cs : Array Value) (t : TypeId) : TyAt (w.alloc (.cells cs t)) w.heap.size t := ⟨cs, (0, 0), heap_alloc_new w _⟩
theorem TyAt.lt {w : World} {q : Nat} {t : TypeId} (h : TyAt w q t) : q < w.heap.size := by
  obtain ⟨cs, fr, h⟩ := h
  exact (Array.getElem?_eq_some_iff.1 h).1
theorem TyAt.gb {w w' : World} {q g : Nat} {t : TypeId} (h : TyAt w q t) (hg : w.grownBy w' (some g)) (hne : q ≠ g) : TyAt w' q t := by
  have hl := h.lt
  obtain ⟨cs, fr, h⟩ := h
  exact ⟨cs, fr, (hg.block q hl (fun e => hne (by injection e))).trans h⟩
theorem TyAt.below {w w' : World} {q : Nat} {t : TypeId} (h : TyAt w q t) (hb : Below w.heap.size w w') : TyAt w' q t := by
  have hl := h.lt
  obtain ⟨cs, fr, h⟩ := h
  exact ⟨cs, fr, (hb.block q hl).trans h⟩
theorem OwnB.ne {w : World} {base g n cap q : Nat} {ys : List Int} {t : TypeId} (h : OwnB w base (.slice (some ⟨g, 0, none⟩) n cap) n ys) (hq : TyAt w q t) (ht : t ≠ 5) : q ≠ g := by
  rintro rfl
  obtain ⟨cs, fr, hq⟩ := hq
  rcases h.1.2 with ⟨e, _⟩ | ⟨g', cap', cur, e, _, h2, _⟩
  · exact h.2 e
  · obtain rfl : q = g' := by injection e with e; injection e with e; injection e
    rw [hq] at h2
    injection h2 with h2
    injection h2 with _ h2
    exact ht h2
def PutAns (w : World) (base g n : Nat) (ys : List Int) (e : Ending) (w' : World) : Prop := ∃ v, e = .returned v ∧ OwnB w' base v n ys ∧ w.grownBy w' (some g)
theorem rd_lits (w : World) (ys : List Int) (t : TypeId) : Rd .u8 (w.alloc (.cells (vals ys).toArray t)) (some ⟨w.heap.size, 0, none⟩) ys.length ys :=
  ⟨rfl, fun _ => ⟨w.heap.size, 0, rfl, fun i hi => by simp [vals, List.getD, hi]⟩⟩
theorem gb_trans {a b c : World} {r : Option Nat} (h : a.grownBy b r) (k : b.grownBy c r) : a.grownBy c r :=
  ⟨k.os.trans h.os, k.tape.trans h.tape, k.output.trans h.output, Nat.le_trans h.size k.size, fun i hi hne => (k.block i (Nat.lt_of_lt_of_le hi h.size) hne).trans (h.block i hi hne)⟩
theorem gb_below {a b : World} (r : Option Nat) (h : Below a.heap.size a b) : a.grownBy b r := ⟨h.os, h.tape, h.output, h.size, fun i hi _ => h.block i hi⟩
set_option maxHeartbeats 400000 in
theorem putTwo_any (base g n cap : Nat) (ys : List Int) (v : Nat) (w : World) (h : OwnB w base (.slice (some ⟨g, 0, none⟩) n cap) n ys) (hv : v ≤ 65535) (hn : n ≤ 1000000) (hbase : base ≤ w.heap.size) :
    Calls Try.prog 71 #[.slice (some ⟨g, 0, none⟩) n cap, .int .i64 v] w (PutAns w base g (n + 2) (ys ++ two v)) := by
  have H := Lib.hid h
  clear h
  go_enter Try.func71, Try.ntmps71
  go_wp2_with (at_builtin; refine wpList_append_bytes _ rfl _ _ rfl base (.slice (some ⟨g, 0, none⟩) n cap) n ys rfl (H.out.alloc _) (some ⟨w.heap.size, 0, none⟩) 2 2 [(v : Int) / 256, (v : Int) % 256] rfl (rd_lits w [(v : Int) / 256, (v : Int) % 256] 5) (by omega) (by simp; omega) ?_; intro v' w1 hown hg)
  have HO := Lib.hid hown
  have HG := Lib.hid hg
  clear hown hg
  go_wp2_with fail
  go_ret
  refine ⟨v', rfl, ?_, gb_trans (gb_below _ (blAlloc _ _)) (by simpa [Value.ownBlock] using HG.out)⟩
  have := HO.out
  unfold two
  simpa using this
theorem rd_marks (w : World) (ys : List Int) (t : TypeId) (fr : Nat × Nat) : Rd .u8 (w.alloc (.cells (vals ys).toArray t fr)) (some ⟨w.heap.size, 0, none⟩) ys.length ys :=
  ⟨rfl, fun _ => ⟨w.heap.size, 0, rfl, fun i hi => by rw [Nat.zero_add, World.cell?_alloc_mark]; simp [vals, List.getD, hi]⟩⟩
set_option maxRecDepth 100000 in
set_option maxHeartbeats 1000000 in
theorem putHead_any (A : Option Addr) (n c : Nat) (cl : Int) (ts : List Tg) (bs : List Nat) (w : World) (h : Hd w (tagsD ts) (.slice A n c) bs) (hf : Fine cl ts) :
    Calls Try.prog 46 #[.agg #[.int .i64 cl, .slice A n c]] w fun e w' => ∃ v, e = .returned v ∧ OwnB w' w.heap.size v (6 + 8 * n) (hdB cl ts n) ∧ Below w.heap.size w w' := by
  have kc := Lib.run_convert_bytes_const (P := Try.prog) (w.alloc (.cells #[.int .i64 cl, .slice A n c] 27)) 22 5 #[.int .u8 112, .int .u8 114, .int .u8 111, .int .u8 102] 4 4 Try.underlying22 Try.underlying5
  simp only [World.size_alloc] at kc
  have HL := Lib.hid h.tags.1
  have h8 : n ≤ 8 := by rw [← h.tags.1]; exact hf.len
  have c1 := hf.lo
  have c3 := hf.hi
  have H := Lib.hid h
  have HF := Lib.hid hf
  clear h hf
  have R1 : Hid (Rd .u8 (((w.alloc (.cells #[.int .i64 cl, .slice A n c] 27)).alloc (.cells #[.int .u8 112, .int .u8 114, .int .u8 111, .int .u8 102] 5 (4, 5))).alloc (.cells #[.int .u8 cl, .int .u8 (n : Int)] 5)) (some ⟨w.heap.size + 1, 0, none⟩) 4 [112, 114, 111, 102]) := by
    have := (rd_marks (w.alloc (.cells #[.int .i64 cl, .slice A n c] 27)) [112, 114, 111, 102] 5 (4, 5)).alloc (.cells #[.int .u8 cl, .int .u8 (n : Int)] 5)
    simp only [World.size_alloc] at this
    exact this
  have R2 : Hid (Rd .u8 (((w.alloc (.cells #[.int .i64 cl, .slice A n c] 27)).alloc (.cells #[.int .u8 112, .int .u8 114, .int .u8 111, .int .u8 102] 5 (4, 5))).alloc (.cells #[.int .u8 cl, .int .u8 (n : Int)] 5)) (some ⟨w.heap.size + 1 + 1, 0, none⟩) 2 [cl, (n : Int)]) := by
    have := rd_lits ((w.alloc (.cells #[.int .i64 cl, .slice A n c] 27)).alloc (.cells #[.int .u8 112, .int .u8 114, .int .u8 111, .int .u8 102] 5 (4, 5))) [cl, (n : Int)] 5
    simp only [World.size_alloc] at this
    exact this
  have XB := Lib.hid (((Box2.new w 27 (.int .i64 cl) (.slice A n c)).alloc (.cells #[.int .u8 112, .int .u8 114, .int .u8 111, .int .u8 102] 5 (4, 5))).alloc (.cells #[.int .u8 cl, .int .u8 (n : Int)] 5))
  have HBS : Hid (w.heap.size + 1 ≤ (((w.alloc (.cells #[.int .i64 cl, .slice A n c] 27)).alloc (.cells #[.int .u8 112, .int .u8 114, .int .u8 111, .int .u8 102] 5 (4, 5))).alloc (.cells #[.int .u8 cl, .int .u8 (n : Int)] 5)).heap.size) := by show _ ≤ _; simp only [World.size_alloc]; omega
  go_enter Try.func46, Try.ntmps46
  go_wp2_with (first | (at_builtin; (refine wpList_append_full _ rfl _ _ rfl (w.heap.size + 1) (w.heap.size + 1) 0 4 [112, 114, 111, 102] rfl R1.out (by omega) (w.heap.size + 1 + 1) 0 2 2 [cl, (n : Int)] rfl R2.out (by omega) (by omega) HBS.out ?_; intro v1 w1 hown1 hb1; obtain ⟨g1, cap1, hv1, gl1, gl2, gc1, gc2⟩ := hown1.form; rw [hv1] at hown1 ⊢; have HO1 := Lib.hid hown1; have T1 := Lib.hid (blThen (blThenAlloc (blThenAlloc (blAlloc w (.cells #[.int .i64 cl, .slice A n c] 27)) (.cells #[.int .u8 112, .int .u8 114, .int .u8 111, .int .u8 102] 5 (4, 5))) (.cells #[.int .u8 cl, .int .u8 (n : Int)] 5)) hb1); have x0 := (XB.out.below hb1).1; have x1 := (XB.out.below hb1).2; clear hown1 hb1 hv1 kc)) | (go_at_call 69; refine (tableEndOf_any _ _ (by omega)).mono ?_; rintro e w' ⟨rfl, rfl⟩))
  have T1' := Lib.hid (T1.out)
  have XB1 : Hid (Box2 w1 w.heap.size (.int .i64 cl) (.slice A n c)) := ⟨x0, x1⟩
  clear R1 R2 XB HBS x0 x1
  go_loopw [3, 4, 26] (fun d q i wr => ∃ (k g cap : Nat), k ≤ n ∧ i = .int .i64 k ∧ q = .int .i64 (endAt ts k : Nat) ∧ d = .slice (some ⟨g, 0, none⟩) (6 + 8 * k) cap ∧ OwnB wr (w.heap.size + 1) (.slice (some ⟨g, 0, none⟩) (6 + 8 * k) cap) (6 + 8 * k) (hdB cl ts k) ∧ Below w.heap.size w wr ∧ Box2 wr w.heap.size (.int .i64 cl) (.slice A n c)) (fun _ _ i _ => n - (intOf i).toNat)
  case atStart =>
    refine ⟨0, g1, cap1, by omega, rfl, ?_, rfl, ?_, T1'.out, XB1.out⟩
    · rw [endAt, HL.out]; go_num
    · have := HO1.out
      simpa [hdB, tabAt, HL.out] using this
  case round =>
    obtain ⟨k, g, cap, hk, rfl, rfl, rfl, ho, hb, hx⟩ := hrel
    have HO := Lib.hid ho
    have HB := Lib.hid hb
    have HX := Lib.hid hx
    obtain ⟨g', cap', e', gl, gu, gc, gm⟩ := ho.form
    cases e'
    have hwz := hb.size
    clear ho hb hx T1 T1' XB1 HO1
    by_cases hlt : k < n
    · obtain ⟨b, o, B1, L1, C1, gg, rfl, x1, x2, x3, -⟩ := (H.out.bel HB.out).tag hlt
      have hnm := HF.out.name k (by rw [HL.out]; exact hlt)
      have h4 := nm_size hnm
      have hL2 : L1 ≤ 96 := by rw [← x3.rd.1]; exact HF.out.bhi k (by rw [HL.out]; exact hlt)
      have HR := Lib.hid x3.rd.1
      have he := endAt_le' HF.out (i := k) (by rw [HL.out]; omega)
      have hp : padI (endAt ts k) ≤ 880 := by unfold padI; omega
      have HO' := Lib.hid (HO.out.alloc (.cells #[.string (tg ts k).1, .slice B1 L1 C1] 63))
      have BX := Lib.hid (Box2.new wr 63 (.string (tg ts k).1) (.slice B1 L1 C1))
      have HB' := Lib.hid (blThenAlloc HB.out (.cells #[.string (tg ts k).1, .slice B1 L1 C1] 63))
      have HX' := Lib.hid (HX.out.alloc (.cells #[.string (tg ts k).1, .slice B1 L1 C1] 63))
      have HBS : Hid (w.heap.size + 1 ≤ (wr.alloc (.cells #[.string (tg ts k).1, .slice B1 L1 C1] 63)).heap.size) := by show _ ≤ _; simp only [World.size_alloc]; omega
      clear x3 hnm
      go_wp2_with (first | (go_at_call 47; refine (stepAt_any _ _ (by omega)).mono ?_; rintro e w' ⟨rfl, rfl⟩) | (at_builtin; (refine wpList_append_text _ rfl _ _ rfl (w.heap.size + 1) (.slice (some ⟨g, 0, none⟩) (6 + 8 * k) cap) (6 + 8 * k) (hdB cl ts k) rfl HO'.out (tg ts k).1 rfl (by omega) HBS.out ?_; intro v2 w2 hown2 hg2; obtain ⟨g2, cap2, hv2, gl2, gu2, gc2, gm2⟩ := hown2.form; rw [hv2] at hown2 ⊢; have HO2 := Lib.hid hown2; have HG2 : Hid (World.grownBy _ w2 (some g)) := hg2; clear hown2 hg2 hv2)))
      have HO3 : Hid (OwnB w2 (w.heap.size + 1) (.slice (some ⟨g2, 0, none⟩) (6 + 8 * k + 4) cap2) (6 + 8 * k + 4) (hdB cl ts k ++ nb (tg ts k).1)) := by
        have := HO2.out
        rw [h4] at this
        exact this
      have hz2 := HG2.out.size
      simp only [World.size_alloc] at hz2
      have D2 := Lib.hid (gb_to_below (B := w.heap.size + 1) HG2.out gl (by simp only [World.size_alloc]; omega))
      have HB2 := Lib.hid (HB'.out.trans (D2.out.mono (by omega)))
      have b0 := gb_cell HG2.out (p := ⟨wr.heap.size, 0, none⟩) (by simp) (by simp; omega)
      have b1 := gb_cell HG2.out (p := ⟨wr.heap.size, 1, none⟩) (by simp) (by simp; omega)
      rw [BX.out.1] at b0
      rw [BX.out.2] at b1
      have ty2 := (TyAt.new wr #[.string (tg ts k).1, .slice B1 L1 C1] 63).gb HG2.out (by omega)
      have hne2 := HO3.out.ne ty2 (by decide)
      have HX2 : Hid (Box2 w2 w.heap.size (.int .i64 cl) (.slice (some ⟨b, o, none⟩) n c)) := ⟨by rw [D2.out.cell (p := ⟨w.heap.size, 0, none⟩) (by simp)]; exact HX'.out.1, by rw [D2.out.cell (p := ⟨w.heap.size, 1, none⟩) (by simp)]; exact HX'.out.2⟩
      clear HO2 HG2 HO' BX HB' HX' x1 x2
      refine (putTwo_any (w.heap.size + 1) g2 _ cap2 _ _ _ HO3.out (by omega) (by omega) (by omega)).mono ?_
      rintro e w3 ⟨v3, rfl, hown3, hg3⟩
      obtain ⟨g3, cap3, hv3, gl3, gu3, gc3, gm3⟩ := hown3.form
      subst hv3
      have HO4 := Lib.hid hown3
      have hz3 := hg3.size
      have d0 := gb_cell hg3 (p := ⟨wr.heap.size, 0, none⟩) ty2.lt (by simpa using hne2)
      have d1 := gb_cell hg3 (p := ⟨wr.heap.size, 1, none⟩) ty2.lt (by simpa using hne2)
      rw [b0] at d0
      rw [b1] at d1
      have D3 := Lib.hid (gb_to_below (B := w.heap.size + 1) hg3 gl2 (by omega))
      have HB3 := Lib.hid (HB2.out.trans (D3.out.mono (by omega)))
      have HX3 : Hid (Box2 w3 w.heap.size (.int .i64 cl) (.slice (some ⟨b, o, none⟩) n c)) := ⟨by rw [D3.out.cell (p := ⟨w.heap.size, 0, none⟩) (by simp)]; exact HX2.out.1, by rw [D3.out.cell (p := ⟨w.heap.size, 1, none⟩) (by simp)]; exact HX2.out.2⟩
      have ty3 := ty2.gb hg3 hne2
      have hne3 := hown3.ne ty3 (by decide)
      clear hown3 hg3 b0 b1 ty2 hne2 HO3 HB2 HX2 D2 D3
      go_wp2_with fail
      refine (putTwo_any (w.heap.size + 1) g3 _ cap3 _ _ _ HO4.out (by omega) (by omega) (by omega)).mono ?_
      rintro e w4 ⟨v4, rfl, hown4, hg4⟩
      obtain ⟨g4, cap4, hv4, gl4, gu4, gc4, gm4⟩ := hown4.form
      subst hv4
      have HO5 := Lib.hid hown4
      have hz4 := hg4.size
      have e0 := gb_cell hg4 (p := ⟨wr.heap.size, 0, none⟩) ty3.lt (by simpa using hne3)
      have e1 := gb_cell hg4 (p := ⟨wr.heap.size, 1, none⟩) ty3.lt (by simpa using hne3)
      rw [d0] at e0
      rw [d1] at e1
      have D4 := Lib.hid (gb_to_below (B := w.heap.size + 1) hg4 gl3 (by omega))
      have HB4 := Lib.hid (HB3.out.trans (D4.out.mono (by omega)))
      have HX4 : Hid (Box2 w4 w.heap.size (.int .i64 cl) (.slice (some ⟨b, o, none⟩) n c)) := ⟨by rw [D4.out.cell (p := ⟨w.heap.size, 0, none⟩) (by simp)]; exact HX3.out.1, by rw [D4.out.cell (p := ⟨w.heap.size, 1, none⟩) (by simp)]; exact HX3.out.2⟩
      clear hown4 hg4 d0 d1 ty3 hne3 HO4 HB3 HX3 D4
      go_wp2_with fail
      go_roundw
      case rel =>
        refine ⟨k + 1, g4, cap4, by omega, by go_num, ?_, ?_, ?_, HB4.out, HX4.out⟩
        · rw [endAt, HR.out]; go_num
        · rw [show 6 + 8 * k + 4 + 2 + 2 = 6 + 8 * (k + 1) by omega]
        · have := HO5.out
          rw [show 6 + 8 * k + 4 + 2 + 2 = 6 + 8 * (k + 1) by omega] at this
          have e : hdB cl ts (k + 1) = hdB cl ts k ++ nb (tg ts k).1 ++ two (padI (endAt ts k)) ++ two L1 := by simp [hdB, tabAt, HR.out]
          rw [e]; exact this
      case measure => simp [intOf]; omega
    · obtain rfl : k = n := by omega
      go_wp2_with fail
      go_ret
      exact ⟨_, rfl, ⟨⟨HO.out.1.1, HO.out.1.2.imp id (fun ⟨a, b, c, d, e, f⟩ => ⟨a, b, c, d, by omega, f⟩)⟩, HO.out.2⟩, HB.out⟩
end Go.Proofs.Ytbbghebpmobfnaa
