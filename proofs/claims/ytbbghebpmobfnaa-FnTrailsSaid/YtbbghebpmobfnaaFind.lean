/-
  A tag that is looked for: impl.FindTag and the reference model's.
-/
import Derived.Test.YtbbghebpmobfnaaTags3
import Derived.Test.YtbbghebpmobfnaaTagsS
import Derived.Test.YtbbghebpmobfnaaBuf
namespace Go.Proofs.Ytbbghebpmobfnaa
open Go.RowKit Go.Maps
set_option linter.unusedVariables false

/-- a code and bytes in new memory. -/
def BytesAns (w : World) (c : Int) (xs : List Int) (e : Ending) (w' : World) : Prop :=
  ∃ A n cp, e = .returned (.agg #[.int .i64 c, .slice A n cp]) ∧ Own w' (.ints .u8 xs) (.slice A n cp) w.heap.size w'.heap.size ∧ Below w.heap.size w w'
theorem BytesAns.nothing {w w' : World} {c : Int} (hb : Below w.heap.size w w') : BytesAns w c [] (.returned (.agg #[.int .i64 c, .slice none 0 0])) w' :=
  ⟨Option.none, 0, 0, rfl, Own.nil _ _ _ _ _ _ (Nat.zero_le _), hb⟩

theorem BytesAns.done {w w3 : World} {g n cp lo : Nat} {c : Int} {B : Option Addr} {xs : List Int} {x y : Value} (hO : Own w3 (.ints .u8 xs) (.slice B n cp) lo w3.heap.size) (hg : w.heap.size ≤ g) (hlo : g < lo) (hb : Below w.heap.size w w3) :
    BytesAns w c xs (.returned (.agg #[.int .i64 c, .slice B n cp])) ((w3.setCell ⟨g, 0, Option.none⟩ x).setCell ⟨g, 1, Option.none⟩ y) :=
  ⟨B, n, cp, rfl, ((hO.set (.inl hlo) _ _).set (.inl hlo) _ _).mono (by omega) (by simp [World.setCell]), (hb.setCell hg _).setCell hg _⟩
theorem BytesAns.nothing' {w w3 : World} {g : Nat} {c : Int} {x y : Value} (hg : w.heap.size ≤ g) (hb : Below w.heap.size w w3) :
    BytesAns w c [] (.returned (.agg #[.int .i64 c, .slice Option.none 0 0])) ((w3.setCell ⟨g, 0, Option.none⟩ x).setCell ⟨g, 1, Option.none⟩ y) :=
  .nothing ((hb.setCell hg _).setCell hg _)
theorem pfl_all {ts : List Tg} {n : Nat} (h : pfl ts n = 0) : ∀ j, j < n → flt ts j = 0 := by
  induction n with
  | zero => intro j hj; omega
  | succ n ih =>
    intro j hj
    simp only [pfl] at h
    by_cases e : pfl ts n = 0
    · rw [if_pos e] at h
      by_cases ej : j = n
      · subst ej; exact h
      · exact ih e j (by omega)
    · rw [if_neg e] at h; exact absurd h e
theorem flt_name {ts : List Tg} {j : Nat} (h : flt ts j = 0) : nm (tg ts j).1 = true ∧ inB ((tg ts j).2.length : Int) 1 96 = true ∧ dupB ts j = false := by
  unfold flt at h
  by_cases h1 : nm (tg ts j).1 = false
  · rw [if_pos h1] at h; omega
  · rw [if_neg h1] at h
    by_cases h2 : inB ((tg ts j).2.length : Int) 1 96 = false
    · rw [if_pos h2] at h; omega
    · rw [if_neg h2] at h
      by_cases h3 : dupB ts j = true
      · rw [if_pos h3] at h; omega
      · exact ⟨by simpa using h1, by simpa using h2, by simpa using h3⟩
theorem pf_zero {cl : Int} {ts : List Tg} (h : pf cl ts = 0) : inB cl 1 3 = true ∧ ts.length ≤ 8 ∧ pfl ts ts.length = 0 := by
  unfold pf at h
  by_cases h1 : inB cl 1 3 = false
  · rw [if_pos h1] at h; omega
  · rw [if_neg h1] at h
    by_cases h2 : 8 < ts.length
    · rw [if_pos h2] at h; omega
    · rw [if_neg h2] at h
      exact ⟨by simpa using h1, by omega, h⟩
theorem pf_names {cl : Int} {ts : List Tg} (h : pf cl ts = 0) {j : Nat} (hj : j < ts.length) : nm (tg ts j).1 = true ∧ inB ((tg ts j).2.length : Int) 1 96 = true ∧ dupB ts j = false :=
  flt_name (pfl_all (pf_zero h).2.2 j hj)
theorem fst_some {ts : List Tg} {s : ByteArray} {n : Nat} (h : 0 ≤ fst ts s n) : ∃ j, j < n ∧ fst ts s n = j ∧ (tg ts j).1 = s := by
  induction n with
  | zero => simp [fst] at h
  | succ n ih =>
    simp only [fst] at h ⊢
    by_cases e : 0 ≤ fst ts s n
    · rw [if_pos e]
      obtain ⟨j, a, b, c⟩ := ih e
      exact ⟨j, by omega, b, c⟩
    · rw [if_neg e] at h ⊢
      by_cases e2 : (tg ts n).1 = s
      · rw [if_pos e2]; exact ⟨n, by omega, rfl, e2⟩
      · rw [if_neg e2] at h; omega
def ftC (cl : Int) (ts : List Tg) (s : ByteArray) : Int := if pf cl ts = 0 then (if 0 ≤ fst ts s ts.length then 0 else 4) else pf cl ts
def ftB (cl : Int) (ts : List Tg) (s : ByteArray) : List Int := if pf cl ts = 0 then (if 0 ≤ fst ts s ts.length then (tg ts (fst ts s ts.length).toNat).2 else []) else []

theorem lit_inj {a b : Int} (h : (DataW.lit (H := Unit) (Lit.int .i64 a)) = .lit (.int .i64 b)) : a = b := by injection h with h; injection h
set_option maxRecDepth 100000 in
set_option maxHeartbeats 1000000 in
theorem FindTag_any (A : Option Addr) (n c : Nat) (cl : Int) (ts : List Tg) (s : ByteArray) (bs : List Nat) (w : World) (h : Hd w (tagsD ts) (.slice A n c) bs) (hs : TsOk ts) (hsz : s.size ≤ maxLen) :
    Calls Try.prog 18 #[.agg #[.int .i64 cl, .slice A n c], .string s] w (BytesAns w (ftC cl ts s) (ftB cl ts s)) := by
  have HL := Lib.hid h.tags.1
  have H := Lib.hid h
  have HS := Lib.hid hs
  clear h hs
  go_enter Try.func18, Try.ntmps18
  go_wp2_with fail
  refine (placesOf_any A n c cl ts bs _ ((H.out.alloc _).alloc _) HS.out).mono ?_
  rintro e w1 ⟨⟨B, D, hp, rfl, hm⟩ | ⟨hp, rfl⟩, hb1⟩
  · have X1 := Lib.hid (((Box2.new w 27 (.int .i64 cl) (.slice A n c)).alloc (.cells #[.int .i64 0, .slice none 0 0] 33)).below hb1)
    have H1 := Lib.hid (((H.out.alloc (.cells #[.int .i64 cl, .slice A n c] 27)).alloc (.cells #[.int .i64 0, .slice none 0 0] 33)).bel hb1)
    have T1 := Lib.hid (blThen (blThenAlloc (blAlloc w (.cells #[.int .i64 cl, .slice A n c] 27)) (.cells #[.int .i64 0, .slice none 0 0] 33)) hb1)
    have R1 : Hid (Box2 w1 (w.heap.size + 1) (.int .i64 0) (.slice none 0 0)) := Box2.below (w := (w.alloc (.cells #[.int .i64 cl, .slice A n c] 27)).alloc (.cells #[.int .i64 0, .slice none 0 0] 33)) ⟨by simp, by simp⟩ hb1
    have F1 : w1.frozen? ⟨w.heap.size + 1, 0, none⟩ = false ∧ w1.frozen? ⟨w.heap.size + 1, 1, none⟩ = false := ⟨by rw [hb1.frozen (p := ⟨w.heap.size + 1, 0, none⟩) (by simp)]; simp, by rw [hb1.frozen (p := ⟨w.heap.size + 1, 1, none⟩) (by simp)]; simp⟩
    have hz1 : w.heap.size + 1 < w1.heap.size := by have := hb1.size; simp at this; omega
    have HM := Lib.hid hm
    have HP := Lib.hid hp
    clear hb1 hm hp
    obtain ⟨f0, f1⟩ := F1
    obtain ⟨r0, r1⟩ := R1.out
    go_wp2_with fail
    rcases Bool.eq_false_or_eq_true (nm s) with hn | hn
    · refine (nameOf_yes _ _ hsz hn).mono ?_
      rintro e w2 ⟨rfl, hb2⟩
      have X2 := X1.out.below hb2
      have R2 := R1.out.below hb2
      have g0 : w2.frozen? ⟨w.heap.size + 1, 0, none⟩ = false := by rw [hb2.frozen (p := ⟨w.heap.size + 1, 0, none⟩) (by omega)]; exact f0
      have g1 : w2.frozen? ⟨w.heap.size + 1, 1, none⟩ = false := by rw [hb2.frozen (p := ⟨w.heap.size + 1, 1, none⟩) (by omega)]; exact f1
      have H2 := Lib.hid (H1.out.bel hb2)
      have T2' := Lib.hid (blThen T1.out hb2)
      have T2 := Lib.hid (blThenAlloc (blThen T1.out hb2) (.cells #[.int .u8 (bt s 0), .int .u8 (bt s 1), .int .u8 (bt s 2), .int .u8 (bt s 3)] 70))
      have HM2 := Lib.hid (HM.out.below hb2)
      have hz2 : w.heap.size + 1 < w2.heap.size := by have := hb2.size; omega
      have hz2' : w.heap.size < w2.heap.size := by omega
      clear hb2 f0 f1 r0 r1 X1 R1 H1 T1 HM
      obtain ⟨x0, x1⟩ := X2
      obtain ⟨r0, r1⟩ := R2
      have HKEY := Lib.hid (ky_of s)
      have hhas := HM2.out.has s hn
      rw [← fst_any, HL.out] at hhas
      by_cases hf : 0 ≤ fst ts s n
      · rw [decide_eq_true hf] at hhas
        obtain ⟨j, hj, hfj, hnj⟩ := fst_some hf
        have hat0 := HM2.out.at_ j (by rw [HL.out]; exact hj) (.lit (.int .i64 0))
        rw [hnj] at hat0
        have HAT := Lib.hid hat0
        obtain ⟨b, o, B1, L1, C1, g1', rfl, -, z2, z3, -⟩ := H2.out.tag hj
        have HR := Lib.hid z3.rd
        have e1 : ftC cl ts s = 0 := by unfold ftC; rw [if_pos HP.out, HL.out, if_pos hf]
        have e2 : ftB cl ts s = (tg ts j).2 := by unfold ftB; rw [if_pos HP.out, HL.out, if_pos hf, hfj]; rfl
        have E1 := Lib.hid e1
        have E2 := Lib.hid e2
        have hz2b := cell_lt z2
        have hL : L1 ≤ 1000 := by have := (pf_names HP.out (j := j) (by rw [HL.out]; exact hj)).2.1; have := (inB_iff.1 this).2; rw [z3.rd.1] at this; omega
        clear hf hfj hnj hat0 z3 e1 e2
        go_wp2_with (at_lookup; refine wpList_lookup_own_ok_int _ rfl _ _ 66 rfl 70 3 .i64 keyed Try.underlying66 Try.underlying3 (zeroInt _) B _ D rfl (HM2.out.own.alloc _) _ _ rfl HKEY.out ?_; intro c' hat hwc; rw [hhas]; have hcj : c' = (j : Int) := lit_inj (hat.symm.trans HAT.out); subst hcj; clear hat hwc)
        refine (copyBytes_any _ _ _ _ _ (HR.out.alloc _) (by omega)).mono ?_
        rintro e w3 ⟨B3, rfl, ho3, hb3⟩
        have y0 : w3.cell? ⟨w.heap.size + 1, 0, none⟩ = some (.int .i64 0) := by rw [hb3.cell (p := ⟨w.heap.size + 1, 0, none⟩) (by simp; omega), World.cell?_alloc_lt _ _ _ (by simp; omega)]; exact r0
        have y1 : w3.cell? ⟨w.heap.size + 1, 1, none⟩ = some (.slice none 0 0) := by rw [hb3.cell (p := ⟨w.heap.size + 1, 1, none⟩) (by simp; omega), World.cell?_alloc_lt _ _ _ (by simp; omega)]; exact r1
        have k0 : w3.frozen? ⟨w.heap.size + 1, 0, none⟩ = false := by rw [hb3.frozen (p := ⟨w.heap.size + 1, 0, none⟩) (by simp; omega), World.frozen?_alloc_old _ _ _ (by simp; omega)]; exact g0
        have k1 : w3.frozen? ⟨w.heap.size + 1, 1, none⟩ = false := by rw [hb3.frozen (p := ⟨w.heap.size + 1, 1, none⟩) (by simp; omega), World.frozen?_alloc_old _ _ _ (by simp; omega)]; exact g1
        have T3 := Lib.hid (blThen T2.out hb3)
        have O3 := Lib.hid ho3
        have hz3 := hb3.size
        clear ho3 hb3 r0 r1 g0 g1 x0 x1 z2
        go_wp2_with fail
        refine bodyPost_ret (v := .agg #[.int .i64 0, .slice B3 L1 L1]) (by simp [results, Try.results18, go_sem, y0, y1]) rfl ?_
        rw [E1.out, E2.out]
        exact BytesAns.done (lo := w2.heap.size + 1) (O3.out.mono (by simp) (Nat.le_refl _)) (by omega) (by omega) T3.out
      · rw [decide_eq_false hf] at hhas
        have e1 : ftC cl ts s = 4 := by unfold ftC; rw [if_pos HP.out, HL.out, if_neg hf]
        have e2 : ftB cl ts s = [] := by unfold ftB; rw [if_pos HP.out, HL.out, if_neg hf]
        have E1 := Lib.hid e1
        have E2 := Lib.hid e2
        clear hf e1 e2
        go_wp2_with (at_lookup; refine wpList_lookup_own_ok_int _ rfl _ _ 66 rfl 70 3 .i64 keyed Try.underlying66 Try.underlying3 (zeroInt _) B _ D rfl (HM2.out.own.alloc _) _ _ rfl HKEY.out ?_; intro c' hat hwc; rw [hhas]; clear hat hwc)
        refine bodyPost_ret (v := .agg #[.int .i64 4, .slice none 0 0]) (by simp [results, Try.results18, go_sem, r0, r1, hz2]) rfl ?_
        rw [E1.out, E2.out]
        exact BytesAns.nothing (((T2'.out.setCell (p := ⟨w.heap.size + 1, 0, none⟩) (by simp) _).setCell (p := ⟨w.heap.size + 1, 1, none⟩) (by simp) _).alloc (by simp [World.setCell]; omega) _)
    · refine (nameOf_no _ _ hsz hn).mono ?_
      rintro e w2 ⟨rfl, hb2⟩
      have R2 := R1.out.below hb2
      have g0 : w2.frozen? ⟨w.heap.size + 1, 0, none⟩ = false := by rw [hb2.frozen (p := ⟨w.heap.size + 1, 0, none⟩) (by omega)]; exact f0
      have g1 : w2.frozen? ⟨w.heap.size + 1, 1, none⟩ = false := by rw [hb2.frozen (p := ⟨w.heap.size + 1, 1, none⟩) (by omega)]; exact f1
      have T2' := Lib.hid (blThen T1.out hb2)
      have T2 := Lib.hid (blThenAlloc (blThen T1.out hb2) (.cells #[.int .u8 0, .int .u8 0, .int .u8 0, .int .u8 0] 70))
      have hz2 : w.heap.size + 1 < w2.heap.size := by have := hb2.size; omega
      clear hb2 f0 f1 r0 r1 X1 R1 H1 T1 HM
      obtain ⟨r0, r1⟩ := R2
      have hf : ¬ 0 ≤ fst ts s n := fun hf => by
        obtain ⟨j, hj, _, hnj⟩ := fst_some hf
        have := (pf_names HP.out (j := j) (by rw [HL.out]; exact hj)).1
        rw [hnj, hn] at this; cases this
      have e1 : ftC cl ts s = 4 := by unfold ftC; rw [if_pos HP.out, HL.out, if_neg hf]
      have e2 : ftB cl ts s = [] := by unfold ftB; rw [if_pos HP.out, HL.out, if_neg hf]
      have E1 := Lib.hid e1
      have E2 := Lib.hid e2
      clear hf e1 e2
      go_wp2_with fail
      refine bodyPost_ret (v := .agg #[.int .i64 4, .slice none 0 0]) (by simp [results, Try.results18, go_sem, r0, r1, hz2]) rfl ?_
      rw [E1.out, E2.out]
      exact BytesAns.nothing (((T2'.out.setCell (p := ⟨w.heap.size + 1, 0, none⟩) (by simp) _).setCell (p := ⟨w.heap.size + 1, 1, none⟩) (by simp) _).alloc (by simp [World.setCell]; omega) _)
  · have T1 := Lib.hid (blThen (blThenAlloc (blAlloc w (.cells #[.int .i64 cl, .slice A n c] 27)) (.cells #[.int .i64 0, .slice none 0 0] 33)) hb1)
    have R1 : Box2 w1 (w.heap.size + 1) (.int .i64 0) (.slice none 0 0) := Box2.below (w := (w.alloc (.cells #[.int .i64 cl, .slice A n c] 27)).alloc (.cells #[.int .i64 0, .slice none 0 0] 33)) ⟨by simp, by simp⟩ hb1
    have f0 : w1.frozen? ⟨w.heap.size + 1, 0, none⟩ = false := by rw [hb1.frozen (p := ⟨w.heap.size + 1, 0, none⟩) (by simp)]; simp
    have f1 : w1.frozen? ⟨w.heap.size + 1, 1, none⟩ = false := by rw [hb1.frozen (p := ⟨w.heap.size + 1, 1, none⟩) (by simp)]; simp
    have e1 : ftC cl ts s = pf cl ts := by unfold ftC; rw [if_neg hp]
    have e2 : ftB cl ts s = [] := by unfold ftB; rw [if_neg hp]
    have hp' : (pf cl ts != 0) = true := by simpa using hp
    have E1 := Lib.hid e1
    have E2 := Lib.hid e2
    clear hb1 hp e1 e2
    obtain ⟨r0, r1⟩ := R1
    go_wp2_with fail
    refine bodyPost_ret (v := .agg #[.int .i64 (pf cl ts), .slice none 0 0]) (by simp [results, Try.results18, go_sem, r0, r1]) rfl ?_
    rw [E1.out, E2.out]
    exact BytesAns.nothing' (g := w.heap.size + 1) (by omega) T1.out

set_option maxRecDepth 100000 in
set_option maxHeartbeats 1000000 in
theorem sFindTag_any (A : Option Addr) (n c : Nat) (cl : Int) (ts : List Tg) (s : ByteArray) (bs : List Nat) (w : World) (h : Hd w (tagsD ts) (.slice A n c) bs) (hs : TsOk ts) :
    Calls Try.prog 22 #[.agg #[.int .i64 cl, .slice A n c], .string s] w (BytesAns w (ftC cl ts s) (ftB cl ts s)) := by
  have HL := Lib.hid h.tags.1
  have H := Lib.hid h
  have HS := Lib.hid hs
  clear h hs
  go_enter Try.func22, Try.ntmps22
  go_wp2_with fail
  refine (sFault_any _ A n c cl ts bs _ ((Box2.new w 27 (.int .i64 cl) (.slice A n c)).alloc _) ((H.out.alloc _).alloc _) HS.out).mono ?_
  rintro e w1 ⟨rfl, m, rfl⟩
  have T1 := Lib.hid (blThenDrew (blThenAlloc (blAlloc w (.cells #[.int .i64 cl, .slice A n c] 27)) (.cells #[.int .i64 0, .slice none 0 0] 33)) m)
  have H1 := Lib.hid (((H.out.alloc (.cells #[.int .i64 cl, .slice A n c] 27)).alloc (.cells #[.int .i64 0, .slice none 0 0] 33)).drewN m)
  by_cases hp : pf cl ts = 0
  · have hl8 := (pf_zero hp).2.1
    rw [HL.out] at hl8
    have HP := Lib.hid hp
    have hp' : (pf cl ts != 0) = false := by simpa using hp
    clear hp
    go_wp2_with fail
    refine (sAt_any A n c ts s _ H1.out.nmRd (by omega)).mono ?_
    rintro e w2 ⟨rfl, rfl⟩
    by_cases hf : 0 ≤ fst ts s n
    · obtain ⟨j, hj, hfj, hnj⟩ := fst_some hf
      obtain ⟨b, o, B1, L1, C1, g1', rfl, -, z2, z3, -⟩ := H.out.tag hj
      have HR := Lib.hid z3.rd
      have e1 : ftC cl ts s = 0 := by unfold ftC; rw [if_pos HP.out, HL.out, if_pos hf]
      have e2 : ftB cl ts s = (tg ts j).2 := by unfold ftB; rw [if_pos HP.out, HL.out, if_pos hf, hfj]; rfl
      have E1 := Lib.hid e1
      have E2 := Lib.hid e2
      have hz2b := cell_lt z2
      have hL : L1 ≤ 1000 := by have := (pf_names HP.out (j := j) (by rw [HL.out]; exact hj)).2.1; have := (inB_iff.1 this).2; rw [z3.rd.1] at this; omega
      rw [hfj]
      clear hf hfj hnj z3 e1 e2
      go_wp2_with fail
      refine (sCopy_any _ _ _ _ _ (((HR.out.alloc _).alloc _).drewN m) (by omega)).mono ?_
      rintro e w3 ⟨B3, cp, rfl, ho3, hb3⟩
      have hz3 := hb3.size
      simp at hz3
      have y0 : w3.cell? ⟨w.heap.size + 1, 0, none⟩ = some (.int .i64 0) := by rw [hb3.cell (p := ⟨w.heap.size + 1, 0, none⟩) (by simp)]; simp
      have y1 : w3.cell? ⟨w.heap.size + 1, 1, none⟩ = some (.slice none 0 0) := by rw [hb3.cell (p := ⟨w.heap.size + 1, 1, none⟩) (by simp)]; simp
      have k0 : w3.frozen? ⟨w.heap.size + 1, 0, none⟩ = false := by rw [hb3.frozen (p := ⟨w.heap.size + 1, 0, none⟩) (by simp)]; simp
      have k1 : w3.frozen? ⟨w.heap.size + 1, 1, none⟩ = false := by rw [hb3.frozen (p := ⟨w.heap.size + 1, 1, none⟩) (by simp)]; simp
      have T3 := Lib.hid (blThen T1.out hb3)
      have O3 := Lib.hid (ho3.mono (lo' := w.heap.size + 2) (by simp) (Nat.le_refl _))
      clear ho3 hb3 z2
      go_wp2_with fail
      refine bodyPost_ret (v := .agg #[.int .i64 0, .slice B3 L1 cp]) (by simp [results, Try.results22, go_sem, y0, y1]) rfl ?_
      rw [E1.out, E2.out]
      exact BytesAns.done O3.out (by omega) (by omega) T3.out
    · have e1 : ftC cl ts s = 4 := by unfold ftC; rw [if_pos HP.out, HL.out, if_neg hf]
      have e2 : ftB cl ts s = [] := by unfold ftB; rw [if_pos HP.out, HL.out, if_neg hf]
      have E1 := Lib.hid e1
      have E2 := Lib.hid e2
      have hlt : fst ts s n < 0 := by omega
      clear hf e1 e2
      go_wp2_with fail
      refine bodyPost_ret (v := .agg #[.int .i64 4, .slice none 0 0]) (by simp [results, Try.results22, go_sem]) rfl ?_
      rw [E1.out, E2.out]
      exact BytesAns.nothing' (g := w.heap.size + 1) (by omega) T1.out
  · have e1 : ftC cl ts s = pf cl ts := by unfold ftC; rw [if_neg hp]
    have e2 : ftB cl ts s = [] := by unfold ftB; rw [if_neg hp]
    have hp' : (pf cl ts != 0) = true := by simpa using hp
    have E1 := Lib.hid e1
    have E2 := Lib.hid e2
    clear hp e1 e2
    go_wp2_with fail
    refine bodyPost_ret (v := .agg #[.int .i64 (pf cl ts), .slice none 0 0]) (by simp [results, Try.results22, go_sem]) rfl ?_
    rw [E1.out, E2.out]
    exact BytesAns.nothing' (g := w.heap.size + 1) (by omega) T1.out
end Go.Proofs.Ytbbghebpmobfnaa
