/-
  The draws of bytes: l2Data, DrawParseProfile.
-/
import Derived.Test.YtbbghebpmobfnaaDrawQ
namespace Go.Proofs.Ytbbghebpmobfnaa
open Go.RowKit
set_option linter.unusedVariables false

theorem B8.set {ys : List Int} (h : B8 ys) (i : Nat) {y : Int} (h0 : 0 ≤ y) (h1 : y ≤ 255) : B8 (ys.set i y) := fun x hx => by
  rcases List.mem_or_eq_of_mem_set hx with hx | rfl
  · exact h x hx
  · exact ⟨h0, h1⟩
theorem Rd.put {w : World} {b o n : Nat} {ys : List Int} (h : Rd .u8 w (some ⟨b, o, none⟩) n ys) (i : Nat) (hi : i < n) (y : Int) : Rd .u8 (w.setCell ⟨b, o + i, none⟩ (.int .u8 y)) (some ⟨b, o, none⟩) n (ys.set i y) := by
  refine ⟨by simp [h.1], fun hn => ⟨b, o, rfl, fun k hk => ?_⟩⟩
  obtain ⟨b', o', e, hc⟩ := h.2 hn
  injection e with e
  injection e with e1 e2
  subst e1 e2
  by_cases e : k = i
  · subst e
    rw [World.cell?_setCell_same _ _ _ (hc k hk)]
    simp [List.getD, h.1, hk]
  · rw [World.cell?_setCell_other _ _ _ _ (by simp; try omega), hc k hk]
    have : i ≠ k := fun e' => e e'.symm
    simp [List.getD, List.getElem?_set_ne this]
/-- bytes that are drawn. -/
def DataD (w : World) (g : Nat) (e : Ending) (w' : World) : Prop :=
  ∃ B m cp ys, e = .returned (.slice B m cp) ∧ U8s ys ∧ m ≤ 2000 ∧ Rd .u8 w' B m ys ∧ m ≤ cp ∧ cp ≤ maxLen ∧ w.grownBy w' (some g)
def Byt (y : Int) : Prop := 0 ≤ y ∧ y ≤ 255
set_option maxRecDepth 100000 in
set_option maxHeartbeats 4000000 in
theorem data_any (g : Nat) (A : Option Addr) (n c : Nat) (xs : List Int) (q : Int) (w : World) (h : Src w g A n c xs q) (hq : q ≤ 1000000) :
    Calls Try.prog 42 #[.pointer (some ⟨g, 0, none⟩)] w (DataD w g) := by
  have HS := Lib.hid h
  have hgl := h.lt
  clear h
  go_enter Try.func42, Try.ntmps42
  go_wp2_with fail
  refine (draw_any g A n c xs q _ HS.out (by omega)).mono ?_
  rintro e w1 ⟨cl, B, m, cp, ts, rfl, hc1, hc2, hl3, hdt, ho1, ⟨q1, hq1, hs1⟩, hg1⟩
  obtain ⟨bs1, hd1⟩ := ho1.hd
  have hml := hd1.tags.1
  have HD1 := Lib.hid (hd1.alloc (.cells #[.int .i64 cl, .slice B m cp] 27))
  have HF := Lib.hid (hdt.fine hc1 hc2 (by omega))
  have HB8 := Lib.hid (B8.body (hdt.fine hc1 hc2 (by omega)) hdt.2 m).u8
  have HS1 := Lib.hid hs1
  have HG1 := Lib.hid hg1
  have hz1 := hg1.size
  clear ho1 hd1 hs1 hg1 hdt
  go_wp2_with fail
  refine (sEncode_any w1.heap.size B m cp cl ts bs1 _ (Box2.new _ _ _ _) HD1.out HF.out).mono ?_
  rintro e w2 ⟨v2, rfl, hown2, hb2⟩
  obtain ⟨g2, cap2, rfl, gl2, gu2, gc2, gm2⟩ := hown2.form
  rw [World.size_alloc] at gl2 hown2
  have hz2 : w1.heap.size < w2.heap.size := by have := hb2.size; simp at this; omega
  have HO2 := Lib.hid hown2
  have HS2 := Lib.hid ((HS1.out.gbNew (.cells #[.int .i64 cl, .slice B m cp] 27)).below hb2)
  have HG2 := Lib.hid (gb_trans HG1.out (gb_trans (gb_below _ (blAlloc _ _)) (gb_below _ hb2)))
  have hend : endAt ts m ≤ 870 := endAt_le' HF.out (by omega)
  have hend0 : 6 ≤ endAt ts m := by have := endAt_ge ts m; omega
  clear hown2 hb2 HS1 HG1 HD1
  generalize bodyAt cl ts m = ys at *
  generalize endAt ts m = N at *
  go_wp2_with fail
  refine (next_any g A n c xs q1 7 _ HS2.out (by omega) (by omega)).mono ?_
  rintro e w3 ⟨r, ⟨hr0, hr1⟩, rfl, hs3, hg3⟩
  have hr2 := hr1 (by omega)
  have HO3 := Lib.hid (HO2.out.gb hg3 (by omega))
  have HG3 := Lib.hid (gb_trans HG2.out hg3)
  have HS3 := Lib.hid hs3
  have hz3 := hg3.size
  clear hs3 hg3 HO2 HG2 HS2 hr1
  by_cases r0 : r = 0
  · subst r0
    go_wp2_with fail
    refine (next_any g A n c xs _ N _ HS3.out (by omega) (by omega)).mono ?_
    rintro e w4 ⟨r4, ⟨ha0, ha1⟩, rfl, hs4, hg4⟩
    have ha2 := ha1 (by omega)
    obtain ⟨i, rfl⟩ : ∃ i : Nat, r4 = i := ⟨r4.toNat, by omega⟩
    have HO4 := Lib.hid (HO3.out.gb hg4 (by omega))
    have HG4 := Lib.hid (gb_trans HG3.out hg4)
    have HS4 := Lib.hid hs4
    have hz4 := hg4.size
    clear hs4 hg4 ha1
    go_wp2_with fail
    refine (pick_any g A n c xs _ _ 5 5 [0, 1, 4, 32, 255] Byt _ (HS4.out.gbNew _) (by omega) (rd_lit w4 [0, 1, 4, 32, 255] _) (by omega) (by omega) ?_ ?_).mono ?_
    · intro a e; injection e with e; subst e; show w4.heap.size ≠ g; omega
    · intro y hy; simp at hy; unfold Byt; omega
    rintro e w5 ⟨y, q5, hP, rfl, hq5, hs5, hg5⟩
    obtain ⟨hy0, hy1⟩ := hP
    have HO5 := Lib.hid ((HO4.out.alloc (.cells #[.int .i64 0, .int .i64 1, .int .i64 4, .int .i64 32, .int .i64 255] 2)).gb hg5 (by omega))
    have HG5 := Lib.hid (gb_trans HG4.out (gb_trans (gb_below _ (blAlloc _ _)) hg5))
    obtain ⟨_, _, e5, hc5⟩ := HO5.out.rd.2 (by omega)
    injection e5 with e5
    injection e5 with e51 e52
    subst e51 e52
    have d5 := hc5 i (by omega)
    rw [Nat.zero_add] at d5
    have t5 := HO5.out.thaw i
    clear hs5 hg5 hc5
    go_wp2_with fail
    go_ret
    refine ⟨_, _, _, ys.set i y, rfl, (HB8.out.b8.set i hy0 hy1).u8, by omega, ?_, gc2, gm2, gb_low HG5.out ((Below.refl _ _).setCell (p := ⟨g2, i, none⟩) (by show w.heap.size ≤ g2; omega) _)⟩
    have := HO5.out.rd.put i (by omega) y
    rw [Nat.zero_add] at this
    exact this
  by_cases r1 : r = 1
  · subst r1
    go_wp2_with fail
    refine (next_any g A n c xs _ N _ HS3.out (by omega) (by omega)).mono ?_
    rintro e w4 ⟨r4, ⟨ha0, ha1⟩, rfl, hs4, hg4⟩
    have ha2 := ha1 (by omega)
    obtain ⟨i, rfl⟩ : ∃ i : Nat, r4 = i := ⟨r4.toNat, by omega⟩
    have HO4 := Lib.hid (HO3.out.gb hg4 (by omega))
    have HG4 := Lib.hid (gb_trans HG3.out hg4)
    clear hs4 hg4 ha1
    go_wp2_with fail
    go_ret
    refine ⟨_, _, _, ys.take i, rfl, B8.u8 (fun x hx => HB8.out.b8 x (List.mem_of_mem_take hx)), by omega, ?_, by omega, gm2, HG4.out⟩
    simpa using HO4.out.rd.cut (lo := 0) (hi := i) (by omega) (by omega)
  by_cases r2 : r = 2
  · subst r2
    have R4 : Hid (Rd .u8 (w3.alloc (.cells #[.int .u8 0, .int .u8 0] 5)) (some ⟨w3.heap.size, 0, none⟩) 2 [0, 0]) := rd_lits w3 [0, 0] _
    have B4 : Hid (OwnB (w3.alloc (.cells #[.int .u8 0, .int .u8 0] 5)) (w1.heap.size + 1) (.slice (some ⟨g2, 0, none⟩) N cap2) N ys) := HO3.out.alloc _
    have hb4 : Hid (w1.heap.size + 1 ≤ (w3.alloc (.cells #[.int .u8 0, .int .u8 0] 5)).heap.size) := by show _ ≤ _; simp; omega
    go_wp2_with (at_builtin; refine wpList_append_bytes _ rfl _ _ rfl (w1.heap.size + 1) (.slice (some ⟨g2, 0, none⟩) N cap2) N ys rfl B4.out (some ⟨w3.heap.size, 0, none⟩) 2 2 [0, 0] rfl R4.out (by omega) hb4.out ?_; intro v4 w4 hown4 hg4; obtain ⟨g4, cap4, rfl, gl4, gu4, gc4, gm4⟩ := hown4.form)
    go_ret
    exact ⟨_, _, _, ys ++ [0, 0], rfl, (HB8.out.b8.app (fun x hx => by simp at hx; omega)).u8, by omega, hown4.rd, gc4, gm4, gb_low (gb_trans HG3.out (gb_below _ (blAlloc _ _))) (gb_to_below (g := g2) hg4 (by omega) (by simp; omega))⟩
  have q0 : (r == 0) = false := by simpa using r0
  have q1' : (r == 1) = false := by simpa using r1
  have q2 : (r == 2) = false := by simpa using r2
  by_cases r3 : r = 3
  · subst r3
    go_wp2_with (at_builtin; refine wpList_append_zeros _ rfl _ _ rfl (w1.heap.size + 1) (.slice (some ⟨g2, 0, none⟩) N cap2) N ys rfl HO3.out 900 rfl (by omega) (by omega) ?_; intro v4 w4 hown4 hg4; obtain ⟨g4, cap4, rfl, gl4, gu4, gc4, gm4⟩ := hown4.form)
    go_ret
    exact ⟨_, _, _, ys ++ List.replicate 900 0, rfl, (HB8.out.b8.app (fun x hx => by have := (List.mem_replicate.1 hx).2; omega)).u8, by omega, hown4.rd, gc4, gm4, gb_low HG3.out (gb_to_below (g := g2) hg4 (by omega) (by omega))⟩
  · have q3 : (r == 3) = false := by simpa using r3
    go_wp2_with fail
    go_ret
    exact ⟨_, _, _, ys, rfl, HB8.out, by omega, HO3.out.rd, gc2, gm2, HG3.out⟩
/-- bytes that are drawn, in new memory. -/
def DataN (w : World) (e : Ending) (w' : World) : Prop :=
  ∃ B m cp ys, e = .returned (.slice B m cp) ∧ U8s ys ∧ m ≤ 2000 ∧ (∃ bs, Hd w' (.ints .u8 ys) (.slice B m cp) bs) ∧ Below w.heap.size w w'
theorem DataD.n {w W w' : World} {e : Ending} (h : DataD W w.heap.size e w') (hb : Below w.heap.size w W) : DataN w e w' := by
  obtain ⟨B, m, cp, ys, rfl, h1, h2, h3, h4, h5, h6⟩ := h
  obtain ⟨bs, hd, _⟩ := Hd.of_rd h3 h4 h5
  exact ⟨B, m, cp, ys, rfl, h1, h2, ⟨bs, hd⟩, below_gb hb h6⟩
set_option maxHeartbeats 400000 in
theorem drawParse_any (A : Option Addr) (n c : Nat) (xs : List Int) (w : World) (h : Rd .u8 w A n xs) (hx : U8s xs) (hn : n ≤ 1048576) : Calls Try.prog 12 #[.slice A n c] w (DataN w) := by
  have H := Lib.hid h
  have HX := Lib.hid hx
  clear h hx
  go_enter Try.func12, Try.ntmps12
  go_wp2_with fail
  refine (source_any A n c xs _ H.out HX.out hn).mono ?_
  rintro e w1 ⟨rfl, hs1, hb1, hz1⟩
  have HS := Lib.hid hs1
  have HB := Lib.hid hb1
  clear hs1 hb1
  go_wp2_with fail
  refine (data_any _ A n c xs 0 _ HS.out (by omega)).mono ?_
  intro e w2 hd
  obtain ⟨B, m, cp, ys, rfl, h1, h2, ⟨bs, h3⟩, h4⟩ := hd.n HB.out
  have H1 := Lib.hid h1
  have H3 := Lib.hid h3
  have H4 := Lib.hid h4
  clear h1 h3 h4 hd
  go_wp2_with fail
  go_ret
  exact ⟨_, _, _, ys, rfl, H1.out, h2, ⟨bs, H3.out⟩, H4.out⟩
set_option maxHeartbeats 400000 in
theorem drawCanon_any (A : Option Addr) (n c : Nat) (xs : List Int) (w : World) (h : Rd .u8 w A n xs) (hx : U8s xs) (hn : n ≤ 1048576) : Calls Try.prog 14 #[.slice A n c] w (DataN w) := by
  have H := Lib.hid h
  have HX := Lib.hid hx
  clear h hx
  go_enter Try.func14, Try.ntmps14
  go_wp2_with fail
  refine (source_any A n c xs _ H.out HX.out hn).mono ?_
  rintro e w1 ⟨rfl, hs1, hb1, hz1⟩
  have HS := Lib.hid hs1
  have HB := Lib.hid hb1
  clear hs1 hb1
  go_wp2_with fail
  refine (data_any _ A n c xs 0 _ HS.out (by omega)).mono ?_
  intro e w2 hd
  obtain ⟨B, m, cp, ys, rfl, h1, h2, ⟨bs, h3⟩, h4⟩ := hd.n HB.out
  have H1 := Lib.hid h1
  have H3 := Lib.hid h3
  have H4 := Lib.hid h4
  clear h1 h3 h4 hd
  go_wp2_with fail
  go_ret
  exact ⟨_, _, _, ys, rfl, H1.out, h2, ⟨bs, H3.out⟩, H4.out⟩
theorem lwBig_any (A : Option Addr) (n c : Nat) (w : World) (hn : n ≤ maxLen) : Calls Try.prog 11 #[.slice A n c] w fun e w' => e = .returned (.bool (decide ((1048576 : Int) < n))) ∧ w = w' := by
  unfold maxLen at hn
  go_enter Try.func11, Try.ntmps11
  go_wp2
  go_ret
  exact ⟨rfl, rfl⟩
end Go.Proofs.Ytbbghebpmobfnaa
