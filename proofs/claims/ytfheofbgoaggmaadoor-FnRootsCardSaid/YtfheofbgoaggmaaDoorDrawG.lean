/-
  DrawGetFix: bytes of a fix with some bytes behind them, and a place: it comes back with bytes that read as some list, in new memory.
-/
import Derived.Test.YtfheofbgoaggmaaDoorDrawFix
import Derived.Maps.AppendAt
import Derived.Deep.AppendLies
import Derived.OwnWalk
namespace Go.Proofs.YtfheofbgoaggmaaDoor
open Go.RowKit
set_option linter.unusedVariables false

def vals (ys : List Int) : List Value := ys.map (Value.int .u8)
theorem vals_one (ys : List Int) : ∀ u ∈ vals ys, u.oneCell' = true := by
  intro u hu
  obtain ⟨y, _, rfl⟩ := List.mem_map.1 hu
  rfl
/-- a slice of bytes of the call's own, not nil. -/
def OwnB (w : World) (base : Nat) (v : Value) (n : Nat) (ys : List Int) : Prop := w.ownsRow base 5 1 v n (vals ys) ∧ v ≠ .slice none 0 0
theorem OwnB.form {w : World} {base n : Nat} {v : Value} {ys : List Int} (h : OwnB w base v n ys) : ∃ g cap, v = .slice (some ⟨g, 0, none⟩) n cap ∧ base ≤ g ∧ g < w.heap.size ∧ n ≤ cap ∧ cap ≤ maxLen := by
  rcases h.1.2 with ⟨e, _⟩ | ⟨g, cap, cur, rfl, h1, h2, h3, h4, h5, h6⟩
  · exact absurd e h.2
  · refine ⟨g, cap, rfl, h1, ?_, h3, h4⟩
    rcases Nat.lt_or_ge g w.heap.size with hl | hl
    · exact hl
    · rw [Array.getElem?_eq_none hl] at h2; cases h2
theorem OwnB.rd {w : World} {base n g cap : Nat} {ys : List Int} (h : OwnB w base (.slice (some ⟨g, 0, none⟩) n cap) n ys) : Rd .u8 w (some ⟨g, 0, none⟩) n ys := by
  have hl : ys.length = n := by have := h.1.1; simpa [vals] using this
  refine ⟨hl, fun _ => ⟨g, 0, rfl, fun i hi => ?_⟩⟩
  have := h.1.cellAt i (by omega)
  rw [Nat.zero_add, this]
  simp [vals, hl, hi]
theorem info_u8' : ∃ i, Tryd.prog.info? 5 = some i ∧ i.zero = some (.int .u8 0) ∧ i.size = 1 ∧ i.bytes = 1 := by
  obtain ⟨i, hi, h⟩ := Option.map_eq_some_iff.1 info_u8
  simp only [Prod.mk.injEq] at h
  exact ⟨i, hi, h.1, h.2.1, h.2.2⟩
theorem OwnB.gb {w w' : World} {base n g : Nat} {v : Value} {ys : List Int} (h : OwnB w base v n ys) (hg : w.grownBy w' (some g)) (hne : g < base) : OwnB w' base v n ys := by
  refine ⟨h.1.kept hg ?_, h.2⟩
  right
  obtain ⟨g', cap, rfl, h1, _⟩ := h.form
  simp [Value.ownBlock]
  omega
theorem OwnB.gbNew {w : World} {base n : Nat} {v : Value} {ys : List Int} (h : OwnB w base v n ys) (o : Obj) : OwnB (w.alloc o) base v n ys := ⟨h.1.alloc o, h.2⟩

/-- what lies below the size of an elder world in which the source was there. -/
theorem Src.low {w W w' : World} {g : Nat} {A : Option Addr} {n c : Nat} {xs : List Int} {q q' : Int} (h0 : Src w g A n c xs q) (h : Src W g A n c xs q') (hb : Below w.heap.size W w') : Src w' g A n c xs q' := by
  have hg := h0.lt
  refine ⟨by rw [hb.cell (p := ⟨g, 0, none⟩) hg]; exact h.code, by rw [hb.cell (p := ⟨g, 1, none⟩) hg]; exact h.at_, by rw [hb.frozen (p := ⟨g, 1, none⟩) hg]; exact h.thaw, ?_, h.u8, h.small, h.apart, h.pos⟩
  refine h.reads.keep fun hn b o e _ i => hb.cell (p := ⟨b, i, none⟩) ?_
  obtain ⟨b', o', e', hc⟩ := h0.reads.2 hn
  rw [e] at e'
  obtain ⟨rfl, rfl⟩ : b = b' ∧ o = o' := by simpa using e'
  exact cell_lt (hc 0 hn)
theorem gb_low {w W w' : World} {r : Option Nat} (h : w.grownBy W r) (hb : Below w.heap.size W w') : w.grownBy w' r :=
  ⟨hb.os.trans h.os, hb.tape.trans h.tape, hb.output.trans h.output, Nat.le_trans h.size hb.size, fun i hi hne => (hb.block i hi).trans (h.block i hi hne)⟩
theorem U8s.snoc {ys : List Int} {r : Int} (h : U8s ys) (h0 : 0 ≤ r) (h1 : r ≤ 255) : U8s (ys ++ [r]) := by
  intro i
  by_cases hi : i < ys.length
  · have : (ys ++ [r]).getD i 0 = ys.getD i 0 := by simp [List.getD, List.getElem?_append_left hi]
    rw [this]; exact h i
  · by_cases he : i = ys.length
    · subst he; simp; omega
    · have : (ys ++ [r]).getD i 0 = 0 := by simp [List.getD]; rw [List.getElem?_eq_none (by simp; omega)]; rfl
      rw [this]; omega

def SomeAns (w : World) (g : Nat) (A : Option Addr) (n c : Nat) (xs : List Int) (q : Int) (e : Ending) (w' : World) : Prop :=
  ∃ v m ys, e = .returned v ∧ OwnB w' w.heap.size v m ys ∧ U8s ys ∧ m ≤ 1000 ∧ (∃ q', q' ≤ q + 1000 ∧ Src w' g A n c xs q') ∧ w.grownBy w' (some g)
set_option maxHeartbeats 1000000 in
theorem some_any (g : Nat) (A : Option Addr) (n c : Nat) (xs : List Int) (q k : Int) (w : World) (h : Src w g A n c xs q) (hq : q ≤ 100000000) (hk0 : 0 ≤ k) (hk : k ≤ 1000) :
    Calls Tryd.prog 57 #[.pointer (some ⟨g, 0, none⟩), .int .i64 k] w (SomeAns w g A n c xs q) := by
  obtain ⟨i0, hi0, hz0, hz1, hz2⟩ := info_u8'
  have HS := Lib.hid h
  have hgl := h.lt
  clear h
  have HI := Lib.hid hi0
  have HZ0 := Lib.hid hz0
  have HZ1 := Lib.hid hz1
  have HZ2 := Lib.hid hz2
  clear hi0 hz0 hz1 hz2
  go_enter Tryd.func57, Tryd.ntmps57
  go_wp2_with fail
  go_loopw [1, 5] (fun cnt out wr => ∃ (j : Int) (m : Nat) (ys : List Int) (q' : Int), 0 ≤ j ∧ (m : Int) + j ≤ 1000 ∧ cnt = .int .i64 j ∧ OwnB wr w.heap.size out m ys ∧ U8s ys ∧ q' ≤ q + m ∧ Src wr g A n c xs q' ∧ w.grownBy wr (some g)) (fun cnt _ _ => (intOf cnt).toNat)
  case atStart => exact ⟨k, 0, [], q, hk0, by omega, rfl, ⟨World.ownsRow_lit w #[] 0 (Nat.le_refl _) (Nat.zero_le _) rfl, by simp⟩, fun i => by simp, by omega, HS.out.gbNew _, gb_below _ (blAlloc _ _)⟩
  case round =>
    obtain ⟨j, m, ys, q', hj0, hmj, rfl, ho, hu, hq', hs, hg⟩ := hrel
    obtain ⟨g', cap, rfl, hg1, hg2, hc1, hc2⟩ := ho.form
    have HO := Lib.hid ho
    have HU := Lib.hid hu
    have HSr := Lib.hid hs
    have HG := Lib.hid hg
    have hsz := hg.size
    clear ho hu hs hg
    by_cases hlt : 0 < j
    · go_wp2_with fail
      refine (next_any g A n c xs q' 256 _ HSr.out (by omega) (by omega)).mono ?_
      rintro e w1 ⟨r, ⟨hr0, hr1⟩, rfl, hs1, hgr1⟩
      have hr2 := hr1 (by omega)
      have HS1 := Lib.hid hs1
      have HG1 := Lib.hid hgr1
      have hsz1 := hgr1.size
      clear hs1 hgr1 hr1
      have HO1 := Lib.hid ((HO.out.gb HG1.out hgl).gbNew (.cells #[.int .u8 r] 5))
      go_wp2_with (at_builtin; refine wpList_append_own_at _ rfl (.tmp 11) (.tmp 15) _ rfl w.heap.size 5 i0 _ 1 1 Tryd.underlying22 HI.out HZ0.out HZ1.out HZ2.out rfl (by omega) _ m (vals ys) rfl HO1.out.1 ⟨w1.heap.size, 0, none⟩ 1 1 [.int .u8 r] rfl rfl (cell_one_new _ _ _) (by simp [Value.oneCell']) (by unfold maxLen; omega) (by omega) (by simp; omega) ?_; intro v' w2 hown2 hgr2 hnil2 hat2)
      have hown' : OwnB w2 w.heap.size v' (m + 1) (ys ++ [r]) := ⟨by simpa [vals] using hown2, fun e => by have := (hnil2.1 e).1; cases this⟩
      have hbl : Below w.heap.size (w1.alloc (.cells #[.int .u8 r] 5)) w2 := gb_to_below (g := g') hgr2 hg1 (by simp; omega)
      go_roundw
      case rel =>
        refine ⟨j - 1, m + 1, ys ++ [r], q' + 1, by omega, by omega, by go_num, hown', HU.out.snoc hr0 (by omega), by omega, HS.out.low (HS1.out.gbNew _) hbl, ?_⟩
        exact gb_low (gb_trans HG.out (gb_trans HG1.out (gb_below _ (blAlloc _ _)))) hbl
      case measure => simp [intOf]; omega
    · go_wp2
      go_ret
      exact ⟨_, m, ys, rfl, HO.out, HU.out, by omega, ⟨q', by omega, HSr.out⟩, HG.out⟩
theorem U8s.app {ys zs : List Int} (h : U8s ys) (k : U8s zs) : U8s (ys ++ zs) := by
  intro i
  by_cases hi : i < ys.length
  · have : (ys ++ zs).getD i 0 = ys.getD i 0 := by simp [List.getD, List.getElem?_append_left hi]
    rw [this]; exact h i
  · have : (ys ++ zs).getD i 0 = zs.getD (i - ys.length) 0 := by simp [List.getD, List.getElem?_append_right (Nat.le_of_not_lt hi)]
    rw [this]; exact k _
theorem U8s.pb (v : Int) : U8s (pb v) := by
  intro i
  unfold Go.Proofs.YtfheofbgoaggmaaDoor.pb
  match i with
  | 0 => simp; omega
  | 1 => simp; omega
  | 2 => simp; omega
  | 3 => simp; omega
  | k + 4 => simp
set_option maxHeartbeats 400000 in
theorem sPut_own (v : Int) (w : World) (h1 : -16777216 ≤ v) (h2 : v ≤ 16777216) : Calls Tryd.prog 56 #[.int .i64 v] w fun e w' => ∃ a b c d, [a, b, c, d] = pb v ∧ e = .returned (.slice (some ⟨w.heap.size, 0, none⟩) 4 4) ∧ w.alloc (.cells #[.int .u8 a, .int .u8 b, .int .u8 c, .int .u8 d] 5) = w' := by
  by_cases h : v < 0
  · go_enter Tryd.func56, Tryd.ntmps56
    go_wp2
    go_ret
    exact ⟨_, _, _, _, by simp only [pb, List.cons.injEq, and_true]; omega, rfl, rfl⟩
  · go_enter Tryd.func56, Tryd.ntmps56
    go_wp2
    go_ret
    exact ⟨_, _, _, _, by simp only [pb, List.cons.injEq, and_true]; omega, rfl, rfl⟩

/-- what DrawGetFix hands on. -/
def DrawGet (w : World) (e : Ending) (w' : World) : Prop :=
  ∃ B n c ys a, e = .returned (.tuple #[.slice B n c, .int .i64 a]) ∧ Rd .u8 w' B n ys ∧ U8s ys ∧ n ≤ c ∧ c ≤ maxLen ∧ Below w.heap.size w w'
set_option maxHeartbeats 1000000 in
theorem drawGet_any (A : Option Addr) (n c : Nat) (xs : List Int) (w : World) (h : Code w A n xs) : Calls Tryd.prog 28 #[.slice A n c] w (DrawGet w) := by
  obtain ⟨i0, hi0, hz0, hz1, hz2⟩ := info_u8'
  have HI := Lib.hid hi0
  have HZ0 := Lib.hid hz0
  have HZ1 := Lib.hid hz1
  have HZ2 := Lib.hid hz2
  clear hi0 hz0 hz1 hz2
  have H := Lib.hid h
  clear h
  go_enter Tryd.func28, Tryd.ntmps28
  go_wp2_with fail
  refine (source_any A n c xs w H.out.reads H.out.u8 H.out.small).mono ?_
  rintro e w1 ⟨rfl, hs1, hb1, hz1⟩
  have HS1 := Lib.hid hs1
  have HB1 := Lib.hid hb1
  clear hs1 hb1
  go_wp2_with fail
  refine (drawFix_any _ A n c xs 0 _ HS1.out (by omega)).mono ?_
  rintro e w2 ⟨y, q2, ⟨hy1, hy2⟩, rfl, hq2, hs2, hg2⟩
  have HS2 := Lib.hid hs2
  have HG2 := Lib.hid hg2
  have sz2 := hg2.size
  clear hs2 hg2
  go_wp2_with fail
  refine (sPut_own y _ hy1 hy2).mono ?_
  rintro e w3 ⟨b0, b1, b2, b3, hpb, rfl, rfl⟩
  have HPB := Lib.hid hpb
  clear hpb
  have HS3 := Lib.hid (HS2.out.gbNew (.cells #[.int .u8 b0, .int .u8 b1, .int .u8 b2, .int .u8 b3] 5))
  have HO3 : Hid (OwnB (w2.alloc (.cells #[.int .u8 b0, .int .u8 b1, .int .u8 b2, .int .u8 b3] 5)) (w.heap.size + 1) (.slice (some ⟨w2.heap.size, 0, none⟩) 4 4) 4 [b0, b1, b2, b3]) := ⟨World.ownsRow_lit w2 #[.int .u8 b0, .int .u8 b1, .int .u8 b2, .int .u8 b3] 4 (by omega) (by decide) rfl, by simp⟩
  go_wp2_with fail
  refine (next_any _ A n c xs q2 3 _ HS3.out (by omega) (by omega)).mono ?_
  rintro e w4 ⟨r, ⟨hr0, hr1⟩, rfl, hs4, hg4⟩
  have hr2 := hr1 (by omega)
  have HS4 := Lib.hid hs4
  have HG4 := Lib.hid hg4
  have HO4 := Lib.hid (HO3.out.gb hg4 (by omega))
  have sz4 : w2.heap.size + 1 ≤ w4.heap.size := by have := hg4.size; simpa using this
  clear hs4 hg4 hr1
  go_wp2_with fail
  refine (some_any _ A n c xs (q2 + 1) r _ HS4.out (by omega) hr0 (by omega)).mono ?_
  rintro e w5 ⟨v, m, ys, rfl, ho5, hu5, hm5, ⟨q5, hq5, hs5⟩, hg5⟩
  obtain ⟨g5, cap5, rfl, hge5, hlt5, hc5, hcm5⟩ := ho5.form
  have HR5 := Lib.hid ho5.rd
  have HO5 := Lib.hid (HO4.out.gb hg5 (by omega))
  have HV5 := Lib.hid ho5
  have HU5 := Lib.hid hu5
  have HS5 := Lib.hid hs5
  have HG5 := Lib.hid hg5
  have sz5 := hg5.size
  clear ho5 hu5 hs5 hg5
  have hnews : ∀ j u, (vals ys)[j]? = some u → w5.cell? ((⟨g5, 0, none⟩ : Addr).add j) = some u := HV5.out.1.cells rfl
  have HN := Lib.hid hnews
  clear hnews
  have hvl : (vals ys).length = m * 1 := HV5.out.1.1
  have HVL := Lib.hid hvl
  clear hvl
  go_wp2_with (at_builtin; go_loud (refine wpList_append_own_at _ rfl (.tmp 10) (.tmp 14) _ rfl (w.heap.size + 1) 5 i0 _ 1 1 Tryd.underlying22 HI.out HZ0.out HZ1.out HZ2.out rfl (by omega) _ 4 (vals [b0, b1, b2, b3]) rfl HO5.out.1 ⟨g5, 0, none⟩ m cap5 (vals ys) rfl HVL.out HN.out (vals_one ys) (by unfold maxLen; omega) (by omega) (by omega) ?_); intro v' w6 hown6 hgr6 hnil6 hat6)
  have ho6 : OwnB w6 (w.heap.size + 1) v' (4 + m) ([b0, b1, b2, b3] ++ ys) := ⟨by simpa [vals] using hown6, fun e => by have := (hnil6.1 e).1; cases this⟩
  have hbl6 : Below w1.heap.size w5 w6 := gb_to_below (g := w2.heap.size) hgr6 (by omega) (by omega)
  have HS6 := Lib.hid (HS1.out.low HS5.out hbl6)
  have sz6 := hgr6.size
  obtain ⟨g6, cap6, rfl, hge6, hlt6, hc6, hcm6⟩ := ho6.form
  have HR6 := Lib.hid ho6.rd
  have HU6 : Hid (U8s ([b0, b1, b2, b3] ++ ys)) := by
    refine U8s.app ?_ HU5.out
    rw [HPB.out]; exact U8s.pb y
  have HB6 : Hid (Below w.heap.size w w6) := by
    have h5 : Below w.heap.size w w5 := below_gb HB1.out (gb_trans HG2.out (gb_trans (gb_below _ (blAlloc _ _)) (gb_trans HG4.out HG5.out)))
    exact h5.trans (hbl6.mono (by omega))
  clear hown6 hgr6 hnil6 hat6 ho6 hbl6
  refine (pick_any _ A n c xs q5 _ 5 5 [0, 0, 1, -1, 3] AnyI _ (HS6.out.gbNew _) (by omega) (rd_lit w6 [0, 0, 1, -1, 3] _) (by omega) (by omega) ?_ (fun _ _ => trivial)).mono ?_
  · intro a e; injection e with e; subst e; have := HS6.out.lt; show w6.heap.size ≠ w.heap.size; omega
  rintro e w7 ⟨a, q7, _, rfl, hq7, hs7, hg7⟩
  have HG7 := Lib.hid hg7
  clear hs7 hg7
  go_wp2_with fail
  go_ret2
  refine ⟨_, _, _, [b0, b1, b2, b3] ++ ys, a, rfl, ?_, HU6.out, hc6, hcm6, ?_⟩
  · exact (HR6.out.alloc _).gb HG7.out (fun _ x e => by injection e with e; subst e; show g6 ≠ w.heap.size; omega)
  · exact (HB6.out.trans ((blAlloc w6 _).mono (by have := HB6.out.size; omega))).trans (gb_to_below HG7.out (Nat.le_refl _) (by have := HB6.out.size; simp; omega))
end Go.Proofs.YtfheofbgoaggmaaDoor
