/-
  The draws of colours: l4DrawLevels, l4BentLevels, DrawCellOf.
-/
import Derived.Test.YthplngcdldongaaDrawC
import Derived.Test.YthplngcdldongaaLinG
namespace Go.Proofs.Ythplngcdldongaa
open Go.RowKit
set_option linter.unusedVariables false
set_option linter.unusedSimpArgs false

/-- a draw of a list: in memory of its own; the source has gone on by at most d. -/
def LvDr (w : World) (g : Nat) (A : Option Addr) (n c : Nat) (xs : List Int) (q d : Int) (P : List Int → Prop) (e : Ending) (w' : World) : Prop :=
  ∃ G k cp ps q', e = .returned (.slice G k cp) ∧ P ps ∧ Own w' (.ints .i64 ps) (.slice G k cp) w.heap.size w'.heap.size ∧ q' ≤ q + d ∧ Src w' g A n c xs q' ∧ w.grownBy w' (some g)
theorem Own.tailI {w : World} {k : IntKind} {x : Int} {ps : List Int} {b o m c lo hi : Nat} (h : Own w (.ints k (x :: ps)) (.slice (some ⟨b, o, none⟩) (m + 1) c) lo hi) (hm : 0 < m) :
    Own w (.ints k ps) (.slice (some ⟨b, o + 1, none⟩) m (c - 1)) lo hi := by
  obtain ⟨bs, hd, nd, hin⟩ := h
  cases hd with
  | ints _ _ _ _ _ _ hn hl hr hc hmx =>
    refine ⟨[b], .ints k b (o + 1) m (c - 1) _ hm (by simpa using hl) (fun j hj => ?_) (by omega) (by omega), by simp, hin⟩
    have := hr (j + 1) (by omega)
    rw [show o + 1 + j = o + (j + 1) by omega, this]
    simp [List.getD]
set_option maxHeartbeats 1000000 in
theorem drawLevels4_any (g : Nat) (A : Option Addr) (n c : Nat) (xs : List Int) (q : Int) (w : World) (h : Src w g A n c xs q) (hq : q ≤ 800000000) :
    Calls Try.prog 87 #[.pointer (some ⟨g, 0, none⟩)] w (LvDr w g A n c xs q 6 (fun ps => ps.length = 3 ∧ ∀ y ∈ ps, LevP y)) := by
  have HS := Lib.hid h
  clear h
  go_enter Try.func87, Try.ntmps87
  go_wp2_with fail
  refine (drawLevel_any g A n c xs q _ HS.out (by omega)).mono ?_
  rintro e w1 ⟨r1, q1, hP1, rfl, hq1, hs1, hg1⟩
  have HS1 := Lib.hid hs1
  have HG1 := Lib.hid hg1
  have HP1 := Lib.hid hP1
  clear hs1 hg1 hP1
  go_wp2_with fail
  refine (drawLevel_any g A n c xs q1 _ HS1.out (by omega)).mono ?_
  rintro e w2 ⟨r2, q2, hP2, rfl, hq2, hs2, hg2⟩
  have HS2 := Lib.hid hs2
  have HG2 := Lib.hid (gb_trans HG1.out hg2)
  have HP2 := Lib.hid hP2
  clear hs2 hg2 hP2
  go_wp2_with fail
  refine (drawLevel_any g A n c xs q2 _ HS2.out (by omega)).mono ?_
  rintro e w3 ⟨r3, q3, hP3, rfl, hq3, hs3, hg3⟩
  have HS3 := Lib.hid hs3
  have HG3 := Lib.hid (gb_trans HG2.out hg3)
  have HP3 := Lib.hid hP3
  clear hs3 hg3 hP3
  go_wp2_with fail
  go_ret
  have hsz := HG3.out.size
  refine ⟨_, 3, 3, [r1, r2, r3], q3, rfl, ⟨rfl, fun y hy => ?_⟩, (own3L (Bx.new w3 _ _ rfl)).mono hsz (Nat.le_refl _), by omega, HS3.out.gbNew _, gb_trans HG3.out (gb_below _ (blAlloc _ _))⟩
  simp at hy
  rcases hy with rfl | rfl | rfl
  · exact HP1.out
  · exact HP2.out
  · exact HP3.out
set_option maxHeartbeats 1000000 in
theorem bentLevels4_any (g : Nat) (A : Option Addr) (n c : Nat) (xs : List Int) (q : Int) (w : World) (h : Src w g A n c xs q) (hgw : g < w.heap.size) (hq : q ≤ 700000000) :
    Calls Try.prog 43 #[.pointer (some ⟨g, 0, none⟩)] w (LvDr w g A n c xs q 8 (fun ps => ps.length ≤ 3)) := by
  have HS := Lib.hid h
  clear h
  go_enter Try.func43, Try.ntmps43
  go_wp2_with fail
  refine (drawLevels4_any g A n c xs q _ HS.out (by omega)).mono ?_
  rintro e w1 ⟨G, k, cp, ps, q1, rfl, ⟨hl, -⟩, ho1, hq1, hs1, hg1⟩
  obtain rfl : k = 3 := by
    obtain ⟨bs, hd⟩ := ho1.hd
    rw [← hd.rd.1, hl]
  obtain ⟨b, o, rfl, hlo, hhi, htw, hcl⟩ := ho1.slotI (by omega)
  have HS1 := Lib.hid hs1
  have HG1 := Lib.hid hg1
  have HO1 := Lib.hid ho1
  have HL := Lib.hid hl
  have hcp : 3 ≤ cp ∧ cp ≤ 9223372036854775807 := by obtain ⟨bs, hd⟩ := ho1.hd; have := hd.caps; unfold maxLen at this; exact this
  have HLO := Lib.hid hlo
  clear hs1 hg1 ho1 htw hcl hl hlo
  go_wp2_with fail
  refine (next_any g A n c xs q1 12 _ HS1.out (by omega) (by omega)).mono ?_
  rintro e w2 ⟨r, ⟨hr0, hr1⟩, rfl, hs2, hg2⟩
  have hr2 := hr1 (by omega)
  have HS2 := Lib.hid hs2
  have HG2 := Lib.hid (gb_trans HG1.out hg2)
  have HO2 : Hid (Own w2 (.ints .i64 ps) (.slice (some ⟨b, o, none⟩) 3 cp) w.heap.size w2.heap.size) := (own_gb HO1.out hg2 hgw).mono (Nat.le_refl _) hg2.size
  clear hs2 hg2 hr1
  by_cases e0 : r = 0
  · subst e0
    go_wp2_with fail
    refine (pick_any g A n c xs (q1 + 1) _ 2 2 [-1, 65536] (fun _ => True) _ (HS2.out.gbNew _) (by omega) (rd_lit w2 [-1, 65536] _) (by omega) (by omega) ?_ (fun _ _ => trivial)).mono ?_
    · intro a e; injection e with e; subst e; have := HS2.out.lt; show w2.heap.size ≠ g; omega
    rintro e w3 ⟨y, q3, -, rfl, hq3, hs3, hg3⟩
    have HG3 := Lib.hid (gb_trans HG2.out (gb_trans (gb_below _ (blAlloc _ _)) hg3))
    have HO3 : Hid (Own w3 (.ints .i64 ps) (.slice (some ⟨b, o, none⟩) 3 cp) w.heap.size w3.heap.size) := (own_gb (HO2.out.alloc _) hg3 hgw).mono (Nat.le_refl _) (Nat.le_trans (by simp) hg3.size)
    obtain ⟨b', o', eb, -, hbs, htw, hcl⟩ := HO3.out.slotI (by omega)
    injection eb with eb
    injection eb with eb1 eb2
    subst eb1 eb2
    have c1 := hcl 1 (by omega)
    have f1 := htw (o + 1)
    have l1 := cell_lt c1
    have HS3 := Lib.hid hs3
    clear hs3 hg3 hcl htw
    go_wp2_with fail
    go_ret
    have hb := HLO.out
    refine ⟨_, 3, cp, ps.set 1 y, q3, rfl, by simp [HL.out], ?_, by omega, ?_, ?_⟩
    · exact (HO3.out.putI (i := 1) (by omega) y).mono (Nat.le_refl _) (by simp [World.setCell])
    · exact HS.out.low HS3.out ((Below.refl w.heap.size w3).setCell (p := ⟨b, o + 1, none⟩) hb _)
    · exact gb_low HG3.out ((Below.refl w.heap.size w3).setCell (p := ⟨b, o + 1, none⟩) hb _)
  · by_cases e1 : r = 1
    · subst e1
      go_wp2_with fail
      go_ret
      obtain ⟨y, ps', rfl⟩ : ∃ y ps', ps = y :: ps' := by
        match ps, HL.out with
        | y :: ps', _ => exact ⟨y, ps', rfl⟩
      refine ⟨_, 2, cp - 1, ps', q1 + 1, rfl, by have := HL.out; simp at this; omega, HO2.out.tailI (m := 2) (by omega), by omega, HS2.out, HG2.out⟩
    · go_wp2_with fail
      go_ret
      exact ⟨_, 3, cp, ps, q1 + 1, rfl, by show ps.length ≤ 3; rw [HL.out]; omega, HO2.out, by omega, HS2.out, HG2.out⟩
def DrCO (w : World) (e : Ending) (w' : World) : Prop := ∃ sd G k cp ps, e = .returned (.tuple #[.int .i64 sd, .slice G k cp]) ∧ ps.length ≤ 3 ∧ Own w' (.ints .i64 ps) (.slice G k cp) w.heap.size w'.heap.size ∧ Below w.heap.size w w'
set_option maxHeartbeats 1000000 in
theorem drawCellOf_any (A : Option Addr) (n c : Nat) (xs : List Int) (w : World) (h : Code w A n xs) :
    Calls Try.prog 8 #[.slice A n c] w (DrCO w) := by
  have H := Lib.hid h
  clear h
  go_enter Try.func8, Try.ntmps8
  go_wp2_with fail
  refine (source_any A n c xs _ H.out.reads H.out.u8 H.out.small).mono ?_
  rintro e w1 ⟨rfl, hs1, hb1, hl1⟩
  have HS1 := Lib.hid hs1
  have HB1 := Lib.hid hb1
  clear hs1 hb1
  go_wp2_with fail
  refine (pick_any w.heap.size A n c xs 0 _ 5 5 [2, 3, 4, 5, 1] (fun _ => True) _ (HS1.out.gbNew _) (by omega) (rd_lit w1 [2, 3, 4, 5, 1] _) (by omega) (by omega) ?_ (fun _ _ => trivial)).mono ?_
  · intro a e; injection e with e; subst e; have := HS1.out.lt; show w1.heap.size ≠ w.heap.size; omega
  rintro e w2 ⟨sd, q2, -, rfl, hq2, hs2, hg2⟩
  have HS2 := Lib.hid hs2
  have HB2 : Hid (Below w.heap.size w w2) := below_gb HB1.out (gb_trans (gb_below _ (blAlloc _ _)) hg2)
  have hsz : w.heap.size < w2.heap.size := HS2.out.lt
  clear hs2 hg2
  go_wp2_with fail
  refine (bentLevels4_any w.heap.size A n c xs q2 _ HS2.out hsz (by omega)).mono ?_
  rintro e w3 ⟨G, k, cp, ps, q3, rfl, hl, ho3, hq3, hs3, hg3⟩
  have HO3 := Lib.hid ho3
  have HB3 : Hid (Below w.heap.size w w3) := below_gb HB2.out hg3
  clear hs3 hg3 ho3
  go_wp2_with fail
  go_ret2
  exact ⟨sd, G, k, cp, ps, rfl, hl, HO3.out.mono (by omega) (Nat.le_refl _), HB3.out⟩
end Go.Proofs.Ythplngcdldongaa
