/-
  The source of the draws: a box of the code and a place in it. Contracts: l1Source, l1Next (a number in 0..n-1), l1Pick, l1Chance, l1DrawFix, l1BentFix: each comes back, with a number that is in its bounds, and only the source's own box has turned.
-/
import Derived.Test.YtfheofbgoaggmaaDoorFixG
namespace Go.Proofs.YtfheofbgoaggmaaDoor
open Go.RowKit
set_option linter.unusedVariables false

structure Src (w : World) (g : Nat) (A : Option Addr) (n c : Nat) (xs : List Int) (q : Int) : Prop where
  code : w.cell? ⟨g, 0, none⟩ = some (.slice A n c)
  at_ : w.cell? ⟨g, 1, none⟩ = some (.int .i64 q)
  thaw : w.frozen? ⟨g, 1, none⟩ = false
  reads : Rd .u8 w A n xs
  u8 : U8s xs
  small : n ≤ 1048576
  apart : 0 < n → ∀ a, A = some a → a.block ≠ g
  pos : 0 ≤ q

theorem gb_refl (w : World) (r : Option Nat) : w.grownBy w r := ⟨rfl, rfl, rfl, Nat.le_refl _, fun _ _ _ => rfl⟩
theorem gb_trans {a b c : World} {r : Option Nat} (h : a.grownBy b r) (k : b.grownBy c r) : a.grownBy c r :=
  ⟨k.os.trans h.os, k.tape.trans h.tape, k.output.trans h.output, Nat.le_trans h.size k.size, fun i hi hne => (k.block i (Nat.lt_of_lt_of_le hi h.size) hne).trans (h.block i hi hne)⟩
theorem gb_drewN (w : World) (r : Option Nat) (n : Nat) : w.grownBy (w.drewN n) r := ⟨rfl, rfl, rfl, Nat.le_refl _, fun _ _ _ => rfl⟩
theorem gb_below {a b : World} (r : Option Nat) (h : Below a.heap.size a b) : a.grownBy b r := ⟨h.os, h.tape, h.output, h.size, fun i hi _ => h.block i hi⟩
theorem gb_set (w : World) (g j : Nat) (v : Value) : w.grownBy (w.setCell ⟨g, j, none⟩ v) (some g) :=
  ⟨rfl, rfl, rfl, by simp [World.setCell], fun i hi hne => Below.heap_setCell _ _ _ _ (fun e => hne (by rw [e]))⟩
theorem gb_to_below {a b : World} {g B : Nat} (h : a.grownBy b (some g)) (hB : B ≤ g) (hs : B ≤ a.heap.size) : Below B a b :=
  ⟨h.os, h.tape, h.output, h.size, fun i hi => h.block i (by omega) (fun e => by injection e; omega)⟩
theorem gb_cell {a b : World} {g : Nat} (h : a.grownBy b (some g)) {p : Addr} (h1 : p.block < a.heap.size) (h2 : p.block ≠ g) : b.cell? p = a.cell? p :=
  World.cell?_of_block (h.block _ h1 (fun e => h2 (by injection e)))
theorem Rd.gb {k : IntKind} {a b : World} {g : Nat} {A : Option Addr} {n : Nat} {xs : List Int} (h : Rd k a A n xs) (hg : a.grownBy b (some g)) (hne : 0 < n → ∀ x, A = some x → x.block ≠ g) : Rd k b A n xs :=
  h.keep fun hn b' o e hlt i => gb_cell hg (p := ⟨b', i, none⟩) hlt (hne hn ⟨b', o, none⟩ e)
theorem Src.below {w w' : World} {g : Nat} {A : Option Addr} {n c : Nat} {xs : List Int} {q : Int} (h : Src w g A n c xs q) (hb : Below w.heap.size w w') : Src w' g A n c xs q := by
  have hg := cell_lt h.code
  exact ⟨by rw [hb.cell (p := ⟨g, 0, none⟩) hg]; exact h.code, by rw [hb.cell (p := ⟨g, 1, none⟩) hg]; exact h.at_, by rw [hb.frozen (p := ⟨g, 1, none⟩) hg]; exact h.thaw, h.reads.below hb, h.u8, h.small, h.apart, h.pos⟩
/-- the place goes one on. -/
theorem Src.step {w : World} {g : Nat} {A : Option Addr} {n c : Nat} {xs : List Int} {q : Int} (h : Src w g A n c xs q) : Src (w.setCell ⟨g, 1, none⟩ (.int .i64 (q + 1))) g A n c xs (q + 1) := by
  refine ⟨?_, ?_, ?_, ?_, h.u8, h.small, h.apart, by have := h.pos; omega⟩
  · rw [World.cell?_setCell_other _ _ _ _ (by simp)]; exact h.code
  · exact World.cell?_setCell_same' _ _ _ (by rw [h.at_]; rfl)
  · rw [← h.thaw]; simp
  · exact h.reads.gb (gb_set _ _ _ _) h.apart

/-- a number in 0..k-1. -/
def InR (r k : Int) : Prop := 0 ≤ r ∧ (1 ≤ k → r < k)
set_option maxHeartbeats 1000000 in
theorem next_any (g : Nat) (A : Option Addr) (n c : Nat) (xs : List Int) (q k : Int) (w : World) (h : Src w g A n c xs q) (hq : q ≤ 1000000000) (hk : k ≤ 1000000000) :
    Calls Tryd.prog 47 #[.pointer (some ⟨g, 0, none⟩), .int .i64 k] w fun e w' => ∃ r, InR r k ∧ e = .returned (.int .i64 r) ∧ Src w' g A n c xs (q + 1) ∧ w.grownBy w' (some g) := by
  have c0 := h.code
  have c1 := h.at_
  have f1 := h.thaw
  have q0 := h.pos
  have hs := h.small
  have H := Lib.hid h
  clear h
  by_cases h1 : k < 1
  · go_enter Tryd.func47, Tryd.ntmps47
    go_wp2
    go_ret
    exact ⟨0, ⟨by omega, by omega⟩, rfl, H.out.step, gb_set _ _ _ _⟩
  rcases Nat.eq_zero_or_pos n with hn | hn
  · subst hn
    have m1 := Int.emod_nonneg (q * 7) (by omega : k ≠ 0)
    have m2 := Int.emod_lt_of_pos (q * 7) (by omega : 0 < k)
    go_enter Tryd.func47, Tryd.ntmps47
    go_wp2
    go_ret
    exact ⟨_, ⟨m1, fun _ => m2⟩, rfl, H.out.step, gb_set _ _ _ _⟩
  · obtain ⟨b, o, rfl, hc⟩ := H.out.reads.2 hn
    have hne : ((n : Int) == 0) = false := by simp; omega
    have hnb : b ≠ g := H.out.apart hn _ rfl
    have m1 := Int.emod_nonneg q (by omega : (n : Int) ≠ 0)
    have m2 := Int.emod_lt_of_pos q (by omega : 0 < (n : Int))
    have m3 := Int.emod_nonneg (q + 1) (by omega : (n : Int) ≠ 0)
    have m4 := Int.emod_lt_of_pos (q + 1) (by omega : 0 < (n : Int))
    have m5 := Int.ediv_nonneg q0 (by omega : 0 ≤ (n : Int))
    have m6 := Int.ediv_le_self (n : Int) q0
    have d1 : (w.setCell ⟨g, 1, none⟩ (.int .i64 (q + 1))).cell? ⟨b, o + (q % (n : Int)).toNat, none⟩ = some (.int .u8 (xs.getD (q % (n : Int)).toNat 0)) := by
      rw [World.cell?_setCell_other _ _ _ _ (by simp; try omega)]; exact hc _ (by omega)
    have d2 : (w.setCell ⟨g, 1, none⟩ (.int .i64 (q + 1))).cell? ⟨b, o + ((q + 1) % (n : Int)).toNat, none⟩ = some (.int .u8 (xs.getD ((q + 1) % (n : Int)).toNat 0)) := by
      rw [World.cell?_setCell_other _ _ _ _ (by simp; try omega)]; exact hc _ (by omega)
    obtain ⟨u1, u2⟩ := H.out.u8 (q % (n : Int)).toNat
    obtain ⟨u3, u4⟩ := H.out.u8 ((q + 1) % (n : Int)).toNat
    generalize xs.getD (q % (n : Int)).toNat 0 = x at d1 u1 u2
    generalize xs.getD ((q + 1) % (n : Int)).toNat 0 = y at d2 u3 u4
    clear hc
    by_cases h2 : 200 < k
    · go_enter Tryd.func47, Tryd.ntmps47
      go_wp2_with fail
      go_quiet (fail)
      go_wp2_with fail
      go_quiet (fail)
      go_wp2_with fail
      go_ret
      refine ⟨_, ⟨?_, ?_⟩, rfl, (H.out.step.below (below_drewN _ _ _)), gb_trans (gb_set _ _ _ _) (gb_drewN _ _ _)⟩
      · exact Int.emod_nonneg _ (by omega)
      · exact fun _ => Int.emod_lt_of_pos _ (by omega)
    · go_enter Tryd.func47, Tryd.ntmps47
      go_wp2_with fail
      go_quiet (fail)
      go_wp2_with fail
      go_ret
      refine ⟨_, ⟨?_, ?_⟩, rfl, (H.out.step.below (below_drewN _ _ _)), gb_trans (gb_set _ _ _ _) (gb_drewN _ _ _)⟩
      · exact Int.emod_nonneg _ (by omega)
      · exact fun _ => Int.emod_lt_of_pos _ (by omega)

theorem rd_lit (w : World) (ys : List Int) (t : TypeId) : Rd .i64 (w.alloc (.cells (ys.map (Value.int .i64)).toArray t)) (some ⟨w.heap.size, 0, none⟩) ys.length ys :=
  ⟨rfl, fun _ => ⟨w.heap.size, 0, rfl, fun i hi => by simp [hi]⟩⟩
theorem Src.gbNew {w : World} {g : Nat} {A : Option Addr} {n c : Nat} {xs : List Int} {q : Int} (h : Src w g A n c xs q) (o : Obj) : Src (w.alloc o) g A n c xs q := h.below (blAlloc _ _)
theorem Src.lt {w : World} {g : Nat} {A : Option Addr} {n c : Nat} {xs : List Int} {q : Int} (h : Src w g A n c xs q) : g < w.heap.size := cell_lt h.code

/-- a draw of one number: it has P, the source has gone on by at most d. -/
def DrawI (w : World) (g : Nat) (A : Option Addr) (n c : Nat) (xs : List Int) (q d : Int) (P : Int → Prop) (e : Ending) (w' : World) : Prop :=
  ∃ r q', P r ∧ e = .returned (.int .i64 r) ∧ q' ≤ q + d ∧ Src w' g A n c xs q' ∧ w.grownBy w' (some g)

set_option maxHeartbeats 400000 in
theorem pick_any (g : Nat) (A : Option Addr) (n c : Nat) (xs : List Int) (q : Int) (L : Option Addr) (m k : Nat) (ys : List Int) (P : Int → Prop) (w : World) (h : Src w g A n c xs q) (hq : q ≤ 1000000000)
    (hL : Rd .i64 w L m ys) (hm : 0 < m) (hm2 : m ≤ 1000) (hne : ∀ a, L = some a → a.block ≠ g) (hP : ∀ y ∈ ys, P y) :
    Calls Tryd.prog 40 #[.pointer (some ⟨g, 0, none⟩), .slice L m k] w (DrawI w g A n c xs q 1 P) := by
  obtain ⟨b, o, rfl, hc⟩ := hL.2 hm
  have HR := Lib.hid hL
  have HS := Lib.hid h
  have HC := Lib.hid hc
  have HN := Lib.hid hne
  have HP := Lib.hid hP
  clear hL h hc hne hP
  go_enter Tryd.func40, Tryd.ntmps40
  go_wp2_with fail
  refine (next_any g A n c xs q m _ HS.out hq (by omega)).mono ?_
  rintro e w1 ⟨r, ⟨hr0, hr1⟩, rfl, hs1, hg1⟩
  have hr2 := hr1 (by omega)
  obtain ⟨i, rfl⟩ : ∃ i : Nat, r = i := ⟨r.toNat, by omega⟩
  have him : i < m := by omega
  have c1 : w1.cell? ⟨b, o + i, none⟩ = some (.int .i64 (ys.getD i 0)) := by
    rw [gb_cell hg1 (p := ⟨b, o + i, none⟩) (cell_lt (HC.out i him)) (HN.out ⟨b, o, none⟩ rfl)]; exact HC.out i him
  have HP1 : Hid (P (ys.getD i 0)) := HP.out _ (by
    have := HR.out.1
    rw [List.getD_eq_getElem?_getD, List.getElem?_eq_getElem (by omega)]; simp)
  generalize ys.getD i 0 = y at c1 HP1
  have HS1 := Lib.hid hs1
  have HG1 := Lib.hid hg1
  clear hs1 hg1 hr0 hr1 hr2
  go_wp2_with fail
  go_ret
  exact ⟨y, q + 1, HP1.out, rfl, by omega, HS1.out, HG1.out⟩

set_option maxHeartbeats 400000 in
theorem chance_any (g : Nat) (A : Option Addr) (n c : Nat) (xs : List Int) (q k : Int) (w : World) (h : Src w g A n c xs q) (hq : q ≤ 1000000000) (hk : k ≤ 1000000000) :
    Calls Tryd.prog 64 #[.pointer (some ⟨g, 0, none⟩), .int .i64 k] w fun e w' => ∃ t : Bool, e = .returned (.bool t) ∧ Src w' g A n c xs (q + 1) ∧ w.grownBy w' (some g) := by
  have HS := Lib.hid h
  clear h
  go_enter Tryd.func64, Tryd.ntmps64
  go_wp2_with fail
  refine (next_any g A n c xs q k _ HS.out hq hk).mono ?_
  rintro e w1 ⟨r, ⟨hr0, hr1⟩, rfl, hs1, hg1⟩
  have HS1 := Lib.hid hs1
  have HG1 := Lib.hid hg1
  clear hs1 hg1
  go_wp2_with fail
  go_ret
  exact ⟨_, rfl, HS1.out, HG1.out⟩

def FixP (r : Int) : Prop := -16777216 ≤ r ∧ r ≤ 16777216
set_option maxHeartbeats 400000 in
theorem drawFix_any (g : Nat) (A : Option Addr) (n c : Nat) (xs : List Int) (q : Int) (w : World) (h : Src w g A n c xs q) (hq : q ≤ 900000000) :
    Calls Tryd.prog 41 #[.pointer (some ⟨g, 0, none⟩)] w (DrawI w g A n c xs q 2 FixP) := by
  have HS := Lib.hid h
  clear h
  go_enter Tryd.func41, Tryd.ntmps41
  go_wp2_with fail
  refine (next_any g A n c xs q 200000 _ HS.out (by omega) (by omega)).mono ?_
  rintro e w1 ⟨r, ⟨hr0, hr1⟩, rfl, hs1, hg1⟩
  have hr2 := hr1 (by omega)
  have HS1 := Lib.hid hs1
  have HG1 := Lib.hid hg1
  clear hs1 hg1 hr1
  go_wp2_with fail
  refine (pick_any g A n c xs (q + 1) _ 10 10 [0, 1, -1, 65536, -65536, 32768, 98304, r - 100000, 16777216, -16777216] FixP _ (HS1.out.gbNew _) (by omega) (rd_lit w1 [0, 1, -1, 65536, -65536, 32768, 98304, r - 100000, 16777216, -16777216] _) (by omega) (by omega) ?_ ?_).mono ?_
  · intro a e; injection e with e; subst e; have := HS1.out.lt; show w1.heap.size ≠ g; omega
  · intro y hy; simp at hy; unfold FixP; omega
  rintro e w2 ⟨y, q2, hP, rfl, hq2, hs2, hg2⟩
  have HS2 := Lib.hid hs2
  have HG2 := Lib.hid hg2
  have HP := Lib.hid hP
  clear hs2 hg2 hP
  go_wp2_with fail
  go_ret
  exact ⟨y, q2, HP.out, rfl, by omega, HS2.out, gb_trans HG1.out (gb_trans (gb_below _ (blAlloc _ _)) HG2.out)⟩
end Go.Proofs.YtfheofbgoaggmaaDoor
