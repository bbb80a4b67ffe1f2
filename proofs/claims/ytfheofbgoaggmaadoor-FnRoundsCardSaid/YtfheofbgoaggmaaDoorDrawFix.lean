/-
  The draws of chapter 1: DrawRoundDiv, DrawMulFix, DrawDivFix, DrawClampLevel, DrawCubeRoot, DrawPutFix come back with some numbers, and nothing that was there has turned.
-/
import Derived.Test.YtfheofbgoaggmaaDoorDraw
namespace Go.Proofs.YtfheofbgoaggmaaDoor
open Go.RowKit
set_option linter.unusedVariables false

def AnyI (r : Int) : Prop := True
set_option maxHeartbeats 400000 in
theorem bentFix_any (g : Nat) (A : Option Addr) (n c : Nat) (xs : List Int) (q : Int) (w : World) (h : Src w g A n c xs q) (hq : q ≤ 800000000) :
    Calls Tryd.prog 44 #[.pointer (some ⟨g, 0, none⟩)] w (DrawI w g A n c xs q 3 AnyI) := by
  have HS := Lib.hid h
  clear h
  go_enter Tryd.func44, Tryd.ntmps44
  go_wp2_with fail
  refine (chance_any g A n c xs q 10 _ HS.out (by omega) (by omega)).mono ?_
  rintro e w1 ⟨t, rfl, hs1, hg1⟩
  have HS1 := Lib.hid hs1
  have HG1 := Lib.hid hg1
  clear hs1 hg1
  cases t
  · go_wp2_with fail
    refine (drawFix_any g A n c xs (q + 1) _ HS1.out (by omega)).mono ?_
    rintro e w2 ⟨y, q2, hP, rfl, hq2, hs2, hg2⟩
    have HS2 := Lib.hid hs2
    have HG2 := Lib.hid hg2
    clear hs2 hg2 hP
    go_wp2_with fail
    go_ret
    exact ⟨y, q2, trivial, rfl, by omega, HS2.out, gb_trans HG1.out HG2.out⟩
  · go_wp2_with fail
    refine (pick_any g A n c xs (q + 1) _ 2 2 [16777217, -16777217] AnyI _ (HS1.out.gbNew _) (by omega) (rd_lit w1 [16777217, -16777217] _) (by omega) (by omega) ?_ (fun _ _ => trivial)).mono ?_
    · intro a e; injection e with e; subst e; have := HS1.out.lt; show w1.heap.size ≠ g; omega
    rintro e w2 ⟨y, q2, hP, rfl, hq2, hs2, hg2⟩
    have HS2 := Lib.hid hs2
    have HG2 := Lib.hid hg2
    clear hs2 hg2 hP
    go_wp2_with fail
    go_ret
    exact ⟨y, q2, trivial, rfl, by omega, HS2.out, gb_trans HG1.out (gb_trans (gb_below _ (blAlloc _ _)) HG2.out)⟩

/-- a code that is read: the source's start. -/
theorem source_any (A : Option Addr) (n c : Nat) (xs : List Int) (w : World) (h : Rd .u8 w A n xs) (hx : U8s xs) (hn : n ≤ 1048576) :
    Calls Tryd.prog 39 #[.slice A n c] w fun e w' => e = .returned (.pointer (some ⟨w.heap.size, 0, none⟩)) ∧ Src w' w.heap.size A n c xs 0 ∧ Below w.heap.size w w' ∧ w.heap.size < w'.heap.size := by
  have H := Lib.hid h
  clear h
  go_enter Tryd.func39, Tryd.ntmps39
  go_wp2
  go_ret
  exact ⟨rfl, ⟨by simp, by simp, by simp, H.out.alloc _, hx, hn, fun hp a e => by obtain ⟨b, o, e', hc⟩ := H.out.2 hp; rw [e] at e'; injection e' with e'; subst e'; have := cell_lt (hc 0 hp); show b ≠ w.heap.size; omega, by omega⟩, blAlloc _ _, by simp⟩

/-- the code of a law, as the frame hands it on. -/
structure Code (w : World) (A : Option Addr) (n : Nat) (xs : List Int) : Prop where
  reads : Rd .u8 w A n xs
  u8 : U8s xs
  small : n ≤ 1048576
theorem Code.below {w w' : World} {A : Option Addr} {n : Nat} {xs : List Int} (h : Code w A n xs) (hb : Below w.heap.size w w') : Code w' A n xs :=
  ⟨h.reads.below hb, h.u8, h.small⟩
theorem Code.alloc {w : World} {A : Option Addr} {n : Nat} {xs : List Int} (h : Code w A n xs) (o : Obj) : Code (w.alloc o) A n xs := h.below (blAlloc _ _)

def Draw1 (w : World) (e : Ending) (w' : World) : Prop := ∃ a : Int, e = .returned (.int .i64 a) ∧ Below w.heap.size w w'
def Draw2 (w : World) (e : Ending) (w' : World) : Prop := ∃ a b : Int, e = .returned (.tuple #[.int .i64 a, .int .i64 b]) ∧ Below w.heap.size w w'
theorem below_gb {w W w' : World} (h : Below w.heap.size w W) (hg : W.grownBy w' (some w.heap.size)) : Below w.heap.size w w' :=
  h.trans (gb_to_below hg (Nat.le_refl _) h.size)

set_option maxHeartbeats 1000000 in
theorem drawRoundDiv_any (A : Option Addr) (n c : Nat) (xs : List Int) (w : World) (h : Code w A n xs) : Calls Tryd.prog 12 #[.slice A n c] w (Draw2 w) := by
  have H := Lib.hid h
  clear h
  go_enter Tryd.func12, Tryd.ntmps12
  go_wp2_with fail
  refine (source_any A n c xs w H.out.reads H.out.u8 H.out.small).mono ?_
  rintro e w1 ⟨rfl, hs1, hb1, hz1⟩
  have HS1 := Lib.hid hs1
  have HB1 := Lib.hid hb1
  clear hs1 hb1
  go_wp2_with fail
  refine (drawFix_any _ A n c xs 0 _ HS1.out (by omega)).mono ?_
  rintro e w2 ⟨y, q2, hP, rfl, hq2, hs2, hg2⟩
  have HS2 := Lib.hid hs2
  have HG2 := Lib.hid hg2
  clear hs2 hg2 hP
  go_wp2_with fail
  refine (pick_any _ A n c xs q2 _ 7 7 [y, 5, -5, -3, 1000000000000000, -1000000000000000, 1000000000000001] AnyI _ (HS2.out.gbNew _) (by omega) (rd_lit w2 [y, 5, -5, -3, 1000000000000000, -1000000000000000, 1000000000000001] _) (by omega) (by omega) ?_ (fun _ _ => trivial)).mono ?_
  · intro a e; injection e with e; subst e; have := HS2.out.lt; show w2.heap.size ≠ w.heap.size; omega
  rintro e w3 ⟨a, q3, _, rfl, hq3, hs3, hg3⟩
  have HS3 := Lib.hid hs3
  have HG3 := Lib.hid hg3
  clear hs3 hg3
  go_wp2_with fail
  refine (pick_any _ A n c xs q3 _ 8 8 [1, 2, 3, 10, 65535, 1000000000, 0, 1000000001] AnyI _ (HS3.out.gbNew _) (by omega) (rd_lit w3 [1, 2, 3, 10, 65535, 1000000000, 0, 1000000001] _) (by omega) (by omega) ?_ (fun _ _ => trivial)).mono ?_
  · intro a e; injection e with e; subst e; have := HS3.out.lt; show w3.heap.size ≠ w.heap.size; omega
  rintro e w4 ⟨b, q4, _, rfl, hq4, hs4, hg4⟩
  have HG4 := Lib.hid hg4
  clear hs4 hg4
  go_wp2_with fail
  go_ret2
  exact ⟨a, b, rfl, below_gb HB1.out (gb_trans HG2.out (gb_trans (gb_below _ (blAlloc _ _)) (gb_trans HG3.out (gb_trans (gb_below _ (blAlloc _ _)) HG4.out))))⟩

set_option maxHeartbeats 1000000 in
theorem drawMulFix_any (A : Option Addr) (n c : Nat) (xs : List Int) (w : World) (h : Code w A n xs) : Calls Tryd.prog 14 #[.slice A n c] w (Draw2 w) := by
  have H := Lib.hid h
  clear h
  go_enter Tryd.func14, Tryd.ntmps14
  go_wp2_with fail
  refine (source_any A n c xs w H.out.reads H.out.u8 H.out.small).mono ?_
  rintro e w1 ⟨rfl, hs1, hb1, hz1⟩
  have HS1 := Lib.hid hs1
  have HB1 := Lib.hid hb1
  clear hs1 hb1
  go_wp2_with fail
  refine (bentFix_any _ A n c xs 0 _ HS1.out (by omega)).mono ?_
  rintro e w2 ⟨a, q2, _, rfl, hq2, hs2, hg2⟩
  have HS2 := Lib.hid hs2
  have HG2 := Lib.hid hg2
  clear hs2 hg2
  go_wp2_with fail
  refine (bentFix_any _ A n c xs q2 _ HS2.out (by omega)).mono ?_
  rintro e w3 ⟨b, q3, _, rfl, hq3, hs3, hg3⟩
  have HG3 := Lib.hid hg3
  clear hs3 hg3
  go_wp2_with fail
  go_ret2
  exact ⟨a, b, rfl, below_gb HB1.out (gb_trans HG2.out HG3.out)⟩

set_option maxHeartbeats 400000 in
theorem drawDivFix_any (A : Option Addr) (n c : Nat) (xs : List Int) (w : World) (h : Code w A n xs) : Calls Tryd.prog 16 #[.slice A n c] w (Draw2 w) := by
  have H := Lib.hid h
  clear h
  go_enter Tryd.func16, Tryd.ntmps16
  go_wp2_with fail
  refine (drawMulFix_any A n c xs w H.out).mono ?_
  rintro e w1 ⟨a, b, rfl, hb1⟩
  have HB1 := Lib.hid hb1
  clear hb1
  go_wp2_with fail
  go_ret2
  exact ⟨a, b, rfl, HB1.out⟩

set_option maxHeartbeats 1000000 in
theorem drawClamp_any (A : Option Addr) (n c : Nat) (xs : List Int) (w : World) (h : Code w A n xs) : Calls Tryd.prog 18 #[.slice A n c] w (Draw1 w) := by
  have H := Lib.hid h
  clear h
  go_enter Tryd.func18, Tryd.ntmps18
  go_wp2_with fail
  refine (source_any A n c xs w H.out.reads H.out.u8 H.out.small).mono ?_
  rintro e w1 ⟨rfl, hs1, hb1, hz1⟩
  have HS1 := Lib.hid hs1
  have HB1 := Lib.hid hb1
  clear hs1 hb1
  go_wp2_with fail
  refine (next_any _ A n c xs 0 70000 _ HS1.out (by omega) (by omega)).mono ?_
  rintro e w2 ⟨r, _, rfl, hs2, hg2⟩
  have HS2 := Lib.hid hs2
  have HG2 := Lib.hid hg2
  clear hs2 hg2
  go_wp2_with fail
  refine (pick_any _ A n c xs (0 + 1) _ 5 5 [-1, 0, 65535, 65536, r] AnyI _ (HS2.out.gbNew _) (by omega) (rd_lit w2 [-1, 0, 65535, 65536, r] _) (by omega) (by omega) ?_ (fun _ _ => trivial)).mono ?_
  · intro a e; injection e with e; subst e; have := HS2.out.lt; show w2.heap.size ≠ w.heap.size; omega
  rintro e w3 ⟨a, q3, _, rfl, hq3, hs3, hg3⟩
  have HG3 := Lib.hid hg3
  clear hs3 hg3
  go_wp2_with fail
  go_ret
  exact ⟨a, rfl, below_gb HB1.out (gb_trans HG2.out (gb_trans (gb_below _ (blAlloc _ _)) HG3.out))⟩

set_option maxHeartbeats 1000000 in
theorem drawCube_any (A : Option Addr) (n c : Nat) (xs : List Int) (w : World) (h : Code w A n xs) : Calls Tryd.prog 24 #[.slice A n c] w (Draw1 w) := by
  have H := Lib.hid h
  clear h
  go_enter Tryd.func24, Tryd.ntmps24
  go_wp2_with fail
  refine (source_any A n c xs w H.out.reads H.out.u8 H.out.small).mono ?_
  rintro e w1 ⟨rfl, hs1, hb1, hz1⟩
  have HS1 := Lib.hid hs1
  have HB1 := Lib.hid hb1
  clear hs1 hb1
  go_wp2_with fail
  refine (next_any _ A n c xs 0 100000 _ HS1.out (by omega) (by omega)).mono ?_
  rintro e w2 ⟨r, _, rfl, hs2, hg2⟩
  have HS2 := Lib.hid hs2
  have HG2 := Lib.hid hg2
  clear hs2 hg2
  go_wp2_with fail
  refine (pick_any _ A n c xs (0 + 1) _ 11 11 [0, 1, 7, 8, 26, 27, 1000000000000000, 999999999999999, 1000000000000001, -1, r] AnyI _ (HS2.out.gbNew _) (by omega) (rd_lit w2 [0, 1, 7, 8, 26, 27, 1000000000000000, 999999999999999, 1000000000000001, -1, r] _) (by omega) (by omega) ?_ (fun _ _ => trivial)).mono ?_
  · intro a e; injection e with e; subst e; have := HS2.out.lt; show w2.heap.size ≠ w.heap.size; omega
  rintro e w3 ⟨a, q3, _, rfl, hq3, hs3, hg3⟩
  have HG3 := Lib.hid hg3
  clear hs3 hg3
  go_wp2_with fail
  go_ret
  exact ⟨a, rfl, below_gb HB1.out (gb_trans HG2.out (gb_trans (gb_below _ (blAlloc _ _)) HG3.out))⟩

set_option maxHeartbeats 1000000 in
theorem drawPut_any (A : Option Addr) (n c : Nat) (xs : List Int) (w : World) (h : Code w A n xs) : Calls Tryd.prog 26 #[.slice A n c] w (Draw1 w) := by
  have H := Lib.hid h
  clear h
  go_enter Tryd.func26, Tryd.ntmps26
  go_wp2_with fail
  refine (source_any A n c xs w H.out.reads H.out.u8 H.out.small).mono ?_
  rintro e w1 ⟨rfl, hs1, hb1, hz1⟩
  have HS1 := Lib.hid hs1
  have HB1 := Lib.hid hb1
  clear hs1 hb1
  go_wp2_with fail
  refine (bentFix_any _ A n c xs 0 _ HS1.out (by omega)).mono ?_
  rintro e w2 ⟨a, q2, _, rfl, hq2, hs2, hg2⟩
  have HG2 := Lib.hid hg2
  clear hs2 hg2
  go_wp2_with fail
  go_ret
  exact ⟨a, rfl, below_gb HB1.out HG2.out⟩
end Go.Proofs.YtfheofbgoaggmaaDoor
