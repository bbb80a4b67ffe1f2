/-
  The other draws of grids: DrawLineGrid, DrawSpanOf, DrawNodeOf.
-/
import Derived.Test.YthplngcdldongaaDrawF
namespace Go.Proofs.Ythplngcdldongaa
open Go.RowKit
set_option linter.unusedVariables false
set_option linter.unusedSimpArgs false

set_option maxHeartbeats 1000000 in
theorem drawLineGrid_any (A : Option Addr) (n c : Nat) (xs : List Int) (w : World) (h : Code w A n xs) :
    Calls Try.prog 13 #[.slice A n c] w fun e w' => ∃ k, e = .returned (.int .i64 k) ∧ Below w.heap.size w w' := by
  have H := Lib.hid h
  clear h
  go_enter Try.func13, Try.ntmps13
  go_wp2_with fail
  refine (source_any A n c xs _ H.out.reads H.out.u8 H.out.small).mono ?_
  rintro e w1 ⟨rfl, hs1, hb1, hl1⟩
  have HS1 := Lib.hid hs1
  have HB1 := Lib.hid hb1
  clear hs1 hb1
  go_wp2_with fail
  refine (pick_any w.heap.size A n c xs 0 _ 5 5 [2, 3, 4, 5, 1] (fun _ => True) _ (HS1.out.gbNew _) (by omega) (rd_lit w1 [2, 3, 4, 5, 1] _) (by omega) (by omega) ?_ (fun _ _ => trivial)).mono ?_
  · intro a e; injection e with e; subst e; have := HS1.out.lt; show w1.heap.size ≠ w.heap.size; omega
  rintro e w2 ⟨sd, q2, -, rfl, hq2, hs2, hg2⟩
  have HB2 : Hid (Below w.heap.size w w2) := below_gb HB1.out (gb_trans (gb_below _ (blAlloc _ _)) hg2)
  clear hs2 hg2
  go_wp2_with fail
  go_ret
  exact ⟨_, rfl, HB2.out⟩
def DrSG (w : World) (e : Ending) (w' : World) : Prop := ∃ sd G k cp rs, e = .returned (.agg #[.int .i64 sd, .slice G k cp]) ∧ (∃ bs, Hd w' (rowsD rs) (.slice G k cp) bs) ∧ Below w.heap.size w w'
set_option maxRecDepth 100000 in
set_option maxHeartbeats 1000000 in
theorem drawSpanOf_any (A : Option Addr) (n c : Nat) (xs : List Int) (w : World) (h : Code w A n xs) :
    Calls Try.prog 12 #[.slice A n c] w (DrSG w) := by
  have H := Lib.hid h
  clear h
  go_enter Try.func12, Try.ntmps12
  go_wp2_with fail
  refine (source_any A n c xs _ (H.out.alloc _).reads H.out.u8 H.out.small).mono ?_
  rintro e w1 ⟨rfl, hs1, hb1, hl1⟩
  simp only [World.size_alloc] at hs1 hb1 hl1 ⊢
  have HS1 := Lib.hid hs1
  have B1 : Hid (Below w.heap.size w w1) := (blAlloc w _).trans (hb1.mono (by omega))
  have R1 : Hid (Bx w1 w.heap.size [.int .i64 0, .slice none 0 0]) := (Bx.new w _ _ rfl).bel (by simpa using hb1)
  clear hs1 hb1
  go_wp2_with fail
  refine (bent5_any (w.heap.size + 1) A n c xs 0 _ HS1.out (by omega)).mono ?_
  rintro e w2 ⟨sd, G, k, cp, rs, q2, rfl, hk7, hk64, ho2, hq2, hs2, hg2⟩
  have B2 : Hid (Below w.heap.size w w2) := B1.out.trans (gb_to_below hg2 (by omega) B1.out.size)
  have R2 := Lib.hid (R1.out.grownG hg2 (by omega))
  have O2 := Lib.hid ho2
  have hz2 : w.heap.size < w2.heap.size := R2.out.lt
  clear hs2 hg2 ho2
  have r0 := R2.out.c 0 rfl
  have r1 := R2.out.c 1 rfl
  have z0 := R2.out.f 0
  have z1 := R2.out.f 1
  have zl := R2.out.lt
  go_wp2_with fail
  have KK := (R2.out.set 0 (.int .i64 sd)).set 1 (.slice G k cp)
  have k0 := KK.c 0 rfl
  have k1 := KK.c 1 rfl
  clear KK
  refine bodyPost_ret (v := .agg #[.int .i64 sd, .slice G k cp]) (by simp [results, Try.results12, go_sem, k0, k1]) rfl ⟨sd, G, k, cp, rs, rfl, ?_, bel_2d B2.out _ _⟩
  exact ((O2.out.set (.inl (by omega)) _ _).set (.inl (by omega)) _ _).hd
def DrNO (w : World) (e : Ending) (w' : World) : Prop := ∃ sd G k cp rs H m d ps, e = .returned (.tuple #[.agg #[.int .i64 sd, .slice G k cp], .slice H m d]) ∧ I64s ps ∧ (∃ bs, Hd w' (rowsD rs) (.slice G k cp) bs) ∧ (∃ gs, Hd w' (.ints .i64 ps) (.slice H m d) gs) ∧ Below w.heap.size w w'
set_option maxRecDepth 100000 in
set_option maxHeartbeats 1000000 in
theorem drawNodeOf_any (A : Option Addr) (n c : Nat) (xs : List Int) (w : World) (h : Code w A n xs) :
    Calls Try.prog 10 #[.slice A n c] w (DrNO w) := by
  have H := Lib.hid h
  clear h
  go_enter Try.func10, Try.ntmps10
  go_wp2_with fail
  refine (source_any A n c xs _ (H.out.alloc _).reads H.out.u8 H.out.small).mono ?_
  rintro e w1 ⟨rfl, hs1, hb1, hl1⟩
  simp only [World.size_alloc] at hs1 hb1 hl1 ⊢
  have HS1 := Lib.hid hs1
  have B1 : Hid (Below w.heap.size w w1) := (blAlloc w _).trans (hb1.mono (by omega))
  have R1 : Hid (Bx w1 w.heap.size [.int .i64 0, .slice none 0 0]) := (Bx.new w _ _ rfl).bel (by simpa using hb1)
  clear hs1 hb1
  go_wp2_with fail
  refine (bent5_any (w.heap.size + 1) A n c xs 0 _ HS1.out (by omega)).mono ?_
  rintro e w2 ⟨sd, G, k, cp, rs, q2, rfl, hk7, hk64, ho2, hq2, hs2, hg2⟩
  obtain ⟨W2, hW2⟩ : ∃ W2, W2 = w2.alloc (.cells #[.int .i64 sd, .slice G k cp] 26) := ⟨_, rfl⟩
  have b2W : Below w2.heap.size w2 W2 := by rw [hW2]; exact blAlloc _ _
  have HS2 := Lib.hid (hs2.below b2W)
  have B2 : Hid (Below w.heap.size w W2) := blThen (B1.out.trans (gb_to_below hg2 (by omega) B1.out.size)) b2W
  have R2 := Lib.hid ((R1.out.grownG hg2 (by omega)).bel b2W)
  have X2 : Hid (Bx W2 w2.heap.size [.int .i64 sd, .slice G k cp]) := by show Bx _ _ _; rw [hW2]; exact Bx.new _ _ _ rfl
  have O2 := Lib.hid (ho2.below b2W)
  have HW2 := Lib.hid hW2
  have hz0 : w1.heap.size ≤ w2.heap.size := hg2.size
  clear hs2 hg2 ho2 hW2 b2W
  have hz1 : w.heap.size + 1 < w1.heap.size := HS1.out.lt
  go_wp2_with fail
  rw [← HW2.out]
  clear HW2
  refine (next_any (w.heap.size + 1) A n c xs q2 4 _ HS2.out (by omega) (by omega)).mono ?_
  rintro e w3 ⟨a, ⟨pa0, pa1⟩, rfl, hs3, hg3⟩
  have pa2 := pa1 (by omega)
  have S3 := Lib.hid hs3
  have G3 := Lib.hid hg3
  clear hs3 hg3 pa1
  go_wp2_with fail
  refine (next_any (w.heap.size + 1) A n c xs (q2 + 1) 3 _ S3.out (by omega) (by omega)).mono ?_
  rintro e w4 ⟨b, ⟨pb0, pb1⟩, rfl, hs4, hg4⟩
  have pb2 := pb1 (by omega)
  have S4 := Lib.hid hs4
  have G4 := Lib.hid (gb_trans G3.out hg4)
  clear hs4 hg4 S3 G3 pb1
  go_wp2_with fail
  refine (next_any (w.heap.size + 1) A n c xs (q2 + 1 + 1) 2 _ S4.out (by omega) (by omega)).mono ?_
  rintro e w5 ⟨d, ⟨pd0, pd1⟩, rfl, hs5, hg5⟩
  have pd2 := pd1 (by omega)
  obtain ⟨W5, hW5⟩ : ∃ W5, W5 = w5.alloc (.cells #[.int .i64 a, .int .i64 b, .int .i64 d] 2) := ⟨_, rfl⟩
  have b5W : Below w5.heap.size w5 W5 := by rw [hW5]; exact blAlloc _ _
  have S5 := Lib.hid (hs5.below b5W)
  have G5 : Hid (W2.grownBy W5 (some (w.heap.size + 1))) := gb_trans (gb_trans G4.out hg5) (gb_below _ b5W)
  have N5 : Hid (Bx W5 w5.heap.size [.int .i64 a, .int .i64 b, .int .i64 d]) := by show Bx _ _ _; rw [hW5]; exact Bx.new _ _ _ (by simp)
  have hz5 : W2.heap.size ≤ w5.heap.size := (gb_trans G4.out hg5).size
  have HW5 := Lib.hid hW5
  clear hs5 hg5 S4 G4 hW5 b5W pd1
  go_wp2_with fail
  rw [← HW5.out]
  clear HW5
  refine (chance_any (w.heap.size + 1) A n c xs (q2 + 1 + 1 + 1) 12 _ S5.out (by omega) (by omega)).mono ?_
  rintro e w6 ⟨t, rfl, hs6, hg6⟩
  have hgg : W2.grownBy w6 (some (w.heap.size + 1)) := gb_trans G5.out hg6
  have hw2 : w2.heap.size < W2.heap.size := X2.out.lt
  have B6 : Hid (Below w.heap.size w w6) := B2.out.trans (gb_to_below hgg (by omega) B2.out.size)
  have R6 := Lib.hid (R2.out.grownG hgg (by omega))
  have X6 := Lib.hid (X2.out.grownG hgg (by omega))
  have O6 := Lib.hid (own_gb O2.out hgg (by omega))
  have N6 := Lib.hid (N5.out.grownG hg6 (by omega))
  have hz6 : w.heap.size < w2.heap.size := by omega
  clear hs6 hg6 hgg S5 G5 N5 B2 R2 X2 O2
  have x0 := X6.out.c 0 rfl
  have x1 := X6.out.c 1 rfl
  have xl := X6.out.lt
  have r0 := R6.out.c 0 rfl
  have r1 := R6.out.c 1 rfl
  have z0 := R6.out.f 0
  have z1 := R6.out.f 1
  have zl := R6.out.lt
  have NN := (N6.out.oth (c := w.heap.size) (by omega) 0 (.int .i64 sd)).oth (c := w.heap.size) (by omega) 1 (.slice G k cp)
  obtain ⟨ng, hn⟩ := (own3L NN).hd
  have hn2 := (Own.tailI (m := 2) (own3L NN) (by omega)).hd
  have HN2 := Lib.hid hn2
  have KK := (R6.out.set 0 (.int .i64 sd)).set 1 (.slice G k cp)
  have k0 := KK.c 0 rfl
  have k1 := KK.c 1 rfl
  have HN := Lib.hid hn
  clear KK NN hn hn2
  cases t
  · go_wp2_with fail
    refine bodyPost_ret (v := .tuple #[.agg #[.int .i64 sd, .slice G k cp], .slice (some ⟨w5.heap.size, 0, none⟩) 3 3]) (by simp [results, Try.results10, go_sem, k0, k1]) rfl ⟨sd, G, k, cp, rs, _, 3, 3, [a, b, d], rfl, ?_, ?_, ⟨_, HN.out⟩, bel_2d B6.out _ _⟩
    · intro i
      match i with
      | 0 => exact ⟨by show _ ≤ a; omega, by show a ≤ _; omega⟩
      | 1 => exact ⟨by show _ ≤ b; omega, by show b ≤ _; omega⟩
      | 2 => exact ⟨by show _ ≤ d; omega, by show d ≤ _; omega⟩
      | i + 3 => exact ⟨by show (-9223372036854775808 : Int) ≤ 0; omega, by show (0 : Int) ≤ 9223372036854775807; omega⟩
    · exact ((O6.out.set (.inl (by omega)) _ _).set (.inl (by omega)) _ _).hd
  · go_wp2_with fail
    refine bodyPost_ret (v := .tuple #[.agg #[.int .i64 sd, .slice G k cp], .slice (some ⟨w5.heap.size, 1, none⟩) 2 2]) (by simp [results, Try.results10, go_sem, k0, k1]) rfl ⟨sd, G, k, cp, rs, _, 2, 2, [b, d], rfl, ?_, ?_, ?_, bel_2d B6.out _ _⟩
    · intro i
      match i with
      | 0 => exact ⟨by show _ ≤ b; omega, by show b ≤ _; omega⟩
      | 1 => exact ⟨by show _ ≤ d; omega, by show d ≤ _; omega⟩
      | i + 2 => exact ⟨by show (-9223372036854775808 : Int) ≤ 0; omega, by show (0 : Int) ≤ 9223372036854775807; omega⟩
    · exact ((O6.out.set (.inl (by omega)) _ _).set (.inl (by omega)) _ _).hd
    · exact HN2.out
end Go.Proofs.Ythplngcdldongaa
