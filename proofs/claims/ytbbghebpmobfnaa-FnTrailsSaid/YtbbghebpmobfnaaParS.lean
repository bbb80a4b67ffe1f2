/-
  A profile read from bytes: the reference model's l2Two and l2Entry.
-/
import Derived.Test.YtbbghebpmobfnaaOwnT
namespace Go.Proofs.Ytbbghebpmobfnaa
open Go.RowKit
set_option linter.unusedVariables false

set_option maxHeartbeats 1000000 in
theorem sTwo_any (A : Option Addr) (n c : Nat) (xs : List Int) (t : Nat) (w : World) (h : Rd .u8 w A n xs) (hx : U8s xs) (hn : n ≤ 1000000) (ht : t + 1 < n) (T : Int) (hT : T = (t : Int)) :
    Calls Try.prog 83 #[.slice A n c, .int .i64 T] w fun e w' => e = .returned (.int .i64 (twoAt xs t : Nat)) ∧ ∃ m, w' = w.drewN m := by
  subst hT
  obtain ⟨b, o, rfl, hcell⟩ := h.2 (by omega)
  have c0 := hcell t (by omega)
  have c1 := hcell (t + 1) (by omega)
  have HB := Lib.hid (twoAt_bd hx t).2
  obtain ⟨p0, q0⟩ := hx t
  obtain ⟨p1, q1⟩ := hx (t + 1)
  generalize xs.getD t 0 = y0 at *
  generalize xs.getD (t + 1) 0 = y1 at *
  clear h hcell hx
  go_enter Try.func83, Try.ntmps83
  go_wp2_with fail
  go_quiet (fail)
  go_wp2_with fail
  go_ret
  refine ⟨?_, _, rfl⟩
  rw [HB.out]
  rfl

/-- a code; and a tag, where the code is 0. -/
def EntAns (w : World) (c : Int) (t : Tg) (e : Ending) (w' : World) : Prop :=
  ∃ s B L cp, e = .returned (.tuple #[.agg #[.string s, .slice B L cp], .int .i64 c]) ∧ (c = 0 → s = t.1 ∧ Own w' (.ints .u8 t.2) (.slice B L cp) w.heap.size w'.heap.size) ∧ Below w.heap.size w w'
set_option maxRecDepth 100000 in
set_option maxHeartbeats 2000000 in
theorem sEntry_any (A : Option Addr) (n c : Nat) (xs : List Int) (a e : Nat) (w : World) (h : Rd .u8 w A n xs) (hx : U8s xs) (hnc : n ≤ c) (hn : n ≤ 1000000) (ha : a + 8 ≤ n) (he : e ≤ 1000000) (Z E : Int) (hZ : Z = (a : Int)) (hE : E = (e : Int)) :
    Calls Try.prog 72 #[.slice A n c, .int .i64 Z, .int .i64 E] w (EntAns w (entC xs a e) (entT xs a)) := by
  subst hZ hE
  obtain ⟨b, o, rfl, hcell⟩ := h.2 (by omega)
  obtain ⟨A1, hs1, hr1⟩ := slice_cut b o n c a (a + 4) ((a : Int) + 4) (a : Int) rfl (by omega) (by omega) (by omega) hnc
  have hd4 : a + 4 - a = 4 := by omega
  rw [hd4] at hs1 hr1
  have hsz : (nmAt xs a).size ≤ maxLen := nmAt_ok xs a
  have hcv : (convert 22 9 (.slice A1 4 (c - a))).run Try.prog (w.alloc (.cells #[.string ⟨#[]⟩, .slice none 0 0] 63)) = .ok (.string (nmAt xs a)) (w.alloc (.cells #[.string ⟨#[]⟩, .slice none 0 0] 63)) := run_convert_rd (c := c - a) (hr1 (w.alloc (.cells #[.string ⟨#[]⟩, .slice none 0 0] 63)) xs (h.alloc _))
  have H := Lib.hid h
  have HX := Lib.hid hx
  clear h hx hcell hr1
  go_enter Try.func72, Try.ntmps72
  go_wp2_with fail
  clear hcv hs1
  refine (sTwo_any _ _ _ xs (a + 4) _ ((H.out.alloc _).alloc _) HX.out hn (by omega) _ (by omega)).mono ?_
  rintro e2 w2 ⟨rfl, m2, rfl⟩
  go_wp2_with fail
  refine (sTwo_any _ _ _ xs (a + 6) _ (((H.out.alloc _).alloc _).drewN _) HX.out hn (by omega) _ (by omega)).mono ?_
  rintro e3 w3 ⟨rfl, m3, rfl⟩
  obtain ⟨u1, -⟩ := twoAt_bd HX.out (a + 4)
  obtain ⟨u2, -⟩ := twoAt_bd HX.out (a + 6)
  have HT : Hid (entT xs a = (nmAt xs a, (xs.drop (twoAt xs (a + 4))).take (twoAt xs (a + 6)))) := rfl
  have hEE : entC xs a e = if nm (nmAt xs a) = false then 5 else if twoAt xs (a + 4) < e ∨ twoAt xs (a + 4) % 4 ≠ 0 ∨ xs.length < twoAt xs (a + 4) + twoAt xs (a + 6) then 3 else 0 := rfl
  rw [H.out.1] at hEE
  have HQ := Lib.hid hEE
  clear hEE
  generalize twoAt xs (a + 4) = p at *
  generalize twoAt xs (a + 6) = q at *
  go_wp2_with fail
  refine (sName_any _ _ hsz).mono ?_
  rintro e4 w4 ⟨rfl, rfl⟩
  by_cases hnm : nm (nmAt xs a) = true
  · have bad : (p < e ∨ p % 4 ≠ 0 ∨ n < p + q) → Hid (entC xs a e = 3) := fun hh => by
      have := HQ.out
      rw [if_neg (by rw [hnm]; simp), if_pos hh] at this
      exact this
    have good : ¬ (p < e ∨ p % 4 ≠ 0 ∨ n < p + q) → Hid (entC xs a e = 0) := fun hh => by
      have := HQ.out
      rw [if_neg (by rw [hnm]; simp), if_neg hh] at this
      exact this
    clear HQ
    rw [hnm]
    by_cases h1 : p < e
    · have B := bad (.inl h1)
      clear bad good
      go_wp2_with fail
      refine bodyPost_ret (v := .tuple #[.agg #[.string (nmAt xs a), .slice none 0 0], .int .i64 3]) (by simp [results, Try.results72, go_sem]) rfl ?_
      rw [B.out]
      exact ⟨_, _, _, _, rfl, fun h => by omega, set2_below (blThenDrew (blThenAlloc (blAlloc _ _) _) _)⟩
    · by_cases h2 : p % 4 = 0
      · by_cases h3 : p + q ≤ n
        · have G := good (by omega)
          clear bad good
          obtain ⟨A2, hs2, hr2⟩ := slice_cut b o n c p (p + q) ((p : Int) + q) (p : Int) rfl (by omega) (by omega) (by omega) hnc
          have hdq : p + q - p = q := by omega
          rw [hdq] at hs2 hr2
          have HR2 := Lib.hid hr2
          clear hr2
          go_wp2_with fail
          refine (sCopy_any _ _ _ _ _ (HR2.out _ xs (((H.out.alloc _).alloc _).drewN _)) (by omega)).mono ?_
          rintro e4 w4 ⟨B4, cp4, rfl, ho4, hb4⟩
          have hz4 : w.heap.size + 2 ≤ w4.heap.size := by have := hb4.size; simpa using this
          obtain ⟨y0, y1⟩ : Box2 w4 w.heap.size (.string ⟨#[]⟩) (.slice none 0 0) := Box2.below (((Box2.new w 63 _ _).alloc (.cells #[.string (nmAt xs a), .slice none 0 0] 63)).below (below_drewN _ (m2 + m3) _)) hb4
          obtain ⟨z0, z1⟩ : Box2 w4 (w.heap.size + 1) (.string (nmAt xs a)) (.slice none 0 0) := by
            have hh := ((Box2.new (w.alloc (.cells #[.string ⟨#[]⟩, .slice none 0 0] 63)) 63 (.string (nmAt xs a)) (.slice none 0 0)).below (below_drewN _ (m2 + m3) _)).below hb4
            rw [World.size_alloc] at hh
            exact hh
          obtain ⟨k0, k1⟩ : w4.frozen? ⟨w.heap.size, 0, none⟩ = false ∧ w4.frozen? ⟨w.heap.size, 1, none⟩ = false := by
            constructor <;> rw [hb4.frozen (by simp; omega)] <;> simp
          obtain ⟨j0, j1⟩ : w4.frozen? ⟨w.heap.size + 1, 0, none⟩ = false ∧ w4.frozen? ⟨w.heap.size + 1, 1, none⟩ = false := by
            constructor <;> rw [hb4.frozen (by simp)] <;> simp
          have T4 := Lib.hid (blThen (blThenDrew (blThenAlloc (blAlloc w (.cells #[.string ⟨#[]⟩, .slice none 0 0] 63)) (.cells #[.string (nmAt xs a), .slice none 0 0] 63)) (m2 + m3)) hb4)
          have O4 := Lib.hid ho4
          clear ho4 hb4 hs2 HR2
          go_wp2_with fail
          refine bodyPost_ret (v := .tuple #[.agg #[.string (nmAt xs a), .slice B4 q cp4], .int .i64 0]) (by simp [results, Try.results72, go_sem, y0, y1]) rfl ?_
          rw [G.out]
          refine ⟨_, _, _, _, rfl, fun _ => ⟨rfl, ?_⟩, set2_below (T4.out.setCell (p := ⟨w.heap.size + 1, 1, none⟩) (by simp) _)⟩
          rw [HT.out]
          refine Own.mono (lo := w.heap.size + 2) (hi := w4.heap.size) ?_ (by omega) (by simp [World.setCell])
          repeat (first | exact (O4.out.mono (by simp) (Nat.le_refl _)) | refine Own.set ?_ (.inl (by omega)) _ _)
        · have B := bad (by omega)
          clear bad good
          go_wp2_with fail
          refine bodyPost_ret (v := .tuple #[.agg #[.string (nmAt xs a), .slice none 0 0], .int .i64 3]) (by simp [results, Try.results72, go_sem]) rfl ?_
          rw [B.out]
          exact ⟨_, _, _, _, rfl, fun h => by omega, set2_below (blThenDrew (blThenAlloc (blAlloc _ _) _) _)⟩
      · have B := bad (by omega)
        clear bad good
        have hq4 : ¬ (p : Int) % 4 = 0 := by omega
        have hq5 : ((p : Int) % 4 != 0) = true := by simpa using hq4
        go_wp2_with fail
        refine bodyPost_ret (v := .tuple #[.agg #[.string (nmAt xs a), .slice none 0 0], .int .i64 3]) (by simp [results, Try.results72, go_sem]) rfl ?_
        rw [B.out]
        exact ⟨_, _, _, _, rfl, fun h => by omega, set2_below (blThenDrew (blThenAlloc (blAlloc _ _) _) _)⟩
  · have hnm : nm (nmAt xs a) = false := by simpa using hnm
    have hC : Hid (entC xs a e = 5) := by have := HQ.out; rw [if_pos hnm] at this; exact this
    rw [hnm]
    go_wp2_with fail
    refine bodyPost_ret (v := .tuple #[.agg #[.string (nmAt xs a), .slice none 0 0], .int .i64 5]) (by simp [results, Try.results72, go_sem]) rfl ?_
    rw [hC.out]
    exact ⟨_, _, _, _, rfl, fun h => by omega, set2_below (blThenDrew (blThenAlloc (blAlloc _ _) _) _)⟩
end Go.Proofs.Ytbbghebpmobfnaa
