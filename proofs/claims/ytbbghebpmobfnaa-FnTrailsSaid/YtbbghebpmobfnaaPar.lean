/-
  A profile read from bytes: what is read, as lists; impl.getTwo, readTag.
-/
import Derived.Test.YtbbghebpmobfnaaFind
import Derived.Test.YtbbghebpmobfnaaSame
import Derived.Lib.SlBytesRow
namespace Go.Proofs.Ytbbghebpmobfnaa
open Go.RowKit
set_option linter.unusedVariables false

def twoAt (xs : List Int) (a : Nat) : Nat := (256 * xs.getD a 0 + xs.getD (a + 1) 0).toNat
def nmAt (xs : List Int) (a : Nat) : ByteArray := strOfNums ((xs.drop a).take 4)
def entT (xs : List Int) (a : Nat) : Tg := (nmAt xs a, (xs.drop (twoAt xs (a + 4))).take (twoAt xs (a + 6)))
def entC (xs : List Int) (a e : Nat) : Int := if nm (nmAt xs a) = false then 5 else if twoAt xs (a + 4) < e ∨ twoAt xs (a + 4) % 4 ≠ 0 ∨ xs.length < twoAt xs (a + 4) + twoAt xs (a + 6) then 3 else 0
def rdC (xs : List Int) (e : Nat) : Nat → Int
  | 0 => 0
  | i + 1 => if rdC xs e i = 0 then entC xs (6 + 8 * i) e else rdC xs e i
def rdT (xs : List Int) (i : Nat) : List Tg := (List.range i).map fun j => entT xs (6 + 8 * j)
theorem rdT_len (xs : List Int) (i : Nat) : (rdT xs i).length = i := by simp [rdT]
theorem rdT_get {xs : List Int} {i j : Nat} (h : j < i) : tg (rdT xs i) j = entT xs (6 + 8 * j) := by unfold tg rdT; simp [List.getD, h]
theorem twoAt_bd {xs : List Int} (h : U8s xs) (a : Nat) : twoAt xs a ≤ 65535 ∧ (twoAt xs a : Int) = 256 * xs.getD a 0 + xs.getD (a + 1) 0 := by
  have h1 := h a
  have h2 := h (a + 1)
  unfold twoAt; omega
theorem rdC_stay {xs : List Int} {e i : Nat} (h : rdC xs e i ≠ 0) : ∀ n, i ≤ n → rdC xs e n = rdC xs e i := by
  intro n hn
  induction n with
  | zero => obtain rfl : i = 0 := by omega
            rfl
  | succ n ih =>
    by_cases e' : i = n + 1
    · subst e'; rfl
    · have := ih (by omega)
      simp only [rdC]
      rw [this, if_neg h]
theorem rdC_first {xs : List Int} {e i n : Nat} {c : Int} (h0 : rdC xs e i = 0) (hf : entC xs (6 + 8 * i) e = c) (hc : c ≠ 0) (hi : i < n) : rdC xs e n = c := by
  have h1 : rdC xs e (i + 1) = c := by simp only [rdC]; rw [if_pos h0, hf]
  rw [rdC_stay (by rw [h1]; exact hc) n (by omega), h1]
theorem rdC_on {xs : List Int} {e i : Nat} (h0 : rdC xs e i = 0) (hf : entC xs (6 + 8 * i) e = 0) : rdC xs e (i + 1) = 0 := by simp only [rdC]; rw [if_pos h0, hf]
theorem Rd.cut {w : World} {b o n : Nat} {xs : List Int} (h : Rd .u8 w (some ⟨b, o, none⟩) n xs) {lo hi : Nat} (h1 : lo ≤ hi) (h2 : hi ≤ n) : Rd .u8 w (some ⟨b, o + lo, none⟩) (hi - lo) ((xs.drop lo).take (hi - lo)) := by
  refine ⟨by simp [h.1]; omega, fun hn => ⟨b, o + lo, rfl, fun i hi' => ?_⟩⟩
  obtain ⟨b', o', e, hc⟩ := h.2 (by omega)
  injection e with e
  injection e with e1 e2
  subst e1 e2
  have := hc (lo + i) (by omega)
  rw [Nat.add_assoc, this]
  have hx : lo + i < xs.length := by rw [h.1]; omega
  simp [List.getD, hi', hx]
/-- 'data[lo:hi]'. -/
theorem slice_cut (b o n c lo hi : Nat) (H L : Int) (hL : L = (lo : Int)) (hH : H = (hi : Int)) (h1 : lo ≤ hi) (h2 : hi ≤ n) (h3 : n ≤ c) :
    ∃ A', (∀ W, (Instr.slice 22 (.slice (some ⟨b, o, none⟩) n c) (some (.int .i64 L)) (some (.int .i64 H)) none).run Try.prog W = .ok (.slice A' (hi - lo) (c - lo)) W) ∧
      ∀ W xs, Rd .u8 W (some ⟨b, o, none⟩) n xs → Rd .u8 W A' (hi - lo) ((xs.drop lo).take (hi - lo)) := by
  subst hL hH
  have hz : ∀ w, (Go.sizeOf 5).run Try.prog w = .ok 1 w := fun w => by kernel_rfl
  rcases Nat.lt_or_ge lo hi with h | h
  · exact ⟨_, fun W => Lib.run_slice_window W _ _ Try.underlying22 hz b o n c lo hi h (by omega), fun W xs hr => hr.cut h1 h2⟩
  · obtain rfl : lo = hi := by omega
    have ht' : Try.prog.underlying 22 = some (.slice (Try.prog.elem 22)) := by simp [Program.elem, Try.underlying22]
    have he : Try.prog.elem 22 = 5 := by simp [Program.elem, Try.underlying22]
    by_cases hc : c = lo
    · refine ⟨some ⟨b, o, none⟩, fun W => ?_, fun W xs hr => by simpa using Rd.nil⟩
      rw [run_slice_lh W 22 _ _ _ ht' .i64 .i64 _ _ (by omega) (by omega) (by omega), he, hz]
      simp [Result.andThen, sliced, hc]
    · refine ⟨some ⟨b, o + lo, none⟩, fun W => ?_, fun W xs hr => by simpa using Rd.nil⟩
      rw [run_slice_lh W 22 _ _ _ ht' .i64 .i64 _ _ (by omega) (by omega) (by omega), he, hz]
      simp [Result.andThen, sliced, hc, addr_add]

/-! ### the program's -/
theorem or_two (x y : Int) (h0 : 0 ≤ x) (h1 : x ≤ 255) (h2 : 0 ≤ y) (h3 : y ≤ 255) : bits .or .i64 (x * 256) y = x * 256 + y := by
  obtain ⟨A, rfl⟩ := Int.eq_ofNat_of_zero_le h0
  obtain ⟨B, rfl⟩ := Int.eq_ofNat_of_zero_le h2
  show IntKind.i64.wrap ((BitVec.ofInt 64 ((A : Int) * 256) ||| BitVec.ofInt 64 (B : Int)).toNat : Int) = _
  have e : ((A : Int) * 256) = ((A * 256 : Nat) : Int) := by omega
  rw [e, BitVec.toNat_or, ofInt_u64 _ (by omega), ofInt_u64 _ (by omega), nat_join 8 _ _ (by omega) (by omega), IntKind.wrap_i64]
  omega
set_option maxHeartbeats 1000000 in
theorem getTwo_any (A : Option Addr) (n c : Nat) (xs : List Int) (t : Nat) (w : World) (h : Rd .u8 w A n xs) (hx : U8s xs) (hn : n ≤ 1000000) (ht : t + 1 < n) (T : Int) (hT : T = (t : Int)) :
    Calls Try.prog 82 #[.slice A n c, .int .i64 T] w fun e w' => e = .returned (.int .i64 (twoAt xs t : Nat)) ∧ ∃ m, w' = w.drewN m := by
  subst hT
  obtain ⟨b, o, rfl, hcell⟩ := h.2 (by omega)
  have c0 := hcell t (by omega)
  have c1 := hcell (t + 1) (by omega)
  have HB := Lib.hid (twoAt_bd hx t).2
  obtain ⟨p0, q0⟩ := hx t
  obtain ⟨p1, q1⟩ := hx (t + 1)
  generalize xs.getD t 0 = y0 at *
  generalize xs.getD (t + 1) 0 = y1 at *
  have hor := or_two y0 y1 p0 q0 p1 q1
  clear h hcell hx
  go_enter Try.func82, Try.ntmps82
  go_wp2_with fail
  go_quiet (fail)
  go_wp2_with fail
  go_ret
  refine ⟨?_, _, rfl⟩
  rw [HB.out, Int.mul_comm]
  rfl

/-- a tag and a code; the bytes in new memory. -/
def TagAns (w : World) (c : Int) (t : Tg) (e : Ending) (w' : World) : Prop :=
  ∃ B L, e = .returned (.tuple #[.agg #[.string t.1, .slice B L L], .int .i64 c]) ∧ Own w' (.ints .u8 t.2) (.slice B L L) w.heap.size w'.heap.size ∧ Below w.heap.size w w'
theorem TagAns.nothing {w w' : World} {c : Int} (hb : Below w.heap.size w w') : TagAns w c (ByteArray.empty, []) (.returned (.tuple #[.agg #[.string ByteArray.empty, .slice none 0 0], .int .i64 c])) w' :=
  ⟨Option.none, 0, rfl, Own.nil _ _ _ _ _ _ (Nat.zero_le _), hb⟩
theorem nmAt_size {xs : List Int} {a : Nat} : (nmAt xs a).size ≤ 4 := by
  unfold nmAt strOfNums
  simp [ByteArray.size]
  omega
theorem bad_tag {w w1 : World} {o : Obj} {m : Nat} {x y : Value} (hb : Below w.heap.size w w1) : Below w.heap.size w ((((w1.alloc o).drewN m).setCell ⟨w.heap.size, 0, none⟩ x).setCell ⟨w.heap.size, 1, none⟩ y) :=
  ((blThenDrew (blThenAlloc hb o) m).setCell (p := ⟨w.heap.size, 0, none⟩) (Nat.le_refl _) _).setCell (p := ⟨w.heap.size, 1, none⟩) (Nat.le_refl _) _
def teT (xs : List Int) (a e : Nat) : Tg := if entC xs a e = 0 then entT xs a else (ByteArray.empty, [])
set_option maxRecDepth 100000 in
set_option maxHeartbeats 2000000 in
theorem readTag_any (A : Option Addr) (n c : Nat) (xs : List Int) (a e : Nat) (w : World) (h : Rd .u8 w A n xs) (hx : U8s xs) (hnc : n ≤ c) (hn : n ≤ 1000000) (ha : a + 8 ≤ n) (he : e ≤ 1000000) :
    Calls Try.prog 70 #[.slice A n c, .int .i64 a, .int .i64 e] w (TagAns w (entC xs a e) (teT xs a e)) := by
  obtain ⟨b, o, rfl, hcell⟩ := h.2 (by omega)
  obtain ⟨A1, hs1, hr1⟩ := slice_cut b o n c a (a + 4) ((a : Int) + 4) (a : Int) rfl (by omega) (by omega) (by omega) hnc
  have hd4 : a + 4 - a = 4 := by omega
  rw [hd4] at hs1 hr1
  have hsz : (nmAt xs a).size ≤ maxLen := by have := nmAt_size (xs := xs) (a := a); unfold maxLen; omega
  have hcv : (convert 22 9 (.slice A1 4 (c - a))).run Try.prog (w.alloc (.cells #[.string ⟨#[]⟩, .slice none 0 0] 63)) = .ok (.string (nmAt xs a)) (w.alloc (.cells #[.string ⟨#[]⟩, .slice none 0 0] 63)) := run_convert_rd (c := c - a) (hr1 (w.alloc (.cells #[.string ⟨#[]⟩, .slice none 0 0] 63)) xs (h.alloc _))
  have H := Lib.hid h
  have HX := Lib.hid hx
  clear h hx hcell hr1
  go_enter Try.func70, Try.ntmps70
  go_wp2_with fail
  clear hcv hs1
  by_cases hnm : nm (nmAt xs a) = true
  · refine (nameOf_yes _ _ hsz hnm).mono ?_
    rintro e1 w1 ⟨rfl, hb1⟩
    have T1 := Lib.hid (blThen (blAlloc w _) hb1)
    obtain ⟨f0, f1⟩ : w1.frozen? ⟨w.heap.size, 0, none⟩ = false ∧ w1.frozen? ⟨w.heap.size, 1, none⟩ = false := by
      constructor <;> rw [hb1.frozen (by simp)] <;> simp
    obtain ⟨r0, r1⟩ : Box2 w1 w.heap.size (.string ⟨#[]⟩) (.slice none 0 0) := Box2.below (w := w.alloc (.cells #[.string ⟨#[]⟩, .slice none 0 0] 63)) ⟨by simp, by simp⟩ hb1
    have H1 := Lib.hid ((H.out.alloc (.cells #[.string ⟨#[]⟩, .slice none 0 0] 63)).below hb1)
    have hz : w.heap.size < w1.heap.size := by have := hb1.size; simp at this; omega
    clear hb1 H
    go_wp2_with fail
    refine (getTwo_any _ _ _ xs (a + 4) _ (H1.out.alloc _) HX.out hn (by omega) _ (by omega)).mono ?_
    rintro e2 w2 ⟨rfl, m2, rfl⟩
    go_wp2_with fail
    refine (getTwo_any _ _ _ xs (a + 6) _ ((H1.out.alloc _).drewN _) HX.out hn (by omega) _ (by omega)).mono ?_
    rintro e3 w3 ⟨rfl, m3, rfl⟩
    obtain ⟨u1, -⟩ := twoAt_bd HX.out (a + 4)
    obtain ⟨u2, -⟩ := twoAt_bd HX.out (a + 6)
    have hEE : entC xs a e = if twoAt xs (a + 4) < e ∨ twoAt xs (a + 4) % 4 ≠ 0 ∨ xs.length < twoAt xs (a + 4) + twoAt xs (a + 6) then 3 else 0 := by unfold entC; rw [if_neg (by rw [hnm]; simp)]
    rw [H1.out.1] at hEE
    have HT : Hid (entT xs a = (nmAt xs a, (xs.drop (twoAt xs (a + 4))).take (twoAt xs (a + 6)))) := rfl
    have HQ := Lib.hid hEE
    clear hEE
    generalize twoAt xs (a + 4) = p at *
    generalize twoAt xs (a + 6) = q at *
    have bad : (p < e ∨ p % 4 ≠ 0 ∨ n < p + q) → Hid (entC xs a e = 3 ∧ teT xs a e = (ByteArray.empty, [])) := fun hh => by
      have := HQ.out
      rw [if_pos hh] at this
      exact ⟨this, by unfold teT; rw [if_neg (by rw [this]; omega)]⟩
    have good : ¬ (p < e ∨ p % 4 ≠ 0 ∨ n < p + q) → Hid (entC xs a e = 0 ∧ teT xs a e = (nmAt xs a, (xs.drop p).take q)) := fun hh => by
      have := HQ.out
      rw [if_neg hh] at this
      exact ⟨this, by unfold teT; rw [if_pos this]; exact HT.out⟩
    clear HQ HT
    by_cases h1 : p < e
    · have B := bad (.inl h1)
      clear bad good
      go_wp2_with fail
      refine bodyPost_ret (v := .tuple #[.agg #[.string ⟨#[]⟩, .slice none 0 0], .int .i64 3]) (by simp [results, Try.results70, go_sem, r0, r1, hz]) rfl ?_
      rw [B.out.1, B.out.2]
      exact TagAns.nothing (bad_tag T1.out)
    · by_cases h2 : p % 4 = 0
      · by_cases h3 : p + q ≤ n
        · have G := good (by omega)
          clear bad good
          obtain ⟨A2, hs2, hr2⟩ := slice_cut b o n c p (p + q) ((p : Int) + q) (p : Int) rfl (by omega) (by omega) (by omega) hnc
          have hdq : p + q - p = q := by omega
          rw [hdq] at hs2 hr2
          have HR2 := Lib.hid hr2
          clear hr2
          go_wp2_with fail
          refine (copyBytes_any _ _ _ _ _ (HR2.out _ xs ((H1.out.alloc _).drewN _)) (by omega)).mono ?_
          rintro e4 w4 ⟨B4, rfl, ho4, hb4⟩
          have y0 : w4.cell? ⟨w.heap.size, 0, none⟩ = some (.string ⟨#[]⟩) := by rw [hb4.cell (p := ⟨w.heap.size, 0, none⟩) (by simp; omega)]; simp only [World.cell?_drewN]; rw [World.cell?_alloc_lt _ _ _ hz]; exact r0
          have y1 : w4.cell? ⟨w.heap.size, 1, none⟩ = some (.slice none 0 0) := by rw [hb4.cell (p := ⟨w.heap.size, 1, none⟩) (by simp; omega)]; simp only [World.cell?_drewN]; rw [World.cell?_alloc_lt _ _ _ hz]; exact r1
          have k0 : w4.frozen? ⟨w.heap.size, 0, none⟩ = false := by rw [hb4.frozen (p := ⟨w.heap.size, 0, none⟩) (by simp; omega)]; simp only [World.frozen?_drewN]; rw [World.frozen?_alloc_old _ _ _ (Nat.ne_of_lt hz)]; exact f0
          have k1 : w4.frozen? ⟨w.heap.size, 1, none⟩ = false := by rw [hb4.frozen (p := ⟨w.heap.size, 1, none⟩) (by simp; omega)]; simp only [World.frozen?_drewN]; rw [World.frozen?_alloc_old _ _ _ (Nat.ne_of_lt hz)]; exact f1
          have T4 := Lib.hid (blThen (blThenDrew (blThenAlloc T1.out _) _) hb4)
          have O4 := Lib.hid ho4
          have hz4 : w1.heap.size + 1 ≤ w4.heap.size := by have := hb4.size; simpa using this
          clear ho4 hb4 hs2 HR2 r0 r1 f0 f1
          go_wp2_with fail
          refine bodyPost_ret (v := .tuple #[.agg #[.string (nmAt xs a), .slice B4 q q], .int .i64 0]) (by simp [results, Try.results70, go_sem, y0, y1]) rfl ?_
          rw [G.out.1, G.out.2]
          refine ⟨B4, q, rfl, ?_, (T4.out.setCell (p := ⟨w.heap.size, 0, none⟩) (Nat.le_refl _) _).setCell (p := ⟨w.heap.size, 1, none⟩) (Nat.le_refl _) _⟩
          refine Own.mono (lo := w.heap.size + 1) (hi := w4.heap.size) ?_ (by omega) (by simp [World.setCell])
          repeat (first | exact (O4.out.mono (by simp; omega) (Nat.le_refl _)) | refine Own.set ?_ (.inl (by omega)) _ _)
        · have B := bad (by omega)
          clear bad good
          go_wp2_with fail
          refine bodyPost_ret (v := .tuple #[.agg #[.string ⟨#[]⟩, .slice none 0 0], .int .i64 3]) (by simp [results, Try.results70, go_sem, r0, r1, hz]) rfl ?_
          rw [B.out.1, B.out.2]
          exact TagAns.nothing (bad_tag T1.out)
      · have B := bad (by omega)
        clear bad good
        have hq4 : ¬ (p : Int) % 4 = 0 := by omega
        have hq5 : ((p : Int) % 4 != 0) = true := by simpa using hq4
        go_wp2_with fail
        refine bodyPost_ret (v := .tuple #[.agg #[.string ⟨#[]⟩, .slice none 0 0], .int .i64 3]) (by simp [results, Try.results70, go_sem, r0, r1, hz]) rfl ?_
        rw [B.out.1, B.out.2]
        exact TagAns.nothing (bad_tag T1.out)
  · have hnm : nm (nmAt xs a) = false := by simpa using hnm
    refine (nameOf_no _ _ hsz hnm).mono ?_
    rintro e1 w1 ⟨rfl, hb1⟩
    have T1 := Lib.hid (blThen (blAlloc w _) hb1)
    obtain ⟨f0, f1⟩ : w1.frozen? ⟨w.heap.size, 0, none⟩ = false ∧ w1.frozen? ⟨w.heap.size, 1, none⟩ = false := by
      constructor <;> rw [hb1.frozen (by simp)] <;> simp
    obtain ⟨r0, r1⟩ : Box2 w1 w.heap.size (.string ⟨#[]⟩) (.slice none 0 0) := Box2.below (w := w.alloc (.cells #[.string ⟨#[]⟩, .slice none 0 0] 63)) ⟨by simp, by simp⟩ hb1
    have hz : w.heap.size < w1.heap.size := by have := hb1.size; simp at this; omega
    have hE : entC xs a e = 5 := by unfold entC; rw [if_pos hnm]
    have hT : teT xs a e = (ByteArray.empty, []) := by unfold teT; rw [if_neg (by rw [hE]; omega)]
    have HE := Lib.hid hE
    have HT := Lib.hid hT
    clear hb1 hE hT
    go_wp2_with fail
    refine bodyPost_ret (v := .tuple #[.agg #[.string ⟨#[]⟩, .slice none 0 0], .int .i64 5]) (by simp [results, Try.results70, go_sem, r0, r1, hz]) rfl ?_
    rw [HE.out, HT.out]
    exact TagAns.nothing (((T1.out.setCell (p := ⟨w.heap.size, 0, none⟩) (by simp) _).setCell (p := ⟨w.heap.size, 1, none⟩) (by simp) _).alloc (by simp [World.setCell]; omega) _)
end Go.Proofs.Ytbbghebpmobfnaa
