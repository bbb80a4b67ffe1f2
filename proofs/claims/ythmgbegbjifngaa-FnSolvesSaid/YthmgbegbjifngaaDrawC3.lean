/-
  The draw of bytes that may be a curve: DrawReadCurve.
-/
import Derived.Test.YthmgbegbjifngaaDrawC2
import Derived.Test.YthmgbegbjifngaaCurRT
namespace Go.Proofs.Ythmgbegbjifngaa
open Go.RowKit
set_option linter.unusedVariables false

def DrBy (w : World) (e : Ending) (w' : World) : Prop := ∃ G m cp ys, e = .returned (.slice G m cp) ∧ m ≤ 35 ∧ U8s ys ∧ Rd .u8 w' G m ys ∧ Below w.heap.size w w'
theorem U8s.set {ys : List Int} {r : Int} (h : U8s ys) (h0 : 0 ≤ r) (h1 : r ≤ 255) (k : Nat) : U8s (ys.set k r) := by
  intro i
  by_cases e : i = k
  · subst e
    by_cases hi : i < ys.length
    · have : (ys.set i r).getD i 0 = r := by simp [List.getD, hi]
      rw [this]; omega
    · rw [List.set_eq_of_length_le (by omega)]; exact h i
  · have : (ys.set k r).getD i 0 = ys.getD i 0 := by simp [List.getD, List.getElem?_set_ne (Ne.symm e)]
    rw [this]; exact h i
theorem U8s.take {ys : List Int} (h : U8s ys) (k : Nat) : U8s (ys.take k) := by
  intro i
  by_cases hi : i < k
  · have : (ys.take k).getD i 0 = ys.getD i 0 := by simp [List.getD, hi]
    rw [this]; exact h i
  · have : (ys.take k).getD i 0 = 0 := by simp [List.getD, List.getElem?_take, hi]
    rw [this]; omega
theorem Rd.take {k : IntKind} {w : World} {A : Option Addr} {n m : Nat} {xs : List Int} (h : Rd k w A n xs) (hm : m ≤ n) : Rd k w A m (xs.take m) := by
  refine ⟨by have := h.1; simp; omega, fun hp => ?_⟩
  obtain ⟨b, o, e, hc⟩ := h.2 (by omega)
  refine ⟨b, o, e, fun i hi => ?_⟩
  rw [hc i (by omega)]
  simp [List.getD, hi]
theorem pkAt_u8 {ps : List Int} (h : CFine ps) (k : Nat) : U8s (pkAt ps k) := by
  induction k with
  | zero =>
    intro i
    have := h.hi
    match i with
    | 0 => simp [pkAt]; omega
    | i + 1 => simp [pkAt]
  | succ k ih =>
    rw [pkAt]
    have := h.lv k
    have e : pkAt ps k ++ two (pt ps k).toNat = (pkAt ps k ++ [(((pt ps k).toNat / 256 : Nat) : Int)]) ++ [(((pt ps k).toNat % 256 : Nat) : Int)] := by unfold two; simp
    rw [e]
    exact (ih.snoc (by omega) (by omega)).snoc (by omega) (by omega)
def P18 (r : Int) : Prop := 0 ≤ r ∧ r ≤ 18
set_option maxRecDepth 100000 in
set_option maxHeartbeats 4000000 in
theorem drawReadCurve_any (A : Option Addr) (n c : Nat) (xs : List Int) (w : World) (h : Code w A n xs) :
    Calls Try.prog 33 #[.slice A n c] w (DrBy w) := by
  have H := Lib.hid h
  clear h
  go_enter Try.func33, Try.ntmps33
  go_wp2_with fail
  refine (source_any A n c xs _ H.out.reads H.out.u8 H.out.small).mono ?_
  rintro e w1 ⟨rfl, hs1, hb1, hz1⟩
  have B1 := Lib.hid hb1
  have HS1 := Lib.hid hs1
  clear hs1 hb1
  go_wp2_with fail
  refine (draw3_any _ A n c xs 0 _ HS1.out (by omega)).mono ?_
  rintro e w2 ⟨G, m, cp, ps, rfl, hf, ho, ⟨q2, hq2, hs2⟩, hg2⟩
  obtain ⟨dx, hdx⟩ := ho.hd
  have R2 := Lib.hid (hdx.rd.alloc (.cells #[.slice G m cp] 43))
  have hlen := hdx.rd.1
  have h2 := hf.lo
  have h17 := hf.hi
  rw [hlen] at h2 h17
  have HF := Lib.hid hf
  have HU := Lib.hid (pkAt_u8 hf m)
  have B2 := Lib.hid (blThenAlloc (bl_of_gb B1.out hg2 (Nat.le_refl _)) (.cells #[.slice G m cp] 43))
  have HS2 := Lib.hid (hs2.gbNew (.cells #[.slice G m cp] 43))
  have hz2 := hg2.size
  clear hs2 hg2 ho hdx hf hlen
  go_wp2_with fail
  refine (sPack_any _ _ G m cp ps _ (by simp) R2.out HF.out).mono ?_
  rintro e w3 ⟨v, rfl, hown, hb3⟩
  obtain ⟨g3, c3, rfl, lo3, up3, nc3, mc3⟩ := hown.form
  rw [World.size_alloc] at lo3
  have O3 := Lib.hid hown.own
  have RR3 := Lib.hid hown.rd
  have B3 := Lib.hid (blThen B2.out hb3)
  have HS3 := Lib.hid (HS2.out.below hb3)
  have c0 := hown.rd.2 (by omega)
  have f0 := hown.thaw 0
  clear hown hb3 HS2
  have hc0 : w3.cell? ⟨g3, 0, none⟩ = some (.int .u8 ((pkAt ps m).getD 0 0)) := by
    obtain ⟨b, o, e, hc⟩ := c0
    injection e with e
    injection e with e1 e2
    subst e1 e2
    exact hc 0 (by omega)
  clear c0
  go_wp2_with fail
  refine (next_any _ A n c xs q2 4 _ HS3.out (by omega) (by omega)).mono ?_
  rintro e w4 ⟨r, ⟨hr0, hr1⟩, rfl, hs4, hg4⟩
  have hne : g3 ≠ w.heap.size := by omega
  have B4 := Lib.hid (bl_of_gb B3.out hg4 (Nat.le_refl _))
  have O4 := Lib.hid (own_gb O3.out hg4 (by simp; omega))
  have R4 := Lib.hid (RR3.out.gb hg4 (fun _ x e => by injection e with e; subst e; exact hne))
  have k4 := (gb_cell hg4 (p := ⟨g3, 0, none⟩) up3 hne).trans hc0
  have t4 := (gb_frozen hg4 (p := ⟨g3, 0, none⟩) up3 hne).trans f0
  have HS4 := Lib.hid hs4
  have hz4 := hg4.size
  clear hs4 hg4 hc0 f0
  by_cases e0 : r = 0
  · subst e0
    go_wp2_with fail
    refine (pick_any _ A n c xs (q2 + 1) _ 3 3 [0, 1, 18] P18 _ (HS4.out.gbNew _) (by omega) (rd_lit w4 [0, 1, 18] _) (by omega) (by omega) ?_ ?_).mono ?_
    · intro a e; injection e with e; subst e; have := HS4.out.lt; show w4.heap.size ≠ w.heap.size; omega
    · intro y hy; simp at hy; unfold P18; omega
    rintro e w5 ⟨y, q5, hP, rfl, hq5, hs5, hg5⟩
    have hP' : 0 ≤ y ∧ y ≤ 18 := hP
    obtain ⟨y0, y18⟩ := hP'
    have B5 := Lib.hid (bl_of_gb (blThenAlloc B4.out (.cells #[.int .i64 0, .int .i64 1, .int .i64 18] 2)) hg5 (Nat.le_refl _))
    have O5 := Lib.hid (own_gb (O4.out.alloc (.cells #[.int .i64 0, .int .i64 1, .int .i64 18] 2)) hg5 (by simp; omega))
    have k5 := (gb_cell hg5 (p := ⟨g3, 0, none⟩) (by simp; omega) hne).trans (cell_later (blAlloc w4 (.cells #[.int .i64 0, .int .i64 1, .int .i64 18] 2)) k4)
    have t5 := (gb_frozen hg5 (p := ⟨g3, 0, none⟩) (by simp; omega) hne).trans (((bcell (blAlloc w4 (.cells #[.int .i64 0, .int .i64 1, .int .i64 18] 2))).2 g3 0 (by omega)).trans t4)
    have hw8 : IntKind.u8.wrap y = y := by rw [IntKind.wrap_u8]; omega
    clear hs5 hg5 hP k4 t4
    go_wp2_with fail
    go_ret
    obtain ⟨dz, hdz⟩ := (O5.out.putI (i := 0) (by omega) y).hd
    exact ⟨_, _, _, _, rfl, by omega, HU.out.set y0 (by omega) 0, hdz.rd, B5.out.setCell (p := ⟨g3, 0, none⟩) (by show w.heap.size ≤ g3; omega) _⟩
  · by_cases e1 : r = 1
    · subst e1
      have e0' : ((1 : Int) == 0) = false := rfl
      go_wp2_with fail
      refine (next_any _ A n c xs (q2 + 1) ((1 + 2 * m : Nat) : Int) _ HS4.out (by omega) (by omega)).mono ?_
      rintro e w5 ⟨r5, ⟨hr50, hr51⟩, rfl, hs5, hg5⟩
      have hr52 := hr51 (by omega)
      obtain ⟨N, rfl⟩ : ∃ N : Nat, r5 = N := ⟨r5.toNat, by omega⟩
      have B5 := Lib.hid (bl_of_gb B4.out hg5 (Nat.le_refl _))
      have R5 := Lib.hid ((R4.out.gb hg5 (fun _ x e => by injection e with e; subst e; exact hne)).take (m := N) (by omega))
      clear hs5 hg5 hr51
      go_wp2_with fail
      go_ret
      exact ⟨_, _, _, _, rfl, by omega, HU.out.take N, R5.out, B5.out⟩
    · have e0' : (r == 0) = false := by simpa using e0
      have e1' : (r == 1) = false := by simpa using e1
      go_wp2_with fail
      go_ret
      exact ⟨_, _, _, _, rfl, by omega, HU.out, R4.out, B4.out⟩
end Go.Proofs.Ythmgbegbjifngaa
