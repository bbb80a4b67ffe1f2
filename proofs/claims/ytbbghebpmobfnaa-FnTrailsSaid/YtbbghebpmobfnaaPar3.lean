/-
  A profile read from bytes: impl.ParseProfile.
-/
import Derived.Test.YtbbghebpmobfnaaPar2
namespace Go.Proofs.Ytbbghebpmobfnaa
open Go.RowKit
set_option linter.unusedVariables false

theorem nmAt_ok (xs : List Int) (a : Nat) : (nmAt xs a).size ≤ maxLen := by have := nmAt_size (xs := xs) (a := a); unfold maxLen; omega
theorem rdT_ok (xs : List Int) (k : Nat) : TsOk (rdT xs k) := fun i => by
  by_cases h : i < k
  · rw [rdT_get h]; exact nmAt_ok xs _
  · have : tg (rdT xs k) i = default := by unfold tg; rw [List.getD, List.getElem?_eq_none (by rw [rdT_len]; omega)]; rfl
    rw [this]
    exact Nat.zero_le _
def ppC (xs : List Int) : Int := if rpC xs = 0 then pf (xs.getD 4 0) (rdT xs (cntOf xs)) else rpC xs
def ppK (xs : List Int) : Int := if ppC xs = 0 then xs.getD 4 0 else 0
def ppT (xs : List Int) : List Tg := if ppC xs = 0 then rdT xs (cntOf xs) else []
theorem pp_zero {xs : List Int} (h : ppC xs = 0) : rpC xs = 0 ∧ pf (xs.getD 4 0) (rdT xs (cntOf xs)) = 0 := by
  unfold ppC at h
  by_cases e : rpC xs = 0
  · rw [if_pos e] at h; exact ⟨e, h⟩
  · rw [if_neg e] at h; exact absurd h e
/-- a result that tells a profile. -/
def ParAns (w : World) (c cl : Int) (ts : List Tg) (e : Ending) (w' : World) : Prop :=
  ∃ A n cp, e = .returned (.agg #[.int .i64 c, .int .i64 cl, .slice A n cp]) ∧ Own w' (tagsD ts) (.slice A n cp) w.heap.size w'.heap.size ∧ Below w.heap.size w w'
theorem ParAns.bad {w w' : World} {xs : List Int} {c : Int} (hc : ppC xs = c) (h0 : c ≠ 0) (hb : Below w.heap.size w w') : ParAns w (ppC xs) (ppK xs) (ppT xs) (.returned (.agg #[.int .i64 c, .int .i64 0, .slice none 0 0])) w' := by
  have h1 : ppK xs = 0 := by unfold ppK; rw [if_neg (by rw [hc]; exact h0)]
  have h2 : ppT xs = [] := by unfold ppT; rw [if_neg (by rw [hc]; exact h0)]
  rw [h1, h2, hc]
  exact ⟨Option.none, 0, 0, rfl, Own.snil _ _ _ _ _ _ (Nat.zero_le _), hb⟩
theorem set3_below {w w1 : World} {x y z : Value} (hb : Below w.heap.size w w1) : Below w.heap.size w (((w1.setCell ⟨w.heap.size, 0, none⟩ x).setCell ⟨w.heap.size, 1, none⟩ y).setCell ⟨w.heap.size, 2, none⟩ z) :=
  ((hb.setCell (p := ⟨w.heap.size, 0, none⟩) (Nat.le_refl _) _).setCell (p := ⟨w.heap.size, 1, none⟩) (Nat.le_refl _) _).setCell (p := ⟨w.heap.size, 2, none⟩) (Nat.le_refl _) _
theorem ParAns.done {w w2 : World} {lo : Nat} {c cl : Int} {ts : List Tg} {A : Option Addr} {n cp : Nat} {x y z : Value} (hO : Own w2 (tagsD ts) (.slice A n cp) lo w2.heap.size) (hlo : w.heap.size < lo) (hb : Below w.heap.size w w2) :
    ParAns w c cl ts (.returned (.agg #[.int .i64 c, .int .i64 cl, .slice A n cp])) (((w2.setCell ⟨w.heap.size, 0, none⟩ x).setCell ⟨w.heap.size, 1, none⟩ y).setCell ⟨w.heap.size, 2, none⟩ z) :=
  ⟨A, n, cp, rfl, (((hO.set (.inl hlo) _ _).set (.inl hlo) _ _).set (.inl hlo) _ _).mono (by omega) (by simp [World.setCell]), set3_below hb⟩
theorem ppT_small (xs : List Int) (h : U8s xs) : TsSmall (ppT xs) ∧ TsOk (ppT xs) := by
  by_cases e : ppC xs = 0
  · have h0 := rp_zero (pp_zero e).1
    have e2 : ppT xs = rdT xs (cntOf xs) := by unfold ppT; rw [if_pos e]
    rw [e2]
    refine ⟨⟨by rw [rdT_len]; omega, fun i hi => ?_⟩, rdT_ok xs _⟩
    rw [rdT_len] at hi
    rw [rdT_get hi]
    refine ⟨by have := nmAt_size (xs := xs) (a := 6 + 8 * i); show (nmAt _ _).size ≤ _; omega, ?_⟩
    show ((xs.drop _).take _).length ≤ _
    simp
    omega
  · have e2 : ppT xs = [] := by unfold ppT; rw [if_neg e]
    rw [e2]
    exact ⟨⟨by simp, fun i hi => by simp at hi⟩, fun i => Nat.zero_le _⟩
set_option maxRecDepth 100000 in
set_option maxHeartbeats 4000000 in
theorem ParseProfile_any (A : Option Addr) (n c : Nat) (xs : List Int) (w : World) (h : Rd .u8 w A n xs) (hx : U8s xs) (hnc : n ≤ c) (hc : c ≤ maxLen) :
    Calls Try.prog 13 #[.slice A n c] w (ParAns w (ppC xs) (ppK xs) (ppT xs)) := by
  have H := Lib.hid h
  have HX := Lib.hid hx
  clear h hx
  go_enter Try.func13, Try.ntmps13
  go_wp2_with fail
  refine (readProfile_any A n c xs _ (H.out.alloc _) HX.out hnc hc).mono ?_
  rintro e1 w1 ⟨A1, n1, c1, rfl, ho1, hb1⟩
  have hs1 := hb1.size
  have hw : w.heap.size < w1.heap.size := by simp at hs1; omega
  obtain ⟨r0, r1, r2⟩ : w1.cell? ⟨w.heap.size, 0, none⟩ = some (.int .i64 0) ∧ w1.cell? ⟨w.heap.size, 1, none⟩ = some (.int .i64 0) ∧ w1.cell? ⟨w.heap.size, 2, none⟩ = some (.slice none 0 0) := by
    refine ⟨?_, ?_, ?_⟩ <;> rw [hb1.cell (by simp)] <;> simp
  obtain ⟨f0, f1, f2⟩ : w1.frozen? ⟨w.heap.size, 0, none⟩ = false ∧ w1.frozen? ⟨w.heap.size, 1, none⟩ = false ∧ w1.frozen? ⟨w.heap.size, 2, none⟩ = false := by
    refine ⟨?_, ?_, ?_⟩ <;> rw [hb1.frozen (by simp)] <;> simp
  have T1 := Lib.hid (blThen (blAlloc w _) hb1)
  by_cases hr : rpC xs = 0
  · have hT : rpT xs = rdT xs (cntOf xs) := by unfold rpT; rw [if_pos hr]
    have hK : rpK xs = xs.getD 4 0 := by unfold rpK; rw [if_pos hr]
    have hP : ppC xs = pf (xs.getD 4 0) (rdT xs (cntOf xs)) := by unfold ppC; rw [if_pos hr]
    have HPT : Hid (ppC xs = 0 → ppT xs = rdT xs (cntOf xs) ∧ ppK xs = xs.getD 4 0) := fun hh => ⟨by unfold ppT; rw [if_pos hh], by unfold ppK; rw [if_pos hh]⟩
    have HOK := Lib.hid (rdT_ok xs (cntOf xs))
    rw [hT] at ho1
    rw [hK, hr]
    clear hT hK
    generalize xs.getD 4 0 = y4 at *
    generalize rdT xs (cntOf xs) = ts at *
    have HP := Lib.hid hP
    have HO := Lib.hid ho1
    obtain ⟨bs1, hd1⟩ := ho1.hd
    have HD := Lib.hid hd1
    clear ho1 hb1 hP hd1 hr
    go_wp2_with fail
    refine (ProfileFault_any A1 n1 c1 y4 ts bs1 _ (HD.out.alloc _) HOK.out).mono ?_
    rintro e2 w2 ⟨rfl, hb2⟩
    have hs2 := hb2.size
    have hw2 : w1.heap.size < w2.heap.size := by simp at hs2; omega
    have hw3 : w.heap.size < w2.heap.size := by omega
    obtain ⟨z0, z1, z2⟩ : w2.cell? ⟨w.heap.size, 0, none⟩ = some (.int .i64 0) ∧ w2.cell? ⟨w.heap.size, 1, none⟩ = some (.int .i64 0) ∧ w2.cell? ⟨w.heap.size, 2, none⟩ = some (.slice none 0 0) := by
      refine ⟨?_, ?_, ?_⟩ <;> rw [hb2.cell (by simp; omega), World.cell?_alloc_lt _ _ _ hw] <;> assumption
    obtain ⟨g0, g1, g2⟩ : w2.frozen? ⟨w.heap.size, 0, none⟩ = false ∧ w2.frozen? ⟨w.heap.size, 1, none⟩ = false ∧ w2.frozen? ⟨w.heap.size, 2, none⟩ = false := by
      refine ⟨?_, ?_, ?_⟩ <;> rw [hb2.frozen (by simp; omega), World.frozen?_alloc_old _ _ _ (Nat.ne_of_lt hw)] <;> assumption
    obtain ⟨x0, x1⟩ : Box2 w2 w1.heap.size (.int .i64 y4) (.slice A1 n1 c1) := (Box2.new w1 27 _ _).below hb2
    have T2 := Lib.hid (blThen (blThenAlloc T1.out _) hb2)
    have O2 := Lib.hid ((HO.out.alloc _).below hb2)
    clear hb2 HO HD T1 r0 r1 r2 f0 f1 f2
    by_cases hp : pf y4 ts = 0
    · have hp' : (pf y4 ts != 0) = false := by simpa using hp
      obtain ⟨t1, t2⟩ := HPT.out (HP.out.trans hp)
      have HT1 := Lib.hid t1
      have HT2 := Lib.hid t2
      have HC := Lib.hid (HP.out.trans hp)
      clear HPT t1 t2 hp HP
      go_wp2_with fail
      refine bodyPost_ret (v := .agg #[.int .i64 0, .int .i64 y4, .slice A1 n1 c1]) (by simp [results, Try.results13, go_sem, z0, z1, z2]) rfl ?_
      rw [HC.out, HT1.out, HT2.out]
      refine ParAns.done (lo := w.heap.size + 1) (O2.out.mono (by simp) ?_) (by omega) T2.out
      simp at hs1 hs2
      omega
    · have hp' : (pf y4 ts != 0) = true := by simpa using hp
      have HN := Lib.hid hp
      clear hp HPT
      go_wp2_with fail
      refine bodyPost_ret (v := .agg #[.int .i64 (pf y4 ts), .int .i64 0, .slice none 0 0]) (by simp [results, Try.results13, go_sem, z0, z1, z2]) rfl ?_
      exact ParAns.bad HP.out HN.out (set3_below T2.out)
  · have hr0 : (rpC xs == 0) = false := by simpa using hr
    have hr1 : (rpC xs != 0) = true := by simpa using hr
    have HN := Lib.hid hr
    have HP : Hid (ppC xs = rpC xs) := by show ppC xs = _; unfold ppC; rw [if_neg hr]
    clear hb1 ho1 hr
    go_wp2_with fail
    refine bodyPost_ret (v := .agg #[.int .i64 (rpC xs), .int .i64 0, .slice none 0 0]) (by simp [results, Try.results13, go_sem, r0, r1, r2, hw]) rfl ?_
    exact ParAns.bad HP.out HN.out ((set3_below T1.out).alloc (by simp [World.setCell]; omega) _)
end Go.Proofs.Ytbbghebpmobfnaa
