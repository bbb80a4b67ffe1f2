/-
  The cell and the rests of a colour: CellOf, both sides, with an answer of two lists.
-/
import Derived.Test.YthplngcdldongaaGrdZ
import Derived.Test.YthplngcdldongaaGrdB
namespace Go.Proofs.Ythplngcdldongaa
open Go.RowKit Go.Maps
set_option linter.unusedVariables false
set_option linter.unusedSimpArgs false

def ceC (sd : Int) (xs : List Int) : Int := if inB sd 2 4 = true then lf xs else 3
def ceL (sd : Int) (xs : List Int) : List Int := if ceC sd xs = 0 then [cc sd (xs.getD · 0) 0, cc sd (xs.getD · 0) 1, cc sd (xs.getD · 0) 2] else []
def ceR (sd : Int) (xs : List Int) : List Int := if ceC sd xs = 0 then [cr sd (xs.getD · 0) 0, cr sd (xs.getD · 0) 1, cr sd (xs.getD · 0) 2] else []
theorem ce_no {sd : Int} {xs : List Int} {c : Int} (h : c = ceC sd xs) (h0 : c ≠ 0) : ceC sd xs = c ∧ ceL sd xs = [] ∧ ceR sd xs = [] := by
  subst h
  exact ⟨rfl, if_neg h0, if_neg h0⟩
theorem ce_yes {sd : Int} {xs : List Int} (h : ceC sd xs = 0) : ceC sd xs = 0 ∧ ceL sd xs = [cc sd (xs.getD · 0) 0, cc sd (xs.getD · 0) 1, cc sd (xs.getD · 0) 2] ∧ ceR sd xs = [cr sd (xs.getD · 0) 0, cr sd (xs.getD · 0) 1, cr sd (xs.getD · 0) 2] :=
  ⟨h, if_pos h, if_pos h⟩
theorem ceL_len (sd : Int) (xs : List Int) : (ceL sd xs).length ≤ 3 := by unfold ceL; split <;> simp
theorem ceR_len (sd : Int) (xs : List Int) : (ceR sd xs).length ≤ 3 := by unfold ceR; split <;> simp
/-- an answer of two lists in new memory, each in an interval of its own. -/
def IIAns (w : World) (code : Int) (xs ys : List Int) (e : Ending) (w' : World) : Prop :=
  ∃ G n c H m d la ha lb hb, e = .returned (.agg #[.int .i64 code, .slice G n c, .slice H m d]) ∧ Own w' (.ints .i64 xs) (.slice G n c) la ha ∧ Own w' (.ints .i64 ys) (.slice H m d) lb hb ∧
    w.heap.size ≤ la ∧ ha ≤ w'.heap.size ∧ w.heap.size ≤ lb ∧ hb ≤ w'.heap.size ∧ (ha ≤ lb ∨ hb ≤ la) ∧ Below w.heap.size w w'
theorem IIAns.bad {w w' : World} {code c : Int} {xs ys : List Int} (h : code = c ∧ xs = [] ∧ ys = []) (hb : Below w.heap.size w w') : IIAns w code xs ys (.returned (.agg #[.int .i64 c, .slice none 0 0, .slice none 0 0])) w' :=
  ⟨none, 0, 0, none, 0, 0, w.heap.size, w.heap.size, w.heap.size, w.heap.size, by rw [h.1], by rw [h.2.1]; exact Own.nil _ _ _ _ _ _ (Nat.zero_le _), by rw [h.2.2]; exact Own.nil _ _ _ _ _ _ (Nat.zero_le _), Nat.le_refl _, hb.size, Nat.le_refl _, hb.size, .inl (Nat.le_refl _), hb⟩
theorem IIAns.good {w w' : World} {code : Int} {xs ys : List Int} {p q a b : Nat} {x y : Nat → Int} (hc : code = 0) (hx : xs = [x 0, x 1, x 2]) (hy : ys = [y 0, y 1, y 2]) (hp : Own w' (.ints .i64 [x 0, x 1, x 2]) (.slice (some ⟨p, 0, none⟩) 3 a) p (p + 1))
    (hq : Own w' (.ints .i64 [y 0, y 1, y 2]) (.slice (some ⟨q, 0, none⟩) 3 b) q (q + 1)) (hne : p ≠ q) (hpl : w.heap.size ≤ p) (hql : w.heap.size ≤ q) (hpr : p < w'.heap.size) (hqr : q < w'.heap.size) (hb : Below w.heap.size w w') :
    IIAns w code xs ys (.returned (.agg #[.int .i64 0, .slice (some ⟨p, 0, none⟩) 3 a, .slice (some ⟨q, 0, none⟩) 3 b])) w' :=
  ⟨_, _, _, _, _, _, p, p + 1, q, q + 1, by rw [hc], by rw [hx]; exact hp, by rw [hy]; exact hq, hpl, hpr, hql, hqr, by omega, hb⟩
theorem bx3own {w : World} {b c : Nat} {x : Nat → Int} (h : Bx w b (rv x)) (hc : 3 ≤ c) (hm : c ≤ maxLen) : Own w (.ints .i64 [x 0, x 1, x 2]) (.slice (some ⟨b, 0, none⟩) 3 c) b (b + 1) := by
  obtain ⟨bs, k1, k2, k3⟩ := Hd.of_rd (c := c) (k := .i64) (xs := [x 0, x 1, x 2]) (w := w) (A := some ⟨b, 0, none⟩) (n := 3) ⟨rfl, fun _ => ⟨b, 0, rfl, fun i hi => by
    match i, hi with
    | 0, _ => simpa using h.c 0 rfl
    | 1, _ => simpa using h.c 1 rfl
    | 2, _ => simpa using h.c 2 rfl⟩⟩ hc hm
  refine ⟨bs, k1, k2, fun z hz => ?_⟩
  obtain ⟨_, o, e⟩ := k3 z hz
  injection e with e
  injection e with e1 e2
  subst e1
  exact ⟨Nat.le_refl _, Nat.lt_succ_self _, h.f⟩
set_option maxRecDepth 100000 in
set_option maxHeartbeats 4000000 in
theorem CellOf_any (P : Option Addr) (m d : Nat) (sd : Int) (xs : List Int) (gs : List Nat) (w : World) (hp : Hd w (.ints .i64 xs) (.slice P m d) gs) :
    Calls Try.prog 9 #[.int .i64 sd, .slice P m d] w (IIAns w (ceC sd xs) (ceL sd xs) (ceR sd xs)) := by
  have HP := Lib.hid hp
  clear hp
  rcases Bool.eq_false_or_eq_true (inB sd 2 4) with hs | hs
  · have CS : Hid (∀ W, Calls Try.prog 48 #[.int .i64 sd] W fun e w' => e = .returned (.bool true) ∧ W = w') := fun W => by rw [← hs]; exact isSide_any sd W
    have HE : Hid (ceC sd xs = lf xs) := by show _ = _; unfold ceC; rw [if_pos hs]
    have HS3 := Lib.hid (side_cases hs)
    clear hs
    go_enter Try.func9, Try.ntmps9
    go_wp2_with (go_at_call 48; refine (CS.out _).mono ?_; rintro e w' ⟨rfl, rfl⟩)
    refine (lightsOf_k 1 (.inl rfl) P m d xs _ (HP.out.rd.below (blAlloc _ _)) HP.out.caps.1 HP.out.caps.2).mono ?_
    rintro e w1 ⟨q, rfl, hq, hb⟩
    have R1 := Lib.hid ((Bx.new w #[.int .i64 0, .slice none 0 0, .slice none 0 0] 36 (b := w.heap.size) rfl).bel hb)
    have T1 := Lib.hid (blThen (blAlloc w _) hb)
    rw [lfo_1] at hq ⊢
    clear hb CS
    by_cases h0 : lf xs = 0
    · have HA := Lib.hid (ce_yes (sd := sd) (xs := xs) (HE.out.trans h0))
      have HQ : Hid (LvT (65535 * 1) q) := fun j hj => by
        rw [hq h0 j hj, Int.mul_one]
        exact inB_iff.1 ((lf_zero h0).2 j hj)
      obtain ⟨f, hf⟩ : ∃ f, f = ccT (65535 * 1) sd q := ⟨_, rfl⟩
      obtain ⟨g, hg⟩ : ∃ g, g = crT (65535 * 1) sd q := ⟨_, rfl⟩
      have hff : ∀ j, j < 3 → cc sd (xs.getD · 0) j = f j := fun j hj => by
        rw [hf, Int.mul_one, ccT_1]; unfold cc; rw [hq h0 j hj]
      have hgg : ∀ j, j < 3 → cr sd (xs.getD · 0) j = g j := fun j hj => by
        rw [hg, Int.mul_one, crT_1]; unfold cr; rw [hq h0 j hj]
      have hF : [cc sd (xs.getD · 0) 0, cc sd (xs.getD · 0) 1, cc sd (xs.getD · 0) 2] = [f 0, f 1, f 2] := by rw [hff 0 (by omega), hff 1 (by omega), hff 2 (by omega)]
      have hG : [cr sd (xs.getD · 0) 0, cr sd (xs.getD · 0) 1, cr sd (xs.getD · 0) 2] = [g 0, g 1, g 2] := by rw [hgg 0 (by omega), hgg 1 (by omega), hgg 2 (by omega)]
      have HF := Lib.hid (And.intro (HA.out.2.1.trans hF) (HA.out.2.2.trans hG))
      have HC := Lib.hid HA.out.1
      have CK : Hid (∀ W, Calls Try.prog 49 #[.int .i64 sd, .agg #[.int .i64 (q 0), .int .i64 (q 1), .int .i64 (q 2)], .int .i64 1] W (CoAns W f g)) := fun W => by rw [hf, hg]; exact cellOf_k 1 (.inl rfl) sd q W HS3.out HQ.out
      rw [h0]
      clear h0 hq hff hgg hF hG HA hf hg HP HE
      go_wp2_with fail
      refine (CK.out _).mono ?_
      rintro e w2 ⟨rfl, hb⟩
      have R2 := Lib.hid ((R1.out.alloc (.cells #[.int .i64 (q 0), .int .i64 (q 1), .int .i64 (q 2)] 75)).bel hb)
      have T2 := Lib.hid (blThen (blThenAlloc T1.out _) hb)
      clear hb R1 T1
      have r0 := R2.out.c 0 rfl
      have r1 := R2.out.c 1 rfl
      have r2 := R2.out.c 2 rfl
      have z0 := R2.out.f 0
      have z1 := R2.out.f 1
      have z2 := R2.out.f 2
      have l0 := R2.out.lt
      go_wp2_with fail
      go_region
      go_wp2_with fail
      obtain ⟨U, hU⟩ : ∃ U, U = ((w2.setCell ⟨w.heap.size, 0, none⟩ (.int .i64 0)).setCell ⟨w.heap.size, 1, none⟩ (.slice (some ⟨w2.heap.size, 0, none⟩) 3 3)).setCell ⟨w.heap.size, 2, none⟩ (.slice (some ⟨w2.heap.size + 1, 0, none⟩) 3 3) := ⟨_, rfl⟩
      have hz : U.heap.size = w2.heap.size := by rw [hU]; simp only [setSize]
      have RU : Bx U w.heap.size [.int .i64 0, .slice (some ⟨w2.heap.size, 0, none⟩) 3 3, .slice (some ⟨w2.heap.size + 1, 0, none⟩) 3 3] := by rw [hU]; exact ((R2.out.set 0 (.int .i64 0)).set 1 (.slice (some ⟨w2.heap.size, 0, none⟩) 3 3)).set 2 (.slice (some ⟨w2.heap.size + 1, 0, none⟩) 3 3)
      have TU : Below w.heap.size w U := by rw [hU]; exact bel1 (bel1 (bel1 T2.out (c := w.heap.size) (by omega) 0 _) (c := w.heap.size) (by omega) 1 _) (c := w.heap.size) (by omega) 2 _
      rw [← hU]
      clear hU
      obtain ⟨V, hV⟩ : ∃ V, V = ((U.alloc (.cells #[.int .i64 (f 0), .int .i64 (f 1), .int .i64 (f 2)] 82)).alloc (.cells #[.int .i64 (g 0), .int .i64 (g 1), .int .i64 (g 2)] 75)).drewN 1 := ⟨_, rfl⟩
      have F1 : Bx V w2.heap.size (rv f) := by rw [hV, ← hz]; exact ((Bx.new _ _ _ rfl).alloc _).drewN 1
      have F2 : Bx V (w2.heap.size + 1) (rv g) := by rw [hV, ← hz]; exact (Bx.new _ _ _ (by simp)).drewN 1
      have RV : Bx V w.heap.size [.int .i64 0, .slice (some ⟨w2.heap.size, 0, none⟩) 3 3, .slice (some ⟨w2.heap.size + 1, 0, none⟩) 3 3] := by rw [hV]; exact ((RU.alloc _).alloc _).drewN 1
      have TV : Below w.heap.size w V := by rw [hV]; exact blThenDrew (blThenAlloc (blThenAlloc TU _) _) 1
      have k0 := RV.c 0 rfl
      have k1 := RV.c 1 rfl
      have k2 := RV.c 2 rfl
      show bodyPost _ _ _ _ _ (((U.alloc _).alloc _).drewN 1)
      rw [← hV]
      refine bodyPost_ret (v := .agg #[.int .i64 0, .slice (some ⟨w2.heap.size, 0, none⟩) 3 3, .slice (some ⟨w2.heap.size + 1, 0, none⟩) 3 3]) (by simp [results, Try.results9, go_sem, k0, k1, k2]) rfl (IIAns.good HC.out HF.out.1 HF.out.2 (bx3own F1 (by omega) (by unfold maxLen; omega)) (bx3own F2 (by omega) (by unfold maxLen; omega)) (by omega) (by omega) (by omega) F1.lt F2.lt TV)
    · have HA := Lib.hid (ce_no (sd := sd) (xs := xs) (c := lf xs) HE.out.symm h0)
      obtain ⟨code, hcd⟩ : ∃ c, lf xs = c := ⟨_, rfl⟩
      rw [hcd] at HA h0 ⊢
      have hqn : (code == 0) = false := by simpa using h0
      have r0 := R1.out.c 0 rfl
      have r1 := R1.out.c 1 rfl
      have r2 := R1.out.c 2 rfl
      have z0 := R1.out.f 0
      have z1 := R1.out.f 1
      have z2 := R1.out.f 2
      have l0 := R1.out.lt
      clear hq hcd HP HE
      go_wp2_with fail
      have KK := (((R1.out.set 0 (.int .i64 code)).set 1 (.slice none 0 0)).set 2 (.slice none 0 0)).alloc (.cells #[.int .i64 (q 0), .int .i64 (q 1), .int .i64 (q 2)] 75)
      have k0 := KK.c 0 rfl
      have k1 := KK.c 1 rfl
      have k2 := KK.c 2 rfl
      clear KK
      refine bodyPost_ret (v := .agg #[.int .i64 code, .slice none 0 0, .slice none 0 0]) (by simp [results, Try.results9, go_sem, k0, k1, k2]) rfl (IIAns.bad HA.out ?_)
      exact blThenAlloc (bel1 (bel1 (bel1 T1.out (c := w.heap.size) (by omega) 0 _) (c := w.heap.size) (by omega) 1 _) (c := w.heap.size) (by omega) 2 _) _
  · have CS : Hid (∀ W, Calls Try.prog 48 #[.int .i64 sd] W fun e w' => e = .returned (.bool false) ∧ W = w') := fun W => by rw [← hs]; exact isSide_any sd W
    have HA := Lib.hid (ce_no (sd := sd) (xs := xs) (c := 3) (by unfold ceC; rw [hs]; rfl) (by omega))
    clear hs HP
    go_enter Try.func9, Try.ntmps9
    go_wp2_with (go_at_call 48; refine (CS.out _).mono ?_; rintro e w' ⟨rfl, rfl⟩)
    refine bodyPost_ret (v := .agg #[.int .i64 3, .slice none 0 0, .slice none 0 0]) (by simp [results, Try.results9, go_sem]) rfl (IIAns.bad HA.out ?_)
    repeat (first | exact blAlloc _ _ | refine Below.setCell ?_ (by simp) _)
set_option maxRecDepth 100000 in
set_option maxHeartbeats 4000000 in
theorem sCellOf_any (P : Option Addr) (m d : Nat) (sd : Int) (xs : List Int) (gs : List Nat) (w : World) (hp : Hd w (.ints .i64 xs) (.slice P m d) gs) :
    Calls Try.prog 14 #[.int .i64 sd, .slice P m d] w (IIAns w (ceC sd xs) (ceL sd xs) (ceR sd xs)) := by
  obtain ⟨W0, hW0⟩ : ∃ W, W = w.alloc (.cells #[.int .i64 0, .slice none 0 0, .slice none 0 0] 36) := ⟨_, rfl⟩
  have R0 : Hid (Bx W0 w.heap.size [.int .i64 0, .slice none 0 0, .slice none 0 0]) := by show Bx _ _ _; rw [hW0]; exact Bx.new _ _ _ rfl
  have T0 : Hid (Below w.heap.size w W0) := by show Below _ _ _; rw [hW0]; exact blAlloc _ _
  have HP := Lib.hid (hp.bel T0.out)
  have HW := Lib.hid hW0
  clear hp hW0
  have r0 := R0.out.c 0 rfl
  have r1 := R0.out.c 1 rfl
  have r2 := R0.out.c 2 rfl
  have z0 := R0.out.f 0
  have z1 := R0.out.f 1
  have z2 := R0.out.f 2
  have l0 := R0.out.lt
  rcases Bool.eq_false_or_eq_true (inB sd 2 4) with hs | hs
  · have CS : Hid (∀ W, Calls Try.prog 52 #[.int .i64 sd] W fun e w' => e = .returned (.bool true) ∧ W = w') := fun W => by rw [← hs]; exact sSide5_any sd W
    have HE : ceC sd xs = lf xs := by unfold ceC; rw [if_pos hs]
    have HS := Lib.hid (side_cases hs)
    clear hs
    go_enter Try.func14, Try.ntmps14
    go_wp2_with (go_at_call 52; refine (CS.out _).mono ?_; rintro e w' ⟨rfl, rfl⟩)
    rw [← HW.out]
    refine (sLevels4_any _ _ _ _ _ HP.out.rd HP.out.caps.1 HP.out.caps.2).mono ?_
    rintro e w2 ⟨rfl, rfl⟩
    clear HW CS
    by_cases h0 : lf xs = 0
    · obtain rfl : 3 = m := by rw [← (lf_zero h0).1]; exact HP.out.rd.1
      have HA := Lib.hid (ce_yes (HE.trans h0))
      have hv : Lv (xs.getD · 0) := fun j hj => inB_iff.1 ((lf_zero h0).2 j hj)
      obtain ⟨c, hc⟩ : ∃ c, c = cc sd (xs.getD · 0) := ⟨_, rfl⟩
      obtain ⟨r, hr⟩ : ∃ r, r = cr sd (xs.getD · 0) := ⟨_, rfl⟩
      have CE : Hid (Calls Try.prog 54 #[.int .i64 sd, .slice P 3 d] W0 (C2Ans W0 c r)) := by
        show Calls _ _ _ _ _
        rw [hc, hr]
        exact sCells5_any P d sd xs _ W0 HP.out.rd (fun _ _ => rfl) HS.out hv
      replace HA : Hid (ceC sd xs = 0 ∧ ceL sd xs = [c 0, c 1, c 2] ∧ ceR sd xs = [r 0, r 1, r 2]) := by show _ ∧ _; rw [hc, hr]; exact HA.out
      rw [h0]
      clear hc hr hv h0 HE
      go_wp2_with fail
      refine CE.out.mono ?_
      rintro e w3 ⟨g1, c1, g2, c2, rfl, b1, b2, hne, hg1, hg2, hc1, hc2, hm1, hm2, hb⟩
      have R3 := Lib.hid (R0.out.bel hb)
      have T3 := Lib.hid (blThen T0.out hb)
      have HB := Lib.hid (And.intro b1 (And.intro b2 (And.intro hne (And.intro hg1 (And.intro hg2 (And.intro (And.intro hc1 hm1) (And.intro hc2 hm2)))))))
      have l3 := R3.out.lt
      clear hb b1 b2 hne hg1 hg2 hc1 hc2 hm1 hm2 R0 T0 HP CE r0 r1 r2 z0 z1 z2
      have r0 := R3.out.c 0 rfl
      have r1 := R3.out.c 1 rfl
      have r2 := R3.out.c 2 rfl
      have z0 := R3.out.f 0
      have z1 := R3.out.f 1
      have z2 := R3.out.f 2
      go_wp2_with fail
      have KK := ((R3.out.set 0 (.int .i64 0)).set 1 (.slice (some ⟨g1, 0, none⟩) 3 c1)).set 2 (.slice (some ⟨g2, 0, none⟩) 3 c2)
      obtain ⟨q1, q2, q3, q4, q5, q6, q7⟩ := HB.out
      have J1 := ((q1.oth (c := w.heap.size) (by omega) 0 (.int .i64 0)).oth (c := w.heap.size) (by omega) 1 (.slice (some ⟨g1, 0, none⟩) 3 c1)).oth (c := w.heap.size) (by omega) 2 (.slice (some ⟨g2, 0, none⟩) 3 c2)
      have J2 := ((q2.oth (c := w.heap.size) (by omega) 0 (.int .i64 0)).oth (c := w.heap.size) (by omega) 1 (.slice (some ⟨g1, 0, none⟩) 3 c1)).oth (c := w.heap.size) (by omega) 2 (.slice (some ⟨g2, 0, none⟩) 3 c2)
      have TT := bel1 (bel1 (bel1 T3.out (c := w.heap.size) (by omega) 0 (.int .i64 0)) (c := w.heap.size) (by omega) 1 (.slice (some ⟨g1, 0, none⟩) 3 c1)) (c := w.heap.size) (by omega) 2 (.slice (some ⟨g2, 0, none⟩) 3 c2)
      have k0 := KK.c 0 rfl
      have k1 := KK.c 1 rfl
      have k2 := KK.c 2 rfl
      clear KK
      refine bodyPost_ret (v := .agg #[.int .i64 0, .slice (some ⟨g1, 0, none⟩) 3 c1, .slice (some ⟨g2, 0, none⟩) 3 c2]) (by simp [results, Try.results14, go_sem, k0, k1, k2]) rfl (IIAns.good HA.out.1 HA.out.2.1 HA.out.2.2 (bx3own J1 q6.1 q6.2) (bx3own J2 q7.1 q7.2) q3 (by omega) (by omega) J1.lt J2.lt TT)
    · have HA := Lib.hid (ce_no (sd := sd) (xs := xs) HE.symm h0)
      have hqn : (lf xs == 0) = false := by simpa using h0
      clear h0 HE HP
      go_wp2_with fail
      have KK := ((R0.out.set 0 (.int .i64 (lf xs))).set 1 (.slice none 0 0)).set 2 (.slice none 0 0)
      have k0 := KK.c 0 rfl
      have k1 := KK.c 1 rfl
      have k2 := KK.c 2 rfl
      clear KK
      refine bodyPost_ret (v := .agg #[.int .i64 (lf xs), .slice none 0 0, .slice none 0 0]) (by simp [results, Try.results14, go_sem, k0, k1, k2]) rfl (IIAns.bad HA.out ?_)
      exact bel1 (bel1 (bel1 T0.out (c := w.heap.size) (by omega) 0 _) (c := w.heap.size) (by omega) 1 _) (c := w.heap.size) (by omega) 2 _
  · have CS : Hid (∀ W, Calls Try.prog 52 #[.int .i64 sd] W fun e w' => e = .returned (.bool false) ∧ W = w') := fun W => by rw [← hs]; exact sSide5_any sd W
    have HA : Hid (ceC sd xs = 3 ∧ ceL sd xs = [] ∧ ceR sd xs = []) := ce_no (c := 3) (by unfold ceC; rw [hs]; rfl) (by omega)
    clear hs HP
    go_enter Try.func14, Try.ntmps14
    go_wp2_with (go_at_call 52; refine (CS.out _).mono ?_; rintro e w' ⟨rfl, rfl⟩)
    have KK : Bx (w.alloc (.cells #[.int .i64 3, .slice none 0 0, .slice none 0 0] 36)) w.heap.size [.int .i64 3, .slice none 0 0, .slice none 0 0] := Bx.new _ _ _ rfl
    have k0 := KK.c 0 rfl
    have k1 := KK.c 1 rfl
    have k2 := KK.c 2 rfl
    clear KK
    refine bodyPost_ret (v := .agg #[.int .i64 3, .slice none 0 0, .slice none 0 0]) (by simp [results, Try.results14, go_sem, k0, k1, k2]) rfl (IIAns.bad HA.out (blAlloc _ _))
end Go.Proofs.Ythplngcdldongaa
