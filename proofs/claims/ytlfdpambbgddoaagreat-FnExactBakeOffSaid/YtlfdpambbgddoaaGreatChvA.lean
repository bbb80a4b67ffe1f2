/-
  A chain at a list of numbers: the program's stepsOf, evalChain, EvalChain, FineChain.
-/
import Derived.Test.YtlfdpambbgddoaaGreatStpB
namespace Go.Proofs.YtlfdpambbgddoaaGreat
open Go.RowKit Go.Maps
set_option linter.unusedVariables false
set_option linter.unusedSimpArgs false

def chC (ts : List Stg) (xs : List Int) : Int := if chf ts = 0 then lfo 1 xs else chf ts
theorem chC_f {ts : List Stg} {xs : List Int} (h : chf ts ≠ 0) : chC ts xs = chf ts := by unfold chC; rw [if_neg h]
theorem chC_l {ts : List Stg} {xs : List Int} (h : chf ts = 0) : chC ts xs = lfo 1 xs := by unfold chC; rw [if_pos h]
theorem chC_zero {ts : List Stg} {xs : List Int} (h : chC ts xs = 0) : chf ts = 0 ∧ lfo 1 xs = 0 := by
  unfold chC at h
  by_cases h0 : chf ts = 0
  · rw [if_pos h0] at h; exact ⟨h0, h⟩
  · rw [if_neg h0] at h; exact absurd h h0
theorem chf_zero {ts : List Stg} (h : chf ts = 0) : ts.length ≤ 5 ∧ sgL ts ts.length = 0 := by
  unfold chf at h
  by_cases h5 : 5 < ts.length
  · rw [if_pos h5] at h; omega
  · rw [if_neg h5] at h; exact ⟨by omega, h⟩
def chX (o : Int) (xs : List Int) (j : Nat) : Int := xs.getD j 0 * o
theorem chX_bd {o : Int} (ho : One o) {xs : List Int} (h : lfo 1 xs = 0) : LvT (65535 * o) (chX o xs) := fun j hj => by
  have := inB_iff.1 ((lfo_zero h).2 j hj)
  unfold chX
  rcases ho with rfl | rfl <;> omega
theorem OwnL.mono {w : World} {base base' n : Nat} {v : Value} {f : Nat → Nat → Int} (h : OwnL w base v n f) (hb : base' ≤ base) : OwnL w base' v n f := by
  refine ⟨h.1, ?_⟩
  rcases h.2 with q | ⟨g, cap, cur, q1, q2, q3⟩
  · exact .inl q
  · exact .inr ⟨g, cap, cur, q1, Nat.le_trans hb q2, q3⟩
def StoAns (w : World) (o : Int) (ts : List Stg) (xs : List Int) (e : Ending) (w' : World) : Prop :=
  ∃ v, e = .returned (.tuple #[v, .int .i64 (chC ts xs)]) ∧ (chC ts xs = 0 → OwnL w' w.heap.size v (ts.length + 1) (evW o ts (chX o xs))) ∧ Below w.heap.size w w'
set_option maxRecDepth 100000 in
set_option maxHeartbeats 4000000 in
theorem stepsOf_any (o : Int) (ho : One o) (A : Option Addr) (n c : Nat) (ts : List Stg) (bs : List Nat) (P : Option Addr) (m d : Nat) (xs : List Int) (gs : List Nat) (w : World) (h : Hd w (chD ts) (.slice A n c) bs) (hp : Hd w (.ints .i64 xs) (.slice P m d) gs) :
    Calls Tryz.prog 118 #[.agg #[.slice A n c], .slice P m d, .int .i64 o] w (StoAns w o ts xs) := by
  have H := Lib.hid h
  have HP := Lib.hid hp
  have HO := Lib.hid ho
  clear h hp ho
  go_enter Tryz.func118, Tryz.ntmps118
  go_wp2_with fail
  refine (chainStages_any A n c ts bs _ (H.out.alloc _)).mono ?_
  rintro e w1 ⟨v, rfl, hok, hb⟩
  have T1 := Lib.hid (blThen (blAlloc w _) hb)
  clear hb H
  by_cases h0 : chf ts = 0
  · obtain ⟨vs, hov, hst⟩ := hok h0
    have H0 := Lib.hid h0
    have H5 := Lib.hid (chf_zero h0)
    obtain ⟨A', c', rfl, hc1, hc2, hsts⟩ := Sts.of hov hst (sgL_all _ H5.out.2)
    have HST := Lib.hid hsts
    have HC1 := Lib.hid hc1
    have HC2 := Lib.hid hc2
    rw [h0]
    clear hok hov hst h0 hsts hc1 hc2
    go_wp2_with fail
    refine (lightsOf_k 1 (.inl rfl) P m d xs _ (HP.out.rd.below T1.out) HP.out.caps.1 HP.out.caps.2).mono ?_
    rintro e w2 ⟨q, rfl, hq, hb⟩
    have T2 := Lib.hid (blThen T1.out hb)
    have HST2 := Lib.hid (HST.out.bel hb)
    clear hb T1 HST
    by_cases h1 : lfo 1 xs = 0
    · have HC : Hid (chC ts xs = 0) := by show _ = _; rw [chC_l H0.out, h1]
      have HQ : Hid (∀ j, j < 3 → 0 ≤ q j ∧ q j ≤ 65535) := fun j hj => by rw [hq h1 j hj]; exact inB_iff.1 ((lfo_zero h1).2 j hj)
      have HEV : Hid (∀ k i, i < 3 → evW o ts (fun j => 0 + q j * o) k i = evW o ts (chX o xs) k i) := fun k i hi => evW_ext o ts (fun j hj => by show 0 + q j * o = xs.getD j 0 * o; rw [hq h1 j hj]; omega) k i hi
      have HX : Hid (LvT (65535 * o) (fun j => 0 + q j * o)) := fun j hj => by
        have a := chX_bd HO.out h1 j hj
        unfold chX at a
        show 0 ≤ 0 + q j * o ∧ 0 + q j * o ≤ 65535 * o
        rw [hq h1 j hj]
        omega
      rw [h1]
      clear hq h1
      go_wp2_with fail
      refine (plusTimes_any 0 0 0 (q 0) (q 1) (q 2) o _ (by omega) (by omega) (by omega) (HQ.out 0 (by omega)) (HQ.out 1 (by omega)) (HQ.out 2 (by omega)) (by rcases HO.out with rfl | rfl <;> omega)).mono ?_
      rintro e w3 ⟨rfl, hb⟩
      have T3 := Lib.hid (blThen (blThenAlloc T2.out (.cells #[.int .i64 (q 0), .int .i64 (q 1), .int .i64 (q 2)] 76)) hb)
      have HST3 := Lib.hid ((HST2.out.bel (blAlloc _ (.cells #[.int .i64 (q 0), .int .i64 (q 1), .int .i64 (q 2)] 76))).bel hb)
      obtain ⟨y, hy⟩ : ∃ y : Nat → Int, y = fun j => 0 + q j * o := ⟨_, rfl⟩
      have e0 : 0 + q 0 * o = y 0 := by rw [hy]
      have e1 : 0 + q 1 * o = y 1 := by rw [hy]
      have e2 : 0 + q 2 * o = y 2 := by rw [hy]
      rw [e0, e1, e2]
      rw [← hy] at HEV HX
      clear hb T2 HST2 e0 e1 e2 hy
      go_wp2_with fail
      refine (stepsBy_any o HO.out A' ts.length c' ts vs y _ HST3.out HC1.out HC2.out (by have := H5.out.1; omega) HX.out).mono ?_
      rintro e w4 ⟨v, rfl, hov, hb⟩
      have HF := Lib.hid (OwnL.mono (OwnL.ext hov (fun t _ j hj => HEV.out t j hj)) T3.out.size)
      have T4 := Lib.hid (blThen T3.out hb)
      clear hb T3 HST3 hov
      go_wp2_with fail
      go_ret2
      exact ⟨v, by rw [HC.out]; rfl, fun _ => HF.out, T4.out⟩
    · have HC := Lib.hid (chC_l (xs := xs) H0.out)
      obtain ⟨f, hf⟩ : ∃ f, lfo 1 xs = f := ⟨_, rfl⟩
      rw [hf] at h1 HC ⊢
      have hqn : (f == 0) = false := by simpa using h1
      have HN := Lib.hid h1
      clear hq hf h1
      go_wp2_with fail
      go_ret2
      exact ⟨_, by rw [HC.out]; rfl, fun e => absurd (HC.out.symm.trans e) HN.out, blThenAlloc T2.out _⟩
  · have HC := Lib.hid (chC_f (xs := xs) h0)
    obtain ⟨f, hf⟩ : ∃ f, chf ts = f := ⟨_, rfl⟩
    rw [hf] at h0 HC ⊢
    have hqn : (f == 0) = false := by simpa using h0
    have HN := Lib.hid h0
    clear hok hf h0
    go_wp2_with fail
    go_ret2
    exact ⟨_, by rw [HC.out]; rfl, fun e => absurd (HC.out.symm.trans e) HN.out, T1.out⟩
def chL (o : Int) (ts : List Stg) (xs : List Int) : List Int := if chC ts xs = 0 then [evW o ts (chX o xs) ts.length 0, evW o ts (chX o xs) ts.length 1, evW o ts (chX o xs) ts.length 2] else []
theorem chL_n {o : Int} {ts : List Stg} {xs : List Int} (h : chC ts xs ≠ 0) : chL o ts xs = [] := by unfold chL; rw [if_neg h]
theorem chL_y {o : Int} {ts : List Stg} {xs : List Int} (h : chC ts xs = 0) : chL o ts xs = [evW o ts (chX o xs) ts.length 0, evW o ts (chX o xs) ts.length 1, evW o ts (chX o xs) ts.length 2] := by unfold chL; rw [if_pos h]
theorem chL_len (o : Int) (ts : List Stg) (xs : List Int) : (chL o ts xs).length ≤ 3 := by unfold chL; split <;> simp
set_option maxRecDepth 100000 in
set_option maxHeartbeats 4000000 in
theorem evalChain_any (o : Int) (ho : One o) (A : Option Addr) (n c : Nat) (ts : List Stg) (bs : List Nat) (P : Option Addr) (m d : Nat) (xs : List Int) (gs : List Nat) (w : World) (h : Hd w (chD ts) (.slice A n c) bs) (hp : Hd w (.ints .i64 xs) (.slice P m d) gs) :
    Calls Tryz.prog 96 #[.agg #[.slice A n c], .slice P m d, .int .i64 o] w (IAns w (chC ts xs) (chL o ts xs)) := by
  have H := Lib.hid h
  have HP := Lib.hid hp
  clear h hp
  go_enter Tryz.func96, Tryz.ntmps96
  go_wp2_with fail
  refine (stepsOf_any o ho A n c ts bs P m d xs gs _ ((H.out.alloc _).alloc _) ((HP.out.alloc _).alloc _)).mono ?_
  rintro e w1 ⟨v, rfl, hok, hb⟩
  have R1 := Lib.hid ((Bx.new (w.alloc (.cells #[.slice A n c] 34)) #[.int .i64 0, .slice none 0 0] 117 (b := w.heap.size + 1) (by simp)).bel hb)
  have T1 := Lib.hid (blThen (blThenAlloc (blAlloc w _) _) hb)
  have r0 := R1.out.c 0 rfl
  have r1 := R1.out.c 1 rfl
  have z0 := R1.out.f 0
  have z1 := R1.out.f 1
  have l1 := R1.out.lt
  clear hb H HP
  by_cases h0 : chC ts xs = 0
  · have HOV := Lib.hid (hok h0)
    have HL := Lib.hid (chL_y (o := o) h0)
    have H0 := Lib.hid h0
    have H5 := Lib.hid (chf_zero (chC_zero h0).1)
    rw [h0]
    clear hok h0
    go_wp2_with fail
    refine (lastOf_any v ts.length _ _ _ HOV.out (by have := H5.out.1; omega)).mono ?_
    rintro e w4 ⟨G, n', c', rfl, how, hb⟩
    have R4 := Lib.hid (R1.out.bel hb)
    have T4 := Lib.hid (blThen T1.out hb)
    have l3 := R1.out.lt
    have HPT := Lib.hid (IAns.put (b := w.heap.size + 1) 0 (by omega) l3 how T4.out)
    clear hb R1 T1 how HOV r0 r1 z0 z1 l1
    have r0 := R4.out.c 0 rfl
    have r1 := R4.out.c 1 rfl
    have z0 := R4.out.f 0
    have z1 := R4.out.f 1
    have l1 := R4.out.lt
    go_wp2_with fail
    have KK := (R4.out.set 0 (.int .i64 0)).set 1 (.slice G n' c')
    have k0 := KK.c 0 rfl
    have k1 := KK.c 1 rfl
    clear KK
    refine bodyPost_ret (v := .agg #[.int .i64 0, .slice G n' c']) (by simp [results, Tryz.results96, go_sem, k0, k1]) rfl ⟨G, n', c', by rw [H0.out], ?_, HPT.out.2⟩
    rw [HL.out]
    exact HPT.out.1
  · have HA := Lib.hid (chL_n (o := o) h0)
    obtain ⟨f, hf⟩ : ∃ f, chC ts xs = f := ⟨_, rfl⟩
    have HFF := Lib.hid hf
    rw [hf] at h0 ⊢
    have hqn : (f == 0) = false := by simpa using h0
    clear hok hf
    go_wp2_with fail
    have KK := (R1.out.set 0 (.int .i64 f)).set 1 (.slice none 0 0)
    have k0 := KK.c 0 rfl
    have k1 := KK.c 1 rfl
    clear KK
    refine bodyPost_ret (v := .agg #[.int .i64 f, .slice none 0 0]) (by simp [results, Tryz.results96, go_sem, k0, k1]) rfl (IAns.bad ⟨HFF.out, HA.out⟩ ?_)
    exact bel1 (bel1 T1.out (c := w.heap.size + 1) (by omega) 0 _) (c := w.heap.size + 1) (by omega) 1 _
set_option maxHeartbeats 400000 in
theorem EvalChain_any (A : Option Addr) (n c : Nat) (ts : List Stg) (bs : List Nat) (P : Option Addr) (m d : Nat) (xs : List Int) (gs : List Nat) (w : World) (h : Hd w (chD ts) (.slice A n c) bs) (hp : Hd w (.ints .i64 xs) (.slice P m d) gs) :
    Calls Tryz.prog 68 #[.agg #[.slice A n c], .slice P m d] w (IAns w (chC ts xs) (chL 1 ts xs)) := by
  have H := Lib.hid h
  have HP := Lib.hid hp
  clear h hp
  go_enter Tryz.func68, Tryz.ntmps68
  go_wp2_with fail
  refine (evalChain_any 1 (.inl rfl) A n c ts bs P m d xs gs _ ((H.out.alloc _).alloc _) ((HP.out.alloc _).alloc _)).mono ?_
  rintro e w1 ⟨G, n', c', rfl, how, hb⟩
  have R1 := Lib.hid ((Bx.new (w.alloc (.cells #[.slice A n c] 34)) #[.int .i64 0, .slice none 0 0] 117 (b := w.heap.size + 1) (by simp)).bel hb)
  have HPT := Lib.hid (IAns.put (w := w) (b := w.heap.size + 1) (chC ts xs) (by omega) (by simp) how (blThen (blThenAlloc (blAlloc w _) _) hb))
  obtain ⟨f, hf⟩ : ∃ f, chC ts xs = f := ⟨_, rfl⟩
  have HF := Lib.hid hf
  rw [hf] at HPT ⊢
  clear hb how hf
  have r0 := R1.out.c 0 rfl
  have r1 := R1.out.c 1 rfl
  have z0 := R1.out.f 0
  have z1 := R1.out.f 1
  have l1 := R1.out.lt
  go_wp2_with fail
  have KK := (R1.out.set 0 (.int .i64 f)).set 1 (.slice G n' c')
  have k0 := KK.c 0 rfl
  have k1 := KK.c 1 rfl
  clear KK
  refine bodyPost_ret (v := .agg #[.int .i64 f, .slice G n' c']) (by simp [results, Tryz.results68, go_sem, k0, k1]) rfl ⟨G, n', c', by rw [HF.out], HPT.out.1, HPT.out.2⟩
end Go.Proofs.YtlfdpambbgddoaaGreat
