/-
  The inverse of a matrix: the program's InvertMatrix.
-/
import Derived.Test.YtibclnkiahengaaMatX
namespace Go.Proofs.Ytibclnkiahengaa
open Go.RowKit
set_option linter.unusedVariables false
set_option linter.unusedSimpArgs false

def smD (q : Nat → Int) : Int := rnd (det q) 65536
def nsg (a b : Int) : Int := if b < 0 then rnd (-a) (-b) else rnd a b
def invQ (q : Nat → Int) (t : Nat) : Int := nsg (mnr q (t % 3) (t / 3) * 65536) (smD q)
def ivC (rs : Rws) : Int := if mf rs = 0 then (if smD (fl rs) = 0 then 6 else maC (invQ (fl rs))) else mf rs
def ivR (rs : Rws) : Rws := if mf rs = 0 ∧ smD (fl rs) ≠ 0 then maR (invQ (fl rs)) else []
theorem iv_f {rs : Rws} (h : mf rs ≠ 0) : ivC rs = mf rs ∧ ivR rs = [] := ⟨by unfold ivC; rw [if_neg h], by unfold ivR; rw [if_neg (fun q => h q.1)]⟩
theorem iv_z {rs : Rws} (h : mf rs = 0) (h1 : smD (fl rs) = 0) : ivC rs = 6 ∧ ivR rs = [] := ⟨by unfold ivC; rw [if_pos h, if_pos h1], by unfold ivR; rw [if_neg (fun q => q.2 h1)]⟩
theorem iv_y {rs : Rws} (h : mf rs = 0) (h1 : smD (fl rs) ≠ 0) : ivC rs = maC (invQ (fl rs)) ∧ ivR rs = maR (invQ (fl rs)) := ⟨by unfold ivC; rw [if_pos h, if_neg h1], by unfold ivR; rw [if_pos ⟨h, h1⟩]⟩
theorem ivR_small (rs : Rws) : RsSmall (ivR rs) := by
  unfold ivR
  split
  · exact maR_small _
  · exact ⟨by simp, fun i hi => by simp at hi⟩
theorem ivR_len (rs : Rws) : (ivR rs).length ≤ 3 := by
  unfold ivR
  split
  · exact maR_len _
  · simp
theorem nearestS_any (a b : Int) (w : World) (hb : b ≠ 0) (hb1 : -1000000000000000000 ≤ b) (hb2 : b ≤ 1000000000000000000) (h1 : -1000000000000000000 ≤ a) (h2 : a ≤ 1000000000000000000) :
    Calls Try.prog 96 #[.int .i64 a, .int .i64 b] w fun e w' => e = .returned (.int .i64 (nsg a b)) ∧ Below w.heap.size w w' :=
  (nearestSigned_any a b w hb hb1 hb2 h1 h2).mono fun e w' ⟨he, m, hm⟩ => ⟨he, hm ▸ below_drewN _ m _⟩
theorem wrap_ok {u : Int} (h1 : -9223372036854775808 ≤ u) (h2 : u ≤ 9223372036854775807) : IntKind.i64.wrap u = u := by rw [IntKind.wrap_i64]; omega
theorem smD_bd {q : Nat → Int} (h : Q9 q) : -2000000000000 ≤ smD q ∧ smD q ≤ 2000000000000 := by
  have := det_bd h
  unfold smD rnd
  omega
theorem mnr_b2 {q : Nat → Int} (h : Q9 q) (r p : Nat) : -137438953472 ≤ mnr q r p ∧ mnr q r p ≤ 137438953472 := by have := mnr_bd h r p; omega
theorem mnr_congr {p q : Nat → Int} (h : ∀ t, t < 9 → p t = q t) (r c : Nat) : mnr p r c = mnr q r c := by
  unfold mnr
  rw [h _ (by omega), h _ (by omega), h _ (by omega), h _ (by omega)]
theorem det_congr {p q : Nat → Int} (h : ∀ t, t < 9 → p t = q t) : det p = det q := by
  unfold det
  rw [h 0 (by omega), h 1 (by omega), h 2 (by omega), mnr_congr h, mnr_congr h, mnr_congr h]
theorem inv_congr {p q : Nat → Int} (h : ∀ t, t < 9 → p t = q t) (t : Nat) : invQ p t = invQ q t := by
  unfold invQ smD
  rw [det_congr h, mnr_congr h]
set_option maxRecDepth 100000 in
set_option maxHeartbeats 16000000 in
theorem InvertMatrix_any (A : Option Addr) (n c : Nat) (rs : Rws) (bs : List Nat) (w : World) (h : Hd w (rowsD rs) (.slice A n c) bs) :
    Calls Try.prog 35 #[.agg #[.slice A n c]] w (MAns w (ivC rs) (ivR rs)) := by
  have H := Lib.hid h
  clear h
  go_enter Try.func35, Try.ntmps35
  go_wp2_with fail
  refine (cellsOf_any _ _ _ rs _ _ ((H.out.alloc _).alloc _)).mono ?_
  rintro e w1 ⟨q, rfl, hq, hb⟩
  have HQ := Lib.hid hq
  clear hq
  have R1 := Lib.hid ((Bx.new (w.alloc (.cells #[.slice A n c] 24)) #[.int .i64 0, .slice none 0 0] 26 (b := w.heap.size + 1) (by simp)).bel hb)
  have T1 := Lib.hid (blThen (blThenAlloc (blAlloc w _) _) hb)
  clear hb
  have r0 := R1.out.c 0 rfl
  have r1 := R1.out.c 1 rfl
  have z0 := R1.out.f 0
  have z1 := R1.out.f 1
  have m2 := R1.out.lt
  by_cases h0 : mf rs = 0
  rotate_left
  · have HA := Lib.hid (iv_f h0)
    obtain ⟨f, hf⟩ : ∃ f, f = mf rs := ⟨_, rfl⟩
    rw [← hf] at h0 HA ⊢
    clear hf
    have k0 := (((R1.out.set 0 (.int .i64 f)).set 1 (.slice none 0 0)).alloc (.cells #[.int .i64 (q 0), .int .i64 (q 1), .int .i64 (q 2), .int .i64 (q 3), .int .i64 (q 4), .int .i64 (q 5), .int .i64 (q 6), .int .i64 (q 7), .int .i64 (q 8)] 109)).c 0 rfl
    have k1 := (((R1.out.set 0 (.int .i64 f)).set 1 (.slice none 0 0)).alloc (.cells #[.int .i64 (q 0), .int .i64 (q 1), .int .i64 (q 2), .int .i64 (q 3), .int .i64 (q 4), .int .i64 (q 5), .int .i64 (q 6), .int .i64 (q 7), .int .i64 (q 8)] 109)).c 1 rfl
    go_wp2_with fail
    refine bodyPost_ret (v := .agg #[.int .i64 f, .slice none 0 0]) (by simp [results, Try.results35, go_sem, k0, k1]) rfl (MAns.bad HA.out ?_)
    refine blThenAlloc ?_ _
    repeat (refine Below.setCell ?_ (by simp; try omega) _)
    exact T1.out
  rw [h0]
  have HQE := Lib.hid (HQ.out h0)
  have HQB : Hid (Q9 q) := fun t ht => by rw [HQE.out t ht]; exact fl_Q9 h0 t ht
  have HSD : Hid (smD q = smD (fl rs)) := by show _ = _; unfold smD; rw [det_congr HQE.out]
  have C1 := Lib.hid (Bx.new w1 #[.int .i64 (q 0), .int .i64 (q 1), .int .i64 (q 2), .int .i64 (q 3), .int .i64 (q 4), .int .i64 (q 5), .int .i64 (q 6), .int .i64 (q 7), .int .i64 (q 8)] 109 rfl)
  have c0 := C1.out.c 0 rfl
  have c1 := C1.out.c 1 rfl
  have c2 := C1.out.c 2 rfl
  have c3 := C1.out.c 3 rfl
  have c4 := C1.out.c 4 rfl
  have c5 := C1.out.c 5 rfl
  have c6 := C1.out.c 6 rfl
  have c7 := C1.out.c 7 rfl
  have c8 := C1.out.c 8 rfl
  go_wp2_with fail
  refine (determinant_any q _ HQB.out).mono ?_
  rintro e w2 ⟨rfl, hb⟩
  have R2 := Lib.hid ((R1.out.alloc (.cells #[.int .i64 (q 0), .int .i64 (q 1), .int .i64 (q 2), .int .i64 (q 3), .int .i64 (q 4), .int .i64 (q 5), .int .i64 (q 6), .int .i64 (q 7), .int .i64 (q 8)] 109)).bel hb)
  have C2 := Lib.hid (C1.out.bel hb)
  have T2 := Lib.hid (blThen (blThenAlloc T1.out _) hb)
  have HDB := Lib.hid (det_bd HQB.out)
  clear hb C1 R1 T1 r0 r1 z0 z1 m2 c0 c1 c2 c3 c4 c5 c6 c7 c8
  have r0 := R2.out.c 0 rfl
  have r1 := R2.out.c 1 rfl
  have z0 := R2.out.f 0
  have z1 := R2.out.f 1
  have m2 := R2.out.lt
  go_wp2_with fail
  refine (nearest_any (det q) 65536 _ (by omega) (by omega) (by have := HDB.out; omega) (by have := HDB.out; omega)).mono ?_
  rintro e w' ⟨rfl, m, rfl⟩
  have HSM : Hid (smD q = rnd (det q) 65536) := rfl
  rw [← HSM.out]
  have R3 := Lib.hid (R2.out.drewN m)
  have C3 := Lib.hid (C2.out.drewN m)
  have T3 := Lib.hid (blThenDrew T2.out m)
  obtain ⟨w3, hw3⟩ : ∃ w3, w3 = w2.drewN m := ⟨_, rfl⟩
  rw [← hw3] at R3 C3 T3 ⊢
  clear R2 C2 T2 r0 r1 z0 z1 m2 hw3 HDB
  have r0 := R3.out.c 0 rfl
  have r1 := R3.out.c 1 rfl
  have z0 := R3.out.f 0
  have z1 := R3.out.f 1
  have m2 := R3.out.lt
  obtain ⟨sm, hsm⟩ : ∃ sm, sm = smD q := ⟨_, rfl⟩
  rw [← hsm]
  by_cases hz : sm = 0
  · subst hz
    have HA := Lib.hid (iv_z h0 (by rw [← HSD.out, ← hsm]))
    clear hsm
    have k0 := ((R3.out.set 0 (.int .i64 6)).set 1 (.slice none 0 0)).c 0 rfl
    have k1 := ((R3.out.set 0 (.int .i64 6)).set 1 (.slice none 0 0)).c 1 rfl
    go_wp2_with fail
    refine bodyPost_ret (v := .agg #[.int .i64 6, .slice none 0 0]) (by simp [results, Try.results35, go_sem, k0, k1]) rfl (MAns.bad HA.out ?_)
    repeat (refine Below.setCell ?_ (by simp; try omega) _)
    exact T3.out
  have HA := Lib.hid (iv_y h0 (by rw [← HSD.out, ← hsm]; exact hz))
  have hsb := smD_bd HQB.out
  rw [← hsm] at hsb
  have HSE := Lib.hid hsm
  have hze : (sm == 0) = false := by simpa using hz
  obtain ⟨W0, hW0⟩ : ∃ W0, W0 = w3.alloc (.cells #[.int .i64 0, .int .i64 0, .int .i64 0, .int .i64 0, .int .i64 0, .int .i64 0, .int .i64 0, .int .i64 0, .int .i64 0] 109) := ⟨_, rfl⟩
  have S0 : Hid (MS w W0 (w.heap.size + 1) 0 w1.heap.size w3.heap.size q q (fun _ => 0) 0) := by
    show MS _ _ _ _ _ _ _ _ _ _
    rw [hW0]
    exact ⟨R3.out.alloc _, C3.out.alloc _, Bx.new _ _ _ rfl, blThenAlloc T3.out _⟩
  have HN1 : Hid (w3.heap.size ≠ w.heap.size + 1) := by show _ ≠ _; have := R3.out.lt; omega
  have HN2 : Hid (w3.heap.size ≠ w1.heap.size) := by show _ ≠ _; have := C3.out.lt; omega
  have HN3 : Hid (w.heap.size ≤ w3.heap.size) := T3.out.size
  have HW := Lib.hid hW0
  clear hsm hW0 r0 r1 z0 z1 m2
  go_wp2_with fail
  rw [← HW.out]
  refine wp_loop_rounds 4 ?_
  rw [rounds_succ]
  have ii := fun W => ix9_0 (fun _ => 0) W
  have z1 := S0.out.f9.lt
  go_wp2_with fail
  clear ii z1
  obtain ⟨V0, hV0⟩ : ∃ V, V = W0.alloc (.cells #[.int .i64 0, .int .i64 0, .int .i64 0] 107) := ⟨_, rfl⟩
  have S : Hid (MS w V0 (w.heap.size + 1) 0 w1.heap.size w3.heap.size q q (fun _ => 0) 0) := by show MS _ _ _ _ _ _ _ _ _ _; rw [hV0]; exact S0.out.bel (blAlloc _ _)
  rw [← hV0]
  clear hV0 S0
  refine wp_loop_rounds 4 ?_
  rw [rounds_succ]
  have mb := mnr_b2 HQB.out 0 0
  have hwr : IntKind.i64.wrap (mnr q 0 0 * 65536) = mnr q 0 0 * 65536 := wrap_ok (by omega) (by omega)
  go_wp2_with fail
  refine wp_region_noPanic ?_
  refine wp_region_held_drew (S := (fun w' => ∃ v, MS w w' (w.heap.size + 1) 0 w1.heap.size w3.heap.size q q (updI (fun _ => 0) 0 v) 0)) (by kernel_rfl) ?_ (fun hHeld => ?_)
  · (try dsimp only); exact ⟨_, (MS.same S.out (updI_self (fun _ => 0) 0).symm).bel (Below.refl _ _).drew⟩
  change wpAnyH _ _ _ _ _ 12 _ _ _
  (refine wpAnyH_take (i := 0) (v := ?_) rfl (by kernel_rfl) (by kernel_rfl) (by kernel_rfl) (fun _ _ _ h => h) (Or.inl ⟨by rfl, ?_⟩) (by assumption) ?_; rotate_left 1; (focus (intro w hSw; (try dsimp only at hSw); (try simp only [List.getElem_toArray, List.getElem_cons_zero]); go_simp; try with_reducible rfl)); ((try simp only [List.getElem_toArray, List.getElem_cons_zero]); simp only [Act.put, List.setIfInBounds_toArray, List.set_cons_zero, List.set_cons_succ]))
  (refine wpAnyH_take (i := 1) (v := ?_) rfl (by kernel_rfl) (by kernel_rfl) (by kernel_rfl) (fun _ _ _ h => h) (Or.inl ⟨by rfl, ?_⟩) (by assumption) ?_; rotate_left 1; (focus (intro w hSw; (try dsimp only at hSw); (try simp only [List.getElem_toArray, List.getElem_cons_succ, List.getElem_cons_zero]); go_simp; try with_reducible rfl)); ((try simp only [List.getElem_toArray, List.getElem_cons_succ, List.getElem_cons_zero]); simp only [Act.put, List.setIfInBounds_toArray, List.set_cons_zero, List.set_cons_succ]))
  (refine wpAnyH_take (i := 2) (v := ?_) rfl (by kernel_rfl) (by kernel_rfl) (by kernel_rfl) (fun _ _ _ h => h) (Or.inl ⟨by rfl, ?_⟩) (by assumption) ?_; rotate_left 1; (focus (intro w hSw; (try dsimp only at hSw); obtain ⟨v, hM⟩ := hSw; have y0 := hM.q9.c 0 rfl; have y1 := hM.q9.c 1 rfl; have y2 := hM.q9.c 2 rfl; have y3 := hM.q9.c 3 rfl; have y4 := hM.q9.c 4 rfl; have y5 := hM.q9.c 5 rfl; have y6 := hM.q9.c 6 rfl; have y7 := hM.q9.c 7 rfl; have y8 := hM.q9.c 8 rfl; have z0 := hM.q9.lt; have z1 := hM.f9.lt; (try simp only [List.getElem_toArray, List.getElem_cons_succ, List.getElem_cons_zero]); go_simp; try with_reducible rfl)); ((try simp only [List.getElem_toArray, List.getElem_cons_succ, List.getElem_cons_zero]); simp only [Act.put, List.setIfInBounds_toArray, List.set_cons_zero, List.set_cons_succ]))
  (refine wpAnyH_take (i := 3) (v := ?_) rfl (by kernel_rfl) (by kernel_rfl) (by kernel_rfl) (fun _ _ _ h => h) (Or.inl ⟨by rfl, ?_⟩) (by assumption) ?_; rotate_left 1; (focus (intro w hSw; (try dsimp only at hSw); (try simp only [List.getElem_toArray, List.getElem_cons_succ, List.getElem_cons_zero]); go_simp; try with_reducible rfl)); ((try simp only [List.getElem_toArray, List.getElem_cons_succ, List.getElem_cons_zero]); simp only [Act.put, List.setIfInBounds_toArray, List.set_cons_zero, List.set_cons_succ]))
  (refine wpAnyH_take (i := 4) (v := ?_) rfl (by kernel_rfl) (by kernel_rfl) (by kernel_rfl) (fun _ _ _ h => h) (Or.inl ⟨by rfl, ?_⟩) (by assumption) ?_; rotate_left 1; (focus (intro w hSw; (try dsimp only at hSw); (try simp only [List.getElem_toArray, List.getElem_cons_succ, List.getElem_cons_zero]); go_simp; try with_reducible rfl)); ((try simp only [List.getElem_toArray, List.getElem_cons_succ, List.getElem_cons_zero]); simp only [Act.put, List.setIfInBounds_toArray, List.set_cons_zero, List.set_cons_succ]))
  (refine wpAnyH_take (i := 7) (v := ?_) rfl (by kernel_rfl) (by kernel_rfl) (by kernel_rfl) (fun _ _ _ h => h) (Or.inl ⟨by rfl, ?_⟩) (by assumption) ?_; rotate_left 1; (focus (intro w hSw; (try dsimp only at hSw); (try simp only [List.getElem_toArray, List.getElem_cons_succ, List.getElem_cons_zero]); go_simp; try with_reducible rfl)); ((try simp only [List.getElem_toArray, List.getElem_cons_succ, List.getElem_cons_zero]); simp only [Act.put, List.setIfInBounds_toArray, List.set_cons_zero, List.set_cons_succ]))
  (refine wpAnyH_take (i := 9) (v := ?_) rfl (by kernel_rfl) (by kernel_rfl) (by kernel_rfl) (fun _ _ _ h => h) (Or.inl ⟨by rfl, ?_⟩) (by assumption) ?_; rotate_left 1; (focus (intro w hSw; (try dsimp only at hSw); obtain ⟨v, hM⟩ := hSw; have y0 := hM.q9.c 0 rfl; have y1 := hM.q9.c 1 rfl; have y2 := hM.q9.c 2 rfl; have y3 := hM.q9.c 3 rfl; have y4 := hM.q9.c 4 rfl; have y5 := hM.q9.c 5 rfl; have y6 := hM.q9.c 6 rfl; have y7 := hM.q9.c 7 rfl; have y8 := hM.q9.c 8 rfl; have z0 := hM.q9.lt; have z1 := hM.f9.lt; (try simp only [List.getElem_toArray, List.getElem_cons_succ, List.getElem_cons_zero]); go_simp; try with_reducible rfl)); ((try simp only [List.getElem_toArray, List.getElem_cons_succ, List.getElem_cons_zero]); simp only [Act.put, List.setIfInBounds_toArray, List.set_cons_zero, List.set_cons_succ]))
  (refine wpAnyH_ready (rs := [5]) (by kernel_rfl) (by simp) ?_; refine AllReadyH.cons rfl (fun K hK => ?_) AllReadyH.nil; go_simp; (go_at_call 97; refine (leftWithout_00 q _ HQB.out).mono ?_; rintro e w' ⟨rfl, hb⟩); (try go_simp); refine hK.out _ _ ?_ (fun hHeld => ?_); (focus ((try dsimp only); obtain ⟨v, hM⟩ := hHeld; exact ⟨v, hM.bel hb⟩)); clear hK K; (try ((try simp only [List.getElem_toArray, List.getElem_cons_succ, List.getElem_cons_zero]); simp only [Act.put, List.setIfInBounds_toArray, List.set_cons_zero, List.set_cons_succ])))
  (refine wpAnyH_take (i := 6) (v := ?_) rfl (by kernel_rfl) (by kernel_rfl) (by kernel_rfl) (fun _ _ _ h => h) (Or.inl ⟨by rfl, ?_⟩) (by assumption) ?_; rotate_left 1; (focus (intro w hSw; (try dsimp only at hSw); (try simp only [List.getElem_toArray, List.getElem_cons_succ, List.getElem_cons_zero]); go_simp; try with_reducible rfl)); ((try simp only [List.getElem_toArray, List.getElem_cons_succ, List.getElem_cons_zero]); simp only [Act.put, List.setIfInBounds_toArray, List.set_cons_zero, List.set_cons_succ]))
  (try rw [hwr])
  (refine wpAnyH_ready (rs := [8]) (by kernel_rfl) (by simp) ?_; refine AllReadyH.cons rfl (fun K hK => ?_) AllReadyH.nil; go_simp; (go_at_call 96; refine (nearestS_any (mnr q 0 0 * 65536) sm _ hz (by omega) (by omega) (by have := mnr_b2 HQB.out 0 0; omega) (by have := mnr_b2 HQB.out 0 0; omega)).mono ?_; rintro e w' ⟨rfl, hb⟩); (try go_simp); refine hK.out _ _ ?_ (fun hHeld => ?_); (focus ((try dsimp only); obtain ⟨v, hM⟩ := hHeld; exact ⟨v, hM.bel hb⟩)); clear hK K; (try ((try simp only [List.getElem_toArray, List.getElem_cons_succ, List.getElem_cons_zero]); simp only [Act.put, List.setIfInBounds_toArray, List.set_cons_zero, List.set_cons_succ])))
  (refine wpAnyH_take (i := 10) (v := ?_) rfl (by kernel_rfl) (by kernel_rfl) (by kernel_rfl) (fun _ _ _ h => h) (Or.inl ⟨by rfl, ?_⟩) (by assumption) ?_; rotate_left 1; (focus (intro w hSw; (try dsimp only at hSw); obtain ⟨v, hM⟩ := hSw; have y0 := hM.q9.c 0 rfl; have y1 := hM.q9.c 1 rfl; have y2 := hM.q9.c 2 rfl; have y3 := hM.q9.c 3 rfl; have y4 := hM.q9.c 4 rfl; have y5 := hM.q9.c 5 rfl; have y6 := hM.q9.c 6 rfl; have y7 := hM.q9.c 7 rfl; have y8 := hM.q9.c 8 rfl; have z0 := hM.q9.lt; have z1 := hM.f9.lt; (try simp only [List.getElem_toArray, List.getElem_cons_succ, List.getElem_cons_zero]); go_simp; try with_reducible rfl)); ((try simp only [List.getElem_toArray, List.getElem_cons_succ, List.getElem_cons_zero]); simp only [Act.put, List.setIfInBounds_toArray, List.set_cons_zero, List.set_cons_succ]))
  refine wpAnyH_ready (rs := [11]) (by kernel_rfl) (by simp) ?_
  refine AllReadyH.cons rfl (fun K hK => ?_) AllReadyH.nil
  (try dsimp only at hHeld)
  obtain ⟨v, hM⟩ := hHeld
  have tc := hM.f9.c 0 rfl
  have tf := hM.f9.f 0
  have z1 := hM.f9.lt
  have hM2 := Lib.hid (MS.same (hM.put (v := (nsg (mnr q 0 0 * 65536) sm)) rfl (by omega : 0 < 9) HN1.out HN2.out HN3.out) (updI_twice (fun _ => 0) 0 v (nsg (mnr q 0 0 * 65536) sm)))
  go_simp
  refine hK.out _ _ ?_ (fun hHeld2 => ?_)
  · (try dsimp only); exact ⟨_, hM2.out⟩
  clear hK K; (try ((try simp only [List.getElem_toArray, List.getElem_cons_succ, List.getElem_cons_zero]); simp only [Act.put, List.setIfInBounds_toArray, List.set_cons_zero, List.set_cons_succ]))
  refine wpAnyH_done (by kernel_rfl) ?_ _
  refine NoPanic.normal ?_
  have S := hM2
  clear hM2 hHeld2 hM tc tf z1 mb hwr
  go_wp2_with fail
  obtain ⟨U0, hU0⟩ : ∃ U, U = w'.setCell ⟨w3.heap.size, 0, none⟩ (.int .i64 (nsg (mnr q 0 0 * 65536) sm)) := ⟨_, rfl⟩
  rw [← hU0]
  rw [← hU0] at S
  clear hU0
  rw [rounds_succ]
  have mb := mnr_b2 HQB.out 1 0
  have hwr : IntKind.i64.wrap (mnr q 1 0 * 65536) = mnr q 1 0 * 65536 := wrap_ok (by omega) (by omega)
  go_wp2_with fail
  refine wp_region_noPanic ?_
  refine wp_region_held_drew (S := (fun w' => ∃ v, MS w w' (w.heap.size + 1) 0 w1.heap.size w3.heap.size q q (updI (updI (fun _ => 0) 0 (nsg (mnr q 0 0 * 65536) sm)) 1 v) 0)) (by kernel_rfl) ?_ (fun hHeld => ?_)
  · (try dsimp only); exact ⟨_, (MS.same S.out (updI_self (updI (fun _ => 0) 0 (nsg (mnr q 0 0 * 65536) sm)) 1).symm).bel (Below.refl _ _).drew⟩
  change wpAnyH _ _ _ _ _ 12 _ _ _
  (refine wpAnyH_take (i := 0) (v := ?_) rfl (by kernel_rfl) (by kernel_rfl) (by kernel_rfl) (fun _ _ _ h => h) (Or.inl ⟨by rfl, ?_⟩) (by assumption) ?_; rotate_left 1; (focus (intro w hSw; (try dsimp only at hSw); (try simp only [List.getElem_toArray, List.getElem_cons_zero]); go_simp; try with_reducible rfl)); ((try simp only [List.getElem_toArray, List.getElem_cons_zero]); simp only [Act.put, List.setIfInBounds_toArray, List.set_cons_zero, List.set_cons_succ]))
  (refine wpAnyH_take (i := 1) (v := ?_) rfl (by kernel_rfl) (by kernel_rfl) (by kernel_rfl) (fun _ _ _ h => h) (Or.inl ⟨by rfl, ?_⟩) (by assumption) ?_; rotate_left 1; (focus (intro w hSw; (try dsimp only at hSw); (try simp only [List.getElem_toArray, List.getElem_cons_succ, List.getElem_cons_zero]); go_simp; try with_reducible rfl)); ((try simp only [List.getElem_toArray, List.getElem_cons_succ, List.getElem_cons_zero]); simp only [Act.put, List.setIfInBounds_toArray, List.set_cons_zero, List.set_cons_succ]))
  (refine wpAnyH_take (i := 2) (v := ?_) rfl (by kernel_rfl) (by kernel_rfl) (by kernel_rfl) (fun _ _ _ h => h) (Or.inl ⟨by rfl, ?_⟩) (by assumption) ?_; rotate_left 1; (focus (intro w hSw; (try dsimp only at hSw); obtain ⟨v, hM⟩ := hSw; have y0 := hM.q9.c 0 rfl; have y1 := hM.q9.c 1 rfl; have y2 := hM.q9.c 2 rfl; have y3 := hM.q9.c 3 rfl; have y4 := hM.q9.c 4 rfl; have y5 := hM.q9.c 5 rfl; have y6 := hM.q9.c 6 rfl; have y7 := hM.q9.c 7 rfl; have y8 := hM.q9.c 8 rfl; have z0 := hM.q9.lt; have z1 := hM.f9.lt; (try simp only [List.getElem_toArray, List.getElem_cons_succ, List.getElem_cons_zero]); go_simp; try with_reducible rfl)); ((try simp only [List.getElem_toArray, List.getElem_cons_succ, List.getElem_cons_zero]); simp only [Act.put, List.setIfInBounds_toArray, List.set_cons_zero, List.set_cons_succ]))
  (refine wpAnyH_take (i := 3) (v := ?_) rfl (by kernel_rfl) (by kernel_rfl) (by kernel_rfl) (fun _ _ _ h => h) (Or.inl ⟨by rfl, ?_⟩) (by assumption) ?_; rotate_left 1; (focus (intro w hSw; (try dsimp only at hSw); (try simp only [List.getElem_toArray, List.getElem_cons_succ, List.getElem_cons_zero]); go_simp; try with_reducible rfl)); ((try simp only [List.getElem_toArray, List.getElem_cons_succ, List.getElem_cons_zero]); simp only [Act.put, List.setIfInBounds_toArray, List.set_cons_zero, List.set_cons_succ]))
  (refine wpAnyH_take (i := 4) (v := ?_) rfl (by kernel_rfl) (by kernel_rfl) (by kernel_rfl) (fun _ _ _ h => h) (Or.inl ⟨by rfl, ?_⟩) (by assumption) ?_; rotate_left 1; (focus (intro w hSw; (try dsimp only at hSw); (try simp only [List.getElem_toArray, List.getElem_cons_succ, List.getElem_cons_zero]); go_simp; try with_reducible rfl)); ((try simp only [List.getElem_toArray, List.getElem_cons_succ, List.getElem_cons_zero]); simp only [Act.put, List.setIfInBounds_toArray, List.set_cons_zero, List.set_cons_succ]))
  (refine wpAnyH_take (i := 7) (v := ?_) rfl (by kernel_rfl) (by kernel_rfl) (by kernel_rfl) (fun _ _ _ h => h) (Or.inl ⟨by rfl, ?_⟩) (by assumption) ?_; rotate_left 1; (focus (intro w hSw; (try dsimp only at hSw); (try simp only [List.getElem_toArray, List.getElem_cons_succ, List.getElem_cons_zero]); go_simp; try with_reducible rfl)); ((try simp only [List.getElem_toArray, List.getElem_cons_succ, List.getElem_cons_zero]); simp only [Act.put, List.setIfInBounds_toArray, List.set_cons_zero, List.set_cons_succ]))
  (refine wpAnyH_take (i := 9) (v := ?_) rfl (by kernel_rfl) (by kernel_rfl) (by kernel_rfl) (fun _ _ _ h => h) (Or.inl ⟨by rfl, ?_⟩) (by assumption) ?_; rotate_left 1; (focus (intro w hSw; (try dsimp only at hSw); obtain ⟨v, hM⟩ := hSw; have y0 := hM.q9.c 0 rfl; have y1 := hM.q9.c 1 rfl; have y2 := hM.q9.c 2 rfl; have y3 := hM.q9.c 3 rfl; have y4 := hM.q9.c 4 rfl; have y5 := hM.q9.c 5 rfl; have y6 := hM.q9.c 6 rfl; have y7 := hM.q9.c 7 rfl; have y8 := hM.q9.c 8 rfl; have z0 := hM.q9.lt; have z1 := hM.f9.lt; (try simp only [List.getElem_toArray, List.getElem_cons_succ, List.getElem_cons_zero]); go_simp; try with_reducible rfl)); ((try simp only [List.getElem_toArray, List.getElem_cons_succ, List.getElem_cons_zero]); simp only [Act.put, List.setIfInBounds_toArray, List.set_cons_zero, List.set_cons_succ]))
  (refine wpAnyH_ready (rs := [5]) (by kernel_rfl) (by simp) ?_; refine AllReadyH.cons rfl (fun K hK => ?_) AllReadyH.nil; go_simp; (go_at_call 97; refine (leftWithout_10 q _ HQB.out).mono ?_; rintro e w' ⟨rfl, hb⟩); (try go_simp); refine hK.out _ _ ?_ (fun hHeld => ?_); (focus ((try dsimp only); obtain ⟨v, hM⟩ := hHeld; exact ⟨v, hM.bel hb⟩)); clear hK K; (try ((try simp only [List.getElem_toArray, List.getElem_cons_succ, List.getElem_cons_zero]); simp only [Act.put, List.setIfInBounds_toArray, List.set_cons_zero, List.set_cons_succ])))
  (refine wpAnyH_take (i := 6) (v := ?_) rfl (by kernel_rfl) (by kernel_rfl) (by kernel_rfl) (fun _ _ _ h => h) (Or.inl ⟨by rfl, ?_⟩) (by assumption) ?_; rotate_left 1; (focus (intro w hSw; (try dsimp only at hSw); (try simp only [List.getElem_toArray, List.getElem_cons_succ, List.getElem_cons_zero]); go_simp; try with_reducible rfl)); ((try simp only [List.getElem_toArray, List.getElem_cons_succ, List.getElem_cons_zero]); simp only [Act.put, List.setIfInBounds_toArray, List.set_cons_zero, List.set_cons_succ]))
  (try rw [hwr])
  (refine wpAnyH_ready (rs := [8]) (by kernel_rfl) (by simp) ?_; refine AllReadyH.cons rfl (fun K hK => ?_) AllReadyH.nil; go_simp; (go_at_call 96; refine (nearestS_any (mnr q 1 0 * 65536) sm _ hz (by omega) (by omega) (by have := mnr_b2 HQB.out 1 0; omega) (by have := mnr_b2 HQB.out 1 0; omega)).mono ?_; rintro e w' ⟨rfl, hb⟩); (try go_simp); refine hK.out _ _ ?_ (fun hHeld => ?_); (focus ((try dsimp only); obtain ⟨v, hM⟩ := hHeld; exact ⟨v, hM.bel hb⟩)); clear hK K; (try ((try simp only [List.getElem_toArray, List.getElem_cons_succ, List.getElem_cons_zero]); simp only [Act.put, List.setIfInBounds_toArray, List.set_cons_zero, List.set_cons_succ])))
  (refine wpAnyH_take (i := 10) (v := ?_) rfl (by kernel_rfl) (by kernel_rfl) (by kernel_rfl) (fun _ _ _ h => h) (Or.inl ⟨by rfl, ?_⟩) (by assumption) ?_; rotate_left 1; (focus (intro w hSw; (try dsimp only at hSw); obtain ⟨v, hM⟩ := hSw; have y0 := hM.q9.c 0 rfl; have y1 := hM.q9.c 1 rfl; have y2 := hM.q9.c 2 rfl; have y3 := hM.q9.c 3 rfl; have y4 := hM.q9.c 4 rfl; have y5 := hM.q9.c 5 rfl; have y6 := hM.q9.c 6 rfl; have y7 := hM.q9.c 7 rfl; have y8 := hM.q9.c 8 rfl; have z0 := hM.q9.lt; have z1 := hM.f9.lt; (try simp only [List.getElem_toArray, List.getElem_cons_succ, List.getElem_cons_zero]); go_simp; try with_reducible rfl)); ((try simp only [List.getElem_toArray, List.getElem_cons_succ, List.getElem_cons_zero]); simp only [Act.put, List.setIfInBounds_toArray, List.set_cons_zero, List.set_cons_succ]))
  refine wpAnyH_ready (rs := [11]) (by kernel_rfl) (by simp) ?_
  refine AllReadyH.cons rfl (fun K hK => ?_) AllReadyH.nil
  (try dsimp only at hHeld)
  obtain ⟨v, hM⟩ := hHeld
  have tc := hM.f9.c 1 rfl
  have tf := hM.f9.f 1
  have z1 := hM.f9.lt
  have hM2 := Lib.hid (MS.same (hM.put (v := (nsg (mnr q 1 0 * 65536) sm)) rfl (by omega : 1 < 9) HN1.out HN2.out HN3.out) (updI_twice (updI (fun _ => 0) 0 (nsg (mnr q 0 0 * 65536) sm)) 1 v (nsg (mnr q 1 0 * 65536) sm)))
  go_simp
  refine hK.out _ _ ?_ (fun hHeld2 => ?_)
  · (try dsimp only); exact ⟨_, hM2.out⟩
  clear hK K; (try ((try simp only [List.getElem_toArray, List.getElem_cons_succ, List.getElem_cons_zero]); simp only [Act.put, List.setIfInBounds_toArray, List.set_cons_zero, List.set_cons_succ]))
  refine wpAnyH_done (by kernel_rfl) ?_ _
  refine NoPanic.normal ?_
  have S := hM2
  clear hM2 hHeld2 hM tc tf z1 mb hwr
  go_wp2_with fail
  obtain ⟨U1, hU1⟩ : ∃ U, U = w'.setCell ⟨w3.heap.size, 1, none⟩ (.int .i64 (nsg (mnr q 1 0 * 65536) sm)) := ⟨_, rfl⟩
  rw [← hU1]
  rw [← hU1] at S
  clear hU1
  rw [rounds_succ]
  have mb := mnr_b2 HQB.out 2 0
  have hwr : IntKind.i64.wrap (mnr q 2 0 * 65536) = mnr q 2 0 * 65536 := wrap_ok (by omega) (by omega)
  go_wp2_with fail
  refine wp_region_noPanic ?_
  refine wp_region_held_drew (S := (fun w' => ∃ v, MS w w' (w.heap.size + 1) 0 w1.heap.size w3.heap.size q q (updI (updI (updI (fun _ => 0) 0 (nsg (mnr q 0 0 * 65536) sm)) 1 (nsg (mnr q 1 0 * 65536) sm)) 2 v) 0)) (by kernel_rfl) ?_ (fun hHeld => ?_)
  · (try dsimp only); exact ⟨_, (MS.same S.out (updI_self (updI (updI (fun _ => 0) 0 (nsg (mnr q 0 0 * 65536) sm)) 1 (nsg (mnr q 1 0 * 65536) sm)) 2).symm).bel (Below.refl _ _).drew⟩
  change wpAnyH _ _ _ _ _ 12 _ _ _
  (refine wpAnyH_take (i := 0) (v := ?_) rfl (by kernel_rfl) (by kernel_rfl) (by kernel_rfl) (fun _ _ _ h => h) (Or.inl ⟨by rfl, ?_⟩) (by assumption) ?_; rotate_left 1; (focus (intro w hSw; (try dsimp only at hSw); (try simp only [List.getElem_toArray, List.getElem_cons_zero]); go_simp; try with_reducible rfl)); ((try simp only [List.getElem_toArray, List.getElem_cons_zero]); simp only [Act.put, List.setIfInBounds_toArray, List.set_cons_zero, List.set_cons_succ]))
  (refine wpAnyH_take (i := 1) (v := ?_) rfl (by kernel_rfl) (by kernel_rfl) (by kernel_rfl) (fun _ _ _ h => h) (Or.inl ⟨by rfl, ?_⟩) (by assumption) ?_; rotate_left 1; (focus (intro w hSw; (try dsimp only at hSw); (try simp only [List.getElem_toArray, List.getElem_cons_succ, List.getElem_cons_zero]); go_simp; try with_reducible rfl)); ((try simp only [List.getElem_toArray, List.getElem_cons_succ, List.getElem_cons_zero]); simp only [Act.put, List.setIfInBounds_toArray, List.set_cons_zero, List.set_cons_succ]))
  (refine wpAnyH_take (i := 2) (v := ?_) rfl (by kernel_rfl) (by kernel_rfl) (by kernel_rfl) (fun _ _ _ h => h) (Or.inl ⟨by rfl, ?_⟩) (by assumption) ?_; rotate_left 1; (focus (intro w hSw; (try dsimp only at hSw); obtain ⟨v, hM⟩ := hSw; have y0 := hM.q9.c 0 rfl; have y1 := hM.q9.c 1 rfl; have y2 := hM.q9.c 2 rfl; have y3 := hM.q9.c 3 rfl; have y4 := hM.q9.c 4 rfl; have y5 := hM.q9.c 5 rfl; have y6 := hM.q9.c 6 rfl; have y7 := hM.q9.c 7 rfl; have y8 := hM.q9.c 8 rfl; have z0 := hM.q9.lt; have z1 := hM.f9.lt; (try simp only [List.getElem_toArray, List.getElem_cons_succ, List.getElem_cons_zero]); go_simp; try with_reducible rfl)); ((try simp only [List.getElem_toArray, List.getElem_cons_succ, List.getElem_cons_zero]); simp only [Act.put, List.setIfInBounds_toArray, List.set_cons_zero, List.set_cons_succ]))
  (refine wpAnyH_take (i := 3) (v := ?_) rfl (by kernel_rfl) (by kernel_rfl) (by kernel_rfl) (fun _ _ _ h => h) (Or.inl ⟨by rfl, ?_⟩) (by assumption) ?_; rotate_left 1; (focus (intro w hSw; (try dsimp only at hSw); (try simp only [List.getElem_toArray, List.getElem_cons_succ, List.getElem_cons_zero]); go_simp; try with_reducible rfl)); ((try simp only [List.getElem_toArray, List.getElem_cons_succ, List.getElem_cons_zero]); simp only [Act.put, List.setIfInBounds_toArray, List.set_cons_zero, List.set_cons_succ]))
  (refine wpAnyH_take (i := 4) (v := ?_) rfl (by kernel_rfl) (by kernel_rfl) (by kernel_rfl) (fun _ _ _ h => h) (Or.inl ⟨by rfl, ?_⟩) (by assumption) ?_; rotate_left 1; (focus (intro w hSw; (try dsimp only at hSw); (try simp only [List.getElem_toArray, List.getElem_cons_succ, List.getElem_cons_zero]); go_simp; try with_reducible rfl)); ((try simp only [List.getElem_toArray, List.getElem_cons_succ, List.getElem_cons_zero]); simp only [Act.put, List.setIfInBounds_toArray, List.set_cons_zero, List.set_cons_succ]))
  (refine wpAnyH_take (i := 7) (v := ?_) rfl (by kernel_rfl) (by kernel_rfl) (by kernel_rfl) (fun _ _ _ h => h) (Or.inl ⟨by rfl, ?_⟩) (by assumption) ?_; rotate_left 1; (focus (intro w hSw; (try dsimp only at hSw); (try simp only [List.getElem_toArray, List.getElem_cons_succ, List.getElem_cons_zero]); go_simp; try with_reducible rfl)); ((try simp only [List.getElem_toArray, List.getElem_cons_succ, List.getElem_cons_zero]); simp only [Act.put, List.setIfInBounds_toArray, List.set_cons_zero, List.set_cons_succ]))
  (refine wpAnyH_take (i := 9) (v := ?_) rfl (by kernel_rfl) (by kernel_rfl) (by kernel_rfl) (fun _ _ _ h => h) (Or.inl ⟨by rfl, ?_⟩) (by assumption) ?_; rotate_left 1; (focus (intro w hSw; (try dsimp only at hSw); obtain ⟨v, hM⟩ := hSw; have y0 := hM.q9.c 0 rfl; have y1 := hM.q9.c 1 rfl; have y2 := hM.q9.c 2 rfl; have y3 := hM.q9.c 3 rfl; have y4 := hM.q9.c 4 rfl; have y5 := hM.q9.c 5 rfl; have y6 := hM.q9.c 6 rfl; have y7 := hM.q9.c 7 rfl; have y8 := hM.q9.c 8 rfl; have z0 := hM.q9.lt; have z1 := hM.f9.lt; (try simp only [List.getElem_toArray, List.getElem_cons_succ, List.getElem_cons_zero]); go_simp; try with_reducible rfl)); ((try simp only [List.getElem_toArray, List.getElem_cons_succ, List.getElem_cons_zero]); simp only [Act.put, List.setIfInBounds_toArray, List.set_cons_zero, List.set_cons_succ]))
  (refine wpAnyH_ready (rs := [5]) (by kernel_rfl) (by simp) ?_; refine AllReadyH.cons rfl (fun K hK => ?_) AllReadyH.nil; go_simp; (go_at_call 97; refine (leftWithout_20 q _ HQB.out).mono ?_; rintro e w' ⟨rfl, hb⟩); (try go_simp); refine hK.out _ _ ?_ (fun hHeld => ?_); (focus ((try dsimp only); obtain ⟨v, hM⟩ := hHeld; exact ⟨v, hM.bel hb⟩)); clear hK K; (try ((try simp only [List.getElem_toArray, List.getElem_cons_succ, List.getElem_cons_zero]); simp only [Act.put, List.setIfInBounds_toArray, List.set_cons_zero, List.set_cons_succ])))
  (refine wpAnyH_take (i := 6) (v := ?_) rfl (by kernel_rfl) (by kernel_rfl) (by kernel_rfl) (fun _ _ _ h => h) (Or.inl ⟨by rfl, ?_⟩) (by assumption) ?_; rotate_left 1; (focus (intro w hSw; (try dsimp only at hSw); (try simp only [List.getElem_toArray, List.getElem_cons_succ, List.getElem_cons_zero]); go_simp; try with_reducible rfl)); ((try simp only [List.getElem_toArray, List.getElem_cons_succ, List.getElem_cons_zero]); simp only [Act.put, List.setIfInBounds_toArray, List.set_cons_zero, List.set_cons_succ]))
  (try rw [hwr])
  (refine wpAnyH_ready (rs := [8]) (by kernel_rfl) (by simp) ?_; refine AllReadyH.cons rfl (fun K hK => ?_) AllReadyH.nil; go_simp; (go_at_call 96; refine (nearestS_any (mnr q 2 0 * 65536) sm _ hz (by omega) (by omega) (by have := mnr_b2 HQB.out 2 0; omega) (by have := mnr_b2 HQB.out 2 0; omega)).mono ?_; rintro e w' ⟨rfl, hb⟩); (try go_simp); refine hK.out _ _ ?_ (fun hHeld => ?_); (focus ((try dsimp only); obtain ⟨v, hM⟩ := hHeld; exact ⟨v, hM.bel hb⟩)); clear hK K; (try ((try simp only [List.getElem_toArray, List.getElem_cons_succ, List.getElem_cons_zero]); simp only [Act.put, List.setIfInBounds_toArray, List.set_cons_zero, List.set_cons_succ])))
  (refine wpAnyH_take (i := 10) (v := ?_) rfl (by kernel_rfl) (by kernel_rfl) (by kernel_rfl) (fun _ _ _ h => h) (Or.inl ⟨by rfl, ?_⟩) (by assumption) ?_; rotate_left 1; (focus (intro w hSw; (try dsimp only at hSw); obtain ⟨v, hM⟩ := hSw; have y0 := hM.q9.c 0 rfl; have y1 := hM.q9.c 1 rfl; have y2 := hM.q9.c 2 rfl; have y3 := hM.q9.c 3 rfl; have y4 := hM.q9.c 4 rfl; have y5 := hM.q9.c 5 rfl; have y6 := hM.q9.c 6 rfl; have y7 := hM.q9.c 7 rfl; have y8 := hM.q9.c 8 rfl; have z0 := hM.q9.lt; have z1 := hM.f9.lt; (try simp only [List.getElem_toArray, List.getElem_cons_succ, List.getElem_cons_zero]); go_simp; try with_reducible rfl)); ((try simp only [List.getElem_toArray, List.getElem_cons_succ, List.getElem_cons_zero]); simp only [Act.put, List.setIfInBounds_toArray, List.set_cons_zero, List.set_cons_succ]))
  refine wpAnyH_ready (rs := [11]) (by kernel_rfl) (by simp) ?_
  refine AllReadyH.cons rfl (fun K hK => ?_) AllReadyH.nil
  (try dsimp only at hHeld)
  obtain ⟨v, hM⟩ := hHeld
  have tc := hM.f9.c 2 rfl
  have tf := hM.f9.f 2
  have z1 := hM.f9.lt
  have hM2 := Lib.hid (MS.same (hM.put (v := (nsg (mnr q 2 0 * 65536) sm)) rfl (by omega : 2 < 9) HN1.out HN2.out HN3.out) (updI_twice (updI (updI (fun _ => 0) 0 (nsg (mnr q 0 0 * 65536) sm)) 1 (nsg (mnr q 1 0 * 65536) sm)) 2 v (nsg (mnr q 2 0 * 65536) sm)))
  go_simp
  refine hK.out _ _ ?_ (fun hHeld2 => ?_)
  · (try dsimp only); exact ⟨_, hM2.out⟩
  clear hK K; (try ((try simp only [List.getElem_toArray, List.getElem_cons_succ, List.getElem_cons_zero]); simp only [Act.put, List.setIfInBounds_toArray, List.set_cons_zero, List.set_cons_succ]))
  refine wpAnyH_done (by kernel_rfl) ?_ _
  refine NoPanic.normal ?_
  have S := hM2
  clear hM2 hHeld2 hM tc tf z1 mb hwr
  go_wp2_with fail
  obtain ⟨U2, hU2⟩ : ∃ U, U = w'.setCell ⟨w3.heap.size, 2, none⟩ (.int .i64 (nsg (mnr q 2 0 * 65536) sm)) := ⟨_, rfl⟩
  rw [← hU2]
  rw [← hU2] at S
  clear hU2
  rw [rounds_succ]
  go_wp2_with fail
  have S1 := S
  clear S
  rw [rounds_succ]
  have ii := fun W => ix9_1 (fun _ => 0) W
  have z1 := S1.out.f9.lt
  go_wp2_with fail
  clear ii z1
  obtain ⟨V1, hV1⟩ : ∃ V, V = U2.alloc (.cells #[.int .i64 0, .int .i64 0, .int .i64 0] 107) := ⟨_, rfl⟩
  have S : Hid (MS w V1 (w.heap.size + 1) 0 w1.heap.size w3.heap.size q q (updI (updI (updI (fun _ => 0) 0 (nsg (mnr q 0 0 * 65536) sm)) 1 (nsg (mnr q 1 0 * 65536) sm)) 2 (nsg (mnr q 2 0 * 65536) sm)) 0) := by show MS _ _ _ _ _ _ _ _ _ _; rw [hV1]; exact S1.out.bel (blAlloc _ _)
  rw [← hV1]
  clear hV1 S1
  refine wp_loop_rounds 4 ?_
  rw [rounds_succ]
  have mb := mnr_b2 HQB.out 0 1
  have hwr : IntKind.i64.wrap (mnr q 0 1 * 65536) = mnr q 0 1 * 65536 := wrap_ok (by omega) (by omega)
  go_wp2_with fail
  refine wp_region_noPanic ?_
  refine wp_region_held_drew (S := (fun w' => ∃ v, MS w w' (w.heap.size + 1) 0 w1.heap.size w3.heap.size q q (updI (updI (updI (updI (fun _ => 0) 0 (nsg (mnr q 0 0 * 65536) sm)) 1 (nsg (mnr q 1 0 * 65536) sm)) 2 (nsg (mnr q 2 0 * 65536) sm)) 3 v) 0)) (by kernel_rfl) ?_ (fun hHeld => ?_)
  · (try dsimp only); exact ⟨_, (MS.same S.out (updI_self (updI (updI (updI (fun _ => 0) 0 (nsg (mnr q 0 0 * 65536) sm)) 1 (nsg (mnr q 1 0 * 65536) sm)) 2 (nsg (mnr q 2 0 * 65536) sm)) 3).symm).bel (Below.refl _ _).drew⟩
  change wpAnyH _ _ _ _ _ 12 _ _ _
  (refine wpAnyH_take (i := 0) (v := ?_) rfl (by kernel_rfl) (by kernel_rfl) (by kernel_rfl) (fun _ _ _ h => h) (Or.inl ⟨by rfl, ?_⟩) (by assumption) ?_; rotate_left 1; (focus (intro w hSw; (try dsimp only at hSw); (try simp only [List.getElem_toArray, List.getElem_cons_zero]); go_simp; try with_reducible rfl)); ((try simp only [List.getElem_toArray, List.getElem_cons_zero]); simp only [Act.put, List.setIfInBounds_toArray, List.set_cons_zero, List.set_cons_succ]))
  (refine wpAnyH_take (i := 1) (v := ?_) rfl (by kernel_rfl) (by kernel_rfl) (by kernel_rfl) (fun _ _ _ h => h) (Or.inl ⟨by rfl, ?_⟩) (by assumption) ?_; rotate_left 1; (focus (intro w hSw; (try dsimp only at hSw); (try simp only [List.getElem_toArray, List.getElem_cons_succ, List.getElem_cons_zero]); go_simp; try with_reducible rfl)); ((try simp only [List.getElem_toArray, List.getElem_cons_succ, List.getElem_cons_zero]); simp only [Act.put, List.setIfInBounds_toArray, List.set_cons_zero, List.set_cons_succ]))
  (refine wpAnyH_take (i := 2) (v := ?_) rfl (by kernel_rfl) (by kernel_rfl) (by kernel_rfl) (fun _ _ _ h => h) (Or.inl ⟨by rfl, ?_⟩) (by assumption) ?_; rotate_left 1; (focus (intro w hSw; (try dsimp only at hSw); obtain ⟨v, hM⟩ := hSw; have y0 := hM.q9.c 0 rfl; have y1 := hM.q9.c 1 rfl; have y2 := hM.q9.c 2 rfl; have y3 := hM.q9.c 3 rfl; have y4 := hM.q9.c 4 rfl; have y5 := hM.q9.c 5 rfl; have y6 := hM.q9.c 6 rfl; have y7 := hM.q9.c 7 rfl; have y8 := hM.q9.c 8 rfl; have z0 := hM.q9.lt; have z1 := hM.f9.lt; (try simp only [List.getElem_toArray, List.getElem_cons_succ, List.getElem_cons_zero]); go_simp; try with_reducible rfl)); ((try simp only [List.getElem_toArray, List.getElem_cons_succ, List.getElem_cons_zero]); simp only [Act.put, List.setIfInBounds_toArray, List.set_cons_zero, List.set_cons_succ]))
  (refine wpAnyH_take (i := 3) (v := ?_) rfl (by kernel_rfl) (by kernel_rfl) (by kernel_rfl) (fun _ _ _ h => h) (Or.inl ⟨by rfl, ?_⟩) (by assumption) ?_; rotate_left 1; (focus (intro w hSw; (try dsimp only at hSw); (try simp only [List.getElem_toArray, List.getElem_cons_succ, List.getElem_cons_zero]); go_simp; try with_reducible rfl)); ((try simp only [List.getElem_toArray, List.getElem_cons_succ, List.getElem_cons_zero]); simp only [Act.put, List.setIfInBounds_toArray, List.set_cons_zero, List.set_cons_succ]))
  (refine wpAnyH_take (i := 4) (v := ?_) rfl (by kernel_rfl) (by kernel_rfl) (by kernel_rfl) (fun _ _ _ h => h) (Or.inl ⟨by rfl, ?_⟩) (by assumption) ?_; rotate_left 1; (focus (intro w hSw; (try dsimp only at hSw); (try simp only [List.getElem_toArray, List.getElem_cons_succ, List.getElem_cons_zero]); go_simp; try with_reducible rfl)); ((try simp only [List.getElem_toArray, List.getElem_cons_succ, List.getElem_cons_zero]); simp only [Act.put, List.setIfInBounds_toArray, List.set_cons_zero, List.set_cons_succ]))
  (refine wpAnyH_take (i := 7) (v := ?_) rfl (by kernel_rfl) (by kernel_rfl) (by kernel_rfl) (fun _ _ _ h => h) (Or.inl ⟨by rfl, ?_⟩) (by assumption) ?_; rotate_left 1; (focus (intro w hSw; (try dsimp only at hSw); (try simp only [List.getElem_toArray, List.getElem_cons_succ, List.getElem_cons_zero]); go_simp; try with_reducible rfl)); ((try simp only [List.getElem_toArray, List.getElem_cons_succ, List.getElem_cons_zero]); simp only [Act.put, List.setIfInBounds_toArray, List.set_cons_zero, List.set_cons_succ]))
  (refine wpAnyH_take (i := 9) (v := ?_) rfl (by kernel_rfl) (by kernel_rfl) (by kernel_rfl) (fun _ _ _ h => h) (Or.inl ⟨by rfl, ?_⟩) (by assumption) ?_; rotate_left 1; (focus (intro w hSw; (try dsimp only at hSw); obtain ⟨v, hM⟩ := hSw; have y0 := hM.q9.c 0 rfl; have y1 := hM.q9.c 1 rfl; have y2 := hM.q9.c 2 rfl; have y3 := hM.q9.c 3 rfl; have y4 := hM.q9.c 4 rfl; have y5 := hM.q9.c 5 rfl; have y6 := hM.q9.c 6 rfl; have y7 := hM.q9.c 7 rfl; have y8 := hM.q9.c 8 rfl; have z0 := hM.q9.lt; have z1 := hM.f9.lt; (try simp only [List.getElem_toArray, List.getElem_cons_succ, List.getElem_cons_zero]); go_simp; try with_reducible rfl)); ((try simp only [List.getElem_toArray, List.getElem_cons_succ, List.getElem_cons_zero]); simp only [Act.put, List.setIfInBounds_toArray, List.set_cons_zero, List.set_cons_succ]))
  (refine wpAnyH_ready (rs := [5]) (by kernel_rfl) (by simp) ?_; refine AllReadyH.cons rfl (fun K hK => ?_) AllReadyH.nil; go_simp; (go_at_call 97; refine (leftWithout_01 q _ HQB.out).mono ?_; rintro e w' ⟨rfl, hb⟩); (try go_simp); refine hK.out _ _ ?_ (fun hHeld => ?_); (focus ((try dsimp only); obtain ⟨v, hM⟩ := hHeld; exact ⟨v, hM.bel hb⟩)); clear hK K; (try ((try simp only [List.getElem_toArray, List.getElem_cons_succ, List.getElem_cons_zero]); simp only [Act.put, List.setIfInBounds_toArray, List.set_cons_zero, List.set_cons_succ])))
  (refine wpAnyH_take (i := 6) (v := ?_) rfl (by kernel_rfl) (by kernel_rfl) (by kernel_rfl) (fun _ _ _ h => h) (Or.inl ⟨by rfl, ?_⟩) (by assumption) ?_; rotate_left 1; (focus (intro w hSw; (try dsimp only at hSw); (try simp only [List.getElem_toArray, List.getElem_cons_succ, List.getElem_cons_zero]); go_simp; try with_reducible rfl)); ((try simp only [List.getElem_toArray, List.getElem_cons_succ, List.getElem_cons_zero]); simp only [Act.put, List.setIfInBounds_toArray, List.set_cons_zero, List.set_cons_succ]))
  (try rw [hwr])
  (refine wpAnyH_ready (rs := [8]) (by kernel_rfl) (by simp) ?_; refine AllReadyH.cons rfl (fun K hK => ?_) AllReadyH.nil; go_simp; (go_at_call 96; refine (nearestS_any (mnr q 0 1 * 65536) sm _ hz (by omega) (by omega) (by have := mnr_b2 HQB.out 0 1; omega) (by have := mnr_b2 HQB.out 0 1; omega)).mono ?_; rintro e w' ⟨rfl, hb⟩); (try go_simp); refine hK.out _ _ ?_ (fun hHeld => ?_); (focus ((try dsimp only); obtain ⟨v, hM⟩ := hHeld; exact ⟨v, hM.bel hb⟩)); clear hK K; (try ((try simp only [List.getElem_toArray, List.getElem_cons_succ, List.getElem_cons_zero]); simp only [Act.put, List.setIfInBounds_toArray, List.set_cons_zero, List.set_cons_succ])))
  (refine wpAnyH_take (i := 10) (v := ?_) rfl (by kernel_rfl) (by kernel_rfl) (by kernel_rfl) (fun _ _ _ h => h) (Or.inl ⟨by rfl, ?_⟩) (by assumption) ?_; rotate_left 1; (focus (intro w hSw; (try dsimp only at hSw); obtain ⟨v, hM⟩ := hSw; have y0 := hM.q9.c 0 rfl; have y1 := hM.q9.c 1 rfl; have y2 := hM.q9.c 2 rfl; have y3 := hM.q9.c 3 rfl; have y4 := hM.q9.c 4 rfl; have y5 := hM.q9.c 5 rfl; have y6 := hM.q9.c 6 rfl; have y7 := hM.q9.c 7 rfl; have y8 := hM.q9.c 8 rfl; have z0 := hM.q9.lt; have z1 := hM.f9.lt; (try simp only [List.getElem_toArray, List.getElem_cons_succ, List.getElem_cons_zero]); go_simp; try with_reducible rfl)); ((try simp only [List.getElem_toArray, List.getElem_cons_succ, List.getElem_cons_zero]); simp only [Act.put, List.setIfInBounds_toArray, List.set_cons_zero, List.set_cons_succ]))
  refine wpAnyH_ready (rs := [11]) (by kernel_rfl) (by simp) ?_
  refine AllReadyH.cons rfl (fun K hK => ?_) AllReadyH.nil
  (try dsimp only at hHeld)
  obtain ⟨v, hM⟩ := hHeld
  have tc := hM.f9.c 3 rfl
  have tf := hM.f9.f 3
  have z1 := hM.f9.lt
  have hM2 := Lib.hid (MS.same (hM.put (v := (nsg (mnr q 0 1 * 65536) sm)) rfl (by omega : 3 < 9) HN1.out HN2.out HN3.out) (updI_twice (updI (updI (updI (fun _ => 0) 0 (nsg (mnr q 0 0 * 65536) sm)) 1 (nsg (mnr q 1 0 * 65536) sm)) 2 (nsg (mnr q 2 0 * 65536) sm)) 3 v (nsg (mnr q 0 1 * 65536) sm)))
  go_simp
  refine hK.out _ _ ?_ (fun hHeld2 => ?_)
  · (try dsimp only); exact ⟨_, hM2.out⟩
  clear hK K; (try ((try simp only [List.getElem_toArray, List.getElem_cons_succ, List.getElem_cons_zero]); simp only [Act.put, List.setIfInBounds_toArray, List.set_cons_zero, List.set_cons_succ]))
  refine wpAnyH_done (by kernel_rfl) ?_ _
  refine NoPanic.normal ?_
  have S := hM2
  clear hM2 hHeld2 hM tc tf z1 mb hwr
  go_wp2_with fail
  obtain ⟨U3, hU3⟩ : ∃ U, U = w'.setCell ⟨w3.heap.size, 3, none⟩ (.int .i64 (nsg (mnr q 0 1 * 65536) sm)) := ⟨_, rfl⟩
  rw [← hU3]
  rw [← hU3] at S
  clear hU3
  rw [rounds_succ]
  have mb := mnr_b2 HQB.out 1 1
  have hwr : IntKind.i64.wrap (mnr q 1 1 * 65536) = mnr q 1 1 * 65536 := wrap_ok (by omega) (by omega)
  go_wp2_with fail
  refine wp_region_noPanic ?_
  refine wp_region_held_drew (S := (fun w' => ∃ v, MS w w' (w.heap.size + 1) 0 w1.heap.size w3.heap.size q q (updI (updI (updI (updI (updI (fun _ => 0) 0 (nsg (mnr q 0 0 * 65536) sm)) 1 (nsg (mnr q 1 0 * 65536) sm)) 2 (nsg (mnr q 2 0 * 65536) sm)) 3 (nsg (mnr q 0 1 * 65536) sm)) 4 v) 0)) (by kernel_rfl) ?_ (fun hHeld => ?_)
  · (try dsimp only); exact ⟨_, (MS.same S.out (updI_self (updI (updI (updI (updI (fun _ => 0) 0 (nsg (mnr q 0 0 * 65536) sm)) 1 (nsg (mnr q 1 0 * 65536) sm)) 2 (nsg (mnr q 2 0 * 65536) sm)) 3 (nsg (mnr q 0 1 * 65536) sm)) 4).symm).bel (Below.refl _ _).drew⟩
  change wpAnyH _ _ _ _ _ 12 _ _ _
  (refine wpAnyH_take (i := 0) (v := ?_) rfl (by kernel_rfl) (by kernel_rfl) (by kernel_rfl) (fun _ _ _ h => h) (Or.inl ⟨by rfl, ?_⟩) (by assumption) ?_; rotate_left 1; (focus (intro w hSw; (try dsimp only at hSw); (try simp only [List.getElem_toArray, List.getElem_cons_zero]); go_simp; try with_reducible rfl)); ((try simp only [List.getElem_toArray, List.getElem_cons_zero]); simp only [Act.put, List.setIfInBounds_toArray, List.set_cons_zero, List.set_cons_succ]))
  (refine wpAnyH_take (i := 1) (v := ?_) rfl (by kernel_rfl) (by kernel_rfl) (by kernel_rfl) (fun _ _ _ h => h) (Or.inl ⟨by rfl, ?_⟩) (by assumption) ?_; rotate_left 1; (focus (intro w hSw; (try dsimp only at hSw); (try simp only [List.getElem_toArray, List.getElem_cons_succ, List.getElem_cons_zero]); go_simp; try with_reducible rfl)); ((try simp only [List.getElem_toArray, List.getElem_cons_succ, List.getElem_cons_zero]); simp only [Act.put, List.setIfInBounds_toArray, List.set_cons_zero, List.set_cons_succ]))
  (refine wpAnyH_take (i := 2) (v := ?_) rfl (by kernel_rfl) (by kernel_rfl) (by kernel_rfl) (fun _ _ _ h => h) (Or.inl ⟨by rfl, ?_⟩) (by assumption) ?_; rotate_left 1; (focus (intro w hSw; (try dsimp only at hSw); obtain ⟨v, hM⟩ := hSw; have y0 := hM.q9.c 0 rfl; have y1 := hM.q9.c 1 rfl; have y2 := hM.q9.c 2 rfl; have y3 := hM.q9.c 3 rfl; have y4 := hM.q9.c 4 rfl; have y5 := hM.q9.c 5 rfl; have y6 := hM.q9.c 6 rfl; have y7 := hM.q9.c 7 rfl; have y8 := hM.q9.c 8 rfl; have z0 := hM.q9.lt; have z1 := hM.f9.lt; (try simp only [List.getElem_toArray, List.getElem_cons_succ, List.getElem_cons_zero]); go_simp; try with_reducible rfl)); ((try simp only [List.getElem_toArray, List.getElem_cons_succ, List.getElem_cons_zero]); simp only [Act.put, List.setIfInBounds_toArray, List.set_cons_zero, List.set_cons_succ]))
  (refine wpAnyH_take (i := 3) (v := ?_) rfl (by kernel_rfl) (by kernel_rfl) (by kernel_rfl) (fun _ _ _ h => h) (Or.inl ⟨by rfl, ?_⟩) (by assumption) ?_; rotate_left 1; (focus (intro w hSw; (try dsimp only at hSw); (try simp only [List.getElem_toArray, List.getElem_cons_succ, List.getElem_cons_zero]); go_simp; try with_reducible rfl)); ((try simp only [List.getElem_toArray, List.getElem_cons_succ, List.getElem_cons_zero]); simp only [Act.put, List.setIfInBounds_toArray, List.set_cons_zero, List.set_cons_succ]))
  (refine wpAnyH_take (i := 4) (v := ?_) rfl (by kernel_rfl) (by kernel_rfl) (by kernel_rfl) (fun _ _ _ h => h) (Or.inl ⟨by rfl, ?_⟩) (by assumption) ?_; rotate_left 1; (focus (intro w hSw; (try dsimp only at hSw); (try simp only [List.getElem_toArray, List.getElem_cons_succ, List.getElem_cons_zero]); go_simp; try with_reducible rfl)); ((try simp only [List.getElem_toArray, List.getElem_cons_succ, List.getElem_cons_zero]); simp only [Act.put, List.setIfInBounds_toArray, List.set_cons_zero, List.set_cons_succ]))
  (refine wpAnyH_take (i := 7) (v := ?_) rfl (by kernel_rfl) (by kernel_rfl) (by kernel_rfl) (fun _ _ _ h => h) (Or.inl ⟨by rfl, ?_⟩) (by assumption) ?_; rotate_left 1; (focus (intro w hSw; (try dsimp only at hSw); (try simp only [List.getElem_toArray, List.getElem_cons_succ, List.getElem_cons_zero]); go_simp; try with_reducible rfl)); ((try simp only [List.getElem_toArray, List.getElem_cons_succ, List.getElem_cons_zero]); simp only [Act.put, List.setIfInBounds_toArray, List.set_cons_zero, List.set_cons_succ]))
  (refine wpAnyH_take (i := 9) (v := ?_) rfl (by kernel_rfl) (by kernel_rfl) (by kernel_rfl) (fun _ _ _ h => h) (Or.inl ⟨by rfl, ?_⟩) (by assumption) ?_; rotate_left 1; (focus (intro w hSw; (try dsimp only at hSw); obtain ⟨v, hM⟩ := hSw; have y0 := hM.q9.c 0 rfl; have y1 := hM.q9.c 1 rfl; have y2 := hM.q9.c 2 rfl; have y3 := hM.q9.c 3 rfl; have y4 := hM.q9.c 4 rfl; have y5 := hM.q9.c 5 rfl; have y6 := hM.q9.c 6 rfl; have y7 := hM.q9.c 7 rfl; have y8 := hM.q9.c 8 rfl; have z0 := hM.q9.lt; have z1 := hM.f9.lt; (try simp only [List.getElem_toArray, List.getElem_cons_succ, List.getElem_cons_zero]); go_simp; try with_reducible rfl)); ((try simp only [List.getElem_toArray, List.getElem_cons_succ, List.getElem_cons_zero]); simp only [Act.put, List.setIfInBounds_toArray, List.set_cons_zero, List.set_cons_succ]))
  (refine wpAnyH_ready (rs := [5]) (by kernel_rfl) (by simp) ?_; refine AllReadyH.cons rfl (fun K hK => ?_) AllReadyH.nil; go_simp; (go_at_call 97; refine (leftWithout_11 q _ HQB.out).mono ?_; rintro e w' ⟨rfl, hb⟩); (try go_simp); refine hK.out _ _ ?_ (fun hHeld => ?_); (focus ((try dsimp only); obtain ⟨v, hM⟩ := hHeld; exact ⟨v, hM.bel hb⟩)); clear hK K; (try ((try simp only [List.getElem_toArray, List.getElem_cons_succ, List.getElem_cons_zero]); simp only [Act.put, List.setIfInBounds_toArray, List.set_cons_zero, List.set_cons_succ])))
  (refine wpAnyH_take (i := 6) (v := ?_) rfl (by kernel_rfl) (by kernel_rfl) (by kernel_rfl) (fun _ _ _ h => h) (Or.inl ⟨by rfl, ?_⟩) (by assumption) ?_; rotate_left 1; (focus (intro w hSw; (try dsimp only at hSw); (try simp only [List.getElem_toArray, List.getElem_cons_succ, List.getElem_cons_zero]); go_simp; try with_reducible rfl)); ((try simp only [List.getElem_toArray, List.getElem_cons_succ, List.getElem_cons_zero]); simp only [Act.put, List.setIfInBounds_toArray, List.set_cons_zero, List.set_cons_succ]))
  (try rw [hwr])
  (refine wpAnyH_ready (rs := [8]) (by kernel_rfl) (by simp) ?_; refine AllReadyH.cons rfl (fun K hK => ?_) AllReadyH.nil; go_simp; (go_at_call 96; refine (nearestS_any (mnr q 1 1 * 65536) sm _ hz (by omega) (by omega) (by have := mnr_b2 HQB.out 1 1; omega) (by have := mnr_b2 HQB.out 1 1; omega)).mono ?_; rintro e w' ⟨rfl, hb⟩); (try go_simp); refine hK.out _ _ ?_ (fun hHeld => ?_); (focus ((try dsimp only); obtain ⟨v, hM⟩ := hHeld; exact ⟨v, hM.bel hb⟩)); clear hK K; (try ((try simp only [List.getElem_toArray, List.getElem_cons_succ, List.getElem_cons_zero]); simp only [Act.put, List.setIfInBounds_toArray, List.set_cons_zero, List.set_cons_succ])))
  (refine wpAnyH_take (i := 10) (v := ?_) rfl (by kernel_rfl) (by kernel_rfl) (by kernel_rfl) (fun _ _ _ h => h) (Or.inl ⟨by rfl, ?_⟩) (by assumption) ?_; rotate_left 1; (focus (intro w hSw; (try dsimp only at hSw); obtain ⟨v, hM⟩ := hSw; have y0 := hM.q9.c 0 rfl; have y1 := hM.q9.c 1 rfl; have y2 := hM.q9.c 2 rfl; have y3 := hM.q9.c 3 rfl; have y4 := hM.q9.c 4 rfl; have y5 := hM.q9.c 5 rfl; have y6 := hM.q9.c 6 rfl; have y7 := hM.q9.c 7 rfl; have y8 := hM.q9.c 8 rfl; have z0 := hM.q9.lt; have z1 := hM.f9.lt; (try simp only [List.getElem_toArray, List.getElem_cons_succ, List.getElem_cons_zero]); go_simp; try with_reducible rfl)); ((try simp only [List.getElem_toArray, List.getElem_cons_succ, List.getElem_cons_zero]); simp only [Act.put, List.setIfInBounds_toArray, List.set_cons_zero, List.set_cons_succ]))
  refine wpAnyH_ready (rs := [11]) (by kernel_rfl) (by simp) ?_
  refine AllReadyH.cons rfl (fun K hK => ?_) AllReadyH.nil
  (try dsimp only at hHeld)
  obtain ⟨v, hM⟩ := hHeld
  have tc := hM.f9.c 4 rfl
  have tf := hM.f9.f 4
  have z1 := hM.f9.lt
  have hM2 := Lib.hid (MS.same (hM.put (v := (nsg (mnr q 1 1 * 65536) sm)) rfl (by omega : 4 < 9) HN1.out HN2.out HN3.out) (updI_twice (updI (updI (updI (updI (fun _ => 0) 0 (nsg (mnr q 0 0 * 65536) sm)) 1 (nsg (mnr q 1 0 * 65536) sm)) 2 (nsg (mnr q 2 0 * 65536) sm)) 3 (nsg (mnr q 0 1 * 65536) sm)) 4 v (nsg (mnr q 1 1 * 65536) sm)))
  go_simp
  refine hK.out _ _ ?_ (fun hHeld2 => ?_)
  · (try dsimp only); exact ⟨_, hM2.out⟩
  clear hK K; (try ((try simp only [List.getElem_toArray, List.getElem_cons_succ, List.getElem_cons_zero]); simp only [Act.put, List.setIfInBounds_toArray, List.set_cons_zero, List.set_cons_succ]))
  refine wpAnyH_done (by kernel_rfl) ?_ _
  refine NoPanic.normal ?_
  have S := hM2
  clear hM2 hHeld2 hM tc tf z1 mb hwr
  go_wp2_with fail
  obtain ⟨U4, hU4⟩ : ∃ U, U = w'.setCell ⟨w3.heap.size, 4, none⟩ (.int .i64 (nsg (mnr q 1 1 * 65536) sm)) := ⟨_, rfl⟩
  rw [← hU4]
  rw [← hU4] at S
  clear hU4
  rw [rounds_succ]
  have mb := mnr_b2 HQB.out 2 1
  have hwr : IntKind.i64.wrap (mnr q 2 1 * 65536) = mnr q 2 1 * 65536 := wrap_ok (by omega) (by omega)
  go_wp2_with fail
  refine wp_region_noPanic ?_
  refine wp_region_held_drew (S := (fun w' => ∃ v, MS w w' (w.heap.size + 1) 0 w1.heap.size w3.heap.size q q (updI (updI (updI (updI (updI (updI (fun _ => 0) 0 (nsg (mnr q 0 0 * 65536) sm)) 1 (nsg (mnr q 1 0 * 65536) sm)) 2 (nsg (mnr q 2 0 * 65536) sm)) 3 (nsg (mnr q 0 1 * 65536) sm)) 4 (nsg (mnr q 1 1 * 65536) sm)) 5 v) 0)) (by kernel_rfl) ?_ (fun hHeld => ?_)
  · (try dsimp only); exact ⟨_, (MS.same S.out (updI_self (updI (updI (updI (updI (updI (fun _ => 0) 0 (nsg (mnr q 0 0 * 65536) sm)) 1 (nsg (mnr q 1 0 * 65536) sm)) 2 (nsg (mnr q 2 0 * 65536) sm)) 3 (nsg (mnr q 0 1 * 65536) sm)) 4 (nsg (mnr q 1 1 * 65536) sm)) 5).symm).bel (Below.refl _ _).drew⟩
  change wpAnyH _ _ _ _ _ 12 _ _ _
  (refine wpAnyH_take (i := 0) (v := ?_) rfl (by kernel_rfl) (by kernel_rfl) (by kernel_rfl) (fun _ _ _ h => h) (Or.inl ⟨by rfl, ?_⟩) (by assumption) ?_; rotate_left 1; (focus (intro w hSw; (try dsimp only at hSw); (try simp only [List.getElem_toArray, List.getElem_cons_zero]); go_simp; try with_reducible rfl)); ((try simp only [List.getElem_toArray, List.getElem_cons_zero]); simp only [Act.put, List.setIfInBounds_toArray, List.set_cons_zero, List.set_cons_succ]))
  (refine wpAnyH_take (i := 1) (v := ?_) rfl (by kernel_rfl) (by kernel_rfl) (by kernel_rfl) (fun _ _ _ h => h) (Or.inl ⟨by rfl, ?_⟩) (by assumption) ?_; rotate_left 1; (focus (intro w hSw; (try dsimp only at hSw); (try simp only [List.getElem_toArray, List.getElem_cons_succ, List.getElem_cons_zero]); go_simp; try with_reducible rfl)); ((try simp only [List.getElem_toArray, List.getElem_cons_succ, List.getElem_cons_zero]); simp only [Act.put, List.setIfInBounds_toArray, List.set_cons_zero, List.set_cons_succ]))
  (refine wpAnyH_take (i := 2) (v := ?_) rfl (by kernel_rfl) (by kernel_rfl) (by kernel_rfl) (fun _ _ _ h => h) (Or.inl ⟨by rfl, ?_⟩) (by assumption) ?_; rotate_left 1; (focus (intro w hSw; (try dsimp only at hSw); obtain ⟨v, hM⟩ := hSw; have y0 := hM.q9.c 0 rfl; have y1 := hM.q9.c 1 rfl; have y2 := hM.q9.c 2 rfl; have y3 := hM.q9.c 3 rfl; have y4 := hM.q9.c 4 rfl; have y5 := hM.q9.c 5 rfl; have y6 := hM.q9.c 6 rfl; have y7 := hM.q9.c 7 rfl; have y8 := hM.q9.c 8 rfl; have z0 := hM.q9.lt; have z1 := hM.f9.lt; (try simp only [List.getElem_toArray, List.getElem_cons_succ, List.getElem_cons_zero]); go_simp; try with_reducible rfl)); ((try simp only [List.getElem_toArray, List.getElem_cons_succ, List.getElem_cons_zero]); simp only [Act.put, List.setIfInBounds_toArray, List.set_cons_zero, List.set_cons_succ]))
  (refine wpAnyH_take (i := 3) (v := ?_) rfl (by kernel_rfl) (by kernel_rfl) (by kernel_rfl) (fun _ _ _ h => h) (Or.inl ⟨by rfl, ?_⟩) (by assumption) ?_; rotate_left 1; (focus (intro w hSw; (try dsimp only at hSw); (try simp only [List.getElem_toArray, List.getElem_cons_succ, List.getElem_cons_zero]); go_simp; try with_reducible rfl)); ((try simp only [List.getElem_toArray, List.getElem_cons_succ, List.getElem_cons_zero]); simp only [Act.put, List.setIfInBounds_toArray, List.set_cons_zero, List.set_cons_succ]))
  (refine wpAnyH_take (i := 4) (v := ?_) rfl (by kernel_rfl) (by kernel_rfl) (by kernel_rfl) (fun _ _ _ h => h) (Or.inl ⟨by rfl, ?_⟩) (by assumption) ?_; rotate_left 1; (focus (intro w hSw; (try dsimp only at hSw); (try simp only [List.getElem_toArray, List.getElem_cons_succ, List.getElem_cons_zero]); go_simp; try with_reducible rfl)); ((try simp only [List.getElem_toArray, List.getElem_cons_succ, List.getElem_cons_zero]); simp only [Act.put, List.setIfInBounds_toArray, List.set_cons_zero, List.set_cons_succ]))
  (refine wpAnyH_take (i := 7) (v := ?_) rfl (by kernel_rfl) (by kernel_rfl) (by kernel_rfl) (fun _ _ _ h => h) (Or.inl ⟨by rfl, ?_⟩) (by assumption) ?_; rotate_left 1; (focus (intro w hSw; (try dsimp only at hSw); (try simp only [List.getElem_toArray, List.getElem_cons_succ, List.getElem_cons_zero]); go_simp; try with_reducible rfl)); ((try simp only [List.getElem_toArray, List.getElem_cons_succ, List.getElem_cons_zero]); simp only [Act.put, List.setIfInBounds_toArray, List.set_cons_zero, List.set_cons_succ]))
  (refine wpAnyH_take (i := 9) (v := ?_) rfl (by kernel_rfl) (by kernel_rfl) (by kernel_rfl) (fun _ _ _ h => h) (Or.inl ⟨by rfl, ?_⟩) (by assumption) ?_; rotate_left 1; (focus (intro w hSw; (try dsimp only at hSw); obtain ⟨v, hM⟩ := hSw; have y0 := hM.q9.c 0 rfl; have y1 := hM.q9.c 1 rfl; have y2 := hM.q9.c 2 rfl; have y3 := hM.q9.c 3 rfl; have y4 := hM.q9.c 4 rfl; have y5 := hM.q9.c 5 rfl; have y6 := hM.q9.c 6 rfl; have y7 := hM.q9.c 7 rfl; have y8 := hM.q9.c 8 rfl; have z0 := hM.q9.lt; have z1 := hM.f9.lt; (try simp only [List.getElem_toArray, List.getElem_cons_succ, List.getElem_cons_zero]); go_simp; try with_reducible rfl)); ((try simp only [List.getElem_toArray, List.getElem_cons_succ, List.getElem_cons_zero]); simp only [Act.put, List.setIfInBounds_toArray, List.set_cons_zero, List.set_cons_succ]))
  (refine wpAnyH_ready (rs := [5]) (by kernel_rfl) (by simp) ?_; refine AllReadyH.cons rfl (fun K hK => ?_) AllReadyH.nil; go_simp; (go_at_call 97; refine (leftWithout_21 q _ HQB.out).mono ?_; rintro e w' ⟨rfl, hb⟩); (try go_simp); refine hK.out _ _ ?_ (fun hHeld => ?_); (focus ((try dsimp only); obtain ⟨v, hM⟩ := hHeld; exact ⟨v, hM.bel hb⟩)); clear hK K; (try ((try simp only [List.getElem_toArray, List.getElem_cons_succ, List.getElem_cons_zero]); simp only [Act.put, List.setIfInBounds_toArray, List.set_cons_zero, List.set_cons_succ])))
  (refine wpAnyH_take (i := 6) (v := ?_) rfl (by kernel_rfl) (by kernel_rfl) (by kernel_rfl) (fun _ _ _ h => h) (Or.inl ⟨by rfl, ?_⟩) (by assumption) ?_; rotate_left 1; (focus (intro w hSw; (try dsimp only at hSw); (try simp only [List.getElem_toArray, List.getElem_cons_succ, List.getElem_cons_zero]); go_simp; try with_reducible rfl)); ((try simp only [List.getElem_toArray, List.getElem_cons_succ, List.getElem_cons_zero]); simp only [Act.put, List.setIfInBounds_toArray, List.set_cons_zero, List.set_cons_succ]))
  (try rw [hwr])
  (refine wpAnyH_ready (rs := [8]) (by kernel_rfl) (by simp) ?_; refine AllReadyH.cons rfl (fun K hK => ?_) AllReadyH.nil; go_simp; (go_at_call 96; refine (nearestS_any (mnr q 2 1 * 65536) sm _ hz (by omega) (by omega) (by have := mnr_b2 HQB.out 2 1; omega) (by have := mnr_b2 HQB.out 2 1; omega)).mono ?_; rintro e w' ⟨rfl, hb⟩); (try go_simp); refine hK.out _ _ ?_ (fun hHeld => ?_); (focus ((try dsimp only); obtain ⟨v, hM⟩ := hHeld; exact ⟨v, hM.bel hb⟩)); clear hK K; (try ((try simp only [List.getElem_toArray, List.getElem_cons_succ, List.getElem_cons_zero]); simp only [Act.put, List.setIfInBounds_toArray, List.set_cons_zero, List.set_cons_succ])))
  (refine wpAnyH_take (i := 10) (v := ?_) rfl (by kernel_rfl) (by kernel_rfl) (by kernel_rfl) (fun _ _ _ h => h) (Or.inl ⟨by rfl, ?_⟩) (by assumption) ?_; rotate_left 1; (focus (intro w hSw; (try dsimp only at hSw); obtain ⟨v, hM⟩ := hSw; have y0 := hM.q9.c 0 rfl; have y1 := hM.q9.c 1 rfl; have y2 := hM.q9.c 2 rfl; have y3 := hM.q9.c 3 rfl; have y4 := hM.q9.c 4 rfl; have y5 := hM.q9.c 5 rfl; have y6 := hM.q9.c 6 rfl; have y7 := hM.q9.c 7 rfl; have y8 := hM.q9.c 8 rfl; have z0 := hM.q9.lt; have z1 := hM.f9.lt; (try simp only [List.getElem_toArray, List.getElem_cons_succ, List.getElem_cons_zero]); go_simp; try with_reducible rfl)); ((try simp only [List.getElem_toArray, List.getElem_cons_succ, List.getElem_cons_zero]); simp only [Act.put, List.setIfInBounds_toArray, List.set_cons_zero, List.set_cons_succ]))
  refine wpAnyH_ready (rs := [11]) (by kernel_rfl) (by simp) ?_
  refine AllReadyH.cons rfl (fun K hK => ?_) AllReadyH.nil
  (try dsimp only at hHeld)
  obtain ⟨v, hM⟩ := hHeld
  have tc := hM.f9.c 5 rfl
  have tf := hM.f9.f 5
  have z1 := hM.f9.lt
  have hM2 := Lib.hid (MS.same (hM.put (v := (nsg (mnr q 2 1 * 65536) sm)) rfl (by omega : 5 < 9) HN1.out HN2.out HN3.out) (updI_twice (updI (updI (updI (updI (updI (fun _ => 0) 0 (nsg (mnr q 0 0 * 65536) sm)) 1 (nsg (mnr q 1 0 * 65536) sm)) 2 (nsg (mnr q 2 0 * 65536) sm)) 3 (nsg (mnr q 0 1 * 65536) sm)) 4 (nsg (mnr q 1 1 * 65536) sm)) 5 v (nsg (mnr q 2 1 * 65536) sm)))
  go_simp
  refine hK.out _ _ ?_ (fun hHeld2 => ?_)
  · (try dsimp only); exact ⟨_, hM2.out⟩
  clear hK K; (try ((try simp only [List.getElem_toArray, List.getElem_cons_succ, List.getElem_cons_zero]); simp only [Act.put, List.setIfInBounds_toArray, List.set_cons_zero, List.set_cons_succ]))
  refine wpAnyH_done (by kernel_rfl) ?_ _
  refine NoPanic.normal ?_
  have S := hM2
  clear hM2 hHeld2 hM tc tf z1 mb hwr
  go_wp2_with fail
  obtain ⟨U5, hU5⟩ : ∃ U, U = w'.setCell ⟨w3.heap.size, 5, none⟩ (.int .i64 (nsg (mnr q 2 1 * 65536) sm)) := ⟨_, rfl⟩
  rw [← hU5]
  rw [← hU5] at S
  clear hU5
  rw [rounds_succ]
  go_wp2_with fail
  have S2 := S
  clear S
  rw [rounds_succ]
  have ii := fun W => ix9_2 (fun _ => 0) W
  have z1 := S2.out.f9.lt
  go_wp2_with fail
  clear ii z1
  obtain ⟨V2, hV2⟩ : ∃ V, V = U5.alloc (.cells #[.int .i64 0, .int .i64 0, .int .i64 0] 107) := ⟨_, rfl⟩
  have S : Hid (MS w V2 (w.heap.size + 1) 0 w1.heap.size w3.heap.size q q (updI (updI (updI (updI (updI (updI (fun _ => 0) 0 (nsg (mnr q 0 0 * 65536) sm)) 1 (nsg (mnr q 1 0 * 65536) sm)) 2 (nsg (mnr q 2 0 * 65536) sm)) 3 (nsg (mnr q 0 1 * 65536) sm)) 4 (nsg (mnr q 1 1 * 65536) sm)) 5 (nsg (mnr q 2 1 * 65536) sm)) 0) := by show MS _ _ _ _ _ _ _ _ _ _; rw [hV2]; exact S2.out.bel (blAlloc _ _)
  rw [← hV2]
  clear hV2 S2
  refine wp_loop_rounds 4 ?_
  rw [rounds_succ]
  have mb := mnr_b2 HQB.out 0 2
  have hwr : IntKind.i64.wrap (mnr q 0 2 * 65536) = mnr q 0 2 * 65536 := wrap_ok (by omega) (by omega)
  go_wp2_with fail
  refine wp_region_noPanic ?_
  refine wp_region_held_drew (S := (fun w' => ∃ v, MS w w' (w.heap.size + 1) 0 w1.heap.size w3.heap.size q q (updI (updI (updI (updI (updI (updI (updI (fun _ => 0) 0 (nsg (mnr q 0 0 * 65536) sm)) 1 (nsg (mnr q 1 0 * 65536) sm)) 2 (nsg (mnr q 2 0 * 65536) sm)) 3 (nsg (mnr q 0 1 * 65536) sm)) 4 (nsg (mnr q 1 1 * 65536) sm)) 5 (nsg (mnr q 2 1 * 65536) sm)) 6 v) 0)) (by kernel_rfl) ?_ (fun hHeld => ?_)
  · (try dsimp only); exact ⟨_, (MS.same S.out (updI_self (updI (updI (updI (updI (updI (updI (fun _ => 0) 0 (nsg (mnr q 0 0 * 65536) sm)) 1 (nsg (mnr q 1 0 * 65536) sm)) 2 (nsg (mnr q 2 0 * 65536) sm)) 3 (nsg (mnr q 0 1 * 65536) sm)) 4 (nsg (mnr q 1 1 * 65536) sm)) 5 (nsg (mnr q 2 1 * 65536) sm)) 6).symm).bel (Below.refl _ _).drew⟩
  change wpAnyH _ _ _ _ _ 12 _ _ _
  (refine wpAnyH_take (i := 0) (v := ?_) rfl (by kernel_rfl) (by kernel_rfl) (by kernel_rfl) (fun _ _ _ h => h) (Or.inl ⟨by rfl, ?_⟩) (by assumption) ?_; rotate_left 1; (focus (intro w hSw; (try dsimp only at hSw); (try simp only [List.getElem_toArray, List.getElem_cons_zero]); go_simp; try with_reducible rfl)); ((try simp only [List.getElem_toArray, List.getElem_cons_zero]); simp only [Act.put, List.setIfInBounds_toArray, List.set_cons_zero, List.set_cons_succ]))
  (refine wpAnyH_take (i := 1) (v := ?_) rfl (by kernel_rfl) (by kernel_rfl) (by kernel_rfl) (fun _ _ _ h => h) (Or.inl ⟨by rfl, ?_⟩) (by assumption) ?_; rotate_left 1; (focus (intro w hSw; (try dsimp only at hSw); (try simp only [List.getElem_toArray, List.getElem_cons_succ, List.getElem_cons_zero]); go_simp; try with_reducible rfl)); ((try simp only [List.getElem_toArray, List.getElem_cons_succ, List.getElem_cons_zero]); simp only [Act.put, List.setIfInBounds_toArray, List.set_cons_zero, List.set_cons_succ]))
  (refine wpAnyH_take (i := 2) (v := ?_) rfl (by kernel_rfl) (by kernel_rfl) (by kernel_rfl) (fun _ _ _ h => h) (Or.inl ⟨by rfl, ?_⟩) (by assumption) ?_; rotate_left 1; (focus (intro w hSw; (try dsimp only at hSw); obtain ⟨v, hM⟩ := hSw; have y0 := hM.q9.c 0 rfl; have y1 := hM.q9.c 1 rfl; have y2 := hM.q9.c 2 rfl; have y3 := hM.q9.c 3 rfl; have y4 := hM.q9.c 4 rfl; have y5 := hM.q9.c 5 rfl; have y6 := hM.q9.c 6 rfl; have y7 := hM.q9.c 7 rfl; have y8 := hM.q9.c 8 rfl; have z0 := hM.q9.lt; have z1 := hM.f9.lt; (try simp only [List.getElem_toArray, List.getElem_cons_succ, List.getElem_cons_zero]); go_simp; try with_reducible rfl)); ((try simp only [List.getElem_toArray, List.getElem_cons_succ, List.getElem_cons_zero]); simp only [Act.put, List.setIfInBounds_toArray, List.set_cons_zero, List.set_cons_succ]))
  (refine wpAnyH_take (i := 3) (v := ?_) rfl (by kernel_rfl) (by kernel_rfl) (by kernel_rfl) (fun _ _ _ h => h) (Or.inl ⟨by rfl, ?_⟩) (by assumption) ?_; rotate_left 1; (focus (intro w hSw; (try dsimp only at hSw); (try simp only [List.getElem_toArray, List.getElem_cons_succ, List.getElem_cons_zero]); go_simp; try with_reducible rfl)); ((try simp only [List.getElem_toArray, List.getElem_cons_succ, List.getElem_cons_zero]); simp only [Act.put, List.setIfInBounds_toArray, List.set_cons_zero, List.set_cons_succ]))
  (refine wpAnyH_take (i := 4) (v := ?_) rfl (by kernel_rfl) (by kernel_rfl) (by kernel_rfl) (fun _ _ _ h => h) (Or.inl ⟨by rfl, ?_⟩) (by assumption) ?_; rotate_left 1; (focus (intro w hSw; (try dsimp only at hSw); (try simp only [List.getElem_toArray, List.getElem_cons_succ, List.getElem_cons_zero]); go_simp; try with_reducible rfl)); ((try simp only [List.getElem_toArray, List.getElem_cons_succ, List.getElem_cons_zero]); simp only [Act.put, List.setIfInBounds_toArray, List.set_cons_zero, List.set_cons_succ]))
  (refine wpAnyH_take (i := 7) (v := ?_) rfl (by kernel_rfl) (by kernel_rfl) (by kernel_rfl) (fun _ _ _ h => h) (Or.inl ⟨by rfl, ?_⟩) (by assumption) ?_; rotate_left 1; (focus (intro w hSw; (try dsimp only at hSw); (try simp only [List.getElem_toArray, List.getElem_cons_succ, List.getElem_cons_zero]); go_simp; try with_reducible rfl)); ((try simp only [List.getElem_toArray, List.getElem_cons_succ, List.getElem_cons_zero]); simp only [Act.put, List.setIfInBounds_toArray, List.set_cons_zero, List.set_cons_succ]))
  (refine wpAnyH_take (i := 9) (v := ?_) rfl (by kernel_rfl) (by kernel_rfl) (by kernel_rfl) (fun _ _ _ h => h) (Or.inl ⟨by rfl, ?_⟩) (by assumption) ?_; rotate_left 1; (focus (intro w hSw; (try dsimp only at hSw); obtain ⟨v, hM⟩ := hSw; have y0 := hM.q9.c 0 rfl; have y1 := hM.q9.c 1 rfl; have y2 := hM.q9.c 2 rfl; have y3 := hM.q9.c 3 rfl; have y4 := hM.q9.c 4 rfl; have y5 := hM.q9.c 5 rfl; have y6 := hM.q9.c 6 rfl; have y7 := hM.q9.c 7 rfl; have y8 := hM.q9.c 8 rfl; have z0 := hM.q9.lt; have z1 := hM.f9.lt; (try simp only [List.getElem_toArray, List.getElem_cons_succ, List.getElem_cons_zero]); go_simp; try with_reducible rfl)); ((try simp only [List.getElem_toArray, List.getElem_cons_succ, List.getElem_cons_zero]); simp only [Act.put, List.setIfInBounds_toArray, List.set_cons_zero, List.set_cons_succ]))
  (refine wpAnyH_ready (rs := [5]) (by kernel_rfl) (by simp) ?_; refine AllReadyH.cons rfl (fun K hK => ?_) AllReadyH.nil; go_simp; (go_at_call 97; refine (leftWithout_02 q _ HQB.out).mono ?_; rintro e w' ⟨rfl, hb⟩); (try go_simp); refine hK.out _ _ ?_ (fun hHeld => ?_); (focus ((try dsimp only); obtain ⟨v, hM⟩ := hHeld; exact ⟨v, hM.bel hb⟩)); clear hK K; (try ((try simp only [List.getElem_toArray, List.getElem_cons_succ, List.getElem_cons_zero]); simp only [Act.put, List.setIfInBounds_toArray, List.set_cons_zero, List.set_cons_succ])))
  (refine wpAnyH_take (i := 6) (v := ?_) rfl (by kernel_rfl) (by kernel_rfl) (by kernel_rfl) (fun _ _ _ h => h) (Or.inl ⟨by rfl, ?_⟩) (by assumption) ?_; rotate_left 1; (focus (intro w hSw; (try dsimp only at hSw); (try simp only [List.getElem_toArray, List.getElem_cons_succ, List.getElem_cons_zero]); go_simp; try with_reducible rfl)); ((try simp only [List.getElem_toArray, List.getElem_cons_succ, List.getElem_cons_zero]); simp only [Act.put, List.setIfInBounds_toArray, List.set_cons_zero, List.set_cons_succ]))
  (try rw [hwr])
  (refine wpAnyH_ready (rs := [8]) (by kernel_rfl) (by simp) ?_; refine AllReadyH.cons rfl (fun K hK => ?_) AllReadyH.nil; go_simp; (go_at_call 96; refine (nearestS_any (mnr q 0 2 * 65536) sm _ hz (by omega) (by omega) (by have := mnr_b2 HQB.out 0 2; omega) (by have := mnr_b2 HQB.out 0 2; omega)).mono ?_; rintro e w' ⟨rfl, hb⟩); (try go_simp); refine hK.out _ _ ?_ (fun hHeld => ?_); (focus ((try dsimp only); obtain ⟨v, hM⟩ := hHeld; exact ⟨v, hM.bel hb⟩)); clear hK K; (try ((try simp only [List.getElem_toArray, List.getElem_cons_succ, List.getElem_cons_zero]); simp only [Act.put, List.setIfInBounds_toArray, List.set_cons_zero, List.set_cons_succ])))
  (refine wpAnyH_take (i := 10) (v := ?_) rfl (by kernel_rfl) (by kernel_rfl) (by kernel_rfl) (fun _ _ _ h => h) (Or.inl ⟨by rfl, ?_⟩) (by assumption) ?_; rotate_left 1; (focus (intro w hSw; (try dsimp only at hSw); obtain ⟨v, hM⟩ := hSw; have y0 := hM.q9.c 0 rfl; have y1 := hM.q9.c 1 rfl; have y2 := hM.q9.c 2 rfl; have y3 := hM.q9.c 3 rfl; have y4 := hM.q9.c 4 rfl; have y5 := hM.q9.c 5 rfl; have y6 := hM.q9.c 6 rfl; have y7 := hM.q9.c 7 rfl; have y8 := hM.q9.c 8 rfl; have z0 := hM.q9.lt; have z1 := hM.f9.lt; (try simp only [List.getElem_toArray, List.getElem_cons_succ, List.getElem_cons_zero]); go_simp; try with_reducible rfl)); ((try simp only [List.getElem_toArray, List.getElem_cons_succ, List.getElem_cons_zero]); simp only [Act.put, List.setIfInBounds_toArray, List.set_cons_zero, List.set_cons_succ]))
  refine wpAnyH_ready (rs := [11]) (by kernel_rfl) (by simp) ?_
  refine AllReadyH.cons rfl (fun K hK => ?_) AllReadyH.nil
  (try dsimp only at hHeld)
  obtain ⟨v, hM⟩ := hHeld
  have tc := hM.f9.c 6 rfl
  have tf := hM.f9.f 6
  have z1 := hM.f9.lt
  have hM2 := Lib.hid (MS.same (hM.put (v := (nsg (mnr q 0 2 * 65536) sm)) rfl (by omega : 6 < 9) HN1.out HN2.out HN3.out) (updI_twice (updI (updI (updI (updI (updI (updI (fun _ => 0) 0 (nsg (mnr q 0 0 * 65536) sm)) 1 (nsg (mnr q 1 0 * 65536) sm)) 2 (nsg (mnr q 2 0 * 65536) sm)) 3 (nsg (mnr q 0 1 * 65536) sm)) 4 (nsg (mnr q 1 1 * 65536) sm)) 5 (nsg (mnr q 2 1 * 65536) sm)) 6 v (nsg (mnr q 0 2 * 65536) sm)))
  go_simp
  refine hK.out _ _ ?_ (fun hHeld2 => ?_)
  · (try dsimp only); exact ⟨_, hM2.out⟩
  clear hK K; (try ((try simp only [List.getElem_toArray, List.getElem_cons_succ, List.getElem_cons_zero]); simp only [Act.put, List.setIfInBounds_toArray, List.set_cons_zero, List.set_cons_succ]))
  refine wpAnyH_done (by kernel_rfl) ?_ _
  refine NoPanic.normal ?_
  have S := hM2
  clear hM2 hHeld2 hM tc tf z1 mb hwr
  go_wp2_with fail
  obtain ⟨U6, hU6⟩ : ∃ U, U = w'.setCell ⟨w3.heap.size, 6, none⟩ (.int .i64 (nsg (mnr q 0 2 * 65536) sm)) := ⟨_, rfl⟩
  rw [← hU6]
  rw [← hU6] at S
  clear hU6
  rw [rounds_succ]
  have mb := mnr_b2 HQB.out 1 2
  have hwr : IntKind.i64.wrap (mnr q 1 2 * 65536) = mnr q 1 2 * 65536 := wrap_ok (by omega) (by omega)
  go_wp2_with fail
  refine wp_region_noPanic ?_
  refine wp_region_held_drew (S := (fun w' => ∃ v, MS w w' (w.heap.size + 1) 0 w1.heap.size w3.heap.size q q (updI (updI (updI (updI (updI (updI (updI (updI (fun _ => 0) 0 (nsg (mnr q 0 0 * 65536) sm)) 1 (nsg (mnr q 1 0 * 65536) sm)) 2 (nsg (mnr q 2 0 * 65536) sm)) 3 (nsg (mnr q 0 1 * 65536) sm)) 4 (nsg (mnr q 1 1 * 65536) sm)) 5 (nsg (mnr q 2 1 * 65536) sm)) 6 (nsg (mnr q 0 2 * 65536) sm)) 7 v) 0)) (by kernel_rfl) ?_ (fun hHeld => ?_)
  · (try dsimp only); exact ⟨_, (MS.same S.out (updI_self (updI (updI (updI (updI (updI (updI (updI (fun _ => 0) 0 (nsg (mnr q 0 0 * 65536) sm)) 1 (nsg (mnr q 1 0 * 65536) sm)) 2 (nsg (mnr q 2 0 * 65536) sm)) 3 (nsg (mnr q 0 1 * 65536) sm)) 4 (nsg (mnr q 1 1 * 65536) sm)) 5 (nsg (mnr q 2 1 * 65536) sm)) 6 (nsg (mnr q 0 2 * 65536) sm)) 7).symm).bel (Below.refl _ _).drew⟩
  change wpAnyH _ _ _ _ _ 12 _ _ _
  (refine wpAnyH_take (i := 0) (v := ?_) rfl (by kernel_rfl) (by kernel_rfl) (by kernel_rfl) (fun _ _ _ h => h) (Or.inl ⟨by rfl, ?_⟩) (by assumption) ?_; rotate_left 1; (focus (intro w hSw; (try dsimp only at hSw); (try simp only [List.getElem_toArray, List.getElem_cons_zero]); go_simp; try with_reducible rfl)); ((try simp only [List.getElem_toArray, List.getElem_cons_zero]); simp only [Act.put, List.setIfInBounds_toArray, List.set_cons_zero, List.set_cons_succ]))
  (refine wpAnyH_take (i := 1) (v := ?_) rfl (by kernel_rfl) (by kernel_rfl) (by kernel_rfl) (fun _ _ _ h => h) (Or.inl ⟨by rfl, ?_⟩) (by assumption) ?_; rotate_left 1; (focus (intro w hSw; (try dsimp only at hSw); (try simp only [List.getElem_toArray, List.getElem_cons_succ, List.getElem_cons_zero]); go_simp; try with_reducible rfl)); ((try simp only [List.getElem_toArray, List.getElem_cons_succ, List.getElem_cons_zero]); simp only [Act.put, List.setIfInBounds_toArray, List.set_cons_zero, List.set_cons_succ]))
  (refine wpAnyH_take (i := 2) (v := ?_) rfl (by kernel_rfl) (by kernel_rfl) (by kernel_rfl) (fun _ _ _ h => h) (Or.inl ⟨by rfl, ?_⟩) (by assumption) ?_; rotate_left 1; (focus (intro w hSw; (try dsimp only at hSw); obtain ⟨v, hM⟩ := hSw; have y0 := hM.q9.c 0 rfl; have y1 := hM.q9.c 1 rfl; have y2 := hM.q9.c 2 rfl; have y3 := hM.q9.c 3 rfl; have y4 := hM.q9.c 4 rfl; have y5 := hM.q9.c 5 rfl; have y6 := hM.q9.c 6 rfl; have y7 := hM.q9.c 7 rfl; have y8 := hM.q9.c 8 rfl; have z0 := hM.q9.lt; have z1 := hM.f9.lt; (try simp only [List.getElem_toArray, List.getElem_cons_succ, List.getElem_cons_zero]); go_simp; try with_reducible rfl)); ((try simp only [List.getElem_toArray, List.getElem_cons_succ, List.getElem_cons_zero]); simp only [Act.put, List.setIfInBounds_toArray, List.set_cons_zero, List.set_cons_succ]))
  (refine wpAnyH_take (i := 3) (v := ?_) rfl (by kernel_rfl) (by kernel_rfl) (by kernel_rfl) (fun _ _ _ h => h) (Or.inl ⟨by rfl, ?_⟩) (by assumption) ?_; rotate_left 1; (focus (intro w hSw; (try dsimp only at hSw); (try simp only [List.getElem_toArray, List.getElem_cons_succ, List.getElem_cons_zero]); go_simp; try with_reducible rfl)); ((try simp only [List.getElem_toArray, List.getElem_cons_succ, List.getElem_cons_zero]); simp only [Act.put, List.setIfInBounds_toArray, List.set_cons_zero, List.set_cons_succ]))
  (refine wpAnyH_take (i := 4) (v := ?_) rfl (by kernel_rfl) (by kernel_rfl) (by kernel_rfl) (fun _ _ _ h => h) (Or.inl ⟨by rfl, ?_⟩) (by assumption) ?_; rotate_left 1; (focus (intro w hSw; (try dsimp only at hSw); (try simp only [List.getElem_toArray, List.getElem_cons_succ, List.getElem_cons_zero]); go_simp; try with_reducible rfl)); ((try simp only [List.getElem_toArray, List.getElem_cons_succ, List.getElem_cons_zero]); simp only [Act.put, List.setIfInBounds_toArray, List.set_cons_zero, List.set_cons_succ]))
  (refine wpAnyH_take (i := 7) (v := ?_) rfl (by kernel_rfl) (by kernel_rfl) (by kernel_rfl) (fun _ _ _ h => h) (Or.inl ⟨by rfl, ?_⟩) (by assumption) ?_; rotate_left 1; (focus (intro w hSw; (try dsimp only at hSw); (try simp only [List.getElem_toArray, List.getElem_cons_succ, List.getElem_cons_zero]); go_simp; try with_reducible rfl)); ((try simp only [List.getElem_toArray, List.getElem_cons_succ, List.getElem_cons_zero]); simp only [Act.put, List.setIfInBounds_toArray, List.set_cons_zero, List.set_cons_succ]))
  (refine wpAnyH_take (i := 9) (v := ?_) rfl (by kernel_rfl) (by kernel_rfl) (by kernel_rfl) (fun _ _ _ h => h) (Or.inl ⟨by rfl, ?_⟩) (by assumption) ?_; rotate_left 1; (focus (intro w hSw; (try dsimp only at hSw); obtain ⟨v, hM⟩ := hSw; have y0 := hM.q9.c 0 rfl; have y1 := hM.q9.c 1 rfl; have y2 := hM.q9.c 2 rfl; have y3 := hM.q9.c 3 rfl; have y4 := hM.q9.c 4 rfl; have y5 := hM.q9.c 5 rfl; have y6 := hM.q9.c 6 rfl; have y7 := hM.q9.c 7 rfl; have y8 := hM.q9.c 8 rfl; have z0 := hM.q9.lt; have z1 := hM.f9.lt; (try simp only [List.getElem_toArray, List.getElem_cons_succ, List.getElem_cons_zero]); go_simp; try with_reducible rfl)); ((try simp only [List.getElem_toArray, List.getElem_cons_succ, List.getElem_cons_zero]); simp only [Act.put, List.setIfInBounds_toArray, List.set_cons_zero, List.set_cons_succ]))
  (refine wpAnyH_ready (rs := [5]) (by kernel_rfl) (by simp) ?_; refine AllReadyH.cons rfl (fun K hK => ?_) AllReadyH.nil; go_simp; (go_at_call 97; refine (leftWithout_12 q _ HQB.out).mono ?_; rintro e w' ⟨rfl, hb⟩); (try go_simp); refine hK.out _ _ ?_ (fun hHeld => ?_); (focus ((try dsimp only); obtain ⟨v, hM⟩ := hHeld; exact ⟨v, hM.bel hb⟩)); clear hK K; (try ((try simp only [List.getElem_toArray, List.getElem_cons_succ, List.getElem_cons_zero]); simp only [Act.put, List.setIfInBounds_toArray, List.set_cons_zero, List.set_cons_succ])))
  (refine wpAnyH_take (i := 6) (v := ?_) rfl (by kernel_rfl) (by kernel_rfl) (by kernel_rfl) (fun _ _ _ h => h) (Or.inl ⟨by rfl, ?_⟩) (by assumption) ?_; rotate_left 1; (focus (intro w hSw; (try dsimp only at hSw); (try simp only [List.getElem_toArray, List.getElem_cons_succ, List.getElem_cons_zero]); go_simp; try with_reducible rfl)); ((try simp only [List.getElem_toArray, List.getElem_cons_succ, List.getElem_cons_zero]); simp only [Act.put, List.setIfInBounds_toArray, List.set_cons_zero, List.set_cons_succ]))
  (try rw [hwr])
  (refine wpAnyH_ready (rs := [8]) (by kernel_rfl) (by simp) ?_; refine AllReadyH.cons rfl (fun K hK => ?_) AllReadyH.nil; go_simp; (go_at_call 96; refine (nearestS_any (mnr q 1 2 * 65536) sm _ hz (by omega) (by omega) (by have := mnr_b2 HQB.out 1 2; omega) (by have := mnr_b2 HQB.out 1 2; omega)).mono ?_; rintro e w' ⟨rfl, hb⟩); (try go_simp); refine hK.out _ _ ?_ (fun hHeld => ?_); (focus ((try dsimp only); obtain ⟨v, hM⟩ := hHeld; exact ⟨v, hM.bel hb⟩)); clear hK K; (try ((try simp only [List.getElem_toArray, List.getElem_cons_succ, List.getElem_cons_zero]); simp only [Act.put, List.setIfInBounds_toArray, List.set_cons_zero, List.set_cons_succ])))
  (refine wpAnyH_take (i := 10) (v := ?_) rfl (by kernel_rfl) (by kernel_rfl) (by kernel_rfl) (fun _ _ _ h => h) (Or.inl ⟨by rfl, ?_⟩) (by assumption) ?_; rotate_left 1; (focus (intro w hSw; (try dsimp only at hSw); obtain ⟨v, hM⟩ := hSw; have y0 := hM.q9.c 0 rfl; have y1 := hM.q9.c 1 rfl; have y2 := hM.q9.c 2 rfl; have y3 := hM.q9.c 3 rfl; have y4 := hM.q9.c 4 rfl; have y5 := hM.q9.c 5 rfl; have y6 := hM.q9.c 6 rfl; have y7 := hM.q9.c 7 rfl; have y8 := hM.q9.c 8 rfl; have z0 := hM.q9.lt; have z1 := hM.f9.lt; (try simp only [List.getElem_toArray, List.getElem_cons_succ, List.getElem_cons_zero]); go_simp; try with_reducible rfl)); ((try simp only [List.getElem_toArray, List.getElem_cons_succ, List.getElem_cons_zero]); simp only [Act.put, List.setIfInBounds_toArray, List.set_cons_zero, List.set_cons_succ]))
  refine wpAnyH_ready (rs := [11]) (by kernel_rfl) (by simp) ?_
  refine AllReadyH.cons rfl (fun K hK => ?_) AllReadyH.nil
  (try dsimp only at hHeld)
  obtain ⟨v, hM⟩ := hHeld
  have tc := hM.f9.c 7 rfl
  have tf := hM.f9.f 7
  have z1 := hM.f9.lt
  have hM2 := Lib.hid (MS.same (hM.put (v := (nsg (mnr q 1 2 * 65536) sm)) rfl (by omega : 7 < 9) HN1.out HN2.out HN3.out) (updI_twice (updI (updI (updI (updI (updI (updI (updI (fun _ => 0) 0 (nsg (mnr q 0 0 * 65536) sm)) 1 (nsg (mnr q 1 0 * 65536) sm)) 2 (nsg (mnr q 2 0 * 65536) sm)) 3 (nsg (mnr q 0 1 * 65536) sm)) 4 (nsg (mnr q 1 1 * 65536) sm)) 5 (nsg (mnr q 2 1 * 65536) sm)) 6 (nsg (mnr q 0 2 * 65536) sm)) 7 v (nsg (mnr q 1 2 * 65536) sm)))
  go_simp
  refine hK.out _ _ ?_ (fun hHeld2 => ?_)
  · (try dsimp only); exact ⟨_, hM2.out⟩
  clear hK K; (try ((try simp only [List.getElem_toArray, List.getElem_cons_succ, List.getElem_cons_zero]); simp only [Act.put, List.setIfInBounds_toArray, List.set_cons_zero, List.set_cons_succ]))
  refine wpAnyH_done (by kernel_rfl) ?_ _
  refine NoPanic.normal ?_
  have S := hM2
  clear hM2 hHeld2 hM tc tf z1 mb hwr
  go_wp2_with fail
  obtain ⟨U7, hU7⟩ : ∃ U, U = w'.setCell ⟨w3.heap.size, 7, none⟩ (.int .i64 (nsg (mnr q 1 2 * 65536) sm)) := ⟨_, rfl⟩
  rw [← hU7]
  rw [← hU7] at S
  clear hU7
  rw [rounds_succ]
  have mb := mnr_b2 HQB.out 2 2
  have hwr : IntKind.i64.wrap (mnr q 2 2 * 65536) = mnr q 2 2 * 65536 := wrap_ok (by omega) (by omega)
  go_wp2_with fail
  refine wp_region_noPanic ?_
  refine wp_region_held_drew (S := (fun w' => ∃ v, MS w w' (w.heap.size + 1) 0 w1.heap.size w3.heap.size q q (updI (updI (updI (updI (updI (updI (updI (updI (updI (fun _ => 0) 0 (nsg (mnr q 0 0 * 65536) sm)) 1 (nsg (mnr q 1 0 * 65536) sm)) 2 (nsg (mnr q 2 0 * 65536) sm)) 3 (nsg (mnr q 0 1 * 65536) sm)) 4 (nsg (mnr q 1 1 * 65536) sm)) 5 (nsg (mnr q 2 1 * 65536) sm)) 6 (nsg (mnr q 0 2 * 65536) sm)) 7 (nsg (mnr q 1 2 * 65536) sm)) 8 v) 0)) (by kernel_rfl) ?_ (fun hHeld => ?_)
  · (try dsimp only); exact ⟨_, (MS.same S.out (updI_self (updI (updI (updI (updI (updI (updI (updI (updI (fun _ => 0) 0 (nsg (mnr q 0 0 * 65536) sm)) 1 (nsg (mnr q 1 0 * 65536) sm)) 2 (nsg (mnr q 2 0 * 65536) sm)) 3 (nsg (mnr q 0 1 * 65536) sm)) 4 (nsg (mnr q 1 1 * 65536) sm)) 5 (nsg (mnr q 2 1 * 65536) sm)) 6 (nsg (mnr q 0 2 * 65536) sm)) 7 (nsg (mnr q 1 2 * 65536) sm)) 8).symm).bel (Below.refl _ _).drew⟩
  change wpAnyH _ _ _ _ _ 12 _ _ _
  (refine wpAnyH_take (i := 0) (v := ?_) rfl (by kernel_rfl) (by kernel_rfl) (by kernel_rfl) (fun _ _ _ h => h) (Or.inl ⟨by rfl, ?_⟩) (by assumption) ?_; rotate_left 1; (focus (intro w hSw; (try dsimp only at hSw); (try simp only [List.getElem_toArray, List.getElem_cons_zero]); go_simp; try with_reducible rfl)); ((try simp only [List.getElem_toArray, List.getElem_cons_zero]); simp only [Act.put, List.setIfInBounds_toArray, List.set_cons_zero, List.set_cons_succ]))
  (refine wpAnyH_take (i := 1) (v := ?_) rfl (by kernel_rfl) (by kernel_rfl) (by kernel_rfl) (fun _ _ _ h => h) (Or.inl ⟨by rfl, ?_⟩) (by assumption) ?_; rotate_left 1; (focus (intro w hSw; (try dsimp only at hSw); (try simp only [List.getElem_toArray, List.getElem_cons_succ, List.getElem_cons_zero]); go_simp; try with_reducible rfl)); ((try simp only [List.getElem_toArray, List.getElem_cons_succ, List.getElem_cons_zero]); simp only [Act.put, List.setIfInBounds_toArray, List.set_cons_zero, List.set_cons_succ]))
  (refine wpAnyH_take (i := 2) (v := ?_) rfl (by kernel_rfl) (by kernel_rfl) (by kernel_rfl) (fun _ _ _ h => h) (Or.inl ⟨by rfl, ?_⟩) (by assumption) ?_; rotate_left 1; (focus (intro w hSw; (try dsimp only at hSw); obtain ⟨v, hM⟩ := hSw; have y0 := hM.q9.c 0 rfl; have y1 := hM.q9.c 1 rfl; have y2 := hM.q9.c 2 rfl; have y3 := hM.q9.c 3 rfl; have y4 := hM.q9.c 4 rfl; have y5 := hM.q9.c 5 rfl; have y6 := hM.q9.c 6 rfl; have y7 := hM.q9.c 7 rfl; have y8 := hM.q9.c 8 rfl; have z0 := hM.q9.lt; have z1 := hM.f9.lt; (try simp only [List.getElem_toArray, List.getElem_cons_succ, List.getElem_cons_zero]); go_simp; try with_reducible rfl)); ((try simp only [List.getElem_toArray, List.getElem_cons_succ, List.getElem_cons_zero]); simp only [Act.put, List.setIfInBounds_toArray, List.set_cons_zero, List.set_cons_succ]))
  (refine wpAnyH_take (i := 3) (v := ?_) rfl (by kernel_rfl) (by kernel_rfl) (by kernel_rfl) (fun _ _ _ h => h) (Or.inl ⟨by rfl, ?_⟩) (by assumption) ?_; rotate_left 1; (focus (intro w hSw; (try dsimp only at hSw); (try simp only [List.getElem_toArray, List.getElem_cons_succ, List.getElem_cons_zero]); go_simp; try with_reducible rfl)); ((try simp only [List.getElem_toArray, List.getElem_cons_succ, List.getElem_cons_zero]); simp only [Act.put, List.setIfInBounds_toArray, List.set_cons_zero, List.set_cons_succ]))
  (refine wpAnyH_take (i := 4) (v := ?_) rfl (by kernel_rfl) (by kernel_rfl) (by kernel_rfl) (fun _ _ _ h => h) (Or.inl ⟨by rfl, ?_⟩) (by assumption) ?_; rotate_left 1; (focus (intro w hSw; (try dsimp only at hSw); (try simp only [List.getElem_toArray, List.getElem_cons_succ, List.getElem_cons_zero]); go_simp; try with_reducible rfl)); ((try simp only [List.getElem_toArray, List.getElem_cons_succ, List.getElem_cons_zero]); simp only [Act.put, List.setIfInBounds_toArray, List.set_cons_zero, List.set_cons_succ]))
  (refine wpAnyH_take (i := 7) (v := ?_) rfl (by kernel_rfl) (by kernel_rfl) (by kernel_rfl) (fun _ _ _ h => h) (Or.inl ⟨by rfl, ?_⟩) (by assumption) ?_; rotate_left 1; (focus (intro w hSw; (try dsimp only at hSw); (try simp only [List.getElem_toArray, List.getElem_cons_succ, List.getElem_cons_zero]); go_simp; try with_reducible rfl)); ((try simp only [List.getElem_toArray, List.getElem_cons_succ, List.getElem_cons_zero]); simp only [Act.put, List.setIfInBounds_toArray, List.set_cons_zero, List.set_cons_succ]))
  (refine wpAnyH_take (i := 9) (v := ?_) rfl (by kernel_rfl) (by kernel_rfl) (by kernel_rfl) (fun _ _ _ h => h) (Or.inl ⟨by rfl, ?_⟩) (by assumption) ?_; rotate_left 1; (focus (intro w hSw; (try dsimp only at hSw); obtain ⟨v, hM⟩ := hSw; have y0 := hM.q9.c 0 rfl; have y1 := hM.q9.c 1 rfl; have y2 := hM.q9.c 2 rfl; have y3 := hM.q9.c 3 rfl; have y4 := hM.q9.c 4 rfl; have y5 := hM.q9.c 5 rfl; have y6 := hM.q9.c 6 rfl; have y7 := hM.q9.c 7 rfl; have y8 := hM.q9.c 8 rfl; have z0 := hM.q9.lt; have z1 := hM.f9.lt; (try simp only [List.getElem_toArray, List.getElem_cons_succ, List.getElem_cons_zero]); go_simp; try with_reducible rfl)); ((try simp only [List.getElem_toArray, List.getElem_cons_succ, List.getElem_cons_zero]); simp only [Act.put, List.setIfInBounds_toArray, List.set_cons_zero, List.set_cons_succ]))
  (refine wpAnyH_ready (rs := [5]) (by kernel_rfl) (by simp) ?_; refine AllReadyH.cons rfl (fun K hK => ?_) AllReadyH.nil; go_simp; (go_at_call 97; refine (leftWithout_22 q _ HQB.out).mono ?_; rintro e w' ⟨rfl, hb⟩); (try go_simp); refine hK.out _ _ ?_ (fun hHeld => ?_); (focus ((try dsimp only); obtain ⟨v, hM⟩ := hHeld; exact ⟨v, hM.bel hb⟩)); clear hK K; (try ((try simp only [List.getElem_toArray, List.getElem_cons_succ, List.getElem_cons_zero]); simp only [Act.put, List.setIfInBounds_toArray, List.set_cons_zero, List.set_cons_succ])))
  (refine wpAnyH_take (i := 6) (v := ?_) rfl (by kernel_rfl) (by kernel_rfl) (by kernel_rfl) (fun _ _ _ h => h) (Or.inl ⟨by rfl, ?_⟩) (by assumption) ?_; rotate_left 1; (focus (intro w hSw; (try dsimp only at hSw); (try simp only [List.getElem_toArray, List.getElem_cons_succ, List.getElem_cons_zero]); go_simp; try with_reducible rfl)); ((try simp only [List.getElem_toArray, List.getElem_cons_succ, List.getElem_cons_zero]); simp only [Act.put, List.setIfInBounds_toArray, List.set_cons_zero, List.set_cons_succ]))
  (try rw [hwr])
  (refine wpAnyH_ready (rs := [8]) (by kernel_rfl) (by simp) ?_; refine AllReadyH.cons rfl (fun K hK => ?_) AllReadyH.nil; go_simp; (go_at_call 96; refine (nearestS_any (mnr q 2 2 * 65536) sm _ hz (by omega) (by omega) (by have := mnr_b2 HQB.out 2 2; omega) (by have := mnr_b2 HQB.out 2 2; omega)).mono ?_; rintro e w' ⟨rfl, hb⟩); (try go_simp); refine hK.out _ _ ?_ (fun hHeld => ?_); (focus ((try dsimp only); obtain ⟨v, hM⟩ := hHeld; exact ⟨v, hM.bel hb⟩)); clear hK K; (try ((try simp only [List.getElem_toArray, List.getElem_cons_succ, List.getElem_cons_zero]); simp only [Act.put, List.setIfInBounds_toArray, List.set_cons_zero, List.set_cons_succ])))
  (refine wpAnyH_take (i := 10) (v := ?_) rfl (by kernel_rfl) (by kernel_rfl) (by kernel_rfl) (fun _ _ _ h => h) (Or.inl ⟨by rfl, ?_⟩) (by assumption) ?_; rotate_left 1; (focus (intro w hSw; (try dsimp only at hSw); obtain ⟨v, hM⟩ := hSw; have y0 := hM.q9.c 0 rfl; have y1 := hM.q9.c 1 rfl; have y2 := hM.q9.c 2 rfl; have y3 := hM.q9.c 3 rfl; have y4 := hM.q9.c 4 rfl; have y5 := hM.q9.c 5 rfl; have y6 := hM.q9.c 6 rfl; have y7 := hM.q9.c 7 rfl; have y8 := hM.q9.c 8 rfl; have z0 := hM.q9.lt; have z1 := hM.f9.lt; (try simp only [List.getElem_toArray, List.getElem_cons_succ, List.getElem_cons_zero]); go_simp; try with_reducible rfl)); ((try simp only [List.getElem_toArray, List.getElem_cons_succ, List.getElem_cons_zero]); simp only [Act.put, List.setIfInBounds_toArray, List.set_cons_zero, List.set_cons_succ]))
  refine wpAnyH_ready (rs := [11]) (by kernel_rfl) (by simp) ?_
  refine AllReadyH.cons rfl (fun K hK => ?_) AllReadyH.nil
  (try dsimp only at hHeld)
  obtain ⟨v, hM⟩ := hHeld
  have tc := hM.f9.c 8 rfl
  have tf := hM.f9.f 8
  have z1 := hM.f9.lt
  have hM2 := Lib.hid (MS.same (hM.put (v := (nsg (mnr q 2 2 * 65536) sm)) rfl (by omega : 8 < 9) HN1.out HN2.out HN3.out) (updI_twice (updI (updI (updI (updI (updI (updI (updI (updI (fun _ => 0) 0 (nsg (mnr q 0 0 * 65536) sm)) 1 (nsg (mnr q 1 0 * 65536) sm)) 2 (nsg (mnr q 2 0 * 65536) sm)) 3 (nsg (mnr q 0 1 * 65536) sm)) 4 (nsg (mnr q 1 1 * 65536) sm)) 5 (nsg (mnr q 2 1 * 65536) sm)) 6 (nsg (mnr q 0 2 * 65536) sm)) 7 (nsg (mnr q 1 2 * 65536) sm)) 8 v (nsg (mnr q 2 2 * 65536) sm)))
  go_simp
  refine hK.out _ _ ?_ (fun hHeld2 => ?_)
  · (try dsimp only); exact ⟨_, hM2.out⟩
  clear hK K; (try ((try simp only [List.getElem_toArray, List.getElem_cons_succ, List.getElem_cons_zero]); simp only [Act.put, List.setIfInBounds_toArray, List.set_cons_zero, List.set_cons_succ]))
  refine wpAnyH_done (by kernel_rfl) ?_ _
  refine NoPanic.normal ?_
  have S := hM2
  clear hM2 hHeld2 hM tc tf z1 mb hwr
  go_wp2_with fail
  obtain ⟨U8, hU8⟩ : ∃ U, U = w'.setCell ⟨w3.heap.size, 8, none⟩ (.int .i64 (nsg (mnr q 2 2 * 65536) sm)) := ⟨_, rfl⟩
  rw [← hU8]
  rw [← hU8] at S
  clear hU8
  rw [rounds_succ]
  go_wp2_with fail
  have S3 := S
  clear S
  rw [rounds_succ]
  have g0 : U8.cell? ⟨w3.heap.size, 0, none⟩ = some (.int .i64 (nsg (mnr q 0 0 * 65536) sm)) := S3.out.f9.c 0 rfl
  have g1 : U8.cell? ⟨w3.heap.size, 1, none⟩ = some (.int .i64 (nsg (mnr q 1 0 * 65536) sm)) := S3.out.f9.c 1 rfl
  have g2 : U8.cell? ⟨w3.heap.size, 2, none⟩ = some (.int .i64 (nsg (mnr q 2 0 * 65536) sm)) := S3.out.f9.c 2 rfl
  have g3 : U8.cell? ⟨w3.heap.size, 3, none⟩ = some (.int .i64 (nsg (mnr q 0 1 * 65536) sm)) := S3.out.f9.c 3 rfl
  have g4 : U8.cell? ⟨w3.heap.size, 4, none⟩ = some (.int .i64 (nsg (mnr q 1 1 * 65536) sm)) := S3.out.f9.c 4 rfl
  have g5 : U8.cell? ⟨w3.heap.size, 5, none⟩ = some (.int .i64 (nsg (mnr q 2 1 * 65536) sm)) := S3.out.f9.c 5 rfl
  have g6 : U8.cell? ⟨w3.heap.size, 6, none⟩ = some (.int .i64 (nsg (mnr q 0 2 * 65536) sm)) := S3.out.f9.c 6 rfl
  have g7 : U8.cell? ⟨w3.heap.size, 7, none⟩ = some (.int .i64 (nsg (mnr q 1 2 * 65536) sm)) := S3.out.f9.c 7 rfl
  have g8 : U8.cell? ⟨w3.heap.size, 8, none⟩ = some (.int .i64 (nsg (mnr q 2 2 * 65536) sm)) := S3.out.f9.c 8 rfl
  have HIE : Hid (∀ t, t < 9 → invQ q t = nsg (mnr q (t % 3) (t / 3) * 65536) sm) := fun t ht => by unfold invQ; rw [← HSE.out]
  obtain ⟨iv, hiv⟩ : ∃ iv : Nat → Int, iv = fun t => nsg (mnr q (t % 3) (t / 3) * 65536) sm := ⟨_, rfl⟩
  have v0 : iv 0 = (nsg (mnr q 0 0 * 65536) sm) := by rw [hiv]
  rw [← v0] at g0
  have v1 : iv 1 = (nsg (mnr q 1 0 * 65536) sm) := by rw [hiv]
  rw [← v1] at g1
  have v2 : iv 2 = (nsg (mnr q 2 0 * 65536) sm) := by rw [hiv]
  rw [← v2] at g2
  have v3 : iv 3 = (nsg (mnr q 0 1 * 65536) sm) := by rw [hiv]
  rw [← v3] at g3
  have v4 : iv 4 = (nsg (mnr q 1 1 * 65536) sm) := by rw [hiv]
  rw [← v4] at g4
  have v5 : iv 5 = (nsg (mnr q 2 1 * 65536) sm) := by rw [hiv]
  rw [← v5] at g5
  have v6 : iv 6 = (nsg (mnr q 0 2 * 65536) sm) := by rw [hiv]
  rw [← v6] at g6
  have v7 : iv 7 = (nsg (mnr q 1 2 * 65536) sm) := by rw [hiv]
  rw [← v7] at g7
  have v8 : iv 8 = (nsg (mnr q 2 2 * 65536) sm) := by rw [hiv]
  rw [← v8] at g8
  have HIV := Lib.hid hiv
  clear hiv v0 v1 v2 v3 v4 v5 v6 v7 v8
  go_wp2_with fail
  refine (matrixAnswer_any iv _).mono ?_
  rintro e w9 ⟨G, n9, c9, rfl, ho, hb⟩
  have R := Lib.hid (S3.out.r.bel hb)
  have T := Lib.hid (blThen S3.out.b hb)
  have HO := Lib.hid ho
  have HLT := Lib.hid S3.out.r.lt
  have HSZ := Lib.hid S3.out.b.size
  clear ho hb g0 g1 g2 g3 g4 g5 g6 g7 g8
  have r0 := R.out.c 0 rfl
  have r1 := R.out.c 1 rfl
  have z0 := R.out.f 0
  have z1 := R.out.f 1
  have m1 := R.out.lt
  have k0 := ((R.out.set 0 (.int .i64 (maC iv))).set 1 (.slice G n9 c9)).c 0 rfl
  have k1 := ((R.out.set 0 (.int .i64 (maC iv))).set 1 (.slice G n9 c9)).c 1 rfl
  have HE : Hid (maC iv = maC (invQ (fl rs)) ∧ maR iv = maR (invQ (fl rs))) := ma_congr fun t ht => by
    rw [← inv_congr HQE.out t, HIE.out t ht, HIV.out]
  go_wp2_with fail
  refine bodyPost_ret (v := .agg #[.int .i64 (maC iv), .slice G n9 c9]) (by simp [results, Try.results35, go_sem, k0, k1]) rfl ⟨G, n9, c9, by rw [HA.out.1, ← HE.out.1], ?_, ?_⟩
  · rw [HA.out.2, ← HE.out.2]
    refine Own.mono (lo := U8.heap.size) (hi := w9.heap.size) ?_ (by have := HSZ.out; omega) (by simp only [setSize]; exact Nat.le_refl _)
    repeat (refine Own.set ?_ (.inl (HLT.out)) _ _)
    exact HO.out
  · repeat (refine Below.setCell ?_ (by simp; try omega) _)
    exact T.out
end Go.Proofs.Ytibclnkiahengaa
