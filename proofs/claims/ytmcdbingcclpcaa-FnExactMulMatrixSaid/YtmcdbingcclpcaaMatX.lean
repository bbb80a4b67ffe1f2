/-
  The product of two matrices: the program's columnOf, MulMatrix.
-/
import Derived.Test.YtmcdbingcclpcaaMatA
import Derived.Deep.RegionHeld3
namespace Go.Proofs.Ytmcdbingcclpcaa
open Go.RowKit
set_option linter.unusedVariables false
set_option linter.unusedSimpArgs false

set_option maxRecDepth 100000 in
set_option maxHeartbeats 2000000 in
theorem columnOf_0 (q : Nat → Int) (w : World) :
    Calls Try.prog 82 #[.agg #[.int .i64 (q 0), .int .i64 (q 1), .int .i64 (q 2), .int .i64 (q 3), .int .i64 (q 4), .int .i64 (q 5), .int .i64 (q 6), .int .i64 (q 7), .int .i64 (q 8)], .int .i64 0] w fun e w' => e = .returned (.agg #[.int .i64 (q 0), .int .i64 (q 3), .int .i64 (q 6)]) ∧ Below w.heap.size w w' := by
  have i0 := fun W => ix9_0 q W
  have i1 := fun W => ix9_1 q W
  have i2 := fun W => ix9_2 q W
  go_enter Try.func82, Try.ntmps82
  go_wp2_with fail
  refine wp_loop_rounds 4 ?_
  rw [rounds_succ]
  go_wp2_with fail
  rw [rounds_succ]
  go_wp2_with fail
  rw [rounds_succ]
  go_wp2_with fail
  rw [rounds_succ]
  go_wp2_with fail
  refine bodyPost_ret (v := .agg #[.int .i64 (q 0), .int .i64 (q 3), .int .i64 (q 6)]) (by simp [results, Try.results82, go_sem]) rfl ⟨rfl, ?_⟩
  repeat (first | with_reducible exact Below.refl _ _ | with_reducible refine Below.setCell ?_ (by simp) _ | with_reducible refine blThenAlloc ?_ _)
set_option maxRecDepth 100000 in
set_option maxHeartbeats 2000000 in
theorem columnOf_1 (q : Nat → Int) (w : World) :
    Calls Try.prog 82 #[.agg #[.int .i64 (q 0), .int .i64 (q 1), .int .i64 (q 2), .int .i64 (q 3), .int .i64 (q 4), .int .i64 (q 5), .int .i64 (q 6), .int .i64 (q 7), .int .i64 (q 8)], .int .i64 1] w fun e w' => e = .returned (.agg #[.int .i64 (q 1), .int .i64 (q 4), .int .i64 (q 7)]) ∧ Below w.heap.size w w' := by
  have i0 := fun W => ix9_0 q W
  have i1 := fun W => ix9_1 q W
  have i2 := fun W => ix9_2 q W
  go_enter Try.func82, Try.ntmps82
  go_wp2_with fail
  refine wp_loop_rounds 4 ?_
  rw [rounds_succ]
  go_wp2_with fail
  rw [rounds_succ]
  go_wp2_with fail
  rw [rounds_succ]
  go_wp2_with fail
  rw [rounds_succ]
  go_wp2_with fail
  refine bodyPost_ret (v := .agg #[.int .i64 (q 1), .int .i64 (q 4), .int .i64 (q 7)]) (by simp [results, Try.results82, go_sem]) rfl ⟨rfl, ?_⟩
  repeat (first | with_reducible exact Below.refl _ _ | with_reducible refine Below.setCell ?_ (by simp) _ | with_reducible refine blThenAlloc ?_ _)
set_option maxRecDepth 100000 in
set_option maxHeartbeats 2000000 in
theorem columnOf_2 (q : Nat → Int) (w : World) :
    Calls Try.prog 82 #[.agg #[.int .i64 (q 0), .int .i64 (q 1), .int .i64 (q 2), .int .i64 (q 3), .int .i64 (q 4), .int .i64 (q 5), .int .i64 (q 6), .int .i64 (q 7), .int .i64 (q 8)], .int .i64 2] w fun e w' => e = .returned (.agg #[.int .i64 (q 2), .int .i64 (q 5), .int .i64 (q 8)]) ∧ Below w.heap.size w w' := by
  have i0 := fun W => ix9_0 q W
  have i1 := fun W => ix9_1 q W
  have i2 := fun W => ix9_2 q W
  go_enter Try.func82, Try.ntmps82
  go_wp2_with fail
  refine wp_loop_rounds 4 ?_
  rw [rounds_succ]
  go_wp2_with fail
  rw [rounds_succ]
  go_wp2_with fail
  rw [rounds_succ]
  go_wp2_with fail
  rw [rounds_succ]
  go_wp2_with fail
  refine bodyPost_ret (v := .agg #[.int .i64 (q 2), .int .i64 (q 5), .int .i64 (q 8)]) (by simp [results, Try.results82, go_sem]) rfl ⟨rfl, ?_⟩
  repeat (first | with_reducible exact Below.refl _ _ | with_reducible refine Below.setCell ?_ (by simp) _ | with_reducible refine blThenAlloc ?_ _)
theorem ma_congr {q q' : Nat → Int} (h : ∀ t, t < 9 → q t = q' t) : maC q = maC q' ∧ maR q = maR q' := by
  have e : all9 q = all9 q' := by
    rcases Bool.eq_false_or_eq_true (all9 q) with a | a
    · rw [a]; exact (all9_iff.2 fun t ht => by rw [← h t ht]; exact all9_iff.1 a t ht).symm
    · rcases Bool.eq_false_or_eq_true (all9 q') with b | b
      · have : all9 q = true := all9_iff.2 fun t ht => by rw [h t ht]; exact all9_iff.1 b t ht
        rw [this] at a; cases a
      · rw [a, b]
  refine ⟨by unfold maC; rw [e], ?_⟩
  unfold maR
  rw [e, h 0 (by omega), h 1 (by omega), h 2 (by omega), h 3 (by omega), h 4 (by omega), h 5 (by omega), h 6 (by omega), h 7 (by omega), h 8 (by omega)]
def mulS (p q : Nat → Int) (t : Nat) : Int := p (3 * (t / 3)) * q (t % 3) + p (3 * (t / 3) + 1) * q (3 + t % 3) + p (3 * (t / 3) + 2) * q (6 + t % 3)
def mulQ (p q : Nat → Int) (t : Nat) : Int := rnd (mulS p q t) 65536
theorem mq_bd {p q : Nat → Int} (hp : Q9 p) (hq : Q9 q) {s t : Nat} (hs : s < 9) (ht : t < 9) : -100000000000 ≤ p s * q t ∧ p s * q t ≤ 100000000000 := by
  have := mulbd (a := p s) (b := q t) 262144 262144 (hp s hs) (hq t ht)
  omega
/-- what is known of the memory while the product is being made: the result's box, the two matrices, the product. -/
structure MS (w W : World) (rb lb qb pb : Nat) (p q f : Nat → Int) (lo : Nat) : Prop where
  r : Bx W rb [.int .i64 0, .slice none 0 0]
  q9 : Bx W qb [.int .i64 (q 0), .int .i64 (q 1), .int .i64 (q 2), .int .i64 (q 3), .int .i64 (q 4), .int .i64 (q 5), .int .i64 (q 6), .int .i64 (q 7), .int .i64 (q 8)]
  f9 : Bx W pb [.int .i64 (f 0), .int .i64 (f 1), .int .i64 (f 2), .int .i64 (f 3), .int .i64 (f 4), .int .i64 (f 5), .int .i64 (f 6), .int .i64 (f 7), .int .i64 (f 8)]
  b : Below w.heap.size w W
theorem MS.bel {w W W' : World} {rb lb qb pb lo : Nat} {p q f : Nat → Int} (h : MS w W rb lb qb pb p q f lo) (hb : Below W.heap.size W W') : MS w W' rb lb qb pb p q f lo := ⟨h.r.bel hb, h.q9.bel hb, h.f9.bel hb, blThen h.b hb⟩
theorem MS.same {w W : World} {rb lb qb pb lo : Nat} {p q f g : Nat → Int} (h : MS w W rb lb qb pb p q f lo) (e : f = g) : MS w W rb lb qb pb p q g lo := e ▸ h
def updI (f : Nat → Int) (t : Nat) (v : Int) : Nat → Int := fun s => if s = t then v else f s
theorem updI_self (f : Nat → Int) (t : Nat) : updI f t (f t) = f := by funext s; unfold updI; split <;> simp_all
theorem updI_twice (f : Nat → Int) (t : Nat) (v x : Int) : updI (updI f t v) t x = updI f t x := by funext s; unfold updI; split <;> rfl
theorem MS.put {w W W' : World} {rb lb qb pb lo t : Nat} {p q f : Nat → Int} {v : Int} (h : MS w W rb lb qb pb p q f lo) (e : W' = W.setCell ⟨pb, t, none⟩ (.int .i64 v)) (ht : t < 9) (h1 : pb ≠ rb) (h2 : pb ≠ qb) (h3 : w.heap.size ≤ pb) : MS w W' rb lb qb pb p q (updI f t v) lo := by
  refine ⟨h.r.othE e h1, h.q9.othE e h2, ?_, by rw [e]; exact h.b.setCell h3 _⟩
  have := h.f9.setE e
  match t, ht with
  | 0, _ => exact this
  | 1, _ => exact this
  | 2, _ => exact this
  | 3, _ => exact this
  | 4, _ => exact this
  | 5, _ => exact this
  | 6, _ => exact this
  | 7, _ => exact this
  | 8, _ => exact this
set_option maxRecDepth 100000 in
set_option maxHeartbeats 8000000 in
theorem MulMatrix_ok (A A' : Option Addr) (n n' c c' : Nat) (rs us : Rws) (bs bs' : List Nat) (w : World) (h : Hd w (rowsD rs) (.slice A n c) bs) (h' : Hd w (rowsD us) (.slice A' n' c') bs') (h0 : mf rs = 0) (h1 : mf us = 0) :
    Calls Try.prog 16 #[.agg #[.slice A n c], .agg #[.slice A' n' c']] w (MAns w (maC (mulQ (fl rs) (fl us))) (maR (mulQ (fl rs) (fl us)))) := by
  have H := Lib.hid h
  have H' := Lib.hid h'
  clear h h'
  go_enter Try.func16, Try.ntmps16
  go_wp2_with fail
  refine (cellsOf_any _ _ _ rs _ _ (((H.out.alloc _).alloc _).alloc _)).mono ?_
  rintro e w1 ⟨p, rfl, hp, hb⟩
  rw [h0]
  have HP := Lib.hid (hp h0)
  have R1 := Lib.hid ((Bx.new ((w.alloc (.cells #[.slice A n c] 26)).alloc (.cells #[.slice A' n' c'] 26)) #[.int .i64 0, .slice none 0 0] 36 (b := w.heap.size + 1 + 1) (by simp)).bel hb)
  have M1 := Lib.hid (((Bx.new (w.alloc (.cells #[.slice A n c] 26)) #[.slice A' n' c'] 26 (b := w.heap.size + 1) (by simp)).alloc (.cells #[.int .i64 0, .slice none 0 0] 36)).bel hb)
  have T1 := Lib.hid (blThen (blThenAlloc (blThenAlloc (blAlloc w _) _) _) hb)
  clear hb hp
  have y0 := M1.out.c 0 rfl
  have y1 := M1.out.lt
  have y2 := R1.out.lt
  go_wp2_with fail
  refine (cellsOf_any _ _ _ us _ _ ((H'.out.bel T1.out).alloc _)).mono ?_
  rintro e w2 ⟨q, rfl, hq, hb⟩
  rw [h1]
  have HQ := Lib.hid (hq h1)
  have R2 := Lib.hid ((R1.out.alloc (.cells #[.int .i64 (p 0), .int .i64 (p 1), .int .i64 (p 2), .int .i64 (p 3), .int .i64 (p 4), .int .i64 (p 5), .int .i64 (p 6), .int .i64 (p 7), .int .i64 (p 8)] 108)).bel hb)
  have P2 := Lib.hid ((Bx.new w1 #[.int .i64 (p 0), .int .i64 (p 1), .int .i64 (p 2), .int .i64 (p 3), .int .i64 (p 4), .int .i64 (p 5), .int .i64 (p 6), .int .i64 (p 7), .int .i64 (p 8)] 108 rfl).bel hb)
  have T2 := Lib.hid (blThen (blThenAlloc T1.out _) hb)
  clear hb hq y0 y1 y2 R1 M1 T1
  have c0 := P2.out.c 0 rfl
  have c1 := P2.out.c 1 rfl
  have c2 := P2.out.c 2 rfl
  have c3 := P2.out.c 3 rfl
  have c4 := P2.out.c 4 rfl
  have c5 := P2.out.c 5 rfl
  have c6 := P2.out.c 6 rfl
  have c7 := P2.out.c 7 rfl
  have c8 := P2.out.c 8 rfl
  have y1 := P2.out.lt
  obtain ⟨W0, hW0⟩ : ∃ W0, W0 = (w2.alloc (.cells #[.int .i64 (q 0), .int .i64 (q 1), .int .i64 (q 2), .int .i64 (q 3), .int .i64 (q 4), .int .i64 (q 5), .int .i64 (q 6), .int .i64 (q 7), .int .i64 (q 8)] 108)).alloc (.cells #[.int .i64 0, .int .i64 0, .int .i64 0, .int .i64 0, .int .i64 0, .int .i64 0, .int .i64 0, .int .i64 0, .int .i64 0] 108) := ⟨_, rfl⟩
  have S0 : Hid (MS w W0 (w.heap.size + 1 + 1) 0 w2.heap.size (w2.heap.size + 1) p q (fun _ => 0) 0) := by
    show MS _ _ _ _ _ _ _ _ _ _
    rw [hW0]
    exact ⟨(R2.out.alloc _).alloc _, (Bx.new _ _ _ rfl).alloc _, Bx.new _ _ _ (by simp), blThenAlloc (blThenAlloc T2.out _) _⟩
  have HPB : Hid (Q9 p) := fun t ht => by rw [HP.out t ht]; exact fl_Q9 h0 t ht
  have HQB : Hid (Q9 q) := fun t ht => by rw [HQ.out t ht]; exact fl_Q9 h1 t ht
  have HW := Lib.hid hW0
  have HN1 : Hid (w2.heap.size + 1 ≠ w.heap.size + 1 + 1) := by show _ ≠ _; have := R2.out.lt; omega
  have HN3 : Hid (w.heap.size ≤ w2.heap.size + 1) := by show _ ≤ _; have := T2.out.size; omega
  clear hW0 R2
  go_wp2_with fail
  rw [← HW.out]
  clear c0 c1 c2 c3 c4 c5 c6 c7 c8 y1
  refine wp_loop_rounds 4 ?_
  rw [rounds_succ]
  have ii := fun W => ix9_0 p W
  have z1 := S0.out.f9.lt
  go_wp2_with fail
  clear ii z1
  obtain ⟨V0, hV0⟩ : ∃ V, V = W0.alloc (.cells #[.int .i64 (p 0), .int .i64 (p 1), .int .i64 (p 2)] 106) := ⟨_, rfl⟩
  have B : Hid (Bx V0 W0.heap.size [.int .i64 (p 0), .int .i64 (p 1), .int .i64 (p 2)]) := by show Bx _ _ _; rw [hV0]; exact Bx.new _ _ _ rfl
  have S : Hid (MS w V0 (w.heap.size + 1 + 1) 0 w2.heap.size (w2.heap.size + 1) p q (fun _ => 0) 0) := by show MS _ _ _ _ _ _ _ _ _ _; rw [hV0]; exact S0.out.bel (blAlloc _ _)
  have HRB0 : Hid (w2.heap.size + 1 < W0.heap.size) := S0.out.f9.lt
  rw [← hV0]
  clear hV0 S0
  refine wp_loop_rounds 4 ?_
  rw [rounds_succ]
  go_wp2_with fail
  refine wp_region_noPanic ?_
  refine wp_region_held_drew (S := (fun w' => ∃ v, MS w w' (w.heap.size + 1 + 1) 0 w2.heap.size (w2.heap.size + 1) p q (updI (fun _ => 0) 0 v) 0 ∧ Bx w' (W0.heap.size) [.int .i64 (p 0), .int .i64 (p 1), .int .i64 (p 2)])) (by kernel_rfl) ?_ (fun hHeld => ?_)
  · (try dsimp only); exact ⟨_, (MS.same S.out (updI_self (fun _ => 0) 0).symm).bel (Below.refl _ _).drew, B.out.bel (Below.refl _ _).drew⟩
  change wpAnyH _ _ _ _ _ 10 _ _ _
  (refine wpAnyH_take (i := 0) (v := ?_) rfl (by kernel_rfl) (by kernel_rfl) (by kernel_rfl) (fun _ _ _ h => h) (Or.inl ⟨by rfl, ?_⟩) (by assumption) ?_; rotate_left 1; (focus (intro w hSw; (try dsimp only at hSw); (try simp only [List.getElem_toArray, List.getElem_cons_zero]); go_simp; try with_reducible rfl)); ((try simp only [List.getElem_toArray, List.getElem_cons_zero]); simp only [Act.put, List.setIfInBounds_toArray, List.set_cons_zero, List.set_cons_succ]))
  (refine wpAnyH_take (i := 1) (v := ?_) rfl (by kernel_rfl) (by kernel_rfl) (by kernel_rfl) (fun _ _ _ h => h) (Or.inl ⟨by rfl, ?_⟩) (by assumption) ?_; rotate_left 1; (focus (intro w hSw; (try dsimp only at hSw); (try simp only [List.getElem_toArray, List.getElem_cons_succ, List.getElem_cons_zero]); go_simp; try with_reducible rfl)); ((try simp only [List.getElem_toArray, List.getElem_cons_succ, List.getElem_cons_zero]); simp only [Act.put, List.setIfInBounds_toArray, List.set_cons_zero, List.set_cons_succ]))
  (refine wpAnyH_take (i := 2) (v := ?_) rfl (by kernel_rfl) (by kernel_rfl) (by kernel_rfl) (fun _ _ _ h => h) (Or.inl ⟨by rfl, ?_⟩) (by assumption) ?_; rotate_left 1; (focus (intro w hSw; (try dsimp only at hSw); obtain ⟨v, hM, hB⟩ := hSw; have x0 := hB.c 0 rfl; have x1 := hB.c 1 rfl; have x2 := hB.c 2 rfl; have y0 := hM.q9.c 0 rfl; have y1 := hM.q9.c 1 rfl; have y2 := hM.q9.c 2 rfl; have y3 := hM.q9.c 3 rfl; have y4 := hM.q9.c 4 rfl; have y5 := hM.q9.c 5 rfl; have y6 := hM.q9.c 6 rfl; have y7 := hM.q9.c 7 rfl; have y8 := hM.q9.c 8 rfl; have z0 := hM.q9.lt; have z1 := hM.f9.lt; have z2 := hB.lt; (try simp only [List.getElem_toArray, List.getElem_cons_succ, List.getElem_cons_zero]); go_simp; try with_reducible rfl)); ((try simp only [List.getElem_toArray, List.getElem_cons_succ, List.getElem_cons_zero]); simp only [Act.put, List.setIfInBounds_toArray, List.set_cons_zero, List.set_cons_succ]))
  (refine wpAnyH_take (i := 3) (v := ?_) rfl (by kernel_rfl) (by kernel_rfl) (by kernel_rfl) (fun _ _ _ h => h) (Or.inl ⟨by rfl, ?_⟩) (by assumption) ?_; rotate_left 1; (focus (intro w hSw; (try dsimp only at hSw); obtain ⟨v, hM, hB⟩ := hSw; have x0 := hB.c 0 rfl; have x1 := hB.c 1 rfl; have x2 := hB.c 2 rfl; have y0 := hM.q9.c 0 rfl; have y1 := hM.q9.c 1 rfl; have y2 := hM.q9.c 2 rfl; have y3 := hM.q9.c 3 rfl; have y4 := hM.q9.c 4 rfl; have y5 := hM.q9.c 5 rfl; have y6 := hM.q9.c 6 rfl; have y7 := hM.q9.c 7 rfl; have y8 := hM.q9.c 8 rfl; have z0 := hM.q9.lt; have z1 := hM.f9.lt; have z2 := hB.lt; (try simp only [List.getElem_toArray, List.getElem_cons_succ, List.getElem_cons_zero]); go_simp; try with_reducible rfl)); ((try simp only [List.getElem_toArray, List.getElem_cons_succ, List.getElem_cons_zero]); simp only [Act.put, List.setIfInBounds_toArray, List.set_cons_zero, List.set_cons_succ]))
  (refine wpAnyH_take (i := 4) (v := ?_) rfl (by kernel_rfl) (by kernel_rfl) (by kernel_rfl) (fun _ _ _ h => h) (Or.inl ⟨by rfl, ?_⟩) (by assumption) ?_; rotate_left 1; (focus (intro w hSw; (try dsimp only at hSw); (try simp only [List.getElem_toArray, List.getElem_cons_succ, List.getElem_cons_zero]); go_simp; try with_reducible rfl)); ((try simp only [List.getElem_toArray, List.getElem_cons_succ, List.getElem_cons_zero]); simp only [Act.put, List.setIfInBounds_toArray, List.set_cons_zero, List.set_cons_succ]))
  (refine wpAnyH_take (i := 7) (v := ?_) rfl (by kernel_rfl) (by kernel_rfl) (by kernel_rfl) (fun _ _ _ h => h) (Or.inl ⟨by rfl, ?_⟩) (by assumption) ?_; rotate_left 1; (focus (intro w hSw; (try dsimp only at hSw); obtain ⟨v, hM, hB⟩ := hSw; have x0 := hB.c 0 rfl; have x1 := hB.c 1 rfl; have x2 := hB.c 2 rfl; have y0 := hM.q9.c 0 rfl; have y1 := hM.q9.c 1 rfl; have y2 := hM.q9.c 2 rfl; have y3 := hM.q9.c 3 rfl; have y4 := hM.q9.c 4 rfl; have y5 := hM.q9.c 5 rfl; have y6 := hM.q9.c 6 rfl; have y7 := hM.q9.c 7 rfl; have y8 := hM.q9.c 8 rfl; have z0 := hM.q9.lt; have z1 := hM.f9.lt; have z2 := hB.lt; (try simp only [List.getElem_toArray, List.getElem_cons_succ, List.getElem_cons_zero]); go_simp; try with_reducible rfl)); ((try simp only [List.getElem_toArray, List.getElem_cons_succ, List.getElem_cons_zero]); simp only [Act.put, List.setIfInBounds_toArray, List.set_cons_zero, List.set_cons_succ]))
  (refine wpAnyH_ready (rs := [5]) (by kernel_rfl) (by simp) ?_; refine AllReadyH.cons rfl (fun K hK => ?_) AllReadyH.nil; go_simp; (go_at_call 82; refine (columnOf_0 q _).mono ?_; rintro e w' ⟨rfl, hb⟩); (try go_simp); refine hK.out _ _ ?_ (fun hHeld => ?_); (focus ((try dsimp only); obtain ⟨v, hM, hB⟩ := hHeld; exact ⟨v, hM.bel hb, hB.bel hb⟩)); clear hK K; (try ((try simp only [List.getElem_toArray, List.getElem_cons_succ, List.getElem_cons_zero]); simp only [Act.put, List.setIfInBounds_toArray, List.set_cons_zero, List.set_cons_succ])))
  (refine wpAnyH_ready (rs := [6]) (by kernel_rfl) (by simp) ?_; refine AllReadyH.cons rfl (fun K hK => ?_) AllReadyH.nil; go_simp; (go_at_call 81; refine (mixed_any _ _ _ _ _ _ _ (mq_bd HPB.out HQB.out (by omega) (by omega)) (mq_bd HPB.out HQB.out (by omega) (by omega)) (mq_bd HPB.out HQB.out (by omega) (by omega))).mono ?_; rintro e w' ⟨rfl, hb⟩); (try go_simp); refine hK.out _ _ ?_ (fun hHeld => ?_); (focus ((try dsimp only); obtain ⟨v, hM, hB⟩ := hHeld; exact ⟨v, hM.bel hb, hB.bel hb⟩)); clear hK K; (try ((try simp only [List.getElem_toArray, List.getElem_cons_succ, List.getElem_cons_zero]); simp only [Act.put, List.setIfInBounds_toArray, List.set_cons_zero, List.set_cons_succ])))
  (refine wpAnyH_take (i := 8) (v := ?_) rfl (by kernel_rfl) (by kernel_rfl) (by kernel_rfl) (fun _ _ _ h => h) (Or.inl ⟨by rfl, ?_⟩) (by assumption) ?_; rotate_left 1; (focus (intro w hSw; (try dsimp only at hSw); obtain ⟨v, hM, hB⟩ := hSw; have x0 := hB.c 0 rfl; have x1 := hB.c 1 rfl; have x2 := hB.c 2 rfl; have y0 := hM.q9.c 0 rfl; have y1 := hM.q9.c 1 rfl; have y2 := hM.q9.c 2 rfl; have y3 := hM.q9.c 3 rfl; have y4 := hM.q9.c 4 rfl; have y5 := hM.q9.c 5 rfl; have y6 := hM.q9.c 6 rfl; have y7 := hM.q9.c 7 rfl; have y8 := hM.q9.c 8 rfl; have z0 := hM.q9.lt; have z1 := hM.f9.lt; have z2 := hB.lt; (try simp only [List.getElem_toArray, List.getElem_cons_succ, List.getElem_cons_zero]); go_simp; try with_reducible rfl)); ((try simp only [List.getElem_toArray, List.getElem_cons_succ, List.getElem_cons_zero]); simp only [Act.put, List.setIfInBounds_toArray, List.set_cons_zero, List.set_cons_succ]))
  refine wpAnyH_ready (rs := [9]) (by kernel_rfl) (by simp) ?_
  refine AllReadyH.cons rfl (fun K hK => ?_) AllReadyH.nil
  (try dsimp only at hHeld)
  obtain ⟨v, hM, hB⟩ := hHeld
  have tc := hM.f9.c 0 rfl
  have tf := hM.f9.f 0
  have z1 := hM.f9.lt
  have hM2 := Lib.hid (MS.same (hM.put (v := (rnd (p 0 * q 0 + p 1 * q 3 + p 2 * q 6) 65536)) rfl (by omega : 0 < 9) HN1.out (by omega) HN3.out) (updI_twice (fun _ => 0) 0 v (rnd (p 0 * q 0 + p 1 * q 3 + p 2 * q 6) 65536)))
  have hB2 := Lib.hid (hB.oth (c := w2.heap.size + 1) (by have := HRB0.out; omega) 0 (.int .i64 (rnd (p 0 * q 0 + p 1 * q 3 + p 2 * q 6) 65536)))
  go_simp
  refine hK.out _ _ ?_ (fun hHeld2 => ?_)
  · (try dsimp only); exact ⟨_, hM2.out, hB2.out⟩
  clear hK K; (try ((try simp only [List.getElem_toArray, List.getElem_cons_succ, List.getElem_cons_zero]); simp only [Act.put, List.setIfInBounds_toArray, List.set_cons_zero, List.set_cons_succ]))
  refine wpAnyH_done (by kernel_rfl) ?_ _
  refine NoPanic.normal ?_
  have S := hM2
  have B := hB2
  clear hM2 hB2 hHeld2 hM hB tc tf z1
  go_wp2_with fail
  obtain ⟨U0, hU0⟩ : ∃ U, U = w'.setCell ⟨w2.heap.size + 1, 0, none⟩ (.int .i64 (rnd (p 0 * q 0 + p 1 * q 3 + p 2 * q 6) 65536)) := ⟨_, rfl⟩
  rw [← hU0]
  rw [← hU0] at S B
  clear hU0
  rw [rounds_succ]
  go_wp2_with fail
  refine wp_region_noPanic ?_
  refine wp_region_held_drew (S := (fun w' => ∃ v, MS w w' (w.heap.size + 1 + 1) 0 w2.heap.size (w2.heap.size + 1) p q (updI (updI (fun _ => 0) 0 (rnd (p 0 * q 0 + p 1 * q 3 + p 2 * q 6) 65536)) 1 v) 0 ∧ Bx w' (W0.heap.size) [.int .i64 (p 0), .int .i64 (p 1), .int .i64 (p 2)])) (by kernel_rfl) ?_ (fun hHeld => ?_)
  · (try dsimp only); exact ⟨_, (MS.same S.out (updI_self (updI (fun _ => 0) 0 (rnd (p 0 * q 0 + p 1 * q 3 + p 2 * q 6) 65536)) 1).symm).bel (Below.refl _ _).drew, B.out.bel (Below.refl _ _).drew⟩
  change wpAnyH _ _ _ _ _ 10 _ _ _
  (refine wpAnyH_take (i := 0) (v := ?_) rfl (by kernel_rfl) (by kernel_rfl) (by kernel_rfl) (fun _ _ _ h => h) (Or.inl ⟨by rfl, ?_⟩) (by assumption) ?_; rotate_left 1; (focus (intro w hSw; (try dsimp only at hSw); (try simp only [List.getElem_toArray, List.getElem_cons_zero]); go_simp; try with_reducible rfl)); ((try simp only [List.getElem_toArray, List.getElem_cons_zero]); simp only [Act.put, List.setIfInBounds_toArray, List.set_cons_zero, List.set_cons_succ]))
  (refine wpAnyH_take (i := 1) (v := ?_) rfl (by kernel_rfl) (by kernel_rfl) (by kernel_rfl) (fun _ _ _ h => h) (Or.inl ⟨by rfl, ?_⟩) (by assumption) ?_; rotate_left 1; (focus (intro w hSw; (try dsimp only at hSw); (try simp only [List.getElem_toArray, List.getElem_cons_succ, List.getElem_cons_zero]); go_simp; try with_reducible rfl)); ((try simp only [List.getElem_toArray, List.getElem_cons_succ, List.getElem_cons_zero]); simp only [Act.put, List.setIfInBounds_toArray, List.set_cons_zero, List.set_cons_succ]))
  (refine wpAnyH_take (i := 2) (v := ?_) rfl (by kernel_rfl) (by kernel_rfl) (by kernel_rfl) (fun _ _ _ h => h) (Or.inl ⟨by rfl, ?_⟩) (by assumption) ?_; rotate_left 1; (focus (intro w hSw; (try dsimp only at hSw); obtain ⟨v, hM, hB⟩ := hSw; have x0 := hB.c 0 rfl; have x1 := hB.c 1 rfl; have x2 := hB.c 2 rfl; have y0 := hM.q9.c 0 rfl; have y1 := hM.q9.c 1 rfl; have y2 := hM.q9.c 2 rfl; have y3 := hM.q9.c 3 rfl; have y4 := hM.q9.c 4 rfl; have y5 := hM.q9.c 5 rfl; have y6 := hM.q9.c 6 rfl; have y7 := hM.q9.c 7 rfl; have y8 := hM.q9.c 8 rfl; have z0 := hM.q9.lt; have z1 := hM.f9.lt; have z2 := hB.lt; (try simp only [List.getElem_toArray, List.getElem_cons_succ, List.getElem_cons_zero]); go_simp; try with_reducible rfl)); ((try simp only [List.getElem_toArray, List.getElem_cons_succ, List.getElem_cons_zero]); simp only [Act.put, List.setIfInBounds_toArray, List.set_cons_zero, List.set_cons_succ]))
  (refine wpAnyH_take (i := 3) (v := ?_) rfl (by kernel_rfl) (by kernel_rfl) (by kernel_rfl) (fun _ _ _ h => h) (Or.inl ⟨by rfl, ?_⟩) (by assumption) ?_; rotate_left 1; (focus (intro w hSw; (try dsimp only at hSw); obtain ⟨v, hM, hB⟩ := hSw; have x0 := hB.c 0 rfl; have x1 := hB.c 1 rfl; have x2 := hB.c 2 rfl; have y0 := hM.q9.c 0 rfl; have y1 := hM.q9.c 1 rfl; have y2 := hM.q9.c 2 rfl; have y3 := hM.q9.c 3 rfl; have y4 := hM.q9.c 4 rfl; have y5 := hM.q9.c 5 rfl; have y6 := hM.q9.c 6 rfl; have y7 := hM.q9.c 7 rfl; have y8 := hM.q9.c 8 rfl; have z0 := hM.q9.lt; have z1 := hM.f9.lt; have z2 := hB.lt; (try simp only [List.getElem_toArray, List.getElem_cons_succ, List.getElem_cons_zero]); go_simp; try with_reducible rfl)); ((try simp only [List.getElem_toArray, List.getElem_cons_succ, List.getElem_cons_zero]); simp only [Act.put, List.setIfInBounds_toArray, List.set_cons_zero, List.set_cons_succ]))
  (refine wpAnyH_take (i := 4) (v := ?_) rfl (by kernel_rfl) (by kernel_rfl) (by kernel_rfl) (fun _ _ _ h => h) (Or.inl ⟨by rfl, ?_⟩) (by assumption) ?_; rotate_left 1; (focus (intro w hSw; (try dsimp only at hSw); (try simp only [List.getElem_toArray, List.getElem_cons_succ, List.getElem_cons_zero]); go_simp; try with_reducible rfl)); ((try simp only [List.getElem_toArray, List.getElem_cons_succ, List.getElem_cons_zero]); simp only [Act.put, List.setIfInBounds_toArray, List.set_cons_zero, List.set_cons_succ]))
  (refine wpAnyH_take (i := 7) (v := ?_) rfl (by kernel_rfl) (by kernel_rfl) (by kernel_rfl) (fun _ _ _ h => h) (Or.inl ⟨by rfl, ?_⟩) (by assumption) ?_; rotate_left 1; (focus (intro w hSw; (try dsimp only at hSw); obtain ⟨v, hM, hB⟩ := hSw; have x0 := hB.c 0 rfl; have x1 := hB.c 1 rfl; have x2 := hB.c 2 rfl; have y0 := hM.q9.c 0 rfl; have y1 := hM.q9.c 1 rfl; have y2 := hM.q9.c 2 rfl; have y3 := hM.q9.c 3 rfl; have y4 := hM.q9.c 4 rfl; have y5 := hM.q9.c 5 rfl; have y6 := hM.q9.c 6 rfl; have y7 := hM.q9.c 7 rfl; have y8 := hM.q9.c 8 rfl; have z0 := hM.q9.lt; have z1 := hM.f9.lt; have z2 := hB.lt; (try simp only [List.getElem_toArray, List.getElem_cons_succ, List.getElem_cons_zero]); go_simp; try with_reducible rfl)); ((try simp only [List.getElem_toArray, List.getElem_cons_succ, List.getElem_cons_zero]); simp only [Act.put, List.setIfInBounds_toArray, List.set_cons_zero, List.set_cons_succ]))
  (refine wpAnyH_ready (rs := [5]) (by kernel_rfl) (by simp) ?_; refine AllReadyH.cons rfl (fun K hK => ?_) AllReadyH.nil; go_simp; (go_at_call 82; refine (columnOf_1 q _).mono ?_; rintro e w' ⟨rfl, hb⟩); (try go_simp); refine hK.out _ _ ?_ (fun hHeld => ?_); (focus ((try dsimp only); obtain ⟨v, hM, hB⟩ := hHeld; exact ⟨v, hM.bel hb, hB.bel hb⟩)); clear hK K; (try ((try simp only [List.getElem_toArray, List.getElem_cons_succ, List.getElem_cons_zero]); simp only [Act.put, List.setIfInBounds_toArray, List.set_cons_zero, List.set_cons_succ])))
  (refine wpAnyH_ready (rs := [6]) (by kernel_rfl) (by simp) ?_; refine AllReadyH.cons rfl (fun K hK => ?_) AllReadyH.nil; go_simp; (go_at_call 81; refine (mixed_any _ _ _ _ _ _ _ (mq_bd HPB.out HQB.out (by omega) (by omega)) (mq_bd HPB.out HQB.out (by omega) (by omega)) (mq_bd HPB.out HQB.out (by omega) (by omega))).mono ?_; rintro e w' ⟨rfl, hb⟩); (try go_simp); refine hK.out _ _ ?_ (fun hHeld => ?_); (focus ((try dsimp only); obtain ⟨v, hM, hB⟩ := hHeld; exact ⟨v, hM.bel hb, hB.bel hb⟩)); clear hK K; (try ((try simp only [List.getElem_toArray, List.getElem_cons_succ, List.getElem_cons_zero]); simp only [Act.put, List.setIfInBounds_toArray, List.set_cons_zero, List.set_cons_succ])))
  (refine wpAnyH_take (i := 8) (v := ?_) rfl (by kernel_rfl) (by kernel_rfl) (by kernel_rfl) (fun _ _ _ h => h) (Or.inl ⟨by rfl, ?_⟩) (by assumption) ?_; rotate_left 1; (focus (intro w hSw; (try dsimp only at hSw); obtain ⟨v, hM, hB⟩ := hSw; have x0 := hB.c 0 rfl; have x1 := hB.c 1 rfl; have x2 := hB.c 2 rfl; have y0 := hM.q9.c 0 rfl; have y1 := hM.q9.c 1 rfl; have y2 := hM.q9.c 2 rfl; have y3 := hM.q9.c 3 rfl; have y4 := hM.q9.c 4 rfl; have y5 := hM.q9.c 5 rfl; have y6 := hM.q9.c 6 rfl; have y7 := hM.q9.c 7 rfl; have y8 := hM.q9.c 8 rfl; have z0 := hM.q9.lt; have z1 := hM.f9.lt; have z2 := hB.lt; (try simp only [List.getElem_toArray, List.getElem_cons_succ, List.getElem_cons_zero]); go_simp; try with_reducible rfl)); ((try simp only [List.getElem_toArray, List.getElem_cons_succ, List.getElem_cons_zero]); simp only [Act.put, List.setIfInBounds_toArray, List.set_cons_zero, List.set_cons_succ]))
  refine wpAnyH_ready (rs := [9]) (by kernel_rfl) (by simp) ?_
  refine AllReadyH.cons rfl (fun K hK => ?_) AllReadyH.nil
  (try dsimp only at hHeld)
  obtain ⟨v, hM, hB⟩ := hHeld
  have tc := hM.f9.c 1 rfl
  have tf := hM.f9.f 1
  have z1 := hM.f9.lt
  have hM2 := Lib.hid (MS.same (hM.put (v := (rnd (p 0 * q 1 + p 1 * q 4 + p 2 * q 7) 65536)) rfl (by omega : 1 < 9) HN1.out (by omega) HN3.out) (updI_twice (updI (fun _ => 0) 0 (rnd (p 0 * q 0 + p 1 * q 3 + p 2 * q 6) 65536)) 1 v (rnd (p 0 * q 1 + p 1 * q 4 + p 2 * q 7) 65536)))
  have hB2 := Lib.hid (hB.oth (c := w2.heap.size + 1) (by have := HRB0.out; omega) 1 (.int .i64 (rnd (p 0 * q 1 + p 1 * q 4 + p 2 * q 7) 65536)))
  go_simp
  refine hK.out _ _ ?_ (fun hHeld2 => ?_)
  · (try dsimp only); exact ⟨_, hM2.out, hB2.out⟩
  clear hK K; (try ((try simp only [List.getElem_toArray, List.getElem_cons_succ, List.getElem_cons_zero]); simp only [Act.put, List.setIfInBounds_toArray, List.set_cons_zero, List.set_cons_succ]))
  refine wpAnyH_done (by kernel_rfl) ?_ _
  refine NoPanic.normal ?_
  have S := hM2
  have B := hB2
  clear hM2 hB2 hHeld2 hM hB tc tf z1
  go_wp2_with fail
  obtain ⟨U1, hU1⟩ : ∃ U, U = w'.setCell ⟨w2.heap.size + 1, 1, none⟩ (.int .i64 (rnd (p 0 * q 1 + p 1 * q 4 + p 2 * q 7) 65536)) := ⟨_, rfl⟩
  rw [← hU1]
  rw [← hU1] at S B
  clear hU1
  rw [rounds_succ]
  go_wp2_with fail
  refine wp_region_noPanic ?_
  refine wp_region_held_drew (S := (fun w' => ∃ v, MS w w' (w.heap.size + 1 + 1) 0 w2.heap.size (w2.heap.size + 1) p q (updI (updI (updI (fun _ => 0) 0 (rnd (p 0 * q 0 + p 1 * q 3 + p 2 * q 6) 65536)) 1 (rnd (p 0 * q 1 + p 1 * q 4 + p 2 * q 7) 65536)) 2 v) 0 ∧ Bx w' (W0.heap.size) [.int .i64 (p 0), .int .i64 (p 1), .int .i64 (p 2)])) (by kernel_rfl) ?_ (fun hHeld => ?_)
  · (try dsimp only); exact ⟨_, (MS.same S.out (updI_self (updI (updI (fun _ => 0) 0 (rnd (p 0 * q 0 + p 1 * q 3 + p 2 * q 6) 65536)) 1 (rnd (p 0 * q 1 + p 1 * q 4 + p 2 * q 7) 65536)) 2).symm).bel (Below.refl _ _).drew, B.out.bel (Below.refl _ _).drew⟩
  change wpAnyH _ _ _ _ _ 10 _ _ _
  (refine wpAnyH_take (i := 0) (v := ?_) rfl (by kernel_rfl) (by kernel_rfl) (by kernel_rfl) (fun _ _ _ h => h) (Or.inl ⟨by rfl, ?_⟩) (by assumption) ?_; rotate_left 1; (focus (intro w hSw; (try dsimp only at hSw); (try simp only [List.getElem_toArray, List.getElem_cons_zero]); go_simp; try with_reducible rfl)); ((try simp only [List.getElem_toArray, List.getElem_cons_zero]); simp only [Act.put, List.setIfInBounds_toArray, List.set_cons_zero, List.set_cons_succ]))
  (refine wpAnyH_take (i := 1) (v := ?_) rfl (by kernel_rfl) (by kernel_rfl) (by kernel_rfl) (fun _ _ _ h => h) (Or.inl ⟨by rfl, ?_⟩) (by assumption) ?_; rotate_left 1; (focus (intro w hSw; (try dsimp only at hSw); (try simp only [List.getElem_toArray, List.getElem_cons_succ, List.getElem_cons_zero]); go_simp; try with_reducible rfl)); ((try simp only [List.getElem_toArray, List.getElem_cons_succ, List.getElem_cons_zero]); simp only [Act.put, List.setIfInBounds_toArray, List.set_cons_zero, List.set_cons_succ]))
  (refine wpAnyH_take (i := 2) (v := ?_) rfl (by kernel_rfl) (by kernel_rfl) (by kernel_rfl) (fun _ _ _ h => h) (Or.inl ⟨by rfl, ?_⟩) (by assumption) ?_; rotate_left 1; (focus (intro w hSw; (try dsimp only at hSw); obtain ⟨v, hM, hB⟩ := hSw; have x0 := hB.c 0 rfl; have x1 := hB.c 1 rfl; have x2 := hB.c 2 rfl; have y0 := hM.q9.c 0 rfl; have y1 := hM.q9.c 1 rfl; have y2 := hM.q9.c 2 rfl; have y3 := hM.q9.c 3 rfl; have y4 := hM.q9.c 4 rfl; have y5 := hM.q9.c 5 rfl; have y6 := hM.q9.c 6 rfl; have y7 := hM.q9.c 7 rfl; have y8 := hM.q9.c 8 rfl; have z0 := hM.q9.lt; have z1 := hM.f9.lt; have z2 := hB.lt; (try simp only [List.getElem_toArray, List.getElem_cons_succ, List.getElem_cons_zero]); go_simp; try with_reducible rfl)); ((try simp only [List.getElem_toArray, List.getElem_cons_succ, List.getElem_cons_zero]); simp only [Act.put, List.setIfInBounds_toArray, List.set_cons_zero, List.set_cons_succ]))
  (refine wpAnyH_take (i := 3) (v := ?_) rfl (by kernel_rfl) (by kernel_rfl) (by kernel_rfl) (fun _ _ _ h => h) (Or.inl ⟨by rfl, ?_⟩) (by assumption) ?_; rotate_left 1; (focus (intro w hSw; (try dsimp only at hSw); obtain ⟨v, hM, hB⟩ := hSw; have x0 := hB.c 0 rfl; have x1 := hB.c 1 rfl; have x2 := hB.c 2 rfl; have y0 := hM.q9.c 0 rfl; have y1 := hM.q9.c 1 rfl; have y2 := hM.q9.c 2 rfl; have y3 := hM.q9.c 3 rfl; have y4 := hM.q9.c 4 rfl; have y5 := hM.q9.c 5 rfl; have y6 := hM.q9.c 6 rfl; have y7 := hM.q9.c 7 rfl; have y8 := hM.q9.c 8 rfl; have z0 := hM.q9.lt; have z1 := hM.f9.lt; have z2 := hB.lt; (try simp only [List.getElem_toArray, List.getElem_cons_succ, List.getElem_cons_zero]); go_simp; try with_reducible rfl)); ((try simp only [List.getElem_toArray, List.getElem_cons_succ, List.getElem_cons_zero]); simp only [Act.put, List.setIfInBounds_toArray, List.set_cons_zero, List.set_cons_succ]))
  (refine wpAnyH_take (i := 4) (v := ?_) rfl (by kernel_rfl) (by kernel_rfl) (by kernel_rfl) (fun _ _ _ h => h) (Or.inl ⟨by rfl, ?_⟩) (by assumption) ?_; rotate_left 1; (focus (intro w hSw; (try dsimp only at hSw); (try simp only [List.getElem_toArray, List.getElem_cons_succ, List.getElem_cons_zero]); go_simp; try with_reducible rfl)); ((try simp only [List.getElem_toArray, List.getElem_cons_succ, List.getElem_cons_zero]); simp only [Act.put, List.setIfInBounds_toArray, List.set_cons_zero, List.set_cons_succ]))
  (refine wpAnyH_take (i := 7) (v := ?_) rfl (by kernel_rfl) (by kernel_rfl) (by kernel_rfl) (fun _ _ _ h => h) (Or.inl ⟨by rfl, ?_⟩) (by assumption) ?_; rotate_left 1; (focus (intro w hSw; (try dsimp only at hSw); obtain ⟨v, hM, hB⟩ := hSw; have x0 := hB.c 0 rfl; have x1 := hB.c 1 rfl; have x2 := hB.c 2 rfl; have y0 := hM.q9.c 0 rfl; have y1 := hM.q9.c 1 rfl; have y2 := hM.q9.c 2 rfl; have y3 := hM.q9.c 3 rfl; have y4 := hM.q9.c 4 rfl; have y5 := hM.q9.c 5 rfl; have y6 := hM.q9.c 6 rfl; have y7 := hM.q9.c 7 rfl; have y8 := hM.q9.c 8 rfl; have z0 := hM.q9.lt; have z1 := hM.f9.lt; have z2 := hB.lt; (try simp only [List.getElem_toArray, List.getElem_cons_succ, List.getElem_cons_zero]); go_simp; try with_reducible rfl)); ((try simp only [List.getElem_toArray, List.getElem_cons_succ, List.getElem_cons_zero]); simp only [Act.put, List.setIfInBounds_toArray, List.set_cons_zero, List.set_cons_succ]))
  (refine wpAnyH_ready (rs := [5]) (by kernel_rfl) (by simp) ?_; refine AllReadyH.cons rfl (fun K hK => ?_) AllReadyH.nil; go_simp; (go_at_call 82; refine (columnOf_2 q _).mono ?_; rintro e w' ⟨rfl, hb⟩); (try go_simp); refine hK.out _ _ ?_ (fun hHeld => ?_); (focus ((try dsimp only); obtain ⟨v, hM, hB⟩ := hHeld; exact ⟨v, hM.bel hb, hB.bel hb⟩)); clear hK K; (try ((try simp only [List.getElem_toArray, List.getElem_cons_succ, List.getElem_cons_zero]); simp only [Act.put, List.setIfInBounds_toArray, List.set_cons_zero, List.set_cons_succ])))
  (refine wpAnyH_ready (rs := [6]) (by kernel_rfl) (by simp) ?_; refine AllReadyH.cons rfl (fun K hK => ?_) AllReadyH.nil; go_simp; (go_at_call 81; refine (mixed_any _ _ _ _ _ _ _ (mq_bd HPB.out HQB.out (by omega) (by omega)) (mq_bd HPB.out HQB.out (by omega) (by omega)) (mq_bd HPB.out HQB.out (by omega) (by omega))).mono ?_; rintro e w' ⟨rfl, hb⟩); (try go_simp); refine hK.out _ _ ?_ (fun hHeld => ?_); (focus ((try dsimp only); obtain ⟨v, hM, hB⟩ := hHeld; exact ⟨v, hM.bel hb, hB.bel hb⟩)); clear hK K; (try ((try simp only [List.getElem_toArray, List.getElem_cons_succ, List.getElem_cons_zero]); simp only [Act.put, List.setIfInBounds_toArray, List.set_cons_zero, List.set_cons_succ])))
  (refine wpAnyH_take (i := 8) (v := ?_) rfl (by kernel_rfl) (by kernel_rfl) (by kernel_rfl) (fun _ _ _ h => h) (Or.inl ⟨by rfl, ?_⟩) (by assumption) ?_; rotate_left 1; (focus (intro w hSw; (try dsimp only at hSw); obtain ⟨v, hM, hB⟩ := hSw; have x0 := hB.c 0 rfl; have x1 := hB.c 1 rfl; have x2 := hB.c 2 rfl; have y0 := hM.q9.c 0 rfl; have y1 := hM.q9.c 1 rfl; have y2 := hM.q9.c 2 rfl; have y3 := hM.q9.c 3 rfl; have y4 := hM.q9.c 4 rfl; have y5 := hM.q9.c 5 rfl; have y6 := hM.q9.c 6 rfl; have y7 := hM.q9.c 7 rfl; have y8 := hM.q9.c 8 rfl; have z0 := hM.q9.lt; have z1 := hM.f9.lt; have z2 := hB.lt; (try simp only [List.getElem_toArray, List.getElem_cons_succ, List.getElem_cons_zero]); go_simp; try with_reducible rfl)); ((try simp only [List.getElem_toArray, List.getElem_cons_succ, List.getElem_cons_zero]); simp only [Act.put, List.setIfInBounds_toArray, List.set_cons_zero, List.set_cons_succ]))
  refine wpAnyH_ready (rs := [9]) (by kernel_rfl) (by simp) ?_
  refine AllReadyH.cons rfl (fun K hK => ?_) AllReadyH.nil
  (try dsimp only at hHeld)
  obtain ⟨v, hM, hB⟩ := hHeld
  have tc := hM.f9.c 2 rfl
  have tf := hM.f9.f 2
  have z1 := hM.f9.lt
  have hM2 := Lib.hid (MS.same (hM.put (v := (rnd (p 0 * q 2 + p 1 * q 5 + p 2 * q 8) 65536)) rfl (by omega : 2 < 9) HN1.out (by omega) HN3.out) (updI_twice (updI (updI (fun _ => 0) 0 (rnd (p 0 * q 0 + p 1 * q 3 + p 2 * q 6) 65536)) 1 (rnd (p 0 * q 1 + p 1 * q 4 + p 2 * q 7) 65536)) 2 v (rnd (p 0 * q 2 + p 1 * q 5 + p 2 * q 8) 65536)))
  have hB2 := Lib.hid (hB.oth (c := w2.heap.size + 1) (by have := HRB0.out; omega) 2 (.int .i64 (rnd (p 0 * q 2 + p 1 * q 5 + p 2 * q 8) 65536)))
  go_simp
  refine hK.out _ _ ?_ (fun hHeld2 => ?_)
  · (try dsimp only); exact ⟨_, hM2.out, hB2.out⟩
  clear hK K; (try ((try simp only [List.getElem_toArray, List.getElem_cons_succ, List.getElem_cons_zero]); simp only [Act.put, List.setIfInBounds_toArray, List.set_cons_zero, List.set_cons_succ]))
  refine wpAnyH_done (by kernel_rfl) ?_ _
  refine NoPanic.normal ?_
  have S := hM2
  have B := hB2
  clear hM2 hB2 hHeld2 hM hB tc tf z1
  go_wp2_with fail
  obtain ⟨U2, hU2⟩ : ∃ U, U = w'.setCell ⟨w2.heap.size + 1, 2, none⟩ (.int .i64 (rnd (p 0 * q 2 + p 1 * q 5 + p 2 * q 8) 65536)) := ⟨_, rfl⟩
  rw [← hU2]
  rw [← hU2] at S B
  clear hU2
  rw [rounds_succ]
  go_wp2_with fail
  have S1 := S
  clear S B
  rw [rounds_succ]
  have ii := fun W => ix9_1 p W
  have z1 := S1.out.f9.lt
  go_wp2_with fail
  clear ii z1
  obtain ⟨V1, hV1⟩ : ∃ V, V = U2.alloc (.cells #[.int .i64 (p 3), .int .i64 (p 4), .int .i64 (p 5)] 106) := ⟨_, rfl⟩
  have B : Hid (Bx V1 U2.heap.size [.int .i64 (p 3), .int .i64 (p 4), .int .i64 (p 5)]) := by show Bx _ _ _; rw [hV1]; exact Bx.new _ _ _ rfl
  have S : Hid (MS w V1 (w.heap.size + 1 + 1) 0 w2.heap.size (w2.heap.size + 1) p q (updI (updI (updI (fun _ => 0) 0 (rnd (p 0 * q 0 + p 1 * q 3 + p 2 * q 6) 65536)) 1 (rnd (p 0 * q 1 + p 1 * q 4 + p 2 * q 7) 65536)) 2 (rnd (p 0 * q 2 + p 1 * q 5 + p 2 * q 8) 65536)) 0) := by show MS _ _ _ _ _ _ _ _ _ _; rw [hV1]; exact S1.out.bel (blAlloc _ _)
  have HRB1 : Hid (w2.heap.size + 1 < U2.heap.size) := S1.out.f9.lt
  rw [← hV1]
  clear hV1 S1
  refine wp_loop_rounds 4 ?_
  rw [rounds_succ]
  go_wp2_with fail
  refine wp_region_noPanic ?_
  refine wp_region_held_drew (S := (fun w' => ∃ v, MS w w' (w.heap.size + 1 + 1) 0 w2.heap.size (w2.heap.size + 1) p q (updI (updI (updI (updI (fun _ => 0) 0 (rnd (p 0 * q 0 + p 1 * q 3 + p 2 * q 6) 65536)) 1 (rnd (p 0 * q 1 + p 1 * q 4 + p 2 * q 7) 65536)) 2 (rnd (p 0 * q 2 + p 1 * q 5 + p 2 * q 8) 65536)) 3 v) 0 ∧ Bx w' (U2.heap.size) [.int .i64 (p 3), .int .i64 (p 4), .int .i64 (p 5)])) (by kernel_rfl) ?_ (fun hHeld => ?_)
  · (try dsimp only); exact ⟨_, (MS.same S.out (updI_self (updI (updI (updI (fun _ => 0) 0 (rnd (p 0 * q 0 + p 1 * q 3 + p 2 * q 6) 65536)) 1 (rnd (p 0 * q 1 + p 1 * q 4 + p 2 * q 7) 65536)) 2 (rnd (p 0 * q 2 + p 1 * q 5 + p 2 * q 8) 65536)) 3).symm).bel (Below.refl _ _).drew, B.out.bel (Below.refl _ _).drew⟩
  change wpAnyH _ _ _ _ _ 10 _ _ _
  (refine wpAnyH_take (i := 0) (v := ?_) rfl (by kernel_rfl) (by kernel_rfl) (by kernel_rfl) (fun _ _ _ h => h) (Or.inl ⟨by rfl, ?_⟩) (by assumption) ?_; rotate_left 1; (focus (intro w hSw; (try dsimp only at hSw); (try simp only [List.getElem_toArray, List.getElem_cons_zero]); go_simp; try with_reducible rfl)); ((try simp only [List.getElem_toArray, List.getElem_cons_zero]); simp only [Act.put, List.setIfInBounds_toArray, List.set_cons_zero, List.set_cons_succ]))
  (refine wpAnyH_take (i := 1) (v := ?_) rfl (by kernel_rfl) (by kernel_rfl) (by kernel_rfl) (fun _ _ _ h => h) (Or.inl ⟨by rfl, ?_⟩) (by assumption) ?_; rotate_left 1; (focus (intro w hSw; (try dsimp only at hSw); (try simp only [List.getElem_toArray, List.getElem_cons_succ, List.getElem_cons_zero]); go_simp; try with_reducible rfl)); ((try simp only [List.getElem_toArray, List.getElem_cons_succ, List.getElem_cons_zero]); simp only [Act.put, List.setIfInBounds_toArray, List.set_cons_zero, List.set_cons_succ]))
  (refine wpAnyH_take (i := 2) (v := ?_) rfl (by kernel_rfl) (by kernel_rfl) (by kernel_rfl) (fun _ _ _ h => h) (Or.inl ⟨by rfl, ?_⟩) (by assumption) ?_; rotate_left 1; (focus (intro w hSw; (try dsimp only at hSw); obtain ⟨v, hM, hB⟩ := hSw; have x0 := hB.c 0 rfl; have x1 := hB.c 1 rfl; have x2 := hB.c 2 rfl; have y0 := hM.q9.c 0 rfl; have y1 := hM.q9.c 1 rfl; have y2 := hM.q9.c 2 rfl; have y3 := hM.q9.c 3 rfl; have y4 := hM.q9.c 4 rfl; have y5 := hM.q9.c 5 rfl; have y6 := hM.q9.c 6 rfl; have y7 := hM.q9.c 7 rfl; have y8 := hM.q9.c 8 rfl; have z0 := hM.q9.lt; have z1 := hM.f9.lt; have z2 := hB.lt; (try simp only [List.getElem_toArray, List.getElem_cons_succ, List.getElem_cons_zero]); go_simp; try with_reducible rfl)); ((try simp only [List.getElem_toArray, List.getElem_cons_succ, List.getElem_cons_zero]); simp only [Act.put, List.setIfInBounds_toArray, List.set_cons_zero, List.set_cons_succ]))
  (refine wpAnyH_take (i := 3) (v := ?_) rfl (by kernel_rfl) (by kernel_rfl) (by kernel_rfl) (fun _ _ _ h => h) (Or.inl ⟨by rfl, ?_⟩) (by assumption) ?_; rotate_left 1; (focus (intro w hSw; (try dsimp only at hSw); obtain ⟨v, hM, hB⟩ := hSw; have x0 := hB.c 0 rfl; have x1 := hB.c 1 rfl; have x2 := hB.c 2 rfl; have y0 := hM.q9.c 0 rfl; have y1 := hM.q9.c 1 rfl; have y2 := hM.q9.c 2 rfl; have y3 := hM.q9.c 3 rfl; have y4 := hM.q9.c 4 rfl; have y5 := hM.q9.c 5 rfl; have y6 := hM.q9.c 6 rfl; have y7 := hM.q9.c 7 rfl; have y8 := hM.q9.c 8 rfl; have z0 := hM.q9.lt; have z1 := hM.f9.lt; have z2 := hB.lt; (try simp only [List.getElem_toArray, List.getElem_cons_succ, List.getElem_cons_zero]); go_simp; try with_reducible rfl)); ((try simp only [List.getElem_toArray, List.getElem_cons_succ, List.getElem_cons_zero]); simp only [Act.put, List.setIfInBounds_toArray, List.set_cons_zero, List.set_cons_succ]))
  (refine wpAnyH_take (i := 4) (v := ?_) rfl (by kernel_rfl) (by kernel_rfl) (by kernel_rfl) (fun _ _ _ h => h) (Or.inl ⟨by rfl, ?_⟩) (by assumption) ?_; rotate_left 1; (focus (intro w hSw; (try dsimp only at hSw); (try simp only [List.getElem_toArray, List.getElem_cons_succ, List.getElem_cons_zero]); go_simp; try with_reducible rfl)); ((try simp only [List.getElem_toArray, List.getElem_cons_succ, List.getElem_cons_zero]); simp only [Act.put, List.setIfInBounds_toArray, List.set_cons_zero, List.set_cons_succ]))
  (refine wpAnyH_take (i := 7) (v := ?_) rfl (by kernel_rfl) (by kernel_rfl) (by kernel_rfl) (fun _ _ _ h => h) (Or.inl ⟨by rfl, ?_⟩) (by assumption) ?_; rotate_left 1; (focus (intro w hSw; (try dsimp only at hSw); obtain ⟨v, hM, hB⟩ := hSw; have x0 := hB.c 0 rfl; have x1 := hB.c 1 rfl; have x2 := hB.c 2 rfl; have y0 := hM.q9.c 0 rfl; have y1 := hM.q9.c 1 rfl; have y2 := hM.q9.c 2 rfl; have y3 := hM.q9.c 3 rfl; have y4 := hM.q9.c 4 rfl; have y5 := hM.q9.c 5 rfl; have y6 := hM.q9.c 6 rfl; have y7 := hM.q9.c 7 rfl; have y8 := hM.q9.c 8 rfl; have z0 := hM.q9.lt; have z1 := hM.f9.lt; have z2 := hB.lt; (try simp only [List.getElem_toArray, List.getElem_cons_succ, List.getElem_cons_zero]); go_simp; try with_reducible rfl)); ((try simp only [List.getElem_toArray, List.getElem_cons_succ, List.getElem_cons_zero]); simp only [Act.put, List.setIfInBounds_toArray, List.set_cons_zero, List.set_cons_succ]))
  (refine wpAnyH_ready (rs := [5]) (by kernel_rfl) (by simp) ?_; refine AllReadyH.cons rfl (fun K hK => ?_) AllReadyH.nil; go_simp; (go_at_call 82; refine (columnOf_0 q _).mono ?_; rintro e w' ⟨rfl, hb⟩); (try go_simp); refine hK.out _ _ ?_ (fun hHeld => ?_); (focus ((try dsimp only); obtain ⟨v, hM, hB⟩ := hHeld; exact ⟨v, hM.bel hb, hB.bel hb⟩)); clear hK K; (try ((try simp only [List.getElem_toArray, List.getElem_cons_succ, List.getElem_cons_zero]); simp only [Act.put, List.setIfInBounds_toArray, List.set_cons_zero, List.set_cons_succ])))
  (refine wpAnyH_ready (rs := [6]) (by kernel_rfl) (by simp) ?_; refine AllReadyH.cons rfl (fun K hK => ?_) AllReadyH.nil; go_simp; (go_at_call 81; refine (mixed_any _ _ _ _ _ _ _ (mq_bd HPB.out HQB.out (by omega) (by omega)) (mq_bd HPB.out HQB.out (by omega) (by omega)) (mq_bd HPB.out HQB.out (by omega) (by omega))).mono ?_; rintro e w' ⟨rfl, hb⟩); (try go_simp); refine hK.out _ _ ?_ (fun hHeld => ?_); (focus ((try dsimp only); obtain ⟨v, hM, hB⟩ := hHeld; exact ⟨v, hM.bel hb, hB.bel hb⟩)); clear hK K; (try ((try simp only [List.getElem_toArray, List.getElem_cons_succ, List.getElem_cons_zero]); simp only [Act.put, List.setIfInBounds_toArray, List.set_cons_zero, List.set_cons_succ])))
  (refine wpAnyH_take (i := 8) (v := ?_) rfl (by kernel_rfl) (by kernel_rfl) (by kernel_rfl) (fun _ _ _ h => h) (Or.inl ⟨by rfl, ?_⟩) (by assumption) ?_; rotate_left 1; (focus (intro w hSw; (try dsimp only at hSw); obtain ⟨v, hM, hB⟩ := hSw; have x0 := hB.c 0 rfl; have x1 := hB.c 1 rfl; have x2 := hB.c 2 rfl; have y0 := hM.q9.c 0 rfl; have y1 := hM.q9.c 1 rfl; have y2 := hM.q9.c 2 rfl; have y3 := hM.q9.c 3 rfl; have y4 := hM.q9.c 4 rfl; have y5 := hM.q9.c 5 rfl; have y6 := hM.q9.c 6 rfl; have y7 := hM.q9.c 7 rfl; have y8 := hM.q9.c 8 rfl; have z0 := hM.q9.lt; have z1 := hM.f9.lt; have z2 := hB.lt; (try simp only [List.getElem_toArray, List.getElem_cons_succ, List.getElem_cons_zero]); go_simp; try with_reducible rfl)); ((try simp only [List.getElem_toArray, List.getElem_cons_succ, List.getElem_cons_zero]); simp only [Act.put, List.setIfInBounds_toArray, List.set_cons_zero, List.set_cons_succ]))
  refine wpAnyH_ready (rs := [9]) (by kernel_rfl) (by simp) ?_
  refine AllReadyH.cons rfl (fun K hK => ?_) AllReadyH.nil
  (try dsimp only at hHeld)
  obtain ⟨v, hM, hB⟩ := hHeld
  have tc := hM.f9.c 3 rfl
  have tf := hM.f9.f 3
  have z1 := hM.f9.lt
  have hM2 := Lib.hid (MS.same (hM.put (v := (rnd (p 3 * q 0 + p 4 * q 3 + p 5 * q 6) 65536)) rfl (by omega : 3 < 9) HN1.out (by omega) HN3.out) (updI_twice (updI (updI (updI (fun _ => 0) 0 (rnd (p 0 * q 0 + p 1 * q 3 + p 2 * q 6) 65536)) 1 (rnd (p 0 * q 1 + p 1 * q 4 + p 2 * q 7) 65536)) 2 (rnd (p 0 * q 2 + p 1 * q 5 + p 2 * q 8) 65536)) 3 v (rnd (p 3 * q 0 + p 4 * q 3 + p 5 * q 6) 65536)))
  have hB2 := Lib.hid (hB.oth (c := w2.heap.size + 1) (by have := HRB1.out; omega) 3 (.int .i64 (rnd (p 3 * q 0 + p 4 * q 3 + p 5 * q 6) 65536)))
  go_simp
  refine hK.out _ _ ?_ (fun hHeld2 => ?_)
  · (try dsimp only); exact ⟨_, hM2.out, hB2.out⟩
  clear hK K; (try ((try simp only [List.getElem_toArray, List.getElem_cons_succ, List.getElem_cons_zero]); simp only [Act.put, List.setIfInBounds_toArray, List.set_cons_zero, List.set_cons_succ]))
  refine wpAnyH_done (by kernel_rfl) ?_ _
  refine NoPanic.normal ?_
  have S := hM2
  have B := hB2
  clear hM2 hB2 hHeld2 hM hB tc tf z1
  go_wp2_with fail
  obtain ⟨U3, hU3⟩ : ∃ U, U = w'.setCell ⟨w2.heap.size + 1, 3, none⟩ (.int .i64 (rnd (p 3 * q 0 + p 4 * q 3 + p 5 * q 6) 65536)) := ⟨_, rfl⟩
  rw [← hU3]
  rw [← hU3] at S B
  clear hU3
  rw [rounds_succ]
  go_wp2_with fail
  refine wp_region_noPanic ?_
  refine wp_region_held_drew (S := (fun w' => ∃ v, MS w w' (w.heap.size + 1 + 1) 0 w2.heap.size (w2.heap.size + 1) p q (updI (updI (updI (updI (updI (fun _ => 0) 0 (rnd (p 0 * q 0 + p 1 * q 3 + p 2 * q 6) 65536)) 1 (rnd (p 0 * q 1 + p 1 * q 4 + p 2 * q 7) 65536)) 2 (rnd (p 0 * q 2 + p 1 * q 5 + p 2 * q 8) 65536)) 3 (rnd (p 3 * q 0 + p 4 * q 3 + p 5 * q 6) 65536)) 4 v) 0 ∧ Bx w' (U2.heap.size) [.int .i64 (p 3), .int .i64 (p 4), .int .i64 (p 5)])) (by kernel_rfl) ?_ (fun hHeld => ?_)
  · (try dsimp only); exact ⟨_, (MS.same S.out (updI_self (updI (updI (updI (updI (fun _ => 0) 0 (rnd (p 0 * q 0 + p 1 * q 3 + p 2 * q 6) 65536)) 1 (rnd (p 0 * q 1 + p 1 * q 4 + p 2 * q 7) 65536)) 2 (rnd (p 0 * q 2 + p 1 * q 5 + p 2 * q 8) 65536)) 3 (rnd (p 3 * q 0 + p 4 * q 3 + p 5 * q 6) 65536)) 4).symm).bel (Below.refl _ _).drew, B.out.bel (Below.refl _ _).drew⟩
  change wpAnyH _ _ _ _ _ 10 _ _ _
  (refine wpAnyH_take (i := 0) (v := ?_) rfl (by kernel_rfl) (by kernel_rfl) (by kernel_rfl) (fun _ _ _ h => h) (Or.inl ⟨by rfl, ?_⟩) (by assumption) ?_; rotate_left 1; (focus (intro w hSw; (try dsimp only at hSw); (try simp only [List.getElem_toArray, List.getElem_cons_zero]); go_simp; try with_reducible rfl)); ((try simp only [List.getElem_toArray, List.getElem_cons_zero]); simp only [Act.put, List.setIfInBounds_toArray, List.set_cons_zero, List.set_cons_succ]))
  (refine wpAnyH_take (i := 1) (v := ?_) rfl (by kernel_rfl) (by kernel_rfl) (by kernel_rfl) (fun _ _ _ h => h) (Or.inl ⟨by rfl, ?_⟩) (by assumption) ?_; rotate_left 1; (focus (intro w hSw; (try dsimp only at hSw); (try simp only [List.getElem_toArray, List.getElem_cons_succ, List.getElem_cons_zero]); go_simp; try with_reducible rfl)); ((try simp only [List.getElem_toArray, List.getElem_cons_succ, List.getElem_cons_zero]); simp only [Act.put, List.setIfInBounds_toArray, List.set_cons_zero, List.set_cons_succ]))
  (refine wpAnyH_take (i := 2) (v := ?_) rfl (by kernel_rfl) (by kernel_rfl) (by kernel_rfl) (fun _ _ _ h => h) (Or.inl ⟨by rfl, ?_⟩) (by assumption) ?_; rotate_left 1; (focus (intro w hSw; (try dsimp only at hSw); obtain ⟨v, hM, hB⟩ := hSw; have x0 := hB.c 0 rfl; have x1 := hB.c 1 rfl; have x2 := hB.c 2 rfl; have y0 := hM.q9.c 0 rfl; have y1 := hM.q9.c 1 rfl; have y2 := hM.q9.c 2 rfl; have y3 := hM.q9.c 3 rfl; have y4 := hM.q9.c 4 rfl; have y5 := hM.q9.c 5 rfl; have y6 := hM.q9.c 6 rfl; have y7 := hM.q9.c 7 rfl; have y8 := hM.q9.c 8 rfl; have z0 := hM.q9.lt; have z1 := hM.f9.lt; have z2 := hB.lt; (try simp only [List.getElem_toArray, List.getElem_cons_succ, List.getElem_cons_zero]); go_simp; try with_reducible rfl)); ((try simp only [List.getElem_toArray, List.getElem_cons_succ, List.getElem_cons_zero]); simp only [Act.put, List.setIfInBounds_toArray, List.set_cons_zero, List.set_cons_succ]))
  (refine wpAnyH_take (i := 3) (v := ?_) rfl (by kernel_rfl) (by kernel_rfl) (by kernel_rfl) (fun _ _ _ h => h) (Or.inl ⟨by rfl, ?_⟩) (by assumption) ?_; rotate_left 1; (focus (intro w hSw; (try dsimp only at hSw); obtain ⟨v, hM, hB⟩ := hSw; have x0 := hB.c 0 rfl; have x1 := hB.c 1 rfl; have x2 := hB.c 2 rfl; have y0 := hM.q9.c 0 rfl; have y1 := hM.q9.c 1 rfl; have y2 := hM.q9.c 2 rfl; have y3 := hM.q9.c 3 rfl; have y4 := hM.q9.c 4 rfl; have y5 := hM.q9.c 5 rfl; have y6 := hM.q9.c 6 rfl; have y7 := hM.q9.c 7 rfl; have y8 := hM.q9.c 8 rfl; have z0 := hM.q9.lt; have z1 := hM.f9.lt; have z2 := hB.lt; (try simp only [List.getElem_toArray, List.getElem_cons_succ, List.getElem_cons_zero]); go_simp; try with_reducible rfl)); ((try simp only [List.getElem_toArray, List.getElem_cons_succ, List.getElem_cons_zero]); simp only [Act.put, List.setIfInBounds_toArray, List.set_cons_zero, List.set_cons_succ]))
  (refine wpAnyH_take (i := 4) (v := ?_) rfl (by kernel_rfl) (by kernel_rfl) (by kernel_rfl) (fun _ _ _ h => h) (Or.inl ⟨by rfl, ?_⟩) (by assumption) ?_; rotate_left 1; (focus (intro w hSw; (try dsimp only at hSw); (try simp only [List.getElem_toArray, List.getElem_cons_succ, List.getElem_cons_zero]); go_simp; try with_reducible rfl)); ((try simp only [List.getElem_toArray, List.getElem_cons_succ, List.getElem_cons_zero]); simp only [Act.put, List.setIfInBounds_toArray, List.set_cons_zero, List.set_cons_succ]))
  (refine wpAnyH_take (i := 7) (v := ?_) rfl (by kernel_rfl) (by kernel_rfl) (by kernel_rfl) (fun _ _ _ h => h) (Or.inl ⟨by rfl, ?_⟩) (by assumption) ?_; rotate_left 1; (focus (intro w hSw; (try dsimp only at hSw); obtain ⟨v, hM, hB⟩ := hSw; have x0 := hB.c 0 rfl; have x1 := hB.c 1 rfl; have x2 := hB.c 2 rfl; have y0 := hM.q9.c 0 rfl; have y1 := hM.q9.c 1 rfl; have y2 := hM.q9.c 2 rfl; have y3 := hM.q9.c 3 rfl; have y4 := hM.q9.c 4 rfl; have y5 := hM.q9.c 5 rfl; have y6 := hM.q9.c 6 rfl; have y7 := hM.q9.c 7 rfl; have y8 := hM.q9.c 8 rfl; have z0 := hM.q9.lt; have z1 := hM.f9.lt; have z2 := hB.lt; (try simp only [List.getElem_toArray, List.getElem_cons_succ, List.getElem_cons_zero]); go_simp; try with_reducible rfl)); ((try simp only [List.getElem_toArray, List.getElem_cons_succ, List.getElem_cons_zero]); simp only [Act.put, List.setIfInBounds_toArray, List.set_cons_zero, List.set_cons_succ]))
  (refine wpAnyH_ready (rs := [5]) (by kernel_rfl) (by simp) ?_; refine AllReadyH.cons rfl (fun K hK => ?_) AllReadyH.nil; go_simp; (go_at_call 82; refine (columnOf_1 q _).mono ?_; rintro e w' ⟨rfl, hb⟩); (try go_simp); refine hK.out _ _ ?_ (fun hHeld => ?_); (focus ((try dsimp only); obtain ⟨v, hM, hB⟩ := hHeld; exact ⟨v, hM.bel hb, hB.bel hb⟩)); clear hK K; (try ((try simp only [List.getElem_toArray, List.getElem_cons_succ, List.getElem_cons_zero]); simp only [Act.put, List.setIfInBounds_toArray, List.set_cons_zero, List.set_cons_succ])))
  (refine wpAnyH_ready (rs := [6]) (by kernel_rfl) (by simp) ?_; refine AllReadyH.cons rfl (fun K hK => ?_) AllReadyH.nil; go_simp; (go_at_call 81; refine (mixed_any _ _ _ _ _ _ _ (mq_bd HPB.out HQB.out (by omega) (by omega)) (mq_bd HPB.out HQB.out (by omega) (by omega)) (mq_bd HPB.out HQB.out (by omega) (by omega))).mono ?_; rintro e w' ⟨rfl, hb⟩); (try go_simp); refine hK.out _ _ ?_ (fun hHeld => ?_); (focus ((try dsimp only); obtain ⟨v, hM, hB⟩ := hHeld; exact ⟨v, hM.bel hb, hB.bel hb⟩)); clear hK K; (try ((try simp only [List.getElem_toArray, List.getElem_cons_succ, List.getElem_cons_zero]); simp only [Act.put, List.setIfInBounds_toArray, List.set_cons_zero, List.set_cons_succ])))
  (refine wpAnyH_take (i := 8) (v := ?_) rfl (by kernel_rfl) (by kernel_rfl) (by kernel_rfl) (fun _ _ _ h => h) (Or.inl ⟨by rfl, ?_⟩) (by assumption) ?_; rotate_left 1; (focus (intro w hSw; (try dsimp only at hSw); obtain ⟨v, hM, hB⟩ := hSw; have x0 := hB.c 0 rfl; have x1 := hB.c 1 rfl; have x2 := hB.c 2 rfl; have y0 := hM.q9.c 0 rfl; have y1 := hM.q9.c 1 rfl; have y2 := hM.q9.c 2 rfl; have y3 := hM.q9.c 3 rfl; have y4 := hM.q9.c 4 rfl; have y5 := hM.q9.c 5 rfl; have y6 := hM.q9.c 6 rfl; have y7 := hM.q9.c 7 rfl; have y8 := hM.q9.c 8 rfl; have z0 := hM.q9.lt; have z1 := hM.f9.lt; have z2 := hB.lt; (try simp only [List.getElem_toArray, List.getElem_cons_succ, List.getElem_cons_zero]); go_simp; try with_reducible rfl)); ((try simp only [List.getElem_toArray, List.getElem_cons_succ, List.getElem_cons_zero]); simp only [Act.put, List.setIfInBounds_toArray, List.set_cons_zero, List.set_cons_succ]))
  refine wpAnyH_ready (rs := [9]) (by kernel_rfl) (by simp) ?_
  refine AllReadyH.cons rfl (fun K hK => ?_) AllReadyH.nil
  (try dsimp only at hHeld)
  obtain ⟨v, hM, hB⟩ := hHeld
  have tc := hM.f9.c 4 rfl
  have tf := hM.f9.f 4
  have z1 := hM.f9.lt
  have hM2 := Lib.hid (MS.same (hM.put (v := (rnd (p 3 * q 1 + p 4 * q 4 + p 5 * q 7) 65536)) rfl (by omega : 4 < 9) HN1.out (by omega) HN3.out) (updI_twice (updI (updI (updI (updI (fun _ => 0) 0 (rnd (p 0 * q 0 + p 1 * q 3 + p 2 * q 6) 65536)) 1 (rnd (p 0 * q 1 + p 1 * q 4 + p 2 * q 7) 65536)) 2 (rnd (p 0 * q 2 + p 1 * q 5 + p 2 * q 8) 65536)) 3 (rnd (p 3 * q 0 + p 4 * q 3 + p 5 * q 6) 65536)) 4 v (rnd (p 3 * q 1 + p 4 * q 4 + p 5 * q 7) 65536)))
  have hB2 := Lib.hid (hB.oth (c := w2.heap.size + 1) (by have := HRB1.out; omega) 4 (.int .i64 (rnd (p 3 * q 1 + p 4 * q 4 + p 5 * q 7) 65536)))
  go_simp
  refine hK.out _ _ ?_ (fun hHeld2 => ?_)
  · (try dsimp only); exact ⟨_, hM2.out, hB2.out⟩
  clear hK K; (try ((try simp only [List.getElem_toArray, List.getElem_cons_succ, List.getElem_cons_zero]); simp only [Act.put, List.setIfInBounds_toArray, List.set_cons_zero, List.set_cons_succ]))
  refine wpAnyH_done (by kernel_rfl) ?_ _
  refine NoPanic.normal ?_
  have S := hM2
  have B := hB2
  clear hM2 hB2 hHeld2 hM hB tc tf z1
  go_wp2_with fail
  obtain ⟨U4, hU4⟩ : ∃ U, U = w'.setCell ⟨w2.heap.size + 1, 4, none⟩ (.int .i64 (rnd (p 3 * q 1 + p 4 * q 4 + p 5 * q 7) 65536)) := ⟨_, rfl⟩
  rw [← hU4]
  rw [← hU4] at S B
  clear hU4
  rw [rounds_succ]
  go_wp2_with fail
  refine wp_region_noPanic ?_
  refine wp_region_held_drew (S := (fun w' => ∃ v, MS w w' (w.heap.size + 1 + 1) 0 w2.heap.size (w2.heap.size + 1) p q (updI (updI (updI (updI (updI (updI (fun _ => 0) 0 (rnd (p 0 * q 0 + p 1 * q 3 + p 2 * q 6) 65536)) 1 (rnd (p 0 * q 1 + p 1 * q 4 + p 2 * q 7) 65536)) 2 (rnd (p 0 * q 2 + p 1 * q 5 + p 2 * q 8) 65536)) 3 (rnd (p 3 * q 0 + p 4 * q 3 + p 5 * q 6) 65536)) 4 (rnd (p 3 * q 1 + p 4 * q 4 + p 5 * q 7) 65536)) 5 v) 0 ∧ Bx w' (U2.heap.size) [.int .i64 (p 3), .int .i64 (p 4), .int .i64 (p 5)])) (by kernel_rfl) ?_ (fun hHeld => ?_)
  · (try dsimp only); exact ⟨_, (MS.same S.out (updI_self (updI (updI (updI (updI (updI (fun _ => 0) 0 (rnd (p 0 * q 0 + p 1 * q 3 + p 2 * q 6) 65536)) 1 (rnd (p 0 * q 1 + p 1 * q 4 + p 2 * q 7) 65536)) 2 (rnd (p 0 * q 2 + p 1 * q 5 + p 2 * q 8) 65536)) 3 (rnd (p 3 * q 0 + p 4 * q 3 + p 5 * q 6) 65536)) 4 (rnd (p 3 * q 1 + p 4 * q 4 + p 5 * q 7) 65536)) 5).symm).bel (Below.refl _ _).drew, B.out.bel (Below.refl _ _).drew⟩
  change wpAnyH _ _ _ _ _ 10 _ _ _
  (refine wpAnyH_take (i := 0) (v := ?_) rfl (by kernel_rfl) (by kernel_rfl) (by kernel_rfl) (fun _ _ _ h => h) (Or.inl ⟨by rfl, ?_⟩) (by assumption) ?_; rotate_left 1; (focus (intro w hSw; (try dsimp only at hSw); (try simp only [List.getElem_toArray, List.getElem_cons_zero]); go_simp; try with_reducible rfl)); ((try simp only [List.getElem_toArray, List.getElem_cons_zero]); simp only [Act.put, List.setIfInBounds_toArray, List.set_cons_zero, List.set_cons_succ]))
  (refine wpAnyH_take (i := 1) (v := ?_) rfl (by kernel_rfl) (by kernel_rfl) (by kernel_rfl) (fun _ _ _ h => h) (Or.inl ⟨by rfl, ?_⟩) (by assumption) ?_; rotate_left 1; (focus (intro w hSw; (try dsimp only at hSw); (try simp only [List.getElem_toArray, List.getElem_cons_succ, List.getElem_cons_zero]); go_simp; try with_reducible rfl)); ((try simp only [List.getElem_toArray, List.getElem_cons_succ, List.getElem_cons_zero]); simp only [Act.put, List.setIfInBounds_toArray, List.set_cons_zero, List.set_cons_succ]))
  (refine wpAnyH_take (i := 2) (v := ?_) rfl (by kernel_rfl) (by kernel_rfl) (by kernel_rfl) (fun _ _ _ h => h) (Or.inl ⟨by rfl, ?_⟩) (by assumption) ?_; rotate_left 1; (focus (intro w hSw; (try dsimp only at hSw); obtain ⟨v, hM, hB⟩ := hSw; have x0 := hB.c 0 rfl; have x1 := hB.c 1 rfl; have x2 := hB.c 2 rfl; have y0 := hM.q9.c 0 rfl; have y1 := hM.q9.c 1 rfl; have y2 := hM.q9.c 2 rfl; have y3 := hM.q9.c 3 rfl; have y4 := hM.q9.c 4 rfl; have y5 := hM.q9.c 5 rfl; have y6 := hM.q9.c 6 rfl; have y7 := hM.q9.c 7 rfl; have y8 := hM.q9.c 8 rfl; have z0 := hM.q9.lt; have z1 := hM.f9.lt; have z2 := hB.lt; (try simp only [List.getElem_toArray, List.getElem_cons_succ, List.getElem_cons_zero]); go_simp; try with_reducible rfl)); ((try simp only [List.getElem_toArray, List.getElem_cons_succ, List.getElem_cons_zero]); simp only [Act.put, List.setIfInBounds_toArray, List.set_cons_zero, List.set_cons_succ]))
  (refine wpAnyH_take (i := 3) (v := ?_) rfl (by kernel_rfl) (by kernel_rfl) (by kernel_rfl) (fun _ _ _ h => h) (Or.inl ⟨by rfl, ?_⟩) (by assumption) ?_; rotate_left 1; (focus (intro w hSw; (try dsimp only at hSw); obtain ⟨v, hM, hB⟩ := hSw; have x0 := hB.c 0 rfl; have x1 := hB.c 1 rfl; have x2 := hB.c 2 rfl; have y0 := hM.q9.c 0 rfl; have y1 := hM.q9.c 1 rfl; have y2 := hM.q9.c 2 rfl; have y3 := hM.q9.c 3 rfl; have y4 := hM.q9.c 4 rfl; have y5 := hM.q9.c 5 rfl; have y6 := hM.q9.c 6 rfl; have y7 := hM.q9.c 7 rfl; have y8 := hM.q9.c 8 rfl; have z0 := hM.q9.lt; have z1 := hM.f9.lt; have z2 := hB.lt; (try simp only [List.getElem_toArray, List.getElem_cons_succ, List.getElem_cons_zero]); go_simp; try with_reducible rfl)); ((try simp only [List.getElem_toArray, List.getElem_cons_succ, List.getElem_cons_zero]); simp only [Act.put, List.setIfInBounds_toArray, List.set_cons_zero, List.set_cons_succ]))
  (refine wpAnyH_take (i := 4) (v := ?_) rfl (by kernel_rfl) (by kernel_rfl) (by kernel_rfl) (fun _ _ _ h => h) (Or.inl ⟨by rfl, ?_⟩) (by assumption) ?_; rotate_left 1; (focus (intro w hSw; (try dsimp only at hSw); (try simp only [List.getElem_toArray, List.getElem_cons_succ, List.getElem_cons_zero]); go_simp; try with_reducible rfl)); ((try simp only [List.getElem_toArray, List.getElem_cons_succ, List.getElem_cons_zero]); simp only [Act.put, List.setIfInBounds_toArray, List.set_cons_zero, List.set_cons_succ]))
  (refine wpAnyH_take (i := 7) (v := ?_) rfl (by kernel_rfl) (by kernel_rfl) (by kernel_rfl) (fun _ _ _ h => h) (Or.inl ⟨by rfl, ?_⟩) (by assumption) ?_; rotate_left 1; (focus (intro w hSw; (try dsimp only at hSw); obtain ⟨v, hM, hB⟩ := hSw; have x0 := hB.c 0 rfl; have x1 := hB.c 1 rfl; have x2 := hB.c 2 rfl; have y0 := hM.q9.c 0 rfl; have y1 := hM.q9.c 1 rfl; have y2 := hM.q9.c 2 rfl; have y3 := hM.q9.c 3 rfl; have y4 := hM.q9.c 4 rfl; have y5 := hM.q9.c 5 rfl; have y6 := hM.q9.c 6 rfl; have y7 := hM.q9.c 7 rfl; have y8 := hM.q9.c 8 rfl; have z0 := hM.q9.lt; have z1 := hM.f9.lt; have z2 := hB.lt; (try simp only [List.getElem_toArray, List.getElem_cons_succ, List.getElem_cons_zero]); go_simp; try with_reducible rfl)); ((try simp only [List.getElem_toArray, List.getElem_cons_succ, List.getElem_cons_zero]); simp only [Act.put, List.setIfInBounds_toArray, List.set_cons_zero, List.set_cons_succ]))
  (refine wpAnyH_ready (rs := [5]) (by kernel_rfl) (by simp) ?_; refine AllReadyH.cons rfl (fun K hK => ?_) AllReadyH.nil; go_simp; (go_at_call 82; refine (columnOf_2 q _).mono ?_; rintro e w' ⟨rfl, hb⟩); (try go_simp); refine hK.out _ _ ?_ (fun hHeld => ?_); (focus ((try dsimp only); obtain ⟨v, hM, hB⟩ := hHeld; exact ⟨v, hM.bel hb, hB.bel hb⟩)); clear hK K; (try ((try simp only [List.getElem_toArray, List.getElem_cons_succ, List.getElem_cons_zero]); simp only [Act.put, List.setIfInBounds_toArray, List.set_cons_zero, List.set_cons_succ])))
  (refine wpAnyH_ready (rs := [6]) (by kernel_rfl) (by simp) ?_; refine AllReadyH.cons rfl (fun K hK => ?_) AllReadyH.nil; go_simp; (go_at_call 81; refine (mixed_any _ _ _ _ _ _ _ (mq_bd HPB.out HQB.out (by omega) (by omega)) (mq_bd HPB.out HQB.out (by omega) (by omega)) (mq_bd HPB.out HQB.out (by omega) (by omega))).mono ?_; rintro e w' ⟨rfl, hb⟩); (try go_simp); refine hK.out _ _ ?_ (fun hHeld => ?_); (focus ((try dsimp only); obtain ⟨v, hM, hB⟩ := hHeld; exact ⟨v, hM.bel hb, hB.bel hb⟩)); clear hK K; (try ((try simp only [List.getElem_toArray, List.getElem_cons_succ, List.getElem_cons_zero]); simp only [Act.put, List.setIfInBounds_toArray, List.set_cons_zero, List.set_cons_succ])))
  (refine wpAnyH_take (i := 8) (v := ?_) rfl (by kernel_rfl) (by kernel_rfl) (by kernel_rfl) (fun _ _ _ h => h) (Or.inl ⟨by rfl, ?_⟩) (by assumption) ?_; rotate_left 1; (focus (intro w hSw; (try dsimp only at hSw); obtain ⟨v, hM, hB⟩ := hSw; have x0 := hB.c 0 rfl; have x1 := hB.c 1 rfl; have x2 := hB.c 2 rfl; have y0 := hM.q9.c 0 rfl; have y1 := hM.q9.c 1 rfl; have y2 := hM.q9.c 2 rfl; have y3 := hM.q9.c 3 rfl; have y4 := hM.q9.c 4 rfl; have y5 := hM.q9.c 5 rfl; have y6 := hM.q9.c 6 rfl; have y7 := hM.q9.c 7 rfl; have y8 := hM.q9.c 8 rfl; have z0 := hM.q9.lt; have z1 := hM.f9.lt; have z2 := hB.lt; (try simp only [List.getElem_toArray, List.getElem_cons_succ, List.getElem_cons_zero]); go_simp; try with_reducible rfl)); ((try simp only [List.getElem_toArray, List.getElem_cons_succ, List.getElem_cons_zero]); simp only [Act.put, List.setIfInBounds_toArray, List.set_cons_zero, List.set_cons_succ]))
  refine wpAnyH_ready (rs := [9]) (by kernel_rfl) (by simp) ?_
  refine AllReadyH.cons rfl (fun K hK => ?_) AllReadyH.nil
  (try dsimp only at hHeld)
  obtain ⟨v, hM, hB⟩ := hHeld
  have tc := hM.f9.c 5 rfl
  have tf := hM.f9.f 5
  have z1 := hM.f9.lt
  have hM2 := Lib.hid (MS.same (hM.put (v := (rnd (p 3 * q 2 + p 4 * q 5 + p 5 * q 8) 65536)) rfl (by omega : 5 < 9) HN1.out (by omega) HN3.out) (updI_twice (updI (updI (updI (updI (updI (fun _ => 0) 0 (rnd (p 0 * q 0 + p 1 * q 3 + p 2 * q 6) 65536)) 1 (rnd (p 0 * q 1 + p 1 * q 4 + p 2 * q 7) 65536)) 2 (rnd (p 0 * q 2 + p 1 * q 5 + p 2 * q 8) 65536)) 3 (rnd (p 3 * q 0 + p 4 * q 3 + p 5 * q 6) 65536)) 4 (rnd (p 3 * q 1 + p 4 * q 4 + p 5 * q 7) 65536)) 5 v (rnd (p 3 * q 2 + p 4 * q 5 + p 5 * q 8) 65536)))
  have hB2 := Lib.hid (hB.oth (c := w2.heap.size + 1) (by have := HRB1.out; omega) 5 (.int .i64 (rnd (p 3 * q 2 + p 4 * q 5 + p 5 * q 8) 65536)))
  go_simp
  refine hK.out _ _ ?_ (fun hHeld2 => ?_)
  · (try dsimp only); exact ⟨_, hM2.out, hB2.out⟩
  clear hK K; (try ((try simp only [List.getElem_toArray, List.getElem_cons_succ, List.getElem_cons_zero]); simp only [Act.put, List.setIfInBounds_toArray, List.set_cons_zero, List.set_cons_succ]))
  refine wpAnyH_done (by kernel_rfl) ?_ _
  refine NoPanic.normal ?_
  have S := hM2
  have B := hB2
  clear hM2 hB2 hHeld2 hM hB tc tf z1
  go_wp2_with fail
  obtain ⟨U5, hU5⟩ : ∃ U, U = w'.setCell ⟨w2.heap.size + 1, 5, none⟩ (.int .i64 (rnd (p 3 * q 2 + p 4 * q 5 + p 5 * q 8) 65536)) := ⟨_, rfl⟩
  rw [← hU5]
  rw [← hU5] at S B
  clear hU5
  rw [rounds_succ]
  go_wp2_with fail
  have S2 := S
  clear S B
  rw [rounds_succ]
  have ii := fun W => ix9_2 p W
  have z1 := S2.out.f9.lt
  go_wp2_with fail
  clear ii z1
  obtain ⟨V2, hV2⟩ : ∃ V, V = U5.alloc (.cells #[.int .i64 (p 6), .int .i64 (p 7), .int .i64 (p 8)] 106) := ⟨_, rfl⟩
  have B : Hid (Bx V2 U5.heap.size [.int .i64 (p 6), .int .i64 (p 7), .int .i64 (p 8)]) := by show Bx _ _ _; rw [hV2]; exact Bx.new _ _ _ rfl
  have S : Hid (MS w V2 (w.heap.size + 1 + 1) 0 w2.heap.size (w2.heap.size + 1) p q (updI (updI (updI (updI (updI (updI (fun _ => 0) 0 (rnd (p 0 * q 0 + p 1 * q 3 + p 2 * q 6) 65536)) 1 (rnd (p 0 * q 1 + p 1 * q 4 + p 2 * q 7) 65536)) 2 (rnd (p 0 * q 2 + p 1 * q 5 + p 2 * q 8) 65536)) 3 (rnd (p 3 * q 0 + p 4 * q 3 + p 5 * q 6) 65536)) 4 (rnd (p 3 * q 1 + p 4 * q 4 + p 5 * q 7) 65536)) 5 (rnd (p 3 * q 2 + p 4 * q 5 + p 5 * q 8) 65536)) 0) := by show MS _ _ _ _ _ _ _ _ _ _; rw [hV2]; exact S2.out.bel (blAlloc _ _)
  have HRB2 : Hid (w2.heap.size + 1 < U5.heap.size) := S2.out.f9.lt
  rw [← hV2]
  clear hV2 S2
  refine wp_loop_rounds 4 ?_
  rw [rounds_succ]
  go_wp2_with fail
  refine wp_region_noPanic ?_
  refine wp_region_held_drew (S := (fun w' => ∃ v, MS w w' (w.heap.size + 1 + 1) 0 w2.heap.size (w2.heap.size + 1) p q (updI (updI (updI (updI (updI (updI (updI (fun _ => 0) 0 (rnd (p 0 * q 0 + p 1 * q 3 + p 2 * q 6) 65536)) 1 (rnd (p 0 * q 1 + p 1 * q 4 + p 2 * q 7) 65536)) 2 (rnd (p 0 * q 2 + p 1 * q 5 + p 2 * q 8) 65536)) 3 (rnd (p 3 * q 0 + p 4 * q 3 + p 5 * q 6) 65536)) 4 (rnd (p 3 * q 1 + p 4 * q 4 + p 5 * q 7) 65536)) 5 (rnd (p 3 * q 2 + p 4 * q 5 + p 5 * q 8) 65536)) 6 v) 0 ∧ Bx w' (U5.heap.size) [.int .i64 (p 6), .int .i64 (p 7), .int .i64 (p 8)])) (by kernel_rfl) ?_ (fun hHeld => ?_)
  · (try dsimp only); exact ⟨_, (MS.same S.out (updI_self (updI (updI (updI (updI (updI (updI (fun _ => 0) 0 (rnd (p 0 * q 0 + p 1 * q 3 + p 2 * q 6) 65536)) 1 (rnd (p 0 * q 1 + p 1 * q 4 + p 2 * q 7) 65536)) 2 (rnd (p 0 * q 2 + p 1 * q 5 + p 2 * q 8) 65536)) 3 (rnd (p 3 * q 0 + p 4 * q 3 + p 5 * q 6) 65536)) 4 (rnd (p 3 * q 1 + p 4 * q 4 + p 5 * q 7) 65536)) 5 (rnd (p 3 * q 2 + p 4 * q 5 + p 5 * q 8) 65536)) 6).symm).bel (Below.refl _ _).drew, B.out.bel (Below.refl _ _).drew⟩
  change wpAnyH _ _ _ _ _ 10 _ _ _
  (refine wpAnyH_take (i := 0) (v := ?_) rfl (by kernel_rfl) (by kernel_rfl) (by kernel_rfl) (fun _ _ _ h => h) (Or.inl ⟨by rfl, ?_⟩) (by assumption) ?_; rotate_left 1; (focus (intro w hSw; (try dsimp only at hSw); (try simp only [List.getElem_toArray, List.getElem_cons_zero]); go_simp; try with_reducible rfl)); ((try simp only [List.getElem_toArray, List.getElem_cons_zero]); simp only [Act.put, List.setIfInBounds_toArray, List.set_cons_zero, List.set_cons_succ]))
  (refine wpAnyH_take (i := 1) (v := ?_) rfl (by kernel_rfl) (by kernel_rfl) (by kernel_rfl) (fun _ _ _ h => h) (Or.inl ⟨by rfl, ?_⟩) (by assumption) ?_; rotate_left 1; (focus (intro w hSw; (try dsimp only at hSw); (try simp only [List.getElem_toArray, List.getElem_cons_succ, List.getElem_cons_zero]); go_simp; try with_reducible rfl)); ((try simp only [List.getElem_toArray, List.getElem_cons_succ, List.getElem_cons_zero]); simp only [Act.put, List.setIfInBounds_toArray, List.set_cons_zero, List.set_cons_succ]))
  (refine wpAnyH_take (i := 2) (v := ?_) rfl (by kernel_rfl) (by kernel_rfl) (by kernel_rfl) (fun _ _ _ h => h) (Or.inl ⟨by rfl, ?_⟩) (by assumption) ?_; rotate_left 1; (focus (intro w hSw; (try dsimp only at hSw); obtain ⟨v, hM, hB⟩ := hSw; have x0 := hB.c 0 rfl; have x1 := hB.c 1 rfl; have x2 := hB.c 2 rfl; have y0 := hM.q9.c 0 rfl; have y1 := hM.q9.c 1 rfl; have y2 := hM.q9.c 2 rfl; have y3 := hM.q9.c 3 rfl; have y4 := hM.q9.c 4 rfl; have y5 := hM.q9.c 5 rfl; have y6 := hM.q9.c 6 rfl; have y7 := hM.q9.c 7 rfl; have y8 := hM.q9.c 8 rfl; have z0 := hM.q9.lt; have z1 := hM.f9.lt; have z2 := hB.lt; (try simp only [List.getElem_toArray, List.getElem_cons_succ, List.getElem_cons_zero]); go_simp; try with_reducible rfl)); ((try simp only [List.getElem_toArray, List.getElem_cons_succ, List.getElem_cons_zero]); simp only [Act.put, List.setIfInBounds_toArray, List.set_cons_zero, List.set_cons_succ]))
  (refine wpAnyH_take (i := 3) (v := ?_) rfl (by kernel_rfl) (by kernel_rfl) (by kernel_rfl) (fun _ _ _ h => h) (Or.inl ⟨by rfl, ?_⟩) (by assumption) ?_; rotate_left 1; (focus (intro w hSw; (try dsimp only at hSw); obtain ⟨v, hM, hB⟩ := hSw; have x0 := hB.c 0 rfl; have x1 := hB.c 1 rfl; have x2 := hB.c 2 rfl; have y0 := hM.q9.c 0 rfl; have y1 := hM.q9.c 1 rfl; have y2 := hM.q9.c 2 rfl; have y3 := hM.q9.c 3 rfl; have y4 := hM.q9.c 4 rfl; have y5 := hM.q9.c 5 rfl; have y6 := hM.q9.c 6 rfl; have y7 := hM.q9.c 7 rfl; have y8 := hM.q9.c 8 rfl; have z0 := hM.q9.lt; have z1 := hM.f9.lt; have z2 := hB.lt; (try simp only [List.getElem_toArray, List.getElem_cons_succ, List.getElem_cons_zero]); go_simp; try with_reducible rfl)); ((try simp only [List.getElem_toArray, List.getElem_cons_succ, List.getElem_cons_zero]); simp only [Act.put, List.setIfInBounds_toArray, List.set_cons_zero, List.set_cons_succ]))
  (refine wpAnyH_take (i := 4) (v := ?_) rfl (by kernel_rfl) (by kernel_rfl) (by kernel_rfl) (fun _ _ _ h => h) (Or.inl ⟨by rfl, ?_⟩) (by assumption) ?_; rotate_left 1; (focus (intro w hSw; (try dsimp only at hSw); (try simp only [List.getElem_toArray, List.getElem_cons_succ, List.getElem_cons_zero]); go_simp; try with_reducible rfl)); ((try simp only [List.getElem_toArray, List.getElem_cons_succ, List.getElem_cons_zero]); simp only [Act.put, List.setIfInBounds_toArray, List.set_cons_zero, List.set_cons_succ]))
  (refine wpAnyH_take (i := 7) (v := ?_) rfl (by kernel_rfl) (by kernel_rfl) (by kernel_rfl) (fun _ _ _ h => h) (Or.inl ⟨by rfl, ?_⟩) (by assumption) ?_; rotate_left 1; (focus (intro w hSw; (try dsimp only at hSw); obtain ⟨v, hM, hB⟩ := hSw; have x0 := hB.c 0 rfl; have x1 := hB.c 1 rfl; have x2 := hB.c 2 rfl; have y0 := hM.q9.c 0 rfl; have y1 := hM.q9.c 1 rfl; have y2 := hM.q9.c 2 rfl; have y3 := hM.q9.c 3 rfl; have y4 := hM.q9.c 4 rfl; have y5 := hM.q9.c 5 rfl; have y6 := hM.q9.c 6 rfl; have y7 := hM.q9.c 7 rfl; have y8 := hM.q9.c 8 rfl; have z0 := hM.q9.lt; have z1 := hM.f9.lt; have z2 := hB.lt; (try simp only [List.getElem_toArray, List.getElem_cons_succ, List.getElem_cons_zero]); go_simp; try with_reducible rfl)); ((try simp only [List.getElem_toArray, List.getElem_cons_succ, List.getElem_cons_zero]); simp only [Act.put, List.setIfInBounds_toArray, List.set_cons_zero, List.set_cons_succ]))
  (refine wpAnyH_ready (rs := [5]) (by kernel_rfl) (by simp) ?_; refine AllReadyH.cons rfl (fun K hK => ?_) AllReadyH.nil; go_simp; (go_at_call 82; refine (columnOf_0 q _).mono ?_; rintro e w' ⟨rfl, hb⟩); (try go_simp); refine hK.out _ _ ?_ (fun hHeld => ?_); (focus ((try dsimp only); obtain ⟨v, hM, hB⟩ := hHeld; exact ⟨v, hM.bel hb, hB.bel hb⟩)); clear hK K; (try ((try simp only [List.getElem_toArray, List.getElem_cons_succ, List.getElem_cons_zero]); simp only [Act.put, List.setIfInBounds_toArray, List.set_cons_zero, List.set_cons_succ])))
  (refine wpAnyH_ready (rs := [6]) (by kernel_rfl) (by simp) ?_; refine AllReadyH.cons rfl (fun K hK => ?_) AllReadyH.nil; go_simp; (go_at_call 81; refine (mixed_any _ _ _ _ _ _ _ (mq_bd HPB.out HQB.out (by omega) (by omega)) (mq_bd HPB.out HQB.out (by omega) (by omega)) (mq_bd HPB.out HQB.out (by omega) (by omega))).mono ?_; rintro e w' ⟨rfl, hb⟩); (try go_simp); refine hK.out _ _ ?_ (fun hHeld => ?_); (focus ((try dsimp only); obtain ⟨v, hM, hB⟩ := hHeld; exact ⟨v, hM.bel hb, hB.bel hb⟩)); clear hK K; (try ((try simp only [List.getElem_toArray, List.getElem_cons_succ, List.getElem_cons_zero]); simp only [Act.put, List.setIfInBounds_toArray, List.set_cons_zero, List.set_cons_succ])))
  (refine wpAnyH_take (i := 8) (v := ?_) rfl (by kernel_rfl) (by kernel_rfl) (by kernel_rfl) (fun _ _ _ h => h) (Or.inl ⟨by rfl, ?_⟩) (by assumption) ?_; rotate_left 1; (focus (intro w hSw; (try dsimp only at hSw); obtain ⟨v, hM, hB⟩ := hSw; have x0 := hB.c 0 rfl; have x1 := hB.c 1 rfl; have x2 := hB.c 2 rfl; have y0 := hM.q9.c 0 rfl; have y1 := hM.q9.c 1 rfl; have y2 := hM.q9.c 2 rfl; have y3 := hM.q9.c 3 rfl; have y4 := hM.q9.c 4 rfl; have y5 := hM.q9.c 5 rfl; have y6 := hM.q9.c 6 rfl; have y7 := hM.q9.c 7 rfl; have y8 := hM.q9.c 8 rfl; have z0 := hM.q9.lt; have z1 := hM.f9.lt; have z2 := hB.lt; (try simp only [List.getElem_toArray, List.getElem_cons_succ, List.getElem_cons_zero]); go_simp; try with_reducible rfl)); ((try simp only [List.getElem_toArray, List.getElem_cons_succ, List.getElem_cons_zero]); simp only [Act.put, List.setIfInBounds_toArray, List.set_cons_zero, List.set_cons_succ]))
  refine wpAnyH_ready (rs := [9]) (by kernel_rfl) (by simp) ?_
  refine AllReadyH.cons rfl (fun K hK => ?_) AllReadyH.nil
  (try dsimp only at hHeld)
  obtain ⟨v, hM, hB⟩ := hHeld
  have tc := hM.f9.c 6 rfl
  have tf := hM.f9.f 6
  have z1 := hM.f9.lt
  have hM2 := Lib.hid (MS.same (hM.put (v := (rnd (p 6 * q 0 + p 7 * q 3 + p 8 * q 6) 65536)) rfl (by omega : 6 < 9) HN1.out (by omega) HN3.out) (updI_twice (updI (updI (updI (updI (updI (updI (fun _ => 0) 0 (rnd (p 0 * q 0 + p 1 * q 3 + p 2 * q 6) 65536)) 1 (rnd (p 0 * q 1 + p 1 * q 4 + p 2 * q 7) 65536)) 2 (rnd (p 0 * q 2 + p 1 * q 5 + p 2 * q 8) 65536)) 3 (rnd (p 3 * q 0 + p 4 * q 3 + p 5 * q 6) 65536)) 4 (rnd (p 3 * q 1 + p 4 * q 4 + p 5 * q 7) 65536)) 5 (rnd (p 3 * q 2 + p 4 * q 5 + p 5 * q 8) 65536)) 6 v (rnd (p 6 * q 0 + p 7 * q 3 + p 8 * q 6) 65536)))
  have hB2 := Lib.hid (hB.oth (c := w2.heap.size + 1) (by have := HRB2.out; omega) 6 (.int .i64 (rnd (p 6 * q 0 + p 7 * q 3 + p 8 * q 6) 65536)))
  go_simp
  refine hK.out _ _ ?_ (fun hHeld2 => ?_)
  · (try dsimp only); exact ⟨_, hM2.out, hB2.out⟩
  clear hK K; (try ((try simp only [List.getElem_toArray, List.getElem_cons_succ, List.getElem_cons_zero]); simp only [Act.put, List.setIfInBounds_toArray, List.set_cons_zero, List.set_cons_succ]))
  refine wpAnyH_done (by kernel_rfl) ?_ _
  refine NoPanic.normal ?_
  have S := hM2
  have B := hB2
  clear hM2 hB2 hHeld2 hM hB tc tf z1
  go_wp2_with fail
  obtain ⟨U6, hU6⟩ : ∃ U, U = w'.setCell ⟨w2.heap.size + 1, 6, none⟩ (.int .i64 (rnd (p 6 * q 0 + p 7 * q 3 + p 8 * q 6) 65536)) := ⟨_, rfl⟩
  rw [← hU6]
  rw [← hU6] at S B
  clear hU6
  rw [rounds_succ]
  go_wp2_with fail
  refine wp_region_noPanic ?_
  refine wp_region_held_drew (S := (fun w' => ∃ v, MS w w' (w.heap.size + 1 + 1) 0 w2.heap.size (w2.heap.size + 1) p q (updI (updI (updI (updI (updI (updI (updI (updI (fun _ => 0) 0 (rnd (p 0 * q 0 + p 1 * q 3 + p 2 * q 6) 65536)) 1 (rnd (p 0 * q 1 + p 1 * q 4 + p 2 * q 7) 65536)) 2 (rnd (p 0 * q 2 + p 1 * q 5 + p 2 * q 8) 65536)) 3 (rnd (p 3 * q 0 + p 4 * q 3 + p 5 * q 6) 65536)) 4 (rnd (p 3 * q 1 + p 4 * q 4 + p 5 * q 7) 65536)) 5 (rnd (p 3 * q 2 + p 4 * q 5 + p 5 * q 8) 65536)) 6 (rnd (p 6 * q 0 + p 7 * q 3 + p 8 * q 6) 65536)) 7 v) 0 ∧ Bx w' (U5.heap.size) [.int .i64 (p 6), .int .i64 (p 7), .int .i64 (p 8)])) (by kernel_rfl) ?_ (fun hHeld => ?_)
  · (try dsimp only); exact ⟨_, (MS.same S.out (updI_self (updI (updI (updI (updI (updI (updI (updI (fun _ => 0) 0 (rnd (p 0 * q 0 + p 1 * q 3 + p 2 * q 6) 65536)) 1 (rnd (p 0 * q 1 + p 1 * q 4 + p 2 * q 7) 65536)) 2 (rnd (p 0 * q 2 + p 1 * q 5 + p 2 * q 8) 65536)) 3 (rnd (p 3 * q 0 + p 4 * q 3 + p 5 * q 6) 65536)) 4 (rnd (p 3 * q 1 + p 4 * q 4 + p 5 * q 7) 65536)) 5 (rnd (p 3 * q 2 + p 4 * q 5 + p 5 * q 8) 65536)) 6 (rnd (p 6 * q 0 + p 7 * q 3 + p 8 * q 6) 65536)) 7).symm).bel (Below.refl _ _).drew, B.out.bel (Below.refl _ _).drew⟩
  change wpAnyH _ _ _ _ _ 10 _ _ _
  (refine wpAnyH_take (i := 0) (v := ?_) rfl (by kernel_rfl) (by kernel_rfl) (by kernel_rfl) (fun _ _ _ h => h) (Or.inl ⟨by rfl, ?_⟩) (by assumption) ?_; rotate_left 1; (focus (intro w hSw; (try dsimp only at hSw); (try simp only [List.getElem_toArray, List.getElem_cons_zero]); go_simp; try with_reducible rfl)); ((try simp only [List.getElem_toArray, List.getElem_cons_zero]); simp only [Act.put, List.setIfInBounds_toArray, List.set_cons_zero, List.set_cons_succ]))
  (refine wpAnyH_take (i := 1) (v := ?_) rfl (by kernel_rfl) (by kernel_rfl) (by kernel_rfl) (fun _ _ _ h => h) (Or.inl ⟨by rfl, ?_⟩) (by assumption) ?_; rotate_left 1; (focus (intro w hSw; (try dsimp only at hSw); (try simp only [List.getElem_toArray, List.getElem_cons_succ, List.getElem_cons_zero]); go_simp; try with_reducible rfl)); ((try simp only [List.getElem_toArray, List.getElem_cons_succ, List.getElem_cons_zero]); simp only [Act.put, List.setIfInBounds_toArray, List.set_cons_zero, List.set_cons_succ]))
  (refine wpAnyH_take (i := 2) (v := ?_) rfl (by kernel_rfl) (by kernel_rfl) (by kernel_rfl) (fun _ _ _ h => h) (Or.inl ⟨by rfl, ?_⟩) (by assumption) ?_; rotate_left 1; (focus (intro w hSw; (try dsimp only at hSw); obtain ⟨v, hM, hB⟩ := hSw; have x0 := hB.c 0 rfl; have x1 := hB.c 1 rfl; have x2 := hB.c 2 rfl; have y0 := hM.q9.c 0 rfl; have y1 := hM.q9.c 1 rfl; have y2 := hM.q9.c 2 rfl; have y3 := hM.q9.c 3 rfl; have y4 := hM.q9.c 4 rfl; have y5 := hM.q9.c 5 rfl; have y6 := hM.q9.c 6 rfl; have y7 := hM.q9.c 7 rfl; have y8 := hM.q9.c 8 rfl; have z0 := hM.q9.lt; have z1 := hM.f9.lt; have z2 := hB.lt; (try simp only [List.getElem_toArray, List.getElem_cons_succ, List.getElem_cons_zero]); go_simp; try with_reducible rfl)); ((try simp only [List.getElem_toArray, List.getElem_cons_succ, List.getElem_cons_zero]); simp only [Act.put, List.setIfInBounds_toArray, List.set_cons_zero, List.set_cons_succ]))
  (refine wpAnyH_take (i := 3) (v := ?_) rfl (by kernel_rfl) (by kernel_rfl) (by kernel_rfl) (fun _ _ _ h => h) (Or.inl ⟨by rfl, ?_⟩) (by assumption) ?_; rotate_left 1; (focus (intro w hSw; (try dsimp only at hSw); obtain ⟨v, hM, hB⟩ := hSw; have x0 := hB.c 0 rfl; have x1 := hB.c 1 rfl; have x2 := hB.c 2 rfl; have y0 := hM.q9.c 0 rfl; have y1 := hM.q9.c 1 rfl; have y2 := hM.q9.c 2 rfl; have y3 := hM.q9.c 3 rfl; have y4 := hM.q9.c 4 rfl; have y5 := hM.q9.c 5 rfl; have y6 := hM.q9.c 6 rfl; have y7 := hM.q9.c 7 rfl; have y8 := hM.q9.c 8 rfl; have z0 := hM.q9.lt; have z1 := hM.f9.lt; have z2 := hB.lt; (try simp only [List.getElem_toArray, List.getElem_cons_succ, List.getElem_cons_zero]); go_simp; try with_reducible rfl)); ((try simp only [List.getElem_toArray, List.getElem_cons_succ, List.getElem_cons_zero]); simp only [Act.put, List.setIfInBounds_toArray, List.set_cons_zero, List.set_cons_succ]))
  (refine wpAnyH_take (i := 4) (v := ?_) rfl (by kernel_rfl) (by kernel_rfl) (by kernel_rfl) (fun _ _ _ h => h) (Or.inl ⟨by rfl, ?_⟩) (by assumption) ?_; rotate_left 1; (focus (intro w hSw; (try dsimp only at hSw); (try simp only [List.getElem_toArray, List.getElem_cons_succ, List.getElem_cons_zero]); go_simp; try with_reducible rfl)); ((try simp only [List.getElem_toArray, List.getElem_cons_succ, List.getElem_cons_zero]); simp only [Act.put, List.setIfInBounds_toArray, List.set_cons_zero, List.set_cons_succ]))
  (refine wpAnyH_take (i := 7) (v := ?_) rfl (by kernel_rfl) (by kernel_rfl) (by kernel_rfl) (fun _ _ _ h => h) (Or.inl ⟨by rfl, ?_⟩) (by assumption) ?_; rotate_left 1; (focus (intro w hSw; (try dsimp only at hSw); obtain ⟨v, hM, hB⟩ := hSw; have x0 := hB.c 0 rfl; have x1 := hB.c 1 rfl; have x2 := hB.c 2 rfl; have y0 := hM.q9.c 0 rfl; have y1 := hM.q9.c 1 rfl; have y2 := hM.q9.c 2 rfl; have y3 := hM.q9.c 3 rfl; have y4 := hM.q9.c 4 rfl; have y5 := hM.q9.c 5 rfl; have y6 := hM.q9.c 6 rfl; have y7 := hM.q9.c 7 rfl; have y8 := hM.q9.c 8 rfl; have z0 := hM.q9.lt; have z1 := hM.f9.lt; have z2 := hB.lt; (try simp only [List.getElem_toArray, List.getElem_cons_succ, List.getElem_cons_zero]); go_simp; try with_reducible rfl)); ((try simp only [List.getElem_toArray, List.getElem_cons_succ, List.getElem_cons_zero]); simp only [Act.put, List.setIfInBounds_toArray, List.set_cons_zero, List.set_cons_succ]))
  (refine wpAnyH_ready (rs := [5]) (by kernel_rfl) (by simp) ?_; refine AllReadyH.cons rfl (fun K hK => ?_) AllReadyH.nil; go_simp; (go_at_call 82; refine (columnOf_1 q _).mono ?_; rintro e w' ⟨rfl, hb⟩); (try go_simp); refine hK.out _ _ ?_ (fun hHeld => ?_); (focus ((try dsimp only); obtain ⟨v, hM, hB⟩ := hHeld; exact ⟨v, hM.bel hb, hB.bel hb⟩)); clear hK K; (try ((try simp only [List.getElem_toArray, List.getElem_cons_succ, List.getElem_cons_zero]); simp only [Act.put, List.setIfInBounds_toArray, List.set_cons_zero, List.set_cons_succ])))
  (refine wpAnyH_ready (rs := [6]) (by kernel_rfl) (by simp) ?_; refine AllReadyH.cons rfl (fun K hK => ?_) AllReadyH.nil; go_simp; (go_at_call 81; refine (mixed_any _ _ _ _ _ _ _ (mq_bd HPB.out HQB.out (by omega) (by omega)) (mq_bd HPB.out HQB.out (by omega) (by omega)) (mq_bd HPB.out HQB.out (by omega) (by omega))).mono ?_; rintro e w' ⟨rfl, hb⟩); (try go_simp); refine hK.out _ _ ?_ (fun hHeld => ?_); (focus ((try dsimp only); obtain ⟨v, hM, hB⟩ := hHeld; exact ⟨v, hM.bel hb, hB.bel hb⟩)); clear hK K; (try ((try simp only [List.getElem_toArray, List.getElem_cons_succ, List.getElem_cons_zero]); simp only [Act.put, List.setIfInBounds_toArray, List.set_cons_zero, List.set_cons_succ])))
  (refine wpAnyH_take (i := 8) (v := ?_) rfl (by kernel_rfl) (by kernel_rfl) (by kernel_rfl) (fun _ _ _ h => h) (Or.inl ⟨by rfl, ?_⟩) (by assumption) ?_; rotate_left 1; (focus (intro w hSw; (try dsimp only at hSw); obtain ⟨v, hM, hB⟩ := hSw; have x0 := hB.c 0 rfl; have x1 := hB.c 1 rfl; have x2 := hB.c 2 rfl; have y0 := hM.q9.c 0 rfl; have y1 := hM.q9.c 1 rfl; have y2 := hM.q9.c 2 rfl; have y3 := hM.q9.c 3 rfl; have y4 := hM.q9.c 4 rfl; have y5 := hM.q9.c 5 rfl; have y6 := hM.q9.c 6 rfl; have y7 := hM.q9.c 7 rfl; have y8 := hM.q9.c 8 rfl; have z0 := hM.q9.lt; have z1 := hM.f9.lt; have z2 := hB.lt; (try simp only [List.getElem_toArray, List.getElem_cons_succ, List.getElem_cons_zero]); go_simp; try with_reducible rfl)); ((try simp only [List.getElem_toArray, List.getElem_cons_succ, List.getElem_cons_zero]); simp only [Act.put, List.setIfInBounds_toArray, List.set_cons_zero, List.set_cons_succ]))
  refine wpAnyH_ready (rs := [9]) (by kernel_rfl) (by simp) ?_
  refine AllReadyH.cons rfl (fun K hK => ?_) AllReadyH.nil
  (try dsimp only at hHeld)
  obtain ⟨v, hM, hB⟩ := hHeld
  have tc := hM.f9.c 7 rfl
  have tf := hM.f9.f 7
  have z1 := hM.f9.lt
  have hM2 := Lib.hid (MS.same (hM.put (v := (rnd (p 6 * q 1 + p 7 * q 4 + p 8 * q 7) 65536)) rfl (by omega : 7 < 9) HN1.out (by omega) HN3.out) (updI_twice (updI (updI (updI (updI (updI (updI (updI (fun _ => 0) 0 (rnd (p 0 * q 0 + p 1 * q 3 + p 2 * q 6) 65536)) 1 (rnd (p 0 * q 1 + p 1 * q 4 + p 2 * q 7) 65536)) 2 (rnd (p 0 * q 2 + p 1 * q 5 + p 2 * q 8) 65536)) 3 (rnd (p 3 * q 0 + p 4 * q 3 + p 5 * q 6) 65536)) 4 (rnd (p 3 * q 1 + p 4 * q 4 + p 5 * q 7) 65536)) 5 (rnd (p 3 * q 2 + p 4 * q 5 + p 5 * q 8) 65536)) 6 (rnd (p 6 * q 0 + p 7 * q 3 + p 8 * q 6) 65536)) 7 v (rnd (p 6 * q 1 + p 7 * q 4 + p 8 * q 7) 65536)))
  have hB2 := Lib.hid (hB.oth (c := w2.heap.size + 1) (by have := HRB2.out; omega) 7 (.int .i64 (rnd (p 6 * q 1 + p 7 * q 4 + p 8 * q 7) 65536)))
  go_simp
  refine hK.out _ _ ?_ (fun hHeld2 => ?_)
  · (try dsimp only); exact ⟨_, hM2.out, hB2.out⟩
  clear hK K; (try ((try simp only [List.getElem_toArray, List.getElem_cons_succ, List.getElem_cons_zero]); simp only [Act.put, List.setIfInBounds_toArray, List.set_cons_zero, List.set_cons_succ]))
  refine wpAnyH_done (by kernel_rfl) ?_ _
  refine NoPanic.normal ?_
  have S := hM2
  have B := hB2
  clear hM2 hB2 hHeld2 hM hB tc tf z1
  go_wp2_with fail
  obtain ⟨U7, hU7⟩ : ∃ U, U = w'.setCell ⟨w2.heap.size + 1, 7, none⟩ (.int .i64 (rnd (p 6 * q 1 + p 7 * q 4 + p 8 * q 7) 65536)) := ⟨_, rfl⟩
  rw [← hU7]
  rw [← hU7] at S B
  clear hU7
  rw [rounds_succ]
  go_wp2_with fail
  refine wp_region_noPanic ?_
  refine wp_region_held_drew (S := (fun w' => ∃ v, MS w w' (w.heap.size + 1 + 1) 0 w2.heap.size (w2.heap.size + 1) p q (updI (updI (updI (updI (updI (updI (updI (updI (updI (fun _ => 0) 0 (rnd (p 0 * q 0 + p 1 * q 3 + p 2 * q 6) 65536)) 1 (rnd (p 0 * q 1 + p 1 * q 4 + p 2 * q 7) 65536)) 2 (rnd (p 0 * q 2 + p 1 * q 5 + p 2 * q 8) 65536)) 3 (rnd (p 3 * q 0 + p 4 * q 3 + p 5 * q 6) 65536)) 4 (rnd (p 3 * q 1 + p 4 * q 4 + p 5 * q 7) 65536)) 5 (rnd (p 3 * q 2 + p 4 * q 5 + p 5 * q 8) 65536)) 6 (rnd (p 6 * q 0 + p 7 * q 3 + p 8 * q 6) 65536)) 7 (rnd (p 6 * q 1 + p 7 * q 4 + p 8 * q 7) 65536)) 8 v) 0 ∧ Bx w' (U5.heap.size) [.int .i64 (p 6), .int .i64 (p 7), .int .i64 (p 8)])) (by kernel_rfl) ?_ (fun hHeld => ?_)
  · (try dsimp only); exact ⟨_, (MS.same S.out (updI_self (updI (updI (updI (updI (updI (updI (updI (updI (fun _ => 0) 0 (rnd (p 0 * q 0 + p 1 * q 3 + p 2 * q 6) 65536)) 1 (rnd (p 0 * q 1 + p 1 * q 4 + p 2 * q 7) 65536)) 2 (rnd (p 0 * q 2 + p 1 * q 5 + p 2 * q 8) 65536)) 3 (rnd (p 3 * q 0 + p 4 * q 3 + p 5 * q 6) 65536)) 4 (rnd (p 3 * q 1 + p 4 * q 4 + p 5 * q 7) 65536)) 5 (rnd (p 3 * q 2 + p 4 * q 5 + p 5 * q 8) 65536)) 6 (rnd (p 6 * q 0 + p 7 * q 3 + p 8 * q 6) 65536)) 7 (rnd (p 6 * q 1 + p 7 * q 4 + p 8 * q 7) 65536)) 8).symm).bel (Below.refl _ _).drew, B.out.bel (Below.refl _ _).drew⟩
  change wpAnyH _ _ _ _ _ 10 _ _ _
  (refine wpAnyH_take (i := 0) (v := ?_) rfl (by kernel_rfl) (by kernel_rfl) (by kernel_rfl) (fun _ _ _ h => h) (Or.inl ⟨by rfl, ?_⟩) (by assumption) ?_; rotate_left 1; (focus (intro w hSw; (try dsimp only at hSw); (try simp only [List.getElem_toArray, List.getElem_cons_zero]); go_simp; try with_reducible rfl)); ((try simp only [List.getElem_toArray, List.getElem_cons_zero]); simp only [Act.put, List.setIfInBounds_toArray, List.set_cons_zero, List.set_cons_succ]))
  (refine wpAnyH_take (i := 1) (v := ?_) rfl (by kernel_rfl) (by kernel_rfl) (by kernel_rfl) (fun _ _ _ h => h) (Or.inl ⟨by rfl, ?_⟩) (by assumption) ?_; rotate_left 1; (focus (intro w hSw; (try dsimp only at hSw); (try simp only [List.getElem_toArray, List.getElem_cons_succ, List.getElem_cons_zero]); go_simp; try with_reducible rfl)); ((try simp only [List.getElem_toArray, List.getElem_cons_succ, List.getElem_cons_zero]); simp only [Act.put, List.setIfInBounds_toArray, List.set_cons_zero, List.set_cons_succ]))
  (refine wpAnyH_take (i := 2) (v := ?_) rfl (by kernel_rfl) (by kernel_rfl) (by kernel_rfl) (fun _ _ _ h => h) (Or.inl ⟨by rfl, ?_⟩) (by assumption) ?_; rotate_left 1; (focus (intro w hSw; (try dsimp only at hSw); obtain ⟨v, hM, hB⟩ := hSw; have x0 := hB.c 0 rfl; have x1 := hB.c 1 rfl; have x2 := hB.c 2 rfl; have y0 := hM.q9.c 0 rfl; have y1 := hM.q9.c 1 rfl; have y2 := hM.q9.c 2 rfl; have y3 := hM.q9.c 3 rfl; have y4 := hM.q9.c 4 rfl; have y5 := hM.q9.c 5 rfl; have y6 := hM.q9.c 6 rfl; have y7 := hM.q9.c 7 rfl; have y8 := hM.q9.c 8 rfl; have z0 := hM.q9.lt; have z1 := hM.f9.lt; have z2 := hB.lt; (try simp only [List.getElem_toArray, List.getElem_cons_succ, List.getElem_cons_zero]); go_simp; try with_reducible rfl)); ((try simp only [List.getElem_toArray, List.getElem_cons_succ, List.getElem_cons_zero]); simp only [Act.put, List.setIfInBounds_toArray, List.set_cons_zero, List.set_cons_succ]))
  (refine wpAnyH_take (i := 3) (v := ?_) rfl (by kernel_rfl) (by kernel_rfl) (by kernel_rfl) (fun _ _ _ h => h) (Or.inl ⟨by rfl, ?_⟩) (by assumption) ?_; rotate_left 1; (focus (intro w hSw; (try dsimp only at hSw); obtain ⟨v, hM, hB⟩ := hSw; have x0 := hB.c 0 rfl; have x1 := hB.c 1 rfl; have x2 := hB.c 2 rfl; have y0 := hM.q9.c 0 rfl; have y1 := hM.q9.c 1 rfl; have y2 := hM.q9.c 2 rfl; have y3 := hM.q9.c 3 rfl; have y4 := hM.q9.c 4 rfl; have y5 := hM.q9.c 5 rfl; have y6 := hM.q9.c 6 rfl; have y7 := hM.q9.c 7 rfl; have y8 := hM.q9.c 8 rfl; have z0 := hM.q9.lt; have z1 := hM.f9.lt; have z2 := hB.lt; (try simp only [List.getElem_toArray, List.getElem_cons_succ, List.getElem_cons_zero]); go_simp; try with_reducible rfl)); ((try simp only [List.getElem_toArray, List.getElem_cons_succ, List.getElem_cons_zero]); simp only [Act.put, List.setIfInBounds_toArray, List.set_cons_zero, List.set_cons_succ]))
  (refine wpAnyH_take (i := 4) (v := ?_) rfl (by kernel_rfl) (by kernel_rfl) (by kernel_rfl) (fun _ _ _ h => h) (Or.inl ⟨by rfl, ?_⟩) (by assumption) ?_; rotate_left 1; (focus (intro w hSw; (try dsimp only at hSw); (try simp only [List.getElem_toArray, List.getElem_cons_succ, List.getElem_cons_zero]); go_simp; try with_reducible rfl)); ((try simp only [List.getElem_toArray, List.getElem_cons_succ, List.getElem_cons_zero]); simp only [Act.put, List.setIfInBounds_toArray, List.set_cons_zero, List.set_cons_succ]))
  (refine wpAnyH_take (i := 7) (v := ?_) rfl (by kernel_rfl) (by kernel_rfl) (by kernel_rfl) (fun _ _ _ h => h) (Or.inl ⟨by rfl, ?_⟩) (by assumption) ?_; rotate_left 1; (focus (intro w hSw; (try dsimp only at hSw); obtain ⟨v, hM, hB⟩ := hSw; have x0 := hB.c 0 rfl; have x1 := hB.c 1 rfl; have x2 := hB.c 2 rfl; have y0 := hM.q9.c 0 rfl; have y1 := hM.q9.c 1 rfl; have y2 := hM.q9.c 2 rfl; have y3 := hM.q9.c 3 rfl; have y4 := hM.q9.c 4 rfl; have y5 := hM.q9.c 5 rfl; have y6 := hM.q9.c 6 rfl; have y7 := hM.q9.c 7 rfl; have y8 := hM.q9.c 8 rfl; have z0 := hM.q9.lt; have z1 := hM.f9.lt; have z2 := hB.lt; (try simp only [List.getElem_toArray, List.getElem_cons_succ, List.getElem_cons_zero]); go_simp; try with_reducible rfl)); ((try simp only [List.getElem_toArray, List.getElem_cons_succ, List.getElem_cons_zero]); simp only [Act.put, List.setIfInBounds_toArray, List.set_cons_zero, List.set_cons_succ]))
  (refine wpAnyH_ready (rs := [5]) (by kernel_rfl) (by simp) ?_; refine AllReadyH.cons rfl (fun K hK => ?_) AllReadyH.nil; go_simp; (go_at_call 82; refine (columnOf_2 q _).mono ?_; rintro e w' ⟨rfl, hb⟩); (try go_simp); refine hK.out _ _ ?_ (fun hHeld => ?_); (focus ((try dsimp only); obtain ⟨v, hM, hB⟩ := hHeld; exact ⟨v, hM.bel hb, hB.bel hb⟩)); clear hK K; (try ((try simp only [List.getElem_toArray, List.getElem_cons_succ, List.getElem_cons_zero]); simp only [Act.put, List.setIfInBounds_toArray, List.set_cons_zero, List.set_cons_succ])))
  (refine wpAnyH_ready (rs := [6]) (by kernel_rfl) (by simp) ?_; refine AllReadyH.cons rfl (fun K hK => ?_) AllReadyH.nil; go_simp; (go_at_call 81; refine (mixed_any _ _ _ _ _ _ _ (mq_bd HPB.out HQB.out (by omega) (by omega)) (mq_bd HPB.out HQB.out (by omega) (by omega)) (mq_bd HPB.out HQB.out (by omega) (by omega))).mono ?_; rintro e w' ⟨rfl, hb⟩); (try go_simp); refine hK.out _ _ ?_ (fun hHeld => ?_); (focus ((try dsimp only); obtain ⟨v, hM, hB⟩ := hHeld; exact ⟨v, hM.bel hb, hB.bel hb⟩)); clear hK K; (try ((try simp only [List.getElem_toArray, List.getElem_cons_succ, List.getElem_cons_zero]); simp only [Act.put, List.setIfInBounds_toArray, List.set_cons_zero, List.set_cons_succ])))
  (refine wpAnyH_take (i := 8) (v := ?_) rfl (by kernel_rfl) (by kernel_rfl) (by kernel_rfl) (fun _ _ _ h => h) (Or.inl ⟨by rfl, ?_⟩) (by assumption) ?_; rotate_left 1; (focus (intro w hSw; (try dsimp only at hSw); obtain ⟨v, hM, hB⟩ := hSw; have x0 := hB.c 0 rfl; have x1 := hB.c 1 rfl; have x2 := hB.c 2 rfl; have y0 := hM.q9.c 0 rfl; have y1 := hM.q9.c 1 rfl; have y2 := hM.q9.c 2 rfl; have y3 := hM.q9.c 3 rfl; have y4 := hM.q9.c 4 rfl; have y5 := hM.q9.c 5 rfl; have y6 := hM.q9.c 6 rfl; have y7 := hM.q9.c 7 rfl; have y8 := hM.q9.c 8 rfl; have z0 := hM.q9.lt; have z1 := hM.f9.lt; have z2 := hB.lt; (try simp only [List.getElem_toArray, List.getElem_cons_succ, List.getElem_cons_zero]); go_simp; try with_reducible rfl)); ((try simp only [List.getElem_toArray, List.getElem_cons_succ, List.getElem_cons_zero]); simp only [Act.put, List.setIfInBounds_toArray, List.set_cons_zero, List.set_cons_succ]))
  refine wpAnyH_ready (rs := [9]) (by kernel_rfl) (by simp) ?_
  refine AllReadyH.cons rfl (fun K hK => ?_) AllReadyH.nil
  (try dsimp only at hHeld)
  obtain ⟨v, hM, hB⟩ := hHeld
  have tc := hM.f9.c 8 rfl
  have tf := hM.f9.f 8
  have z1 := hM.f9.lt
  have hM2 := Lib.hid (MS.same (hM.put (v := (rnd (p 6 * q 2 + p 7 * q 5 + p 8 * q 8) 65536)) rfl (by omega : 8 < 9) HN1.out (by omega) HN3.out) (updI_twice (updI (updI (updI (updI (updI (updI (updI (updI (fun _ => 0) 0 (rnd (p 0 * q 0 + p 1 * q 3 + p 2 * q 6) 65536)) 1 (rnd (p 0 * q 1 + p 1 * q 4 + p 2 * q 7) 65536)) 2 (rnd (p 0 * q 2 + p 1 * q 5 + p 2 * q 8) 65536)) 3 (rnd (p 3 * q 0 + p 4 * q 3 + p 5 * q 6) 65536)) 4 (rnd (p 3 * q 1 + p 4 * q 4 + p 5 * q 7) 65536)) 5 (rnd (p 3 * q 2 + p 4 * q 5 + p 5 * q 8) 65536)) 6 (rnd (p 6 * q 0 + p 7 * q 3 + p 8 * q 6) 65536)) 7 (rnd (p 6 * q 1 + p 7 * q 4 + p 8 * q 7) 65536)) 8 v (rnd (p 6 * q 2 + p 7 * q 5 + p 8 * q 8) 65536)))
  have hB2 := Lib.hid (hB.oth (c := w2.heap.size + 1) (by have := HRB2.out; omega) 8 (.int .i64 (rnd (p 6 * q 2 + p 7 * q 5 + p 8 * q 8) 65536)))
  go_simp
  refine hK.out _ _ ?_ (fun hHeld2 => ?_)
  · (try dsimp only); exact ⟨_, hM2.out, hB2.out⟩
  clear hK K; (try ((try simp only [List.getElem_toArray, List.getElem_cons_succ, List.getElem_cons_zero]); simp only [Act.put, List.setIfInBounds_toArray, List.set_cons_zero, List.set_cons_succ]))
  refine wpAnyH_done (by kernel_rfl) ?_ _
  refine NoPanic.normal ?_
  have S := hM2
  have B := hB2
  clear hM2 hB2 hHeld2 hM hB tc tf z1
  go_wp2_with fail
  obtain ⟨U8, hU8⟩ : ∃ U, U = w'.setCell ⟨w2.heap.size + 1, 8, none⟩ (.int .i64 (rnd (p 6 * q 2 + p 7 * q 5 + p 8 * q 8) 65536)) := ⟨_, rfl⟩
  rw [← hU8]
  rw [← hU8] at S B
  clear hU8
  rw [rounds_succ]
  go_wp2_with fail
  have S3 := S
  clear S B
  rw [rounds_succ]
  have g0 : U8.cell? ⟨w2.heap.size + 1, 0, none⟩ = some (.int .i64 (rnd (p 0 * q 0 + p 1 * q 3 + p 2 * q 6) 65536)) := S3.out.f9.c 0 rfl
  have g1 : U8.cell? ⟨w2.heap.size + 1, 1, none⟩ = some (.int .i64 (rnd (p 0 * q 1 + p 1 * q 4 + p 2 * q 7) 65536)) := S3.out.f9.c 1 rfl
  have g2 : U8.cell? ⟨w2.heap.size + 1, 2, none⟩ = some (.int .i64 (rnd (p 0 * q 2 + p 1 * q 5 + p 2 * q 8) 65536)) := S3.out.f9.c 2 rfl
  have g3 : U8.cell? ⟨w2.heap.size + 1, 3, none⟩ = some (.int .i64 (rnd (p 3 * q 0 + p 4 * q 3 + p 5 * q 6) 65536)) := S3.out.f9.c 3 rfl
  have g4 : U8.cell? ⟨w2.heap.size + 1, 4, none⟩ = some (.int .i64 (rnd (p 3 * q 1 + p 4 * q 4 + p 5 * q 7) 65536)) := S3.out.f9.c 4 rfl
  have g5 : U8.cell? ⟨w2.heap.size + 1, 5, none⟩ = some (.int .i64 (rnd (p 3 * q 2 + p 4 * q 5 + p 5 * q 8) 65536)) := S3.out.f9.c 5 rfl
  have g6 : U8.cell? ⟨w2.heap.size + 1, 6, none⟩ = some (.int .i64 (rnd (p 6 * q 0 + p 7 * q 3 + p 8 * q 6) 65536)) := S3.out.f9.c 6 rfl
  have g7 : U8.cell? ⟨w2.heap.size + 1, 7, none⟩ = some (.int .i64 (rnd (p 6 * q 1 + p 7 * q 4 + p 8 * q 7) 65536)) := S3.out.f9.c 7 rfl
  have g8 : U8.cell? ⟨w2.heap.size + 1, 8, none⟩ = some (.int .i64 (rnd (p 6 * q 2 + p 7 * q 5 + p 8 * q 8) 65536)) := S3.out.f9.c 8 rfl
  go_wp2_with fail
  refine (matrixAnswer_any (mulQ p q) _).mono ?_
  rintro e w9 ⟨G, n9, c9, rfl, ho, hb⟩
  have R := Lib.hid (S3.out.r.bel hb)
  have T := Lib.hid (blThen S3.out.b hb)
  have HO := Lib.hid ho
  have HLT := Lib.hid S3.out.r.lt
  have HSZ := Lib.hid S3.out.b.size
  clear ho hb g0 g1 g2 g3 g4 g5 g6 g7 g8
  have r0 := R.out.c 0 rfl
  have r1 := R.out.c 1 rfl
  have z0 := R.out.f 0
  have z1 := R.out.f 1
  have m1 := R.out.lt
  have k0 := ((R.out.set 0 (.int .i64 (maC (mulQ p q)))).set 1 (.slice G n9 c9)).c 0 rfl
  have k1 := ((R.out.set 0 (.int .i64 (maC (mulQ p q)))).set 1 (.slice G n9 c9)).c 1 rfl
  have HE : Hid (maC (mulQ p q) = maC (mulQ (fl rs) (fl us)) ∧ maR (mulQ p q) = maR (mulQ (fl rs) (fl us))) := ma_congr fun t ht => by
    unfold mulQ mulS
    rw [HP.out _ (by omega), HP.out _ (by omega), HP.out _ (by omega), HQ.out _ (by omega), HQ.out _ (by omega), HQ.out _ (by omega)]
  go_wp2_with fail
  refine bodyPost_ret (v := .agg #[.int .i64 (maC (mulQ p q)), .slice G n9 c9]) (by simp [results, Try.results16, go_sem, k0, k1]) rfl ⟨G, n9, c9, by rw [← HE.out.1], ?_, ?_⟩
  · rw [← HE.out.2]
    refine Own.mono (lo := U8.heap.size) (hi := w9.heap.size) ?_ (by have := HSZ.out; omega) (by simp only [setSize]; exact Nat.le_refl _)
    repeat (refine Own.set ?_ (.inl (HLT.out)) _ _)
    exact HO.out
  · repeat (refine Below.setCell ?_ (by simp; try omega) _)
    exact T.out
end Go.Proofs.Ytmcdbingcclpcaa
