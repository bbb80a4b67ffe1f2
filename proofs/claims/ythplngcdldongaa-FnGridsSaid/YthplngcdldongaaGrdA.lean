/-
  The cells and rests of a colour, the axes by their rests: the reference model's l5Cells, l5Axes.
-/
import Derived.Test.YthplngcdldongaaGrdZ
namespace Go.Proofs.Ythplngcdldongaa
open Go.RowKit Go.Maps
set_option linter.unusedVariables false
set_option linter.unusedSimpArgs false

/-- one goes behind a list that has a block already; the new block is the old one or a new one. -/
theorem wpList_append_i64n (w : World) {ops : Array Oper} {rest : List Oper} {o : Oper} {a : Act} {Q : Exit → Act → World → Prop} (hgd : o.guard = none) (s x : Operand)
    (ho : o.op = .call { callee := .builtin .append, args := #[s, x], argTypes := #[27, 27] })
    (base g cp : Nat) (n n1 : Nat) (hn1 : n1 = n + 1) (ys : List Int) (hs : a.eval s = .slice (some ⟨g, 0, none⟩) n cp) (hown : OwnI w base (.slice (some ⟨g, 0, none⟩) n cp) n ys) (q c : Nat) (y : Int) (hx : a.eval x = .slice (some ⟨q, 0, none⟩) 1 c) (hq : w.cell? ⟨q, 0, none⟩ = some (.int .i64 y))
    (h63 : n ≤ 1000000000000) (hbase : base ≤ w.heap.size)
    (h : ∀ g' c' w', OwnI w' base (.slice (some ⟨g', 0, none⟩) n1 c') n1 (ys ++ [y]) → w.grownBy w' (some g) → Hid (g' = g ∨ g' = w.heap.size) → wpList Try.prog ops Q rest (a.put o.dst (.slice (some ⟨g', 0, none⟩) n1 c')) w') : wpList Try.prog ops Q (o :: rest) a w := by
  subst hn1
  refine wpList_plain hgd fun K hK => ?_
  obtain ⟨v', w', hr', h2, h3, h4⟩ := run_append_i64 w o.type base _ n ys hown q c y hq h63 hbase
  obtain ⟨g', c', rfl, -, -⟩ := World.ownsRow.form h2 (by omega)
  unfold Oper.wp execOp
  simp only [ho, resolve, invoke, builtin, Sem.run_bind, Sem.run_pure, Result.andThen_ok, List.map_toArray, List.map_cons, List.map_nil, hs, hx, hr']
  refine hK _ _ (h g' c' w' h2 h3 ?_)
  show _ ∨ _
  rcases h4 with h4 | h4
  · left; injection h4
  · right; injection h4
/-- two lists that grow side by side. -/
structure Two2 (w W : World) (base g1 c1 n1 : Nat) (xs : List Int) (g2 c2 n2 : Nat) (ys : List Int) : Prop where
  a : OwnI W base (.slice (some ⟨g1, 0, none⟩) n1 c1) n1 xs
  b : OwnI W base (.slice (some ⟨g2, 0, none⟩) n2 c2) n2 ys
  ne : g1 ≠ g2
  l1 : g1 < W.heap.size
  l2 : g2 < W.heap.size
  bl : Below w.heap.size w W
  hb : base = w.heap.size
theorem OwnI.kept2 {w w' : World} {base n : Nat} {g c g2 : Nat} {ys : List Int} (h : OwnI w base (.slice (some ⟨g, 0, none⟩) n c) n ys) (hg : w.grownBy w' (some g2)) (hne : g ≠ g2) : OwnI w' base (.slice (some ⟨g, 0, none⟩) n c) n ys :=
  World.ownsRow.kept h hg (.inr (fun e => hne (by injection e)))
theorem Two2.bel {w W W' : World} {base g1 c1 n1 g2 c2 n2 : Nat} {xs ys : List Int} (h : Two2 w W base g1 c1 n1 xs g2 c2 n2 ys) (hb : Below W.heap.size W W') : Two2 w W' base g1 c1 n1 xs g2 c2 n2 ys :=
  ⟨h.a.below hb, h.b.below hb, h.ne, by have := hb.size; have := h.l1; omega, by have := hb.size; have := h.l2; omega, blThen h.bl hb, h.hb⟩
theorem gb_bel {w W w' : World} {g : Nat} (h : Below w.heap.size w W) (hg : W.grownBy w' (some g)) (hgb : w.heap.size ≤ g) : Below w.heap.size w w' :=
  h.trans ⟨hg.os, hg.tape, hg.output, hg.size, fun i hi => hg.block i (by have := h.size; omega) (fun e => by injection e with e; omega)⟩
theorem Two2.next1 {w W w' : World} {base g1 c1 n1 g2 c2 n2 g' c' n' : Nat} {xs ys xs' : List Int} (h : Two2 w W base g1 c1 n1 xs g2 c2 n2 ys) (ho : OwnI w' base (.slice (some ⟨g', 0, none⟩) n' c') n' xs') (hg : W.grownBy w' (some g1)) (hd : g' = g1 ∨ g' = W.heap.size) : Two2 w w' base g' c' n' xs' g2 c2 n2 ys := by
  have l1 := h.l1; have l2 := h.l2; have ne := h.ne; have hs := hg.size
  have hlt := (World.ownsRow.lt ho g' rfl).2
  have hge := (World.ownsRow.lt h.a g1 rfl).1
  exact ⟨ho, h.b.kept2 hg (Ne.symm ne), by omega, hlt, by omega, gb_bel h.bl hg (by rw [← h.hb]; exact hge), h.hb⟩
theorem Two2.next2 {w W w' : World} {base g1 c1 n1 g2 c2 n2 g' c' n' : Nat} {xs ys ys' : List Int} (h : Two2 w W base g1 c1 n1 xs g2 c2 n2 ys) (ho : OwnI w' base (.slice (some ⟨g', 0, none⟩) n' c') n' ys') (hg : W.grownBy w' (some g2)) (hd : g' = g2 ∨ g' = W.heap.size) : Two2 w w' base g1 c1 n1 xs g' c' n' ys' := by
  have l1 := h.l1; have l2 := h.l2; have ne := h.ne; have hs := hg.size
  have hlt := (World.ownsRow.lt ho g' rfl).2
  have hge := (World.ownsRow.lt h.b g2 rfl).1
  exact ⟨h.a.kept2 hg ne, ho, by omega, by omega, hlt, gb_bel h.bl hg (by rw [← h.hb]; exact hge), h.hb⟩
theorem Two2.start (w : World) : Two2 w ((w.alloc (.cells #[] 2)).alloc (.cells #[] 2)) w.heap.size w.heap.size 0 0 [] (w.heap.size + 1) 0 0 [] := by
  have e := OwnI.empty (w.alloc (.cells #[] 2)) w.heap.size (by simp)
  simp only [World.size_alloc] at e
  exact ⟨(OwnI.empty w w.heap.size (Nat.le_refl _)).alloc _, e, by omega, by simp; omega, by simp, blThenAlloc (blAlloc _ _) _, rfl⟩
theorem OwnI.bx {w : World} {base g c : Nat} {a b d : Int} (h : OwnI w base (.slice (some ⟨g, 0, none⟩) 3 c) 3 [a, b, d]) : Bx w g [.int .i64 a, .int .i64 b, .int .i64 d] := by
  have hlt := (World.ownsRow.lt h g rfl).2
  have hc : ∀ j, j < 3 → w.cell? ⟨g, j, none⟩ = (ivals [a, b, d])[j]? := fun j hj => World.ownsRow.cellAt h j hj
  refine ⟨hlt, ?_, fun j v e => ?_⟩
  · rcases h.2 with ⟨hv, _⟩ | ⟨g', cap, cur, hv, b1, b2, _⟩
    · cases hv
    · injection hv with hv _ _
      injection hv with hv
      injection hv with hv _ _
      subst hv
      intro i; simp [World.frozen?, b2]
  · have hj : j < 3 := by
      have := (List.getElem?_eq_some_iff.1 e).1
      simpa using this
    rw [hc j hj]
    exact e
def C2Ans (w : World) (c r : Nat → Int) (e : Ending) (w' : World) : Prop :=
  ∃ g1 c1 g2 c2, e = .returned (.tuple #[.slice (some ⟨g1, 0, none⟩) 3 c1, .slice (some ⟨g2, 0, none⟩) 3 c2]) ∧ Bx w' g1 (rv c) ∧ Bx w' g2 (rv r) ∧ g1 ≠ g2 ∧ w.heap.size ≤ g1 ∧ w.heap.size ≤ g2 ∧ 3 ≤ c1 ∧ 3 ≤ c2 ∧ c1 ≤ maxLen ∧ c2 ≤ maxLen ∧ Below w.heap.size w w'
set_option maxRecDepth 100000 in
set_option maxHeartbeats 4000000 in
theorem sCells5_any (P : Option Addr) (d : Nat) (sd : Int) (xs : List Int) (v : Nat → Int) (w : World) (hp : Rd .i64 w P 3 xs) (hv : ∀ j, j < 3 → xs.getD j 0 = v j) (hs : sd = 2 ∨ sd = 3 ∨ sd = 4) (hl : Lv v) :
    Calls Try.prog 54 #[.int .i64 sd, .slice P 3 d] w (C2Ans w (cc sd v) (cr sd v)) := by
  obtain ⟨b, o, rfl, hx⟩ := hp.2 (by omega)
  have HX : Hid (∀ W, Below w.heap.size w W → ∀ j, j < 3 → W.cell? ⟨b, o + j, none⟩ = some (.int .i64 (v j))) := fun W hW j hj => by rw [← hv j hj]; exact cell_later hW (hx j hj)
  have HS := Lib.hid hs
  have HL := Lib.hid hl
  have HCC : Hid (∀ j, clC sd (v j) = cc sd v j ∧ clR sd (v j) = cr sd v j) := fun j => ⟨rfl, rfl⟩
  have T0 := Lib.hid (Two2.start w)
  clear hp hx hv hs hl
  go_enter Try.func54, Try.ntmps54
  go_wp2_with fail
  obtain ⟨W0, hW0⟩ : ∃ W, W = (w.alloc (.cells #[] 2)).alloc (.cells #[] 2) := ⟨_, rfl⟩
  rw [← hW0]
  replace T0 : Hid (Two2 w W0 w.heap.size w.heap.size 0 0 [] (w.heap.size + 1) 0 0 []) := by show Two2 _ _ _ _ _ _ _ _ _ _ _; rw [hW0]; exact T0.out
  clear hW0
  refine wp_loop_rounds 4 ?_
  rw [rounds_succ]
  have x0 := HX.out _ T0.out.bl 0 (by omega)
  rw [Nat.add_zero] at x0
  go_wp2_with (first | (go_at_call 93; refine (sCell5_any sd (v 0) _ HS.out (HL.out 0 (by omega)).1 (HL.out 0 (by omega)).2).mono ?_; rintro e w' ⟨rfl, rfl⟩; rw [(HCC.out 0).1, (HCC.out 0).2]) | (at_builtin; refine wpList_append_i64n _ rfl _ _ rfl w.heap.size w.heap.size 0 0 1 rfl [] rfl (T0.out.bel (blAlloc _ _)).a _ 1 (cc sd v 0) rfl (by simp) (by omega) (by simp; have := T0.out.bl.size; omega) ?_; intro g1 c1 u1 ho hg hd; have A0 := Lib.hid ((T0.out.bel (blAlloc _ _)).next1 (xs' := [cc sd v 0]) ho hg hd.out); clear ho hg hd) | (at_builtin; refine wpList_append_i64n _ rfl _ _ rfl w.heap.size (w.heap.size + 1) 0 0 1 rfl [] rfl (A0.out.bel (blAlloc _ _)).b _ 1 (cr sd v 0) rfl (by simp) (by omega) (by simp; have := A0.out.bl.size; omega) ?_; intro h1 d1 w1 ho hg hd; have T1 := Lib.hid ((A0.out.bel (blAlloc _ _)).next2 (ys' := [cr sd v 0]) ho hg hd.out); clear ho hg hd))
  clear T0 A0 x0
  rw [rounds_succ]
  have x1 := HX.out _ T1.out.bl 1 (by omega)
  skip
  go_wp2_with (first | (go_at_call 93; refine (sCell5_any sd (v 1) _ HS.out (HL.out 1 (by omega)).1 (HL.out 1 (by omega)).2).mono ?_; rintro e w' ⟨rfl, rfl⟩; rw [(HCC.out 1).1, (HCC.out 1).2]) | (at_builtin; refine wpList_append_i64n _ rfl _ _ rfl w.heap.size g1 c1 1 2 rfl [cc sd v 0] rfl (T1.out.bel (blAlloc _ _)).a _ 1 (cc sd v 1) rfl (by simp) (by omega) (by simp; have := T1.out.bl.size; omega) ?_; intro g2 c2 u2 ho hg hd; have A1 := Lib.hid ((T1.out.bel (blAlloc _ _)).next1 (xs' := [cc sd v 0, cc sd v 1]) ho hg hd.out); clear ho hg hd) | (at_builtin; refine wpList_append_i64n _ rfl _ _ rfl w.heap.size h1 d1 1 2 rfl [cr sd v 0] rfl (A1.out.bel (blAlloc _ _)).b _ 1 (cr sd v 1) rfl (by simp) (by omega) (by simp; have := A1.out.bl.size; omega) ?_; intro h2 d2 w2 ho hg hd; have T2 := Lib.hid ((A1.out.bel (blAlloc _ _)).next2 (ys' := [cr sd v 0, cr sd v 1]) ho hg hd.out); clear ho hg hd))
  clear T1 A1 x1
  rw [rounds_succ]
  have x2 := HX.out _ T2.out.bl 2 (by omega)
  skip
  go_wp2_with (first | (go_at_call 93; refine (sCell5_any sd (v 2) _ HS.out (HL.out 2 (by omega)).1 (HL.out 2 (by omega)).2).mono ?_; rintro e w' ⟨rfl, rfl⟩; rw [(HCC.out 2).1, (HCC.out 2).2]) | (at_builtin; refine wpList_append_i64n _ rfl _ _ rfl w.heap.size g2 c2 2 3 rfl [cc sd v 0, cc sd v 1] rfl (T2.out.bel (blAlloc _ _)).a _ 1 (cc sd v 2) rfl (by simp) (by omega) (by simp; have := T2.out.bl.size; omega) ?_; intro g3 c3 u3 ho hg hd; have A2 := Lib.hid ((T2.out.bel (blAlloc _ _)).next1 (xs' := [cc sd v 0, cc sd v 1, cc sd v 2]) ho hg hd.out); clear ho hg hd) | (at_builtin; refine wpList_append_i64n _ rfl _ _ rfl w.heap.size h2 d2 2 3 rfl [cr sd v 0, cr sd v 1] rfl (A2.out.bel (blAlloc _ _)).b _ 1 (cr sd v 2) rfl (by simp) (by omega) (by simp; have := A2.out.bl.size; omega) ?_; intro h3 d3 w3 ho hg hd; have T3 := Lib.hid ((A2.out.bel (blAlloc _ _)).next2 (ys' := [cr sd v 0, cr sd v 1, cr sd v 2]) ho hg hd.out); clear ho hg hd))
  clear T2 A2 x2
  rw [rounds_succ]
  go_wp2_with fail
  go_ret2
  obtain ⟨q1, q2, q3, q4, q5, q6, q7⟩ := T3.out
  have hc1 := q1.own.hd
  have hc2 := q2.own.hd
  obtain ⟨_, hc1⟩ := hc1
  obtain ⟨_, hc2⟩ := hc2
  exact ⟨_, _, _, _, rfl, q1.bx, q2.bx, q3, (World.ownsRow.lt q1 _ rfl).1, (World.ownsRow.lt q2 _ rfl).1, hc1.caps.1, hc2.caps.1, hc1.caps.2, hc2.caps.2, q6⟩
set_option maxRecDepth 100000 in
set_option maxHeartbeats 8000000 in
theorem sAxes5_any (g d : Nat) (r : Nat → Int) (w : World) (hg : Bx w g (rv r)) : Calls Try.prog 95 #[.slice (some ⟨g, 0, none⟩) 3 d] w (AxAns w r) := by
  obtain ⟨W0, hW0⟩ : ∃ W, W = w.alloc (.cells #[.int .i64 0, .int .i64 1, .int .i64 2] 3) := ⟨_, rfl⟩
  have B0 : Hid (Bx W0 w.heap.size (av 0 1 2)) := by show Bx _ _ _; rw [hW0]; exact Bx.new _ _ _ rfl
  have G0 : Hid (Bx W0 g (rv r)) := by show Bx _ _ _; rw [hW0]; exact hg.alloc _
  have T0 : Hid (Below w.heap.size w W0) := by show Below _ _ _; rw [hW0]; exact blAlloc _ _
  have hne : w.heap.size ≠ g := by have := hg.lt; omega
  clear hg
  go_enter Try.func95, Try.ntmps95
  go_wp2_with fail
  rw [← hW0]
  clear hW0
  have x0 := B0.out.c 0 rfl
  have x1 := B0.out.c 1 rfl
  have x2 := B0.out.c 2 rfl
  have z0 := B0.out.f 0
  have z1 := B0.out.f 1
  have z2 := B0.out.f 2
  have y0 := G0.out.c 0 rfl
  have y1 := G0.out.c 1 rfl
  have y2 := G0.out.c 2 rfl
  refine wp_loop_rounds 3 ?_
  rw [rounds_succ]
  go_wp2_with fail
  refine wp_loop_rounds 2 ?_
  rw [rounds_succ]
  by_cases h01 : r 0 < r 1
  · have hd : decide (r 1 > r 0) = true := decide_eq_true h01
    go_wp2_with fail
    go_quiet (fail)
    clear hd
    go_wp2_with fail
    obtain ⟨W1, hW1⟩ : ∃ W, W = ((W0.drewN nq).setCell ⟨w.heap.size, 1, none⟩ (.int .i64 0)).setCell ⟨w.heap.size, 0, none⟩ (.int .i64 1) := ⟨_, rfl⟩
    have B1 : Hid (Bx W1 w.heap.size (av 1 0 2)) := by show Bx _ _ _; rw [hW1]; exact ((B0.out.drewN _).set 1 (.int .i64 0)).set 0 (.int .i64 1)
    have G1 : Hid (Bx W1 g (rv r)) := by show Bx _ _ _; rw [hW1]; exact ((G0.out.drewN _).oth hne 1 _).oth hne 0 _
    have T1 : Hid (Below w.heap.size w W1) := by show Below _ _ _; rw [hW1]; exact bel1 (bel1 (blThenDrew T0.out _) (Nat.le_refl _) 1 _) (Nat.le_refl _) 0 _
    rw [← hW1]
    clear hW1 x0 x1 x2 z0 z1 z2 y0 y1 y2 B0 G0 T0 nq
    have x0 := B1.out.c 0 rfl
    have x1 := B1.out.c 1 rfl
    have x2 := B1.out.c 2 rfl
    have z0 := B1.out.f 0
    have z1 := B1.out.f 1
    have z2 := B1.out.f 2
    have y0 := G1.out.c 0 rfl
    have y1 := G1.out.c 1 rfl
    have y2 := G1.out.c 2 rfl
    rw [rounds_succ]
    go_wp2_with fail
    go_quiet (fail)
    obtain ⟨W2, hW2⟩ : ∃ W, W = W1.drewN nq := ⟨_, rfl⟩
    have B2 : Hid (Bx W2 w.heap.size (av 1 0 2)) := by show Bx _ _ _; rw [hW2]; exact B1.out.drewN _
    have G2 : Hid (Bx W2 g (rv r)) := by show Bx _ _ _; rw [hW2]; exact G1.out.drewN _
    have T2 : Hid (Below w.heap.size w W2) := by show Below _ _ _; rw [hW2]; exact blThenDrew T1.out _
    rw [← hW2]
    clear hW2 x0 x1 x2 z0 z1 z2 y0 y1 y2 B1 G1 T1 nq
    have x0 := B2.out.c 0 rfl
    have x1 := B2.out.c 1 rfl
    have x2 := B2.out.c 2 rfl
    have z0 := B2.out.f 0
    have z1 := B2.out.f 1
    have z2 := B2.out.f 2
    have y0 := G2.out.c 0 rfl
    have y1 := G2.out.c 1 rfl
    have y2 := G2.out.c 2 rfl
    go_wp2_with fail
    rw [rounds_succ]
    go_wp2_with fail
    refine wp_loop_rounds 3 ?_
    rw [rounds_succ]
    by_cases h02 : r 0 < r 2
    · have hd : decide (r 2 > r 0) = true := decide_eq_true h02
      go_wp2_with fail
      go_quiet (fail)
      clear hd
      go_wp2_with fail
      obtain ⟨W3, hW3⟩ : ∃ W, W = ((W2.drewN nq).setCell ⟨w.heap.size, 2, none⟩ (.int .i64 0)).setCell ⟨w.heap.size, 1, none⟩ (.int .i64 2) := ⟨_, rfl⟩
      have B3 : Hid (Bx W3 w.heap.size (av 1 2 0)) := by show Bx _ _ _; rw [hW3]; exact ((B2.out.drewN _).set 2 (.int .i64 0)).set 1 (.int .i64 2)
      have G3 : Hid (Bx W3 g (rv r)) := by show Bx _ _ _; rw [hW3]; exact ((G2.out.drewN _).oth hne 2 _).oth hne 1 _
      have T3 : Hid (Below w.heap.size w W3) := by show Below _ _ _; rw [hW3]; exact bel1 (bel1 (blThenDrew T2.out _) (Nat.le_refl _) 2 _) (Nat.le_refl _) 1 _
      rw [← hW3]
      clear hW3 x0 x1 x2 z0 z1 z2 y0 y1 y2 B2 G2 T2 nq
      have x0 := B3.out.c 0 rfl
      have x1 := B3.out.c 1 rfl
      have x2 := B3.out.c 2 rfl
      have z0 := B3.out.f 0
      have z1 := B3.out.f 1
      have z2 := B3.out.f 2
      have y0 := G3.out.c 0 rfl
      have y1 := G3.out.c 1 rfl
      have y2 := G3.out.c 2 rfl
      rw [rounds_succ]
      by_cases h12 : r 1 < r 2
      · have hd : decide (r 2 > r 1) = true := decide_eq_true h12
        go_wp2_with fail
        go_quiet (fail)
        clear hd
        go_wp2_with fail
        obtain ⟨W4, hW4⟩ : ∃ W, W = ((W3.drewN nq).setCell ⟨w.heap.size, 1, none⟩ (.int .i64 1)).setCell ⟨w.heap.size, 0, none⟩ (.int .i64 2) := ⟨_, rfl⟩
        have B4 : Hid (Bx W4 w.heap.size (av 2 1 0)) := by show Bx _ _ _; rw [hW4]; exact ((B3.out.drewN _).set 1 (.int .i64 1)).set 0 (.int .i64 2)
        have G4 : Hid (Bx W4 g (rv r)) := by show Bx _ _ _; rw [hW4]; exact ((G3.out.drewN _).oth hne 1 _).oth hne 0 _
        have T4 : Hid (Below w.heap.size w W4) := by show Below _ _ _; rw [hW4]; exact bel1 (bel1 (blThenDrew T3.out _) (Nat.le_refl _) 1 _) (Nat.le_refl _) 0 _
        rw [← hW4]
        clear hW4 x0 x1 x2 z0 z1 z2 y0 y1 y2 B3 G3 T3 nq
        have x0 := B4.out.c 0 rfl
        have x1 := B4.out.c 1 rfl
        have x2 := B4.out.c 2 rfl
        have z0 := B4.out.f 0
        have z1 := B4.out.f 1
        have z2 := B4.out.f 2
        have y0 := G4.out.c 0 rfl
        have y1 := G4.out.c 1 rfl
        have y2 := G4.out.c 2 rfl
        rw [rounds_succ]
        go_wp2_with fail
        go_quiet (fail)
        obtain ⟨W5, hW5⟩ : ∃ W, W = W4.drewN nq := ⟨_, rfl⟩
        have B5 : Hid (Bx W5 w.heap.size (av 2 1 0)) := by show Bx _ _ _; rw [hW5]; exact B4.out.drewN _
        have G5 : Hid (Bx W5 g (rv r)) := by show Bx _ _ _; rw [hW5]; exact G4.out.drewN _
        have T5 : Hid (Below w.heap.size w W5) := by show Below _ _ _; rw [hW5]; exact blThenDrew T4.out _
        rw [← hW5]
        clear hW5 x0 x1 x2 z0 z1 z2 y0 y1 y2 B4 G4 T4 nq
        have x0 := B5.out.c 0 rfl
        have x1 := B5.out.c 1 rfl
        have x2 := B5.out.c 2 rfl
        have z0 := B5.out.f 0
        have z1 := B5.out.f 1
        have z2 := B5.out.f 2
        have y0 := G5.out.c 0 rfl
        have y1 := G5.out.c 1 rfl
        have y2 := G5.out.c 2 rfl
        go_wp2_with fail
        rw [rounds_succ]
        go_wp2_with fail
        go_ret
        refine ⟨w.heap.size, rfl, ?_, Nat.le_refl _, T5.out⟩
        rw [show oax r = av 2 1 0 from oax_210 (by omega) (by omega) (by omega)]
        exact B5.out
      · have hd : decide (r 2 > r 1) = false := decide_eq_false h12
        go_wp2_with fail
        go_quiet (fail)
        clear hd
        obtain ⟨W6, hW6⟩ : ∃ W, W = W3.drewN nq := ⟨_, rfl⟩
        have B6 : Hid (Bx W6 w.heap.size (av 1 2 0)) := by show Bx _ _ _; rw [hW6]; exact B3.out.drewN _
        have G6 : Hid (Bx W6 g (rv r)) := by show Bx _ _ _; rw [hW6]; exact G3.out.drewN _
        have T6 : Hid (Below w.heap.size w W6) := by show Below _ _ _; rw [hW6]; exact blThenDrew T3.out _
        rw [← hW6]
        clear hW6 x0 x1 x2 z0 z1 z2 y0 y1 y2 B3 G3 T3 nq
        have x0 := B6.out.c 0 rfl
        have x1 := B6.out.c 1 rfl
        have x2 := B6.out.c 2 rfl
        have z0 := B6.out.f 0
        have z1 := B6.out.f 1
        have z2 := B6.out.f 2
        have y0 := G6.out.c 0 rfl
        have y1 := G6.out.c 1 rfl
        have y2 := G6.out.c 2 rfl
        go_wp2_with fail
        rw [rounds_succ]
        go_wp2_with fail
        go_ret
        refine ⟨w.heap.size, rfl, ?_, Nat.le_refl _, T6.out⟩
        rw [show oax r = av 1 2 0 from oax_120 (by omega) (by omega) (by omega)]
        exact B6.out
    · have hd : decide (r 2 > r 0) = false := decide_eq_false h02
      go_wp2_with fail
      go_quiet (fail)
      clear hd
      obtain ⟨W7, hW7⟩ : ∃ W, W = W2.drewN nq := ⟨_, rfl⟩
      have B7 : Hid (Bx W7 w.heap.size (av 1 0 2)) := by show Bx _ _ _; rw [hW7]; exact B2.out.drewN _
      have G7 : Hid (Bx W7 g (rv r)) := by show Bx _ _ _; rw [hW7]; exact G2.out.drewN _
      have T7 : Hid (Below w.heap.size w W7) := by show Below _ _ _; rw [hW7]; exact blThenDrew T2.out _
      rw [← hW7]
      clear hW7 x0 x1 x2 z0 z1 z2 y0 y1 y2 B2 G2 T2 nq
      have x0 := B7.out.c 0 rfl
      have x1 := B7.out.c 1 rfl
      have x2 := B7.out.c 2 rfl
      have z0 := B7.out.f 0
      have z1 := B7.out.f 1
      have z2 := B7.out.f 2
      have y0 := G7.out.c 0 rfl
      have y1 := G7.out.c 1 rfl
      have y2 := G7.out.c 2 rfl
      go_wp2_with fail
      rw [rounds_succ]
      go_wp2_with fail
      go_ret
      refine ⟨w.heap.size, rfl, ?_, Nat.le_refl _, T7.out⟩
      rw [show oax r = av 1 0 2 from oax_102 (by omega) (by omega)]
      exact B7.out
  · have hd : decide (r 1 > r 0) = false := decide_eq_false h01
    go_wp2_with fail
    go_quiet (fail)
    clear hd
    obtain ⟨W8, hW8⟩ : ∃ W, W = W0.drewN nq := ⟨_, rfl⟩
    have B8 : Hid (Bx W8 w.heap.size (av 0 1 2)) := by show Bx _ _ _; rw [hW8]; exact B0.out.drewN _
    have G8 : Hid (Bx W8 g (rv r)) := by show Bx _ _ _; rw [hW8]; exact G0.out.drewN _
    have T8 : Hid (Below w.heap.size w W8) := by show Below _ _ _; rw [hW8]; exact blThenDrew T0.out _
    rw [← hW8]
    clear hW8 x0 x1 x2 z0 z1 z2 y0 y1 y2 B0 G0 T0 nq
    have x0 := B8.out.c 0 rfl
    have x1 := B8.out.c 1 rfl
    have x2 := B8.out.c 2 rfl
    have z0 := B8.out.f 0
    have z1 := B8.out.f 1
    have z2 := B8.out.f 2
    have y0 := G8.out.c 0 rfl
    have y1 := G8.out.c 1 rfl
    have y2 := G8.out.c 2 rfl
    go_wp2_with fail
    rw [rounds_succ]
    go_wp2_with fail
    refine wp_loop_rounds 3 ?_
    rw [rounds_succ]
    by_cases h12 : r 1 < r 2
    · have hd : decide (r 2 > r 1) = true := decide_eq_true h12
      go_wp2_with fail
      go_quiet (fail)
      clear hd
      go_wp2_with fail
      obtain ⟨W9, hW9⟩ : ∃ W, W = ((W8.drewN nq).setCell ⟨w.heap.size, 2, none⟩ (.int .i64 1)).setCell ⟨w.heap.size, 1, none⟩ (.int .i64 2) := ⟨_, rfl⟩
      have B9 : Hid (Bx W9 w.heap.size (av 0 2 1)) := by show Bx _ _ _; rw [hW9]; exact ((B8.out.drewN _).set 2 (.int .i64 1)).set 1 (.int .i64 2)
      have G9 : Hid (Bx W9 g (rv r)) := by show Bx _ _ _; rw [hW9]; exact ((G8.out.drewN _).oth hne 2 _).oth hne 1 _
      have T9 : Hid (Below w.heap.size w W9) := by show Below _ _ _; rw [hW9]; exact bel1 (bel1 (blThenDrew T8.out _) (Nat.le_refl _) 2 _) (Nat.le_refl _) 1 _
      rw [← hW9]
      clear hW9 x0 x1 x2 z0 z1 z2 y0 y1 y2 B8 G8 T8 nq
      have x0 := B9.out.c 0 rfl
      have x1 := B9.out.c 1 rfl
      have x2 := B9.out.c 2 rfl
      have z0 := B9.out.f 0
      have z1 := B9.out.f 1
      have z2 := B9.out.f 2
      have y0 := G9.out.c 0 rfl
      have y1 := G9.out.c 1 rfl
      have y2 := G9.out.c 2 rfl
      rw [rounds_succ]
      by_cases h02 : r 0 < r 2
      · have hd : decide (r 2 > r 0) = true := decide_eq_true h02
        go_wp2_with fail
        go_quiet (fail)
        clear hd
        go_wp2_with fail
        obtain ⟨W10, hW10⟩ : ∃ W, W = ((W9.drewN nq).setCell ⟨w.heap.size, 1, none⟩ (.int .i64 0)).setCell ⟨w.heap.size, 0, none⟩ (.int .i64 2) := ⟨_, rfl⟩
        have B10 : Hid (Bx W10 w.heap.size (av 2 0 1)) := by show Bx _ _ _; rw [hW10]; exact ((B9.out.drewN _).set 1 (.int .i64 0)).set 0 (.int .i64 2)
        have G10 : Hid (Bx W10 g (rv r)) := by show Bx _ _ _; rw [hW10]; exact ((G9.out.drewN _).oth hne 1 _).oth hne 0 _
        have T10 : Hid (Below w.heap.size w W10) := by show Below _ _ _; rw [hW10]; exact bel1 (bel1 (blThenDrew T9.out _) (Nat.le_refl _) 1 _) (Nat.le_refl _) 0 _
        rw [← hW10]
        clear hW10 x0 x1 x2 z0 z1 z2 y0 y1 y2 B9 G9 T9 nq
        have x0 := B10.out.c 0 rfl
        have x1 := B10.out.c 1 rfl
        have x2 := B10.out.c 2 rfl
        have z0 := B10.out.f 0
        have z1 := B10.out.f 1
        have z2 := B10.out.f 2
        have y0 := G10.out.c 0 rfl
        have y1 := G10.out.c 1 rfl
        have y2 := G10.out.c 2 rfl
        rw [rounds_succ]
        go_wp2_with fail
        go_quiet (fail)
        obtain ⟨W11, hW11⟩ : ∃ W, W = W10.drewN nq := ⟨_, rfl⟩
        have B11 : Hid (Bx W11 w.heap.size (av 2 0 1)) := by show Bx _ _ _; rw [hW11]; exact B10.out.drewN _
        have G11 : Hid (Bx W11 g (rv r)) := by show Bx _ _ _; rw [hW11]; exact G10.out.drewN _
        have T11 : Hid (Below w.heap.size w W11) := by show Below _ _ _; rw [hW11]; exact blThenDrew T10.out _
        rw [← hW11]
        clear hW11 x0 x1 x2 z0 z1 z2 y0 y1 y2 B10 G10 T10 nq
        have x0 := B11.out.c 0 rfl
        have x1 := B11.out.c 1 rfl
        have x2 := B11.out.c 2 rfl
        have z0 := B11.out.f 0
        have z1 := B11.out.f 1
        have z2 := B11.out.f 2
        have y0 := G11.out.c 0 rfl
        have y1 := G11.out.c 1 rfl
        have y2 := G11.out.c 2 rfl
        go_wp2_with fail
        rw [rounds_succ]
        go_wp2_with fail
        go_ret
        refine ⟨w.heap.size, rfl, ?_, Nat.le_refl _, T11.out⟩
        rw [show oax r = av 2 0 1 from oax_201 (by omega) (by omega) (by omega)]
        exact B11.out
      · have hd : decide (r 2 > r 0) = false := decide_eq_false h02
        go_wp2_with fail
        go_quiet (fail)
        clear hd
        obtain ⟨W12, hW12⟩ : ∃ W, W = W9.drewN nq := ⟨_, rfl⟩
        have B12 : Hid (Bx W12 w.heap.size (av 0 2 1)) := by show Bx _ _ _; rw [hW12]; exact B9.out.drewN _
        have G12 : Hid (Bx W12 g (rv r)) := by show Bx _ _ _; rw [hW12]; exact G9.out.drewN _
        have T12 : Hid (Below w.heap.size w W12) := by show Below _ _ _; rw [hW12]; exact blThenDrew T9.out _
        rw [← hW12]
        clear hW12 x0 x1 x2 z0 z1 z2 y0 y1 y2 B9 G9 T9 nq
        have x0 := B12.out.c 0 rfl
        have x1 := B12.out.c 1 rfl
        have x2 := B12.out.c 2 rfl
        have z0 := B12.out.f 0
        have z1 := B12.out.f 1
        have z2 := B12.out.f 2
        have y0 := G12.out.c 0 rfl
        have y1 := G12.out.c 1 rfl
        have y2 := G12.out.c 2 rfl
        go_wp2_with fail
        rw [rounds_succ]
        go_wp2_with fail
        go_ret
        refine ⟨w.heap.size, rfl, ?_, Nat.le_refl _, T12.out⟩
        rw [show oax r = av 0 2 1 from oax_021 (by omega) (by omega) (by omega)]
        exact B12.out
    · have hd : decide (r 2 > r 1) = false := decide_eq_false h12
      go_wp2_with fail
      go_quiet (fail)
      clear hd
      obtain ⟨W13, hW13⟩ : ∃ W, W = W8.drewN nq := ⟨_, rfl⟩
      have B13 : Hid (Bx W13 w.heap.size (av 0 1 2)) := by show Bx _ _ _; rw [hW13]; exact B8.out.drewN _
      have G13 : Hid (Bx W13 g (rv r)) := by show Bx _ _ _; rw [hW13]; exact G8.out.drewN _
      have T13 : Hid (Below w.heap.size w W13) := by show Below _ _ _; rw [hW13]; exact blThenDrew T8.out _
      rw [← hW13]
      clear hW13 x0 x1 x2 z0 z1 z2 y0 y1 y2 B8 G8 T8 nq
      have x0 := B13.out.c 0 rfl
      have x1 := B13.out.c 1 rfl
      have x2 := B13.out.c 2 rfl
      have z0 := B13.out.f 0
      have z1 := B13.out.f 1
      have z2 := B13.out.f 2
      have y0 := G13.out.c 0 rfl
      have y1 := G13.out.c 1 rfl
      have y2 := G13.out.c 2 rfl
      go_wp2_with fail
      rw [rounds_succ]
      go_wp2_with fail
      go_ret
      refine ⟨w.heap.size, rfl, ?_, Nat.le_refl _, T13.out⟩
      rw [show oax r = av 0 1 2 from oax_012 (by omega) (by omega)]
      exact B13.out
end Go.Proofs.Ythplngcdldongaa
