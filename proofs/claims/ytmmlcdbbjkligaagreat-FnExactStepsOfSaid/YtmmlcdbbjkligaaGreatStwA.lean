/-
  The colours on the way through a chain, as lists: the model's StepsOf. Rows that grow around a box.
-/
import Derived.Test.YtmmlcdbbjkligaaGreatStvA
import Derived.Test.YtmmlcdbbjkligaaGreatChwA
import Derived.Test.YtmmlcdbbjkligaaGreatLinS
import Derived.Deep.RegionLaw
namespace Go.Proofs.YtmmlcdbbjkligaaGreat
open Go.RowKit Go.Maps
set_option linter.unusedVariables false
set_option linter.unusedSimpArgs false

/-- rows, none of which lies at the block q. -/
def RsQ (W : World) (base : Nat) (v : Value) (n : Nat) (rs : Rws) (q : Nat) : Prop :=
  ∃ V lo hi, RsG W base v n rs W.heap.size V lo hi ∧ (∀ i, i < n → hi i ≤ q ∨ q < lo i) ∧ ∀ g, v.ownBlock = some g → g ≠ q
theorem RsQ.below {W W' : World} {base n q : Nat} {v : Value} {rs : Rws} (h : RsQ W base v n rs q) (hb : Below W.heap.size W W') : RsQ W' base v n rs q := by
  obtain ⟨V, lo, hi, h, hq, hv⟩ := h
  have h' := h.bel hb
  have hs := hb.size
  exact ⟨V, lo, hi, ⟨h'.own, h'.len, fun i hi => by
    obtain ⟨a, b, c, d, e⟩ := h'.row i hi
    exact ⟨a, b, c, by omega, e⟩, h'.dis, fun g q => by have := h'.vl g q; omega, by have := h'.bl; omega, Nat.le_refl _⟩, hq, hv⟩
theorem RsQ.set {W : World} {base n q : Nat} {v : Value} {rs : Rws} (h : RsQ W base v n rs q) (i : Nat) (x : Value) : RsQ (W.setCell ⟨q, i, none⟩ x) base v n rs q := by
  obtain ⟨V, lo, hi, h, hq, hv⟩ := h
  have hz : (W.setCell ⟨q, i, none⟩ x).heap.size = W.heap.size := setSize _ _ _
  refine ⟨V, lo, hi, ⟨h.own.block fun g e => Below.heap_setCell _ _ _ _ (hv g e), h.len, fun j hj => ?_, h.dis, fun g e => by rw [hz]; exact h.vl g e, by rw [hz]; exact h.bl, Nat.le_refl _⟩, hq, hv⟩
  obtain ⟨a, b, c, d, e⟩ := h.row j hj
  exact ⟨a.block fun g g1 g2 _ => Below.heap_setCell _ _ _ _ (by have := hq j hj; show g ≠ q; omega), b, c, by rw [hz]; exact d, e⟩
theorem RsQ.fin {W : World} {base n q : Nat} {v : Value} {rs : Rws} (h : RsQ W base v n rs q) : Own W (rowsD rs) v base W.heap.size := by
  obtain ⟨V, lo, hi, h, -, -⟩ := h
  exact h.fin
theorem RsQ.vl {W : World} {base n q : Nat} {v : Value} {rs : Rws} (h : RsQ W base v n rs q) : base ≤ W.heap.size ∧ ∀ g, v.ownBlock = some g → g < W.heap.size := by
  obtain ⟨V, lo, hi, h, -, -⟩ := h
  exact ⟨h.bl, h.vl⟩
set_option maxHeartbeats 1000000 in
theorem step_append_rsq (w : World) {ops : Array Oper} {op : Oper} {a : Act} {K : Act → World → Prop} {Q : Exit → Act → World → Prop} {E : Prop} (hgd : op.guard = none) (s x : Operand)
    (ho : op.op = .call { callee := .builtin .append, args := #[s, x], argTypes := #[23, 23] })
    (w0 : World) (t : TypeId) (base b : Nat) (v : Value) (n : Nat) (rs : Rws) (xs : List Int) (y : Value) (lo : Nat) (hs : a.eval s = v) (hw : w = w0.alloc (.cells #[y] t)) (q : Nat) (hx : a.eval x = .slice (some ⟨q, 0, none⟩) 1 1) (hq : q = w0.heap.size)
    (W1 : World) (hW : Below W1.heap.size W1 w0) (h : RsQ W1 base v n rs b) (hr : Own w0 (.ints .i64 xs) y lo w0.heap.size) (hlo : W1.heap.size ≤ lo) (hlw : lo ≤ w0.heap.size) (hb1 : b < W1.heap.size) (hy : y.oneCell' = true) (h63 : n ≤ 1000000)
    (H : ∀ g' c' w', RsQ w' base (.slice (some ⟨g', 0, none⟩) (n + 1) c') (n + 1) (rs ++ [xs]) b → Below base w w' → (∀ k, k < w.heap.size → v.ownBlock ≠ some k → w'.heap[k]? = w.heap[k]?) → K (a.put op.dst (.slice (some ⟨g', 0, none⟩) (n + 1) c')) w') : if Region.wanted op (yielded ops a.tmps) = true then Oper.wp Tryz.prog op a w K Q else E := by
  have hwn : Region.wanted op (yielded ops a.tmps) = true := by simp [Region.wanted, hgd]
  rw [if_pos hwn]
  subst hw hq
  obtain ⟨V, lo1, hi1, h, hq1, hv1⟩ := h
  have h0 := h.bel hW
  have hsz := hW.size
  have hb : base ≤ w0.heap.size := by have := h0.bl; have := h0.ll; omega
  obtain ⟨g', c', w', hr', ha⟩ := run_append_rv (w0.alloc (.cells #[y] t)) op.type base v n _ (h0.below (blAlloc _ _)).own w0.heap.size 1 y (by simp) hy h63 (by simp; omega)
  unfold Oper.wp execOp
  simp only [ho, resolve, invoke, builtin, Sem.run_bind, Sem.run_pure, Result.andThen_ok, List.map_toArray, List.map_cons, List.map_nil, hs, hx, hr']
  refine H g' c' w' ⟨_, _, _, h0.next hr hlo hlw (Nat.le_refl _) ha, fun i hi => ?_, fun g e => ?_⟩ ?_ (fun k hk hn => ha.gb.block k hk (fun e => hn e.symm))
  · by_cases e : i = n
    · simp only [if_pos e]; right; omega
    · simp only [if_neg e]; exact hq1 i (by omega)
  · have q' : g' = g := by injection e
    subst q'
    rcases ha.d with hd | hd
    · exact hv1 _ hd
    · rw [hd]; simp; omega
  · exact gb_low' ha.gb (fun g q => (World.ownsRow.lt h0.own g q).1) (Nat.le_refl _) (by simp; omega)
theorem OwnV.lit (w : World) (x : Value) {base : Nat} (hb : base ≤ w.heap.size) : OwnV (w.alloc (.cells #[x] 30)) base (.slice (some ⟨w.heap.size, 0, none⟩) 1 1) 1 [x] := by
  have := World.ownsRow_lit (base := base) (e := 30) (size := 1) w #[x] 1 hb (by unfold maxLen; omega) rfl
  exact this
theorem lit_blk {b g : Nat} (e : (Value.slice (some ⟨b, 0, none⟩) 1 1).ownBlock = some g) : b = g := by injection e
theorem RsQ.lit {W : World} {x : Value} {xs : List Int} {lo base : Nat} (h : Own W (.ints .i64 xs) x lo W.heap.size) (hb : base ≤ lo) (hl : lo ≤ W.heap.size) (o : Obj) :
    RsQ ((W.alloc (.cells #[x] 30)).alloc o) base (.slice (some ⟨W.heap.size, 0, none⟩) 1 1) 1 [xs] (W.heap.size + 1) := by
  have e1 : ((W.alloc (.cells #[x] 30)).alloc o).heap.size = W.heap.size + 2 := by simp
  have e0 : (W.alloc (.cells #[x] 30)).heap.size = W.heap.size + 1 := by simp
  have ow := OwnV.lit W x (base := base) (by omega)
  have ow2 : OwnV ((W.alloc (.cells #[x] 30)).alloc o) base (.slice (some ⟨W.heap.size, 0, none⟩) 1 1) 1 [x] := OwnV.block ow fun g e => (blAlloc (W.alloc (.cells #[x] 30)) o).block g (by have := lit_blk e; omega)
  refine ⟨fun _ => x, fun _ => lo, fun _ => W.heap.size, ⟨ow2, rfl, fun i hi => ?_, fun i j h1 h2 => by omega, fun g e => by have := lit_blk e; omega, by omega, Nat.le_refl _⟩, fun i hi => .inl (by show W.heap.size ≤ W.heap.size + 1; omega), fun g e => by have := lit_blk e; omega⟩
  obtain rfl : i = 0 := by omega
  exact ⟨(h.alloc _).alloc _, hb, hl, by show W.heap.size ≤ _; omega, fun g e => .inr (by have := lit_blk e; show W.heap.size ≤ g; omega)⟩
theorem RsQ.ne {W : World} {base n q : Nat} {v : Value} {rs : Rws} (h : RsQ W base v n rs q) : v.ownBlock ≠ some q := by
  obtain ⟨V, lo, hi, h, -, hv⟩ := h
  exact fun e => hv q e rfl
theorem RsQ.form {W : World} {base n q : Nat} {v : Value} {rs : Rws} (h : RsQ W base v n rs q) (hn : 0 < n) : ∃ g c, v = .slice (some ⟨g, 0, none⟩) n c := by
  obtain ⟨V, lo, hi, h, -, -⟩ := h
  obtain ⟨g, c, hv, -, -⟩ := World.ownsRow.form h.own hn
  exact ⟨g, c, hv⟩
theorem Bx.blk {w w' : World} {b : Nat} {l : List Value} (h : Bx w b l) (hb : w'.heap[b]? = w.heap[b]?) (hs : b < w'.heap.size) : Bx w' b l :=
  ⟨hs, fun j => by rw [World.frozen?_of_block (a := ⟨b, j, none⟩) hb]; exact h.th j, fun j v e => by rw [World.cell?_of_block (a := ⟨b, j, none⟩) hb]; exact h.at_ j v e⟩
structure StS (w W : World) (A : Option Addr) (n c : Nat) (bs : List Nat) (q : Nat) (ts : List Stg) (xs : List Int) (k : Nat) (v : Value) (B : Option Addr) (cp : Nat) : Prop where
  arg : Bx W w.heap.size [.slice A n c]
  res : Bx W (w.heap.size + 1) [.int .i64 0, .slice none 0 0]
  box : Bx W q [.int .i64 0, v]
  rows : RsQ W (w.heap.size + 2) v (k + 1) (stRs ts xs (k + 1)) q
  now : Own W (.ints .i64 (ev3 1 ts xs k)) (.slice B 3 cp) (q + 1) W.heap.size
  b : Below w.heap.size w W
  qs : w.heap.size + 2 ≤ q
set_option maxRecDepth 100000 in
set_option maxHeartbeats 4000000 in
theorem sStepsOf_any (A : Option Addr) (n c : Nat) (ts : List Stg) (bs : List Nat) (P : Option Addr) (m d : Nat) (xs : List Int) (gs : List Nat) (w : World) (h : Hd w (chD ts) (.slice A n c) bs) (hp : Hd w (.ints .i64 xs) (.slice P m d) gs) :
    Calls Tryz.prog 27 #[.agg #[.slice A n c], .slice P m d] w (MAns w (chC ts xs) (stL ts xs)) := by
  have hl := Lib.hid h.stgs.1
  have HD := Lib.hid h
  have hmx := h.stgs.2.2
  have hmc := h.stgs.2.1
  have B := Lib.hid ((Bx.new w #[.slice A n c] 56 rfl).alloc (.cells #[.int .i64 0, .slice none 0 0] 62))
  have R := Lib.hid (Bx.new (w.alloc (.cells #[.slice A n c] 56)) #[.int .i64 0, .slice none 0 0] 62 (b := w.heap.size + 1) (by simp))
  have H := Lib.hid ((h.alloc (.cells #[.slice A n c] 56)).alloc (.cells #[.int .i64 0, .slice none 0 0] 62))
  have HP := Lib.hid ((hp.alloc (.cells #[.slice A n c] 56)).alloc (.cells #[.int .i64 0, .slice none 0 0] 62))
  clear h hp
  go_enter Tryz.func27, Tryz.ntmps27
  go_wp2_with fail
  refine (sAsked_any w.heap.size 0 A n c ts bs P m d xs gs _ H.out (B.out.c 0 rfl) HP.out).mono ?_
  rintro e w1 ⟨rfl, mm, rfl⟩
  have B1 := Lib.hid (B.out.drewN mm)
  have R1 := Lib.hid (R.out.drewN mm)
  have H1 := Lib.hid (H.out.bel (below_drewN _ mm _))
  have P1 := Lib.hid (HP.out.bel (below_drewN _ mm _))
  have T1 := Lib.hid (blThenDrew (blThenAlloc (blAlloc w (.cells #[.slice A n c] 56)) (.cells #[.int .i64 0, .slice none 0 0] 62)) mm)
  have hz1 : (((w.alloc (.cells #[.slice A n c] 56)).alloc (.cells #[.int .i64 0, .slice none 0 0] 62)).drewN mm).heap.size = w.heap.size + 2 := by simp
  obtain ⟨W1, hW1⟩ : ∃ W, W = ((w.alloc (.cells #[.slice A n c] 56)).alloc (.cells #[.int .i64 0, .slice none 0 0] 62)).drewN mm := ⟨_, rfl⟩
  rw [← hW1] at B1 R1 H1 T1 P1 hz1 ⊢
  clear hW1 B R H HP
  have r0 := R1.out.c 0 rfl
  have r1 := R1.out.c 1 rfl
  have z0 := R1.out.f 0
  have z1 := R1.out.f 1
  have l1 := R1.out.lt
  by_cases h0 : chC ts xs = 0
  · have hx3 := (lfo_zero (chC_zero h0).2).1
    obtain rfl : 3 = m := by rw [← hx3]; exact P1.out.rd.1
    obtain ⟨pb, po, rfl, hpc⟩ := P1.out.rd.2 (by omega)
    have HFN := Lib.hid (sgL_all _ (chf_zero (chC_zero h0).1).2)
    have HN5 : ts.length ≤ 5 := (chf_zero (chC_zero h0).1).1
    have HE := Lib.hid (ev3_0 ts hx3)
    have HL := Lib.hid (stL_y h0)
    have H0 := Lib.hid h0
    rw [h0]
    clear h0 hpc
    go_wp2_with fail
    refine (sInts_any pb po 3 d xs W1 P1.out.rd (by omega) (by omega)).mono ?_
    rintro e w2 ⟨B2, c2, rfl, how, hb⟩
    have HO2 := Lib.hid how
    have hz2 := hb.size
    have HB2 := Lib.hid hb
    clear how hb
    go_wp2_with fail
    have P3 := Lib.hid (((P1.out.rd.below HB2.out).below (blAlloc _ (.cells #[.slice B2 3 c2] 30))).below (blAlloc _ (.cells #[.int .i64 0, .slice (some ⟨w2.heap.size, 0, none⟩) 1 1] 62)))
    refine (sInts_any pb po 3 d xs _ P3.out (by omega) (by omega)).mono ?_
    rintro e w3 ⟨B3, c3, rfl, how, hb⟩
    have SS : Hid (StS w w3 A n c bs (w2.heap.size + 1) ts xs 0 (.slice (some ⟨w2.heap.size, 0, none⟩) 1 1) B3 c3) := by
      have hX := blThenAlloc (blThenAlloc HB2.out (.cells #[.slice B2 3 c2] 30)) (.cells #[.int .i64 0, .slice (some ⟨w2.heap.size, 0, none⟩) 1 1] 62)
      have hY := blThen hX hb
      refine ⟨B1.out.bel hY, R1.out.bel hY, (Bx.new (w2.alloc (.cells #[.slice B2 3 c2] 30)) #[.int .i64 0, .slice (some ⟨w2.heap.size, 0, none⟩) 1 1] 62 (b := w2.heap.size + 1) (by simp)).bel hb, ?_, ?_, blThen T1.out hY, by omega⟩
      · have := (RsQ.lit (base := w.heap.size + 2) HO2.out (by omega) hz2 (.cells #[.int .i64 0, .slice (some ⟨w2.heap.size, 0, none⟩) 1 1] 62)).below hb
        have e : stRs ts xs (0 + 1) = [xs] := by show [ev3 1 ts xs 0] = [xs]; rw [HE.out]
        rw [e]
        exact this
      · rw [HE.out]
        exact how.mono (by simp) (Nat.le_refl _)
    clear how hb HO2 HB2 P3 P1 H1 B1 R1 T1 HE r0 r1 z0 z1 l1 hx3
    go_wp2_with fail
    go_loopw [7, 8] (fun x i wr => ∃ (k : Nat) (v : Value) (B : Option Addr) (cp : Nat), k ≤ n ∧ i = .int .i64 k ∧ x = .slice B 3 cp ∧ Hid (StS w wr A n c bs (w2.heap.size + 1) ts xs k v B cp)) (fun _ i _ => n - (intOf i).toNat)
    case atStart => exact ⟨0, _, _, _, by omega, rfl, rfl, SS⟩
    case round =>
      obtain ⟨k, v, B, cp, hk, rfl, rfl, HS⟩ := hrel
      have a0 := HS.out.arg.c 0 rfl
      have q0 := HS.out.box.c 0 rfl
      have q1 := HS.out.box.c 1 rfl
      have f0 := HS.out.box.f 0
      have f1 := HS.out.box.f 1
      have l1 := HS.out.box.lt
      have hqs := HS.out.qs
      by_cases hlt : k < n
      · obtain ⟨b, o', A1, n1, c1, A2, n2, c2, A3, n3, c3, rfl, x0, x1, x2, x3, x4, xst⟩ := (HD.out.bel HS.out.b).stg hlt
        have CE := Lib.hid (sEval6_any b (o' + k * 5) (st_ ts k) A1 n1 c1 A2 n2 c2 A3 n3 c3 B cp (ev3 1 ts xs k) wr ⟨x0, x1, x2, x3, x4⟩ xst HS.out.now.hd.choose_spec.rd (HFN.out k (by have := hl.out; omega)) (ev3_fine (.inl rfl) H0.out (by have := hl.out; omega)))
        rw [ev3_on 1 ts xs k] at CE
        have lb := cell_lt x0
        clear x0 x1 x2 x3 x4 xst
        go_wp2_with fail
        refine CE.out.mono ?_
        rintro e w4 ⟨G, cp2, rfl, how, hb⟩
        have HO4 := Lib.hid how
        have HB4 := Lib.hid hb
        have RQ4 := Lib.hid (HS.out.rows.below hb)
        have BX4 := Lib.hid (HS.out.box.bel hb)
        have hz4 := hb.size
        have hvl := HS.out.rows.vl.2
        have HVL := Lib.hid hvl
        obtain ⟨gb, go, rfl, -⟩ := how.hd.choose_spec.rd.2 (by omega)
        have CI : Hid (∀ W, Below w4.heap.size w4 W → Calls Tryz.prog 63 #[.slice (some ⟨gb, go, none⟩) 3 cp2] W (SlAns W 3 (ev3 1 ts xs (k + 1)))) := fun W hW => sInts_any gb go 3 cp2 _ W (HO4.out.hd.choose_spec.rd.below hW) (by omega) (by omega)
        have hk6 : k ≤ 5 := by have := hl.out; omega
        have a4 := cell_later HB4.out a0
        have y0 := BX4.out.c 0 rfl
        have y1 := BX4.out.c 1 rfl
        have g0 := BX4.out.f 0
        have g1 := BX4.out.f 1
        have l4 : w2.heap.size + 1 < w4.heap.size := BX4.out.lt
        have l5 : w.heap.size < w4.heap.size := by omega
        clear how hb CE a0 q0 q1 f0 f1 lb hvl
        go_wp2_with fail
        go_region_law (first
          | (refine step_append_rsq _ rfl _ _ rfl w6 30 (w.heap.size + 2) (w2.heap.size + 1) v (k + 1) (stRs ts xs (k + 1)) (ev3 1 ts xs (k + 1)) (.slice B6 3 c6) w4.heap.size rfl rfl _ rfl rfl w4 HB6.out RQ4.out HO6.out (Nat.le_refl _) HB6.out.size (by omega) rfl (by omega) ?_; intro g' c' w7 hr7 hb7 hk7; have BX7 := Lib.hid (Bx.blk (BX4.out.bel (blThenAlloc HB6.out (.cells #[.slice B6 3 c6] 30))) (hk7 (w2.heap.size + 1) (by have := HB6.out.size; simp; omega) RQ4.out.ne) (by have := HB6.out.size; have := hb7.size; simp at this; omega)); have y7 := BX7.out.c 1 rfl; have g7 := BX7.out.f 1)
          | (go_simp; go_at_call 63; (with_reducible refine (CI.out _ (by first | exact Below.refl _ _ | exact (Below.refl _ _).drew | exact below_drewN _ _ _)).mono ?_); rintro e w6 ⟨B6, c6, rfl, how6, hb6⟩; have HB6 := Lib.hid (blThen (by first | exact Below.refl _ _ | exact (Below.refl _ _).drew | exact below_drewN _ _ _) hb6 : Below w4.heap.size w4 w6); have HO6 := Lib.hid (how6.mono (by simp : w4.heap.size ≤ _) (Nat.le_refl _)); have y6 := cell_later HB6.out y1; have l6 : w2.heap.size + 1 < w6.heap.size := Nat.lt_of_lt_of_le l4 HB6.out.size; have y66 := cell_later (blAlloc w6 (.cells #[.slice B6 3 c6] 30)) y6))
        all_goals
          have HNX : Hid (StS w (w7.setCell ⟨w2.heap.size + 1, 1, none⟩ (.slice (some ⟨g', 0, none⟩) (k + 1 + 1) c')) (some ⟨b, o', none⟩) n c bs (w2.heap.size + 1) ts xs (k + 1) (.slice (some ⟨g', 0, none⟩) (k + 1 + 1) c') (some ⟨gb, go, none⟩) cp2) := by
            have hbb := blThenAlloc (blThen HB4.out HB6.out) (.cells #[.slice B6 3 c6] 30)
            have hsz := hb7.size
            have e6 : (w6.alloc (.cells #[.slice B6 3 c6] 30)).heap.size = w6.heap.size + 1 := by simp
            have h66 := HB6.out.size
            refine ⟨((HS.out.arg.bel hbb).low' hb7 (by omega)).oth (by omega) 1 _, ((HS.out.res.bel hbb).low' hb7 (by omega)).oth (by omega) 1 _, BX7.out.set 1 _, ?_, ?_, bel1' ((blThen HS.out.b hbb).trans (hb7.mono (by omega))) (by omega) 1 _, hqs⟩
            · rw [stRs_succ]
              exact hr7.set 1 _
            · have o7 : Own w7 (.ints .i64 (ev3 1 ts xs (k + 1))) (.slice (some ⟨gb, go, none⟩) 3 cp2) wr.heap.size w4.heap.size := ((HO4.out.below HB6.out).alloc (.cells #[.slice B6 3 c6] 30)).block fun g g1 g2 g3 => hk7 g g3 (fun e => by have := HVL.out g e; omega)
              exact (o7.set (.inl (by omega)) 1 _).mono (by omega) (by simp [setSize]; omega)
          clear hr7 hb7 hk7 BX7 y7 g7
          go_wp2_with fail
          go_roundw
          case rel => exact ⟨k + 1, _, _, _, by omega, by go_num, rfl, HNX⟩
          case measure => simp [intOf]; omega
      · obtain rfl : k = n := by omega
        obtain ⟨gq, cq, rfl⟩ := HS.out.rows.form (by omega)
        have r0 := HS.out.res.c 0 rfl
        have r1 := HS.out.res.c 1 rfl
        have z0 := HS.out.res.f 0
        have z1 := HS.out.res.f 1
        go_wp2_with fail
        have KK := (HS.out.res.set 0 (.int .i64 0)).set 1 (.slice (some ⟨gq, 0, none⟩) (k + 1) cq)
        have k0 := KK.c 0 rfl
        have k1 := KK.c 1 rfl
        clear KK
        refine bodyPost_ret (v := .agg #[.int .i64 0, .slice (some ⟨gq, 0, none⟩) (k + 1) cq]) (by simp [results, Tryz.results27, go_sem, k0, k1]) rfl ⟨_, _, _, by rw [H0.out], ?_, bel1 (bel1 HS.out.b (c := w.heap.size + 1) (by omega) 0 _) (c := w.heap.size + 1) (by omega) 1 _⟩
        rw [HL.out, hl.out]
        refine Own.mono (lo := w.heap.size + 2) (hi := wr.heap.size) ?_ (by omega) (by simp [setSize])
        exact (HS.out.rows.fin.set (.inl (by omega)) _ _).set (.inl (by omega)) _ _
  · have HA := Lib.hid (stL_n h0)
    obtain ⟨f, hf⟩ : ∃ f, chC ts xs = f := ⟨_, rfl⟩
    have HFF := Lib.hid hf
    rw [hf] at h0 ⊢
    have hqn : (f == 0) = false := by simpa using h0
    clear hf
    go_wp2_with fail
    have KK := (R1.out.set 0 (.int .i64 f)).set 1 (.slice none 0 0)
    have k0 := KK.c 0 rfl
    have k1 := KK.c 1 rfl
    clear KK
    refine bodyPost_ret (v := .agg #[.int .i64 f, .slice none 0 0]) (by simp [results, Tryz.results27, go_sem, k0, k1]) rfl (MAns.bad ⟨HFF.out, HA.out⟩ ?_)
    exact bel1 (bel1 T1.out (c := w.heap.size + 1) (by omega) 0 _) (c := w.heap.size + 1) (by omega) 1 _
end Go.Proofs.YtmmlcdbbjkligaaGreat
