/-
  A grid that does nothing: the program's LineGrid, the model's l5Line, LineGrid.
-/
import Derived.Test.YthplngcdldongaaGrowA
import Derived.Test.YthplngcdldongaaGrdNA
import Derived.StillTailTactics
namespace Go.Proofs.Ythplngcdldongaa
open Go.RowKit
set_option linter.unusedVariables false
set_option linter.unusedSimpArgs false

def lgV (s : Nat) (x : Nat) : Int := rnd ((x : Int) * 65535) ((s : Int) - 1)
def lgRow (s t : Nat) : List Int := [lgV s (t / (s * s)), lgV s (t / s % s), lgV s (t % s)]
def lgRs (s n : Nat) : Rws := (List.range n).map (lgRow s)
theorem lgRs_succ (s n : Nat) : lgRs s (n + 1) = lgRs s n ++ [lgRow s n] := by unfold lgRs; rw [List.range_succ, List.map_append]; rfl
def lgC (sd : Int) : Int := if inB sd 2 4 = true then 0 else 3
def lgS (sd : Int) : Int := if inB sd 2 4 = true then sd else 0
def lgL (sd : Int) : Rws := if inB sd 2 4 = true then lgRs sd.toNat (sd.toNat * sd.toNat * sd.toNat) else []
theorem lg_no {sd : Int} (h : inB sd 2 4 = false) : lgC sd = 3 ∧ lgS sd = 0 ∧ lgL sd = [] := by unfold lgC lgS lgL; rw [h]; simp
theorem lg_yes {s : Nat} (h : inB (s : Int) 2 4 = true) : lgC s = 0 ∧ lgS s = s ∧ lgL s = lgRs s (s * s * s) := by unfold lgC lgS lgL; rw [h]; simp
theorem lgL_len (sd : Int) : (lgL sd).length ≤ 64 := by
  unfold lgL
  split
  · rename_i h
    have := inB_iff.1 h
    have h3 : sd.toNat = 2 ∨ sd.toNat = 3 ∨ sd.toNat = 4 := by omega
    rcases h3 with e | e | e <;> rw [e] <;> simp [lgRs]
  · simp
theorem lgL_small (sd : Int) : RsSmall (lgL sd) := by
  refine ⟨by have := lgL_len sd; omega, fun i hi => ?_⟩
  unfold lgL at *
  split
  · rename_i h
    rw [if_pos h] at hi
    have e : rw_ (lgRs sd.toNat (sd.toNat * sd.toNat * sd.toNat)) i = lgRow sd.toNat i := by
      have : i < sd.toNat * sd.toNat * sd.toNat := by simpa [lgRs] using hi
      simp [rw_, lgRs, List.getD, this]
    rw [e]; simp [lgRow]
  · rename_i h
    rw [if_neg h] at hi
    simp at hi
def GrAns (w : World) (code side : Int) (rs : Rws) (e : Ending) (w' : World) : Prop :=
  ∃ G n c, e = .returned (.agg #[.int .i64 code, .int .i64 side, .slice G n c]) ∧ Own w' (rowsD rs) (.slice G n c) w.heap.size w'.heap.size ∧ Below w.heap.size w w'
theorem jy_0 (a b c : Int) (W : World) : (Instr.index 75 (.agg #[.int .i64 a, .int .i64 b, .int .i64 c]) (.int .i64 0)).run Try.prog W = .ok (.int .i64 a) W := by kernel_rfl
theorem jy_1 (a b c : Int) (W : World) : (Instr.index 75 (.agg #[.int .i64 a, .int .i64 b, .int .i64 c]) (.int .i64 1)).run Try.prog W = .ok (.int .i64 b) W := by kernel_rfl
theorem jy_2 (a b c : Int) (W : World) : (Instr.index 75 (.agg #[.int .i64 a, .int .i64 b, .int .i64 c]) (.int .i64 2)).run Try.prog W = .ok (.int .i64 c) W := by kernel_rfl
theorem mk3z (W : World) : (Instr.makeSlice 27 (.int .i64 3) (.int .i64 3)).run Try.prog W = .ok (.slice (some ⟨W.heap.size, 0, none⟩) 3 3) (W.alloc (.cells #[.int .i64 0, .int .i64 0, .int .i64 0] 2)) := by
  have h := run_make_many (P := Try.prog) 27 2 (.int .i64 0) 1 8 Try.underlying27 info_i64 .i64 .i64 3 (by omega) (by omega) W
  have e : madeCells (Value.int .i64 0).cells (3 * 1) = #[.int .i64 0, .int .i64 0, .int .i64 0] := by first | kernel_rfl | (simp [madeCells, Value.cells]; rfl)
  rw [e] at h
  exact h
theorem own3L {w : World} {b : Nat} {a0 a1 a2 : Int} (h : Bx w b [.int .i64 a0, .int .i64 a1, .int .i64 a2]) : Own w (.ints .i64 [a0, a1, a2]) (.slice (some ⟨b, 0, none⟩) 3 3) b w.heap.size := by
  obtain ⟨bs, k1, k2, k3⟩ := Hd.of_rd (c := 3) (k := .i64) (xs := [a0, a1, a2]) (w := w) (A := some ⟨b, 0, none⟩) (n := 3) ⟨rfl, fun _ => ⟨b, 0, rfl, fun i hi => by
    match i, hi with
    | 0, _ => simpa using h.c 0 rfl
    | 1, _ => simpa using h.c 1 rfl
    | 2, _ => simpa using h.c 2 rfl⟩⟩ (by omega) (by unfold maxLen; omega)
  refine ⟨bs, k1, k2, fun x hx => ?_⟩
  obtain ⟨_, o, e⟩ := k3 x hx
  injection e with e
  injection e with e1 e2
  subst e1
  exact ⟨Nat.le_refl _, h.lt, h.th⟩
/-- the rows so far, their places behind a name. -/
def RsL (W : World) (base : Nat) (v : Value) (n : Nat) (rs : Rws) : Prop := ∃ V lo hi, RsG W base v n rs W.heap.size V lo hi
theorem RsL.below {W W' : World} {base n : Nat} {v : Value} {rs : Rws} (h : RsL W base v n rs) (hb : Below W.heap.size W W') : RsL W' base v n rs := by
  obtain ⟨V, lo, hi, h⟩ := h
  have h' := h.bel hb
  exact ⟨V, lo, hi, h'.own, h'.len, fun i hi => by
    obtain ⟨a, b, c, d, e⟩ := h'.row i hi
    have := hb.size
    exact ⟨a, b, c, by omega, e⟩, h'.dis, fun g q => by have := h'.vl g q; have := hb.size; omega, by have := h'.bl; have := hb.size; omega, Nat.le_refl _⟩
theorem RsL.keep {W W' : World} {base n : Nat} {v : Value} {rs : Rws} (h : RsL W base v n rs) (hb : ∀ g, base ≤ g → g < W.heap.size → W'.heap[g]? = W.heap[g]?) (hs : W'.heap.size = W.heap.size) : RsL W' base v n rs := by
  obtain ⟨V, lo, hi, h⟩ := h
  have := h.keep hb (by omega)
  exact ⟨V, lo, hi, by rw [hs]; exact this⟩
theorem RsL.fin {W : World} {base n : Nat} {v : Value} {rs : Rws} (h : RsL W base v n rs) : Own W (rowsD rs) v base W.heap.size := by
  obtain ⟨V, lo, hi, h⟩ := h
  exact h.fin
theorem RsL.nil (W : World) (base : Nat) (hb : base ≤ W.heap.size) : RsL W base (.slice none 0 0) 0 [] := ⟨fun _ => undef, fun _ => 0, fun _ => 0, RsG.nil _ _ _ hb (Nat.le_refl _) _ _ _⟩
/-- an append to rows: what comes of it. -/
theorem wpList_append_rsl (w : World) {ops : Array Oper} {rest : List Oper} {o : Oper} {a : Act} {Q : Exit → Act → World → Prop} (hgd : o.guard = none) (s x : Operand)
    (ho : o.op = .call { callee := .builtin .append, args := #[s, x], argTypes := #[24, 24] })
    (w0 : World) (t : TypeId) (base : Nat) (v : Value) (n : Nat) (rs : Rws) (xs : List Int) (y : Value) (lo : Nat) (hs : a.eval s = v) (hw : w = w0.alloc (.cells #[y] t)) (hx : a.eval x = .slice (some ⟨w0.heap.size, 0, none⟩) 1 1)
    (W1 : World) (hW : Below W1.heap.size W1 w0) (h : RsL W1 base v n rs) (hr : Own w0 (.ints .i64 xs) y lo w0.heap.size) (hlo : W1.heap.size ≤ lo) (hlw : lo ≤ w0.heap.size) (hy : y.oneCell' = true) (h63 : n ≤ 1000000)
    (K : ∀ g' c' w', RsL w' base (.slice (some ⟨g', 0, none⟩) (n + 1) c') (n + 1) (rs ++ [xs]) → Below base w w' → wpList Try.prog ops Q rest (a.put o.dst (.slice (some ⟨g', 0, none⟩) (n + 1) c')) w') : wpList Try.prog ops Q (o :: rest) a w := by
  subst hw
  obtain ⟨V, lo1, hi1, h⟩ := h
  have h0 := h.bel hW
  have hb : base ≤ w0.heap.size := by have := h0.bl; have := h0.ll; omega
  refine wpList_append_rv _ hgd s x ho base v n _ hs (h0.below (blAlloc _ _)).own w0.heap.size 1 y hx (by simp) hy h63 (by simp; omega) ?_
  intro g' c' w' ha
  refine K g' c' w' ⟨_, _, _, h0.next hr hlo hlw (Nat.le_refl _) ha⟩ ?_
  exact gb_low' ha.gb (fun g q => (World.ownsRow.lt h0.own g q).1) (Nat.le_refl _) (by simp; omega)
set_option maxRecDepth 100000 in
set_option maxHeartbeats 4000000 in
theorem LineGrid_any (sd : Int) (w : World) : Calls Try.prog 19 #[.int .i64 sd] w (GrAns w (lgC sd) (lgS sd) (lgL sd)) := by
  obtain ⟨W0, hW0⟩ : ∃ W0, W0 = w.alloc (.cells #[.int .i64 0, .int .i64 0, .slice none 0 0] 45) := ⟨_, rfl⟩
  have R0 : Hid (Bx W0 w.heap.size [.int .i64 0, .int .i64 0, .slice none 0 0]) := by show Bx _ _ _; rw [hW0]; exact Bx.new _ _ _ rfl
  have T0 : Hid (Below w.heap.size w W0) := by show Below _ _ _; rw [hW0]; exact blAlloc _ _
  have HW := Lib.hid hW0
  clear hW0
  rcases Bool.eq_false_or_eq_true (inB sd 2 4) with hs | hs
  · have hsb := inB_iff.1 hs
    obtain ⟨s, rfl⟩ : ∃ s : Nat, sd = s := ⟨sd.toNat, by omega⟩
    have h3 : s = 2 ∨ s = 3 ∨ s = 4 := by omega
    have CS : Hid (∀ W, Calls Try.prog 48 #[.int .i64 (s : Int)] W fun e w' => e = .returned (.bool true) ∧ W = w') := fun W => by rw [← hs]; exact isSide_any _ W
    have HE := Lib.hid (lg_yes hs)
    have hN64 : s * s * s ≤ 64 := by rcases h3 with rfl | rfl | rfl <;> simp
    have hN0 : 0 < s * s * s := by rcases h3 with rfl | rfl | rfl <;> simp
    have H3 := Lib.hid h3
    have hs1 : 2 ≤ s ∧ s ≤ 4 := by omega
    clear hs h3 hsb
    go_enter Try.func19, Try.ntmps19
    go_wp2_with (go_at_call 48; refine (CS.out _).mono ?_; rintro e w' ⟨rfl, rfl⟩)
    rw [← HW.out]
    clear HW CS
    refine (gridPlaces_any s _ H3.out).mono ?_
    rintro e w1 ⟨v, rfl, ho, hb⟩
    obtain ⟨N, hN⟩ : ∃ N, N = s * s * s := ⟨_, rfl⟩
    rw [← hN] at ho hN64 hN0
    have HN := Lib.hid hN
    obtain ⟨g, o, cp, rfl, hbg, hgl, hc1, hc2, hcells⟩ := ho.look (by omega)
    have R1 := Lib.hid (R0.out.bel hb)
    have T1 := Lib.hid (blThen T0.out hb)
    have HC := Lib.hid hcells
    unfold maxLen at hc2
    clear ho hb hcells hbg R0 T0 hN
    go_wp2_with fail
    go_loopw [3, 16] (fun v i wr => ∃ k : Nat, k ≤ N ∧ i = .int .i64 k ∧ Hid (RsL wr w1.heap.size v k (lgRs s k)) ∧ Hid (Below w1.heap.size w1 wr)) (fun _ i _ => N - (intOf i).toNat)
    case atStart => exact ⟨0, by omega, rfl, RsL.nil _ _ (Nat.le_refl _), Below.refl _ _⟩
    case round =>
      obtain ⟨k, hk, rfl, HR, HB⟩ := hrel
      by_cases hlt : k < N
      · obtain ⟨c0, c1, c2⟩ := HC.out k hlt
        have y0 := cell_later HB.out c0
        have y1 := cell_later HB.out c1
        have y2 := cell_later HB.out c2
        clear c0 c1 c2
        have hpl := pl_le (s := s) (t := k) (by omega)
        obtain ⟨p0, hp0⟩ : ∃ p : Int, p = ((k / (s * s) : Nat) : Int) := ⟨_, rfl⟩
        obtain ⟨p1, hp1⟩ : ∃ p : Int, p = ((k / s % s : Nat) : Int) := ⟨_, rfl⟩
        obtain ⟨p2, hp2⟩ : ∃ p : Int, p = ((k % s : Nat) : Int) := ⟨_, rfl⟩
        rw [← hp0] at y0
        rw [← hp1] at y1
        rw [← hp2] at y2
        have b0 : 0 ≤ p0 ∧ p0 ≤ 1000 := by rw [hp0]; exact ⟨Int.natCast_nonneg _, Int.ofNat_le.2 hpl.1⟩
        have b1 : 0 ≤ p1 ∧ p1 ≤ 1000 := by rw [hp1]; exact ⟨Int.natCast_nonneg _, Int.ofNat_le.2 hpl.2.1⟩
        have b2 : 0 ≤ p2 ∧ p2 ≤ 1000 := by rw [hp2]; exact ⟨Int.natCast_nonneg _, Int.ofNat_le.2 hpl.2.2⟩
        have HROW : Hid (lgRow s k = [rnd (p0 * 65535) ((s : Int) - 1), rnd (p1 * 65535) ((s : Int) - 1), rnd (p2 * 65535) ((s : Int) - 1)]) := by show _ = _; rw [hp0, hp1, hp2]; rfl
        clear hp0 hp1 hp2 hpl
        obtain ⟨W2, hW2⟩ : ∃ W2, W2 = (wr.alloc (.cells #[.int .i64 p0, .int .i64 p1, .int .i64 p2] 82)).alloc (.cells #[.int .i64 0, .int .i64 0, .int .i64 0] 2) := ⟨_, rfl⟩
        have P2 : Hid (Bx W2 wr.heap.size [.int .i64 p0, .int .i64 p1, .int .i64 p2]) := by show Bx _ _ _; rw [hW2]; exact (Bx.new _ _ _ rfl).alloc _
        have Q2 : Hid (Bx W2 (wr.heap.size + 1) [.int .i64 0, .int .i64 0, .int .i64 0]) := by show Bx _ _ _; rw [hW2]; exact Bx.new _ _ _ (by simp)
        have T2 : Hid (Below wr.heap.size wr W2) := by show Below _ _ _; rw [hW2]; exact blThenAlloc (blAlloc _ _) _
        have hz2 : W2.heap.size = wr.heap.size + 2 := by rw [hW2]; simp
        have x0 := P2.out.c 0 rfl
        have x1 := P2.out.c 1 rfl
        have x2 := P2.out.c 2 rfl
        have q0 := Q2.out.c 0 rfl
        have q1 := Q2.out.c 1 rfl
        have q2 := Q2.out.c 2 rfl
        have f0 := Q2.out.f 0
        have f1 := Q2.out.f 1
        have f2 := Q2.out.f 2
        have lg := cell_lt y0
        have hmk := fun W => mk3z W
        go_wp2_with fail
        rw [← hW2]
        clear hW2 hmk
        refine wp_loop_rounds 4 ?_
        rw [rounds_succ]
        have ii := fun W => jy_0 p0 p1 p2 W
        go_wp2_with fail
        clear ii
        refine (evenLevel_any _ _ _ (by omega) (by omega)).mono ?_
        rintro e w' ⟨rfl, m0, rfl⟩
        go_wp2_with fail
        rw [rounds_succ]
        have ii := fun W => jy_1 p0 p1 p2 W
        go_wp2_with fail
        clear ii
        refine (evenLevel_any _ _ _ (by omega) (by omega)).mono ?_
        rintro e w' ⟨rfl, m1, rfl⟩
        go_wp2_with fail
        rw [rounds_succ]
        have ii := fun W => jy_2 p0 p1 p2 W
        go_wp2_with fail
        clear ii
        refine (evenLevel_any _ _ _ (by omega) (by omega)).mono ?_
        rintro e w' ⟨rfl, m2, rfl⟩
        go_wp2_with fail
        rw [rounds_succ]
        obtain ⟨X, hX⟩ : ∃ X, X = (((((W2.drewN m0).setCell ⟨wr.heap.size + 1, 0, none⟩ (.int .i64 (rnd (p0 * 65535) ((s : Int) - 1)))).drewN m1).setCell ⟨wr.heap.size + 1, 1, none⟩ (.int .i64 (rnd (p1 * 65535) ((s : Int) - 1)))).drewN m2).setCell ⟨wr.heap.size + 1, 2, none⟩ (.int .i64 (rnd (p2 * 65535) ((s : Int) - 1))) := ⟨_, rfl⟩
        have QX : Hid (Bx X (wr.heap.size + 1) [.int .i64 (rnd (p0 * 65535) ((s : Int) - 1)), .int .i64 (rnd (p1 * 65535) ((s : Int) - 1)), .int .i64 (rnd (p2 * 65535) ((s : Int) - 1))]) := by show Bx _ _ _; rw [hX]; exact ((((((Q2.out.drewN m0).set 0 (.int .i64 (rnd (p0 * 65535) ((s : Int) - 1)))).drewN m1).set 1 (.int .i64 (rnd (p1 * 65535) ((s : Int) - 1)))).drewN m2).set 2 (.int .i64 (rnd (p2 * 65535) ((s : Int) - 1))))
        have TX : Hid (Below wr.heap.size wr X) := by show Below _ _ _; rw [hX]; exact (blThenDrew (blThenDrew (blThenDrew T2.out m0 |>.setCell (p := ⟨wr.heap.size + 1, 0, none⟩) (by show wr.heap.size ≤ wr.heap.size + 1; omega) (.int .i64 (rnd (p0 * 65535) ((s : Int) - 1)))) m1 |>.setCell (p := ⟨wr.heap.size + 1, 1, none⟩) (by show wr.heap.size ≤ wr.heap.size + 1; omega) (.int .i64 (rnd (p1 * 65535) ((s : Int) - 1)))) m2 |>.setCell (p := ⟨wr.heap.size + 1, 2, none⟩) (by show wr.heap.size ≤ wr.heap.size + 1; omega) (.int .i64 (rnd (p2 * 65535) ((s : Int) - 1))))
        rw [← hX]
        have hzX : wr.heap.size + 1 < X.heap.size := QX.out.lt
        clear hX P2 Q2 T2 x0 x1 x2 q0 q1 q2 f0 f1 f2 y0 y1 y2
        have HROW2 : Hid (Own X (.ints .i64 (lgRow s k)) (.slice (some ⟨wr.heap.size + 1, 0, none⟩) 3 3) (wr.heap.size + 1) X.heap.size) := by show Own _ _ _ _ _; rw [HROW.out]; exact own3L QX.out
        go_wp2_with (at_builtin; refine wpList_append_rsl _ rfl _ _ rfl X _ w1.heap.size _ k (lgRs s k) (lgRow s k) _ (wr.heap.size + 1) rfl rfl rfl wr TX.out HR.out HROW2.out (by omega) (by omega) rfl (by omega) ?_; intro g' c' w5 hr5 hb5)
        have HR5 : Hid (RsL w5 w1.heap.size (.slice (some ⟨g', 0, none⟩) (k + 1) c') (k + 1) (lgRs s (k + 1))) := by show RsL _ _ _ _ _; rw [lgRs_succ]; exact hr5
        have HB5 := Lib.hid ((blThenAlloc (blThen HB.out TX.out) _).trans hb5)
        clear hr5 hb5 HROW2 QX TX HR HB
        go_wp2_with fail
        go_roundw
        case rel => exact ⟨k + 1, by omega, by go_num, HR5, HB5⟩
        case measure => simp [intOf]; omega
      · obtain rfl : k = N := by omega
        have hfm : ∃ g c, u3 = .slice (some ⟨g, 0, none⟩) k c := by
          obtain ⟨V, lo, hi, h⟩ := HR.out
          obtain ⟨g, c, hv, -, -⟩ := World.ownsRow.form h.own (by omega)
          exact ⟨g, c, hv⟩
        obtain ⟨gq, cq, rfl⟩ := hfm
        have RR := Lib.hid (R1.out.bel HB.out)
        have r0 := RR.out.c 0 rfl
        have r1 := RR.out.c 1 rfl
        have r2 := RR.out.c 2 rfl
        have z0 := RR.out.f 0
        have z1 := RR.out.f 1
        have z2 := RR.out.f 2
        go_wp2_with fail
        have KK := ((RR.out.set 0 (.int .i64 0)).set 1 (.int .i64 (s : Int))).set 2 (.slice (some ⟨gq, 0, none⟩) k cq)
        have k0 := KK.c 0 rfl
        have k1 := KK.c 1 rfl
        have k2 := KK.c 2 rfl
        clear KK
        refine bodyPost_ret (v := .agg #[.int .i64 0, .int .i64 (s : Int), .slice (some ⟨gq, 0, none⟩) k cq]) (by simp [results, Try.results19, go_sem, k0, k1, k2]) rfl ⟨_, _, _, by rw [HE.out.1, HE.out.2.1], ?_, ?_⟩
        · rw [HE.out.2.2, ← HN.out]
          have l1 := R1.out.lt
          refine Own.mono (lo := w1.heap.size) (hi := wr.heap.size) ?_ (by omega) (by simp [setSize])
          exact ((HR.out.fin.set (.inl (by omega)) _ _).set (.inl (by omega)) _ _).set (.inl (by omega)) _ _
        · have HBW := blThen T1.out HB.out
          exact ((HBW.setCell (p := ⟨w.heap.size, 0, none⟩) (Nat.le_refl _) _).setCell (p := ⟨w.heap.size, 1, none⟩) (Nat.le_refl _) _).setCell (p := ⟨w.heap.size, 2, none⟩) (Nat.le_refl _) _
  · have CS : Hid (∀ W, Calls Try.prog 48 #[.int .i64 sd] W fun e w' => e = .returned (.bool false) ∧ W = w') := fun W => by rw [← hs]; exact isSide_any sd W
    have HE := Lib.hid (lg_no hs)
    clear hs
    go_enter Try.func19, Try.ntmps19
    go_wp2_with (go_at_call 48; refine (CS.out _).mono ?_; rintro e w' ⟨rfl, rfl⟩)
    refine bodyPost_ret (v := .agg #[.int .i64 3, .int .i64 0, .slice none 0 0]) (by simp [results, Try.results19, go_sem]) rfl ⟨none, 0, 0, by rw [HE.out.1, HE.out.2.1], by rw [HE.out.2.2]; exact Own.snil _ _ _ _ _ _ (Nat.zero_le _), ?_⟩
    repeat (first | exact blAlloc _ _ | refine Below.setCell ?_ (by simp) _)
end Go.Proofs.Ythplngcdldongaa
