/-
  Colours on the way through stages: the program's stepsBy.
  A stage and a chain at a colour, by levels or fine numbers: the program's lastOf, evalStage, stepsOf, evalChain and what stands on them.
-/
import Derived.Test.YtlfdpambbgddoaaGreatStpA
import Derived.Test.YtlfdpambbgddoaaGreatChnA
namespace Go.Proofs.YtlfdpambbgddoaaGreat
open Go.RowKit Go.Maps
set_option linter.unusedVariables false
set_option linter.unusedSimpArgs false

/-- a row of stages that a call may read. -/
structure Sts (w : World) (ts : List Stg) (A : Option Addr) (n : Nat) (vs : List Value) : Prop where
  len : ts.length = n
  at_ : ∀ i, i < n → ∃ b, A = some ⟨b, 0, none⟩ ∧ w.cell? ⟨b, i, none⟩ = some (vs.getD i undef)
  st : ∀ i, i < n → IsStg w (st_ ts i) (vs.getD i undef)
  fine : ∀ i, i < n → sgf (st_ ts i) = 0
theorem Sts.bel {w w' : World} {ts : List Stg} {A : Option Addr} {n : Nat} {vs : List Value} (h : Sts w ts A n vs) (hb : Below w.heap.size w w') : Sts w' ts A n vs :=
  ⟨h.len, fun i hi => by obtain ⟨b, e, hc⟩ := h.at_ i hi; exact ⟨b, e, cell_later hb hc⟩, fun i hi => (h.st i hi).bel hb, h.fine⟩
theorem Sts.of {w : World} {ts : List Stg} {base : Nat} {v : Value} {vs : List Value} (ho : OwnSv w base v ts.length vs) (hs : ∀ i, i < ts.length → IsStg w (st_ ts i) (vs.getD i undef)) (hf : ∀ i, i < ts.length → sgf (st_ ts i) = 0) : ∃ A c, v = .slice A ts.length c ∧ ts.length ≤ c ∧ c ≤ maxLen ∧ Sts w ts A ts.length vs := by
  have ho' := ho
  rcases ho.2 with ⟨rfl, hn⟩ | ⟨g, cap, cur, rfl, b1, b2, b3, b4, b5, b6⟩
  · rw [hn]
    exact ⟨none, 0, rfl, Nat.le_refl _, by unfold maxLen; omega, hn, fun i hi => by omega, fun i hi => by omega, fun i hi => by omega⟩
  · refine ⟨some ⟨g, 0, none⟩, cap, rfl, b3, b4, rfl, fun i hi => ⟨g, rfl, ?_⟩, hs, hf⟩
    have hl := ho.1
    have := World.ownsRow.cellAt ho' i (by omega)
    rw [this]
    simp only [List.getD]
    rw [List.getElem?_eq_getElem (by omega)]
    rfl
theorem sgL_all {ts : List Stg} : ∀ n, sgL ts n = 0 → ∀ i, i < n → sgf (st_ ts i) = 0 := by
  intro n
  induction n with
  | zero => intro _ i hi; omega
  | succ n ih =>
    intro h i hi
    by_cases h0 : sgL ts n = 0
    · by_cases e : i = n
      · subst e
        simp only [sgL] at h
        rw [if_pos h0] at h
        exact h
      · exact ih h0 i (by omega)
    · simp only [sgL] at h
      rw [if_neg h0] at h
      exact absurd h h0
def SbyAns (w : World) (n : Nat) (f : Nat → Nat → Int) (e : Ending) (w' : World) : Prop := ∃ v, e = .returned v ∧ OwnL w' w.heap.size v (n + 1) f ∧ Below w.heap.size w w'
set_option maxRecDepth 100000 in
set_option maxHeartbeats 8000000 in
theorem stepsBy_any (o : Int) (ho : One o) (A : Option Addr) (n c : Nat) (ts : List Stg) (vs : List Value) (x : Nat → Int) (w : World) (h : Sts w ts A n vs) (hn : n ≤ c) (hm : c ≤ maxLen) (hs : n ≤ 100000) (hx : LvT (65535 * o) x) :
    Calls Tryz.prog 129 #[.agg #[.int .i64 (x 0), .int .i64 (x 1), .int .i64 (x 2)], .int .i64 o, .slice A n c] w (SbyAns w n (evW o ts x)) := by
  unfold maxLen at hm
  have H := Lib.hid h
  have HO := Lib.hid ho
  have HX := Lib.hid hx
  have OW0 : Hid (OwnL ((w.alloc (.cells #[.int .i64 (x 0), .int .i64 (x 1), .int .i64 (x 2)] 76)).alloc (.cells #[.int .i64 (x 0), .int .i64 (x 1), .int .i64 (x 2)] 76)) w.heap.size (.slice (some ⟨w.heap.size + 1, 0, none⟩) 1 1) 1 (evW o ts x)) := by
    have := OwnL.lit (w.alloc (.cells #[.int .i64 (x 0), .int .i64 (x 1), .int .i64 (x 2)] 76)) (evW o ts x) (base := w.heap.size) (by simp)
    simp only [World.size_alloc] at this
    exact this
  clear h ho hx
  go_enter Tryz.func129, Tryz.ntmps129
  go_wp2_with fail
  go_loopw [7, 14] (fun v i wr => ∃ k : Nat, k ≤ n ∧ i = .int .i64 k ∧ OwnL wr w.heap.size v (k + 1) (evW o ts x) ∧ Below w.heap.size w wr) (fun _ i _ => n - (intOf i).toNat)
  case atStart => exact ⟨0, by omega, rfl, OW0.out, blThenAlloc (blAlloc _ _) _⟩
  case round =>
    obtain ⟨k, hk, rfl, how, hb⟩ := hrel
    obtain ⟨g, cc, rfl, hgl, hgu, hcl, hcm, hcel⟩ := how.look (by omega)
    have hkk : (k : Int) < (k : Int) + 1 := by omega
    have g0 := hcel k (by omega) 0 (by omega)
    have g1 := hcel k (by omega) 1 (by omega)
    have g2 := hcel k (by omega) 2 (by omega)
    rw [Nat.add_zero] at g0
    have HOW := Lib.hid how
    have HB := Lib.hid hb
    clear how hb hcel
    by_cases hlt : k < n
    · obtain ⟨b, rfl, vc⟩ := H.out.at_ k hlt
      obtain ⟨hsf, A1, n1, c1, A2, n2, c2, A3, n3, c3, V, XS⟩ := H.out.st k hlt
      replace V := Lib.hid V
      replace XS := Lib.hid XS
      replace vc := cell_later HB.out vc
      have hfine := sgf_zero (H.out.fine k hlt)
      have HXK := Lib.hid (evW_bd HO.out HX.out k (fun i hi => H.out.fine i (by omega)))
      have HE : Hid (∀ j, evW o ts x (k + 1) j = evS o (st_ ts k) (evW o ts x k) j) := fun j => rfl
      obtain ⟨X, hX⟩ : ∃ X, X = evW o ts x k := ⟨_, rfl⟩
      obtain ⟨E, hE⟩ : ∃ E, E = evW o ts x (k + 1) := ⟨_, rfl⟩
      have HEE : Hid (∀ j, E j = evW o ts x (k + 1) j) := fun j => by rw [hE]
      rw [← hX] at g0 g1 g2 HXK HE
      rw [← hE] at HE
      clear hX hE hsf
      obtain ⟨-, ⟨kd, hff⟩ | ⟨kd, hff⟩ | ⟨kd, hff⟩⟩ := hfine
      · -- kind 1
        have hvv := V.out.one kd
        rw [hvv] at vc
        have CL : Hid (∀ W p q, Below wr.heap.size wr W → W.cell? ⟨p, 0, none⟩ = some (.slice A1 n1 c1) → W.cell? ⟨q, 0, none⟩ = some (.int .i64 o) → Calls Tryz.prog 80 #[.agg #[.int .i64 (X 0), .int .i64 (X 1), .int .i64 (X 2)], .pointer (some ⟨p, 0, none⟩), .pointer (some ⟨q, 0, none⟩)] W (PtAns W (E 0) (E 1) (E 2))) := fun W p q hW h1 h2 => by
          have := step1_any o HO.out p q A1 n1 c1 (st_ ts k).cs X W h1 h2 (XS.out.bel (blThen HB.out hW)).a hff HXK.out
          rw [HE.out 0, HE.out 1, HE.out 2]
          unfold evS
          rw [if_pos kd, if_pos kd, if_pos kd]
          exact this
        have CS : Hid (∀ W, Below wr.heap.size wr W → Calls Tryz.prog 53 #[.iface 129 (.agg #[.slice A1 n1 c1]), .int .i64 o] W (SoAns1 W o A1 n1 c1)) := fun W hW => stepOf_1 o A1 n1 c1 W
        clear hvv kd hff HE V
        go_wp2_with fail
        go_region_law (first
          | (refine step_append_light _ rfl _ _ rfl w.heap.size (.slice (some ⟨g, 0, none⟩) (k + 1) cc) (k + 1) (evW o ts x) rfl (HO3.out.below (blAlloc _ _)) w3.heap.size 1 rfl AE.out (by omega) (by have := HB3.out.size; simp; omega) ?_; intro v4 w4 ho4 hb4)
          | (go_simp; go_at_call 53; (with_reducible refine (CS.out _ (by first | exact Below.refl _ _ | exact (Below.refl _ _).drew | exact below_drewN _ _ _)).mono ?_); rintro e w2 ⟨p, q, rfl, hp2, hq2, hb2⟩; have HB2 := Lib.hid (blThen (by first | exact Below.refl _ _ | exact (Below.refl _ _).drew | exact below_drewN _ _ _) hb2 : Below wr.heap.size wr w2); have i0 := cell_later HB2.out g0; have i1 := cell_later HB2.out g1; have i2 := cell_later HB2.out g2)
          | (go_simp; go_at_call 80; (with_reducible refine (CL.out _ _ _ HB2.out hp2 hq2).mono ?_); rintro e w3 ⟨rfl, hb3⟩; have HB3 := Lib.hid (blThen HB.out (blThen HB2.out hb3)); have HO3 := Lib.hid (HOW.out.below (blThen HB2.out hb3)); have AE : Hid (∀ j, j < 3 → (w3.alloc (.cells #[.int .i64 (E 0), .int .i64 (E 1), .int .i64 (E 2)] 76)).cell? ⟨w3.heap.size, j, none⟩ = some (.int .i64 (evW o ts x (k + 1) j))) := (fun j hj => by rw [← HEE.out j]; exact rv_at (Bx.new _ _ _ rfl) hj)))
        all_goals
          have HNW : Hid (OwnL w4 w.heap.size v4 (k + 2) (evW o ts x) ∧ Below w.heap.size w w4) := ⟨ho4, (blThenAlloc HB3.out _).trans hb4⟩
          clear ho4 hb4
          go_wp2_with fail
          go_roundw
          case rel => exact ⟨k + 1, by omega, by go_num, HNW.out.1, HNW.out.2⟩
          case measure => simp [intOf]; omega
      · -- kind 2
        have hvv := V.out.two kd
        rw [hvv] at vc
        have CL : Hid (∀ W p q (m : Nat → Int), Below wr.heap.size wr W → Bx W p [.int .i64 (m 0), .int .i64 (m 1), .int .i64 (m 2), .int .i64 (m 3), .int .i64 (m 4), .int .i64 (m 5), .int .i64 (m 6), .int .i64 (m 7), .int .i64 (m 8)] → (∀ t, t < 9 → m t = fl (st_ ts k).rs t) → W.cell? ⟨q, 0, none⟩ = some (.int .i64 o) → Calls Tryz.prog 83 #[.agg #[.int .i64 (X 0), .int .i64 (X 1), .int .i64 (X 2)], .pointer (some ⟨p, 0, none⟩), .pointer (some ⟨q, 0, none⟩)] W (PtAns W (E 0) (E 1) (E 2))) := fun W p q m hW h1 hm h2 => by
          have := step2_any o HO.out p q m X W h1 h2 (fun t ht => by rw [hm t ht]; exact fl_bd hff t ht) HXK.out
          have hap : ∀ i, i < 3 → apK o m X i = apK o (fl (st_ ts k).rs) X i := fun i hi => by
            unfold apK apS
            rw [hm (3 * i) (by omega), hm (3 * i + 1) (by omega), hm (3 * i + 2) (by omega)]
          rw [HE.out 0, HE.out 1, HE.out 2]
          unfold evS
          rw [if_neg (by omega), if_pos kd, if_neg (by omega), if_pos kd, if_neg (by omega), if_pos kd, ← hap 0 (by omega), ← hap 1 (by omega), ← hap 2 (by omega)]
          exact this
        have CS : Hid (∀ W, Below wr.heap.size wr W → Calls Tryz.prog 53 #[.iface 134 (.agg #[.slice A2 n2 c2]), .int .i64 o] W (SoAns2 W o (st_ ts k).rs)) := fun W hW => stepOf_2 o A2 n2 c2 (st_ ts k).rs W (XS.out.bel (blThen HB.out hW)).b hff
        clear hvv kd hff HE V
        go_wp2_with fail
        go_region_law (first
          | (refine step_append_light _ rfl _ _ rfl w.heap.size (.slice (some ⟨g, 0, none⟩) (k + 1) cc) (k + 1) (evW o ts x) rfl (HO3.out.below (blAlloc _ _)) w3.heap.size 1 rfl AE.out (by omega) (by have := HB3.out.size; simp; omega) ?_; intro v4 w4 ho4 hb4)
          | (go_simp; go_at_call 53; (with_reducible refine (CS.out _ (by first | exact Below.refl _ _ | exact (Below.refl _ _).drew | exact below_drewN _ _ _)).mono ?_); rintro e w2 ⟨p, q, m, rfl, hp2, hm2, hq2, hb2⟩; have HB2 := Lib.hid (blThen (by first | exact Below.refl _ _ | exact (Below.refl _ _).drew | exact below_drewN _ _ _) hb2 : Below wr.heap.size wr w2); have i0 := cell_later HB2.out g0; have i1 := cell_later HB2.out g1; have i2 := cell_later HB2.out g2)
          | (go_simp; go_at_call 83; (with_reducible refine (CL.out _ _ _ m HB2.out hp2 hm2 hq2).mono ?_); rintro e w3 ⟨rfl, hb3⟩; have HB3 := Lib.hid (blThen HB.out (blThen HB2.out hb3)); have HO3 := Lib.hid (HOW.out.below (blThen HB2.out hb3)); have AE : Hid (∀ j, j < 3 → (w3.alloc (.cells #[.int .i64 (E 0), .int .i64 (E 1), .int .i64 (E 2)] 76)).cell? ⟨w3.heap.size, j, none⟩ = some (.int .i64 (evW o ts x (k + 1) j))) := (fun j hj => by rw [← HEE.out j]; exact rv_at (Bx.new _ _ _ rfl) hj)))
        all_goals
          have HNW : Hid (OwnL w4 w.heap.size v4 (k + 2) (evW o ts x) ∧ Below w.heap.size w w4) := ⟨ho4, (blThenAlloc HB3.out _).trans hb4⟩
          clear ho4 hb4
          go_wp2_with fail
          go_roundw
          case rel => exact ⟨k + 1, by omega, by go_num, HNW.out.1, HNW.out.2⟩
          case measure => simp [intOf]; omega
      · -- kind 3
        obtain ⟨s, hsd⟩ : ∃ s : Nat, (st_ ts k).sd = s := ⟨(st_ ts k).sd.toNat, by have := inB_iff.1 (gf_zero hff).1; omega⟩
        rw [hsd] at hff
        have hvv := (V.out.thr kd).trans (by rw [hsd])
        rw [hvv] at vc
        have CL : Hid (∀ W p gg q B D, Below wr.heap.size wr W → W.cell? ⟨p, 0, none⟩ = some (.map (some B)) → W.cell? ⟨gg, 0, none⟩ = some (.int .i64 (s : Int)) → W.cell? ⟨q, 0, none⟩ = some (.int .i64 o) → MapN W B s (st_ ts k).ns (s * s * s) D → Calls Tryz.prog 86 #[.agg #[.int .i64 (X 0), .int .i64 (X 1), .int .i64 (X 2)], .pointer (some ⟨p, 0, none⟩), .pointer (some ⟨gg, 0, none⟩), .pointer (some ⟨q, 0, none⟩)] W (PtAns W (E 0) (E 1) (E 2))) := fun W p gg q B D hW h1 h2 h3 hM => by
          have := step3_any o HO.out p gg q B s undef (st_ ts k).ns D X W h1 h2 h3 hM hff HXK.out
          rw [HE.out 0, HE.out 1, HE.out 2]
          unfold evS
          rw [if_neg (by omega), if_neg (by omega), if_neg (by omega), if_neg (by omega), if_neg (by omega), if_neg (by omega), hsd]
          exact this
        have CS : Hid (∀ W, Below wr.heap.size wr W → Calls Tryz.prog 53 #[.iface 141 (.agg #[.int .i64 (s : Int), .slice A3 n3 c3]), .int .i64 o] W (SoAns3 W o s (st_ ts k).ns)) := fun W hW => stepOf_3 o A3 n3 c3 s (st_ ts k).ns W (XS.out.bel (blThen HB.out hW)).d hff
        clear hvv kd hff HE V
        go_wp2_with fail
        go_region_law (first
          | (refine step_append_light _ rfl _ _ rfl w.heap.size (.slice (some ⟨g, 0, none⟩) (k + 1) cc) (k + 1) (evW o ts x) rfl (HO3.out.below (blAlloc _ _)) w3.heap.size 1 rfl AE.out (by omega) (by have := HB3.out.size; simp; omega) ?_; intro v4 w4 ho4 hb4)
          | (go_simp; go_at_call 53; (with_reducible refine (CS.out _ (by first | exact Below.refl _ _ | exact (Below.refl _ _).drew | exact below_drewN _ _ _)).mono ?_); rintro e w2 ⟨p, gg, q, B, D, rfl, hp2, hg2, hq2, hM2, hb2⟩; have HB2 := Lib.hid (blThen (by first | exact Below.refl _ _ | exact (Below.refl _ _).drew | exact below_drewN _ _ _) hb2 : Below wr.heap.size wr w2); have i0 := cell_later HB2.out g0; have i1 := cell_later HB2.out g1; have i2 := cell_later HB2.out g2)
          | (go_simp; go_at_call 86; (with_reducible refine (CL.out _ _ _ _ B D HB2.out hp2 hg2 hq2 hM2).mono ?_); rintro e w3 ⟨rfl, hb3⟩; have HB3 := Lib.hid (blThen HB.out (blThen HB2.out hb3)); have HO3 := Lib.hid (HOW.out.below (blThen HB2.out hb3)); have AE : Hid (∀ j, j < 3 → (w3.alloc (.cells #[.int .i64 (E 0), .int .i64 (E 1), .int .i64 (E 2)] 76)).cell? ⟨w3.heap.size, j, none⟩ = some (.int .i64 (evW o ts x (k + 1) j))) := (fun j hj => by rw [← HEE.out j]; exact rv_at (Bx.new _ _ _ rfl) hj)))
        all_goals
          have HNW : Hid (OwnL w4 w.heap.size v4 (k + 2) (evW o ts x) ∧ Below w.heap.size w w4) := ⟨ho4, (blThenAlloc HB3.out _).trans hb4⟩
          clear ho4 hb4
          go_wp2_with fail
          go_roundw
          case rel => exact ⟨k + 1, by omega, by go_num, HNW.out.1, HNW.out.2⟩
          case measure => simp [intOf]; omega
    · obtain rfl : k = n := by omega
      go_wp2_with fail
      go_ret
      exact ⟨_, rfl, HOW.out, HB.out⟩
end Go.Proofs.YtlfdpambbgddoaaGreat
namespace Go.Proofs.YtlfdpambbgddoaaGreat
open Go.RowKit Go.Maps
set_option linter.unusedVariables false
set_option linter.unusedSimpArgs false

set_option maxRecDepth 100000 in
set_option maxHeartbeats 2000000 in
theorem lastOf_any (v : Value) (n base : Nat) (f : Nat → Nat → Int) (w : World) (h : OwnL w base v (n + 1) f) (hs : n ≤ 100000) :
    Calls Tryz.prog 119 #[v] w (IAns w 0 [f n 0, f n 1, f n 2]) := by
  obtain ⟨g, c, rfl, hg1, hg2, hc1, hc2, hcel⟩ := h.look (by omega)
  have g0 := hcel n (by omega) 0 (by omega)
  have g1 := hcel n (by omega) 1 (by omega)
  have g2 := hcel n (by omega) 2 (by omega)
  rw [Nat.add_zero] at g0
  have hnn : (n : Int) < (n : Int) + 1 := by omega
  obtain ⟨y, hy⟩ : ∃ y, y = f n := ⟨_, rfl⟩
  rw [← hy] at g0 g1 g2 ⊢
  clear h hcel hy
  go_enter Tryz.func119, Tryz.ntmps119
  go_wp2_with fail
  have BB := Bx.new (w.alloc (.cells #[.int .i64 0, .slice (some ⟨w.heap.size + 1, 0, none⟩) 3 3] 117)) #[.int .i64 (y 0), .int .i64 (y 1), .int .i64 (y 2)] 76 (b := w.heap.size + 1) (by simp)
  have k0 : ((w.alloc (.cells #[.int .i64 0, .slice (some ⟨w.heap.size + 1, 0, none⟩) 3 3] 117)).alloc (.cells #[.int .i64 (y 0), .int .i64 (y 1), .int .i64 (y 2)] 76)).cell? ⟨w.heap.size, 0, none⟩ = some (.int .i64 0) := by simp
  have k1 : ((w.alloc (.cells #[.int .i64 0, .slice (some ⟨w.heap.size + 1, 0, none⟩) 3 3] 117)).alloc (.cells #[.int .i64 (y 0), .int .i64 (y 1), .int .i64 (y 2)] 76)).cell? ⟨w.heap.size, 1, none⟩ = some (.slice (some ⟨w.heap.size + 1, 0, none⟩) 3 3) := by simp
  refine bodyPost_ret (v := .agg #[.int .i64 0, .slice (some ⟨w.heap.size + 1, 0, none⟩) 3 3]) (by simp [results, Tryz.results119, go_sem, k0, k1]) rfl ?_
  exact ⟨_, _, _, rfl, own3 (BB.c 0 rfl) (BB.c 1 rfl) (BB.c 2 rfl) (by omega) BB.lt BB.th, blThenAlloc (blAlloc _ _) _⟩
theorem evS_ext (o : Int) (t : Stg) {x x' : Nat → Int} (h : ∀ j, j < 3 → x j = x' j) {i : Nat} (hi : i < 3) : evS o t x i = evS o t x' i := by
  unfold evS apK apS
  rw [h i hi, h 0 (by omega), h 1 (by omega), h 2 (by omega), gvo_ext h]
theorem evW_ext (o : Int) (ts : List Stg) {x x' : Nat → Int} (h : ∀ j, j < 3 → x j = x' j) : ∀ k i, i < 3 → evW o ts x k i = evW o ts x' k i := by
  intro k
  induction k with
  | zero => exact h
  | succ k ih => intro i hi; exact evS_ext o _ ih hi
def esC (o : Int) (t : Stg) (xs : List Int) : Int := if sgf t = 0 then lfo o xs else sgf t
def esL (o : Int) (t : Stg) (xs : List Int) : List Int := if sgf t = 0 ∧ lfo o xs = 0 then [evS o t (xs.getD · 0) 0, evS o t (xs.getD · 0) 1, evS o t (xs.getD · 0) 2] else []
theorem es_f {o : Int} {t : Stg} {xs : List Int} (h : sgf t ≠ 0) : esC o t xs = sgf t ∧ esL o t xs = [] := ⟨by unfold esC; rw [if_neg h], by unfold esL; rw [if_neg (fun q => h q.1)]⟩
theorem es_l {o : Int} {t : Stg} {xs : List Int} (h : sgf t = 0) (h1 : lfo o xs ≠ 0) : esC o t xs = lfo o xs ∧ esL o t xs = [] := ⟨by unfold esC; rw [if_pos h], by unfold esL; rw [if_neg (fun q => h1 q.2)]⟩
theorem es_y {o : Int} {t : Stg} {xs : List Int} (h : sgf t = 0) (h1 : lfo o xs = 0) : esC o t xs = 0 ∧ esL o t xs = [evS o t (xs.getD · 0) 0, evS o t (xs.getD · 0) 1, evS o t (xs.getD · 0) 2] := ⟨by unfold esC; rw [if_pos h, h1], by unfold esL; rw [if_pos ⟨h, h1⟩]⟩
theorem es_len (o : Int) (t : Stg) (xs : List Int) : (esL o t xs).length ≤ 3 := by unfold esL; split <;> simp
/-- a result whose list comes from a call behind the box. -/
theorem IAns.put {w w1 : World} {b : Nat} {xs : List Int} {G : Option Addr} {n c : Nat} (z : Int) (hb : w.heap.size ≤ b) (hbl : b < w1.heap.size) {w2 : World} (ho : Own w2 (.ints .i64 xs) (.slice G n c) w1.heap.size w2.heap.size) (h1 : Below w.heap.size w w2) :
    Own ((w2.setCell ⟨b, 0, none⟩ (.int .i64 z)).setCell ⟨b, 1, none⟩ (.slice G n c)) (.ints .i64 xs) (.slice G n c) w.heap.size ((w2.setCell ⟨b, 0, none⟩ (.int .i64 z)).setCell ⟨b, 1, none⟩ (.slice G n c)).heap.size ∧
      Below w.heap.size w ((w2.setCell ⟨b, 0, none⟩ (.int .i64 z)).setCell ⟨b, 1, none⟩ (.slice G n c)) :=
  ⟨((ho.set (.inl hbl) 0 _).set (.inl hbl) 1 _).mono (by omega) (by simp [setSize]), bel1 (bel1 h1 hb 0 _) hb 1 _⟩
end Go.Proofs.YtlfdpambbgddoaaGreat
