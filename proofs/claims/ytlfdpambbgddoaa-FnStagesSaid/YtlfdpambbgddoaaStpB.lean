/-
  Colours on the way through stages: the program's stepsBy.
  A stage and a chain at a colour, by levels or fine numbers: the program's lastOf, evalStage, stepsOf, evalChain and what stands on them.
-/
import Derived.Test.YtlfdpambbgddoaaStpA
import Derived.Test.YtlfdpambbgddoaaChnA
namespace Go.Proofs.Ytlfdpambbgddoaa
open Go.RowKit Go.Maps
set_option linter.unusedVariables false
set_option linter.unusedSimpArgs false

/-- a row of stages that a call may read. -/
structure Sts (w : World) (ts : List Stg) (A : Option Addr) (n : Nat) (vs : List Value) : Prop where
  len : ts.length = n
  at_ : ∀ i, i < n → ∃ b, A = some ⟨b, 0, none⟩ ∧ w.cell? ⟨b, i, none⟩ = some (vs.getD i undef)
  st : ∀ i, i < n → IsStg w (st_ ts i) (vs.getD i undef)
  fine : ∀ i, i < n → sgf (st_ ts i) = 0
theorem Sts.bel {w w' : World} {ts : List Stg} {A : Option Addr} {n : Nat} {vs : List Value} (h : Sts w ts A n vs) (hb : Below w.heap.size w w') : Sts w' ts A n vs :=
  ⟨h.len, fun i hi => by obtain ⟨b, e, hc⟩ := h.at_ i hi; exact ⟨b, e, cell_later hb hc⟩, fun i hi => (h.st i hi).bel hb, h.fine⟩
theorem Sts.of {w : World} {ts : List Stg} {base : Nat} {v : Value} {vs : List Value} (ho : OwnSv w base v ts.length vs) (hs : ∀ i, i < ts.length → IsStg w (st_ ts i) (vs.getD i undef)) (hf : ∀ i, i < ts.length → sgf (st_ ts i) = 0) : ∃ A c, v = .slice A ts.length c ∧ ts.length ≤ c ∧ c ≤ maxLen ∧ Sts w ts A ts.length vs := by
  have ho' := ho
  rcases ho.2 with ⟨rfl, hn⟩ | ⟨g, cap, cur, rfl, b1, b2, b3, b4, b5, b6⟩
  · rw [hn]
    exact ⟨none, 0, rfl, Nat.le_refl _, by unfold maxLen; omega, hn, fun i hi => by omega, fun i hi => by omega, fun i hi => by omega⟩
  · refine ⟨some ⟨g, 0, none⟩, cap, rfl, b3, b4, rfl, fun i hi => ⟨g, rfl, ?_⟩, hs, hf⟩
    have hl := ho.1
    have := World.ownsRow.cellAt ho' i (by omega)
    rw [this]
    simp only [List.getD]
    rw [List.getElem?_eq_getElem (by omega)]
    rfl
theorem sgL_all {ts : List Stg} : ∀ n, sgL ts n = 0 → ∀ i, i < n → sgf (st_ ts i) = 0 := by
  intro n
  induction n with
  | zero => intro _ i hi; omega
  | succ n ih =>
    intro h i hi
    by_cases h0 : sgL ts n = 0
    · by_cases e : i = n
      · subst e
        simp only [sgL] at h
        rw [if_pos h0] at h
        exact h
      · exact ih h0 i (by omega)
    · simp only [sgL] at h
      rw [if_neg h0] at h
      exact absurd h h0
def SbyAns (w : World) (n : Nat) (f : Nat → Nat → Int) (e : Ending) (w' : World) : Prop := ∃ v, e = .returned v ∧ OwnL w' w.heap.size v (n + 1) f ∧ Below w.heap.size w w'
set_option maxRecDepth 100000 in
set_option maxHeartbeats 8000000 in
theorem stepsBy_any (o : Int) (ho : One o) (A : Option Addr) (n c : Nat) (ts : List Stg) (vs : List Value) (x : Nat → Int) (w : World) (h : Sts w ts A n vs) (hn : n ≤ c) (hm : c ≤ maxLen) (hs : n ≤ 100000) (hx : LvT (65535 * o) x) :
    Calls Try.prog 110 #[.agg #[.int .i64 (x 0), .int .i64 (x 1), .int .i64 (x 2)], .int .i64 o, .slice A n c] w (SbyAns w n (evW o ts x)) := by
  unfold maxLen at hm
  have H := Lib.hid h
  have HO := Lib.hid ho
  have HX := Lib.hid hx
  have OW0 : Hid (OwnL ((w.alloc (.cells #[.int .i64 (x 0), .int .i64 (x 1), .int .i64 (x 2)] 101)).alloc (.cells #[.int .i64 (x 0), .int .i64 (x 1), .int .i64 (x 2)] 101)) w.heap.size (.slice (some ⟨w.heap.size + 1, 0, none⟩) 1 1) 1 (evW o ts x)) := by
    have := OwnL.lit (w.alloc (.cells #[.int .i64 (x 0), .int .i64 (x 1), .int .i64 (x 2)] 101)) (evW o ts x) (base := w.heap.size) (by simp)
    simp only [World.size_alloc] at this
    exact this
  clear h ho hx
  go_enter Try.func110, Try.ntmps110
  go_wp2_with fail
  go_loopw [7, 14] (fun v i wr => ∃ k : Nat, k ≤ n ∧ i = .int .i64 k ∧ OwnL wr w.heap.size v (k + 1) (evW o ts x) ∧ Below w.heap.size w wr) (fun _ i _ => n - (intOf i).toNat)
  case atStart => exact ⟨0, by omega, rfl, OW0.out, blThenAlloc (blAlloc _ _) _⟩
  case round =>
    obtain ⟨k, hk, rfl, how, hb⟩ := hrel
    obtain ⟨g, cc, rfl, hgl, hgu, hcl, hcm, hcel⟩ := how.look (by omega)
    have hkk : (k : Int) < (k : Int) + 1 := by omega
    have g0 := hcel k (by omega) 0 (by omega)
    have g1 := hcel k (by omega) 1 (by omega)
    have g2 := hcel k (by omega) 2 (by omega)
    rw [Nat.add_zero] at g0
    have HOW := Lib.hid how
    have HB := Lib.hid hb
    clear how hb hcel
    by_cases hlt : k < n
    · obtain ⟨b, rfl, vc⟩ := H.out.at_ k hlt
      obtain ⟨hsf, A1, n1, c1, A2, n2, c2, A3, n3, c3, V, XS⟩ := H.out.st k hlt
      replace V := Lib.hid V
      replace XS := Lib.hid XS
      replace vc := cell_later HB.out vc
      have hfine := sgf_zero (H.out.fine k hlt)
      have HXK := Lib.hid (evW_bd HO.out HX.out k (fun i hi => H.out.fine i (by omega)))
      have HE : Hid (∀ j, evW o ts x (k + 1) j = evS o (st_ ts k) (evW o ts x k) j) := fun j => rfl
      obtain ⟨X, hX⟩ : ∃ X, X = evW o ts x k := ⟨_, rfl⟩
      obtain ⟨E, hE⟩ : ∃ E, E = evW o ts x (k + 1) := ⟨_, rfl⟩
      have HEE : Hid (∀ j, E j = evW o ts x (k + 1) j) := fun j => by rw [hE]
      rw [← hX] at g0 g1 g2 HXK HE
      rw [← hE] at HE
      clear hX hE hsf
      obtain ⟨-, ⟨kd, hff⟩ | ⟨kd, hff⟩ | ⟨kd, hff⟩⟩ := hfine
      · -- kind 1
        have hvv := V.out.one kd
        rw [hvv] at vc
        have CL : Hid (∀ W p q, Below wr.heap.size wr W → W.cell? ⟨p, 0, none⟩ = some (.slice A1 n1 c1) → W.cell? ⟨q, 0, none⟩ = some (.int .i64 o) → Calls Try.prog 164 #[.agg #[.int .i64 (X 0), .int .i64 (X 1), .int .i64 (X 2)], .pointer (some ⟨p, 0, none⟩), .pointer (some ⟨q, 0, none⟩)] W (PtAns W (E 0) (E 1) (E 2))) := fun W p q hW h1 h2 => by
          have := step1_any o HO.out p q A1 n1 c1 (st_ ts k).cs X W h1 h2 (XS.out.bel (blThen HB.out hW)).a hff HXK.out
          rw [HE.out 0, HE.out 1, HE.out 2]
          unfold evS
          rw [if_pos kd, if_pos kd, if_pos kd]
          exact this
        have CS : Hid (∀ W, Below wr.heap.size wr W → Calls Try.prog 144 #[.iface 155 (.agg #[.slice A1 n1 c1]), .int .i64 o] W (SoAns1 W o A1 n1 c1)) := fun W hW => stepOf_1 o A1 n1 c1 W
        clear hvv kd hff HE V
        go_wp2_with fail
        go_region_law (first
          | (refine step_append_light _ rfl _ _ rfl w.heap.size (.slice (some ⟨g, 0, none⟩) (k + 1) cc) (k + 1) (evW o ts x) rfl (HO3.out.below (blAlloc _ _)) w3.heap.size 1 rfl AE.out (by omega) (by have := HB3.out.size; simp; omega) ?_; intro v4 w4 ho4 hb4)
          | (go_simp; go_at_call 144; (with_reducible refine (CS.out _ (by first | exact Below.refl _ _ | exact (Below.refl _ _).drew | exact below_drewN _ _ _)).mono ?_); rintro e w2 ⟨p, q, rfl, hp2, hq2, hb2⟩; have HB2 := Lib.hid (blThen (by first | exact Below.refl _ _ | exact (Below.refl _ _).drew | exact below_drewN _ _ _) hb2 : Below wr.heap.size wr w2); have i0 := cell_later HB2.out g0; have i1 := cell_later HB2.out g1; have i2 := cell_later HB2.out g2)
          | (go_simp; go_at_call 164; (with_reducible refine (CL.out _ _ _ HB2.out hp2 hq2).mono ?_); rintro e w3 ⟨rfl, hb3⟩; have HB3 := Lib.hid (blThen HB.out (blThen HB2.out hb3)); have HO3 := Lib.hid (HOW.out.below (blThen HB2.out hb3)); have AE : Hid (∀ j, j < 3 → (w3.alloc (.cells #[.int .i64 (E 0), .int .i64 (E 1), .int .i64 (E 2)] 101)).cell? ⟨w3.heap.size, j, none⟩ = some (.int .i64 (evW o ts x (k + 1) j))) := (fun j hj => by rw [← HEE.out j]; exact rv_at (Bx.new _ _ _ rfl) hj)))
        all_goals
          have HNW : Hid (OwnL w4 w.heap.size v4 (k + 2) (evW o ts x) ∧ Below w.heap.size w w4) := ⟨ho4, (blThenAlloc HB3.out _).trans hb4⟩
          clear ho4 hb4
          go_wp2_with fail
          go_roundw
          case rel => exact ⟨k + 1, by omega, by go_num, HNW.out.1, HNW.out.2⟩
          case measure => simp [intOf]; omega
      · -- kind 2
        have hvv := V.out.two kd
        rw [hvv] at vc
        have CL : Hid (∀ W p q (m : Nat → Int), Below wr.heap.size wr W → Bx W p [.int .i64 (m 0), .int .i64 (m 1), .int .i64 (m 2), .int .i64 (m 3), .int .i64 (m 4), .int .i64 (m 5), .int .i64 (m 6), .int .i64 (m 7), .int .i64 (m 8)] → (∀ t, t < 9 → m t = fl (st_ ts k).rs t) → W.cell? ⟨q, 0, none⟩ = some (.int .i64 o) → Calls Try.prog 165 #[.agg #[.int .i64 (X 0), .int .i64 (X 1), .int .i64 (X 2)], .pointer (some ⟨p, 0, none⟩), .pointer (some ⟨q, 0, none⟩)] W (PtAns W (E 0) (E 1) (E 2))) := fun W p q m hW h1 hm h2 => by
          have := step2_any o HO.out p q m X W h1 h2 (fun t ht => by rw [hm t ht]; exact fl_bd hff t ht) HXK.out
          have hap : ∀ i, i < 3 → apK o m X i = apK o (fl (st_ ts k).rs) X i := fun i hi => by
            unfold apK apS
            rw [hm (3 * i) (by omega), hm (3 * i + 1) (by omega), hm (3 * i + 2) (by omega)]
          rw [HE.out 0, HE.out 1, HE.out 2]
          unfold evS
          rw [if_neg (by omega), if_pos kd, if_neg (by omega), if_pos kd, if_neg (by omega), if_pos kd, ← hap 0 (by omega), ← hap 1 (by omega), ← hap 2 (by omega)]
          exact this
        have CS : Hid (∀ W, Below wr.heap.size wr W → Calls Try.prog 144 #[.iface 158 (.agg #[.slice A2 n2 c2]), .int .i64 o] W (SoAns2 W o (st_ ts k).rs)) := fun W hW => stepOf_2 o A2 n2 c2 (st_ ts k).rs W (XS.out.bel (blThen HB.out hW)).b hff
        clear hvv kd hff HE V
        go_wp2_with fail
        go_region_law (first
          | (refine step_append_light _ rfl _ _ rfl w.heap.size (.slice (some ⟨g, 0, none⟩) (k + 1) cc) (k + 1) (evW o ts x) rfl (HO3.out.below (blAlloc _ _)) w3.heap.size 1 rfl AE.out (by omega) (by have := HB3.out.size; simp; omega) ?_; intro v4 w4 ho4 hb4)
          | (go_simp; go_at_call 144; (with_reducible refine (CS.out _ (by first | exact Below.refl _ _ | exact (Below.refl _ _).drew | exact below_drewN _ _ _)).mono ?_); rintro e w2 ⟨p, q, m, rfl, hp2, hm2, hq2, hb2⟩; have HB2 := Lib.hid (blThen (by first | exact Below.refl _ _ | exact (Below.refl _ _).drew | exact below_drewN _ _ _) hb2 : Below wr.heap.size wr w2); have i0 := cell_later HB2.out g0; have i1 := cell_later HB2.out g1; have i2 := cell_later HB2.out g2)
          | (go_simp; go_at_call 165; (with_reducible refine (CL.out _ _ _ m HB2.out hp2 hm2 hq2).mono ?_); rintro e w3 ⟨rfl, hb3⟩; have HB3 := Lib.hid (blThen HB.out (blThen HB2.out hb3)); have HO3 := Lib.hid (HOW.out.below (blThen HB2.out hb3)); have AE : Hid (∀ j, j < 3 → (w3.alloc (.cells #[.int .i64 (E 0), .int .i64 (E 1), .int .i64 (E 2)] 101)).cell? ⟨w3.heap.size, j, none⟩ = some (.int .i64 (evW o ts x (k + 1) j))) := (fun j hj => by rw [← HEE.out j]; exact rv_at (Bx.new _ _ _ rfl) hj)))
        all_goals
          have HNW : Hid (OwnL w4 w.heap.size v4 (k + 2) (evW o ts x) ∧ Below w.heap.size w w4) := ⟨ho4, (blThenAlloc HB3.out _).trans hb4⟩
          clear ho4 hb4
          go_wp2_with fail
          go_roundw
          case rel => exact ⟨k + 1, by omega, by go_num, HNW.out.1, HNW.out.2⟩
          case measure => simp [intOf]; omega
      · -- kind 3
        obtain ⟨s, hsd⟩ : ∃ s : Nat, (st_ ts k).sd = s := ⟨(st_ ts k).sd.toNat, by have := inB_iff.1 (gf_zero hff).1; omega⟩
        rw [hsd] at hff
        have hvv := (V.out.thr kd).trans (by rw [hsd])
        rw [hvv] at vc
        have CL : Hid (∀ W p gg q B D, Below wr.heap.size wr W → W.cell? ⟨p, 0, none⟩ = some (.map (some B)) → W.cell? ⟨gg, 0, none⟩ = some (.int .i64 (s : Int)) → W.cell? ⟨q, 0, none⟩ = some (.int .i64 o) → MapN W B s (st_ ts k).ns (s * s * s) D → Calls Try.prog 166 #[.agg #[.int .i64 (X 0), .int .i64 (X 1), .int .i64 (X 2)], .pointer (some ⟨p, 0, none⟩), .pointer (some ⟨gg, 0, none⟩), .pointer (some ⟨q, 0, none⟩)] W (PtAns W (E 0) (E 1) (E 2))) := fun W p gg q B D hW h1 h2 h3 hM => by
          have := step3_any o HO.out p gg q B s undef (st_ ts k).ns D X W h1 h2 h3 hM hff HXK.out
          rw [HE.out 0, HE.out 1, HE.out 2]
          unfold evS
          rw [if_neg (by omega), if_neg (by omega), if_neg (by omega), if_neg (by omega), if_neg (by omega), if_neg (by omega), hsd]
          exact this
        have CS : Hid (∀ W, Below wr.heap.size wr W → Calls Try.prog 144 #[.iface 161 (.agg #[.int .i64 (s : Int), .slice A3 n3 c3]), .int .i64 o] W (SoAns3 W o s (st_ ts k).ns)) := fun W hW => stepOf_3 o A3 n3 c3 s (st_ ts k).ns W (XS.out.bel (blThen HB.out hW)).d hff
        clear hvv kd hff HE V
        go_wp2_with fail
        go_region_law (first
          | (refine step_append_light _ rfl _ _ rfl w.heap.size (.slice (some ⟨g, 0, none⟩) (k + 1) cc) (k + 1) (evW o ts x) rfl (HO3.out.below (blAlloc _ _)) w3.heap.size 1 rfl AE.out (by omega) (by have := HB3.out.size; simp; omega) ?_; intro v4 w4 ho4 hb4)
          | (go_simp; go_at_call 144; (with_reducible refine (CS.out _ (by first | exact Below.refl _ _ | exact (Below.refl _ _).drew | exact below_drewN _ _ _)).mono ?_); rintro e w2 ⟨p, gg, q, B, D, rfl, hp2, hg2, hq2, hM2, hb2⟩; have HB2 := Lib.hid (blThen (by first | exact Below.refl _ _ | exact (Below.refl _ _).drew | exact below_drewN _ _ _) hb2 : Below wr.heap.size wr w2); have i0 := cell_later HB2.out g0; have i1 := cell_later HB2.out g1; have i2 := cell_later HB2.out g2)
          | (go_simp; go_at_call 166; (with_reducible refine (CL.out _ _ _ _ B D HB2.out hp2 hg2 hq2 hM2).mono ?_); rintro e w3 ⟨rfl, hb3⟩; have HB3 := Lib.hid (blThen HB.out (blThen HB2.out hb3)); have HO3 := Lib.hid (HOW.out.below (blThen HB2.out hb3)); have AE : Hid (∀ j, j < 3 → (w3.alloc (.cells #[.int .i64 (E 0), .int .i64 (E 1), .int .i64 (E 2)] 101)).cell? ⟨w3.heap.size, j, none⟩ = some (.int .i64 (evW o ts x (k + 1) j))) := (fun j hj => by rw [← HEE.out j]; exact rv_at (Bx.new _ _ _ rfl) hj)))
        all_goals
          have HNW : Hid (OwnL w4 w.heap.size v4 (k + 2) (evW o ts x) ∧ Below w.heap.size w w4) := ⟨ho4, (blThenAlloc HB3.out _).trans hb4⟩
          clear ho4 hb4
          go_wp2_with fail
          go_roundw
          case rel => exact ⟨k + 1, by omega, by go_num, HNW.out.1, HNW.out.2⟩
          case measure => simp [intOf]; omega
    · obtain rfl : k = n := by omega
      go_wp2_with fail
      go_ret
      exact ⟨_, rfl, HOW.out, HB.out⟩
end Go.Proofs.Ytlfdpambbgddoaa
namespace Go.Proofs.Ytlfdpambbgddoaa
open Go.RowKit Go.Maps
set_option linter.unusedVariables false
set_option linter.unusedSimpArgs false

set_option maxRecDepth 100000 in
set_option maxHeartbeats 2000000 in
theorem lastOf_any (v : Value) (n base : Nat) (f : Nat → Nat → Int) (w : World) (h : OwnL w base v (n + 1) f) (hs : n ≤ 100000) :
    Calls Try.prog 109 #[v] w (IAns w 0 [f n 0, f n 1, f n 2]) := by
  obtain ⟨g, c, rfl, hg1, hg2, hc1, hc2, hcel⟩ := h.look (by omega)
  have g0 := hcel n (by omega) 0 (by omega)
  have g1 := hcel n (by omega) 1 (by omega)
  have g2 := hcel n (by omega) 2 (by omega)
  rw [Nat.add_zero] at g0
  have hnn : (n : Int) < (n : Int) + 1 := by omega
  obtain ⟨y, hy⟩ : ∃ y, y = f n := ⟨_, rfl⟩
  rw [← hy] at g0 g1 g2 ⊢
  clear h hcel hy
  go_enter Try.func109, Try.ntmps109
  go_wp2_with fail
  have BB := Bx.new (w.alloc (.cells #[.int .i64 0, .slice (some ⟨w.heap.size + 1, 0, none⟩) 3 3] 48)) #[.int .i64 (y 0), .int .i64 (y 1), .int .i64 (y 2)] 101 (b := w.heap.size + 1) (by simp)
  have k0 : ((w.alloc (.cells #[.int .i64 0, .slice (some ⟨w.heap.size + 1, 0, none⟩) 3 3] 48)).alloc (.cells #[.int .i64 (y 0), .int .i64 (y 1), .int .i64 (y 2)] 101)).cell? ⟨w.heap.size, 0, none⟩ = some (.int .i64 0) := by simp
  have k1 : ((w.alloc (.cells #[.int .i64 0, .slice (some ⟨w.heap.size + 1, 0, none⟩) 3 3] 48)).alloc (.cells #[.int .i64 (y 0), .int .i64 (y 1), .int .i64 (y 2)] 101)).cell? ⟨w.heap.size, 1, none⟩ = some (.slice (some ⟨w.heap.size + 1, 0, none⟩) 3 3) := by simp
  refine bodyPost_ret (v := .agg #[.int .i64 0, .slice (some ⟨w.heap.size + 1, 0, none⟩) 3 3]) (by simp [results, Try.results109, go_sem, k0, k1]) rfl ?_
  exact ⟨_, _, _, rfl, own3 (BB.c 0 rfl) (BB.c 1 rfl) (BB.c 2 rfl) (by omega) BB.lt BB.th, blThenAlloc (blAlloc _ _) _⟩
theorem evS_ext (o : Int) (t : Stg) {x x' : Nat → Int} (h : ∀ j, j < 3 → x j = x' j) {i : Nat} (hi : i < 3) : evS o t x i = evS o t x' i := by
  unfold evS apK apS
  rw [h i hi, h 0 (by omega), h 1 (by omega), h 2 (by omega), gvo_ext h]
theorem evW_ext (o : Int) (ts : List Stg) {x x' : Nat → Int} (h : ∀ j, j < 3 → x j = x' j) : ∀ k i, i < 3 → evW o ts x k i = evW o ts x' k i := by
  intro k
  induction k with
  | zero => exact h
  | succ k ih => intro i hi; exact evS_ext o _ ih hi
def esC (o : Int) (t : Stg) (xs : List Int) : Int := if sgf t = 0 then lfo o xs else sgf t
def esL (o : Int) (t : Stg) (xs : List Int) : List Int := if sgf t = 0 ∧ lfo o xs = 0 then [evS o t (xs.getD · 0) 0, evS o t (xs.getD · 0) 1, evS o t (xs.getD · 0) 2] else []
theorem es_f {o : Int} {t : Stg} {xs : List Int} (h : sgf t ≠ 0) : esC o t xs = sgf t ∧ esL o t xs = [] := ⟨by unfold esC; rw [if_neg h], by unfold esL; rw [if_neg (fun q => h q.1)]⟩
theorem es_l {o : Int} {t : Stg} {xs : List Int} (h : sgf t = 0) (h1 : lfo o xs ≠ 0) : esC o t xs = lfo o xs ∧ esL o t xs = [] := ⟨by unfold esC; rw [if_pos h], by unfold esL; rw [if_neg (fun q => h1 q.2)]⟩
theorem es_y {o : Int} {t : Stg} {xs : List Int} (h : sgf t = 0) (h1 : lfo o xs = 0) : esC o t xs = 0 ∧ esL o t xs = [evS o t (xs.getD · 0) 0, evS o t (xs.getD · 0) 1, evS o t (xs.getD · 0) 2] := ⟨by unfold esC; rw [if_pos h, h1], by unfold esL; rw [if_pos ⟨h, h1⟩]⟩
theorem es_len (o : Int) (t : Stg) (xs : List Int) : (esL o t xs).length ≤ 3 := by unfold esL; split <;> simp
/-- a result whose list comes from a call behind the box. -/
theorem IAns.put {w w1 : World} {b : Nat} {xs : List Int} {G : Option Addr} {n c : Nat} (z : Int) (hb : w.heap.size ≤ b) (hbl : b < w1.heap.size) {w2 : World} (ho : Own w2 (.ints .i64 xs) (.slice G n c) w1.heap.size w2.heap.size) (h1 : Below w.heap.size w w2) :
    Own ((w2.setCell ⟨b, 0, none⟩ (.int .i64 z)).setCell ⟨b, 1, none⟩ (.slice G n c)) (.ints .i64 xs) (.slice G n c) w.heap.size ((w2.setCell ⟨b, 0, none⟩ (.int .i64 z)).setCell ⟨b, 1, none⟩ (.slice G n c)).heap.size ∧
      Below w.heap.size w ((w2.setCell ⟨b, 0, none⟩ (.int .i64 z)).setCell ⟨b, 1, none⟩ (.slice G n c)) :=
  ⟨((ho.set (.inl hbl) 0 _).set (.inl hbl) 1 _).mono (by omega) (by simp [setSize]), bel1 (bel1 h1 hb 0 _) hb 1 _⟩
set_option maxRecDepth 100000 in
set_option maxHeartbeats 4000000 in
theorem evalStage_any (o : Int) (ho : One o) (t : Stg) (A1 : Option Addr) (n1 c1 : Nat) (A2 : Option Addr) (n2 c2 : Nat) (A3 : Option Addr) (n3 c3 : Nat) (P : Option Addr) (m d : Nat) (xs : List Int) (gs : List Nat) (w : World) (h : HdSt w t A1 n1 c1 A2 n2 c2 A3 n3 c3) (hp : Hd w (.ints .i64 xs) (.slice P m d) gs) :
    Calls Try.prog 70 #[.agg #[.int .i64 t.kd, .slice A1 n1 c1, .slice A2 n2 c2, .int .i64 t.sd, .slice A3 n3 c3], .slice P m d, .int .i64 o] w (IAns w (esC o t xs) (esL o t xs)) := by
  have H := Lib.hid (chOne (((h.alloc (.cells #[.int .i64 t.kd, .slice A1 n1 c1, .slice A2 n2 c2, .int .i64 t.sd, .slice A3 n3 c3] 64)).alloc (.cells #[.int .i64 0, .slice none 0 0] 48)).alloc (.cells #[.int .i64 t.kd, .slice A1 n1 c1, .slice A2 n2 c2, .int .i64 t.sd, .slice A3 n3 c3] 64)) (Bx.new ((w.alloc (.cells #[.int .i64 t.kd, .slice A1 n1 c1, .slice A2 n2 c2, .int .i64 t.sd, .slice A3 n3 c3] 64)).alloc (.cells #[.int .i64 0, .slice none 0 0] 48)) #[.int .i64 t.kd, .slice A1 n1 c1, .slice A2 n2 c2, .int .i64 t.sd, .slice A3 n3 c3] 64 (b := w.heap.size + 1 + 1) (by simp)))
  have HP := Lib.hid hp
  have HO := Lib.hid ho
  clear h hp ho
  go_enter Try.func70, Try.ntmps70
  go_wp2_with fail
  refine (stagesOf_any _ _ _ [t] _ _ H.out.choose_spec (by omega)).mono ?_
  rintro e w1 ⟨v, rfl, hok, hb⟩
  have R1 := Lib.hid (((Bx.new (w.alloc (.cells #[.int .i64 t.kd, .slice A1 n1 c1, .slice A2 n2 c2, .int .i64 t.sd, .slice A3 n3 c3] 64)) #[.int .i64 0, .slice none 0 0] 48 (b := w.heap.size + 1) (by simp)).alloc (.cells #[.int .i64 t.kd, .slice A1 n1 c1, .slice A2 n2 c2, .int .i64 t.sd, .slice A3 n3 c3] 64)).bel hb)
  have T1 := Lib.hid (blThen (blThenAlloc (blThenAlloc (blAlloc w _) _) _) hb)
  have HS := Lib.hid (sgL_one t)
  change Hid (sgL [t] [t].length = sgf t) at HS
  rw [HS.out] at hok ⊢
  have r0 := R1.out.c 0 rfl
  have r1 := R1.out.c 1 rfl
  have z0 := R1.out.f 0
  have z1 := R1.out.f 1
  have l1 := R1.out.lt
  clear hb H
  by_cases h0 : sgf t = 0
  · obtain ⟨vs, hov, hst⟩ := hok h0
    have H0 := Lib.hid h0
    obtain ⟨A, c, rfl, hc1, hc2, hsts⟩ := Sts.of hov hst (fun i hi => by
      have e : i = 0 := by change i < 1 at hi; omega
      rw [e]
      exact h0)
    change Sts w1 [t] A 1 vs at hsts
    change 1 ≤ c at hc1
    have HST := Lib.hid hsts
    rw [h0]
    clear hok hov hst h0 hsts
    go_wp2_with fail
    refine (lightsOf_k o HO.out P m d xs _ (HP.out.rd.below T1.out) HP.out.caps.1 HP.out.caps.2).mono ?_
    rintro e w2 ⟨q, rfl, hq, hb⟩
    have R2 := Lib.hid (R1.out.bel hb)
    have T2 := Lib.hid (blThen T1.out hb)
    have HST2 := Lib.hid (HST.out.bel hb)
    clear hb R1 T1 HST r0 r1 z0 z1 l1
    have r0 := R2.out.c 0 rfl
    have r1 := R2.out.c 1 rfl
    have z0 := R2.out.f 0
    have z1 := R2.out.f 1
    have l1 := R2.out.lt
    by_cases h1 : lfo o xs = 0
    · have HA := Lib.hid (es_y H0.out h1)
      have HQ : Hid (LvT (65535 * o) q) := fun j hj => by rw [hq h1 j hj]; exact inB_iff.1 ((lfo_zero h1).2 j hj)
      have HEV : Hid (∀ i, i < 3 → evW o [t] q 1 i = evS o t (xs.getD · 0) i) := fun i hi => evS_ext o t (hq h1) hi
      rw [h1]
      clear hq h1
      go_wp2_with fail
      refine (stepsBy_any o HO.out A 1 c [t] _ q _ (HST2.out.bel (blAlloc _ _)) hc1 hc2 (by omega) HQ.out).mono ?_
      rintro e w3 ⟨v, rfl, hov, hb⟩
      have R3 := Lib.hid ((R2.out.alloc (.cells #[.int .i64 (q 0), .int .i64 (q 1), .int .i64 (q 2)] 101)).bel hb)
      have T3 := Lib.hid (blThen (blThenAlloc T2.out _) hb)
      have HOV := Lib.hid hov
      clear hb R2 T2 HST2 hov r0 r1 z0 z1 l1
      go_wp2_with fail
      refine (lastOf_any v 1 _ _ _ HOV.out (by omega)).mono ?_
      rintro e w4 ⟨G, n', c', rfl, how, hb⟩
      have R4 := Lib.hid (R3.out.bel hb)
      have T4 := Lib.hid (blThen T3.out hb)
      rw [HEV.out 0 (by omega), HEV.out 1 (by omega), HEV.out 2 (by omega)] at how
      have l3 := R3.out.lt
      have HPT := Lib.hid (IAns.put (b := w.heap.size + 1) 0 (by omega) l3 how T4.out)
      clear hb R3 T3 how HOV
      have r0 := R4.out.c 0 rfl
      have r1 := R4.out.c 1 rfl
      have z0 := R4.out.f 0
      have z1 := R4.out.f 1
      have l1 := R4.out.lt
      go_wp2_with fail
      have KK := (R4.out.set 0 (.int .i64 0)).set 1 (.slice G n' c')
      have k0 := KK.c 0 rfl
      have k1 := KK.c 1 rfl
      clear KK
      refine bodyPost_ret (v := .agg #[.int .i64 0, .slice G n' c']) (by simp [results, Try.results70, go_sem, k0, k1]) rfl ⟨G, n', c', by rw [HA.out.1], ?_, HPT.out.2⟩
      rw [HA.out.2]
      exact HPT.out.1
    · have HA := Lib.hid (es_l H0.out h1)
      obtain ⟨f, hf⟩ : ∃ f, lfo o xs = f := ⟨_, rfl⟩
      rw [hf] at h1 HA ⊢
      have hqn : (f == 0) = false := by simpa using h1
      clear hq hf
      go_wp2_with fail
      have KK := ((R2.out.set 0 (.int .i64 f)).set 1 (.slice none 0 0)).alloc (.cells #[.int .i64 (q 0), .int .i64 (q 1), .int .i64 (q 2)] 101)
      have k0 := KK.c 0 rfl
      have k1 := KK.c 1 rfl
      clear KK
      refine bodyPost_ret (v := .agg #[.int .i64 f, .slice none 0 0]) (by simp [results, Try.results70, go_sem, k0, k1]) rfl (IAns.bad HA.out ?_)
      exact blThenAlloc (bel1 (bel1 T2.out (c := w.heap.size + 1) (by omega) 0 _) (c := w.heap.size + 1) (by omega) 1 _) _
  · have HA := Lib.hid (es_f (o := o) (xs := xs) h0)
    obtain ⟨f, hf⟩ : ∃ f, sgf t = f := ⟨_, rfl⟩
    rw [hf] at h0 HA ⊢
    have hqn : (f == 0) = false := by simpa using h0
    clear hok hf HS
    go_wp2_with fail
    have KK := (R1.out.set 0 (.int .i64 f)).set 1 (.slice none 0 0)
    have k0 := KK.c 0 rfl
    have k1 := KK.c 1 rfl
    clear KK
    refine bodyPost_ret (v := .agg #[.int .i64 f, .slice none 0 0]) (by simp [results, Try.results70, go_sem, k0, k1]) rfl (IAns.bad HA.out ?_)
    exact bel1 (bel1 T1.out (c := w.heap.size + 1) (by omega) 0 _) (c := w.heap.size + 1) (by omega) 1 _
set_option maxHeartbeats 400000 in
theorem EvalStage_any (t : Stg) (A1 : Option Addr) (n1 c1 : Nat) (A2 : Option Addr) (n2 c2 : Nat) (A3 : Option Addr) (n3 c3 : Nat) (P : Option Addr) (m d : Nat) (xs : List Int) (gs : List Nat) (w : World) (h : HdSt w t A1 n1 c1 A2 n2 c2 A3 n3 c3) (hp : Hd w (.ints .i64 xs) (.slice P m d) gs) :
    Calls Try.prog 29 #[.agg #[.int .i64 t.kd, .slice A1 n1 c1, .slice A2 n2 c2, .int .i64 t.sd, .slice A3 n3 c3], .slice P m d] w (IAns w (esC 1 t xs) (esL 1 t xs)) := by
  have H := Lib.hid h
  have HP := Lib.hid hp
  clear h hp
  go_enter Try.func29, Try.ntmps29
  go_wp2_with fail
  refine (evalStage_any 1 (.inl rfl) t _ _ _ _ _ _ _ _ _ P m d xs gs _ ((H.out.alloc _).alloc _) ((HP.out.alloc _).alloc _)).mono ?_
  rintro e w1 ⟨G, n', c', rfl, how, hb⟩
  have R1 := Lib.hid ((Bx.new (w.alloc (.cells #[.int .i64 t.kd, .slice A1 n1 c1, .slice A2 n2 c2, .int .i64 t.sd, .slice A3 n3 c3] 64)) #[.int .i64 0, .slice none 0 0] 48 (b := w.heap.size + 1) (by simp)).bel hb)
  have HPT := Lib.hid (IAns.put (w := w) (b := w.heap.size + 1) (esC 1 t xs) (by omega) (by simp) how (blThen (blThenAlloc (blAlloc w _) _) hb))
  obtain ⟨f, hf⟩ : ∃ f, esC 1 t xs = f := ⟨_, rfl⟩
  have HF := Lib.hid hf
  rw [hf] at HPT ⊢
  clear hb how hf
  have r0 := R1.out.c 0 rfl
  have r1 := R1.out.c 1 rfl
  have z0 := R1.out.f 0
  have z1 := R1.out.f 1
  have l1 := R1.out.lt
  go_wp2_with fail
  have KK := (R1.out.set 0 (.int .i64 f)).set 1 (.slice G n' c')
  have k0 := KK.c 0 rfl
  have k1 := KK.c 1 rfl
  clear KK
  refine bodyPost_ret (v := .agg #[.int .i64 f, .slice G n' c']) (by simp [results, Try.results29, go_sem, k0, k1]) rfl ⟨G, n', c', by rw [HF.out], HPT.out.1, HPT.out.2⟩
end Go.Proofs.Ytlfdpambbgddoaa
