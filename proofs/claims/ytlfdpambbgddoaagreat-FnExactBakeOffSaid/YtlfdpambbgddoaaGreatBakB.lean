/-
  Baking, by the program: bakeStages, a step that is a function value, bakeNode, bakeStage.
-/
import Derived.Test.YtlfdpambbgddoaaGreatBakA
import Derived.Test.YtlfdpambbgddoaaGreatOffC
import Derived.Deep.RegionHeld3
namespace Go.Proofs.YtlfdpambbgddoaaGreat
open Go.RowKit Go.Maps
set_option linter.unusedVariables false
set_option linter.unusedSimpArgs false

def BsAns (w : World) (ts : List Stg) (sd : Int) (e : Ending) (w' : World) : Prop :=
  ∃ v, e = .returned (.tuple #[v, .int .i64 (bkC ts sd)]) ∧ (bkC ts sd = 0 → ∃ vs, OwnSv w' w.heap.size v ts.length vs ∧ ∀ i, i < ts.length → IsStg w' (st_ ts i) (vs.getD i undef)) ∧ Below w.heap.size w w'
set_option maxRecDepth 100000 in
set_option maxHeartbeats 1000000 in
theorem bakeStages_any (A : Option Addr) (n c : Nat) (ts : List Stg) (bs : List Nat) (sd : Int) (w : World) (h : Hd w (chD ts) (.slice A n c) bs) :
    Calls Tryz.prog 29 #[.agg #[.slice A n c], .int .i64 sd] w (BsAns w ts sd) := by
  have H := Lib.hid h
  clear h
  go_enter Tryz.func29, Tryz.ntmps29
  go_wp2_with fail
  refine (chainStages_any A n c ts bs _ (H.out.alloc _)).mono ?_
  rintro e w1 ⟨v, rfl, hok, hb⟩
  have T1 := Lib.hid (blThen (blAlloc w _) hb)
  clear hb H
  by_cases h0 : chf ts = 0
  · have HK := Lib.hid (hok h0)
    have H0 := Lib.hid h0
    rw [h0]
    clear hok h0
    rcases Bool.eq_false_or_eq_true (inB sd 2 4) with hs | hs
    · have CS : Hid (∀ W, Calls Tryz.prog 50 #[.int .i64 sd] W fun e w' => e = .returned (.bool true) ∧ W = w') := fun W => by rw [← hs]; exact isSide_any _ W
      have HC := Lib.hid (bkC_y H0.out hs)
      clear hs
      go_wp2_with fail
      refine (CS.out _).mono ?_
      rintro e w2 ⟨rfl, rfl⟩
      go_wp2_with fail
      go_ret2
      refine ⟨v, by rw [HC.out]; rfl, fun _ => ?_, T1.out⟩
      obtain ⟨vs, ho, hst⟩ := HK.out
      exact ⟨vs, ho.mono (by simp), hst⟩
    · have CS : Hid (∀ W, Calls Tryz.prog 50 #[.int .i64 sd] W fun e w' => e = .returned (.bool false) ∧ W = w') := fun W => by rw [← hs]; exact isSide_any _ W
      have HC := Lib.hid (bkC_s H0.out hs)
      clear hs
      go_wp2_with fail
      refine (CS.out _).mono ?_
      rintro e w2 ⟨rfl, rfl⟩
      go_wp2_with fail
      go_ret2
      exact ⟨_, by rw [HC.out]; rfl, fun q => absurd (HC.out.symm.trans q) (by omega), T1.out⟩
  · have HC := Lib.hid (bkC_f (sd := sd) h0)
    obtain ⟨f, hf⟩ : ∃ f, chf ts = f := ⟨_, rfl⟩
    have HF := Lib.hid hf
    rw [hf] at h0 ⊢
    have hqn : (f == 0) = false := by simpa using h0
    clear hok hf
    go_wp2_with fail
    go_ret2
    exact ⟨_, by rw [HC.out, HF.out]; rfl, fun q => absurd (HF.out.symm.trans (HC.out.symm.trans q)) h0, T1.out⟩

/-! ### a step, whatever its kind -/
/-- a function value that does with a colour as f does, wherever nothing but the block nb has turned. -/
def StC (W0 : World) (nb : Nat) (fid : Nat) (caps : Array Value) (f : (Nat → Int) → Nat → Int) : Prop :=
  ∀ W, Ch W0 W (· = nb) → ∀ x : Nat → Int, LvT 65535 x → Calls Tryz.prog fid (#[.agg #[.int .i64 (x 0), .int .i64 (x 1), .int .i64 (x 2)]] ++ caps) W (PtAns W (f x 0) (f x 1) (f x 2))
theorem MapN.ch {w w' : World} {B s k nb : Nat} {rs : Rws} {D : DataW Unit} (h : MapN w B s rs k D) (hc : Ch w w' (· = nb)) (hne : B ≠ nb) : MapN w' B s rs k D :=
  ⟨h.own.kept (row := some nb) ⟨hc.os, hc.tape, hc.output, hc.size, fun k hk hn => hc.block k hk (fun e => hn (by rw [e]))⟩ (by intro e; injection e with e; exact hne e), h.at_, h.has⟩
/-- a function of the program's own: a call of it enters it. -/
def EnC (fid : Nat) : Prop := ∀ (args : Array Value) (W : World), (callFunc fid args).run Tryz.prog W = .ok (.enter fid args) W
theorem en1 : EnC 80 := fun args W => by kernel_rfl
theorem en2 : EnC 83 := fun args W => by kernel_rfl
theorem en3 : EnC 86 := fun args W => by kernel_rfl
def SoC (w : World) (nb : Nat) (f : (Nat → Int) → Nat → Int) (e : Ending) (w' : World) : Prop :=
  ∃ fid caps, e = .returned (.func (.func fid) #[] caps) ∧ EnC fid ∧ StC w' nb fid caps f ∧ Below w.heap.size w w'
theorem Bx.chB {W W' : World} {b : Nat} {l : List Value} {P : Nat → Prop} (h : Bx W b l) (hc : Ch W W' P) (hn : ¬ P b) : Bx W' b l :=
  ⟨Nat.lt_of_lt_of_le h.lt hc.size, fun i => by rw [hc.frozen _ i h.lt]; exact h.th i, fun j v e => by rw [hc.cell h.lt hn]; exact h.at_ j v e⟩
theorem MapN.notCell {w : World} {B s k nb i : Nat} {rs : Rws} {D : DataW Unit} {x : Value} (h : MapN w B s rs k D) (hc : w.cell? ⟨nb, i, none⟩ = some x) : B ≠ nb := by
  rintro rfl
  obtain ⟨es, c, hb, _⟩ := h.own
  simp [World.cell?, hb] at hc
theorem Hd.stay {w0 w1 W : World} {d : Dat} {v : Value} {bs : List Nat} {nb : Nat} (h : Hd w0 d v bs) (hb : Below w0.heap.size w0 w1) (hc : Ch w1 W (· = nb)) (h1 : w0.heap.size ≤ nb) : Hd W d v bs :=
  h.bel (hb.trans (hc.below (fun k e => by rw [e]; exact h1) hb.size))
set_option maxRecDepth 100000 in
set_option maxHeartbeats 1000000 in
theorem stepC_any (t : Stg) (v : Value) (w0 w : World) (nb : Nat) (j : Nat) (y : Value) (h : IsStg w0 t v) (hb : Below w0.heap.size w0 w) (h1 : w0.heap.size ≤ nb) (h2 : w.cell? ⟨nb, j, none⟩ = some y) (h0 : sgf t = 0) :
    Calls Tryz.prog 53 #[v, .int .i64 1] w (SoC w nb (evS 1 t)) := by
  obtain ⟨hsf, A1, n1, c1, A2, n2, c2, A3, n3, c3, V, XS⟩ := h
  have HB := Lib.hid hb
  have H1 := Lib.hid h1
  have H2 := Lib.hid (cell_lt h2)
  have HY := Lib.hid h2
  clear hsf hb h1 h2
  obtain ⟨-, ⟨kd, hff⟩ | ⟨kd, hff⟩ | ⟨kd, hff⟩⟩ := sgf_zero h0
  · rw [V.one kd]
    obtain ⟨bs, hcs⟩ := XS.a
    have t1 := fun W => ta_11 A1 n1 c1 W
    have HCS := Lib.hid hcs
    have HF := Lib.hid hff
    have KD := Lib.hid kd
    clear V XS hcs hff kd h0
    go_enter Tryz.func53, Tryz.ntmps53
    go_wp2_with fail
    go_ret
    have TB : Below w.heap.size w ((w.alloc (.cells #[.int .i64 1] 2)).alloc (.cells #[.slice A1 n1 c1] 129)) := blThenAlloc (blAlloc _ _) _
    refine ⟨_, _, rfl, en1, fun W hc x hx => ?_, TB⟩
    have l2 := H2.out
    have e1 := step1_any 1 (.inl rfl) (w.heap.size + 1) w.heap.size A1 n1 c1 t.cs x W ((hc.cell (by simp only [World.size_alloc]; omega) (by omega) 0).trans (by simp)) ((hc.cell (by simp only [World.size_alloc]; omega) (by omega) 0).trans (by simp)) ⟨bs, HCS.out.stay (HB.out.trans (TB.mono HB.out.size)) hc H1.out⟩ HF.out hx
    unfold evS
    rw [if_pos KD.out, if_pos KD.out, if_pos KD.out]
    exact e1
  · rw [V.two kd]
    obtain ⟨bs, hcs⟩ := XS.b
    have t1 := fun W => ta_21 A2 n2 c2 W
    have t2 := fun W => ta_22 A2 n2 c2 W
    have HCS := Lib.hid hcs
    have HF := Lib.hid hff
    have KD := Lib.hid kd
    clear V XS hcs hff kd h0
    go_enter Tryz.func53, Tryz.ntmps53
    go_wp2_with fail
    refine (cellsOf_any _ _ _ t.rs _ _ ((HCS.out.bel HB.out).bel (blThenAlloc (blAlloc _ _) _))).mono ?_
    rintro e w1 ⟨m, rfl, hq, hb⟩
    have Q1 := Lib.hid ((Bx.new w #[.int .i64 1] 2 rfl).alloc (.cells #[.slice A2 n2 c2] 134) |>.bel hb)
    have T1 := Lib.hid (blThen (blThenAlloc (blAlloc w _) _) hb)
    have HM := Lib.hid (hq HF.out)
    clear hb hq
    go_wp2_with fail
    go_ret
    have l1 := Q1.out.lt
    have l2 := H2.out
    have sz := T1.out.size
    refine ⟨_, _, rfl, en2, fun W hc x hx => ?_, blThenAlloc T1.out _⟩
    have b1 : Bx W w1.heap.size _ := Bx.chB (Bx.new w1 _ _ rfl) hc (by omega)
    have e1 := step2_any 1 (.inl rfl) w1.heap.size w.heap.size m x W b1 ((hc.cell (by simp only [World.size_alloc]; omega) (by omega) 0).trans ((Q1.out.alloc _).c 0 rfl)) (fun t' ht => by rw [HM.out t' ht]; exact fl_bd HF.out t' ht) hx
    have hap : ∀ i, i < 3 → apK 1 m x i = apK 1 (fl t.rs) x i := fun i hi => by
      unfold apK apS
      rw [HM.out (3 * i) (by omega), HM.out (3 * i + 1) (by omega), HM.out (3 * i + 2) (by omega)]
    unfold evS
    have K := KD.out
    rw [if_neg (by omega), if_pos K, if_neg (by omega), if_pos K, if_neg (by omega), if_pos K, ← hap 0 (by omega), ← hap 1 (by omega), ← hap 2 (by omega)]
    exact e1
  · obtain ⟨s, hsd⟩ : ∃ s : Nat, t.sd = s := ⟨t.sd.toNat, by have := inB_iff.1 (gf_zero hff).1; omega⟩
    rw [hsd] at hff
    rw [(V.thr kd).trans (by rw [hsd])]
    obtain ⟨bs, hcs⟩ := XS.d
    have t1 := fun W => ta_31 s A3 n3 c3 W
    have t2 := fun W => ta_32 s A3 n3 c3 W
    have t3 := fun W => ta_33 s A3 n3 c3 W
    have HCS := Lib.hid hcs
    have HF := Lib.hid hff
    have KD := Lib.hid kd
    have HSD := Lib.hid hsd
    clear V XS hcs hff kd h0 hsd
    go_enter Tryz.func53, Tryz.ntmps53
    go_wp2_with fail
    refine (nodesOf_ok A3 n3 c3 s t.ns _ _ ((HCS.out.bel HB.out).bel (blThenAlloc (blAlloc _ _) _)) HF.out).mono ?_
    rintro e w1 ⟨B, D, rfl, hM, hb⟩
    have Q1 := Lib.hid ((Bx.new w #[.int .i64 1] 2 rfl).alloc (.cells #[.int .i64 (s : Int), .slice A3 n3 c3] 141) |>.bel hb)
    have G1 := Lib.hid ((Bx.new (w.alloc (.cells #[.int .i64 1] 2)) #[.int .i64 (s : Int), .slice A3 n3 c3] 141 (b := w.heap.size + 1) (by simp)).bel hb)
    have T1 := Lib.hid (blThen (blThenAlloc (blAlloc w _) _) hb)
    have HM := Lib.hid hM
    have HBN : Hid (B ≠ nb) := hM.notCell (cell_later T1.out HY.out)
    clear hb hM
    go_wp2_with fail
    go_ret
    have l1 := Q1.out.lt
    have l3 := G1.out.lt
    have l2 := H2.out
    have sz := T1.out.size
    refine ⟨_, _, rfl, en3, fun W hc x hx => ?_, blThenAlloc T1.out _⟩
    have e1 := step3_any 1 (.inl rfl) w1.heap.size (w.heap.size + 1) w.heap.size B s undef t.ns D x W ((hc.cell (by simp only [World.size_alloc]; omega) (by omega) 0).trans (by simp)) ((hc.cell (by simp only [World.size_alloc]; omega) (by omega) 0).trans ((G1.out.alloc _).c 0 rfl)) ((hc.cell (by simp only [World.size_alloc]; omega) (by omega) 0).trans ((Q1.out.alloc _).c 0 rfl)) ((HM.out.kept (blAlloc _ _)).ch hc HBN.out) HF.out hx
    unfold evS
    have K := KD.out
    rw [if_neg (by omega), if_neg (by omega), if_neg (by omega), if_neg (by omega), if_neg (by omega), if_neg (by omega), HSD.out]
    exact e1

/-! ### one node -/
def BnAns (w : World) (p i : Nat) (f : Nat → Int) (e : Ending) (w' : World) : Prop :=
  ∃ W1 vb, e = .returned (.tuple #[]) ∧ w' = W1.setCell ⟨p, i, none⟩ (.slice (some ⟨vb, 0, none⟩) 3 3) ∧ Below w.heap.size w W1 ∧ w.heap.size ≤ vb ∧ Bx W1 vb [.int .i64 (f 0), .int .i64 (f 1), .int .i64 (f 2)]
set_option maxRecDepth 100000 in
set_option maxHeartbeats 1000000 in
theorem bakeNode_any (p i : Nat) (fid : Nat) (caps : Array Value) (b o c : Nat) (x y : Nat → Int) (w : World) (hE : EnC fid) (hp : w.cell? ⟨p, i, none⟩ = some (.slice (some ⟨b, o, none⟩) 3 c)) (hf : w.frozen? ⟨p, i, none⟩ = false)
    (h0 : w.cell? ⟨b, o, none⟩ = some (.int .i64 (x 0))) (h1 : w.cell? ⟨b, o + 1, none⟩ = some (.int .i64 (x 1))) (h2 : w.cell? ⟨b, o + 2, none⟩ = some (.int .i64 (x 2)))
    (hC : ∀ W, Below w.heap.size w W → Calls Tryz.prog fid (#[.agg #[.int .i64 (x 0), .int .i64 (x 1), .int .i64 (x 2)]] ++ caps) W (PtAns W (y 0) (y 1) (y 2))) :
    Calls Tryz.prog 54 #[.pointer (some ⟨p, i, none⟩), .func (.func fid) #[] caps] w (BnAns w p i y) := by
  have CC := Lib.hid hC
  have ar1 := fun W => run_arr3 b o c W
  have en := hE
  unfold EnC at en
  clear hC hE
  go_enter Tryz.func54, Tryz.ntmps54
  go_wp2_with fail
  refine (CC.out w (Below.refl _ _)).mono ?_
  rintro e w1 ⟨rfl, hb⟩
  have HB := Lib.hid hb
  have p1 := cell_later hb hp
  have f1 : w1.frozen? ⟨p, i, none⟩ = false := (hb.frozen (p := ⟨p, i, none⟩) (cell_lt hp)).trans hf
  have lp := cell_lt p1
  clear hb hp hf h0 h1 h2 CC en ar1
  go_wp2_with fail
  refine bodyPost_ret (v := .tuple #[]) (by simp [results, Tryz.results54, go_sem]) rfl ⟨_, w1.heap.size, rfl, (World.setCell_alloc_past _ _ _ _ lp).symm, blThenAlloc HB.out _, HB.out.size, Bx.new _ _ _ rfl⟩
end Go.Proofs.YtlfdpambbgddoaaGreat
