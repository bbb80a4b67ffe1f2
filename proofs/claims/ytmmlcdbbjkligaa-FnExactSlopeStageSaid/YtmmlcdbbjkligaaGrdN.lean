/-
  The nodes of a grid by their places: the program's nodesOf (its code), GridFault.
-/
import Derived.Test.YtmmlcdbbjkligaaGrdP
import Derived.Test.YtmmlcdbbjkligaaGrdD
import Derived.Maps.OwnSet
import Derived.Maps.OwnOps
import Derived.DeepKeys4
namespace Go.Proofs.Ytmmlcdbbjkligaa
open Go.RowKit Go.Maps
set_option linter.unusedVariables false

/-! ### places as keys -/
theorem keyP : Keyed Try.prog 141 := Keyed.of_law (deep_law_laid (m := 4) (by kernel_rfl) (by decide) (of_decide_eq_true (by kernel_rfl)) (by kernel_rfl) (by kernel_rfl))
def kp (x y z : Int) : Lit := .string (keyBytes [.int .i64 x, .int .i64 y, .int .i64 z])
theorem kp_of (x y z : Int) (hx : (Lit.int .i64 x).wf = true) (hy : (Lit.int .i64 y).wf = true) (hz : (Lit.int .i64 z).wf = true) : keyOf Try.prog 141 (.agg #[.int .i64 x, .int .i64 y, .int .i64 z]) = some (kp x y z) := by
  have hu := Try.underlying141
  have hu4 := Try.underlying137
  have hu5 := Try.underlying2
  have hk : Try.prog.keyType 141 = true := by kernel_rfl
  have hc : Try.prog.cellsOf 141 = 3 := by kernel_rfl
  have hc4 : Try.prog.cellsOf 137 = 3 := by kernel_rfl
  have hc5 : Try.prog.cellsOf 2 = 1 := by kernel_rfl
  have hsz : Try.prog.types.size = 253 := by kernel_rfl
  obtain ⟨d, hd⟩ : ∃ d, Try.prog.types.size + 1 = d + 3 := ⟨Try.prog.types.size - 2, by rw [hsz]⟩
  unfold keyOf
  rw [hd]
  clear hd hsz
  simp [hu, hu4, hk, Value.formed, hc, hc4, Program.keyLits, hc5, hu5, Value.cells, List.range_succ, hx, hy, hz, kp]
theorem kp_nat (x y z : Nat) (hx : x ≤ 1000) (hy : y ≤ 1000) (hz : z ≤ 1000) : keyOf Try.prog 141 (.agg #[.int .i64 (x : Int), .int .i64 (y : Int), .int .i64 (z : Int)]) = some (kp x y z) :=
  kp_of _ _ _ (WalkArith.wf_i64 (by omega)) (WalkArith.wf_i64 (by omega)) (WalkArith.wf_i64 (by omega))
/-- three levels, as a datum. -/
def lightElem (v : Value) : Option (DataW Unit × List MemPlace) :=
  match v with
  | .agg xs => match xs.toList with
    | [.int .i64 a, .int .i64 b, .int .i64 c] => some (.agg [.lit (.int .i64 a), .lit (.int .i64 b), .lit (.int .i64 c)], [])
    | _ => none
  | _ => none
theorem lightElem_mk (a b c : Int) : lightElem (.agg #[.int .i64 a, .int .i64 b, .int .i64 c]) = some (.agg [.lit (.int .i64 a), .lit (.int .i64 b), .lit (.int .i64 c)], []) := rfl
theorem run_makeMapP_hint (n : Nat) (w : World) (h : n ≤ 1000) : (Instr.makeMap 147 (some (.int .i64 (n : Int)))).run Try.prog w = .ok (.map (some w.heap.size)) (w.alloc (.map #[] 0)) := by
  simp [Instr.makeMap, run_underlying Try.underlying147, asInt, asIntOf]

def NdAns (w : World) (sd : Int) (rs : Rws) (e : Ending) (w' : World) : Prop := ∃ m, e = .returned (.tuple #[.map m, .int .i64 (gf sd rs)]) ∧ Below w.heap.size w w'
theorem NdAns.mk {w w' : World} {sd c : Int} {rs : Rws} {m : Option Nat} (h : gf sd rs = c) (hb : Below w.heap.size w w') : NdAns w sd rs (.returned (.tuple #[.map m, .int .i64 c])) w' := ⟨m, by rw [h], hb⟩
def LtAns (W : World) (f : Int) (e : Ending) (w' : World) : Prop := ∃ q : Nat → Int, e = .returned (.tuple #[.agg #[.int .i64 (q 0), .int .i64 (q 1), .int .i64 (q 2)], .int .i64 f]) ∧ Below W.heap.size W w'
theorem lt_ans {W : World} {A : Option Addr} {n c : Nat} {xs : List Int} {f : Int} (hf : lf xs = f) (h : Rd .i64 W A n xs) (hcap : n ≤ c) (hm : c ≤ maxLen) : Calls Try.prog 83 #[.slice A n c, .int .i64 1] W (LtAns W f) :=
  (lightsOf_any A n c xs W h hcap hm).mono fun e w' hh => by obtain ⟨q, he, _, hb⟩ := hh; exact ⟨q, by rw [he, hf], hb⟩
set_option maxRecDepth 100000 in
set_option maxHeartbeats 2000000 in
theorem nodesOf_side (A : Option Addr) (n c : Nat) (sd : Int) (rs : Rws) (w : World) (hs : inB sd 2 4 = false) :
    Calls Try.prog 88 #[.agg #[.int .i64 sd, .slice A n c]] w (NdAns w sd rs) := by
  have HG := Lib.hid (gf_side (rs := rs) hs)
  have CS : Hid (∀ W, Calls Try.prog 82 #[.int .i64 sd] W fun e w' => e = .returned (.bool false) ∧ W = w') := fun W => by rw [← hs]; exact isSide_any sd W
  clear hs
  go_enter Try.func88, Try.ntmps88
  go_wp2_with (go_at_call 82; refine (CS.out _).mono ?_; rintro e w' ⟨rfl, rfl⟩)
  go_ret2
  exact NdAns.mk HG.out (blAlloc _ _)
set_option maxRecDepth 100000 in
set_option maxHeartbeats 4000000 in
theorem nodesOf_in (A : Option Addr) (n c s : Nat) (rs : Rws) (bs : List Nat) (w : World) (h : Hd w (rowsD rs) (.slice A n c) bs) (hs : inB (s : Int) 2 4 = true) :
    Calls Try.prog 88 #[.agg #[.int .i64 (s : Int), .slice A n c]] w (NdAns w (s : Int) rs) := by
  have CS : Hid (∀ W, Calls Try.prog 82 #[.int .i64 (s : Int)] W fun e w' => e = .returned (.bool true) ∧ W = w') := fun W => by rw [← hs]; exact isSide_any _ W
  have h3 : s = 2 ∨ s = 3 ∨ s = 4 := by rcases side_cases hs with e | e | e <;> omega
  have hN : s * s * s = 8 ∨ s * s * s = 27 ∨ s * s * s = 64 := by rcases h3 with rfl | rfl | rfl <;> simp
  have hl := h.rows.1
  have hNI : ((s * s * s : Nat) : Int) = (s : Int) * s * s := by simp
  have hmx := h.rows.2.2.1
  have hcx := h.rows.2.1
  unfold maxLen at hmx
  have H := Lib.hid h
  have H3 := Lib.hid h3
  obtain ⟨N, hNN⟩ : ∃ N, N = s * s * s := ⟨_, rfl⟩
  rw [← hNN] at hN hNI
  have HG1 := Lib.hid (fun e : n = N => gf_rows (sd := (s : Int)) hl hs (by rw [e, hNI]))
  have HG2 := Lib.hid (fun e : n ≠ N => gf_many (sd := (s : Int)) hl hs (by rw [← hNI]; omega))
  have HNN := Lib.hid hNN
  have hmm := fun w => run_makeMapP_hint N w (by omega)
  have HMM := Lib.hid hmm
  clear h hs h3 hl hNI hNN hmm
  go_enter Try.func88, Try.ntmps88
  go_wp2_with (go_at_call 82; refine (CS.out _).mono ?_; rintro e w' ⟨rfl, rfl⟩)
  refine (gridPlaces_any s _ H3.out).mono ?_
  rintro e w1 ⟨v, rfl, ho, hb⟩
  rw [← HNN.out] at ho
  obtain ⟨g, o, cp, rfl, hbg, hgl, hc1, hc2, hcells⟩ := ho.look (by omega)
  have xa : w1.cell? ⟨w.heap.size, 0, none⟩ = some (.int .i64 (s : Int)) := cell_later hb (by simp)
  have xb : w1.cell? ⟨w.heap.size, 1, none⟩ = some (.slice A n c) := cell_later hb (by simp)
  have T1 := Lib.hid (blThen (blAlloc w _) hb)
  have H1 := Lib.hid ((H.out.alloc _).bel hb)
  have HC := Lib.hid hcells
  unfold maxLen at hc2
  clear ho hb hcells hbg
  by_cases hn : n = N
  · obtain rfl := hn
    have HG := Lib.hid (HG1.out rfl)
    have hmm := HMM.out
    clear HG1 HG2 HMM CS
    go_wp2_with fail
    clear hmm
    go_loopw [28] (fun i wr => ∃ (k : Nat) (D : DataW Unit), k ≤ n ∧ i = .int .i64 k ∧ Hid (gfl rs k = 0) ∧ Hid (wr.ownsMap Try.prog 141 lightElem w1.heap.size k D) ∧ Hid (Below w1.heap.size w1 wr) ∧ w1.heap.size < wr.heap.size) (fun i _ => n - (intOf i).toNat)
    case atStart => exact ⟨0, .map [], by omega, rfl, rfl, World.ownsMap_made _ _ _ _, blAlloc _ _, by simp⟩
    case round =>
      obtain ⟨k, D, hk, rfl, hz, HM, HB, hsz⟩ := hrel
      have xa' := cell_later HB.out xa
      have xb' := cell_later HB.out xb
      have lz := cell_lt xa'
      by_cases hlt : k < n
      · obtain ⟨c0, c1, c2⟩ := HC.out k hlt
        have y0 := cell_later HB.out c0
        have y1 := cell_later HB.out c1
        have y2 := cell_later HB.out c2
        clear c0 c1 c2
        obtain ⟨b, o', B1, L1, C1, g1, rfl, x1, x3, -⟩ := (H1.out.bel HB.out).row hlt
        have lb := cell_lt x1
        have lg := cell_lt y0
        have HR := Lib.hid x3.rd
        have hcap := Lib.hid x3.caps.1
        have hm1 := Lib.hid x3.caps.2
        clear x3
        obtain ⟨p0, hp0⟩ : ∃ p : Int, p = ((k / (s * s) : Nat) : Int) := ⟨_, rfl⟩
        obtain ⟨p1, hp1⟩ : ∃ p : Int, p = ((k / s % s : Nat) : Int) := ⟨_, rfl⟩
        obtain ⟨p2, hp2⟩ : ∃ p : Int, p = ((k % s : Nat) : Int) := ⟨_, rfl⟩
        rw [← hp0] at y0
        rw [← hp1] at y1
        rw [← hp2] at y2
        have HKEY : Hid (keyOf Try.prog 141 (.agg #[.int .i64 p0, .int .i64 p1, .int .i64 p2]) = some (kp p0 p1 p2)) := by
          have e0 : k / (s * s) ≤ k := Nat.div_le_self _ _
          have e1 : k / s % s ≤ k := Nat.le_trans (Nat.mod_le _ _) (Nat.div_le_self _ _)
          have e2 : k % s ≤ k := Nat.mod_le _ _
          rw [hp0, hp1, hp2]
          exact kp_nat _ _ _ (Nat.le_trans e0 (by omega)) (Nat.le_trans e1 (by omega)) (Nat.le_trans e2 (by omega))
        clear hp0 hp1 hp2
        by_cases hf : lf (rw_ rs k) = 0
        · have HF := Lib.hid hf
          clear hf
          go_wp2_with fail
          refine (lt_ans HF.out (HR.out.alloc _) hcap.out hm1.out).mono ?_
          rintro e w2 ⟨q, rfl, hb2⟩
          have z0 : w2.cell? ⟨wr.heap.size, 0, none⟩ = some (.int .i64 p0) := cell_later hb2 (by simp)
          have z1 : w2.cell? ⟨wr.heap.size, 1, none⟩ = some (.int .i64 p1) := cell_later hb2 (by simp)
          have z2 : w2.cell? ⟨wr.heap.size, 2, none⟩ = some (.int .i64 p2) := cell_later hb2 (by simp)
          have T2 := Lib.hid (blThen (blThenAlloc HB.out _) hb2)
          have HM2 := Lib.hid (HM.out.kept (row := none) (w' := w2) (by have q := blThen (blAlloc wr _) hb2; exact ⟨q.os, q.tape, q.output, q.size, fun k hk _ => q.block k hk⟩) (by simp))
          have hw2 : wr.heap.size < w2.heap.size := by have := hb2.size; simp at this; omega
          clear hb2 xa' xb' y0 y1 y2 x1 HM HB
          go_wp2_with (at_mapUpdate; refine wpList_mapUpdate_own _ rfl _ _ _ 147 rfl 141 137 keyP Try.underlying147 _ w1.heap.size k D rfl (by first | exact HM2.out | exact HM2.out.alloc _ | exact (HM2.out.alloc _).alloc _) (by unfold maxLen; omega) _ _ _ rfl rfl HKEY.out _ [] (lightElem_mk _ _ _) ?_; intro w3 hown3 hg3)
          have HM3 := Lib.hid hown3
          have T3 : Hid (Below w1.heap.size w1 w3) := by
            show Below _ _ _
            first
              | exact T2.out.grown hg3 (by have := T2.out.size; simp; omega) (fun j hj => by cases hj; omega)
              | exact (blThenAlloc T2.out _).grown hg3 (by have := T2.out.size; simp; omega) (fun j hj => by cases hj; omega)
          have hw3 : w2.heap.size ≤ w3.heap.size := by have := hg3.size; simp at this; omega
          clear hown3 hg3
          go_wp2_with fail
          go_roundw
          case rel => exact ⟨k + 1, _, by omega, by go_num, gfl_on hz.out HF.out, HM3.out, T3.out, by omega⟩
          case measure => simp [intOf]; omega
        · obtain ⟨f, hfe⟩ : ∃ f, lf (rw_ rs k) = f := ⟨_, rfl⟩
          rw [hfe] at hf
          have HF := Lib.hid hfe
          have HM' := Lib.hid (gfl_first hz.out hfe hf hlt)
          have hqn : (f == 0) = false := by simpa using hf
          clear hfe
          go_wp2_with fail
          refine (lt_ans HF.out (HR.out.alloc _) hcap.out hm1.out).mono ?_
          rintro e w2 ⟨q, rfl, hb2⟩
          have T2 := Lib.hid (blThen (blThenAlloc HB.out _) hb2)
          clear hb2 xa' xb' y0 y1 y2 x1 HM HB
          go_wp2_with fail
          go_ret2
          first
            | exact NdAns.mk (HG.out.trans HM'.out) (blThen T1.out T2.out)
            | exact NdAns.mk (HG.out.trans HM'.out) (blThenAlloc (blThen T1.out T2.out) _)
      · obtain rfl : k = n := by omega
        go_wp2_with fail
        go_ret2
        exact NdAns.mk (HG.out.trans hz.out) (blThen T1.out HB.out)
  · have HG := Lib.hid (HG2.out hn)
    have he : ((n : Int) == (N : Int)) = false := by simp; omega
    have T1' := T1
    go_wp2_with fail
    go_ret2
    exact NdAns.mk HG.out T1.out
theorem nodesOf_any (A : Option Addr) (n c : Nat) (sd : Int) (rs : Rws) (bs : List Nat) (w : World) (h : Hd w (rowsD rs) (.slice A n c) bs) :
    Calls Try.prog 88 #[.agg #[.int .i64 sd, .slice A n c]] w (NdAns w sd rs) := by
  rcases Bool.eq_false_or_eq_true (inB sd 2 4) with hs | hs
  · obtain ⟨s, rfl⟩ : ∃ s : Nat, sd = s := ⟨sd.toNat, by have := inB_iff.1 hs; omega⟩
    exact nodesOf_in A n c s rs bs w h hs
  · exact nodesOf_side A n c sd rs w hs
set_option maxHeartbeats 400000 in
theorem GridFault_any (A : Option Addr) (n c : Nat) (sd : Int) (rs : Rws) (bs : List Nat) (w : World) (h : Hd w (rowsD rs) (.slice A n c) bs) :
    Calls Try.prog 199 #[.agg #[.int .i64 sd, .slice A n c]] w fun e w' => e = .returned (.int .i64 (gf sd rs)) ∧ Below w.heap.size w w' := by
  have H := Lib.hid h
  clear h
  go_enter Try.func199, Try.ntmps199
  go_wp2_with fail
  refine (nodesOf_any A n c sd rs bs _ (H.out.alloc _)).mono ?_
  rintro e w1 ⟨m, rfl, hb⟩
  have T := Lib.hid (blThen (blAlloc w _) hb)
  clear hb
  go_wp2_with fail
  go_ret
  exact ⟨rfl, T.out⟩
end Go.Proofs.Ytmmlcdbbjkligaa
