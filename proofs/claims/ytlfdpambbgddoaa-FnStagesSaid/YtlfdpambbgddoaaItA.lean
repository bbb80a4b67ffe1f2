/-
  The iterator linesOf of a curve, and what ranges over it: IsMonotone, SlopeOf.
  Curves by the reference model: l3Monotone, IsMonotone, l3Slope, SlopeOf, SolveCurve.
  What ranges over a curve's lines: IsMonotone, SlopeOf by the program.
-/
import Derived.Test.YtlfdpambbgddoaaCurA
import Derived.RangeFuncNested
import Derived.RangeFuncBound
import Derived.RangeFuncCalls
import Derived.RangeFuncLeaves
import Derived.RangeFuncBox
import Derived.Shelf.Abstract
import Derived.OwnWalkIn
import Derived.TacticsInMore
import Derived.LoopNIn
import Derived.LoopIn
import Derived.Stop.RegionWithIn
namespace Go.Proofs.Ytlfdpambbgddoaa
open Go.RowKit Go.Shelf
set_option linter.unusedVariables false
attribute [local go_sem] Oper.semAt_some

/-- what has come when k rounds are over. -/
def upto {α : Type} (f : Nat → α) (k : Nat) : List α := (List.range k).map f
theorem upto_succ {α : Type} (f : Nat → α) (k : Nat) : upto f (k + 1) = upto f k ++ [f k] := by simp [upto, List.range_succ]
theorem upto_length {α : Type} (f : Nat → α) (k : Nat) : (upto f k).length = k := by simp [upto]
/-- a round leaves these two blocks as they are. -/
def KpL (b B : Nat) (W W' : World) : Prop := W'.heap[b]? = W.heap[b]? ∧ W'.heap[B]? = W.heap[B]?
theorem KpL.refl (b B : Nat) (W : World) : KpL b B W W := ⟨rfl, rfl⟩
theorem KpL.trans {b B : Nat} {X Y Z : World} (h : KpL b B X Y) (k : KpL b B Y Z) : KpL b B X Z := ⟨k.1.trans h.1, k.2.trans h.2⟩
def lnF (ps : List Int) (j : Nat) : Int × Int := (pt ps j, pt ps (j + 1))
set_option maxRecDepth 100000 in
set_option maxHeartbeats 2000000 in
theorem lines1_in (n : Nat) (hn : 1 ≤ n) (l B b off len cap : Nat) (ps : List Int) (h2 : 2 ≤ len) (h17 : len ≤ 17) (J Jx : List (Int × Int) → World → Prop)
    (hJ : ∀ s W m, J s W → J s (W.drewN m))
    (hY : ∀ pre x W, J pre W → pre.length < len - 1 → YieldAt Fence.wide (n - 1) Try.prog l #[.int .i64 x.1, .int .i64 x.2] W fun e W' =>
      (e = .returned (.bool true) ∧ J (pre ++ [x]) W' ∧ KpL b B W W') ∨ (e = .returned (.bool false) ∧ Jx (pre ++ [x]) W'))
    (W : World) (hB : W.cell? ⟨B, 0, none⟩ = some (.slice (some ⟨b, off, none⟩) len cap)) (hc : ∀ j, j < len → W.cell? ⟨b, off + j, none⟩ = some (.int .i64 (pt ps j))) (h0 : J [] W) :
    CallsIn Fence.wide n Try.prog 155 #[.func (.yield l) #[] #[], .pointer (some ⟨B, 0, none⟩)] W fun e W' => (∃ v, e = .returned v) ∧
      ((∃ ys, ys = upto (lnF ps) (len - 1) ∧ J ys W') ∨ (∃ pre, (∃ k, k ≤ len - 1 ∧ pre = upto (lnF ps) k) ∧ Jx pre W')) := by
  have HC := Lib.hid hc
  have HB := Lib.hid hB
  have HJ := Lib.hid hJ
  have HY := Lib.hid hY
  clear hc hB hJ hY
  refine callsIn_of_wp Try.func155 rfl trivial ?_ rfl
  simp only [Try.ntmps155, List.size_toArray, List.length_cons, List.length_nil, Nat.reduceAdd, Nat.reduceSub, Array.replicate_succ, Array.replicate_zero, List.push_toArray, List.append_toArray, List.nil_append, List.cons_append]
  gi_wp2
  gi_loopw [3] (fun i wr => ∃ K k : Nat, Hid (K = k + 1) ∧ K ≤ len ∧ i = .int .i64 K ∧ J (upto (lnF ps) k) wr ∧ KpL b B W wr)
    (fun i _ => len - (intOf i).toNat)
  case atStart => exact ⟨1, 0, rfl, by omega, rfl, h0, KpL.refl _ _ _⟩
  case round =>
    obtain ⟨K, k, hKk, hK, rfl, hJs, hnx⟩ := hrel
    have k0 : k < K := by have := hKk.out; omega
    have hBx : wr.cell? ⟨B, 0, none⟩ = some (.slice (some ⟨b, off, none⟩) len cap) := (World.cell?_of_block hnx.2).trans HB.out
    by_cases hlt : K < len
    · have c0 : wr.cell? ⟨b, off + k, none⟩ = some (.int .i64 (pt ps k)) := (World.cell?_of_block hnx.1).trans (HC.out k (by omega))
      have c1 : wr.cell? ⟨b, off + K, none⟩ = some (.int .i64 (pt ps K)) := (World.cell?_of_block hnx.1).trans (HC.out K (by omega))
      have hJd : J (upto (lnF ps) k) wr.drew := HJ.out _ _ 1 hJs
      obtain ⟨fn, tmps, assign, body, hy, hR0⟩ := HY.out _ (lnF ps k) wr.drew hJd (by rw [upto_length]; have := hKk.out; omega)
      dsimp only [lnF] at hy
      rw [← hKk.out] at hy
      have hR : RoundIn Fence.wide (n - 1) Try.prog l fn tmps assign body wr.drew fun e W' => ∃ bb : Bool, e = .returned (.bool bb) ∧ Hid ((bb = true ∧ J (upto (lnF ps) (k + 1)) W' ∧ KpL b B W W') ∨ (bb = false ∧ Jx (upto (lnF ps) (k + 1)) W')) := by
        refine hR0.mono ?_
        rintro e W3 (⟨rfl, a, b⟩ | ⟨rfl, a⟩)
        · exact ⟨true, rfl, .inl ⟨rfl, by rw [upto_succ]; exact a, hnx.trans (KpL.trans ⟨rfl, rfl⟩ b)⟩⟩
        · exact ⟨false, rfl, .inr ⟨rfl, by rw [upto_succ]; exact a⟩⟩
      have w1 : IntKind.i64.wrap ((K : Int) - 1) = (k : Int) := by have := hKk.out; rw [IntWalk.i64_in _ (by omega)]; omega
      have hkn : (k : Int) < (len : Int) := by omega
      clear hR0 hnx hJs hJd
      gi_wp2
      gi_region_with (refine hR.mono ?_; rintro e W3 ⟨bb, rfl, hP⟩)
      all_goals
        cases bb with
        | true =>
          have HP : Hid (J (upto (lnF ps) K) W3 ∧ KpL b B W W3) := by
            rcases hP.out with ⟨_, a, b⟩ | ⟨e, _⟩
            · exact ⟨by rw [hKk.out]; exact a, b⟩
            · cases e
          clear hP hR hy
          gi_wp2
          go_roundw
          case rel => exact ⟨K + 1, K, rfl, by omega, by simp, HP.out.1, HP.out.2⟩
          case measure => simp [intOf]; omega
        | false =>
          have HP : Hid (Jx (upto (lnF ps) (k + 1)) W3) := by
            rcases hP.out with ⟨e, _⟩ | ⟨_, a⟩
            · cases e
            · exact a
          clear hP hR hy
          gi_wp2
          refine bodyPost_ret (results_none rfl _ _ _) rfl ?_
          exact ⟨⟨_, rfl⟩, .inr ⟨_, ⟨k + 1, by have := hKk.out; omega, rfl⟩, HP.out⟩⟩
    · have hk1 : len - 1 = k := by have := hKk.out; omega
      gi_wp2
      go_end0
      exact ⟨⟨_, rfl⟩, .inl ⟨_, by rw [hk1], hJs⟩⟩
/-- the iterator: the curve lies in a box that it has captured. -/
theorem linesOf_any (A : Option Addr) (n c : Nat) (w : World) :
    Calls Try.prog 133 #[.agg #[.slice A n c]] w fun e w' => e = .returned (.func (.func 155) #[] #[.pointer (some ⟨w.heap.size, 0, none⟩)]) ∧ w.alloc (.cells #[.slice A n c] 71) = w' := by
  go_enter Try.func133, Try.ntmps133
  go_wp2
  go_ret
  exact ⟨rfl, rfl⟩
theorem lines_stops (n : Nat) (hn : 1 ≤ n) (B b off len cap : Nat) (ps : List Int) (h2 : 2 ≤ len) (h17 : len ≤ 17) (w : World) (hB : w.cell? ⟨B, 0, none⟩ = some (.slice (some ⟨b, off, none⟩) len cap)) (hc : ∀ j, j < len → w.cell? ⟨b, off + j, none⟩ = some (.int .i64 (pt ps j))) :
    SeqStopsK Fence.wide n Try.prog 155 #[.pointer (some ⟨B, 0, none⟩)] (fun x : Int × Int => #[Value.int .i64 x.1, Value.int .i64 x.2]) (KpL b B) (fun ys => ys = upto (lnF ps) (len - 1))
      (fun pre => ∃ k, k ≤ len - 1 ∧ pre = upto (lnF ps) k) (len - 1) w := fun l J Jx W hW hJ _ hY h0 =>
  lines1_in n hn l B b off len cap ps h2 h17 J Jx (fun s W m h => hJ s W _ none h ⟨rfl, rfl, rfl, Nat.le_refl _, fun _ _ _ => rfl⟩ (fun r e => by cases e)) hY W
    ((hW.cell (p := ⟨B, 0, none⟩) (cell_lt hB)).trans hB) (fun j hj => (hW.cell (p := ⟨b, off + j, none⟩) (cell_lt (hc j hj))).trans (hc j hj)) h0
theorem KpL.b {b B : Nat} {w : World} (hb : b < w.heap.size) (hB : B < w.heap.size) (W : World) (l : Nat) (o o' : Obj) (hl : w.heap.size ≤ l) (h : W.heap[l]? = some o) (_ : o.isCells = false) (_ : o.isWalk = false) : KpL b B W (W.putObj l o') :=
  ⟨World.putObj_heap_other (by omega), World.putObj_heap_other (by omega)⟩
end Go.Proofs.Ytlfdpambbgddoaa
namespace Go.Proofs.Ytlfdpambbgddoaa
open Go.RowKit
set_option linter.unusedVariables false

theorem mon_last {ps : List Int} {n : Nat} (hl : ps.length = n) : mon ps (n - 1) = mon ps (ps.length - 1) := by rw [hl]
set_option maxHeartbeats 2000000 in
theorem sSlope_any (g o : Nat) (A : Option Addr) (n c : Nat) (ps : List Int) (w : World) (hg : w.cell? ⟨g, o, none⟩ = some (.slice A n c)) (h : Rd .i64 w A n ps) (hf : CFine ps) :
    Calls Try.prog 127 #[.pointer (some ⟨g, o, none⟩)] w fun e w' => e = .returned (.int .i64 (slo ps (n - 1) * ((n : Int) - 1))) ∧ ∃ m, w' = w.drewN m := by
  have hlo := hf.lo
  have hhi := hf.hi
  rw [h.1] at hlo hhi
  obtain ⟨b, o', rfl, hcl⟩ := h.2 (by omega)
  have HC : Hid (∀ i, i < n → w.cell? ⟨b, o' + i, none⟩ = some (.int .i64 (pt ps i))) := hcl
  have HLV := Lib.hid hf.lv
  have HSB := Lib.hid (slo_bd hf)
  clear h hf hcl
  go_enter Try.func127, Try.ntmps127
  go_wp2
  go_loopw [3, 4, 5] (fun s i _ wr => ∃ K k m : Nat, Hid (K = k + 1) ∧ K ≤ n ∧ i = .int .i64 K ∧ s = .int .i64 (slo ps k) ∧ wr = w.drewN m) (fun _ i _ _ => n - (intOf i).toNat)
  case atStart => exact ⟨1, 0, 0, rfl, by omega, rfl, rfl, rfl⟩
  case round =>
    obtain ⟨K, k, m, hKk, hK, rfl, rfl, rfl⟩ := hrel
    have k0 : k < K := by have := hKk.out; omega
    obtain ⟨s0, s1⟩ := HSB.out k
    by_cases hlt : K < n
    · have c0 := HC.out k (by omega)
      have c1 := HC.out K hlt
      have w1 : IntKind.i64.wrap ((K : Int) - 1) = (k : Int) := by have := hKk.out; rw [IntWalk.i64_in _ (by omega)]; omega
      have hkn : (k : Int) < (n : Int) := by omega
      obtain ⟨a0, a1⟩ := HLV.out k
      obtain ⟨b0, b1⟩ := HLV.out K
      have HZ : Hid (slo ps K = max (slo ps k) (max (pt ps K - pt ps k) (-(pt ps K - pt ps k)))) := by
        show _ = _
        rw [hKk.out, slo]; congr 2; omega
      have w2 : IntKind.i64.wrap (pt ps K - pt ps k) = pt ps K - pt ps k := IntWalk.i64_in _ (by omega)
      generalize slo ps k = s at *
      generalize pt ps K = x at *
      generalize pt ps k = y at *
      go_wp2_with fail
      go_quiet (fail)
      clear w1 w2
      go_wp2_with (go_at_call 126; refine (sMax_any _ _ _).mono ?_; rintro e w' ⟨rfl, rfl⟩)
      go_roundw
      case rel => exact ⟨K + 1, K, _, rfl, by omega, by go_num, by rw [HZ.out], rfl⟩
      case measure => simp [intOf]; omega
    · have HZ : Hid (slo ps (n - 1) = slo ps k) := by
        show _ = _
        have : n - 1 = k := by have := hKk.out; omega
        rw [this]
      have hmul := Int.mul_le_mul_of_nonneg_right s1 (by omega : (0 : Int) ≤ (n : Int) - 1)
      have hmul0 := Int.mul_nonneg s0 (by omega : (0 : Int) ≤ (n : Int) - 1)
      generalize slo ps k = s at *
      go_wp2
      go_ret
      exact ⟨ret_int (by rw [HZ.out]), _, rfl⟩
theorem slpV_of {ps : List Int} {n : Nat} (hl : ps.length = n) (h : cf ps = 0) : slpV ps = slo ps (n - 1) * ((n : Int) - 1) := by unfold slpV; rw [if_pos h, hl]
/-! ### what is solved -/
theorem sol_c {ps : List Int} {y : Int} (h : cf ps ≠ 0) : solC ps y = cf ps ∧ solV ps y = 0 := by
  have e : solC ps y = cf ps := by unfold solC; rw [if_pos h]
  exact ⟨e, by unfold solV; rw [e, if_neg h]⟩
theorem sol_m {ps : List Int} {y : Int} (h : cf ps = 0) (h2 : mon ps (ps.length - 1) = false) : solC ps y = 8 ∧ solV ps y = 0 := by
  have e : solC ps y = 8 := by unfold solC; rw [if_neg (by simpa using h), if_pos h2]
  exact ⟨e, by unfold solV; rw [e]; rfl⟩
theorem sol_r {ps : List Int} {y : Int} (h : cf ps = 0) (h2 : mon ps (ps.length - 1) = true) (h3 : inB y 0 65535 = false) : solC ps y = 3 ∧ solV ps y = 0 := by
  have e : solC ps y = 3 := by unfold solC; rw [if_neg (by simpa using h), if_neg (by rw [h2]; simp), if_pos h3]
  exact ⟨e, by unfold solV; rw [e]; rfl⟩
theorem sol_n {ps : List Int} {y : Int} (h : cf ps = 0) (h2 : mon ps (ps.length - 1) = true) (h3 : inB y 0 65535 = true) (h4 : pt ps (ps.length - 1) < y) : solC ps y = 4 ∧ solV ps y = 0 := by
  have e : solC ps y = 4 := by unfold solC; rw [if_neg (by simpa using h), if_neg (by rw [h2]; simp), if_neg (by rw [h3]; simp), if_pos h4]
  exact ⟨e, by unfold solV; rw [e]; rfl⟩
theorem sol_y {ps : List Int} {y : Int} (h : cf ps = 0) (h2 : mon ps (ps.length - 1) = true) (h3 : inB y 0 65535 = true) (h4 : ¬ pt ps (ps.length - 1) < y) : solC ps y = 0 ∧ solV ps y = (srch ps y 0 65535 : Nat) := by
  have e : solC ps y = 0 := by unfold solC; rw [if_neg (by simpa using h), if_neg (by rw [h2]; simp), if_neg (by rw [h3]; simp), if_neg h4]
  exact ⟨e, by unfold solV; rw [if_pos e]⟩
end Go.Proofs.Ytlfdpambbgddoaa
namespace Go.Proofs.Ytlfdpambbgddoaa
open Go.RowKit Go.Shelf
set_option linter.unusedVariables false
attribute [local go_sem] Oper.semAt_some

/-- the greatest difference of two neighbours. -/
def mxW : List (Int × Int) → Int := List.foldl (fun s p => max s (max (wrap64 (p.2 - p.1)) (wrap64 (p.1 - p.2)))) 0
theorem mxW_snoc (pre : List (Int × Int)) (x : Int × Int) : mxW (pre ++ [x]) = max (mxW pre) (max (wrap64 (x.2 - x.1)) (wrap64 (x.1 - x.2))) := by simp [mxW]
theorem mxW_upto {ps : List Int} (h : CFine ps) (k : Nat) : mxW (upto (lnF ps) k) = slo ps k := by
  induction k with
  | zero => rfl
  | succ k ih =>
    have a := h.lv k
    have b := h.lv (k + 1)
    rw [upto_succ, mxW_snoc, ih, slo]
    simp only [lnF]
    rw [IntWalk.wrap64_in _ ⟨by omega, by omega⟩, IntWalk.wrap64_in _ ⟨by omega, by omega⟩]
set_option maxRecDepth 100000 in
set_option maxHeartbeats 2000000 in
theorem SlopeOf_any (A : Option Addr) (n c : Nat) (ps : List Int) (w : World) (h : Rd .i64 w A n ps) (hm : n ≤ maxLen) :
    Calls Try.prog 92 #[.agg #[.slice A n c]] w fun e w' => e = .returned (.agg #[.int .i64 (cf ps), .int .i64 (slpV ps)]) ∧ Below w.heap.size w w' := by
  have H := Lib.hid h
  clear h
  refine (callsIn_wide (n := 5)).1 ?_
  refine callsIn_of_wp_marks Try.func92 rfl trivial ?_ rfl
  simp only [Try.ntmps92, List.size_toArray, List.length_cons, List.length_nil, Nat.reduceAdd, Nat.reduceSub, Array.replicate_succ, Array.replicate_zero, List.push_toArray, List.append_toArray, List.nil_append, List.cons_append]
  gi_wp2_with fail
  refine ⟨trivial, (callsIn_wide.2 (CurveFault_any _ _ _ ps _ ((H.out.alloc _).alloc _) hm)).mono ?_⟩
  rintro e w1 ⟨rfl, hb⟩
  have x0 : w1.cell? ⟨w.heap.size, 0, none⟩ = some (.slice A n c) := by rw [(bcell hb).1 _ _ (by simp; omega)]; simp
  have x1 : w1.cell? ⟨w.heap.size + 1, 0, none⟩ = some (.int .i64 0) := by rw [(bcell hb).1 _ _ (by simp)]; simp
  have x2 : w1.cell? ⟨w.heap.size + 1, 1, none⟩ = some (.int .i64 0) := by rw [(bcell hb).1 _ _ (by simp)]; simp
  have f1 : ∀ i, w1.frozen? ⟨w.heap.size + 1, i, none⟩ = false := fun i => by rw [(bcell hb).2 _ _ (by simp)]; simp
  have hz : w.heap.size + 1 < w1.heap.size := by have := hb.size; simp at this; omega
  have hz0 : w.heap.size < w1.heap.size := by omega
  have T := Lib.hid (blThen (blThenAlloc (blAlloc w _) _) hb)
  have H1 := Lib.hid (((H.out.alloc _).alloc _).below hb)
  clear hb
  by_cases hk : cf ps = 0
  · have HK := Lib.hid hk
    have HE := Lib.hid (slpV_of H.out.1 hk)
    have HF := cfine hk
    have HMX := Lib.hid (mxW_upto HF (n - 1))
    have HSB := Lib.hid (slo_bd HF (n - 1))
    have hlo := HF.lo
    have hhi := HF.hi
    rw [H.out.1] at hlo hhi
    obtain ⟨b, o, rfl, hcl⟩ := H1.out.2 (by omega)
    have HC : Hid (∀ i, i < n → w1.cell? ⟨b, o + i, none⟩ = some (.int .i64 (pt ps i))) := hcl
    have hbw : b < w.heap.size := by
      obtain ⟨b', o', e, hc'⟩ := H.out.2 (by omega)
      injection e with e
      injection e with e1 e2
      subst e1
      exact cell_lt (hc' 0 (by omega))
    rw [hk]
    clear hk HF hcl
    gi_wp2_with fail
    refine ⟨trivial, (callsIn_wide.2 (linesOf_any _ _ _ _)).mono ?_⟩
    rintro e w2 ⟨rfl, rfl⟩
    gi_wp2_with fail
    have hB0 : Below w.heap.size w ((w1.alloc (.cells #[.int .i64 0] 2)).alloc (.cells #[.slice (some ⟨b, o, none⟩) n c] 71)) := blThenAlloc (blThenAlloc T.out _) _
    have hBB : Below w1.heap.size w1 ((w1.alloc (.cells #[.int .i64 0] 2)).alloc (.cells #[.slice (some ⟨b, o, none⟩) n c] 71)) := blThenAlloc (blAlloc w1 _) _
    have hc2 : ∀ j, j < n → ((w1.alloc (.cells #[.int .i64 0] 2)).alloc (.cells #[.slice (some ⟨b, o, none⟩) n c] 71)).cell? ⟨b, o + j, none⟩ = some (.int .i64 (pt ps j)) := fun j hj => cell_later hBB (HC.out j hj)
    refine wpIn_rangeFunc_ownG rfl (by omega) (gf := 155) (lb := #[.pointer (some ⟨w1.heap.size + 1, 0, none⟩)]) rfl trivial (enters_of Try.func155 (by kernel_rfl) rfl)
      (lines_stops 4 (by omega) (w1.heap.size + 1) b o n c ps hlo hhi _ (by simp) hc2) KpL.trans (KpL.b (by simp; omega) (by simp)) (Below.refl _ _) (fun _ => rfl)
      (fun pre W => (W.cell? ⟨w1.heap.size, 0, none⟩ = some (.int .i64 (mxW pre)) ∧ W.frozen? ⟨w1.heap.size, 0, none⟩ = false ∧ W.cell? ⟨w.heap.size, 0, none⟩ = some (.slice (some ⟨b, o, none⟩) n c) ∧ W.cell? ⟨w.heap.size + 1, 0, none⟩ = some (.int .i64 0) ∧ W.cell? ⟨w.heap.size + 1, 1, none⟩ = some (.int .i64 0) ∧ W.frozen? ⟨w.heap.size + 1, 0, none⟩ = false ∧ W.frozen? ⟨w.heap.size + 1, 1, none⟩ = false) ∧ Below w.heap.size w W)
      (fun _ _ _ => False)
      (OwnFrom.and (Go.Own.from (fun s A B row hs hg hr => ⟨cell_kept hs.1 hg hr, (frozen_kept hs.1 hg hr).trans hs.2.1, cell_kept hs.2.2.1 hg hr, cell_kept hs.2.2.2.1 hg hr, cell_kept hs.2.2.2.2.1 hg hr, (frozen_kept hs.2.2.2.1 hg hr).trans hs.2.2.2.2.2.1, (frozen_kept hs.2.2.2.2.1 hg hr).trans hs.2.2.2.2.2.2⟩) _) (ownFrom_below (Nat.le_refl _) (by simp; omega)))
      (fun _ _ _ _ _ hs _ _ => hs)
      ⟨⟨by simp [mxW], by simp, cell_later hBB x0, cell_later hBB x1, cell_later hBB x2, by rw [(bcell hBB).2 _ _ hz]; exact f1 0, by rw [(bcell hBB).2 _ _ hz]; exact f1 1⟩, hB0⟩
      (fun x => { tmps := #[.agg #[.slice (some ⟨b, o, none⟩) n c], .pointer (some ⟨w.heap.size, 0, none⟩), .pointer (some ⟨w.heap.size + 1, 0, none⟩), .int .i64 0, .pointer (some ⟨w1.heap.size, 0, none⟩), .int .i64 x.1, .int .i64 x.2, .agg #[.slice (some ⟨b, o, none⟩) n c], .int .i64 0, .int .i64 0, .bool false, undef, undef, .agg #[.slice (some ⟨b, o, none⟩) n c], .func (.func 155) #[] #[.pointer (some ⟨w1.heap.size + 1, 0, none⟩)], .int .i64 x.1, .int .i64 x.2, undef, undef, undef, undef, undef, undef, undef, undef, undef, undef, undef, undef, undef, undef, undef], defers := [] }) ?assign ?body ?done ?stop
    case assign =>
      intro l x W K hK
      gi_wp2
      exact hK
    case body =>
      rintro l pre x W ⟨⟨hcm, hfm, h3, h4, h5, h6, h7⟩, hB⟩ _
      gi_wp2
      rename_i hKc
      refine hKc _ _ ?_
      clear hKc
      simp only [Act.put, List.setIfInBounds_toArray, List.set_cons_zero, List.set_cons_succ]
      have HV : Hid ((if wrap64 (x.1 - x.2) > if wrap64 (x.2 - x.1) > mxW pre then wrap64 (x.2 - x.1) else mxW pre then wrap64 (x.1 - x.2) else if wrap64 (x.2 - x.1) > mxW pre then wrap64 (x.2 - x.1) else mxW pre) = mxW (pre ++ [x])) := by
        show _ = _
        rw [mxW_snoc]
        split <;> split <;> omega
      rw [HV.out]
      gi_wp2
      refine ⟨(KeepsOthers.setCell _ _ _).from _, ⟨Below.heap_setCell _ _ _ _ (by show b ≠ w1.heap.size; omega), Below.heap_setCell _ _ _ _ (by show w1.heap.size + 1 ≠ w1.heap.size; omega)⟩, ⟨?_, by rw [World.frozen?_setCell]; exact hfm, ?_, ?_, ?_, by rw [World.frozen?_setCell]; exact h6, by rw [World.frozen?_setCell]; exact h7⟩, hB.setCell (p := ⟨w1.heap.size, 0, none⟩) (by show w.heap.size ≤ w1.heap.size; omega) _⟩
      · exact World.cell?_setCell_same' _ _ _ (by rw [hcm]; rfl)
      · rw [World.cell?_setCell_other _ _ _ _ (by simp; try omega)]; exact h3
      · rw [World.cell?_setCell_other _ _ _ _ (by simp; try omega)]; exact h4
      · rw [World.cell?_setCell_other _ _ _ _ (by simp; try omega)]; exact h5
    case done =>
      rintro D ys W hD rfl ⟨⟨hcm, hfm, h3, h4, h5, h6, h7⟩, hB⟩ hK
      rw [HMX.out] at hcm
      obtain ⟨s0, s1⟩ := HSB.out
      have HE' := HE
      have hmul := Int.mul_le_mul_of_nonneg_right s1 (by omega : (0 : Int) ≤ (n : Int) - 1)
      have hmul0 := Int.mul_nonneg s0 (by omega : (0 : Int) ≤ (n : Int) - 1)
      clear HE
      generalize slo ps (n - 1) = s at *
      gi_wp2
      have hK1 := (KeepsOthers.setCell W ⟨w.heap.size + 1, 0, none⟩ (.int .i64 0)).same D _ hK rfl
      have hK' := (KeepsOthers.setCell _ ⟨w.heap.size + 1, 1, none⟩ (.int .i64 (s * ((n : Int) - 1)))).same D _ hK1 rfl
      refine ⟨by simp, .inl ⟨_, _, rfl, run_takeDeferred hK', ?_⟩⟩
      have y1 : ((W.setCell ⟨w.heap.size + 1, 0, none⟩ (.int .i64 0)).setCell ⟨w.heap.size + 1, 1, none⟩ (.int .i64 (s * ((n : Int) - 1)))).cell? ⟨w.heap.size + 1, 0, none⟩ = some (.int .i64 0) := by
        rw [World.cell?_setCell_other _ _ _ _ (by simp), World.cell?_setCell_same' _ _ _ (by rw [h4]; rfl)]
      have y2 : ((W.setCell ⟨w.heap.size + 1, 0, none⟩ (.int .i64 0)).setCell ⟨w.heap.size + 1, 1, none⟩ (.int .i64 (s * ((n : Int) - 1)))).cell? ⟨w.heap.size + 1, 1, none⟩ = some (.int .i64 (s * ((n : Int) - 1))) := by
        rw [World.cell?_setCell_same' _ _ _ (by rw [World.cell?_setCell_other _ _ _ _ (by simp), h5]; rfl)]
      have hc5 := cell_kept y1 (grownBy_putObj' _ D (.deferred none)) (fun r e => by cases e; exact ⟨_, hK', rfl⟩)
      have hc6 := cell_kept y2 (grownBy_putObj' _ D (.deferred none)) (fun r e => by cases e; exact ⟨_, hK', rfl⟩)
      refine ⟨.agg #[.int .i64 0, .int .i64 (s * ((n : Int) - 1))], ?_, by rw [HK.out, HE'.out], ((hB.setCell (p := ⟨w.heap.size + 1, 0, none⟩) (Nat.le_succ _) _).setCell (p := ⟨w.heap.size + 1, 1, none⟩) (Nat.le_succ _) _).trans (belowK_b (w := w) (Nat.le_refl _) _ D _ _ (by simp at hD; omega) hK' rfl rfl)⟩
      simp [results, Try.f92, go_sem, hc5, hc6]
    case stop =>
      rintro D c pre W _ _ h _
      exact h.elim
  · have HE : Hid (slpV ps = 0) := by show _ = _; unfold slpV; rw [if_neg hk]
    have hk' : (cf ps == 0) = false := by simpa using hk
    clear hk
    gi_wp2_with fail
    refine ⟨.agg #[.int .i64 (cf ps), .int .i64 0], ?_, by rw [HE.out], ?_⟩
    · simp [results, Try.f92, go_sem, x1, x2]
    · repeat (first | exact T.out | refine Below.setCell ?_ (by simp) _)
end Go.Proofs.Ytlfdpambbgddoaa
