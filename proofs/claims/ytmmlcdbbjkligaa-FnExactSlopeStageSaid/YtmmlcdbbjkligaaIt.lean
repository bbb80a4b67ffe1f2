/-
  The iterator linesOf of a curve, and what ranges over it: IsMonotone, SlopeOf.
-/
import Derived.Test.YtmmlcdbbjkligaaCur2
import Derived.RangeFuncNested
import Derived.RangeFuncBound
import Derived.RangeFuncCalls
import Derived.RangeFuncLeaves
import Derived.RangeFuncBox
import Derived.Shelf.Abstract
import Derived.OwnWalkIn
import Derived.TacticsInMore
import Derived.LoopNIn
import Derived.LoopIn
import Derived.Stop.RegionWithIn
namespace Go.Proofs.Ytmmlcdbbjkligaa
open Go.RowKit Go.Shelf
set_option linter.unusedVariables false
attribute [local go_sem] Oper.semAt_some

/-- what has come when k rounds are over. -/
def upto {α : Type} (f : Nat → α) (k : Nat) : List α := (List.range k).map f
theorem upto_succ {α : Type} (f : Nat → α) (k : Nat) : upto f (k + 1) = upto f k ++ [f k] := by simp [upto, List.range_succ]
theorem upto_length {α : Type} (f : Nat → α) (k : Nat) : (upto f k).length = k := by simp [upto]
/-- a round leaves these two blocks as they are. -/
def KpL (b B : Nat) (W W' : World) : Prop := W'.heap[b]? = W.heap[b]? ∧ W'.heap[B]? = W.heap[B]?
theorem KpL.refl (b B : Nat) (W : World) : KpL b B W W := ⟨rfl, rfl⟩
theorem KpL.trans {b B : Nat} {X Y Z : World} (h : KpL b B X Y) (k : KpL b B Y Z) : KpL b B X Z := ⟨k.1.trans h.1, k.2.trans h.2⟩
def lnF (ps : List Int) (j : Nat) : Int × Int := (pt ps j, pt ps (j + 1))
set_option maxRecDepth 100000 in
set_option maxHeartbeats 2000000 in
theorem lines1_in (n : Nat) (hn : 1 ≤ n) (l B b off len cap : Nat) (ps : List Int) (h2 : 2 ≤ len) (h17 : len ≤ 17) (J Jx : List (Int × Int) → World → Prop)
    (hJ : ∀ s W m, J s W → J s (W.drewN m))
    (hY : ∀ pre x W, J pre W → pre.length < len - 1 → YieldAt Fence.wide (n - 1) Try.prog l #[.int .i64 x.1, .int .i64 x.2] W fun e W' =>
      (e = .returned (.bool true) ∧ J (pre ++ [x]) W' ∧ KpL b B W W') ∨ (e = .returned (.bool false) ∧ Jx (pre ++ [x]) W'))
    (W : World) (hB : W.cell? ⟨B, 0, none⟩ = some (.slice (some ⟨b, off, none⟩) len cap)) (hc : ∀ j, j < len → W.cell? ⟨b, off + j, none⟩ = some (.int .i64 (pt ps j))) (h0 : J [] W) :
    CallsIn Fence.wide n Try.prog 171 #[.func (.yield l) #[] #[], .pointer (some ⟨B, 0, none⟩)] W fun e W' => (∃ v, e = .returned v) ∧
      ((∃ ys, ys = upto (lnF ps) (len - 1) ∧ J ys W') ∨ (∃ pre, (∃ k, k ≤ len - 1 ∧ pre = upto (lnF ps) k) ∧ Jx pre W')) := by
  have HC := Lib.hid hc
  have HB := Lib.hid hB
  have HJ := Lib.hid hJ
  have HY := Lib.hid hY
  clear hc hB hJ hY
  refine callsIn_of_wp Try.func171 rfl trivial ?_ rfl
  simp only [Try.ntmps171, List.size_toArray, List.length_cons, List.length_nil, Nat.reduceAdd, Nat.reduceSub, Array.replicate_succ, Array.replicate_zero, List.push_toArray, List.append_toArray, List.nil_append, List.cons_append]
  gi_wp2
  gi_loopw [3] (fun i wr => ∃ K k : Nat, Hid (K = k + 1) ∧ K ≤ len ∧ i = .int .i64 K ∧ J (upto (lnF ps) k) wr ∧ KpL b B W wr)
    (fun i _ => len - (intOf i).toNat)
  case atStart => exact ⟨1, 0, rfl, by omega, rfl, h0, KpL.refl _ _ _⟩
  case round =>
    obtain ⟨K, k, hKk, hK, rfl, hJs, hnx⟩ := hrel
    have k0 : k < K := by have := hKk.out; omega
    have hBx : wr.cell? ⟨B, 0, none⟩ = some (.slice (some ⟨b, off, none⟩) len cap) := (World.cell?_of_block hnx.2).trans HB.out
    by_cases hlt : K < len
    · have c0 : wr.cell? ⟨b, off + k, none⟩ = some (.int .i64 (pt ps k)) := (World.cell?_of_block hnx.1).trans (HC.out k (by omega))
      have c1 : wr.cell? ⟨b, off + K, none⟩ = some (.int .i64 (pt ps K)) := (World.cell?_of_block hnx.1).trans (HC.out K (by omega))
      have hJd : J (upto (lnF ps) k) wr.drew := HJ.out _ _ 1 hJs
      obtain ⟨fn, tmps, assign, body, hy, hR0⟩ := HY.out _ (lnF ps k) wr.drew hJd (by rw [upto_length]; have := hKk.out; omega)
      dsimp only [lnF] at hy
      rw [← hKk.out] at hy
      have hR : RoundIn Fence.wide (n - 1) Try.prog l fn tmps assign body wr.drew fun e W' => ∃ bb : Bool, e = .returned (.bool bb) ∧ Hid ((bb = true ∧ J (upto (lnF ps) (k + 1)) W' ∧ KpL b B W W') ∨ (bb = false ∧ Jx (upto (lnF ps) (k + 1)) W')) := by
        refine hR0.mono ?_
        rintro e W3 (⟨rfl, a, b⟩ | ⟨rfl, a⟩)
        · exact ⟨true, rfl, .inl ⟨rfl, by rw [upto_succ]; exact a, hnx.trans (KpL.trans ⟨rfl, rfl⟩ b)⟩⟩
        · exact ⟨false, rfl, .inr ⟨rfl, by rw [upto_succ]; exact a⟩⟩
      have w1 : IntKind.i64.wrap ((K : Int) - 1) = (k : Int) := by have := hKk.out; rw [IntWalk.i64_in _ (by omega)]; omega
      have hkn : (k : Int) < (len : Int) := by omega
      clear hR0 hnx hJs hJd
      gi_wp2
      gi_region_with (refine hR.mono ?_; rintro e W3 ⟨bb, rfl, hP⟩)
      all_goals
        cases bb with
        | true =>
          have HP : Hid (J (upto (lnF ps) K) W3 ∧ KpL b B W W3) := by
            rcases hP.out with ⟨_, a, b⟩ | ⟨e, _⟩
            · exact ⟨by rw [hKk.out]; exact a, b⟩
            · cases e
          clear hP hR hy
          gi_wp2
          go_roundw
          case rel => exact ⟨K + 1, K, rfl, by omega, by simp, HP.out.1, HP.out.2⟩
          case measure => simp [intOf]; omega
        | false =>
          have HP : Hid (Jx (upto (lnF ps) (k + 1)) W3) := by
            rcases hP.out with ⟨e, _⟩ | ⟨_, a⟩
            · cases e
            · exact a
          clear hP hR hy
          gi_wp2
          refine bodyPost_ret (results_none rfl _ _ _) rfl ?_
          exact ⟨⟨_, rfl⟩, .inr ⟨_, ⟨k + 1, by have := hKk.out; omega, rfl⟩, HP.out⟩⟩
    · have hk1 : len - 1 = k := by have := hKk.out; omega
      gi_wp2
      go_end0
      exact ⟨⟨_, rfl⟩, .inl ⟨_, by rw [hk1], hJs⟩⟩
/-- the iterator: the curve lies in a box that it has captured. -/
theorem linesOf_any (A : Option Addr) (n c : Nat) (w : World) :
    Calls Try.prog 146 #[.agg #[.slice A n c]] w fun e w' => e = .returned (.func (.func 171) #[] #[.pointer (some ⟨w.heap.size, 0, none⟩)]) ∧ w.alloc (.cells #[.slice A n c] 171) = w' := by
  go_enter Try.func146, Try.ntmps146
  go_wp2
  go_ret
  exact ⟨rfl, rfl⟩
theorem lines_stops (n : Nat) (hn : 1 ≤ n) (B b off len cap : Nat) (ps : List Int) (h2 : 2 ≤ len) (h17 : len ≤ 17) (w : World) (hB : w.cell? ⟨B, 0, none⟩ = some (.slice (some ⟨b, off, none⟩) len cap)) (hc : ∀ j, j < len → w.cell? ⟨b, off + j, none⟩ = some (.int .i64 (pt ps j))) :
    SeqStopsK Fence.wide n Try.prog 171 #[.pointer (some ⟨B, 0, none⟩)] (fun x : Int × Int => #[Value.int .i64 x.1, Value.int .i64 x.2]) (KpL b B) (fun ys => ys = upto (lnF ps) (len - 1))
      (fun pre => ∃ k, k ≤ len - 1 ∧ pre = upto (lnF ps) k) (len - 1) w := fun l J Jx W hW hJ _ hY h0 =>
  lines1_in n hn l B b off len cap ps h2 h17 J Jx (fun s W m h => hJ s W _ none h ⟨rfl, rfl, rfl, Nat.le_refl _, fun _ _ _ => rfl⟩ (fun r e => by cases e)) hY W
    ((hW.cell (p := ⟨B, 0, none⟩) (cell_lt hB)).trans hB) (fun j hj => (hW.cell (p := ⟨b, off + j, none⟩) (cell_lt (hc j hj))).trans (hc j hj)) h0
theorem KpL.b {b B : Nat} {w : World} (hb : b < w.heap.size) (hB : B < w.heap.size) (W : World) (l : Nat) (o o' : Obj) (hl : w.heap.size ≤ l) (h : W.heap[l]? = some o) (_ : o.isCells = false) (_ : o.isWalk = false) : KpL b B W (W.putObj l o') :=
  ⟨World.putObj_heap_other (by omega), World.putObj_heap_other (by omega)⟩
end Go.Proofs.Ytmmlcdbbjkligaa
