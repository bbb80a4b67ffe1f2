/-
  How far two nodes are apart: the program's next and farthest, the model's l5Far.
  The span of a grid, plain mathematics: how far neighbours are from each other at most (spn).
  The span of a grid: the program's SpanOf.
  The span of a grid: the program's SpanOf, its walk.
  The span of a grid by the reference model: l5Span, SpanOf; the program's SpanOf at every grid.
-/
import Derived.Test.YtlfdpambbgddoaaGreatGrdRA
import Derived.Test.YtlfdpambbgddoaaGreatGrdWA
import Derived.Deep.RegionHeld3
namespace Go.Proofs.YtlfdpambbgddoaaGreat
open Go.RowKit
set_option linter.unusedVariables false
set_option linter.unusedSimpArgs false

def far3 (f g : Nat → Int) : Nat → Int
  | 0 => 0
  | k + 1 => max (far3 f g k) (max (f k - g k) (g k - f k))
def Lv3 (f : Nat → Int) : Prop := ∀ k, k < 3 → 0 ≤ f k ∧ f k ≤ 65535
theorem far3_bd {f g : Nat → Int} (hf : Lv3 f) (hg : Lv3 g) : ∀ k, k ≤ 3 → 0 ≤ far3 f g k ∧ far3 f g k ≤ 65535 := by
  intro k
  induction k with
  | zero => intro _; simp [far3]
  | succ k ih =>
    intro hk
    have h1 := ih (by omega)
    have h2 := hf k (by omega)
    have h3 := hg k (by omega)
    simp only [far3]
    omega
set_option maxRecDepth 100000 in
set_option maxHeartbeats 2000000 in
theorem nextSp_any (x : Nat → Int) (k : Nat) (w : World) (hk : k < 3) (hx : ∀ j, j < 3 → 0 ≤ x j ∧ x j ≤ 1000) :
    Calls Tryz.prog 114 #[.agg #[.int .i64 (x 0), .int .i64 (x 1), .int .i64 (x 2)], .int .i64 (k : Int)] w fun e w' => e = .returned (.agg #[.int .i64 (if k = 0 then x 0 + 1 else x 0), .int .i64 (if k = 1 then x 1 + 1 else x 1), .int .i64 (if k = 2 then x 2 + 1 else x 2)]) ∧ Below w.heap.size w w' := by
  have h0 := hx 0 (by omega)
  have h1 := hx 1 (by omega)
  have h2 := hx 2 (by omega)
  generalize x 0 = a0 at *
  generalize x 1 = a1 at *
  generalize x 2 = a2 at *
  clear hx
  have hkk : k = 0 ∨ k = 1 ∨ k = 2 := by omega
  rcases hkk with rfl | rfl | rfl
  · go_enter Tryz.func114, Tryz.ntmps114
    go_wp2_with fail
    refine bodyPost_ret (v := .agg #[.int .i64 (a0 + 1), .int .i64 a1, .int .i64 a2]) (by simp [results, Tryz.results114, go_sem]) rfl ⟨by simp, ?_⟩
    repeat (first | exact Below.refl _ _ | refine Below.setCell ?_ (by simp) _ | refine blThenAlloc ?_ _)
  · go_enter Tryz.func114, Tryz.ntmps114
    go_wp2_with fail
    refine bodyPost_ret (v := .agg #[.int .i64 a0, .int .i64 (a1 + 1), .int .i64 a2]) (by simp [results, Tryz.results114, go_sem]) rfl ⟨by simp, ?_⟩
    repeat (first | exact Below.refl _ _ | refine Below.setCell ?_ (by simp) _ | refine blThenAlloc ?_ _)
  · go_enter Tryz.func114, Tryz.ntmps114
    go_wp2_with fail
    refine bodyPost_ret (v := .agg #[.int .i64 a0, .int .i64 a1, .int .i64 (a2 + 1)]) (by simp [results, Tryz.results114, go_sem]) rfl ⟨by simp, ?_⟩
    repeat (first | exact Below.refl _ _ | refine Below.setCell ?_ (by simp) _ | refine blThenAlloc ?_ _)
set_option maxRecDepth 100000 in
set_option maxHeartbeats 2000000 in
theorem sFar5_any (A B : Option Addr) (ca cb : Nat) (xs ys : List Int) (w : World) (hx : Rd .i64 w A 3 xs) (hy : Rd .i64 w B 3 ys) (lx : Lv3 (xs.getD · 0)) (ly : Lv3 (ys.getD · 0)) :
    Calls Tryz.prog 38 #[.slice A 3 ca, .slice B 3 cb] w fun e w' => e = .returned (.int .i64 (far3 (xs.getD · 0) (ys.getD · 0) 3)) ∧ ∃ m, w' = w.drewN m := by
  obtain ⟨b, o, rfl, hx2⟩ := hx.2 (by omega)
  obtain ⟨b', o', rfl, hy2⟩ := hy.2 (by omega)
  have HX := Lib.hid hx2
  have HY := Lib.hid hy2
  have LX := Lib.hid lx
  have LY := Lib.hid ly
  have HBD := Lib.hid (far3_bd lx ly)
  clear hx hy hx2 hy2 lx ly
  go_enter Tryz.func38, Tryz.ntmps38
  go_wp2_with fail
  go_loopw [5, 6] (fun q i wr => ∃ k m : Nat, k ≤ 3 ∧ i = .int .i64 k ∧ q = .int .i64 (far3 (xs.getD · 0) (ys.getD · 0) k) ∧ wr = w.drewN m) (fun _ i _ => 3 - (intOf i).toNat)
  case atStart => exact ⟨0, 0, by omega, rfl, rfl, rfl⟩
  case round =>
    obtain ⟨k, m, hk, rfl, rfl, rfl⟩ := hrel
    by_cases hlt : k < 3
    · have y1 := HX.out k hlt
      have y2 := HY.out k hlt
      have b1 := LX.out k hlt
      have b2 := LY.out k hlt
      have b3 := HBD.out k hk
      have HS : Hid (far3 (xs.getD · 0) (ys.getD · 0) (k + 1) = max (far3 (xs.getD · 0) (ys.getD · 0) k) (max (xs.getD k 0 - ys.getD k 0) (ys.getD k 0 - xs.getD k 0))) := rfl
      simp only at b1 b2
      obtain ⟨z, hz⟩ : ∃ z, z = far3 (xs.getD · 0) (ys.getD · 0) k := ⟨_, rfl⟩
      obtain ⟨u, hu⟩ : ∃ u, u = xs.getD k 0 := ⟨_, rfl⟩
      obtain ⟨v, hv⟩ : ∃ v, v = ys.getD k 0 := ⟨_, rfl⟩
      rw [← hz, ← hu, ← hv] at HS
      rw [← hu] at y1 b1
      rw [← hv] at y2 b2
      rw [← hz] at b3 ⊢
      clear hz hu hv
      go_wp2_with fail
      go_quiet ((go_at_call 61; first | exact Calls.quiet_of ((sMax_any _ _ _).mono fun e w' ⟨he, hw⟩ => ⟨he, 0, hw.symm⟩) | exact quietAD' ((sMax_any _ _ _).mono fun e w' ⟨he, hw⟩ => ⟨he, 0, hw.symm⟩)))
      go_wp2_with fail
      go_roundw
      case rel => exact ⟨k + 1, _, by omega, by go_num, by rw [HS.out], rfl⟩
      case measure => simp [intOf]; omega
    · obtain rfl : k = 3 := by omega
      go_wp2_with fail
      go_ret
      exact ⟨rfl, m, rfl⟩
theorem run_max3 (w : World) (x y z : Int) : (Builtin.max_ #[2, 2, 2] 2 #[.int .i64 x, .int .i64 y, .int .i64 z]).run Tryz.prog w = .ok (.int .i64 (max (max x y) z)) w := by
  have h1 : (if y > x then y else x) = max x y := by split <;> omega
  have h2 : (if z > max x y then z else max x y) = max (max x y) z := by split <;> omega
  first
    | (simp [Builtin.max_, go_sem, h1, h2]; done)
    | (rw [← h2, ← h1]; rfl)
    | (rw [← h2, ← h1]; simp [Builtin.max_, go_sem]; split <;> split <;> simp_all)
theorem wrap_sub {u v : Int} (h1 : 0 ≤ u ∧ u ≤ 65535) (h2 : 0 ≤ v ∧ v ≤ 65535) : IntKind.i64.wrap (u - v) = u - v := IntWalk.i64_in _ (by omega)
set_option maxRecDepth 100000 in
set_option maxHeartbeats 2000000 in
theorem farthest_any (f g : Nat → Int) (w : World) (lf' : Lv3 f) (lg : Lv3 g) :
    Calls Tryz.prog 42 #[.agg #[.int .i64 (f 0), .int .i64 (f 1), .int .i64 (f 2)], .agg #[.int .i64 (g 0), .int .i64 (g 1), .int .i64 (g 2)]] w fun e w' => e = .returned (.int .i64 (far3 f g 3)) ∧ Below w.heap.size w w' := by
  obtain ⟨W0, hW0⟩ : ∃ W0, W0 = (w.alloc (.cells #[.int .i64 (f 0), .int .i64 (f 1), .int .i64 (f 2)] 76)).alloc (.cells #[.int .i64 (g 0), .int .i64 (g 1), .int .i64 (g 2)] 76) := ⟨_, rfl⟩
  have HX : Hid (∀ k, k < 3 → W0.cell? ⟨w.heap.size, k, none⟩ = some (.int .i64 (f k))) := fun k hk => by
    rw [hW0]; refine cell_later (blAlloc _ _) ?_
    match k, hk with
    | 0, _ => simp
    | 1, _ => simp
    | 2, _ => simp
  have HY : Hid (∀ k, k < 3 → W0.cell? ⟨w.heap.size + 1, k, none⟩ = some (.int .i64 (g k))) := fun k hk => by
    rw [hW0, newCell _ _ _ _ _ (by simp)]
    match k, hk with
    | 0, _ => rfl
    | 1, _ => rfl
    | 2, _ => rfl
  have T : Hid (Below w.heap.size w W0) := by show Below _ _ _; rw [hW0]; exact blThenAlloc (blAlloc _ _) _
  have LX := Lib.hid lf'
  have LY := Lib.hid lg
  have HBD := Lib.hid (far3_bd lf' lg)
  have HW := Lib.hid hW0
  clear lf' lg hW0
  go_enter Tryz.func42, Tryz.ntmps42
  go_wp2_with fail
  rw [← HW.out]
  clear HW
  go_loopw [5, 7] (fun q i wr => ∃ k m : Nat, k ≤ 3 ∧ i = .int .i64 k ∧ q = .int .i64 (far3 f g k) ∧ wr = W0.drewN m) (fun _ i _ => 3 - (intOf i).toNat)
  case atStart => exact ⟨0, 0, by omega, rfl, rfl, rfl⟩
  case round =>
    obtain ⟨k, m, hk, rfl, rfl, rfl⟩ := hrel
    by_cases hlt : k < 3
    · have y1 := HX.out k hlt
      have y2 := HY.out k hlt
      have b1 := LX.out k hlt
      have b2 := LY.out k hlt
      have b3 := HBD.out k hk
      have HS : Hid (far3 f g (k + 1) = max (far3 f g k) (max (f k - g k) (g k - f k))) := rfl
      obtain ⟨z, hz⟩ : ∃ z, z = far3 f g k := ⟨_, rfl⟩
      obtain ⟨u, hu⟩ : ∃ u, u = f k := ⟨_, rfl⟩
      obtain ⟨v, hv⟩ : ∃ v, v = g k := ⟨_, rfl⟩
      rw [← hz, ← hu, ← hv] at HS
      rw [← hu] at y1 b1
      rw [← hv] at y2 b2
      rw [← hz] at b3 ⊢
      clear hz hu hv
      have HW1 := Lib.hid (wrap_sub b1 b2)
      have HW2 := Lib.hid (wrap_sub b2 b1)
      have hmx := fun W x y z => run_max3 W x y z
      go_wp2_with fail
      go_quiet (fail)
      clear hmx
      go_wp2_with fail
      go_roundw
      case rel =>
        refine ⟨k + 1, _, by omega, by go_num, ?_, rfl⟩
        first
          | (rw [HS.out]; done)
          | (rw [HS.out]; congr 1; omega)
          | (rw [HS.out, HW1.out, HW2.out]; congr 1; omega)
      case measure => simp [intOf]; try omega
    · obtain rfl : k = 3 := by omega
      go_wp2_with fail
      go_ret
      exact ⟨rfl, T.out.trans (below_drewN _ _ _)⟩
end Go.Proofs.YtlfdpambbgddoaaGreat
namespace Go.Proofs.YtlfdpambbgddoaaGreat
set_option linter.unusedVariables false
set_option linter.unusedSimpArgs false

/-- number k of place t. -/
def cor (s t k : Nat) : Nat := if k = 0 then t / (s * s) else if k = 1 then t / s % s else t % s
/-- how many places further the next one along axis k stands. -/
def stq (s k : Nat) : Nat := if k = 0 then s * s else if k = 1 then s else 1
def rwf (rs : Rws) (t j : Nat) : Int := (rw_ rs t).getD j 0
/-- the first c pairs. -/
def spn (s : Nat) (rs : Rws) : Nat → Int
  | 0 => 0
  | c + 1 => if cor s (c / 3) (c % 3) + 1 < s then max (spn s rs c) (far3 (rwf rs (c / 3)) (rwf rs (c / 3 + stq s (c % 3))) 3) else spn s rs c
theorem spn_at (s : Nat) (rs : Rws) {t k : Nat} (hk : k < 3) : spn s rs (3 * t + (k + 1)) = if cor s t k + 1 < s then max (spn s rs (3 * t + k)) (far3 (rwf rs t) (rwf rs (t + stq s k)) 3) else spn s rs (3 * t + k) := by
  have h1 : (3 * t + k) / 3 = t := by omega
  have h2 : (3 * t + k) % 3 = k := by omega
  show spn s rs ((3 * t + k) + 1) = _
  simp only [spn]
  rw [h1, h2]
theorem cor_next {s t k : Nat} (hs : s = 2 ∨ s = 3 ∨ s = 4) (ht : t < s * s * s) (hk : k < 3) (h : cor s t k + 1 < s) : t + stq s k < s * s * s ∧ ∀ j, j < 3 → cor s (t + stq s k) j = if j = k then cor s t j + 1 else cor s t j := by
  have hkk : k = 0 ∨ k = 1 ∨ k = 2 := by omega
  rcases hs with rfl | rfl | rfl <;> rcases hkk with rfl | rfl | rfl <;> simp only [cor, stq, Nat.reduceMul, if_true, if_false, Nat.reduceEqDiff, reduceIte] at * <;>
    refine ⟨by omega, fun j hj => ?_⟩ <;> (have hjj : j = 0 ∨ j = 1 ∨ j = 2 := by omega) <;> rcases hjj with rfl | rfl | rfl <;> simp <;> omega
theorem cor_kt (s t : Nat) : kt s t = kp ((cor s t 0 : Nat) : Int) ((cor s t 1 : Nat) : Int) ((cor s t 2 : Nat) : Int) := rfl
theorem cor_lt {s t : Nat} (hs : s = 2 ∨ s = 3 ∨ s = 4) (ht : t < s * s * s) {k : Nat} (hk : k < 3) : cor s t k < s := by
  obtain ⟨a, b, c⟩ := pl_lt hs ht
  match k, hk with
  | 0, _ => exact a
  | 1, _ => exact b
  | 2, _ => exact c
theorem spn_bd {s : Nat} {rs : Rws} (hs : s = 2 ∨ s = 3 ∨ s = 4) (hr : ∀ t, t < s * s * s → Lv3 (rwf rs t)) : ∀ c, c ≤ 3 * (s * s * s) → 0 ≤ spn s rs c ∧ spn s rs c ≤ 65535 := by
  intro c
  induction c with
  | zero => intro _; simp [spn]
  | succ c ih =>
    intro hc
    have h1 := ih (by omega)
    simp only [spn]
    split
    · rename_i h
      have ht : c / 3 < s * s * s := by omega
      obtain ⟨h2, -⟩ := cor_next hs ht (Nat.mod_lt c (by omega)) h
      have := far3_bd (hr _ ht) (hr _ h2) 3 (Nat.le_refl _)
      omega
    · exact h1
end Go.Proofs.YtlfdpambbgddoaaGreat
namespace Go.Proofs.YtlfdpambbgddoaaGreat
open Go.RowKit Go.Maps
set_option linter.unusedVariables false
set_option linter.unusedSimpArgs false

/-- the node at place t. -/
theorem look_at {W : World} {B s : Nat} {rs : Rws} {D : DataW Unit} (hM : MapN W B s rs (s * s * s) D) {t : Nat} (ht : t < s * s * s) (hs : s = 2 ∨ s = 3 ∨ s = 4) :
    (Instr.lookup 142 (.map (some B)) (.agg #[.int .i64 ((cor s t 0 : Nat) : Int), .int .i64 ((cor s t 1 : Nat) : Int), .int .i64 ((cor s t 2 : Nat) : Int)]) false).run Tryz.prog W = .ok (.agg #[.int .i64 (rwf rs t 0), .int .i64 (rwf rs t 1), .int .i64 (rwf rs t 2)]) W := by
  have h0 := cor_lt hs ht (k := 0) (by omega)
  have h1 := cor_lt hs ht (k := 1) (by omega)
  have h2 := cor_lt hs ht (k := 2) (by omega)
  have hkey : keyOf Tryz.prog 100 (.agg #[.int .i64 ((cor s t 0 : Nat) : Int), .int .i64 ((cor s t 1 : Nat) : Int), .int .i64 ((cor s t 2 : Nat) : Int)]) = some (kt s t) := by
    rw [cor_kt]; exact kp_nat _ _ _ (by omega) (by omega) (by omega)
  obtain ⟨v, ps, hrun, hv⟩ := hM.own.lookup keyP Tryz.underlying142 (zeroLights W) (lightElem_mk 0 0 0) hkey
  rw [hrun]
  rw [hM.at_ _ ht] at hv
  obtain ⟨a, b, c, rfl, he⟩ := lightElem_form hv
  unfold rowDat at he
  simp only [DataW.agg.injEq, List.cons.injEq, DataW.lit.injEq, Lit.int.injEq, true_and, and_true] at he
  unfold rwf
  rw [he.1, he.2.1, he.2.2]
def nxt (s t k j : Nat) : Nat := if j = k then cor s t j + 1 else cor s t j
/-- is there a place behind? -/
theorem has_next {W : World} {B s : Nat} {rs : Rws} {D : DataW Unit} (hM : MapN W B s rs (s * s * s) D) {t k : Nat} (ht : t < s * s * s) (hk : k < 3) (hs : s = 2 ∨ s = 3 ∨ s = 4) :
    Maps.has D (kp ((nxt s t k 0 : Nat) : Int) ((nxt s t k 1 : Nat) : Int) ((nxt s t k 2 : Nat) : Int)) = decide (cor s t k + 1 < s) ∧
    (cor s t k + 1 < s → ∀ z a0 a1 a2, D.atKey (kp ((nxt s t k 0 : Nat) : Int) ((nxt s t k 1 : Nat) : Int) ((nxt s t k 2 : Nat) : Int)) z = .agg [.lit (.int .i64 a0), .lit (.int .i64 a1), .lit (.int .i64 a2)] → a0 = rwf rs (t + stq s k) 0 ∧ a1 = rwf rs (t + stq s k) 1 ∧ a2 = rwf rs (t + stq s k) 2) := by
  have c0 := cor_lt hs ht (k := 0) (by omega)
  have c1 := cor_lt hs ht (k := 1) (by omega)
  have c2 := cor_lt hs ht (k := 2) (by omega)
  have nb : ∀ j, j < 3 → nxt s t k j ≤ 1000 := fun j hj => by
    have := cor_lt hs ht hj
    unfold nxt; split <;> omega
  have W0 : (Lit.int .i64 ((nxt s t k 0 : Nat) : Int)).wf = true := wfN (nb 0 (by omega))
  have W1 : (Lit.int .i64 ((nxt s t k 1 : Nat) : Int)).wf = true := wfN (nb 1 (by omega))
  have W2 : (Lit.int .i64 ((nxt s t k 2 : Nat) : Int)).wf = true := wfN (nb 2 (by omega))
  by_cases hc : cor s t k + 1 < s
  · obtain ⟨h1, h2⟩ := cor_next hs ht hk hc
    have e : ∀ j, j < 3 → nxt s t k j = cor s (t + stq s k) j := fun j hj => (h2 j hj).symm
    have hkt : kp ((nxt s t k 0 : Nat) : Int) ((nxt s t k 1 : Nat) : Int) ((nxt s t k 2 : Nat) : Int) = kt s (t + stq s k) := by
      rw [cor_kt, e 0 (by omega), e 1 (by omega), e 2 (by omega)]
    refine ⟨?_, fun _ z a0 a1 a2 ha => ?_⟩
    · rw [decide_eq_true hc]
      exact (hM.has _ _ _ W0 W1 W2).2 ⟨t + stq s k, h1, by rw [e 0 (by omega)]; rfl, by rw [e 1 (by omega)]; rfl, by rw [e 2 (by omega)]; rfl⟩
    · rw [hkt, hM.at_ _ h1] at ha
      unfold rowDat at ha
      simp only [DataW.agg.injEq, List.cons.injEq, DataW.lit.injEq, Lit.int.injEq, true_and, and_true] at ha
      unfold rwf
      exact ⟨ha.1.symm, ha.2.1.symm, ha.2.2.symm⟩
  · refine ⟨?_, fun h => absurd h hc⟩
    rw [decide_eq_false hc]
    rcases Bool.eq_false_or_eq_true (Maps.has D (kp ((nxt s t k 0 : Nat) : Int) ((nxt s t k 1 : Nat) : Int) ((nxt s t k 2 : Nat) : Int))) with r | r
    · exfalso
      obtain ⟨u, u1, u2, u3, u4⟩ := (hM.has _ _ _ W0 W1 W2).1 r
      have d0 := cor_lt hs u1 (k := 0) (by omega)
      have d1 := cor_lt hs u1 (k := 1) (by omega)
      have d2 := cor_lt hs u1 (k := 2) (by omega)
      have e0 : cor s u 0 = nxt s t k 0 := Int.ofNat.inj u2
      have e1 : cor s u 1 = nxt s t k 1 := Int.ofNat.inj u3
      have e2 : cor s u 2 = nxt s t k 2 := Int.ofNat.inj u4
      have hkk : k = 0 ∨ k = 1 ∨ k = 2 := by omega
      rcases hkk with rfl | rfl | rfl <;> simp only [nxt, if_true] at e0 e1 e2 <;> omega
    · exact r
end Go.Proofs.YtlfdpambbgddoaaGreat
namespace Go.Proofs.YtlfdpambbgddoaaGreat
open Go.RowKit Go.Maps
set_option linter.unusedVariables false
set_option linter.unusedSimpArgs false

theorem blc {w W : World} {c : Nat} (h : Below w.heap.size w W) (hc : w.heap.size ≤ c) (i : Nat) (v : Value) : Below w.heap.size w (W.setCell ⟨c, i, none⟩ v) := h.setCell (p := ⟨c, i, none⟩) hc v
def spV (sd : Int) (rs : Rws) : Int := if gf sd rs = 0 then spn sd.toNat rs (3 * (sd.toNat * sd.toNat * sd.toNat)) else 0
theorem sp_f {sd : Int} {rs : Rws} (h : gf sd rs ≠ 0) : spV sd rs = 0 := by unfold spV; rw [if_neg h]
theorem sp_y {s : Nat} {rs : Rws} (h : gf (s : Int) rs = 0) : spV (s : Int) rs = spn s rs (3 * (s * s * s)) := by unfold spV; rw [if_pos h]; simp
def SpAns (w : World) (sd : Int) (rs : Rws) (e : Ending) (w' : World) : Prop := e = .returned (.agg #[.int .i64 (gf sd rs), .int .i64 (spV sd rs)]) ∧ Below w.heap.size w w'
theorem run_max2 (w : World) (x y : Int) : (Builtin.max_ #[2, 2] 2 #[.int .i64 x, .int .i64 y]).run Tryz.prog w = .ok (.int .i64 (max x y)) w := by
  have h1 : (if y > x then y else x) = max x y := by split <;> omega
  first
    | (simp [Builtin.max_, go_sem, h1]; done)
    | (rw [← h1]; rfl)
    | (rw [← h1]; simp [Builtin.max_, go_sem]; split <;> simp_all)
end Go.Proofs.YtlfdpambbgddoaaGreat
namespace Go.Proofs.YtlfdpambbgddoaaGreat
open Go.RowKit Go.Maps
set_option linter.unusedVariables false
set_option linter.unusedSimpArgs false

theorem cor_div {s t k : Nat} (hs : s = 2 ∨ s = 3 ∨ s = 4) (ht : t < s * s * s) (hk : k < 3) : t / stq s k % s = cor s t k := by
  have hkk : k = 0 ∨ k = 1 ∨ k = 2 := by omega
  rcases hs with rfl | rfl | rfl <;> rcases hkk with rfl | rfl | rfl <;> simp [cor, stq] <;> omega
theorem stq_bd {s k : Nat} (hs : s = 2 ∨ s = 3 ∨ s = 4) : 1 ≤ stq s k ∧ stq s k ≤ 16 := by
  unfold stq
  rcases hs with rfl | rfl | rfl <;> (split <;> (try split) <;> simp)
end Go.Proofs.YtlfdpambbgddoaaGreat
