/-
  How far two nodes are apart: the program's next and farthest, the model's l5Far.
  The span of a grid, plain mathematics: how far neighbours are from each other at most (spn).
  The span of a grid: the program's SpanOf.
  The span of a grid: the program's SpanOf, its walk.
  The span of a grid by the reference model: l5Span, SpanOf; the program's SpanOf at every grid.
-/
import Derived.Test.YthplngcdldongaaGrdRA
import Derived.Test.YthplngcdldongaaGrdWA
import Derived.Deep.RegionHeld3
namespace Go.Proofs.Ythplngcdldongaa
open Go.RowKit
set_option linter.unusedVariables false
set_option linter.unusedSimpArgs false

def far3 (f g : Nat → Int) : Nat → Int
  | 0 => 0
  | k + 1 => max (far3 f g k) (max (f k - g k) (g k - f k))
def Lv3 (f : Nat → Int) : Prop := ∀ k, k < 3 → 0 ≤ f k ∧ f k ≤ 65535
theorem far3_bd {f g : Nat → Int} (hf : Lv3 f) (hg : Lv3 g) : ∀ k, k ≤ 3 → 0 ≤ far3 f g k ∧ far3 f g k ≤ 65535 := by
  intro k
  induction k with
  | zero => intro _; simp [far3]
  | succ k ih =>
    intro hk
    have h1 := ih (by omega)
    have h2 := hf k (by omega)
    have h3 := hg k (by omega)
    simp only [far3]
    omega
set_option maxRecDepth 100000 in
set_option maxHeartbeats 2000000 in
theorem nextSp_any (x : Nat → Int) (k : Nat) (w : World) (hk : k < 3) (hx : ∀ j, j < 3 → 0 ≤ x j ∧ x j ≤ 1000) :
    Calls Try.prog 60 #[.agg #[.int .i64 (x 0), .int .i64 (x 1), .int .i64 (x 2)], .int .i64 (k : Int)] w fun e w' => e = .returned (.agg #[.int .i64 (if k = 0 then x 0 + 1 else x 0), .int .i64 (if k = 1 then x 1 + 1 else x 1), .int .i64 (if k = 2 then x 2 + 1 else x 2)]) ∧ Below w.heap.size w w' := by
  have h0 := hx 0 (by omega)
  have h1 := hx 1 (by omega)
  have h2 := hx 2 (by omega)
  generalize x 0 = a0 at *
  generalize x 1 = a1 at *
  generalize x 2 = a2 at *
  clear hx
  have hkk : k = 0 ∨ k = 1 ∨ k = 2 := by omega
  rcases hkk with rfl | rfl | rfl
  · go_enter Try.func60, Try.ntmps60
    go_wp2_with fail
    refine bodyPost_ret (v := .agg #[.int .i64 (a0 + 1), .int .i64 a1, .int .i64 a2]) (by simp [results, Try.results60, go_sem]) rfl ⟨by simp, ?_⟩
    repeat (first | exact Below.refl _ _ | refine Below.setCell ?_ (by simp) _ | refine blThenAlloc ?_ _)
  · go_enter Try.func60, Try.ntmps60
    go_wp2_with fail
    refine bodyPost_ret (v := .agg #[.int .i64 a0, .int .i64 (a1 + 1), .int .i64 a2]) (by simp [results, Try.results60, go_sem]) rfl ⟨by simp, ?_⟩
    repeat (first | exact Below.refl _ _ | refine Below.setCell ?_ (by simp) _ | refine blThenAlloc ?_ _)
  · go_enter Try.func60, Try.ntmps60
    go_wp2_with fail
    refine bodyPost_ret (v := .agg #[.int .i64 a0, .int .i64 a1, .int .i64 (a2 + 1)]) (by simp [results, Try.results60, go_sem]) rfl ⟨by simp, ?_⟩
    repeat (first | exact Below.refl _ _ | refine Below.setCell ?_ (by simp) _ | refine blThenAlloc ?_ _)
set_option maxRecDepth 100000 in
set_option maxHeartbeats 2000000 in
theorem sFar5_any (A B : Option Addr) (ca cb : Nat) (xs ys : List Int) (w : World) (hx : Rd .i64 w A 3 xs) (hy : Rd .i64 w B 3 ys) (lx : Lv3 (xs.getD · 0)) (ly : Lv3 (ys.getD · 0)) :
    Calls Try.prog 94 #[.slice A 3 ca, .slice B 3 cb] w fun e w' => e = .returned (.int .i64 (far3 (xs.getD · 0) (ys.getD · 0) 3)) ∧ ∃ m, w' = w.drewN m := by
  obtain ⟨b, o, rfl, hx2⟩ := hx.2 (by omega)
  obtain ⟨b', o', rfl, hy2⟩ := hy.2 (by omega)
  have HX := Lib.hid hx2
  have HY := Lib.hid hy2
  have LX := Lib.hid lx
  have LY := Lib.hid ly
  have HBD := Lib.hid (far3_bd lx ly)
  clear hx hy hx2 hy2 lx ly
  go_enter Try.func94, Try.ntmps94
  go_wp2_with fail
  go_loopw [5, 6] (fun q i wr => ∃ k m : Nat, k ≤ 3 ∧ i = .int .i64 k ∧ q = .int .i64 (far3 (xs.getD · 0) (ys.getD · 0) k) ∧ wr = w.drewN m) (fun _ i _ => 3 - (intOf i).toNat)
  case atStart => exact ⟨0, 0, by omega, rfl, rfl, rfl⟩
  case round =>
    obtain ⟨k, m, hk, rfl, rfl, rfl⟩ := hrel
    by_cases hlt : k < 3
    · have y1 := HX.out k hlt
      have y2 := HY.out k hlt
      have b1 := LX.out k hlt
      have b2 := LY.out k hlt
      have b3 := HBD.out k hk
      have HS : Hid (far3 (xs.getD · 0) (ys.getD · 0) (k + 1) = max (far3 (xs.getD · 0) (ys.getD · 0) k) (max (xs.getD k 0 - ys.getD k 0) (ys.getD k 0 - xs.getD k 0))) := rfl
      simp only at b1 b2
      obtain ⟨z, hz⟩ : ∃ z, z = far3 (xs.getD · 0) (ys.getD · 0) k := ⟨_, rfl⟩
      obtain ⟨u, hu⟩ : ∃ u, u = xs.getD k 0 := ⟨_, rfl⟩
      obtain ⟨v, hv⟩ : ∃ v, v = ys.getD k 0 := ⟨_, rfl⟩
      rw [← hz, ← hu, ← hv] at HS
      rw [← hu] at y1 b1
      rw [← hv] at y2 b2
      rw [← hz] at b3 ⊢
      clear hz hu hv
      go_wp2_with fail
      go_quiet ((go_at_call 84; first | exact Calls.quiet_of ((sMax_any _ _ _).mono fun e w' ⟨he, hw⟩ => ⟨he, 0, hw.symm⟩) | exact quietAD' ((sMax_any _ _ _).mono fun e w' ⟨he, hw⟩ => ⟨he, 0, hw.symm⟩)))
      go_wp2_with fail
      go_roundw
      case rel => exact ⟨k + 1, _, by omega, by go_num, by rw [HS.out], rfl⟩
      case measure => simp [intOf]; omega
    · obtain rfl : k = 3 := by omega
      go_wp2_with fail
      go_ret
      exact ⟨rfl, m, rfl⟩
theorem run_max3 (w : World) (x y z : Int) : (Builtin.max_ #[2, 2, 2] 2 #[.int .i64 x, .int .i64 y, .int .i64 z]).run Try.prog w = .ok (.int .i64 (max (max x y) z)) w := by
  have h1 : (if y > x then y else x) = max x y := by split <;> omega
  have h2 : (if z > max x y then z else max x y) = max (max x y) z := by split <;> omega
  first
    | (simp [Builtin.max_, go_sem, h1, h2]; done)
    | (rw [← h2, ← h1]; rfl)
    | (rw [← h2, ← h1]; simp [Builtin.max_, go_sem]; split <;> split <;> simp_all)
theorem wrap_sub {u v : Int} (h1 : 0 ≤ u ∧ u ≤ 65535) (h2 : 0 ≤ v ∧ v ≤ 65535) : IntKind.i64.wrap (u - v) = u - v := IntWalk.i64_in _ (by omega)
set_option maxRecDepth 100000 in
set_option maxHeartbeats 2000000 in
theorem farthest_any (f g : Nat → Int) (w : World) (lf' : Lv3 f) (lg : Lv3 g) :
    Calls Try.prog 61 #[.agg #[.int .i64 (f 0), .int .i64 (f 1), .int .i64 (f 2)], .agg #[.int .i64 (g 0), .int .i64 (g 1), .int .i64 (g 2)]] w fun e w' => e = .returned (.int .i64 (far3 f g 3)) ∧ Below w.heap.size w w' := by
  obtain ⟨W0, hW0⟩ : ∃ W0, W0 = (w.alloc (.cells #[.int .i64 (f 0), .int .i64 (f 1), .int .i64 (f 2)] 75)).alloc (.cells #[.int .i64 (g 0), .int .i64 (g 1), .int .i64 (g 2)] 75) := ⟨_, rfl⟩
  have HX : Hid (∀ k, k < 3 → W0.cell? ⟨w.heap.size, k, none⟩ = some (.int .i64 (f k))) := fun k hk => by
    rw [hW0]; refine cell_later (blAlloc _ _) ?_
    match k, hk with
    | 0, _ => simp
    | 1, _ => simp
    | 2, _ => simp
  have HY : Hid (∀ k, k < 3 → W0.cell? ⟨w.heap.size + 1, k, none⟩ = some (.int .i64 (g k))) := fun k hk => by
    rw [hW0, newCell _ _ _ _ _ (by simp)]
    match k, hk with
    | 0, _ => rfl
    | 1, _ => rfl
    | 2, _ => rfl
  have T : Hid (Below w.heap.size w W0) := by show Below _ _ _; rw [hW0]; exact blThenAlloc (blAlloc _ _) _
  have LX := Lib.hid lf'
  have LY := Lib.hid lg
  have HBD := Lib.hid (far3_bd lf' lg)
  have HW := Lib.hid hW0
  clear lf' lg hW0
  go_enter Try.func61, Try.ntmps61
  go_wp2_with fail
  rw [← HW.out]
  clear HW
  go_loopw [5, 7] (fun q i wr => ∃ k m : Nat, k ≤ 3 ∧ i = .int .i64 k ∧ q = .int .i64 (far3 f g k) ∧ wr = W0.drewN m) (fun _ i _ => 3 - (intOf i).toNat)
  case atStart => exact ⟨0, 0, by omega, rfl, rfl, rfl⟩
  case round =>
    obtain ⟨k, m, hk, rfl, rfl, rfl⟩ := hrel
    by_cases hlt : k < 3
    · have y1 := HX.out k hlt
      have y2 := HY.out k hlt
      have b1 := LX.out k hlt
      have b2 := LY.out k hlt
      have b3 := HBD.out k hk
      have HS : Hid (far3 f g (k + 1) = max (far3 f g k) (max (f k - g k) (g k - f k))) := rfl
      obtain ⟨z, hz⟩ : ∃ z, z = far3 f g k := ⟨_, rfl⟩
      obtain ⟨u, hu⟩ : ∃ u, u = f k := ⟨_, rfl⟩
      obtain ⟨v, hv⟩ : ∃ v, v = g k := ⟨_, rfl⟩
      rw [← hz, ← hu, ← hv] at HS
      rw [← hu] at y1 b1
      rw [← hv] at y2 b2
      rw [← hz] at b3 ⊢
      clear hz hu hv
      have HW1 := Lib.hid (wrap_sub b1 b2)
      have HW2 := Lib.hid (wrap_sub b2 b1)
      have hmx := fun W x y z => run_max3 W x y z
      go_wp2_with fail
      go_quiet (fail)
      clear hmx
      go_wp2_with fail
      go_roundw
      case rel =>
        refine ⟨k + 1, _, by omega, by go_num, ?_, rfl⟩
        first
          | (rw [HS.out]; done)
          | (rw [HS.out]; congr 1; omega)
          | (rw [HS.out, HW1.out, HW2.out]; congr 1; omega)
      case measure => simp [intOf]; try omega
    · obtain rfl : k = 3 := by omega
      go_wp2_with fail
      go_ret
      exact ⟨rfl, T.out.trans (below_drewN _ _ _)⟩
end Go.Proofs.Ythplngcdldongaa
namespace Go.Proofs.Ythplngcdldongaa
set_option linter.unusedVariables false
set_option linter.unusedSimpArgs false

/-- number k of place t. -/
def cor (s t k : Nat) : Nat := if k = 0 then t / (s * s) else if k = 1 then t / s % s else t % s
/-- how many places further the next one along axis k stands. -/
def stq (s k : Nat) : Nat := if k = 0 then s * s else if k = 1 then s else 1
def rwf (rs : Rws) (t j : Nat) : Int := (rw_ rs t).getD j 0
/-- the first c pairs. -/
def spn (s : Nat) (rs : Rws) : Nat → Int
  | 0 => 0
  | c + 1 => if cor s (c / 3) (c % 3) + 1 < s then max (spn s rs c) (far3 (rwf rs (c / 3)) (rwf rs (c / 3 + stq s (c % 3))) 3) else spn s rs c
theorem spn_at (s : Nat) (rs : Rws) {t k : Nat} (hk : k < 3) : spn s rs (3 * t + (k + 1)) = if cor s t k + 1 < s then max (spn s rs (3 * t + k)) (far3 (rwf rs t) (rwf rs (t + stq s k)) 3) else spn s rs (3 * t + k) := by
  have h1 : (3 * t + k) / 3 = t := by omega
  have h2 : (3 * t + k) % 3 = k := by omega
  show spn s rs ((3 * t + k) + 1) = _
  simp only [spn]
  rw [h1, h2]
theorem cor_next {s t k : Nat} (hs : s = 2 ∨ s = 3 ∨ s = 4) (ht : t < s * s * s) (hk : k < 3) (h : cor s t k + 1 < s) : t + stq s k < s * s * s ∧ ∀ j, j < 3 → cor s (t + stq s k) j = if j = k then cor s t j + 1 else cor s t j := by
  have hkk : k = 0 ∨ k = 1 ∨ k = 2 := by omega
  rcases hs with rfl | rfl | rfl <;> rcases hkk with rfl | rfl | rfl <;> simp only [cor, stq, Nat.reduceMul, if_true, if_false, Nat.reduceEqDiff, reduceIte] at * <;>
    refine ⟨by omega, fun j hj => ?_⟩ <;> (have hjj : j = 0 ∨ j = 1 ∨ j = 2 := by omega) <;> rcases hjj with rfl | rfl | rfl <;> simp <;> omega
theorem cor_kt (s t : Nat) : kt s t = kp ((cor s t 0 : Nat) : Int) ((cor s t 1 : Nat) : Int) ((cor s t 2 : Nat) : Int) := rfl
theorem cor_lt {s t : Nat} (hs : s = 2 ∨ s = 3 ∨ s = 4) (ht : t < s * s * s) {k : Nat} (hk : k < 3) : cor s t k < s := by
  obtain ⟨a, b, c⟩ := pl_lt hs ht
  match k, hk with
  | 0, _ => exact a
  | 1, _ => exact b
  | 2, _ => exact c
theorem spn_bd {s : Nat} {rs : Rws} (hs : s = 2 ∨ s = 3 ∨ s = 4) (hr : ∀ t, t < s * s * s → Lv3 (rwf rs t)) : ∀ c, c ≤ 3 * (s * s * s) → 0 ≤ spn s rs c ∧ spn s rs c ≤ 65535 := by
  intro c
  induction c with
  | zero => intro _; simp [spn]
  | succ c ih =>
    intro hc
    have h1 := ih (by omega)
    simp only [spn]
    split
    · rename_i h
      have ht : c / 3 < s * s * s := by omega
      obtain ⟨h2, -⟩ := cor_next hs ht (Nat.mod_lt c (by omega)) h
      have := far3_bd (hr _ ht) (hr _ h2) 3 (Nat.le_refl _)
      omega
    · exact h1
end Go.Proofs.Ythplngcdldongaa
namespace Go.Proofs.Ythplngcdldongaa
open Go.RowKit Go.Maps
set_option linter.unusedVariables false
set_option linter.unusedSimpArgs false

/-- the node at place t. -/
theorem look_at {W : World} {B s : Nat} {rs : Rws} {D : DataW Unit} (hM : MapN W B s rs (s * s * s) D) {t : Nat} (ht : t < s * s * s) (hs : s = 2 ∨ s = 3 ∨ s = 4) :
    (Instr.lookup 71 (.map (some B)) (.agg #[.int .i64 ((cor s t 0 : Nat) : Int), .int .i64 ((cor s t 1 : Nat) : Int), .int .i64 ((cor s t 2 : Nat) : Int)]) false).run Try.prog W = .ok (.agg #[.int .i64 (rwf rs t 0), .int .i64 (rwf rs t 1), .int .i64 (rwf rs t 2)]) W := by
  have h0 := cor_lt hs ht (k := 0) (by omega)
  have h1 := cor_lt hs ht (k := 1) (by omega)
  have h2 := cor_lt hs ht (k := 2) (by omega)
  have hkey : keyOf Try.prog 82 (.agg #[.int .i64 ((cor s t 0 : Nat) : Int), .int .i64 ((cor s t 1 : Nat) : Int), .int .i64 ((cor s t 2 : Nat) : Int)]) = some (kt s t) := by
    rw [cor_kt]; exact kp_nat _ _ _ (by omega) (by omega) (by omega)
  obtain ⟨v, ps, hrun, hv⟩ := hM.own.lookup keyP Try.underlying71 (zeroLights W) (lightElem_mk 0 0 0) hkey
  rw [hrun]
  rw [hM.at_ _ ht] at hv
  obtain ⟨a, b, c, rfl, he⟩ := lightElem_form hv
  unfold rowDat at he
  simp only [DataW.agg.injEq, List.cons.injEq, DataW.lit.injEq, Lit.int.injEq, true_and, and_true] at he
  unfold rwf
  rw [he.1, he.2.1, he.2.2]
def nxt (s t k j : Nat) : Nat := if j = k then cor s t j + 1 else cor s t j
/-- is there a place behind? -/
theorem has_next {W : World} {B s : Nat} {rs : Rws} {D : DataW Unit} (hM : MapN W B s rs (s * s * s) D) {t k : Nat} (ht : t < s * s * s) (hk : k < 3) (hs : s = 2 ∨ s = 3 ∨ s = 4) :
    Maps.has D (kp ((nxt s t k 0 : Nat) : Int) ((nxt s t k 1 : Nat) : Int) ((nxt s t k 2 : Nat) : Int)) = decide (cor s t k + 1 < s) ∧
    (cor s t k + 1 < s → ∀ z a0 a1 a2, D.atKey (kp ((nxt s t k 0 : Nat) : Int) ((nxt s t k 1 : Nat) : Int) ((nxt s t k 2 : Nat) : Int)) z = .agg [.lit (.int .i64 a0), .lit (.int .i64 a1), .lit (.int .i64 a2)] → a0 = rwf rs (t + stq s k) 0 ∧ a1 = rwf rs (t + stq s k) 1 ∧ a2 = rwf rs (t + stq s k) 2) := by
  have c0 := cor_lt hs ht (k := 0) (by omega)
  have c1 := cor_lt hs ht (k := 1) (by omega)
  have c2 := cor_lt hs ht (k := 2) (by omega)
  have nb : ∀ j, j < 3 → nxt s t k j ≤ 1000 := fun j hj => by
    have := cor_lt hs ht hj
    unfold nxt; split <;> omega
  have W0 : (Lit.int .i64 ((nxt s t k 0 : Nat) : Int)).wf = true := wfN (nb 0 (by omega))
  have W1 : (Lit.int .i64 ((nxt s t k 1 : Nat) : Int)).wf = true := wfN (nb 1 (by omega))
  have W2 : (Lit.int .i64 ((nxt s t k 2 : Nat) : Int)).wf = true := wfN (nb 2 (by omega))
  by_cases hc : cor s t k + 1 < s
  · obtain ⟨h1, h2⟩ := cor_next hs ht hk hc
    have e : ∀ j, j < 3 → nxt s t k j = cor s (t + stq s k) j := fun j hj => (h2 j hj).symm
    have hkt : kp ((nxt s t k 0 : Nat) : Int) ((nxt s t k 1 : Nat) : Int) ((nxt s t k 2 : Nat) : Int) = kt s (t + stq s k) := by
      rw [cor_kt, e 0 (by omega), e 1 (by omega), e 2 (by omega)]
    refine ⟨?_, fun _ z a0 a1 a2 ha => ?_⟩
    · rw [decide_eq_true hc]
      exact (hM.has _ _ _ W0 W1 W2).2 ⟨t + stq s k, h1, by rw [e 0 (by omega)]; rfl, by rw [e 1 (by omega)]; rfl, by rw [e 2 (by omega)]; rfl⟩
    · rw [hkt, hM.at_ _ h1] at ha
      unfold rowDat at ha
      simp only [DataW.agg.injEq, List.cons.injEq, DataW.lit.injEq, Lit.int.injEq, true_and, and_true] at ha
      unfold rwf
      exact ⟨ha.1.symm, ha.2.1.symm, ha.2.2.symm⟩
  · refine ⟨?_, fun h => absurd h hc⟩
    rw [decide_eq_false hc]
    rcases Bool.eq_false_or_eq_true (Maps.has D (kp ((nxt s t k 0 : Nat) : Int) ((nxt s t k 1 : Nat) : Int) ((nxt s t k 2 : Nat) : Int))) with r | r
    · exfalso
      obtain ⟨u, u1, u2, u3, u4⟩ := (hM.has _ _ _ W0 W1 W2).1 r
      have d0 := cor_lt hs u1 (k := 0) (by omega)
      have d1 := cor_lt hs u1 (k := 1) (by omega)
      have d2 := cor_lt hs u1 (k := 2) (by omega)
      have e0 : cor s u 0 = nxt s t k 0 := Int.ofNat.inj u2
      have e1 : cor s u 1 = nxt s t k 1 := Int.ofNat.inj u3
      have e2 : cor s u 2 = nxt s t k 2 := Int.ofNat.inj u4
      have hkk : k = 0 ∨ k = 1 ∨ k = 2 := by omega
      rcases hkk with rfl | rfl | rfl <;> simp only [nxt, if_true] at e0 e1 e2 <;> omega
    · exact r
end Go.Proofs.Ythplngcdldongaa
namespace Go.Proofs.Ythplngcdldongaa
open Go.RowKit Go.Maps
set_option linter.unusedVariables false
set_option linter.unusedSimpArgs false

theorem blc {w W : World} {c : Nat} (h : Below w.heap.size w W) (hc : w.heap.size ≤ c) (i : Nat) (v : Value) : Below w.heap.size w (W.setCell ⟨c, i, none⟩ v) := h.setCell (p := ⟨c, i, none⟩) hc v
def spV (sd : Int) (rs : Rws) : Int := if gf sd rs = 0 then spn sd.toNat rs (3 * (sd.toNat * sd.toNat * sd.toNat)) else 0
theorem sp_f {sd : Int} {rs : Rws} (h : gf sd rs ≠ 0) : spV sd rs = 0 := by unfold spV; rw [if_neg h]
theorem sp_y {s : Nat} {rs : Rws} (h : gf (s : Int) rs = 0) : spV (s : Int) rs = spn s rs (3 * (s * s * s)) := by unfold spV; rw [if_pos h]; simp
def SpAns (w : World) (sd : Int) (rs : Rws) (e : Ending) (w' : World) : Prop := e = .returned (.agg #[.int .i64 (gf sd rs), .int .i64 (spV sd rs)]) ∧ Below w.heap.size w w'
theorem run_max2 (w : World) (x y : Int) : (Builtin.max_ #[2, 2] 2 #[.int .i64 x, .int .i64 y]).run Try.prog w = .ok (.int .i64 (max x y)) w := by
  have h1 : (if y > x then y else x) = max x y := by split <;> omega
  first
    | (simp [Builtin.max_, go_sem, h1]; done)
    | (rw [← h1]; rfl)
    | (rw [← h1]; simp [Builtin.max_, go_sem]; split <;> simp_all)
set_option maxRecDepth 100000 in
set_option maxHeartbeats 4000000 in
theorem SpanOf_f (A : Option Addr) (n c : Nat) (sd : Int) (rs : Rws) (bs : List Nat) (w : World) (h : Hd w (rowsD rs) (.slice A n c) bs) (h0 : gf sd rs ≠ 0) :
    Calls Try.prog 17 #[.agg #[.int .i64 sd, .slice A n c]] w (SpAns w sd rs) := by
  have HV := Lib.hid (sp_f h0)
  obtain ⟨f, hfe⟩ : ∃ f, gf sd rs = f := ⟨_, rfl⟩
  have CN : Hid (∀ W, Hd W (rowsD rs) (.slice A n c) bs → Calls Try.prog 44 #[.agg #[.int .i64 sd, .slice A n c]] W (NdF W f)) := fun W hW => (nodesOf_any A n c sd rs bs W hW).mono fun e w' hh => by
    obtain ⟨m, he, hb⟩ := hh; exact ⟨m, by rw [he, hfe], hb⟩
  have HF := Lib.hid hfe
  rw [hfe] at h0
  have hqn : (f == 0) = false := by simpa using h0
  have H := Lib.hid h
  clear h hfe
  go_enter Try.func17, Try.ntmps17
  go_wp2_with fail
  refine (CN.out _ ((H.out.alloc _).alloc _)).mono ?_
  rintro e w1 ⟨q, rfl, hb⟩
  have R1 := Lib.hid ((Bx.new (w.alloc (.cells #[.int .i64 sd, .slice A n c] 26)) #[.int .i64 0, .int .i64 0] 42 (b := w.heap.size + 1) (by simp)).bel hb)
  have T := Lib.hid (blThen (blThenAlloc (blAlloc w _) _) hb)
  clear hb CN H
  have r0 := R1.out.c 0 rfl
  have r1 := R1.out.c 1 rfl
  have z0 := R1.out.f 0
  have z1 := R1.out.f 1
  go_wp2_with fail
  have KK := (R1.out.set 0 (.int .i64 f)).set 1 (.int .i64 0)
  have k0 := KK.c 0 rfl
  have k1 := KK.c 1 rfl
  clear KK
  refine bodyPost_ret (v := .agg #[.int .i64 f, .int .i64 0]) (by simp [results, Try.results17, go_sem, k0, k1]) rfl ⟨by rw [HF.out, HV.out], ?_⟩
  exact blc (blc T.out (c := w.heap.size + 1) (by omega) 0 _) (c := w.heap.size + 1) (by omega) 1 _
set_option maxRecDepth 100000 in
set_option maxHeartbeats 8000000 in
theorem SpanOf_z (A : Option Addr) (n c s : Nat) (rs : Rws) (bs : List Nat) (w : World) (h : Hd w (rowsD rs) (.slice A n c) bs) (h0 : gf (s : Int) rs = 0) :
    Calls Try.prog 17 #[.agg #[.int .i64 (s : Int), .slice A n c]] w (SpAns w (s : Int) rs) := by
  obtain ⟨hs, hlen, hrow⟩ := gf_zero h0
  have h3 : s = 2 ∨ s = 3 ∨ s = 4 := by rcases side_cases hs with e | e | e <;> omega
  have hNI : ((s * s * s : Nat) : Int) = (s : Int) * s * s := by simp
  have hNN : rs.length = s * s * s := by rw [← hNI] at hlen; omega
  have hlv : ∀ t, t < s * s * s → Lv3 (rwf rs t) := fun t ht k hk => inB_iff.1 ((lf_zero (hrow t (by rw [hNN]; exact ht))).2 k hk)
  have HLV := Lib.hid hlv
  have HBD : Hid (∀ c, c ≤ 3 * (s * s * s) → 0 ≤ spn s rs c ∧ spn s rs c ≤ 65535) := spn_bd h3 hlv
  have CN := Lib.hid (fun W (hW : Hd W (rowsD rs) (.slice A n c) bs) => nodesOf_ok A n c s rs bs W hW h0)
  have HV := Lib.hid (sp_y h0)
  have HG := Lib.hid h0
  have H3 := Lib.hid h3
  have H := Lib.hid h
  have hN64 : s * s * s ≤ 64 := by rcases h3 with rfl | rfl | rfl <;> simp
  have hN0 : 0 < s * s * s := by rcases h3 with rfl | rfl | rfl <;> simp
  clear h hs hlen hrow h3 hNI hNN h0 hlv
  go_enter Try.func17, Try.ntmps17
  go_wp2_with fail
  refine (CN.out _ ((H.out.alloc _).alloc _)).mono ?_
  rintro e w1 ⟨B, D, rfl, hM, hb⟩
  have G1 := Lib.hid (((Bx.new w #[.int .i64 (s : Int), .slice A n c] 26 rfl).alloc (.cells #[.int .i64 0, .int .i64 0] 42)).bel hb)
  have R1 := Lib.hid ((Bx.new (w.alloc (.cells #[.int .i64 (s : Int), .slice A n c] 26)) #[.int .i64 0, .int .i64 0] 42 (b := w.heap.size + 1) (by simp)).bel hb)
  have T1 := Lib.hid (blThen (blThenAlloc (blAlloc w _) _) hb)
  have HM := Lib.hid hM
  clear hb hM CN H
  have x0 := G1.out.c 0 rfl
  go_wp2_with fail
  refine (gridPlaces_any s _ H3.out).mono ?_
  rintro e w2 ⟨v, rfl, ho, hb⟩
  obtain ⟨g, o, cp, rfl, hbg, hgl, hc1, hc2, hcells⟩ := ho.look hN0
  have R2 := Lib.hid (R1.out.bel hb)
  have T2 := Lib.hid (blThen T1.out hb)
  have HM2 := Lib.hid (HM.out.kept hb)
  have HC := Lib.hid hcells
  have hC2 := Lib.hid hc2
  obtain ⟨N, hN⟩ : ∃ N, N = s * s * s := ⟨_, rfl⟩
  have HN := Lib.hid hN
  rw [← hN] at HC hN64 hN0 hc1 ⊢
  have hcp : N ≤ 9223372036854775807 := by omega
  clear ho hb hcells hbg R1 T1 HM G1 x0 hN hc2
  go_wp2_with fail
  go_loopw [5, 24] (fun m i wr => ∃ t : Nat, t ≤ N ∧ i = .int .i64 t ∧ m = .int .i64 (spn s rs (3 * t)) ∧ Hid (Below w2.heap.size w2 wr)) (fun _ i _ => N - (intOf i).toNat)
  case atStart => exact ⟨0, by omega, rfl, rfl, Below.refl _ _⟩
  case round =>
    obtain ⟨t, ht, rfl, rfl, HB⟩ := hrel
    by_cases hlt : t < N
    · have htN : Hid (t < s * s * s) := by show _ < _; rw [← HN.out]; exact hlt
      obtain ⟨c0, c1, c2⟩ := HC.out t hlt
      have y0 : wr.cell? ⟨g, o + t * 3, none⟩ = some (.int .i64 ((cor s t 0 : Nat) : Int)) := cell_later HB.out c0
      have y1 : wr.cell? ⟨g, o + t * 3 + 1, none⟩ = some (.int .i64 ((cor s t 1 : Nat) : Int)) := cell_later HB.out c1
      have y2 : wr.cell? ⟨g, o + t * 3 + 2, none⟩ = some (.int .i64 ((cor s t 2 : Nat) : Int)) := cell_later HB.out c2
      clear c0 c1 c2
      have lg := cell_lt y0
      obtain ⟨W3, hW3⟩ : ∃ W, W = wr.alloc (.cells #[.int .i64 ((cor s t 0 : Nat) : Int), .int .i64 ((cor s t 1 : Nat) : Int), .int .i64 ((cor s t 2 : Nat) : Int)] 82) := ⟨_, rfl⟩
      have P3 : Hid (Bx W3 wr.heap.size [.int .i64 ((cor s t 0 : Nat) : Int), .int .i64 ((cor s t 1 : Nat) : Int), .int .i64 ((cor s t 2 : Nat) : Int)]) := by show Bx _ _ _; rw [hW3]; exact Bx.new _ _ _ rfl
      have B3 : Hid (Below w2.heap.size w2 W3) := by show Below _ _ _; rw [hW3]; exact blThenAlloc HB.out _
      have b0 := HBD.out (3 * t) (by rw [← HN.out]; omega)
      go_wp2_with fail
      rw [← hW3]
      obtain ⟨pb, hpb⟩ : ∃ x, x = wr.heap.size := ⟨_, rfl⟩
      rw [← hpb] at P3 ⊢
      clear hW3 y0 y1 y2 hpb
      go_loopw [5, 28] (fun m i wq => ∃ k : Nat, k ≤ 3 ∧ i = .int .i64 k ∧ m = .int .i64 (spn s rs (3 * t + k)) ∧ Hid (Bx wq pb [.int .i64 ((cor s t 0 : Nat) : Int), .int .i64 ((cor s t 1 : Nat) : Int), .int .i64 ((cor s t 2 : Nat) : Int)]) ∧ Hid (Below w2.heap.size w2 wq)) (fun _ i _ => 3 - (intOf i).toNat)
      case atStart => exact ⟨0, by omega, rfl, rfl, P3, B3⟩
      case round =>
        obtain ⟨k, hk, rfl, rfl, HP, HQ⟩ := hrel
        by_cases hkl : k < 3
        · have HNX := Lib.hid (has_next (HM2.out.kept HQ.out) htN.out hkl H3.out)
          have hcb : ∀ j, j < 3 → 0 ≤ ((cor s t j : Nat) : Int) ∧ ((cor s t j : Nat) : Int) ≤ 1000 := fun j hj => by
            have := cor_lt H3.out htN.out hj; have := H3.out; omega
          have HX : Hid (∀ j, (if j = k then ((cor s t j : Nat) : Int) + 1 else ((cor s t j : Nat) : Int)) = ((nxt s t k j : Nat) : Int)) := fun j => by unfold nxt; split <;> simp
          have HKEY : Hid (keyOf Try.prog 82 (.agg #[.int .i64 ((nxt s t k 0 : Nat) : Int), .int .i64 ((nxt s t k 1 : Nat) : Int), .int .i64 ((nxt s t k 2 : Nat) : Int)]) = some (kp ((nxt s t k 0 : Nat) : Int) ((nxt s t k 1 : Nat) : Int) ((nxt s t k 2 : Nat) : Int))) := by
            have nb : ∀ j, j < 3 → nxt s t k j ≤ 1000 := fun j hj => by
              have := cor_lt H3.out htN.out hj; have := H3.out
              unfold nxt; split <;> omega
            exact kp_nat _ _ _ (nb 0 (by omega)) (nb 1 (by omega)) (nb 2 (by omega))
          have HLK : Hid (∀ W, Below w2.heap.size w2 W → (Instr.lookup 71 (.map (some B)) (.agg #[.int .i64 ((cor s t 0 : Nat) : Int), .int .i64 ((cor s t 1 : Nat) : Int), .int .i64 ((cor s t 2 : Nat) : Int)]) false).run Try.prog W = .ok (.agg #[.int .i64 (rwf rs t 0), .int .i64 (rwf rs t 1), .int .i64 (rwf rs t 2)]) W) := fun W hW => look_at (HM2.out.kept hW) htN.out H3.out
          have p0 := HP.out.c 0 rfl
          have p1 := HP.out.c 1 rfl
          have p2 := HP.out.c 2 rfl
          have HCB := Lib.hid hcb
          clear hcb
          go_wp2_with fail
          refine (next_b _ _ _ k _ hkl (HCB.out 0 (by omega)) (HCB.out 1 (by omega)) (HCB.out 2 (by omega))).mono ?_
          rintro e w4 ⟨rfl, hb⟩
          rw [HX.out 0, HX.out 1, HX.out 2]
          have HP4 := Lib.hid (HP.out.bel hb)
          have HQ4 := Lib.hid (blThen HQ.out hb)
          have HM4 := Lib.hid (HM2.out.kept HQ4.out)
          clear hb HP HQ p0 p1 p2 HX HCB
          have p0 := HP4.out.c 0 rfl
          have p1 := HP4.out.c 1 rfl
          have p2 := HP4.out.c 2 rfl
          have lp := HP4.out.lt
          by_cases hc : cor s t k + 1 < s
          · have hh := HNX.out.1
            rw [decide_eq_true hc] at hh
            have HC1 := Lib.hid hc
            have HAT := Lib.hid (HNX.out.2 hc)
            have HSP : Hid (spn s rs (3 * t + (k + 1)) = max (spn s rs (3 * t + k)) (far3 (rwf rs t) (rwf rs (t + stq s k)) 3)) := by show _ = _; rw [spn_at s rs hkl, if_pos hc]
            have HTN := Lib.hid (cor_next H3.out htN.out hkl hc).1
            clear hc
            go_wp2_with (at_lookup; refine wpList_lookup_light _ rfl _ _ rfl B (s * s * s) D rfl HM4.out.own _ _ rfl HKEY.out ?_; intro a0 a1 a2 hat; rw [hh])
            obtain ⟨rfl, rfl, rfl⟩ := HAT.out _ _ _ _ hat
            clear hat hh HAT
            obtain ⟨W5, hW5⟩ : ∃ W, W = w4.alloc (.cells #[.int .i64 (rwf rs (t + stq s k) 0), .int .i64 (rwf rs (t + stq s k) 1), .int .i64 (rwf rs (t + stq s k) 2)] 75) := ⟨_, rfl⟩
            have N5 : Hid (Bx W5 w4.heap.size [.int .i64 (rwf rs (t + stq s k) 0), .int .i64 (rwf rs (t + stq s k) 1), .int .i64 (rwf rs (t + stq s k) 2)]) := by show Bx _ _ _; rw [hW5]; exact Bx.new _ _ _ rfl
            have P5 : Hid (Bx W5 pb [.int .i64 ((cor s t 0 : Nat) : Int), .int .i64 ((cor s t 1 : Nat) : Int), .int .i64 ((cor s t 2 : Nat) : Int)]) := by show Bx _ _ _; rw [hW5]; exact HP4.out.alloc _
            have B5 : Hid (Below w2.heap.size w2 W5) := by show Below _ _ _; rw [hW5]; exact blThenAlloc HQ4.out _
            go_wp2_with fail
            rw [← hW5]
            obtain ⟨nb, hnb⟩ : ∃ x, x = w4.heap.size := ⟨_, rfl⟩
            rw [← hnb] at N5 ⊢
            clear hW5 hnb p0 p1 p2 lp HP4 HQ4 HM4
            have p0 := P5.out.c 0 rfl
            have p1 := P5.out.c 1 rfl
            have p2 := P5.out.c 2 rfl
            have q0 := N5.out.c 0 rfl
            have q1 := N5.out.c 1 rfl
            have q2 := N5.out.c 2 rfl
            have hmx := fun W x y => run_max2 W x y
            go_region_held3 (fun w' => w'.cell? ⟨pb, 0, none⟩ = some (.int .i64 ((cor s t 0 : Nat) : Int)) ∧ w'.cell? ⟨pb, 1, none⟩ = some (.int .i64 ((cor s t 1 : Nat) : Int)) ∧ w'.cell? ⟨pb, 2, none⟩ = some (.int .i64 ((cor s t 2 : Nat) : Int)) ∧ w'.cell? ⟨nb, 0, none⟩ = some (.int .i64 (rwf rs (t + stq s k) 0)) ∧ w'.cell? ⟨nb, 1, none⟩ = some (.int .i64 (rwf rs (t + stq s k) 1)) ∧ w'.cell? ⟨nb, 2, none⟩ = some (.int .i64 (rwf rs (t + stq s k) 2)) ∧ Below W5.heap.size W5 w' ∧ (Instr.lookup 71 (.map (some B)) (.agg #[.int .i64 ((cor s t 0 : Nat) : Int), .int .i64 ((cor s t 1 : Nat) : Int), .int .i64 ((cor s t 2 : Nat) : Int)]) false).run Try.prog w' = .ok (.agg #[.int .i64 (rwf rs t 0), .int .i64 (rwf rs t 1), .int .i64 (rwf rs t 2)]) w')
              (first | (go_split_ands; exact ⟨cell_later hb (by assumption), cell_later hb (by assumption), cell_later hb (by assumption), cell_later hb (by assumption), cell_later hb (by assumption), cell_later hb (by assumption), blThen (by assumption) hb, HLK.out _ (blThen B5.out (blThen (by assumption) hb))⟩) | exact ⟨p0, p1, p2, q0, q1, q2, (Below.refl _ _).drew, HLK.out _ B5.out.drew⟩ | assumption | (go_split_ands; exact ⟨by assumption, by assumption, by assumption, by assumption, by assumption, by assumption, by assumption, by assumption⟩))
              (first | (go_at_call 61; refine (farthest_any (rwf rs t) (rwf rs (t + stq s k)) _ (HLV.out t htN.out) (HLV.out _ HTN.out)).mono ?_; rintro e w' ⟨rfl, hb⟩))
            go_split_ands
            rename World => W6
            rename Below W5.heap.size W5 W6 => hB6
            have HP6 := Lib.hid (P5.out.bel hB6)
            have HB6 := Lib.hid (blThen B5.out hB6)
            clear hmx p0 p1 p2 q0 q1 q2
            go_wp2_with fail
            go_roundw
            case rel => exact ⟨k + 1, by omega, by go_num, by rw [HSP.out], HP6, HB6⟩
            case measure => simp [intOf]; omega
          · have hh := HNX.out.1
            rw [decide_eq_false hc] at hh
            have HSP : Hid (spn s rs (3 * t + (k + 1)) = spn s rs (3 * t + k)) := by show _ = _; rw [spn_at s rs hkl, if_neg hc]
            go_wp2_with (at_lookup; refine wpList_lookup_light _ rfl _ _ rfl B (s * s * s) D rfl HM4.out.own _ _ rfl HKEY.out ?_; intro a0 a1 a2 hat; rw [hh])
            clear hat hh
            go_wp2_with fail
            go_roundw
            case rel => exact ⟨k + 1, by omega, by go_num, by rw [HSP.out], HP4.out.alloc _, blThenAlloc HQ4.out _⟩
            case measure => simp [intOf]; omega
        · obtain rfl : k = 3 := by omega
          go_wp2_with fail
          go_roundw
          case rel => exact ⟨t + 1, by omega, by go_num, by rw [show 3 * t + 3 = 3 * (t + 1) by omega], HQ⟩
          case measure => simp [intOf]; omega
    · obtain rfl : t = N := by omega
      have R3 := Lib.hid (R2.out.bel HB.out)
      have r0 := R3.out.c 0 rfl
      have r1 := R3.out.c 1 rfl
      have z0 := R3.out.f 0
      have z1 := R3.out.f 1
      have l3 := R3.out.lt
      obtain ⟨v, hv⟩ : ∃ v, v = spn s rs (3 * t) := ⟨_, rfl⟩
      have HVV := Lib.hid hv
      rw [← hv]
      clear hv
      go_wp2_with fail
      have KK := (R3.out.set 0 (.int .i64 0)).set 1 (.int .i64 v)
      have k0 := KK.c 0 rfl
      have k1 := KK.c 1 rfl
      clear KK
      refine bodyPost_ret (v := .agg #[.int .i64 0, .int .i64 v]) (by simp [results, Try.results17, go_sem, k0, k1]) rfl ⟨by rw [HG.out, HV.out, HVV.out, HN.out], ?_⟩
      exact blc (blc (blThen T2.out HB.out) (c := w.heap.size + 1) (by omega) 0 _) (c := w.heap.size + 1) (by omega) 1 _
end Go.Proofs.Ythplngcdldongaa
namespace Go.Proofs.Ythplngcdldongaa
open Go.RowKit Go.Maps
set_option linter.unusedVariables false
set_option linter.unusedSimpArgs false

theorem SpanOf_any (A : Option Addr) (n c : Nat) (sd : Int) (rs : Rws) (bs : List Nat) (w : World) (h : Hd w (rowsD rs) (.slice A n c) bs) :
    Calls Try.prog 17 #[.agg #[.int .i64 sd, .slice A n c]] w (SpAns w sd rs) := by
  by_cases h0 : gf sd rs = 0
  · obtain ⟨s, rfl⟩ : ∃ s : Nat, sd = s := ⟨sd.toNat, by have := inB_iff.1 (gf_zero h0).1; omega⟩
    exact SpanOf_z A n c s rs bs w h h0
  · exact SpanOf_f A n c sd rs bs w h h0
theorem cor_div {s t k : Nat} (hs : s = 2 ∨ s = 3 ∨ s = 4) (ht : t < s * s * s) (hk : k < 3) : t / stq s k % s = cor s t k := by
  have hkk : k = 0 ∨ k = 1 ∨ k = 2 := by omega
  rcases hs with rfl | rfl | rfl <;> rcases hkk with rfl | rfl | rfl <;> simp [cor, stq] <;> omega
theorem stq_bd {s k : Nat} (hs : s = 2 ∨ s = 3 ∨ s = 4) : 1 ≤ stq s k ∧ stq s k ≤ 16 := by
  unfold stq
  rcases hs with rfl | rfl | rfl <;> (split <;> (try split) <;> simp)
set_option maxRecDepth 100000 in
set_option maxHeartbeats 8000000 in
theorem sSpan5_any (g oq : Nat) (A : Option Addr) (n c s : Nat) (rs : Rws) (bs : List Nat) (w : World) (h : Hd w (rowsD rs) (.slice A n c) bs) (hg0 : w.cell? ⟨g, oq, none⟩ = some (.int .i64 (s : Int))) (hg1 : w.cell? ⟨g, oq + 1, none⟩ = some (.slice A n c)) (h0 : gf (s : Int) rs = 0) :
    Calls Try.prog 62 #[.pointer (some ⟨g, oq, none⟩)] w fun e w' => e = .returned (.int .i64 (spn s rs (3 * (s * s * s)))) ∧ Below w.heap.size w w' := by
  obtain ⟨hs, hlen, hrow⟩ := gf_zero h0
  have h3 : s = 2 ∨ s = 3 ∨ s = 4 := by rcases side_cases hs with e | e | e <;> omega
  have hNI : ((s * s * s : Nat) : Int) = (s : Int) * s * s := by simp
  have hNN : rs.length = s * s * s := by rw [← hNI] at hlen; omega
  have hlv : ∀ t, t < s * s * s → Lv3 (rwf rs t) := fun t ht k hk => inB_iff.1 ((lf_zero (hrow t (by rw [hNN]; exact ht))).2 k hk)
  have hl3 : ∀ t, t < s * s * s → (rw_ rs t).length = 3 := fun t ht => (lf_zero (hrow t (by rw [hNN]; exact ht))).1
  have HLV := Lib.hid hlv
  have HL3 := Lib.hid hl3
  have HBD : Hid (∀ c, c ≤ 3 * (s * s * s) → 0 ≤ spn s rs c ∧ spn s rs c ≤ 65535) := spn_bd h3 hlv
  have H3 := Lib.hid h3
  have H := Lib.hid h
  have hn : n = s * s * s := by rw [← h.rows.1, hNN]
  have HN := Lib.hid hn
  have hN64 : n ≤ 64 := by rw [hn]; rcases h3 with rfl | rfl | rfl <;> simp
  have hs1 : 2 ≤ s ∧ s ≤ 4 := by omega
  have hcc := h.caps
  have hsq : IntKind.i64.wrap ((s : Int) * (s : Int)) = ((s * s : Nat) : Int) := by
    rcases h3 with rfl | rfl | rfl <;> decide
  have lg := cell_lt hg0
  clear h hs hlen hrow h3 hNI hNN h0 hlv hl3 hn
  go_enter Try.func62, Try.ntmps62
  go_wp2_with fail
  go_region
  go_wp2_with fail
  obtain ⟨W1, hW1⟩ : ∃ W, W = (w.alloc (.cells #[.int .i64 ((s : Int) * (s : Int)), .int .i64 (s : Int), .int .i64 1] 2)).drew := ⟨_, rfl⟩
  have Q1 : Hid (∀ k, k < 3 → W1.cell? ⟨w.heap.size, k, none⟩ = some (.int .i64 ((stq s k : Nat) : Int))) := fun k hk => by
    have b : Bx W1 w.heap.size [.int .i64 ((s : Int) * (s : Int)), .int .i64 (s : Int), .int .i64 1] := by rw [hW1]; exact (Bx.new _ _ _ rfl).drewN 1
    match k, hk with
    | 0, _ => have := b.c 0 rfl; simpa [stq] using this
    | 1, _ => have := b.c 1 rfl; simpa [stq] using this
    | 2, _ => have := b.c 2 rfl; simpa [stq] using this
  have T1 : Hid (Below w.heap.size w W1) := by show Below _ _ _; rw [hW1]; exact (blAlloc _ _).drew
  have x0 := cell_later T1.out hg0
  have x1 := cell_later T1.out hg1
  rw [← hW1]
  clear hW1 hg0 hg1 hsq
  go_loopw [3, 5] (fun m i wr => ∃ t q : Nat, t ≤ n ∧ i = .int .i64 t ∧ m = .int .i64 (spn s rs (3 * t)) ∧ wr = W1.drewN q) (fun _ i _ => n - (intOf i).toNat)
  case atStart => exact ⟨0, 0, by omega, rfl, rfl, rfl⟩
  case round =>
    obtain ⟨t, q, ht, rfl, rfl, rfl⟩ := hrel
    by_cases hlt : t < n
    · have htN : Hid (t < s * s * s) := by show _ < _; rw [← HN.out]; exact hlt
      go_wp2_with fail
      (try simp only [show decide ((t : Int) < (n : Int)) = true from decide_eq_true (by omega)])
      go_loopw [3, 6] (fun m i wr => ∃ k q : Nat, k ≤ 3 ∧ i = .int .i64 k ∧ m = .int .i64 (spn s rs (3 * t + k)) ∧ wr = W1.drewN q) (fun _ i _ => 3 - (intOf i).toNat)
      case atStart => exact ⟨0, _, by omega, rfl, rfl, rfl⟩
      case round =>
        obtain ⟨k, q, hk, rfl, rfl, rfl⟩ := hrel
        by_cases hkl : k < 3
        · have xq := Q1.out k hkl
          have hqb := stq_bd (k := k) H3.out
          obtain ⟨m, hm⟩ : ∃ m, m = spn s rs (3 * t + k) := ⟨_, rfl⟩
          rw [← hm]
          obtain ⟨Q, hQ⟩ : ∃ Q, Q = stq s k := ⟨_, rfl⟩
          rw [← hQ] at xq hqb
          have HQ := Lib.hid hQ
          have HM := Lib.hid hm
          have hq0 : ((Q : Int) == 0) = false := by simp; omega
          have hs0 : ((s : Int) == 0) = false := by simp; omega
          have wd : IntKind.i64.wrap ((s : Int) - 1) = (s : Int) - 1 := IntWalk.i64_in _ (by omega)
          obtain ⟨E, hE⟩ : ∃ E, E = t / Q := ⟨_, rfl⟩
          obtain ⟨F, hF⟩ : ∃ F, F = E % s := ⟨_, rfl⟩
          have hdv : wrap64 ((t : Int) / (Q : Int)) = (E : Int) := by
            have e : (t : Int) / (Q : Int) = ((t / Q : Nat) : Int) := rfl
            have hle : t / Q ≤ t := Nat.div_le_self _ _
            rw [e, hE]
            unfold wrap64
            generalize t / Q = y at *
            omega
          have hmd : ((E : Int)).tmod (s : Int) = (F : Int) := by rw [hF]; rfl
          have hFc : F = cor s t k := by rw [hF, hE, hQ]; exact cor_div H3.out htN.out hkl
          have HFC := Lib.hid hFc
          clear hQ hm hE hF hFc
          by_cases hc : F + 1 < s
          · have hd : decide ((F : Int) < (s : Int) - 1) = true := decide_eq_true (by omega)
            have hcor : cor s t k + 1 < s := by rw [← HFC.out]; exact hc
            have hnx := (cor_next H3.out htN.out hkl hcor).1
            obtain ⟨U, hU⟩ : ∃ U, U = t + Q := ⟨_, rfl⟩
            have hUs : U = t + stq s k := by rw [hU, HQ.out]
            have hUN : U < n := by rw [hUs, HN.out]; exact hnx
            have HSP : Hid (spn s rs (3 * t + (k + 1)) = max m (far3 (rwf rs t) (rwf rs U) 3)) := by show _ = _; rw [spn_at s rs hkl, if_pos hcor, hUs, HM.out]
            have wi : IntKind.i64.wrap ((t : Int) + (Q : Int)) = (U : Int) := by rw [IntWalk.i64_in _ (by omega), hU]; simp
            obtain ⟨b, o, B1, L1, C1, g1, eA, y1, y3, -⟩ := H.out.row hlt
            obtain ⟨b2, o2, B2, L2, C2, g2, eB, y4, y6, -⟩ := H.out.row hUN
            subst eA
            injection eB with eB
            injection eB with eB1 eB2
            subst eB1 eB2
            obtain rfl : L1 = 3 := by rw [← y3.rd.1, HL3.out _ htN.out]
            obtain rfl : L2 = 3 := by rw [← y6.rd.1, HL3.out _ (by rw [← HN.out]; exact hUN)]
            have R1 := Lib.hid y3.rd
            have R2 := Lib.hid y6.rd
            have CF : Hid (∀ W, Below w.heap.size w W → Calls Try.prog 94 #[.slice B1 3 C1, .slice B2 3 C2] W fun e w' => e = .returned (.int .i64 (far3 (rwf rs t) (rwf rs U) 3)) ∧ ∃ m, w' = W.drewN m) := fun W hW => sFar5_any B1 B2 C1 C2 (rw_ rs t) (rw_ rs U) W (R1.out.below hW) (R2.out.below hW) (HLV.out t htN.out) (HLV.out U (by rw [← HN.out]; exact hUN))
            have z1 := cell_later T1.out y1
            have z2 := cell_later T1.out y4
            have hni : (U : Int) < (n : Int) := by omega
            have hnt : (t : Int) < (n : Int) := by omega
            clear y3 y6 y1 y4 hU hUs hnx hcor R1 R2
            go_wp2_with fail
            go_quiet (fail)
            go_wp2_with fail
            go_quiet ((first | (go_at_call 94; first | exact Calls.quiet_of (CF.out _ (by first | exact blThenDrew (blThenDrew T1.out _) _ | exact blThenDrew T1.out _)) | exact quietAD' (CF.out _ (by first | exact blThenDrew (blThenDrew T1.out _) _ | exact blThenDrew T1.out _))) | (go_at_call 84; first | exact Calls.quiet_of ((sMax_any _ _ _).mono fun e w' ⟨he, hw⟩ => ⟨he, 0, hw.symm⟩) | exact quietAD' ((sMax_any _ _ _).mono fun e w' ⟨he, hw⟩ => ⟨he, 0, hw.symm⟩))))
            go_wp2_with fail
            go_roundw
            case rel => exact ⟨k + 1, _, by omega, by go_num, by rw [HSP.out], by first | rfl | simp only [World.drewN_drewN]⟩
            case measure => simp [intOf]; omega
          · have hd : decide ((F : Int) < (s : Int) - 1) = false := decide_eq_false (by omega)
            have HSP : Hid (spn s rs (3 * t + (k + 1)) = m) := by show _ = _; rw [spn_at s rs hkl, if_neg (by rw [← HFC.out]; exact hc), HM.out]
            go_wp2_with fail
            go_quiet (fail)
            go_wp2_with fail
            go_roundw
            case rel => exact ⟨k + 1, _, by omega, by go_num, by rw [HSP.out], by first | rfl | simp only [World.drewN_drewN]⟩
            case measure => simp [intOf]; omega
        · obtain rfl : k = 3 := by omega
          go_wp2_with fail
          go_roundw
          case rel => exact ⟨t + 1, _, by omega, by go_num, by rw [show 3 * t + 3 = 3 * (t + 1) by omega], rfl⟩
          case measure => simp [intOf]; omega
    · obtain rfl : t = n := by omega
      obtain ⟨v, hv⟩ : ∃ v, v = spn s rs (3 * t) := ⟨_, rfl⟩
      have HVV : Hid (v = spn s rs (3 * (s * s * s))) := by show _ = _; rw [hv, ← HN.out]
      rw [← hv]
      clear hv
      go_wp2_with fail
      go_ret
      exact ⟨ret_int HVV.out, blThenDrew T1.out _⟩
set_option maxHeartbeats 2000000 in
theorem sSpanOf_any (A : Option Addr) (n c : Nat) (sd : Int) (rs : Rws) (bs : List Nat) (w : World) (h : Hd w (rowsD rs) (.slice A n c) bs) :
    Calls Try.prog 18 #[.agg #[.int .i64 sd, .slice A n c]] w (SpAns w sd rs) := by
  obtain ⟨W0, hW0⟩ : ∃ W0, W0 = (w.alloc (.cells #[.int .i64 sd, .slice A n c] 26)).alloc (.cells #[.int .i64 0, .int .i64 0] 42) := ⟨_, rfl⟩
  have G0 : Hid (Bx W0 w.heap.size [.int .i64 sd, .slice A n c]) := by show Bx _ _ _; rw [hW0]; exact (Bx.new _ _ _ rfl).alloc _
  have R0 : Hid (Bx W0 (w.heap.size + 1) [.int .i64 0, .int .i64 0]) := by show Bx _ _ _; rw [hW0]; exact Bx.new _ _ _ (by simp)
  have T0 : Hid (Below w.heap.size w W0) := by show Below _ _ _; rw [hW0]; exact blThenAlloc (blAlloc _ _) _
  have H := Lib.hid (h.bel T0.out)
  have HW := Lib.hid hW0
  clear h hW0
  go_enter Try.func18, Try.ntmps18
  go_wp2_with fail
  rw [← HW.out]
  clear HW
  refine (sFault5_any _ _ _ _ sd rs _ _ H.out (G0.out.c 0 rfl) (G0.out.c 1 rfl)).mono ?_
  rintro e w1 ⟨rfl, m1, rfl⟩
  obtain ⟨W1, hW1⟩ : ∃ W, W = W0.drewN m1 := ⟨_, rfl⟩
  have G1 : Hid (Bx W1 w.heap.size [.int .i64 sd, .slice A n c]) := by show Bx _ _ _; rw [hW1]; exact G0.out.drewN _
  have R1 : Hid (Bx W1 (w.heap.size + 1) [.int .i64 0, .int .i64 0]) := by show Bx _ _ _; rw [hW1]; exact R0.out.drewN _
  have T1 : Hid (Below w.heap.size w W1) := by show Below _ _ _; rw [hW1]; exact blThenDrew T0.out _
  have H1 : Hid (Hd W1 (rowsD rs) (.slice A n c) bs) := by show Hd _ _ _ _; rw [hW1]; exact H.out.drewN _
  rw [← hW1]
  clear hW1 G0 R0 T0 H
  by_cases h0 : gf sd rs = 0
  · obtain ⟨s, rfl⟩ : ∃ s : Nat, sd = s := ⟨sd.toNat, by have := inB_iff.1 (gf_zero h0).1; omega⟩
    rw [h0]
    have HV := Lib.hid (sp_y h0)
    have HG := Lib.hid h0
    have CS := Lib.hid (sSpan5_any w.heap.size 0 A n c s rs bs W1 H1.out (G1.out.c 0 rfl) (G1.out.c 1 rfl) h0)
    clear h0
    go_wp2_with fail
    refine CS.out.mono ?_
    rintro e w2 ⟨rfl, hb⟩
    have R2 := Lib.hid (R1.out.bel hb)
    have T2 := Lib.hid (blThen T1.out hb)
    clear hb CS R1
    obtain ⟨v, hv⟩ : ∃ v, v = spn s rs (3 * (s * s * s)) := ⟨_, rfl⟩
    rw [← hv] at HV ⊢
    clear hv
    have r0 := R2.out.c 0 rfl
    have r1 := R2.out.c 1 rfl
    have z0 := R2.out.f 0
    have z1 := R2.out.f 1
    have l2 := R2.out.lt
    go_wp2_with fail
    have KK := (R2.out.set 0 (.int .i64 0)).set 1 (.int .i64 v)
    have k0 := KK.c 0 rfl
    have k1 := KK.c 1 rfl
    clear KK
    refine bodyPost_ret (v := .agg #[.int .i64 0, .int .i64 v]) (by simp [results, Try.results18, go_sem, k0, k1]) rfl ⟨by rw [HG.out, HV.out], ?_⟩
    exact blc (blc T2.out (c := w.heap.size + 1) (by omega) 0 _) (c := w.heap.size + 1) (by omega) 1 _
  · have HV := Lib.hid (sp_f h0)
    obtain ⟨f, hf⟩ : ∃ f, f = gf sd rs := ⟨_, rfl⟩
    have HF := Lib.hid hf
    rw [← hf] at h0 ⊢
    have hqn : (f == 0) = false := by simpa using h0
    clear hf
    have r0 := R1.out.c 0 rfl
    have r1 := R1.out.c 1 rfl
    have z0 := R1.out.f 0
    have z1 := R1.out.f 1
    have l1 := R1.out.lt
    go_wp2_with fail
    have KK := (R1.out.set 0 (.int .i64 f)).set 1 (.int .i64 0)
    have k0 := KK.c 0 rfl
    have k1 := KK.c 1 rfl
    clear KK
    refine bodyPost_ret (v := .agg #[.int .i64 f, .int .i64 0]) (by simp [results, Try.results18, go_sem, k0, k1]) rfl ⟨by rw [← HF.out, HV.out], ?_⟩
    exact blc (blc T1.out (c := w.heap.size + 1) (by omega) 0 _) (c := w.heap.size + 1) (by omega) 1 _
end Go.Proofs.Ythplngcdldongaa
