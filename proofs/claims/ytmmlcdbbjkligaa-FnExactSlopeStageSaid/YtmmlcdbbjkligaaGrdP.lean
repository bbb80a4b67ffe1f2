/-
  Places of a grid: the program's isSide, gridPlaces; a row of places that grows.
-/
import Derived.Test.YtmmlcdbbjkligaaGrow
import Derived.Test.YtmmlcdbbjkligaaNum
import Derived.Maps.AppendAt
namespace Go.Proofs.Ytmmlcdbbjkligaa
open Go.RowKit
set_option linter.unusedVariables false
theorem inB_no {v a b : Int} (h : v < a ∨ b < v) : inB v a b = false := by
  rcases Bool.eq_false_or_eq_true (inB v a b) with q | q
  · exact absurd (inB_iff.1 q) (by omega)
  · exact q
set_option maxHeartbeats 1000000 in
theorem isSide_any (sd : Int) (w : World) : Calls Try.prog 82 #[.int .i64 sd] w fun e w' => e = .returned (.bool (inB sd 2 4)) ∧ w = w' := by
  by_cases h : 2 ≤ sd
  · by_cases h2 : sd ≤ 4
    · have HB : Hid (inB sd 2 4 = true) := inB_iff.2 ⟨h, h2⟩
      go_enter Try.func82, Try.ntmps82
      go_wp2
      go_ret
      exact ⟨ret_bool HB.out.symm, rfl⟩
    · have HB : Hid (inB sd 2 4 = false) := inB_no (.inr (by omega))
      go_enter Try.func82, Try.ntmps82
      go_wp2
      go_ret
      exact ⟨ret_bool HB.out.symm, rfl⟩
  · have HB : Hid (inB sd 2 4 = false) := inB_no (.inl (by omega))
    go_enter Try.func82, Try.ntmps82
    go_wp2
    go_ret
    exact ⟨ret_bool HB.out.symm, rfl⟩

/-! ### a row of places -/
def plc (s t : Nat) : List Value := [.int .i64 ((t / (s * s) : Nat) : Int), .int .i64 ((t / s % s : Nat) : Int), .int .i64 ((t % s : Nat) : Int)]
def pvals (s n : Nat) : List Value := (List.range n).flatMap (plc s)
theorem pvals_succ (s n : Nat) : pvals s (n + 1) = pvals s n ++ plc s n := by unfold pvals; rw [List.range_succ, List.flatMap_append]; simp
theorem pvals_len (s n : Nat) : (pvals s n).length = n * 3 := by
  induction n with
  | zero => rfl
  | succ n ih => rw [pvals_succ, List.length_append, ih]; simp [plc]; omega
theorem pvals_at (s : Nat) : ∀ n i, i < n → ∀ j, j < 3 → (pvals s n)[i * 3 + j]? = (plc s i)[j]? := by
  intro n
  induction n with
  | zero => intro i hi; omega
  | succ n ih =>
    intro i hi j hj
    rw [pvals_succ]
    have hl := pvals_len s n
    by_cases e : i < n
    · rw [List.getElem?_append_left (by omega)]
      exact ih i e j hj
    · obtain rfl : i = n := by omega
      rw [List.getElem?_append_right (by omega), hl]
      congr 1
      omega
/-- the first n places of a grid of side s, in a row of the call's own. -/
def OwnP (w : World) (base : Nat) (v : Value) (n s : Nat) : Prop := w.ownsRow base 141 3 v n (pvals s n)
theorem OwnP.nil (w : World) (base s : Nat) : OwnP w base (.slice none 0 0) 0 s := World.ownsRow_nil w base _ _
theorem OwnP.below {w w' : World} {base n s : Nat} {v : Value} (h : OwnP w base v n s) (hb : Below w.heap.size w w') : OwnP w' base v n s := by
  refine World.ownsRow.kept h (row := none) ⟨hb.os, hb.tape, hb.output, hb.size, fun k hk _ => hb.block k hk⟩ ?_
  cases hv : v.ownBlock with
  | none => exact .inl rfl
  | some g => exact .inr (fun e => by cases e)
theorem OwnP.gb {w w' : World} {base n s b : Nat} {v : Value} (h : OwnP w base v n s) (hg : w.grownBy w' (some b)) (hb : v.ownBlock ≠ some b) : OwnP w' base v n s := by
  refine World.ownsRow.kept h hg ?_
  cases hv : v.ownBlock with
  | none => exact .inl rfl
  | some g => exact .inr (fun e => hb (by rw [hv, e]))
/-- what lies there. -/
theorem OwnP.look {w : World} {base n s : Nat} {v : Value} (h : OwnP w base v n s) (hn : 0 < n) : ∃ g o c, v = .slice (some ⟨g, o, none⟩) n c ∧ base ≤ g ∧ g < w.heap.size ∧ n ≤ c ∧ c ≤ maxLen ∧
    ∀ k, k < n → w.cell? ⟨g, o + k * 3, none⟩ = some (.int .i64 ((k / (s * s) : Nat) : Int)) ∧ w.cell? ⟨g, o + k * 3 + 1, none⟩ = some (.int .i64 ((k / s % s : Nat) : Int)) ∧ w.cell? ⟨g, o + k * 3 + 2, none⟩ = some (.int .i64 ((k % s : Nat) : Int)) := by
  have h' := h
  rcases h.2 with ⟨rfl, rfl⟩ | ⟨g, cap, cur, rfl, b1, b2, b3, b4, b5, b6⟩
  · omega
  · have hgt : g < w.heap.size := (World.ownsRow.lt h g rfl).2
    have cel : ∀ k, k < n → ∀ j, j < 3 → w.cell? ⟨g, 0 + k * 3 + j, none⟩ = (plc s k)[j]? := fun k hk j hj => by
      have hl := pvals_len s n
      have := World.ownsRow.cellAt h' (k * 3 + j) (by omega)
      rw [Nat.zero_add, this, pvals_at s n k hk j hj]
    exact ⟨g, 0, cap, rfl, b1, hgt, b3, b4, fun k hk => ⟨cel k hk 0 (by omega), cel k hk 1 (by omega), cel k hk 2 (by omega)⟩⟩
theorem info_place : (Try.prog.info? 141).map (fun i => (i.zero, i.size, i.bytes)) = some (some (.agg #[.int .i64 0, .int .i64 0, .int .i64 0]), 3, 24) := by kernel_rfl
theorem info_placex : ∃ i, Try.prog.info? 141 = some i ∧ i.zero = some (.agg #[.int .i64 0, .int .i64 0, .int .i64 0]) ∧ i.size = 3 ∧ i.bytes = 24 := by
  obtain ⟨i, hi, h⟩ := Option.map_eq_some_iff.1 info_place
  simp only [Prod.mk.injEq] at h
  exact ⟨i, hi, h.1, h.2.1, h.2.2⟩
theorem wpList_append_place (w : World) {ops : Array Oper} {rest : List Oper} {o : Oper} {a : Act} {Q : Exit → Act → World → Prop} (hgd : o.guard = none) (s x : Operand)
    (ho : o.op = .call { callee := .builtin .append, args := #[s, x], argTypes := #[151, 151] })
    (base : Nat) (v : Value) (n sd : Nat) (hs : a.eval s = v) (hown : OwnP w base v n sd) (q c : Nat) (hx : a.eval x = .slice (some ⟨q, 0, none⟩) 1 c)
    (hq : ∀ j u, (plc sd n)[j]? = some u → w.cell? ⟨q, 0 + j, none⟩ = some u) (h63 : n ≤ 1000000) (hbase : base ≤ w.heap.size)
    (h : ∀ v' w', OwnP w' base v' (n + 1) sd → w.grownBy w' v.ownBlock → (∀ g, v.ownBlock = some g → base ≤ g) → wpList Try.prog ops Q rest (a.put o.dst v') w') : wpList Try.prog ops Q (o :: rest) a w := by
  obtain ⟨i, hi, hz, hsz, hby⟩ := info_placex
  refine wpList_append_own_at w hgd s x 151 ho base 141 i _ 3 24 Try.underlying151 hi hz hsz hby rfl (by omega) v n _ hs hown ⟨q, 0, none⟩ 1 c (plc sd n) hx rfl ?_ ?_ (by unfold maxLen; omega) (by omega) hbase ?_
  · intro j u hj
    match j, hj with
    | 0, hj => exact hq 0 u hj
    | 1, hj => exact hq 1 u hj
    | 2, hj => exact hq 2 u hj
    | _ + 3, hj => cases hj
  · intro u hu
    simp only [plc, List.mem_cons, List.not_mem_nil, or_false] at hu
    rcases hu with rfl | rfl | rfl <;> rfl
  · intro v' w' a1 a2 _ a4
    exact h v' w' (by unfold OwnP; rw [pvals_succ]; exact a1) a2 (fun g hg => (World.ownsRow.lt hown g hg).1)
theorem place_eq {s a b c : Nat} (hs : s = 2 ∨ s = 3 ∨ s = 4) (ha : a < s) (hb : b < s) (hc : c < s) : (a * (s * s) + b * s + c) / (s * s) = a ∧ (a * (s * s) + b * s + c) / s % s = b ∧ (a * (s * s) + b * s + c) % s = c := by
  rcases hs with rfl | rfl | rfl <;> simp only [Nat.reduceMul] <;> refine ⟨?_, ?_, ?_⟩ <;> omega
theorem plc_eq {s a b c : Nat} (hs : s = 2 ∨ s = 3 ∨ s = 4) (ha : a < s) (hb : b < s) (hc : c < s) : plc s (a * (s * s) + b * s + c) = [.int .i64 (a : Int), .int .i64 (b : Int), .int .i64 (c : Int)] := by
  obtain ⟨h1, h2, h3⟩ := place_eq hs ha hb hc
  unfold plc; rw [h1, h2, h3]
theorem bound_n {s a b c : Nat} (hs : s = 2 ∨ s = 3 ∨ s = 4) (ha : a < s) (hb : b < s) (hc : c < s) : a * (s * s) + b * s + c ≤ 1000000 := by
  rcases hs with rfl | rfl | rfl <;> simp only [Nat.reduceMul] <;> omega
set_option maxRecDepth 100000 in
set_option maxHeartbeats 2000000 in
theorem gridPlaces_any (s : Nat) (w : World) (hs : s = 2 ∨ s = 3 ∨ s = 4) :
    Calls Try.prog 90 #[.int .i64 (s : Int)] w fun e w' => ∃ v, e = .returned v ∧ OwnP w' w.heap.size v (s * s * s) s ∧ Below w.heap.size w w' := by
  have HS := Lib.hid hs
  have hs4 : s ≤ 4 := by omega
  clear hs
  go_enter Try.func90, Try.ntmps90
  go_wp2_with fail
  go_loopw [3, 8] (fun p i wr => ∃ a : Nat, a ≤ s ∧ i = .int .i64 a ∧ Hid (OwnP wr w.heap.size p (a * (s * s)) s) ∧ Hid (Below w.heap.size w wr)) (fun _ i _ => s - (intOf i).toNat)
  case atStart => exact ⟨0, by omega, rfl, by show OwnP _ _ _ _ _; rw [Nat.zero_mul]; exact OwnP.nil _ _ _, Below.refl _ _⟩
  case round =>
    obtain ⟨a, ha, rfl, HO, HB⟩ := hrel
    by_cases hlt : a < s
    · go_wp2_with fail
      (try simp only [show decide ((a : Int) < (s : Int)) = true from decide_eq_true (by omega)])
      go_loopw [3, 12] (fun p i wr => ∃ b : Nat, b ≤ s ∧ i = .int .i64 b ∧ Hid (OwnP wr w.heap.size p (a * (s * s) + b * s) s) ∧ Hid (Below w.heap.size w wr)) (fun _ i _ => s - (intOf i).toNat)
      case atStart => exact ⟨0, by omega, rfl, by show OwnP _ _ _ _ _; rw [Nat.zero_mul, Nat.add_zero]; exact HO.out, HB⟩
      case round =>
        obtain ⟨b, hb, rfl, HO1, HB1⟩ := hrel
        by_cases hlb : b < s
        · go_wp2_with fail
          (try simp only [show decide ((b : Int) < (s : Int)) = true from decide_eq_true (by omega)])
          go_loopw [3, 16] (fun p i wr => ∃ c : Nat, c ≤ s ∧ i = .int .i64 c ∧ Hid (OwnP wr w.heap.size p (a * (s * s) + b * s + c) s) ∧ Hid (Below w.heap.size w wr)) (fun _ i _ => s - (intOf i).toNat)
          case atStart => exact ⟨0, by omega, rfl, HO1, HB1⟩
          case round =>
            obtain ⟨c, hc, rfl, HO2, HB2⟩ := hrel
            by_cases hlc : c < s
            · have HPL := Lib.hid (plc_eq HS.out hlt hlb hlc)
              have HBN := Lib.hid (bound_n HS.out hlt hlb hlc)
              have hsz := HB2.out.size
              go_wp2_with (at_builtin; refine wpList_append_place _ rfl _ _ rfl w.heap.size _ (a * (s * s) + b * s + c) s rfl (HO2.out.below (blAlloc _ _)) wr.heap.size 1 rfl (by rw [HPL.out]; intro j u hj; (match j, hj with | 0, hj => (obtain rfl := Option.some.inj hj; simp) | 1, hj => (obtain rfl := Option.some.inj hj; simp) | 2, hj => (obtain rfl := Option.some.inj hj; simp))) HBN.out (by simp; omega) ?_; intro v3 w3 ho3 hg3 hgb)
              have HO3 := Lib.hid ho3
              have HB3 := Lib.hid ((blThenAlloc HB2.out _).trans (gb_low' hg3 hgb (Nat.le_refl _) (by simp; omega)))
              clear ho3 hg3 hgb
              go_wp2_with fail
              go_roundw
              case rel => exact ⟨c + 1, by omega, by go_num, HO3.out, HB3.out⟩
              case measure => simp [intOf]; omega
            · obtain rfl : c = s := by omega
              go_wp2_with fail
              go_roundw
              case rel => exact ⟨b + 1, by omega, by go_num, by show OwnP _ _ _ _ _; rw [Nat.succ_mul, ← Nat.add_assoc]; exact HO2.out, HB2⟩
              case measure => simp [intOf]; omega
        · obtain rfl : b = s := by omega
          go_wp2_with fail
          go_roundw
          case rel => exact ⟨a + 1, by omega, by go_num, by show OwnP _ _ _ _ _; rw [Nat.succ_mul]; exact HO1.out, HB1⟩
          case measure => simp [intOf]; omega
    · obtain rfl : a = s := by omega
      go_wp2_with fail
      go_ret
      exact ⟨_, rfl, by rw [Nat.mul_assoc]; exact HO.out, HB.out⟩
end Go.Proofs.Ytmmlcdbbjkligaa
