/-
  Lists of int64 that are compared: the program's slices.Equal, the reference model's l1Same.
  Matrices that are compared: slices.EqualFunc over rows, the program's and the model's SameMatrices.
  Matrices that are compared by the model: SameMatrices.
-/
import Derived.Test.YtlfdpambbgddoaaHelpA
import Derived.Test.YtlfdpambbgddoaaMatB
namespace Go.Proofs.Ytlfdpambbgddoaa
open Go.RowKit
set_option linter.unusedVariables false

def sameI (xs ys : List Int) : Bool := decide (xs = ys)
theorem sameI_len {xs ys : List Int} (h : xs.length ≠ ys.length) : sameI xs ys = false := decide_eq_false (fun e => h (by rw [e]))
theorem sameI_at {xs ys : List Int} {k : Nat} (h : xs.getD k 0 ≠ ys.getD k 0) : sameI xs ys = false := decide_eq_false (fun e => h (by rw [e]))
theorem sameI_all {xs ys : List Int} {n : Nat} (h1 : xs.length = n) (h2 : ys.length = n) (h : ∀ i, i < n → xs.getD i 0 = ys.getD i 0) : sameI xs ys = true := by
  refine decide_eq_true (List.ext_getElem (by omega) fun i hi hj => ?_)
  have := h i (by omega)
  simpa [List.getD, hi, hj] using this
theorem sameI_self (xs : List Int) : sameI xs xs = true := decide_eq_true rfl
end Go.Proofs.Ytlfdpambbgddoaa
namespace Go.Proofs.Ytlfdpambbgddoaa
open Go.RowKit
set_option linter.unusedVariables false
set_option linter.unusedSimpArgs false

def sameM (rs us : Rws) : Bool := decide (rs = us)
theorem sameM_len {rs us : Rws} (h : rs.length ≠ us.length) : sameM rs us = false := decide_eq_false (fun e => h (by rw [e]))
theorem sameM_at {rs us : Rws} {k : Nat} (h : sameI (rw_ rs k) (rw_ us k) = false) : sameM rs us = false := decide_eq_false (fun e => by subst e; rw [sameI_self] at h; cases h)
theorem sameM_all {rs us : Rws} {n : Nat} (h1 : rs.length = n) (h2 : us.length = n) (h : ∀ i, i < n → sameI (rw_ rs i) (rw_ us i) = true) : sameM rs us = true := by
  refine decide_eq_true (List.ext_getElem (by omega) fun i hi hj => ?_)
  have := of_decide_eq_true (h i (by omega))
  simpa [rw_, List.getD, hi, hj] using this
theorem sameM_self (rs : Rws) : sameM rs rs = true := decide_eq_true rfl
theorem sameM_nine {rs us : Rws} (h : mf rs = 0) (h' : mf us = 0) (q p : Nat → Int) (hq : ∀ t, t < 9 → q t = fl rs t) (hp : ∀ t, t < 9 → p t = fl us t) (e : ∀ t, t < 9 → q t = p t) : sameM rs us = true := by
  refine sameM_all (mf_zero h).1 (mf_zero h').1 fun i hi => sameI_all (mf_lens h i hi) (mf_lens h' i hi) fun k hk => ?_
  rw [← fl_at rs i k hk, ← fl_at us i k hk, ← hq _ (by omega), ← hp _ (by omega)]
  exact e _ (by omega)
theorem sameM_not {rs us : Rws} (q p : Nat → Int) (hq : ∀ t, t < 9 → q t = fl rs t) (hp : ∀ t, t < 9 → p t = fl us t) {t : Nat} (ht : t < 9) (e : q t ≠ p t) : sameM rs us = false :=
  decide_eq_false (fun h => e (by rw [hq t ht, hp t ht, h]))
/-! arrays that are compared -/
theorem sz_int (W : World) : (sizeOf 2).run Try.prog W = .ok 1 W := by kernel_rfl
theorem sz_lights (W : World) : (sizeOf 101).run Try.prog W = .ok 3 W := by kernel_rfl
theorem part3_0 (a b c : Int) (W : World) : (part 2 #[.int .i64 a, .int .i64 b, .int .i64 c] 0).run Try.prog W = .ok (.int .i64 a) W := by kernel_rfl
theorem part3_1 (a b c : Int) (W : World) : (part 2 #[.int .i64 a, .int .i64 b, .int .i64 c] 1).run Try.prog W = .ok (.int .i64 b) W := by kernel_rfl
theorem part3_2 (a b c : Int) (W : World) : (part 2 #[.int .i64 a, .int .i64 b, .int .i64 c] 2).run Try.prog W = .ok (.int .i64 c) W := by kernel_rfl
theorem part9_0 (q : Nat → Int) (W : World) : (part 101 #[.int .i64 (q 0), .int .i64 (q 1), .int .i64 (q 2), .int .i64 (q 3), .int .i64 (q 4), .int .i64 (q 5), .int .i64 (q 6), .int .i64 (q 7), .int .i64 (q 8)] 0).run Try.prog W = .ok (.agg #[.int .i64 (q 0), .int .i64 (q 1), .int .i64 (q 2)]) W := by kernel_rfl
theorem part9_1 (q : Nat → Int) (W : World) : (part 101 #[.int .i64 (q 0), .int .i64 (q 1), .int .i64 (q 2), .int .i64 (q 3), .int .i64 (q 4), .int .i64 (q 5), .int .i64 (q 6), .int .i64 (q 7), .int .i64 (q 8)] 3).run Try.prog W = .ok (.agg #[.int .i64 (q 3), .int .i64 (q 4), .int .i64 (q 5)]) W := by kernel_rfl
theorem part9_2 (q : Nat → Int) (W : World) : (part 101 #[.int .i64 (q 0), .int .i64 (q 1), .int .i64 (q 2), .int .i64 (q 3), .int .i64 (q 4), .int .i64 (q 5), .int .i64 (q 6), .int .i64 (q 7), .int .i64 (q 8)] 6).run Try.prog W = .ok (.agg #[.int .i64 (q 6), .int .i64 (q 7), .int .i64 (q 8)]) W := by kernel_rfl
def b3 (a b c a' b' c' : Int) : Bool := (a == a') && ((b == b') && (c == c'))
set_option maxRecDepth 100000 in
theorem equal3 (d : Nat) (a b c a' b' c' : Int) (W : World) : (Op.equalIn (d + 2) 101 (.agg #[.int .i64 a, .int .i64 b, .int .i64 c]) (.agg #[.int .i64 a', .int .i64 b', .int .i64 c'])).run Try.prog W = .ok (b3 a b c a' b' c') W := by
  have pe : ∀ x y W, (Op.equalIn (d + 1) 2 (.int .i64 x) (.int .i64 y)).run Try.prog W = .ok (x == y) W := fun x y W => run_equalIn_int W d _ .i64 .i64 _ _ Try.underlying2
  rw [Op.equalIn]
  simp only [Sem.run_bind, run_underlying Try.underlying101, Result.andThen_ok, sz_int, Std.Legacy.Range.forIn_eq_forIn_range', Std.Legacy.Range.size, Nat.sub_zero, Nat.add_sub_cancel, Nat.div_one, List.range', List.forIn_cons, List.forIn_nil, Nat.zero_add, Nat.reduceAdd, Nat.reduceMul, Nat.mul_one, Nat.zero_mul, part3_0, part3_1, part3_2, pe]
  unfold b3
  cases h0 : (a == a') <;> cases h1 : (b == b') <;> cases h2 : (c == c') <;> simp [part3_0, part3_1, part3_2, pe, h0, h1, h2, Result.andThen, Sem.run_pure]
def b9 (q p : Nat → Int) : Bool := b3 (q 0) (q 1) (q 2) (p 0) (p 1) (p 2) && (b3 (q 3) (q 4) (q 5) (p 3) (p 4) (p 5) && b3 (q 6) (q 7) (q 8) (p 6) (p 7) (p 8))
set_option maxRecDepth 100000 in
theorem equal9 (q p : Nat → Int) (W : World) : (binOp .eql 133 (.agg #[.int .i64 (q 0), .int .i64 (q 1), .int .i64 (q 2), .int .i64 (q 3), .int .i64 (q 4), .int .i64 (q 5), .int .i64 (q 6), .int .i64 (q 7), .int .i64 (q 8)]) (.agg #[.int .i64 (p 0), .int .i64 (p 1), .int .i64 (p 2), .int .i64 (p 3), .int .i64 (p 4), .int .i64 (p 5), .int .i64 (p 6), .int .i64 (p 7), .int .i64 (p 8)])).run Try.prog W = .ok (.bool (b9 q p)) W := by
  have pe := equal3 9997
  rw [run_eql_struct, Op.equalIn]
  simp only [Sem.run_bind, run_underlying Try.underlying133, Result.andThen_ok, sz_lights, Std.Legacy.Range.forIn_eq_forIn_range', Std.Legacy.Range.size, Nat.sub_zero, Nat.add_sub_cancel, Nat.div_one, List.range', List.forIn_cons, List.forIn_nil, Nat.zero_add, Nat.reduceAdd, Nat.reduceMul, Nat.mul_one, Nat.one_mul, Nat.zero_mul, part9_0, part9_1, part9_2, pe]
  unfold b9
  cases h0 : b3 (q 0) (q 1) (q 2) (p 0) (p 1) (p 2) <;> cases h1 : b3 (q 3) (q 4) (q 5) (p 3) (p 4) (p 5) <;> cases h2 : b3 (q 6) (q 7) (q 8) (p 6) (p 7) (p 8) <;> simp [part9_0, part9_1, part9_2, pe, h0, h1, h2, Result.andThen, Sem.run_pure]
theorem b9_all {q p : Nat → Int} (h : b9 q p = true) : ∀ t, t < 9 → q t = p t := by
  unfold b9 b3 at h
  simp only [Bool.and_eq_true, beq_iff_eq] at h
  obtain ⟨⟨e0, e1, e2⟩, ⟨e3, e4, e5⟩, e6, e7, e8⟩ := h
  intro t ht
  match t, ht with
  | 0, _ => exact e0
  | 1, _ => exact e1
  | 2, _ => exact e2
  | 3, _ => exact e3
  | 4, _ => exact e4
  | 5, _ => exact e5
  | 6, _ => exact e6
  | 7, _ => exact e7
  | 8, _ => exact e8
theorem b9_of {q p : Nat → Int} (h : ∀ t, t < 9 → q t = p t) : b9 q p = true := by
  unfold b9 b3
  simp [h 0 (by omega), h 1 (by omega), h 2 (by omega), h 3 (by omega), h 4 (by omega), h 5 (by omega), h 6 (by omega), h 7 (by omega), h 8 (by omega)]
theorem sameM_b9 {rs us : Rws} (h : mf rs = 0) (h' : mf us = 0) {q p : Nat → Int} (hq : ∀ t, t < 9 → q t = fl rs t) (hp : ∀ t, t < 9 → p t = fl us t) : b9 q p = sameM rs us := by
  cases hb : b9 q p
  · refine (decide_eq_false (fun e => ?_)).symm
    subst e
    rw [b9_of (fun t ht => (hq t ht).trans (hp t ht).symm)] at hb
    cases hb
  · exact (sameM_nine h h' q p hq hp (b9_all hb)).symm
end Go.Proofs.Ytlfdpambbgddoaa
namespace Go.Proofs.Ytlfdpambbgddoaa
open Go.RowKit
set_option linter.unusedVariables false

end Go.Proofs.Ytlfdpambbgddoaa
