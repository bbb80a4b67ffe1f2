/-
  A matrix as an answer: slices.Clone over int64; three rows in a list; the program's matrixAnswer.
-/
import Derived.Test.YtlfdpambbgddoaaMatPA
import Derived.Test.YtlfdpambbgddoaaGrdRA
namespace Go.Proofs.Ytlfdpambbgddoaa
open Go.RowKit
set_option linter.unusedVariables false
set_option linter.unusedSimpArgs false

/-- three lists of one's own, in a list of one's own. -/
theorem rows3 {W : World} {b lo l0 h0 l1 h1 l2 h2 c0 c1 c2 n0 n1 n2 : Nat} {A0 A1 A2 : Option Addr} {xs0 xs1 xs2 : List Int} (hB : Bx W b [.slice A0 n0 c0, .slice A1 n1 c1, .slice A2 n2 c2])
    (k0 : Own W (.ints .i64 xs0) (.slice A0 n0 c0) l0 h0) (k1 : Own W (.ints .i64 xs1) (.slice A1 n1 c1) l1 h1) (k2 : Own W (.ints .i64 xs2) (.slice A2 n2 c2) l2 h2) (hb : lo ≤ b) (hl : lo ≤ l0) (e0 : b < l0 ∨ h2 ≤ b) (e1 : h0 ≤ l1) (e2 : h1 ≤ l2) (e3 : h2 ≤ W.heap.size) (f0 : l0 ≤ h0) (f1 : l1 ≤ h1) (f2 : l2 ≤ h2) :
    Own W (rowsD [xs0, xs1, xs2]) (.slice (some ⟨b, 0, none⟩) 3 3) lo W.heap.size := by
  obtain ⟨bs0, d0, nd0, in0⟩ := k0
  obtain ⟨bs1, d1, nd1, in1⟩ := k1
  obtain ⟨bs2, d2, nd2, in2⟩ := k2
  have hd : Hd W (rowsD [xs0, xs1, xs2]) (.slice (some ⟨b, 0, none⟩) 3 3) (b :: (List.range 3).flatMap fun i => (List.range 1).flatMap ((fun i _ => if i = 0 then bs0 else if i = 1 then bs1 else bs2) i)) := by
    refine .sl 1 b 0 3 3 _ (fun i _ => if i = 0 then .slice A0 n0 c0 else if i = 1 then .slice A1 n1 c1 else .slice A2 n2 c2) (fun i _ => if i = 0 then bs0 else if i = 1 then bs1 else bs2) (by omega) (by omega) (by simp) (fun i hi j hj => ?_) (fun i hi j hj => ?_) (Nat.le_refl _) (by unfold maxLen; omega)
    · obtain rfl : j = 0 := by omega
      match i, hi with
      | 0, _ => exact hB.c 0 rfl
      | 1, _ => exact hB.c 1 rfl
      | 2, _ => exact hB.c 2 rfl
    · obtain rfl : j = 0 := by omega
      match i, hi with
      | 0, _ => exact d0
      | 1, _ => exact d1
      | 2, _ => exact d2
  have e : ((List.range 3).flatMap fun i => (List.range 1).flatMap ((fun i _ => if i = 0 then bs0 else if i = 1 then bs1 else bs2) i)) = bs0 ++ (bs1 ++ bs2) := by
    simp [List.range_succ]
  rw [e] at hd
  refine ⟨_, hd, ?_, ?_⟩
  · rw [List.nodup_cons, List.nodup_append, List.nodup_append]
    refine ⟨?_, nd0, ⟨nd1, nd2, ?_⟩, ?_⟩
    · intro hm
      simp only [List.mem_append] at hm
      rcases hm with hm | hm | hm
      · have := (in0 b hm); omega
      · have := (in1 b hm); omega
      · have := (in2 b hm); omega
    · intro x hx y hy e
      subst e
      have := (in1 x hx).2.1; have := (in2 x hy).1; omega
    · intro x hx y hy e
      subst e
      simp only [List.mem_append] at hy
      have := (in0 x hx).2.1
      rcases hy with hy | hy
      · have := (in1 x hy).1; omega
      · have := (in2 x hy).1; omega
  · intro x hx
    simp only [List.mem_cons, List.mem_append] at hx
    rcases hx with rfl | hx | hx | hx
    · exact ⟨hb, hB.lt, hB.th⟩
    · obtain ⟨p, q, r⟩ := in0 x hx; exact ⟨by omega, by omega, r⟩
    · obtain ⟨p, q, r⟩ := in1 x hx; exact ⟨by omega, by omega, r⟩
    · obtain ⟨p, q, r⟩ := in2 x hx; exact ⟨by omega, by omega, r⟩
theorem Own.setE {w w' : World} {d : Dat} {v : Value} {lo hi b i : Nat} {x : Value} (h : Own w d v lo hi) (e : w' = w.setCell ⟨b, i, none⟩ x) (hb : b < lo ∨ hi ≤ b) : Own w' d v lo hi := by rw [e]; exact h.set hb i x
theorem make3r (W : World) : (Instr.makeSlice 50 (.int .i64 3) (.int .i64 3)).run Try.prog W = .ok (.slice (some ⟨W.heap.size, 0, none⟩) 3 3) (W.alloc (.cells #[.slice none 0 0, .slice none 0 0, .slice none 0 0] 40)) := by
  have h := run_make_many (P := Try.prog) 50 40 (.slice none 0 0) 1 24 Try.underlying50 info_rows .i64 .i64 3 (by omega) (by omega) W
  have e : madeCells (Value.slice none 0 0).cells (3 * 1) = #[.slice none 0 0, .slice none 0 0, .slice none 0 0] := by first | kernel_rfl | (simp [madeCells, Value.cells]; rfl)
  rw [e] at h
  exact h
/-- all nine are cells. -/
def all9 (q : Nat → Int) : Bool := all3 (fun i => all3 (fun k => cel (q (3 * i + k))))
theorem all9_iff {q : Nat → Int} : all9 q = true ↔ ∀ t, t < 9 → cel (q t) = true := by
  unfold all9
  rw [all3_iff]
  constructor
  · intro h t ht
    have := all3_iff.1 (h (t / 3) (by omega)) (t % 3) (by omega)
    rwa [show 3 * (t / 3) + t % 3 = t by omega] at this
  · intro h i hi
    rw [all3_iff]
    exact fun k hk => h _ (by omega)
def maC (q : Nat → Int) : Int := if all9 q = true then 0 else 7
def maR (q : Nat → Int) : Rws := if all9 q = true then [[q 0, q 1, q 2], [q 3, q 4, q 5], [q 6, q 7, q 8]] else []
theorem ma_y {q : Nat → Int} (h : ∀ t, t < 9 → cel (q t) = true) : maC q = 0 ∧ maR q = [[q 0, q 1, q 2], [q 3, q 4, q 5], [q 6, q 7, q 8]] := by
  have e : all9 q = true := all9_iff.2 h
  exact ⟨by unfold maC; rw [if_pos e], by unfold maR; rw [if_pos e]⟩
theorem ma_n {q : Nat → Int} {t : Nat} (ht : t < 9) (h : cel (q t) = false) : maC q = 7 ∧ maR q = [] := by
  have e : ¬ all9 q = true := fun e => by have := all9_iff.1 e t ht; rw [h] at this; cases this
  exact ⟨by unfold maC; rw [if_neg e], by unfold maR; rw [if_neg e]⟩
theorem maR_small (q : Nat → Int) : RsSmall (maR q) := by
  unfold maR
  split
  · refine ⟨by simp, fun i hi => ?_⟩
    match i, hi with
    | 0, _ => simp [rw_]
    | 1, _ => simp [rw_]
    | 2, _ => simp [rw_]
  · exact ⟨by simp, fun i hi => by simp at hi⟩
theorem maR_len (q : Nat → Int) : (maR q).length ≤ 3 := by unfold maR; split <;> simp
def MAns (w : World) (code : Int) (rs : Rws) (e : Ending) (w' : World) : Prop :=
  ∃ G n c, e = .returned (.agg #[.int .i64 code, .slice G n c]) ∧ Own w' (rowsD rs) (.slice G n c) w.heap.size w'.heap.size ∧ Below w.heap.size w w'
theorem MAns.bad {w w' : World} {code c : Int} {rs : Rws} (h : code = c ∧ rs = []) (hb : Below w.heap.size w w') : MAns w code rs (.returned (.agg #[.int .i64 c, .slice none 0 0])) w' :=
  ⟨none, 0, 0, by rw [h.1], by rw [h.2]; exact Own.snil _ _ _ _ _ _ (Nat.zero_le _), hb⟩
theorem rd3 {W : World} {b : Nat} {a0 a1 a2 : Int} (h : Bx W b [.int .i64 a0, .int .i64 a1, .int .i64 a2]) : Rd .i64 W (some ⟨b, 0, none⟩) 3 [a0, a1, a2] :=
  ⟨rfl, fun _ => ⟨b, 0, rfl, fun i hi => by
    match i, hi with
    | 0, _ => exact h.c 0 rfl
    | 1, _ => exact h.c 1 rfl
    | 2, _ => exact h.c 2 rfl⟩⟩
theorem own3b {W : World} {b : Nat} {a0 a1 a2 : Int} (h : Bx W b [.int .i64 a0, .int .i64 a1, .int .i64 a2]) : Own W (.ints .i64 [a0, a1, a2]) (.slice (some ⟨b, 0, none⟩) 3 3) b (b + 1) := by
  obtain ⟨bs, k1, k2, k3⟩ := Hd.of_rd (c := 3) (rd3 h) (Nat.le_refl _) (by unfold maxLen; omega)
  refine ⟨bs, k1, k2, fun x hx => ?_⟩
  obtain ⟨_, o, e⟩ := k3 x hx
  obtain rfl : b = x := by injection e with e; injection e
  exact ⟨Nat.le_refl _, by omega, h.th⟩

end Go.Proofs.Ytlfdpambbgddoaa
