/-
  Stages and chains as the frame hands them, as data in known blocks.
-/
import Derived.Test.YtmmlcdbbjkligaaOpenG
import Derived.Test.YtmmlcdbbjkligaaHelpS
namespace Go.Proofs.Ytmmlcdbbjkligaa
open Go.RowKit Go.ChangeShapes Go.WideShapes Go.Deep Go.Joins
set_option linter.unusedVariables false
set_option linter.unusedSimpArgs false

/-- each number of a stage is an int64. -/
structure I64T (t : Stg) : Prop where
  kd : -9223372036854775808 ≤ t.kd ∧ t.kd ≤ 9223372036854775807
  cs : I64R t.cs
  rs : I64R t.rs
  sd : -9223372036854775808 ≤ t.sd ∧ t.sd ≤ 9223372036854775807
  ns : I64R t.ns
def I64C (ts : List Stg) : Prop := ∀ i, I64T (st_ ts i)
theorem st_range {n : Nat} {f : Nat → Stg} {i : Nat} (h : i < n) : st_ ((List.range n).map f) i = f i := by simp [st_, List.getD, h]
theorem st_out {ts : List Stg} {i : Nat} (h : ts.length ≤ i) : st_ ts i = stZ := by simp [st_, List.getD, h]
theorem i64_Z : I64T stZ := ⟨by simp [stZ], fun i j => by simp [stZ, rw_], fun i j => by simp [stZ, rw_], by simp [stZ], fun i j => by simp [stZ, rw_]⟩
section
variable {H : Type} {enc : TypeId × Value → H} {w : World} {base : Nat} {spare : Nat → Bool} {held : Bool}
set_option maxRecDepth 100000 in
theorem open_curves {fuel : Nat} {v : Value} {x : DataW H × List MemPlace} (h : DataW.trod enc Try.prog w base spare held fuel 22 [v] = some x) :
    ∃ A n c rs bs, v = .slice A n c ∧ Hd w (rowsD rs) (.slice A n c) bs ∧ I64R rs := by
  rcases open_slice1 Try.underlying22 (by kernel_rfl) h with ⟨hcs, _⟩ | ⟨a, len, cap, m, n, V0, D0, P0, hcs, _, hl, hm, hmm, _, hx⟩
  · obtain rfl : v = .slice none 0 0 := by simpa using hcs
    exact ⟨none, 0, 0, [], [], rfl, .sl0 _ _ _ (Nat.zero_le _), fun i j => by simp [rw_]⟩
  · obtain rfl : v = .slice (some a) len cap := by simpa using hcs
    obtain ⟨b, o, sp⟩ := a
    have hlm : len ≤ m := by rw [hmm]; split <;> omega
    rcases Nat.eq_zero_or_pos len with h0 | h0
    · subst h0
      exact ⟨_, 0, cap, [], [], rfl, .sl0 _ _ _ hm, fun i j => by simp [rw_]⟩
    obtain rfl := cell_spot (by simpa using (hx 0 (by omega)).1)
    have each : ∀ i, ∃ q : List Int × List Nat, i < len → Hd w (.ints .i64 q.1) (V0 i) q.2 ∧ I64s q.1 := fun i => by
      by_cases hi : i < len
      · obtain ⟨_, t1⟩ := hx i (by omega)
        obtain ⟨y0, n', _, _, t2⟩ := trod_struct1 Try.underlying163 t1
        have t3 : DataW.trod enc Try.prog w base spare held n' 30 [V0 i] = some y0 := t2
        obtain ⟨A', n', c', xs, gs, hv, hd, hu⟩ := open_hd_i64 Try.underlying30 Try.underlying2 (by kernel_rfl) t3
        exact ⟨(xs, gs), fun _ => ⟨by rw [hv]; exact hd, hu⟩⟩
      · exact ⟨default, fun h => absurd h hi⟩
    obtain ⟨q, hq⟩ := Classical.axiomOfChoice each
    refine ⟨_, len, cap, (List.range len).map fun i => (q i).1, _, rfl, .sl 1 b o len cap _ (fun i _ => V0 i) (fun i _ => (q i).2) h0 (by omega) (by simp) (fun i hi j hj => ?_) (fun i hi j hj => ?_) hl hm, fun i => ?_⟩
    · obtain ⟨c0, _⟩ := hx i (by omega)
      rw [add_flat rfl] at c0
      obtain rfl : j = 0 := by omega
      simpa using c0
    · show Hd w (At _ i j) _ _
      obtain rfl : j = 0 := by omega
      rw [rows_at (by simpa using hi), rw_range hi]; exact (hq i hi).1
    · by_cases hi : i < len
      · rw [rw_range hi]; exact (hq i hi).2
      · rw [rw_out (by simp; omega)]; exact fun j => by simp
theorem list5 {α : Type} {cs : List α} (h : cs.length = 5) : ∃ a b c d e, cs = [a, b, c, d, e] := by
  match cs, h with
  | [a, b, c, d, e], _ => exact ⟨a, b, c, d, e, rfl⟩
theorem array5 {α : Type} {cs : Array α} (h : cs.size = 5) : ∃ a b c d e, cs = #[a, b, c, d, e] := by
  obtain ⟨l⟩ := cs
  obtain ⟨a, b, c, d, e, rfl⟩ := list5 h
  exact ⟨a, b, c, d, e, rfl⟩
set_option maxRecDepth 100000 in
theorem open_stage_cells {fuel : Nat} {v0 v1 v2 v3 v4 : Value} {x : DataW H × List MemPlace} (h : DataW.trod enc Try.prog w base spare held fuel 29 [v0, v1, v2, v3, v4] = some x) :
    ∃ (t : Stg) (g1 g2 g3 : List Nat), v0 = .int .i64 t.kd ∧ Hd w (rowsD t.cs) v1 g1 ∧ Hd w (rowsD t.rs) v2 g2 ∧ v3 = .int .i64 t.sd ∧ Hd w (rowsD t.ns) v4 g3 ∧ I64T t := by
  obtain ⟨y0, y1, y2, y3, n, _, _, t0, t1, t2, t3⟩ := trod_struct4 Try.underlying29 h
  have q0 : DataW.trod enc Try.prog w base spare held n 2 [v0] = some y0 := t0
  have q1 : DataW.trod enc Try.prog w base spare held n 22 [v1] = some y1 := t1
  have q2 : DataW.trod enc Try.prog w base spare held n 25 [v2] = some y2 := t2
  have q3 : DataW.trod enc Try.prog w base spare held n 27 [v3, v4] = some y3 := t3
  obtain ⟨kd, h0, _, hw0⟩ := DataW.trod_int Try.underlying2 q0
  obtain rfl : v0 = .int .i64 kd := by simpa using h0
  obtain ⟨A1, n1, c1, cs, g1, rfl, hd1, u1⟩ := open_curves q1
  obtain ⟨z0, n', _, _, s2⟩ := trod_struct1 Try.underlying25 q2
  have s2' : DataW.trod enc Try.prog w base spare held n' 23 [v2] = some z0 := s2
  obtain ⟨A2, n2, c2, rs, g2, rfl, hd2, u2⟩ := open_rows s2'
  obtain ⟨z1, z2, n'', _, _, s3, s4⟩ := trod_struct2 Try.underlying27 q3
  have s3' : DataW.trod enc Try.prog w base spare held n'' 2 [v3] = some z1 := s3
  have s4' : DataW.trod enc Try.prog w base spare held n'' 23 [v4] = some z2 := s4
  obtain ⟨sd, h3, _, hw3⟩ := DataW.trod_int Try.underlying2 s3'
  obtain rfl : v3 = .int .i64 sd := by simpa using h3
  obtain ⟨A3, n3, c3, ns, g3, rfl, hd3, u3⟩ := open_rows s4'
  exact ⟨⟨kd, cs, rs, sd, ns⟩, g1, g2, g3, rfl, hd1, hd2, rfl, hd3, ⟨bounds_i64 hw0, u1, u2, bounds_i64 hw3, u3⟩⟩
set_option maxRecDepth 100000 in
theorem open_stage {r : Reach} {b0 : Nat} {v : Value} {d : DataW H} {p : List MemPlace} (hv : Value.okWide Try.prog w r b0 29 v) (h : DataW.Trod enc Try.prog w base spare held 29 v d p) :
    ∃ (t : Stg) (A1 : Option Addr) (n1 c1 : Nat) (A2 : Option Addr) (n2 c2 : Nat) (A3 : Option Addr) (n3 c3 : Nat), v = .agg #[.int .i64 t.kd, .slice A1 n1 c1, .slice A2 n2 c2, .int .i64 t.sd, .slice A3 n3 c3] ∧ HdSt w t A1 n1 c1 A2 n2 c2 A3 n3 c3 ∧ I64T t := by
  obtain ⟨cs, rfl, hsz⟩ := okWide_struct Try.underlying29 hv
  obtain ⟨v0, v1, v2, v3, v4, rfl⟩ := array5 (hsz.trans (by kernel_rfl))
  obtain ⟨fuel, hf⟩ := h
  obtain ⟨t, g1, g2, g3, rfl, h1, h2, rfl, h4, hi⟩ := open_stage_cells (show DataW.trod enc Try.prog w base spare held fuel 29 [v0, v1, v2, v3, v4] = some _ from hf)
  obtain ⟨A1, n1, c1, rfl⟩ := Hd.sl_form h1
  obtain ⟨A2, n2, c2, rfl⟩ := Hd.sl_form h2
  obtain ⟨A3, n3, c3, rfl⟩ := Hd.sl_form h4
  exact ⟨t, A1, n1, c1, A2, n2, c2, A3, n3, c3, rfl, ⟨⟨_, h1⟩, ⟨_, h2⟩, ⟨_, h4⟩⟩, hi⟩
set_option maxRecDepth 100000 in
theorem open_stages {fuel : Nat} {v : Value} {x : DataW H × List MemPlace} (h : DataW.trod enc Try.prog w base spare held fuel 54 [v] = some x) :
    ∃ A n c ts bs, v = .slice A n c ∧ Hd w (chD ts) (.slice A n c) bs ∧ I64C ts := by
  rcases open_slice Try.underlying54 h with ⟨hcs, _⟩ | ⟨a, len, cap, m, n, D0, P0, hcs, _, hl, hm, hmm, _, hx⟩
  · obtain rfl : v = .slice none 0 0 := by simpa using hcs
    exact ⟨none, 0, 0, [], [], rfl, .sl0 _ _ _ (Nat.zero_le _), fun i => i64_Z⟩
  · obtain rfl : v = .slice (some a) len cap := by simpa using hcs
    obtain ⟨b, o, sp⟩ := a
    have hlm : len ≤ m := by rw [hmm]; split <;> omega
    rcases Nat.eq_zero_or_pos len with h0 | h0
    · subst h0
      exact ⟨_, 0, cap, [], [], rfl, .sl0 _ _ _ hm, fun i => i64_Z⟩
    have hc5 : Try.prog.cellsOf 29 = 5 := by kernel_rfl
    rw [hc5] at hx
    obtain rfl : sp = none := by
      obtain ⟨cs', h1, _⟩ := hx 0 (by omega)
      obtain ⟨_, hlen, hcell⟩ := World.cells?_some h1
      obtain ⟨v0, v1, v2, v3, v4, rfl⟩ := list5 hlen
      have := hcell 0 (by omega)
      rw [add_add] at this
      exact cell_spot (v := v0) (by simpa using this)
    have each : ∀ i, ∃ q : Stg × (Nat → Value) × (Nat → List Nat), i < len → (∀ j, j < 5 → w.cell? ⟨b, o + i * 5 + j, none⟩ = some (q.2.1 j)) ∧ (∀ j, j < 5 → Hd w ((stD q.1).getD j default) (q.2.1 j) (q.2.2 j)) ∧ I64T q.1 := fun i => by
      by_cases hi : i < len
      · obtain ⟨cs', h1, h2⟩ := hx i (by omega)
        obtain ⟨_, hlen, hcell⟩ := World.cells?_some h1
        obtain ⟨v0, v1, v2, v3, v4, rfl⟩ := list5 hlen
        obtain ⟨t, g1, g2, g3, e0, d1, d2, e3, d4, hi64⟩ := open_stage_cells h2
        refine ⟨(t, fun j => [v0, v1, v2, v3, v4].getD j undef, fun j => [[], g1, g2, [], g3].getD j []), fun _ => ⟨fun j hj => ?_, fun j hj => ?_, hi64⟩⟩
        · have := hcell j hj
          rw [add_add, add_flat rfl] at this
          match j, hj with
          | 0, _ => simpa using this
          | 1, _ => simpa [Nat.add_assoc] using this
          | 2, _ => simpa [Nat.add_assoc] using this
          | 3, _ => simpa [Nat.add_assoc] using this
          | 4, _ => simpa [Nat.add_assoc] using this
        · match j, hj with
          | 0, _ => show Hd w (.int .i64 t.kd) v0 []; rw [e0]; exact .int _ _
          | 1, _ => exact d1
          | 2, _ => exact d2
          | 3, _ => show Hd w (.int .i64 t.sd) v3 []; rw [e3]; exact .int _ _
          | 4, _ => exact d4
      · exact ⟨(stZ, fun _ => undef, fun _ => []), fun h => absurd h hi⟩
    obtain ⟨q, hq⟩ := Classical.axiomOfChoice each
    refine ⟨_, len, cap, (List.range len).map fun i => (q i).1, _, rfl, .sl 5 b o len cap _ (fun i => (q i).2.1) (fun i => (q i).2.2) h0 (by omega) (by simp) (fun i hi j hj => (hq i hi).1 j hj) (fun i hi j hj => ?_) hl hm, fun i => ?_⟩
    · have hil : i < ((List.range len).map fun i => (q i).1).length := by simpa using hi
      rw [st_el hil, st_range hi]
      exact (hq i hi).2.1 j hj
    · by_cases hi : i < len
      · rw [st_range hi]; exact (hq i hi).2.2
      · rw [st_out (by simp; omega)]; exact i64_Z
set_option maxRecDepth 100000 in
theorem open_chain {r : Reach} {b0 : Nat} {v : Value} {d : DataW H} {p : List MemPlace} (hv : Value.okWide Try.prog w r b0 56 v) (h : DataW.Trod enc Try.prog w base spare held 56 v d p) :
    ∃ A n c ts bs, v = .agg #[.slice A n c] ∧ Hd w (chD ts) (.slice A n c) bs ∧ I64C ts := by
  obtain ⟨v0, y0, n, rfl, t0⟩ := open_agg1 Try.underlying56 (by kernel_rfl) (by kernel_rfl) hv h
  obtain ⟨A, n, c, ts, bs, rfl, hd, h2⟩ := open_stages t0
  exact ⟨A, n, c, ts, bs, rfl, hd, h2⟩
end
end Go.Proofs.Ytmmlcdbbjkligaa
