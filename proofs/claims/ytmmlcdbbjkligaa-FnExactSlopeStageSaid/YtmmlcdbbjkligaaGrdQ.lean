/-
  A node of a grid: the program's NodeOf.
-/
import Derived.Test.YtmmlcdbbjkligaaGrdM
import Derived.Test.YtmmlcdbbjkligaaOpenC
namespace Go.Proofs.Ytmmlcdbbjkligaa
open Go.RowKit Go.Maps
set_option linter.unusedVariables false

def inS (sd : Int) (ps : List Int) : Bool := inB (ps.getD 0 0) 0 (sd - 1) && (inB (ps.getD 1 0) 0 (sd - 1) && inB (ps.getD 2 0) 0 (sd - 1))
def ndI (sd : Int) (ps : List Int) : Nat := ((ps.getD 0 0 * sd + ps.getD 1 0) * sd + ps.getD 2 0).toNat
def ncd (sd : Int) (rs : Rws) (ps : List Int) : Int := if gf sd rs = 0 then (if ps.length = 3 then (if inS sd ps = true then 0 else 3) else 2) else gf sd rs
def nls (sd : Int) (rs : Rws) (ps : List Int) : List Int := if gf sd rs = 0 ∧ ps.length = 3 ∧ inS sd ps = true then rw_ rs (ndI sd ps) else []
theorem ncd_f {sd : Int} {rs : Rws} {ps : List Int} (h : gf sd rs ≠ 0) : ncd sd rs ps = gf sd rs ∧ nls sd rs ps = [] := ⟨by unfold ncd; rw [if_neg h], by unfold nls; rw [if_neg (fun q => h q.1)]⟩
theorem ncd_l {sd : Int} {rs : Rws} {ps : List Int} (h : gf sd rs = 0) (h2 : ps.length ≠ 3) : ncd sd rs ps = 2 ∧ nls sd rs ps = [] := ⟨by unfold ncd; rw [if_pos h, if_neg h2], by unfold nls; rw [if_neg (fun q => h2 q.2.1)]⟩
theorem ncd_n {sd : Int} {rs : Rws} {ps : List Int} (h : gf sd rs = 0) (h2 : ps.length = 3) (h3 : inS sd ps = false) : ncd sd rs ps = 3 ∧ nls sd rs ps = [] := ⟨by unfold ncd; rw [if_pos h, if_pos h2, if_neg (by rw [h3]; simp)], by unfold nls; rw [if_neg (fun q => by have := q.2.2; rw [h3] at this; cases this)]⟩
theorem ncd_y {sd : Int} {rs : Rws} {ps : List Int} (h : gf sd rs = 0) (h2 : ps.length = 3) (h3 : inS sd ps = true) : ncd sd rs ps = 0 ∧ nls sd rs ps = rw_ rs (ndI sd ps) := ⟨by unfold ncd; rw [if_pos h, if_pos h2, if_pos h3], by unfold nls; rw [if_pos ⟨h, h2, h3⟩]⟩
theorem inS_iff {sd : Int} {ps : List Int} : inS sd ps = true ↔ (0 ≤ ps.getD 0 0 ∧ ps.getD 0 0 ≤ sd - 1) ∧ (0 ≤ ps.getD 1 0 ∧ ps.getD 1 0 ≤ sd - 1) ∧ (0 ≤ ps.getD 2 0 ∧ ps.getD 2 0 ≤ sd - 1) := by
  unfold inS; rw [Bool.and_eq_true, Bool.and_eq_true, inB_iff, inB_iff, inB_iff]
theorem pl_lt {s t : Nat} (hs : s = 2 ∨ s = 3 ∨ s = 4) (ht : t < s * s * s) : t / (s * s) < s ∧ t / s % s < s ∧ t % s < s := by
  rcases hs with rfl | rfl | rfl <;> simp only [Nat.reduceMul] at * <;> omega
/-- a place that is there. -/
theorem nd_yes {s : Nat} {ps : List Int} (hs : s = 2 ∨ s = 3 ∨ s = 4) (h : inS (s : Int) ps = true) : ndI (s : Int) ps < s * s * s ∧ ((ndI s ps : Nat) : Int) = (ps.getD 0 0 * s + ps.getD 1 0) * s + ps.getD 2 0 ∧ ((ndI s ps / (s * s) : Nat) : Int) = ps.getD 0 0 ∧ ((ndI s ps / s % s : Nat) : Int) = ps.getD 1 0 ∧ ((ndI s ps % s : Nat) : Int) = ps.getD 2 0 := by
  obtain ⟨⟨a, a'⟩, ⟨b, b'⟩, c, c'⟩ := inS_iff.1 h
  unfold ndI
  generalize ps.getD 0 0 = x at *
  generalize ps.getD 1 0 = y at *
  generalize ps.getD 2 0 = z at *
  rcases hs with rfl | rfl | rfl <;> simp only [Nat.reduceMul] at * <;> refine ⟨?_, ?_, ?_, ?_, ?_⟩ <;> omega
theorem nd_of {s t : Nat} {ps : List Int} (hs : s = 2 ∨ s = 3 ∨ s = 4) (ht : t < s * s * s) (h0 : ((t / (s * s) : Nat) : Int) = ps.getD 0 0) (h1 : ((t / s % s : Nat) : Int) = ps.getD 1 0) (h2 : ((t % s : Nat) : Int) = ps.getD 2 0) : inS (s : Int) ps = true := by
  obtain ⟨a, b, c⟩ := pl_lt hs ht
  rw [inS_iff, ← h0, ← h1, ← h2]
  generalize t / (s * s) = x at *
  generalize t / s % s = y at *
  generalize t % s = z at *
  omega

def IAns (w : World) (code : Int) (xs : List Int) (e : Ending) (w' : World) : Prop :=
  ∃ G n c, e = .returned (.agg #[.int .i64 code, .slice G n c]) ∧ Own w' (.ints .i64 xs) (.slice G n c) w.heap.size w'.heap.size ∧ Below w.heap.size w w'
theorem IAns.bad {w w' : World} {code c : Int} {xs : List Int} (h : code = c ∧ xs = []) (hb : Below w.heap.size w w') : IAns w code xs (.returned (.agg #[.int .i64 c, .slice none 0 0])) w' :=
  ⟨none, 0, 0, by rw [h.1], by rw [h.2]; exact Own.nil _ _ _ _ _ _ (Nat.zero_le _), hb⟩
theorem own3 {w : World} {b lo : Nat} {a0 a1 a2 : Int} (h0 : w.cell? ⟨b, 0, none⟩ = some (.int .i64 a0)) (h1 : w.cell? ⟨b, 1, none⟩ = some (.int .i64 a1)) (h2 : w.cell? ⟨b, 2, none⟩ = some (.int .i64 a2)) (hlo : lo ≤ b) (hhi : b < w.heap.size) (hf : Thaw w b) :
    Own w (.ints .i64 [a0, a1, a2]) (.slice (some ⟨b, 0, none⟩) 3 3) lo w.heap.size := by
  obtain ⟨bs, k1, k2, k3⟩ := Hd.of_rd (c := 3) (k := .i64) (xs := [a0, a1, a2]) (w := w) (A := some ⟨b, 0, none⟩) (n := 3) ⟨rfl, fun _ => ⟨b, 0, rfl, fun i hi => by
    match i, hi with
    | 0, _ => simpa using h0
    | 1, _ => simpa using h1
    | 2, _ => simpa using h2⟩⟩ (by omega) (by unfold maxLen; omega)
  refine ⟨bs, k1, k2, fun x hx => ?_⟩
  obtain ⟨_, o, e⟩ := k3 x hx
  injection e with e
  injection e with e1 e2
  subst e1
  exact ⟨hlo, hhi, hf⟩
theorem list3 {xs : List Int} (h : xs.length = 3) : xs = [xs.getD 0 0, xs.getD 1 0, xs.getD 2 0] := by
  match xs, h with
  | [a, b, c], _ => rfl
theorem lightElem_form {v : Value} {z : DataW Unit × List MemPlace} (h : lightElem v = some z) : ∃ a b c, v = .agg #[.int .i64 a, .int .i64 b, .int .i64 c] ∧ z.1 = .agg [.lit (.int .i64 a), .lit (.int .i64 b), .lit (.int .i64 c)] := by
  unfold lightElem at h
  split at h
  · rename_i xs
    split at h
    · rename_i a b c hx
      refine ⟨a, b, c, ?_, ?_⟩
      · congr 1
        apply Array.ext'
        exact hx
      · injection h with h; rw [← h]
    · cases h
  · cases h
theorem zeroLights (w : World) : (zeroValue 137).run Try.prog w = .ok (.agg #[.int .i64 0, .int .i64 0, .int .i64 0]) w := by kernel_rfl
theorem wpList_lookup_light (w : World) {ops : Array Oper} {rest : List Oper} {o : Oper} {a : Act} {Q : Exit → Act → World → Prop} (hg : o.guard = none) (m x : Operand) (hop : o.op = Op.lookup 147 m x true) (b n : Nat) (D : DataW Unit)
    (hm : a.eval m = .map (some b)) (hown : w.ownsMap Try.prog 141 lightElem b n D) (key : Value) (kl : Lit) (hx : a.eval x = key) (hkey : keyOf Try.prog 141 key = some kl)
    (hK : ∀ a0 a1 a2 : Int, D.atKey kl (.agg [.lit (.int .i64 0), .lit (.int .i64 0), .lit (.int .i64 0)]) = .agg [.lit (.int .i64 a0), .lit (.int .i64 a1), .lit (.int .i64 a2)] → wpList Try.prog ops Q rest (a.put o.dst (.tuple #[.agg #[.int .i64 a0, .int .i64 a1, .int .i64 a2], .bool (Maps.has D kl)])) w) : wpList Try.prog ops Q (o :: rest) a w :=
  wpList_lookup_own_ok w hg m x _ hop _ 137 keyP Try.underlying147 lightElem (zeroLights w) _ [] (lightElem_mk 0 0 0) b n D hm hown key kl hx hkey (fun v ps hv => by
    obtain ⟨a0, a1, a2, rfl, he⟩ := lightElem_form hv
    exact hK a0 a1 a2 he)
theorem run_arrayAt3 (b o d : Nat) (w : World) : (Instr.arrayAt 137 (.slice (some ⟨b, o, none⟩) 3 d)).run Try.prog w = .ok (.pointer (some ⟨b, o, none⟩)) w := by
  first
    | kernel_rfl
    | simp [Instr.arrayAt, run_underlying Try.underlying137]
theorem al_cell (W : World) (x0 x1 : Value) (r : Nat) (o : Obj) (hr : r < W.heap.size) (i : Nat) : (((W.setCell ⟨r, 0, none⟩ x0).setCell ⟨r, 1, none⟩ x1).alloc o).cell? ⟨r, i, none⟩ = ((W.setCell ⟨r, 0, none⟩ x0).setCell ⟨r, 1, none⟩ x1).cell? ⟨r, i, none⟩ :=
  (bcell (blAlloc _ _)).1 r i (by simp [World.setCell]; exact hr)
theorem al_size (W : World) (x0 x1 : Value) (r : Nat) : ((W.setCell ⟨r, 0, none⟩ x0).setCell ⟨r, 1, none⟩ x1).heap.size = W.heap.size := by simp [World.setCell]
theorem al_own (W : World) (x0 x1 : Value) (r lo : Nat) (a0 a1 a2 : Int) (ty : TypeId) (hlo : lo ≤ W.heap.size) : Own (((W.setCell ⟨r, 0, none⟩ x0).setCell ⟨r, 1, none⟩ x1).alloc (.cells #[.int .i64 a0, .int .i64 a1, .int .i64 a2] ty)) (.ints .i64 [a0, a1, a2]) (.slice (some ⟨W.heap.size, 0, none⟩) 3 3) lo (((W.setCell ⟨r, 0, none⟩ x0).setCell ⟨r, 1, none⟩ x1).alloc (.cells #[.int .i64 a0, .int .i64 a1, .int .i64 a2] ty)).heap.size := by
  have e := al_size W x0 x1 r
  generalize (W.setCell ⟨r, 0, none⟩ x0).setCell ⟨r, 1, none⟩ x1 = X at *
  rw [← e]
  exact own3 (by simp) (by simp) (by simp) (by omega) (by simp) (thaw_new _ _ _)
def NdF (W : World) (f : Int) (e : Ending) (w' : World) : Prop := ∃ m, e = .returned (.tuple #[.map m, .int .i64 f]) ∧ Below W.heap.size W w'
end Go.Proofs.Ytmmlcdbbjkligaa
