/-
  A grid that does nothing: the program's LineGrid, the model's l5Line, LineGrid.
-/
import Derived.Test.YtmmlcdbbjkligaaGreatGrowA
import Derived.Test.YtmmlcdbbjkligaaGreatGrdNA
import Derived.StillTailTactics
namespace Go.Proofs.YtmmlcdbbjkligaaGreat
open Go.RowKit
set_option linter.unusedVariables false
set_option linter.unusedSimpArgs false

def lgV (s : Nat) (x : Nat) : Int := rnd ((x : Int) * 65535) ((s : Int) - 1)
def lgRow (s t : Nat) : List Int := [lgV s (t / (s * s)), lgV s (t / s % s), lgV s (t % s)]
def lgRs (s n : Nat) : Rws := (List.range n).map (lgRow s)
theorem lgRs_succ (s n : Nat) : lgRs s (n + 1) = lgRs s n ++ [lgRow s n] := by unfold lgRs; rw [List.range_succ, List.map_append]; rfl
def lgC (sd : Int) : Int := if inB sd 2 4 = true then 0 else 3
def lgS (sd : Int) : Int := if inB sd 2 4 = true then sd else 0
def lgL (sd : Int) : Rws := if inB sd 2 4 = true then lgRs sd.toNat (sd.toNat * sd.toNat * sd.toNat) else []
theorem lg_no {sd : Int} (h : inB sd 2 4 = false) : lgC sd = 3 ∧ lgS sd = 0 ∧ lgL sd = [] := by unfold lgC lgS lgL; rw [h]; simp
theorem lg_yes {s : Nat} (h : inB (s : Int) 2 4 = true) : lgC s = 0 ∧ lgS s = s ∧ lgL s = lgRs s (s * s * s) := by unfold lgC lgS lgL; rw [h]; simp
theorem lgL_len (sd : Int) : (lgL sd).length ≤ 64 := by
  unfold lgL
  split
  · rename_i h
    have := inB_iff.1 h
    have h3 : sd.toNat = 2 ∨ sd.toNat = 3 ∨ sd.toNat = 4 := by omega
    rcases h3 with e | e | e <;> rw [e] <;> simp [lgRs]
  · simp
theorem lgL_small (sd : Int) : RsSmall (lgL sd) := by
  refine ⟨by have := lgL_len sd; omega, fun i hi => ?_⟩
  unfold lgL at *
  split
  · rename_i h
    rw [if_pos h] at hi
    have e : rw_ (lgRs sd.toNat (sd.toNat * sd.toNat * sd.toNat)) i = lgRow sd.toNat i := by
      have : i < sd.toNat * sd.toNat * sd.toNat := by simpa [lgRs] using hi
      simp [rw_, lgRs, List.getD, this]
    rw [e]; simp [lgRow]
  · rename_i h
    rw [if_neg h] at hi
    simp at hi
def GrAns (w : World) (code side : Int) (rs : Rws) (e : Ending) (w' : World) : Prop :=
  ∃ G n c, e = .returned (.agg #[.int .i64 code, .int .i64 side, .slice G n c]) ∧ Own w' (rowsD rs) (.slice G n c) w.heap.size w'.heap.size ∧ Below w.heap.size w w'
theorem jy_0 (a b c : Int) (W : World) : (Instr.index 100 (.agg #[.int .i64 a, .int .i64 b, .int .i64 c]) (.int .i64 0)).run Tryz.prog W = .ok (.int .i64 a) W := by kernel_rfl
theorem jy_1 (a b c : Int) (W : World) : (Instr.index 100 (.agg #[.int .i64 a, .int .i64 b, .int .i64 c]) (.int .i64 1)).run Tryz.prog W = .ok (.int .i64 b) W := by kernel_rfl
theorem jy_2 (a b c : Int) (W : World) : (Instr.index 100 (.agg #[.int .i64 a, .int .i64 b, .int .i64 c]) (.int .i64 2)).run Tryz.prog W = .ok (.int .i64 c) W := by kernel_rfl
theorem mk3z (W : World) : (Instr.makeSlice 30 (.int .i64 3) (.int .i64 3)).run Tryz.prog W = .ok (.slice (some ⟨W.heap.size, 0, none⟩) 3 3) (W.alloc (.cells #[.int .i64 0, .int .i64 0, .int .i64 0] 2)) := by
  have h := run_make_many (P := Tryz.prog) 30 2 (.int .i64 0) 1 8 Tryz.underlying30 info_i64 .i64 .i64 3 (by omega) (by omega) W
  have e : madeCells (Value.int .i64 0).cells (3 * 1) = #[.int .i64 0, .int .i64 0, .int .i64 0] := by first | kernel_rfl | (simp [madeCells, Value.cells]; rfl)
  rw [e] at h
  exact h
theorem own3L {w : World} {b : Nat} {a0 a1 a2 : Int} (h : Bx w b [.int .i64 a0, .int .i64 a1, .int .i64 a2]) : Own w (.ints .i64 [a0, a1, a2]) (.slice (some ⟨b, 0, none⟩) 3 3) b w.heap.size := by
  obtain ⟨bs, k1, k2, k3⟩ := Hd.of_rd (c := 3) (k := .i64) (xs := [a0, a1, a2]) (w := w) (A := some ⟨b, 0, none⟩) (n := 3) ⟨rfl, fun _ => ⟨b, 0, rfl, fun i hi => by
    match i, hi with
    | 0, _ => simpa using h.c 0 rfl
    | 1, _ => simpa using h.c 1 rfl
    | 2, _ => simpa using h.c 2 rfl⟩⟩ (by omega) (by unfold maxLen; omega)
  refine ⟨bs, k1, k2, fun x hx => ?_⟩
  obtain ⟨_, o, e⟩ := k3 x hx
  injection e with e
  injection e with e1 e2
  subst e1
  exact ⟨Nat.le_refl _, h.lt, h.th⟩
/-- the rows so far, their places behind a name. -/
def RsL (W : World) (base : Nat) (v : Value) (n : Nat) (rs : Rws) : Prop := ∃ V lo hi, RsG W base v n rs W.heap.size V lo hi
theorem RsL.below {W W' : World} {base n : Nat} {v : Value} {rs : Rws} (h : RsL W base v n rs) (hb : Below W.heap.size W W') : RsL W' base v n rs := by
  obtain ⟨V, lo, hi, h⟩ := h
  have h' := h.bel hb
  exact ⟨V, lo, hi, h'.own, h'.len, fun i hi => by
    obtain ⟨a, b, c, d, e⟩ := h'.row i hi
    have := hb.size
    exact ⟨a, b, c, by omega, e⟩, h'.dis, fun g q => by have := h'.vl g q; have := hb.size; omega, by have := h'.bl; have := hb.size; omega, Nat.le_refl _⟩
theorem RsL.keep {W W' : World} {base n : Nat} {v : Value} {rs : Rws} (h : RsL W base v n rs) (hb : ∀ g, base ≤ g → g < W.heap.size → W'.heap[g]? = W.heap[g]?) (hs : W'.heap.size = W.heap.size) : RsL W' base v n rs := by
  obtain ⟨V, lo, hi, h⟩ := h
  have := h.keep hb (by omega)
  exact ⟨V, lo, hi, by rw [hs]; exact this⟩
theorem RsL.fin {W : World} {base n : Nat} {v : Value} {rs : Rws} (h : RsL W base v n rs) : Own W (rowsD rs) v base W.heap.size := by
  obtain ⟨V, lo, hi, h⟩ := h
  exact h.fin
theorem RsL.nil (W : World) (base : Nat) (hb : base ≤ W.heap.size) : RsL W base (.slice none 0 0) 0 [] := ⟨fun _ => undef, fun _ => 0, fun _ => 0, RsG.nil _ _ _ hb (Nat.le_refl _) _ _ _⟩
/-- an append to rows: what comes of it. -/
theorem wpList_append_rsl (w : World) {ops : Array Oper} {rest : List Oper} {o : Oper} {a : Act} {Q : Exit → Act → World → Prop} (hgd : o.guard = none) (s x : Operand)
    (ho : o.op = .call { callee := .builtin .append, args := #[s, x], argTypes := #[23, 23] })
    (w0 : World) (t : TypeId) (base : Nat) (v : Value) (n : Nat) (rs : Rws) (xs : List Int) (y : Value) (lo : Nat) (hs : a.eval s = v) (hw : w = w0.alloc (.cells #[y] t)) (hx : a.eval x = .slice (some ⟨w0.heap.size, 0, none⟩) 1 1)
    (W1 : World) (hW : Below W1.heap.size W1 w0) (h : RsL W1 base v n rs) (hr : Own w0 (.ints .i64 xs) y lo w0.heap.size) (hlo : W1.heap.size ≤ lo) (hlw : lo ≤ w0.heap.size) (hy : y.oneCell' = true) (h63 : n ≤ 1000000)
    (K : ∀ g' c' w', RsL w' base (.slice (some ⟨g', 0, none⟩) (n + 1) c') (n + 1) (rs ++ [xs]) → Below base w w' → wpList Tryz.prog ops Q rest (a.put o.dst (.slice (some ⟨g', 0, none⟩) (n + 1) c')) w') : wpList Tryz.prog ops Q (o :: rest) a w := by
  subst hw
  obtain ⟨V, lo1, hi1, h⟩ := h
  have h0 := h.bel hW
  have hb : base ≤ w0.heap.size := by have := h0.bl; have := h0.ll; omega
  refine wpList_append_rv _ hgd s x ho base v n _ hs (h0.below (blAlloc _ _)).own w0.heap.size 1 y hx (by simp) hy h63 (by simp; omega) ?_
  intro g' c' w' ha
  refine K g' c' w' ⟨_, _, _, h0.next hr hlo hlw (Nat.le_refl _) ha⟩ ?_
  exact gb_low' ha.gb (fun g q => (World.ownsRow.lt h0.own g q).1) (Nat.le_refl _) (by simp; omega)
end Go.Proofs.YtmmlcdbbjkligaaGreat
