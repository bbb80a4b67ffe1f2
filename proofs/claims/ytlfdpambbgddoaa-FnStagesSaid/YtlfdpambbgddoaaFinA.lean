/-
  A stage at fine numbers by the reference model: l7FineCurve, l7FineMatrix, l7FineGrid, l7Fine, FineStage.
-/
import Derived.Test.YtlfdpambbgddoaaStpB
import Derived.Test.YtlfdpambbgddoaaMatQ
import Derived.Test.YtlfdpambbgddoaaGrdB
import Derived.StillTailTactics
namespace Go.Proofs.Ytlfdpambbgddoaa
open Go.RowKit Go.Maps
set_option linter.unusedVariables false
set_option linter.unusedSimpArgs false

/-- the sums, in fine numbers. -/
def sF (rs : Rws) (sd : Int) (c r : Nat → Int) (t i : Nat) : Int := smT 16776960 rs sd c r t i * 256
structure EvF (w W : World) (pb rb ab sb : Nat) (rs : Rws) (s : Nat) (c r : Nat → Int) (t : Nat) : Prop where
  hp : t ≤ 3 → Bx W pb (rv (pl c r t))
  hr : Bx W rb (rv r)
  ha : Bx W ab (oax r)
  hs : Bx W sb (rv (sF rs s c r t))
  ne : pb ≠ rb ∧ pb ≠ ab ∧ pb ≠ sb ∧ sb ≠ rb ∧ sb ≠ ab
  ge : w.heap.size ≤ pb ∧ w.heap.size ≤ sb
  b : Below w.heap.size w W
/-- what a step of the way wants to know. -/
structure EvL (w : World) (g q : Nat) (A : Option Addr) (n c : Nat) (rs : Rws) (s : Nat) (cx r : Nat → Int) : Prop where
  nd : ∀ t, t ≤ 3 → Lv (ndv rs s (pl cx r t))
  sb : ∀ t i, t ≤ 4 → i < 3 → -1200000000000000 ≤ sF rs s cx r t i ∧ sF rs s cx r t i ≤ 1200000000000000
  nod : ∀ t, t ≤ 3 → ∀ W, Below w.heap.size w W → ∀ b d, Bx W b (rv (pl cx r t)) → Calls Try.prog 106 #[.pointer (some ⟨g, q, none⟩), .slice (some ⟨b, 0, none⟩) 3 d] W fun e w' => ∃ b o C m, e = .returned (.slice (some ⟨b, o, none⟩) 3 C) ∧ (∀ j, j < 3 → w'.cell? ⟨b, o + j, none⟩ = some (.int .i64 (ndv rs s (pl cx r t) j))) ∧ b < w.heap.size ∧ w' = W.drewN m
  pb : ∀ t, t ≤ 3 → ∀ j, j < 3 → 0 ≤ pl cx r t j ∧ pl cx r t j ≤ 1000
  hr : LvT 16776960 r
  lf : ∀ t, 0 ≤ lftT 16776960 r t ∧ lftT 16776960 r t ≤ 16776960
theorem EvL.of {w : World} {g q : Nat} {A : Option Addr} {n c : Nat} {rs : Rws} {s : Nat} {cx r : Nat → Int} {bs : List Nat} (h : Hd w (rowsD rs) (.slice A n c) bs) (hg0 : w.cell? ⟨g, q, none⟩ = some (.int .i64 (s : Int))) (hg1 : w.cell? ⟨g, q + 1, none⟩ = some (.slice A n c)) (h0 : gf (s : Int) rs = 0)
    (hin : ∀ t, t ≤ 3 → inS (s : Int) [pl cx r t 0, pl cx r t 1, pl cx r t 2] = true) (hr : LvT 16776960 r) : EvL w g q A n c rs s cx r := by
  have hnd : ∀ t, t ≤ 3 → Lv (ndv rs s (pl cx r t)) := fun t ht => ndv_bd h0 (hin t ht)
  obtain ⟨hs, hlen, hrow⟩ := gf_zero h0
  have h3 : s = 2 ∨ s = 3 ∨ s = 4 := by rcases side_cases hs with e | e | e <;> omega
  have hNI : ((s * s * s : Nat) : Int) = (s : Int) * s * s := by simp
  have hNN : rs.length = s * s * s := by rw [← hNI] at hlen; omega
  have hln := h.rows.1
  have hib : ∀ t, t ≤ 3 → ∀ j, j < 3 → 0 ≤ pl cx r t j ∧ pl cx r t j ≤ 3 := fun t ht j hj => by
    have hs := inB_iff.1 hs
    obtain ⟨a0, a1, a2⟩ := inS_iff.1 (hin t ht)
    simp only [List.getD_cons_zero, List.getD_cons_succ] at a0 a1 a2
    match j, hj with
    | 0, _ => omega
    | 1, _ => omega
    | 2, _ => omega
  refine ⟨hnd, fun t i ht hi => by have := smT_bd (.inr rfl) hr hnd hi t ht; unfold sF; omega, fun t ht W hW b d hb => ?_, fun t ht j hj => by have := hib t ht j hj; omega, hr, fun t => lftT_bd (.inr rfl) hr t⟩
  obtain ⟨t1, t2, -⟩ := nd_yes h3 (hin t ht)
  simp only [List.getD_cons_zero, List.getD_cons_succ] at t2
  have hl3 := (lf_zero (hrow (ndI s [pl cx r t 0, pl cx r t 1, pl cx r t 2]) (by rw [hNN]; exact t1))).1
  have htn : ndI (s : Int) [pl cx r t 0, pl cx r t 1, pl cx r t 2] < n := by rw [← hln, hNN]; exact t1
  obtain ⟨b', o', B1, L1, C1, g1, rfl, y1, y3, -⟩ := h.row htn
  have hr3 := y3.rd
  obtain rfl : L1 = 3 := by rw [← hr3.1, hl3]
  obtain ⟨b1, o1, rfl, hc⟩ := hr3.2 (by omega)
  have hlb := cell_lt (hc 0 (by omega))
  have hmx := h.rows.2
  refine (sNode5o_any g q b' o' n c b1 o1 C1 s b d _ (pl cx r t) W (cell_later hW hg0) (cell_later hW hg1) (cell_later hW y1) (by have := hmx.2.1; unfold maxLen at this; omega) hb htn t2.symm (side_cases hs) (hib t ht 0 (by omega)) (hib t ht 1 (by omega)) (hib t ht 2 (by omega))).mono ?_
  rintro e w' ⟨rfl, m, rfl⟩
  exact ⟨b1, o1, C1, m, rfl, fun j hj => cell_later (below_drewN _ _ _) (cell_later hW (hc j hj)), hlb, rfl⟩
theorem still_rnd (a b : Int) (w : World) (hb : 0 < b) (hb2 : b ≤ 1000000000000000000) (h1 : -1000000000000000000 ≤ a) (h2 : a ≤ 1000000000000000000) :
    Calls Try.prog 83 #[.int .i64 a, .int .i64 b] w fun e w' => e = .returned (.int .i64 (rnd a b)) ∧ w' = w := (sRound_any a b w hb hb2 h1 h2).mono fun e w' ⟨he, hw⟩ => ⟨he, hw.symm⟩
end Go.Proofs.Ytlfdpambbgddoaa
