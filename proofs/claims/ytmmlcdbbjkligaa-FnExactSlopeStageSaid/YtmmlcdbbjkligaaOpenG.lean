/-
  Grids as the frame hands them, as data in known blocks.
-/
import Derived.Test.YtmmlcdbbjkligaaOpenM
namespace Go.Proofs.Ytmmlcdbbjkligaa
open Go.RowKit Go.ChangeShapes Go.WideShapes Go.Deep Go.Joins
set_option linter.unusedVariables false

section
variable {H : Type} {enc : TypeId × Value → H} {w : World} {base : Nat} {spare : Nat → Bool} {held : Bool}
set_option maxRecDepth 100000 in
theorem open_grid {r : Reach} {b0 : Nat} {v : Value} {d : DataW H} {p : List MemPlace} (hv : Value.okWide Try.prog w r b0 27 v) (h : DataW.Trod enc Try.prog w base spare held 27 v d p) :
    ∃ sd A n c rs bs, v = .agg #[.int .i64 sd, .slice A n c] ∧ Hd w (rowsD rs) (.slice A n c) bs ∧ I64R rs ∧ (Lit.int .i64 sd).wf = true := by
  obtain ⟨v0, v1, y0, y1, n, rfl, _, _, t0, t1⟩ := open_agg2 Try.underlying27 (by kernel_rfl) (by kernel_rfl) hv h
  obtain ⟨sd, h0, _, hw⟩ := DataW.trod_int Try.underlying2 t0
  obtain rfl : v0 = .int .i64 sd := by simpa using h0
  obtain ⟨A, n, c, rs, bs, rfl, hd, h2⟩ := open_rows t1
  exact ⟨sd, A, n, c, rs, bs, rfl, hd, h2, hw⟩
end
end Go.Proofs.Ytmmlcdbbjkligaa
