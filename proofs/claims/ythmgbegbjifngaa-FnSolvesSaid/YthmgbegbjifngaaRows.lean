/-
  No cell of these rows narrows 'for every input' (looked for: loops, veiled, ifaces, maps, wideKeys, modest, calm, conditions, laid).
  DERIVED. THE GIVEN ROWS OF THIS SEAT. 12 by the template 'for every input the law returns true; each argument reads behind the call as it read before'; 0 by the template 'total and deterministic' (their statements: YthmgbegbjifngaaTotals.lean).
  GIVEN WITH THE SEED: the statements are not yours to turn. If you find one false, say at which input.
  Laid BY PROGRAM, IN A SANDBOX (cutbox-rows.mjs): the forced cells as the released guide's own fill.sh prints them over the translation 9d6c490a0d876a94… (all of the seat's roots in one cut). By AI agents, Wed Nov 11 2026. No macro, syntax, notation, axiom, sorry.
-/
import Derived.Test.YthmgbegbjifngaaChecked
import GoSem.Claim
import GoSem.ClaimJoined
import GoSem.ClaimMapViews
import Derived.JoinedTies
import Derived.KernelRfl
namespace Go.Proofs.Ythmgbegbjifngaa
/- THE CELL 'sum', in the pinned program and in every row, IS THE sha256 OF THE DUMP (.gsa) THAT YthmgbegbjifngaaProg.lean LOADS. Nothing in Lean hashes anything: it is a label: what it is worth is what the hold of that sum in a sandbox is worth. -/
noncomputable def Try.pinned : Pinned := { name := "ythmgbegbjifngaa", sum := "9d6c490a0d876a942e28d57dae2adf343e7057ce295757f422192782813eea7b", checked := Try.checked }
namespace Rows
def none {H : Type} : Left H := { results := [], args := [] }

/-- 'laws.FnProfiles': WHATEVER THE INPUT: true; the input reads as it did. -/
def fnProfilesSpec : ChangeSpec := { name := "fnProfiles", fn := fun _ => fun
  | [d] => { results := [.lit (.bool true)], args := [d] }
  | _ => none }
def fnProfilesRow : OpenClaim := { program := "ythmgbegbjifngaa", sum := "9d6c490a0d876a942e28d57dae2adf343e7057ce295757f422192782813eea7b", func := "loop.example/g00639/laws.FnProfiles", spec := "fnProfiles", unfollowed := true, recurses := true, plainKeys := false, apart := false }
def FnProfilesSaid : Prop := fnProfilesRow.holds Try.pinned (OpenSpec.ofChange fnProfilesSpec)

/-- ITS FALSE NEIGHBOUR: 'it returns false'. Refute it at one input. -/
def fnProfilesWrong : ChangeSpec := { name := "fnProfiles", fn := fun _ => fun
  | [d] => { results := [.lit (.bool false)], args := [d] }
  | _ => none }
def FnProfilesWrongFalsely : Prop := fnProfilesRow.holds Try.pinned (OpenSpec.ofChange fnProfilesWrong)

/-- 'laws.FnSolves': WHATEVER THE INPUT: true; the input reads as it did. -/
def fnSolvesSpec : ChangeSpec := { name := "fnSolves", fn := fun _ => fun
  | [d] => { results := [.lit (.bool true)], args := [d] }
  | _ => none }
def fnSolvesRow : OpenClaim := { program := "ythmgbegbjifngaa", sum := "9d6c490a0d876a942e28d57dae2adf343e7057ce295757f422192782813eea7b", func := "loop.example/g00639/laws.FnSolves", spec := "fnSolves", unfollowed := true, recurses := true, plainKeys := false, apart := false }
def FnSolvesSaid : Prop := fnSolvesRow.holds Try.pinned (OpenSpec.ofChange fnSolvesSpec)

/-- ITS FALSE NEIGHBOUR: 'it returns false'. Refute it at one input. -/
def fnSolvesWrong : ChangeSpec := { name := "fnSolves", fn := fun _ => fun
  | [d] => { results := [.lit (.bool false)], args := [d] }
  | _ => none }
def FnSolvesWrongFalsely : Prop := fnSolvesRow.holds Try.pinned (OpenSpec.ofChange fnSolvesWrong)

/-- 'laws.FnOrders': WHATEVER THE INPUT: true; the input reads as it did. -/
def fnOrdersSpec : ChangeSpec := { name := "fnOrders", fn := fun _ => fun
  | [d] => { results := [.lit (.bool true)], args := [d] }
  | _ => none }
def fnOrdersRow : OpenClaim := { program := "ythmgbegbjifngaa", sum := "9d6c490a0d876a942e28d57dae2adf343e7057ce295757f422192782813eea7b", func := "loop.example/g00639/laws.FnOrders", spec := "fnOrders", unfollowed := true, recurses := true, plainKeys := false, apart := false }
def FnOrdersSaid : Prop := fnOrdersRow.holds Try.pinned (OpenSpec.ofChange fnOrdersSpec)

/-- ITS FALSE NEIGHBOUR: 'it returns false'. Refute it at one input. -/
def fnOrdersWrong : ChangeSpec := { name := "fnOrders", fn := fun _ => fun
  | [d] => { results := [.lit (.bool false)], args := [d] }
  | _ => none }
def FnOrdersWrongFalsely : Prop := fnOrdersRow.holds Try.pinned (OpenSpec.ofChange fnOrdersWrong)

/-- 'laws.FnExactCurveFault': WHATEVER THE INPUT: true; the input reads as it did. -/
def fnExactCurveFaultSpec : ChangeSpec := { name := "fnExactCurveFault", fn := fun _ => fun
  | [d] => { results := [.lit (.bool true)], args := [d] }
  | _ => none }
def fnExactCurveFaultRow : OpenClaim := { program := "ythmgbegbjifngaa", sum := "9d6c490a0d876a942e28d57dae2adf343e7057ce295757f422192782813eea7b", func := "loop.example/g00639/laws.FnExactCurveFault", spec := "fnExactCurveFault", plainKeys := false, apart := false }
def FnExactCurveFaultSaid : Prop := fnExactCurveFaultRow.holds Try.pinned (OpenSpec.ofChange fnExactCurveFaultSpec)

/-- ITS FALSE NEIGHBOUR: 'it returns false'. Refute it at one input. -/
def fnExactCurveFaultWrong : ChangeSpec := { name := "fnExactCurveFault", fn := fun _ => fun
  | [d] => { results := [.lit (.bool false)], args := [d] }
  | _ => none }
def FnExactCurveFaultWrongFalsely : Prop := fnExactCurveFaultRow.holds Try.pinned (OpenSpec.ofChange fnExactCurveFaultWrong)

/-- 'laws.FnExactEvalCurve': WHATEVER THE INPUT: true; the input reads as it did. -/
def fnExactEvalCurveSpec : ChangeSpec := { name := "fnExactEvalCurve", fn := fun _ => fun
  | [d1, d2] => { results := [.lit (.bool true)], args := [d1, d2] }
  | _ => none }
def fnExactEvalCurveRow : OpenClaim := { program := "ythmgbegbjifngaa", sum := "9d6c490a0d876a942e28d57dae2adf343e7057ce295757f422192782813eea7b", func := "loop.example/g00639/laws.FnExactEvalCurve", spec := "fnExactEvalCurve", plainKeys := false, apart := false }
def FnExactEvalCurveSaid : Prop := fnExactEvalCurveRow.holds Try.pinned (OpenSpec.ofChange fnExactEvalCurveSpec)

/-- ITS FALSE NEIGHBOUR: 'it returns false'. Refute it at one input. -/
def fnExactEvalCurveWrong : ChangeSpec := { name := "fnExactEvalCurve", fn := fun _ => fun
  | [d1, d2] => { results := [.lit (.bool false)], args := [d1, d2] }
  | _ => none }
def FnExactEvalCurveWrongFalsely : Prop := fnExactEvalCurveRow.holds Try.pinned (OpenSpec.ofChange fnExactEvalCurveWrong)

/-- 'laws.FnExactIsMonotone': WHATEVER THE INPUT: true; the input reads as it did. -/
def fnExactIsMonotoneSpec : ChangeSpec := { name := "fnExactIsMonotone", fn := fun _ => fun
  | [d] => { results := [.lit (.bool true)], args := [d] }
  | _ => none }
def fnExactIsMonotoneRow : OpenClaim := { program := "ythmgbegbjifngaa", sum := "9d6c490a0d876a942e28d57dae2adf343e7057ce295757f422192782813eea7b", func := "loop.example/g00639/laws.FnExactIsMonotone", spec := "fnExactIsMonotone", unfollowed := true, recurses := true, plainKeys := false, apart := false }
def FnExactIsMonotoneSaid : Prop := fnExactIsMonotoneRow.holds Try.pinned (OpenSpec.ofChange fnExactIsMonotoneSpec)

/-- ITS FALSE NEIGHBOUR: 'it returns false'. Refute it at one input. -/
def fnExactIsMonotoneWrong : ChangeSpec := { name := "fnExactIsMonotone", fn := fun _ => fun
  | [d] => { results := [.lit (.bool false)], args := [d] }
  | _ => none }
def FnExactIsMonotoneWrongFalsely : Prop := fnExactIsMonotoneRow.holds Try.pinned (OpenSpec.ofChange fnExactIsMonotoneWrong)

/-- 'laws.FnExactSolveCurve': WHATEVER THE INPUT: true; the input reads as it did. -/
def fnExactSolveCurveSpec : ChangeSpec := { name := "fnExactSolveCurve", fn := fun _ => fun
  | [d1, d2] => { results := [.lit (.bool true)], args := [d1, d2] }
  | _ => none }
def fnExactSolveCurveRow : OpenClaim := { program := "ythmgbegbjifngaa", sum := "9d6c490a0d876a942e28d57dae2adf343e7057ce295757f422192782813eea7b", func := "loop.example/g00639/laws.FnExactSolveCurve", spec := "fnExactSolveCurve", unfollowed := true, recurses := true, plainKeys := false, apart := false }
def FnExactSolveCurveSaid : Prop := fnExactSolveCurveRow.holds Try.pinned (OpenSpec.ofChange fnExactSolveCurveSpec)

/-- ITS FALSE NEIGHBOUR: 'it returns false'. Refute it at one input. -/
def fnExactSolveCurveWrong : ChangeSpec := { name := "fnExactSolveCurve", fn := fun _ => fun
  | [d1, d2] => { results := [.lit (.bool false)], args := [d1, d2] }
  | _ => none }
def FnExactSolveCurveWrongFalsely : Prop := fnExactSolveCurveRow.holds Try.pinned (OpenSpec.ofChange fnExactSolveCurveWrong)

/-- 'laws.FnExactSlopeOf': WHATEVER THE INPUT: true; the input reads as it did. -/
def fnExactSlopeOfSpec : ChangeSpec := { name := "fnExactSlopeOf", fn := fun _ => fun
  | [d] => { results := [.lit (.bool true)], args := [d] }
  | _ => none }
def fnExactSlopeOfRow : OpenClaim := { program := "ythmgbegbjifngaa", sum := "9d6c490a0d876a942e28d57dae2adf343e7057ce295757f422192782813eea7b", func := "loop.example/g00639/laws.FnExactSlopeOf", spec := "fnExactSlopeOf", unfollowed := true, recurses := true, plainKeys := false, apart := false }
def FnExactSlopeOfSaid : Prop := fnExactSlopeOfRow.holds Try.pinned (OpenSpec.ofChange fnExactSlopeOfSpec)

/-- ITS FALSE NEIGHBOUR: 'it returns false'. Refute it at one input. -/
def fnExactSlopeOfWrong : ChangeSpec := { name := "fnExactSlopeOf", fn := fun _ => fun
  | [d] => { results := [.lit (.bool false)], args := [d] }
  | _ => none }
def FnExactSlopeOfWrongFalsely : Prop := fnExactSlopeOfRow.holds Try.pinned (OpenSpec.ofChange fnExactSlopeOfWrong)

/-- 'laws.FnExactLineCurve': WHATEVER THE INPUT: true; the input reads as it did. -/
def fnExactLineCurveSpec : ChangeSpec := { name := "fnExactLineCurve", fn := fun _ => fun
  | [d] => { results := [.lit (.bool true)], args := [d] }
  | _ => none }
def fnExactLineCurveRow : OpenClaim := { program := "ythmgbegbjifngaa", sum := "9d6c490a0d876a942e28d57dae2adf343e7057ce295757f422192782813eea7b", func := "loop.example/g00639/laws.FnExactLineCurve", spec := "fnExactLineCurve", plainKeys := false, apart := false }
def FnExactLineCurveSaid : Prop := fnExactLineCurveRow.holds Try.pinned (OpenSpec.ofChange fnExactLineCurveSpec)

/-- ITS FALSE NEIGHBOUR: 'it returns false'. Refute it at one input. -/
def fnExactLineCurveWrong : ChangeSpec := { name := "fnExactLineCurve", fn := fun _ => fun
  | [d] => { results := [.lit (.bool false)], args := [d] }
  | _ => none }
def FnExactLineCurveWrongFalsely : Prop := fnExactLineCurveRow.holds Try.pinned (OpenSpec.ofChange fnExactLineCurveWrong)

/-- 'laws.FnExactPackCurve': WHATEVER THE INPUT: true; the input reads as it did. -/
def fnExactPackCurveSpec : ChangeSpec := { name := "fnExactPackCurve", fn := fun _ => fun
  | [d] => { results := [.lit (.bool true)], args := [d] }
  | _ => none }
def fnExactPackCurveRow : OpenClaim := { program := "ythmgbegbjifngaa", sum := "9d6c490a0d876a942e28d57dae2adf343e7057ce295757f422192782813eea7b", func := "loop.example/g00639/laws.FnExactPackCurve", spec := "fnExactPackCurve", plainKeys := false, apart := false }
def FnExactPackCurveSaid : Prop := fnExactPackCurveRow.holds Try.pinned (OpenSpec.ofChange fnExactPackCurveSpec)

/-- ITS FALSE NEIGHBOUR: 'it returns false'. Refute it at one input. -/
def fnExactPackCurveWrong : ChangeSpec := { name := "fnExactPackCurve", fn := fun _ => fun
  | [d] => { results := [.lit (.bool false)], args := [d] }
  | _ => none }
def FnExactPackCurveWrongFalsely : Prop := fnExactPackCurveRow.holds Try.pinned (OpenSpec.ofChange fnExactPackCurveWrong)

/-- 'laws.FnExactReadCurve': WHATEVER THE INPUT: true; the input reads as it did. -/
def fnExactReadCurveSpec : ChangeSpec := { name := "fnExactReadCurve", fn := fun _ => fun
  | [d] => { results := [.lit (.bool true)], args := [d] }
  | _ => none }
def fnExactReadCurveRow : OpenClaim := { program := "ythmgbegbjifngaa", sum := "9d6c490a0d876a942e28d57dae2adf343e7057ce295757f422192782813eea7b", func := "loop.example/g00639/laws.FnExactReadCurve", spec := "fnExactReadCurve", plainKeys := false, apart := false }
def FnExactReadCurveSaid : Prop := fnExactReadCurveRow.holds Try.pinned (OpenSpec.ofChange fnExactReadCurveSpec)

/-- ITS FALSE NEIGHBOUR: 'it returns false'. Refute it at one input. -/
def fnExactReadCurveWrong : ChangeSpec := { name := "fnExactReadCurve", fn := fun _ => fun
  | [d] => { results := [.lit (.bool false)], args := [d] }
  | _ => none }
def FnExactReadCurveWrongFalsely : Prop := fnExactReadCurveRow.holds Try.pinned (OpenSpec.ofChange fnExactReadCurveWrong)

/-- 'laws.FnExactSameCurves': WHATEVER THE INPUT: true; the input reads as it did. -/
def fnExactSameCurvesSpec : ChangeSpec := { name := "fnExactSameCurves", fn := fun _ => fun
  | [d1, d2] => { results := [.lit (.bool true)], args := [d1, d2] }
  | _ => none }
def fnExactSameCurvesRow : OpenClaim := { program := "ythmgbegbjifngaa", sum := "9d6c490a0d876a942e28d57dae2adf343e7057ce295757f422192782813eea7b", func := "loop.example/g00639/laws.FnExactSameCurves", spec := "fnExactSameCurves", plainKeys := false, apart := false }
def FnExactSameCurvesSaid : Prop := fnExactSameCurvesRow.holds Try.pinned (OpenSpec.ofChange fnExactSameCurvesSpec)

/-- ITS FALSE NEIGHBOUR: 'it returns false'. Refute it at one input. -/
def fnExactSameCurvesWrong : ChangeSpec := { name := "fnExactSameCurves", fn := fun _ => fun
  | [d1, d2] => { results := [.lit (.bool false)], args := [d1, d2] }
  | _ => none }
def FnExactSameCurvesWrongFalsely : Prop := fnExactSameCurvesRow.holds Try.pinned (OpenSpec.ofChange fnExactSameCurvesWrong)

/- THE SECOND FORM. 'bulk': how many values and letters a reading holds, each counted each time it is reached (what is shared counts as often as it is met; a slice's spare places count too). A statement '..UptoSaid' is the law's where the arguments, and the package variables that the reading takes, are together of bulk at most 1048576: NARROWER than '..Said'. Prove '..Said' where nothing that the law and all that it calls make is longer than what came in: it says more and counts as full. Else prove '..UptoSaid'. A law counts once. -/
mutual
def uptoBulk {H : Type} : DataW H → Nat
  | .lit (.string bytes) => bytes.length + 1
  | .lit _ => 1
  | .nil => 1
  | .ptr d => uptoBulk d + 1
  | .slice elems spare => uptoBulkAll elems + uptoBulkAll spare + 1
  | .agg parts => uptoBulkAll parts + 1
  | .iface _ d => uptoBulk d + 1
  | .map entries => uptoBulkEntries entries + 1
  | .held _ => 1
def uptoBulkAll {H : Type} : List (DataW H) → Nat
  | [] => 0
  | d :: r => uptoBulk d + uptoBulkAll r
def uptoBulkEntries {H : Type} : List (Lit × DataW H) → Nat
  | [] => 0
  | x :: r => uptoBulkEntry x + uptoBulkEntries r
def uptoBulkEntry {H : Type} : Lit × DataW H → Nat
  | (.string bytes, d) => bytes.length + uptoBulk d + 1
  | (_, d) => uptoBulk d + 1
 end
def uptoSmall : (H : Type) → List (DataW H) → Bool := fun _ ds => decide (uptoBulkAll ds ≤ 1048576)
def OpenSpec.upto (s : _root_.Go.ChangeSpec) : _root_.Go.OpenSpec := { _root_.Go.OpenSpec.ofChange s with cond := some uptoSmall }

/-- 'laws.FnProfiles', WHERE WHAT IT READS IS OF BULK AT MOST 1048576: true; the input reads as it did. -/
def fnProfilesUptoRow : OpenClaim := { program := "ythmgbegbjifngaa", sum := "9d6c490a0d876a942e28d57dae2adf343e7057ce295757f422192782813eea7b", func := "loop.example/g00639/laws.FnProfiles", spec := "fnProfiles", unfollowed := true, recurses := true, plainKeys := false, apart := false, narrowed := true }
def FnProfilesUptoSaid : Prop := fnProfilesUptoRow.holds Try.pinned (OpenSpec.upto fnProfilesSpec)

/-- 'laws.FnSolves', WHERE WHAT IT READS IS OF BULK AT MOST 1048576: true; the input reads as it did. -/
def fnSolvesUptoRow : OpenClaim := { program := "ythmgbegbjifngaa", sum := "9d6c490a0d876a942e28d57dae2adf343e7057ce295757f422192782813eea7b", func := "loop.example/g00639/laws.FnSolves", spec := "fnSolves", unfollowed := true, recurses := true, plainKeys := false, apart := false, narrowed := true }
def FnSolvesUptoSaid : Prop := fnSolvesUptoRow.holds Try.pinned (OpenSpec.upto fnSolvesSpec)

/-- 'laws.FnOrders', WHERE WHAT IT READS IS OF BULK AT MOST 1048576: true; the input reads as it did. -/
def fnOrdersUptoRow : OpenClaim := { program := "ythmgbegbjifngaa", sum := "9d6c490a0d876a942e28d57dae2adf343e7057ce295757f422192782813eea7b", func := "loop.example/g00639/laws.FnOrders", spec := "fnOrders", unfollowed := true, recurses := true, plainKeys := false, apart := false, narrowed := true }
def FnOrdersUptoSaid : Prop := fnOrdersUptoRow.holds Try.pinned (OpenSpec.upto fnOrdersSpec)

/-- 'laws.FnExactCurveFault', WHERE WHAT IT READS IS OF BULK AT MOST 1048576: true; the input reads as it did. -/
def fnExactCurveFaultUptoRow : OpenClaim := { program := "ythmgbegbjifngaa", sum := "9d6c490a0d876a942e28d57dae2adf343e7057ce295757f422192782813eea7b", func := "loop.example/g00639/laws.FnExactCurveFault", spec := "fnExactCurveFault", plainKeys := false, apart := false, narrowed := true }
def FnExactCurveFaultUptoSaid : Prop := fnExactCurveFaultUptoRow.holds Try.pinned (OpenSpec.upto fnExactCurveFaultSpec)

/-- 'laws.FnExactEvalCurve', WHERE WHAT IT READS IS OF BULK AT MOST 1048576: true; the input reads as it did. -/
def fnExactEvalCurveUptoRow : OpenClaim := { program := "ythmgbegbjifngaa", sum := "9d6c490a0d876a942e28d57dae2adf343e7057ce295757f422192782813eea7b", func := "loop.example/g00639/laws.FnExactEvalCurve", spec := "fnExactEvalCurve", plainKeys := false, apart := false, narrowed := true }
def FnExactEvalCurveUptoSaid : Prop := fnExactEvalCurveUptoRow.holds Try.pinned (OpenSpec.upto fnExactEvalCurveSpec)

/-- 'laws.FnExactIsMonotone', WHERE WHAT IT READS IS OF BULK AT MOST 1048576: true; the input reads as it did. -/
def fnExactIsMonotoneUptoRow : OpenClaim := { program := "ythmgbegbjifngaa", sum := "9d6c490a0d876a942e28d57dae2adf343e7057ce295757f422192782813eea7b", func := "loop.example/g00639/laws.FnExactIsMonotone", spec := "fnExactIsMonotone", unfollowed := true, recurses := true, plainKeys := false, apart := false, narrowed := true }
def FnExactIsMonotoneUptoSaid : Prop := fnExactIsMonotoneUptoRow.holds Try.pinned (OpenSpec.upto fnExactIsMonotoneSpec)

/-- 'laws.FnExactSolveCurve', WHERE WHAT IT READS IS OF BULK AT MOST 1048576: true; the input reads as it did. -/
def fnExactSolveCurveUptoRow : OpenClaim := { program := "ythmgbegbjifngaa", sum := "9d6c490a0d876a942e28d57dae2adf343e7057ce295757f422192782813eea7b", func := "loop.example/g00639/laws.FnExactSolveCurve", spec := "fnExactSolveCurve", unfollowed := true, recurses := true, plainKeys := false, apart := false, narrowed := true }
def FnExactSolveCurveUptoSaid : Prop := fnExactSolveCurveUptoRow.holds Try.pinned (OpenSpec.upto fnExactSolveCurveSpec)

/-- 'laws.FnExactSlopeOf', WHERE WHAT IT READS IS OF BULK AT MOST 1048576: true; the input reads as it did. -/
def fnExactSlopeOfUptoRow : OpenClaim := { program := "ythmgbegbjifngaa", sum := "9d6c490a0d876a942e28d57dae2adf343e7057ce295757f422192782813eea7b", func := "loop.example/g00639/laws.FnExactSlopeOf", spec := "fnExactSlopeOf", unfollowed := true, recurses := true, plainKeys := false, apart := false, narrowed := true }
def FnExactSlopeOfUptoSaid : Prop := fnExactSlopeOfUptoRow.holds Try.pinned (OpenSpec.upto fnExactSlopeOfSpec)

/-- 'laws.FnExactLineCurve', WHERE WHAT IT READS IS OF BULK AT MOST 1048576: true; the input reads as it did. -/
def fnExactLineCurveUptoRow : OpenClaim := { program := "ythmgbegbjifngaa", sum := "9d6c490a0d876a942e28d57dae2adf343e7057ce295757f422192782813eea7b", func := "loop.example/g00639/laws.FnExactLineCurve", spec := "fnExactLineCurve", plainKeys := false, apart := false, narrowed := true }
def FnExactLineCurveUptoSaid : Prop := fnExactLineCurveUptoRow.holds Try.pinned (OpenSpec.upto fnExactLineCurveSpec)

/-- 'laws.FnExactPackCurve', WHERE WHAT IT READS IS OF BULK AT MOST 1048576: true; the input reads as it did. -/
def fnExactPackCurveUptoRow : OpenClaim := { program := "ythmgbegbjifngaa", sum := "9d6c490a0d876a942e28d57dae2adf343e7057ce295757f422192782813eea7b", func := "loop.example/g00639/laws.FnExactPackCurve", spec := "fnExactPackCurve", plainKeys := false, apart := false, narrowed := true }
def FnExactPackCurveUptoSaid : Prop := fnExactPackCurveUptoRow.holds Try.pinned (OpenSpec.upto fnExactPackCurveSpec)

/-- 'laws.FnExactReadCurve', WHERE WHAT IT READS IS OF BULK AT MOST 1048576: true; the input reads as it did. -/
def fnExactReadCurveUptoRow : OpenClaim := { program := "ythmgbegbjifngaa", sum := "9d6c490a0d876a942e28d57dae2adf343e7057ce295757f422192782813eea7b", func := "loop.example/g00639/laws.FnExactReadCurve", spec := "fnExactReadCurve", plainKeys := false, apart := false, narrowed := true }
def FnExactReadCurveUptoSaid : Prop := fnExactReadCurveUptoRow.holds Try.pinned (OpenSpec.upto fnExactReadCurveSpec)

/-- 'laws.FnExactSameCurves', WHERE WHAT IT READS IS OF BULK AT MOST 1048576: true; the input reads as it did. -/
def fnExactSameCurvesUptoRow : OpenClaim := { program := "ythmgbegbjifngaa", sum := "9d6c490a0d876a942e28d57dae2adf343e7057ce295757f422192782813eea7b", func := "loop.example/g00639/laws.FnExactSameCurves", spec := "fnExactSameCurves", plainKeys := false, apart := false, narrowed := true }
def FnExactSameCurvesUptoSaid : Prop := fnExactSameCurvesUptoRow.holds Try.pinned (OpenSpec.upto fnExactSameCurvesSpec)

end Rows
end Go.Proofs.Ythmgbegbjifngaa
