/-
  No cell of these rows narrows 'for every input' (looked for: loops, veiled, ifaces, maps, wideKeys, modest, calm, conditions, laid).
  DERIVED. THE GIVEN ROWS OF THIS SEAT. 12 by the template 'for every input the law returns true; each argument reads behind the call as it read before'; 0 by the template 'total and deterministic' (their statements: YtkkfknpeohjjdaaTotals.lean).
  GIVEN WITH THE SEED: the statements are not yours to turn. If you find one false, say at which input.
  Laid BY PROGRAM, IN A SANDBOX (cutbox-rows.mjs): the forced cells as the released guide's own fill.sh prints them over the translation 241f8ba14c9240a9… (all of the seat's roots in one cut). By AI agents, Wed Nov 11 2026. No macro, syntax, notation, axiom, sorry.
-/
import Derived.Test.YtkkfknpeohjjdaaChecked
import GoSem.Claim
import GoSem.ClaimJoined
import GoSem.ClaimMapViews
import Derived.JoinedTies
import Derived.KernelRfl
namespace Go.Proofs.Ytkkfknpeohjjdaa
/- THE CELL 'sum', in the pinned program and in every row, IS THE sha256 OF THE DUMP (.gsa) THAT YtkkfknpeohjjdaaProg.lean LOADS. Nothing in Lean hashes anything: it is a label: what it is worth is what the hold of that sum in a sandbox is worth. -/
noncomputable def Try.pinned : Pinned := { name := "ytkkfknpeohjjdaa", sum := "241f8ba14c9240a9968792d6397e9fcabae9f5acb4b220805262f5331cff72de", checked := Try.checked }
namespace Rows
def none {H : Type} : Left H := { results := [], args := [] }

/-- 'laws.FnExactApplyMatrix': WHATEVER THE INPUT: true; the input reads as it did. -/
def fnExactApplyMatrixSpec : ChangeSpec := { name := "fnExactApplyMatrix", fn := fun _ => fun
  | [d1, d2] => { results := [.lit (.bool true)], args := [d1, d2] }
  | _ => none }
def fnExactApplyMatrixRow : OpenClaim := { program := "ytkkfknpeohjjdaa", sum := "241f8ba14c9240a9968792d6397e9fcabae9f5acb4b220805262f5331cff72de", func := "loop.example/g00639/laws.FnExactApplyMatrix", spec := "fnExactApplyMatrix", plainKeys := false, apart := false }
def FnExactApplyMatrixSaid : Prop := fnExactApplyMatrixRow.holds Try.pinned (OpenSpec.ofChange fnExactApplyMatrixSpec)

/-- ITS FALSE NEIGHBOUR: 'it returns false'. Refute it at one input. -/
def fnExactApplyMatrixWrong : ChangeSpec := { name := "fnExactApplyMatrix", fn := fun _ => fun
  | [d1, d2] => { results := [.lit (.bool false)], args := [d1, d2] }
  | _ => none }
def FnExactApplyMatrixWrongFalsely : Prop := fnExactApplyMatrixRow.holds Try.pinned (OpenSpec.ofChange fnExactApplyMatrixWrong)

/-- 'laws.FnExactGridFault': WHATEVER THE INPUT: true; the input reads as it did. -/
def fnExactGridFaultSpec : ChangeSpec := { name := "fnExactGridFault", fn := fun _ => fun
  | [d] => { results := [.lit (.bool true)], args := [d] }
  | _ => none }
def fnExactGridFaultRow : OpenClaim := { program := "ytkkfknpeohjjdaa", sum := "241f8ba14c9240a9968792d6397e9fcabae9f5acb4b220805262f5331cff72de", func := "loop.example/g00639/laws.FnExactGridFault", spec := "fnExactGridFault", plainKeys := false, apart := false }
def FnExactGridFaultSaid : Prop := fnExactGridFaultRow.holds Try.pinned (OpenSpec.ofChange fnExactGridFaultSpec)

/-- ITS FALSE NEIGHBOUR: 'it returns false'. Refute it at one input. -/
def fnExactGridFaultWrong : ChangeSpec := { name := "fnExactGridFault", fn := fun _ => fun
  | [d] => { results := [.lit (.bool false)], args := [d] }
  | _ => none }
def FnExactGridFaultWrongFalsely : Prop := fnExactGridFaultRow.holds Try.pinned (OpenSpec.ofChange fnExactGridFaultWrong)

/-- 'laws.FnExactCellOf': WHATEVER THE INPUT: true; the input reads as it did. -/
def fnExactCellOfSpec : ChangeSpec := { name := "fnExactCellOf", fn := fun _ => fun
  | [d1, d2] => { results := [.lit (.bool true)], args := [d1, d2] }
  | _ => none }
def fnExactCellOfRow : OpenClaim := { program := "ytkkfknpeohjjdaa", sum := "241f8ba14c9240a9968792d6397e9fcabae9f5acb4b220805262f5331cff72de", func := "loop.example/g00639/laws.FnExactCellOf", spec := "fnExactCellOf", plainKeys := false, apart := false }
def FnExactCellOfSaid : Prop := fnExactCellOfRow.holds Try.pinned (OpenSpec.ofChange fnExactCellOfSpec)

/-- ITS FALSE NEIGHBOUR: 'it returns false'. Refute it at one input. -/
def fnExactCellOfWrong : ChangeSpec := { name := "fnExactCellOf", fn := fun _ => fun
  | [d1, d2] => { results := [.lit (.bool false)], args := [d1, d2] }
  | _ => none }
def FnExactCellOfWrongFalsely : Prop := fnExactCellOfRow.holds Try.pinned (OpenSpec.ofChange fnExactCellOfWrong)

/-- 'laws.FnExactLineGrid': WHATEVER THE INPUT: true; the input reads as it did. -/
def fnExactLineGridSpec : ChangeSpec := { name := "fnExactLineGrid", fn := fun _ => fun
  | [d] => { results := [.lit (.bool true)], args := [d] }
  | _ => none }
def fnExactLineGridRow : OpenClaim := { program := "ytkkfknpeohjjdaa", sum := "241f8ba14c9240a9968792d6397e9fcabae9f5acb4b220805262f5331cff72de", func := "loop.example/g00639/laws.FnExactLineGrid", spec := "fnExactLineGrid", plainKeys := false, apart := false }
def FnExactLineGridSaid : Prop := fnExactLineGridRow.holds Try.pinned (OpenSpec.ofChange fnExactLineGridSpec)

/-- ITS FALSE NEIGHBOUR: 'it returns false'. Refute it at one input. -/
def fnExactLineGridWrong : ChangeSpec := { name := "fnExactLineGrid", fn := fun _ => fun
  | [d] => { results := [.lit (.bool false)], args := [d] }
  | _ => none }
def FnExactLineGridWrongFalsely : Prop := fnExactLineGridRow.holds Try.pinned (OpenSpec.ofChange fnExactLineGridWrong)

/-- 'laws.FnExactNodeOf': WHATEVER THE INPUT: true; the input reads as it did. -/
def fnExactNodeOfSpec : ChangeSpec := { name := "fnExactNodeOf", fn := fun _ => fun
  | [d1, d2] => { results := [.lit (.bool true)], args := [d1, d2] }
  | _ => none }
def fnExactNodeOfRow : OpenClaim := { program := "ytkkfknpeohjjdaa", sum := "241f8ba14c9240a9968792d6397e9fcabae9f5acb4b220805262f5331cff72de", func := "loop.example/g00639/laws.FnExactNodeOf", spec := "fnExactNodeOf", plainKeys := false, apart := false }
def FnExactNodeOfSaid : Prop := fnExactNodeOfRow.holds Try.pinned (OpenSpec.ofChange fnExactNodeOfSpec)

/-- ITS FALSE NEIGHBOUR: 'it returns false'. Refute it at one input. -/
def fnExactNodeOfWrong : ChangeSpec := { name := "fnExactNodeOf", fn := fun _ => fun
  | [d1, d2] => { results := [.lit (.bool false)], args := [d1, d2] }
  | _ => none }
def FnExactNodeOfWrongFalsely : Prop := fnExactNodeOfRow.holds Try.pinned (OpenSpec.ofChange fnExactNodeOfWrong)

/-- 'laws.FnExactSpanOf': WHATEVER THE INPUT: true; the input reads as it did. -/
def fnExactSpanOfSpec : ChangeSpec := { name := "fnExactSpanOf", fn := fun _ => fun
  | [d] => { results := [.lit (.bool true)], args := [d] }
  | _ => none }
def fnExactSpanOfRow : OpenClaim := { program := "ytkkfknpeohjjdaa", sum := "241f8ba14c9240a9968792d6397e9fcabae9f5acb4b220805262f5331cff72de", func := "loop.example/g00639/laws.FnExactSpanOf", spec := "fnExactSpanOf", plainKeys := false, apart := false }
def FnExactSpanOfSaid : Prop := fnExactSpanOfRow.holds Try.pinned (OpenSpec.ofChange fnExactSpanOfSpec)

/-- ITS FALSE NEIGHBOUR: 'it returns false'. Refute it at one input. -/
def fnExactSpanOfWrong : ChangeSpec := { name := "fnExactSpanOf", fn := fun _ => fun
  | [d] => { results := [.lit (.bool false)], args := [d] }
  | _ => none }
def FnExactSpanOfWrongFalsely : Prop := fnExactSpanOfRow.holds Try.pinned (OpenSpec.ofChange fnExactSpanOfWrong)

/-- 'laws.FnExactSameGrids': WHATEVER THE INPUT: true; the input reads as it did. -/
def fnExactSameGridsSpec : ChangeSpec := { name := "fnExactSameGrids", fn := fun _ => fun
  | [d1, d2] => { results := [.lit (.bool true)], args := [d1, d2] }
  | _ => none }
def fnExactSameGridsRow : OpenClaim := { program := "ytkkfknpeohjjdaa", sum := "241f8ba14c9240a9968792d6397e9fcabae9f5acb4b220805262f5331cff72de", func := "loop.example/g00639/laws.FnExactSameGrids", spec := "fnExactSameGrids", unfollowed := true, recurses := true, plainKeys := false, apart := false }
def FnExactSameGridsSaid : Prop := fnExactSameGridsRow.holds Try.pinned (OpenSpec.ofChange fnExactSameGridsSpec)

/-- ITS FALSE NEIGHBOUR: 'it returns false'. Refute it at one input. -/
def fnExactSameGridsWrong : ChangeSpec := { name := "fnExactSameGrids", fn := fun _ => fun
  | [d1, d2] => { results := [.lit (.bool false)], args := [d1, d2] }
  | _ => none }
def FnExactSameGridsWrongFalsely : Prop := fnExactSameGridsRow.holds Try.pinned (OpenSpec.ofChange fnExactSameGridsWrong)

/-- 'laws.FnExactEvalGrid': WHATEVER THE INPUT: true; the input reads as it did. -/
def fnExactEvalGridSpec : ChangeSpec := { name := "fnExactEvalGrid", fn := fun _ => fun
  | [d1, d2] => { results := [.lit (.bool true)], args := [d1, d2] }
  | _ => none }
def fnExactEvalGridRow : OpenClaim := { program := "ytkkfknpeohjjdaa", sum := "241f8ba14c9240a9968792d6397e9fcabae9f5acb4b220805262f5331cff72de", func := "loop.example/g00639/laws.FnExactEvalGrid", spec := "fnExactEvalGrid", unfollowed := true, recurses := true, plainKeys := false, apart := false }
def FnExactEvalGridSaid : Prop := fnExactEvalGridRow.holds Try.pinned (OpenSpec.ofChange fnExactEvalGridSpec)

/-- ITS FALSE NEIGHBOUR: 'it returns false'. Refute it at one input. -/
def fnExactEvalGridWrong : ChangeSpec := { name := "fnExactEvalGrid", fn := fun _ => fun
  | [d1, d2] => { results := [.lit (.bool false)], args := [d1, d2] }
  | _ => none }
def FnExactEvalGridWrongFalsely : Prop := fnExactEvalGridRow.holds Try.pinned (OpenSpec.ofChange fnExactEvalGridWrong)

/-- 'laws.FnExactUnitMatrix': WHATEVER THE INPUT: true; the input reads as it did. -/
def fnExactUnitMatrixSpec : ChangeSpec := { name := "fnExactUnitMatrix", fn := fun _ => fun
  | [] => { results := [.lit (.bool true)], args := [] }
  | _ => none }
def fnExactUnitMatrixRow : OpenClaim := { program := "ytkkfknpeohjjdaa", sum := "241f8ba14c9240a9968792d6397e9fcabae9f5acb4b220805262f5331cff72de", func := "loop.example/g00639/laws.FnExactUnitMatrix", spec := "fnExactUnitMatrix", plainKeys := false, apart := false }
def FnExactUnitMatrixSaid : Prop := fnExactUnitMatrixRow.holds Try.pinned (OpenSpec.ofChange fnExactUnitMatrixSpec)

/-- ITS FALSE NEIGHBOUR: 'it returns false'. Refute it at one input. -/
def fnExactUnitMatrixWrong : ChangeSpec := { name := "fnExactUnitMatrix", fn := fun _ => fun
  | [] => { results := [.lit (.bool false)], args := [] }
  | _ => none }
def FnExactUnitMatrixWrongFalsely : Prop := fnExactUnitMatrixRow.holds Try.pinned (OpenSpec.ofChange fnExactUnitMatrixWrong)

/-- 'laws.FnExactMulMatrix': WHATEVER THE INPUT: true; the input reads as it did. -/
def fnExactMulMatrixSpec : ChangeSpec := { name := "fnExactMulMatrix", fn := fun _ => fun
  | [d1, d2] => { results := [.lit (.bool true)], args := [d1, d2] }
  | _ => none }
def fnExactMulMatrixRow : OpenClaim := { program := "ytkkfknpeohjjdaa", sum := "241f8ba14c9240a9968792d6397e9fcabae9f5acb4b220805262f5331cff72de", func := "loop.example/g00639/laws.FnExactMulMatrix", spec := "fnExactMulMatrix", plainKeys := false, apart := false }
def FnExactMulMatrixSaid : Prop := fnExactMulMatrixRow.holds Try.pinned (OpenSpec.ofChange fnExactMulMatrixSpec)

/-- ITS FALSE NEIGHBOUR: 'it returns false'. Refute it at one input. -/
def fnExactMulMatrixWrong : ChangeSpec := { name := "fnExactMulMatrix", fn := fun _ => fun
  | [d1, d2] => { results := [.lit (.bool false)], args := [d1, d2] }
  | _ => none }
def FnExactMulMatrixWrongFalsely : Prop := fnExactMulMatrixRow.holds Try.pinned (OpenSpec.ofChange fnExactMulMatrixWrong)

/-- 'laws.FnExactInvertMatrix': WHATEVER THE INPUT: true; the input reads as it did. -/
def fnExactInvertMatrixSpec : ChangeSpec := { name := "fnExactInvertMatrix", fn := fun _ => fun
  | [d] => { results := [.lit (.bool true)], args := [d] }
  | _ => none }
def fnExactInvertMatrixRow : OpenClaim := { program := "ytkkfknpeohjjdaa", sum := "241f8ba14c9240a9968792d6397e9fcabae9f5acb4b220805262f5331cff72de", func := "loop.example/g00639/laws.FnExactInvertMatrix", spec := "fnExactInvertMatrix", plainKeys := false, apart := false }
def FnExactInvertMatrixSaid : Prop := fnExactInvertMatrixRow.holds Try.pinned (OpenSpec.ofChange fnExactInvertMatrixSpec)

/-- ITS FALSE NEIGHBOUR: 'it returns false'. Refute it at one input. -/
def fnExactInvertMatrixWrong : ChangeSpec := { name := "fnExactInvertMatrix", fn := fun _ => fun
  | [d] => { results := [.lit (.bool false)], args := [d] }
  | _ => none }
def FnExactInvertMatrixWrongFalsely : Prop := fnExactInvertMatrixRow.holds Try.pinned (OpenSpec.ofChange fnExactInvertMatrixWrong)

/-- 'laws.FnCells': WHATEVER THE INPUT: true; the input reads as it did. -/
def fnCellsSpec : ChangeSpec := { name := "fnCells", fn := fun _ => fun
  | [d] => { results := [.lit (.bool true)], args := [d] }
  | _ => none }
def fnCellsRow : OpenClaim := { program := "ytkkfknpeohjjdaa", sum := "241f8ba14c9240a9968792d6397e9fcabae9f5acb4b220805262f5331cff72de", func := "loop.example/g00639/laws.FnCells", spec := "fnCells", unfollowed := true, recurses := true, plainKeys := false, apart := false }
def FnCellsSaid : Prop := fnCellsRow.holds Try.pinned (OpenSpec.ofChange fnCellsSpec)

/-- ITS FALSE NEIGHBOUR: 'it returns false'. Refute it at one input. -/
def fnCellsWrong : ChangeSpec := { name := "fnCells", fn := fun _ => fun
  | [d] => { results := [.lit (.bool false)], args := [d] }
  | _ => none }
def FnCellsWrongFalsely : Prop := fnCellsRow.holds Try.pinned (OpenSpec.ofChange fnCellsWrong)

/- THE SECOND FORM. 'bulk': how many values and letters a reading holds, each counted each time it is reached (what is shared counts as often as it is met; a slice's spare places count too). A statement '..UptoSaid' is the law's where the arguments, and the package variables that the reading takes, are together of bulk at most 1048576: NARROWER than '..Said'. Prove '..Said' where nothing that the law and all that it calls make is longer than what came in: it says more and counts as full. Else prove '..UptoSaid'. A law counts once. -/
mutual
def uptoBulk {H : Type} : DataW H → Nat
  | .lit (.string bytes) => bytes.length + 1
  | .lit _ => 1
  | .nil => 1
  | .ptr d => uptoBulk d + 1
  | .slice elems spare => uptoBulkAll elems + uptoBulkAll spare + 1
  | .agg parts => uptoBulkAll parts + 1
  | .iface _ d => uptoBulk d + 1
  | .map entries => uptoBulkEntries entries + 1
  | .held _ => 1
def uptoBulkAll {H : Type} : List (DataW H) → Nat
  | [] => 0
  | d :: r => uptoBulk d + uptoBulkAll r
def uptoBulkEntries {H : Type} : List (Lit × DataW H) → Nat
  | [] => 0
  | x :: r => uptoBulkEntry x + uptoBulkEntries r
def uptoBulkEntry {H : Type} : Lit × DataW H → Nat
  | (.string bytes, d) => bytes.length + uptoBulk d + 1
  | (_, d) => uptoBulk d + 1
 end
def uptoSmall : (H : Type) → List (DataW H) → Bool := fun _ ds => decide (uptoBulkAll ds ≤ 1048576)
def OpenSpec.upto (s : _root_.Go.ChangeSpec) : _root_.Go.OpenSpec := { _root_.Go.OpenSpec.ofChange s with cond := some uptoSmall }

/-- 'laws.FnExactApplyMatrix', WHERE WHAT IT READS IS OF BULK AT MOST 1048576: true; the input reads as it did. -/
def fnExactApplyMatrixUptoRow : OpenClaim := { program := "ytkkfknpeohjjdaa", sum := "241f8ba14c9240a9968792d6397e9fcabae9f5acb4b220805262f5331cff72de", func := "loop.example/g00639/laws.FnExactApplyMatrix", spec := "fnExactApplyMatrix", plainKeys := false, apart := false, narrowed := true }
def FnExactApplyMatrixUptoSaid : Prop := fnExactApplyMatrixUptoRow.holds Try.pinned (OpenSpec.upto fnExactApplyMatrixSpec)

/-- 'laws.FnExactGridFault', WHERE WHAT IT READS IS OF BULK AT MOST 1048576: true; the input reads as it did. -/
def fnExactGridFaultUptoRow : OpenClaim := { program := "ytkkfknpeohjjdaa", sum := "241f8ba14c9240a9968792d6397e9fcabae9f5acb4b220805262f5331cff72de", func := "loop.example/g00639/laws.FnExactGridFault", spec := "fnExactGridFault", plainKeys := false, apart := false, narrowed := true }
def FnExactGridFaultUptoSaid : Prop := fnExactGridFaultUptoRow.holds Try.pinned (OpenSpec.upto fnExactGridFaultSpec)

/-- 'laws.FnExactCellOf', WHERE WHAT IT READS IS OF BULK AT MOST 1048576: true; the input reads as it did. -/
def fnExactCellOfUptoRow : OpenClaim := { program := "ytkkfknpeohjjdaa", sum := "241f8ba14c9240a9968792d6397e9fcabae9f5acb4b220805262f5331cff72de", func := "loop.example/g00639/laws.FnExactCellOf", spec := "fnExactCellOf", plainKeys := false, apart := false, narrowed := true }
def FnExactCellOfUptoSaid : Prop := fnExactCellOfUptoRow.holds Try.pinned (OpenSpec.upto fnExactCellOfSpec)

/-- 'laws.FnExactLineGrid', WHERE WHAT IT READS IS OF BULK AT MOST 1048576: true; the input reads as it did. -/
def fnExactLineGridUptoRow : OpenClaim := { program := "ytkkfknpeohjjdaa", sum := "241f8ba14c9240a9968792d6397e9fcabae9f5acb4b220805262f5331cff72de", func := "loop.example/g00639/laws.FnExactLineGrid", spec := "fnExactLineGrid", plainKeys := false, apart := false, narrowed := true }
def FnExactLineGridUptoSaid : Prop := fnExactLineGridUptoRow.holds Try.pinned (OpenSpec.upto fnExactLineGridSpec)

/-- 'laws.FnExactNodeOf', WHERE WHAT IT READS IS OF BULK AT MOST 1048576: true; the input reads as it did. -/
def fnExactNodeOfUptoRow : OpenClaim := { program := "ytkkfknpeohjjdaa", sum := "241f8ba14c9240a9968792d6397e9fcabae9f5acb4b220805262f5331cff72de", func := "loop.example/g00639/laws.FnExactNodeOf", spec := "fnExactNodeOf", plainKeys := false, apart := false, narrowed := true }
def FnExactNodeOfUptoSaid : Prop := fnExactNodeOfUptoRow.holds Try.pinned (OpenSpec.upto fnExactNodeOfSpec)

/-- 'laws.FnExactSpanOf', WHERE WHAT IT READS IS OF BULK AT MOST 1048576: true; the input reads as it did. -/
def fnExactSpanOfUptoRow : OpenClaim := { program := "ytkkfknpeohjjdaa", sum := "241f8ba14c9240a9968792d6397e9fcabae9f5acb4b220805262f5331cff72de", func := "loop.example/g00639/laws.FnExactSpanOf", spec := "fnExactSpanOf", plainKeys := false, apart := false, narrowed := true }
def FnExactSpanOfUptoSaid : Prop := fnExactSpanOfUptoRow.holds Try.pinned (OpenSpec.upto fnExactSpanOfSpec)

/-- 'laws.FnExactSameGrids', WHERE WHAT IT READS IS OF BULK AT MOST 1048576: true; the input reads as it did. -/
def fnExactSameGridsUptoRow : OpenClaim := { program := "ytkkfknpeohjjdaa", sum := "241f8ba14c9240a9968792d6397e9fcabae9f5acb4b220805262f5331cff72de", func := "loop.example/g00639/laws.FnExactSameGrids", spec := "fnExactSameGrids", unfollowed := true, recurses := true, plainKeys := false, apart := false, narrowed := true }
def FnExactSameGridsUptoSaid : Prop := fnExactSameGridsUptoRow.holds Try.pinned (OpenSpec.upto fnExactSameGridsSpec)

/-- 'laws.FnExactEvalGrid', WHERE WHAT IT READS IS OF BULK AT MOST 1048576: true; the input reads as it did. -/
def fnExactEvalGridUptoRow : OpenClaim := { program := "ytkkfknpeohjjdaa", sum := "241f8ba14c9240a9968792d6397e9fcabae9f5acb4b220805262f5331cff72de", func := "loop.example/g00639/laws.FnExactEvalGrid", spec := "fnExactEvalGrid", unfollowed := true, recurses := true, plainKeys := false, apart := false, narrowed := true }
def FnExactEvalGridUptoSaid : Prop := fnExactEvalGridUptoRow.holds Try.pinned (OpenSpec.upto fnExactEvalGridSpec)

/-- 'laws.FnExactUnitMatrix', WHERE WHAT IT READS IS OF BULK AT MOST 1048576: true; the input reads as it did. -/
def fnExactUnitMatrixUptoRow : OpenClaim := { program := "ytkkfknpeohjjdaa", sum := "241f8ba14c9240a9968792d6397e9fcabae9f5acb4b220805262f5331cff72de", func := "loop.example/g00639/laws.FnExactUnitMatrix", spec := "fnExactUnitMatrix", plainKeys := false, apart := false, narrowed := true }
def FnExactUnitMatrixUptoSaid : Prop := fnExactUnitMatrixUptoRow.holds Try.pinned (OpenSpec.upto fnExactUnitMatrixSpec)

/-- 'laws.FnExactMulMatrix', WHERE WHAT IT READS IS OF BULK AT MOST 1048576: true; the input reads as it did. -/
def fnExactMulMatrixUptoRow : OpenClaim := { program := "ytkkfknpeohjjdaa", sum := "241f8ba14c9240a9968792d6397e9fcabae9f5acb4b220805262f5331cff72de", func := "loop.example/g00639/laws.FnExactMulMatrix", spec := "fnExactMulMatrix", plainKeys := false, apart := false, narrowed := true }
def FnExactMulMatrixUptoSaid : Prop := fnExactMulMatrixUptoRow.holds Try.pinned (OpenSpec.upto fnExactMulMatrixSpec)

/-- 'laws.FnExactInvertMatrix', WHERE WHAT IT READS IS OF BULK AT MOST 1048576: true; the input reads as it did. -/
def fnExactInvertMatrixUptoRow : OpenClaim := { program := "ytkkfknpeohjjdaa", sum := "241f8ba14c9240a9968792d6397e9fcabae9f5acb4b220805262f5331cff72de", func := "loop.example/g00639/laws.FnExactInvertMatrix", spec := "fnExactInvertMatrix", plainKeys := false, apart := false, narrowed := true }
def FnExactInvertMatrixUptoSaid : Prop := fnExactInvertMatrixUptoRow.holds Try.pinned (OpenSpec.upto fnExactInvertMatrixSpec)

/-- 'laws.FnCells', WHERE WHAT IT READS IS OF BULK AT MOST 1048576: true; the input reads as it did. -/
def fnCellsUptoRow : OpenClaim := { program := "ytkkfknpeohjjdaa", sum := "241f8ba14c9240a9968792d6397e9fcabae9f5acb4b220805262f5331cff72de", func := "loop.example/g00639/laws.FnCells", spec := "fnCells", unfollowed := true, recurses := true, plainKeys := false, apart := false, narrowed := true }
def FnCellsUptoSaid : Prop := fnCellsUptoRow.holds Try.pinned (OpenSpec.upto fnCellsSpec)

end Rows
end Go.Proofs.Ytkkfknpeohjjdaa
