/-
  No cell of these rows narrows 'for every input' (looked for: loops, veiled, ifaces, maps, wideKeys, modest, calm, conditions, laid).
  DERIVED. THE GIVEN ROWS OF THIS SEAT. 7 by the template 'for every input the law returns true; each argument reads behind the call as it read before'; 0 by the template 'total and deterministic' (their statements: YtdjifaaofefpoaaTotals.lean).
  GIVEN WITH THE SEED: the statements are not yours to turn. If you find one false, say at which input.
  Laid BY PROGRAM, IN A SANDBOX (cutbox-rows.mjs): the forced cells as the released guide's own fill.sh prints them over the translation 8c95db8abebf57d0… (all of the seat's roots in one cut). By AI agents, Wed Nov 11 2026. No macro, syntax, notation, axiom, sorry.
-/
import Derived.Test.YtdjifaaofefpoaaChecked
import GoSem.Claim
import GoSem.ClaimJoined
import GoSem.ClaimMapViews
import Derived.JoinedTies
import Derived.KernelRfl
namespace Go.Proofs.Ytdjifaaofefpoaa
/- THE CELL 'sum', in the pinned program and in every row, IS THE sha256 OF THE DUMP (.gsa) THAT YtdjifaaofefpoaaProg.lean LOADS. Nothing in Lean hashes anything: it is a label: what it is worth is what the hold of that sum in a sandbox is worth. -/
noncomputable def Try.pinned : Pinned := { name := "ytdjifaaofefpoaa", sum := "8c95db8abebf57d0d3fd1664695db63f84f9195543e83a20970d626088c3d44d", checked := Try.checked }
namespace Rows
def none {H : Type} : Left H := { results := [], args := [] }

/-- 'laws.FnExactBudgetOf': WHATEVER THE INPUT: true; the input reads as it did. -/
def fnExactBudgetOfSpec : ChangeSpec := { name := "fnExactBudgetOf", fn := fun _ => fun
  | [d] => { results := [.lit (.bool true)], args := [d] }
  | _ => none }
def fnExactBudgetOfRow : OpenClaim := { program := "ytdjifaaofefpoaa", sum := "8c95db8abebf57d0d3fd1664695db63f84f9195543e83a20970d626088c3d44d", func := "loop.example/g00639/laws.FnExactBudgetOf", spec := "fnExactBudgetOf", unfollowed := true, recurses := true, plainKeys := false, apart := false }
def FnExactBudgetOfSaid : Prop := fnExactBudgetOfRow.holds Try.pinned (OpenSpec.ofChange fnExactBudgetOfSpec)

/-- ITS FALSE NEIGHBOUR: 'it returns false'. Refute it at one input. -/
def fnExactBudgetOfWrong : ChangeSpec := { name := "fnExactBudgetOf", fn := fun _ => fun
  | [d] => { results := [.lit (.bool false)], args := [d] }
  | _ => none }
def FnExactBudgetOfWrongFalsely : Prop := fnExactBudgetOfRow.holds Try.pinned (OpenSpec.ofChange fnExactBudgetOfWrong)

/-- 'laws.FnExactJoinChains': WHATEVER THE INPUT: true; the input reads as it did. -/
def fnExactJoinChainsSpec : ChangeSpec := { name := "fnExactJoinChains", fn := fun _ => fun
  | [d1, d2] => { results := [.lit (.bool true)], args := [d1, d2] }
  | _ => none }
def fnExactJoinChainsRow : OpenClaim := { program := "ytdjifaaofefpoaa", sum := "8c95db8abebf57d0d3fd1664695db63f84f9195543e83a20970d626088c3d44d", func := "loop.example/g00639/laws.FnExactJoinChains", spec := "fnExactJoinChains", unfollowed := true, recurses := true, plainKeys := false, apart := false }
def FnExactJoinChainsSaid : Prop := fnExactJoinChainsRow.holds Try.pinned (OpenSpec.ofChange fnExactJoinChainsSpec)

/-- ITS FALSE NEIGHBOUR: 'it returns false'. Refute it at one input. -/
def fnExactJoinChainsWrong : ChangeSpec := { name := "fnExactJoinChains", fn := fun _ => fun
  | [d1, d2] => { results := [.lit (.bool false)], args := [d1, d2] }
  | _ => none }
def FnExactJoinChainsWrongFalsely : Prop := fnExactJoinChainsRow.holds Try.pinned (OpenSpec.ofChange fnExactJoinChainsWrong)

/-- 'laws.FnExactIsNothing': WHATEVER THE INPUT: true; the input reads as it did. -/
def fnExactIsNothingSpec : ChangeSpec := { name := "fnExactIsNothing", fn := fun _ => fun
  | [d] => { results := [.lit (.bool true)], args := [d] }
  | _ => none }
def fnExactIsNothingRow : OpenClaim := { program := "ytdjifaaofefpoaa", sum := "8c95db8abebf57d0d3fd1664695db63f84f9195543e83a20970d626088c3d44d", func := "loop.example/g00639/laws.FnExactIsNothing", spec := "fnExactIsNothing", unfollowed := true, recurses := true, plainKeys := false, apart := false }
def FnExactIsNothingSaid : Prop := fnExactIsNothingRow.holds Try.pinned (OpenSpec.ofChange fnExactIsNothingSpec)

/-- ITS FALSE NEIGHBOUR: 'it returns false'. Refute it at one input. -/
def fnExactIsNothingWrong : ChangeSpec := { name := "fnExactIsNothing", fn := fun _ => fun
  | [d] => { results := [.lit (.bool false)], args := [d] }
  | _ => none }
def FnExactIsNothingWrongFalsely : Prop := fnExactIsNothingRow.holds Try.pinned (OpenSpec.ofChange fnExactIsNothingWrong)

/-- 'laws.FnExactNothingsIn': WHATEVER THE INPUT: true; the input reads as it did. -/
def fnExactNothingsInSpec : ChangeSpec := { name := "fnExactNothingsIn", fn := fun _ => fun
  | [d] => { results := [.lit (.bool true)], args := [d] }
  | _ => none }
def fnExactNothingsInRow : OpenClaim := { program := "ytdjifaaofefpoaa", sum := "8c95db8abebf57d0d3fd1664695db63f84f9195543e83a20970d626088c3d44d", func := "loop.example/g00639/laws.FnExactNothingsIn", spec := "fnExactNothingsIn", unfollowed := true, recurses := true, plainKeys := false, apart := false }
def FnExactNothingsInSaid : Prop := fnExactNothingsInRow.holds Try.pinned (OpenSpec.ofChange fnExactNothingsInSpec)

/-- ITS FALSE NEIGHBOUR: 'it returns false'. Refute it at one input. -/
def fnExactNothingsInWrong : ChangeSpec := { name := "fnExactNothingsIn", fn := fun _ => fun
  | [d] => { results := [.lit (.bool false)], args := [d] }
  | _ => none }
def FnExactNothingsInWrongFalsely : Prop := fnExactNothingsInRow.holds Try.pinned (OpenSpec.ofChange fnExactNothingsInWrong)

/-- 'laws.FnExactUnitStage': WHATEVER THE INPUT: true; the input reads as it did. -/
def fnExactUnitStageSpec : ChangeSpec := { name := "fnExactUnitStage", fn := fun _ => fun
  | [d] => { results := [.lit (.bool true)], args := [d] }
  | _ => none }
def fnExactUnitStageRow : OpenClaim := { program := "ytdjifaaofefpoaa", sum := "8c95db8abebf57d0d3fd1664695db63f84f9195543e83a20970d626088c3d44d", func := "loop.example/g00639/laws.FnExactUnitStage", spec := "fnExactUnitStage", plainKeys := false, apart := false }
def FnExactUnitStageSaid : Prop := fnExactUnitStageRow.holds Try.pinned (OpenSpec.ofChange fnExactUnitStageSpec)

/-- ITS FALSE NEIGHBOUR: 'it returns false'. Refute it at one input. -/
def fnExactUnitStageWrong : ChangeSpec := { name := "fnExactUnitStage", fn := fun _ => fun
  | [d] => { results := [.lit (.bool false)], args := [d] }
  | _ => none }
def FnExactUnitStageWrongFalsely : Prop := fnExactUnitStageRow.holds Try.pinned (OpenSpec.ofChange fnExactUnitStageWrong)

/-- 'laws.FnCells': WHATEVER THE INPUT: true; the input reads as it did. -/
def fnCellsSpec : ChangeSpec := { name := "fnCells", fn := fun _ => fun
  | [d] => { results := [.lit (.bool true)], args := [d] }
  | _ => none }
def fnCellsRow : OpenClaim := { program := "ytdjifaaofefpoaa", sum := "8c95db8abebf57d0d3fd1664695db63f84f9195543e83a20970d626088c3d44d", func := "loop.example/g00639/laws.FnCells", spec := "fnCells", unfollowed := true, recurses := true, plainKeys := false, apart := false }
def FnCellsSaid : Prop := fnCellsRow.holds Try.pinned (OpenSpec.ofChange fnCellsSpec)

/-- ITS FALSE NEIGHBOUR: 'it returns false'. Refute it at one input. -/
def fnCellsWrong : ChangeSpec := { name := "fnCells", fn := fun _ => fun
  | [d] => { results := [.lit (.bool false)], args := [d] }
  | _ => none }
def FnCellsWrongFalsely : Prop := fnCellsRow.holds Try.pinned (OpenSpec.ofChange fnCellsWrong)

/-- 'laws.FnEven': WHATEVER THE INPUT: true; the input reads as it did. -/
def fnEvenSpec : ChangeSpec := { name := "fnEven", fn := fun _ => fun
  | [d] => { results := [.lit (.bool true)], args := [d] }
  | _ => none }
def fnEvenRow : OpenClaim := { program := "ytdjifaaofefpoaa", sum := "8c95db8abebf57d0d3fd1664695db63f84f9195543e83a20970d626088c3d44d", func := "loop.example/g00639/laws.FnEven", spec := "fnEven", unfollowed := true, recurses := true, plainKeys := false, apart := false }
def FnEvenSaid : Prop := fnEvenRow.holds Try.pinned (OpenSpec.ofChange fnEvenSpec)

/-- ITS FALSE NEIGHBOUR: 'it returns false'. Refute it at one input. -/
def fnEvenWrong : ChangeSpec := { name := "fnEven", fn := fun _ => fun
  | [d] => { results := [.lit (.bool false)], args := [d] }
  | _ => none }
def FnEvenWrongFalsely : Prop := fnEvenRow.holds Try.pinned (OpenSpec.ofChange fnEvenWrong)

/- THE SECOND FORM. 'bulk': how many values and letters a reading holds, each counted each time it is reached (what is shared counts as often as it is met; a slice's spare places count too). A statement '..UptoSaid' is the law's where the arguments, and the package variables that the reading takes, are together of bulk at most 1048576: NARROWER than '..Said'. Prove '..Said' where nothing that the law and all that it calls make is longer than what came in: it says more and counts as full. Else prove '..UptoSaid'. A law counts once. -/
mutual
def uptoBulk {H : Type} : DataW H → Nat
  | .lit (.string bytes) => bytes.length + 1
  | .lit _ => 1
  | .nil => 1
  | .ptr d => uptoBulk d + 1
  | .slice elems spare => uptoBulkAll elems + uptoBulkAll spare + 1
  | .agg parts => uptoBulkAll parts + 1
  | .iface _ d => uptoBulk d + 1
  | .map entries => uptoBulkEntries entries + 1
  | .held _ => 1
def uptoBulkAll {H : Type} : List (DataW H) → Nat
  | [] => 0
  | d :: r => uptoBulk d + uptoBulkAll r
def uptoBulkEntries {H : Type} : List (Lit × DataW H) → Nat
  | [] => 0
  | x :: r => uptoBulkEntry x + uptoBulkEntries r
def uptoBulkEntry {H : Type} : Lit × DataW H → Nat
  | (.string bytes, d) => bytes.length + uptoBulk d + 1
  | (_, d) => uptoBulk d + 1
 end
def uptoSmall : (H : Type) → List (DataW H) → Bool := fun _ ds => decide (uptoBulkAll ds ≤ 1048576)
def OpenSpec.upto (s : _root_.Go.ChangeSpec) : _root_.Go.OpenSpec := { _root_.Go.OpenSpec.ofChange s with cond := some uptoSmall }

/-- 'laws.FnExactBudgetOf', WHERE WHAT IT READS IS OF BULK AT MOST 1048576: true; the input reads as it did. -/
def fnExactBudgetOfUptoRow : OpenClaim := { program := "ytdjifaaofefpoaa", sum := "8c95db8abebf57d0d3fd1664695db63f84f9195543e83a20970d626088c3d44d", func := "loop.example/g00639/laws.FnExactBudgetOf", spec := "fnExactBudgetOf", unfollowed := true, recurses := true, plainKeys := false, apart := false, narrowed := true }
def FnExactBudgetOfUptoSaid : Prop := fnExactBudgetOfUptoRow.holds Try.pinned (OpenSpec.upto fnExactBudgetOfSpec)

/-- 'laws.FnExactJoinChains', WHERE WHAT IT READS IS OF BULK AT MOST 1048576: true; the input reads as it did. -/
def fnExactJoinChainsUptoRow : OpenClaim := { program := "ytdjifaaofefpoaa", sum := "8c95db8abebf57d0d3fd1664695db63f84f9195543e83a20970d626088c3d44d", func := "loop.example/g00639/laws.FnExactJoinChains", spec := "fnExactJoinChains", unfollowed := true, recurses := true, plainKeys := false, apart := false, narrowed := true }
def FnExactJoinChainsUptoSaid : Prop := fnExactJoinChainsUptoRow.holds Try.pinned (OpenSpec.upto fnExactJoinChainsSpec)

/-- 'laws.FnExactIsNothing', WHERE WHAT IT READS IS OF BULK AT MOST 1048576: true; the input reads as it did. -/
def fnExactIsNothingUptoRow : OpenClaim := { program := "ytdjifaaofefpoaa", sum := "8c95db8abebf57d0d3fd1664695db63f84f9195543e83a20970d626088c3d44d", func := "loop.example/g00639/laws.FnExactIsNothing", spec := "fnExactIsNothing", unfollowed := true, recurses := true, plainKeys := false, apart := false, narrowed := true }
def FnExactIsNothingUptoSaid : Prop := fnExactIsNothingUptoRow.holds Try.pinned (OpenSpec.upto fnExactIsNothingSpec)

/-- 'laws.FnExactNothingsIn', WHERE WHAT IT READS IS OF BULK AT MOST 1048576: true; the input reads as it did. -/
def fnExactNothingsInUptoRow : OpenClaim := { program := "ytdjifaaofefpoaa", sum := "8c95db8abebf57d0d3fd1664695db63f84f9195543e83a20970d626088c3d44d", func := "loop.example/g00639/laws.FnExactNothingsIn", spec := "fnExactNothingsIn", unfollowed := true, recurses := true, plainKeys := false, apart := false, narrowed := true }
def FnExactNothingsInUptoSaid : Prop := fnExactNothingsInUptoRow.holds Try.pinned (OpenSpec.upto fnExactNothingsInSpec)

/-- 'laws.FnExactUnitStage', WHERE WHAT IT READS IS OF BULK AT MOST 1048576: true; the input reads as it did. -/
def fnExactUnitStageUptoRow : OpenClaim := { program := "ytdjifaaofefpoaa", sum := "8c95db8abebf57d0d3fd1664695db63f84f9195543e83a20970d626088c3d44d", func := "loop.example/g00639/laws.FnExactUnitStage", spec := "fnExactUnitStage", plainKeys := false, apart := false, narrowed := true }
def FnExactUnitStageUptoSaid : Prop := fnExactUnitStageUptoRow.holds Try.pinned (OpenSpec.upto fnExactUnitStageSpec)

/-- 'laws.FnCells', WHERE WHAT IT READS IS OF BULK AT MOST 1048576: true; the input reads as it did. -/
def fnCellsUptoRow : OpenClaim := { program := "ytdjifaaofefpoaa", sum := "8c95db8abebf57d0d3fd1664695db63f84f9195543e83a20970d626088c3d44d", func := "loop.example/g00639/laws.FnCells", spec := "fnCells", unfollowed := true, recurses := true, plainKeys := false, apart := false, narrowed := true }
def FnCellsUptoSaid : Prop := fnCellsUptoRow.holds Try.pinned (OpenSpec.upto fnCellsSpec)

/-- 'laws.FnEven', WHERE WHAT IT READS IS OF BULK AT MOST 1048576: true; the input reads as it did. -/
def fnEvenUptoRow : OpenClaim := { program := "ytdjifaaofefpoaa", sum := "8c95db8abebf57d0d3fd1664695db63f84f9195543e83a20970d626088c3d44d", func := "loop.example/g00639/laws.FnEven", spec := "fnEven", unfollowed := true, recurses := true, plainKeys := false, apart := false, narrowed := true }
def FnEvenUptoSaid : Prop := fnEvenUptoRow.holds Try.pinned (OpenSpec.upto fnEvenSpec)

end Rows
end Go.Proofs.Ytdjifaaofefpoaa
