/-
  No cell of these rows narrows 'for every input' (looked for: loops, veiled, ifaces, maps, wideKeys, modest, calm, conditions, laid).
  DERIVED. THE GIVEN ROWS OF THIS SEAT. 6 by the template 'for every input the law returns true; each argument reads behind the call as it read before'; 0 by the template 'total and deterministic' (their statements: YtlfdpambbgddoaaTotals.lean).
  GIVEN WITH THE SEED: the statements are not yours to turn. If you find one false, say at which input.
  Laid BY PROGRAM, IN A SANDBOX (cutbox-rows.mjs): the forced cells as the released guide's own fill.sh prints them over the translation 03722f5013ecc67b… (all of the seat's roots in one cut). By AI agents, Wed Nov 11 2026. No macro, syntax, notation, axiom, sorry.
-/
import Derived.Test.YtlfdpambbgddoaaChecked
import GoSem.Claim
import GoSem.ClaimJoined
import GoSem.ClaimMapViews
import Derived.JoinedTies
import Derived.KernelRfl
namespace Go.Proofs.Ytlfdpambbgddoaa
/- THE CELL 'sum', in the pinned program and in every row, IS THE sha256 OF THE DUMP (.gsa) THAT YtlfdpambbgddoaaProg.lean LOADS. Nothing in Lean hashes anything: it is a label: what it is worth is what the hold of that sum in a sandbox is worth. -/
noncomputable def Try.pinned : Pinned := { name := "ytlfdpambbgddoaa", sum := "03722f5013ecc67b4ad3883bafeb2c161426a77129acce419341f92d7f450d5e", checked := Try.checked }
namespace Rows
def none {H : Type} : Left H := { results := [], args := [] }

/-- 'laws.FnExactNodeLevel': WHATEVER THE INPUT: true; the input reads as it did. -/
def fnExactNodeLevelSpec : ChangeSpec := { name := "fnExactNodeLevel", fn := fun _ => fun
  | [d1, d2] => { results := [.lit (.bool true)], args := [d1, d2] }
  | _ => none }
def fnExactNodeLevelRow : OpenClaim := { program := "ytlfdpambbgddoaa", sum := "03722f5013ecc67b4ad3883bafeb2c161426a77129acce419341f92d7f450d5e", func := "loop.example/g00639/laws.FnExactNodeLevel", spec := "fnExactNodeLevel", plainKeys := false, apart := false }
def FnExactNodeLevelSaid : Prop := fnExactNodeLevelRow.holds Try.pinned (OpenSpec.ofChange fnExactNodeLevelSpec)

/-- ITS FALSE NEIGHBOUR: 'it returns false'. Refute it at one input. -/
def fnExactNodeLevelWrong : ChangeSpec := { name := "fnExactNodeLevel", fn := fun _ => fun
  | [d1, d2] => { results := [.lit (.bool false)], args := [d1, d2] }
  | _ => none }
def FnExactNodeLevelWrongFalsely : Prop := fnExactNodeLevelRow.holds Try.pinned (OpenSpec.ofChange fnExactNodeLevelWrong)

/-- 'laws.FnExactBakeBudget': WHATEVER THE INPUT: true; the input reads as it did. -/
def fnExactBakeBudgetSpec : ChangeSpec := { name := "fnExactBakeBudget", fn := fun _ => fun
  | [d1, d2] => { results := [.lit (.bool true)], args := [d1, d2] }
  | _ => none }
def fnExactBakeBudgetRow : OpenClaim := { program := "ytlfdpambbgddoaa", sum := "03722f5013ecc67b4ad3883bafeb2c161426a77129acce419341f92d7f450d5e", func := "loop.example/g00639/laws.FnExactBakeBudget", spec := "fnExactBakeBudget", unfollowed := true, recurses := true, plainKeys := false, apart := false }
def FnExactBakeBudgetSaid : Prop := fnExactBakeBudgetRow.holds Try.pinned (OpenSpec.ofChange fnExactBakeBudgetSpec)

/-- ITS FALSE NEIGHBOUR: 'it returns false'. Refute it at one input. -/
def fnExactBakeBudgetWrong : ChangeSpec := { name := "fnExactBakeBudget", fn := fun _ => fun
  | [d1, d2] => { results := [.lit (.bool false)], args := [d1, d2] }
  | _ => none }
def FnExactBakeBudgetWrongFalsely : Prop := fnExactBakeBudgetRow.holds Try.pinned (OpenSpec.ofChange fnExactBakeBudgetWrong)

/-- 'laws.FnCells': WHATEVER THE INPUT: true; the input reads as it did. -/
def fnCellsSpec : ChangeSpec := { name := "fnCells", fn := fun _ => fun
  | [d] => { results := [.lit (.bool true)], args := [d] }
  | _ => none }
def fnCellsRow : OpenClaim := { program := "ytlfdpambbgddoaa", sum := "03722f5013ecc67b4ad3883bafeb2c161426a77129acce419341f92d7f450d5e", func := "loop.example/g00639/laws.FnCells", spec := "fnCells", unfollowed := true, recurses := true, plainKeys := false, apart := false }
def FnCellsSaid : Prop := fnCellsRow.holds Try.pinned (OpenSpec.ofChange fnCellsSpec)

/-- ITS FALSE NEIGHBOUR: 'it returns false'. Refute it at one input. -/
def fnCellsWrong : ChangeSpec := { name := "fnCells", fn := fun _ => fun
  | [d] => { results := [.lit (.bool false)], args := [d] }
  | _ => none }
def FnCellsWrongFalsely : Prop := fnCellsRow.holds Try.pinned (OpenSpec.ofChange fnCellsWrong)

/-- 'laws.FnEven': WHATEVER THE INPUT: true; the input reads as it did. -/
def fnEvenSpec : ChangeSpec := { name := "fnEven", fn := fun _ => fun
  | [d] => { results := [.lit (.bool true)], args := [d] }
  | _ => none }
def fnEvenRow : OpenClaim := { program := "ytlfdpambbgddoaa", sum := "03722f5013ecc67b4ad3883bafeb2c161426a77129acce419341f92d7f450d5e", func := "loop.example/g00639/laws.FnEven", spec := "fnEven", unfollowed := true, recurses := true, plainKeys := false, apart := false }
def FnEvenSaid : Prop := fnEvenRow.holds Try.pinned (OpenSpec.ofChange fnEvenSpec)

/-- ITS FALSE NEIGHBOUR: 'it returns false'. Refute it at one input. -/
def fnEvenWrong : ChangeSpec := { name := "fnEven", fn := fun _ => fun
  | [d] => { results := [.lit (.bool false)], args := [d] }
  | _ => none }
def FnEvenWrongFalsely : Prop := fnEvenRow.holds Try.pinned (OpenSpec.ofChange fnEvenWrong)

/-- 'laws.FnStages': WHATEVER THE INPUT: true; the input reads as it did. -/
def fnStagesSpec : ChangeSpec := { name := "fnStages", fn := fun _ => fun
  | [d] => { results := [.lit (.bool true)], args := [d] }
  | _ => none }
def fnStagesRow : OpenClaim := { program := "ytlfdpambbgddoaa", sum := "03722f5013ecc67b4ad3883bafeb2c161426a77129acce419341f92d7f450d5e", func := "loop.example/g00639/laws.FnStages", spec := "fnStages", unfollowed := true, recurses := true, plainKeys := false, apart := false }
def FnStagesSaid : Prop := fnStagesRow.holds Try.pinned (OpenSpec.ofChange fnStagesSpec)

/-- ITS FALSE NEIGHBOUR: 'it returns false'. Refute it at one input. -/
def fnStagesWrong : ChangeSpec := { name := "fnStages", fn := fun _ => fun
  | [d] => { results := [.lit (.bool false)], args := [d] }
  | _ => none }
def FnStagesWrongFalsely : Prop := fnStagesRow.holds Try.pinned (OpenSpec.ofChange fnStagesWrong)

/-- 'laws.FnSwaps': WHATEVER THE INPUT: true; the input reads as it did. -/
def fnSwapsSpec : ChangeSpec := { name := "fnSwaps", fn := fun _ => fun
  | [d] => { results := [.lit (.bool true)], args := [d] }
  | _ => none }
def fnSwapsRow : OpenClaim := { program := "ytlfdpambbgddoaa", sum := "03722f5013ecc67b4ad3883bafeb2c161426a77129acce419341f92d7f450d5e", func := "loop.example/g00639/laws.FnSwaps", spec := "fnSwaps", plainKeys := false, apart := false }
def FnSwapsSaid : Prop := fnSwapsRow.holds Try.pinned (OpenSpec.ofChange fnSwapsSpec)

/-- ITS FALSE NEIGHBOUR: 'it returns false'. Refute it at one input. -/
def fnSwapsWrong : ChangeSpec := { name := "fnSwaps", fn := fun _ => fun
  | [d] => { results := [.lit (.bool false)], args := [d] }
  | _ => none }
def FnSwapsWrongFalsely : Prop := fnSwapsRow.holds Try.pinned (OpenSpec.ofChange fnSwapsWrong)

/- THE SECOND FORM. 'bulk': how many values and letters a reading holds, each counted each time it is reached (what is shared counts as often as it is met; a slice's spare places count too). A statement '..UptoSaid' is the law's where the arguments, and the package variables that the reading takes, are together of bulk at most 1048576: NARROWER than '..Said'. Prove '..Said' where nothing that the law and all that it calls make is longer than what came in: it says more and counts as full. Else prove '..UptoSaid'. A law counts once. -/
mutual
def uptoBulk {H : Type} : DataW H → Nat
  | .lit (.string bytes) => bytes.length + 1
  | .lit _ => 1
  | .nil => 1
  | .ptr d => uptoBulk d + 1
  | .slice elems spare => uptoBulkAll elems + uptoBulkAll spare + 1
  | .agg parts => uptoBulkAll parts + 1
  | .iface _ d => uptoBulk d + 1
  | .map entries => uptoBulkEntries entries + 1
  | .held _ => 1
def uptoBulkAll {H : Type} : List (DataW H) → Nat
  | [] => 0
  | d :: r => uptoBulk d + uptoBulkAll r
def uptoBulkEntries {H : Type} : List (Lit × DataW H) → Nat
  | [] => 0
  | x :: r => uptoBulkEntry x + uptoBulkEntries r
def uptoBulkEntry {H : Type} : Lit × DataW H → Nat
  | (.string bytes, d) => bytes.length + uptoBulk d + 1
  | (_, d) => uptoBulk d + 1
 end
def uptoSmall : (H : Type) → List (DataW H) → Bool := fun _ ds => decide (uptoBulkAll ds ≤ 1048576)
def OpenSpec.upto (s : _root_.Go.ChangeSpec) : _root_.Go.OpenSpec := { _root_.Go.OpenSpec.ofChange s with cond := some uptoSmall }

/-- 'laws.FnExactNodeLevel', WHERE WHAT IT READS IS OF BULK AT MOST 1048576: true; the input reads as it did. -/
def fnExactNodeLevelUptoRow : OpenClaim := { program := "ytlfdpambbgddoaa", sum := "03722f5013ecc67b4ad3883bafeb2c161426a77129acce419341f92d7f450d5e", func := "loop.example/g00639/laws.FnExactNodeLevel", spec := "fnExactNodeLevel", plainKeys := false, apart := false, narrowed := true }
def FnExactNodeLevelUptoSaid : Prop := fnExactNodeLevelUptoRow.holds Try.pinned (OpenSpec.upto fnExactNodeLevelSpec)

/-- 'laws.FnExactBakeBudget', WHERE WHAT IT READS IS OF BULK AT MOST 1048576: true; the input reads as it did. -/
def fnExactBakeBudgetUptoRow : OpenClaim := { program := "ytlfdpambbgddoaa", sum := "03722f5013ecc67b4ad3883bafeb2c161426a77129acce419341f92d7f450d5e", func := "loop.example/g00639/laws.FnExactBakeBudget", spec := "fnExactBakeBudget", unfollowed := true, recurses := true, plainKeys := false, apart := false, narrowed := true }
def FnExactBakeBudgetUptoSaid : Prop := fnExactBakeBudgetUptoRow.holds Try.pinned (OpenSpec.upto fnExactBakeBudgetSpec)

/-- 'laws.FnCells', WHERE WHAT IT READS IS OF BULK AT MOST 1048576: true; the input reads as it did. -/
def fnCellsUptoRow : OpenClaim := { program := "ytlfdpambbgddoaa", sum := "03722f5013ecc67b4ad3883bafeb2c161426a77129acce419341f92d7f450d5e", func := "loop.example/g00639/laws.FnCells", spec := "fnCells", unfollowed := true, recurses := true, plainKeys := false, apart := false, narrowed := true }
def FnCellsUptoSaid : Prop := fnCellsUptoRow.holds Try.pinned (OpenSpec.upto fnCellsSpec)

/-- 'laws.FnEven', WHERE WHAT IT READS IS OF BULK AT MOST 1048576: true; the input reads as it did. -/
def fnEvenUptoRow : OpenClaim := { program := "ytlfdpambbgddoaa", sum := "03722f5013ecc67b4ad3883bafeb2c161426a77129acce419341f92d7f450d5e", func := "loop.example/g00639/laws.FnEven", spec := "fnEven", unfollowed := true, recurses := true, plainKeys := false, apart := false, narrowed := true }
def FnEvenUptoSaid : Prop := fnEvenUptoRow.holds Try.pinned (OpenSpec.upto fnEvenSpec)

/-- 'laws.FnStages', WHERE WHAT IT READS IS OF BULK AT MOST 1048576: true; the input reads as it did. -/
def fnStagesUptoRow : OpenClaim := { program := "ytlfdpambbgddoaa", sum := "03722f5013ecc67b4ad3883bafeb2c161426a77129acce419341f92d7f450d5e", func := "loop.example/g00639/laws.FnStages", spec := "fnStages", unfollowed := true, recurses := true, plainKeys := false, apart := false, narrowed := true }
def FnStagesUptoSaid : Prop := fnStagesUptoRow.holds Try.pinned (OpenSpec.upto fnStagesSpec)

/-- 'laws.FnSwaps', WHERE WHAT IT READS IS OF BULK AT MOST 1048576: true; the input reads as it did. -/
def fnSwapsUptoRow : OpenClaim := { program := "ytlfdpambbgddoaa", sum := "03722f5013ecc67b4ad3883bafeb2c161426a77129acce419341f92d7f450d5e", func := "loop.example/g00639/laws.FnSwaps", spec := "fnSwaps", plainKeys := false, apart := false, narrowed := true }
def FnSwapsUptoSaid : Prop := fnSwapsUptoRow.holds Try.pinned (OpenSpec.upto fnSwapsSpec)

end Rows
end Go.Proofs.Ytlfdpambbgddoaa
