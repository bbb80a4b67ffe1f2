/-
  No cell of these rows narrows 'for every input' (looked for: loops, veiled, ifaces, maps, wideKeys, modest, calm, conditions, laid).
  DERIVED. THE GIVEN ROWS OF THIS SEAT. 6 by the template 'for every input the law returns true; each argument reads behind the call as it read before'; 0 by the template 'total and deterministic' (their statements: YtmmlcdbbjkligaaGreatTotals.lean).
  GIVEN WITH THE SEED: the statements are not yours to turn. If you find one false, say at which input.
  Laid BY PROGRAM, IN A SANDBOX (cutbox-rows.mjs): the forced cells as the released guide's own fill.sh prints them over the translation b6848afd959c9281… (all of the seat's roots in one cut). By AI agents, Wed Nov 11 2026. No macro, syntax, notation, axiom, sorry.
-/
import Derived.Test.YtmmlcdbbjkligaaGreatChecked
import GoSem.Claim
import GoSem.ClaimJoined
import GoSem.ClaimMapViews
import Derived.JoinedTies
import Derived.KernelRfl
namespace Go.Proofs.YtmmlcdbbjkligaaGreat
/- THE CELL 'sum', in the pinned program and in every row, IS THE sha256 OF THE DUMP (.gsa) THAT YtmmlcdbbjkligaaGreatProg.lean LOADS. Nothing in Lean hashes anything: it is a label: what it is worth is what the hold of that sum in a sandbox is worth. -/
noncomputable def Tryz.pinned : Pinned := { name := "ytmmlcdbbjkligaagreat", sum := "b6848afd959c9281e4c6a59fa94d5458e1f910fc8b80106b6a1ede8d56ccb607", checked := Tryz.checked }
namespace Rows
def none {H : Type} : Left H := { results := [], args := [] }

/-- 'laws.FnExactEvalStage': WHATEVER THE INPUT: true; the input reads as it did. -/
def fnExactEvalStageSpec : ChangeSpec := { name := "fnExactEvalStage", fn := fun _ => fun
  | [d1, d2] => { results := [.lit (.bool true)], args := [d1, d2] }
  | _ => none }
def fnExactEvalStageRow : OpenClaim := { program := "ytmmlcdbbjkligaagreat", sum := "b6848afd959c9281e4c6a59fa94d5458e1f910fc8b80106b6a1ede8d56ccb607", func := "loop.example/g00639/laws.FnExactEvalStage", spec := "fnExactEvalStage", unfollowed := true, recurses := true, plainKeys := false, apart := false }
def FnExactEvalStageSaid : Prop := fnExactEvalStageRow.holds Tryz.pinned (OpenSpec.ofChange fnExactEvalStageSpec)

/-- ITS FALSE NEIGHBOUR: 'it returns false'. Refute it at one input. -/
def fnExactEvalStageWrong : ChangeSpec := { name := "fnExactEvalStage", fn := fun _ => fun
  | [d1, d2] => { results := [.lit (.bool false)], args := [d1, d2] }
  | _ => none }
def FnExactEvalStageWrongFalsely : Prop := fnExactEvalStageRow.holds Tryz.pinned (OpenSpec.ofChange fnExactEvalStageWrong)

/-- 'laws.FnExactEvalChain': WHATEVER THE INPUT: true; the input reads as it did. -/
def fnExactEvalChainSpec : ChangeSpec := { name := "fnExactEvalChain", fn := fun _ => fun
  | [d1, d2] => { results := [.lit (.bool true)], args := [d1, d2] }
  | _ => none }
def fnExactEvalChainRow : OpenClaim := { program := "ytmmlcdbbjkligaagreat", sum := "b6848afd959c9281e4c6a59fa94d5458e1f910fc8b80106b6a1ede8d56ccb607", func := "loop.example/g00639/laws.FnExactEvalChain", spec := "fnExactEvalChain", unfollowed := true, recurses := true, plainKeys := false, apart := false }
def FnExactEvalChainSaid : Prop := fnExactEvalChainRow.holds Tryz.pinned (OpenSpec.ofChange fnExactEvalChainSpec)

/-- ITS FALSE NEIGHBOUR: 'it returns false'. Refute it at one input. -/
def fnExactEvalChainWrong : ChangeSpec := { name := "fnExactEvalChain", fn := fun _ => fun
  | [d1, d2] => { results := [.lit (.bool false)], args := [d1, d2] }
  | _ => none }
def FnExactEvalChainWrongFalsely : Prop := fnExactEvalChainRow.holds Tryz.pinned (OpenSpec.ofChange fnExactEvalChainWrong)

/-- 'laws.FnExactStepsOf': WHATEVER THE INPUT: true; the input reads as it did. -/
def fnExactStepsOfSpec : ChangeSpec := { name := "fnExactStepsOf", fn := fun _ => fun
  | [d1, d2] => { results := [.lit (.bool true)], args := [d1, d2] }
  | _ => none }
def fnExactStepsOfRow : OpenClaim := { program := "ytmmlcdbbjkligaagreat", sum := "b6848afd959c9281e4c6a59fa94d5458e1f910fc8b80106b6a1ede8d56ccb607", func := "loop.example/g00639/laws.FnExactStepsOf", spec := "fnExactStepsOf", unfollowed := true, recurses := true, plainKeys := false, apart := false }
def FnExactStepsOfSaid : Prop := fnExactStepsOfRow.holds Tryz.pinned (OpenSpec.ofChange fnExactStepsOfSpec)

/-- ITS FALSE NEIGHBOUR: 'it returns false'. Refute it at one input. -/
def fnExactStepsOfWrong : ChangeSpec := { name := "fnExactStepsOf", fn := fun _ => fun
  | [d1, d2] => { results := [.lit (.bool false)], args := [d1, d2] }
  | _ => none }
def FnExactStepsOfWrongFalsely : Prop := fnExactStepsOfRow.holds Tryz.pinned (OpenSpec.ofChange fnExactStepsOfWrong)

/-- 'laws.FnExactFineChain': WHATEVER THE INPUT: true; the input reads as it did. -/
def fnExactFineChainSpec : ChangeSpec := { name := "fnExactFineChain", fn := fun _ => fun
  | [d1, d2] => { results := [.lit (.bool true)], args := [d1, d2] }
  | _ => none }
def fnExactFineChainRow : OpenClaim := { program := "ytmmlcdbbjkligaagreat", sum := "b6848afd959c9281e4c6a59fa94d5458e1f910fc8b80106b6a1ede8d56ccb607", func := "loop.example/g00639/laws.FnExactFineChain", spec := "fnExactFineChain", unfollowed := true, recurses := true, plainKeys := false, apart := false }
def FnExactFineChainSaid : Prop := fnExactFineChainRow.holds Tryz.pinned (OpenSpec.ofChange fnExactFineChainSpec)

/-- ITS FALSE NEIGHBOUR: 'it returns false'. Refute it at one input. -/
def fnExactFineChainWrong : ChangeSpec := { name := "fnExactFineChain", fn := fun _ => fun
  | [d1, d2] => { results := [.lit (.bool false)], args := [d1, d2] }
  | _ => none }
def FnExactFineChainWrongFalsely : Prop := fnExactFineChainRow.holds Tryz.pinned (OpenSpec.ofChange fnExactFineChainWrong)

/-- 'laws.FnExactOffBy': WHATEVER THE INPUT: true; the input reads as it did. -/
def fnExactOffBySpec : ChangeSpec := { name := "fnExactOffBy", fn := fun _ => fun
  | [d1, d2] => { results := [.lit (.bool true)], args := [d1, d2] }
  | _ => none }
def fnExactOffByRow : OpenClaim := { program := "ytmmlcdbbjkligaagreat", sum := "b6848afd959c9281e4c6a59fa94d5458e1f910fc8b80106b6a1ede8d56ccb607", func := "loop.example/g00639/laws.FnExactOffBy", spec := "fnExactOffBy", unfollowed := true, recurses := true, plainKeys := false, apart := false }
def FnExactOffBySaid : Prop := fnExactOffByRow.holds Tryz.pinned (OpenSpec.ofChange fnExactOffBySpec)

/-- ITS FALSE NEIGHBOUR: 'it returns false'. Refute it at one input. -/
def fnExactOffByWrong : ChangeSpec := { name := "fnExactOffBy", fn := fun _ => fun
  | [d1, d2] => { results := [.lit (.bool false)], args := [d1, d2] }
  | _ => none }
def FnExactOffByWrongFalsely : Prop := fnExactOffByRow.holds Tryz.pinned (OpenSpec.ofChange fnExactOffByWrong)

/-- 'laws.FnExactWithinBudget': WHATEVER THE INPUT: true; the input reads as it did. -/
def fnExactWithinBudgetSpec : ChangeSpec := { name := "fnExactWithinBudget", fn := fun _ => fun
  | [d1, d2] => { results := [.lit (.bool true)], args := [d1, d2] }
  | _ => none }
def fnExactWithinBudgetRow : OpenClaim := { program := "ytmmlcdbbjkligaagreat", sum := "b6848afd959c9281e4c6a59fa94d5458e1f910fc8b80106b6a1ede8d56ccb607", func := "loop.example/g00639/laws.FnExactWithinBudget", spec := "fnExactWithinBudget", unfollowed := true, recurses := true, plainKeys := false, apart := false }
def FnExactWithinBudgetSaid : Prop := fnExactWithinBudgetRow.holds Tryz.pinned (OpenSpec.ofChange fnExactWithinBudgetSpec)

/-- ITS FALSE NEIGHBOUR: 'it returns false'. Refute it at one input. -/
def fnExactWithinBudgetWrong : ChangeSpec := { name := "fnExactWithinBudget", fn := fun _ => fun
  | [d1, d2] => { results := [.lit (.bool false)], args := [d1, d2] }
  | _ => none }
def FnExactWithinBudgetWrongFalsely : Prop := fnExactWithinBudgetRow.holds Tryz.pinned (OpenSpec.ofChange fnExactWithinBudgetWrong)

/- THE SECOND FORM. 'bulk': how many values and letters a reading holds, each counted each time it is reached (what is shared counts as often as it is met; a slice's spare places count too). A statement '..UptoSaid' is the law's where the arguments, and the package variables that the reading takes, are together of bulk at most 1048576: NARROWER than '..Said'. Prove '..Said' where nothing that the law and all that it calls make is longer than what came in: it says more and counts as full. Else prove '..UptoSaid'. A law counts once. -/
mutual
def uptoBulk {H : Type} : DataW H → Nat
  | .lit (.string bytes) => bytes.length + 1
  | .lit _ => 1
  | .nil => 1
  | .ptr d => uptoBulk d + 1
  | .slice elems spare => uptoBulkAll elems + uptoBulkAll spare + 1
  | .agg parts => uptoBulkAll parts + 1
  | .iface _ d => uptoBulk d + 1
  | .map entries => uptoBulkEntries entries + 1
  | .held _ => 1
def uptoBulkAll {H : Type} : List (DataW H) → Nat
  | [] => 0
  | d :: r => uptoBulk d + uptoBulkAll r
def uptoBulkEntries {H : Type} : List (Lit × DataW H) → Nat
  | [] => 0
  | x :: r => uptoBulkEntry x + uptoBulkEntries r
def uptoBulkEntry {H : Type} : Lit × DataW H → Nat
  | (.string bytes, d) => bytes.length + uptoBulk d + 1
  | (_, d) => uptoBulk d + 1
 end
def uptoSmall : (H : Type) → List (DataW H) → Bool := fun _ ds => decide (uptoBulkAll ds ≤ 1048576)
def OpenSpec.upto (s : _root_.Go.ChangeSpec) : _root_.Go.OpenSpec := { _root_.Go.OpenSpec.ofChange s with cond := some uptoSmall }

/-- 'laws.FnExactEvalStage', WHERE WHAT IT READS IS OF BULK AT MOST 1048576: true; the input reads as it did. -/
def fnExactEvalStageUptoRow : OpenClaim := { program := "ytmmlcdbbjkligaagreat", sum := "b6848afd959c9281e4c6a59fa94d5458e1f910fc8b80106b6a1ede8d56ccb607", func := "loop.example/g00639/laws.FnExactEvalStage", spec := "fnExactEvalStage", unfollowed := true, recurses := true, plainKeys := false, apart := false, narrowed := true }
def FnExactEvalStageUptoSaid : Prop := fnExactEvalStageUptoRow.holds Tryz.pinned (OpenSpec.upto fnExactEvalStageSpec)

/-- 'laws.FnExactEvalChain', WHERE WHAT IT READS IS OF BULK AT MOST 1048576: true; the input reads as it did. -/
def fnExactEvalChainUptoRow : OpenClaim := { program := "ytmmlcdbbjkligaagreat", sum := "b6848afd959c9281e4c6a59fa94d5458e1f910fc8b80106b6a1ede8d56ccb607", func := "loop.example/g00639/laws.FnExactEvalChain", spec := "fnExactEvalChain", unfollowed := true, recurses := true, plainKeys := false, apart := false, narrowed := true }
def FnExactEvalChainUptoSaid : Prop := fnExactEvalChainUptoRow.holds Tryz.pinned (OpenSpec.upto fnExactEvalChainSpec)

/-- 'laws.FnExactStepsOf', WHERE WHAT IT READS IS OF BULK AT MOST 1048576: true; the input reads as it did. -/
def fnExactStepsOfUptoRow : OpenClaim := { program := "ytmmlcdbbjkligaagreat", sum := "b6848afd959c9281e4c6a59fa94d5458e1f910fc8b80106b6a1ede8d56ccb607", func := "loop.example/g00639/laws.FnExactStepsOf", spec := "fnExactStepsOf", unfollowed := true, recurses := true, plainKeys := false, apart := false, narrowed := true }
def FnExactStepsOfUptoSaid : Prop := fnExactStepsOfUptoRow.holds Tryz.pinned (OpenSpec.upto fnExactStepsOfSpec)

/-- 'laws.FnExactFineChain', WHERE WHAT IT READS IS OF BULK AT MOST 1048576: true; the input reads as it did. -/
def fnExactFineChainUptoRow : OpenClaim := { program := "ytmmlcdbbjkligaagreat", sum := "b6848afd959c9281e4c6a59fa94d5458e1f910fc8b80106b6a1ede8d56ccb607", func := "loop.example/g00639/laws.FnExactFineChain", spec := "fnExactFineChain", unfollowed := true, recurses := true, plainKeys := false, apart := false, narrowed := true }
def FnExactFineChainUptoSaid : Prop := fnExactFineChainUptoRow.holds Tryz.pinned (OpenSpec.upto fnExactFineChainSpec)

/-- 'laws.FnExactOffBy', WHERE WHAT IT READS IS OF BULK AT MOST 1048576: true; the input reads as it did. -/
def fnExactOffByUptoRow : OpenClaim := { program := "ytmmlcdbbjkligaagreat", sum := "b6848afd959c9281e4c6a59fa94d5458e1f910fc8b80106b6a1ede8d56ccb607", func := "loop.example/g00639/laws.FnExactOffBy", spec := "fnExactOffBy", unfollowed := true, recurses := true, plainKeys := false, apart := false, narrowed := true }
def FnExactOffByUptoSaid : Prop := fnExactOffByUptoRow.holds Tryz.pinned (OpenSpec.upto fnExactOffBySpec)

/-- 'laws.FnExactWithinBudget', WHERE WHAT IT READS IS OF BULK AT MOST 1048576: true; the input reads as it did. -/
def fnExactWithinBudgetUptoRow : OpenClaim := { program := "ytmmlcdbbjkligaagreat", sum := "b6848afd959c9281e4c6a59fa94d5458e1f910fc8b80106b6a1ede8d56ccb607", func := "loop.example/g00639/laws.FnExactWithinBudget", spec := "fnExactWithinBudget", unfollowed := true, recurses := true, plainKeys := false, apart := false, narrowed := true }
def FnExactWithinBudgetUptoSaid : Prop := fnExactWithinBudgetUptoRow.holds Tryz.pinned (OpenSpec.upto fnExactWithinBudgetSpec)

end Rows
end Go.Proofs.YtmmlcdbbjkligaaGreat
