/-
  No cell of these rows narrows 'for every input' (looked for: loops, veiled, ifaces, maps, wideKeys, modest, calm, conditions, laid).
  DERIVED. THE GIVEN ROWS OF THIS SEAT. 9 by the template 'for every input the law returns true; each argument reads behind the call as it read before'; 0 by the template 'total and deterministic' (their statements: YtmcdbingcclpcaaTotals.lean).
  GIVEN WITH THE SEED: the statements are not yours to turn. If you find one false, say at which input.
  Laid BY PROGRAM, IN A SANDBOX (cutbox-rows.mjs): the forced cells as the released guide's own fill.sh prints them over the translation 54745cff41033235… (all of the seat's roots in one cut). By AI agents, Wed Nov 11 2026. No macro, syntax, notation, axiom, sorry.
-/
import Derived.Test.YtmcdbingcclpcaaChecked
import GoSem.Claim
import GoSem.ClaimJoined
import GoSem.ClaimMapViews
import Derived.JoinedTies
import Derived.KernelRfl
namespace Go.Proofs.Ytmcdbingcclpcaa
/- THE CELL 'sum', in the pinned program and in every row, IS THE sha256 OF THE DUMP (.gsa) THAT YtmcdbingcclpcaaProg.lean LOADS. Nothing in Lean hashes anything: it is a label: what it is worth is what the hold of that sum in a sandbox is worth. -/
noncomputable def Try.pinned : Pinned := { name := "ytmcdbingcclpcaa", sum := "54745cff410332359937161372e87b05bb6e1250759f65a20abcb42eb8d9f1e6", checked := Try.checked }
namespace Rows
def none {H : Type} : Left H := { results := [], args := [] }

/-- 'laws.FnMatrices': WHATEVER THE INPUT: true; the input reads as it did. -/
def fnMatricesSpec : ChangeSpec := { name := "fnMatrices", fn := fun _ => fun
  | [d] => { results := [.lit (.bool true)], args := [d] }
  | _ => none }
def fnMatricesRow : OpenClaim := { program := "ytmcdbingcclpcaa", sum := "54745cff410332359937161372e87b05bb6e1250759f65a20abcb42eb8d9f1e6", func := "loop.example/g00639/laws.FnMatrices", spec := "fnMatrices", unfollowed := true, recurses := true, plainKeys := false, apart := false }
def FnMatricesSaid : Prop := fnMatricesRow.holds Try.pinned (OpenSpec.ofChange fnMatricesSpec)

/-- ITS FALSE NEIGHBOUR: 'it returns false'. Refute it at one input. -/
def fnMatricesWrong : ChangeSpec := { name := "fnMatrices", fn := fun _ => fun
  | [d] => { results := [.lit (.bool false)], args := [d] }
  | _ => none }
def FnMatricesWrongFalsely : Prop := fnMatricesRow.holds Try.pinned (OpenSpec.ofChange fnMatricesWrong)

/-- 'laws.FnSwaps': WHATEVER THE INPUT: true; the input reads as it did. -/
def fnSwapsSpec : ChangeSpec := { name := "fnSwaps", fn := fun _ => fun
  | [d] => { results := [.lit (.bool true)], args := [d] }
  | _ => none }
def fnSwapsRow : OpenClaim := { program := "ytmcdbingcclpcaa", sum := "54745cff410332359937161372e87b05bb6e1250759f65a20abcb42eb8d9f1e6", func := "loop.example/g00639/laws.FnSwaps", spec := "fnSwaps", plainKeys := false, apart := false }
def FnSwapsSaid : Prop := fnSwapsRow.holds Try.pinned (OpenSpec.ofChange fnSwapsSpec)

/-- ITS FALSE NEIGHBOUR: 'it returns false'. Refute it at one input. -/
def fnSwapsWrong : ChangeSpec := { name := "fnSwaps", fn := fun _ => fun
  | [d] => { results := [.lit (.bool false)], args := [d] }
  | _ => none }
def FnSwapsWrongFalsely : Prop := fnSwapsRow.holds Try.pinned (OpenSpec.ofChange fnSwapsWrong)

/-- 'laws.FnExactMulMatrix': WHATEVER THE INPUT: true; the input reads as it did. -/
def fnExactMulMatrixSpec : ChangeSpec := { name := "fnExactMulMatrix", fn := fun _ => fun
  | [d1, d2] => { results := [.lit (.bool true)], args := [d1, d2] }
  | _ => none }
def fnExactMulMatrixRow : OpenClaim := { program := "ytmcdbingcclpcaa", sum := "54745cff410332359937161372e87b05bb6e1250759f65a20abcb42eb8d9f1e6", func := "loop.example/g00639/laws.FnExactMulMatrix", spec := "fnExactMulMatrix", plainKeys := false, apart := false }
def FnExactMulMatrixSaid : Prop := fnExactMulMatrixRow.holds Try.pinned (OpenSpec.ofChange fnExactMulMatrixSpec)

/-- ITS FALSE NEIGHBOUR: 'it returns false'. Refute it at one input. -/
def fnExactMulMatrixWrong : ChangeSpec := { name := "fnExactMulMatrix", fn := fun _ => fun
  | [d1, d2] => { results := [.lit (.bool false)], args := [d1, d2] }
  | _ => none }
def FnExactMulMatrixWrongFalsely : Prop := fnExactMulMatrixRow.holds Try.pinned (OpenSpec.ofChange fnExactMulMatrixWrong)

/-- 'laws.FnExactEvalGrid': WHATEVER THE INPUT: true; the input reads as it did. -/
def fnExactEvalGridSpec : ChangeSpec := { name := "fnExactEvalGrid", fn := fun _ => fun
  | [d1, d2] => { results := [.lit (.bool true)], args := [d1, d2] }
  | _ => none }
def fnExactEvalGridRow : OpenClaim := { program := "ytmcdbingcclpcaa", sum := "54745cff410332359937161372e87b05bb6e1250759f65a20abcb42eb8d9f1e6", func := "loop.example/g00639/laws.FnExactEvalGrid", spec := "fnExactEvalGrid", unfollowed := true, recurses := true, plainKeys := false, apart := false }
def FnExactEvalGridSaid : Prop := fnExactEvalGridRow.holds Try.pinned (OpenSpec.ofChange fnExactEvalGridSpec)

/-- ITS FALSE NEIGHBOUR: 'it returns false'. Refute it at one input. -/
def fnExactEvalGridWrong : ChangeSpec := { name := "fnExactEvalGrid", fn := fun _ => fun
  | [d1, d2] => { results := [.lit (.bool false)], args := [d1, d2] }
  | _ => none }
def FnExactEvalGridWrongFalsely : Prop := fnExactEvalGridRow.holds Try.pinned (OpenSpec.ofChange fnExactEvalGridWrong)

/-- 'laws.FnExactCellOf': WHATEVER THE INPUT: true; the input reads as it did. -/
def fnExactCellOfSpec : ChangeSpec := { name := "fnExactCellOf", fn := fun _ => fun
  | [d1, d2] => { results := [.lit (.bool true)], args := [d1, d2] }
  | _ => none }
def fnExactCellOfRow : OpenClaim := { program := "ytmcdbingcclpcaa", sum := "54745cff410332359937161372e87b05bb6e1250759f65a20abcb42eb8d9f1e6", func := "loop.example/g00639/laws.FnExactCellOf", spec := "fnExactCellOf", plainKeys := false, apart := false }
def FnExactCellOfSaid : Prop := fnExactCellOfRow.holds Try.pinned (OpenSpec.ofChange fnExactCellOfSpec)

/-- ITS FALSE NEIGHBOUR: 'it returns false'. Refute it at one input. -/
def fnExactCellOfWrong : ChangeSpec := { name := "fnExactCellOf", fn := fun _ => fun
  | [d1, d2] => { results := [.lit (.bool false)], args := [d1, d2] }
  | _ => none }
def FnExactCellOfWrongFalsely : Prop := fnExactCellOfRow.holds Try.pinned (OpenSpec.ofChange fnExactCellOfWrong)

/-- 'laws.FnExactLineGrid': WHATEVER THE INPUT: true; the input reads as it did. -/
def fnExactLineGridSpec : ChangeSpec := { name := "fnExactLineGrid", fn := fun _ => fun
  | [d] => { results := [.lit (.bool true)], args := [d] }
  | _ => none }
def fnExactLineGridRow : OpenClaim := { program := "ytmcdbingcclpcaa", sum := "54745cff410332359937161372e87b05bb6e1250759f65a20abcb42eb8d9f1e6", func := "loop.example/g00639/laws.FnExactLineGrid", spec := "fnExactLineGrid", plainKeys := false, apart := false }
def FnExactLineGridSaid : Prop := fnExactLineGridRow.holds Try.pinned (OpenSpec.ofChange fnExactLineGridSpec)

/-- ITS FALSE NEIGHBOUR: 'it returns false'. Refute it at one input. -/
def fnExactLineGridWrong : ChangeSpec := { name := "fnExactLineGrid", fn := fun _ => fun
  | [d] => { results := [.lit (.bool false)], args := [d] }
  | _ => none }
def FnExactLineGridWrongFalsely : Prop := fnExactLineGridRow.holds Try.pinned (OpenSpec.ofChange fnExactLineGridWrong)

/-- 'laws.FnExactSpanOf': WHATEVER THE INPUT: true; the input reads as it did. -/
def fnExactSpanOfSpec : ChangeSpec := { name := "fnExactSpanOf", fn := fun _ => fun
  | [d] => { results := [.lit (.bool true)], args := [d] }
  | _ => none }
def fnExactSpanOfRow : OpenClaim := { program := "ytmcdbingcclpcaa", sum := "54745cff410332359937161372e87b05bb6e1250759f65a20abcb42eb8d9f1e6", func := "loop.example/g00639/laws.FnExactSpanOf", spec := "fnExactSpanOf", plainKeys := false, apart := false }
def FnExactSpanOfSaid : Prop := fnExactSpanOfRow.holds Try.pinned (OpenSpec.ofChange fnExactSpanOfSpec)

/-- ITS FALSE NEIGHBOUR: 'it returns false'. Refute it at one input. -/
def fnExactSpanOfWrong : ChangeSpec := { name := "fnExactSpanOf", fn := fun _ => fun
  | [d] => { results := [.lit (.bool false)], args := [d] }
  | _ => none }
def FnExactSpanOfWrongFalsely : Prop := fnExactSpanOfRow.holds Try.pinned (OpenSpec.ofChange fnExactSpanOfWrong)

/-- 'laws.FnExactJoinChains': WHATEVER THE INPUT: true; the input reads as it did. -/
def fnExactJoinChainsSpec : ChangeSpec := { name := "fnExactJoinChains", fn := fun _ => fun
  | [d1, d2] => { results := [.lit (.bool true)], args := [d1, d2] }
  | _ => none }
def fnExactJoinChainsRow : OpenClaim := { program := "ytmcdbingcclpcaa", sum := "54745cff410332359937161372e87b05bb6e1250759f65a20abcb42eb8d9f1e6", func := "loop.example/g00639/laws.FnExactJoinChains", spec := "fnExactJoinChains", unfollowed := true, recurses := true, plainKeys := false, apart := false }
def FnExactJoinChainsSaid : Prop := fnExactJoinChainsRow.holds Try.pinned (OpenSpec.ofChange fnExactJoinChainsSpec)

/-- ITS FALSE NEIGHBOUR: 'it returns false'. Refute it at one input. -/
def fnExactJoinChainsWrong : ChangeSpec := { name := "fnExactJoinChains", fn := fun _ => fun
  | [d1, d2] => { results := [.lit (.bool false)], args := [d1, d2] }
  | _ => none }
def FnExactJoinChainsWrongFalsely : Prop := fnExactJoinChainsRow.holds Try.pinned (OpenSpec.ofChange fnExactJoinChainsWrong)

/-- 'laws.FnExactSameChains': WHATEVER THE INPUT: true; the input reads as it did. -/
def fnExactSameChainsSpec : ChangeSpec := { name := "fnExactSameChains", fn := fun _ => fun
  | [d1, d2] => { results := [.lit (.bool true)], args := [d1, d2] }
  | _ => none }
def fnExactSameChainsRow : OpenClaim := { program := "ytmcdbingcclpcaa", sum := "54745cff410332359937161372e87b05bb6e1250759f65a20abcb42eb8d9f1e6", func := "loop.example/g00639/laws.FnExactSameChains", spec := "fnExactSameChains", unfollowed := true, recurses := true, plainKeys := false, apart := false }
def FnExactSameChainsSaid : Prop := fnExactSameChainsRow.holds Try.pinned (OpenSpec.ofChange fnExactSameChainsSpec)

/-- ITS FALSE NEIGHBOUR: 'it returns false'. Refute it at one input. -/
def fnExactSameChainsWrong : ChangeSpec := { name := "fnExactSameChains", fn := fun _ => fun
  | [d1, d2] => { results := [.lit (.bool false)], args := [d1, d2] }
  | _ => none }
def FnExactSameChainsWrongFalsely : Prop := fnExactSameChainsRow.holds Try.pinned (OpenSpec.ofChange fnExactSameChainsWrong)

/- THE SECOND FORM. 'bulk': how many values and letters a reading holds, each counted each time it is reached (what is shared counts as often as it is met; a slice's spare places count too). A statement '..UptoSaid' is the law's where the arguments, and the package variables that the reading takes, are together of bulk at most 1048576: NARROWER than '..Said'. Prove '..Said' where nothing that the law and all that it calls make is longer than what came in: it says more and counts as full. Else prove '..UptoSaid'. A law counts once. -/
mutual
def uptoBulk {H : Type} : DataW H → Nat
  | .lit (.string bytes) => bytes.length + 1
  | .lit _ => 1
  | .nil => 1
  | .ptr d => uptoBulk d + 1
  | .slice elems spare => uptoBulkAll elems + uptoBulkAll spare + 1
  | .agg parts => uptoBulkAll parts + 1
  | .iface _ d => uptoBulk d + 1
  | .map entries => uptoBulkEntries entries + 1
  | .held _ => 1
def uptoBulkAll {H : Type} : List (DataW H) → Nat
  | [] => 0
  | d :: r => uptoBulk d + uptoBulkAll r
def uptoBulkEntries {H : Type} : List (Lit × DataW H) → Nat
  | [] => 0
  | x :: r => uptoBulkEntry x + uptoBulkEntries r
def uptoBulkEntry {H : Type} : Lit × DataW H → Nat
  | (.string bytes, d) => bytes.length + uptoBulk d + 1
  | (_, d) => uptoBulk d + 1
 end
def uptoSmall : (H : Type) → List (DataW H) → Bool := fun _ ds => decide (uptoBulkAll ds ≤ 1048576)
def OpenSpec.upto (s : _root_.Go.ChangeSpec) : _root_.Go.OpenSpec := { _root_.Go.OpenSpec.ofChange s with cond := some uptoSmall }

/-- 'laws.FnMatrices', WHERE WHAT IT READS IS OF BULK AT MOST 1048576: true; the input reads as it did. -/
def fnMatricesUptoRow : OpenClaim := { program := "ytmcdbingcclpcaa", sum := "54745cff410332359937161372e87b05bb6e1250759f65a20abcb42eb8d9f1e6", func := "loop.example/g00639/laws.FnMatrices", spec := "fnMatrices", unfollowed := true, recurses := true, plainKeys := false, apart := false, narrowed := true }
def FnMatricesUptoSaid : Prop := fnMatricesUptoRow.holds Try.pinned (OpenSpec.upto fnMatricesSpec)

/-- 'laws.FnSwaps', WHERE WHAT IT READS IS OF BULK AT MOST 1048576: true; the input reads as it did. -/
def fnSwapsUptoRow : OpenClaim := { program := "ytmcdbingcclpcaa", sum := "54745cff410332359937161372e87b05bb6e1250759f65a20abcb42eb8d9f1e6", func := "loop.example/g00639/laws.FnSwaps", spec := "fnSwaps", plainKeys := false, apart := false, narrowed := true }
def FnSwapsUptoSaid : Prop := fnSwapsUptoRow.holds Try.pinned (OpenSpec.upto fnSwapsSpec)

/-- 'laws.FnExactMulMatrix', WHERE WHAT IT READS IS OF BULK AT MOST 1048576: true; the input reads as it did. -/
def fnExactMulMatrixUptoRow : OpenClaim := { program := "ytmcdbingcclpcaa", sum := "54745cff410332359937161372e87b05bb6e1250759f65a20abcb42eb8d9f1e6", func := "loop.example/g00639/laws.FnExactMulMatrix", spec := "fnExactMulMatrix", plainKeys := false, apart := false, narrowed := true }
def FnExactMulMatrixUptoSaid : Prop := fnExactMulMatrixUptoRow.holds Try.pinned (OpenSpec.upto fnExactMulMatrixSpec)

/-- 'laws.FnExactEvalGrid', WHERE WHAT IT READS IS OF BULK AT MOST 1048576: true; the input reads as it did. -/
def fnExactEvalGridUptoRow : OpenClaim := { program := "ytmcdbingcclpcaa", sum := "54745cff410332359937161372e87b05bb6e1250759f65a20abcb42eb8d9f1e6", func := "loop.example/g00639/laws.FnExactEvalGrid", spec := "fnExactEvalGrid", unfollowed := true, recurses := true, plainKeys := false, apart := false, narrowed := true }
def FnExactEvalGridUptoSaid : Prop := fnExactEvalGridUptoRow.holds Try.pinned (OpenSpec.upto fnExactEvalGridSpec)

/-- 'laws.FnExactCellOf', WHERE WHAT IT READS IS OF BULK AT MOST 1048576: true; the input reads as it did. -/
def fnExactCellOfUptoRow : OpenClaim := { program := "ytmcdbingcclpcaa", sum := "54745cff410332359937161372e87b05bb6e1250759f65a20abcb42eb8d9f1e6", func := "loop.example/g00639/laws.FnExactCellOf", spec := "fnExactCellOf", plainKeys := false, apart := false, narrowed := true }
def FnExactCellOfUptoSaid : Prop := fnExactCellOfUptoRow.holds Try.pinned (OpenSpec.upto fnExactCellOfSpec)

/-- 'laws.FnExactLineGrid', WHERE WHAT IT READS IS OF BULK AT MOST 1048576: true; the input reads as it did. -/
def fnExactLineGridUptoRow : OpenClaim := { program := "ytmcdbingcclpcaa", sum := "54745cff410332359937161372e87b05bb6e1250759f65a20abcb42eb8d9f1e6", func := "loop.example/g00639/laws.FnExactLineGrid", spec := "fnExactLineGrid", plainKeys := false, apart := false, narrowed := true }
def FnExactLineGridUptoSaid : Prop := fnExactLineGridUptoRow.holds Try.pinned (OpenSpec.upto fnExactLineGridSpec)

/-- 'laws.FnExactSpanOf', WHERE WHAT IT READS IS OF BULK AT MOST 1048576: true; the input reads as it did. -/
def fnExactSpanOfUptoRow : OpenClaim := { program := "ytmcdbingcclpcaa", sum := "54745cff410332359937161372e87b05bb6e1250759f65a20abcb42eb8d9f1e6", func := "loop.example/g00639/laws.FnExactSpanOf", spec := "fnExactSpanOf", plainKeys := false, apart := false, narrowed := true }
def FnExactSpanOfUptoSaid : Prop := fnExactSpanOfUptoRow.holds Try.pinned (OpenSpec.upto fnExactSpanOfSpec)

/-- 'laws.FnExactJoinChains', WHERE WHAT IT READS IS OF BULK AT MOST 1048576: true; the input reads as it did. -/
def fnExactJoinChainsUptoRow : OpenClaim := { program := "ytmcdbingcclpcaa", sum := "54745cff410332359937161372e87b05bb6e1250759f65a20abcb42eb8d9f1e6", func := "loop.example/g00639/laws.FnExactJoinChains", spec := "fnExactJoinChains", unfollowed := true, recurses := true, plainKeys := false, apart := false, narrowed := true }
def FnExactJoinChainsUptoSaid : Prop := fnExactJoinChainsUptoRow.holds Try.pinned (OpenSpec.upto fnExactJoinChainsSpec)

/-- 'laws.FnExactSameChains', WHERE WHAT IT READS IS OF BULK AT MOST 1048576: true; the input reads as it did. -/
def fnExactSameChainsUptoRow : OpenClaim := { program := "ytmcdbingcclpcaa", sum := "54745cff410332359937161372e87b05bb6e1250759f65a20abcb42eb8d9f1e6", func := "loop.example/g00639/laws.FnExactSameChains", spec := "fnExactSameChains", unfollowed := true, recurses := true, plainKeys := false, apart := false, narrowed := true }
def FnExactSameChainsUptoSaid : Prop := fnExactSameChainsUptoRow.holds Try.pinned (OpenSpec.upto fnExactSameChainsSpec)

end Rows
end Go.Proofs.Ytmcdbingcclpcaa
