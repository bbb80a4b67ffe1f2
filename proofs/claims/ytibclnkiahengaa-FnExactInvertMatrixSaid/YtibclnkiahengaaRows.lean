/-
  No cell of these rows narrows 'for every input' (looked for: loops, veiled, ifaces, maps, wideKeys, modest, calm, conditions, laid).
  DERIVED. THE GIVEN ROWS OF THIS SEAT. 12 by the template 'for every input the law returns true; each argument reads behind the call as it read before'; 0 by the template 'total and deterministic' (their statements: YtibclnkiahengaaTotals.lean).
  GIVEN WITH THE SEED: the statements are not yours to turn. If you find one false, say at which input.
  Laid BY PROGRAM, IN A SANDBOX (cutbox-rows.mjs): the forced cells as the released guide's own fill.sh prints them over the translation 731482dce103caf8… (all of the seat's roots in one cut). By AI agents, Wed Nov 11 2026. No macro, syntax, notation, axiom, sorry.
-/
import Derived.Test.YtibclnkiahengaaChecked
import GoSem.Claim
import GoSem.ClaimJoined
import GoSem.ClaimMapViews
import Derived.JoinedTies
import Derived.KernelRfl
namespace Go.Proofs.Ytibclnkiahengaa
/- THE CELL 'sum', in the pinned program and in every row, IS THE sha256 OF THE DUMP (.gsa) THAT YtibclnkiahengaaProg.lean LOADS. Nothing in Lean hashes anything: it is a label: what it is worth is what the hold of that sum in a sandbox is worth. -/
noncomputable def Try.pinned : Pinned := { name := "ytibclnkiahengaa", sum := "731482dce103caf8db460a432213470cc4de10b5a8afe75dec3825f8321e0355", checked := Try.checked }
namespace Rows
def none {H : Type} : Left H := { results := [], args := [] }

/-- 'laws.FnExactUnitMatrix': WHATEVER THE INPUT: true; the input reads as it did. -/
def fnExactUnitMatrixSpec : ChangeSpec := { name := "fnExactUnitMatrix", fn := fun _ => fun
  | [] => { results := [.lit (.bool true)], args := [] }
  | _ => none }
def fnExactUnitMatrixRow : OpenClaim := { program := "ytibclnkiahengaa", sum := "731482dce103caf8db460a432213470cc4de10b5a8afe75dec3825f8321e0355", func := "loop.example/g00639/laws.FnExactUnitMatrix", spec := "fnExactUnitMatrix", plainKeys := false, apart := false }
def FnExactUnitMatrixSaid : Prop := fnExactUnitMatrixRow.holds Try.pinned (OpenSpec.ofChange fnExactUnitMatrixSpec)

/-- ITS FALSE NEIGHBOUR: 'it returns false'. Refute it at one input. -/
def fnExactUnitMatrixWrong : ChangeSpec := { name := "fnExactUnitMatrix", fn := fun _ => fun
  | [] => { results := [.lit (.bool false)], args := [] }
  | _ => none }
def FnExactUnitMatrixWrongFalsely : Prop := fnExactUnitMatrixRow.holds Try.pinned (OpenSpec.ofChange fnExactUnitMatrixWrong)

/-- 'laws.FnExactApplyMatrix': WHATEVER THE INPUT: true; the input reads as it did. -/
def fnExactApplyMatrixSpec : ChangeSpec := { name := "fnExactApplyMatrix", fn := fun _ => fun
  | [d1, d2] => { results := [.lit (.bool true)], args := [d1, d2] }
  | _ => none }
def fnExactApplyMatrixRow : OpenClaim := { program := "ytibclnkiahengaa", sum := "731482dce103caf8db460a432213470cc4de10b5a8afe75dec3825f8321e0355", func := "loop.example/g00639/laws.FnExactApplyMatrix", spec := "fnExactApplyMatrix", plainKeys := false, apart := false }
def FnExactApplyMatrixSaid : Prop := fnExactApplyMatrixRow.holds Try.pinned (OpenSpec.ofChange fnExactApplyMatrixSpec)

/-- ITS FALSE NEIGHBOUR: 'it returns false'. Refute it at one input. -/
def fnExactApplyMatrixWrong : ChangeSpec := { name := "fnExactApplyMatrix", fn := fun _ => fun
  | [d1, d2] => { results := [.lit (.bool false)], args := [d1, d2] }
  | _ => none }
def FnExactApplyMatrixWrongFalsely : Prop := fnExactApplyMatrixRow.holds Try.pinned (OpenSpec.ofChange fnExactApplyMatrixWrong)

/-- 'laws.FnExactMulMatrix': WHATEVER THE INPUT: true; the input reads as it did. -/
def fnExactMulMatrixSpec : ChangeSpec := { name := "fnExactMulMatrix", fn := fun _ => fun
  | [d1, d2] => { results := [.lit (.bool true)], args := [d1, d2] }
  | _ => none }
def fnExactMulMatrixRow : OpenClaim := { program := "ytibclnkiahengaa", sum := "731482dce103caf8db460a432213470cc4de10b5a8afe75dec3825f8321e0355", func := "loop.example/g00639/laws.FnExactMulMatrix", spec := "fnExactMulMatrix", plainKeys := false, apart := false }
def FnExactMulMatrixSaid : Prop := fnExactMulMatrixRow.holds Try.pinned (OpenSpec.ofChange fnExactMulMatrixSpec)

/-- ITS FALSE NEIGHBOUR: 'it returns false'. Refute it at one input. -/
def fnExactMulMatrixWrong : ChangeSpec := { name := "fnExactMulMatrix", fn := fun _ => fun
  | [d1, d2] => { results := [.lit (.bool false)], args := [d1, d2] }
  | _ => none }
def FnExactMulMatrixWrongFalsely : Prop := fnExactMulMatrixRow.holds Try.pinned (OpenSpec.ofChange fnExactMulMatrixWrong)

/-- 'laws.FnExactInvertMatrix': WHATEVER THE INPUT: true; the input reads as it did. -/
def fnExactInvertMatrixSpec : ChangeSpec := { name := "fnExactInvertMatrix", fn := fun _ => fun
  | [d] => { results := [.lit (.bool true)], args := [d] }
  | _ => none }
def fnExactInvertMatrixRow : OpenClaim := { program := "ytibclnkiahengaa", sum := "731482dce103caf8db460a432213470cc4de10b5a8afe75dec3825f8321e0355", func := "loop.example/g00639/laws.FnExactInvertMatrix", spec := "fnExactInvertMatrix", plainKeys := false, apart := false }
def FnExactInvertMatrixSaid : Prop := fnExactInvertMatrixRow.holds Try.pinned (OpenSpec.ofChange fnExactInvertMatrixSpec)

/-- ITS FALSE NEIGHBOUR: 'it returns false'. Refute it at one input. -/
def fnExactInvertMatrixWrong : ChangeSpec := { name := "fnExactInvertMatrix", fn := fun _ => fun
  | [d] => { results := [.lit (.bool false)], args := [d] }
  | _ => none }
def FnExactInvertMatrixWrongFalsely : Prop := fnExactInvertMatrixRow.holds Try.pinned (OpenSpec.ofChange fnExactInvertMatrixWrong)

/-- 'laws.FnExactCellOf': WHATEVER THE INPUT: true; the input reads as it did. -/
def fnExactCellOfSpec : ChangeSpec := { name := "fnExactCellOf", fn := fun _ => fun
  | [d1, d2] => { results := [.lit (.bool true)], args := [d1, d2] }
  | _ => none }
def fnExactCellOfRow : OpenClaim := { program := "ytibclnkiahengaa", sum := "731482dce103caf8db460a432213470cc4de10b5a8afe75dec3825f8321e0355", func := "loop.example/g00639/laws.FnExactCellOf", spec := "fnExactCellOf", plainKeys := false, apart := false }
def FnExactCellOfSaid : Prop := fnExactCellOfRow.holds Try.pinned (OpenSpec.ofChange fnExactCellOfSpec)

/-- ITS FALSE NEIGHBOUR: 'it returns false'. Refute it at one input. -/
def fnExactCellOfWrong : ChangeSpec := { name := "fnExactCellOf", fn := fun _ => fun
  | [d1, d2] => { results := [.lit (.bool false)], args := [d1, d2] }
  | _ => none }
def FnExactCellOfWrongFalsely : Prop := fnExactCellOfRow.holds Try.pinned (OpenSpec.ofChange fnExactCellOfWrong)

/-- 'laws.FnExactSpanOf': WHATEVER THE INPUT: true; the input reads as it did. -/
def fnExactSpanOfSpec : ChangeSpec := { name := "fnExactSpanOf", fn := fun _ => fun
  | [d] => { results := [.lit (.bool true)], args := [d] }
  | _ => none }
def fnExactSpanOfRow : OpenClaim := { program := "ytibclnkiahengaa", sum := "731482dce103caf8db460a432213470cc4de10b5a8afe75dec3825f8321e0355", func := "loop.example/g00639/laws.FnExactSpanOf", spec := "fnExactSpanOf", plainKeys := false, apart := false }
def FnExactSpanOfSaid : Prop := fnExactSpanOfRow.holds Try.pinned (OpenSpec.ofChange fnExactSpanOfSpec)

/-- ITS FALSE NEIGHBOUR: 'it returns false'. Refute it at one input. -/
def fnExactSpanOfWrong : ChangeSpec := { name := "fnExactSpanOf", fn := fun _ => fun
  | [d] => { results := [.lit (.bool false)], args := [d] }
  | _ => none }
def FnExactSpanOfWrongFalsely : Prop := fnExactSpanOfRow.holds Try.pinned (OpenSpec.ofChange fnExactSpanOfWrong)

/-- 'laws.FnExactLineGrid': WHATEVER THE INPUT: true; the input reads as it did. -/
def fnExactLineGridSpec : ChangeSpec := { name := "fnExactLineGrid", fn := fun _ => fun
  | [d] => { results := [.lit (.bool true)], args := [d] }
  | _ => none }
def fnExactLineGridRow : OpenClaim := { program := "ytibclnkiahengaa", sum := "731482dce103caf8db460a432213470cc4de10b5a8afe75dec3825f8321e0355", func := "loop.example/g00639/laws.FnExactLineGrid", spec := "fnExactLineGrid", plainKeys := false, apart := false }
def FnExactLineGridSaid : Prop := fnExactLineGridRow.holds Try.pinned (OpenSpec.ofChange fnExactLineGridSpec)

/-- ITS FALSE NEIGHBOUR: 'it returns false'. Refute it at one input. -/
def fnExactLineGridWrong : ChangeSpec := { name := "fnExactLineGrid", fn := fun _ => fun
  | [d] => { results := [.lit (.bool false)], args := [d] }
  | _ => none }
def FnExactLineGridWrongFalsely : Prop := fnExactLineGridRow.holds Try.pinned (OpenSpec.ofChange fnExactLineGridWrong)

/-- 'laws.FnExactEvalGrid': WHATEVER THE INPUT: true; the input reads as it did. -/
def fnExactEvalGridSpec : ChangeSpec := { name := "fnExactEvalGrid", fn := fun _ => fun
  | [d1, d2] => { results := [.lit (.bool true)], args := [d1, d2] }
  | _ => none }
def fnExactEvalGridRow : OpenClaim := { program := "ytibclnkiahengaa", sum := "731482dce103caf8db460a432213470cc4de10b5a8afe75dec3825f8321e0355", func := "loop.example/g00639/laws.FnExactEvalGrid", spec := "fnExactEvalGrid", unfollowed := true, recurses := true, plainKeys := false, apart := false }
def FnExactEvalGridSaid : Prop := fnExactEvalGridRow.holds Try.pinned (OpenSpec.ofChange fnExactEvalGridSpec)

/-- ITS FALSE NEIGHBOUR: 'it returns false'. Refute it at one input. -/
def fnExactEvalGridWrong : ChangeSpec := { name := "fnExactEvalGrid", fn := fun _ => fun
  | [d1, d2] => { results := [.lit (.bool false)], args := [d1, d2] }
  | _ => none }
def FnExactEvalGridWrongFalsely : Prop := fnExactEvalGridRow.holds Try.pinned (OpenSpec.ofChange fnExactEvalGridWrong)

/-- 'laws.FnExactStageFault': WHATEVER THE INPUT: true; the input reads as it did. -/
def fnExactStageFaultSpec : ChangeSpec := { name := "fnExactStageFault", fn := fun _ => fun
  | [d] => { results := [.lit (.bool true)], args := [d] }
  | _ => none }
def fnExactStageFaultRow : OpenClaim := { program := "ytibclnkiahengaa", sum := "731482dce103caf8db460a432213470cc4de10b5a8afe75dec3825f8321e0355", func := "loop.example/g00639/laws.FnExactStageFault", spec := "fnExactStageFault", unfollowed := true, recurses := true, plainKeys := false, apart := false }
def FnExactStageFaultSaid : Prop := fnExactStageFaultRow.holds Try.pinned (OpenSpec.ofChange fnExactStageFaultSpec)

/-- ITS FALSE NEIGHBOUR: 'it returns false'. Refute it at one input. -/
def fnExactStageFaultWrong : ChangeSpec := { name := "fnExactStageFault", fn := fun _ => fun
  | [d] => { results := [.lit (.bool false)], args := [d] }
  | _ => none }
def FnExactStageFaultWrongFalsely : Prop := fnExactStageFaultRow.holds Try.pinned (OpenSpec.ofChange fnExactStageFaultWrong)

/-- 'laws.FnExactChainFault': WHATEVER THE INPUT: true; the input reads as it did. -/
def fnExactChainFaultSpec : ChangeSpec := { name := "fnExactChainFault", fn := fun _ => fun
  | [d] => { results := [.lit (.bool true)], args := [d] }
  | _ => none }
def fnExactChainFaultRow : OpenClaim := { program := "ytibclnkiahengaa", sum := "731482dce103caf8db460a432213470cc4de10b5a8afe75dec3825f8321e0355", func := "loop.example/g00639/laws.FnExactChainFault", spec := "fnExactChainFault", unfollowed := true, recurses := true, plainKeys := false, apart := false }
def FnExactChainFaultSaid : Prop := fnExactChainFaultRow.holds Try.pinned (OpenSpec.ofChange fnExactChainFaultSpec)

/-- ITS FALSE NEIGHBOUR: 'it returns false'. Refute it at one input. -/
def fnExactChainFaultWrong : ChangeSpec := { name := "fnExactChainFault", fn := fun _ => fun
  | [d] => { results := [.lit (.bool false)], args := [d] }
  | _ => none }
def FnExactChainFaultWrongFalsely : Prop := fnExactChainFaultRow.holds Try.pinned (OpenSpec.ofChange fnExactChainFaultWrong)

/-- 'laws.FnExactSameChains': WHATEVER THE INPUT: true; the input reads as it did. -/
def fnExactSameChainsSpec : ChangeSpec := { name := "fnExactSameChains", fn := fun _ => fun
  | [d1, d2] => { results := [.lit (.bool true)], args := [d1, d2] }
  | _ => none }
def fnExactSameChainsRow : OpenClaim := { program := "ytibclnkiahengaa", sum := "731482dce103caf8db460a432213470cc4de10b5a8afe75dec3825f8321e0355", func := "loop.example/g00639/laws.FnExactSameChains", spec := "fnExactSameChains", unfollowed := true, recurses := true, plainKeys := false, apart := false }
def FnExactSameChainsSaid : Prop := fnExactSameChainsRow.holds Try.pinned (OpenSpec.ofChange fnExactSameChainsSpec)

/-- ITS FALSE NEIGHBOUR: 'it returns false'. Refute it at one input. -/
def fnExactSameChainsWrong : ChangeSpec := { name := "fnExactSameChains", fn := fun _ => fun
  | [d1, d2] => { results := [.lit (.bool false)], args := [d1, d2] }
  | _ => none }
def FnExactSameChainsWrongFalsely : Prop := fnExactSameChainsRow.holds Try.pinned (OpenSpec.ofChange fnExactSameChainsWrong)

/-- 'laws.FnSwaps': WHATEVER THE INPUT: true; the input reads as it did. -/
def fnSwapsSpec : ChangeSpec := { name := "fnSwaps", fn := fun _ => fun
  | [d] => { results := [.lit (.bool true)], args := [d] }
  | _ => none }
def fnSwapsRow : OpenClaim := { program := "ytibclnkiahengaa", sum := "731482dce103caf8db460a432213470cc4de10b5a8afe75dec3825f8321e0355", func := "loop.example/g00639/laws.FnSwaps", spec := "fnSwaps", plainKeys := false, apart := false }
def FnSwapsSaid : Prop := fnSwapsRow.holds Try.pinned (OpenSpec.ofChange fnSwapsSpec)

/-- ITS FALSE NEIGHBOUR: 'it returns false'. Refute it at one input. -/
def fnSwapsWrong : ChangeSpec := { name := "fnSwaps", fn := fun _ => fun
  | [d] => { results := [.lit (.bool false)], args := [d] }
  | _ => none }
def FnSwapsWrongFalsely : Prop := fnSwapsRow.holds Try.pinned (OpenSpec.ofChange fnSwapsWrong)

/- THE SECOND FORM. 'bulk': how many values and letters a reading holds, each counted each time it is reached (what is shared counts as often as it is met; a slice's spare places count too). A statement '..UptoSaid' is the law's where the arguments, and the package variables that the reading takes, are together of bulk at most 1048576: NARROWER than '..Said'. Prove '..Said' where nothing that the law and all that it calls make is longer than what came in: it says more and counts as full. Else prove '..UptoSaid'. A law counts once. -/
mutual
def uptoBulk {H : Type} : DataW H → Nat
  | .lit (.string bytes) => bytes.length + 1
  | .lit _ => 1
  | .nil => 1
  | .ptr d => uptoBulk d + 1
  | .slice elems spare => uptoBulkAll elems + uptoBulkAll spare + 1
  | .agg parts => uptoBulkAll parts + 1
  | .iface _ d => uptoBulk d + 1
  | .map entries => uptoBulkEntries entries + 1
  | .held _ => 1
def uptoBulkAll {H : Type} : List (DataW H) → Nat
  | [] => 0
  | d :: r => uptoBulk d + uptoBulkAll r
def uptoBulkEntries {H : Type} : List (Lit × DataW H) → Nat
  | [] => 0
  | x :: r => uptoBulkEntry x + uptoBulkEntries r
def uptoBulkEntry {H : Type} : Lit × DataW H → Nat
  | (.string bytes, d) => bytes.length + uptoBulk d + 1
  | (_, d) => uptoBulk d + 1
 end
def uptoSmall : (H : Type) → List (DataW H) → Bool := fun _ ds => decide (uptoBulkAll ds ≤ 1048576)
def OpenSpec.upto (s : _root_.Go.ChangeSpec) : _root_.Go.OpenSpec := { _root_.Go.OpenSpec.ofChange s with cond := some uptoSmall }

/-- 'laws.FnExactUnitMatrix', WHERE WHAT IT READS IS OF BULK AT MOST 1048576: true; the input reads as it did. -/
def fnExactUnitMatrixUptoRow : OpenClaim := { program := "ytibclnkiahengaa", sum := "731482dce103caf8db460a432213470cc4de10b5a8afe75dec3825f8321e0355", func := "loop.example/g00639/laws.FnExactUnitMatrix", spec := "fnExactUnitMatrix", plainKeys := false, apart := false, narrowed := true }
def FnExactUnitMatrixUptoSaid : Prop := fnExactUnitMatrixUptoRow.holds Try.pinned (OpenSpec.upto fnExactUnitMatrixSpec)

/-- 'laws.FnExactApplyMatrix', WHERE WHAT IT READS IS OF BULK AT MOST 1048576: true; the input reads as it did. -/
def fnExactApplyMatrixUptoRow : OpenClaim := { program := "ytibclnkiahengaa", sum := "731482dce103caf8db460a432213470cc4de10b5a8afe75dec3825f8321e0355", func := "loop.example/g00639/laws.FnExactApplyMatrix", spec := "fnExactApplyMatrix", plainKeys := false, apart := false, narrowed := true }
def FnExactApplyMatrixUptoSaid : Prop := fnExactApplyMatrixUptoRow.holds Try.pinned (OpenSpec.upto fnExactApplyMatrixSpec)

/-- 'laws.FnExactMulMatrix', WHERE WHAT IT READS IS OF BULK AT MOST 1048576: true; the input reads as it did. -/
def fnExactMulMatrixUptoRow : OpenClaim := { program := "ytibclnkiahengaa", sum := "731482dce103caf8db460a432213470cc4de10b5a8afe75dec3825f8321e0355", func := "loop.example/g00639/laws.FnExactMulMatrix", spec := "fnExactMulMatrix", plainKeys := false, apart := false, narrowed := true }
def FnExactMulMatrixUptoSaid : Prop := fnExactMulMatrixUptoRow.holds Try.pinned (OpenSpec.upto fnExactMulMatrixSpec)

/-- 'laws.FnExactInvertMatrix', WHERE WHAT IT READS IS OF BULK AT MOST 1048576: true; the input reads as it did. -/
def fnExactInvertMatrixUptoRow : OpenClaim := { program := "ytibclnkiahengaa", sum := "731482dce103caf8db460a432213470cc4de10b5a8afe75dec3825f8321e0355", func := "loop.example/g00639/laws.FnExactInvertMatrix", spec := "fnExactInvertMatrix", plainKeys := false, apart := false, narrowed := true }
def FnExactInvertMatrixUptoSaid : Prop := fnExactInvertMatrixUptoRow.holds Try.pinned (OpenSpec.upto fnExactInvertMatrixSpec)

/-- 'laws.FnExactCellOf', WHERE WHAT IT READS IS OF BULK AT MOST 1048576: true; the input reads as it did. -/
def fnExactCellOfUptoRow : OpenClaim := { program := "ytibclnkiahengaa", sum := "731482dce103caf8db460a432213470cc4de10b5a8afe75dec3825f8321e0355", func := "loop.example/g00639/laws.FnExactCellOf", spec := "fnExactCellOf", plainKeys := false, apart := false, narrowed := true }
def FnExactCellOfUptoSaid : Prop := fnExactCellOfUptoRow.holds Try.pinned (OpenSpec.upto fnExactCellOfSpec)

/-- 'laws.FnExactSpanOf', WHERE WHAT IT READS IS OF BULK AT MOST 1048576: true; the input reads as it did. -/
def fnExactSpanOfUptoRow : OpenClaim := { program := "ytibclnkiahengaa", sum := "731482dce103caf8db460a432213470cc4de10b5a8afe75dec3825f8321e0355", func := "loop.example/g00639/laws.FnExactSpanOf", spec := "fnExactSpanOf", plainKeys := false, apart := false, narrowed := true }
def FnExactSpanOfUptoSaid : Prop := fnExactSpanOfUptoRow.holds Try.pinned (OpenSpec.upto fnExactSpanOfSpec)

/-- 'laws.FnExactLineGrid', WHERE WHAT IT READS IS OF BULK AT MOST 1048576: true; the input reads as it did. -/
def fnExactLineGridUptoRow : OpenClaim := { program := "ytibclnkiahengaa", sum := "731482dce103caf8db460a432213470cc4de10b5a8afe75dec3825f8321e0355", func := "loop.example/g00639/laws.FnExactLineGrid", spec := "fnExactLineGrid", plainKeys := false, apart := false, narrowed := true }
def FnExactLineGridUptoSaid : Prop := fnExactLineGridUptoRow.holds Try.pinned (OpenSpec.upto fnExactLineGridSpec)

/-- 'laws.FnExactEvalGrid', WHERE WHAT IT READS IS OF BULK AT MOST 1048576: true; the input reads as it did. -/
def fnExactEvalGridUptoRow : OpenClaim := { program := "ytibclnkiahengaa", sum := "731482dce103caf8db460a432213470cc4de10b5a8afe75dec3825f8321e0355", func := "loop.example/g00639/laws.FnExactEvalGrid", spec := "fnExactEvalGrid", unfollowed := true, recurses := true, plainKeys := false, apart := false, narrowed := true }
def FnExactEvalGridUptoSaid : Prop := fnExactEvalGridUptoRow.holds Try.pinned (OpenSpec.upto fnExactEvalGridSpec)

/-- 'laws.FnExactStageFault', WHERE WHAT IT READS IS OF BULK AT MOST 1048576: true; the input reads as it did. -/
def fnExactStageFaultUptoRow : OpenClaim := { program := "ytibclnkiahengaa", sum := "731482dce103caf8db460a432213470cc4de10b5a8afe75dec3825f8321e0355", func := "loop.example/g00639/laws.FnExactStageFault", spec := "fnExactStageFault", unfollowed := true, recurses := true, plainKeys := false, apart := false, narrowed := true }
def FnExactStageFaultUptoSaid : Prop := fnExactStageFaultUptoRow.holds Try.pinned (OpenSpec.upto fnExactStageFaultSpec)

/-- 'laws.FnExactChainFault', WHERE WHAT IT READS IS OF BULK AT MOST 1048576: true; the input reads as it did. -/
def fnExactChainFaultUptoRow : OpenClaim := { program := "ytibclnkiahengaa", sum := "731482dce103caf8db460a432213470cc4de10b5a8afe75dec3825f8321e0355", func := "loop.example/g00639/laws.FnExactChainFault", spec := "fnExactChainFault", unfollowed := true, recurses := true, plainKeys := false, apart := false, narrowed := true }
def FnExactChainFaultUptoSaid : Prop := fnExactChainFaultUptoRow.holds Try.pinned (OpenSpec.upto fnExactChainFaultSpec)

/-- 'laws.FnExactSameChains', WHERE WHAT IT READS IS OF BULK AT MOST 1048576: true; the input reads as it did. -/
def fnExactSameChainsUptoRow : OpenClaim := { program := "ytibclnkiahengaa", sum := "731482dce103caf8db460a432213470cc4de10b5a8afe75dec3825f8321e0355", func := "loop.example/g00639/laws.FnExactSameChains", spec := "fnExactSameChains", unfollowed := true, recurses := true, plainKeys := false, apart := false, narrowed := true }
def FnExactSameChainsUptoSaid : Prop := fnExactSameChainsUptoRow.holds Try.pinned (OpenSpec.upto fnExactSameChainsSpec)

/-- 'laws.FnSwaps', WHERE WHAT IT READS IS OF BULK AT MOST 1048576: true; the input reads as it did. -/
def fnSwapsUptoRow : OpenClaim := { program := "ytibclnkiahengaa", sum := "731482dce103caf8db460a432213470cc4de10b5a8afe75dec3825f8321e0355", func := "loop.example/g00639/laws.FnSwaps", spec := "fnSwaps", plainKeys := false, apart := false, narrowed := true }
def FnSwapsUptoSaid : Prop := fnSwapsUptoRow.holds Try.pinned (OpenSpec.upto fnSwapsSpec)

end Rows
end Go.Proofs.Ytibclnkiahengaa
