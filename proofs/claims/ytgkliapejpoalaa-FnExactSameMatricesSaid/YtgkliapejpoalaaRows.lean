/-
  No cell of these rows narrows 'for every input' (looked for: loops, veiled, ifaces, maps, wideKeys, modest, calm, conditions, laid).
  DERIVED. THE GIVEN ROWS OF THIS SEAT. 11 by the template 'for every input the law returns true; each argument reads behind the call as it read before'; 0 by the template 'total and deterministic' (their statements: YtgkliapejpoalaaTotals.lean).
  GIVEN WITH THE SEED: the statements are not yours to turn. If you find one false, say at which input.
  Laid BY PROGRAM, IN A SANDBOX (cutbox-rows.mjs): the forced cells as the released guide's own fill.sh prints them over the translation 44303307fa9f753c… (all of the seat's roots in one cut). By AI agents, Wed Nov 11 2026. No macro, syntax, notation, axiom, sorry.
-/
import Derived.Test.YtgkliapejpoalaaChecked
import GoSem.Claim
import GoSem.ClaimJoined
import GoSem.ClaimMapViews
import Derived.JoinedTies
import Derived.KernelRfl
namespace Go.Proofs.Ytgkliapejpoalaa
/- THE CELL 'sum', in the pinned program and in every row, IS THE sha256 OF THE DUMP (.gsa) THAT YtgkliapejpoalaaProg.lean LOADS. Nothing in Lean hashes anything: it is a label: what it is worth is what the hold of that sum in a sandbox is worth. -/
noncomputable def Try.pinned : Pinned := { name := "ytgkliapejpoalaa", sum := "44303307fa9f753c08010ad49a2aeac956b34f6b6237bb8ebb859afb27861300", checked := Try.checked }
namespace Rows
def none {H : Type} : Left H := { results := [], args := [] }

/-- 'laws.FnProfiles': WHATEVER THE INPUT: true; the input reads as it did. -/
def fnProfilesSpec : ChangeSpec := { name := "fnProfiles", fn := fun _ => fun
  | [d] => { results := [.lit (.bool true)], args := [d] }
  | _ => none }
def fnProfilesRow : OpenClaim := { program := "ytgkliapejpoalaa", sum := "44303307fa9f753c08010ad49a2aeac956b34f6b6237bb8ebb859afb27861300", func := "loop.example/g00639/laws.FnProfiles", spec := "fnProfiles", unfollowed := true, recurses := true, plainKeys := false, apart := false }
def FnProfilesSaid : Prop := fnProfilesRow.holds Try.pinned (OpenSpec.ofChange fnProfilesSpec)

/-- ITS FALSE NEIGHBOUR: 'it returns false'. Refute it at one input. -/
def fnProfilesWrong : ChangeSpec := { name := "fnProfiles", fn := fun _ => fun
  | [d] => { results := [.lit (.bool false)], args := [d] }
  | _ => none }
def FnProfilesWrongFalsely : Prop := fnProfilesRow.holds Try.pinned (OpenSpec.ofChange fnProfilesWrong)

/-- 'laws.FnMatrices': WHATEVER THE INPUT: true; the input reads as it did. -/
def fnMatricesSpec : ChangeSpec := { name := "fnMatrices", fn := fun _ => fun
  | [d] => { results := [.lit (.bool true)], args := [d] }
  | _ => none }
def fnMatricesRow : OpenClaim := { program := "ytgkliapejpoalaa", sum := "44303307fa9f753c08010ad49a2aeac956b34f6b6237bb8ebb859afb27861300", func := "loop.example/g00639/laws.FnMatrices", spec := "fnMatrices", unfollowed := true, recurses := true, plainKeys := false, apart := false }
def FnMatricesSaid : Prop := fnMatricesRow.holds Try.pinned (OpenSpec.ofChange fnMatricesSpec)

/-- ITS FALSE NEIGHBOUR: 'it returns false'. Refute it at one input. -/
def fnMatricesWrong : ChangeSpec := { name := "fnMatrices", fn := fun _ => fun
  | [d] => { results := [.lit (.bool false)], args := [d] }
  | _ => none }
def FnMatricesWrongFalsely : Prop := fnMatricesRow.holds Try.pinned (OpenSpec.ofChange fnMatricesWrong)

/-- 'laws.FnSwaps': WHATEVER THE INPUT: true; the input reads as it did. -/
def fnSwapsSpec : ChangeSpec := { name := "fnSwaps", fn := fun _ => fun
  | [d] => { results := [.lit (.bool true)], args := [d] }
  | _ => none }
def fnSwapsRow : OpenClaim := { program := "ytgkliapejpoalaa", sum := "44303307fa9f753c08010ad49a2aeac956b34f6b6237bb8ebb859afb27861300", func := "loop.example/g00639/laws.FnSwaps", spec := "fnSwaps", plainKeys := false, apart := false }
def FnSwapsSaid : Prop := fnSwapsRow.holds Try.pinned (OpenSpec.ofChange fnSwapsSpec)

/-- ITS FALSE NEIGHBOUR: 'it returns false'. Refute it at one input. -/
def fnSwapsWrong : ChangeSpec := { name := "fnSwaps", fn := fun _ => fun
  | [d] => { results := [.lit (.bool false)], args := [d] }
  | _ => none }
def FnSwapsWrongFalsely : Prop := fnSwapsRow.holds Try.pinned (OpenSpec.ofChange fnSwapsWrong)

/-- 'laws.FnExactMatrixFault': WHATEVER THE INPUT: true; the input reads as it did. -/
def fnExactMatrixFaultSpec : ChangeSpec := { name := "fnExactMatrixFault", fn := fun _ => fun
  | [d] => { results := [.lit (.bool true)], args := [d] }
  | _ => none }
def fnExactMatrixFaultRow : OpenClaim := { program := "ytgkliapejpoalaa", sum := "44303307fa9f753c08010ad49a2aeac956b34f6b6237bb8ebb859afb27861300", func := "loop.example/g00639/laws.FnExactMatrixFault", spec := "fnExactMatrixFault", plainKeys := false, apart := false }
def FnExactMatrixFaultSaid : Prop := fnExactMatrixFaultRow.holds Try.pinned (OpenSpec.ofChange fnExactMatrixFaultSpec)

/-- ITS FALSE NEIGHBOUR: 'it returns false'. Refute it at one input. -/
def fnExactMatrixFaultWrong : ChangeSpec := { name := "fnExactMatrixFault", fn := fun _ => fun
  | [d] => { results := [.lit (.bool false)], args := [d] }
  | _ => none }
def FnExactMatrixFaultWrongFalsely : Prop := fnExactMatrixFaultRow.holds Try.pinned (OpenSpec.ofChange fnExactMatrixFaultWrong)

/-- 'laws.FnExactUnitMatrix': WHATEVER THE INPUT: true; the input reads as it did. -/
def fnExactUnitMatrixSpec : ChangeSpec := { name := "fnExactUnitMatrix", fn := fun _ => fun
  | [] => { results := [.lit (.bool true)], args := [] }
  | _ => none }
def fnExactUnitMatrixRow : OpenClaim := { program := "ytgkliapejpoalaa", sum := "44303307fa9f753c08010ad49a2aeac956b34f6b6237bb8ebb859afb27861300", func := "loop.example/g00639/laws.FnExactUnitMatrix", spec := "fnExactUnitMatrix", plainKeys := false, apart := false }
def FnExactUnitMatrixSaid : Prop := fnExactUnitMatrixRow.holds Try.pinned (OpenSpec.ofChange fnExactUnitMatrixSpec)

/-- ITS FALSE NEIGHBOUR: 'it returns false'. Refute it at one input. -/
def fnExactUnitMatrixWrong : ChangeSpec := { name := "fnExactUnitMatrix", fn := fun _ => fun
  | [] => { results := [.lit (.bool false)], args := [] }
  | _ => none }
def FnExactUnitMatrixWrongFalsely : Prop := fnExactUnitMatrixRow.holds Try.pinned (OpenSpec.ofChange fnExactUnitMatrixWrong)

/-- 'laws.FnExactApplyMatrix': WHATEVER THE INPUT: true; the input reads as it did. -/
def fnExactApplyMatrixSpec : ChangeSpec := { name := "fnExactApplyMatrix", fn := fun _ => fun
  | [d1, d2] => { results := [.lit (.bool true)], args := [d1, d2] }
  | _ => none }
def fnExactApplyMatrixRow : OpenClaim := { program := "ytgkliapejpoalaa", sum := "44303307fa9f753c08010ad49a2aeac956b34f6b6237bb8ebb859afb27861300", func := "loop.example/g00639/laws.FnExactApplyMatrix", spec := "fnExactApplyMatrix", plainKeys := false, apart := false }
def FnExactApplyMatrixSaid : Prop := fnExactApplyMatrixRow.holds Try.pinned (OpenSpec.ofChange fnExactApplyMatrixSpec)

/-- ITS FALSE NEIGHBOUR: 'it returns false'. Refute it at one input. -/
def fnExactApplyMatrixWrong : ChangeSpec := { name := "fnExactApplyMatrix", fn := fun _ => fun
  | [d1, d2] => { results := [.lit (.bool false)], args := [d1, d2] }
  | _ => none }
def FnExactApplyMatrixWrongFalsely : Prop := fnExactApplyMatrixRow.holds Try.pinned (OpenSpec.ofChange fnExactApplyMatrixWrong)

/-- 'laws.FnExactMulMatrix': WHATEVER THE INPUT: true; the input reads as it did. -/
def fnExactMulMatrixSpec : ChangeSpec := { name := "fnExactMulMatrix", fn := fun _ => fun
  | [d1, d2] => { results := [.lit (.bool true)], args := [d1, d2] }
  | _ => none }
def fnExactMulMatrixRow : OpenClaim := { program := "ytgkliapejpoalaa", sum := "44303307fa9f753c08010ad49a2aeac956b34f6b6237bb8ebb859afb27861300", func := "loop.example/g00639/laws.FnExactMulMatrix", spec := "fnExactMulMatrix", plainKeys := false, apart := false }
def FnExactMulMatrixSaid : Prop := fnExactMulMatrixRow.holds Try.pinned (OpenSpec.ofChange fnExactMulMatrixSpec)

/-- ITS FALSE NEIGHBOUR: 'it returns false'. Refute it at one input. -/
def fnExactMulMatrixWrong : ChangeSpec := { name := "fnExactMulMatrix", fn := fun _ => fun
  | [d1, d2] => { results := [.lit (.bool false)], args := [d1, d2] }
  | _ => none }
def FnExactMulMatrixWrongFalsely : Prop := fnExactMulMatrixRow.holds Try.pinned (OpenSpec.ofChange fnExactMulMatrixWrong)

/-- 'laws.FnExactDetOf': WHATEVER THE INPUT: true; the input reads as it did. -/
def fnExactDetOfSpec : ChangeSpec := { name := "fnExactDetOf", fn := fun _ => fun
  | [d] => { results := [.lit (.bool true)], args := [d] }
  | _ => none }
def fnExactDetOfRow : OpenClaim := { program := "ytgkliapejpoalaa", sum := "44303307fa9f753c08010ad49a2aeac956b34f6b6237bb8ebb859afb27861300", func := "loop.example/g00639/laws.FnExactDetOf", spec := "fnExactDetOf", plainKeys := false, apart := false }
def FnExactDetOfSaid : Prop := fnExactDetOfRow.holds Try.pinned (OpenSpec.ofChange fnExactDetOfSpec)

/-- ITS FALSE NEIGHBOUR: 'it returns false'. Refute it at one input. -/
def fnExactDetOfWrong : ChangeSpec := { name := "fnExactDetOf", fn := fun _ => fun
  | [d] => { results := [.lit (.bool false)], args := [d] }
  | _ => none }
def FnExactDetOfWrongFalsely : Prop := fnExactDetOfRow.holds Try.pinned (OpenSpec.ofChange fnExactDetOfWrong)

/-- 'laws.FnExactInvertMatrix': WHATEVER THE INPUT: true; the input reads as it did. -/
def fnExactInvertMatrixSpec : ChangeSpec := { name := "fnExactInvertMatrix", fn := fun _ => fun
  | [d] => { results := [.lit (.bool true)], args := [d] }
  | _ => none }
def fnExactInvertMatrixRow : OpenClaim := { program := "ytgkliapejpoalaa", sum := "44303307fa9f753c08010ad49a2aeac956b34f6b6237bb8ebb859afb27861300", func := "loop.example/g00639/laws.FnExactInvertMatrix", spec := "fnExactInvertMatrix", plainKeys := false, apart := false }
def FnExactInvertMatrixSaid : Prop := fnExactInvertMatrixRow.holds Try.pinned (OpenSpec.ofChange fnExactInvertMatrixSpec)

/-- ITS FALSE NEIGHBOUR: 'it returns false'. Refute it at one input. -/
def fnExactInvertMatrixWrong : ChangeSpec := { name := "fnExactInvertMatrix", fn := fun _ => fun
  | [d] => { results := [.lit (.bool false)], args := [d] }
  | _ => none }
def FnExactInvertMatrixWrongFalsely : Prop := fnExactInvertMatrixRow.holds Try.pinned (OpenSpec.ofChange fnExactInvertMatrixWrong)

/-- 'laws.FnExactSumOfRow': WHATEVER THE INPUT: true; the input reads as it did. -/
def fnExactSumOfRowSpec : ChangeSpec := { name := "fnExactSumOfRow", fn := fun _ => fun
  | [d1, d2] => { results := [.lit (.bool true)], args := [d1, d2] }
  | _ => none }
def fnExactSumOfRowRow : OpenClaim := { program := "ytgkliapejpoalaa", sum := "44303307fa9f753c08010ad49a2aeac956b34f6b6237bb8ebb859afb27861300", func := "loop.example/g00639/laws.FnExactSumOfRow", spec := "fnExactSumOfRow", plainKeys := false, apart := false }
def FnExactSumOfRowSaid : Prop := fnExactSumOfRowRow.holds Try.pinned (OpenSpec.ofChange fnExactSumOfRowSpec)

/-- ITS FALSE NEIGHBOUR: 'it returns false'. Refute it at one input. -/
def fnExactSumOfRowWrong : ChangeSpec := { name := "fnExactSumOfRow", fn := fun _ => fun
  | [d1, d2] => { results := [.lit (.bool false)], args := [d1, d2] }
  | _ => none }
def FnExactSumOfRowWrongFalsely : Prop := fnExactSumOfRowRow.holds Try.pinned (OpenSpec.ofChange fnExactSumOfRowWrong)

/-- 'laws.FnExactSameMatrices': WHATEVER THE INPUT: true; the input reads as it did. -/
def fnExactSameMatricesSpec : ChangeSpec := { name := "fnExactSameMatrices", fn := fun _ => fun
  | [d1, d2] => { results := [.lit (.bool true)], args := [d1, d2] }
  | _ => none }
def fnExactSameMatricesRow : OpenClaim := { program := "ytgkliapejpoalaa", sum := "44303307fa9f753c08010ad49a2aeac956b34f6b6237bb8ebb859afb27861300", func := "loop.example/g00639/laws.FnExactSameMatrices", spec := "fnExactSameMatrices", unfollowed := true, recurses := true, plainKeys := false, apart := false }
def FnExactSameMatricesSaid : Prop := fnExactSameMatricesRow.holds Try.pinned (OpenSpec.ofChange fnExactSameMatricesSpec)

/-- ITS FALSE NEIGHBOUR: 'it returns false'. Refute it at one input. -/
def fnExactSameMatricesWrong : ChangeSpec := { name := "fnExactSameMatrices", fn := fun _ => fun
  | [d1, d2] => { results := [.lit (.bool false)], args := [d1, d2] }
  | _ => none }
def FnExactSameMatricesWrongFalsely : Prop := fnExactSameMatricesRow.holds Try.pinned (OpenSpec.ofChange fnExactSameMatricesWrong)

/- THE SECOND FORM. 'bulk': how many values and letters a reading holds, each counted each time it is reached (what is shared counts as often as it is met; a slice's spare places count too). A statement '..UptoSaid' is the law's where the arguments, and the package variables that the reading takes, are together of bulk at most 1048576: NARROWER than '..Said'. Prove '..Said' where nothing that the law and all that it calls make is longer than what came in: it says more and counts as full. Else prove '..UptoSaid'. A law counts once. -/
mutual
def uptoBulk {H : Type} : DataW H → Nat
  | .lit (.string bytes) => bytes.length + 1
  | .lit _ => 1
  | .nil => 1
  | .ptr d => uptoBulk d + 1
  | .slice elems spare => uptoBulkAll elems + uptoBulkAll spare + 1
  | .agg parts => uptoBulkAll parts + 1
  | .iface _ d => uptoBulk d + 1
  | .map entries => uptoBulkEntries entries + 1
  | .held _ => 1
def uptoBulkAll {H : Type} : List (DataW H) → Nat
  | [] => 0
  | d :: r => uptoBulk d + uptoBulkAll r
def uptoBulkEntries {H : Type} : List (Lit × DataW H) → Nat
  | [] => 0
  | x :: r => uptoBulkEntry x + uptoBulkEntries r
def uptoBulkEntry {H : Type} : Lit × DataW H → Nat
  | (.string bytes, d) => bytes.length + uptoBulk d + 1
  | (_, d) => uptoBulk d + 1
 end
def uptoSmall : (H : Type) → List (DataW H) → Bool := fun _ ds => decide (uptoBulkAll ds ≤ 1048576)
def OpenSpec.upto (s : _root_.Go.ChangeSpec) : _root_.Go.OpenSpec := { _root_.Go.OpenSpec.ofChange s with cond := some uptoSmall }

/-- 'laws.FnProfiles', WHERE WHAT IT READS IS OF BULK AT MOST 1048576: true; the input reads as it did. -/
def fnProfilesUptoRow : OpenClaim := { program := "ytgkliapejpoalaa", sum := "44303307fa9f753c08010ad49a2aeac956b34f6b6237bb8ebb859afb27861300", func := "loop.example/g00639/laws.FnProfiles", spec := "fnProfiles", unfollowed := true, recurses := true, plainKeys := false, apart := false, narrowed := true }
def FnProfilesUptoSaid : Prop := fnProfilesUptoRow.holds Try.pinned (OpenSpec.upto fnProfilesSpec)

/-- 'laws.FnMatrices', WHERE WHAT IT READS IS OF BULK AT MOST 1048576: true; the input reads as it did. -/
def fnMatricesUptoRow : OpenClaim := { program := "ytgkliapejpoalaa", sum := "44303307fa9f753c08010ad49a2aeac956b34f6b6237bb8ebb859afb27861300", func := "loop.example/g00639/laws.FnMatrices", spec := "fnMatrices", unfollowed := true, recurses := true, plainKeys := false, apart := false, narrowed := true }
def FnMatricesUptoSaid : Prop := fnMatricesUptoRow.holds Try.pinned (OpenSpec.upto fnMatricesSpec)

/-- 'laws.FnSwaps', WHERE WHAT IT READS IS OF BULK AT MOST 1048576: true; the input reads as it did. -/
def fnSwapsUptoRow : OpenClaim := { program := "ytgkliapejpoalaa", sum := "44303307fa9f753c08010ad49a2aeac956b34f6b6237bb8ebb859afb27861300", func := "loop.example/g00639/laws.FnSwaps", spec := "fnSwaps", plainKeys := false, apart := false, narrowed := true }
def FnSwapsUptoSaid : Prop := fnSwapsUptoRow.holds Try.pinned (OpenSpec.upto fnSwapsSpec)

/-- 'laws.FnExactMatrixFault', WHERE WHAT IT READS IS OF BULK AT MOST 1048576: true; the input reads as it did. -/
def fnExactMatrixFaultUptoRow : OpenClaim := { program := "ytgkliapejpoalaa", sum := "44303307fa9f753c08010ad49a2aeac956b34f6b6237bb8ebb859afb27861300", func := "loop.example/g00639/laws.FnExactMatrixFault", spec := "fnExactMatrixFault", plainKeys := false, apart := false, narrowed := true }
def FnExactMatrixFaultUptoSaid : Prop := fnExactMatrixFaultUptoRow.holds Try.pinned (OpenSpec.upto fnExactMatrixFaultSpec)

/-- 'laws.FnExactUnitMatrix', WHERE WHAT IT READS IS OF BULK AT MOST 1048576: true; the input reads as it did. -/
def fnExactUnitMatrixUptoRow : OpenClaim := { program := "ytgkliapejpoalaa", sum := "44303307fa9f753c08010ad49a2aeac956b34f6b6237bb8ebb859afb27861300", func := "loop.example/g00639/laws.FnExactUnitMatrix", spec := "fnExactUnitMatrix", plainKeys := false, apart := false, narrowed := true }
def FnExactUnitMatrixUptoSaid : Prop := fnExactUnitMatrixUptoRow.holds Try.pinned (OpenSpec.upto fnExactUnitMatrixSpec)

/-- 'laws.FnExactApplyMatrix', WHERE WHAT IT READS IS OF BULK AT MOST 1048576: true; the input reads as it did. -/
def fnExactApplyMatrixUptoRow : OpenClaim := { program := "ytgkliapejpoalaa", sum := "44303307fa9f753c08010ad49a2aeac956b34f6b6237bb8ebb859afb27861300", func := "loop.example/g00639/laws.FnExactApplyMatrix", spec := "fnExactApplyMatrix", plainKeys := false, apart := false, narrowed := true }
def FnExactApplyMatrixUptoSaid : Prop := fnExactApplyMatrixUptoRow.holds Try.pinned (OpenSpec.upto fnExactApplyMatrixSpec)

/-- 'laws.FnExactMulMatrix', WHERE WHAT IT READS IS OF BULK AT MOST 1048576: true; the input reads as it did. -/
def fnExactMulMatrixUptoRow : OpenClaim := { program := "ytgkliapejpoalaa", sum := "44303307fa9f753c08010ad49a2aeac956b34f6b6237bb8ebb859afb27861300", func := "loop.example/g00639/laws.FnExactMulMatrix", spec := "fnExactMulMatrix", plainKeys := false, apart := false, narrowed := true }
def FnExactMulMatrixUptoSaid : Prop := fnExactMulMatrixUptoRow.holds Try.pinned (OpenSpec.upto fnExactMulMatrixSpec)

/-- 'laws.FnExactDetOf', WHERE WHAT IT READS IS OF BULK AT MOST 1048576: true; the input reads as it did. -/
def fnExactDetOfUptoRow : OpenClaim := { program := "ytgkliapejpoalaa", sum := "44303307fa9f753c08010ad49a2aeac956b34f6b6237bb8ebb859afb27861300", func := "loop.example/g00639/laws.FnExactDetOf", spec := "fnExactDetOf", plainKeys := false, apart := false, narrowed := true }
def FnExactDetOfUptoSaid : Prop := fnExactDetOfUptoRow.holds Try.pinned (OpenSpec.upto fnExactDetOfSpec)

/-- 'laws.FnExactInvertMatrix', WHERE WHAT IT READS IS OF BULK AT MOST 1048576: true; the input reads as it did. -/
def fnExactInvertMatrixUptoRow : OpenClaim := { program := "ytgkliapejpoalaa", sum := "44303307fa9f753c08010ad49a2aeac956b34f6b6237bb8ebb859afb27861300", func := "loop.example/g00639/laws.FnExactInvertMatrix", spec := "fnExactInvertMatrix", plainKeys := false, apart := false, narrowed := true }
def FnExactInvertMatrixUptoSaid : Prop := fnExactInvertMatrixUptoRow.holds Try.pinned (OpenSpec.upto fnExactInvertMatrixSpec)

/-- 'laws.FnExactSumOfRow', WHERE WHAT IT READS IS OF BULK AT MOST 1048576: true; the input reads as it did. -/
def fnExactSumOfRowUptoRow : OpenClaim := { program := "ytgkliapejpoalaa", sum := "44303307fa9f753c08010ad49a2aeac956b34f6b6237bb8ebb859afb27861300", func := "loop.example/g00639/laws.FnExactSumOfRow", spec := "fnExactSumOfRow", plainKeys := false, apart := false, narrowed := true }
def FnExactSumOfRowUptoSaid : Prop := fnExactSumOfRowUptoRow.holds Try.pinned (OpenSpec.upto fnExactSumOfRowSpec)

/-- 'laws.FnExactSameMatrices', WHERE WHAT IT READS IS OF BULK AT MOST 1048576: true; the input reads as it did. -/
def fnExactSameMatricesUptoRow : OpenClaim := { program := "ytgkliapejpoalaa", sum := "44303307fa9f753c08010ad49a2aeac956b34f6b6237bb8ebb859afb27861300", func := "loop.example/g00639/laws.FnExactSameMatrices", spec := "fnExactSameMatrices", unfollowed := true, recurses := true, plainKeys := false, apart := false, narrowed := true }
def FnExactSameMatricesUptoSaid : Prop := fnExactSameMatricesUptoRow.holds Try.pinned (OpenSpec.upto fnExactSameMatricesSpec)

end Rows
end Go.Proofs.Ytgkliapejpoalaa
