/-
  No cell of these rows narrows 'for every input' (looked for: loops, veiled, ifaces, maps, wideKeys, modest, calm, conditions, laid).
  DERIVED. THE GIVEN ROWS OF THIS SEAT. 4 by the template 'for every input the law returns true; each argument reads behind the call as it read before'; 0 by the template 'total and deterministic' (their statements: YtdjifaaofefpoaaGreatTotals.lean).
  GIVEN WITH THE SEED: the statements are not yours to turn. If you find one false, say at which input.
  Laid BY PROGRAM, IN A SANDBOX (cutbox-rows.mjs): the forced cells as the released guide's own fill.sh prints them over the translation 1c7be59371f3bac1… (all of the seat's roots in one cut). By AI agents, Wed Nov 11 2026. No macro, syntax, notation, axiom, sorry.
-/
import Derived.Test.YtdjifaaofefpoaaGreatChecked
import GoSem.Claim
import GoSem.ClaimJoined
import GoSem.ClaimMapViews
import Derived.JoinedTies
import Derived.KernelRfl
namespace Go.Proofs.YtdjifaaofefpoaaGreat
/- THE CELL 'sum', in the pinned program and in every row, IS THE sha256 OF THE DUMP (.gsa) THAT YtdjifaaofefpoaaGreatProg.lean LOADS. Nothing in Lean hashes anything: it is a label: what it is worth is what the hold of that sum in a sandbox is worth. -/
noncomputable def Tryz.pinned : Pinned := { name := "ytdjifaaofefpoaagreat", sum := "1c7be59371f3bac1e909d338c2f0362b590a870204e7b43faa782a8b4e12349a", checked := Tryz.checked }
namespace Rows
def none {H : Type} : Left H := { results := [], args := [] }

/-- 'laws.FnExactOffBy': WHATEVER THE INPUT: true; the input reads as it did. -/
def fnExactOffBySpec : ChangeSpec := { name := "fnExactOffBy", fn := fun _ => fun
  | [d1, d2] => { results := [.lit (.bool true)], args := [d1, d2] }
  | _ => none }
def fnExactOffByRow : OpenClaim := { program := "ytdjifaaofefpoaagreat", sum := "1c7be59371f3bac1e909d338c2f0362b590a870204e7b43faa782a8b4e12349a", func := "loop.example/g00639/laws.FnExactOffBy", spec := "fnExactOffBy", unfollowed := true, recurses := true, plainKeys := false, apart := false }
def FnExactOffBySaid : Prop := fnExactOffByRow.holds Tryz.pinned (OpenSpec.ofChange fnExactOffBySpec)

/-- ITS FALSE NEIGHBOUR: 'it returns false'. Refute it at one input. -/
def fnExactOffByWrong : ChangeSpec := { name := "fnExactOffBy", fn := fun _ => fun
  | [d1, d2] => { results := [.lit (.bool false)], args := [d1, d2] }
  | _ => none }
def FnExactOffByWrongFalsely : Prop := fnExactOffByRow.holds Tryz.pinned (OpenSpec.ofChange fnExactOffByWrong)

/-- 'laws.FnExactWithinBudget': WHATEVER THE INPUT: true; the input reads as it did. -/
def fnExactWithinBudgetSpec : ChangeSpec := { name := "fnExactWithinBudget", fn := fun _ => fun
  | [d1, d2] => { results := [.lit (.bool true)], args := [d1, d2] }
  | _ => none }
def fnExactWithinBudgetRow : OpenClaim := { program := "ytdjifaaofefpoaagreat", sum := "1c7be59371f3bac1e909d338c2f0362b590a870204e7b43faa782a8b4e12349a", func := "loop.example/g00639/laws.FnExactWithinBudget", spec := "fnExactWithinBudget", unfollowed := true, recurses := true, plainKeys := false, apart := false }
def FnExactWithinBudgetSaid : Prop := fnExactWithinBudgetRow.holds Tryz.pinned (OpenSpec.ofChange fnExactWithinBudgetSpec)

/-- ITS FALSE NEIGHBOUR: 'it returns false'. Refute it at one input. -/
def fnExactWithinBudgetWrong : ChangeSpec := { name := "fnExactWithinBudget", fn := fun _ => fun
  | [d1, d2] => { results := [.lit (.bool false)], args := [d1, d2] }
  | _ => none }
def FnExactWithinBudgetWrongFalsely : Prop := fnExactWithinBudgetRow.holds Tryz.pinned (OpenSpec.ofChange fnExactWithinBudgetWrong)

/-- 'laws.FnExactFoldChain': WHATEVER THE INPUT: true; the input reads as it did. -/
def fnExactFoldChainSpec : ChangeSpec := { name := "fnExactFoldChain", fn := fun _ => fun
  | [d] => { results := [.lit (.bool true)], args := [d] }
  | _ => none }
def fnExactFoldChainRow : OpenClaim := { program := "ytdjifaaofefpoaagreat", sum := "1c7be59371f3bac1e909d338c2f0362b590a870204e7b43faa782a8b4e12349a", func := "loop.example/g00639/laws.FnExactFoldChain", spec := "fnExactFoldChain", unfollowed := true, recurses := true, plainKeys := false, apart := false }
def FnExactFoldChainSaid : Prop := fnExactFoldChainRow.holds Tryz.pinned (OpenSpec.ofChange fnExactFoldChainSpec)

/-- ITS FALSE NEIGHBOUR: 'it returns false'. Refute it at one input. -/
def fnExactFoldChainWrong : ChangeSpec := { name := "fnExactFoldChain", fn := fun _ => fun
  | [d] => { results := [.lit (.bool false)], args := [d] }
  | _ => none }
def FnExactFoldChainWrongFalsely : Prop := fnExactFoldChainRow.holds Tryz.pinned (OpenSpec.ofChange fnExactFoldChainWrong)

/-- 'laws.FnExactSameEverywhere': WHATEVER THE INPUT: true; the input reads as it did. -/
def fnExactSameEverywhereSpec : ChangeSpec := { name := "fnExactSameEverywhere", fn := fun _ => fun
  | [d1, d2, d3] => { results := [.lit (.bool true)], args := [d1, d2, d3] }
  | _ => none }
def fnExactSameEverywhereRow : OpenClaim := { program := "ytdjifaaofefpoaagreat", sum := "1c7be59371f3bac1e909d338c2f0362b590a870204e7b43faa782a8b4e12349a", func := "loop.example/g00639/laws.FnExactSameEverywhere", spec := "fnExactSameEverywhere", unfollowed := true, recurses := true, plainKeys := false, apart := false }
def FnExactSameEverywhereSaid : Prop := fnExactSameEverywhereRow.holds Tryz.pinned (OpenSpec.ofChange fnExactSameEverywhereSpec)

/-- ITS FALSE NEIGHBOUR: 'it returns false'. Refute it at one input. -/
def fnExactSameEverywhereWrong : ChangeSpec := { name := "fnExactSameEverywhere", fn := fun _ => fun
  | [d1, d2, d3] => { results := [.lit (.bool false)], args := [d1, d2, d3] }
  | _ => none }
def FnExactSameEverywhereWrongFalsely : Prop := fnExactSameEverywhereRow.holds Tryz.pinned (OpenSpec.ofChange fnExactSameEverywhereWrong)

/- THE SECOND FORM. 'bulk': how many values and letters a reading holds, each counted each time it is reached (what is shared counts as often as it is met; a slice's spare places count too). A statement '..UptoSaid' is the law's where the arguments, and the package variables that the reading takes, are together of bulk at most 1048576: NARROWER than '..Said'. Prove '..Said' where nothing that the law and all that it calls make is longer than what came in: it says more and counts as full. Else prove '..UptoSaid'. A law counts once. -/
mutual
def uptoBulk {H : Type} : DataW H → Nat
  | .lit (.string bytes) => bytes.length + 1
  | .lit _ => 1
  | .nil => 1
  | .ptr d => uptoBulk d + 1
  | .slice elems spare => uptoBulkAll elems + uptoBulkAll spare + 1
  | .agg parts => uptoBulkAll parts + 1
  | .iface _ d => uptoBulk d + 1
  | .map entries => uptoBulkEntries entries + 1
  | .held _ => 1
def uptoBulkAll {H : Type} : List (DataW H) → Nat
  | [] => 0
  | d :: r => uptoBulk d + uptoBulkAll r
def uptoBulkEntries {H : Type} : List (Lit × DataW H) → Nat
  | [] => 0
  | x :: r => uptoBulkEntry x + uptoBulkEntries r
def uptoBulkEntry {H : Type} : Lit × DataW H → Nat
  | (.string bytes, d) => bytes.length + uptoBulk d + 1
  | (_, d) => uptoBulk d + 1
 end
def uptoSmall : (H : Type) → List (DataW H) → Bool := fun _ ds => decide (uptoBulkAll ds ≤ 1048576)
def OpenSpec.upto (s : _root_.Go.ChangeSpec) : _root_.Go.OpenSpec := { _root_.Go.OpenSpec.ofChange s with cond := some uptoSmall }

/-- 'laws.FnExactOffBy', WHERE WHAT IT READS IS OF BULK AT MOST 1048576: true; the input reads as it did. -/
def fnExactOffByUptoRow : OpenClaim := { program := "ytdjifaaofefpoaagreat", sum := "1c7be59371f3bac1e909d338c2f0362b590a870204e7b43faa782a8b4e12349a", func := "loop.example/g00639/laws.FnExactOffBy", spec := "fnExactOffBy", unfollowed := true, recurses := true, plainKeys := false, apart := false, narrowed := true }
def FnExactOffByUptoSaid : Prop := fnExactOffByUptoRow.holds Tryz.pinned (OpenSpec.upto fnExactOffBySpec)

/-- 'laws.FnExactWithinBudget', WHERE WHAT IT READS IS OF BULK AT MOST 1048576: true; the input reads as it did. -/
def fnExactWithinBudgetUptoRow : OpenClaim := { program := "ytdjifaaofefpoaagreat", sum := "1c7be59371f3bac1e909d338c2f0362b590a870204e7b43faa782a8b4e12349a", func := "loop.example/g00639/laws.FnExactWithinBudget", spec := "fnExactWithinBudget", unfollowed := true, recurses := true, plainKeys := false, apart := false, narrowed := true }
def FnExactWithinBudgetUptoSaid : Prop := fnExactWithinBudgetUptoRow.holds Tryz.pinned (OpenSpec.upto fnExactWithinBudgetSpec)

/-- 'laws.FnExactFoldChain', WHERE WHAT IT READS IS OF BULK AT MOST 1048576: true; the input reads as it did. -/
def fnExactFoldChainUptoRow : OpenClaim := { program := "ytdjifaaofefpoaagreat", sum := "1c7be59371f3bac1e909d338c2f0362b590a870204e7b43faa782a8b4e12349a", func := "loop.example/g00639/laws.FnExactFoldChain", spec := "fnExactFoldChain", unfollowed := true, recurses := true, plainKeys := false, apart := false, narrowed := true }
def FnExactFoldChainUptoSaid : Prop := fnExactFoldChainUptoRow.holds Tryz.pinned (OpenSpec.upto fnExactFoldChainSpec)

/-- 'laws.FnExactSameEverywhere', WHERE WHAT IT READS IS OF BULK AT MOST 1048576: true; the input reads as it did. -/
def fnExactSameEverywhereUptoRow : OpenClaim := { program := "ytdjifaaofefpoaagreat", sum := "1c7be59371f3bac1e909d338c2f0362b590a870204e7b43faa782a8b4e12349a", func := "loop.example/g00639/laws.FnExactSameEverywhere", spec := "fnExactSameEverywhere", unfollowed := true, recurses := true, plainKeys := false, apart := false, narrowed := true }
def FnExactSameEverywhereUptoSaid : Prop := fnExactSameEverywhereUptoRow.holds Tryz.pinned (OpenSpec.upto fnExactSameEverywhereSpec)

end Rows
end Go.Proofs.YtdjifaaofefpoaaGreat
