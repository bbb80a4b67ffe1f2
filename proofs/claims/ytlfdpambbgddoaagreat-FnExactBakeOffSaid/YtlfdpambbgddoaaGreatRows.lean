/-
  No cell of these rows narrows 'for every input' (looked for: loops, veiled, ifaces, maps, wideKeys, modest, calm, conditions, laid).
  DERIVED. THE GIVEN ROWS OF THIS SEAT. 3 by the template 'for every input the law returns true; each argument reads behind the call as it read before'; 0 by the template 'total and deterministic' (their statements: YtlfdpambbgddoaaGreatTotals.lean).
  GIVEN WITH THE SEED: the statements are not yours to turn. If you find one false, say at which input.
  Laid BY PROGRAM, IN A SANDBOX (cutbox-rows.mjs): the forced cells as the released guide's own fill.sh prints them over the translation 464a6c58bf2f4685… (all of the seat's roots in one cut). By AI agents, Wed Nov 11 2026. No macro, syntax, notation, axiom, sorry.
-/
import Derived.Test.YtlfdpambbgddoaaGreatChecked
import GoSem.Claim
import GoSem.ClaimJoined
import GoSem.ClaimMapViews
import Derived.JoinedTies
import Derived.KernelRfl
namespace Go.Proofs.YtlfdpambbgddoaaGreat
/- THE CELL 'sum', in the pinned program and in every row, IS THE sha256 OF THE DUMP (.gsa) THAT YtlfdpambbgddoaaGreatProg.lean LOADS. Nothing in Lean hashes anything: it is a label: what it is worth is what the hold of that sum in a sandbox is worth. -/
noncomputable def Tryz.pinned : Pinned := { name := "ytlfdpambbgddoaagreat", sum := "464a6c58bf2f4685e4c6984c59702e25a3df18de3ccf612aca13a8b5a4512011", checked := Tryz.checked }
namespace Rows
def none {H : Type} : Left H := { results := [], args := [] }

/-- 'laws.FnExactBakeChain': WHATEVER THE INPUT: true; the input reads as it did. -/
def fnExactBakeChainSpec : ChangeSpec := { name := "fnExactBakeChain", fn := fun _ => fun
  | [d1, d2] => { results := [.lit (.bool true)], args := [d1, d2] }
  | _ => none }
def fnExactBakeChainRow : OpenClaim := { program := "ytlfdpambbgddoaagreat", sum := "464a6c58bf2f4685e4c6984c59702e25a3df18de3ccf612aca13a8b5a4512011", func := "loop.example/g00639/laws.FnExactBakeChain", spec := "fnExactBakeChain", unfollowed := true, recurses := true, plainKeys := false, apart := false }
def FnExactBakeChainSaid : Prop := fnExactBakeChainRow.holds Tryz.pinned (OpenSpec.ofChange fnExactBakeChainSpec)

/-- ITS FALSE NEIGHBOUR: 'it returns false'. Refute it at one input. -/
def fnExactBakeChainWrong : ChangeSpec := { name := "fnExactBakeChain", fn := fun _ => fun
  | [d1, d2] => { results := [.lit (.bool false)], args := [d1, d2] }
  | _ => none }
def FnExactBakeChainWrongFalsely : Prop := fnExactBakeChainRow.holds Tryz.pinned (OpenSpec.ofChange fnExactBakeChainWrong)

/-- 'laws.FnExactBakeOff': WHATEVER THE INPUT: true; the input reads as it did. -/
def fnExactBakeOffSpec : ChangeSpec := { name := "fnExactBakeOff", fn := fun _ => fun
  | [d1, d2, d3] => { results := [.lit (.bool true)], args := [d1, d2, d3] }
  | _ => none }
def fnExactBakeOffRow : OpenClaim := { program := "ytlfdpambbgddoaagreat", sum := "464a6c58bf2f4685e4c6984c59702e25a3df18de3ccf612aca13a8b5a4512011", func := "loop.example/g00639/laws.FnExactBakeOff", spec := "fnExactBakeOff", unfollowed := true, recurses := true, plainKeys := false, apart := false }
def FnExactBakeOffSaid : Prop := fnExactBakeOffRow.holds Tryz.pinned (OpenSpec.ofChange fnExactBakeOffSpec)

/-- ITS FALSE NEIGHBOUR: 'it returns false'. Refute it at one input. -/
def fnExactBakeOffWrong : ChangeSpec := { name := "fnExactBakeOff", fn := fun _ => fun
  | [d1, d2, d3] => { results := [.lit (.bool false)], args := [d1, d2, d3] }
  | _ => none }
def FnExactBakeOffWrongFalsely : Prop := fnExactBakeOffRow.holds Tryz.pinned (OpenSpec.ofChange fnExactBakeOffWrong)

/-- 'laws.FnExactBakedChain': WHATEVER THE INPUT: true; the input reads as it did. -/
def fnExactBakedChainSpec : ChangeSpec := { name := "fnExactBakedChain", fn := fun _ => fun
  | [d1, d2] => { results := [.lit (.bool true)], args := [d1, d2] }
  | _ => none }
def fnExactBakedChainRow : OpenClaim := { program := "ytlfdpambbgddoaagreat", sum := "464a6c58bf2f4685e4c6984c59702e25a3df18de3ccf612aca13a8b5a4512011", func := "loop.example/g00639/laws.FnExactBakedChain", spec := "fnExactBakedChain", unfollowed := true, recurses := true, plainKeys := false, apart := false }
def FnExactBakedChainSaid : Prop := fnExactBakedChainRow.holds Tryz.pinned (OpenSpec.ofChange fnExactBakedChainSpec)

/-- ITS FALSE NEIGHBOUR: 'it returns false'. Refute it at one input. -/
def fnExactBakedChainWrong : ChangeSpec := { name := "fnExactBakedChain", fn := fun _ => fun
  | [d1, d2] => { results := [.lit (.bool false)], args := [d1, d2] }
  | _ => none }
def FnExactBakedChainWrongFalsely : Prop := fnExactBakedChainRow.holds Tryz.pinned (OpenSpec.ofChange fnExactBakedChainWrong)

/- THE SECOND FORM. 'bulk': how many values and letters a reading holds, each counted each time it is reached (what is shared counts as often as it is met; a slice's spare places count too). A statement '..UptoSaid' is the law's where the arguments, and the package variables that the reading takes, are together of bulk at most 1048576: NARROWER than '..Said'. Prove '..Said' where nothing that the law and all that it calls make is longer than what came in: it says more and counts as full. Else prove '..UptoSaid'. A law counts once. -/
mutual
def uptoBulk {H : Type} : DataW H → Nat
  | .lit (.string bytes) => bytes.length + 1
  | .lit _ => 1
  | .nil => 1
  | .ptr d => uptoBulk d + 1
  | .slice elems spare => uptoBulkAll elems + uptoBulkAll spare + 1
  | .agg parts => uptoBulkAll parts + 1
  | .iface _ d => uptoBulk d + 1
  | .map entries => uptoBulkEntries entries + 1
  | .held _ => 1
def uptoBulkAll {H : Type} : List (DataW H) → Nat
  | [] => 0
  | d :: r => uptoBulk d + uptoBulkAll r
def uptoBulkEntries {H : Type} : List (Lit × DataW H) → Nat
  | [] => 0
  | x :: r => uptoBulkEntry x + uptoBulkEntries r
def uptoBulkEntry {H : Type} : Lit × DataW H → Nat
  | (.string bytes, d) => bytes.length + uptoBulk d + 1
  | (_, d) => uptoBulk d + 1
 end
def uptoSmall : (H : Type) → List (DataW H) → Bool := fun _ ds => decide (uptoBulkAll ds ≤ 1048576)
def OpenSpec.upto (s : _root_.Go.ChangeSpec) : _root_.Go.OpenSpec := { _root_.Go.OpenSpec.ofChange s with cond := some uptoSmall }

/-- 'laws.FnExactBakeChain', WHERE WHAT IT READS IS OF BULK AT MOST 1048576: true; the input reads as it did. -/
def fnExactBakeChainUptoRow : OpenClaim := { program := "ytlfdpambbgddoaagreat", sum := "464a6c58bf2f4685e4c6984c59702e25a3df18de3ccf612aca13a8b5a4512011", func := "loop.example/g00639/laws.FnExactBakeChain", spec := "fnExactBakeChain", unfollowed := true, recurses := true, plainKeys := false, apart := false, narrowed := true }
def FnExactBakeChainUptoSaid : Prop := fnExactBakeChainUptoRow.holds Tryz.pinned (OpenSpec.upto fnExactBakeChainSpec)

/-- 'laws.FnExactBakeOff', WHERE WHAT IT READS IS OF BULK AT MOST 1048576: true; the input reads as it did. -/
def fnExactBakeOffUptoRow : OpenClaim := { program := "ytlfdpambbgddoaagreat", sum := "464a6c58bf2f4685e4c6984c59702e25a3df18de3ccf612aca13a8b5a4512011", func := "loop.example/g00639/laws.FnExactBakeOff", spec := "fnExactBakeOff", unfollowed := true, recurses := true, plainKeys := false, apart := false, narrowed := true }
def FnExactBakeOffUptoSaid : Prop := fnExactBakeOffUptoRow.holds Tryz.pinned (OpenSpec.upto fnExactBakeOffSpec)

/-- 'laws.FnExactBakedChain', WHERE WHAT IT READS IS OF BULK AT MOST 1048576: true; the input reads as it did. -/
def fnExactBakedChainUptoRow : OpenClaim := { program := "ytlfdpambbgddoaagreat", sum := "464a6c58bf2f4685e4c6984c59702e25a3df18de3ccf612aca13a8b5a4512011", func := "loop.example/g00639/laws.FnExactBakedChain", spec := "fnExactBakedChain", unfollowed := true, recurses := true, plainKeys := false, apart := false, narrowed := true }
def FnExactBakedChainUptoSaid : Prop := fnExactBakedChainUptoRow.holds Tryz.pinned (OpenSpec.upto fnExactBakedChainSpec)

end Rows
end Go.Proofs.YtlfdpambbgddoaaGreat
