/-
  No cell of these rows narrows 'for every input' (looked for: loops, veiled, ifaces, maps, wideKeys, modest, calm, conditions, laid).
  DERIVED. THE GIVEN ROWS OF THIS SEAT. 8 by the template 'for every input the law returns true; each argument reads behind the call as it read before'; 0 by the template 'total and deterministic' (their statements: YtbbghebpmobfnaaTotals.lean).
  GIVEN WITH THE SEED: the statements are not yours to turn. If you find one false, say at which input.
  Laid BY PROGRAM, IN A SANDBOX (cutbox-rows.mjs): the forced cells as the released guide's own fill.sh prints them over the translation de7f50e9e1b515f6… (all of the seat's roots in one cut). By AI agents, Wed Nov 11 2026. No macro, syntax, notation, axiom, sorry.
-/
import Derived.Test.YtbbghebpmobfnaaChecked
import GoSem.Claim
import GoSem.ClaimJoined
import GoSem.ClaimMapViews
import Derived.JoinedTies
import Derived.KernelRfl
namespace Go.Proofs.Ytbbghebpmobfnaa
/- THE CELL 'sum', in the pinned program and in every row, IS THE sha256 OF THE DUMP (.gsa) THAT YtbbghebpmobfnaaProg.lean LOADS. Nothing in Lean hashes anything: it is a label: what it is worth is what the hold of that sum in a sandbox is worth. -/
noncomputable def Try.pinned : Pinned := { name := "ytbbghebpmobfnaa", sum := "de7f50e9e1b515f6f87e9301b80b0ac72f64045affae5aee6538dac56a884449", checked := Try.checked }
namespace Rows
def none {H : Type} : Left H := { results := [], args := [] }

/-- 'laws.FnProfiles': WHATEVER THE INPUT: true; the input reads as it did. -/
def fnProfilesSpec : ChangeSpec := { name := "fnProfiles", fn := fun _ => fun
  | [d] => { results := [.lit (.bool true)], args := [d] }
  | _ => none }
def fnProfilesRow : OpenClaim := { program := "ytbbghebpmobfnaa", sum := "de7f50e9e1b515f6f87e9301b80b0ac72f64045affae5aee6538dac56a884449", func := "loop.example/g00639/laws.FnProfiles", spec := "fnProfiles", unfollowed := true, recurses := true, plainKeys := false, apart := false }
def FnProfilesSaid : Prop := fnProfilesRow.holds Try.pinned (OpenSpec.ofChange fnProfilesSpec)

/-- ITS FALSE NEIGHBOUR: 'it returns false'. Refute it at one input. -/
def fnProfilesWrong : ChangeSpec := { name := "fnProfiles", fn := fun _ => fun
  | [d] => { results := [.lit (.bool false)], args := [d] }
  | _ => none }
def FnProfilesWrongFalsely : Prop := fnProfilesRow.holds Try.pinned (OpenSpec.ofChange fnProfilesWrong)

/-- 'laws.FnTrails': WHATEVER THE INPUT: true; the input reads as it did. -/
def fnTrailsSpec : ChangeSpec := { name := "fnTrails", fn := fun _ => fun
  | [d] => { results := [.lit (.bool true)], args := [d] }
  | _ => none }
def fnTrailsRow : OpenClaim := { program := "ytbbghebpmobfnaa", sum := "de7f50e9e1b515f6f87e9301b80b0ac72f64045affae5aee6538dac56a884449", func := "loop.example/g00639/laws.FnTrails", spec := "fnTrails", unfollowed := true, recurses := true, plainKeys := false, apart := false }
def FnTrailsSaid : Prop := fnTrailsRow.holds Try.pinned (OpenSpec.ofChange fnTrailsSpec)

/-- ITS FALSE NEIGHBOUR: 'it returns false'. Refute it at one input. -/
def fnTrailsWrong : ChangeSpec := { name := "fnTrails", fn := fun _ => fun
  | [d] => { results := [.lit (.bool false)], args := [d] }
  | _ => none }
def FnTrailsWrongFalsely : Prop := fnTrailsRow.holds Try.pinned (OpenSpec.ofChange fnTrailsWrong)

/-- 'laws.FnExactProfileFault': WHATEVER THE INPUT: true; the input reads as it did. -/
def fnExactProfileFaultSpec : ChangeSpec := { name := "fnExactProfileFault", fn := fun _ => fun
  | [d] => { results := [.lit (.bool true)], args := [d] }
  | _ => none }
def fnExactProfileFaultRow : OpenClaim := { program := "ytbbghebpmobfnaa", sum := "de7f50e9e1b515f6f87e9301b80b0ac72f64045affae5aee6538dac56a884449", func := "loop.example/g00639/laws.FnExactProfileFault", spec := "fnExactProfileFault", plainKeys := false, apart := false }
def FnExactProfileFaultSaid : Prop := fnExactProfileFaultRow.holds Try.pinned (OpenSpec.ofChange fnExactProfileFaultSpec)

/-- ITS FALSE NEIGHBOUR: 'it returns false'. Refute it at one input. -/
def fnExactProfileFaultWrong : ChangeSpec := { name := "fnExactProfileFault", fn := fun _ => fun
  | [d] => { results := [.lit (.bool false)], args := [d] }
  | _ => none }
def FnExactProfileFaultWrongFalsely : Prop := fnExactProfileFaultRow.holds Try.pinned (OpenSpec.ofChange fnExactProfileFaultWrong)

/-- 'laws.FnExactParseProfile': WHATEVER THE INPUT: true; the input reads as it did. -/
def fnExactParseProfileSpec : ChangeSpec := { name := "fnExactParseProfile", fn := fun _ => fun
  | [d] => { results := [.lit (.bool true)], args := [d] }
  | _ => none }
def fnExactParseProfileRow : OpenClaim := { program := "ytbbghebpmobfnaa", sum := "de7f50e9e1b515f6f87e9301b80b0ac72f64045affae5aee6538dac56a884449", func := "loop.example/g00639/laws.FnExactParseProfile", spec := "fnExactParseProfile", plainKeys := false, apart := false }
def FnExactParseProfileSaid : Prop := fnExactParseProfileRow.holds Try.pinned (OpenSpec.ofChange fnExactParseProfileSpec)

/-- ITS FALSE NEIGHBOUR: 'it returns false'. Refute it at one input. -/
def fnExactParseProfileWrong : ChangeSpec := { name := "fnExactParseProfile", fn := fun _ => fun
  | [d] => { results := [.lit (.bool false)], args := [d] }
  | _ => none }
def FnExactParseProfileWrongFalsely : Prop := fnExactParseProfileRow.holds Try.pinned (OpenSpec.ofChange fnExactParseProfileWrong)

/-- 'laws.FnExactEncodeProfile': WHATEVER THE INPUT: true; the input reads as it did. -/
def fnExactEncodeProfileSpec : ChangeSpec := { name := "fnExactEncodeProfile", fn := fun _ => fun
  | [d] => { results := [.lit (.bool true)], args := [d] }
  | _ => none }
def fnExactEncodeProfileRow : OpenClaim := { program := "ytbbghebpmobfnaa", sum := "de7f50e9e1b515f6f87e9301b80b0ac72f64045affae5aee6538dac56a884449", func := "loop.example/g00639/laws.FnExactEncodeProfile", spec := "fnExactEncodeProfile", plainKeys := false, apart := false }
def FnExactEncodeProfileSaid : Prop := fnExactEncodeProfileRow.holds Try.pinned (OpenSpec.ofChange fnExactEncodeProfileSpec)

/-- ITS FALSE NEIGHBOUR: 'it returns false'. Refute it at one input. -/
def fnExactEncodeProfileWrong : ChangeSpec := { name := "fnExactEncodeProfile", fn := fun _ => fun
  | [d] => { results := [.lit (.bool false)], args := [d] }
  | _ => none }
def FnExactEncodeProfileWrongFalsely : Prop := fnExactEncodeProfileRow.holds Try.pinned (OpenSpec.ofChange fnExactEncodeProfileWrong)

/-- 'laws.FnExactIsCanonical': WHATEVER THE INPUT: true; the input reads as it did. -/
def fnExactIsCanonicalSpec : ChangeSpec := { name := "fnExactIsCanonical", fn := fun _ => fun
  | [d] => { results := [.lit (.bool true)], args := [d] }
  | _ => none }
def fnExactIsCanonicalRow : OpenClaim := { program := "ytbbghebpmobfnaa", sum := "de7f50e9e1b515f6f87e9301b80b0ac72f64045affae5aee6538dac56a884449", func := "loop.example/g00639/laws.FnExactIsCanonical", spec := "fnExactIsCanonical", plainKeys := false, apart := false }
def FnExactIsCanonicalSaid : Prop := fnExactIsCanonicalRow.holds Try.pinned (OpenSpec.ofChange fnExactIsCanonicalSpec)

/-- ITS FALSE NEIGHBOUR: 'it returns false'. Refute it at one input. -/
def fnExactIsCanonicalWrong : ChangeSpec := { name := "fnExactIsCanonical", fn := fun _ => fun
  | [d] => { results := [.lit (.bool false)], args := [d] }
  | _ => none }
def FnExactIsCanonicalWrongFalsely : Prop := fnExactIsCanonicalRow.holds Try.pinned (OpenSpec.ofChange fnExactIsCanonicalWrong)

/-- 'laws.FnExactFindTag': WHATEVER THE INPUT: true; the input reads as it did. -/
def fnExactFindTagSpec : ChangeSpec := { name := "fnExactFindTag", fn := fun _ => fun
  | [d1, d2] => { results := [.lit (.bool true)], args := [d1, d2] }
  | _ => none }
def fnExactFindTagRow : OpenClaim := { program := "ytbbghebpmobfnaa", sum := "de7f50e9e1b515f6f87e9301b80b0ac72f64045affae5aee6538dac56a884449", func := "loop.example/g00639/laws.FnExactFindTag", spec := "fnExactFindTag", plainKeys := false, apart := false }
def FnExactFindTagSaid : Prop := fnExactFindTagRow.holds Try.pinned (OpenSpec.ofChange fnExactFindTagSpec)

/-- ITS FALSE NEIGHBOUR: 'it returns false'. Refute it at one input. -/
def fnExactFindTagWrong : ChangeSpec := { name := "fnExactFindTag", fn := fun _ => fun
  | [d1, d2] => { results := [.lit (.bool false)], args := [d1, d2] }
  | _ => none }
def FnExactFindTagWrongFalsely : Prop := fnExactFindTagRow.holds Try.pinned (OpenSpec.ofChange fnExactFindTagWrong)

/-- 'laws.FnExactSameProfiles': WHATEVER THE INPUT: true; the input reads as it did. -/
def fnExactSameProfilesSpec : ChangeSpec := { name := "fnExactSameProfiles", fn := fun _ => fun
  | [d1, d2] => { results := [.lit (.bool true)], args := [d1, d2] }
  | _ => none }
def fnExactSameProfilesRow : OpenClaim := { program := "ytbbghebpmobfnaa", sum := "de7f50e9e1b515f6f87e9301b80b0ac72f64045affae5aee6538dac56a884449", func := "loop.example/g00639/laws.FnExactSameProfiles", spec := "fnExactSameProfiles", unfollowed := true, recurses := true, plainKeys := false, apart := false }
def FnExactSameProfilesSaid : Prop := fnExactSameProfilesRow.holds Try.pinned (OpenSpec.ofChange fnExactSameProfilesSpec)

/-- ITS FALSE NEIGHBOUR: 'it returns false'. Refute it at one input. -/
def fnExactSameProfilesWrong : ChangeSpec := { name := "fnExactSameProfiles", fn := fun _ => fun
  | [d1, d2] => { results := [.lit (.bool false)], args := [d1, d2] }
  | _ => none }
def FnExactSameProfilesWrongFalsely : Prop := fnExactSameProfilesRow.holds Try.pinned (OpenSpec.ofChange fnExactSameProfilesWrong)

/- THE SECOND FORM. 'bulk': how many values and letters a reading holds, each counted each time it is reached (what is shared counts as often as it is met; a slice's spare places count too). A statement '..UptoSaid' is the law's where the arguments, and the package variables that the reading takes, are together of bulk at most 1048576: NARROWER than '..Said'. Prove '..Said' where nothing that the law and all that it calls make is longer than what came in: it says more and counts as full. Else prove '..UptoSaid'. A law counts once. -/
mutual
def uptoBulk {H : Type} : DataW H → Nat
  | .lit (.string bytes) => bytes.length + 1
  | .lit _ => 1
  | .nil => 1
  | .ptr d => uptoBulk d + 1
  | .slice elems spare => uptoBulkAll elems + uptoBulkAll spare + 1
  | .agg parts => uptoBulkAll parts + 1
  | .iface _ d => uptoBulk d + 1
  | .map entries => uptoBulkEntries entries + 1
  | .held _ => 1
def uptoBulkAll {H : Type} : List (DataW H) → Nat
  | [] => 0
  | d :: r => uptoBulk d + uptoBulkAll r
def uptoBulkEntries {H : Type} : List (Lit × DataW H) → Nat
  | [] => 0
  | x :: r => uptoBulkEntry x + uptoBulkEntries r
def uptoBulkEntry {H : Type} : Lit × DataW H → Nat
  | (.string bytes, d) => bytes.length + uptoBulk d + 1
  | (_, d) => uptoBulk d + 1
 end
def uptoSmall : (H : Type) → List (DataW H) → Bool := fun _ ds => decide (uptoBulkAll ds ≤ 1048576)
def OpenSpec.upto (s : _root_.Go.ChangeSpec) : _root_.Go.OpenSpec := { _root_.Go.OpenSpec.ofChange s with cond := some uptoSmall }

/-- 'laws.FnProfiles', WHERE WHAT IT READS IS OF BULK AT MOST 1048576: true; the input reads as it did. -/
def fnProfilesUptoRow : OpenClaim := { program := "ytbbghebpmobfnaa", sum := "de7f50e9e1b515f6f87e9301b80b0ac72f64045affae5aee6538dac56a884449", func := "loop.example/g00639/laws.FnProfiles", spec := "fnProfiles", unfollowed := true, recurses := true, plainKeys := false, apart := false, narrowed := true }
def FnProfilesUptoSaid : Prop := fnProfilesUptoRow.holds Try.pinned (OpenSpec.upto fnProfilesSpec)

/-- 'laws.FnTrails', WHERE WHAT IT READS IS OF BULK AT MOST 1048576: true; the input reads as it did. -/
def fnTrailsUptoRow : OpenClaim := { program := "ytbbghebpmobfnaa", sum := "de7f50e9e1b515f6f87e9301b80b0ac72f64045affae5aee6538dac56a884449", func := "loop.example/g00639/laws.FnTrails", spec := "fnTrails", unfollowed := true, recurses := true, plainKeys := false, apart := false, narrowed := true }
def FnTrailsUptoSaid : Prop := fnTrailsUptoRow.holds Try.pinned (OpenSpec.upto fnTrailsSpec)

/-- 'laws.FnExactProfileFault', WHERE WHAT IT READS IS OF BULK AT MOST 1048576: true; the input reads as it did. -/
def fnExactProfileFaultUptoRow : OpenClaim := { program := "ytbbghebpmobfnaa", sum := "de7f50e9e1b515f6f87e9301b80b0ac72f64045affae5aee6538dac56a884449", func := "loop.example/g00639/laws.FnExactProfileFault", spec := "fnExactProfileFault", plainKeys := false, apart := false, narrowed := true }
def FnExactProfileFaultUptoSaid : Prop := fnExactProfileFaultUptoRow.holds Try.pinned (OpenSpec.upto fnExactProfileFaultSpec)

/-- 'laws.FnExactParseProfile', WHERE WHAT IT READS IS OF BULK AT MOST 1048576: true; the input reads as it did. -/
def fnExactParseProfileUptoRow : OpenClaim := { program := "ytbbghebpmobfnaa", sum := "de7f50e9e1b515f6f87e9301b80b0ac72f64045affae5aee6538dac56a884449", func := "loop.example/g00639/laws.FnExactParseProfile", spec := "fnExactParseProfile", plainKeys := false, apart := false, narrowed := true }
def FnExactParseProfileUptoSaid : Prop := fnExactParseProfileUptoRow.holds Try.pinned (OpenSpec.upto fnExactParseProfileSpec)

/-- 'laws.FnExactEncodeProfile', WHERE WHAT IT READS IS OF BULK AT MOST 1048576: true; the input reads as it did. -/
def fnExactEncodeProfileUptoRow : OpenClaim := { program := "ytbbghebpmobfnaa", sum := "de7f50e9e1b515f6f87e9301b80b0ac72f64045affae5aee6538dac56a884449", func := "loop.example/g00639/laws.FnExactEncodeProfile", spec := "fnExactEncodeProfile", plainKeys := false, apart := false, narrowed := true }
def FnExactEncodeProfileUptoSaid : Prop := fnExactEncodeProfileUptoRow.holds Try.pinned (OpenSpec.upto fnExactEncodeProfileSpec)

/-- 'laws.FnExactIsCanonical', WHERE WHAT IT READS IS OF BULK AT MOST 1048576: true; the input reads as it did. -/
def fnExactIsCanonicalUptoRow : OpenClaim := { program := "ytbbghebpmobfnaa", sum := "de7f50e9e1b515f6f87e9301b80b0ac72f64045affae5aee6538dac56a884449", func := "loop.example/g00639/laws.FnExactIsCanonical", spec := "fnExactIsCanonical", plainKeys := false, apart := false, narrowed := true }
def FnExactIsCanonicalUptoSaid : Prop := fnExactIsCanonicalUptoRow.holds Try.pinned (OpenSpec.upto fnExactIsCanonicalSpec)

/-- 'laws.FnExactFindTag', WHERE WHAT IT READS IS OF BULK AT MOST 1048576: true; the input reads as it did. -/
def fnExactFindTagUptoRow : OpenClaim := { program := "ytbbghebpmobfnaa", sum := "de7f50e9e1b515f6f87e9301b80b0ac72f64045affae5aee6538dac56a884449", func := "loop.example/g00639/laws.FnExactFindTag", spec := "fnExactFindTag", plainKeys := false, apart := false, narrowed := true }
def FnExactFindTagUptoSaid : Prop := fnExactFindTagUptoRow.holds Try.pinned (OpenSpec.upto fnExactFindTagSpec)

/-- 'laws.FnExactSameProfiles', WHERE WHAT IT READS IS OF BULK AT MOST 1048576: true; the input reads as it did. -/
def fnExactSameProfilesUptoRow : OpenClaim := { program := "ytbbghebpmobfnaa", sum := "de7f50e9e1b515f6f87e9301b80b0ac72f64045affae5aee6538dac56a884449", func := "loop.example/g00639/laws.FnExactSameProfiles", spec := "fnExactSameProfiles", unfollowed := true, recurses := true, plainKeys := false, apart := false, narrowed := true }
def FnExactSameProfilesUptoSaid : Prop := fnExactSameProfilesUptoRow.holds Try.pinned (OpenSpec.upto fnExactSameProfilesSpec)

end Rows
end Go.Proofs.Ytbbghebpmobfnaa
