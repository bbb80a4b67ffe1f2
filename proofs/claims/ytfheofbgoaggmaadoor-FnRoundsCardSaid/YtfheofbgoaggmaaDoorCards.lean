/-
  DERIVED. GIVEN WITH THE SEED: THE CARDS: each row of YtfheofbgoaggmaaDoorRows.lean that lists a variable, with what it lists TIED to the program's text (the seventh form; the later family's looks); each row that meets fmt, with fmt's text TOLD by the authors' own Lean function (tested against real Go, not proved from fmt's source: count such statements apart). THE CARD IS WHAT COUNTS. Prove the row's statement (the work); the ties are given (YtfheofbgoaggmaaDoorTie.lean); close each card by the builder's one call (the guide's Derived/Test/ToyasCard.lean, 'card_holds'). Laid BY PROGRAM, IN A SANDBOX (cutbox-door.mjs). By AI agents, Wed Nov 11 2026. No macro, syntax, notation, axiom, sorry.
-/
import Derived.Test.YtfheofbgoaggmaaDoorRows
import GoSem.ClaimSeven
namespace Go.Proofs.YtfheofbgoaggmaaDoor
namespace Rows

/-- THE TIED CARD OF 'laws.FnRounds'. -/
def fnRoundsCard : Claim7 := { stood := { row := fnRoundsRow, standIns := [], harness := (true, "98073e27aacd414f50969061bd55f69f69e7df4fe5e448982fa41a8fbd7eefdc"), looks := true }, kinds := [], alts := [], laidByText := true, laidKinds := [.handle], laidTests := true, laidLooks := .later }
def FnRoundsCardSaid : Prop := Claim7.holds Tryd.pinned (.plain (OpenSpec.ofChange fnRoundsSpec)) fnRoundsCard

/-- THE TIED CARD OF 'laws.FnRoots'. -/
def fnRootsCard : Claim7 := { stood := { row := fnRootsRow, standIns := [], harness := (true, "98073e27aacd414f50969061bd55f69f69e7df4fe5e448982fa41a8fbd7eefdc"), looks := true }, kinds := [], alts := [], laidByText := true, laidKinds := [.handle], laidTests := true, laidLooks := .later }
def FnRootsCardSaid : Prop := Claim7.holds Tryd.pinned (.plain (OpenSpec.ofChange fnRootsSpec)) fnRootsCard

/-- THE TIED CARD OF 'laws.FnExactRoundDiv'. -/
def fnExactRoundDivCard : Claim7 := { stood := { row := fnExactRoundDivRow, standIns := [], harness := (true, "98073e27aacd414f50969061bd55f69f69e7df4fe5e448982fa41a8fbd7eefdc"), looks := true }, kinds := [], alts := [], laidByText := true, laidKinds := [.handle], laidTests := true, laidLooks := .later }
def FnExactRoundDivCardSaid : Prop := Claim7.holds Tryd.pinned (.plain (OpenSpec.ofChange fnExactRoundDivSpec)) fnExactRoundDivCard

/-- THE TIED CARD OF 'laws.FnExactMulFix'. -/
def fnExactMulFixCard : Claim7 := { stood := { row := fnExactMulFixRow, standIns := [], harness := (true, "98073e27aacd414f50969061bd55f69f69e7df4fe5e448982fa41a8fbd7eefdc"), looks := true }, kinds := [], alts := [], laidByText := true, laidKinds := [.handle], laidTests := true, laidLooks := .later }
def FnExactMulFixCardSaid : Prop := Claim7.holds Tryd.pinned (.plain (OpenSpec.ofChange fnExactMulFixSpec)) fnExactMulFixCard

/-- THE TIED CARD OF 'laws.FnExactDivFix'. -/
def fnExactDivFixCard : Claim7 := { stood := { row := fnExactDivFixRow, standIns := [], harness := (true, "98073e27aacd414f50969061bd55f69f69e7df4fe5e448982fa41a8fbd7eefdc"), looks := true }, kinds := [], alts := [], laidByText := true, laidKinds := [.handle], laidTests := true, laidLooks := .later }
def FnExactDivFixCardSaid : Prop := Claim7.holds Tryd.pinned (.plain (OpenSpec.ofChange fnExactDivFixSpec)) fnExactDivFixCard

/-- THE TIED CARD OF 'laws.FnExactCubeRoot'. -/
def fnExactCubeRootCard : Claim7 := { stood := { row := fnExactCubeRootRow, standIns := [], harness := (true, "98073e27aacd414f50969061bd55f69f69e7df4fe5e448982fa41a8fbd7eefdc"), looks := true }, kinds := [], alts := [], laidByText := true, laidKinds := [.handle], laidTests := true, laidLooks := .later }
def FnExactCubeRootCardSaid : Prop := Claim7.holds Tryd.pinned (.plain (OpenSpec.ofChange fnExactCubeRootSpec)) fnExactCubeRootCard

/-- THE TIED CARD OF 'laws.FnExactPutFix'. -/
def fnExactPutFixCard : Claim7 := { stood := { row := fnExactPutFixRow, standIns := [], harness := (true, "98073e27aacd414f50969061bd55f69f69e7df4fe5e448982fa41a8fbd7eefdc"), looks := true }, kinds := [], alts := [], laidByText := true, laidKinds := [.handle], laidTests := true, laidLooks := .later }
def FnExactPutFixCardSaid : Prop := Claim7.holds Tryd.pinned (.plain (OpenSpec.ofChange fnExactPutFixSpec)) fnExactPutFixCard

/-- THE TIED CARD OF 'laws.FnExactGetFix'. -/
def fnExactGetFixCard : Claim7 := { stood := { row := fnExactGetFixRow, standIns := [], harness := (true, "98073e27aacd414f50969061bd55f69f69e7df4fe5e448982fa41a8fbd7eefdc"), looks := true }, kinds := [], alts := [], laidByText := true, laidKinds := [.handle], laidTests := true, laidLooks := .later }
def FnExactGetFixCardSaid : Prop := Claim7.holds Tryd.pinned (.plain (OpenSpec.ofChange fnExactGetFixSpec)) fnExactGetFixCard

/-- THE SECOND FORM's CARD OF 'laws.FnRounds'. -/
def fnRoundsUptoCard : Claim7 := { stood := { row := fnRoundsUptoRow, standIns := [], harness := (true, "98073e27aacd414f50969061bd55f69f69e7df4fe5e448982fa41a8fbd7eefdc"), looks := true }, kinds := [], alts := [], laidByText := true, laidKinds := [.handle], laidTests := true, laidLooks := .later }
def FnRoundsUptoCardSaid : Prop := Claim7.holds Tryd.pinned (.plain (OpenSpec.upto fnRoundsSpec)) fnRoundsUptoCard

/-- THE SECOND FORM's CARD OF 'laws.FnRoots'. -/
def fnRootsUptoCard : Claim7 := { stood := { row := fnRootsUptoRow, standIns := [], harness := (true, "98073e27aacd414f50969061bd55f69f69e7df4fe5e448982fa41a8fbd7eefdc"), looks := true }, kinds := [], alts := [], laidByText := true, laidKinds := [.handle], laidTests := true, laidLooks := .later }
def FnRootsUptoCardSaid : Prop := Claim7.holds Tryd.pinned (.plain (OpenSpec.upto fnRootsSpec)) fnRootsUptoCard

/-- THE SECOND FORM's CARD OF 'laws.FnExactRoundDiv'. -/
def fnExactRoundDivUptoCard : Claim7 := { stood := { row := fnExactRoundDivUptoRow, standIns := [], harness := (true, "98073e27aacd414f50969061bd55f69f69e7df4fe5e448982fa41a8fbd7eefdc"), looks := true }, kinds := [], alts := [], laidByText := true, laidKinds := [.handle], laidTests := true, laidLooks := .later }
def FnExactRoundDivUptoCardSaid : Prop := Claim7.holds Tryd.pinned (.plain (OpenSpec.upto fnExactRoundDivSpec)) fnExactRoundDivUptoCard

/-- THE SECOND FORM's CARD OF 'laws.FnExactMulFix'. -/
def fnExactMulFixUptoCard : Claim7 := { stood := { row := fnExactMulFixUptoRow, standIns := [], harness := (true, "98073e27aacd414f50969061bd55f69f69e7df4fe5e448982fa41a8fbd7eefdc"), looks := true }, kinds := [], alts := [], laidByText := true, laidKinds := [.handle], laidTests := true, laidLooks := .later }
def FnExactMulFixUptoCardSaid : Prop := Claim7.holds Tryd.pinned (.plain (OpenSpec.upto fnExactMulFixSpec)) fnExactMulFixUptoCard

/-- THE SECOND FORM's CARD OF 'laws.FnExactDivFix'. -/
def fnExactDivFixUptoCard : Claim7 := { stood := { row := fnExactDivFixUptoRow, standIns := [], harness := (true, "98073e27aacd414f50969061bd55f69f69e7df4fe5e448982fa41a8fbd7eefdc"), looks := true }, kinds := [], alts := [], laidByText := true, laidKinds := [.handle], laidTests := true, laidLooks := .later }
def FnExactDivFixUptoCardSaid : Prop := Claim7.holds Tryd.pinned (.plain (OpenSpec.upto fnExactDivFixSpec)) fnExactDivFixUptoCard

/-- THE SECOND FORM's CARD OF 'laws.FnExactCubeRoot'. -/
def fnExactCubeRootUptoCard : Claim7 := { stood := { row := fnExactCubeRootUptoRow, standIns := [], harness := (true, "98073e27aacd414f50969061bd55f69f69e7df4fe5e448982fa41a8fbd7eefdc"), looks := true }, kinds := [], alts := [], laidByText := true, laidKinds := [.handle], laidTests := true, laidLooks := .later }
def FnExactCubeRootUptoCardSaid : Prop := Claim7.holds Tryd.pinned (.plain (OpenSpec.upto fnExactCubeRootSpec)) fnExactCubeRootUptoCard

/-- THE SECOND FORM's CARD OF 'laws.FnExactPutFix'. -/
def fnExactPutFixUptoCard : Claim7 := { stood := { row := fnExactPutFixUptoRow, standIns := [], harness := (true, "98073e27aacd414f50969061bd55f69f69e7df4fe5e448982fa41a8fbd7eefdc"), looks := true }, kinds := [], alts := [], laidByText := true, laidKinds := [.handle], laidTests := true, laidLooks := .later }
def FnExactPutFixUptoCardSaid : Prop := Claim7.holds Tryd.pinned (.plain (OpenSpec.upto fnExactPutFixSpec)) fnExactPutFixUptoCard

/-- THE SECOND FORM's CARD OF 'laws.FnExactGetFix'. -/
def fnExactGetFixUptoCard : Claim7 := { stood := { row := fnExactGetFixUptoRow, standIns := [], harness := (true, "98073e27aacd414f50969061bd55f69f69e7df4fe5e448982fa41a8fbd7eefdc"), looks := true }, kinds := [], alts := [], laidByText := true, laidKinds := [.handle], laidTests := true, laidLooks := .later }
def FnExactGetFixUptoCardSaid : Prop := Claim7.holds Tryd.pinned (.plain (OpenSpec.upto fnExactGetFixSpec)) fnExactGetFixUptoCard
end Rows
end Go.Proofs.YtfheofbgoaggmaaDoor
