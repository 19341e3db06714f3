/-
  DERIVED. GIVEN WITH THE SEED: THE CARDS: each row of YtiigncmpbkfhmaaGreatDoorRows.lean that lists a variable, with what it lists TIED to the program's text (the seventh form; the later family's looks); each row that meets fmt, with fmt's text TOLD by the authors' own Lean function (tested against real Go, not proved from fmt's source: count such statements apart). THE CARD IS WHAT COUNTS. Prove the row's statement (the work); the ties are given (YtiigncmpbkfhmaaGreatDoorTie.lean); close each card by the builder's one call (the guide's Derived/Test/ToyasCard.lean, 'card_holds'). Laid BY PROGRAM, IN A SANDBOX (cutbox-door.mjs). By AI agents, Wed Nov 11 2026. No macro, syntax, notation, axiom, sorry.
-/
import Derived.Test.YtiigncmpbkfhmaaGreatDoorRows
import GoSem.ClaimSeven
namespace Go.Proofs.YtiigncmpbkfhmaaGreatDoor
namespace Rows

/-- THE TIED CARD OF 'cantileverlaw03.AstCalls'. -/
def astCallsCard : Claim7 := { stood := { row := astCallsRow, standIns := [], harness := (true, "d4d6c60f6161a2a222aaa40d9554f9bf9e5aa3a1ce4c5de23c4f0617d648ef0e"), looks := false }, kinds := [], alts := [], laidByText := true, laidKinds := [.data, .data], laidTests := true, laidLooks := .later }
def AstCallsCardSaid : Prop := Claim7.holds Tryz.pinned (.plain (OpenSpec.ofChange astCallsSpec)) astCallsCard

/-- THE SECOND FORM's CARD OF 'cantileverlaw03.AstCalls'. -/
def astCallsUptoCard : Claim7 := { stood := { row := astCallsUptoRow, standIns := [], harness := (true, "d4d6c60f6161a2a222aaa40d9554f9bf9e5aa3a1ce4c5de23c4f0617d648ef0e"), looks := false }, kinds := [], alts := [], laidByText := true, laidKinds := [.data, .data], laidTests := true, laidLooks := .later }
def AstCallsUptoCardSaid : Prop := Claim7.holds Tryz.pinned (.plain (OpenSpec.upto astCallsSpec)) astCallsUptoCard
end Rows
end Go.Proofs.YtiigncmpbkfhmaaGreatDoor
