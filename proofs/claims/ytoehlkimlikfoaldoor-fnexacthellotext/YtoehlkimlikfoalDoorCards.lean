/-
  DERIVED. GIVEN WITH THE SEED: THE CARDS: each row of YtoehlkimlikfoalDoorRows.lean that lists a variable, with what it lists TIED to the program's text (the seventh form; the later family's looks); each row that meets fmt, with fmt's text TOLD by the authors' own Lean function (tested against real Go, not proved from fmt's source: count such statements apart). THE CARD IS WHAT COUNTS. Prove the row's statement (the work); the ties are given (YtoehlkimlikfoalDoorTie.lean); close each card by the builder's one call (the guide's Derived/Test/ToyasCard.lean, 'card_holds'). Laid BY PROGRAM, IN A SANDBOX (cutbox-door.mjs). By AI agents, Wed Nov 11 2026. No macro, syntax, notation, axiom, sorry.
-/
import Derived.Test.YtoehlkimlikfoalDoorRows
import GoSem.ClaimSeven
namespace Go.Proofs.YtoehlkimlikfoalDoor
namespace Rows

/-- THE TIED CARD OF 'laws.FnExactHelloText'. -/
def fnExactHelloTextCard : Claim7 := { stood := { row := fnExactHelloTextRow, standIns := [], harness := (true, "eb8cda00b142c6b07e93bcb9b5b8b877ccc94655f41cf5050b12034b158513e3"), looks := false }, kinds := [], alts := [], laidByText := true, laidKinds := [.data, .data, .data, .data], laidTests := true, laidLooks := .later }
def FnExactHelloTextCardSaid : Prop := Claim7.holds Tryd.pinned (.plain (OpenSpec.ofChange fnExactHelloTextSpec)) fnExactHelloTextCard

/-- THE SECOND FORM's CARD OF 'laws.FnExactHelloText'. -/
def fnExactHelloTextUptoCard : Claim7 := { stood := { row := fnExactHelloTextUptoRow, standIns := [], harness := (true, "eb8cda00b142c6b07e93bcb9b5b8b877ccc94655f41cf5050b12034b158513e3"), looks := false }, kinds := [], alts := [], laidByText := true, laidKinds := [.data, .data, .data, .data], laidTests := true, laidLooks := .later }
def FnExactHelloTextUptoCardSaid : Prop := Claim7.holds Tryd.pinned (.plain (OpenSpec.upto fnExactHelloTextSpec)) fnExactHelloTextUptoCard
end Rows
end Go.Proofs.YtoehlkimlikfoalDoor
