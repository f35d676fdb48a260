/-
  DERIVED. GIVEN WITH THE SEED: THE CARDS: each row of YtpknahhdapmcoalDoorRows.lean that lists a variable, with what it lists TIED to the program's text (the seventh form; the later family's looks); each row that meets fmt, with fmt's text TOLD by the authors' own Lean function (tested against real Go, not proved from fmt's source: count such statements apart). THE CARD IS WHAT COUNTS. Prove the row's statement (the work); the ties are given (YtpknahhdapmcoalDoorTie.lean); close each card by the builder's one call (the guide's Derived/Test/ToyasCard.lean, 'card_holds'). Laid BY PROGRAM, IN A SANDBOX (cutbox-door.mjs). By AI agents, Wed Nov 11 2026. No macro, syntax, notation, axiom, sorry.
-/
import Derived.Test.YtpknahhdapmcoalDoorRows
import GoSem.ClaimSeven
namespace Go.Proofs.YtpknahhdapmcoalDoor
namespace Rows

/-- THE TIED CARD OF 'laws.FnExactHelloText'. -/
def fnExactHelloTextCard : Claim7 := { stood := { row := fnExactHelloTextRow, standIns := [], harness := (true, "641b05e63bfc62fd649cf49c80123c63b74684608f0f7614e006288b049fbea8"), looks := false }, kinds := [], alts := [], laidByText := true, laidKinds := [.data, .data, .data, .data], laidTests := true, laidLooks := .later }
def FnExactHelloTextCardSaid : Prop := Claim7.holds Tryd.pinned (.plain (OpenSpec.ofChange fnExactHelloTextSpec)) fnExactHelloTextCard

/-- THE TIED CARD OF 'laws.FnExactTcText'. -/
def fnExactTcTextCard : Claim7 := { stood := { row := fnExactTcTextRow, standIns := [], harness := (true, "641b05e63bfc62fd649cf49c80123c63b74684608f0f7614e006288b049fbea8"), looks := false }, kinds := [], alts := [], laidByText := true, laidKinds := [.data, .data, .data], laidTests := true, laidLooks := .later }
def FnExactTcTextCardSaid : Prop := Claim7.holds Tryd.pinned (.plain (OpenSpec.ofChange fnExactTcTextSpec)) fnExactTcTextCard

/-- THE SECOND FORM's CARD OF 'laws.FnExactHelloText'. -/
def fnExactHelloTextUptoCard : Claim7 := { stood := { row := fnExactHelloTextUptoRow, standIns := [], harness := (true, "641b05e63bfc62fd649cf49c80123c63b74684608f0f7614e006288b049fbea8"), looks := false }, kinds := [], alts := [], laidByText := true, laidKinds := [.data, .data, .data, .data], laidTests := true, laidLooks := .later }
def FnExactHelloTextUptoCardSaid : Prop := Claim7.holds Tryd.pinned (.plain (OpenSpec.upto fnExactHelloTextSpec)) fnExactHelloTextUptoCard

/-- THE SECOND FORM's CARD OF 'laws.FnExactTcText'. -/
def fnExactTcTextUptoCard : Claim7 := { stood := { row := fnExactTcTextUptoRow, standIns := [], harness := (true, "641b05e63bfc62fd649cf49c80123c63b74684608f0f7614e006288b049fbea8"), looks := false }, kinds := [], alts := [], laidByText := true, laidKinds := [.data, .data, .data], laidTests := true, laidLooks := .later }
def FnExactTcTextUptoCardSaid : Prop := Claim7.holds Tryd.pinned (.plain (OpenSpec.upto fnExactTcTextSpec)) fnExactTcTextUptoCard
end Rows
end Go.Proofs.YtpknahhdapmcoalDoor
