/-
  DERIVED. GIVEN WITH THE SEED: THE CARDS: each row of YtpknahhdapmcoabDoorRows.lean that lists a variable, with what it lists TIED to the program's text (the seventh form; the later family's looks); each row that meets fmt, with fmt's text TOLD by the authors' own Lean function (tested against real Go, not proved from fmt's source: count such statements apart). THE CARD IS WHAT COUNTS. Prove the row's statement (the work); the ties are given (YtpknahhdapmcoabDoorTie.lean); close each card by the builder's one call (the guide's Derived/Test/ToyasCard.lean, 'card_holds'). Laid BY PROGRAM, IN A SANDBOX (cutbox-door.mjs). By AI agents, Wed Nov 11 2026. No macro, syntax, notation, axiom, sorry.
-/
import Derived.Test.YtpknahhdapmcoabDoorRows
import GoSem.ClaimSeven
namespace Go.Proofs.YtpknahhdapmcoabDoor
namespace Rows

/-- THE TIED CARD OF 'laws.FnHello'. -/
def fnHelloCard : Claim7 := { stood := { row := fnHelloRow, standIns := [], harness := (true, "ca280aed3947b38928dc4366c68f776824ee058a0f0813cd1c59d0af93b1f5f6"), looks := false }, kinds := [], alts := [], laidByText := true, laidKinds := [.data, .data, .data, .data], laidTests := true, laidLooks := .later }
def FnHelloCardSaid : Prop := Claim7.holds Tryd.pinned (.plain (OpenSpec.ofChange fnHelloSpec)) fnHelloCard

/-- THE TIED CARD OF 'laws.FnTc'. -/
def fnTcCard : Claim7 := { stood := { row := fnTcRow, standIns := [], harness := (true, "ca280aed3947b38928dc4366c68f776824ee058a0f0813cd1c59d0af93b1f5f6"), looks := false }, kinds := [], alts := [], laidByText := true, laidKinds := [.data, .data, .data], laidTests := true, laidLooks := .later }
def FnTcCardSaid : Prop := Claim7.holds Tryd.pinned (.plain (OpenSpec.ofChange fnTcSpec)) fnTcCard

/-- THE TIED CARD OF 'laws.FnForget'. -/
def fnForgetCard : Claim7 := { stood := { row := fnForgetRow, standIns := [], harness := (true, "ca280aed3947b38928dc4366c68f776824ee058a0f0813cd1c59d0af93b1f5f6"), looks := false }, kinds := [], alts := [], laidByText := true, laidKinds := [.data, .data, .data, .data], laidTests := true, laidLooks := .later }
def FnForgetCardSaid : Prop := Claim7.holds Tryd.pinned (.plain (OpenSpec.ofChange fnForgetSpec)) fnForgetCard

/-- THE SECOND FORM's CARD OF 'laws.FnHello'. -/
def fnHelloUptoCard : Claim7 := { stood := { row := fnHelloUptoRow, standIns := [], harness := (true, "ca280aed3947b38928dc4366c68f776824ee058a0f0813cd1c59d0af93b1f5f6"), looks := false }, kinds := [], alts := [], laidByText := true, laidKinds := [.data, .data, .data, .data], laidTests := true, laidLooks := .later }
def FnHelloUptoCardSaid : Prop := Claim7.holds Tryd.pinned (.plain (OpenSpec.upto fnHelloSpec)) fnHelloUptoCard

/-- THE SECOND FORM's CARD OF 'laws.FnTc'. -/
def fnTcUptoCard : Claim7 := { stood := { row := fnTcUptoRow, standIns := [], harness := (true, "ca280aed3947b38928dc4366c68f776824ee058a0f0813cd1c59d0af93b1f5f6"), looks := false }, kinds := [], alts := [], laidByText := true, laidKinds := [.data, .data, .data], laidTests := true, laidLooks := .later }
def FnTcUptoCardSaid : Prop := Claim7.holds Tryd.pinned (.plain (OpenSpec.upto fnTcSpec)) fnTcUptoCard

/-- THE SECOND FORM's CARD OF 'laws.FnForget'. -/
def fnForgetUptoCard : Claim7 := { stood := { row := fnForgetUptoRow, standIns := [], harness := (true, "ca280aed3947b38928dc4366c68f776824ee058a0f0813cd1c59d0af93b1f5f6"), looks := false }, kinds := [], alts := [], laidByText := true, laidKinds := [.data, .data, .data, .data], laidTests := true, laidLooks := .later }
def FnForgetUptoCardSaid : Prop := Claim7.holds Tryd.pinned (.plain (OpenSpec.upto fnForgetSpec)) fnForgetUptoCard
end Rows
end Go.Proofs.YtpknahhdapmcoabDoor
