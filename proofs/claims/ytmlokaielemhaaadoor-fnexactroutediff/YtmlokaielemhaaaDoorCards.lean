/-
  DERIVED. GIVEN WITH THE SEED: THE CARDS: each row of YtmlokaielemhaaaDoorRows.lean that lists a variable, with what it lists TIED to the program's text (the seventh form; the later family's looks); each row that meets fmt, with fmt's text TOLD by the authors' own Lean function (tested against real Go, not proved from fmt's source: count such statements apart). THE CARD IS WHAT COUNTS. Prove the row's statement (the work); the ties are given (YtmlokaielemhaaaDoorTie.lean); close each card by the builder's one call (the guide's Derived/Test/ToyasCard.lean, 'card_holds'). Laid BY PROGRAM, IN A SANDBOX (cutbox-door.mjs). By AI agents, Wed Nov 11 2026. No macro, syntax, notation, axiom, sorry.
-/
import Derived.Test.YtmlokaielemhaaaDoorRows
import GoSem.ClaimSeven
namespace Go.Proofs.YtmlokaielemhaaaDoor
namespace Rows

/-- THE TIED CARD OF 'laws.FnExactRoutesText'. -/
def fnExactRoutesTextCard : Claim7 := { stood := { row := fnExactRoutesTextRow, standIns := [], harness := (true, "c7f59f452e31a15f726de0e930d07349ef795c7bedadd44e365ef6dd7ac46519"), looks := false }, kinds := [], alts := [], laidByText := true, laidKinds := [.data, .data, .data], laidTests := true, laidLooks := .later }
def FnExactRoutesTextCardSaid : Prop := Claim7.holds Tryd.pinned (.plain (OpenSpec.ofChange fnExactRoutesTextSpec)) fnExactRoutesTextCard

/-- THE TIED CARD OF 'laws.FnExactRouteDiff'. -/
def fnExactRouteDiffCard : Claim7 := { stood := { row := fnExactRouteDiffRow, standIns := [], harness := (true, "c7f59f452e31a15f726de0e930d07349ef795c7bedadd44e365ef6dd7ac46519"), looks := false }, kinds := [], alts := [], laidByText := true, laidKinds := [.data, .data, .data], laidTests := true, laidLooks := .later }
def FnExactRouteDiffCardSaid : Prop := Claim7.holds Tryd.pinned (.plain (OpenSpec.ofChange fnExactRouteDiffSpec)) fnExactRouteDiffCard

/-- THE SECOND FORM's CARD OF 'laws.FnExactRoutesText'. -/
def fnExactRoutesTextUptoCard : Claim7 := { stood := { row := fnExactRoutesTextUptoRow, standIns := [], harness := (true, "c7f59f452e31a15f726de0e930d07349ef795c7bedadd44e365ef6dd7ac46519"), looks := false }, kinds := [], alts := [], laidByText := true, laidKinds := [.data, .data, .data], laidTests := true, laidLooks := .later }
def FnExactRoutesTextUptoCardSaid : Prop := Claim7.holds Tryd.pinned (.plain (OpenSpec.upto fnExactRoutesTextSpec)) fnExactRoutesTextUptoCard

/-- THE SECOND FORM's CARD OF 'laws.FnExactRouteDiff'. -/
def fnExactRouteDiffUptoCard : Claim7 := { stood := { row := fnExactRouteDiffUptoRow, standIns := [], harness := (true, "c7f59f452e31a15f726de0e930d07349ef795c7bedadd44e365ef6dd7ac46519"), looks := false }, kinds := [], alts := [], laidByText := true, laidKinds := [.data, .data, .data], laidTests := true, laidLooks := .later }
def FnExactRouteDiffUptoCardSaid : Prop := Claim7.holds Tryd.pinned (.plain (OpenSpec.upto fnExactRouteDiffSpec)) fnExactRouteDiffUptoCard
end Rows
end Go.Proofs.YtmlokaielemhaaaDoor
