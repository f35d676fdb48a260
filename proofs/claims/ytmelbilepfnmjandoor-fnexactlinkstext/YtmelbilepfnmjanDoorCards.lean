/-
  DERIVED. GIVEN WITH THE SEED: THE CARDS: each row of YtmelbilepfnmjanDoorRows.lean that lists a variable, with what it lists TIED to the program's text (the seventh form; the later family's looks); each row that meets fmt, with fmt's text TOLD by the authors' own Lean function (tested against real Go, not proved from fmt's source: count such statements apart). THE CARD IS WHAT COUNTS. Prove the row's statement (the work); the ties are given (YtmelbilepfnmjanDoorTie.lean); close each card by the builder's one call (the guide's Derived/Test/ToyasCard.lean, 'card_holds'). Laid BY PROGRAM, IN A SANDBOX (cutbox-door.mjs). By AI agents, Wed Nov 11 2026. No macro, syntax, notation, axiom, sorry.
-/
import Derived.Test.YtmelbilepfnmjanDoorRows
import GoSem.ClaimSeven
namespace Go.Proofs.YtmelbilepfnmjanDoor
namespace Rows

/-- THE TIED CARD OF 'laws.FnExactLinksText'. -/
def fnExactLinksTextCard : Claim7 := { stood := { row := fnExactLinksTextRow, standIns := [], harness := (true, "35eac3dffe9b88a8211e4c77ba036209c2cc4cfdc97b268b70983eb00d65f36e"), looks := false }, kinds := [], alts := [], laidByText := true, laidKinds := [.data, .data, .data, .data], laidTests := true, laidLooks := .later }
def FnExactLinksTextCardSaid : Prop := Claim7.holds Tryd.pinned (.plain (OpenSpec.ofChange fnExactLinksTextSpec)) fnExactLinksTextCard

/-- THE SECOND FORM's CARD OF 'laws.FnExactLinksText'. -/
def fnExactLinksTextUptoCard : Claim7 := { stood := { row := fnExactLinksTextUptoRow, standIns := [], harness := (true, "35eac3dffe9b88a8211e4c77ba036209c2cc4cfdc97b268b70983eb00d65f36e"), looks := false }, kinds := [], alts := [], laidByText := true, laidKinds := [.data, .data, .data, .data], laidTests := true, laidLooks := .later }
def FnExactLinksTextUptoCardSaid : Prop := Claim7.holds Tryd.pinned (.plain (OpenSpec.upto fnExactLinksTextSpec)) fnExactLinksTextUptoCard
end Rows
end Go.Proofs.YtmelbilepfnmjanDoor
