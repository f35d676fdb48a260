/-
  DERIVED. GIVEN WITH THE SEED: THE CARDS: each row of YtlcppgnnlgigmaaDoorRows.lean that lists a variable, with what it lists TIED to the program's text (the seventh form; the later family's looks); each row that meets fmt, with fmt's text TOLD by the authors' own Lean function (tested against real Go, not proved from fmt's source: count such statements apart). THE CARD IS WHAT COUNTS. Prove the row's statement (the work); the ties are given (YtlcppgnnlgigmaaDoorTie.lean); close each card by the builder's one call (the guide's Derived/Test/ToyasCard.lean, 'card_holds'). Laid BY PROGRAM, IN A SANDBOX (cutbox-door.mjs). By AI agents, Wed Nov 11 2026. No macro, syntax, notation, axiom, sorry.
-/
import Derived.Test.YtlcppgnnlgigmaaDoorRows
import GoSem.ClaimSeven
namespace Go.Proofs.YtlcppgnnlgigmaaDoor
namespace Rows

/-- THE TIED CARD OF 'laws.FnStale'. -/
def fnStaleCard : Claim7 := { stood := { row := fnStaleRow, standIns := [], harness := (true, "8379dba80f396a640305f579b14158be3ad15f454edbd4ff72c3ca0b1c2e2b3f"), looks := false }, kinds := [], alts := [], laidByText := true, laidKinds := [.data, .data, .data], laidTests := true, laidLooks := .later }
def FnStaleCardSaid : Prop := Claim7.holds Tryd.pinned (.plain (OpenSpec.ofChange fnStaleSpec)) fnStaleCard

/-- THE TIED CARD OF 'laws.FnExactTopologyText'. -/
def fnExactTopologyTextCard : Claim7 := { stood := { row := fnExactTopologyTextRow, standIns := [], harness := (true, "8379dba80f396a640305f579b14158be3ad15f454edbd4ff72c3ca0b1c2e2b3f"), looks := false }, kinds := [], alts := [], laidByText := true, laidKinds := [.data, .data, .data], laidTests := true, laidLooks := .later }
def FnExactTopologyTextCardSaid : Prop := Claim7.holds Tryd.pinned (.plain (OpenSpec.ofChange fnExactTopologyTextSpec)) fnExactTopologyTextCard

/-- THE SECOND FORM's CARD OF 'laws.FnStale'. -/
def fnStaleUptoCard : Claim7 := { stood := { row := fnStaleUptoRow, standIns := [], harness := (true, "8379dba80f396a640305f579b14158be3ad15f454edbd4ff72c3ca0b1c2e2b3f"), looks := false }, kinds := [], alts := [], laidByText := true, laidKinds := [.data, .data, .data], laidTests := true, laidLooks := .later }
def FnStaleUptoCardSaid : Prop := Claim7.holds Tryd.pinned (.plain (OpenSpec.upto fnStaleSpec)) fnStaleUptoCard

/-- THE SECOND FORM's CARD OF 'laws.FnExactTopologyText'. -/
def fnExactTopologyTextUptoCard : Claim7 := { stood := { row := fnExactTopologyTextUptoRow, standIns := [], harness := (true, "8379dba80f396a640305f579b14158be3ad15f454edbd4ff72c3ca0b1c2e2b3f"), looks := false }, kinds := [], alts := [], laidByText := true, laidKinds := [.data, .data, .data], laidTests := true, laidLooks := .later }
def FnExactTopologyTextUptoCardSaid : Prop := Claim7.holds Tryd.pinned (.plain (OpenSpec.upto fnExactTopologyTextSpec)) fnExactTopologyTextUptoCard
end Rows
end Go.Proofs.YtlcppgnnlgigmaaDoor
