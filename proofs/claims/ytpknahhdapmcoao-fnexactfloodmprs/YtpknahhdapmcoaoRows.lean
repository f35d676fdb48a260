/-
  No cell of these rows narrows 'for every input' (looked for: loops, veiled, ifaces, maps, wideKeys, modest, calm, conditions, laid).
  DERIVED. THE GIVEN ROWS OF THIS SEAT. 6 by the template 'for every input the law returns true; each argument reads behind the call as it read before'; 0 by the template 'total and deterministic' (their statements: YtpknahhdapmcoaoTotals.lean).
  GIVEN WITH THE SEED: the statements are not yours to turn. If you find one false, say at which input.
  Laid BY PROGRAM, IN A SANDBOX (cutbox-rows.mjs): the forced cells as the released guide's own fill.sh prints them over the translation ef4919a13105cd51… (all of the seat's roots in one cut). By AI agents, Wed Nov 11 2026. No macro, syntax, notation, axiom, sorry.
-/
import Derived.Test.YtpknahhdapmcoaoChecked
import GoSem.Claim
import GoSem.ClaimJoined
import GoSem.ClaimMapViews
import Derived.JoinedTies
import Derived.KernelRfl
namespace Go.Proofs.Ytpknahhdapmcoao
/- THE CELL 'sum', in the pinned program and in every row, IS THE sha256 OF THE DUMP (.gsa) THAT YtpknahhdapmcoaoProg.lean LOADS. Nothing in Lean hashes anything: it is a label: what it is worth is what the hold of that sum in a sandbox is worth. -/
noncomputable def Try.pinned : Pinned := { name := "ytpknahhdapmcoao", sum := "ef4919a13105cd51b4145250df813e65605b0bc94c7ce3ee4fd8850c7e800bab", checked := Try.checked }
namespace Rows
def none {H : Type} : Left H := { results := [], args := [] }

/-- 'laws.FnExactFloodMprs': WHATEVER THE INPUT: true; the input reads as it did. -/
def fnExactFloodMprsSpec : ChangeSpec := { name := "fnExactFloodMprs", fn := fun _ => fun
  | [d1, d2, d3, d4] => { results := [.lit (.bool true)], args := [d1, d2, d3, d4] }
  | _ => none }
def fnExactFloodMprsRow : OpenClaim := { program := "ytpknahhdapmcoao", sum := "ef4919a13105cd51b4145250df813e65605b0bc94c7ce3ee4fd8850c7e800bab", func := "loop.example/g00419/laws.FnExactFloodMprs", spec := "fnExactFloodMprs", unfollowed := true, recurses := true, plainKeys := false, apart := false }
def FnExactFloodMprsSaid : Prop := fnExactFloodMprsRow.holds Try.pinned (OpenSpec.ofChange fnExactFloodMprsSpec)

/-- ITS FALSE NEIGHBOUR: 'it returns false'. Refute it at one input. -/
def fnExactFloodMprsWrong : ChangeSpec := { name := "fnExactFloodMprs", fn := fun _ => fun
  | [d1, d2, d3, d4] => { results := [.lit (.bool false)], args := [d1, d2, d3, d4] }
  | _ => none }
def FnExactFloodMprsWrongFalsely : Prop := fnExactFloodMprsRow.holds Try.pinned (OpenSpec.ofChange fnExactFloodMprsWrong)

/-- 'laws.FnExactCovers': WHATEVER THE INPUT: true; the input reads as it did. -/
def fnExactCoversSpec : ChangeSpec := { name := "fnExactCovers", fn := fun _ => fun
  | [d1, d2, d3, d4, d5] => { results := [.lit (.bool true)], args := [d1, d2, d3, d4, d5] }
  | _ => none }
def fnExactCoversRow : OpenClaim := { program := "ytpknahhdapmcoao", sum := "ef4919a13105cd51b4145250df813e65605b0bc94c7ce3ee4fd8850c7e800bab", func := "loop.example/g00419/laws.FnExactCovers", spec := "fnExactCovers", plainKeys := false, apart := false }
def FnExactCoversSaid : Prop := fnExactCoversRow.holds Try.pinned (OpenSpec.ofChange fnExactCoversSpec)

/-- ITS FALSE NEIGHBOUR: 'it returns false'. Refute it at one input. -/
def fnExactCoversWrong : ChangeSpec := { name := "fnExactCovers", fn := fun _ => fun
  | [d1, d2, d3, d4, d5] => { results := [.lit (.bool false)], args := [d1, d2, d3, d4, d5] }
  | _ => none }
def FnExactCoversWrongFalsely : Prop := fnExactCoversRow.holds Try.pinned (OpenSpec.ofChange fnExactCoversWrong)

/-- 'laws.FnExactNeedless': WHATEVER THE INPUT: true; the input reads as it did. -/
def fnExactNeedlessSpec : ChangeSpec := { name := "fnExactNeedless", fn := fun _ => fun
  | [d1, d2, d3, d4, d5] => { results := [.lit (.bool true)], args := [d1, d2, d3, d4, d5] }
  | _ => none }
def fnExactNeedlessRow : OpenClaim := { program := "ytpknahhdapmcoao", sum := "ef4919a13105cd51b4145250df813e65605b0bc94c7ce3ee4fd8850c7e800bab", func := "loop.example/g00419/laws.FnExactNeedless", spec := "fnExactNeedless", plainKeys := false, apart := false }
def FnExactNeedlessSaid : Prop := fnExactNeedlessRow.holds Try.pinned (OpenSpec.ofChange fnExactNeedlessSpec)

/-- ITS FALSE NEIGHBOUR: 'it returns false'. Refute it at one input. -/
def fnExactNeedlessWrong : ChangeSpec := { name := "fnExactNeedless", fn := fun _ => fun
  | [d1, d2, d3, d4, d5] => { results := [.lit (.bool false)], args := [d1, d2, d3, d4, d5] }
  | _ => none }
def FnExactNeedlessWrongFalsely : Prop := fnExactNeedlessRow.holds Try.pinned (OpenSpec.ofChange fnExactNeedlessWrong)

/-- 'laws.FnExactTwoCost': WHATEVER THE INPUT: true; the input reads as it did. -/
def fnExactTwoCostSpec : ChangeSpec := { name := "fnExactTwoCost", fn := fun _ => fun
  | [d1, d2, d3, d4, d5] => { results := [.lit (.bool true)], args := [d1, d2, d3, d4, d5] }
  | _ => none }
def fnExactTwoCostRow : OpenClaim := { program := "ytpknahhdapmcoao", sum := "ef4919a13105cd51b4145250df813e65605b0bc94c7ce3ee4fd8850c7e800bab", func := "loop.example/g00419/laws.FnExactTwoCost", spec := "fnExactTwoCost", plainKeys := false, apart := false }
def FnExactTwoCostSaid : Prop := fnExactTwoCostRow.holds Try.pinned (OpenSpec.ofChange fnExactTwoCostSpec)

/-- ITS FALSE NEIGHBOUR: 'it returns false'. Refute it at one input. -/
def fnExactTwoCostWrong : ChangeSpec := { name := "fnExactTwoCost", fn := fun _ => fun
  | [d1, d2, d3, d4, d5] => { results := [.lit (.bool false)], args := [d1, d2, d3, d4, d5] }
  | _ => none }
def FnExactTwoCostWrongFalsely : Prop := fnExactTwoCostRow.holds Try.pinned (OpenSpec.ofChange fnExactTwoCostWrong)

/-- 'laws.FnExactRouteMprs': WHATEVER THE INPUT: true; the input reads as it did. -/
def fnExactRouteMprsSpec : ChangeSpec := { name := "fnExactRouteMprs", fn := fun _ => fun
  | [d1, d2, d3, d4] => { results := [.lit (.bool true)], args := [d1, d2, d3, d4] }
  | _ => none }
def fnExactRouteMprsRow : OpenClaim := { program := "ytpknahhdapmcoao", sum := "ef4919a13105cd51b4145250df813e65605b0bc94c7ce3ee4fd8850c7e800bab", func := "loop.example/g00419/laws.FnExactRouteMprs", spec := "fnExactRouteMprs", unfollowed := true, recurses := true, plainKeys := false, apart := false }
def FnExactRouteMprsSaid : Prop := fnExactRouteMprsRow.holds Try.pinned (OpenSpec.ofChange fnExactRouteMprsSpec)

/-- ITS FALSE NEIGHBOUR: 'it returns false'. Refute it at one input. -/
def fnExactRouteMprsWrong : ChangeSpec := { name := "fnExactRouteMprs", fn := fun _ => fun
  | [d1, d2, d3, d4] => { results := [.lit (.bool false)], args := [d1, d2, d3, d4] }
  | _ => none }
def FnExactRouteMprsWrongFalsely : Prop := fnExactRouteMprsRow.holds Try.pinned (OpenSpec.ofChange fnExactRouteMprsWrong)

/-- 'laws.FnExactKeeps': WHATEVER THE INPUT: true; the input reads as it did. -/
def fnExactKeepsSpec : ChangeSpec := { name := "fnExactKeeps", fn := fun _ => fun
  | [d1, d2, d3, d4, d5] => { results := [.lit (.bool true)], args := [d1, d2, d3, d4, d5] }
  | _ => none }
def fnExactKeepsRow : OpenClaim := { program := "ytpknahhdapmcoao", sum := "ef4919a13105cd51b4145250df813e65605b0bc94c7ce3ee4fd8850c7e800bab", func := "loop.example/g00419/laws.FnExactKeeps", spec := "fnExactKeeps", plainKeys := false, apart := false }
def FnExactKeepsSaid : Prop := fnExactKeepsRow.holds Try.pinned (OpenSpec.ofChange fnExactKeepsSpec)

/-- ITS FALSE NEIGHBOUR: 'it returns false'. Refute it at one input. -/
def fnExactKeepsWrong : ChangeSpec := { name := "fnExactKeeps", fn := fun _ => fun
  | [d1, d2, d3, d4, d5] => { results := [.lit (.bool false)], args := [d1, d2, d3, d4, d5] }
  | _ => none }
def FnExactKeepsWrongFalsely : Prop := fnExactKeepsRow.holds Try.pinned (OpenSpec.ofChange fnExactKeepsWrong)

/- THE SECOND FORM. 'bulk': how many values and letters a reading holds, each counted each time it is reached (what is shared counts as often as it is met; a slice's spare places count too). A statement '..UptoSaid' is the law's where the arguments, and the package variables that the reading takes, are together of bulk at most 1048576: NARROWER than '..Said'. Prove '..Said' where nothing that the law and all that it calls make is longer than what came in: it says more and counts as full. Else prove '..UptoSaid'. A law counts once. -/
mutual
def uptoBulk {H : Type} : DataW H → Nat
  | .lit (.string bytes) => bytes.length + 1
  | .lit _ => 1
  | .nil => 1
  | .ptr d => uptoBulk d + 1
  | .slice elems spare => uptoBulkAll elems + uptoBulkAll spare + 1
  | .agg parts => uptoBulkAll parts + 1
  | .iface _ d => uptoBulk d + 1
  | .map entries => uptoBulkEntries entries + 1
  | .held _ => 1
def uptoBulkAll {H : Type} : List (DataW H) → Nat
  | [] => 0
  | d :: r => uptoBulk d + uptoBulkAll r
def uptoBulkEntries {H : Type} : List (Lit × DataW H) → Nat
  | [] => 0
  | x :: r => uptoBulkEntry x + uptoBulkEntries r
def uptoBulkEntry {H : Type} : Lit × DataW H → Nat
  | (.string bytes, d) => bytes.length + uptoBulk d + 1
  | (_, d) => uptoBulk d + 1
 end
def uptoSmall : (H : Type) → List (DataW H) → Bool := fun _ ds => decide (uptoBulkAll ds ≤ 1048576)
def OpenSpec.upto (s : _root_.Go.ChangeSpec) : _root_.Go.OpenSpec := { _root_.Go.OpenSpec.ofChange s with cond := some uptoSmall }

/-- 'laws.FnExactFloodMprs', WHERE WHAT IT READS IS OF BULK AT MOST 1048576: true; the input reads as it did. -/
def fnExactFloodMprsUptoRow : OpenClaim := { program := "ytpknahhdapmcoao", sum := "ef4919a13105cd51b4145250df813e65605b0bc94c7ce3ee4fd8850c7e800bab", func := "loop.example/g00419/laws.FnExactFloodMprs", spec := "fnExactFloodMprs", unfollowed := true, recurses := true, plainKeys := false, apart := false, narrowed := true }
def FnExactFloodMprsUptoSaid : Prop := fnExactFloodMprsUptoRow.holds Try.pinned (OpenSpec.upto fnExactFloodMprsSpec)

/-- 'laws.FnExactCovers', WHERE WHAT IT READS IS OF BULK AT MOST 1048576: true; the input reads as it did. -/
def fnExactCoversUptoRow : OpenClaim := { program := "ytpknahhdapmcoao", sum := "ef4919a13105cd51b4145250df813e65605b0bc94c7ce3ee4fd8850c7e800bab", func := "loop.example/g00419/laws.FnExactCovers", spec := "fnExactCovers", plainKeys := false, apart := false, narrowed := true }
def FnExactCoversUptoSaid : Prop := fnExactCoversUptoRow.holds Try.pinned (OpenSpec.upto fnExactCoversSpec)

/-- 'laws.FnExactNeedless', WHERE WHAT IT READS IS OF BULK AT MOST 1048576: true; the input reads as it did. -/
def fnExactNeedlessUptoRow : OpenClaim := { program := "ytpknahhdapmcoao", sum := "ef4919a13105cd51b4145250df813e65605b0bc94c7ce3ee4fd8850c7e800bab", func := "loop.example/g00419/laws.FnExactNeedless", spec := "fnExactNeedless", plainKeys := false, apart := false, narrowed := true }
def FnExactNeedlessUptoSaid : Prop := fnExactNeedlessUptoRow.holds Try.pinned (OpenSpec.upto fnExactNeedlessSpec)

/-- 'laws.FnExactTwoCost', WHERE WHAT IT READS IS OF BULK AT MOST 1048576: true; the input reads as it did. -/
def fnExactTwoCostUptoRow : OpenClaim := { program := "ytpknahhdapmcoao", sum := "ef4919a13105cd51b4145250df813e65605b0bc94c7ce3ee4fd8850c7e800bab", func := "loop.example/g00419/laws.FnExactTwoCost", spec := "fnExactTwoCost", plainKeys := false, apart := false, narrowed := true }
def FnExactTwoCostUptoSaid : Prop := fnExactTwoCostUptoRow.holds Try.pinned (OpenSpec.upto fnExactTwoCostSpec)

/-- 'laws.FnExactRouteMprs', WHERE WHAT IT READS IS OF BULK AT MOST 1048576: true; the input reads as it did. -/
def fnExactRouteMprsUptoRow : OpenClaim := { program := "ytpknahhdapmcoao", sum := "ef4919a13105cd51b4145250df813e65605b0bc94c7ce3ee4fd8850c7e800bab", func := "loop.example/g00419/laws.FnExactRouteMprs", spec := "fnExactRouteMprs", unfollowed := true, recurses := true, plainKeys := false, apart := false, narrowed := true }
def FnExactRouteMprsUptoSaid : Prop := fnExactRouteMprsUptoRow.holds Try.pinned (OpenSpec.upto fnExactRouteMprsSpec)

/-- 'laws.FnExactKeeps', WHERE WHAT IT READS IS OF BULK AT MOST 1048576: true; the input reads as it did. -/
def fnExactKeepsUptoRow : OpenClaim := { program := "ytpknahhdapmcoao", sum := "ef4919a13105cd51b4145250df813e65605b0bc94c7ce3ee4fd8850c7e800bab", func := "loop.example/g00419/laws.FnExactKeeps", spec := "fnExactKeeps", plainKeys := false, apart := false, narrowed := true }
def FnExactKeepsUptoSaid : Prop := fnExactKeepsUptoRow.holds Try.pinned (OpenSpec.upto fnExactKeepsSpec)

end Rows
end Go.Proofs.Ytpknahhdapmcoao
