/-
  No cell of these rows narrows 'for every input' (looked for: loops, veiled, ifaces, maps, wideKeys, modest, calm, conditions, laid).
  DERIVED. THE GIVEN ROWS OF THIS SEAT. 6 by the template 'for every input the law returns true; each argument reads behind the call as it read before'; 0 by the template 'total and deterministic' (their statements: YtmelbilepfnmjapTotals.lean).
  GIVEN WITH THE SEED: the statements are not yours to turn. If you find one false, say at which input.
  Laid BY PROGRAM, IN A SANDBOX (cutbox-rows.mjs): the forced cells as the released guide's own fill.sh prints them over the translation e0fee62b2a9b196a… (all of the seat's roots in one cut). By AI agents, Wed Nov 11 2026. No macro, syntax, notation, axiom, sorry.
-/
import Derived.Test.YtmelbilepfnmjapChecked
import GoSem.Claim
import GoSem.ClaimJoined
import GoSem.ClaimMapViews
import Derived.JoinedTies
import Derived.KernelRfl
namespace Go.Proofs.Ytmelbilepfnmjap
/- THE CELL 'sum', in the pinned program and in every row, IS THE sha256 OF THE DUMP (.gsa) THAT YtmelbilepfnmjapProg.lean LOADS. Nothing in Lean hashes anything: it is a label: what it is worth is what the hold of that sum in a sandbox is worth. -/
noncomputable def Try.pinned : Pinned := { name := "ytmelbilepfnmjap", sum := "e0fee62b2a9b196ae8a926da11945f76092f1e96af161a9ea9bf983b69b45d71", checked := Try.checked }
namespace Rows
def none {H : Type} : Left H := { results := [], args := [] }

/-- 'laws.FnExactDegree': WHATEVER THE INPUT: true; the input reads as it did. -/
def fnExactDegreeSpec : ChangeSpec := { name := "fnExactDegree", fn := fun _ => fun
  | [d1, d2, d3, d4, d5] => { results := [.lit (.bool true)], args := [d1, d2, d3, d4, d5] }
  | _ => none }
def fnExactDegreeRow : OpenClaim := { program := "ytmelbilepfnmjap", sum := "e0fee62b2a9b196ae8a926da11945f76092f1e96af161a9ea9bf983b69b45d71", func := "loop.example/g00419/laws.FnExactDegree", spec := "fnExactDegree", plainKeys := false, apart := false }
def FnExactDegreeSaid : Prop := fnExactDegreeRow.holds Try.pinned (OpenSpec.ofChange fnExactDegreeSpec)

/-- ITS FALSE NEIGHBOUR: 'it returns false'. Refute it at one input. -/
def fnExactDegreeWrong : ChangeSpec := { name := "fnExactDegree", fn := fun _ => fun
  | [d1, d2, d3, d4, d5] => { results := [.lit (.bool false)], args := [d1, d2, d3, d4, d5] }
  | _ => none }
def FnExactDegreeWrongFalsely : Prop := fnExactDegreeRow.holds Try.pinned (OpenSpec.ofChange fnExactDegreeWrong)

/-- 'laws.FnExactTopologyOK': WHATEVER THE INPUT: true; the input reads as it did. -/
def fnExactTopologyOKSpec : ChangeSpec := { name := "fnExactTopologyOK", fn := fun _ => fun
  | [d] => { results := [.lit (.bool true)], args := [d] }
  | _ => none }
def fnExactTopologyOKRow : OpenClaim := { program := "ytmelbilepfnmjap", sum := "e0fee62b2a9b196ae8a926da11945f76092f1e96af161a9ea9bf983b69b45d71", func := "loop.example/g00419/laws.FnExactTopologyOK", spec := "fnExactTopologyOK", unfollowed := true, recurses := true, plainKeys := false, apart := false }
def FnExactTopologyOKSaid : Prop := fnExactTopologyOKRow.holds Try.pinned (OpenSpec.ofChange fnExactTopologyOKSpec)

/-- ITS FALSE NEIGHBOUR: 'it returns false'. Refute it at one input. -/
def fnExactTopologyOKWrong : ChangeSpec := { name := "fnExactTopologyOK", fn := fun _ => fun
  | [d] => { results := [.lit (.bool false)], args := [d] }
  | _ => none }
def FnExactTopologyOKWrongFalsely : Prop := fnExactTopologyOKRow.holds Try.pinned (OpenSpec.ofChange fnExactTopologyOKWrong)

/-- 'laws.FnExactHearTc': WHATEVER THE INPUT: true; the input reads as it did. -/
def fnExactHearTcSpec : ChangeSpec := { name := "fnExactHearTc", fn := fun _ => fun
  | [d1, d2, d3, d4] => { results := [.lit (.bool true)], args := [d1, d2, d3, d4] }
  | _ => none }
def fnExactHearTcRow : OpenClaim := { program := "ytmelbilepfnmjap", sum := "e0fee62b2a9b196ae8a926da11945f76092f1e96af161a9ea9bf983b69b45d71", func := "loop.example/g00419/laws.FnExactHearTc", spec := "fnExactHearTc", unfollowed := true, recurses := true, plainKeys := false, apart := false }
def FnExactHearTcSaid : Prop := fnExactHearTcRow.holds Try.pinned (OpenSpec.ofChange fnExactHearTcSpec)

/-- ITS FALSE NEIGHBOUR: 'it returns false'. Refute it at one input. -/
def fnExactHearTcWrong : ChangeSpec := { name := "fnExactHearTc", fn := fun _ => fun
  | [d1, d2, d3, d4] => { results := [.lit (.bool false)], args := [d1, d2, d3, d4] }
  | _ => none }
def FnExactHearTcWrongFalsely : Prop := fnExactHearTcRow.holds Try.pinned (OpenSpec.ofChange fnExactHearTcWrong)

/-- 'laws.FnExactTopologyExpire': WHATEVER THE INPUT: true; the input reads as it did. -/
def fnExactTopologyExpireSpec : ChangeSpec := { name := "fnExactTopologyExpire", fn := fun _ => fun
  | [d1, d2] => { results := [.lit (.bool true)], args := [d1, d2] }
  | _ => none }
def fnExactTopologyExpireRow : OpenClaim := { program := "ytmelbilepfnmjap", sum := "e0fee62b2a9b196ae8a926da11945f76092f1e96af161a9ea9bf983b69b45d71", func := "loop.example/g00419/laws.FnExactTopologyExpire", spec := "fnExactTopologyExpire", unfollowed := true, recurses := true, plainKeys := false, apart := false }
def FnExactTopologyExpireSaid : Prop := fnExactTopologyExpireRow.holds Try.pinned (OpenSpec.ofChange fnExactTopologyExpireSpec)

/-- ITS FALSE NEIGHBOUR: 'it returns false'. Refute it at one input. -/
def fnExactTopologyExpireWrong : ChangeSpec := { name := "fnExactTopologyExpire", fn := fun _ => fun
  | [d1, d2] => { results := [.lit (.bool false)], args := [d1, d2] }
  | _ => none }
def FnExactTopologyExpireWrongFalsely : Prop := fnExactTopologyExpireRow.holds Try.pinned (OpenSpec.ofChange fnExactTopologyExpireWrong)

/-- 'laws.FnExactEdgesFrom': WHATEVER THE INPUT: true; the input reads as it did. -/
def fnExactEdgesFromSpec : ChangeSpec := { name := "fnExactEdgesFrom", fn := fun _ => fun
  | [d1, d2] => { results := [.lit (.bool true)], args := [d1, d2] }
  | _ => none }
def fnExactEdgesFromRow : OpenClaim := { program := "ytmelbilepfnmjap", sum := "e0fee62b2a9b196ae8a926da11945f76092f1e96af161a9ea9bf983b69b45d71", func := "loop.example/g00419/laws.FnExactEdgesFrom", spec := "fnExactEdgesFrom", unfollowed := true, recurses := true, plainKeys := false, apart := false }
def FnExactEdgesFromSaid : Prop := fnExactEdgesFromRow.holds Try.pinned (OpenSpec.ofChange fnExactEdgesFromSpec)

/-- ITS FALSE NEIGHBOUR: 'it returns false'. Refute it at one input. -/
def fnExactEdgesFromWrong : ChangeSpec := { name := "fnExactEdgesFrom", fn := fun _ => fun
  | [d1, d2] => { results := [.lit (.bool false)], args := [d1, d2] }
  | _ => none }
def FnExactEdgesFromWrongFalsely : Prop := fnExactEdgesFromRow.holds Try.pinned (OpenSpec.ofChange fnExactEdgesFromWrong)

/-- 'laws.FnExactSourceOf': WHATEVER THE INPUT: true; the input reads as it did. -/
def fnExactSourceOfSpec : ChangeSpec := { name := "fnExactSourceOf", fn := fun _ => fun
  | [d1, d2] => { results := [.lit (.bool true)], args := [d1, d2] }
  | _ => none }
def fnExactSourceOfRow : OpenClaim := { program := "ytmelbilepfnmjap", sum := "e0fee62b2a9b196ae8a926da11945f76092f1e96af161a9ea9bf983b69b45d71", func := "loop.example/g00419/laws.FnExactSourceOf", spec := "fnExactSourceOf", unfollowed := true, recurses := true, plainKeys := false, apart := false }
def FnExactSourceOfSaid : Prop := fnExactSourceOfRow.holds Try.pinned (OpenSpec.ofChange fnExactSourceOfSpec)

/-- ITS FALSE NEIGHBOUR: 'it returns false'. Refute it at one input. -/
def fnExactSourceOfWrong : ChangeSpec := { name := "fnExactSourceOf", fn := fun _ => fun
  | [d1, d2] => { results := [.lit (.bool false)], args := [d1, d2] }
  | _ => none }
def FnExactSourceOfWrongFalsely : Prop := fnExactSourceOfRow.holds Try.pinned (OpenSpec.ofChange fnExactSourceOfWrong)

/- THE SECOND FORM. 'bulk': how many values and letters a reading holds, each counted each time it is reached (what is shared counts as often as it is met; a slice's spare places count too). A statement '..UptoSaid' is the law's where the arguments, and the package variables that the reading takes, are together of bulk at most 1048576: NARROWER than '..Said'. Prove '..Said' where nothing that the law and all that it calls make is longer than what came in: it says more and counts as full. Else prove '..UptoSaid'. A law counts once. -/
mutual
def uptoBulk {H : Type} : DataW H → Nat
  | .lit (.string bytes) => bytes.length + 1
  | .lit _ => 1
  | .nil => 1
  | .ptr d => uptoBulk d + 1
  | .slice elems spare => uptoBulkAll elems + uptoBulkAll spare + 1
  | .agg parts => uptoBulkAll parts + 1
  | .iface _ d => uptoBulk d + 1
  | .map entries => uptoBulkEntries entries + 1
  | .held _ => 1
def uptoBulkAll {H : Type} : List (DataW H) → Nat
  | [] => 0
  | d :: r => uptoBulk d + uptoBulkAll r
def uptoBulkEntries {H : Type} : List (Lit × DataW H) → Nat
  | [] => 0
  | x :: r => uptoBulkEntry x + uptoBulkEntries r
def uptoBulkEntry {H : Type} : Lit × DataW H → Nat
  | (.string bytes, d) => bytes.length + uptoBulk d + 1
  | (_, d) => uptoBulk d + 1
 end
def uptoSmall : (H : Type) → List (DataW H) → Bool := fun _ ds => decide (uptoBulkAll ds ≤ 1048576)
def OpenSpec.upto (s : _root_.Go.ChangeSpec) : _root_.Go.OpenSpec := { _root_.Go.OpenSpec.ofChange s with cond := some uptoSmall }

/-- 'laws.FnExactDegree', WHERE WHAT IT READS IS OF BULK AT MOST 1048576: true; the input reads as it did. -/
def fnExactDegreeUptoRow : OpenClaim := { program := "ytmelbilepfnmjap", sum := "e0fee62b2a9b196ae8a926da11945f76092f1e96af161a9ea9bf983b69b45d71", func := "loop.example/g00419/laws.FnExactDegree", spec := "fnExactDegree", plainKeys := false, apart := false, narrowed := true }
def FnExactDegreeUptoSaid : Prop := fnExactDegreeUptoRow.holds Try.pinned (OpenSpec.upto fnExactDegreeSpec)

/-- 'laws.FnExactTopologyOK', WHERE WHAT IT READS IS OF BULK AT MOST 1048576: true; the input reads as it did. -/
def fnExactTopologyOKUptoRow : OpenClaim := { program := "ytmelbilepfnmjap", sum := "e0fee62b2a9b196ae8a926da11945f76092f1e96af161a9ea9bf983b69b45d71", func := "loop.example/g00419/laws.FnExactTopologyOK", spec := "fnExactTopologyOK", unfollowed := true, recurses := true, plainKeys := false, apart := false, narrowed := true }
def FnExactTopologyOKUptoSaid : Prop := fnExactTopologyOKUptoRow.holds Try.pinned (OpenSpec.upto fnExactTopologyOKSpec)

/-- 'laws.FnExactHearTc', WHERE WHAT IT READS IS OF BULK AT MOST 1048576: true; the input reads as it did. -/
def fnExactHearTcUptoRow : OpenClaim := { program := "ytmelbilepfnmjap", sum := "e0fee62b2a9b196ae8a926da11945f76092f1e96af161a9ea9bf983b69b45d71", func := "loop.example/g00419/laws.FnExactHearTc", spec := "fnExactHearTc", unfollowed := true, recurses := true, plainKeys := false, apart := false, narrowed := true }
def FnExactHearTcUptoSaid : Prop := fnExactHearTcUptoRow.holds Try.pinned (OpenSpec.upto fnExactHearTcSpec)

/-- 'laws.FnExactTopologyExpire', WHERE WHAT IT READS IS OF BULK AT MOST 1048576: true; the input reads as it did. -/
def fnExactTopologyExpireUptoRow : OpenClaim := { program := "ytmelbilepfnmjap", sum := "e0fee62b2a9b196ae8a926da11945f76092f1e96af161a9ea9bf983b69b45d71", func := "loop.example/g00419/laws.FnExactTopologyExpire", spec := "fnExactTopologyExpire", unfollowed := true, recurses := true, plainKeys := false, apart := false, narrowed := true }
def FnExactTopologyExpireUptoSaid : Prop := fnExactTopologyExpireUptoRow.holds Try.pinned (OpenSpec.upto fnExactTopologyExpireSpec)

/-- 'laws.FnExactEdgesFrom', WHERE WHAT IT READS IS OF BULK AT MOST 1048576: true; the input reads as it did. -/
def fnExactEdgesFromUptoRow : OpenClaim := { program := "ytmelbilepfnmjap", sum := "e0fee62b2a9b196ae8a926da11945f76092f1e96af161a9ea9bf983b69b45d71", func := "loop.example/g00419/laws.FnExactEdgesFrom", spec := "fnExactEdgesFrom", unfollowed := true, recurses := true, plainKeys := false, apart := false, narrowed := true }
def FnExactEdgesFromUptoSaid : Prop := fnExactEdgesFromUptoRow.holds Try.pinned (OpenSpec.upto fnExactEdgesFromSpec)

/-- 'laws.FnExactSourceOf', WHERE WHAT IT READS IS OF BULK AT MOST 1048576: true; the input reads as it did. -/
def fnExactSourceOfUptoRow : OpenClaim := { program := "ytmelbilepfnmjap", sum := "e0fee62b2a9b196ae8a926da11945f76092f1e96af161a9ea9bf983b69b45d71", func := "loop.example/g00419/laws.FnExactSourceOf", spec := "fnExactSourceOf", unfollowed := true, recurses := true, plainKeys := false, apart := false, narrowed := true }
def FnExactSourceOfUptoSaid : Prop := fnExactSourceOfUptoRow.holds Try.pinned (OpenSpec.upto fnExactSourceOfSpec)

end Rows
end Go.Proofs.Ytmelbilepfnmjap
