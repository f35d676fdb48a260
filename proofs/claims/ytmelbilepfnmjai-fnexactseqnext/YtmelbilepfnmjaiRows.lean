/-
  No cell of these rows narrows 'for every input' (looked for: loops, veiled, ifaces, maps, wideKeys, modest, calm, conditions, laid).
  DERIVED. THE GIVEN ROWS OF THIS SEAT. 5 by the template 'for every input the law returns true; each argument reads behind the call as it read before'; 0 by the template 'total and deterministic' (their statements: YtmelbilepfnmjaiTotals.lean).
  GIVEN WITH THE SEED: the statements are not yours to turn. If you find one false, say at which input.
  Laid BY PROGRAM, IN A SANDBOX (cutbox-rows.mjs): the forced cells as the released guide's own fill.sh prints them over the translation e875f0b4dd1583e1… (all of the seat's roots in one cut). By AI agents, Wed Nov 11 2026. No macro, syntax, notation, axiom, sorry.
-/
import Derived.Test.YtmelbilepfnmjaiChecked
import GoSem.Claim
import GoSem.ClaimJoined
import GoSem.ClaimMapViews
import Derived.JoinedTies
import Derived.KernelRfl
namespace Go.Proofs.Ytmelbilepfnmjai
/- THE CELL 'sum', in the pinned program and in every row, IS THE sha256 OF THE DUMP (.gsa) THAT YtmelbilepfnmjaiProg.lean LOADS. Nothing in Lean hashes anything: it is a label: what it is worth is what the hold of that sum in a sandbox is worth. -/
noncomputable def Try.pinned : Pinned := { name := "ytmelbilepfnmjai", sum := "e875f0b4dd1583e14c1e0730e3bd640bdb3bb54916146b1c2dca9727a17fcffe", checked := Try.checked }
namespace Rows
def none {H : Type} : Left H := { results := [], args := [] }

/-- 'laws.FnExactMetricOf': WHATEVER THE INPUT: true; the input reads as it did. -/
def fnExactMetricOfSpec : ChangeSpec := { name := "fnExactMetricOf", fn := fun _ => fun
  | [d] => { results := [.lit (.bool true)], args := [d] }
  | _ => none }
def fnExactMetricOfRow : OpenClaim := { program := "ytmelbilepfnmjai", sum := "e875f0b4dd1583e14c1e0730e3bd640bdb3bb54916146b1c2dca9727a17fcffe", func := "loop.example/g00419/laws.FnExactMetricOf", spec := "fnExactMetricOf", apart := false }
def FnExactMetricOfSaid : Prop := fnExactMetricOfRow.holds Try.pinned (OpenSpec.ofChange fnExactMetricOfSpec)

/-- ITS FALSE NEIGHBOUR: 'it returns false'. Refute it at one input. -/
def fnExactMetricOfWrong : ChangeSpec := { name := "fnExactMetricOf", fn := fun _ => fun
  | [d] => { results := [.lit (.bool false)], args := [d] }
  | _ => none }
def FnExactMetricOfWrongFalsely : Prop := fnExactMetricOfRow.holds Try.pinned (OpenSpec.ofChange fnExactMetricOfWrong)

/-- 'laws.FnExactMetricCode': WHATEVER THE INPUT: true; the input reads as it did. -/
def fnExactMetricCodeSpec : ChangeSpec := { name := "fnExactMetricCode", fn := fun _ => fun
  | [d] => { results := [.lit (.bool true)], args := [d] }
  | _ => none }
def fnExactMetricCodeRow : OpenClaim := { program := "ytmelbilepfnmjai", sum := "e875f0b4dd1583e14c1e0730e3bd640bdb3bb54916146b1c2dca9727a17fcffe", func := "loop.example/g00419/laws.FnExactMetricCode", spec := "fnExactMetricCode", apart := false }
def FnExactMetricCodeSaid : Prop := fnExactMetricCodeRow.holds Try.pinned (OpenSpec.ofChange fnExactMetricCodeSpec)

/-- ITS FALSE NEIGHBOUR: 'it returns false'. Refute it at one input. -/
def fnExactMetricCodeWrong : ChangeSpec := { name := "fnExactMetricCode", fn := fun _ => fun
  | [d] => { results := [.lit (.bool false)], args := [d] }
  | _ => none }
def FnExactMetricCodeWrongFalsely : Prop := fnExactMetricCodeRow.holds Try.pinned (OpenSpec.ofChange fnExactMetricCodeWrong)

/-- 'laws.FnExactSeqNewer': WHATEVER THE INPUT: true; the input reads as it did. -/
def fnExactSeqNewerSpec : ChangeSpec := { name := "fnExactSeqNewer", fn := fun _ => fun
  | [d1, d2] => { results := [.lit (.bool true)], args := [d1, d2] }
  | _ => none }
def fnExactSeqNewerRow : OpenClaim := { program := "ytmelbilepfnmjai", sum := "e875f0b4dd1583e14c1e0730e3bd640bdb3bb54916146b1c2dca9727a17fcffe", func := "loop.example/g00419/laws.FnExactSeqNewer", spec := "fnExactSeqNewer", apart := false }
def FnExactSeqNewerSaid : Prop := fnExactSeqNewerRow.holds Try.pinned (OpenSpec.ofChange fnExactSeqNewerSpec)

/-- ITS FALSE NEIGHBOUR: 'it returns false'. Refute it at one input. -/
def fnExactSeqNewerWrong : ChangeSpec := { name := "fnExactSeqNewer", fn := fun _ => fun
  | [d1, d2] => { results := [.lit (.bool false)], args := [d1, d2] }
  | _ => none }
def FnExactSeqNewerWrongFalsely : Prop := fnExactSeqNewerRow.holds Try.pinned (OpenSpec.ofChange fnExactSeqNewerWrong)

/-- 'laws.FnExactSeqNext': WHATEVER THE INPUT: true; the input reads as it did. -/
def fnExactSeqNextSpec : ChangeSpec := { name := "fnExactSeqNext", fn := fun _ => fun
  | [d] => { results := [.lit (.bool true)], args := [d] }
  | _ => none }
def fnExactSeqNextRow : OpenClaim := { program := "ytmelbilepfnmjai", sum := "e875f0b4dd1583e14c1e0730e3bd640bdb3bb54916146b1c2dca9727a17fcffe", func := "loop.example/g00419/laws.FnExactSeqNext", spec := "fnExactSeqNext", apart := false }
def FnExactSeqNextSaid : Prop := fnExactSeqNextRow.holds Try.pinned (OpenSpec.ofChange fnExactSeqNextSpec)

/-- ITS FALSE NEIGHBOUR: 'it returns false'. Refute it at one input. -/
def fnExactSeqNextWrong : ChangeSpec := { name := "fnExactSeqNext", fn := fun _ => fun
  | [d] => { results := [.lit (.bool false)], args := [d] }
  | _ => none }
def FnExactSeqNextWrongFalsely : Prop := fnExactSeqNextRow.holds Try.pinned (OpenSpec.ofChange fnExactSeqNextWrong)

/-- 'laws.FnExactSetOK': WHATEVER THE INPUT: true; the input reads as it did. -/
def fnExactSetOKSpec : ChangeSpec := { name := "fnExactSetOK", fn := fun _ => fun
  | [d] => { results := [.lit (.bool true)], args := [d] }
  | _ => none }
def fnExactSetOKRow : OpenClaim := { program := "ytmelbilepfnmjai", sum := "e875f0b4dd1583e14c1e0730e3bd640bdb3bb54916146b1c2dca9727a17fcffe", func := "loop.example/g00419/laws.FnExactSetOK", spec := "fnExactSetOK", apart := false }
def FnExactSetOKSaid : Prop := fnExactSetOKRow.holds Try.pinned (OpenSpec.ofChange fnExactSetOKSpec)

/-- ITS FALSE NEIGHBOUR: 'it returns false'. Refute it at one input. -/
def fnExactSetOKWrong : ChangeSpec := { name := "fnExactSetOK", fn := fun _ => fun
  | [d] => { results := [.lit (.bool false)], args := [d] }
  | _ => none }
def FnExactSetOKWrongFalsely : Prop := fnExactSetOKRow.holds Try.pinned (OpenSpec.ofChange fnExactSetOKWrong)

/- THE SECOND FORM. 'bulk': how many values and letters a reading holds, each counted each time it is reached (what is shared counts as often as it is met; a slice's spare places count too). A statement '..UptoSaid' is the law's where the arguments, and the package variables that the reading takes, are together of bulk at most 1048576: NARROWER than '..Said'. Prove '..Said' where nothing that the law and all that it calls make is longer than what came in: it says more and counts as full. Else prove '..UptoSaid'. A law counts once. -/
mutual
def uptoBulk {H : Type} : DataW H → Nat
  | .lit (.string bytes) => bytes.length + 1
  | .lit _ => 1
  | .nil => 1
  | .ptr d => uptoBulk d + 1
  | .slice elems spare => uptoBulkAll elems + uptoBulkAll spare + 1
  | .agg parts => uptoBulkAll parts + 1
  | .iface _ d => uptoBulk d + 1
  | .map entries => uptoBulkEntries entries + 1
  | .held _ => 1
def uptoBulkAll {H : Type} : List (DataW H) → Nat
  | [] => 0
  | d :: r => uptoBulk d + uptoBulkAll r
def uptoBulkEntries {H : Type} : List (Lit × DataW H) → Nat
  | [] => 0
  | x :: r => uptoBulkEntry x + uptoBulkEntries r
def uptoBulkEntry {H : Type} : Lit × DataW H → Nat
  | (.string bytes, d) => bytes.length + uptoBulk d + 1
  | (_, d) => uptoBulk d + 1
 end
def uptoSmall : (H : Type) → List (DataW H) → Bool := fun _ ds => decide (uptoBulkAll ds ≤ 1048576)
def OpenSpec.upto (s : _root_.Go.ChangeSpec) : _root_.Go.OpenSpec := { _root_.Go.OpenSpec.ofChange s with cond := some uptoSmall }

/-- 'laws.FnExactMetricOf', WHERE WHAT IT READS IS OF BULK AT MOST 1048576: true; the input reads as it did. -/
def fnExactMetricOfUptoRow : OpenClaim := { program := "ytmelbilepfnmjai", sum := "e875f0b4dd1583e14c1e0730e3bd640bdb3bb54916146b1c2dca9727a17fcffe", func := "loop.example/g00419/laws.FnExactMetricOf", spec := "fnExactMetricOf", apart := false, narrowed := true }
def FnExactMetricOfUptoSaid : Prop := fnExactMetricOfUptoRow.holds Try.pinned (OpenSpec.upto fnExactMetricOfSpec)

/-- 'laws.FnExactMetricCode', WHERE WHAT IT READS IS OF BULK AT MOST 1048576: true; the input reads as it did. -/
def fnExactMetricCodeUptoRow : OpenClaim := { program := "ytmelbilepfnmjai", sum := "e875f0b4dd1583e14c1e0730e3bd640bdb3bb54916146b1c2dca9727a17fcffe", func := "loop.example/g00419/laws.FnExactMetricCode", spec := "fnExactMetricCode", apart := false, narrowed := true }
def FnExactMetricCodeUptoSaid : Prop := fnExactMetricCodeUptoRow.holds Try.pinned (OpenSpec.upto fnExactMetricCodeSpec)

/-- 'laws.FnExactSeqNewer', WHERE WHAT IT READS IS OF BULK AT MOST 1048576: true; the input reads as it did. -/
def fnExactSeqNewerUptoRow : OpenClaim := { program := "ytmelbilepfnmjai", sum := "e875f0b4dd1583e14c1e0730e3bd640bdb3bb54916146b1c2dca9727a17fcffe", func := "loop.example/g00419/laws.FnExactSeqNewer", spec := "fnExactSeqNewer", apart := false, narrowed := true }
def FnExactSeqNewerUptoSaid : Prop := fnExactSeqNewerUptoRow.holds Try.pinned (OpenSpec.upto fnExactSeqNewerSpec)

/-- 'laws.FnExactSeqNext', WHERE WHAT IT READS IS OF BULK AT MOST 1048576: true; the input reads as it did. -/
def fnExactSeqNextUptoRow : OpenClaim := { program := "ytmelbilepfnmjai", sum := "e875f0b4dd1583e14c1e0730e3bd640bdb3bb54916146b1c2dca9727a17fcffe", func := "loop.example/g00419/laws.FnExactSeqNext", spec := "fnExactSeqNext", apart := false, narrowed := true }
def FnExactSeqNextUptoSaid : Prop := fnExactSeqNextUptoRow.holds Try.pinned (OpenSpec.upto fnExactSeqNextSpec)

/-- 'laws.FnExactSetOK', WHERE WHAT IT READS IS OF BULK AT MOST 1048576: true; the input reads as it did. -/
def fnExactSetOKUptoRow : OpenClaim := { program := "ytmelbilepfnmjai", sum := "e875f0b4dd1583e14c1e0730e3bd640bdb3bb54916146b1c2dca9727a17fcffe", func := "loop.example/g00419/laws.FnExactSetOK", spec := "fnExactSetOK", apart := false, narrowed := true }
def FnExactSetOKUptoSaid : Prop := fnExactSetOKUptoRow.holds Try.pinned (OpenSpec.upto fnExactSetOKSpec)

end Rows
end Go.Proofs.Ytmelbilepfnmjai
