/-
  What advertisements are, over lists of edges; contracts of what one edge is asked for.
-/
import Derived.Test.YtlcppgnnlgigmaaDoorRecEdge
import Derived.Test.YtlcppgnnlgigmaaDoorNums
import Derived.Test.YtlcppgnnlgigmaaDoorTim
import Derived.Test.YtlcppgnnlgigmaaDoorRise
import Derived.Test.YtlcppgnnlgigmaaDoorRg
namespace Go.Proofs.YtlcppgnnlgigmaaDoor
open Go.ChangeShapes Go.WideShapes Go.ChangeAt Go.RowKit
set_option linter.unusedVariables false
set_option linter.unusedSimpArgs false
attribute [local go_sem ↓] Go.wp_at_zero Go.wp_at_succ
namespace Av
open W1 Ed
/-- A metric that has a code of its own. -/
def exM (n : Int) : Bool := Mtr.met (Mtr.mcode n) == n
def toldB (n : Int) : Bool := inB n 1 16744192 && exM n
def okN (m : R) : Bool := inB m.ad 1 8 && toldB m.mt
abbrev allN (ms : List R) (j : Nat) : Bool := Ri.all R.zero okN R.ad ms j
/-- Whether an advertisement is right. -/
def tcB (ansn valid : Int) (ms : List R) : Bool := inB ansn 0 65535 && (Tim.valB valid && allN ms ms.length)
theorem ok_ad {m : R} (h : okN m = true) : 1 ≤ m.ad ∧ m.ad ≤ 8 := by
  unfold okN inB at h; simp at h; exact h.1
theorem ok_mt {m : R} (h : okN m = true) : 1 ≤ m.mt ∧ m.mt ≤ 16744192 := by
  unfold okN toldB inB at h; simp at h; exact h.2.1
theorem ok_ex {m : R} (h : okN m = true) : Mtr.met (Mtr.mcode m.mt) = m.mt := by
  unfold okN toldB exM at h; simp only [Bool.and_eq_true] at h; simpa using h.2.2
theorem all_len {ms : List R} (h : allN ms ms.length = true) : ms.length ≤ 8 := by
  have := Ri.all_long (lo := 1) (hi := 8) (fun m hm => ok_ad hm) h; omega
theorem tc_len {ansn valid : Int} {ms : List R} (h : tcB ansn valid ms = true) : ms.length ≤ 8 := by
  unfold tcB at h; simp at h; exact all_len h.2.2
theorem tc_all {ansn valid : Int} {ms : List R} (h : tcB ansn valid ms = true) : allN ms ms.length = true := by
  unfold tcB at h; simp at h; exact h.2.2
theorem tc_ansn {ansn valid : Int} {ms : List R} (h : tcB ansn valid ms = true) : 0 ≤ ansn ∧ ansn ≤ 65535 := by
  unfold tcB inB at h; simp at h; exact h.1
theorem tc_valid {ansn valid : Int} {ms : List R} (h : tcB ansn valid ms = true) : 1 ≤ valid ∧ valid ≤ 10000 := by
  unfold tcB Tim.valB inB at h; simp at h; exact h.2.1.1
theorem tc_exact {ansn valid : Int} {ms : List R} (h : tcB ansn valid ms = true) : Tim.tim (Tim.tcode valid) = valid := by
  unfold tcB Tim.valB Tim.exTB at h; simp at h; exact h.2.1.2
end Av
end Go.Proofs.YtlcppgnnlgigmaaDoor
