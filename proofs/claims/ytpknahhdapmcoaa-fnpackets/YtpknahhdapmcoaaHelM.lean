/-
  What hellos are, over lists of neighbors; contracts of what one neighbor is asked for.
-/
import Derived.Test.YtpknahhdapmcoaaRecNeighbor
import Derived.Test.YtpknahhdapmcoaaNums
import Derived.Test.YtpknahhdapmcoaaTim
import Derived.Test.YtpknahhdapmcoaaRise
import Derived.Test.YtpknahhdapmcoaaRg
namespace Go.Proofs.Ytpknahhdapmcoaa
open Go.ChangeShapes Go.WideShapes Go.ChangeAt Go.RowKit
set_option linter.unusedVariables false
set_option linter.unusedSimpArgs false
attribute [local go_sem ↓] Go.wp_at_zero Go.wp_at_succ
namespace Hl
open W1 Nb
/-- A metric that has a code of its own. -/
def exM (n : Int) : Bool := Mtr.met (Mtr.mcode n) == n
def toldB (n : Int) : Bool := inB n 1 16744192 && exM n
def nbB (m : R) : Bool := inB m.ad 1 8 && (inB m.st 0 2 && (inB m.mt 1 16744192 && (!m.mp || (m.st == 2))))
def okN (m : R) : Bool := nbB m && exM m.mt
abbrev allN (ms : List R) (j : Nat) : Bool := Ri.all R.zero okN R.ad ms j
/-- Whether a hello is right. -/
def helB (will valid : Int) (ms : List R) : Bool := inB will 0 7 && (Tim.valB valid && allN ms ms.length)
theorem ok_ad {m : R} (h : okN m = true) : 1 ≤ m.ad ∧ m.ad ≤ 8 := by
  unfold okN nbB inB at h; simp at h; exact ⟨h.1.1.1, h.1.1.2⟩
theorem ok_st {m : R} (h : okN m = true) : 0 ≤ m.st ∧ m.st ≤ 2 := by
  unfold okN nbB inB at h; simp at h; exact ⟨h.1.2.1.1, h.1.2.1.2⟩
theorem ok_mt {m : R} (h : okN m = true) : 1 ≤ m.mt ∧ m.mt ≤ 16744192 := by
  unfold okN nbB inB at h; simp at h; exact ⟨h.1.2.2.1.1, h.1.2.2.1.2⟩
theorem ok_ex {m : R} (h : okN m = true) : Mtr.met (Mtr.mcode m.mt) = m.mt := by
  unfold okN exM at h; rw [Bool.and_eq_true] at h; simpa using h.2
theorem ok_mp {m : R} (h : okN m = true) : m.mp = true → m.st = 2 := by
  unfold okN nbB at h; simp at h; intro hp; rcases h.1.2.2.2 with e | e
  · rw [hp] at e; cases e
  · exact e
theorem all_len {ms : List R} (h : allN ms ms.length = true) : ms.length ≤ 8 := by
  have := Ri.all_long (lo := 1) (hi := 8) (fun m hm => ok_ad hm) h; omega
theorem hel_len {will valid : Int} {ms : List R} (h : helB will valid ms = true) : ms.length ≤ 8 := by
  unfold helB at h; simp at h; exact all_len h.2.2
theorem hel_all {will valid : Int} {ms : List R} (h : helB will valid ms = true) : allN ms ms.length = true := by
  unfold helB at h; simp at h; exact h.2.2
theorem hel_will {will valid : Int} {ms : List R} (h : helB will valid ms = true) : 0 ≤ will ∧ will ≤ 7 := by
  unfold helB inB at h; simp at h; exact h.1
theorem hel_valid {will valid : Int} {ms : List R} (h : helB will valid ms = true) : 1 ≤ valid ∧ valid ≤ 10000 := by
  unfold helB Tim.valB inB at h; simp at h; exact h.2.1.1
theorem hel_exact {will valid : Int} {ms : List R} (h : helB will valid ms = true) : Tim.tim (Tim.tcode valid) = valid := by
  unfold helB Tim.valB Tim.exTB at h; simp at h; exact h.2.1.2
end Hl
end Go.Proofs.Ytpknahhdapmcoaa
