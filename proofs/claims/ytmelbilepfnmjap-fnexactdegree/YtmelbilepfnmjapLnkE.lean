/-
  The model's contract over links: LinksExpire. (written by mklnk.py)
-/
import Derived.Test.YtmelbilepfnmjapLnkC
namespace Go.Proofs.Ytmelbilepfnmjap
open Go.ChangeShapes Go.WideShapes Go.ChangeAt Go.RowKit
set_option linter.unusedVariables false
set_option linter.unusedSimpArgs false
attribute [local go_sem ↓] Go.wp_at_zero Go.wp_at_succ
namespace Ln
open W1 Lk
def keepL (now : Int) (m : R) : Bool := decide (now < m.hd + 6)
def expireA (ms : List R) (now : Int) : List R := if codeL ms = 0 then ms.filter (keepL now) else []
theorem expire_len (ms : List R) (now : Int) : (expireA ms now).length ≤ ms.length := by
  unfold expireA; split
  · exact List.length_filter_le _ _
  · simp
theorem take_filter (p : R → Bool) (ms : List R) (j : Nat) (h : j < ms.length) : (ms.take (j + 1)).filter p = (ms.take j).filter p ++ (if p (ms.getD j R.zero) = true then [ms.getD j R.zero] else []) := by
  rw [List.take_add_one, List.getElem?_eq_getElem h, List.filter_append, List.getD_eq_getElem?_getD, List.getElem?_eq_getElem h]
  cases hp : p ms[j] <;> simp [hp]
theorem filter_le (p : R → Bool) (ms : List R) (j : Nat) : ((ms.take j).filter p).length ≤ j := by
  have := List.length_filter_le p (ms.take j)
  have := List.length_take_le j ms
  omega
end Ln
end Go.Proofs.Ytmelbilepfnmjap
