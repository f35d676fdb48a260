/-
  The model's contract over links: the addresses of those that are symmetric. (Written ahead of stage 6, at a trial seat.)
-/
import Derived.Test.YtmelbilepfnmjabLnkC
import Derived.Test.YtmelbilepfnmjabInts
namespace Go.Proofs.Ytmelbilepfnmjab
open Go.ChangeShapes Go.WideShapes Go.ChangeAt Go.RowKit
set_option linter.unusedVariables false
set_option linter.unusedSimpArgs false
attribute [local go_sem ↓] Go.wp_at_zero Go.wp_at_succ
namespace Ln
open W1 Lk
def isSym (now : Int) (m : R) : Bool := statusV m now == 2
def symN (now : Int) (ms : List R) (j : Nat) : List Int := ((ms.take j).filter (isSym now)).map (·.ad)
def symA (ms : List R) (now : Int) : List Int := if codeL ms = 0 then symN now ms ms.length else []
theorem symN_yes {now : Int} {ms : List R} {j : Nat} (h : j < ms.length) (hs : isSym now (ms.getD j R.zero) = true) : symN now ms (j + 1) = symN now ms j ++ [(ms.getD j R.zero).ad] := by
  unfold symN
  rw [List.getD_eq_getElem?_getD, List.getElem?_eq_getElem h] at hs ⊢
  rw [List.take_add_one, List.getElem?_eq_getElem h, List.filter_append, List.map_append]
  simp only [Option.toList_some, Option.getD_some] at hs ⊢
  rw [List.filter_cons_of_pos hs]; rfl
theorem symN_no {now : Int} {ms : List R} {j : Nat} (h : j < ms.length) (hs : isSym now (ms.getD j R.zero) = false) : symN now ms (j + 1) = symN now ms j := by
  unfold symN
  rw [List.getD_eq_getElem?_getD, List.getElem?_eq_getElem h] at hs
  rw [List.take_add_one, List.getElem?_eq_getElem h, List.filter_append, List.map_append]
  simp only [Option.toList_some, Option.getD_some] at hs ⊢
  rw [List.filter_cons_of_neg (by simp [hs])]; simp
theorem symN_len (now : Int) (ms : List R) (j : Nat) : (symN now ms j).length ≤ j := by
  unfold symN; rw [List.length_map]
  have := List.length_filter_le (isSym now) (ms.take j)
  rw [List.length_take] at this; omega
theorem sym_len (ms : List R) (now : Int) : (symA ms now).length ≤ ms.length := by
  unfold symA; split
  · exact symN_len _ _ _
  · exact Nat.zero_le _
theorem own_belowI {w w' : World} {base : Nat} {v : Value} {n : Nat} {xs : List Value} (h : w.ownsRow base 3 1 v n xs) (hb : Below w.heap.size w w') : w'.ownsRow base 3 1 v n xs := by
  refine h.kept (row := none) ⟨hb.os, hb.tape, hb.output, hb.size, fun k hk _ => hb.block k hk⟩ ?_
  cases v.ownBlock
  · exact .inl rfl
  · exact .inr (by simp)
end Ln
end Go.Proofs.Ytmelbilepfnmjab
