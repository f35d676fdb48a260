/-
  The model's contracts: how many relays there may be; Covers.
-/
import Derived.Test.YtmelbilepfnmjapMprG
namespace Go.Proofs.Ytmelbilepfnmjap
open Go.ChangeShapes Go.WideShapes Go.ChangeAt Go.RowKit
set_option linter.unusedVariables false
set_option linter.unusedSimpArgs false
attribute [local go_sem ↓] Go.wp_at_zero Go.wp_at_succ
namespace Mr
open W1 Tu St Tw
/-- The code of a call with relays. -/
def codeM (ms : List R) (ls : List Lk.R) (rs : List Int) : Int := if 4096 < rs.length then 2 else if codeTL ms ls = 0 then (if 8 < rs.length then 6 else 0) else codeTL ms ls
theorem codeM_zero {ms : List R} {ls : List Lk.R} {rs : List Int} (h : codeM ms ls rs = 0) : codeTL ms ls = 0 ∧ rs.length ≤ 8 := by
  unfold codeM at h
  split at h
  · cases h
  · split at h
    · split at h
      · cases h
      · exact ⟨by assumption, by omega⟩
    · exact absurd h (by assumption)
def covA (ms : List R) (ls : List Lk.R) (me now : Int) (rs : List Int) : Bool := decide (codeM ms ls rs = 0) && ((leftV (viaF ms ls now) (strF ms ls me now) rs).length == 0)
end Mr
end Go.Proofs.Ytmelbilepfnmjap
