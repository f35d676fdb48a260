/-
  How many relays for floods there may be.
-/
import Derived.Test.YtpknahhdapmcoaoGrpJ
namespace Go.Proofs.Ytpknahhdapmcoao
set_option linter.unusedVariables false
set_option linter.unusedSimpArgs false
namespace Gp
open W1 Tu St Tw Mr
theorem grd_len (via : Int → List Int) (S : List Int) (ls : List Lk.R) : ∀ (f : Nat) (out : List Int), (grdV via S ls f out).length ≤ out.length + f
  | 0, out => Nat.le_refl _
  | f + 1, out => by
    unfold grdV
    cases hp : pickV via S (leftV via S out) ls ls.length with
    | none => exact Nat.le_add_right _ _
    | some b =>
      have := grd_len via S ls f (out ++ [(ls.getD b Lk.R.zero).ad])
      rw [List.length_append, List.length_singleton] at this
      simp only; omega
theorem fld_len (ms : List R) (ls : List Lk.R) (me now : Int) : (fldA ms ls me now).length ≤ 1048576 := by
  unfold fldA
  split
  · rename_i h
    have h8 := Ln.links_len (codeTL_ok h).2
    unfold fldV
    generalize hG : grdV (viaF ms ls now) (strF ms ls me now) ls 8 (onesV (viaF ms ls now) (strF ms ls me now) (alwV ls now ls.length)) = G
    have h1 := sort_len G G.length (Nat.le_refl _)
    rw [List.take_length] at h1
    rw [h1, ← hG]
    have h2 := grd_len (viaF ms ls now) (strF ms ls me now) ls 8 (onesV (viaF ms ls now) (strF ms ls me now) (alwV ls now ls.length))
    have h3 := ones_len (viaF ms ls now) (strF ms ls me now) (alwV ls now ls.length) (strF ms ls me now).length (Nat.le_refl _)
    rw [List.take_length] at h3
    have h4 := alw_len ls now ls.length
    have h5 := str_len ms ls me now
    omega
  · simp
end Gp
end Go.Proofs.Ytpknahhdapmcoao
