/-
  Contract of the model's DecodeHello.
-/
import Derived.Test.YtpknahhdapmcoabDoorHelG
namespace Go.Proofs.YtpknahhdapmcoabDoor
open Go.ChangeShapes Go.WideShapes Go.ChangeAt Go.RowKit
set_option linter.unusedVariables false
set_option linter.unusedSimpArgs false
attribute [local go_sem ↓] Go.wp_at_zero Go.wp_at_succ
namespace Hl
open W1 Nb De
theorem dec_big {bs : List UInt8} (h : 65536 < bs.length) : decG bs = false := by
  cases h' : decG bs
  · rfl
  · have h1 : lenB bs = true := by unfold decG at h'; rw [Bool.and_eq_true] at h'; exact h'.1
    have := len_eq h1
    have := n_le bs
    omega
end Hl
end Go.Proofs.YtpknahhdapmcoabDoor
