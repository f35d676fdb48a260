/-
  Contracts: where a key stands (the model's search in a row, the program's by halves), the code of every call's faults.
-/
import Derived.Test.YtmelbilepfnmjakSetC
namespace Go.Proofs.Ytmelbilepfnmjak
open Go.ChangeShapes Go.WideShapes Go.ChangeAt Go.RowKit
set_option linter.unusedVariables false
set_option linter.unusedSimpArgs false
attribute [local go_sem ↓] Go.wp_at_zero Go.wp_at_succ
namespace St
open W1 Tu
theorem setCode (a : Option Addr) (ms : List R) (cap : Nat) (w : World) (hm : ms.length ≤ 1048576) (hr : RM w a ms) :
    Calls Try.prog 38 #[.slice a ms.length cap] w fun e w' => e = .returned (.int .i64 (codeS ms)) ∧ Below w.heap.size w w' := by
  by_cases hbig : (4096 : Int) < ms.length
  · rw [code_long (by omega)]
    go_enter Try.func38, Try.ntmps38
    go_wp2
    go_ret
    exact ⟨rfl, Below.refl _ _⟩
  have HR := hide hr
  clear hr
  cases hs : setB ms
  · rw [code_bad (by omega) hs]
    have HS := hide hs
    clear hs
    go_enter Try.func38, Try.ntmps38
    go_wp2_with fail
    refine (implOK a ms cap w hm (unhide HR)).mono ?_
    rintro e w1 ⟨rfl, b1⟩
    rw [unhide HS]
    go_wp2_with fail
    go_ret
    exact ⟨rfl, b1⟩
  · rw [code_zero hs]
    have HS := hide hs
    clear hs
    go_enter Try.func38, Try.ntmps38
    go_wp2_with fail
    refine (implOK a ms cap w hm (unhide HR)).mono ?_
    rintro e w1 ⟨rfl, b1⟩
    rw [unhide HS]
    go_wp2_with fail
    go_ret
    exact ⟨rfl, b1⟩
end St
end Go.Proofs.Ytmelbilepfnmjak
