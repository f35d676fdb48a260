/-
  Contracts: where a key stands (the model's search in a row, the program's by halves), the code of every call's faults.
-/
import Derived.Test.YtilphgfjgeoiaaaSetC
namespace Go.Proofs.Ytilphgfjgeoiaaa
open Go.ChangeShapes Go.WideShapes Go.ChangeAt Go.RowKit
set_option linter.unusedVariables false
set_option linter.unusedSimpArgs false
attribute [local go_sem ↓] Go.wp_at_zero Go.wp_at_succ
namespace St
open W1 Tu
set_option maxHeartbeats 1000000 in
theorem l03Place (a : Option Addr) (ms : List R) (cap : Nat) (k : Int) (w : World) (hm : ms.length ≤ 4096) (hr : RM w a ms) :
    Calls Try.prog 114 #[.slice a ms.length cap, .int .i64 k] w fun e w' => e = .returned (.int .i64 (place ms k)) ∧ w' = w := by
  have HR := hide hr
  clear hr
  generalize hN : ms.length = n at *
  have HN := hide hN
  clear hN
  go_enter Try.func114, Try.ntmps114
  go_wp2
  go_loopw [5] (fun i wr => wr = w ∧ ∃ j : Nat, j ≤ n ∧ i = .int .i64 j ∧ Hid (∀ i, i < j → atKey k (ms.getD i R.zero) = false)) (fun i _ => n - (intOf i).toNat)
  case atStart => exact ⟨rfl, 0, by omega, rfl, hide (fun i hi => by omega)⟩
  case round =>
    obtain ⟨rfl, j, hj, rfl, hrl⟩ := hrel
    by_cases hlt : (j : Int) < (n : Int)
    · have k0 : (0 : Int) ≤ (j : Int) := by omega
      have hlen : j < ms.length := by rw [unhide HN]; omega
      obtain ⟨g, off, rfl⟩ := (unhide HR).form (by omega)
      obtain ⟨c0, _, _⟩ := (unhide HR).at hlen
      by_cases hk : (ms.getD j R.zero).key < k
      · have HST : Hid (∀ i, i < j + 1 → atKey k (ms.getD i R.zero) = false) := hide (fun i hi => by
          by_cases e : i = j
          · subst e; unfold atKey; exact decide_eq_false (by omega)
          · exact unhide hrl i (by omega))
        generalize ms.getD j R.zero = m at *
        go_wp2_with fail
        go_roundw
        case rel => exact ⟨by first | trivial | rfl, j + 1, by omega, by go_num, HST⟩
        case measure => simp [intOf]; omega
      · have HST : Hid (place ms k = j) := hide (placeP_of _ ms j (by omega) (unhide hrl) (fun _ => by unfold atKey; exact decide_eq_true (by omega)))
        generalize ms.getD j R.zero = m at *
        go_wp2_with fail
        go_ret
        exact ⟨ret_int (by rw [unhide HST]), rfl⟩
    · obtain rfl : j = n := by omega
      have HST : Hid (place ms k = j) := hide (placeP_of _ ms j (by rw [unhide HN]; exact Nat.le_refl _) (unhide hrl) (fun h => by rw [unhide HN] at h; omega))
      go_wp2_with fail
      go_ret
      exact ⟨ret_int (by rw [unhide HST]), rfl⟩
end St
end Go.Proofs.Ytilphgfjgeoiaaa
