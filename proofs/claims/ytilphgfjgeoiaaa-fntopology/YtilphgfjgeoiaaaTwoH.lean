/-
  The program's small contracts of two-hop neighbors: a key taken apart and put together, whether a hop is one.
-/
import Derived.Test.YtilphgfjgeoiaaaMpt
import Derived.Test.YtilphgfjgeoiaaaSetC
namespace Go.Proofs.Ytilphgfjgeoiaaa
open Go.ChangeShapes Go.WideShapes Go.ChangeAt Go.RowKit
set_option linter.unusedVariables false
set_option linter.unusedSimpArgs false
attribute [local go_sem ↓] Go.wp_at_zero Go.wp_at_succ
namespace Tw
open W1 Tu Mt
set_option maxHeartbeats 1000000 in
theorem hopOfKey (k : Int) (w : World) (h0 : 0 ≤ k) (h1 : k ≤ 1000000) : Calls Try.prog 91 #[.int .i64 k] w fun e w' => e = .returned (.agg #[.int .i64 (k.tdiv 100), .int .i64 (k.tmod 100)]) ∧ Below w.heap.size w w' := by
  have HB : Hid (Below w.heap.size w w) := hide (Below.refl _ _)
  have e1 : k.tdiv 100 = k / 100 := Int.tdiv_eq_ediv_of_nonneg h0
  have e2 : k.tmod 100 = k % 100 := Int.tmod_eq_emod_of_nonneg h0
  rw [e1, e2]
  go_enter Try.func91, Try.ntmps91
  go_wp2
  refine bodyPost_ret (v := .agg #[.int .i64 (k / 100), .int .i64 (k % 100)]) (by simp [results, Try.results91, go_sem]) rfl ⟨rfl, ?_⟩
  have hB := unhide HB
  (repeat (first | (with_reducible exact hB) | (with_reducible refine Below.drew ?_) | (with_reducible refine Below.setCell ?_ ?_ _; rotate_left; (first | exact Nat.le_refl _ | (simp; done) | (dsimp only; omega))) | (with_reducible refine Below.alloc ?_ ?_ _; rotate_left; (first | exact Nat.le_refl _ | omega | (simp [World.setCell]; omega)))))
set_option maxHeartbeats 1000000 in
theorem keyOfHop (v a : Int) (w : World) (h0 : 0 ≤ v) (h1 : v ≤ 1000000) (h2 : 0 ≤ a) (h3 : a ≤ 1000000) : Calls Try.prog 79 #[.agg #[.int .i64 v, .int .i64 a]] w fun e w' => e = .returned (.int .i64 (100 * v + a)) ∧ Below w.heap.size w w' := by
  have HB : Hid (Below w.heap.size w (w.alloc (.cells #[.int .i64 v, .int .i64 a] 121))) := hide ((Below.refl _ _).alloc (Nat.le_refl _) _)
  go_enter Try.func79, Try.ntmps79
  go_wp2
  go_ret
  exact ⟨rfl, unhide HB⟩
/-- Whether a hop is one. -/
def hopB (v a : Int) : Bool := inB v 1 8 && (inB a 1 8 && !(v == a))
set_option maxHeartbeats 1000000 in
theorem isHop (v a : Int) (w : World) : Calls Try.prog 90 #[.agg #[.int .i64 v, .int .i64 a]] w fun e w' => e = .returned (.bool (hopB v a)) ∧ Below w.heap.size w w' := by
  have HB : Hid (Below w.heap.size w (w.alloc (.cells #[.int .i64 v, .int .i64 a] 121))) := hide ((Below.refl _ _).alloc (Nat.le_refl _) _)
  cases h1 : inB v 1 8
  rotate_left
  cases h2 : inB a 1 8
  rotate_left
  cases h3 : (v != a)
  all_goals
    go_enter Try.func90, Try.ntmps90
    go_wp2_with (go_at_call 62; refine (isAddress _ _).mono ?_; rintro e w' ⟨rfl, rfl⟩)
    go_ret
    refine ⟨ret_bool ?_, unhide HB⟩
    unfold hopB
    simp_all
end Tw
end Go.Proofs.Ytilphgfjgeoiaaa
