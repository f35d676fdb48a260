/-
  Routers whose lists are empty: eqRouter, markRouter, heldRouter of them; a new router. (written by mkrtr.py)
-/
import Derived.Test.YtilphgfjgeoiaaaStrTop
import Derived.Test.YtilphgfjgeoiaaaRecLink
import Derived.Test.YtilphgfjgeoiaaaRecEdge
namespace Go.Proofs.Ytilphgfjgeoiaaa
open Go.ChangeShapes Go.WideShapes Go.ChangeAt Go.RowKit
set_option linter.unusedVariables false
set_option linter.unusedSimpArgs false
attribute [local go_sem ↓] Go.wp_at_zero Go.wp_at_succ
namespace Rt
open W1
theorem eqLink0 (a b : Option Addr) (ca cb : Nat) (w : World) : Calls Try.prog 68 #[.slice a 0 ca, .slice b 0 cb] w fun e w' => e = .returned (.bool true) ∧ w' = w := by
  go_enter Try.func68, Try.ntmps68
  go_wp2
  go_loop [5] (fun i => i = .int .i64 0) (fun _ => 0)
  case atStart => rfl
  case round =>
    subst hrel
    go_wp2
    go_ret
    exact ⟨rfl, rfl⟩
theorem eqTuple0 (a b : Option Addr) (ca cb : Nat) (w : World) : Calls Try.prog 69 #[.slice a 0 ca, .slice b 0 cb] w fun e w' => e = .returned (.bool true) ∧ w' = w := by
  go_enter Try.func69, Try.ntmps69
  go_wp2
  go_loop [5] (fun i => i = .int .i64 0) (fun _ => 0)
  case atStart => rfl
  case round =>
    subst hrel
    go_wp2
    go_ret
    exact ⟨rfl, rfl⟩
theorem eqSource0 (a b : Option Addr) (ca cb : Nat) (w : World) : Calls Try.prog 110 #[.slice a 0 ca, .slice b 0 cb] w fun e w' => e = .returned (.bool true) ∧ w' = w := by
  go_enter Try.func110, Try.ntmps110
  go_wp2
  go_loop [5] (fun i => i = .int .i64 0) (fun _ => 0)
  case atStart => rfl
  case round =>
    subst hrel
    go_wp2
    go_ret
    exact ⟨rfl, rfl⟩
theorem eqEdge0 (a b : Option Addr) (ca cb : Nat) (w : World) : Calls Try.prog 71 #[.slice a 0 ca, .slice b 0 cb] w fun e w' => e = .returned (.bool true) ∧ w' = w := by
  go_enter Try.func71, Try.ntmps71
  go_wp2
  go_loop [5] (fun i => i = .int .i64 0) (fun _ => 0)
  case atStart => rfl
  case round =>
    subst hrel
    go_wp2
    go_ret
    exact ⟨rfl, rfl⟩
set_option maxHeartbeats 2000000 in
theorem eqTop0 (a5 a6 b5 b6 : Option Addr) (w : World) : Calls Try.prog 70 #[.agg #[.slice a5 0 0, .slice a6 0 0], .agg #[.slice b5 0 0, .slice b6 0 0]] w fun e w' => e = .returned (.bool true) ∧ w' = (w.alloc (.cells #[.slice a5 0 0, .slice a6 0 0] 26)).alloc (.cells #[.slice b5 0 0, .slice b6 0 0] 26) := by
  go_enter Try.func70, Try.ntmps70
  go_wp2_with (first | (go_at_call 110; refine (eqSource0 _ _ _ _ _).mono ?_; rintro e w' ⟨rfl, rfl⟩) | (go_at_call 69; refine (eqTuple0 _ _ _ _ _).mono ?_; rintro e w' ⟨rfl, rfl⟩))
  go_ret
  exact ⟨rfl, rfl⟩
set_option maxRecDepth 100000 in
set_option maxHeartbeats 8000000 in
theorem eqR0 (x y z : Int) (a1 a2 a3 a4 a5 a6 a7 b1 b2 b3 b4 b5 b6 b7 : Option Addr) (w : World) : Calls Try.prog 20 #[.agg #[.int .i64 x, .int .i64 y, .int .i64 z, .int .i64 0, .int .i64 0, .slice a1 0 0, .slice a2 0 0, .slice a3 0 0, .slice a4 0 0, .slice a5 0 0, .slice a6 0 0, .slice a7 0 0, .int .i64 0], .agg #[.int .i64 x, .int .i64 y, .int .i64 z, .int .i64 0, .int .i64 0, .slice b1 0 0, .slice b2 0 0, .slice b3 0 0, .slice b4 0 0, .slice b5 0 0, .slice b6 0 0, .slice b7 0 0, .int .i64 0]] w fun e w' => e = .returned (.bool true) ∧ Below w.heap.size w w' := by
  have hx : (x != x) = false := by simp
  have hy : (y != y) = false := by simp
  have hz : (z != z) = false := by simp
  go_enter Try.func20, Try.ntmps20
  go_wp2_with (first | (go_at_call 68; refine (eqLink0 _ _ _ _ _).mono ?_; rintro e w' ⟨rfl, rfl⟩) | (go_at_call 69; refine (eqTuple0 _ _ _ _ _).mono ?_; rintro e w' ⟨rfl, rfl⟩) | (go_at_call 71; refine (eqEdge0 _ _ _ _ _).mono ?_; rintro e w' ⟨rfl, rfl⟩) | (go_at_call 70; refine (eqTop0 _ _ _ _ _).mono ?_; rintro e w' ⟨rfl, rfl⟩))
  go_ret
  exact ⟨rfl, ((((Below.refl _ _).alloc (Nat.le_refl _) _).alloc (by simp) _).alloc (by simp; omega) _).alloc (by simp; omega) _⟩
def okN (x y z : Int) : Bool := inB x 1 8 && (inB y 0 7 && inB z 0 65535)
def pickN (x y z v : Int) : Int := if okN x y z = true then v else 0
def codeN (x y z : Int) : Int := if okN x y z = true then 0 else 4
theorem isWillN (n : Int) (w : World) : Calls Try.prog 63 #[.int .i64 n] w fun e w' => e = .returned (.bool (inB n 0 7)) ∧ w' = w := by
  go_enter Try.func63, Try.ntmps63
  go_wp2_with (go_at_call 46; refine (within _ _ _ _).mono ?_; rintro e w' ⟨rfl, rfl⟩)
  go_ret
  exact ⟨rfl, rfl⟩
end Rt
end Go.Proofs.Ytilphgfjgeoiaaa
