/-
  Drawn two-hop neighbors: right ones, whatever the source has.
-/
import Derived.Test.YtjhhhmdhdnmejaaTwoM
import Derived.Test.YtjhhhmdhdnmejaaSetYc
import Derived.Test.YtjhhhmdhdnmejaaDrw
namespace Go.Proofs.Ytjhhhmdhdnmejaa
open Go.ChangeShapes Go.WideShapes Go.ChangeAt Go.RowKit
set_option linter.unusedVariables false
set_option linter.unusedSimpArgs false
attribute [local go_sem ↓] Go.wp_at_zero Go.wp_at_succ
namespace Tw
open W1 Tu St By Sr Dw
theorem lst_src {w w' : World} {a : Option Addr} {ms : List R} {lo hi p : Nat} (h : Lst w a ms lo hi) (hg : w.grownBy w' (some p)) (hp : p < lo) : Lst w' a ms lo hi :=
  h.but (p := fun k => k ≠ p) hg.size (fun k hk hne => hg.block k hk (by intro e; cases e; exact hne rfl)) (fun k h1 _ => by omega)
/-- Right two-hop neighbors whose times are small. -/
def Sm (ms : List R) : Prop := twoB ms = true ∧ ∀ m ∈ ms, 0 ≤ m.til ∧ m.til < 30
theorem sm_nil : Sm [] := ⟨rfl, fun m hm => by cases hm⟩
theorem sm_put {ms : List R} (h : Sm ms) {v u t x : Nat} (h1 : 1 ≤ v) (h2 : v ≤ 8) (h3 : 1 ≤ u) (h4 : u ≤ 8) (hne : v ≠ u) (ht : t < 30) (hx : x < 10) : Sm (putL ms ⟨100 * (v : Int) + (u : Int), (t : Int), 1 + (x : Int)⟩) := by
  obtain ⟨e1, e2⟩ := hop_mk (v := (v : Int)) (a := (u : Int)) (t := (t : Int)) (u := 1 + (x : Int)) (by omega) (by omega) (by omega)
  refine ⟨two_put h.1 ?_ ?_, fun m hm => ?_⟩
  · unfold okR inB; simp; omega
  · unfold okK; rw [e1, e2]; unfold inB; simp; omega
  · rcases mem_put hm with rfl | hm
    · dsimp only; omega
    · exact h.2 m hm
theorem sm_len {ms : List R} (h : Sm ms) : ms.length ≤ 62 := two_len h.1
set_option maxHeartbeats 400000 in
theorem l07KeyD (v a : Int) (w : World) (h0 : 0 ≤ v) (h1 : v ≤ 1000000) (h2 : 0 ≤ a) (h3 : a ≤ 1000000) : Calls Try.prog 85 #[.int .i64 v, .int .i64 a] w fun e w' => e = .returned (.int .i64 (100 * v + a)) ∧ w' = w := by
  go_enter Try.func85, Try.ntmps85
  go_wp2
  go_ret
  exact ⟨rfl, rfl⟩
end Tw
end Go.Proofs.Ytjhhhmdhdnmejaa
