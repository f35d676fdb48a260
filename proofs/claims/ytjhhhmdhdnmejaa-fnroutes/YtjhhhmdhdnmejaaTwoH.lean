/-
  The program's small contracts of two-hop neighbors: a key taken apart and put together, whether a hop is one.
-/
import Derived.Test.YtjhhhmdhdnmejaaMpt
import Derived.Test.YtjhhhmdhdnmejaaSetC
namespace Go.Proofs.Ytjhhhmdhdnmejaa
open Go.ChangeShapes Go.WideShapes Go.ChangeAt Go.RowKit
set_option linter.unusedVariables false
set_option linter.unusedSimpArgs false
attribute [local go_sem ↓] Go.wp_at_zero Go.wp_at_succ
namespace Tw
open W1 Tu Mt
set_option maxHeartbeats 1000000 in
theorem hopOfKey (k : Int) (w : World) (h0 : 0 ≤ k) (h1 : k ≤ 1000000) : Calls Try.prog 89 #[.int .i64 k] w fun e w' => e = .returned (.agg #[.int .i64 (k.tdiv 100), .int .i64 (k.tmod 100)]) ∧ Below w.heap.size w w' := by
  have HB : Hid (Below w.heap.size w w) := hide (Below.refl _ _)
  have e1 : k.tdiv 100 = k / 100 := Int.tdiv_eq_ediv_of_nonneg h0
  have e2 : k.tmod 100 = k % 100 := Int.tmod_eq_emod_of_nonneg h0
  rw [e1, e2]
  go_enter Try.func89, Try.ntmps89
  go_wp2
  refine bodyPost_ret (v := .agg #[.int .i64 (k / 100), .int .i64 (k % 100)]) (by simp [results, Try.results89, go_sem]) rfl ⟨rfl, ?_⟩
  have hB := unhide HB
  (repeat (first | (with_reducible exact hB) | (with_reducible refine Below.drew ?_) | (with_reducible refine Below.setCell ?_ ?_ _; rotate_left; (first | exact Nat.le_refl _ | (simp; done) | (dsimp only; omega))) | (with_reducible refine Below.alloc ?_ ?_ _; rotate_left; (first | exact Nat.le_refl _ | omega | (simp [World.setCell]; omega)))))
set_option maxHeartbeats 1000000 in
theorem keyOfHop (v a : Int) (w : World) (h0 : 0 ≤ v) (h1 : v ≤ 1000000) (h2 : 0 ≤ a) (h3 : a ≤ 1000000) : Calls Try.prog 63 #[.agg #[.int .i64 v, .int .i64 a]] w fun e w' => e = .returned (.int .i64 (100 * v + a)) ∧ Below w.heap.size w w' := by
  have HB : Hid (Below w.heap.size w (w.alloc (.cells #[.int .i64 v, .int .i64 a] 103))) := hide ((Below.refl _ _).alloc (Nat.le_refl _) _)
  go_enter Try.func63, Try.ntmps63
  go_wp2
  go_ret
  exact ⟨rfl, unhide HB⟩
/-- Whether a hop is one. -/
def hopB (v a : Int) : Bool := inB v 1 8 && (inB a 1 8 && !(v == a))
set_option maxHeartbeats 1000000 in
theorem isHop (v a : Int) (w : World) : Calls Try.prog 62 #[.agg #[.int .i64 v, .int .i64 a]] w fun e w' => e = .returned (.bool (hopB v a)) ∧ Below w.heap.size w w' := by
  have HB : Hid (Below w.heap.size w (w.alloc (.cells #[.int .i64 v, .int .i64 a] 103))) := hide ((Below.refl _ _).alloc (Nat.le_refl _) _)
  cases h1 : inB v 1 8
  rotate_left
  cases h2 : inB a 1 8
  rotate_left
  cases h3 : (v != a)
  all_goals
    go_enter Try.func62, Try.ntmps62
    go_wp2_with (go_at_call 71; refine (isAddress _ _).mono ?_; rintro e w' ⟨rfl, rfl⟩)
    go_ret
    refine ⟨ret_bool ?_, unhide HB⟩
    unfold hopB
    simp_all
set_option maxHeartbeats 1000000 in
theorem implKey (v a : Int) (w : World) : Calls Try.prog 26 #[.int .i64 v, .int .i64 a] w fun e w' => e = .returned (.tuple #[.int .i64 (if hopB v a = true then 100 * v + a else 0), .int .i64 (if hopB v a = true then 0 else 4)]) ∧ Below w.heap.size w w' := by
  have HB : Hid (Below w.heap.size w (w.alloc (.cells #[.int .i64 v, .int .i64 a] 103))) := hide ((Below.refl _ _).alloc (Nat.le_refl _) _)
  have HV : Hid ((w.alloc (.cells #[.int .i64 v, .int .i64 a] 103)).cell? ⟨w.heap.size, 0, none⟩ = some (.int .i64 v) ∧ (w.alloc (.cells #[.int .i64 v, .int .i64 a] 103)).cell? ⟨w.heap.size, 1, none⟩ = some (.int .i64 a)) := hide (by constructor <;> simp [World.cell?_alloc_new])
  have hsz : w.heap.size < (w.alloc (.cells #[.int .i64 v, .int .i64 a] 103)).heap.size := by simp
  cases hh : hopB v a
  · have HH := hide hh
    clear hh
    go_enter Try.func26, Try.ntmps26
    go_wp2_with fail
    refine (isHop v a _).mono ?_
    rintro e w1 ⟨rfl, b1⟩
    rw [unhide HH]
    have HB1 := hide ((unhide HB).trans (b1.mono (unhide HB).size))
    clear b1
    go_wp2_with fail
    go_ret2
    exact ⟨rfl, unhide HB1⟩
  · have hb : (0 ≤ v ∧ v ≤ 1000000) ∧ 0 ≤ a ∧ a ≤ 1000000 := by unfold hopB inB at hh; simp at hh; omega
    have HH := hide hh
    clear hh
    go_enter Try.func26, Try.ntmps26
    go_wp2_with fail
    refine (isHop v a _).mono ?_
    rintro e w1 ⟨rfl, b1⟩
    rw [unhide HH]
    have HB1 := hide ((unhide HB).trans (b1.mono (unhide HB).size))
    have d0 := (b1.cell (p := ⟨w.heap.size, 0, none⟩) hsz).trans (unhide HV).1
    have d1 := (b1.cell (p := ⟨w.heap.size, 1, none⟩) hsz).trans (unhide HV).2
    clear b1
    go_wp2_with fail
    refine (keyOfHop v a _ hb.1.1 hb.1.2 hb.2.1 hb.2.2).mono ?_
    rintro e w2 ⟨rfl, b2⟩
    have HB2 := hide ((unhide HB1).trans (b2.mono (unhide HB1).size))
    clear b2
    go_wp2_with fail
    go_ret2
    exact ⟨rfl, unhide HB2⟩
end Tw
end Go.Proofs.Ytjhhhmdhdnmejaa
