/-
  Contract of the laws' heldMessageS, and of the marks on lists that have no message.
-/
import Derived.Test.YtpknahhdapmcoahMarks
import Derived.Deep.RegionHeld3
import Derived.Deep.DrawnRows
namespace Go.Proofs.Ytpknahhdapmcoah
open Go.ChangeShapes Go.WideShapes Go.ChangeAt Go.RowKit
set_option linter.unusedVariables false
set_option linter.unusedSimpArgs false
attribute [local go_sem ↓] Go.wp_at_zero Go.wp_at_succ
namespace Mk
open W1 Ml
theorem markS0 (a : Option Addr) (c : Nat) (w : World) :
    Calls Try.prog 20 #[.slice a 0 c, .int .i64 1] w fun e w' => e = .returned (.int .i64 1) ∧ w' = w := by
  go_enter Try.func20, Try.ntmps20
  go_wp2
  go_loop [1, 5] (fun q i => q = .int .i64 1 ∧ i = .int .i64 0) (fun _ i => 0)
  case atStart => exact ⟨rfl, rfl⟩
  case round =>
    obtain ⟨rfl, rfl⟩ := hrel
    go_wp2
    go_ret
    exact ⟨rfl, rfl⟩
theorem heldS0 (a : Option Addr) (c : Nat) (w : World) :
    Calls Try.prog 25 #[.slice a 0 c, .int .i64 1] w fun e w' => e = .returned (.int .i64 1) ∧ w' = w := by
  go_enter Try.func25, Try.ntmps25
  go_wp2
  go_loop [1, 5] (fun q i => q = .int .i64 1 ∧ i = .int .i64 0) (fun _ i => 0)
  case atStart => exact ⟨rfl, rfl⟩
  case round =>
    obtain ⟨rfl, rfl⟩ := hrel
    go_wp2
    go_ret
    exact ⟨rfl, rfl⟩

set_option maxRecDepth 100000 in
set_option maxHeartbeats 2000000 in
theorem heldS (g n c : Nat) (w : World) (hn : n ≤ 1048576) (hU : Upto w g n n (marks n)) :
    Calls Try.prog 25 #[.slice (some ⟨g, 0, none⟩) n c, .int .i64 1] w fun e w' => e = .returned (.int .i64 (1 + 6 * (n : Int))) ∧ Below w.heap.size w w' := by
  have HU := hide hU
  clear hU
  go_enter Try.func25, Try.ntmps25
  go_wp2
  go_loopw [1, 5] (fun q i wr => ∃ j : Nat, j ≤ n ∧ i = .int .i64 j ∧ q = .int .i64 (1 + 6 * (j : Int)) ∧ Hid (Below w.heap.size w wr)) (fun _ i _ => n - (intOf i).toNat)
  case atStart => exact ⟨0, by omega, rfl, rfl, hide (Below.refl _ _)⟩
  case round =>
    obtain ⟨j, hj, rfl, rfl, hbl⟩ := hrel
    by_cases hlt : (j : Int) < (n : Int)
    · have k0 : (0 : Int) ≤ (j : Int) := by omega
      have hA := (unhide HU).1 j (by omega)
      rw [marks_at n j (by omega)] at hA
      have hA2 := hA.below (unhide hbl)
      clear hA
      have HA := hide hA2
      obtain ⟨c0, c1, c2, c3, c4, c5⟩ := hA2
      unfold markM at c0 c1 c2 c3 c4 c5
      dsimp only at c0 c1 c2 c3 c4 c5
      have hgw : g < wr.heap.size := World.block_lt_of_cell? _ _ c5
      have hC5 := hide c5
      go_wp2_with fail
      go_region_held3 (fun w' => w'.cell? ⟨g, j * 6 + 5, none⟩ = some (.string (mkT (1 + 6 * (j : Int) + 1 + 1 + 1 + 1 + 1))))
        (first | (exact (b6.cell (p := ⟨g, j * 6 + 5, none⟩) (by show g < wr.heap.size; exact hgw)).trans (unhide hC5)) | go_keep)
        (first | (go_at_call 38; refine (markText _ ?_ ?_ _).mono ?_; omega; omega; rintro e w6 ⟨rfl, b6⟩))
      have hb6 := hide ((unhide hbl).drew.trans (b6.mono (by show w.heap.size ≤ wr.heap.size; exact (unhide hbl).size)))
      go_wp2_with fail
      go_roundw
      case rel => exact ⟨j + 1, by omega, by go_num, by go_num, hb6⟩
      case measure => simp [intOf]; omega
    · obtain rfl : j = n := by omega
      go_wp2
      go_ret
      exact ⟨rfl, unhide hbl⟩
end Mk
end Go.Proofs.Ytpknahhdapmcoah
