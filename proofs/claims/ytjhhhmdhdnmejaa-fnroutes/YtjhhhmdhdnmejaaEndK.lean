/-
  The program's contract: the two ends that a key tells (out of TopA's rows, without sources).
-/
import Derived.Test.YtjhhhmdhdnmejaaTwoH
import Derived.Laws.NewBlocks
namespace Go.Proofs.Ytjhhhmdhdnmejaa
open Go.ChangeShapes Go.WideShapes Go.ChangeAt Go.RowKit
set_option linter.unusedVariables false
set_option linter.unusedSimpArgs false
set_option maxRecDepth 100000
attribute [local go_sem ↓] Go.wp_at_zero Go.wp_at_succ
namespace Ek
open W1
set_option maxHeartbeats 1000000 in
theorem endsOfKey (k : Int) (w : World) (h0 : 0 ≤ k) (h1 : k ≤ 1000000) : Calls Try.prog 49 #[.int .i64 k] w fun e w' => e = .returned (.agg #[.int .i64 (k.tdiv 100), .int .i64 (k.tmod 100)]) ∧ Below w.heap.size w w' := by
  have HB : Hid (Below w.heap.size w (w.alloc (.cells #[.int .i64 0, .int .i64 0] 90))) := hide ((Below.refl _ _).alloc (Nat.le_refl _) _)
  obtain ⟨v, hv⟩ : ∃ v, k.tdiv 100 = v := ⟨_, rfl⟩
  obtain ⟨u, hu⟩ : ∃ u, k.tmod 100 = u := ⟨_, rfl⟩
  rw [hv, hu]
  have HV := hide hv
  have HU := hide hu
  clear hv hu
  go_enter Try.func49, Try.ntmps49
  go_wp2_with fail
  refine (Tw.hopOfKey k _ h0 h1).mono ?_
  rintro e w1 ⟨rfl, b1⟩
  rw [unhide HV, unhide HU]
  obtain ⟨hc, hf⟩ := bcell b1
  have hz1 := b1.size
  simp at hz1
  have hz2 : w.heap.size < w1.heap.size := by omega
  have hne : ¬ w.heap.size = w1.heap.size := by omega
  have HB1 := hide ((unhide HB).trans (b1.mono (unhide HB).size))
  clear b1
  go_wp2_with fail
  refine bodyPost_ret (v := .agg #[.int .i64 v, .int .i64 u]) (by simp [results, Try.results49, go_sem, hc, hz1, hz2, hne]) rfl ⟨rfl, ?_⟩
  have hB := unhide HB1
  (repeat (first | (with_reducible exact hB) | (with_reducible refine Below.drew ?_) | (with_reducible refine Below.setCell ?_ ?_ _; rotate_left; (first | exact Nat.le_refl _ | (simp; done) | (dsimp only; omega))) | (with_reducible refine Below.alloc ?_ ?_ _; rotate_left; (first | exact Nat.le_refl _ | omega | (simp [World.setCell]; omega)))))
end Ek
end Go.Proofs.Ytjhhhmdhdnmejaa
