/-
  The model's contracts of two-hop neighbors: whether a set is right.
-/
import Derived.Test.YtilphgfjgeoiaaaTwoM
import Derived.Test.YtilphgfjgeoiaaaSetC
import Derived.Deep.QuietTactic
import Derived.BigQuiet
namespace Go.Proofs.Ytilphgfjgeoiaaa
open Go.ChangeShapes Go.WideShapes Go.ChangeAt Go.RowKit
set_option linter.unusedVariables false
set_option linter.unusedSimpArgs false
attribute [local go_sem ↓] Go.wp_at_zero Go.wp_at_succ
namespace Tw
open W1 Tu St
theorem below_drewN {B : Nat} {w0 w : World} (h : Below B w0 w) (q : Nat) : Below B w0 (w.drewN q) := ⟨h.os, h.tape, h.output, h.size, h.block⟩
theorem key_check {ms : List R} {j : Nat} {v u : Int} (hj : j < ms.length) (hv' : IntKind.i64.wrap ((ms.getD j R.zero).key.tdiv 100) = v) (hu' : (ms.getD j R.zero).key.tmod 100 = u) (hr : keysB ms j = true ∨ setB ms = false) :
    ((inB v 1 8 && (inB u 1 8 && !(v == u))) = false → twoB ms = false) ∧ ((inB v 1 8 && (inB u 1 8 && !(v == u))) = true → keysB ms (j + 1) = true ∨ setB ms = false) := by
  cases hs : setB ms
  · exact ⟨fun _ => set_no hs, fun _ => .inr rfl⟩
  have hb := ok_bounds (setB_ok hs hj)
  have e1 : (ms.getD j R.zero).key.tdiv 100 = (ms.getD j R.zero).key / 100 := Int.tdiv_eq_ediv_of_nonneg hb.1
  have w1 : v = hv (ms.getD j R.zero) := by rw [← hv', IntKind.wrap_i64]; unfold hv; rw [e1]; omega
  have w2 : u = ha (ms.getD j R.zero) := by rw [← hu']; rfl
  have e : (inB v 1 8 && (inB u 1 8 && !(v == u))) = okK (ms.getD j R.zero) := by rw [w1, w2]; rfl
  rw [e]
  refine ⟨fun h => keys_no hj h, fun h => .inl (keys_succ hj ?_ h)⟩
  rcases hr with h | h
  · exact h
  · rw [hs] at h; cases h
set_option maxRecDepth 100000 in
set_option maxHeartbeats 4000000 in
theorem l07OK (a : Option Addr) (ms : List R) (cap : Nat) (w : World) (hm : ms.length ≤ 1048576) (hr : RM w a ms) :
    Calls Try.prog 52 #[.slice a ms.length cap] w fun e w' => e = .returned (.bool (twoB ms)) ∧ Below w.heap.size w w' := by
  have HR := hide hr
  clear hr
  obtain ⟨A, hA⟩ : ∃ A, twoB ms = A := ⟨_, rfl⟩
  have HA := hide hA
  rw [hA]
  clear hA
  generalize hN : ms.length = n at *
  have HN := hide hN
  clear hN
  go_enter Try.func52, Try.ntmps52
  go_wp2_with fail
  go_loopw [3] (fun i wr => ∃ j : Nat, j ≤ n ∧ i = .int .i64 j ∧ Hid (keysB ms j = true ∨ setB ms = false) ∧ Hid (∃ q, wr = w.drewN q)) (fun i _ => n - (intOf i).toNat)
  case atStart => exact ⟨0, by omega, rfl, hide (.inl (keys_zero ms)), hide ⟨0, rfl⟩⟩
  case round =>
    obtain ⟨j, hj, rfl, hrl, hq⟩ := hrel
    have HRr : Hid (RM wr a ms) := hide (by obtain ⟨q, e⟩ := unhide hq; rw [e]; exact unhide HR)
    have HD : Hid (∀ m, ∃ q, wr.drewN m = w.drewN q) := hide (fun m => by obtain ⟨q, e⟩ := unhide hq; exact ⟨_, by rw [e, World.drewN_drewN]⟩)
    by_cases hlt : (j : Int) < (n : Int)
    · have k0 : (0 : Int) ≤ (j : Int) := by omega
      have hlen : j < ms.length := by rw [unhide HN]; omega
      obtain ⟨g, off, rfl⟩ := (unhide HR).form (by omega)
      obtain ⟨c0, c1, c2⟩ := (unhide HRr).at hlen
      obtain ⟨v, hv'⟩ : ∃ v, IntKind.i64.wrap ((ms.getD j R.zero).key.tdiv 100) = v := ⟨_, rfl⟩
      obtain ⟨u, hu'⟩ : ∃ u, (ms.getD j R.zero).key.tmod 100 = u := ⟨_, rfl⟩
      obtain ⟨HF, HC⟩ := key_check hlen hv' hu' (unhide hrl)
      rw [unhide HA] at HF
      have HF := hide HF
      have HC := hide HC
      generalize ms.getD j R.zero = m at *
      obtain ⟨key, til, val⟩ := m
      dsimp only at c0 c1 c2 hv' hu'
      cases h1 : inB v 1 8
      rotate_left
      cases h2 : inB u 1 8
      rotate_left
      cases h3 : (v == u)
      · have HT := hide (unhide HC (by rw [h1, h2, h3]; rfl))
        go_wp2_with fail
        go_quiet ((go_at_call 34; exact Calls.quiet_of_same (l01Addr _ _)))
        go_wp2_with fail
        go_roundw
        case rel => exact ⟨j + 1, by omega, by go_num, HT, hide (unhide HD _)⟩
        case measure => simp [intOf]; omega
      · have HT := hide (unhide HF (by rw [h1, h2, h3]; rfl))
        go_wp2_with fail
        go_quiet ((go_at_call 34; exact Calls.quiet_of_same (l01Addr _ _)))
        go_wp2_with fail
        go_ret
        obtain ⟨q, e⟩ := unhide HD _
        exact ⟨ret_bool (unhide HT).symm, by rw [e]; exact below_drewN (Below.refl _ _) _⟩
      · have HT := hide (unhide HF (by rw [h1]; rfl))
        go_wp2_with fail
        go_quiet ((go_at_call 34; exact Calls.quiet_of_same (l01Addr _ _)))
        go_wp2_with fail
        go_ret
        obtain ⟨q, e⟩ := unhide HD _
        exact ⟨ret_bool (unhide HT).symm, by rw [e]; exact below_drewN (Below.refl _ _) _⟩
      · have HT := hide (unhide HF (by rw [h1, h2]; rfl))
        go_wp2_with fail
        go_quiet ((go_at_call 34; exact Calls.quiet_of_same (l01Addr _ _)))
        go_wp2_with fail
        go_ret
        obtain ⟨q, e⟩ := unhide HD _
        exact ⟨ret_bool (unhide HT).symm, by rw [e]; exact below_drewN (Below.refl _ _) _⟩
    · obtain rfl : j = n := by omega
      have HT : Hid (setB ms = A) := hide (by
        rw [← unhide HA]
        rcases unhide hrl with h | h
        · exact (keys_all (by rw [unhide HN]; exact h)).symm
        · rw [h, set_no h])
      have HB : Hid (Below w.heap.size w wr) := hide (by obtain ⟨q, e⟩ := unhide hq; rw [e]; exact below_drewN (Below.refl _ _) _)
      go_wp2_with fail
      rw [← unhide HN]
      refine (St.specOK _ ms cap _ (by rw [unhide HN]; omega) (unhide HRr)).mono ?_
      rintro e w1 ⟨rfl, b1⟩
      rw [unhide HT]
      have HB1 := hide ((unhide HB).trans (b1.mono (unhide HB).size))
      clear b1
      go_wp2_with fail
      go_ret
      exact ⟨rfl, unhide HB1⟩
end Tw
end Go.Proofs.Ytilphgfjgeoiaaa
