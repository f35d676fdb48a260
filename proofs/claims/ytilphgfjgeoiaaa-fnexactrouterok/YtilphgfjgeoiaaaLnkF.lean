/-
  The model's contract over links: the link of an address (l06Find). (written by mklnk.py)
-/
import Derived.Test.YtilphgfjgeoiaaaLnkC
import Derived.Test.YtilphgfjgeoiaaaLnkA
namespace Go.Proofs.Ytilphgfjgeoiaaa
open Go.ChangeShapes Go.WideShapes Go.ChangeAt Go.RowKit
set_option linter.unusedVariables false
set_option linter.unusedSimpArgs false
attribute [local go_sem ↓] Go.wp_at_zero Go.wp_at_succ
namespace Ln
open W1 Lk
set_option maxRecDepth 100000 in
set_option maxHeartbeats 4000000 in
theorem l06Find (a : Option Addr) (ms : List R) (cap : Nat) (k : Int) (w : World) (hm : ms.length ≤ 1048576) (hr : RM w a ms) :
    Calls Try.prog 55 #[.slice a ms.length cap, .int .i64 k] w fun e w' => e = .returned (.tuple #[(lkF ms k).value, .bool (ms.find? (isAd k)).isSome]) ∧ Below w.heap.size w w' := by
  have HA : Hid (Below w.heap.size w (w.alloc (.cells #[.int .i64 0, .int .i64 0, .int .i64 0, .int .i64 0, .int .i64 0, .int .i64 0] 101))) := hide ((Below.refl _ _).alloc (Nat.le_refl _) _)
  have HV : Hid (LV (w.alloc (.cells #[.int .i64 0, .int .i64 0, .int .i64 0, .int .i64 0, .int .i64 0, .int .i64 0] 101)) w.heap.size R.zero) := hide (lv_new w R.zero)
  have HR := hide ((hr).below (unhide HA))
  clear hr
  have HT : Hid (∀ j, j < ms.length → (∀ i, i < j → isAd k (ms.getD i R.zero) = false) → isAd k (ms.getD j R.zero) = true → lkF ms k = ms.getD j R.zero ∧ (ms.find? (isAd k)).isSome = true) := hide (fun j hj h1 h2 => by
    have hf := Ri.find_at (z := R.zero) (isAd k) ms j hj h1 h2
    unfold lkF; rw [hf]; exact ⟨rfl, rfl⟩)
  have HN : Hid ((∀ i, i < ms.length → isAd k (ms.getD i R.zero) = false) → lkF ms k = R.zero ∧ (ms.find? (isAd k)).isSome = false) := hide (fun h1 => by
    have hf := Ri.find_no (z := R.zero) (isAd k) ms h1
    unfold lkF; rw [hf]; exact ⟨rfl, rfl⟩)
  obtain ⟨A, hA⟩ : ∃ A, lkF ms k = A := ⟨_, rfl⟩
  obtain ⟨E, hE⟩ : ∃ E, (ms.find? (isAd k)).isSome = E := ⟨_, rfl⟩
  rw [hA, hE] at HT HN ⊢
  clear hA hE
  generalize hN : ms.length = n at *
  have HL := hide hN
  clear hN
  go_enter Try.func55, Try.ntmps55
  go_wp2_with fail
  generalize hW : w.alloc (.cells #[.int .i64 0, .int .i64 0, .int .i64 0, .int .i64 0, .int .i64 0, .int .i64 0] 101) = W0 at *
  clear hW
  go_loopw [6] (fun i wr => ∃ j : Nat, j ≤ n ∧ i = .int .i64 j ∧ Hid (∀ i, i < j → isAd k (ms.getD i R.zero) = false) ∧ W0 = wr) (fun i _ => n - (intOf i).toNat)
  case atStart => exact ⟨0, by omega, rfl, hide (fun i hi => by omega), rfl⟩
  case round =>
    obtain ⟨j, hj, rfl, hrl, rfl⟩ := hrel
    obtain ⟨x0, x1, x2, x3, x4, x5⟩ := (unhide HV).cells
    simp only [Nat.zero_add] at x1 x2 x3 x4 x5
    have y0 := (unhide HV).free 0
    have y1 := (unhide HV).free 1
    have y2 := (unhide HV).free 2
    have y3 := (unhide HV).free 3
    have y4 := (unhide HV).free 4
    have y5 := (unhide HV).free 5
    unfold R.zero at x0 x1 x2 x3 x4 x5
    dsimp only at x0 x1 x2 x3 x4 x5
    by_cases hlt : (j : Int) < (n : Int)
    · have k0 : (0 : Int) ≤ (j : Int) := by omega
      have hlen : j < ms.length := by rw [unhide HL]; omega
      rcases (unhide HR) with e0 | ⟨g, off, rfl, hc⟩
      · exfalso; rw [e0] at hlen; simp at hlen
      have hA := hc j hlen
      clear hc
      cases hk : isAd k (ms.getD j R.zero)
      · have HST : Hid (∀ i, i < j + 1 → isAd k (ms.getD i R.zero) = false) := hide (fun i hi => by
          by_cases e : i = j
          · subst e; exact hk
          · exact unhide hrl i (by omega))
        have hne : ((ms.getD j R.zero).ad == k) = false := hk
        clear hk
        generalize ms.getD j R.zero = m at *
        obtain ⟨ad, hd, sy, ci, co, wl⟩ := m
        obtain ⟨c0, c1, c2, c3, c4, c5⟩ := hA
        dsimp only at c0 c1 c2 c3 c4 c5 hne
        go_wp2_with fail
        go_roundw
        case rel => exact ⟨j + 1, by omega, by go_num, HST, trivial⟩
        case measure => simp [intOf]; omega
      · have HAE := hide (unhide HT j (by have := unhide HL; omega) (unhide hrl) hk)
        have hne : ((ms.getD j R.zero).ad == k) = true := hk
        clear hk
        generalize ms.getD j R.zero = m at *
        obtain ⟨ad, hd, sy, ci, co, wl⟩ := m
        obtain ⟨c0, c1, c2, c3, c4, c5⟩ := hA
        dsimp only at c0 c1 c2 c3 c4 c5 hne
        go_wp2_with fail
        refine bodyPost_ret (v := .tuple #[.agg #[.int .i64 ad, .int .i64 hd, .int .i64 sy, .int .i64 ci, .int .i64 co, .int .i64 wl], .bool true]) (by simp [results, Try.results55, go_sem, x0, x1, x2, x3, x4, x5]) rfl ⟨by rw [(unhide HAE).1, (unhide HAE).2]; rfl, ?_⟩
        have hB := unhide HA
        (repeat (first | (with_reducible exact hB) | (with_reducible refine Below.drew ?_) | (with_reducible refine Below.setCell ?_ ?_ _; rotate_left; (first | exact Nat.le_refl _ | (simp; done) | (dsimp only; omega))) | (with_reducible refine Below.alloc ?_ ?_ _; rotate_left; (first | exact Nat.le_refl _ | omega | (simp [World.setCell]; omega)))))
    · obtain rfl : j = n := by omega
      have HAE := hide (unhide HN (unhide hrl))
      go_wp2_with fail
      refine bodyPost_ret (v := .tuple #[.agg #[.int .i64 0, .int .i64 0, .int .i64 0, .int .i64 0, .int .i64 0, .int .i64 0], .bool false]) (by simp [results, Try.results55, go_sem, x0, x1, x2, x3, x4, x5]) rfl ⟨by rw [(unhide HAE).1, (unhide HAE).2]; rfl, ?_⟩
      have hB := unhide HA
      (repeat (first | (with_reducible exact hB) | (with_reducible refine Below.drew ?_) | (with_reducible refine Below.setCell ?_ ?_ _; rotate_left; (first | exact Nat.le_refl _ | (simp; done) | (dsimp only; omega))) | (with_reducible refine Below.alloc ?_ ?_ _; rotate_left; (first | exact Nat.le_refl _ | omega | (simp [World.setCell]; omega)))))
end Ln
end Go.Proofs.Ytilphgfjgeoiaaa
