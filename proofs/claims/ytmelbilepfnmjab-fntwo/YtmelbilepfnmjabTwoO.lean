/-
  The program's contract of two-hop neighbors: a map's tuples in the order of their hops (hopsInOrder).
-/
import Derived.Test.YtmelbilepfnmjabTwoI
namespace Go.Proofs.Ytmelbilepfnmjab
open Go.ChangeShapes Go.WideShapes Go.ChangeAt Go.RowKit
set_option linter.unusedVariables false
set_option linter.unusedSimpArgs false
attribute [local go_sem ↓] Go.wp_at_zero Go.wp_at_succ
namespace Tw
open W1 Tu St Mt
theorem ordT_at (f : Int → Int → Option R) {j k : Nat} (hk : k < 8) : ordT f (8 * j + (k + 1)) = ordT f (8 * j + k) ++ (f ((j : Int) + 1) ((k : Int) + 1)).toList := by
  have := ordT_succ f (8 * j + k)
  rw [show (8 * j + k) / 8 = j by omega, show (8 * j + k) % 8 = k by omega] at this
  exact this
set_option maxRecDepth 100000 in
set_option maxHeartbeats 4000000 in
theorem hopsInOrder (b n : Nat) (f : Int → Int → Option R) (w : World) (hn : n ≤ 128) (hom : OM w b n f) :
    Calls Try.prog 60 #[.map (some b)] w fun e w' => ∃ v, e = .returned v ∧ Below w.heap.size w w' ∧ LstV w' v (ordT f 64) w.heap.size w'.heap.size := by
  obtain ⟨q, hqn, hlen⟩ := hom.size
  have HOM := hide hom
  clear hom
  obtain ⟨i0, hi, hz0, hz1, hz2⟩ := infoR
  obtain ⟨wm, hmk, hmown, hmgrow⟩ := run_make_own (P := Try.prog) w w.heap.size 23 32 i0 _ 3 Try.underlying23 hi hz0 hz1 .i64 .i64 q (by rw [hz2]; omega) (by unfold maxLen; omega) (Nat.le_refl _)
  have OW : Hid (wm.ownsRow w.heap.size 32 3 (.slice (some ⟨w.heap.size, 0, none⟩) 0 q) (ordT f (8 * 0)).length (flat (ordT f (8 * 0)))) := hide hmown
  have DM : Hid (Below w.heap.size w wm) := hide ((Below.refl _ _).grown hmgrow (Nat.le_refl _) (fun k hk => by cases hk))
  clear hi hz0 hz1 hz2 hmown hmgrow
  go_enter Try.func60, Try.ntmps60
  go_wp2_with fail
  clear hmk hlen
  go_loopw [3, 4] (fun v i wr => ∃ j : Nat, j ≤ 8 ∧ i = .int .i64 ((j : Int) + 1) ∧ Hid (wr.ownsRow w.heap.size 32 3 v (ordT f (8 * j)).length (flat (ordT f (8 * j)))) ∧ Hid (Below w.heap.size w wr)) (fun _ i _ => 9 - (intOf i).toNat)
  case atStart => exact ⟨0, by omega, rfl, OW, DM⟩
  case round =>
    obtain ⟨j, hj, rfl, how0, hbl0⟩ := hrel
    by_cases hlt0 : (j : Int) + 1 ≤ 8
    · have HWJ : Hid ((Lit.int .i64 ((j : Int) + 1)).wf = true) := hide (WalkArith.wf_i64 ⟨by omega, by omega⟩)
      go_wp2_with fail
      go_loopw [3, 5] (fun v i wr => ∃ k : Nat, k ≤ 8 ∧ i = .int .i64 ((k : Int) + 1) ∧ Hid (wr.ownsRow w.heap.size 32 3 v (ordT f (8 * j + k)).length (flat (ordT f (8 * j + k)))) ∧ Hid (Below w.heap.size w wr)) (fun _ i _ => 9 - (intOf i).toNat)
      case atStart => exact ⟨0, by omega, rfl, how0, hbl0⟩
      case round =>
        obtain ⟨k, hk, rfl, how, hbl⟩ := hrel
        have hbs := (unhide hbl).size
        have hfl := ordT_len f (8 * j + k)
        by_cases hlt : (k : Int) + 1 ≤ 8
        · have HM := hide ((unhide HOM).below (unhide hbl))
          have HWK : Hid ((Lit.int .i64 ((k : Int) + 1)).wf = true) := hide (WalkArith.wf_i64 ⟨by omega, by omega⟩)
          have HST := hide (ordT_at f (j := j) (k := k) (by omega))
          cases hf : f ((j : Int) + 1) ((k : Int) + 1) with
          | none =>
            rw [hf] at HST
            have HA : Hid ((f ((j : Int) + 1) ((k : Int) + 1)).getD R.zero = ⟨0, 0, 0⟩) := hide (by rw [hf]; rfl)
            have HE : Hid ((f ((j : Int) + 1) ((k : Int) + 1)).isSome = false) := hide (by rw [hf]; rfl)
            clear hf
            have e0 : ordT f (8 * j + (k + 1)) = ordT f (8 * j + k) := by rw [unhide HST]; simp
            rw [← e0] at how
            clear e0
            have HB := hide ((unhide hbl).alloc hbs (.cells #[.int .i64 0, .int .i64 0, .int .i64 0] 32))
            have HO := hide ((unhide how).alloc (.cells #[.int .i64 0, .int .i64 0, .int .i64 0] 32))
            go_wp2_with (at_lookup; refine wpList_lookA _ rfl _ _ rfl b _ _ rfl (unhide HM) ((j : Int) + 1) ((k : Int) + 1) (unhide HWJ) (unhide HWK) rfl 0 0 0 false (unhide HA) (unhide HE) ?_)
            go_roundw
            case rel => exact ⟨k + 1, by omega, by go_num, HO, HB⟩
            case measure => simp [intOf]; omega
          | some m =>
            rw [hf] at HST
            obtain ⟨ke, ti, va⟩ := m
            have HA : Hid ((f ((j : Int) + 1) ((k : Int) + 1)).getD R.zero = ⟨ke, ti, va⟩) := hide (by rw [hf]; rfl)
            have HE : Hid ((f ((j : Int) + 1) ((k : Int) + 1)).isSome = true) := hide (by rw [hf]; rfl)
            clear hf
            have HTF : Hid (ordT f (8 * j + (k + 1)) = ordT f (8 * j + k) ++ [(⟨ke, ti, va⟩ : R)]) := HST
            have HBA := hide ((unhide hbl).alloc hbs (.cells #[.int .i64 ke, .int .i64 ti, .int .i64 va] 32))
            have HOA := hide ((unhide how).alloc (.cells #[.int .i64 ke, .int .i64 ti, .int .i64 va] 32))
            have hs1 : w.heap.size ≤ (wr.alloc (.cells #[.int .i64 ke, .int .i64 ti, .int .i64 va] 32)).heap.size := by simp; omega
            go_wp2_with (first | (at_lookup; refine wpList_lookA _ rfl _ _ rfl b _ _ rfl (unhide HM) ((j : Int) + 1) ((k : Int) + 1) (unhide HWJ) (unhide HWK) rfl ke ti va true (unhide HA) (unhide HE) ?_) | (at_builtin; refine wpList_apS ((unhide HOA).alloc _) (wr.heap.size + 1) 0 1 1 [(⟨ke, ti, va⟩ : R)] rfl (by have := rm_new (wr.alloc (.cells #[.int .i64 ke, .int .i64 ti, .int .i64 va] 32)) ⟨ke, ti, va⟩; simpa using this) (by simp only [List.length_cons, List.length_nil]; omega) (by simp; omega) rfl _ _ rfl rfl rfl ?_; intro v' w' ho hg; have HO : Hid (w'.ownsRow w.heap.size 32 3 v' (ordT f (8 * j + (k + 1))).length (flat (ordT f (8 * j + (k + 1))))) := hide (by rw [unhide HTF]; exact ho); have HB := hide (below_own ((unhide HBA).alloc hs1 _) ((unhide HOA).alloc _) hg (Nat.le_refl _) (by simp; omega)); clear ho hg))
            go_roundw
            case rel => exact ⟨k + 1, by omega, by go_num, HO, HB⟩
            case measure => simp [intOf]; omega
        · obtain rfl : k = 8 := by omega
          have HO : Hid (wr.ownsRow w.heap.size 32 3 u3 (ordT f (8 * (j + 1))).length (flat (ordT f (8 * (j + 1))))) := hide (by rw [show 8 * (j + 1) = 8 * j + 8 by omega]; exact unhide how)
          go_wp2_with fail
          go_roundw
          case rel => exact ⟨j + 1, by omega, by go_num, HO, hbl⟩
          case measure => simp [intOf]; omega
    · obtain rfl : j = 8 := by omega
      have HL := hide (lst_own rfl (unhide how0))
      go_wp2_with fail
      go_ret
      exact ⟨_, rfl, unhide hbl0, unhide HL⟩
end Tw
end Go.Proofs.Ytmelbilepfnmjab
