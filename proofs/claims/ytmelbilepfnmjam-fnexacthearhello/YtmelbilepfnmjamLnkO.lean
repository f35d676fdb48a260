/-
  The program's contract over links: a map's links in the order of their addresses (linksInOrder).
-/
import Derived.Test.YtmelbilepfnmjamLnkP
namespace Go.Proofs.Ytmelbilepfnmjam
open Go.ChangeShapes Go.WideShapes Go.ChangeAt Go.RowKit
set_option linter.unusedVariables false
set_option linter.unusedSimpArgs false
attribute [local go_sem ↓] Go.wp_at_zero Go.wp_at_succ
namespace Ln
open W1 Lk Mp
set_option maxRecDepth 100000 in
set_option maxHeartbeats 4000000 in
theorem linksInOrder (b n : Nat) (f : Int → Option R) (w : World) (hn : n ≤ 64) (hom : OM w b n f) :
    Calls Try.prog 51 #[.map (some b)] w fun e w' => ∃ v, e = .returned v ∧ Below w.heap.size w w' ∧ LstV w' v (ordL f 8) w.heap.size w'.heap.size := by
  obtain ⟨q, hqn, hlen⟩ := hom.size
  have HOM := hide hom
  clear hom
  obtain ⟨i0, hi, hz0, hz1, hz2⟩ := infoR
  obtain ⟨wm, hmk, hmown, hmgrow⟩ := run_make_own (P := Try.prog) w w.heap.size 25 32 i0 _ 6 Try.underlying25 hi hz0 hz1 .i64 .i64 q (by rw [hz2]; omega) (by unfold maxLen; omega) (Nat.le_refl _)
  have OW : Hid (wm.ownsRow w.heap.size 32 6 (.slice (some ⟨w.heap.size, 0, none⟩) 0 q) (ordL f 0).length (flat (ordL f 0))) := hide hmown
  have DM : Hid (Below w.heap.size w wm) := hide ((Below.refl _ _).grown hmgrow (Nat.le_refl _) (fun k hk => by cases hk))
  clear hi hz0 hz1 hz2 hmown hmgrow
  go_enter Try.func51, Try.ntmps51
  go_wp2_with fail
  clear hmk hlen
  go_loopw [3, 4] (fun v i wr => ∃ j : Nat, j ≤ 8 ∧ i = .int .i64 ((j : Int) + 1) ∧ Hid (wr.ownsRow w.heap.size 32 6 v (ordL f j).length (flat (ordL f j))) ∧ Hid (Below w.heap.size w wr)) (fun _ i _ => 9 - (intOf i).toNat)
  case atStart => exact ⟨0, by omega, rfl, OW, DM⟩
  case round =>
    obtain ⟨j, hj, rfl, how, hbl⟩ := hrel
    have hbs := (unhide hbl).size
    have hfl := ordL_len f j
    by_cases hlt : (j : Int) + 1 ≤ 8
    · have HM := hide ((unhide HOM).below (unhide hbl))
      have HWK : Hid ((Lit.int .i64 ((j : Int) + 1)).wf = true) := hide (WalkArith.wf_i64 ⟨by omega, by omega⟩)
      have HST := hide (ordL_succ f j)
      have HAA := hide (show ∃ A, (f ((j : Int) + 1)).getD R.zero = A from ⟨_, rfl⟩)
      cases hf : f ((j : Int) + 1) with
      | none =>
        rw [hf] at HST
        have HA : Hid ((f ((j : Int) + 1)).getD R.zero = ⟨0, 0, 0, 0, 0, 0⟩) := hide (by rw [hf]; rfl)
        have HE : Hid ((f ((j : Int) + 1)).isSome = false) := hide (by rw [hf]; rfl)
        clear hf HAA
        have e0 : ordL f (j + 1) = ordL f j := by rw [unhide HST]; simp
        rw [← e0] at how
        clear e0
        have HB := hide ((unhide hbl).alloc hbs (.cells #[.int .i64 0, .int .i64 0, .int .i64 0, .int .i64 0, .int .i64 0, .int .i64 0] 32))
        have HO := hide ((unhide how).alloc (.cells #[.int .i64 0, .int .i64 0, .int .i64 0, .int .i64 0, .int .i64 0, .int .i64 0] 32))
        go_wp2_with (at_lookup; refine wpList_lookA _ rfl _ _ rfl b _ _ rfl (unhide HM) ((j : Int) + 1) (unhide HWK) rfl 0 0 0 0 0 0 false (unhide HA) (unhide HE) ?_)
        go_roundw
        case rel => exact ⟨j + 1, by omega, by go_num, HO, HB⟩
        case measure => simp [intOf]; omega
      | some m =>
        rw [hf] at HST
        obtain ⟨ad, hd, sy, ci, co, wl⟩ := m
        have HA : Hid ((f ((j : Int) + 1)).getD R.zero = ⟨ad, hd, sy, ci, co, wl⟩) := hide (by rw [hf]; rfl)
        have HE : Hid ((f ((j : Int) + 1)).isSome = true) := hide (by rw [hf]; rfl)
        clear hf HAA
        have HTF : Hid (ordL f (j + 1) = ordL f j ++ [(⟨ad, hd, sy, ci, co, wl⟩ : R)]) := HST
        have HBA := hide ((unhide hbl).alloc hbs (.cells #[.int .i64 ad, .int .i64 hd, .int .i64 sy, .int .i64 ci, .int .i64 co, .int .i64 wl] 32))
        have HOA := hide ((unhide how).alloc (.cells #[.int .i64 ad, .int .i64 hd, .int .i64 sy, .int .i64 ci, .int .i64 co, .int .i64 wl] 32))
        have hs1 : w.heap.size ≤ (wr.alloc (.cells #[.int .i64 ad, .int .i64 hd, .int .i64 sy, .int .i64 ci, .int .i64 co, .int .i64 wl] 32)).heap.size := by simp; omega
        go_wp2_with (first | (at_lookup; refine wpList_lookA _ rfl _ _ rfl b _ _ rfl (unhide HM) ((j : Int) + 1) (unhide HWK) rfl ad hd sy ci co wl true (unhide HA) (unhide HE) ?_) | (at_builtin; refine wpList_apS ((unhide HOA).alloc _) (wr.heap.size + 1) 0 1 1 [(⟨ad, hd, sy, ci, co, wl⟩ : R)] rfl (by have := rm_new (wr.alloc (.cells #[.int .i64 ad, .int .i64 hd, .int .i64 sy, .int .i64 ci, .int .i64 co, .int .i64 wl] 32)) ⟨ad, hd, sy, ci, co, wl⟩; simpa using this) (by simp only [List.length_cons, List.length_nil]; omega) (by simp; omega) rfl _ _ rfl rfl rfl ?_; intro v' w' ho hg; have HO : Hid (w'.ownsRow w.heap.size 32 6 v' (ordL f (j + 1)).length (flat (ordL f (j + 1)))) := hide (by rw [unhide HTF]; exact ho); have HB := hide (below_own ((unhide HBA).alloc hs1 _) ((unhide HOA).alloc _) hg (Nat.le_refl _) (by simp; omega)); clear ho hg))
        go_roundw
        case rel => exact ⟨j + 1, by omega, by go_num, HO, HB⟩
        case measure => simp [intOf]; omega
    · obtain rfl : j = 8 := by omega
      have HL := hide (lst_own rfl (unhide how))
      go_wp2_with fail
      go_ret
      exact ⟨_, rfl, unhide hbl, unhide HL⟩
end Ln
end Go.Proofs.Ytmelbilepfnmjam
