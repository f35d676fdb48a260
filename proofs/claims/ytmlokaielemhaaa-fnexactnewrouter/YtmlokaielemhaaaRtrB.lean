/-
  A new router, of the model and of the program. (written by mkrtrb.py)
-/
import Derived.Test.YtmlokaielemhaaaRtrA
import Derived.Test.YtmlokaielemhaaaRtrV
namespace Go.Proofs.Ytmlokaielemhaaa
open Go.ChangeShapes Go.WideShapes Go.ChangeAt Go.RowKit
set_option linter.unusedVariables false
set_option linter.unusedSimpArgs false
set_option maxRecDepth 100000
attribute [local go_sem ↓] Go.wp_at_zero Go.wp_at_succ
namespace Rt
open W1
/-- A router whose lists are empty. -/
def EV (x y z : Int) (v : Value) : Prop := ∃ a1 a2 a3 a4 a5 a6 a7 : Option Addr, v = .agg (rC x y z 0 0 (.slice a1 0 0) (.slice a2 0 0) (.slice a3 0 0) (.slice a4 0 0) (.slice a5 0 0) (.slice a6 0 0) (.slice a7 0 0) 0).toArray
theorem RA.alloc {w : World} {b : Nat} {cs : List Value} (h : RA w b cs) (ob : Obj) : RA (w.alloc ob) b cs := h.below ((Below.refl _ _).alloc (Nat.le_refl _) ob)
theorem bel_alloc {w w' : World} (h : Below w.heap.size w w') (ob : Obj) : Below w.heap.size w (w'.alloc ob) := h.alloc h.size ob
set_option maxHeartbeats 8000000 in
theorem l12New (x y z : Int) (w : World) : Calls Try.prog 80 #[.int .i64 x, .int .i64 y, .int .i64 z] w fun e w' => ∃ v, e = .returned v ∧ EV x y z v ∧ Below w.heap.size w w' := by
  go_enter Try.func80, Try.ntmps80
  go_wp2_with fail
  refine bodyPost_ret (resultsR rfl _ _ rfl (RA.alloc (RA.alloc (RA.alloc (RA.alloc (RA.alloc (RA.alloc (RA.alloc (ra_new w _ rfl _) _) _) _) _) _) _) _)) rfl ⟨_, rfl, ⟨_, _, _, _, _, _, _, rfl⟩, ?_⟩
  exact bel_alloc (bel_alloc (bel_alloc (bel_alloc (bel_alloc (bel_alloc (bel_alloc (bel_alloc (Below.refl _ _) _) _) _) _) _) _) _) _
set_option maxHeartbeats 8000000 in
theorem specNew (x y z : Int) (w : World) : Calls Try.prog 31 #[.int .i64 x, .int .i64 y, .int .i64 z] w fun e w' => ∃ v, e = .returned (.tuple #[v, .int .i64 (codeN x y z)]) ∧ EV (pickN x y z x) (pickN x y z y) (pickN x y z z) v ∧ Below w.heap.size w w' := by
  cases e1 : inB x 1 8
  · have P1 : pickN x y z x = 0 := by unfold pickN okN; simp [*]
    have P2 : pickN x y z y = 0 := by unfold pickN okN; simp [*]
    have P3 : pickN x y z z = 0 := by unfold pickN okN; simp [*]
    have P4 : codeN x y z = 4 := by unfold codeN okN; simp [*]
    rw [P1, P2, P3, P4]
    clear P1 P2 P3 P4
    go_enter Try.func31, Try.ntmps31
    go_wp2_with (first | (go_at_call 53; refine (l01Addr _ _).mono ?_; rintro e w' ⟨rfl, rfl⟩) | (go_at_call 54; refine (l01In _ _ _ _).mono ?_; rintro e w' ⟨rfl, rfl⟩))
    refine bodyPost_ret (resultsR2 rfl _ _ rfl (ra_new w _ rfl _) rfl) rfl ⟨_, rfl, ⟨_, _, _, _, _, _, _, rfl⟩, bel_alloc (Below.refl _ _) _⟩
  cases e2 : inB y 0 7
  · have P1 : pickN x y z x = 0 := by unfold pickN okN; simp [*]
    have P2 : pickN x y z y = 0 := by unfold pickN okN; simp [*]
    have P3 : pickN x y z z = 0 := by unfold pickN okN; simp [*]
    have P4 : codeN x y z = 4 := by unfold codeN okN; simp [*]
    rw [P1, P2, P3, P4]
    clear P1 P2 P3 P4
    go_enter Try.func31, Try.ntmps31
    go_wp2_with (first | (go_at_call 53; refine (l01Addr _ _).mono ?_; rintro e w' ⟨rfl, rfl⟩) | (go_at_call 54; refine (l01In _ _ _ _).mono ?_; rintro e w' ⟨rfl, rfl⟩))
    refine bodyPost_ret (resultsR2 rfl _ _ rfl (ra_new w _ rfl _) rfl) rfl ⟨_, rfl, ⟨_, _, _, _, _, _, _, rfl⟩, bel_alloc (Below.refl _ _) _⟩
  cases e3 : inB z 0 65535
  · have P1 : pickN x y z x = 0 := by unfold pickN okN; simp [*]
    have P2 : pickN x y z y = 0 := by unfold pickN okN; simp [*]
    have P3 : pickN x y z z = 0 := by unfold pickN okN; simp [*]
    have P4 : codeN x y z = 4 := by unfold codeN okN; simp [*]
    rw [P1, P2, P3, P4]
    clear P1 P2 P3 P4
    go_enter Try.func31, Try.ntmps31
    go_wp2_with (first | (go_at_call 53; refine (l01Addr _ _).mono ?_; rintro e w' ⟨rfl, rfl⟩) | (go_at_call 54; refine (l01In _ _ _ _).mono ?_; rintro e w' ⟨rfl, rfl⟩))
    refine bodyPost_ret (resultsR2 rfl _ _ rfl (ra_new w _ rfl _) rfl) rfl ⟨_, rfl, ⟨_, _, _, _, _, _, _, rfl⟩, bel_alloc (Below.refl _ _) _⟩
  · have P1 : pickN x y z x = x := by unfold pickN okN; rw [e1, e2, e3]; rfl
    have P2 : pickN x y z y = y := by unfold pickN okN; rw [e1, e2, e3]; rfl
    have P3 : pickN x y z z = z := by unfold pickN okN; rw [e1, e2, e3]; rfl
    have P4 : codeN x y z = 0 := by unfold codeN okN; rw [e1, e2, e3]; rfl
    rw [P1, P2, P3, P4]
    clear P1 P2 P3 P4
    go_enter Try.func31, Try.ntmps31
    go_wp2_with (first | (go_at_call 53; refine (l01Addr _ _).mono ?_; rintro e w' ⟨rfl, rfl⟩) | (go_at_call 54; refine (l01In _ _ _ _).mono ?_; rintro e w' ⟨rfl, rfl⟩))
    refine (l12New x y z _).mono ?_
    rintro e w2 ⟨v, rfl, ⟨a1, a2, a3, a4, a5, a6, a7, rfl⟩, b2⟩
    have HT := hide ((ra_new w (rC 0 0 0 0 0 (.slice none 0 0) (.slice none 0 0) (.slice none 0 0) (.slice none 0 0) (.slice none 0 0) (.slice none 0 0) (.slice none 0 0) 0) rfl 68).below b2).2.1
    have HB2 := hide ((bel_alloc (Below.refl w.heap.size w) (.cells (rC 0 0 0 0 0 (.slice none 0 0) (.slice none 0 0) (.slice none 0 0) (.slice none 0 0) (.slice none 0 0) (.slice none 0 0) (.slice none 0 0) 0).toArray 68)).trans (b2.mono (by simp)))
    clear b2
    go_wp2_with (refine wpList_storeR _ _ rfl rfl (rC x y z 0 0 (.slice a1 0 0) (.slice a2 0 0) (.slice a3 0 0) (.slice a4 0 0) (.slice a5 0 0) (.slice a6 0 0) (.slice a7 0 0) 0) (rC_ones rfl rfl rfl rfl rfl rfl rfl) rfl rfl (unhide HT) ?_; intro w5 ra5 bb5 hs5; have HR5 := hide ra5; have HB5 := hide (bb5 _ _ (unhide HB2) (Nat.le_refl _)); clear ra5 bb5 hs5)
    refine bodyPost_ret (resultsR2 rfl _ _ rfl (unhide HR5) rfl) rfl ⟨_, rfl, ⟨_, _, _, _, _, _, _, rfl⟩, unhide HB5⟩
set_option maxHeartbeats 8000000 in
theorem implNew (x y z : Int) (w : World) : Calls Try.prog 32 #[.int .i64 x, .int .i64 y, .int .i64 z] w fun e w' => ∃ v, e = .returned (.tuple #[v, .int .i64 (codeN x y z)]) ∧ EV (pickN x y z x) (pickN x y z y) (pickN x y z z) v ∧ Below w.heap.size w w' := by
  cases e1 : inB x 1 8
  · have P1 : pickN x y z x = 0 := by unfold pickN okN; simp [*]
    have P2 : pickN x y z y = 0 := by unfold pickN okN; simp [*]
    have P3 : pickN x y z z = 0 := by unfold pickN okN; simp [*]
    have P4 : codeN x y z = 4 := by unfold codeN okN; simp [*]
    rw [P1, P2, P3, P4]
    clear P1 P2 P3 P4
    go_enter Try.func32, Try.ntmps32
    go_wp2_with (first | (go_at_call 81; refine (isAddress _ _).mono ?_; rintro e w' ⟨rfl, rfl⟩) | (go_at_call 82; refine (isWillN _ _).mono ?_; rintro e w' ⟨rfl, rfl⟩) | (go_at_call 64; refine (isSeq _ _).mono ?_; rintro e w' ⟨rfl, rfl⟩))
    refine bodyPost_ret (resultsR2 rfl _ _ rfl (ra_new w _ rfl _) rfl) rfl ⟨_, rfl, ⟨_, _, _, _, _, _, _, rfl⟩, bel_alloc (Below.refl _ _) _⟩
  cases e2 : inB y 0 7
  · have P1 : pickN x y z x = 0 := by unfold pickN okN; simp [*]
    have P2 : pickN x y z y = 0 := by unfold pickN okN; simp [*]
    have P3 : pickN x y z z = 0 := by unfold pickN okN; simp [*]
    have P4 : codeN x y z = 4 := by unfold codeN okN; simp [*]
    rw [P1, P2, P3, P4]
    clear P1 P2 P3 P4
    go_enter Try.func32, Try.ntmps32
    go_wp2_with (first | (go_at_call 81; refine (isAddress _ _).mono ?_; rintro e w' ⟨rfl, rfl⟩) | (go_at_call 82; refine (isWillN _ _).mono ?_; rintro e w' ⟨rfl, rfl⟩) | (go_at_call 64; refine (isSeq _ _).mono ?_; rintro e w' ⟨rfl, rfl⟩))
    refine bodyPost_ret (resultsR2 rfl _ _ rfl (ra_new w _ rfl _) rfl) rfl ⟨_, rfl, ⟨_, _, _, _, _, _, _, rfl⟩, bel_alloc (Below.refl _ _) _⟩
  cases e3 : inB z 0 65535
  · have P1 : pickN x y z x = 0 := by unfold pickN okN; simp [*]
    have P2 : pickN x y z y = 0 := by unfold pickN okN; simp [*]
    have P3 : pickN x y z z = 0 := by unfold pickN okN; simp [*]
    have P4 : codeN x y z = 4 := by unfold codeN okN; simp [*]
    rw [P1, P2, P3, P4]
    clear P1 P2 P3 P4
    go_enter Try.func32, Try.ntmps32
    go_wp2_with (first | (go_at_call 81; refine (isAddress _ _).mono ?_; rintro e w' ⟨rfl, rfl⟩) | (go_at_call 82; refine (isWillN _ _).mono ?_; rintro e w' ⟨rfl, rfl⟩) | (go_at_call 64; refine (isSeq _ _).mono ?_; rintro e w' ⟨rfl, rfl⟩))
    refine bodyPost_ret (resultsR2 rfl _ _ rfl (ra_new w _ rfl _) rfl) rfl ⟨_, rfl, ⟨_, _, _, _, _, _, _, rfl⟩, bel_alloc (Below.refl _ _) _⟩
  · have P1 : pickN x y z x = x := by unfold pickN okN; rw [e1, e2, e3]; rfl
    have P2 : pickN x y z y = y := by unfold pickN okN; rw [e1, e2, e3]; rfl
    have P3 : pickN x y z z = z := by unfold pickN okN; rw [e1, e2, e3]; rfl
    have P4 : codeN x y z = 0 := by unfold codeN okN; rw [e1, e2, e3]; rfl
    rw [P1, P2, P3, P4]
    clear P1 P2 P3 P4
    go_enter Try.func32, Try.ntmps32
    go_wp2_with (first | (go_at_call 81; refine (isAddress _ _).mono ?_; rintro e w' ⟨rfl, rfl⟩) | (go_at_call 82; refine (isWillN _ _).mono ?_; rintro e w' ⟨rfl, rfl⟩) | (go_at_call 64; refine (isSeq _ _).mono ?_; rintro e w' ⟨rfl, rfl⟩))
    refine bodyPost_ret (resultsR2 rfl _ _ rfl (ra_new w _ rfl _) rfl) rfl ⟨_, rfl, ⟨_, _, _, _, _, _, _, rfl⟩, bel_alloc (Below.refl _ _) _⟩
end Rt
end Go.Proofs.Ytmlokaielemhaaa
