/-
  What hellos are, over lists of neighbors; contracts of what one neighbor is asked for.
-/
import Derived.Test.YtmelbilepfnmjakRecNeighbor
import Derived.Test.YtmelbilepfnmjakNums
import Derived.Test.YtmelbilepfnmjakTim
import Derived.Test.YtmelbilepfnmjakRise
import Derived.Test.YtmelbilepfnmjakRg
namespace Go.Proofs.Ytmelbilepfnmjak
open Go.ChangeShapes Go.WideShapes Go.ChangeAt Go.RowKit
set_option linter.unusedVariables false
set_option linter.unusedSimpArgs false
attribute [local go_sem ↓] Go.wp_at_zero Go.wp_at_succ
namespace Hl
open W1 Nb
/-- A metric that has a code of its own. -/
def exM (n : Int) : Bool := Mtr.met (Mtr.mcode n) == n
def toldB (n : Int) : Bool := inB n 1 16744192 && exM n
def nbB (m : R) : Bool := inB m.ad 1 8 && (inB m.st 0 2 && (inB m.mt 1 16744192 && (!m.mp || (m.st == 2))))
def okN (m : R) : Bool := nbB m && exM m.mt
abbrev allN (ms : List R) (j : Nat) : Bool := Ri.all R.zero okN R.ad ms j
/-- Whether a hello is right. -/
def helB (will valid : Int) (ms : List R) : Bool := inB will 0 7 && (Tim.valB valid && allN ms ms.length)
theorem ok_ad {m : R} (h : okN m = true) : 1 ≤ m.ad ∧ m.ad ≤ 8 := by
  unfold okN nbB inB at h; simp at h; exact ⟨h.1.1.1, h.1.1.2⟩
theorem ok_st {m : R} (h : okN m = true) : 0 ≤ m.st ∧ m.st ≤ 2 := by
  unfold okN nbB inB at h; simp at h; exact ⟨h.1.2.1.1, h.1.2.1.2⟩
theorem ok_mt {m : R} (h : okN m = true) : 1 ≤ m.mt ∧ m.mt ≤ 16744192 := by
  unfold okN nbB inB at h; simp at h; exact ⟨h.1.2.2.1.1, h.1.2.2.1.2⟩
theorem ok_ex {m : R} (h : okN m = true) : Mtr.met (Mtr.mcode m.mt) = m.mt := by
  unfold okN exM at h; rw [Bool.and_eq_true] at h; simpa using h.2
theorem ok_mp {m : R} (h : okN m = true) : m.mp = true → m.st = 2 := by
  unfold okN nbB at h; simp at h; intro hp; rcases h.1.2.2.2 with e | e
  · rw [hp] at e; cases e
  · exact e
theorem all_len {ms : List R} (h : allN ms ms.length = true) : ms.length ≤ 8 := by
  have := Ri.all_long (lo := 1) (hi := 8) (fun m hm => ok_ad hm) h; omega
theorem hel_len {will valid : Int} {ms : List R} (h : helB will valid ms = true) : ms.length ≤ 8 := by
  unfold helB at h; simp at h; exact all_len h.2.2
theorem hel_all {will valid : Int} {ms : List R} (h : helB will valid ms = true) : allN ms ms.length = true := by
  unfold helB at h; simp at h; exact h.2.2
theorem hel_will {will valid : Int} {ms : List R} (h : helB will valid ms = true) : 0 ≤ will ∧ will ≤ 7 := by
  unfold helB inB at h; simp at h; exact h.1
theorem hel_valid {will valid : Int} {ms : List R} (h : helB will valid ms = true) : 1 ≤ valid ∧ valid ≤ 10000 := by
  unfold helB Tim.valB inB at h; simp at h; exact h.2.1.1
theorem hel_exact {will valid : Int} {ms : List R} (h : helB will valid ms = true) : Tim.tim (Tim.tcode valid) = valid := by
  unfold helB Tim.valB Tim.exTB at h; simp at h; exact h.2.1.2
set_option maxHeartbeats 400000 in
theorem isTold (n : Int) (w : World) : Calls Try.prog 73 #[.int .i64 n] w fun e w' => e = .returned (.bool (toldB n)) ∧ w' = w := by
  cases h : inB n 1 16744192
  · go_enter Try.func73, Try.ntmps73
    go_wp2_with (go_at_call 70; refine (within _ _ _ _).mono ?_; rintro e w' ⟨rfl, rfl⟩)
    go_ret
    exact ⟨ret_bool (by simp [toldB, h]), rfl⟩
  · have h0 : 1 ≤ n ∧ n ≤ 16744192 := by simpa [inB] using h
    have HH := hide h
    have hk := (Mtr.mcode_is (n := n) (by omega) (by omega)).1
    have E : Hid (toldB n = (Mtr.met (Mtr.mcode n) == n)) := hide (by unfold toldB exM; rw [h]; rfl)
    generalize hq : Mtr.mcode n = k at *
    have HQ := hide hq
    clear hq
    cases hx : Mtr.met k == n
    all_goals
      go_enter Try.func73, Try.ntmps73
      go_wp2_with (first | (go_at_call 70; refine (within _ _ _ _).mono ?_; rintro e w' ⟨rfl, rfl⟩) | (go_at_call 58; refine (Mtr.leastMetric n (by omega) (by omega) _).mono ?_; rintro e w' ⟨rfl, rfl⟩; rw [unhide HQ]) | (go_at_call 84; refine (Mtr.metricAt k hk _).mono ?_; rintro e w' ⟨rfl, rfl⟩))
      go_ret
      exact ⟨ret_bool (by rw [unhide E, hx]), rfl⟩
set_option maxHeartbeats 1000000 in
theorem isNb (ad st mt : Int) (mp : Bool) (w : World) :
    Calls Try.prog 52 #[.agg #[.int .i64 ad, .int .i64 st, .int .i64 mt, .bool mp]] w fun e w' => e = .returned (.bool (okN ⟨ad, st, mt, mp⟩)) ∧ Below w.heap.size w w' := by
  have E : Hid (okN ⟨ad, st, mt, mp⟩ = (inB ad 1 8 && (inB st 0 2 && (toldB mt && (!mp || (st == 2)))))) := hide (by
    unfold okN nbB toldB; dsimp only
    cases inB ad 1 8 <;> cases inB st 0 2 <;> cases inB mt 1 16744192 <;> cases exM mt <;> cases mp <;> cases st == 2 <;> rfl)
  cases h1 : inB ad 1 8
  rotate_left
  cases h2 : inB st 0 2
  rotate_left
  cases h3 : toldB mt
  rotate_left
  cases mp
  rotate_left
  cases h5 : st == 2
  all_goals
    go_enter Try.func52, Try.ntmps52
    go_wp2_with (first | (go_at_call 70; refine (within _ _ _ _).mono ?_; rintro e w' ⟨rfl, rfl⟩) | (go_at_call 72; refine (isAddress _ _).mono ?_; rintro e w' ⟨rfl, rfl⟩) | (go_at_call 73; refine (isTold _ _).mono ?_; rintro e w' ⟨rfl, rfl⟩))
    go_ret
    exact ⟨ret_bool (by rw [unhide E]; simp [*]), (Below.refl _ _).alloc (Nat.le_refl _) _⟩
set_option maxHeartbeats 1000000 in
theorem l04Nb (ad st mt : Int) (mp : Bool) (w : World) :
    Calls Try.prog 47 #[.agg #[.int .i64 ad, .int .i64 st, .int .i64 mt, .bool mp]] w fun e w' => e = .returned (.bool (nbB ⟨ad, st, mt, mp⟩)) ∧ Below w.heap.size w w' := by
  cases h1 : inB ad 1 8
  rotate_left
  cases h2 : inB st 0 2
  rotate_left
  cases h3 : inB mt 1 16744192
  rotate_left
  cases mp
  rotate_left
  cases h5 : st == 2
  all_goals
    go_enter Try.func47, Try.ntmps47
    go_wp2_with (first | (go_at_call 36; refine (l01In _ _ _ _).mono ?_; rintro e w' ⟨rfl, rfl⟩) | (go_at_call 66; refine (l01Addr _ _).mono ?_; rintro e w' ⟨rfl, rfl⟩))
    go_ret
    exact ⟨ret_bool (by unfold nbB; simp [*]), (Below.refl _ _).alloc (Nat.le_refl _) _⟩
set_option maxHeartbeats 400000 in
theorem l04Ex (n : Int) (h0 : 1 ≤ n) (h1 : n ≤ 16744192) (w : World) : Calls Try.prog 48 #[.int .i64 n] w fun e w' => e = .returned (.bool (exM n)) ∧ w' = w := by
  have hk := (Mtr.mcode_is (n := n) (by omega) (by omega)).1
  have E : Hid (exM n = (Mtr.met (Mtr.mcode n) == n)) := hide rfl
  generalize hq : Mtr.mcode n = k at *
  have HQ := hide hq
  clear hq
  cases hx : Mtr.met k == n
  all_goals
    go_enter Try.func48, Try.ntmps48
    go_wp2_with (first | (go_at_call 68; refine (Mtr.l02MetricCodeE n (by omega) (by omega) _).mono ?_; rintro e w' ⟨rfl, rfl⟩; rw [unhide HQ]) | (go_at_call 67; refine (Mtr.l02Metric k hk _).mono ?_; rintro e w' ⟨rfl, rfl⟩))
    go_ret
    exact ⟨ret_bool (by rw [unhide E, hx]), rfl⟩
theorem isWill (n : Int) (w : World) : Calls Try.prog 50 #[.int .i64 n] w fun e w' => e = .returned (.bool (inB n 0 7)) ∧ w' = w := by
  go_enter Try.func50, Try.ntmps50
  go_wp2_with (go_at_call 70; refine (within _ _ _ _).mono ?_; rintro e w' ⟨rfl, rfl⟩)
  go_ret
  exact ⟨rfl, rfl⟩
end Hl
end Go.Proofs.Ytmelbilepfnmjak
