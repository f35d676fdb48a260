/-
  What advertisements are, over lists of edges; contracts of what one edge is asked for.
-/
import Derived.Test.YtilphgfjgeoiaaaRecEdge
import Derived.Test.YtilphgfjgeoiaaaNums
import Derived.Test.YtilphgfjgeoiaaaTim
import Derived.Test.YtilphgfjgeoiaaaRise
import Derived.Test.YtilphgfjgeoiaaaRg
namespace Go.Proofs.Ytilphgfjgeoiaaa
open Go.ChangeShapes Go.WideShapes Go.ChangeAt Go.RowKit
set_option linter.unusedVariables false
set_option linter.unusedSimpArgs false
attribute [local go_sem ↓] Go.wp_at_zero Go.wp_at_succ
namespace Av
open W1 Ed
/-- A metric that has a code of its own. -/
def exM (n : Int) : Bool := Mtr.met (Mtr.mcode n) == n
def toldB (n : Int) : Bool := inB n 1 16744192 && exM n
def okN (m : R) : Bool := inB m.ad 1 8 && toldB m.mt
abbrev allN (ms : List R) (j : Nat) : Bool := Ri.all R.zero okN R.ad ms j
/-- Whether an advertisement is right. -/
def tcB (ansn valid : Int) (ms : List R) : Bool := inB ansn 0 65535 && (Tim.valB valid && allN ms ms.length)
theorem ok_ad {m : R} (h : okN m = true) : 1 ≤ m.ad ∧ m.ad ≤ 8 := by
  unfold okN inB at h; simp at h; exact h.1
theorem ok_mt {m : R} (h : okN m = true) : 1 ≤ m.mt ∧ m.mt ≤ 16744192 := by
  unfold okN toldB inB at h; simp at h; exact h.2.1
theorem ok_ex {m : R} (h : okN m = true) : Mtr.met (Mtr.mcode m.mt) = m.mt := by
  unfold okN toldB exM at h; simp only [Bool.and_eq_true] at h; simpa using h.2.2
theorem all_len {ms : List R} (h : allN ms ms.length = true) : ms.length ≤ 8 := by
  have := Ri.all_long (lo := 1) (hi := 8) (fun m hm => ok_ad hm) h; omega
theorem tc_len {ansn valid : Int} {ms : List R} (h : tcB ansn valid ms = true) : ms.length ≤ 8 := by
  unfold tcB at h; simp at h; exact all_len h.2.2
theorem tc_all {ansn valid : Int} {ms : List R} (h : tcB ansn valid ms = true) : allN ms ms.length = true := by
  unfold tcB at h; simp at h; exact h.2.2
theorem tc_ansn {ansn valid : Int} {ms : List R} (h : tcB ansn valid ms = true) : 0 ≤ ansn ∧ ansn ≤ 65535 := by
  unfold tcB inB at h; simp at h; exact h.1
theorem tc_valid {ansn valid : Int} {ms : List R} (h : tcB ansn valid ms = true) : 1 ≤ valid ∧ valid ≤ 10000 := by
  unfold tcB Tim.valB inB at h; simp at h; exact h.2.1.1
theorem tc_exact {ansn valid : Int} {ms : List R} (h : tcB ansn valid ms = true) : Tim.tim (Tim.tcode valid) = valid := by
  unfold tcB Tim.valB Tim.exTB at h; simp at h; exact h.2.1.2
set_option maxHeartbeats 400000 in
theorem isTold (n : Int) (w : World) : Calls Try.prog 117 #[.int .i64 n] w fun e w' => e = .returned (.bool (toldB n)) ∧ w' = w := by
  cases h : inB n 1 16744192
  · go_enter Try.func117, Try.ntmps117
    go_wp2_with (go_at_call 46; refine (within _ _ _ _).mono ?_; rintro e w' ⟨rfl, rfl⟩)
    go_ret
    exact ⟨ret_bool (by simp [toldB, h]), rfl⟩
  · have h0 : 1 ≤ n ∧ n ≤ 16744192 := by simpa [inB] using h
    have HH := hide h
    have hk := (Mtr.mcode_is (n := n) (by omega) (by omega)).1
    have E : Hid (toldB n = (Mtr.met (Mtr.mcode n) == n)) := hide (by unfold toldB exM; rw [h]; rfl)
    generalize hq : Mtr.mcode n = k at *
    have HQ := hide hq
    clear hq
    cases hx : Mtr.met k == n
    all_goals
      go_enter Try.func117, Try.ntmps117
      go_wp2_with (first | (go_at_call 46; refine (within _ _ _ _).mono ?_; rintro e w' ⟨rfl, rfl⟩) | (go_at_call 122; refine (Mtr.leastMetric n (by omega) (by omega) _).mono ?_; rintro e w' ⟨rfl, rfl⟩; rw [unhide HQ]) | (go_at_call 121; refine (Mtr.metricAt k hk _).mono ?_; rintro e w' ⟨rfl, rfl⟩))
      go_ret
      exact ⟨ret_bool (by rw [unhide E, hx]), rfl⟩
set_option maxHeartbeats 1000000 in
theorem isEdge (ad mt : Int) (w : World) :
    Calls Try.prog 107 #[.agg #[.int .i64 ad, .int .i64 mt]] w fun e w' => e = .returned (.bool (okN ⟨ad, mt⟩)) ∧ Below w.heap.size w w' := by
  have E : Hid (okN ⟨ad, mt⟩ = (inB ad 1 8 && toldB mt)) := hide rfl
  cases h1 : inB ad 1 8
  rotate_left
  cases h3 : toldB mt
  all_goals
    go_enter Try.func107, Try.ntmps107
    go_wp2_with (first | (go_at_call 62; refine (isAddress _ _).mono ?_; rintro e w' ⟨rfl, rfl⟩) | (go_at_call 117; refine (isTold _ _).mono ?_; rintro e w' ⟨rfl, rfl⟩))
    go_ret
    exact ⟨ret_bool (by rw [unhide E]; simp [*]), (Below.refl _ _).alloc (Nat.le_refl _) _⟩
set_option maxHeartbeats 400000 in
theorem l04Ex (n : Int) (h0 : 1 ≤ n) (h1 : n ≤ 16744192) (w : World) : Calls Try.prog 57 #[.int .i64 n] w fun e w' => e = .returned (.bool (exM n)) ∧ w' = w := by
  have hk := (Mtr.mcode_is (n := n) (by omega) (by omega)).1
  have E : Hid (exM n = (Mtr.met (Mtr.mcode n) == n)) := hide rfl
  generalize hq : Mtr.mcode n = k at *
  have HQ := hide hq
  clear hq
  cases hx : Mtr.met k == n
  all_goals
    go_enter Try.func57, Try.ntmps57
    go_wp2_with (first | (go_at_call 98; refine (Mtr.l02MetricCodeE n (by omega) (by omega) _).mono ?_; rintro e w' ⟨rfl, rfl⟩; rw [unhide HQ]) | (go_at_call 97; refine (Mtr.l02Metric k hk _).mono ?_; rintro e w' ⟨rfl, rfl⟩))
    go_ret
    exact ⟨ret_bool (by rw [unhide E, hx]), rfl⟩
end Av
end Go.Proofs.Ytilphgfjgeoiaaa
