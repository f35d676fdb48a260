/-
  What links are, over lists; the model's contracts of one link: whether it is right, its status. (Written ahead of stage 6, at a trial seat.)
-/
import Derived.Test.YtilphgfjgeoiaaaRecLink
import Derived.Test.YtilphgfjgeoiaaaRise
import Derived.Test.YtilphgfjgeoiaaaRg
import Derived.Deep.QuietTactic
import Derived.BigQuiet
namespace Go.Proofs.Ytilphgfjgeoiaaa
open Go.ChangeShapes Go.WideShapes Go.ChangeAt Go.RowKit
set_option linter.unusedVariables false
set_option linter.unusedSimpArgs false
attribute [local go_sem ↓] Go.wp_at_zero Go.wp_at_succ
namespace Ln
open W1 Lk
def okL (m : R) : Bool := inB m.ad 1 8 && (inB m.hd 0 1073741824 && (inB m.sy 0 1073741824 && (inB m.ci 1 256 && (inB m.co 0 16744448 && inB m.wl 0 7))))
abbrev allL (ms : List R) (j : Nat) : Bool := Ri.all R.zero okL R.ad ms j
/-- Whether links are right. -/
def linksB (ms : List R) : Bool := allL ms ms.length
/-- The code of a list of links: too long, not right, or none. -/
def codeL (ms : List R) : Int := if 4096 < ms.length then 2 else if linksB ms = true then 0 else 1
/-- A link's status at a time. -/
def statusV (m : R) (now : Int) : Int := if m.hd ≤ now then 0 else if now < m.sy then 2 else 1
theorem ok_ad {m : R} (h : okL m = true) : 1 ≤ m.ad ∧ m.ad ≤ 8 := by
  unfold okL inB at h; simp at h; exact h.1
theorem ok_hd {m : R} (h : okL m = true) : 0 ≤ m.hd ∧ m.hd ≤ 1073741824 := by
  unfold okL inB at h; simp at h; exact h.2.1
theorem ok_sy {m : R} (h : okL m = true) : 0 ≤ m.sy ∧ m.sy ≤ 1073741824 := by
  unfold okL inB at h; simp at h; exact h.2.2.1
theorem ok_ci {m : R} (h : okL m = true) : 1 ≤ m.ci ∧ m.ci ≤ 256 := by
  unfold okL inB at h; simp at h; exact h.2.2.2.1
theorem ok_co {m : R} (h : okL m = true) : 0 ≤ m.co ∧ m.co ≤ 16744448 := by
  unfold okL inB at h; simp at h; exact h.2.2.2.2.1
theorem ok_wl {m : R} (h : okL m = true) : 0 ≤ m.wl ∧ m.wl ≤ 7 := by
  unfold okL inB at h; simp at h; exact h.2.2.2.2.2
theorem links_len {ms : List R} (h : linksB ms = true) : ms.length ≤ 8 := by
  have := Ri.all_long (lo := 1) (hi := 8) (fun m hm => ok_ad hm) h; omega
theorem code_long {ms : List R} (h : 4096 < ms.length) : codeL ms = 2 := by unfold codeL; rw [if_pos h]
theorem code_bad {ms : List R} (h : ¬ 4096 < ms.length) (hs : linksB ms = false) : codeL ms = 1 := by unfold codeL; rw [if_neg h, if_neg (by simp [hs])]
theorem code_zero {ms : List R} (h : linksB ms = true) : codeL ms = 0 := by
  have := links_len h
  unfold codeL; rw [if_neg (by omega), if_pos h]
theorem status_in (m : R) (now : Int) : 0 ≤ statusV m now ∧ statusV m now ≤ 2 := by unfold statusV; split <;> (try split) <;> omega
set_option maxHeartbeats 1000000 in
theorem l06Link (ad hd sy ci co wl : Int) (w : World) :
    Calls Try.prog 95 #[.agg #[.int .i64 ad, .int .i64 hd, .int .i64 sy, .int .i64 ci, .int .i64 co, .int .i64 wl]] w fun e w' => e = .returned (.bool (okL ⟨ad, hd, sy, ci, co, wl⟩)) ∧ Below w.heap.size w w' := by
  have E : Hid (okL ⟨ad, hd, sy, ci, co, wl⟩ = (inB ad 1 8 && (inB hd 0 1073741824 && (inB sy 0 1073741824 && (inB ci 1 256 && (inB co 0 16744448 && inB wl 0 7)))))) := hide rfl
  cases h1 : inB ad 1 8
  rotate_left
  cases h2 : inB hd 0 1073741824
  rotate_left
  cases h3 : inB sy 0 1073741824
  rotate_left
  cases h4 : inB ci 1 256
  rotate_left
  cases h5 : inB co 0 16744448
  rotate_left
  cases h6 : inB wl 0 7
  all_goals
    go_enter Try.func95, Try.ntmps95
    go_wp2_with (first | (go_at_call 35; refine (l01In _ _ _ _).mono ?_; rintro e w' ⟨rfl, rfl⟩) | (go_at_call 34; refine (l01Addr _ _).mono ?_; rintro e w' ⟨rfl, rfl⟩))
    go_ret
    exact ⟨ret_bool (by rw [unhide E]; simp [*]), (Below.refl _ _).alloc (Nat.le_refl _) _⟩
theorem isWill (n : Int) (w : World) : Calls Try.prog 63 #[.int .i64 n] w fun e w' => e = .returned (.bool (inB n 0 7)) ∧ w' = w := by
  go_enter Try.func63, Try.ntmps63
  go_wp2_with (go_at_call 46; refine (within _ _ _ _).mono ?_; rintro e w' ⟨rfl, rfl⟩)
  go_ret
  exact ⟨rfl, rfl⟩
theorem isIn (n : Int) (w : World) : Calls Try.prog 120 #[.int .i64 n] w fun e w' => e = .returned (.bool (inB n 1 256)) ∧ w' = w := by
  go_enter Try.func120, Try.ntmps120
  go_wp2_with (go_at_call 46; refine (within _ _ _ _).mono ?_; rintro e w' ⟨rfl, rfl⟩)
  go_ret
  exact ⟨rfl, rfl⟩
theorem isNow (n : Int) (w : World) : Calls Try.prog 77 #[.int .i64 n] w fun e w' => e = .returned (.bool (inB n 0 1000000)) ∧ w' = w := by
  go_enter Try.func77, Try.ntmps77
  go_wp2_with (go_at_call 46; refine (within _ _ _ _).mono ?_; rintro e w' ⟨rfl, rfl⟩)
  go_ret
  exact ⟨rfl, rfl⟩
set_option maxHeartbeats 1000000 in
theorem isLink (ad hd sy ci co wl : Int) (w : World) :
    Calls Try.prog 116 #[.agg #[.int .i64 ad, .int .i64 hd, .int .i64 sy, .int .i64 ci, .int .i64 co, .int .i64 wl]] w fun e w' => e = .returned (.bool (okL ⟨ad, hd, sy, ci, co, wl⟩)) ∧ Below w.heap.size w w' := by
  have E : Hid (okL ⟨ad, hd, sy, ci, co, wl⟩ = (inB ad 1 8 && (inB hd 0 1073741824 && (inB sy 0 1073741824 && (inB ci 1 256 && (inB co 0 16744448 && inB wl 0 7)))))) := hide rfl
  cases h1 : inB ad 1 8
  rotate_left
  cases h2 : inB hd 0 1073741824
  rotate_left
  cases h3 : inB sy 0 1073741824
  rotate_left
  cases h4 : inB ci 1 256
  rotate_left
  cases h5 : inB co 0 16744448
  rotate_left
  cases h6 : inB wl 0 7
  all_goals
    go_enter Try.func116, Try.ntmps116
    go_wp2_with (first | (go_at_call 46; refine (within _ _ _ _).mono ?_; rintro e w' ⟨rfl, rfl⟩) | (go_at_call 62; refine (isAddress _ _).mono ?_; rintro e w' ⟨rfl, rfl⟩) | (go_at_call 120; refine (isIn _ _).mono ?_; rintro e w' ⟨rfl, rfl⟩) | (go_at_call 63; refine (isWill _ _).mono ?_; rintro e w' ⟨rfl, rfl⟩))
    go_ret
    exact ⟨ret_bool (by rw [unhide E]; simp [*]), (Below.refl _ _).alloc (Nat.le_refl _) _⟩
end Ln
end Go.Proofs.Ytilphgfjgeoiaaa
