/-
  The model's contracts: Degree and FloodMprs.
-/
import Derived.Test.YtmelbilepfnmjapMprF
namespace Go.Proofs.Ytmelbilepfnmjap
open Go.ChangeShapes Go.WideShapes Go.ChangeAt Go.RowKit
set_option linter.unusedVariables false
set_option linter.unusedSimpArgs false
attribute [local go_sem ↓] Go.wp_at_zero Go.wp_at_succ
namespace Mr
open W1 Tu St Tw
def degA (ms : List R) (ls : List Lk.R) (me now addr : Int) : Int := if codeTL ms ls = 0 then (cntV (viaF ms ls now) (strF ms ls me now) addr : Int) else 0
def fldA (ms : List R) (ls : List Lk.R) (me now : Int) : List Int := if codeTL ms ls = 0 then fldV (viaF ms ls now) (strF ms ls me now) ls now else []
set_option maxRecDepth 100000 in
set_option maxHeartbeats 2000000 in
theorem specDegree (g off : Nat) (ms : List R) (cap : Nat) (b : Option Addr) (ls : List Lk.R) (capl : Nat) (me now addr : Int) (w : World) (hm : ms.length ≤ 1048576) (hl : ls.length ≤ 1048576) (hr : RM w (some ⟨g, off, none⟩) ms) (hr' : Lk.RM w b ls) :
    Calls Try.prog 11 #[.slice (some ⟨g, off, none⟩) ms.length cap, .slice b ls.length capl, .int .i64 me, .int .i64 now, .int .i64 addr] w fun e w' => e = .returned (.tuple #[.int .i64 (degA ms ls me now addr), .int .i64 (codeTL ms ls)]) ∧ Below w.heap.size w w' := by
  have HR := hide hr
  have HL := hide hr'
  clear hr hr'
  by_cases hb1 : (4096 : Int) < ms.length
  · have hc := codeTL_long (ms := ms) (ls := ls) (.inl (by omega))
    have ha : degA ms ls me now addr = 0 := by unfold degA; rw [hc]; simp
    rw [hc, ha]
    clear hc ha
    go_enter Try.func11, Try.ntmps11
    go_wp2_with fail
    go_ret2
    exact ⟨rfl, Below.refl _ _⟩
  by_cases hb2 : (4096 : Int) < ls.length
  · have hc := codeTL_long (ms := ms) (ls := ls) (.inr (by omega))
    have ha : degA ms ls me now addr = 0 := by unfold degA; rw [hc]; simp
    rw [hc, ha]
    clear hc ha
    go_enter Try.func11, Try.ntmps11
    go_wp2_with fail
    go_ret2
    exact ⟨rfl, Below.refl _ _⟩
  by_cases hc : codeTL ms ls = 0
  rotate_left
  · have h1 : degA ms ls me now addr = 0 := by unfold degA; rw [if_neg hc]
    rw [h1]
    clear h1
    generalize hcd : codeTL ms ls = cd at *
    have HC := hide hcd
    clear hcd
    have q1 : (cd != 0) = true := by simpa using hc
    go_enter Try.func11, Try.ntmps11
    go_wp2_with fail
    refine (l07Ask _ ms cap _ ls capl _ (by omega) (by omega) (unhide HR) (unhide HL)).mono ?_
    rintro e w1 ⟨rfl, b1⟩
    rw [unhide HC]
    have HB1 := hide b1
    clear b1
    go_wp2_with fail
    go_ret2
    exact ⟨rfl, unhide HB1⟩
  have h1 : degA ms ls me now addr = (cntV (viaF ms ls now) (strF ms ls me now) addr : Int) := by unfold degA; rw [if_pos hc]
  have HOK := hide (codeTL_ok hc)
  rw [h1, hc]
  have HC := hide hc
  clear h1 hc
  go_enter Try.func11, Try.ntmps11
  go_wp2_with fail
  refine (l07Ask _ ms cap _ ls capl _ (by omega) (by omega) (unhide HR) (unhide HL)).mono ?_
  rintro e w1 ⟨rfl, b1⟩
  rw [unhide HC]
  have HB1 := hide b1
  have HR1 := hide ((unhide HR).below b1)
  have HL1 := hide ((unhide HL).below b1)
  clear b1
  go_wp2_with fail
  refine (l08Degree g off ms cap _ ls capl me now addr _ (unhide HOK) (unhide HR1) (unhide HL1)).mono ?_
  rintro e w2 ⟨rfl, b2⟩
  have HB2 := hide ((unhide HB1).trans (b2.mono (unhide HB1).size))
  clear b2
  go_wp2_with fail
  go_ret2
  exact ⟨rfl, unhide HB2⟩
end Mr
end Go.Proofs.Ytmelbilepfnmjap
