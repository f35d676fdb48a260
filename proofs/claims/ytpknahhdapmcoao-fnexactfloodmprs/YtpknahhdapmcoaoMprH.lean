/-
  The model's contracts: how many relays there may be; Covers.
-/
import Derived.Test.YtpknahhdapmcoaoMprG
namespace Go.Proofs.Ytpknahhdapmcoao
open Go.ChangeShapes Go.WideShapes Go.ChangeAt Go.RowKit
set_option linter.unusedVariables false
set_option linter.unusedSimpArgs false
attribute [local go_sem ↓] Go.wp_at_zero Go.wp_at_succ
namespace Mr
open W1 Tu St Tw
/-- The code of a call with relays. -/
def codeM (ms : List R) (ls : List Lk.R) (rs : List Int) : Int := if 4096 < rs.length then 2 else if codeTL ms ls = 0 then (if 8 < rs.length then 6 else 0) else codeTL ms ls
theorem codeM_zero {ms : List R} {ls : List Lk.R} {rs : List Int} (h : codeM ms ls rs = 0) : codeTL ms ls = 0 ∧ rs.length ≤ 8 := by
  unfold codeM at h
  split at h
  · cases h
  · split at h
    · split at h
      · cases h
      · exact ⟨by assumption, by omega⟩
    · exact absurd h (by assumption)
theorem l08Mprs (b : Option Addr) (n capr : Nat) (w : World) (hn : n ≤ 1048576) : Calls Try.prog 51 #[.slice b n capr] w fun e w' => e = .returned (.int .i64 (if 4096 < n then 2 else if 8 < n then 6 else 0)) ∧ w' = w := by
  by_cases h1 : 4096 < n
  · have k1 : (4096 : Int) < (n : Int) := by omega
    rw [if_pos h1]
    clear h1
    go_enter Try.func51, Try.ntmps51
    go_wp2
    go_ret
    exact ⟨rfl, rfl⟩
  rw [if_neg h1]
  have k1 : ¬ (4096 : Int) < (n : Int) := by omega
  by_cases h2 : 8 < n
  · have k2 : (8 : Int) < (n : Int) := by omega
    rw [if_pos h2]
    clear h1 h2
    go_enter Try.func51, Try.ntmps51
    go_wp2
    go_ret
    exact ⟨rfl, rfl⟩
  · have k2 : ¬ (8 : Int) < (n : Int) := by omega
    rw [if_neg h2]
    clear h1 h2
    go_enter Try.func51, Try.ntmps51
    go_wp2
    go_ret
    exact ⟨rfl, rfl⟩
def covA (ms : List R) (ls : List Lk.R) (me now : Int) (rs : List Int) : Bool := decide (codeM ms ls rs = 0) && ((leftV (viaF ms ls now) (strF ms ls me now) rs).length == 0)
set_option maxRecDepth 100000 in
set_option maxHeartbeats 2000000 in
theorem specCovers (g off : Nat) (ms : List R) (cap : Nat) (b : Option Addr) (ls : List Lk.R) (capl : Nat) (me now : Int) (b2 : Option Addr) (rs : List Int) (capr : Nat) (w : World) (hm : ms.length ≤ 1048576) (hl : ls.length ≤ 1048576) (hrl : rs.length ≤ 1048576) (hr : RM w (some ⟨g, off, none⟩) ms) (hr' : Lk.RM w b ls) (hrr : In.RM w b2 rs) :
    Calls Try.prog 22 #[.slice (some ⟨g, off, none⟩) ms.length cap, .slice b ls.length capl, .int .i64 me, .int .i64 now, .slice b2 rs.length capr] w fun e w' => e = .returned (.tuple #[.bool (covA ms ls me now rs), .int .i64 (codeM ms ls rs)]) ∧ Below w.heap.size w w' := by
  have HR := hide hr
  have HL := hide hr'
  have HRR := hide hrr
  clear hr hr' hrr
  by_cases hb1 : (4096 : Int) < ms.length
  · have hc : codeM ms ls rs = 2 := by unfold codeM; rw [codeTL_long (ms := ms) (ls := ls) (.inl (by omega))]; split <;> rfl
    have ha : covA ms ls me now rs = false := by unfold covA; rw [decide_eq_false (by omega)]; rfl
    rw [hc, ha]
    clear hc ha
    go_enter Try.func22, Try.ntmps22
    go_wp2_with fail
    go_ret2
    exact ⟨rfl, Below.refl _ _⟩
  by_cases hb2 : (4096 : Int) < ls.length
  · have hc : codeM ms ls rs = 2 := by unfold codeM; rw [codeTL_long (ms := ms) (ls := ls) (.inr (by omega))]; split <;> rfl
    have ha : covA ms ls me now rs = false := by unfold covA; rw [decide_eq_false (by omega)]; rfl
    rw [hc, ha]
    clear hc ha
    go_enter Try.func22, Try.ntmps22
    go_wp2_with fail
    go_ret2
    exact ⟨rfl, Below.refl _ _⟩
  by_cases hb3 : (4096 : Int) < rs.length
  · have hc : codeM ms ls rs = 2 := by unfold codeM; rw [if_pos (by omega)]
    have ha : covA ms ls me now rs = false := by unfold covA; rw [decide_eq_false (by omega)]; rfl
    rw [hc, ha]
    clear hc ha
    go_enter Try.func22, Try.ntmps22
    go_wp2_with fail
    go_ret2
    exact ⟨rfl, Below.refl _ _⟩
  by_cases hc : codeTL ms ls = 0
  rotate_left
  · have hcm : codeM ms ls rs = codeTL ms ls := by unfold codeM; rw [if_neg (by omega), if_neg hc]
    have hc : ¬ codeM ms ls rs = 0 := by rw [hcm]; exact hc
    have ha : covA ms ls me now rs = false := by unfold covA; rw [decide_eq_false (by omega)]; rfl
    rw [ha, hcm]
    rw [hcm] at hc
    clear ha hcm
    generalize hcd : codeTL ms ls = cd at *
    have HC := hide hcd
    clear hcd
    have q1 : (cd != 0) = true := by simpa using hc
    go_enter Try.func22, Try.ntmps22
    go_wp2_with fail
    refine (l07Ask _ ms cap _ ls capl _ (by omega) (by omega) (unhide HR) (unhide HL)).mono ?_
    rintro e w1 ⟨rfl, b1⟩
    rw [unhide HC]
    have HB1 := hide b1
    clear b1
    go_wp2_with fail
    go_ret2
    exact ⟨rfl, unhide HB1⟩
  have HOK := hide (codeTL_ok hc)
  have HC := hide hc
  by_cases hb4 : 8 < rs.length
  · have hcm : codeM ms ls rs = 6 := by unfold codeM; rw [if_neg (by omega), if_pos hc, if_pos hb4]
    have hc : ¬ codeM ms ls rs = 0 := by rw [hcm]; decide
    have ha : covA ms ls me now rs = false := by unfold covA; rw [decide_eq_false (by omega)]; rfl
    rw [ha, hcm]
    clear ha hcm hc
    go_enter Try.func22, Try.ntmps22
    go_wp2_with fail
    refine (l07Ask _ ms cap _ ls capl _ (by omega) (by omega) (unhide HR) (unhide HL)).mono ?_
    rintro e w1 ⟨rfl, b1⟩
    rw [unhide HC]
    have HB1 := hide b1
    clear b1
    go_wp2_with fail
    refine (l08Mprs b2 rs.length capr _ hrl).mono ?_
    rintro e w2 ⟨rfl, hw2⟩
    rw [hw2, if_neg (by omega), if_pos hb4]
    clear hw2
    go_wp2_with fail
    go_ret2
    exact ⟨rfl, unhide HB1⟩
  have hcm : codeM ms ls rs = 0 := by unfold codeM; rw [if_neg (by omega), if_pos hc, if_neg hb4]
  have ha : covA ms ls me now rs = ((leftV (viaF ms ls now) (strF ms ls me now) rs).length == 0) := by unfold covA; rw [decide_eq_true hcm]; rfl
  have hll : (leftV (viaF ms ls now) (strF ms ls me now) rs).length ≤ 8 := Nat.le_trans (left_len _ _ _) (str_len _ _ _ _)
  rw [hcm, ha]
  obtain ⟨nl, hnl⟩ : ∃ nl, (leftV (viaF ms ls now) (strF ms ls me now) rs).length = nl := ⟨_, rfl⟩
  rw [hnl] at hll ⊢
  have HNL := hide hnl
  have hr8 : rs.length ≤ 64 := by omega
  clear ha hc hcm hnl
  go_enter Try.func22, Try.ntmps22
  go_wp2_with fail
  refine (l07Ask _ ms cap _ ls capl _ (by omega) (by omega) (unhide HR) (unhide HL)).mono ?_
  rintro e w1 ⟨rfl, b1⟩
  rw [unhide HC]
  have HB1 := hide b1
  have HR1 := hide ((unhide HR).below b1)
  have HL1 := hide ((unhide HL).below b1)
  have HRR1 := hide ((unhide HRR).below b1)
  clear b1
  go_wp2_with fail
  refine (l08Mprs b2 rs.length capr _ hrl).mono ?_
  rintro e w2 ⟨rfl, hw2⟩
  rw [hw2, if_neg (by omega), if_neg hb4]
  clear hw2
  go_wp2_with fail
  refine (l08Left g off ms cap _ ls capl me now b2 rs capr _ hr8 (unhide HOK) (unhide HR1) (unhide HL1) (unhide HRR1)).mono ?_
  rintro e w3 ⟨v3, rfl, b3, hl3⟩
  obtain ⟨a3, c3, rfl, l3⟩ := hl3
  rw [unhide HNL]
  have HB3 := hide ((unhide HB1).trans (b3.mono (unhide HB1).size))
  clear b3 l3
  rcases nl with _ | nl
  · go_wp2_with fail
    go_ret2
    exact ⟨rfl, unhide HB3⟩
  · go_wp2_with fail
    go_ret2
    exact ⟨rfl, unhide HB3⟩
end Mr
end Go.Proofs.Ytpknahhdapmcoao
