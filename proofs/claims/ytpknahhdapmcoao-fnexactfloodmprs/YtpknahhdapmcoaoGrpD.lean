/-
  The program's contracts: codes of calls with relays, Degree, Covers.
-/
import Derived.Test.YtpknahhdapmcoaoGrpC
import Derived.Test.YtpknahhdapmcoaoMprH
namespace Go.Proofs.Ytpknahhdapmcoao
open Go.ChangeShapes Go.WideShapes Go.ChangeAt Go.RowKit
set_option linter.unusedVariables false
set_option linter.unusedSimpArgs false
attribute [local go_sem ↓] Go.wp_at_zero Go.wp_at_succ
namespace Gp
open W1 Tu St Tw Mr Mt
theorem any_iff {L : List Int} {p : Int → Bool} : L.any p = true ↔ ∃ a ∈ L, p a = true := by rw [List.any_eq_true]
theorem re_any {S : List Int} {via : Int → List Int} {c : Int → Bool} {z : Int} (h : ∀ a ∈ via z, 1 ≤ a ∧ a ≤ 8) : reB S via (strN c 8) z = (S.contains z && (via z).any c) := by
  unfold reB rB
  rw [Bool.eq_iff_iff, Bool.and_eq_true, any_iff, any_iff]
  constructor
  · rintro ⟨a, ha, hb⟩
    rw [Bool.and_eq_true] at hb
    exact ⟨hb.1, a, List.contains_iff_mem.1 hb.2, (str_mem.1 ha).2.2⟩
  · rintro ⟨hs, a, ha, hb⟩
    have := h a ha
    exact ⟨a, str_mem.2 ⟨this.1, this.2, hb⟩, by rw [hs, List.contains_iff_mem.2 ha]; rfl⟩
theorem any_has {L rs : List Int} : L.any (fun a => rs.contains a) = rs.any (fun r => L.contains r) := by
  rw [Bool.eq_iff_iff, any_iff, any_iff]
  constructor
  · rintro ⟨a, h1, h2⟩; exact ⟨a, List.contains_iff_mem.1 h2, List.contains_iff_mem.2 h1⟩
  · rintro ⟨a, h1, h2⟩; exact ⟨a, List.contains_iff_mem.1 h2, List.contains_iff_mem.2 h1⟩
/-- Who is not reached. -/
theorem left_zero {S : List Int} {via : Int → List Int} {c : Int → Bool} {rs : List Int} (hS : ∀ z ∈ S, 1 ≤ z ∧ z ≤ 8) (hv : ∀ z, ∀ a ∈ via z, 1 ≤ a ∧ a ≤ 8) (hc : ∀ a, 1 ≤ a → a ≤ 8 → c a = rs.contains a) :
    covB S via (strN c 8) = ((leftV via S rs).length == 0) := by
  unfold covB
  rw [Bool.eq_iff_iff, beq_iff_eq, beq_iff_eq, gN_zero, str_zero, List.length_eq_zero_iff]
  unfold leftV
  rw [List.filter_eq_nil_iff]
  have key : ∀ z, (via z).any c = hitV via rs z := fun z => by
    unfold hitV
    rw [← any_has, Bool.eq_iff_iff, any_iff, any_iff]
    constructor
    · rintro ⟨a, h1, h2⟩; have := hv z a h1; exact ⟨a, h1, by rw [← hc a this.1 this.2]; exact h2⟩
    · rintro ⟨a, h1, h2⟩; have := hv z a h1; exact ⟨a, h1, by rw [hc a this.1 this.2]; exact h2⟩
  constructor
  · intro h z hz
    have h1 := hS z hz
    have h2 := h z h1.1 h1.2
    rw [re_any (hv z), key, List.contains_iff_mem.2 hz] at h2
    simpa using h2
  · intro h z h1 h2
    rw [re_any (hv z), key]
    cases hz : S.contains z
    · rfl
    · have := h z (List.contains_iff_mem.1 hz)
      simpa using this
theorem deg_eq {cd : Int → Bool} {via : Int → List Int} {a : Int} (hv : ∀ z, ∀ a ∈ via z, 1 ≤ a ∧ a ≤ 8) :
    (strN (reB (strN cd 8) via (strN (fun z => [a].contains z) 8)) 8).length = cntV via (strN cd 8) a := by
  unfold cntV
  rw [str_filter]
  congr 1
  refine str_same (fun z h1 h2 => ?_)
  rw [re_any (hv z), any_has]
  have : (strN cd 8).contains z = cd z := by
    rw [Bool.eq_iff_iff, List.contains_iff_mem, str_mem]
    exact ⟨fun h => h.2.2, fun h => ⟨h1, h2, h⟩⟩
  rw [this]; simp
set_option maxHeartbeats 2000000 in
theorem relaysCode (a : Option Addr) (ms : List R) (cap : Nat) (b : Option Addr) (ls : List Lk.R) (capl : Nat) (b2 : Option Addr) (rs : List Int) (capr : Nat) (w : World) (hm : ms.length ≤ 1048576) (hl : ls.length ≤ 1048576) (hrl : rs.length ≤ 1048576) (hr : RM w a ms) (hr' : Lk.RM w b ls) :
    Calls Try.prog 37 #[.slice a ms.length cap, .slice b ls.length capl, .slice b2 rs.length capr] w fun e w' => e = .returned (.int .i64 (codeM ms ls rs)) ∧ Below w.heap.size w w' := by
  have HR := hide hr
  have HL := hide hr'
  clear hr hr'
  by_cases h1 : 4096 < rs.length
  · have k1 : (4096 : Int) < rs.length := by omega
    rw [show codeM ms ls rs = 2 by unfold codeM; rw [if_pos h1]]
    clear h1
    go_enter Try.func37, Try.ntmps37
    go_wp2_with fail
    go_ret
    exact ⟨rfl, Below.refl _ _⟩
  have k1 : ¬ (4096 : Int) < rs.length := by omega
  by_cases hc : codeTL ms ls = 0
  rotate_left
  · rw [show codeM ms ls rs = codeTL ms ls by unfold codeM; rw [if_neg h1, if_neg hc]]
    generalize hcd : codeTL ms ls = cd at *
    have HC := hide hcd
    clear hcd
    have q1 : (cd != 0) = true := by simpa using hc
    go_enter Try.func37, Try.ntmps37
    go_wp2_with fail
    refine (twoLinksCode _ ms cap _ ls capl _ hm hl (unhide HR) (unhide HL)).mono ?_
    rintro e w1 ⟨rfl, b1⟩
    rw [unhide HC]
    have HB1 := hide b1
    clear b1
    go_wp2_with fail
    go_ret
    exact ⟨rfl, unhide HB1⟩
  have HC := hide hc
  by_cases h2 : 8 < rs.length
  · have k2 : (8 : Int) < rs.length := by omega
    rw [show codeM ms ls rs = 6 by unfold codeM; rw [if_neg h1, if_pos hc, if_pos h2]]
    clear h1 h2 hc
    go_enter Try.func37, Try.ntmps37
    go_wp2_with fail
    refine (twoLinksCode _ ms cap _ ls capl _ hm hl (unhide HR) (unhide HL)).mono ?_
    rintro e w1 ⟨rfl, b1⟩
    rw [unhide HC]
    have HB1 := hide b1
    clear b1
    go_wp2_with fail
    go_ret
    exact ⟨rfl, unhide HB1⟩
  · have k2 : ¬ (8 : Int) < rs.length := by omega
    rw [show codeM ms ls rs = 0 by unfold codeM; rw [if_neg h1, if_pos hc, if_neg h2]]
    clear h1 h2 hc
    go_enter Try.func37, Try.ntmps37
    go_wp2_with fail
    refine (twoLinksCode _ ms cap _ ls capl _ hm hl (unhide HR) (unhide HL)).mono ?_
    rintro e w1 ⟨rfl, b1⟩
    rw [unhide HC]
    have HB1 := hide b1
    clear b1
    go_wp2_with fail
    go_ret
    exact ⟨rfl, unhide HB1⟩
theorem codeM_nil (ms : List R) (ls : List Lk.R) : codeM ms ls [] = codeTL ms ls := by
  unfold codeM
  rw [if_neg (by simp)]
  split
  · rename_i h; rw [h]; simp
  · rfl
set_option maxRecDepth 100000 in
set_option maxHeartbeats 2000000 in
theorem implCovers (a : Option Addr) (ms : List R) (cap : Nat) (b : Option Addr) (ls : List Lk.R) (capl : Nat) (me now : Int) (b2 : Option Addr) (rs : List Int) (capr : Nat) (w : World) (hm : ms.length ≤ 1048576) (hl : ls.length ≤ 1048576) (hrl : rs.length ≤ 1048576) (hr : RM w a ms) (hr' : Lk.RM w b ls) (hrr : In.RM w b2 rs) :
    Calls Try.prog 24 #[.slice a ms.length cap, .slice b ls.length capl, .int .i64 me, .int .i64 now, .slice b2 rs.length capr] w fun e w' => e = .returned (.tuple #[.bool (covA ms ls me now rs), .int .i64 (codeM ms ls rs)]) ∧ Below w.heap.size w w' := by
  have HRC := hide (fun W h1 h2 => relaysCode a ms cap b ls capl b2 rs capr W hm hl hrl h1 h2)
  have HR := hide hr
  have HL := hide hr'
  have HRR := hide hrr
  clear hr hr' hrr
  by_cases hc : codeM ms ls rs = 0
  rotate_left
  · have h1 : covA ms ls me now rs = false := by unfold covA; rw [decide_eq_false hc]; rfl
    rw [h1]
    clear h1
    generalize hcd : codeM ms ls rs = cd at *
    clear hcd
    have q1 : (cd != 0) = true := by simpa using hc
    go_enter Try.func24, Try.ntmps24
    go_wp2_with fail
    refine (unhide HRC _ (unhide HR) (unhide HL)).mono ?_
    rintro e w1 ⟨rfl, b1⟩
    have HB1 := hide b1
    clear b1
    go_wp2_with fail
    go_ret2
    exact ⟨rfl, unhide HB1⟩
  have hr8 := (codeM_zero hc).2
  have HOK := hide (codeTL_ok (codeM_zero hc).1)
  have h1 : covA ms ls me now rs = ((leftV (viaF ms ls now) (strF ms ls me now) rs).length == 0) := by unfold covA; rw [decide_eq_true hc]; rfl
  have h2 := left_zero (S := strF ms ls me now) (via := viaF ms ls now) (c := fun z => rs.contains z) (rs := rs) str_rng2 (fun z => via_rng (unhide HOK).2) (fun _ _ _ => rfl)
  rw [h1, ← h2]
  rw [hc] at HRC ⊢
  clear hc h1 h2
  generalize hc1 : (fun z => rs.contains z) = c1 at *
  have HGL : Hid (gL rs = gN c1) := hide (by rw [← hc1]; rfl)
  clear hc1
  go_enter Try.func24, Try.ntmps24
  go_wp2_with fail
  refine (unhide HRC _ (unhide HR) (unhide HL)).mono ?_
  rintro e w1 ⟨rfl, b1⟩
  have HB1 := hide b1
  have HR1 := hide ((unhide HR).below b1)
  have HL1 := hide ((unhide HL).below b1)
  have HRR1 := hide ((unhide HRR).below b1)
  clear b1
  go_wp2_with fail
  refine (groundOf _ ms cap _ ls capl me now _ (unhide HOK) (unhide HR1) (unhide HL1)).mono ?_
  rintro e w2 ⟨rfl, b2⟩
  have HB2 := hide ((unhide HB1).trans (b2.mono (unhide HB1).size))
  have HRR2 := hide ((unhide HRR1).below b2)
  clear b2
  go_wp2_with fail
  refine (groupOf _ rs _ _ (by omega) (unhide HRR2)).mono ?_
  rintro e w4 ⟨rfl, hw4⟩
  rw [hw4, unhide HGL]
  clear hw4
  go_wp2_with fail
  refine (isCovered _ _ _ c1 _).mono ?_
  rintro e w5 ⟨rfl, b5⟩
  have HB5 := hide ((unhide HB2).trans (b5.mono (unhide HB2).size))
  clear b5
  go_wp2_with fail
  go_ret2
  exact ⟨rfl, unhide HB5⟩
end Gp
end Go.Proofs.Ytpknahhdapmcoao
