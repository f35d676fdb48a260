/-
  The program's contracts: codes of calls with relays, Degree, Covers.
-/
import Derived.Test.YtmelbilepfnmjapGrpC
import Derived.Test.YtmelbilepfnmjapMprH
namespace Go.Proofs.Ytmelbilepfnmjap
open Go.ChangeShapes Go.WideShapes Go.ChangeAt Go.RowKit
set_option linter.unusedVariables false
set_option linter.unusedSimpArgs false
attribute [local go_sem ↓] Go.wp_at_zero Go.wp_at_succ
namespace Gp
open W1 Tu St Tw Mr Mt
theorem any_iff {L : List Int} {p : Int → Bool} : L.any p = true ↔ ∃ a ∈ L, p a = true := by rw [List.any_eq_true]
theorem re_any {S : List Int} {via : Int → List Int} {c : Int → Bool} {z : Int} (h : ∀ a ∈ via z, 1 ≤ a ∧ a ≤ 8) : reB S via (strN c 8) z = (S.contains z && (via z).any c) := by
  unfold reB rB
  rw [Bool.eq_iff_iff, Bool.and_eq_true, any_iff, any_iff]
  constructor
  · rintro ⟨a, ha, hb⟩
    rw [Bool.and_eq_true] at hb
    exact ⟨hb.1, a, List.contains_iff_mem.1 hb.2, (str_mem.1 ha).2.2⟩
  · rintro ⟨hs, a, ha, hb⟩
    have := h a ha
    exact ⟨a, str_mem.2 ⟨this.1, this.2, hb⟩, by rw [hs, List.contains_iff_mem.2 ha]; rfl⟩
theorem any_has {L rs : List Int} : L.any (fun a => rs.contains a) = rs.any (fun r => L.contains r) := by
  rw [Bool.eq_iff_iff, any_iff, any_iff]
  constructor
  · rintro ⟨a, h1, h2⟩; exact ⟨a, List.contains_iff_mem.1 h2, List.contains_iff_mem.2 h1⟩
  · rintro ⟨a, h1, h2⟩; exact ⟨a, List.contains_iff_mem.1 h2, List.contains_iff_mem.2 h1⟩
/-- Who is not reached. -/
theorem left_zero {S : List Int} {via : Int → List Int} {c : Int → Bool} {rs : List Int} (hS : ∀ z ∈ S, 1 ≤ z ∧ z ≤ 8) (hv : ∀ z, ∀ a ∈ via z, 1 ≤ a ∧ a ≤ 8) (hc : ∀ a, 1 ≤ a → a ≤ 8 → c a = rs.contains a) :
    covB S via (strN c 8) = ((leftV via S rs).length == 0) := by
  unfold covB
  rw [Bool.eq_iff_iff, beq_iff_eq, beq_iff_eq, gN_zero, str_zero, List.length_eq_zero_iff]
  unfold leftV
  rw [List.filter_eq_nil_iff]
  have key : ∀ z, (via z).any c = hitV via rs z := fun z => by
    unfold hitV
    rw [← any_has, Bool.eq_iff_iff, any_iff, any_iff]
    constructor
    · rintro ⟨a, h1, h2⟩; have := hv z a h1; exact ⟨a, h1, by rw [← hc a this.1 this.2]; exact h2⟩
    · rintro ⟨a, h1, h2⟩; have := hv z a h1; exact ⟨a, h1, by rw [hc a this.1 this.2]; exact h2⟩
  constructor
  · intro h z hz
    have h1 := hS z hz
    have h2 := h z h1.1 h1.2
    rw [re_any (hv z), key, List.contains_iff_mem.2 hz] at h2
    simpa using h2
  · intro h z h1 h2
    rw [re_any (hv z), key]
    cases hz : S.contains z
    · rfl
    · have := h z (List.contains_iff_mem.1 hz)
      simpa using this
theorem deg_eq {cd : Int → Bool} {via : Int → List Int} {a : Int} (hv : ∀ z, ∀ a ∈ via z, 1 ≤ a ∧ a ≤ 8) :
    (strN (reB (strN cd 8) via (strN (fun z => [a].contains z) 8)) 8).length = cntV via (strN cd 8) a := by
  unfold cntV
  rw [str_filter]
  congr 1
  refine str_same (fun z h1 h2 => ?_)
  rw [re_any (hv z), any_has]
  have : (strN cd 8).contains z = cd z := by
    rw [Bool.eq_iff_iff, List.contains_iff_mem, str_mem]
    exact ⟨fun h => h.2.2, fun h => ⟨h1, h2, h⟩⟩
  rw [this]; simp
set_option maxHeartbeats 2000000 in
theorem relaysCode (a : Option Addr) (ms : List R) (cap : Nat) (b : Option Addr) (ls : List Lk.R) (capl : Nat) (b2 : Option Addr) (rs : List Int) (capr : Nat) (w : World) (hm : ms.length ≤ 1048576) (hl : ls.length ≤ 1048576) (hrl : rs.length ≤ 1048576) (hr : RM w a ms) (hr' : Lk.RM w b ls) :
    Calls Try.prog 44 #[.slice a ms.length cap, .slice b ls.length capl, .slice b2 rs.length capr] w fun e w' => e = .returned (.int .i64 (codeM ms ls rs)) ∧ Below w.heap.size w w' := by
  have HR := hide hr
  have HL := hide hr'
  clear hr hr'
  by_cases h1 : 4096 < rs.length
  · have k1 : (4096 : Int) < rs.length := by omega
    rw [show codeM ms ls rs = 2 by unfold codeM; rw [if_pos h1]]
    clear h1
    go_enter Try.func44, Try.ntmps44
    go_wp2_with fail
    go_ret
    exact ⟨rfl, Below.refl _ _⟩
  have k1 : ¬ (4096 : Int) < rs.length := by omega
  by_cases hc : codeTL ms ls = 0
  rotate_left
  · rw [show codeM ms ls rs = codeTL ms ls by unfold codeM; rw [if_neg h1, if_neg hc]]
    generalize hcd : codeTL ms ls = cd at *
    have HC := hide hcd
    clear hcd
    have q1 : (cd != 0) = true := by simpa using hc
    go_enter Try.func44, Try.ntmps44
    go_wp2_with fail
    refine (twoLinksCode _ ms cap _ ls capl _ hm hl (unhide HR) (unhide HL)).mono ?_
    rintro e w1 ⟨rfl, b1⟩
    rw [unhide HC]
    have HB1 := hide b1
    clear b1
    go_wp2_with fail
    go_ret
    exact ⟨rfl, unhide HB1⟩
  have HC := hide hc
  by_cases h2 : 8 < rs.length
  · have k2 : (8 : Int) < rs.length := by omega
    rw [show codeM ms ls rs = 6 by unfold codeM; rw [if_neg h1, if_pos hc, if_pos h2]]
    clear h1 h2 hc
    go_enter Try.func44, Try.ntmps44
    go_wp2_with fail
    refine (twoLinksCode _ ms cap _ ls capl _ hm hl (unhide HR) (unhide HL)).mono ?_
    rintro e w1 ⟨rfl, b1⟩
    rw [unhide HC]
    have HB1 := hide b1
    clear b1
    go_wp2_with fail
    go_ret
    exact ⟨rfl, unhide HB1⟩
  · have k2 : ¬ (8 : Int) < rs.length := by omega
    rw [show codeM ms ls rs = 0 by unfold codeM; rw [if_neg h1, if_pos hc, if_neg h2]]
    clear h1 h2 hc
    go_enter Try.func44, Try.ntmps44
    go_wp2_with fail
    refine (twoLinksCode _ ms cap _ ls capl _ hm hl (unhide HR) (unhide HL)).mono ?_
    rintro e w1 ⟨rfl, b1⟩
    rw [unhide HC]
    have HB1 := hide b1
    clear b1
    go_wp2_with fail
    go_ret
    exact ⟨rfl, unhide HB1⟩
theorem codeM_nil (ms : List R) (ls : List Lk.R) : codeM ms ls [] = codeTL ms ls := by
  unfold codeM
  rw [if_neg (by simp)]
  split
  · rename_i h; rw [h]; simp
  · rfl
set_option maxRecDepth 100000 in
set_option maxHeartbeats 2000000 in
theorem implDegree (a : Option Addr) (ms : List R) (cap : Nat) (b : Option Addr) (ls : List Lk.R) (capl : Nat) (me now addr : Int) (w : World) (hm : ms.length ≤ 1048576) (hl : ls.length ≤ 1048576) (hr : RM w a ms) (hr' : Lk.RM w b ls) :
    Calls Try.prog 14 #[.slice a ms.length cap, .slice b ls.length capl, .int .i64 me, .int .i64 now, .int .i64 addr] w fun e w' => e = .returned (.tuple #[.int .i64 (degA ms ls me now addr), .int .i64 (codeTL ms ls)]) ∧ Below w.heap.size w w' := by
  have HRC := hide (fun W h1 h2 => relaysCode a ms cap b ls capl none [] 0 W hm hl (by simp) h1 h2)
  rw [codeM_nil] at HRC
  have HR := hide hr
  have HL := hide hr'
  clear hr hr'
  by_cases hc : codeTL ms ls = 0
  rotate_left
  · have h1 : degA ms ls me now addr = 0 := by unfold degA; rw [if_neg hc]
    rw [h1]
    clear h1
    generalize hcd : codeTL ms ls = cd at *
    clear hcd
    have q1 : (cd != 0) = true := by simpa using hc
    go_enter Try.func14, Try.ntmps14
    go_wp2_with fail
    refine (unhide HRC _ (unhide HR) (unhide HL)).mono ?_
    rintro e w1 ⟨rfl, b1⟩
    have HB1 := hide b1
    clear b1
    go_wp2_with fail
    go_ret2
    exact ⟨rfl, unhide HB1⟩
  have HOK := hide (codeTL_ok hc)
  have h1 : degA ms ls me now addr = (cntV (viaF ms ls now) (strF ms ls me now) addr : Int) := by unfold degA; rw [if_pos hc]
  have h2 := deg_eq (cd := condS ms ls me now) (via := viaF ms ls now) (a := addr) (fun z => via_rng (unhide HOK).2)
  have e3 : strN (condS ms ls me now) 8 = strF ms ls me now := rfl
  rw [e3] at h2
  rw [h1, ← h2]
  rw [hc] at HRC ⊢
  clear hc h1 h2 e3
  generalize hc1 : (fun z => [addr].contains z) = c1 at *
  have HGL : Hid (gL [addr] = gN c1) := hide (by rw [← hc1]; rfl)
  clear hc1
  go_enter Try.func14, Try.ntmps14
  go_wp2_with fail
  refine (unhide HRC _ (unhide HR) (unhide HL)).mono ?_
  rintro e w1 ⟨rfl, b1⟩
  have HB1 := hide b1
  have HR1 := hide ((unhide HR).below b1)
  have HL1 := hide ((unhide HL).below b1)
  clear b1
  go_wp2_with fail
  refine (groundOf _ ms cap _ ls capl me now _ (unhide HOK) (unhide HR1) (unhide HL1)).mono ?_
  rintro e w2 ⟨rfl, b2⟩
  have HB2 := hide ((unhide HB1).trans (b2.mono (unhide HB1).size))
  clear b2
  have HB3 := hide ((unhide HB2).alloc (unhide HB2).size (.cells #[.int .i64 addr] 3))
  have HRN := hide (In.rm_new w2 addr)
  go_wp2_with fail
  refine (groupOf _ [addr] _ _ (by simp) (unhide HRN)).mono ?_
  rintro e w4 ⟨rfl, hw4⟩
  rw [hw4, unhide HGL]
  clear hw4
  go_wp2_with fail
  refine (reachedBy _ _ _ _ c1 _).mono ?_
  rintro e w5 ⟨rfl, b5⟩
  have HB5 := hide ((unhide HB3).trans (b5.mono (unhide HB3).size))
  clear b5
  go_wp2_with fail
  refine (count _ _).mono ?_
  rintro e w6 ⟨rfl, q, rfl⟩
  have HB6 := hide ((unhide HB5).trans ((below_dN' w5 q).mono (unhide HB5).size))
  go_wp2_with fail
  go_ret2
  exact ⟨rfl, unhide HB6⟩
end Gp
end Go.Proofs.Ytmelbilepfnmjap
