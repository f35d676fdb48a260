/-
  Mathematics of groups: sets of addresses, each a bit of a number at its own place.
-/
import Derived.Test.YtmelbilepfnmjapMprM
import Derived.Laws.BitsAllLaws
import Derived.Lib.BitFns
namespace Go.Proofs.Ytmelbilepfnmjap
set_option linter.unusedVariables false
set_option linter.unusedSimpArgs false
namespace Gp
open W1 Tw Mr
/-- The number whose bits 1 to n are those of which a condition holds. -/
def gG (c : Int → Bool) : Nat → Nat
  | 0 => 0
  | n + 1 => gG c n ||| (if c ((n : Int) + 1) = true then 2 ^ (n + 1) else 0)
def gN (c : Int → Bool) : Nat := gG c 8
theorem gG_bit (c : Int → Bool) : ∀ n i : Nat, (gG c n).testBit i = (decide (1 ≤ i) && (decide (i ≤ n) && c (i : Int)))
  | 0, i => by
    rw [gG, Nat.zero_testBit]
    by_cases h : 1 ≤ i
    · rw [decide_eq_false (show ¬ i ≤ 0 by omega)]; simp
    · rw [decide_eq_false h]; rfl
  | n + 1, i => by
    rw [gG, Nat.testBit_or, gG_bit c n i]
    by_cases e : i = n + 1
    · subst e
      rw [decide_eq_false (show ¬ n + 1 ≤ n by omega), decide_eq_true (show 1 ≤ n + 1 by omega), decide_eq_true (Nat.le_refl _)]
      have ec : ((n + 1 : Nat) : Int) = (n : Int) + 1 := by omega
      rw [ec]
      cases c ((n : Int) + 1)
      · simp
      · simp [Nat.testBit_two_pow]
    · have h2 : (if c ((n : Int) + 1) = true then 2 ^ (n + 1) else 0 : Nat).testBit i = false := by
        split
        · rw [Nat.testBit_two_pow]; exact decide_eq_false (by omega)
        · exact Nat.zero_testBit i
      rw [h2, Bool.or_false]
      have : decide (i ≤ n) = decide (i ≤ n + 1) := by
        by_cases h : i ≤ n
        · rw [decide_eq_true h, decide_eq_true (by omega)]
        · rw [decide_eq_false h, decide_eq_false (by omega)]
      rw [this]
theorem gN_bit (c : Int → Bool) (i : Nat) : (gN c).testBit i = (decide (1 ≤ i) && (decide (i ≤ 8) && c (i : Int))) := gG_bit c 8 i
theorem gN_lt (c : Int → Bool) : gN c < 512 := by
  have : gN c < 2 ^ 9 := Nat.lt_pow_two_of_testBit _ (fun i hi => by rw [gN_bit, decide_eq_false (show ¬ i ≤ 8 by omega)]; simp)
  exact this
theorem gN_congr {c d : Int → Bool} (h : ∀ z, 1 ≤ z → z ≤ 8 → c z = d z) : gN c = gN d := Nat.eq_of_testBit_eq (fun i => by
  rw [gN_bit, gN_bit]
  by_cases h1 : 1 ≤ i
  · by_cases h2 : i ≤ 8
    · rw [h i (by omega) (by omega)]
    · rw [decide_eq_false h2]; simp
  · rw [decide_eq_false h1]; rfl)
theorem gN_or (c d : Int → Bool) : gN c ||| gN d = gN (fun z => c z || d z) := Nat.eq_of_testBit_eq (fun i => by
  rw [Nat.testBit_or, gN_bit, gN_bit, gN_bit]
  cases decide (1 ≤ i) <;> cases decide (i ≤ 8) <;> rfl)
theorem gN_and (c d : Int → Bool) : gN c &&& gN d = gN (fun z => c z && d z) := Nat.eq_of_testBit_eq (fun i => by
  rw [Nat.testBit_and, gN_bit, gN_bit, gN_bit]
  cases decide (1 ≤ i) <;> cases decide (i ≤ 8) <;> rfl)
theorem gN_not (c d : Int → Bool) : gN c &&& (65535 - gN d) = gN (fun z => c z && !d z) := Nat.eq_of_testBit_eq (fun i => by
  have hd := gN_lt d
  have e : 65535 - gN d = 2 ^ 16 - (gN d + 1) := by omega
  rw [e, Nat.testBit_and, Nat.testBit_two_pow_sub_succ (by omega), gN_bit, gN_bit, gN_bit]
  by_cases h : i ≤ 8
  · rw [decide_eq_true h, decide_eq_true (show i < 16 by omega)]
    cases decide (1 ≤ i) <;> cases c (i : Int) <;> cases d (i : Int) <;> rfl
  · rw [decide_eq_false h]; simp)
theorem or_int (c d : Int → Bool) : bits .or .u16 (gN c : Int) (gN d : Int) = (gN (fun z => c z || d z) : Int) := by
  have := gN_lt c; have := gN_lt d
  rw [u16_or_nat _ _ (by omega) (by omega), gN_or]
theorem and_int (c d : Int → Bool) : bits .and .u16 (gN c : Int) (gN d : Int) = (gN (fun z => c z && d z) : Int) := by
  have := gN_lt c; have := gN_lt d
  rw [u16_and_nat _ _ (by omega) (by omega), gN_and]
theorem not_int (c d : Int → Bool) : bits .andNot .u16 (gN c : Int) (gN d : Int) = (gN (fun z => c z && !d z) : Int) := by
  have := gN_lt c; have := gN_lt d
  rw [u16_andNot_nat _ _ (by omega) (by omega), gN_not]
/-- One address alone; none. -/
theorem gN_one {a : Int} (h1 : 1 ≤ a) (h2 : a ≤ 8) : gN (fun z => z == a) = 2 ^ a.toNat := Nat.eq_of_testBit_eq (fun i => by
  rw [gN_bit, Nat.testBit_two_pow]
  by_cases e : a.toNat = i
  · have : (i : Int) = a := by omega
    rw [this, decide_eq_true (show 1 ≤ i by omega), decide_eq_true (show i ≤ 8 by omega), decide_eq_true e]; simp
  · have : ((i : Int) == a) = false := by simp; omega
    rw [this, decide_eq_false e]; simp)
theorem gN_nil {c : Int → Bool} (h : ∀ z, 1 ≤ z → z ≤ 8 → c z = false) : gN c = 0 := by
  rw [gN_congr (d := fun _ => false) h]; rfl
/-- Whether a number has an address's bit. -/
def hasB (s : Nat) (a : Int) : Bool := inB a 1 8 && s.testBit a.toNat
theorem has_gN {c : Int → Bool} {a : Int} : hasB (gN c) a = (inB a 1 8 && c a) := by
  unfold hasB
  cases h : inB a 1 8
  · rfl
  · unfold inB at h
    rw [Bool.and_eq_true] at h
    have h1 := of_decide_eq_true h.1
    have h2 := of_decide_eq_true h.2
    rw [gN_bit, decide_eq_true (show 1 ≤ a.toNat by omega), decide_eq_true (show a.toNat ≤ 8 by omega), show ((a.toNat : Nat) : Int) = a by omega]; rfl
theorem has_all {a : Int} : hasB 65535 a = inB a 1 8 := by
  unfold hasB
  cases h : inB a 1 8
  · rfl
  · unfold inB at h
    rw [Bool.and_eq_true] at h
    have h1 := of_decide_eq_true h.1
    have h2 := of_decide_eq_true h.2
    have e : (65535 : Nat) = 2 ^ 16 - 1 := by decide
    rw [e, Nat.testBit_two_pow_sub_one, decide_eq_true (show a.toNat < 16 by omega)]; rfl
theorem and_has {s : Nat} (hs : s < 65536) (a : Int) : (decide (bits .and .u16 (s : Int) (gN (fun z => z == a) : Int) = 0)) = !hasB s a := by
  have hg := gN_lt (fun z => z == a)
  rw [u16_and_nat _ _ hs (by omega)]
  unfold hasB
  cases h : inB a 1 8
  · have : gN (fun z => z == a) = 0 := gN_nil (fun z h1 h2 => by
      unfold inB at h
      by_cases e : z = a
      · subst e; rw [decide_eq_true h1, decide_eq_true h2] at h; cases h
      · simpa using e)
    rw [this]; simp
  · unfold inB at h
    rw [Bool.and_eq_true] at h
    have h1 := of_decide_eq_true h.1
    have h2 := of_decide_eq_true h.2
    rw [gN_one h1 h2]
    cases ht : s.testBit a.toNat
    · have : s &&& 2 ^ a.toNat = 0 := Nat.eq_of_testBit_eq (fun i => by
        rw [Nat.testBit_and, Nat.testBit_two_pow, Nat.zero_testBit]
        by_cases e : a.toNat = i
        · rw [← e, ht]; rfl
        · rw [decide_eq_false e, Bool.and_false])
      rw [this]; rfl
    · have hn : ¬ s &&& 2 ^ a.toNat = 0 := fun e => by
        have := congrArg (fun x => Nat.testBit x a.toNat) e
        simp only [Nat.testBit_and, Nat.testBit_two_pow, Nat.zero_testBit, ht] at this
        simp at this
      rw [decide_eq_false (by omega)]; rfl
/-- How many there are. -/
def g8 (b1 b2 b3 b4 b5 b6 b7 b8 : Bool) : Nat := (((((((0 ||| (if b1 = true then 2 ^ 1 else 0)) ||| (if b2 = true then 2 ^ 2 else 0)) ||| (if b3 = true then 2 ^ 3 else 0)) ||| (if b4 = true then 2 ^ 4 else 0)) ||| (if b5 = true then 2 ^ 5 else 0)) ||| (if b6 = true then 2 ^ 6 else 0)) ||| (if b7 = true then 2 ^ 7 else 0)) ||| (if b8 = true then 2 ^ 8 else 0)
def n8 (b1 b2 b3 b4 b5 b6 b7 b8 : Bool) : Nat := (((((((0 + b1.toNat) + b2.toNat) + b3.toNat) + b4.toNat) + b5.toNat) + b6.toNat) + b7.toNat) + b8.toNat
theorem pop_all : ∀ b1 b2 b3 b4 b5 b6 b7 b8 : Bool, Lib.onesCount (g8 b1 b2 b3 b4 b5 b6 b7 b8 / 256) + Lib.onesCount (g8 b1 b2 b3 b4 b5 b6 b7 b8 % 256) = n8 b1 b2 b3 b4 b5 b6 b7 b8 := by decide +kernel
theorem strN_succ_len (c : Int → Bool) (n : Nat) : (strN c (n + 1)).length = (strN c n).length + (c ((n : Int) + 1)).toNat := by
  cases h : c ((n : Int) + 1)
  · rw [strN_no h]; rfl
  · rw [strN_yes h, List.length_append]; rfl
theorem str_n8 (c : Int → Bool) : (strN c 8).length = n8 (c 1) (c 2) (c 3) (c 4) (c 5) (c 6) (c 7) (c 8) := by
  rw [strN_succ_len, strN_succ_len, strN_succ_len, strN_succ_len, strN_succ_len, strN_succ_len, strN_succ_len, strN_succ_len]; rfl
theorem g_g8 (c : Int → Bool) : gN c = g8 (c 1) (c 2) (c 3) (c 4) (c 5) (c 6) (c 7) (c 8) := rfl
theorem pop_gN (c : Int → Bool) : Lib.onesCount (gN c / 256) + Lib.onesCount (gN c % 256) = (strN c 8).length := by rw [str_n8, g_g8]; exact pop_all _ _ _ _ _ _ _ _
theorem zero_all : ∀ b1 b2 b3 b4 b5 b6 b7 b8 : Bool, (g8 b1 b2 b3 b4 b5 b6 b7 b8 == 0) = (n8 b1 b2 b3 b4 b5 b6 b7 b8 == 0) := by decide +kernel
theorem gN_zero (c : Int → Bool) : gN c = 0 ↔ strN c 8 = [] := by
  have := zero_all (c 1) (c 2) (c 3) (c 4) (c 5) (c 6) (c 7) (c 8)
  rw [← g_g8, ← str_n8] at this
  constructor
  · intro h; rw [h] at this; exact List.eq_nil_of_length_eq_zero (by simpa using this.symm)
  · intro h; rw [h] at this; simpa using this
theorem str_zero {c : Int → Bool} : strN c 8 = [] ↔ ∀ z, 1 ≤ z → z ≤ 8 → c z = false := by
  unfold strN
  rw [List.map_eq_nil_iff, List.filter_eq_nil_iff]
  constructor
  · intro h z h1 h2
    have := h (z.toNat - 1) (List.mem_range.2 (by omega))
    rw [show (((z.toNat - 1 : Nat) : Int) + 1) = z by omega] at this
    simpa using this
  · intro h t ht
    have := List.mem_range.1 ht
    rw [h _ (by omega) (by omega)]; simp
theorem str_mem {c : Int → Bool} {z : Int} : z ∈ strN c 8 ↔ 1 ≤ z ∧ z ≤ 8 ∧ c z = true := by
  unfold strN
  simp only [List.mem_map, List.mem_filter, List.mem_range]
  constructor
  · rintro ⟨t, ⟨h1, h2⟩, rfl⟩; exact ⟨by omega, by omega, h2⟩
  · rintro ⟨h1, h2, h3⟩; exact ⟨z.toNat - 1, ⟨by omega, by rw [show (((z.toNat - 1 : Nat) : Int) + 1) = z by omega]; exact h3⟩, by omega⟩
theorem str_filter (c d : Int → Bool) (n : Nat) : (strN c n).filter d = strN (fun z => c z && d z) n := by
  unfold strN
  rw [List.filter_map, List.filter_filter]
  congr 1
  apply List.filter_congr
  intro t _
  simp only [Function.comp]
  exact Bool.and_comm _ _
theorem str_same {c d : Int → Bool} (h : ∀ z, 1 ≤ z → z ≤ 8 → c z = d z) : strN c 8 = strN d 8 := by
  unfold strN
  congr 1
  apply List.filter_congr
  intro t ht
  have := List.mem_range.1 ht
  exact h _ (by omega) (by omega)
end Gp
end Go.Proofs.Ytmelbilepfnmjap
