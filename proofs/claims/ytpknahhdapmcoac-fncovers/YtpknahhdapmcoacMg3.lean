/-
  Mathematics of groups: sets of addresses, each a bit of a number at its own place. The program's contracts: groups: of a list, whether one is in it, how many, which. A ground in a block: read whole, written whole, laid anew; a field of it written. The program's contract: the ground that relays are chosen on. The program's contracts: whom relays reach, whether they cover, who reaches one alone, who is always willing. The program's contracts: codes of calls with relays, Degree, Covers.
-/
import Derived.Test.YtpknahhdapmcoacMg1
import Derived.Laws.BitsAllLaws
import Derived.Lib.BitFns
import Derived.Test.YtpknahhdapmcoacLnkV
import Derived.BigQuiet
import Derived.Deep.MidRow
import Derived.Deep.WholeRow
import Derived.Test.YtpknahhdapmcoacTwoX
import Derived.Test.YtpknahhdapmcoacMg2
import Derived.Test.YtpknahhdapmcoacRg
namespace Go.Proofs.Ytpknahhdapmcoac
set_option linter.unusedVariables false
set_option linter.unusedSimpArgs false
namespace Gp
open W1 Tw Mr
/-- The number whose bits 1 to n are those of which a condition holds. -/
def gG (c : Int → Bool) : Nat → Nat
  | 0 => 0
  | n + 1 => gG c n ||| (if c ((n : Int) + 1) = true then 2 ^ (n + 1) else 0)
def gN (c : Int → Bool) : Nat := gG c 8
theorem gG_bit (c : Int → Bool) : ∀ n i : Nat, (gG c n).testBit i = (decide (1 ≤ i) && (decide (i ≤ n) && c (i : Int)))
  | 0, i => by
    rw [gG, Nat.zero_testBit]
    by_cases h : 1 ≤ i
    · rw [decide_eq_false (show ¬ i ≤ 0 by omega)]; simp
    · rw [decide_eq_false h]; rfl
  | n + 1, i => by
    rw [gG, Nat.testBit_or, gG_bit c n i]
    by_cases e : i = n + 1
    · subst e
      rw [decide_eq_false (show ¬ n + 1 ≤ n by omega), decide_eq_true (show 1 ≤ n + 1 by omega), decide_eq_true (Nat.le_refl _)]
      have ec : ((n + 1 : Nat) : Int) = (n : Int) + 1 := by omega
      rw [ec]
      cases c ((n : Int) + 1)
      · simp
      · simp [Nat.testBit_two_pow]
    · have h2 : (if c ((n : Int) + 1) = true then 2 ^ (n + 1) else 0 : Nat).testBit i = false := by
        split
        · rw [Nat.testBit_two_pow]; exact decide_eq_false (by omega)
        · exact Nat.zero_testBit i
      rw [h2, Bool.or_false]
      have : decide (i ≤ n) = decide (i ≤ n + 1) := by
        by_cases h : i ≤ n
        · rw [decide_eq_true h, decide_eq_true (by omega)]
        · rw [decide_eq_false h, decide_eq_false (by omega)]
      rw [this]
theorem gN_bit (c : Int → Bool) (i : Nat) : (gN c).testBit i = (decide (1 ≤ i) && (decide (i ≤ 8) && c (i : Int))) := gG_bit c 8 i
theorem gN_lt (c : Int → Bool) : gN c < 512 := by
  have : gN c < 2 ^ 9 := Nat.lt_pow_two_of_testBit _ (fun i hi => by rw [gN_bit, decide_eq_false (show ¬ i ≤ 8 by omega)]; simp)
  exact this
theorem gN_congr {c d : Int → Bool} (h : ∀ z, 1 ≤ z → z ≤ 8 → c z = d z) : gN c = gN d := Nat.eq_of_testBit_eq (fun i => by
  rw [gN_bit, gN_bit]
  by_cases h1 : 1 ≤ i
  · by_cases h2 : i ≤ 8
    · rw [h i (by omega) (by omega)]
    · rw [decide_eq_false h2]; simp
  · rw [decide_eq_false h1]; rfl)
theorem gN_or (c d : Int → Bool) : gN c ||| gN d = gN (fun z => c z || d z) := Nat.eq_of_testBit_eq (fun i => by
  rw [Nat.testBit_or, gN_bit, gN_bit, gN_bit]
  cases decide (1 ≤ i) <;> cases decide (i ≤ 8) <;> rfl)
theorem gN_and (c d : Int → Bool) : gN c &&& gN d = gN (fun z => c z && d z) := Nat.eq_of_testBit_eq (fun i => by
  rw [Nat.testBit_and, gN_bit, gN_bit, gN_bit]
  cases decide (1 ≤ i) <;> cases decide (i ≤ 8) <;> rfl)
theorem gN_not (c d : Int → Bool) : gN c &&& (65535 - gN d) = gN (fun z => c z && !d z) := Nat.eq_of_testBit_eq (fun i => by
  have hd := gN_lt d
  have e : 65535 - gN d = 2 ^ 16 - (gN d + 1) := by omega
  rw [e, Nat.testBit_and, Nat.testBit_two_pow_sub_succ (by omega), gN_bit, gN_bit, gN_bit]
  by_cases h : i ≤ 8
  · rw [decide_eq_true h, decide_eq_true (show i < 16 by omega)]
    cases decide (1 ≤ i) <;> cases c (i : Int) <;> cases d (i : Int) <;> rfl
  · rw [decide_eq_false h]; simp)
theorem or_int (c d : Int → Bool) : bits .or .u16 (gN c : Int) (gN d : Int) = (gN (fun z => c z || d z) : Int) := by
  have := gN_lt c; have := gN_lt d
  rw [u16_or_nat _ _ (by omega) (by omega), gN_or]
theorem and_int (c d : Int → Bool) : bits .and .u16 (gN c : Int) (gN d : Int) = (gN (fun z => c z && d z) : Int) := by
  have := gN_lt c; have := gN_lt d
  rw [u16_and_nat _ _ (by omega) (by omega), gN_and]
theorem not_int (c d : Int → Bool) : bits .andNot .u16 (gN c : Int) (gN d : Int) = (gN (fun z => c z && !d z) : Int) := by
  have := gN_lt c; have := gN_lt d
  rw [u16_andNot_nat _ _ (by omega) (by omega), gN_not]
/-- One address alone; none. -/
theorem gN_one {a : Int} (h1 : 1 ≤ a) (h2 : a ≤ 8) : gN (fun z => z == a) = 2 ^ a.toNat := Nat.eq_of_testBit_eq (fun i => by
  rw [gN_bit, Nat.testBit_two_pow]
  by_cases e : a.toNat = i
  · have : (i : Int) = a := by omega
    rw [this, decide_eq_true (show 1 ≤ i by omega), decide_eq_true (show i ≤ 8 by omega), decide_eq_true e]; simp
  · have : ((i : Int) == a) = false := by simp; omega
    rw [this, decide_eq_false e]; simp)
theorem gN_nil {c : Int → Bool} (h : ∀ z, 1 ≤ z → z ≤ 8 → c z = false) : gN c = 0 := by
  rw [gN_congr (d := fun _ => false) h]; rfl
/-- Whether a number has an address's bit. -/
def hasB (s : Nat) (a : Int) : Bool := inB a 1 8 && s.testBit a.toNat
theorem has_gN {c : Int → Bool} {a : Int} : hasB (gN c) a = (inB a 1 8 && c a) := by
  unfold hasB
  cases h : inB a 1 8
  · rfl
  · unfold inB at h
    rw [Bool.and_eq_true] at h
    have h1 := of_decide_eq_true h.1
    have h2 := of_decide_eq_true h.2
    rw [gN_bit, decide_eq_true (show 1 ≤ a.toNat by omega), decide_eq_true (show a.toNat ≤ 8 by omega), show ((a.toNat : Nat) : Int) = a by omega]; rfl
theorem has_all {a : Int} : hasB 65535 a = inB a 1 8 := by
  unfold hasB
  cases h : inB a 1 8
  · rfl
  · unfold inB at h
    rw [Bool.and_eq_true] at h
    have h1 := of_decide_eq_true h.1
    have h2 := of_decide_eq_true h.2
    have e : (65535 : Nat) = 2 ^ 16 - 1 := by decide
    rw [e, Nat.testBit_two_pow_sub_one, decide_eq_true (show a.toNat < 16 by omega)]; rfl
theorem and_has {s : Nat} (hs : s < 65536) (a : Int) : (decide (bits .and .u16 (s : Int) (gN (fun z => z == a) : Int) = 0)) = !hasB s a := by
  have hg := gN_lt (fun z => z == a)
  rw [u16_and_nat _ _ hs (by omega)]
  unfold hasB
  cases h : inB a 1 8
  · have : gN (fun z => z == a) = 0 := gN_nil (fun z h1 h2 => by
      unfold inB at h
      by_cases e : z = a
      · subst e; rw [decide_eq_true h1, decide_eq_true h2] at h; cases h
      · simpa using e)
    rw [this]; simp
  · unfold inB at h
    rw [Bool.and_eq_true] at h
    have h1 := of_decide_eq_true h.1
    have h2 := of_decide_eq_true h.2
    rw [gN_one h1 h2]
    cases ht : s.testBit a.toNat
    · have : s &&& 2 ^ a.toNat = 0 := Nat.eq_of_testBit_eq (fun i => by
        rw [Nat.testBit_and, Nat.testBit_two_pow, Nat.zero_testBit]
        by_cases e : a.toNat = i
        · rw [← e, ht]; rfl
        · rw [decide_eq_false e, Bool.and_false])
      rw [this]; rfl
    · have hn : ¬ s &&& 2 ^ a.toNat = 0 := fun e => by
        have := congrArg (fun x => Nat.testBit x a.toNat) e
        simp only [Nat.testBit_and, Nat.testBit_two_pow, Nat.zero_testBit, ht] at this
        simp at this
      rw [decide_eq_false (by omega)]; rfl
/-- How many there are. -/
def g8 (b1 b2 b3 b4 b5 b6 b7 b8 : Bool) : Nat := (((((((0 ||| (if b1 = true then 2 ^ 1 else 0)) ||| (if b2 = true then 2 ^ 2 else 0)) ||| (if b3 = true then 2 ^ 3 else 0)) ||| (if b4 = true then 2 ^ 4 else 0)) ||| (if b5 = true then 2 ^ 5 else 0)) ||| (if b6 = true then 2 ^ 6 else 0)) ||| (if b7 = true then 2 ^ 7 else 0)) ||| (if b8 = true then 2 ^ 8 else 0)
def n8 (b1 b2 b3 b4 b5 b6 b7 b8 : Bool) : Nat := (((((((0 + b1.toNat) + b2.toNat) + b3.toNat) + b4.toNat) + b5.toNat) + b6.toNat) + b7.toNat) + b8.toNat
theorem pop_all : ∀ b1 b2 b3 b4 b5 b6 b7 b8 : Bool, Lib.onesCount (g8 b1 b2 b3 b4 b5 b6 b7 b8 / 256) + Lib.onesCount (g8 b1 b2 b3 b4 b5 b6 b7 b8 % 256) = n8 b1 b2 b3 b4 b5 b6 b7 b8 := by decide +kernel
theorem strN_succ_len (c : Int → Bool) (n : Nat) : (strN c (n + 1)).length = (strN c n).length + (c ((n : Int) + 1)).toNat := by
  cases h : c ((n : Int) + 1)
  · rw [strN_no h]; rfl
  · rw [strN_yes h, List.length_append]; rfl
theorem str_n8 (c : Int → Bool) : (strN c 8).length = n8 (c 1) (c 2) (c 3) (c 4) (c 5) (c 6) (c 7) (c 8) := by
  rw [strN_succ_len, strN_succ_len, strN_succ_len, strN_succ_len, strN_succ_len, strN_succ_len, strN_succ_len, strN_succ_len]; rfl
theorem g_g8 (c : Int → Bool) : gN c = g8 (c 1) (c 2) (c 3) (c 4) (c 5) (c 6) (c 7) (c 8) := rfl
theorem pop_gN (c : Int → Bool) : Lib.onesCount (gN c / 256) + Lib.onesCount (gN c % 256) = (strN c 8).length := by rw [str_n8, g_g8]; exact pop_all _ _ _ _ _ _ _ _
theorem zero_all : ∀ b1 b2 b3 b4 b5 b6 b7 b8 : Bool, (g8 b1 b2 b3 b4 b5 b6 b7 b8 == 0) = (n8 b1 b2 b3 b4 b5 b6 b7 b8 == 0) := by decide +kernel
theorem gN_zero (c : Int → Bool) : gN c = 0 ↔ strN c 8 = [] := by
  have := zero_all (c 1) (c 2) (c 3) (c 4) (c 5) (c 6) (c 7) (c 8)
  rw [← g_g8, ← str_n8] at this
  constructor
  · intro h; rw [h] at this; exact List.eq_nil_of_length_eq_zero (by simpa using this.symm)
  · intro h; rw [h] at this; simpa using this
theorem str_zero {c : Int → Bool} : strN c 8 = [] ↔ ∀ z, 1 ≤ z → z ≤ 8 → c z = false := by
  unfold strN
  rw [List.map_eq_nil_iff, List.filter_eq_nil_iff]
  constructor
  · intro h z h1 h2
    have := h (z.toNat - 1) (List.mem_range.2 (by omega))
    rw [show (((z.toNat - 1 : Nat) : Int) + 1) = z by omega] at this
    simpa using this
  · intro h t ht
    have := List.mem_range.1 ht
    rw [h _ (by omega) (by omega)]; simp
theorem str_mem {c : Int → Bool} {z : Int} : z ∈ strN c 8 ↔ 1 ≤ z ∧ z ≤ 8 ∧ c z = true := by
  unfold strN
  simp only [List.mem_map, List.mem_filter, List.mem_range]
  constructor
  · rintro ⟨t, ⟨h1, h2⟩, rfl⟩; exact ⟨by omega, by omega, h2⟩
  · rintro ⟨h1, h2, h3⟩; exact ⟨z.toNat - 1, ⟨by omega, by rw [show (((z.toNat - 1 : Nat) : Int) + 1) = z by omega]; exact h3⟩, by omega⟩
theorem str_filter (c d : Int → Bool) (n : Nat) : (strN c n).filter d = strN (fun z => c z && d z) n := by
  unfold strN
  rw [List.filter_map, List.filter_filter]
  congr 1
  apply List.filter_congr
  intro t _
  simp only [Function.comp]
  exact Bool.and_comm _ _
theorem str_same {c d : Int → Bool} (h : ∀ z, 1 ≤ z → z ≤ 8 → c z = d z) : strN c 8 = strN d 8 := by
  unfold strN
  congr 1
  apply List.filter_congr
  intro t ht
  have := List.mem_range.1 ht
  exact h _ (by omega) (by omega)
end Gp
end Go.Proofs.Ytpknahhdapmcoac
namespace Go.Proofs.Ytpknahhdapmcoac
open Go.ChangeShapes Go.WideShapes Go.ChangeAt Go.RowKit
set_option linter.unusedVariables false
set_option linter.unusedSimpArgs false
attribute [local go_sem ↓] Go.wp_at_zero Go.wp_at_succ
namespace Gp
open W1 Tw Mr
theorem shl_one {a : Int} (h1 : 1 ≤ a) (h2 : a ≤ 8) : IntKind.u16.wrap (2 ^ min a.toNat 16) = (gN (fun z => z == a) : Int) := by
  rw [gN_one h1 h2, IntKind.wrap_u16, show min a.toNat 16 = a.toNat by omega]
  have : ∀ k : Fin 9, ((2 : Int) ^ k.val) % 65536 = ((2 ^ k.val : Nat) : Int) := by decide
  exact this ⟨a.toNat, by omega⟩
/-- The group of a list. -/
def gL (zs : List Int) : Nat := gN (fun z => zs.contains z)
theorem take_has {zs : List Int} {j : Nat} (h : j < zs.length) (z : Int) : (zs.take (j + 1)).contains z = ((zs.take j).contains z || z == zs.getD j 0) := by
  rw [zs_take h]
  generalize zs.getD j 0 = y
  rw [Bool.eq_iff_iff]; simp
set_option maxHeartbeats 2000000 in
theorem groupOf (a : Option Addr) (zs : List Int) (cap : Nat) (w : World) (hm : zs.length ≤ 1048576) (hr : In.RM w a zs) :
    Calls Try.prog 64 #[.slice a zs.length cap] w fun e w' => e = .returned (.int .u16 (gL zs)) ∧ w' = w := by
  have HR := hide hr
  clear hr
  generalize hN : zs.length = n at *
  have HN := hide hN
  clear hN
  go_enter Try.func64, Try.ntmps64
  go_wp2_with fail
  go_loopw [3, 8] (fun g i wr => w = wr ∧ ∃ j : Nat, j ≤ n ∧ i = .int .i64 j ∧ ∃ x : Int, g = .int .u16 x ∧ Hid (x = gN (fun z => (zs.take j).contains z))) (fun _ i _ => n - (intOf i).toNat)
  case atStart => exact ⟨rfl, 0, by omega, rfl, 0, rfl, hide (by rw [gN_nil (c := fun z => (zs.take 0).contains z) (fun _ _ _ => rfl)]; rfl)⟩
  case round =>
    obtain ⟨rfl, j, hj, rfl, x, rfl, hx⟩ := hrel
    by_cases hlt : (j : Int) < (n : Int)
    · have k0 : (0 : Int) ≤ (j : Int) := by omega
      have hlen : j < zs.length := by rw [unhide HN]; omega
      rcases unhide HR with e0 | ⟨g, off, rfl, hc⟩
      · exfalso; rw [e0] at hlen; simp at hlen
      have c0 := hc j hlen
      clear hc
      have HT := hide (take_has hlen)
      generalize zs.getD j 0 = y at *
      cases hk : inB y 1 8
      · have HE : Hid (x = gN (fun z => (zs.take (j + 1)).contains z)) := hide (by
          rw [unhide hx]; congr 1
          refine gN_congr (fun z h1 h2 => ?_)
          rw [unhide HT]
          have : (z == y) = false := by
            unfold inB at hk
            by_cases e : z = y
            · subst e; rw [decide_eq_true h1, decide_eq_true h2] at hk; cases hk
            · simpa using e
          rw [this, Bool.or_false])
        have HK := hide hk
        clear hk
        go_wp2_with (go_at_call 117; refine (isAddress _ _).mono ?_; rintro e w' ⟨rfl, rfl⟩; rw [unhide HK])
        go_roundw
        case rel => exact ⟨by first | trivial | rfl, j + 1, by omega, by go_num, x, rfl, HE⟩
        case measure => simp [intOf]; omega
      · have hb : 1 ≤ y ∧ y ≤ 8 := by
          unfold inB at hk; rw [Bool.and_eq_true] at hk
          exact ⟨of_decide_eq_true hk.1, of_decide_eq_true hk.2⟩
        have y0 : 0 ≤ y := by omega
        have HE : Hid (bits .or .u16 x (IntKind.u16.wrap (2 ^ min y.toNat 16)) = gN (fun z => (zs.take (j + 1)).contains z)) := hide (by
          rw [unhide hx, shl_one hb.1 hb.2, or_int]; congr 1
          exact gN_congr (fun z _ _ => (unhide HT z).symm))
        have HK := hide hk
        clear hk hb
        go_wp2_with (go_at_call 117; refine (isAddress _ _).mono ?_; rintro e w' ⟨rfl, rfl⟩; rw [unhide HK])
        go_roundw
        case rel => exact ⟨by first | trivial | rfl, j + 1, by omega, by go_num, _, rfl, HE⟩
        case measure => simp [intOf]; omega
    · obtain rfl : j = n := by omega
      have HE : Hid (x = gL zs) := hide (by have := unhide hx; rw [← unhide HN, List.take_length] at this; exact this)
      go_wp2_with fail
      go_ret
      exact ⟨ret_int (unhide HE), rfl⟩
theorem gL_one (a : Int) : gL [a] = gN (fun z => z == a) := gN_congr (fun z _ _ => by rw [Bool.eq_iff_iff]; simp)
theorem gL_lt (zs : List Int) : gL zs < 512 := gN_lt _
set_option maxHeartbeats 2000000 in
theorem has (s : Nat) (a : Int) (w : World) (hs : s < 65536) :
    Calls Try.prog 118 #[.int .u16 s, .int .i64 a] w fun e w' => e = .returned (.bool (hasB s a)) ∧ Below w.heap.size w w' := by
  have P0 : Hid (Below w.heap.size w (w.alloc (.cells #[.int .i64 a] 3))) := hide ((Below.refl _ _).alloc (Nat.le_refl _) _)
  have HN := hide (In.rm_new w a)
  have HH := hide (and_has hs a)
  generalize hb : hasB s a = b at *
  clear hb
  go_enter Try.func118, Try.ntmps118
  go_wp2_with fail
  refine (groupOf _ [a] _ _ (by simp) (unhide HN)).mono ?_
  rintro e w2 ⟨rfl, rfl⟩
  rw [gL_one]
  generalize gN (fun z => z == a) = g at *
  have HX : Hid ((bits BinOp.and IntKind.u16 (s : Int) (g : Int) != 0) = b) := hide (by
    have := unhide HH
    generalize bits BinOp.and IntKind.u16 (s : Int) (g : Int) = x at *
    cases b <;> simp at this <;> simp [this])
  go_wp2_with fail
  go_ret
  exact ⟨ret_bool (unhide HX), unhide P0⟩
theorem pop_int (c : Int → Bool) : Lib.pop8 ((gN c : Int) / 256) + Lib.pop8 ((gN c : Int) % 256) = ((strN c 8).length : Int) ∧ 0 ≤ Lib.pop8 ((gN c : Int) / 256) ∧ Lib.pop8 ((gN c : Int) / 256) ≤ 8 ∧ 0 ≤ Lib.pop8 ((gN c : Int) % 256) ∧ Lib.pop8 ((gN c : Int) % 256) ≤ 8 := by
  have hl := gN_lt c
  have h1 := Lib.pop8_eq ⟨gN c / 256, by omega⟩
  have h2 := Lib.pop8_eq ⟨gN c % 256, by omega⟩
  have l1 := Lib.onesCount_le8 ⟨gN c / 256, by omega⟩
  have l2 := Lib.onesCount_le8 ⟨gN c % 256, by omega⟩
  have h3 := pop_gN c
  have e1 : ((gN c / 256 : Nat) : Int) = (gN c : Int) / 256 := by omega
  have e2 : ((gN c % 256 : Nat) : Int) = (gN c : Int) % 256 := by omega
  simp only [Int.ofNat_eq_natCast, e1, e2] at h1 h2
  simp only at l1 l2
  refine ⟨?_, ?_, ?_, ?_, ?_⟩ <;> omega
/-- The library's table of how many bits a byte has, as the translation spells it. -/
theorem tab_eq : (⟨(([0, 1, 1, 2, 1, 2, 2, 3, 1, 2, 2, 3, 2, 3, 3, 4, 1, 2, 2, 3, 2, 3, 3, 4, 2, 3, 3, 4, 3, 4, 4, 5, 1, 2, 2, 3, 2, 3, 3, 4, 2, 3, 3, 4, 3, 4, 4, 5, 2, 3, 3, 4, 3, 4, 4, 5, 3, 4, 4, 5, 4, 5, 5, 6].append [1, 2, 2, 3, 2, 3, 3, 4, 2, 3, 3, 4, 3, 4, 4, 5, 2, 3, 3, 4, 3, 4, 4, 5, 3, 4, 4, 5, 4, 5, 5, 6, 2, 3, 3, 4, 3, 4, 4, 5, 3, 4, 4, 5, 4, 5, 5, 6, 3, 4, 4, 5, 4, 5, 5, 6, 4, 5, 5, 6, 5, 6, 6, 7]).append ([1, 2, 2, 3, 2, 3, 3, 4, 2, 3, 3, 4, 3, 4, 4, 5, 2, 3, 3, 4, 3, 4, 4, 5, 3, 4, 4, 5, 4, 5, 5, 6, 2, 3, 3, 4, 3, 4, 4, 5, 3, 4, 4, 5, 4, 5, 5, 6, 3, 4, 4, 5, 4, 5, 5, 6, 4, 5, 5, 6, 5, 6, 6, 7].append [2, 3, 3, 4, 3, 4, 4, 5, 3, 4, 4, 5, 4, 5, 5, 6, 3, 4, 4, 5, 4, 5, 5, 6, 4, 5, 5, 6, 5, 6, 6, 7, 3, 4, 4, 5, 4, 5, 5, 6, 4, 5, 5, 6, 5, 6, 6, 7, 4, 5, 5, 6, 5, 6, 6, 7, 5, 6, 6, 7, 6, 7, 7, 8])).toArray⟩ : ByteArray) = Lib.pop8tab := by kernel_rfl
theorem and_255 {x : Int} (h0 : 0 ≤ x) (h1 : x < 512) : bits BinOp.and IntKind.u16 x 255 = x % 256 := by
  have h : ∀ k : Fin 512, bits BinOp.and IntKind.u16 ((k.val : Nat) : Int) 255 = ((k.val : Nat) : Int) % 256 := by decide +kernel
  have := h ⟨x.toNat, by omega⟩
  simp only [Int.toNat_of_nonneg h0] at this
  exact this
set_option maxHeartbeats 2000000 in
theorem ones16 (c : Int → Bool) (w : World) : Calls Try.prog 116 #[.int .u16 (gN c)] w fun e w' => e = .returned (.int .i64 (strN c 8).length) ∧ ∃ m, w' = w.drewN m := by
  have hl := gN_lt c
  have HP := hide (pop_int c)
  generalize hx : (gN c : Int) = x at *
  have x0 : 0 ≤ x := by omega
  have x1 : x < 512 := by omega
  clear hx
  have d0 : 0 ≤ x / 256 := by omega
  have d1 : x / 256 ≤ 255 := by omega
  have d2 := and_255 x0 x1
  go_enter Try.func116, Try.ntmps116
  go_wp2
  rw [tab_eq]
  go_quiet (fail)
  have HE : Hid ((Lib.pop8 (x / 256) + Lib.pop8 (x % 256)) % 256 = ((strN c 8).length : Int)) := hide (by have := unhide HP; omega)
  go_wp2
  go_ret
  exact ⟨ret_int (unhide HE), _, rfl⟩
theorem count (c : Int → Bool) (w : World) : Calls Try.prog 62 #[.int .u16 (gN c)] w fun e w' => e = .returned (.int .i64 (strN c 8).length) ∧ ∃ m, w' = w.drewN m := by
  go_enter Try.func62, Try.ntmps62
  go_wp2_with fail
  refine (ones16 c _).mono ?_
  rintro e w2 ⟨rfl, m, rfl⟩
  go_wp2_with fail
  go_ret
  exact ⟨rfl, _, rfl⟩
set_option maxRecDepth 100000 in
set_option maxHeartbeats 4000000 in
theorem addrs (s : Nat) (w : World) (hs : s < 65536) :
    Calls Try.prog 65 #[.int .u16 s] w fun e w' => ∃ v, e = .returned v ∧ Below w.heap.size w w' ∧ In.LstV w' v (strN (hasB s) 8) w.heap.size w'.heap.size := by
  obtain ⟨c, hc⟩ : ∃ c, hasB s = c := ⟨_, rfl⟩
  have HC : Hid (∀ x, hasB s x = c x) := hide (fun x => by rw [hc])
  rw [hc]
  clear hc
  have O0 : Hid (w.ownsRow w.heap.size 3 1 (.slice none 0 0) (strN c 0).length (In.flat (strN c 0))) := hide (In.own_nil w w.heap.size)
  go_enter Try.func65, Try.ntmps65
  go_wp2_with fail
  go_loopw [3, 4] (fun v i wr => ∃ j : Nat, j ≤ 8 ∧ i = .int .i64 ((j : Int) + 1) ∧ Hid (wr.ownsRow w.heap.size 3 1 v (strN c j).length (In.flat (strN c j))) ∧ Hid (Below w.heap.size w wr)) (fun _ i _ => 9 - (intOf i).toNat)
  case atStart => exact ⟨0, by omega, rfl, O0, hide (Below.refl _ _)⟩
  case round =>
    obtain ⟨j, hj, rfl, how, hbl⟩ := hrel
    have hbs := (unhide hbl).size
    have hfl := strN_len c j
    by_cases hlt : (j : Int) + 1 ≤ 8
    · have HY := hide (fun (h : c ((j : Int) + 1) = true) => strN_yes h)
      have HZ := hide (fun (h : c ((j : Int) + 1) = false) => strN_no h)
      obtain ⟨b, hb⟩ : ∃ b, c ((j : Int) + 1) = b := ⟨_, rfl⟩
      have HB := hide hb
      rw [hb] at HY HZ
      clear hb
      go_wp2_with fail
      refine (has s ((j : Int) + 1) _ hs).mono ?_
      rintro e w5 ⟨rfl, b5⟩
      rw [unhide HC, unhide HB]
      have HB5 := hide ((unhide hbl).trans (b5.mono (unhide hbl).size))
      have HO5 := hide (Ln.own_belowI (unhide how) b5)
      have hs5 := (unhide HB5).size
      clear b5
      cases b
      · have HTF := hide (unhide HZ rfl)
        have HO : Hid (w5.ownsRow w.heap.size 3 1 u3 (strN c (j + 1)).length (In.flat (strN c (j + 1)))) := hide (by rw [unhide HTF]; exact unhide HO5)
        go_wp2_with fail
        go_roundw
        case rel => exact ⟨j + 1, by omega, by go_num, HO, HB5⟩
        case measure => simp [intOf]; omega
      · have HTF := hide (unhide HY rfl)
        go_wp2_with (at_builtin; refine In.wpList_apS ((unhide HO5).alloc _) w5.heap.size 0 1 1 [(j : Int) + 1] rfl (In.rm_new w5 ((j : Int) + 1)) (by simp only [List.length_cons, List.length_nil]; omega) (by simp; omega) rfl _ _ rfl rfl rfl ?_; intro v' w' ho hg; have HO : Hid (w'.ownsRow w.heap.size 3 1 v' (strN c (j + 1)).length (In.flat (strN c (j + 1)))) := hide (by rw [unhide HTF]; exact ho); have HB := hide (In.below_own ((unhide HB5).alloc hs5 _) ((unhide HO5).alloc _) hg (Nat.le_refl _) (by simp; omega)); clear ho hg)
        go_roundw
        case rel => exact ⟨j + 1, by omega, by go_num, HO, HB⟩
        case measure => simp [intOf]; omega
    · obtain rfl : j = 8 := by omega
      have HLs := hide (In.lst_own rfl (unhide how))
      go_wp2_with fail
      go_ret
      exact ⟨_, rfl, unhide hbl, unhide HLs⟩
end Gp
end Go.Proofs.Ytpknahhdapmcoac
namespace Go.Proofs.Ytpknahhdapmcoac
open Go.ChangeShapes Go.WideShapes Go.ChangeAt Go.RowKit
set_option linter.unusedVariables false
set_option linter.unusedSimpArgs false
namespace Gp
open W1
/-- The cells of a ground; its value. -/
def gC (s : Nat) (V R : Nat → Nat) : List Value := [.int .u16 s, .int .u16 (V 0), .int .u16 (V 1), .int .u16 (V 2), .int .u16 (V 3), .int .u16 (V 4), .int .u16 (V 5), .int .u16 (V 6), .int .u16 (V 7), .int .u16 (V 8), .int .u16 (R 0), .int .u16 (R 1), .int .u16 (R 2), .int .u16 (R 3), .int .u16 (R 4), .int .u16 (R 5), .int .u16 (R 6), .int .u16 (R 7), .int .u16 (R 8)]
def GV (s : Nat) (V R : Nat → Nat) : Value := .agg (gC s V R).toArray
theorem gC_len (s : Nat) (V R : Nat → Nat) : (gC s V R).length = 19 := rfl
theorem gC_one (s : Nat) (V R : Nat → Nat) : ∀ v ∈ gC s V R, v.oneCell' = true := by
  intro v hv
  unfold gC at hv
  simp only [List.mem_cons, List.not_mem_nil, or_false] at hv
  rcases hv with rfl | rfl | rfl | rfl | rfl | rfl | rfl | rfl | rfl | rfl | rfl | rfl | rfl | rfl | rfl | rfl | rfl | rfl | rfl <;> rfl
theorem gC_v (s : Nat) (V R : Nat → Nat) : ∀ i, i < 9 → (gC s V R)[1 + i]? = some (.int .u16 (V i))
  | 0, _ | 1, _ | 2, _ | 3, _ | 4, _ | 5, _ | 6, _ | 7, _ | 8, _ => rfl
  | n + 9, h => by omega
theorem gC_r (s : Nat) (V R : Nat → Nat) : ∀ i, i < 9 → (gC s V R)[10 + i]? = some (.int .u16 (R i))
  | 0, _ | 1, _ | 2, _ | 3, _ | 4, _ | 5, _ | 6, _ | 7, _ | 8, _ => rfl
  | n + 9, h => by omega
/-- A ground lies in a block, which may be written. -/
def GA (w : World) (b : Nat) (s : Nat) (V R : Nat → Nat) : Prop := w.rangeAt b 0 (gC s V R) ∧ w.there b 0 19
theorem GA.s {w : World} {b s : Nat} {V R : Nat → Nat} (h : GA w b s V R) : w.cell? ⟨b, 0, none⟩ = some (.int .u16 s) := h.1 0 _ rfl
theorem GA.v {w : World} {b s : Nat} {V R : Nat → Nat} (h : GA w b s V R) {i : Nat} (hi : i < 9) : w.cell? ⟨b, 1 + i, none⟩ = some (.int .u16 (V i)) ∧ w.frozen? ⟨b, 1 + i, none⟩ = false := by
  have h1 := h.1 (1 + i) _ (gC_v s V R i hi)
  have h2 := (h.2 (1 + i) (by omega)).2
  rw [Nat.zero_add] at h1 h2
  exact ⟨h1, h2⟩
theorem GA.r {w : World} {b s : Nat} {V R : Nat → Nat} (h : GA w b s V R) {i : Nat} (hi : i < 9) : w.cell? ⟨b, 10 + i, none⟩ = some (.int .u16 (R i)) ∧ w.frozen? ⟨b, 10 + i, none⟩ = false := by
  have h1 := h.1 (10 + i) _ (gC_r s V R i hi)
  have h2 := (h.2 (10 + i) (by omega)).2
  rw [Nat.zero_add] at h1 h2
  exact ⟨h1, h2⟩
theorem GA.lt {w : World} {b s : Nat} {V R : Nat → Nat} (h : GA w b s V R) : b < w.heap.size := World.block_lt_of_cell? _ _ h.s
theorem GA.under {w w' : World} {B b s : Nat} {V R : Nat → Nat} (h : GA w b s V R) (hb : Below B w w') (hg : b < B) : GA w' b s V R :=
  ⟨fun j v hv => (hb.cell (p := ⟨b, 0 + j, none⟩) hg).trans (h.1 j v hv), fun j hj => ⟨by rw [hb.cell (p := ⟨b, 0 + j, none⟩) hg]; exact (h.2 j hj).1, by rw [hb.frozen (p := ⟨b, 0 + j, none⟩) hg]; exact (h.2 j hj).2⟩⟩
theorem GA.below {w w' : World} {b s : Nat} {V R : Nat → Nat} (h : GA w b s V R) (hb : Below w.heap.size w w') : GA w' b s V R := h.under hb h.lt
theorem there_set {w : World} {b o n k : Nat} {v : Value} (h : w.there b o n) : (w.setCell ⟨b, k, none⟩ v).there b o n := fun j hj => by
  refine ⟨?_, by rw [World.frozen?_setCell]; exact (h j hj).2⟩
  obtain ⟨u, hu⟩ := Option.isSome_iff_exists.1 (h j hj).1
  obtain ⟨u', hu'⟩ := cell?_setCell_some (p := ⟨b, k, none⟩) (x := v) hu
  rw [hu']; rfl
def upd (V : Nat → Nat) (k x : Nat) : Nat → Nat := fun i => if i = k then x else V i
theorem upd_v (s : Nat) (V R : Nat → Nat) (x : Nat) : ∀ k, k < 9 → (gC s V R).set (1 + k) (.int .u16 x) = gC s (upd V k x) R
  | 0, _ | 1, _ | 2, _ | 3, _ | 4, _ | 5, _ | 6, _ | 7, _ | 8, _ => rfl
  | n + 9, h => by omega
theorem upd_r (s : Nat) (V R : Nat → Nat) (x : Nat) : ∀ k, k < 9 → (gC s V R).set (10 + k) (.int .u16 x) = gC s V (upd R k x)
  | 0, _ | 1, _ | 2, _ | 3, _ | 4, _ | 5, _ | 6, _ | 7, _ | 8, _ => rfl
  | n + 9, h => by omega
theorem range_set {w : World} {b k : Nat} {cs : List Value} {v : Value} (h : w.rangeAt b 0 cs) (hk : k < cs.length) : (w.setCell ⟨b, k, none⟩ v).rangeAt b 0 (cs.set k v) := fun j u hu => by
  rw [Nat.zero_add]
  by_cases e : j = k
  · subst e
    rw [List.getElem?_set_self hk] at hu
    have h0 := h j _ (List.getElem?_eq_getElem hk)
    rw [Nat.zero_add] at h0
    rw [World.cell?_setCell_same _ _ _ h0]; exact hu
  · rw [List.getElem?_set_ne (fun h => e h.symm)] at hu
    have h0 := h j _ hu
    rw [Nat.zero_add] at h0
    rw [World.cell?_setCell_other _ _ _ _ (by intro e'; injection e' with _ e2 _; omega)]; exact h0
theorem GA.setV {w : World} {b s : Nat} {V R : Nat → Nat} (h : GA w b s V R) {k : Nat} (hk : k < 9) (x : Nat) : GA (w.setCell ⟨b, 1 + k, none⟩ (.int .u16 x)) b s (upd V k x) R := ⟨by rw [← upd_v s V R x k hk]; exact range_set h.1 (by rw [gC_len]; omega), there_set h.2⟩
theorem GA.setR {w : World} {b s : Nat} {V R : Nat → Nat} (h : GA w b s V R) {k : Nat} (hk : k < 9) (x : Nat) : GA (w.setCell ⟨b, 10 + k, none⟩ (.int .u16 x)) b s V (upd R k x) := ⟨by rw [← upd_r s V R x k hk]; exact range_set h.1 (by rw [gC_len]; omega), there_set h.2⟩
theorem below_cells {B : Nat} {w0 : World} {b : Nat} (hb : B ≤ b) : ∀ (vs : List Value) (o : Nat) (w : World), Below B w0 w → Below B w0 (w.setCells b o vs)
  | [], _, w, h => h
  | v :: r, o, w, h => below_cells hb r (o + 1) _ (h.setCell (p := ⟨b, o, none⟩) hb v)
theorem size_cells {b : Nat} : ∀ (vs : List Value) (o : Nat) (w : World), (w.setCells b o vs).heap.size = w.heap.size
  | [], _, w => rfl
  | v :: r, o, w => by show ((w.setCell ⟨b, o, none⟩ v).setCells b (o + 1) r).heap.size = _; rw [size_cells r (o + 1)]; simp [World.setCell]
theorem there_cells {b n : Nat} : ∀ (vs : List Value) (o : Nat) (w : World), w.there b 0 n → (w.setCells b o vs).there b 0 n
  | [], _, w, h => h
  | v :: r, o, w, h => there_cells r (o + 1) _ (there_set h)
theorem infoG : Try.prog.underlying 94 = some (Try.prog.underlying 94).get! ∧ ((Try.prog.underlying 94).get!).isRow = true ∧ (Try.prog.info? 94).map (·.size) = some 19 := ⟨by kernel_rfl, by kernel_rfl, by kernel_rfl⟩
/-- A ground is read whole. -/
theorem wpList_loadG {ops : Array Oper} {rest : List Oper} {op : Oper} {a : Act} {w : World} {Q : Exit → Act → World → Prop} (x : Operand) (hgd : op.guard = none) (ho : op.op = .load 94 x) {b s : Nat} {V R : Nat → Nat} (hx : a.eval x = .pointer (some ⟨b, 0, none⟩)) (h : GA w b s V R)
    (hk : wpList Try.prog ops Q rest (a.put op.dst (GV s V R)) w) : wpList Try.prog ops Q (op :: rest) a w :=
  wpList_load_mid hgd 94 x ho b 0 hx (gC s V R) _ h.1 infoG.1 infoG.2.1 infoG.2.2 hk
theorem run_execG {op : Oper} {a : Act} {w : World} (x : Operand) (ho : op.op = .load 94 x) {b s : Nat} {V R : Nat → Nat} (hx : a.eval x = .pointer (some ⟨b, 0, none⟩)) (h : GA w b s V R) : (execOp a.eval op).run Try.prog w = .ok (.value (GV s V R)) w := by
  unfold execOp
  simp only [ho, hx, Instr.loadAt, Instr.sureAddr, Sem.run_bind, Sem.run_pure, Result.andThen_ok, run_loadVar_mid w b 0 94 (gC s V R) _ h.1 infoG.1 infoG.2.1 infoG.2.2]
  rfl
/-- A ground is written whole. -/
theorem wpList_storeG {ops : Array Oper} {rest : List Oper} {op : Oper} {a : Act} {w : World} {Q : Exit → Act → World → Prop} (x y : Operand) (hgd : op.guard = none) (ho : op.op = .store 94 x y) {b s : Nat} {V R : Nat → Nat} (hx : a.eval x = .pointer (some ⟨b, 0, none⟩)) (hy : a.eval y = GV s V R) (ht : w.there b 0 19)
    (hk : ∀ w', GA w' b s V R → (∀ B w0, Below B w0 w → B ≤ b → Below B w0 w') → w'.heap.size = w.heap.size → wpList Try.prog ops Q rest (a.put op.dst undef) w') : wpList Try.prog ops Q (op :: rest) a w :=
  wpList_store_mid hgd 94 x y ho b 0 (gC s V R).toArray hx hy ht infoG.2.2 (all_oneCell_toArray (gC_one s V R)) (hk _ ⟨World.rangeAt_setCells_same w b 0 _ ht, there_cells _ _ _ ht⟩ (fun B w0 h hb => below_cells hb _ _ _ h) (size_cells _ _ _))
/-- A ground laid anew. -/
theorem run_boxG (s : Nat) (V R : Nat → Nat) (w : World) : (Instr.box 94 (GV s V R)).run Try.prog w = .ok (.pointer (some ⟨w.heap.size, 0, none⟩)) (w.alloc (.cells (gC s V R).toArray 94)) := by
  simp [Instr.box, newVar, newRow, GV, Value.cells]
theorem ga_new (w : World) (s : Nat) (V R : Nat → Nat) (t : Nat) : GA (w.alloc (.cells (gC s V R).toArray t)) w.heap.size s V R := by
  have hb : (w.alloc (.cells (gC s V R).toArray t)).heap[w.heap.size]? = some (.cells (gC s V R).toArray t) := heap_alloc_last w _
  refine ⟨fun j v hv => ?_, fun j hj => ⟨?_, ?_⟩⟩
  · have hj : j < (gC s V R).length := (List.getElem?_eq_some_iff.1 hv).1
    rw [Nat.zero_add]
    unfold World.cell?
    simp only [hb]
    simpa using hv
  · rw [Nat.zero_add]
    unfold World.cell?
    simp only [hb]
    simp [gC_len, hj]
  · unfold World.frozen?
    simp only [hb]
    simp
theorem wpList_boxG {ops : Array Oper} {rest : List Oper} {op : Oper} {a : Act} {w : World} {Q : Exit → Act → World → Prop} (x : Operand) (hgd : op.guard = none) (ho : op.op = .box 94 x) {s : Nat} {V R : Nat → Nat} (hx : a.eval x = GV s V R)
    (hk : ∀ w', GA w' w.heap.size s V R → Below w.heap.size w w' → w'.heap.size = w.heap.size + 1 → wpList Try.prog ops Q rest (a.put op.dst (.pointer (some ⟨w.heap.size, 0, none⟩))) w') : wpList Try.prog ops Q (op :: rest) a w := by
  refine wpList_plain hgd fun K hK => ?_
  unfold Oper.wp execOp
  simp only [ho, hx, run_boxG, Sem.run_bind, Sem.run_pure, Result.andThen_ok]
  exact hK _ _ (hk _ (ga_new w s V R _) ((Below.refl _ _).alloc (Nat.le_refl _) _) (by simp))
/-- A ground handed back. -/
theorem resultsG {fn : Func} {p : Tmp} (h : fn.results = #[.cell p 94]) (tmps : Array Value) (w : World) {b s : Nat} {V R : Nat → Nat} (hp : tmps.getD p undef = .pointer (some ⟨b, 0, none⟩)) (hg : GA w b s V R) : (results fn tmps).run Try.prog w = .ok (GV s V R) w := by
  have hp' : tmps[p]?.getD undef = .pointer (some ⟨b, 0, none⟩) := by simpa using hp
  simp only [results, h]
  simp [Sem.run_bind, hp', asAddr, run_loadVar_mid w b 0 94 (gC s V R) _ hg.1 infoG.1 infoG.2.1 infoG.2.2, Result.andThen, GV]
end Gp
end Go.Proofs.Ytpknahhdapmcoac
namespace Go.Proofs.Ytpknahhdapmcoac
open Go.ChangeShapes Go.WideShapes Go.ChangeAt Go.RowKit
set_option linter.unusedVariables false
set_option linter.unusedSimpArgs false
attribute [local go_sem ↓] Go.wp_at_zero Go.wp_at_succ
namespace Gp
open W1 Tu St Tw Mr Mt
/-- What a ground's fields are, behind the first j of the strict ones and k of those that reach the next. -/
def vN (S : List Int) (via : Int → List Int) (i : Nat) : Nat := if S.contains (i : Int) = true then gL (via i) else 0
def rB (S : List Int) (via : Int → List Int) (a : Int) (z : Int) : Bool := S.contains z && (via z).contains a
def rN (S : List Int) (via : Int → List Int) (i : Nat) : Nat := gN (rB S via i)
def rK (S : List Int) (via : Int → List Int) (z : Int) (vs : List Int) (i : Nat) : Nat := gN (fun y => rB S via i y || (y == z && vs.contains (i : Int)))
theorem vN_step {S : List Int} {via : Int → List Int} {j k : Nat} (h : j < S.length) (hk : S.getD j 0 = (k : Int)) : upd (vN (S.take j) via) k (gL (via k)) = vN (S.take (j + 1)) via := by
  funext i
  unfold upd vN
  rw [take_has h, hk]
  by_cases e : i = k
  · subst e; simp
  · have : ((i : Int) == (k : Int)) = false := by simp; omega
    rw [if_neg e, this, Bool.or_false]
theorem rK_start (S : List Int) (via : Int → List Int) (z : Int) : rK S via z [] = rN S via := by
  funext i; unfold rK rN; exact gN_congr (fun y _ _ => by simp)
theorem rK_end {S : List Int} {via : Int → List Int} {j : Nat} (h : j < S.length) : rK (S.take j) via (S.getD j 0) (via (S.getD j 0)) = rN (S.take (j + 1)) via := by
  funext i; unfold rK rN
  refine gN_congr (fun y _ _ => ?_)
  unfold rB
  rw [take_has h]
  by_cases e : y = S.getD j 0
  · rw [← e]; simp
  · have : (y == S.getD j 0) = false := by simpa using e
    rw [this]; simp
theorem rK_step {S : List Int} {via : Int → List Int} {z : Int} {vs : List Int} {t k : Nat} (h : t < vs.length) (hk : vs.getD t 0 = (k : Int)) : upd (rK S via z (vs.take t)) k (gN (fun y => (rB S via k y || (y == z && (vs.take t).contains (k : Int))) || y == z)) = rK S via z (vs.take (t + 1)) := by
  funext i
  unfold upd rK
  by_cases e : i = k
  · subst e
    rw [if_pos rfl]
    refine gN_congr (fun y _ _ => ?_)
    rw [take_has h, hk]
    cases rB S via (i : Int) y <;> cases (y == z) <;> cases (vs.take t).contains (i : Int) <;> simp
  · rw [if_neg e]
    refine gN_congr (fun y _ _ => ?_)
    have : ((i : Int) == (k : Int)) = false := by simp; omega
    rw [take_has h, hk, this, Bool.or_false]
theorem via_rng {ms : List R} {ls : List Lk.R} {now z : Int} (h : Ln.linksB ls = true) : ∀ a ∈ viaF ms ls now z, 1 ≤ a ∧ a ≤ 8 := by
  intro a ha
  unfold viaF viaL at ha
  rw [List.take_length, List.mem_map] at ha
  obtain ⟨m, hm, rfl⟩ := ha
  obtain ⟨i, hi, e⟩ := List.getElem_of_mem (List.mem_filter.1 hm).1
  have := Ln.ok_ad (Ri.all_ok h hi)
  rw [List.getD_eq_getElem?_getD, List.getElem?_eq_getElem hi, e] at this
  exact this
theorem str_rng2 {ms : List R} {ls : List Lk.R} {me now : Int} : ∀ z ∈ strF ms ls me now, 1 ≤ z ∧ z ≤ 8 := fun z hz => by
  have := str_mem.1 hz; exact ⟨this.1, this.2.1⟩
theorem there_below {w w' : World} {b o n : Nat} (h : w.there b o n) (hb : Below w.heap.size w w') (hg : b < w.heap.size) : w'.there b o n := fun j hj => ⟨by rw [hb.cell (p := ⟨b, o + j, none⟩) hg]; exact (h j hj).1, by rw [hb.frozen (p := ⟨b, o + j, none⟩) hg]; exact (h j hj).2⟩
theorem there_of {w w' : World} {b o n B : Nat} (h : w.there b o n) (hb : Below B w w') (hg : b < B) : w'.there b o n := fun j hj => ⟨by rw [hb.cell (p := ⟨b, o + j, none⟩) hg]; exact (h j hj).1, by rw [hb.frozen (p := ⟨b, o + j, none⟩) hg]; exact (h j hj).2⟩
theorem lst_set {W : World} {a : Option Addr} {zs : List Int} {lo hi G k : Nat} {v : Value} (h : In.Lst W a zs lo hi) (hG : G < lo) : In.Lst (W.setCell ⟨G, k, none⟩ v) a zs lo hi :=
  h.but (p := fun x => x ≠ G) (by simp [World.setCell]) (fun x _ hx => Below.heap_setCell _ _ _ _ hx) (fun x h1 _ => by omega)
set_option maxRecDepth 100000 in
set_option maxHeartbeats 8000000 in
theorem groundOf (a : Option Addr) (ms : List R) (cap : Nat) (b : Option Addr) (ls : List Lk.R) (capl : Nat) (me now : Int) (w : World) (hok : twoB ms = true ∧ Ln.linksB ls = true) (hr : RM w a ms) (hr' : Lk.RM w b ls) :
    Calls Try.prog 55 #[.slice a ms.length cap, .slice b ls.length capl, .int .i64 me, .int .i64 now] w fun e w' => e = .returned (GV (gL (strF ms ls me now)) (vN (strF ms ls me now) (viaF ms ls now)) (rN (strF ms ls me now) (viaF ms ls now))) ∧ Below w.heap.size w w' := by
  have HR := hide hr
  have HL := hide hr'
  have HOK := hide hok
  have h8 := Ln.links_len hok.2
  have HVR := hide (fun z => via_rng (ms := ms) (now := now) (z := z) hok.2)
  have HSR := hide (str_rng2 (ms := ms) (ls := ls) (me := me) (now := now))
  clear hr hr' hok
  obtain ⟨via, hv⟩ : ∃ via, viaF ms ls now = via := ⟨_, rfl⟩
  have HVL : Hid (∀ z, (via z).length ≤ ls.length) := hide (fun z => by rw [← hv]; exact via_len ms ls now z)
  have HV : Hid (∀ z, viaL (findT ms) ls z now ls.length = via z) := hide (fun z => by rw [← hv]; rfl)
  rw [hv] at HVR ⊢
  clear hv
  obtain ⟨S, hS⟩ : ∃ S, strF ms ls me now = S := ⟨_, rfl⟩
  have HS : Hid (strN (condS ms ls me now) 8 = S) := hide hS
  have hsl : S.length ≤ 8 := by rw [← hS]; exact str_len ms ls me now
  rw [hS] at HSR ⊢
  clear hS
  go_enter Try.func55, Try.ntmps55
  go_wp2_with fail
  have P0 := hide ((Below.refl w.heap.size w).alloc (Nat.le_refl _) (.cells #[.int .u16 0, .int .u16 0, .int .u16 0, .int .u16 0, .int .u16 0, .int .u16 0, .int .u16 0, .int .u16 0, .int .u16 0, .int .u16 0, .int .u16 0, .int .u16 0, .int .u16 0, .int .u16 0, .int .u16 0, .int .u16 0, .int .u16 0, .int .u16 0, .int .u16 0] 94))
  have F0 := hide (show (w.alloc (.cells #[.int .u16 0, .int .u16 0, .int .u16 0, .int .u16 0, .int .u16 0, .int .u16 0, .int .u16 0, .int .u16 0, .int .u16 0, .int .u16 0, .int .u16 0, .int .u16 0, .int .u16 0, .int .u16 0, .int .u16 0, .int .u16 0, .int .u16 0, .int .u16 0, .int .u16 0] 94)).there w.heap.size 0 19 from (ga_new w 0 (fun _ => 0) (fun _ => 0) 94).2)
  have hs0 : w.heap.size < (w.alloc (.cells #[.int .u16 0, .int .u16 0, .int .u16 0, .int .u16 0, .int .u16 0, .int .u16 0, .int .u16 0, .int .u16 0, .int .u16 0, .int .u16 0, .int .u16 0, .int .u16 0, .int .u16 0, .int .u16 0, .int .u16 0, .int .u16 0, .int .u16 0, .int .u16 0, .int .u16 0] 94)).heap.size := by simp
  have HR0 := hide ((unhide HR).below (unhide P0))
  have HL0 := hide ((unhide HL).below (unhide P0))
  generalize hw0 : w.alloc (.cells #[.int .u16 0, .int .u16 0, .int .u16 0, .int .u16 0, .int .u16 0, .int .u16 0, .int .u16 0, .int .u16 0, .int .u16 0, .int .u16 0, .int .u16 0, .int .u16 0, .int .u16 0, .int .u16 0, .int .u16 0, .int .u16 0, .int .u16 0, .int .u16 0, .int .u16 0] 94) = w0 at *
  clear hw0
  refine (tuplesByHop _ ms cap _ (unhide HOK).1 (unhide HR0)).mono ?_
  rintro e w2 ⟨bm, rfl, hbm, om2, b2⟩
  have HB2 := hide ((unhide P0).trans (b2.mono (unhide P0).size))
  have F2 := hide (there_below (unhide F0) b2 hs0)
  have HM2 := hide om2
  have HL2 := hide ((unhide HL0).below b2)
  have hs2 := Nat.lt_of_lt_of_le hs0 b2.size
  clear b2 om2
  go_wp2_with fail
  refine (strictOf bm ms.length ms _ ls capl me now _ (unhide HOK).2 (unhide HM2) (unhide HL2)).mono ?_
  rintro e w3 ⟨v3, rfl, b3, hl3⟩
  rw [unhide HS] at hl3
  obtain ⟨a3, c3, rfl, l3⟩ := hl3
  have HB3 := hide ((unhide HB2).trans (b3.mono (unhide HB2).size))
  have F3 := hide (there_below (unhide F2) b3 hs2)
  have HM3 := hide ((unhide HM2).below b3)
  have HL3 := hide ((unhide HL2).below b3)
  have HN3 := hide l3.rm
  have hs3 := Nat.lt_of_lt_of_le hs2 b3.size
  clear b3 l3
  go_wp2_with fail
  refine (groupOf a3 S c3 _ (by omega) (unhide HN3)).mono ?_
  rintro e w4 ⟨rfl, rfl⟩
  go_wp2_with (refine wpList_storeG _ _ rfl rfl (s := gL S) (V := fun _ => 0) (R := fun _ => 0) rfl rfl (ga_new w4 0 (fun _ => 0) (fun _ => 0) 94).2 ?_; intro w5 ga5 hbb5 hsz5; have HG5 := hide ga5; have HB5 := hide (hbb5 _ _ (Below.refl w4.heap.size w4 |>.alloc (Nat.le_refl _) (.cells #[.int .u16 0, .int .u16 0, .int .u16 0, .int .u16 0, .int .u16 0, .int .u16 0, .int .u16 0, .int .u16 0, .int .u16 0, .int .u16 0, .int .u16 0, .int .u16 0, .int .u16 0, .int .u16 0, .int .u16 0, .int .u16 0, .int .u16 0, .int .u16 0, .int .u16 0] 94)) (Nat.le_refl _)); clear ga5 hbb5 hsz5)
  generalize hn : S.length = n at *
  have HN := hide hn
  clear hn
  have G0 : Hid (GA w5 w4.heap.size (gL S) (vN (S.take 0) via) (rN (S.take 0) via)) := hide (by
    have e1 : vN (S.take 0) via = fun _ => 0 := by funext i; rfl
    have e2 : rN (S.take 0) via = fun _ => 0 := by funext i; exact gN_nil (fun _ _ _ => rfl)
    rw [e1, e2]; exact unhide HG5)
  clear HG5
  generalize hg : gL S = gs at *
  have HGS := hide hg
  clear hg
  obtain ⟨G, hG⟩ : ∃ G, w4.heap.size = G := ⟨_, rfl⟩
  rw [hG] at HB5 G0 hs3 ⊢
  have HGG := hide hG
  clear hG
  go_loopw [29] (fun i wo => ∃ j : Nat, j ≤ n ∧ i = .int .i64 j ∧ Hid (GA wo G gs (vN (S.take j) via) (rN (S.take j) via)) ∧ Hid (Below G w4 wo)) (fun i _ => n - (intOf i).toNat)
  case atStart => exact ⟨0, by omega, rfl, G0, HB5⟩
  case round =>
    rename World => wo
    obtain ⟨j, hj, rfl, hga, hbl⟩ := hrel
    have HBW : Hid (Below w4.heap.size w4 wo) := hide (by rw [unhide HGG]; exact unhide hbl)
    by_cases hlt : (j : Int) < (n : Int)
    · have k0 : (0 : Int) ≤ (j : Int) := by omega
      have hlen : j < S.length := by rw [unhide HN]; omega
      have HLr := hide ((unhide HL3).below (unhide HBW))
      have HMr := hide ((unhide HM3).below (unhide HBW))
      have hzr := unhide HSR _ (getD_mem hlen)
      have HVS := hide (fun (k : Nat) (hk : S.getD j 0 = (k : Int)) => vN_step (via := via) hlen hk)
      have HRE := hide (rK_end (via := via) hlen)
      rcases (unhide HN3).below (unhide HBW) with e0 | ⟨gl, ol, rfl, hc⟩
      · exfalso; rw [e0] at hlen; simp at hlen
      have c0 := hc j hlen
      clear hc
      generalize hz : S.getD j 0 = z at *
      obtain ⟨k, rfl⟩ : ∃ k : Nat, z = (k : Int) := ⟨z.toNat, by omega⟩
      have hk9 : k < 9 := by omega
      have HV1 := hide (unhide HVS k rfl)
      clear HVS hz
      have HWK : Hid ((Lit.int .i64 (k : Int)).wf = true) := hide (WalkArith.wf_i64 ⟨by omega, by omega⟩)
      go_wp2_with fail
      refine (viasOf bm ms.length _ _ ls capl (k : Int) now _ (unhide HWK) (unhide HOK).2 (unhide HMr) (unhide HLr)).mono ?_
      rintro e w5 ⟨v5, rfl, b5, hl5⟩
      rw [unhide HV] at hl5
      obtain ⟨a5, c5, rfl, l5⟩ := hl5
      have hvl := unhide HVL (k : Int)
      have HVA := hide (unhide HVR (k : Int))
      generalize hvs : via (k : Int) = vs at *
      have HVV := hide hvs
      clear hvs
      have HGb := hide ((unhide hga).below b5)
      have HB6 := hide ((unhide hbl).trans (b5.mono (Nat.le_of_lt (unhide hga).lt)))
      have hGo := (unhide hga).lt
      have HL5 := hide l5
      have HR5 := hide l5.rm
      clear b5 l5
      go_wp2_with fail
      refine (groupOf a5 vs c5 _ (by omega) (unhide HR5)).mono ?_
      rintro e w6 ⟨rfl, rfl⟩
      obtain ⟨cv, fv⟩ := (unhide HGb).v hk9
      have kk0 : (0 : Int) ≤ (k : Int) := by omega
      have kk9 : (k : Int) < 9 := by omega
      go_wp2_with fail
      have HG6 : Hid (GA (w6.setCell ⟨G, 1 + k, none⟩ (.int .u16 (gL vs))) G gs (vN (S.take (j + 1)) via) (rK (S.take j) via (k : Int) (vs.take 0))) := hide (by
        rw [List.take_zero, rK_start, ← unhide HV1]; exact (unhide HGb).setV hk9 (gL vs))
      have HL6 := hide (lst_set (k := 1 + k) (v := .int .u16 (gL vs)) (unhide HL5) hGo)
      have HB7 := hide ((unhide HB6).setCell (p := ⟨G, 1 + k, none⟩) (Nat.le_refl _) (.int .u16 (gL vs)))
      clear cv fv HGb HL5 HR5 HB6
      generalize hm : vs.length = m at *
      have HM := hide hm
      clear hm
      generalize hw7 : w6.setCell ⟨G, 1 + k, none⟩ (.int .u16 (gL vs)) = w7 at *
      clear hw7
      generalize hlo : wo.heap.size = lo at *
      generalize hhi : w6.heap.size = hi at *
      go_loopw [45] (fun i wr => ∃ t : Nat, t ≤ m ∧ i = .int .i64 t ∧ Hid (GA wr G gs (vN (S.take (j + 1)) via) (rK (S.take j) via (k : Int) (vs.take t))) ∧ Hid (Below G w4 wr) ∧ Hid (In.Lst wr a5 vs lo hi)) (fun i _ => m - (intOf i).toNat)
      case atStart => exact ⟨0, by omega, rfl, HG6, HB7, HL6⟩
      case round =>
        obtain ⟨t, ht, rfl, hga2, hbl2, hls2⟩ := hrel
        by_cases hlt2 : (t : Int) < (m : Int)
        · have k1 : (0 : Int) ≤ (t : Int) := by omega
          have hlen2 : t < vs.length := by rw [unhide HM]; omega
          have hyr := unhide HVA _ (getD_mem hlen2)
          have HRS := hide (fun (q : Nat) (hq : vs.getD t 0 = (q : Int)) => rK_step (S := S.take j) (via := via) (z := (k : Int)) hlen2 hq)
          rcases (unhide hls2).rm with e0 | ⟨gl2, ol2, rfl, hc⟩
          · exfalso; rw [e0] at hlen2; simp at hlen2
          have c2 := hc t hlen2
          clear hc
          generalize hy : vs.getD t 0 = y at *
          obtain ⟨q, rfl⟩ : ∃ q : Nat, y = (q : Int) := ⟨y.toNat, by omega⟩
          have hq9 : q < 9 := by omega
          have q0 : (0 : Int) ≤ (q : Int) := by omega
          have q9 : (q : Int) < 9 := by omega
          have HR1 := hide (unhide HRS q rfl)
          clear HRS hy
          obtain ⟨cr, fr⟩ := (unhide hga2).r hq9
          have HOR : Hid (bits .or .u16 (rK (S.take j) via (k : Int) (vs.take t) q : Int) (gL [(k : Int)] : Int) = (gN (fun y => (rB (S.take j) via q y || (y == (k : Int) && (vs.take t).contains (q : Int))) || y == (k : Int)) : Int)) := hide (by rw [gL_one]; exact or_int _ _)
          generalize hX : gN (fun y => (rB (S.take j) via q y || (y == (k : Int) && (vs.take t).contains (q : Int))) || y == (k : Int)) = X at *
          clear hX
          go_wp2_with fail
          have HRN : Hid (In.RM (wr.alloc (.cells #[.int .i64 (k : Int)] 3)).drew (some ⟨wr.heap.size, 0, none⟩) [(k : Int)]) := hide ((In.rm_new wr (k : Int)).below ((Below.refl _ _).drew))
          obtain ⟨cr2, fr2⟩ := ((unhide hga2).below ((Below.refl _ _).alloc (Nat.le_refl _) (.cells #[.int .i64 (k : Int)] 3))).r hq9
          go_region_with (go_at_call 64; refine (groupOf _ [(k : Int)] _ _ (by simp) (unhide HRN)).mono ?_; rintro e w' ⟨rfl, rfl⟩)
          all_goals (
            have HGn : Hid (GA ((wr.alloc (.cells #[.int .i64 (k : Int)] 3)).setCell ⟨G, 10 + q, none⟩ (.int .u16 (bits .or .u16 (rK (S.take j) via (k : Int) (vs.take t) q : Int) (gL [(k : Int)] : Int)))).drew G gs (vN (S.take (j + 1)) via) (rK (S.take j) via (k : Int) (vs.take (t + 1)))) := hide (by
              rw [unhide HOR, ← unhide HR1]
              exact (((unhide hga2).below ((Below.refl _ _).alloc (Nat.le_refl _) (.cells #[.int .i64 (k : Int)] 3))).setR hq9 X).below ((Below.refl _ _).drew))
            have HBn : Hid (Below G w4 ((wr.alloc (.cells #[.int .i64 (k : Int)] 3)).setCell ⟨G, 10 + q, none⟩ (.int .u16 (bits .or .u16 (rK (S.take j) via (k : Int) (vs.take t) q : Int) (gL [(k : Int)] : Int)))).drew) := hide ((((unhide hbl2).alloc (Nat.le_of_lt (unhide hga2).lt) _).setCell (p := ⟨G, 10 + q, none⟩) (Nat.le_refl _) _).drew)
            have HLn : Hid (In.Lst ((wr.alloc (.cells #[.int .i64 (k : Int)] 3)).setCell ⟨G, 10 + q, none⟩ (.int .u16 (bits .or .u16 (rK (S.take j) via (k : Int) (vs.take t) q : Int) (gL [(k : Int)] : Int)))).drew (some ⟨gl2, ol2, none⟩) vs lo hi) := hide ((lst_set ((unhide hls2).below ((Below.refl _ _).alloc (Nat.le_refl _) (.cells #[.int .i64 (k : Int)] 3))) hGo).below ((Below.refl _ _).drew))
            clear HR1 HOR HRN cr fr cr2 fr2 c2
            go_wp2_with fail
            go_roundw
            case rel => exact ⟨t + 1, by omega, by go_num, HGn, HBn, HLn⟩
            case measure => simp [intOf]; omega)
        · obtain rfl : t = m := by omega
          have HGe : Hid (GA wr G gs (vN (S.take (j + 1)) via) (rN (S.take (j + 1)) via)) := hide (by
            have := unhide hga2
            rw [← unhide HM, List.take_length, unhide HRE] at this; exact this)
          go_wp2_with fail
          go_roundw
          case rel => exact ⟨j + 1, by omega, by go_num, HGe, hbl2⟩
          case measure => simp [intOf]; omega
    · obtain rfl : j = n := by omega
      have HGe : Hid (GA wo G gs (vN S via) (rN S via)) := hide (by
        have := unhide hga
        rw [← unhide HN, List.take_length] at this; exact this)
      go_wp2_with (first | (refine wpList_loadG _ rfl rfl rfl (unhide HGe) ?_) | (refine wpList_storeG _ _ rfl rfl rfl rfl (there_of (unhide F3) (unhide hbl) hs3) ?_; intro w9 ga9 hbb9 hsz9; have HG9 := hide ga9; have HB9 := hide (hbb9 _ _ ((unhide HB3).trans ((unhide hbl).mono (Nat.le_of_lt hs3))) (Nat.le_refl _)); clear ga9 hbb9 hsz9))
      refine bodyPost_ret (resultsG rfl _ _ rfl (unhide HG9)) rfl ⟨by rw [unhide HGS], unhide HB9⟩
end Gp
end Go.Proofs.Ytpknahhdapmcoac
namespace Go.Proofs.Ytpknahhdapmcoac
open Go.ChangeShapes Go.WideShapes Go.ChangeAt Go.RowKit
set_option linter.unusedVariables false
set_option linter.unusedSimpArgs false
attribute [local go_sem ↓] Go.wp_at_zero Go.wp_at_succ
namespace Gp
open W1 Tu St Tw Mr Mt
theorem below_dN' (w : World) : ∀ q, Below w.heap.size w (w.drewN q) := fun q => ⟨rfl, rfl, rfl, Nat.le_refl _, fun _ _ => rfl⟩
/-- Those of the strict ones that one of some reaches. -/
def reB (S : List Int) (via : Int → List Int) (L : List Int) (z : Int) : Bool := L.any (fun a => rB S via a z)
theorem reB_step {S : List Int} {via : Int → List Int} {L : List Int} {j : Nat} (h : j < L.length) (z : Int) : reB S via (L.take (j + 1)) z = (reB S via (L.take j) z || rB S via (L.getD j 0) z) := by
  unfold reB; rw [zs_take h, List.any_append]; simp
set_option maxRecDepth 100000 in
set_option maxHeartbeats 4000000 in
theorem reachedBy (s : Nat) (V : Nat → Nat) (S : List Int) (via : Int → List Int) (c : Int → Bool) (w : World) :
    Calls Try.prog 58 #[GV s V (rN S via), .int .u16 (gN c)] w fun e w' => e = .returned (.int .u16 (gN (reB S via (strN c 8)))) ∧ Below w.heap.size w w' := by
  have hcl := gN_lt c
  have hsl := strN_len c 8
  have HLR := hide (fun z => (str_mem (c := c) (z := z)).1)
  have HLE : Hid (strN (hasB (gN c)) 8 = strN c 8) := hide (str_same (fun z h1 h2 => by
    rw [has_gN]; unfold inB; rw [decide_eq_true h1, decide_eq_true h2]; rfl))
  obtain ⟨L, hL⟩ : ∃ L, strN c 8 = L := ⟨_, rfl⟩
  rw [hL] at hsl HLE HLR ⊢
  clear hL
  generalize gN c = cn at *
  go_enter Try.func58, Try.ntmps58
  go_wp2_with (refine wpList_boxG _ rfl rfl rfl ?_; intro w1 ga1 b1 hs1; have HG1 := hide ga1; have HB1 := hide b1; clear ga1 b1)
  refine (addrs cn _ (by omega)).mono ?_
  rintro e w2 ⟨v2, rfl, b2, hl2⟩
  rw [unhide HLE] at hl2
  obtain ⟨a2, c2, rfl, l2⟩ := hl2
  have HG2 := hide ((unhide HG1).below b2)
  have HB2 := hide ((unhide HB1).trans (b2.mono (unhide HB1).size))
  have HL2 := hide l2.rm
  clear b2 l2
  generalize hn : L.length = n at *
  have HN := hide hn
  clear hn
  go_wp2_with fail
  go_loopw [5, 11] (fun g i wr => w2 = wr ∧ ∃ j : Nat, j ≤ n ∧ i = .int .i64 j ∧ ∃ x : Int, g = .int .u16 x ∧ Hid (x = gN (reB S via (L.take j)))) (fun _ i _ => n - (intOf i).toNat)
  case atStart => exact ⟨rfl, 0, by omega, rfl, 0, rfl, hide (by rw [gN_nil (c := reB S via (L.take 0)) (fun _ _ _ => rfl)]; rfl)⟩
  case round =>
    obtain ⟨rfl, j, hj, rfl, x, rfl, hx⟩ := hrel
    by_cases hlt : (j : Int) < (n : Int)
    · have k0 : (0 : Int) ≤ (j : Int) := by omega
      have hlen : j < L.length := by rw [unhide HN]; omega
      have hzr := unhide HLR _ (getD_mem hlen)
      have HT := hide (reB_step (S := S) (via := via) hlen)
      rcases unhide HL2 with e0 | ⟨gl, ol, rfl, hc⟩
      · exfalso; rw [e0] at hlen; simp at hlen
      have c0 := hc j hlen
      clear hc
      generalize L.getD j 0 = y at *
      obtain ⟨q, rfl⟩ : ∃ q : Nat, y = (q : Int) := ⟨y.toNat, by omega⟩
      have hq9 : q < 9 := by omega
      have q0 : (0 : Int) ≤ (q : Int) := by omega
      have q9 : (q : Int) < 9 := by omega
      have cr := ((unhide HG2).r hq9).1
      have HE : Hid (bits .or .u16 x (rN S via q : Int) = gN (reB S via (L.take (j + 1)))) := hide (by
        rw [unhide hx]; unfold rN; rw [or_int]; congr 1
        exact gN_congr (fun z _ _ => (unhide HT z).symm))
      clear hzr
      go_wp2_with fail
      go_roundw
      case rel => exact ⟨by first | trivial | rfl, j + 1, by omega, by go_num, _, rfl, HE⟩
      case measure => simp [intOf]; omega
    · obtain rfl : j = n := by omega
      have HE : Hid (x = gN (reB S via L)) := hide (by have := unhide hx; rw [← unhide HN, List.take_length] at this; exact this)
      go_wp2_with fail
      go_ret
      exact ⟨ret_int (unhide HE), unhide HB2⟩
/-- Whether those of a list cover. -/
def covB (S : List Int) (via : Int → List Int) (L : List Int) : Bool := gN (fun z => S.contains z && !reB S via L z) == 0
set_option maxRecDepth 100000 in
set_option maxHeartbeats 4000000 in
theorem isCovered (V : Nat → Nat) (S : List Int) (via : Int → List Int) (c : Int → Bool) (w : World) :
    Calls Try.prog 67 #[GV (gL S) V (rN S via), .int .u16 (gN c)] w fun e w' => e = .returned (.bool (covB S via (strN c 8))) ∧ Below w.heap.size w w' := by
  have e0 : covB S via (strN c 8) = (gN (fun z => S.contains z && !reB S via (strN c 8) z) == 0) := rfl
  rw [e0]
  clear e0
  have HNI : Hid (bits .andNot .u16 (gL S : Int) (gN (reB S via (strN c 8)) : Int) = (gN (fun z => S.contains z && !reB S via (strN c 8) z) : Int)) := hide (not_int _ _)
  have HRB := hide (fun W => reachedBy (gL S) V S via c W)
  generalize gN (fun z => S.contains z && !reB S via (strN c 8) z) = X at *
  generalize gN (reB S via (strN c 8)) = Y at *
  generalize gL S = s at *
  generalize gN c = cn at *
  generalize rN S via = rr at *
  go_enter Try.func67, Try.ntmps67
  go_wp2_with (refine wpList_boxG _ rfl rfl rfl ?_; intro w1 ga1 b1 hs1; have HG1 := hide ga1; have HB1 := hide b1; clear ga1 b1)
  refine wp_region_noPanic ?_
  refine wp_region_held_drew (S := fun w' => w'.cell? ⟨w.heap.size, 0, none⟩ = some (.int .u16 s) ∧ GA w' w.heap.size s V rr) (by kernel_rfl) ⟨(unhide HG1).s, (unhide HG1).below ((Below.refl _ _).drew)⟩ (fun hHeld => ?_)
  (refine Rg.tk (i := 0) (d := 5) (v := ?_) rfl rfl (by kernel_rfl) (by kernel_rfl) (by kernel_rfl) (fun _ _ _ h => h) (by rfl) ?_ (by assumption) ?_; rotate_left; (focus (intro w0 hSw; (try dsimp only at hSw); go_simp; (try with_reducible rfl))); (try simp only [Act.put, List.setIfInBounds_toArray, List.set_cons_zero, List.set_cons_succ]))
  (refine Rg.tk (i := 1) (d := 6) (v := ?_) rfl rfl (by kernel_rfl) (by kernel_rfl) (by kernel_rfl) (fun _ _ _ h => h) (by rfl) ?_ (by assumption) ?_; rotate_left; (focus (intro w0 hSw; (try dsimp only at hSw); go_simp; (try with_reducible rfl))); (try simp only [Act.put, List.setIfInBounds_toArray, List.set_cons_zero, List.set_cons_succ]))
  (refine Rg.tk (i := 2) (d := 7) (v := GV s V rr) rfl rfl (by kernel_rfl) (by kernel_rfl) (by kernel_rfl) (fun _ _ _ h => h) (by rfl) (fun w0 hSw => run_execG _ rfl rfl hSw.2) (by assumption) ?_; (try simp only [Act.put, List.setIfInBounds_toArray, List.set_cons_zero, List.set_cons_succ]))
  (refine Rg.tk (i := 3) (d := 8) (v := ?_) rfl rfl (by kernel_rfl) (by kernel_rfl) (by kernel_rfl) (fun _ _ _ h => h) (by rfl) ?_ (by assumption) ?_; rotate_left; (focus (intro w0 hSw; (try dsimp only at hSw); go_simp; (try with_reducible rfl))); (try simp only [Act.put, List.setIfInBounds_toArray, List.set_cons_zero, List.set_cons_succ]))
  (refine wpAnyH_ready (rs := [4]) (by kernel_rfl) (by simp) ?_; refine AllReadyH.cons (o := _) rfl (fun K hK => ?_) AllReadyH.nil; go_simp)
  refine (unhide HRB _).mono ?_
  rintro e w2 ⟨rfl, b2⟩
  have HG2 := hide (((unhide HG1).below ((Below.refl _ _).drew)).below b2)
  have HB2 := hide ((unhide HB1).trans (((Below.refl _ _).drew.trans b2).mono (unhide HB1).size))
  clear b2 hHeld
  refine hK.out _ _ ⟨(unhide HG2).s, unhide HG2⟩ (fun hHeld => ?_)
  clear hK K
  (try simp only [Act.put, List.setIfInBounds_toArray, List.set_cons_zero, List.set_cons_succ])
  (refine Rg.tk (i := 5) (d := 10) (v := ?_) rfl rfl (by kernel_rfl) (by kernel_rfl) (by kernel_rfl) (fun _ _ _ h => h) (by rfl) ?_ (by assumption) ?_; rotate_left; (focus (intro w0 hSw; (try dsimp only at hSw); go_simp; (try with_reducible rfl))); (try simp only [Act.put, List.setIfInBounds_toArray, List.set_cons_zero, List.set_cons_succ]))
  (refine Rg.tk (i := 6) (d := 11) (v := ?_) rfl rfl (by kernel_rfl) (by kernel_rfl) (by kernel_rfl) (fun _ _ _ h => h) (by rfl) ?_ (by assumption) ?_; rotate_left; (focus (intro w0 hSw; (try dsimp only at hSw); go_simp; (try with_reducible rfl))); (try simp only [Act.put, List.setIfInBounds_toArray, List.set_cons_zero, List.set_cons_succ]))
  (refine Rg.tk (i := 7) (d := 4) (v := ?_) rfl rfl (by kernel_rfl) (by kernel_rfl) (by kernel_rfl) (fun _ _ _ h => h) (by rfl) ?_ (by assumption) ?_; rotate_left; (focus (intro w0 hSw; (try dsimp only at hSw); go_simp; (try with_reducible rfl))); (try simp only [Act.put, List.setIfInBounds_toArray, List.set_cons_zero, List.set_cons_succ]))
  refine wpAnyH_done (by kernel_rfl) (NoPanic.normal ?_) _
  clear hHeld
  have HE : Hid ((bits .andNot .u16 (s : Int) (Y : Int) == 0) = (X == 0)) := hide (by
    rw [unhide HNI]
    by_cases h : X = 0
    · subst h; rfl
    · have h2 : ((X : Int) == 0) = false := by simp; omega
      rw [h2]; simp [h])
  go_wp2_with fail
  go_ret
  exact ⟨ret_bool (unhide HE), unhide HB2⟩
/-- Those that reach one of the strict ones alone. -/
def vB (S : List Int) (via : Int → List Int) (i : Nat) (a : Int) : Bool := S.contains (i : Int) && (via i).contains a
theorem vN_eq (S : List Int) (via : Int → List Int) (i : Nat) : vN S via i = gN (vB S via i) := by
  unfold vN
  cases h : S.contains (i : Int)
  · rw [if_neg (by simp)]; exact (gN_nil (fun z _ _ => by unfold vB; rw [h]; rfl)).symm
  · rw [if_pos rfl]; exact gN_congr (fun z _ _ => by unfold vB; rw [h]; rfl)
def lone (S : List Int) (via : Int → List Int) (i : Nat) : Bool := (strN (vB S via i) 8).length == 1
def oB (S : List Int) (via : Int → List Int) (n : Nat) (a : Int) : Bool := (List.range n).any (fun i => lone S via i && vB S via i a)
theorem oB_step (S : List Int) (via : Int → List Int) (n : Nat) (a : Int) : oB S via (n + 1) a = (oB S via n a || (lone S via n && vB S via n a)) := by
  unfold oB; rw [List.range_succ, List.any_append]; simp
def vC (V : Nat → Nat) : List Value := [.int .u16 (V 0), .int .u16 (V 1), .int .u16 (V 2), .int .u16 (V 3), .int .u16 (V 4), .int .u16 (V 5), .int .u16 (V 6), .int .u16 (V 7), .int .u16 (V 8)]
theorem vC_get (V : Nat → Nat) : ∀ i, i < 9 → (vC V)[i]? = some (.int .u16 (V i))
  | 0, _ | 1, _ | 2, _ | 3, _ | 4, _ | 5, _ | 6, _ | 7, _ | 8, _ => rfl
  | n + 9, h => by omega
theorem GA.vias {w : World} {b s : Nat} {V R : Nat → Nat} (h : GA w b s V R) : w.rangeAt b 1 (vC V) := fun j v hv => by
  have hj : j < 9 := (List.getElem?_eq_some_iff.1 hv).1
  rw [vC_get V j hj] at hv
  rw [(h.v hj).1]; exact hv
theorem infoA : Try.prog.underlying 92 = some (Try.prog.underlying 92).get! ∧ ((Try.prog.underlying 92).get!).isRow = true ∧ (Try.prog.info? 92).map (·.size) = some 9 := ⟨by kernel_rfl, by kernel_rfl, by kernel_rfl⟩
theorem idx_run (V : Nat → Nat) (W : World) : ∀ j : Nat, j < 9 → (Instr.index 92 (.agg (vC V).toArray) (.int .i64 (j : Int))).run Try.prog W = .ok (.int .u16 (V j)) W
  | 0, _ | 1, _ | 2, _ | 3, _ | 4, _ | 5, _ | 6, _ | 7, _ | 8, _ => by kernel_rfl
  | n + 9, h => by omega
set_option maxRecDepth 100000 in
set_option maxHeartbeats 4000000 in
theorem onlyOnes (s : Nat) (R : Nat → Nat) (S : List Int) (via : Int → List Int) (w : World) :
    Calls Try.prog 57 #[GV s (vN S via) R] w fun e w' => e = .returned (.int .u16 (gN (oB S via 9))) ∧ Below w.heap.size w w' := by
  have HVN : Hid (vN S via = fun i => gN (vB S via i)) := hide (by funext i; exact vN_eq S via i)
  rw [unhide HVN]
  have HIX : Hid (∀ (W : World) (j : Nat), j < 9 → (Instr.index 92 (.agg (vC (fun i => gN (vB S via i))).toArray) (.int .i64 (j : Int))).run Try.prog W = .ok (.int .u16 (gN (vB S via j))) W) := hide (fun W j hj => idx_run _ W j hj)
  clear HVN
  generalize hvc : (vC (fun i => gN (vB S via i))).toArray = arr at *
  have HVC := hide hvc
  clear hvc
  go_enter Try.func57, Try.ntmps57
  go_wp2_with (first | (refine wpList_boxG _ rfl rfl rfl ?_; intro w1 ga1 b1 hs1; have HG1 := hide ga1; have HB1 := hide b1; clear ga1 b1) | (refine wpList_load_mid rfl 92 _ rfl w.heap.size 1 rfl (vC (fun i => gN (vB S via i))) _ (unhide HG1).vias infoA.1 infoA.2.1 infoA.2.2 ?_; rw [unhide HVC]))
  go_loopw [3, 8] (fun g i wr => ∃ j : Nat, j ≤ 9 ∧ i = .int .i64 j ∧ (∃ x : Int, g = .int .u16 x ∧ Hid (x = gN (oB S via j))) ∧ Hid (Below w.heap.size w wr)) (fun _ i _ => 9 - (intOf i).toNat)
  case atStart => exact ⟨0, by omega, rfl, ⟨0, rfl, hide (by rw [gN_nil (c := oB S via 0) (fun _ _ _ => rfl)]; rfl)⟩, HB1⟩
  case round =>
    obtain ⟨j, hj, rfl, ⟨x, rfl, hx⟩, hbl⟩ := hrel
    by_cases hlt : (j : Int) < 9
    · have hix := unhide HIX wr j (by omega)
      have HST := hide (oB_step S via j)
      have HLN : Hid (lone S via j = ((strN (vB S via j) 8).length == 1)) := hide rfl
      go_wp2_with fail
      refine (count (vB S via j) _).mono ?_
      rintro e w2 ⟨rfl, q, rfl⟩
      have HB2 : Hid (Below w.heap.size w (wr.drewN q)) := hide ((unhide hbl).trans ((Below.refl _ _).trans (below_dN' wr q) |>.mono (unhide hbl).size))
      generalize hcn : (strN (vB S via j) 8).length = cn at *
      clear hcn
      have hci : ((cn : Int) == 1) = (cn == 1) := by
        by_cases h : cn = 1
        · subst h; rfl
        · have : ((cn : Int) == 1) = false := by simp; omega
          rw [this]; simp [h]
      cases hb : (cn == 1)
      · rw [hb] at hci HLN
        have HE : Hid (x = gN (oB S via (j + 1))) := hide (by
          rw [unhide hx]; congr 1
          exact gN_congr (fun z _ _ => by rw [unhide HST, unhide HLN]; simp))
        clear hb
        go_wp2_with fail
        go_roundw
        case rel => exact ⟨j + 1, by omega, by go_num, ⟨x, rfl, HE⟩, HB2⟩
        case measure => simp [intOf]; omega
      · rw [hb] at hci HLN
        have HE : Hid (bits .or .u16 x (gN (vB S via j) : Int) = gN (oB S via (j + 1))) := hide (by
          rw [unhide hx, or_int]; congr 1
          exact gN_congr (fun z _ _ => by rw [unhide HST, unhide HLN]; simp))
        clear hb
        go_wp2_with fail
        go_roundw
        case rel => exact ⟨j + 1, by omega, by go_num, ⟨_, rfl, HE⟩, HB2⟩
        case measure => simp [intOf]; omega
    · obtain rfl : j = 9 := by omega
      go_wp2_with fail
      go_ret
      exact ⟨ret_int (unhide hx), unhide hbl⟩
theorem gL_app (L : List Int) (a : Int) : bits .or .u16 (gL L : Int) (gL [a] : Int) = (gL (L ++ [a]) : Int) := by
  unfold gL; rw [or_int]; congr 1
  exact gN_congr (fun z _ _ => by rw [Bool.eq_iff_iff]; simp)
set_option maxRecDepth 100000 in
set_option maxHeartbeats 4000000 in
theorem alwaysWilling (a : Option Addr) (ls : List Lk.R) (cap : Nat) (now : Int) (w : World) (hl : ls.length ≤ 64) (hr : Lk.RM w a ls) :
    Calls Try.prog 56 #[.slice a ls.length cap, .int .i64 now] w fun e w' => e = .returned (.int .u16 (gL (alwV ls now ls.length))) ∧ Below w.heap.size w w' := by
  have HR := hide hr
  clear hr
  generalize hN : ls.length = n at *
  have HN := hide hN
  clear hN
  go_enter Try.func56, Try.ntmps56
  go_wp2_with fail
  go_loopw [5, 10] (fun g i wr => ∃ j : Nat, j ≤ n ∧ i = .int .i64 j ∧ (∃ x : Int, g = .int .u16 x ∧ Hid (x = gL (alwV ls now j))) ∧ Hid (Below w.heap.size w wr)) (fun _ i _ => n - (intOf i).toNat)
  case atStart => exact ⟨0, by omega, rfl, ⟨0, rfl, hide (by unfold gL; rw [gN_nil (c := fun z => (alwV ls now 0).contains z) (fun _ _ _ => rfl)]; rfl)⟩, hide (Below.refl _ _)⟩
  case round =>
    obtain ⟨j, hj, rfl, ⟨x, rfl, hx⟩, hbl⟩ := hrel
    by_cases hlt : (j : Int) < (n : Int)
    · have k0 : (0 : Int) ≤ (j : Int) := by omega
      have hlen : j < ls.length := by rw [unhide HN]; omega
      obtain ⟨g, off, rfl⟩ := (unhide HR).form (by omega)
      obtain ⟨c0, c1, c2, c3, c4, c5⟩ := ((unhide HR).below (unhide hbl)).at hlen
      have hbs := (unhide hbl).size
      have HY := hide (fun (h : alwB now (ls.getD j Lk.R.zero) = true) => alw_yes hlen h)
      have HZ := hide (fun (h : alwB now (ls.getD j Lk.R.zero) = false) => alw_no hlen h)
      generalize ls.getD j Lk.R.zero = m at *
      have HBA := hide ((unhide hbl).alloc hbs (.cells #[.int .i64 m.ad, .int .i64 m.hd, .int .i64 m.sy, .int .i64 m.ci, .int .i64 m.co, .int .i64 m.wl] 30))
      have HX := hide (Ln.bx_new wr m 30)
      have HVO : Hid (alwB now m = ((Ln.statusV m now == 2) && (m.wl == 7))) := hide rfl
      go_wp2_with fail
      generalize hW : wr.alloc (.cells #[.int .i64 m.ad, .int .i64 m.hd, .int .i64 m.sy, .int .i64 m.ci, .int .i64 m.co, .int .i64 m.wl] 30) = W0 at *
      clear hW
      refine (Ln.implStatus _ _ _ _ _ _ now _).mono ?_
      rintro e w2 ⟨rfl, b2⟩
      have HBL := hide ((unhide HBA).trans (b2.mono (unhide HBA).size))
      have HX2 := hide ((unhide HX).below b2)
      obtain ⟨d0, d1, d2, d3, d4, d5⟩ := unhide HX2
      clear b2 c0 c1 c2 c3 c4 c5
      have e2 : Ln.statusV ⟨m.ad, m.hd, m.sy, m.ci, m.co, m.wl⟩ now = Ln.statusV m now := rfl
      rw [e2]
      clear e2
      have hsw := (unhide HBL).size
      cases hs : (Ln.statusV m now == 2)
      · have HTF : Hid (x = gL (alwV ls now (j + 1))) := hide (by rw [unhide HZ (by rw [unhide HVO, hs]; rfl)]; exact unhide hx)
        clear HY HZ HVO
        generalize Ln.statusV m now = sv at *
        go_wp2_with fail
        go_roundw
        case rel => exact ⟨j + 1, by omega, by go_num, ⟨x, rfl, HTF⟩, HBL⟩
        case measure => simp [intOf]; omega
      cases hwl : (m.wl == 7)
      · have HTF : Hid (x = gL (alwV ls now (j + 1))) := hide (by rw [unhide HZ (by rw [unhide HVO, hs, hwl]; rfl)]; exact unhide hx)
        clear HY HZ HVO
        generalize Ln.statusV m now = sv at *
        go_wp2_with fail
        go_roundw
        case rel => exact ⟨j + 1, by omega, by go_num, ⟨x, rfl, HTF⟩, HBL⟩
        case measure => simp [intOf]; omega
      · have HTF : Hid (bits .or .u16 x (gL [m.ad] : Int) = gL (alwV ls now (j + 1))) := hide (by rw [unhide HY (by rw [unhide HVO, hs, hwl]; rfl), unhide hx]; exact gL_app _ _)
        clear HY HZ HVO
        generalize Ln.statusV m now = sv at *
        have HRN := hide (In.rm_new w2 m.ad)
        have HBN := hide ((unhide HBL).alloc hsw (.cells #[.int .i64 m.ad] 3))
        go_wp2_with fail
        refine (groupOf _ [m.ad] _ _ (by simp) (unhide HRN)).mono ?_
        rintro e w4 ⟨rfl, rfl⟩
        go_wp2_with fail
        go_roundw
        case rel => exact ⟨j + 1, by omega, by go_num, ⟨_, rfl, HTF⟩, HBN⟩
        case measure => simp [intOf]; omega
    · obtain rfl : j = n := by omega
      go_wp2_with fail
      go_ret
      exact ⟨ret_int (unhide hx), unhide hbl⟩
end Gp
end Go.Proofs.Ytpknahhdapmcoac
namespace Go.Proofs.Ytpknahhdapmcoac
open Go.ChangeShapes Go.WideShapes Go.ChangeAt Go.RowKit
set_option linter.unusedVariables false
set_option linter.unusedSimpArgs false
attribute [local go_sem ↓] Go.wp_at_zero Go.wp_at_succ
namespace Gp
open W1 Tu St Tw Mr Mt
theorem any_iff {L : List Int} {p : Int → Bool} : L.any p = true ↔ ∃ a ∈ L, p a = true := by rw [List.any_eq_true]
theorem re_any {S : List Int} {via : Int → List Int} {c : Int → Bool} {z : Int} (h : ∀ a ∈ via z, 1 ≤ a ∧ a ≤ 8) : reB S via (strN c 8) z = (S.contains z && (via z).any c) := by
  unfold reB rB
  rw [Bool.eq_iff_iff, Bool.and_eq_true, any_iff, any_iff]
  constructor
  · rintro ⟨a, ha, hb⟩
    rw [Bool.and_eq_true] at hb
    exact ⟨hb.1, a, List.contains_iff_mem.1 hb.2, (str_mem.1 ha).2.2⟩
  · rintro ⟨hs, a, ha, hb⟩
    have := h a ha
    exact ⟨a, str_mem.2 ⟨this.1, this.2, hb⟩, by rw [hs, List.contains_iff_mem.2 ha]; rfl⟩
theorem any_has {L rs : List Int} : L.any (fun a => rs.contains a) = rs.any (fun r => L.contains r) := by
  rw [Bool.eq_iff_iff, any_iff, any_iff]
  constructor
  · rintro ⟨a, h1, h2⟩; exact ⟨a, List.contains_iff_mem.1 h2, List.contains_iff_mem.2 h1⟩
  · rintro ⟨a, h1, h2⟩; exact ⟨a, List.contains_iff_mem.1 h2, List.contains_iff_mem.2 h1⟩
/-- Who is not reached. -/
theorem left_zero {S : List Int} {via : Int → List Int} {c : Int → Bool} {rs : List Int} (hS : ∀ z ∈ S, 1 ≤ z ∧ z ≤ 8) (hv : ∀ z, ∀ a ∈ via z, 1 ≤ a ∧ a ≤ 8) (hc : ∀ a, 1 ≤ a → a ≤ 8 → c a = rs.contains a) :
    covB S via (strN c 8) = ((leftV via S rs).length == 0) := by
  unfold covB
  rw [Bool.eq_iff_iff, beq_iff_eq, beq_iff_eq, gN_zero, str_zero, List.length_eq_zero_iff]
  unfold leftV
  rw [List.filter_eq_nil_iff]
  have key : ∀ z, (via z).any c = hitV via rs z := fun z => by
    unfold hitV
    rw [← any_has, Bool.eq_iff_iff, any_iff, any_iff]
    constructor
    · rintro ⟨a, h1, h2⟩; have := hv z a h1; exact ⟨a, h1, by rw [← hc a this.1 this.2]; exact h2⟩
    · rintro ⟨a, h1, h2⟩; have := hv z a h1; exact ⟨a, h1, by rw [hc a this.1 this.2]; exact h2⟩
  constructor
  · intro h z hz
    have h1 := hS z hz
    have h2 := h z h1.1 h1.2
    rw [re_any (hv z), key, List.contains_iff_mem.2 hz] at h2
    simpa using h2
  · intro h z h1 h2
    rw [re_any (hv z), key]
    cases hz : S.contains z
    · rfl
    · have := h z (List.contains_iff_mem.1 hz)
      simpa using this
theorem deg_eq {cd : Int → Bool} {via : Int → List Int} {a : Int} (hv : ∀ z, ∀ a ∈ via z, 1 ≤ a ∧ a ≤ 8) :
    (strN (reB (strN cd 8) via (strN (fun z => [a].contains z) 8)) 8).length = cntV via (strN cd 8) a := by
  unfold cntV
  rw [str_filter]
  congr 1
  refine str_same (fun z h1 h2 => ?_)
  rw [re_any (hv z), any_has]
  have : (strN cd 8).contains z = cd z := by
    rw [Bool.eq_iff_iff, List.contains_iff_mem, str_mem]
    exact ⟨fun h => h.2.2, fun h => ⟨h1, h2, h⟩⟩
  rw [this]; simp
set_option maxHeartbeats 2000000 in
theorem relaysCode (a : Option Addr) (ms : List R) (cap : Nat) (b : Option Addr) (ls : List Lk.R) (capl : Nat) (b2 : Option Addr) (rs : List Int) (capr : Nat) (w : World) (hm : ms.length ≤ 1048576) (hl : ls.length ≤ 1048576) (hrl : rs.length ≤ 1048576) (hr : RM w a ms) (hr' : Lk.RM w b ls) :
    Calls Try.prog 54 #[.slice a ms.length cap, .slice b ls.length capl, .slice b2 rs.length capr] w fun e w' => e = .returned (.int .i64 (codeM ms ls rs)) ∧ Below w.heap.size w w' := by
  have HR := hide hr
  have HL := hide hr'
  clear hr hr'
  by_cases h1 : 4096 < rs.length
  · have k1 : (4096 : Int) < rs.length := by omega
    rw [show codeM ms ls rs = 2 by unfold codeM; rw [if_pos h1]]
    clear h1
    go_enter Try.func54, Try.ntmps54
    go_wp2_with fail
    go_ret
    exact ⟨rfl, Below.refl _ _⟩
  have k1 : ¬ (4096 : Int) < rs.length := by omega
  by_cases hc : codeTL ms ls = 0
  rotate_left
  · rw [show codeM ms ls rs = codeTL ms ls by unfold codeM; rw [if_neg h1, if_neg hc]]
    generalize hcd : codeTL ms ls = cd at *
    have HC := hide hcd
    clear hcd
    have q1 : (cd != 0) = true := by simpa using hc
    go_enter Try.func54, Try.ntmps54
    go_wp2_with fail
    refine (twoLinksCode _ ms cap _ ls capl _ hm hl (unhide HR) (unhide HL)).mono ?_
    rintro e w1 ⟨rfl, b1⟩
    rw [unhide HC]
    have HB1 := hide b1
    clear b1
    go_wp2_with fail
    go_ret
    exact ⟨rfl, unhide HB1⟩
  have HC := hide hc
  by_cases h2 : 8 < rs.length
  · have k2 : (8 : Int) < rs.length := by omega
    rw [show codeM ms ls rs = 6 by unfold codeM; rw [if_neg h1, if_pos hc, if_pos h2]]
    clear h1 h2 hc
    go_enter Try.func54, Try.ntmps54
    go_wp2_with fail
    refine (twoLinksCode _ ms cap _ ls capl _ hm hl (unhide HR) (unhide HL)).mono ?_
    rintro e w1 ⟨rfl, b1⟩
    rw [unhide HC]
    have HB1 := hide b1
    clear b1
    go_wp2_with fail
    go_ret
    exact ⟨rfl, unhide HB1⟩
  · have k2 : ¬ (8 : Int) < rs.length := by omega
    rw [show codeM ms ls rs = 0 by unfold codeM; rw [if_neg h1, if_pos hc, if_neg h2]]
    clear h1 h2 hc
    go_enter Try.func54, Try.ntmps54
    go_wp2_with fail
    refine (twoLinksCode _ ms cap _ ls capl _ hm hl (unhide HR) (unhide HL)).mono ?_
    rintro e w1 ⟨rfl, b1⟩
    rw [unhide HC]
    have HB1 := hide b1
    clear b1
    go_wp2_with fail
    go_ret
    exact ⟨rfl, unhide HB1⟩
theorem codeM_nil (ms : List R) (ls : List Lk.R) : codeM ms ls [] = codeTL ms ls := by
  unfold codeM
  rw [if_neg (by simp)]
  split
  · rename_i h; rw [h]; simp
  · rfl
set_option maxRecDepth 100000 in
set_option maxHeartbeats 2000000 in
theorem implDegree (a : Option Addr) (ms : List R) (cap : Nat) (b : Option Addr) (ls : List Lk.R) (capl : Nat) (me now addr : Int) (w : World) (hm : ms.length ≤ 1048576) (hl : ls.length ≤ 1048576) (hr : RM w a ms) (hr' : Lk.RM w b ls) :
    Calls Try.prog 22 #[.slice a ms.length cap, .slice b ls.length capl, .int .i64 me, .int .i64 now, .int .i64 addr] w fun e w' => e = .returned (.tuple #[.int .i64 (degA ms ls me now addr), .int .i64 (codeTL ms ls)]) ∧ Below w.heap.size w w' := by
  have HRC := hide (fun W h1 h2 => relaysCode a ms cap b ls capl none [] 0 W hm hl (by simp) h1 h2)
  rw [codeM_nil] at HRC
  have HR := hide hr
  have HL := hide hr'
  clear hr hr'
  by_cases hc : codeTL ms ls = 0
  rotate_left
  · have h1 : degA ms ls me now addr = 0 := by unfold degA; rw [if_neg hc]
    rw [h1]
    clear h1
    generalize hcd : codeTL ms ls = cd at *
    clear hcd
    have q1 : (cd != 0) = true := by simpa using hc
    go_enter Try.func22, Try.ntmps22
    go_wp2_with fail
    refine (unhide HRC _ (unhide HR) (unhide HL)).mono ?_
    rintro e w1 ⟨rfl, b1⟩
    have HB1 := hide b1
    clear b1
    go_wp2_with fail
    go_ret2
    exact ⟨rfl, unhide HB1⟩
  have HOK := hide (codeTL_ok hc)
  have h1 : degA ms ls me now addr = (cntV (viaF ms ls now) (strF ms ls me now) addr : Int) := by unfold degA; rw [if_pos hc]
  have h2 := deg_eq (cd := condS ms ls me now) (via := viaF ms ls now) (a := addr) (fun z => via_rng (unhide HOK).2)
  have e3 : strN (condS ms ls me now) 8 = strF ms ls me now := rfl
  rw [e3] at h2
  rw [h1, ← h2]
  rw [hc] at HRC ⊢
  clear hc h1 h2 e3
  generalize hc1 : (fun z => [addr].contains z) = c1 at *
  have HGL : Hid (gL [addr] = gN c1) := hide (by rw [← hc1]; rfl)
  clear hc1
  go_enter Try.func22, Try.ntmps22
  go_wp2_with fail
  refine (unhide HRC _ (unhide HR) (unhide HL)).mono ?_
  rintro e w1 ⟨rfl, b1⟩
  have HB1 := hide b1
  have HR1 := hide ((unhide HR).below b1)
  have HL1 := hide ((unhide HL).below b1)
  clear b1
  go_wp2_with fail
  refine (groundOf _ ms cap _ ls capl me now _ (unhide HOK) (unhide HR1) (unhide HL1)).mono ?_
  rintro e w2 ⟨rfl, b2⟩
  have HB2 := hide ((unhide HB1).trans (b2.mono (unhide HB1).size))
  clear b2
  have HB3 := hide ((unhide HB2).alloc (unhide HB2).size (.cells #[.int .i64 addr] 3))
  have HRN := hide (In.rm_new w2 addr)
  go_wp2_with fail
  refine (groupOf _ [addr] _ _ (by simp) (unhide HRN)).mono ?_
  rintro e w4 ⟨rfl, hw4⟩
  rw [hw4, unhide HGL]
  clear hw4
  go_wp2_with fail
  refine (reachedBy _ _ _ _ c1 _).mono ?_
  rintro e w5 ⟨rfl, b5⟩
  have HB5 := hide ((unhide HB3).trans (b5.mono (unhide HB3).size))
  clear b5
  go_wp2_with fail
  refine (count _ _).mono ?_
  rintro e w6 ⟨rfl, q, rfl⟩
  have HB6 := hide ((unhide HB5).trans ((below_dN' w5 q).mono (unhide HB5).size))
  go_wp2_with fail
  go_ret2
  exact ⟨rfl, unhide HB6⟩
set_option maxRecDepth 100000 in
set_option maxHeartbeats 2000000 in
theorem implCovers (a : Option Addr) (ms : List R) (cap : Nat) (b : Option Addr) (ls : List Lk.R) (capl : Nat) (me now : Int) (b2 : Option Addr) (rs : List Int) (capr : Nat) (w : World) (hm : ms.length ≤ 1048576) (hl : ls.length ≤ 1048576) (hrl : rs.length ≤ 1048576) (hr : RM w a ms) (hr' : Lk.RM w b ls) (hrr : In.RM w b2 rs) :
    Calls Try.prog 20 #[.slice a ms.length cap, .slice b ls.length capl, .int .i64 me, .int .i64 now, .slice b2 rs.length capr] w fun e w' => e = .returned (.tuple #[.bool (covA ms ls me now rs), .int .i64 (codeM ms ls rs)]) ∧ Below w.heap.size w w' := by
  have HRC := hide (fun W h1 h2 => relaysCode a ms cap b ls capl b2 rs capr W hm hl hrl h1 h2)
  have HR := hide hr
  have HL := hide hr'
  have HRR := hide hrr
  clear hr hr' hrr
  by_cases hc : codeM ms ls rs = 0
  rotate_left
  · have h1 : covA ms ls me now rs = false := by unfold covA; rw [decide_eq_false hc]; rfl
    rw [h1]
    clear h1
    generalize hcd : codeM ms ls rs = cd at *
    clear hcd
    have q1 : (cd != 0) = true := by simpa using hc
    go_enter Try.func20, Try.ntmps20
    go_wp2_with fail
    refine (unhide HRC _ (unhide HR) (unhide HL)).mono ?_
    rintro e w1 ⟨rfl, b1⟩
    have HB1 := hide b1
    clear b1
    go_wp2_with fail
    go_ret2
    exact ⟨rfl, unhide HB1⟩
  have hr8 := (codeM_zero hc).2
  have HOK := hide (codeTL_ok (codeM_zero hc).1)
  have h1 : covA ms ls me now rs = ((leftV (viaF ms ls now) (strF ms ls me now) rs).length == 0) := by unfold covA; rw [decide_eq_true hc]; rfl
  have h2 := left_zero (S := strF ms ls me now) (via := viaF ms ls now) (c := fun z => rs.contains z) (rs := rs) str_rng2 (fun z => via_rng (unhide HOK).2) (fun _ _ _ => rfl)
  rw [h1, ← h2]
  rw [hc] at HRC ⊢
  clear hc h1 h2
  generalize hc1 : (fun z => rs.contains z) = c1 at *
  have HGL : Hid (gL rs = gN c1) := hide (by rw [← hc1]; rfl)
  clear hc1
  go_enter Try.func20, Try.ntmps20
  go_wp2_with fail
  refine (unhide HRC _ (unhide HR) (unhide HL)).mono ?_
  rintro e w1 ⟨rfl, b1⟩
  have HB1 := hide b1
  have HR1 := hide ((unhide HR).below b1)
  have HL1 := hide ((unhide HL).below b1)
  have HRR1 := hide ((unhide HRR).below b1)
  clear b1
  go_wp2_with fail
  refine (groundOf _ ms cap _ ls capl me now _ (unhide HOK) (unhide HR1) (unhide HL1)).mono ?_
  rintro e w2 ⟨rfl, b2⟩
  have HB2 := hide ((unhide HB1).trans (b2.mono (unhide HB1).size))
  have HRR2 := hide ((unhide HRR1).below b2)
  clear b2
  go_wp2_with fail
  refine (groupOf _ rs _ _ (by omega) (unhide HRR2)).mono ?_
  rintro e w4 ⟨rfl, hw4⟩
  rw [hw4, unhide HGL]
  clear hw4
  go_wp2_with fail
  refine (isCovered _ _ _ c1 _).mono ?_
  rintro e w5 ⟨rfl, b5⟩
  have HB5 := hide ((unhide HB2).trans (b5.mono (unhide HB2).size))
  clear b5
  go_wp2_with fail
  go_ret2
  exact ⟨rfl, unhide HB5⟩
end Gp
end Go.Proofs.Ytpknahhdapmcoac
