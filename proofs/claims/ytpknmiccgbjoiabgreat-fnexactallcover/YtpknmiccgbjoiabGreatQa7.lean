/-
  Of the texts Mg3, Mg4, CovM, Mg5, NetD: what this claim needs of them. (put together by mkprune.py)
-/
import Derived.Test.YtpknmiccgbjoiabGreatQa6
import Derived.Laws.BitsAllLaws
import Derived.Lib.BitFns
import Derived.BigQuiet
import Derived.Deep.MidRow
import Derived.Deep.WholeRow
import Derived.Deep.DeepCutAuto
import Derived.Deep.LoopGhost
import Derived.Deep.Cut
namespace Go.Proofs.YtpknmiccgbjoiabGreat
set_option linter.unusedVariables false
set_option linter.unusedSimpArgs false
namespace Gp
open W1 Tw Mr
/-- The number whose bits 1 to n are those of which a condition holds. -/
def gG (c : Int → Bool) : Nat → Nat
  | 0 => 0
  | n + 1 => gG c n ||| (if c ((n : Int) + 1) = true then 2 ^ (n + 1) else 0)
def gN (c : Int → Bool) : Nat := gG c 8
theorem gG_bit (c : Int → Bool) : ∀ n i : Nat, (gG c n).testBit i = (decide (1 ≤ i) && (decide (i ≤ n) && c (i : Int)))
  | 0, i => by
    rw [gG, Nat.zero_testBit]
    by_cases h : 1 ≤ i
    · rw [decide_eq_false (show ¬ i ≤ 0 by omega)]; simp
    · rw [decide_eq_false h]; rfl
  | n + 1, i => by
    rw [gG, Nat.testBit_or, gG_bit c n i]
    by_cases e : i = n + 1
    · subst e
      rw [decide_eq_false (show ¬ n + 1 ≤ n by omega), decide_eq_true (show 1 ≤ n + 1 by omega), decide_eq_true (Nat.le_refl _)]
      have ec : ((n + 1 : Nat) : Int) = (n : Int) + 1 := by omega
      rw [ec]
      cases c ((n : Int) + 1)
      · simp
      · simp [Nat.testBit_two_pow]
    · have h2 : (if c ((n : Int) + 1) = true then 2 ^ (n + 1) else 0 : Nat).testBit i = false := by
        split
        · rw [Nat.testBit_two_pow]; exact decide_eq_false (by omega)
        · exact Nat.zero_testBit i
      rw [h2, Bool.or_false]
      have : decide (i ≤ n) = decide (i ≤ n + 1) := by
        by_cases h : i ≤ n
        · rw [decide_eq_true h, decide_eq_true (by omega)]
        · rw [decide_eq_false h, decide_eq_false (by omega)]
      rw [this]
theorem gN_bit (c : Int → Bool) (i : Nat) : (gN c).testBit i = (decide (1 ≤ i) && (decide (i ≤ 8) && c (i : Int))) := gG_bit c 8 i
theorem gN_lt (c : Int → Bool) : gN c < 512 := by
  have : gN c < 2 ^ 9 := Nat.lt_pow_two_of_testBit _ (fun i hi => by rw [gN_bit, decide_eq_false (show ¬ i ≤ 8 by omega)]; simp)
  exact this
theorem gN_congr {c d : Int → Bool} (h : ∀ z, 1 ≤ z → z ≤ 8 → c z = d z) : gN c = gN d := Nat.eq_of_testBit_eq (fun i => by
  rw [gN_bit, gN_bit]
  by_cases h1 : 1 ≤ i
  · by_cases h2 : i ≤ 8
    · rw [h i (by omega) (by omega)]
    · rw [decide_eq_false h2]; simp
  · rw [decide_eq_false h1]; rfl)
theorem gN_or (c d : Int → Bool) : gN c ||| gN d = gN (fun z => c z || d z) := Nat.eq_of_testBit_eq (fun i => by
  rw [Nat.testBit_or, gN_bit, gN_bit, gN_bit]
  cases decide (1 ≤ i) <;> cases decide (i ≤ 8) <;> rfl)
theorem gN_and (c d : Int → Bool) : gN c &&& gN d = gN (fun z => c z && d z) := Nat.eq_of_testBit_eq (fun i => by
  rw [Nat.testBit_and, gN_bit, gN_bit, gN_bit]
  cases decide (1 ≤ i) <;> cases decide (i ≤ 8) <;> rfl)
theorem gN_not (c d : Int → Bool) : gN c &&& (65535 - gN d) = gN (fun z => c z && !d z) := Nat.eq_of_testBit_eq (fun i => by
  have hd := gN_lt d
  have e : 65535 - gN d = 2 ^ 16 - (gN d + 1) := by omega
  rw [e, Nat.testBit_and, Nat.testBit_two_pow_sub_succ (by omega), gN_bit, gN_bit, gN_bit]
  by_cases h : i ≤ 8
  · rw [decide_eq_true h, decide_eq_true (show i < 16 by omega)]
    cases decide (1 ≤ i) <;> cases c (i : Int) <;> cases d (i : Int) <;> rfl
  · rw [decide_eq_false h]; simp)
theorem or_int (c d : Int → Bool) : bits .or .u16 (gN c : Int) (gN d : Int) = (gN (fun z => c z || d z) : Int) := by
  have := gN_lt c; have := gN_lt d
  rw [u16_or_nat _ _ (by omega) (by omega), gN_or]
theorem and_int (c d : Int → Bool) : bits .and .u16 (gN c : Int) (gN d : Int) = (gN (fun z => c z && d z) : Int) := by
  have := gN_lt c; have := gN_lt d
  rw [u16_and_nat _ _ (by omega) (by omega), gN_and]
theorem not_int (c d : Int → Bool) : bits .andNot .u16 (gN c : Int) (gN d : Int) = (gN (fun z => c z && !d z) : Int) := by
  have := gN_lt c; have := gN_lt d
  rw [u16_andNot_nat _ _ (by omega) (by omega), gN_not]
/-- One address alone; none. -/
theorem gN_one {a : Int} (h1 : 1 ≤ a) (h2 : a ≤ 8) : gN (fun z => z == a) = 2 ^ a.toNat := Nat.eq_of_testBit_eq (fun i => by
  rw [gN_bit, Nat.testBit_two_pow]
  by_cases e : a.toNat = i
  · have : (i : Int) = a := by omega
    rw [this, decide_eq_true (show 1 ≤ i by omega), decide_eq_true (show i ≤ 8 by omega), decide_eq_true e]; simp
  · have : ((i : Int) == a) = false := by simp; omega
    rw [this, decide_eq_false e]; simp)
theorem gN_nil {c : Int → Bool} (h : ∀ z, 1 ≤ z → z ≤ 8 → c z = false) : gN c = 0 := by
  rw [gN_congr (d := fun _ => false) h]; rfl
/-- Whether a number has an address's bit. -/
def hasB (s : Nat) (a : Int) : Bool := inB a 1 8 && s.testBit a.toNat
theorem has_gN {c : Int → Bool} {a : Int} : hasB (gN c) a = (inB a 1 8 && c a) := by
  unfold hasB
  cases h : inB a 1 8
  · rfl
  · unfold inB at h
    rw [Bool.and_eq_true] at h
    have h1 := of_decide_eq_true h.1
    have h2 := of_decide_eq_true h.2
    rw [gN_bit, decide_eq_true (show 1 ≤ a.toNat by omega), decide_eq_true (show a.toNat ≤ 8 by omega), show ((a.toNat : Nat) : Int) = a by omega]; rfl
theorem and_has {s : Nat} (hs : s < 65536) (a : Int) : (decide (bits .and .u16 (s : Int) (gN (fun z => z == a) : Int) = 0)) = !hasB s a := by
  have hg := gN_lt (fun z => z == a)
  rw [u16_and_nat _ _ hs (by omega)]
  unfold hasB
  cases h : inB a 1 8
  · have : gN (fun z => z == a) = 0 := gN_nil (fun z h1 h2 => by
      unfold inB at h
      by_cases e : z = a
      · subst e; rw [decide_eq_true h1, decide_eq_true h2] at h; cases h
      · simpa using e)
    rw [this]; simp
  · unfold inB at h
    rw [Bool.and_eq_true] at h
    have h1 := of_decide_eq_true h.1
    have h2 := of_decide_eq_true h.2
    rw [gN_one h1 h2]
    cases ht : s.testBit a.toNat
    · have : s &&& 2 ^ a.toNat = 0 := Nat.eq_of_testBit_eq (fun i => by
        rw [Nat.testBit_and, Nat.testBit_two_pow, Nat.zero_testBit]
        by_cases e : a.toNat = i
        · rw [← e, ht]; rfl
        · rw [decide_eq_false e, Bool.and_false])
      rw [this]; rfl
    · have hn : ¬ s &&& 2 ^ a.toNat = 0 := fun e => by
        have := congrArg (fun x => Nat.testBit x a.toNat) e
        simp only [Nat.testBit_and, Nat.testBit_two_pow, Nat.zero_testBit, ht] at this
        simp at this
      rw [decide_eq_false (by omega)]; rfl
/-- How many there are. -/
def g8 (b1 b2 b3 b4 b5 b6 b7 b8 : Bool) : Nat := (((((((0 ||| (if b1 = true then 2 ^ 1 else 0)) ||| (if b2 = true then 2 ^ 2 else 0)) ||| (if b3 = true then 2 ^ 3 else 0)) ||| (if b4 = true then 2 ^ 4 else 0)) ||| (if b5 = true then 2 ^ 5 else 0)) ||| (if b6 = true then 2 ^ 6 else 0)) ||| (if b7 = true then 2 ^ 7 else 0)) ||| (if b8 = true then 2 ^ 8 else 0)
def n8 (b1 b2 b3 b4 b5 b6 b7 b8 : Bool) : Nat := (((((((0 + b1.toNat) + b2.toNat) + b3.toNat) + b4.toNat) + b5.toNat) + b6.toNat) + b7.toNat) + b8.toNat
theorem pop_all : ∀ b1 b2 b3 b4 b5 b6 b7 b8 : Bool, Lib.onesCount (g8 b1 b2 b3 b4 b5 b6 b7 b8 / 256) + Lib.onesCount (g8 b1 b2 b3 b4 b5 b6 b7 b8 % 256) = n8 b1 b2 b3 b4 b5 b6 b7 b8 := by decide +kernel
theorem strN_succ_len (c : Int → Bool) (n : Nat) : (strN c (n + 1)).length = (strN c n).length + (c ((n : Int) + 1)).toNat := by
  cases h : c ((n : Int) + 1)
  · rw [strN_no h]; rfl
  · rw [strN_yes h, List.length_append]; rfl
theorem str_n8 (c : Int → Bool) : (strN c 8).length = n8 (c 1) (c 2) (c 3) (c 4) (c 5) (c 6) (c 7) (c 8) := by
  rw [strN_succ_len, strN_succ_len, strN_succ_len, strN_succ_len, strN_succ_len, strN_succ_len, strN_succ_len, strN_succ_len]; rfl
theorem g_g8 (c : Int → Bool) : gN c = g8 (c 1) (c 2) (c 3) (c 4) (c 5) (c 6) (c 7) (c 8) := rfl
theorem pop_gN (c : Int → Bool) : Lib.onesCount (gN c / 256) + Lib.onesCount (gN c % 256) = (strN c 8).length := by rw [str_n8, g_g8]; exact pop_all _ _ _ _ _ _ _ _
theorem zero_all : ∀ b1 b2 b3 b4 b5 b6 b7 b8 : Bool, (g8 b1 b2 b3 b4 b5 b6 b7 b8 == 0) = (n8 b1 b2 b3 b4 b5 b6 b7 b8 == 0) := by decide +kernel
theorem gN_zero (c : Int → Bool) : gN c = 0 ↔ strN c 8 = [] := by
  have := zero_all (c 1) (c 2) (c 3) (c 4) (c 5) (c 6) (c 7) (c 8)
  rw [← g_g8, ← str_n8] at this
  constructor
  · intro h; rw [h] at this; exact List.eq_nil_of_length_eq_zero (by simpa using this.symm)
  · intro h; rw [h] at this; simpa using this
theorem str_zero {c : Int → Bool} : strN c 8 = [] ↔ ∀ z, 1 ≤ z → z ≤ 8 → c z = false := by
  unfold strN
  rw [List.map_eq_nil_iff, List.filter_eq_nil_iff]
  constructor
  · intro h z h1 h2
    have := h (z.toNat - 1) (List.mem_range.2 (by omega))
    rw [show (((z.toNat - 1 : Nat) : Int) + 1) = z by omega] at this
    simpa using this
  · intro h t ht
    have := List.mem_range.1 ht
    rw [h _ (by omega) (by omega)]; simp
theorem str_mem {c : Int → Bool} {z : Int} : z ∈ strN c 8 ↔ 1 ≤ z ∧ z ≤ 8 ∧ c z = true := by
  unfold strN
  simp only [List.mem_map, List.mem_filter, List.mem_range]
  constructor
  · rintro ⟨t, ⟨h1, h2⟩, rfl⟩; exact ⟨by omega, by omega, h2⟩
  · rintro ⟨h1, h2, h3⟩; exact ⟨z.toNat - 1, ⟨by omega, by rw [show (((z.toNat - 1 : Nat) : Int) + 1) = z by omega]; exact h3⟩, by omega⟩
theorem str_filter (c d : Int → Bool) (n : Nat) : (strN c n).filter d = strN (fun z => c z && d z) n := by
  unfold strN
  rw [List.filter_map, List.filter_filter]
  congr 1
  apply List.filter_congr
  intro t _
  simp only [Function.comp]
  exact Bool.and_comm _ _
theorem str_same {c d : Int → Bool} (h : ∀ z, 1 ≤ z → z ≤ 8 → c z = d z) : strN c 8 = strN d 8 := by
  unfold strN
  congr 1
  apply List.filter_congr
  intro t ht
  have := List.mem_range.1 ht
  exact h _ (by omega) (by omega)
end Gp
end Go.Proofs.YtpknmiccgbjoiabGreat
namespace Go.Proofs.YtpknmiccgbjoiabGreat
open Go.ChangeShapes Go.WideShapes Go.ChangeAt Go.RowKit
set_option linter.unusedVariables false
set_option linter.unusedSimpArgs false
attribute [local go_sem ↓] Go.wp_at_zero Go.wp_at_succ
namespace Gp
open W1 Tw Mr
theorem shl_one {a : Int} (h1 : 1 ≤ a) (h2 : a ≤ 8) : IntKind.u16.wrap (2 ^ min a.toNat 16) = (gN (fun z => z == a) : Int) := by
  rw [gN_one h1 h2, IntKind.wrap_u16, show min a.toNat 16 = a.toNat by omega]
  have : ∀ k : Fin 9, ((2 : Int) ^ k.val) % 65536 = ((2 ^ k.val : Nat) : Int) := by decide
  exact this ⟨a.toNat, by omega⟩
/-- The group of a list. -/
def gL (zs : List Int) : Nat := gN (fun z => zs.contains z)
theorem take_has {zs : List Int} {j : Nat} (h : j < zs.length) (z : Int) : (zs.take (j + 1)).contains z = ((zs.take j).contains z || z == zs.getD j 0) := by
  rw [zs_take h]
  generalize zs.getD j 0 = y
  rw [Bool.eq_iff_iff]; simp
set_option maxHeartbeats 2000000 in
theorem groupOf (a : Option Addr) (zs : List Int) (cap : Nat) (w : World) (hm : zs.length ≤ 1048576) (hr : In.RM w a zs) :
    Calls Tryz.prog 104 #[.slice a zs.length cap] w fun e w' => e = .returned (.int .u16 (gL zs)) ∧ w' = w := by
  have HR := hide hr
  clear hr
  generalize hN : zs.length = n at *
  have HN := hide hN
  clear hN
  go_enter Tryz.func104, Tryz.ntmps104
  go_wp2_with fail
  go_loopw [3, 8] (fun g i wr => w = wr ∧ ∃ j : Nat, j ≤ n ∧ i = .int .i64 j ∧ ∃ x : Int, g = .int .u16 x ∧ Hid (x = gN (fun z => (zs.take j).contains z))) (fun _ i _ => n - (intOf i).toNat)
  case atStart => exact ⟨rfl, 0, by omega, rfl, 0, rfl, hide (by rw [gN_nil (c := fun z => (zs.take 0).contains z) (fun _ _ _ => rfl)]; rfl)⟩
  case round =>
    obtain ⟨rfl, j, hj, rfl, x, rfl, hx⟩ := hrel
    by_cases hlt : (j : Int) < (n : Int)
    · have k0 : (0 : Int) ≤ (j : Int) := by omega
      have hlen : j < zs.length := by rw [unhide HN]; omega
      rcases unhide HR with e0 | ⟨g, off, rfl, hc⟩
      · exfalso; rw [e0] at hlen; simp at hlen
      have c0 := hc j hlen
      clear hc
      have HT := hide (take_has hlen)
      generalize zs.getD j 0 = y at *
      cases hk : inB y 1 8
      · have HE : Hid (x = gN (fun z => (zs.take (j + 1)).contains z)) := hide (by
          rw [unhide hx]; congr 1
          refine gN_congr (fun z h1 h2 => ?_)
          rw [unhide HT]
          have : (z == y) = false := by
            unfold inB at hk
            by_cases e : z = y
            · subst e; rw [decide_eq_true h1, decide_eq_true h2] at hk; cases hk
            · simpa using e
          rw [this, Bool.or_false])
        have HK := hide hk
        clear hk
        go_wp2_with (go_at_call 135; refine (isAddress _ _).mono ?_; rintro e w' ⟨rfl, rfl⟩; rw [unhide HK])
        go_roundw
        case rel => exact ⟨by first | trivial | rfl, j + 1, by omega, by go_num, x, rfl, HE⟩
        case measure => simp [intOf]; omega
      · have hb : 1 ≤ y ∧ y ≤ 8 := by
          unfold inB at hk; rw [Bool.and_eq_true] at hk
          exact ⟨of_decide_eq_true hk.1, of_decide_eq_true hk.2⟩
        have y0 : 0 ≤ y := by omega
        have HE : Hid (bits .or .u16 x (IntKind.u16.wrap (2 ^ min y.toNat 16)) = gN (fun z => (zs.take (j + 1)).contains z)) := hide (by
          rw [unhide hx, shl_one hb.1 hb.2, or_int]; congr 1
          exact gN_congr (fun z _ _ => (unhide HT z).symm))
        have HK := hide hk
        clear hk hb
        go_wp2_with (go_at_call 135; refine (isAddress _ _).mono ?_; rintro e w' ⟨rfl, rfl⟩; rw [unhide HK])
        go_roundw
        case rel => exact ⟨by first | trivial | rfl, j + 1, by omega, by go_num, _, rfl, HE⟩
        case measure => simp [intOf]; omega
    · obtain rfl : j = n := by omega
      have HE : Hid (x = gL zs) := hide (by have := unhide hx; rw [← unhide HN, List.take_length] at this; exact this)
      go_wp2_with fail
      go_ret
      exact ⟨ret_int (unhide HE), rfl⟩
theorem gL_one (a : Int) : gL [a] = gN (fun z => z == a) := gN_congr (fun z _ _ => by rw [Bool.eq_iff_iff]; simp)
set_option maxHeartbeats 2000000 in
theorem has (s : Nat) (a : Int) (w : World) (hs : s < 65536) :
    Calls Tryz.prog 168 #[.int .u16 s, .int .i64 a] w fun e w' => e = .returned (.bool (hasB s a)) ∧ Below w.heap.size w w' := by
  have P0 : Hid (Below w.heap.size w (w.alloc (.cells #[.int .i64 a] 3))) := hide ((Below.refl _ _).alloc (Nat.le_refl _) _)
  have HN := hide (In.rm_new w a)
  have HH := hide (and_has hs a)
  generalize hb : hasB s a = b at *
  clear hb
  go_enter Tryz.func168, Tryz.ntmps168
  go_wp2_with fail
  refine (groupOf _ [a] _ _ (by simp) (unhide HN)).mono ?_
  rintro e w2 ⟨rfl, rfl⟩
  rw [gL_one]
  generalize gN (fun z => z == a) = g at *
  have HX : Hid ((bits BinOp.and IntKind.u16 (s : Int) (g : Int) != 0) = b) := hide (by
    have := unhide HH
    generalize bits BinOp.and IntKind.u16 (s : Int) (g : Int) = x at *
    cases b <;> simp at this <;> simp [this])
  go_wp2_with fail
  go_ret
  exact ⟨ret_bool (unhide HX), unhide P0⟩
theorem pop_int (c : Int → Bool) : Lib.pop8 ((gN c : Int) / 256) + Lib.pop8 ((gN c : Int) % 256) = ((strN c 8).length : Int) ∧ 0 ≤ Lib.pop8 ((gN c : Int) / 256) ∧ Lib.pop8 ((gN c : Int) / 256) ≤ 8 ∧ 0 ≤ Lib.pop8 ((gN c : Int) % 256) ∧ Lib.pop8 ((gN c : Int) % 256) ≤ 8 := by
  have hl := gN_lt c
  have h1 := Lib.pop8_eq ⟨gN c / 256, by omega⟩
  have h2 := Lib.pop8_eq ⟨gN c % 256, by omega⟩
  have l1 := Lib.onesCount_le8 ⟨gN c / 256, by omega⟩
  have l2 := Lib.onesCount_le8 ⟨gN c % 256, by omega⟩
  have h3 := pop_gN c
  have e1 : ((gN c / 256 : Nat) : Int) = (gN c : Int) / 256 := by omega
  have e2 : ((gN c % 256 : Nat) : Int) = (gN c : Int) % 256 := by omega
  simp only [Int.ofNat_eq_natCast, e1, e2] at h1 h2
  simp only at l1 l2
  refine ⟨?_, ?_, ?_, ?_, ?_⟩ <;> omega
/-- The library's table of how many bits a byte has, as the translation spells it. -/
theorem tab_eq : (⟨(([0, 1, 1, 2, 1, 2, 2, 3, 1, 2, 2, 3, 2, 3, 3, 4, 1, 2, 2, 3, 2, 3, 3, 4, 2, 3, 3, 4, 3, 4, 4, 5, 1, 2, 2, 3, 2, 3, 3, 4, 2, 3, 3, 4, 3, 4, 4, 5, 2, 3, 3, 4, 3, 4, 4, 5, 3, 4, 4, 5, 4, 5, 5, 6].append [1, 2, 2, 3, 2, 3, 3, 4, 2, 3, 3, 4, 3, 4, 4, 5, 2, 3, 3, 4, 3, 4, 4, 5, 3, 4, 4, 5, 4, 5, 5, 6, 2, 3, 3, 4, 3, 4, 4, 5, 3, 4, 4, 5, 4, 5, 5, 6, 3, 4, 4, 5, 4, 5, 5, 6, 4, 5, 5, 6, 5, 6, 6, 7]).append ([1, 2, 2, 3, 2, 3, 3, 4, 2, 3, 3, 4, 3, 4, 4, 5, 2, 3, 3, 4, 3, 4, 4, 5, 3, 4, 4, 5, 4, 5, 5, 6, 2, 3, 3, 4, 3, 4, 4, 5, 3, 4, 4, 5, 4, 5, 5, 6, 3, 4, 4, 5, 4, 5, 5, 6, 4, 5, 5, 6, 5, 6, 6, 7].append [2, 3, 3, 4, 3, 4, 4, 5, 3, 4, 4, 5, 4, 5, 5, 6, 3, 4, 4, 5, 4, 5, 5, 6, 4, 5, 5, 6, 5, 6, 6, 7, 3, 4, 4, 5, 4, 5, 5, 6, 4, 5, 5, 6, 5, 6, 6, 7, 4, 5, 5, 6, 5, 6, 6, 7, 5, 6, 6, 7, 6, 7, 7, 8])).toArray⟩ : ByteArray) = Lib.pop8tab := by kernel_rfl
theorem and_255 {x : Int} (h0 : 0 ≤ x) (h1 : x < 512) : bits BinOp.and IntKind.u16 x 255 = x % 256 := by
  have h : ∀ k : Fin 512, bits BinOp.and IntKind.u16 ((k.val : Nat) : Int) 255 = ((k.val : Nat) : Int) % 256 := by decide +kernel
  have := h ⟨x.toNat, by omega⟩
  simp only [Int.toNat_of_nonneg h0] at this
  exact this
set_option maxHeartbeats 2000000 in
theorem ones16 (c : Int → Bool) (w : World) : Calls Tryz.prog 167 #[.int .u16 (gN c)] w fun e w' => e = .returned (.int .i64 (strN c 8).length) ∧ ∃ m, w' = w.drewN m := by
  have hl := gN_lt c
  have HP := hide (pop_int c)
  generalize hx : (gN c : Int) = x at *
  have x0 : 0 ≤ x := by omega
  have x1 : x < 512 := by omega
  clear hx
  have d0 : 0 ≤ x / 256 := by omega
  have d1 : x / 256 ≤ 255 := by omega
  have d2 := and_255 x0 x1
  go_enter Tryz.func167, Tryz.ntmps167
  go_wp2
  rw [tab_eq]
  go_quiet (fail)
  have HE : Hid ((Lib.pop8 (x / 256) + Lib.pop8 (x % 256)) % 256 = ((strN c 8).length : Int)) := hide (by have := unhide HP; omega)
  go_wp2
  go_ret
  exact ⟨ret_int (unhide HE), _, rfl⟩
theorem count (c : Int → Bool) (w : World) : Calls Tryz.prog 102 #[.int .u16 (gN c)] w fun e w' => e = .returned (.int .i64 (strN c 8).length) ∧ ∃ m, w' = w.drewN m := by
  go_enter Tryz.func102, Tryz.ntmps102
  go_wp2_with fail
  refine (ones16 c _).mono ?_
  rintro e w2 ⟨rfl, m, rfl⟩
  go_wp2_with fail
  go_ret
  exact ⟨rfl, _, rfl⟩
set_option maxRecDepth 100000 in
set_option maxHeartbeats 4000000 in
theorem addrs (s : Nat) (w : World) (hs : s < 65536) :
    Calls Tryz.prog 105 #[.int .u16 s] w fun e w' => ∃ v, e = .returned v ∧ Below w.heap.size w w' ∧ In.LstV w' v (strN (hasB s) 8) w.heap.size w'.heap.size := by
  obtain ⟨c, hc⟩ : ∃ c, hasB s = c := ⟨_, rfl⟩
  have HC : Hid (∀ x, hasB s x = c x) := hide (fun x => by rw [hc])
  rw [hc]
  clear hc
  have O0 : Hid (w.ownsRow w.heap.size 3 1 (.slice none 0 0) (strN c 0).length (In.flat (strN c 0))) := hide (In.own_nil w w.heap.size)
  go_enter Tryz.func105, Tryz.ntmps105
  go_wp2_with fail
  go_loopw [3, 4] (fun v i wr => ∃ j : Nat, j ≤ 8 ∧ i = .int .i64 ((j : Int) + 1) ∧ Hid (wr.ownsRow w.heap.size 3 1 v (strN c j).length (In.flat (strN c j))) ∧ Hid (Below w.heap.size w wr)) (fun _ i _ => 9 - (intOf i).toNat)
  case atStart => exact ⟨0, by omega, rfl, O0, hide (Below.refl _ _)⟩
  case round =>
    obtain ⟨j, hj, rfl, how, hbl⟩ := hrel
    have hbs := (unhide hbl).size
    have hfl := strN_len c j
    by_cases hlt : (j : Int) + 1 ≤ 8
    · have HY := hide (fun (h : c ((j : Int) + 1) = true) => strN_yes h)
      have HZ := hide (fun (h : c ((j : Int) + 1) = false) => strN_no h)
      obtain ⟨b, hb⟩ : ∃ b, c ((j : Int) + 1) = b := ⟨_, rfl⟩
      have HB := hide hb
      rw [hb] at HY HZ
      clear hb
      go_wp2_with fail
      refine (has s ((j : Int) + 1) _ hs).mono ?_
      rintro e w5 ⟨rfl, b5⟩
      rw [unhide HC, unhide HB]
      have HB5 := hide ((unhide hbl).trans (b5.mono (unhide hbl).size))
      have HO5 := hide (Ln.own_belowI (unhide how) b5)
      have hs5 := (unhide HB5).size
      clear b5
      cases b
      · have HTF := hide (unhide HZ rfl)
        have HO : Hid (w5.ownsRow w.heap.size 3 1 u3 (strN c (j + 1)).length (In.flat (strN c (j + 1)))) := hide (by rw [unhide HTF]; exact unhide HO5)
        go_wp2_with fail
        go_roundw
        case rel => exact ⟨j + 1, by omega, by go_num, HO, HB5⟩
        case measure => simp [intOf]; omega
      · have HTF := hide (unhide HY rfl)
        go_wp2_with (at_builtin; refine In.wpList_apS ((unhide HO5).alloc _) w5.heap.size 0 1 1 [(j : Int) + 1] rfl (In.rm_new w5 ((j : Int) + 1)) (by simp only [List.length_cons, List.length_nil]; omega) (by simp; omega) rfl _ _ rfl rfl rfl ?_; intro v' w' ho hg; have HO : Hid (w'.ownsRow w.heap.size 3 1 v' (strN c (j + 1)).length (In.flat (strN c (j + 1)))) := hide (by rw [unhide HTF]; exact ho); have HB := hide (In.below_own ((unhide HB5).alloc hs5 _) ((unhide HO5).alloc _) hg (Nat.le_refl _) (by simp; omega)); clear ho hg)
        go_roundw
        case rel => exact ⟨j + 1, by omega, by go_num, HO, HB⟩
        case measure => simp [intOf]; omega
    · obtain rfl : j = 8 := by omega
      have HLs := hide (In.lst_own rfl (unhide how))
      go_wp2_with fail
      go_ret
      exact ⟨_, rfl, unhide hbl, unhide HLs⟩
end Gp
end Go.Proofs.YtpknmiccgbjoiabGreat
namespace Go.Proofs.YtpknmiccgbjoiabGreat
open Go.ChangeShapes Go.WideShapes Go.ChangeAt Go.RowKit
set_option linter.unusedVariables false
set_option linter.unusedSimpArgs false
namespace Gp
open W1
/-- The cells of a ground; its value. -/
def gC (s : Nat) (V R : Nat → Nat) : List Value := [.int .u16 s, .int .u16 (V 0), .int .u16 (V 1), .int .u16 (V 2), .int .u16 (V 3), .int .u16 (V 4), .int .u16 (V 5), .int .u16 (V 6), .int .u16 (V 7), .int .u16 (V 8), .int .u16 (R 0), .int .u16 (R 1), .int .u16 (R 2), .int .u16 (R 3), .int .u16 (R 4), .int .u16 (R 5), .int .u16 (R 6), .int .u16 (R 7), .int .u16 (R 8)]
def GV (s : Nat) (V R : Nat → Nat) : Value := .agg (gC s V R).toArray
theorem gC_len (s : Nat) (V R : Nat → Nat) : (gC s V R).length = 19 := rfl
theorem gC_one (s : Nat) (V R : Nat → Nat) : ∀ v ∈ gC s V R, v.oneCell' = true := by
  intro v hv
  unfold gC at hv
  simp only [List.mem_cons, List.not_mem_nil, or_false] at hv
  rcases hv with rfl | rfl | rfl | rfl | rfl | rfl | rfl | rfl | rfl | rfl | rfl | rfl | rfl | rfl | rfl | rfl | rfl | rfl | rfl <;> rfl
theorem gC_v (s : Nat) (V R : Nat → Nat) : ∀ i, i < 9 → (gC s V R)[1 + i]? = some (.int .u16 (V i))
  | 0, _ | 1, _ | 2, _ | 3, _ | 4, _ | 5, _ | 6, _ | 7, _ | 8, _ => rfl
  | n + 9, h => by omega
theorem gC_r (s : Nat) (V R : Nat → Nat) : ∀ i, i < 9 → (gC s V R)[10 + i]? = some (.int .u16 (R i))
  | 0, _ | 1, _ | 2, _ | 3, _ | 4, _ | 5, _ | 6, _ | 7, _ | 8, _ => rfl
  | n + 9, h => by omega
/-- A ground lies in a block, which may be written. -/
def GA (w : World) (b : Nat) (s : Nat) (V R : Nat → Nat) : Prop := w.rangeAt b 0 (gC s V R) ∧ w.there b 0 19
theorem GA.s {w : World} {b s : Nat} {V R : Nat → Nat} (h : GA w b s V R) : w.cell? ⟨b, 0, none⟩ = some (.int .u16 s) := h.1 0 _ rfl
theorem GA.v {w : World} {b s : Nat} {V R : Nat → Nat} (h : GA w b s V R) {i : Nat} (hi : i < 9) : w.cell? ⟨b, 1 + i, none⟩ = some (.int .u16 (V i)) ∧ w.frozen? ⟨b, 1 + i, none⟩ = false := by
  have h1 := h.1 (1 + i) _ (gC_v s V R i hi)
  have h2 := (h.2 (1 + i) (by omega)).2
  rw [Nat.zero_add] at h1 h2
  exact ⟨h1, h2⟩
theorem GA.r {w : World} {b s : Nat} {V R : Nat → Nat} (h : GA w b s V R) {i : Nat} (hi : i < 9) : w.cell? ⟨b, 10 + i, none⟩ = some (.int .u16 (R i)) ∧ w.frozen? ⟨b, 10 + i, none⟩ = false := by
  have h1 := h.1 (10 + i) _ (gC_r s V R i hi)
  have h2 := (h.2 (10 + i) (by omega)).2
  rw [Nat.zero_add] at h1 h2
  exact ⟨h1, h2⟩
theorem GA.lt {w : World} {b s : Nat} {V R : Nat → Nat} (h : GA w b s V R) : b < w.heap.size := World.block_lt_of_cell? _ _ h.s
theorem GA.under {w w' : World} {B b s : Nat} {V R : Nat → Nat} (h : GA w b s V R) (hb : Below B w w') (hg : b < B) : GA w' b s V R :=
  ⟨fun j v hv => (hb.cell (p := ⟨b, 0 + j, none⟩) hg).trans (h.1 j v hv), fun j hj => ⟨by rw [hb.cell (p := ⟨b, 0 + j, none⟩) hg]; exact (h.2 j hj).1, by rw [hb.frozen (p := ⟨b, 0 + j, none⟩) hg]; exact (h.2 j hj).2⟩⟩
theorem GA.below {w w' : World} {b s : Nat} {V R : Nat → Nat} (h : GA w b s V R) (hb : Below w.heap.size w w') : GA w' b s V R := h.under hb h.lt
theorem there_set {w : World} {b o n k : Nat} {v : Value} (h : w.there b o n) : (w.setCell ⟨b, k, none⟩ v).there b o n := fun j hj => by
  refine ⟨?_, by rw [World.frozen?_setCell]; exact (h j hj).2⟩
  obtain ⟨u, hu⟩ := Option.isSome_iff_exists.1 (h j hj).1
  obtain ⟨u', hu'⟩ := cell?_setCell_some (p := ⟨b, k, none⟩) (x := v) hu
  rw [hu']; rfl
def upd (V : Nat → Nat) (k x : Nat) : Nat → Nat := fun i => if i = k then x else V i
theorem upd_v (s : Nat) (V R : Nat → Nat) (x : Nat) : ∀ k, k < 9 → (gC s V R).set (1 + k) (.int .u16 x) = gC s (upd V k x) R
  | 0, _ | 1, _ | 2, _ | 3, _ | 4, _ | 5, _ | 6, _ | 7, _ | 8, _ => rfl
  | n + 9, h => by omega
theorem upd_r (s : Nat) (V R : Nat → Nat) (x : Nat) : ∀ k, k < 9 → (gC s V R).set (10 + k) (.int .u16 x) = gC s V (upd R k x)
  | 0, _ | 1, _ | 2, _ | 3, _ | 4, _ | 5, _ | 6, _ | 7, _ | 8, _ => rfl
  | n + 9, h => by omega
theorem range_set {w : World} {b k : Nat} {cs : List Value} {v : Value} (h : w.rangeAt b 0 cs) (hk : k < cs.length) : (w.setCell ⟨b, k, none⟩ v).rangeAt b 0 (cs.set k v) := fun j u hu => by
  rw [Nat.zero_add]
  by_cases e : j = k
  · subst e
    rw [List.getElem?_set_self hk] at hu
    have h0 := h j _ (List.getElem?_eq_getElem hk)
    rw [Nat.zero_add] at h0
    rw [World.cell?_setCell_same _ _ _ h0]; exact hu
  · rw [List.getElem?_set_ne (fun h => e h.symm)] at hu
    have h0 := h j _ hu
    rw [Nat.zero_add] at h0
    rw [World.cell?_setCell_other _ _ _ _ (by intro e'; injection e' with _ e2 _; omega)]; exact h0
theorem GA.setV {w : World} {b s : Nat} {V R : Nat → Nat} (h : GA w b s V R) {k : Nat} (hk : k < 9) (x : Nat) : GA (w.setCell ⟨b, 1 + k, none⟩ (.int .u16 x)) b s (upd V k x) R := ⟨by rw [← upd_v s V R x k hk]; exact range_set h.1 (by rw [gC_len]; omega), there_set h.2⟩
theorem GA.setR {w : World} {b s : Nat} {V R : Nat → Nat} (h : GA w b s V R) {k : Nat} (hk : k < 9) (x : Nat) : GA (w.setCell ⟨b, 10 + k, none⟩ (.int .u16 x)) b s V (upd R k x) := ⟨by rw [← upd_r s V R x k hk]; exact range_set h.1 (by rw [gC_len]; omega), there_set h.2⟩
theorem below_cells {B : Nat} {w0 : World} {b : Nat} (hb : B ≤ b) : ∀ (vs : List Value) (o : Nat) (w : World), Below B w0 w → Below B w0 (w.setCells b o vs)
  | [], _, w, h => h
  | v :: r, o, w, h => below_cells hb r (o + 1) _ (h.setCell (p := ⟨b, o, none⟩) hb v)
theorem size_cells {b : Nat} : ∀ (vs : List Value) (o : Nat) (w : World), (w.setCells b o vs).heap.size = w.heap.size
  | [], _, w => rfl
  | v :: r, o, w => by show ((w.setCell ⟨b, o, none⟩ v).setCells b (o + 1) r).heap.size = _; rw [size_cells r (o + 1)]; simp [World.setCell]
theorem there_cells {b n : Nat} : ∀ (vs : List Value) (o : Nat) (w : World), w.there b 0 n → (w.setCells b o vs).there b 0 n
  | [], _, w, h => h
  | v :: r, o, w, h => there_cells r (o + 1) _ (there_set h)
theorem infoG : Tryz.prog.underlying 138 = some (Tryz.prog.underlying 138).get! ∧ ((Tryz.prog.underlying 138).get!).isRow = true ∧ (Tryz.prog.info? 138).map (·.size) = some 19 := ⟨by kernel_rfl, by kernel_rfl, by kernel_rfl⟩
/-- A ground is read whole. -/
theorem wpList_loadG {ops : Array Oper} {rest : List Oper} {op : Oper} {a : Act} {w : World} {Q : Exit → Act → World → Prop} (x : Operand) (hgd : op.guard = none) (ho : op.op = .load 138 x) {b s : Nat} {V R : Nat → Nat} (hx : a.eval x = .pointer (some ⟨b, 0, none⟩)) (h : GA w b s V R)
    (hk : wpList Tryz.prog ops Q rest (a.put op.dst (GV s V R)) w) : wpList Tryz.prog ops Q (op :: rest) a w :=
  wpList_load_mid hgd 138 x ho b 0 hx (gC s V R) _ h.1 infoG.1 infoG.2.1 infoG.2.2 hk
theorem run_execG {op : Oper} {a : Act} {w : World} (x : Operand) (ho : op.op = .load 138 x) {b s : Nat} {V R : Nat → Nat} (hx : a.eval x = .pointer (some ⟨b, 0, none⟩)) (h : GA w b s V R) : (execOp a.eval op).run Tryz.prog w = .ok (.value (GV s V R)) w := by
  unfold execOp
  simp only [ho, hx, Instr.loadAt, Instr.sureAddr, Sem.run_bind, Sem.run_pure, Result.andThen_ok, run_loadVar_mid w b 0 138 (gC s V R) _ h.1 infoG.1 infoG.2.1 infoG.2.2]
  rfl
/-- A ground is written whole. -/
theorem wpList_storeG {ops : Array Oper} {rest : List Oper} {op : Oper} {a : Act} {w : World} {Q : Exit → Act → World → Prop} (x y : Operand) (hgd : op.guard = none) (ho : op.op = .store 138 x y) {b s : Nat} {V R : Nat → Nat} (hx : a.eval x = .pointer (some ⟨b, 0, none⟩)) (hy : a.eval y = GV s V R) (ht : w.there b 0 19)
    (hk : ∀ w', GA w' b s V R → (∀ B w0, Below B w0 w → B ≤ b → Below B w0 w') → w'.heap.size = w.heap.size → wpList Tryz.prog ops Q rest (a.put op.dst undef) w') : wpList Tryz.prog ops Q (op :: rest) a w :=
  wpList_store_mid hgd 138 x y ho b 0 (gC s V R).toArray hx hy ht infoG.2.2 (all_oneCell_toArray (gC_one s V R)) (hk _ ⟨World.rangeAt_setCells_same w b 0 _ ht, there_cells _ _ _ ht⟩ (fun B w0 h hb => below_cells hb _ _ _ h) (size_cells _ _ _))
/-- A ground laid anew. -/
theorem run_boxG (s : Nat) (V R : Nat → Nat) (w : World) : (Instr.box 138 (GV s V R)).run Tryz.prog w = .ok (.pointer (some ⟨w.heap.size, 0, none⟩)) (w.alloc (.cells (gC s V R).toArray 138)) := by
  simp [Instr.box, newVar, newRow, GV, Value.cells]
theorem ga_new (w : World) (s : Nat) (V R : Nat → Nat) (t : Nat) : GA (w.alloc (.cells (gC s V R).toArray t)) w.heap.size s V R := by
  have hb : (w.alloc (.cells (gC s V R).toArray t)).heap[w.heap.size]? = some (.cells (gC s V R).toArray t) := heap_alloc_last w _
  refine ⟨fun j v hv => ?_, fun j hj => ⟨?_, ?_⟩⟩
  · have hj : j < (gC s V R).length := (List.getElem?_eq_some_iff.1 hv).1
    rw [Nat.zero_add]
    unfold World.cell?
    simp only [hb]
    simpa using hv
  · rw [Nat.zero_add]
    unfold World.cell?
    simp only [hb]
    simp [gC_len, hj]
  · unfold World.frozen?
    simp only [hb]
    simp
theorem wpList_boxG {ops : Array Oper} {rest : List Oper} {op : Oper} {a : Act} {w : World} {Q : Exit → Act → World → Prop} (x : Operand) (hgd : op.guard = none) (ho : op.op = .box 138 x) {s : Nat} {V R : Nat → Nat} (hx : a.eval x = GV s V R)
    (hk : ∀ w', GA w' w.heap.size s V R → Below w.heap.size w w' → w'.heap.size = w.heap.size + 1 → wpList Tryz.prog ops Q rest (a.put op.dst (.pointer (some ⟨w.heap.size, 0, none⟩))) w') : wpList Tryz.prog ops Q (op :: rest) a w := by
  refine wpList_plain hgd fun K hK => ?_
  unfold Oper.wp execOp
  simp only [ho, hx, run_boxG, Sem.run_bind, Sem.run_pure, Result.andThen_ok]
  exact hK _ _ (hk _ (ga_new w s V R _) ((Below.refl _ _).alloc (Nat.le_refl _) _) (by simp))
/-- A ground handed back. -/
theorem resultsG {fn : Func} {p : Tmp} (h : fn.results = #[.cell p 138]) (tmps : Array Value) (w : World) {b s : Nat} {V R : Nat → Nat} (hp : tmps.getD p undef = .pointer (some ⟨b, 0, none⟩)) (hg : GA w b s V R) : (results fn tmps).run Tryz.prog w = .ok (GV s V R) w := by
  have hp' : tmps[p]?.getD undef = .pointer (some ⟨b, 0, none⟩) := by simpa using hp
  simp only [results, h]
  simp [Sem.run_bind, hp', asAddr, run_loadVar_mid w b 0 138 (gC s V R) _ hg.1 infoG.1 infoG.2.1 infoG.2.2, Result.andThen, GV]
end Gp
end Go.Proofs.YtpknmiccgbjoiabGreat
namespace Go.Proofs.YtpknmiccgbjoiabGreat
open Go.ChangeShapes Go.WideShapes Go.ChangeAt Go.RowKit
set_option linter.unusedVariables false
set_option linter.unusedSimpArgs false
attribute [local go_sem ↓] Go.wp_at_zero Go.wp_at_succ
namespace Gp
open W1 Tu St Tw Mr Mt
/-- What a ground's fields are, behind the first j of the strict ones and k of those that reach the next. -/
def vN (S : List Int) (via : Int → List Int) (i : Nat) : Nat := if S.contains (i : Int) = true then gL (via i) else 0
def rB (S : List Int) (via : Int → List Int) (a : Int) (z : Int) : Bool := S.contains z && (via z).contains a
def rN (S : List Int) (via : Int → List Int) (i : Nat) : Nat := gN (rB S via i)
def rK (S : List Int) (via : Int → List Int) (z : Int) (vs : List Int) (i : Nat) : Nat := gN (fun y => rB S via i y || (y == z && vs.contains (i : Int)))
theorem vN_step {S : List Int} {via : Int → List Int} {j k : Nat} (h : j < S.length) (hk : S.getD j 0 = (k : Int)) : upd (vN (S.take j) via) k (gL (via k)) = vN (S.take (j + 1)) via := by
  funext i
  unfold upd vN
  rw [take_has h, hk]
  by_cases e : i = k
  · subst e; simp
  · have : ((i : Int) == (k : Int)) = false := by simp; omega
    rw [if_neg e, this, Bool.or_false]
theorem rK_start (S : List Int) (via : Int → List Int) (z : Int) : rK S via z [] = rN S via := by
  funext i; unfold rK rN; exact gN_congr (fun y _ _ => by simp)
theorem rK_end {S : List Int} {via : Int → List Int} {j : Nat} (h : j < S.length) : rK (S.take j) via (S.getD j 0) (via (S.getD j 0)) = rN (S.take (j + 1)) via := by
  funext i; unfold rK rN
  refine gN_congr (fun y _ _ => ?_)
  unfold rB
  rw [take_has h]
  by_cases e : y = S.getD j 0
  · rw [← e]; simp
  · have : (y == S.getD j 0) = false := by simpa using e
    rw [this]; simp
theorem rK_step {S : List Int} {via : Int → List Int} {z : Int} {vs : List Int} {t k : Nat} (h : t < vs.length) (hk : vs.getD t 0 = (k : Int)) : upd (rK S via z (vs.take t)) k (gN (fun y => (rB S via k y || (y == z && (vs.take t).contains (k : Int))) || y == z)) = rK S via z (vs.take (t + 1)) := by
  funext i
  unfold upd rK
  by_cases e : i = k
  · subst e
    rw [if_pos rfl]
    refine gN_congr (fun y _ _ => ?_)
    rw [take_has h, hk]
    cases rB S via (i : Int) y <;> cases (y == z) <;> cases (vs.take t).contains (i : Int) <;> simp
  · rw [if_neg e]
    refine gN_congr (fun y _ _ => ?_)
    have : ((i : Int) == (k : Int)) = false := by simp; omega
    rw [take_has h, hk, this, Bool.or_false]
theorem via_rng {ms : List R} {ls : List Lk.R} {now z : Int} (h : Ln.linksB ls = true) : ∀ a ∈ viaF ms ls now z, 1 ≤ a ∧ a ≤ 8 := by
  intro a ha
  unfold viaF viaL at ha
  rw [List.take_length, List.mem_map] at ha
  obtain ⟨m, hm, rfl⟩ := ha
  obtain ⟨i, hi, e⟩ := List.getElem_of_mem (List.mem_filter.1 hm).1
  have := Ln.ok_ad (Ri.all_ok h hi)
  rw [List.getD_eq_getElem?_getD, List.getElem?_eq_getElem hi, e] at this
  exact this
theorem str_rng2 {ms : List R} {ls : List Lk.R} {me now : Int} : ∀ z ∈ strF ms ls me now, 1 ≤ z ∧ z ≤ 8 := fun z hz => by
  have := str_mem.1 hz; exact ⟨this.1, this.2.1⟩
theorem there_below {w w' : World} {b o n : Nat} (h : w.there b o n) (hb : Below w.heap.size w w') (hg : b < w.heap.size) : w'.there b o n := fun j hj => ⟨by rw [hb.cell (p := ⟨b, o + j, none⟩) hg]; exact (h j hj).1, by rw [hb.frozen (p := ⟨b, o + j, none⟩) hg]; exact (h j hj).2⟩
theorem there_of {w w' : World} {b o n B : Nat} (h : w.there b o n) (hb : Below B w w') (hg : b < B) : w'.there b o n := fun j hj => ⟨by rw [hb.cell (p := ⟨b, o + j, none⟩) hg]; exact (h j hj).1, by rw [hb.frozen (p := ⟨b, o + j, none⟩) hg]; exact (h j hj).2⟩
theorem lst_set {W : World} {a : Option Addr} {zs : List Int} {lo hi G k : Nat} {v : Value} (h : In.Lst W a zs lo hi) (hG : G < lo) : In.Lst (W.setCell ⟨G, k, none⟩ v) a zs lo hi :=
  h.but (p := fun x => x ≠ G) (by simp [World.setCell]) (fun x _ hx => Below.heap_setCell _ _ _ _ hx) (fun x h1 _ => by omega)
set_option maxRecDepth 100000 in
set_option maxHeartbeats 8000000 in
theorem groundOf (a : Option Addr) (ms : List R) (cap : Nat) (b : Option Addr) (ls : List Lk.R) (capl : Nat) (me now : Int) (w : World) (hok : twoB ms = true ∧ Ln.linksB ls = true) (hr : RM w a ms) (hr' : Lk.RM w b ls) :
    Calls Tryz.prog 95 #[.slice a ms.length cap, .slice b ls.length capl, .int .i64 me, .int .i64 now] w fun e w' => e = .returned (GV (gL (strF ms ls me now)) (vN (strF ms ls me now) (viaF ms ls now)) (rN (strF ms ls me now) (viaF ms ls now))) ∧ Below w.heap.size w w' := by
  have HR := hide hr
  have HL := hide hr'
  have HOK := hide hok
  have h8 := Ln.links_len hok.2
  have HVR := hide (fun z => via_rng (ms := ms) (now := now) (z := z) hok.2)
  have HSR := hide (str_rng2 (ms := ms) (ls := ls) (me := me) (now := now))
  clear hr hr' hok
  obtain ⟨via, hv⟩ : ∃ via, viaF ms ls now = via := ⟨_, rfl⟩
  have HVL : Hid (∀ z, (via z).length ≤ ls.length) := hide (fun z => by rw [← hv]; exact via_len ms ls now z)
  have HV : Hid (∀ z, viaL (findT ms) ls z now ls.length = via z) := hide (fun z => by rw [← hv]; rfl)
  rw [hv] at HVR ⊢
  clear hv
  obtain ⟨S, hS⟩ : ∃ S, strF ms ls me now = S := ⟨_, rfl⟩
  have HS : Hid (strN (condS ms ls me now) 8 = S) := hide hS
  have hsl : S.length ≤ 8 := by rw [← hS]; exact str_len ms ls me now
  rw [hS] at HSR ⊢
  clear hS
  go_enter Tryz.func95, Tryz.ntmps95
  go_wp2_with fail
  have P0 := hide ((Below.refl w.heap.size w).alloc (Nat.le_refl _) (.cells #[.int .u16 0, .int .u16 0, .int .u16 0, .int .u16 0, .int .u16 0, .int .u16 0, .int .u16 0, .int .u16 0, .int .u16 0, .int .u16 0, .int .u16 0, .int .u16 0, .int .u16 0, .int .u16 0, .int .u16 0, .int .u16 0, .int .u16 0, .int .u16 0, .int .u16 0] 138))
  have F0 := hide (show (w.alloc (.cells #[.int .u16 0, .int .u16 0, .int .u16 0, .int .u16 0, .int .u16 0, .int .u16 0, .int .u16 0, .int .u16 0, .int .u16 0, .int .u16 0, .int .u16 0, .int .u16 0, .int .u16 0, .int .u16 0, .int .u16 0, .int .u16 0, .int .u16 0, .int .u16 0, .int .u16 0] 138)).there w.heap.size 0 19 from (ga_new w 0 (fun _ => 0) (fun _ => 0) 138).2)
  have hs0 : w.heap.size < (w.alloc (.cells #[.int .u16 0, .int .u16 0, .int .u16 0, .int .u16 0, .int .u16 0, .int .u16 0, .int .u16 0, .int .u16 0, .int .u16 0, .int .u16 0, .int .u16 0, .int .u16 0, .int .u16 0, .int .u16 0, .int .u16 0, .int .u16 0, .int .u16 0, .int .u16 0, .int .u16 0] 138)).heap.size := by simp
  have HR0 := hide ((unhide HR).below (unhide P0))
  have HL0 := hide ((unhide HL).below (unhide P0))
  generalize hw0 : w.alloc (.cells #[.int .u16 0, .int .u16 0, .int .u16 0, .int .u16 0, .int .u16 0, .int .u16 0, .int .u16 0, .int .u16 0, .int .u16 0, .int .u16 0, .int .u16 0, .int .u16 0, .int .u16 0, .int .u16 0, .int .u16 0, .int .u16 0, .int .u16 0, .int .u16 0, .int .u16 0] 138) = w0 at *
  clear hw0
  refine (tuplesByHop _ ms cap _ (unhide HOK).1 (unhide HR0)).mono ?_
  rintro e w2 ⟨bm, rfl, hbm, om2, b2⟩
  have HB2 := hide ((unhide P0).trans (b2.mono (unhide P0).size))
  have F2 := hide (there_below (unhide F0) b2 hs0)
  have HM2 := hide om2
  have HL2 := hide ((unhide HL0).below b2)
  have hs2 := Nat.lt_of_lt_of_le hs0 b2.size
  clear b2 om2
  go_wp2_with fail
  refine (strictOf bm ms.length ms _ ls capl me now _ (unhide HOK).2 (unhide HM2) (unhide HL2)).mono ?_
  rintro e w3 ⟨v3, rfl, b3, hl3⟩
  rw [unhide HS] at hl3
  obtain ⟨a3, c3, rfl, l3⟩ := hl3
  have HB3 := hide ((unhide HB2).trans (b3.mono (unhide HB2).size))
  have F3 := hide (there_below (unhide F2) b3 hs2)
  have HM3 := hide ((unhide HM2).below b3)
  have HL3 := hide ((unhide HL2).below b3)
  have HN3 := hide l3.rm
  have hs3 := Nat.lt_of_lt_of_le hs2 b3.size
  clear b3 l3
  go_wp2_with fail
  refine (groupOf a3 S c3 _ (by omega) (unhide HN3)).mono ?_
  rintro e w4 ⟨rfl, rfl⟩
  go_wp2_with (refine wpList_storeG _ _ rfl rfl (s := gL S) (V := fun _ => 0) (R := fun _ => 0) rfl rfl (ga_new w4 0 (fun _ => 0) (fun _ => 0) 138).2 ?_; intro w5 ga5 hbb5 hsz5; have HG5 := hide ga5; have HB5 := hide (hbb5 _ _ (Below.refl w4.heap.size w4 |>.alloc (Nat.le_refl _) (.cells #[.int .u16 0, .int .u16 0, .int .u16 0, .int .u16 0, .int .u16 0, .int .u16 0, .int .u16 0, .int .u16 0, .int .u16 0, .int .u16 0, .int .u16 0, .int .u16 0, .int .u16 0, .int .u16 0, .int .u16 0, .int .u16 0, .int .u16 0, .int .u16 0, .int .u16 0] 138)) (Nat.le_refl _)); clear ga5 hbb5 hsz5)
  generalize hn : S.length = n at *
  have HN := hide hn
  clear hn
  have G0 : Hid (GA w5 w4.heap.size (gL S) (vN (S.take 0) via) (rN (S.take 0) via)) := hide (by
    have e1 : vN (S.take 0) via = fun _ => 0 := by funext i; rfl
    have e2 : rN (S.take 0) via = fun _ => 0 := by funext i; exact gN_nil (fun _ _ _ => rfl)
    rw [e1, e2]; exact unhide HG5)
  clear HG5
  generalize hg : gL S = gs at *
  have HGS := hide hg
  clear hg
  obtain ⟨G, hG⟩ : ∃ G, w4.heap.size = G := ⟨_, rfl⟩
  rw [hG] at HB5 G0 hs3 ⊢
  have HGG := hide hG
  clear hG
  go_loopw [29] (fun i wo => ∃ j : Nat, j ≤ n ∧ i = .int .i64 j ∧ Hid (GA wo G gs (vN (S.take j) via) (rN (S.take j) via)) ∧ Hid (Below G w4 wo)) (fun i _ => n - (intOf i).toNat)
  case atStart => exact ⟨0, by omega, rfl, G0, HB5⟩
  case round =>
    rename World => wo
    obtain ⟨j, hj, rfl, hga, hbl⟩ := hrel
    have HBW : Hid (Below w4.heap.size w4 wo) := hide (by rw [unhide HGG]; exact unhide hbl)
    by_cases hlt : (j : Int) < (n : Int)
    · have k0 : (0 : Int) ≤ (j : Int) := by omega
      have hlen : j < S.length := by rw [unhide HN]; omega
      have HLr := hide ((unhide HL3).below (unhide HBW))
      have HMr := hide ((unhide HM3).below (unhide HBW))
      have hzr := unhide HSR _ (getD_mem hlen)
      have HVS := hide (fun (k : Nat) (hk : S.getD j 0 = (k : Int)) => vN_step (via := via) hlen hk)
      have HRE := hide (rK_end (via := via) hlen)
      rcases (unhide HN3).below (unhide HBW) with e0 | ⟨gl, ol, rfl, hc⟩
      · exfalso; rw [e0] at hlen; simp at hlen
      have c0 := hc j hlen
      clear hc
      generalize hz : S.getD j 0 = z at *
      obtain ⟨k, rfl⟩ : ∃ k : Nat, z = (k : Int) := ⟨z.toNat, by omega⟩
      have hk9 : k < 9 := by omega
      have HV1 := hide (unhide HVS k rfl)
      clear HVS hz
      have HWK : Hid ((Lit.int .i64 (k : Int)).wf = true) := hide (WalkArith.wf_i64 ⟨by omega, by omega⟩)
      go_wp2_with fail
      refine (viasOf bm ms.length _ _ ls capl (k : Int) now _ (unhide HWK) (unhide HOK).2 (unhide HMr) (unhide HLr)).mono ?_
      rintro e w5 ⟨v5, rfl, b5, hl5⟩
      rw [unhide HV] at hl5
      obtain ⟨a5, c5, rfl, l5⟩ := hl5
      have hvl := unhide HVL (k : Int)
      have HVA := hide (unhide HVR (k : Int))
      generalize hvs : via (k : Int) = vs at *
      have HVV := hide hvs
      clear hvs
      have HGb := hide ((unhide hga).below b5)
      have HB6 := hide ((unhide hbl).trans (b5.mono (Nat.le_of_lt (unhide hga).lt)))
      have hGo := (unhide hga).lt
      have HL5 := hide l5
      have HR5 := hide l5.rm
      clear b5 l5
      go_wp2_with fail
      refine (groupOf a5 vs c5 _ (by omega) (unhide HR5)).mono ?_
      rintro e w6 ⟨rfl, rfl⟩
      obtain ⟨cv, fv⟩ := (unhide HGb).v hk9
      have kk0 : (0 : Int) ≤ (k : Int) := by omega
      have kk9 : (k : Int) < 9 := by omega
      go_wp2_with fail
      have HG6 : Hid (GA (w6.setCell ⟨G, 1 + k, none⟩ (.int .u16 (gL vs))) G gs (vN (S.take (j + 1)) via) (rK (S.take j) via (k : Int) (vs.take 0))) := hide (by
        rw [List.take_zero, rK_start, ← unhide HV1]; exact (unhide HGb).setV hk9 (gL vs))
      have HL6 := hide (lst_set (k := 1 + k) (v := .int .u16 (gL vs)) (unhide HL5) hGo)
      have HB7 := hide ((unhide HB6).setCell (p := ⟨G, 1 + k, none⟩) (Nat.le_refl _) (.int .u16 (gL vs)))
      clear cv fv HGb HL5 HR5 HB6
      generalize hm : vs.length = m at *
      have HM := hide hm
      clear hm
      generalize hw7 : w6.setCell ⟨G, 1 + k, none⟩ (.int .u16 (gL vs)) = w7 at *
      clear hw7
      generalize hlo : wo.heap.size = lo at *
      generalize hhi : w6.heap.size = hi at *
      go_loopw [45] (fun i wr => ∃ t : Nat, t ≤ m ∧ i = .int .i64 t ∧ Hid (GA wr G gs (vN (S.take (j + 1)) via) (rK (S.take j) via (k : Int) (vs.take t))) ∧ Hid (Below G w4 wr) ∧ Hid (In.Lst wr a5 vs lo hi)) (fun i _ => m - (intOf i).toNat)
      case atStart => exact ⟨0, by omega, rfl, HG6, HB7, HL6⟩
      case round =>
        obtain ⟨t, ht, rfl, hga2, hbl2, hls2⟩ := hrel
        by_cases hlt2 : (t : Int) < (m : Int)
        · have k1 : (0 : Int) ≤ (t : Int) := by omega
          have hlen2 : t < vs.length := by rw [unhide HM]; omega
          have hyr := unhide HVA _ (getD_mem hlen2)
          have HRS := hide (fun (q : Nat) (hq : vs.getD t 0 = (q : Int)) => rK_step (S := S.take j) (via := via) (z := (k : Int)) hlen2 hq)
          rcases (unhide hls2).rm with e0 | ⟨gl2, ol2, rfl, hc⟩
          · exfalso; rw [e0] at hlen2; simp at hlen2
          have c2 := hc t hlen2
          clear hc
          generalize hy : vs.getD t 0 = y at *
          obtain ⟨q, rfl⟩ : ∃ q : Nat, y = (q : Int) := ⟨y.toNat, by omega⟩
          have hq9 : q < 9 := by omega
          have q0 : (0 : Int) ≤ (q : Int) := by omega
          have q9 : (q : Int) < 9 := by omega
          have HR1 := hide (unhide HRS q rfl)
          clear HRS hy
          obtain ⟨cr, fr⟩ := (unhide hga2).r hq9
          have HOR : Hid (bits .or .u16 (rK (S.take j) via (k : Int) (vs.take t) q : Int) (gL [(k : Int)] : Int) = (gN (fun y => (rB (S.take j) via q y || (y == (k : Int) && (vs.take t).contains (q : Int))) || y == (k : Int)) : Int)) := hide (by rw [gL_one]; exact or_int _ _)
          generalize hX : gN (fun y => (rB (S.take j) via q y || (y == (k : Int) && (vs.take t).contains (q : Int))) || y == (k : Int)) = X at *
          clear hX
          go_wp2_with fail
          have HRN : Hid (In.RM (wr.alloc (.cells #[.int .i64 (k : Int)] 3)).drew (some ⟨wr.heap.size, 0, none⟩) [(k : Int)]) := hide ((In.rm_new wr (k : Int)).below ((Below.refl _ _).drew))
          obtain ⟨cr2, fr2⟩ := ((unhide hga2).below ((Below.refl _ _).alloc (Nat.le_refl _) (.cells #[.int .i64 (k : Int)] 3))).r hq9
          go_region_with (go_at_call 104; refine (groupOf _ [(k : Int)] _ _ (by simp) (unhide HRN)).mono ?_; rintro e w' ⟨rfl, rfl⟩)
          all_goals (
            have HGn : Hid (GA ((wr.alloc (.cells #[.int .i64 (k : Int)] 3)).setCell ⟨G, 10 + q, none⟩ (.int .u16 (bits .or .u16 (rK (S.take j) via (k : Int) (vs.take t) q : Int) (gL [(k : Int)] : Int)))).drew G gs (vN (S.take (j + 1)) via) (rK (S.take j) via (k : Int) (vs.take (t + 1)))) := hide (by
              rw [unhide HOR, ← unhide HR1]
              exact (((unhide hga2).below ((Below.refl _ _).alloc (Nat.le_refl _) (.cells #[.int .i64 (k : Int)] 3))).setR hq9 X).below ((Below.refl _ _).drew))
            have HBn : Hid (Below G w4 ((wr.alloc (.cells #[.int .i64 (k : Int)] 3)).setCell ⟨G, 10 + q, none⟩ (.int .u16 (bits .or .u16 (rK (S.take j) via (k : Int) (vs.take t) q : Int) (gL [(k : Int)] : Int)))).drew) := hide ((((unhide hbl2).alloc (Nat.le_of_lt (unhide hga2).lt) _).setCell (p := ⟨G, 10 + q, none⟩) (Nat.le_refl _) _).drew)
            have HLn : Hid (In.Lst ((wr.alloc (.cells #[.int .i64 (k : Int)] 3)).setCell ⟨G, 10 + q, none⟩ (.int .u16 (bits .or .u16 (rK (S.take j) via (k : Int) (vs.take t) q : Int) (gL [(k : Int)] : Int)))).drew (some ⟨gl2, ol2, none⟩) vs lo hi) := hide ((lst_set ((unhide hls2).below ((Below.refl _ _).alloc (Nat.le_refl _) (.cells #[.int .i64 (k : Int)] 3))) hGo).below ((Below.refl _ _).drew))
            clear HR1 HOR HRN cr fr cr2 fr2 c2
            go_wp2_with fail
            go_roundw
            case rel => exact ⟨t + 1, by omega, by go_num, HGn, HBn, HLn⟩
            case measure => simp [intOf]; omega)
        · obtain rfl : t = m := by omega
          have HGe : Hid (GA wr G gs (vN (S.take (j + 1)) via) (rN (S.take (j + 1)) via)) := hide (by
            have := unhide hga2
            rw [← unhide HM, List.take_length, unhide HRE] at this; exact this)
          go_wp2_with fail
          go_roundw
          case rel => exact ⟨j + 1, by omega, by go_num, HGe, hbl2⟩
          case measure => simp [intOf]; omega
    · obtain rfl : j = n := by omega
      have HGe : Hid (GA wo G gs (vN S via) (rN S via)) := hide (by
        have := unhide hga
        rw [← unhide HN, List.take_length] at this; exact this)
      go_wp2_with (first | (refine wpList_loadG _ rfl rfl rfl (unhide HGe) ?_) | (refine wpList_storeG _ _ rfl rfl rfl rfl (there_of (unhide F3) (unhide hbl) hs3) ?_; intro w9 ga9 hbb9 hsz9; have HG9 := hide ga9; have HB9 := hide (hbb9 _ _ ((unhide HB3).trans ((unhide hbl).mono (Nat.le_of_lt hs3))) (Nat.le_refl _)); clear ga9 hbb9 hsz9))
      refine bodyPost_ret (resultsG rfl _ _ rfl (unhide HG9)) rfl ⟨by rw [unhide HGS], unhide HB9⟩
end Gp
end Go.Proofs.YtpknmiccgbjoiabGreat
namespace Go.Proofs.YtpknmiccgbjoiabGreat
open Go.ChangeShapes Go.WideShapes Go.ChangeAt Go.RowKit
set_option linter.unusedVariables false
set_option linter.unusedSimpArgs false
attribute [local go_sem ↓] Go.wp_at_zero Go.wp_at_succ
namespace Gp
open W1 Tu St Tw Mr Mt
theorem below_dN' (w : World) : ∀ q, Below w.heap.size w (w.drewN q) := fun q => ⟨rfl, rfl, rfl, Nat.le_refl _, fun _ _ => rfl⟩
/-- Those of the strict ones that one of some reaches. -/
def reB (S : List Int) (via : Int → List Int) (L : List Int) (z : Int) : Bool := L.any (fun a => rB S via a z)
theorem reB_step {S : List Int} {via : Int → List Int} {L : List Int} {j : Nat} (h : j < L.length) (z : Int) : reB S via (L.take (j + 1)) z = (reB S via (L.take j) z || rB S via (L.getD j 0) z) := by
  unfold reB; rw [zs_take h, List.any_append]; simp
set_option maxRecDepth 100000 in
set_option maxHeartbeats 4000000 in
theorem reachedBy (s : Nat) (V : Nat → Nat) (S : List Int) (via : Int → List Int) (c : Int → Bool) (w : World) :
    Calls Tryz.prog 98 #[GV s V (rN S via), .int .u16 (gN c)] w fun e w' => e = .returned (.int .u16 (gN (reB S via (strN c 8)))) ∧ Below w.heap.size w w' := by
  have hcl := gN_lt c
  have hsl := strN_len c 8
  have HLR := hide (fun z => (str_mem (c := c) (z := z)).1)
  have HLE : Hid (strN (hasB (gN c)) 8 = strN c 8) := hide (str_same (fun z h1 h2 => by
    rw [has_gN]; unfold inB; rw [decide_eq_true h1, decide_eq_true h2]; rfl))
  obtain ⟨L, hL⟩ : ∃ L, strN c 8 = L := ⟨_, rfl⟩
  rw [hL] at hsl HLE HLR ⊢
  clear hL
  generalize gN c = cn at *
  go_enter Tryz.func98, Tryz.ntmps98
  go_wp2_with (refine wpList_boxG _ rfl rfl rfl ?_; intro w1 ga1 b1 hs1; have HG1 := hide ga1; have HB1 := hide b1; clear ga1 b1)
  refine (addrs cn _ (by omega)).mono ?_
  rintro e w2 ⟨v2, rfl, b2, hl2⟩
  rw [unhide HLE] at hl2
  obtain ⟨a2, c2, rfl, l2⟩ := hl2
  have HG2 := hide ((unhide HG1).below b2)
  have HB2 := hide ((unhide HB1).trans (b2.mono (unhide HB1).size))
  have HL2 := hide l2.rm
  clear b2 l2
  generalize hn : L.length = n at *
  have HN := hide hn
  clear hn
  go_wp2_with fail
  go_loopw [5, 11] (fun g i wr => w2 = wr ∧ ∃ j : Nat, j ≤ n ∧ i = .int .i64 j ∧ ∃ x : Int, g = .int .u16 x ∧ Hid (x = gN (reB S via (L.take j)))) (fun _ i _ => n - (intOf i).toNat)
  case atStart => exact ⟨rfl, 0, by omega, rfl, 0, rfl, hide (by rw [gN_nil (c := reB S via (L.take 0)) (fun _ _ _ => rfl)]; rfl)⟩
  case round =>
    obtain ⟨rfl, j, hj, rfl, x, rfl, hx⟩ := hrel
    by_cases hlt : (j : Int) < (n : Int)
    · have k0 : (0 : Int) ≤ (j : Int) := by omega
      have hlen : j < L.length := by rw [unhide HN]; omega
      have hzr := unhide HLR _ (getD_mem hlen)
      have HT := hide (reB_step (S := S) (via := via) hlen)
      rcases unhide HL2 with e0 | ⟨gl, ol, rfl, hc⟩
      · exfalso; rw [e0] at hlen; simp at hlen
      have c0 := hc j hlen
      clear hc
      generalize L.getD j 0 = y at *
      obtain ⟨q, rfl⟩ : ∃ q : Nat, y = (q : Int) := ⟨y.toNat, by omega⟩
      have hq9 : q < 9 := by omega
      have q0 : (0 : Int) ≤ (q : Int) := by omega
      have q9 : (q : Int) < 9 := by omega
      have cr := ((unhide HG2).r hq9).1
      have HE : Hid (bits .or .u16 x (rN S via q : Int) = gN (reB S via (L.take (j + 1)))) := hide (by
        rw [unhide hx]; unfold rN; rw [or_int]; congr 1
        exact gN_congr (fun z _ _ => (unhide HT z).symm))
      clear hzr
      go_wp2_with fail
      go_roundw
      case rel => exact ⟨by first | trivial | rfl, j + 1, by omega, by go_num, _, rfl, HE⟩
      case measure => simp [intOf]; omega
    · obtain rfl : j = n := by omega
      have HE : Hid (x = gN (reB S via L)) := hide (by have := unhide hx; rw [← unhide HN, List.take_length] at this; exact this)
      go_wp2_with fail
      go_ret
      exact ⟨ret_int (unhide HE), unhide HB2⟩
/-- Whether those of a list cover. -/
def covB (S : List Int) (via : Int → List Int) (L : List Int) : Bool := gN (fun z => S.contains z && !reB S via L z) == 0
set_option maxRecDepth 100000 in
set_option maxHeartbeats 4000000 in
theorem isCovered (V : Nat → Nat) (S : List Int) (via : Int → List Int) (c : Int → Bool) (w : World) :
    Calls Tryz.prog 106 #[GV (gL S) V (rN S via), .int .u16 (gN c)] w fun e w' => e = .returned (.bool (covB S via (strN c 8))) ∧ Below w.heap.size w w' := by
  have e0 : covB S via (strN c 8) = (gN (fun z => S.contains z && !reB S via (strN c 8) z) == 0) := rfl
  rw [e0]
  clear e0
  have HNI : Hid (bits .andNot .u16 (gL S : Int) (gN (reB S via (strN c 8)) : Int) = (gN (fun z => S.contains z && !reB S via (strN c 8) z) : Int)) := hide (not_int _ _)
  have HRB := hide (fun W => reachedBy (gL S) V S via c W)
  generalize gN (fun z => S.contains z && !reB S via (strN c 8) z) = X at *
  generalize gN (reB S via (strN c 8)) = Y at *
  generalize gL S = s at *
  generalize gN c = cn at *
  generalize rN S via = rr at *
  go_enter Tryz.func106, Tryz.ntmps106
  go_wp2_with (refine wpList_boxG _ rfl rfl rfl ?_; intro w1 ga1 b1 hs1; have HG1 := hide ga1; have HB1 := hide b1; clear ga1 b1)
  refine wp_region_noPanic ?_
  refine wp_region_held_drew (S := fun w' => w'.cell? ⟨w.heap.size, 0, none⟩ = some (.int .u16 s) ∧ GA w' w.heap.size s V rr) (by kernel_rfl) ⟨(unhide HG1).s, (unhide HG1).below ((Below.refl _ _).drew)⟩ (fun hHeld => ?_)
  refine Rg.t 0 5 ?_
  refine Rg.t 1 6 ?_
  refine Rg.t (v := GV s V rr) 2 7 ?_ (hv := fun w0 hSw => run_execG _ rfl rfl hSw.2)
  refine Rg.t 3 8 ?_
  (refine Rg.o 4 (fun K hK => ?_); go_simp)
  refine (unhide HRB _).mono ?_
  rintro e w2 ⟨rfl, b2⟩
  have HG2 := hide (((unhide HG1).below ((Below.refl _ _).drew)).below b2)
  have HB2 := hide ((unhide HB1).trans (((Below.refl _ _).drew.trans b2).mono (unhide HB1).size))
  clear b2 hHeld
  refine hK.out _ _ ⟨(unhide HG2).s, unhide HG2⟩ (fun hHeld => ?_)
  clear hK K
  (try simp only [Act.put, List.setIfInBounds_toArray, List.set_cons_zero, List.set_cons_succ])
  refine Rg.t 5 10 ?_
  refine Rg.t 6 11 ?_
  refine Rg.t 7 4 ?_
  refine wpAnyH_done (by kernel_rfl) (NoPanic.normal ?_) _
  clear hHeld
  have HE : Hid ((bits .andNot .u16 (s : Int) (Y : Int) == 0) = (X == 0)) := hide (by
    rw [unhide HNI]
    by_cases h : X = 0
    · subst h; rfl
    · have h2 : ((X : Int) == 0) = false := by simp; omega
      rw [h2]; simp [h])
  go_wp2_with fail
  go_ret
  exact ⟨ret_bool (unhide HE), unhide HB2⟩
/-- Those that reach one of the strict ones alone. -/
def vB (S : List Int) (via : Int → List Int) (i : Nat) (a : Int) : Bool := S.contains (i : Int) && (via i).contains a
theorem vN_eq (S : List Int) (via : Int → List Int) (i : Nat) : vN S via i = gN (vB S via i) := by
  unfold vN
  cases h : S.contains (i : Int)
  · rw [if_neg (by simp)]; exact (gN_nil (fun z _ _ => by unfold vB; rw [h]; rfl)).symm
  · rw [if_pos rfl]; exact gN_congr (fun z _ _ => by unfold vB; rw [h]; rfl)
def lone (S : List Int) (via : Int → List Int) (i : Nat) : Bool := (strN (vB S via i) 8).length == 1
def oB (S : List Int) (via : Int → List Int) (n : Nat) (a : Int) : Bool := (List.range n).any (fun i => lone S via i && vB S via i a)
theorem oB_step (S : List Int) (via : Int → List Int) (n : Nat) (a : Int) : oB S via (n + 1) a = (oB S via n a || (lone S via n && vB S via n a)) := by
  unfold oB; rw [List.range_succ, List.any_append]; simp
def vC (V : Nat → Nat) : List Value := [.int .u16 (V 0), .int .u16 (V 1), .int .u16 (V 2), .int .u16 (V 3), .int .u16 (V 4), .int .u16 (V 5), .int .u16 (V 6), .int .u16 (V 7), .int .u16 (V 8)]
theorem vC_get (V : Nat → Nat) : ∀ i, i < 9 → (vC V)[i]? = some (.int .u16 (V i))
  | 0, _ | 1, _ | 2, _ | 3, _ | 4, _ | 5, _ | 6, _ | 7, _ | 8, _ => rfl
  | n + 9, h => by omega
theorem GA.vias {w : World} {b s : Nat} {V R : Nat → Nat} (h : GA w b s V R) : w.rangeAt b 1 (vC V) := fun j v hv => by
  have hj : j < 9 := (List.getElem?_eq_some_iff.1 hv).1
  rw [vC_get V j hj] at hv
  rw [(h.v hj).1]; exact hv
theorem infoA : Tryz.prog.underlying 136 = some (Tryz.prog.underlying 136).get! ∧ ((Tryz.prog.underlying 136).get!).isRow = true ∧ (Tryz.prog.info? 136).map (·.size) = some 9 := ⟨by kernel_rfl, by kernel_rfl, by kernel_rfl⟩
theorem idx_run (V : Nat → Nat) (W : World) : ∀ j : Nat, j < 9 → (Instr.index 136 (.agg (vC V).toArray) (.int .i64 (j : Int))).run Tryz.prog W = .ok (.int .u16 (V j)) W
  | 0, _ | 1, _ | 2, _ | 3, _ | 4, _ | 5, _ | 6, _ | 7, _ | 8, _ => by kernel_rfl
  | n + 9, h => by omega
set_option maxRecDepth 100000 in
set_option maxHeartbeats 4000000 in
theorem onlyOnes (s : Nat) (R : Nat → Nat) (S : List Int) (via : Int → List Int) (w : World) :
    Calls Tryz.prog 97 #[GV s (vN S via) R] w fun e w' => e = .returned (.int .u16 (gN (oB S via 9))) ∧ Below w.heap.size w w' := by
  have HVN : Hid (vN S via = fun i => gN (vB S via i)) := hide (by funext i; exact vN_eq S via i)
  rw [unhide HVN]
  have HIX : Hid (∀ (W : World) (j : Nat), j < 9 → (Instr.index 136 (.agg (vC (fun i => gN (vB S via i))).toArray) (.int .i64 (j : Int))).run Tryz.prog W = .ok (.int .u16 (gN (vB S via j))) W) := hide (fun W j hj => idx_run _ W j hj)
  clear HVN
  generalize hvc : (vC (fun i => gN (vB S via i))).toArray = arr at *
  have HVC := hide hvc
  clear hvc
  go_enter Tryz.func97, Tryz.ntmps97
  go_wp2_with (first | (refine wpList_boxG _ rfl rfl rfl ?_; intro w1 ga1 b1 hs1; have HG1 := hide ga1; have HB1 := hide b1; clear ga1 b1) | (refine wpList_load_mid rfl 136 _ rfl w.heap.size 1 rfl (vC (fun i => gN (vB S via i))) _ (unhide HG1).vias infoA.1 infoA.2.1 infoA.2.2 ?_; rw [unhide HVC]))
  go_loopw [3, 8] (fun g i wr => ∃ j : Nat, j ≤ 9 ∧ i = .int .i64 j ∧ (∃ x : Int, g = .int .u16 x ∧ Hid (x = gN (oB S via j))) ∧ Hid (Below w.heap.size w wr)) (fun _ i _ => 9 - (intOf i).toNat)
  case atStart => exact ⟨0, by omega, rfl, ⟨0, rfl, hide (by rw [gN_nil (c := oB S via 0) (fun _ _ _ => rfl)]; rfl)⟩, HB1⟩
  case round =>
    obtain ⟨j, hj, rfl, ⟨x, rfl, hx⟩, hbl⟩ := hrel
    by_cases hlt : (j : Int) < 9
    · have hix := unhide HIX wr j (by omega)
      have HST := hide (oB_step S via j)
      have HLN : Hid (lone S via j = ((strN (vB S via j) 8).length == 1)) := hide rfl
      go_wp2_with fail
      refine (count (vB S via j) _).mono ?_
      rintro e w2 ⟨rfl, q, rfl⟩
      have HB2 : Hid (Below w.heap.size w (wr.drewN q)) := hide ((unhide hbl).trans ((Below.refl _ _).trans (below_dN' wr q) |>.mono (unhide hbl).size))
      generalize hcn : (strN (vB S via j) 8).length = cn at *
      clear hcn
      have hci : ((cn : Int) == 1) = (cn == 1) := by
        by_cases h : cn = 1
        · subst h; rfl
        · have : ((cn : Int) == 1) = false := by simp; omega
          rw [this]; simp [h]
      cases hb : (cn == 1)
      · rw [hb] at hci HLN
        have HE : Hid (x = gN (oB S via (j + 1))) := hide (by
          rw [unhide hx]; congr 1
          exact gN_congr (fun z _ _ => by rw [unhide HST, unhide HLN]; simp))
        clear hb
        go_wp2_with fail
        go_roundw
        case rel => exact ⟨j + 1, by omega, by go_num, ⟨x, rfl, HE⟩, HB2⟩
        case measure => simp [intOf]; omega
      · rw [hb] at hci HLN
        have HE : Hid (bits .or .u16 x (gN (vB S via j) : Int) = gN (oB S via (j + 1))) := hide (by
          rw [unhide hx, or_int]; congr 1
          exact gN_congr (fun z _ _ => by rw [unhide HST, unhide HLN]; simp))
        clear hb
        go_wp2_with fail
        go_roundw
        case rel => exact ⟨j + 1, by omega, by go_num, ⟨_, rfl, HE⟩, HB2⟩
        case measure => simp [intOf]; omega
    · obtain rfl : j = 9 := by omega
      go_wp2_with fail
      go_ret
      exact ⟨ret_int (unhide hx), unhide hbl⟩
theorem gL_app (L : List Int) (a : Int) : bits .or .u16 (gL L : Int) (gL [a] : Int) = (gL (L ++ [a]) : Int) := by
  unfold gL; rw [or_int]; congr 1
  exact gN_congr (fun z _ _ => by rw [Bool.eq_iff_iff]; simp)
set_option maxRecDepth 100000 in
set_option maxHeartbeats 4000000 in
theorem alwaysWilling (a : Option Addr) (ls : List Lk.R) (cap : Nat) (now : Int) (w : World) (hl : ls.length ≤ 64) (hr : Lk.RM w a ls) :
    Calls Tryz.prog 96 #[.slice a ls.length cap, .int .i64 now] w fun e w' => e = .returned (.int .u16 (gL (alwV ls now ls.length))) ∧ Below w.heap.size w w' := by
  have HR := hide hr
  clear hr
  generalize hN : ls.length = n at *
  have HN := hide hN
  clear hN
  go_enter Tryz.func96, Tryz.ntmps96
  go_wp2_with fail
  go_loopw [5, 10] (fun g i wr => ∃ j : Nat, j ≤ n ∧ i = .int .i64 j ∧ (∃ x : Int, g = .int .u16 x ∧ Hid (x = gL (alwV ls now j))) ∧ Hid (Below w.heap.size w wr)) (fun _ i _ => n - (intOf i).toNat)
  case atStart => exact ⟨0, by omega, rfl, ⟨0, rfl, hide (by unfold gL; rw [gN_nil (c := fun z => (alwV ls now 0).contains z) (fun _ _ _ => rfl)]; rfl)⟩, hide (Below.refl _ _)⟩
  case round =>
    obtain ⟨j, hj, rfl, ⟨x, rfl, hx⟩, hbl⟩ := hrel
    by_cases hlt : (j : Int) < (n : Int)
    · have k0 : (0 : Int) ≤ (j : Int) := by omega
      have hlen : j < ls.length := by rw [unhide HN]; omega
      obtain ⟨g, off, rfl⟩ := (unhide HR).form (by omega)
      obtain ⟨c0, c1, c2, c3, c4, c5⟩ := ((unhide HR).below (unhide hbl)).at hlen
      have hbs := (unhide hbl).size
      have HY := hide (fun (h : alwB now (ls.getD j Lk.R.zero) = true) => alw_yes hlen h)
      have HZ := hide (fun (h : alwB now (ls.getD j Lk.R.zero) = false) => alw_no hlen h)
      generalize ls.getD j Lk.R.zero = m at *
      have HBA := hide ((unhide hbl).alloc hbs (.cells #[.int .i64 m.ad, .int .i64 m.hd, .int .i64 m.sy, .int .i64 m.ci, .int .i64 m.co, .int .i64 m.wl] 129))
      have HX := hide (Ln.bx_new wr m 129)
      have HVO : Hid (alwB now m = ((Ln.statusV m now == 2) && (m.wl == 7))) := hide rfl
      go_wp2_with fail
      generalize hW : wr.alloc (.cells #[.int .i64 m.ad, .int .i64 m.hd, .int .i64 m.sy, .int .i64 m.ci, .int .i64 m.co, .int .i64 m.wl] 129) = W0 at *
      clear hW
      refine (Ln.implStatus _ _ _ _ _ _ now _).mono ?_
      rintro e w2 ⟨rfl, b2⟩
      have HBL := hide ((unhide HBA).trans (b2.mono (unhide HBA).size))
      have HX2 := hide ((unhide HX).below b2)
      obtain ⟨d0, d1, d2, d3, d4, d5⟩ := unhide HX2
      clear b2 c0 c1 c2 c3 c4 c5
      have e2 : Ln.statusV ⟨m.ad, m.hd, m.sy, m.ci, m.co, m.wl⟩ now = Ln.statusV m now := rfl
      rw [e2]
      clear e2
      have hsw := (unhide HBL).size
      cases hs : (Ln.statusV m now == 2)
      · have HTF : Hid (x = gL (alwV ls now (j + 1))) := hide (by rw [unhide HZ (by rw [unhide HVO, hs]; rfl)]; exact unhide hx)
        clear HY HZ HVO
        generalize Ln.statusV m now = sv at *
        go_wp2_with fail
        go_roundw
        case rel => exact ⟨j + 1, by omega, by go_num, ⟨x, rfl, HTF⟩, HBL⟩
        case measure => simp [intOf]; omega
      cases hwl : (m.wl == 7)
      · have HTF : Hid (x = gL (alwV ls now (j + 1))) := hide (by rw [unhide HZ (by rw [unhide HVO, hs, hwl]; rfl)]; exact unhide hx)
        clear HY HZ HVO
        generalize Ln.statusV m now = sv at *
        go_wp2_with fail
        go_roundw
        case rel => exact ⟨j + 1, by omega, by go_num, ⟨x, rfl, HTF⟩, HBL⟩
        case measure => simp [intOf]; omega
      · have HTF : Hid (bits .or .u16 x (gL [m.ad] : Int) = gL (alwV ls now (j + 1))) := hide (by rw [unhide HY (by rw [unhide HVO, hs, hwl]; rfl), unhide hx]; exact gL_app _ _)
        clear HY HZ HVO
        generalize Ln.statusV m now = sv at *
        have HRN := hide (In.rm_new w2 m.ad)
        have HBN := hide ((unhide HBL).alloc hsw (.cells #[.int .i64 m.ad] 3))
        go_wp2_with fail
        refine (groupOf _ [m.ad] _ _ (by simp) (unhide HRN)).mono ?_
        rintro e w4 ⟨rfl, rfl⟩
        go_wp2_with fail
        go_roundw
        case rel => exact ⟨j + 1, by omega, by go_num, ⟨_, rfl, HTF⟩, HBN⟩
        case measure => simp [intOf]; omega
    · obtain rfl : j = n := by omega
      go_wp2_with fail
      go_ret
      exact ⟨ret_int (unhide hx), unhide hbl⟩
end Gp
end Go.Proofs.YtpknmiccgbjoiabGreat
namespace Go.Proofs.YtpknmiccgbjoiabGreat
open Go.ChangeShapes Go.WideShapes Go.ChangeAt Go.RowKit
set_option linter.unusedVariables false
set_option linter.unusedSimpArgs false
attribute [local go_sem ↓] Go.wp_at_zero Go.wp_at_succ
namespace Gp
open W1 Tu St Tw Mr Mt
theorem any_iff {L : List Int} {p : Int → Bool} : L.any p = true ↔ ∃ a ∈ L, p a = true := by rw [List.any_eq_true]
theorem re_any {S : List Int} {via : Int → List Int} {c : Int → Bool} {z : Int} (h : ∀ a ∈ via z, 1 ≤ a ∧ a ≤ 8) : reB S via (strN c 8) z = (S.contains z && (via z).any c) := by
  unfold reB rB
  rw [Bool.eq_iff_iff, Bool.and_eq_true, any_iff, any_iff]
  constructor
  · rintro ⟨a, ha, hb⟩
    rw [Bool.and_eq_true] at hb
    exact ⟨hb.1, a, List.contains_iff_mem.1 hb.2, (str_mem.1 ha).2.2⟩
  · rintro ⟨hs, a, ha, hb⟩
    have := h a ha
    exact ⟨a, str_mem.2 ⟨this.1, this.2, hb⟩, by rw [hs, List.contains_iff_mem.2 ha]; rfl⟩
theorem any_has {L rs : List Int} : L.any (fun a => rs.contains a) = rs.any (fun r => L.contains r) := by
  rw [Bool.eq_iff_iff, any_iff, any_iff]
  constructor
  · rintro ⟨a, h1, h2⟩; exact ⟨a, List.contains_iff_mem.1 h2, List.contains_iff_mem.2 h1⟩
  · rintro ⟨a, h1, h2⟩; exact ⟨a, List.contains_iff_mem.1 h2, List.contains_iff_mem.2 h1⟩
/-- Who is not reached. -/
theorem left_zero {S : List Int} {via : Int → List Int} {c : Int → Bool} {rs : List Int} (hS : ∀ z ∈ S, 1 ≤ z ∧ z ≤ 8) (hv : ∀ z, ∀ a ∈ via z, 1 ≤ a ∧ a ≤ 8) (hc : ∀ a, 1 ≤ a → a ≤ 8 → c a = rs.contains a) :
    covB S via (strN c 8) = ((leftV via S rs).length == 0) := by
  unfold covB
  rw [Bool.eq_iff_iff, beq_iff_eq, beq_iff_eq, gN_zero, str_zero, List.length_eq_zero_iff]
  unfold leftV
  rw [List.filter_eq_nil_iff]
  have key : ∀ z, (via z).any c = hitV via rs z := fun z => by
    unfold hitV
    rw [← any_has, Bool.eq_iff_iff, any_iff, any_iff]
    constructor
    · rintro ⟨a, h1, h2⟩; have := hv z a h1; exact ⟨a, h1, by rw [← hc a this.1 this.2]; exact h2⟩
    · rintro ⟨a, h1, h2⟩; have := hv z a h1; exact ⟨a, h1, by rw [hc a this.1 this.2]; exact h2⟩
  constructor
  · intro h z hz
    have h1 := hS z hz
    have h2 := h z h1.1 h1.2
    rw [re_any (hv z), key, List.contains_iff_mem.2 hz] at h2
    simpa using h2
  · intro h z h1 h2
    rw [re_any (hv z), key]
    cases hz : S.contains z
    · rfl
    · have := h z (List.contains_iff_mem.1 hz)
      simpa using this
set_option maxHeartbeats 2000000 in
theorem relaysCode (a : Option Addr) (ms : List R) (cap : Nat) (b : Option Addr) (ls : List Lk.R) (capl : Nat) (b2 : Option Addr) (rs : List Int) (capr : Nat) (w : World) (hm : ms.length ≤ 1048576) (hl : ls.length ≤ 1048576) (hrl : rs.length ≤ 1048576) (hr : RM w a ms) (hr' : Lk.RM w b ls) :
    Calls Tryz.prog 94 #[.slice a ms.length cap, .slice b ls.length capl, .slice b2 rs.length capr] w fun e w' => e = .returned (.int .i64 (codeM ms ls rs)) ∧ Below w.heap.size w w' := by
  have HR := hide hr
  have HL := hide hr'
  clear hr hr'
  by_cases h1 : 4096 < rs.length
  · have k1 : (4096 : Int) < rs.length := by omega
    rw [show codeM ms ls rs = 2 by unfold codeM; rw [if_pos h1]]
    clear h1
    go_enter Tryz.func94, Tryz.ntmps94
    go_wp2_with fail
    go_ret
    exact ⟨rfl, Below.refl _ _⟩
  have k1 : ¬ (4096 : Int) < rs.length := by omega
  by_cases hc : codeTL ms ls = 0
  rotate_left
  · rw [show codeM ms ls rs = codeTL ms ls by unfold codeM; rw [if_neg h1, if_neg hc]]
    generalize hcd : codeTL ms ls = cd at *
    have HC := hide hcd
    clear hcd
    have q1 : (cd != 0) = true := by simpa using hc
    go_enter Tryz.func94, Tryz.ntmps94
    go_wp2_with fail
    refine (twoLinksCode _ ms cap _ ls capl _ hm hl (unhide HR) (unhide HL)).mono ?_
    rintro e w1 ⟨rfl, b1⟩
    rw [unhide HC]
    have HB1 := hide b1
    clear b1
    go_wp2_with fail
    go_ret
    exact ⟨rfl, unhide HB1⟩
  have HC := hide hc
  by_cases h2 : 8 < rs.length
  · have k2 : (8 : Int) < rs.length := by omega
    rw [show codeM ms ls rs = 6 by unfold codeM; rw [if_neg h1, if_pos hc, if_pos h2]]
    clear h1 h2 hc
    go_enter Tryz.func94, Tryz.ntmps94
    go_wp2_with fail
    refine (twoLinksCode _ ms cap _ ls capl _ hm hl (unhide HR) (unhide HL)).mono ?_
    rintro e w1 ⟨rfl, b1⟩
    rw [unhide HC]
    have HB1 := hide b1
    clear b1
    go_wp2_with fail
    go_ret
    exact ⟨rfl, unhide HB1⟩
  · have k2 : ¬ (8 : Int) < rs.length := by omega
    rw [show codeM ms ls rs = 0 by unfold codeM; rw [if_neg h1, if_pos hc, if_neg h2]]
    clear h1 h2 hc
    go_enter Tryz.func94, Tryz.ntmps94
    go_wp2_with fail
    refine (twoLinksCode _ ms cap _ ls capl _ hm hl (unhide HR) (unhide HL)).mono ?_
    rintro e w1 ⟨rfl, b1⟩
    rw [unhide HC]
    have HB1 := hide b1
    clear b1
    go_wp2_with fail
    go_ret
    exact ⟨rfl, unhide HB1⟩
theorem codeM_nil (ms : List R) (ls : List Lk.R) : codeM ms ls [] = codeTL ms ls := by
  unfold codeM
  rw [if_neg (by simp)]
  split
  · rename_i h; rw [h]; simp
  · rfl
set_option maxRecDepth 100000 in
set_option maxHeartbeats 2000000 in
theorem implCovers (a : Option Addr) (ms : List R) (cap : Nat) (b : Option Addr) (ls : List Lk.R) (capl : Nat) (me now : Int) (b2 : Option Addr) (rs : List Int) (capr : Nat) (w : World) (hm : ms.length ≤ 1048576) (hl : ls.length ≤ 1048576) (hrl : rs.length ≤ 1048576) (hr : RM w a ms) (hr' : Lk.RM w b ls) (hrr : In.RM w b2 rs) :
    Calls Tryz.prog 50 #[.slice a ms.length cap, .slice b ls.length capl, .int .i64 me, .int .i64 now, .slice b2 rs.length capr] w fun e w' => e = .returned (.tuple #[.bool (covA ms ls me now rs), .int .i64 (codeM ms ls rs)]) ∧ Below w.heap.size w w' := by
  have HRC := hide (fun W h1 h2 => relaysCode a ms cap b ls capl b2 rs capr W hm hl hrl h1 h2)
  have HR := hide hr
  have HL := hide hr'
  have HRR := hide hrr
  clear hr hr' hrr
  by_cases hc : codeM ms ls rs = 0
  rotate_left
  · have h1 : covA ms ls me now rs = false := by unfold covA; rw [decide_eq_false hc]; rfl
    rw [h1]
    clear h1
    generalize hcd : codeM ms ls rs = cd at *
    clear hcd
    have q1 : (cd != 0) = true := by simpa using hc
    go_enter Tryz.func50, Tryz.ntmps50
    go_wp2_with fail
    refine (unhide HRC _ (unhide HR) (unhide HL)).mono ?_
    rintro e w1 ⟨rfl, b1⟩
    have HB1 := hide b1
    clear b1
    go_wp2_with fail
    go_ret2
    exact ⟨rfl, unhide HB1⟩
  have hr8 := (codeM_zero hc).2
  have HOK := hide (codeTL_ok (codeM_zero hc).1)
  have h1 : covA ms ls me now rs = ((leftV (viaF ms ls now) (strF ms ls me now) rs).length == 0) := by unfold covA; rw [decide_eq_true hc]; rfl
  have h2 := left_zero (S := strF ms ls me now) (via := viaF ms ls now) (c := fun z => rs.contains z) (rs := rs) str_rng2 (fun z => via_rng (unhide HOK).2) (fun _ _ _ => rfl)
  rw [h1, ← h2]
  rw [hc] at HRC ⊢
  clear hc h1 h2
  generalize hc1 : (fun z => rs.contains z) = c1 at *
  have HGL : Hid (gL rs = gN c1) := hide (by rw [← hc1]; rfl)
  clear hc1
  go_enter Tryz.func50, Tryz.ntmps50
  go_wp2_with fail
  refine (unhide HRC _ (unhide HR) (unhide HL)).mono ?_
  rintro e w1 ⟨rfl, b1⟩
  have HB1 := hide b1
  have HR1 := hide ((unhide HR).below b1)
  have HL1 := hide ((unhide HL).below b1)
  have HRR1 := hide ((unhide HRR).below b1)
  clear b1
  go_wp2_with fail
  refine (groundOf _ ms cap _ ls capl me now _ (unhide HOK) (unhide HR1) (unhide HL1)).mono ?_
  rintro e w2 ⟨rfl, b2⟩
  have HB2 := hide ((unhide HB1).trans (b2.mono (unhide HB1).size))
  have HRR2 := hide ((unhide HRR1).below b2)
  clear b2
  go_wp2_with fail
  refine (groupOf _ rs _ _ (by omega) (unhide HRR2)).mono ?_
  rintro e w4 ⟨rfl, hw4⟩
  rw [hw4, unhide HGL]
  clear hw4
  go_wp2_with fail
  refine (isCovered _ _ _ c1 _).mono ?_
  rintro e w5 ⟨rfl, b5⟩
  have HB5 := hide ((unhide HB2).trans (b5.mono (unhide HB2).size))
  clear b5
  go_wp2_with fail
  go_ret2
  exact ⟨rfl, unhide HB5⟩
end Gp
end Go.Proofs.YtpknmiccgbjoiabGreat
namespace Go.Proofs.YtpknmiccgbjoiabGreat
set_option linter.unusedVariables false
set_option linter.unusedSimpArgs false
namespace Gp
open W1 Tw Mr
/-- How two numbers compare; the first of several that is not 0. -/
def cmpV (x y : Int) : Int := if x < y then -1 else if y < x then 1 else 0
def orV : List Int → Int
  | [] => 0
  | x :: t => if x = 0 then orV t else x
/-- The first that none behind it is above. -/
def maxV (f : Lk.R → Lk.R → Int) (ls : List Lk.R) : Nat → Lk.R
  | 0 => ls.getD 0 Lk.R.zero
  | i + 1 => if 0 < f (ls.getD (i + 1) Lk.R.zero) (maxV f ls i) then ls.getD (i + 1) Lk.R.zero else maxV f ls i
def worth (gn dg : Int → Int) (x y : Lk.R) : Int := orV [cmpV (gn x.ad) (gn y.ad), cmpV x.wl y.wl, cmpV (dg x.ad) (dg y.ad), cmpV y.ad x.ad]
theorem cmp_zero {x y : Int} : cmpV x y = 0 ↔ x = y := by
  unfold cmpV
  split
  · constructor <;> intro h <;> omega
  · split <;> constructor <;> intro h <;> omega
theorem cmp_pos {x y : Int} : 0 < cmpV x y ↔ y < x := by
  unfold cmpV
  split
  · constructor <;> intro h <;> omega
  · split <;> constructor <;> intro h <;> omega
theorem worth_bet {via : Int → List Int} {S L : List Int} {x y : Lk.R} (h : y.ad < x.ad) : 0 < worth (fun a => (cntV via L a : Int)) (fun a => (cntV via S a : Int)) x y ↔ betV via S L x y = true := by
  unfold worth betV
  simp only [orV, cmp_zero]
  by_cases h1 : cntV via L x.ad = cntV via L y.ad
  · rw [if_pos (by omega), if_pos h1]
    by_cases h2 : x.wl = y.wl
    · rw [if_pos h2, if_pos h2]
      by_cases h3 : cntV via S x.ad = cntV via S y.ad
      · rw [if_pos (by omega), if_neg (by omega), cmp_pos, decide_eq_true_eq]
        constructor <;> intro h <;> omega
      · rw [if_neg (by omega), cmp_pos, decide_eq_true_eq]
        constructor <;> intro h <;> omega
    · rw [if_neg h2, if_neg h2, cmp_pos, decide_eq_true_eq]
  · rw [if_neg (by omega), if_neg h1, cmp_pos, decide_eq_true_eq]
    constructor <;> intro h <;> omega
theorem bet_gain {via : Int → List Int} {S L : List Int} {x y : Lk.R} (h : betV via S L x y = true) : cntV via L y.ad ≤ cntV via L x.ad := by
  unfold betV at h
  split at h
  · omega
  · have := of_decide_eq_true h; omega
theorem gain_bet {via : Int → List Int} {S L : List Int} {x y : Lk.R} (h : cntV via L y.ad < cntV via L x.ad) : betV via S L x y = true := by
  unfold betV
  rw [if_neg (by omega)]; exact decide_eq_true h
theorem pick_max {via : Int → List Int} {S L : List Int} {ls : List Lk.R} {f : Lk.R → Lk.R → Int} (hf : ∀ i j, i < j → j < ls.length → (0 < f (ls.getD j Lk.R.zero) (ls.getD i Lk.R.zero) ↔ betV via S L (ls.getD j Lk.R.zero) (ls.getD i Lk.R.zero) = true)) :
    ∀ j, j < ls.length → (∃ b, b ≤ j ∧ maxV f ls j = ls.getD b Lk.R.zero) ∧ ∀ b, pickV via S L ls (j + 1) = some b → maxV f ls j = ls.getD b Lk.R.zero
  | 0, h => by
    refine ⟨⟨0, Nat.le_refl _, rfl⟩, fun b hb => ?_⟩
    have := (pick_lt hb).1
    obtain rfl : b = 0 := by omega
    rfl
  | j + 1, h => by
    obtain ⟨⟨b', hb', hm⟩, ih⟩ := pick_max hf j (by omega)
    have hmax : maxV f ls (j + 1) = if 0 < f (ls.getD (j + 1) Lk.R.zero) (maxV f ls j) then ls.getD (j + 1) Lk.R.zero else maxV f ls j := rfl
    refine ⟨?_, fun b hb => ?_⟩
    · rw [hmax]
      split
      · exact ⟨j + 1, Nat.le_refl _, rfl⟩
      · exact ⟨b', by omega, hm⟩
    · rw [hmax]
      cases hp : pickV via S L ls (j + 1) with
      | none =>
        rw [pick_first hp] at hb
        by_cases hc : 0 < cntV via L (ls.getD (j + 1) Lk.R.zero).ad
        · rw [if_pos (by simpa using hc)] at hb
          cases hb
          rw [if_pos]
          rw [hm]
          exact (hf b' (j + 1) (by omega) h).2 (gain_bet (by rw [pick_none hp b' (by omega)]; exact hc))
        · rw [if_neg (by simpa using hc)] at hb; cases hb
      | some c =>
        have h1 := ih c hp
        have h2 := pick_lt hp
        rw [pick_next hp] at hb
        rw [h1]
        by_cases hbt : betV via S L (ls.getD (j + 1) Lk.R.zero) (ls.getD c Lk.R.zero) = true
        · have h3 := bet_gain hbt
          rw [if_pos (by rw [hbt, decide_eq_true (by omega)]; rfl)] at hb
          cases hb
          rw [if_pos ((hf c (j + 1) h2.1 h).2 hbt)]
        · rw [if_neg (by intro e; rw [Bool.and_eq_true] at e; exact hbt e.2)] at hb
          cases hb
          rw [if_neg (fun e => hbt ((hf b (j + 1) h2.1 h).1 e))]
/-- Links rise. -/
theorem links_up {ls : List Lk.R} (h : Ln.linksB ls = true) : ∀ j i, i < j → j < ls.length → (ls.getD i Lk.R.zero).ad < (ls.getD j Lk.R.zero).ad
  | 0, i, hi, _ => by omega
  | j + 1, i, hi, hj => by
    have h1 := Ri.rises1 h hj
    by_cases e : i = j
    · subst e; exact h1
    · have := links_up h j i (by omega) (by omega)
      exact Int.lt_trans this h1
theorem links_nodup {ls : List Lk.R} (h : Ln.linksB ls = true) : (ls.map (·.ad)).Nodup := by
  rw [List.Nodup, List.pairwise_iff_getElem]
  intro i j hi hj hij
  simp only [List.length_map] at hi hj
  rw [List.getElem_map, List.getElem_map]
  have := links_up h j i hij hj
  rw [List.getD_eq_getElem?_getD, List.getD_eq_getElem?_getD, List.getElem?_eq_getElem hi, List.getElem?_eq_getElem hj] at this
  simp only [Option.getD_some] at this
  omega
theorem sub_nodup {ls : List Lk.R} (h : Ln.linksB ls = true) (p : Lk.R → Bool) : ((ls.filter p).map (·.ad)).Nodup := (links_nodup h).sublist (List.Sublist.map _ List.filter_sublist)
theorem sub_rng {ls : List Lk.R} (h : Ln.linksB ls = true) (p : Lk.R → Bool) : ∀ a ∈ (ls.filter p).map (·.ad), 1 ≤ a ∧ a ≤ 8 := by
  intro a ha
  obtain ⟨m, hm, rfl⟩ := List.mem_map.1 ha
  obtain ⟨i, hi, e⟩ := List.getElem_of_mem (List.mem_filter.1 hm).1
  have := Ln.ok_ad (Ri.all_ok h hi)
  rw [List.getD_eq_getElem?_getD, List.getElem?_eq_getElem hi, e] at this
  exact this
theorem via_nodup {ms : List Tu.R} {ls : List Lk.R} {now z : Int} (h : Ln.linksB ls = true) : (viaF ms ls now z).Nodup := by
  unfold viaF viaL; rw [List.take_length]; exact sub_nodup h _
theorem alw_nodup {ls : List Lk.R} {now : Int} (h : Ln.linksB ls = true) : (alwV ls now ls.length).Nodup := by
  unfold alwV; rw [List.take_length]; exact sub_nodup h _
theorem alw_rng {ls : List Lk.R} {now : Int} (h : Ln.linksB ls = true) : ∀ a ∈ alwV ls now ls.length, 1 ≤ a ∧ a ≤ 8 := by
  unfold alwV; rw [List.take_length]; exact sub_rng h _
/-- Those that alone reach one: who they are. -/
theorem one_mem {via : Int → List Int} {out : List Int} {z a : Int} : a ∈ oneS via out z ↔ a ∈ out ∨ ((via z).length = 1 ∧ a = (via z).getD 0 0) := by
  unfold oneS oneB
  by_cases h1 : (via z).length = 1
  · cases h2 : out.contains ((via z).getD 0 0)
    · rw [if_pos (by rw [h1]; rfl), List.mem_append, List.mem_singleton]
      exact ⟨fun h => h.imp id (fun e => ⟨h1, e⟩), fun h => h.imp id (fun e => e.2)⟩
    · rw [if_neg (by simp)]
      constructor
      · exact fun h => .inl h
      · rintro (h | ⟨_, rfl⟩)
        · exact h
        · exact List.contains_iff_mem.1 h2
  · rw [if_neg (by simp [h1])]
    exact ⟨fun h => .inl h, fun h => h.elim id (fun e => absurd e.1 h1)⟩
theorem ones_mem {via : Int → List Int} {a : Int} : ∀ {S out : List Int}, a ∈ onesV via S out ↔ a ∈ out ∨ ∃ z ∈ S, (via z).length = 1 ∧ a = (via z).getD 0 0
  | [], out => by simp [onesV]
  | z :: t, out => by
    have : onesV via (z :: t) out = onesV via t (oneS via out z) := rfl
    rw [this, ones_mem, one_mem]
    constructor
    · rintro ((h | h) | ⟨y, hy, h⟩)
      · exact .inl h
      · exact .inr ⟨z, by simp, h⟩
      · exact .inr ⟨y, by simp [hy], h⟩
    · rintro (h | ⟨y, hy, h⟩)
      · exact .inl (.inl h)
      · rcases List.mem_cons.1 hy with rfl | hy
        · exact .inl (.inr h)
        · exact .inr ⟨y, hy, h⟩
theorem one_nodup {via : Int → List Int} {out : List Int} {z : Int} (h : out.Nodup) : (oneS via out z).Nodup := by
  unfold oneS oneB
  split
  · rename_i h2
    rw [Bool.and_eq_true] at h2
    rw [List.nodup_append]
    refine ⟨h, by simp, fun a ha b hb e => ?_⟩
    rw [List.mem_singleton] at hb
    subst hb e
    have := h2.2
    rw [List.contains_iff_mem.2 ha] at this
    cases this
  · exact h
theorem ones_nodup {via : Int → List Int} : ∀ {S out : List Int}, out.Nodup → (onesV via S out).Nodup
  | [], out, h => h
  | z :: t, out, h => ones_nodup (S := t) (one_nodup h)
theorem lone_len {S : List Int} {via : Int → List Int} {i : Nat} (hn : (via i).Nodup) (hr : ∀ a ∈ via i, 1 ≤ a ∧ a ≤ 8) (hS : S.contains (i : Int) = true) : (strN (vB S via i) 8).length = (via i).length := by
  have h1 := sort_str hn hr
  have h2 := sort_len (via i) (via i).length (Nat.le_refl _)
  rw [List.take_length, h1] at h2
  rw [← h2]
  congr 1
  exact str_same (fun z _ _ => by unfold vB; rw [hS]; rfl)
theorem oB_iff {S : List Int} {via : Int → List Int} {a : Int} (hS : ∀ z ∈ S, 1 ≤ z ∧ z ≤ 8) (hn : ∀ z, (via z).Nodup) (hr : ∀ z, ∀ a ∈ via z, 1 ≤ a ∧ a ≤ 8) : oB S via 9 a = true ↔ ∃ z ∈ S, (via z).length = 1 ∧ a = (via z).getD 0 0 := by
  have key : ∀ z : Int, (via z).length = 1 → (a ∈ via z ↔ a = (via z).getD 0 0) := fun z h => by
    obtain ⟨b, hb⟩ := List.length_eq_one_iff.1 h
    rw [hb]; simp
  unfold oB
  rw [List.any_eq_true]
  constructor
  · rintro ⟨i, hi, h⟩
    rw [Bool.and_eq_true] at h
    have hv := h.2
    unfold vB at hv
    rw [Bool.and_eq_true] at hv
    have hl : (via i).length = 1 := by
      rw [← lone_len (hn i) (hr i) hv.1]
      have := h.1
      unfold lone at this
      exact eq_of_beq this
    exact ⟨i, List.contains_iff_mem.1 hv.1, hl, (key i hl).1 (List.contains_iff_mem.1 hv.2)⟩
  · rintro ⟨z, hz, hl, ha⟩
    have hz8 := hS z hz
    obtain ⟨i, rfl⟩ : ∃ i : Nat, z = (i : Int) := ⟨z.toNat, by omega⟩
    have hc := List.contains_iff_mem.2 hz
    refine ⟨i, List.mem_range.2 (by omega), ?_⟩
    rw [Bool.and_eq_true]
    refine ⟨?_, ?_⟩
    · unfold lone; rw [lone_len (hn _) (hr _) hc, hl]; rfl
    · unfold vB; rw [hc, List.contains_iff_mem.2 ((key _ hl).2 ha)]; rfl
theorem ones_group {S : List Int} {via : Int → List Int} {A : List Int} (hS : ∀ z ∈ S, 1 ≤ z ∧ z ≤ 8) (hn : ∀ z, (via z).Nodup) (hr : ∀ z, ∀ a ∈ via z, 1 ≤ a ∧ a ≤ 8) : bits .or .u16 (gL A : Int) (gN (oB S via 9) : Int) = (gL (onesV via S A) : Int) := by
  unfold gL; rw [or_int]; congr 1
  refine gN_congr (fun a _ _ => ?_)
  rw [Bool.eq_iff_iff, Bool.or_eq_true, List.contains_iff_mem, List.contains_iff_mem, oB_iff hS hn hr, ones_mem]
theorem left_group {S : List Int} {via : Int → List Int} {r : List Int} (hr : ∀ z, ∀ a ∈ via z, 1 ≤ a ∧ a ≤ 8) : bits .andNot .u16 (gL S : Int) (gN (reB S via (strN (fun a => r.contains a) 8)) : Int) = (gL (leftV via S r) : Int) := by
  unfold gL; rw [not_int]; congr 1
  refine gN_congr (fun z _ _ => ?_)
  rw [re_any (hr z), any_has, Bool.eq_iff_iff, List.contains_iff_mem]
  unfold leftV hitV
  rw [List.mem_filter, ← List.contains_iff_mem]
  cases S.contains z <;> simp
theorem left_sub {S : List Int} {via : Int → List Int} {r : List Int} {z : Int} (h : z ∈ leftV via S r) : z ∈ S := (List.mem_filter.1 h).1
theorem less_group {S : List Int} {via : Int → List Int} {r : List Int} {i : Nat} : bits .andNot .u16 (gL (leftV via S r) : Int) (rN S via i : Int) = (gL (leftV via S (r ++ [(i : Int)])) : Int) := by
  unfold gL rN; rw [not_int]; congr 1
  refine gN_congr (fun z _ _ => ?_)
  rw [left_app, Bool.eq_iff_iff, List.contains_iff_mem, List.mem_filter, Bool.and_eq_true, List.contains_iff_mem]
  unfold rB
  constructor
  · rintro ⟨h1, h2⟩
    rw [List.contains_iff_mem.2 (left_sub h1)] at h2
    exact ⟨h1, by simpa using h2⟩
  · rintro ⟨h1, h2⟩
    refine ⟨h1, ?_⟩
    rw [List.contains_iff_mem.2 (left_sub h1)]
    simpa using h2
/-- Gain and degree, counted by bits. -/
theorem gain_count {cd : Int → Bool} {via : Int → List Int} {r : List Int} {a : Int} : (strN (fun z => rB (strN cd 8) via a z && (leftV via (strN cd 8) r).contains z) 8).length = cntV via (leftV via (strN cd 8) r) a := by
  unfold cntV
  have e : leftV via (strN cd 8) r = strN (fun z => cd z && !hitV via r z) 8 := by unfold leftV; exact str_filter _ _ _
  rw [e, str_filter]
  congr 1
  refine str_same (fun z h1 h2 => ?_)
  have h3 : ∀ p : Int → Bool, (strN p 8).contains z = p z := fun p => by
    rw [Bool.eq_iff_iff, List.contains_iff_mem, str_mem]
    exact ⟨fun h => h.2.2, fun h => ⟨h1, h2, h⟩⟩
  unfold rB
  rw [h3, h3]
  cases cd z <;> cases (via z).contains a <;> cases hitV via r z <;> rfl
theorem deg_count {cd : Int → Bool} {via : Int → List Int} {a : Int} : (strN (rB (strN cd 8) via a) 8).length = cntV via (strN cd 8) a := by
  unfold cntV
  rw [str_filter]
  congr 1
  refine str_same (fun z h1 h2 => ?_)
  unfold rB
  have : (strN cd 8).contains z = cd z := by
    rw [Bool.eq_iff_iff, List.contains_iff_mem, str_mem]
    exact ⟨fun h => h.2.2, fun h => ⟨h1, h2, h⟩⟩
  rw [this]
/-- One that reaches some that are left is no relay yet. -/
theorem gain_new {via : Int → List Int} {S r : List Int} {a : Int} (h : 0 < cntV via (leftV via S r) a) : a ∉ r := by
  intro ha
  unfold cntV at h
  obtain ⟨z, hz⟩ := List.exists_mem_of_length_pos h
  rw [List.mem_filter] at hz
  have h2 := (List.mem_filter.1 hz.1).2
  unfold hitV at h2
  rw [List.any_eq_true.2 ⟨a, ha, hz.2⟩] at h2
  cases h2
theorem app_nodup {r : List Int} {a : Int} (h : r.Nodup) (ha : a ∉ r) : (r ++ [a]).Nodup := by
  rw [List.nodup_append]
  refine ⟨h, by simp, fun x hx y hy e => ?_⟩
  rw [List.mem_singleton] at hy
  subst hy e; exact ha hx
theorem gL_list {r : List Int} (hn : r.Nodup) (hr : ∀ a ∈ r, 1 ≤ a ∧ a ≤ 8) : strN (hasB (gL r)) 8 = sortV r := by
  rw [sort_str hn hr]
  refine str_same (fun z h1 h2 => ?_)
  unfold gL
  rw [has_gN]
  unfold inB
  rw [decide_eq_true h1, decide_eq_true h2]; rfl
theorem gL_zero {L : List Int} (h : ∀ z ∈ L, 1 ≤ z ∧ z ≤ 8) : gL L = 0 ↔ L.length = 0 := by
  unfold gL
  rw [gN_zero, str_zero, List.length_eq_zero_iff]
  constructor
  · intro hh
    cases L with
    | nil => rfl
    | cons x t =>
      have h1 := h x (by simp)
      have := hh x h1.1 h1.2
      simp at this
  · rintro rfl z _ _; rfl
end Gp
end Go.Proofs.YtpknmiccgbjoiabGreat
namespace Go.Proofs.YtpknmiccgbjoiabGreat
open Go.ChangeShapes Go.WideShapes Go.ChangeAt Go.RowKit
set_option linter.unusedVariables false
set_option linter.unusedSimpArgs false
attribute [local go_sem ↓] Go.wp_at_zero Go.wp_at_succ
namespace Gp
open W1 Tu St Tw Mr
set_option maxHeartbeats 1000000 in
theorem compare (x y : Int) (w : World) : Calls Tryz.prog 101 #[.int .i64 x, .int .i64 y] w fun e w' => e = .returned (.int .i64 (cmpV x y)) ∧ w' = w := by
  by_cases h1 : x < y
  · rw [show cmpV x y = -1 by unfold cmpV; rw [if_pos h1]]
    go_enter Tryz.func101, Tryz.ntmps101
    go_wp2
    go_ret
    exact ⟨rfl, rfl⟩
  by_cases h2 : y < x
  · rw [show cmpV x y = 1 by unfold cmpV; rw [if_neg h1, if_pos h2]]
    go_enter Tryz.func101, Tryz.ntmps101
    go_wp2
    go_ret
    exact ⟨rfl, rfl⟩
  · rw [show cmpV x y = 0 by unfold cmpV; rw [if_neg h1, if_neg h2]]
    go_enter Tryz.func101, Tryz.ntmps101
    go_wp2
    go_ret
    exact ⟨rfl, rfl⟩
theorem or_drop {zs : List Int} {j : Nat} (h : j < zs.length) : orV (zs.drop j) = if zs.getD j 0 = 0 then orV (zs.drop (j + 1)) else zs.getD j 0 := by
  rw [List.drop_eq_getElem_cons h, List.getD_eq_getElem?_getD, List.getElem?_eq_getElem h]; rfl
set_option maxHeartbeats 2000000 in
theorem cmpOr (a : Option Addr) (zs : List Int) (cap : Nat) (w : World) (hm : zs.length ≤ 64) (hr : In.RM w a zs) :
    Calls Tryz.prog 100 #[.slice a zs.length cap] w fun e w' => e = .returned (.int .i64 (orV zs)) ∧ w' = w := by
  have HR := hide hr
  clear hr
  generalize hN : zs.length = n at *
  have HN := hide hN
  clear hN
  go_enter Tryz.func100, Tryz.ntmps100
  go_wp2_with fail
  go_loopw [8] (fun i wr => w = wr ∧ ∃ j : Nat, j ≤ n ∧ i = .int .i64 j ∧ Hid (orV zs = orV (zs.drop j))) (fun i _ => n - (intOf i).toNat)
  case atStart => exact ⟨rfl, 0, by omega, rfl, hide rfl⟩
  case round =>
    obtain ⟨rfl, j, hj, rfl, ho⟩ := hrel
    by_cases hlt : (j : Int) < (n : Int)
    · have k0 : (0 : Int) ≤ (j : Int) := by omega
      have hlen : j < zs.length := by rw [unhide HN]; omega
      rcases unhide HR with e0 | ⟨g, off, rfl, hc⟩
      · exfalso; rw [e0] at hlen; simp at hlen
      have c0 := hc j hlen
      clear hc
      have HT := hide (or_drop hlen)
      generalize zs.getD j 0 = y at *
      by_cases hy : y = 0
      · have HE : Hid (orV zs = orV (zs.drop (j + 1))) := hide (by rw [unhide ho, unhide HT, if_pos hy])
        subst hy
        go_wp2_with fail
        go_roundw
        case rel => exact ⟨by first | trivial | rfl, j + 1, by omega, by go_num, HE⟩
        case measure => simp [intOf]; omega
      · have HE : Hid (y = orV zs) := hide (by rw [unhide ho, unhide HT, if_neg hy])
        have hy2 : (y != 0) = true := by simpa using hy
        go_wp2_with fail
        go_ret
        exact ⟨ret_int (unhide HE), rfl⟩
    · obtain rfl : j = n := by omega
      have HE : Hid (0 = orV zs) := hide (by have := unhide ho; rw [← unhide HN, List.drop_length] at this; exact this.symm)
      go_wp2_with fail
      go_ret
      exact ⟨ret_int (unhide HE), rfl⟩
theorem rm_new4 (w : World) (a b c d : Int) : In.RM (w.alloc (.cells #[.int .i64 a, .int .i64 b, .int .i64 c, .int .i64 d] 3)) (some ⟨w.heap.size, 0, none⟩) [a, b, c, d] := by
  refine .inr ⟨_, _, rfl, fun i hi => ?_⟩
  rw [World.cell?_alloc_new]
  match i, hi with
  | 0, _ | 1, _ | 2, _ | 3, _ => rfl
  | n + 4, h => simp at h; omega
/-- Gain and degree as the program counts them. -/
def glB (S : List Int) (via : Int → List Int) (L : List Int) (a z : Int) : Bool := rB S via a z && L.contains z
def gnV (S : List Int) (via : Int → List Int) (L : List Int) (a : Int) : Int := ((strN (glB S via L a) 8).length : Int)
def dgV (S : List Int) (via : Int → List Int) (a : Int) : Int := ((strN (rB S via a) 8).length : Int)
theorem and_rL (S : List Int) (via : Int → List Int) (L : List Int) (q : Nat) : bits .and .u16 (rN S via q : Int) (gL L : Int) = (gN (glB S via L q) : Int) := and_int _ _
set_option maxRecDepth 100000 in
set_option maxHeartbeats 8000000 in
theorem byWorth (G lb : Nat) (s : Nat) (V : Nat → Nat) (S : List Int) (via : Int → List Int) (L : List Int) (x y : Lk.R) (w : World) (hx : 1 ≤ x.ad ∧ x.ad ≤ 8) (hy : 1 ≤ y.ad ∧ y.ad ≤ 8) (hg : GA w G s V (rN S via)) (hl : w.cell? ⟨lb, 0, none⟩ = some (.int .u16 (gL L))) :
    Calls Tryz.prog 99 #[x.value, y.value, .pointer (some ⟨G, 0, none⟩), .pointer (some ⟨lb, 0, none⟩)] w fun e w' => e = .returned (.int .i64 (worth (gnV S via L) (dgV S via) x y)) ∧ Below w.heap.size w w' := by
  have HG := hide hg
  have hlb := World.block_lt_of_cell? _ _ hl
  have HL := hide hl
  clear hg hl
  have e0 : worth (gnV S via L) (dgV S via) x y = orV [cmpV (gnV S via L x.ad) (gnV S via L y.ad), cmpV x.wl y.wl, cmpV (dgV S via x.ad) (dgV S via y.ad), cmpV y.ad x.ad] := rfl
  rw [e0]
  clear e0
  obtain ⟨xa, xh, xs, xi, xo, xw⟩ := x
  obtain ⟨ya, yh, ys, yi, yo, yw⟩ := y
  dsimp only at hx hy ⊢
  obtain ⟨qx, rfl⟩ : ∃ q : Nat, xa = (q : Int) := ⟨xa.toNat, by omega⟩
  obtain ⟨qy, rfl⟩ : ∃ q : Nat, ya = (q : Int) := ⟨ya.toNat, by omega⟩
  have hqx : qx < 9 := by omega
  have hqy : qy < 9 := by omega
  have qx0 : (0 : Int) ≤ (qx : Int) := by omega
  have qx9 : (qx : Int) < 9 := by omega
  have qy0 : (0 : Int) ≤ (qy : Int) := by omega
  have qy9 : (qy : Int) < 9 := by omega
  have hAx := and_rL S via L qx
  have hAy := and_rL S via L qy
  have HE1 : Hid (∀ q : Nat, rN S via q = gN (rB S via q)) := hide (fun _ => rfl)
  show Calls Tryz.prog 99 #[.agg #[.int .i64 (qx : Int), .int .i64 xh, .int .i64 xs, .int .i64 xi, .int .i64 xo, .int .i64 xw], .agg #[.int .i64 (qy : Int), .int .i64 yh, .int .i64 ys, .int .i64 yi, .int .i64 yo, .int .i64 yw], .pointer (some ⟨G, 0, none⟩), .pointer (some ⟨lb, 0, none⟩)] w _
  have HBx := hide (Ln.bx_new w ⟨(qx : Int), xh, xs, xi, xo, xw⟩ 129)
  have HBy := hide (Ln.bx_new (w.alloc (.cells #[.int .i64 (qx : Int), .int .i64 xh, .int .i64 xs, .int .i64 xi, .int .i64 xo, .int .i64 xw] 129)) ⟨(qy : Int), yh, ys, yi, yo, yw⟩ 129)
  have P1 := hide ((Below.refl w.heap.size w).alloc (Nat.le_refl _) (.cells #[.int .i64 (qx : Int), .int .i64 xh, .int .i64 xs, .int .i64 xi, .int .i64 xo, .int .i64 xw] 129))
  have P2 := hide ((unhide P1).alloc (unhide P1).size (.cells #[.int .i64 (qy : Int), .int .i64 yh, .int .i64 ys, .int .i64 yi, .int .i64 yo, .int .i64 yw] 129))
  go_enter Tryz.func99, Tryz.ntmps99
  go_wp2_with fail
  have HG2 := hide ((unhide HG).below (unhide P2))
  have HL2 : Hid (((w.alloc (.cells #[.int .i64 (qx : Int), .int .i64 xh, .int .i64 xs, .int .i64 xi, .int .i64 xo, .int .i64 xw] 129)).alloc (.cells #[.int .i64 (qy : Int), .int .i64 yh, .int .i64 ys, .int .i64 yi, .int .i64 yo, .int .i64 yw] 129)).cell? ⟨lb, 0, none⟩ = some (.int .u16 (gL L))) := hide (((unhide P2).cell (p := ⟨lb, 0, none⟩) hlb).trans (unhide HL))
  have HX2 := hide ((unhide HBx).below ((Below.refl _ _).alloc (Nat.le_refl _) (.cells #[.int .i64 (qy : Int), .int .i64 yh, .int .i64 ys, .int .i64 yi, .int .i64 yo, .int .i64 yw] 129)))
  rw [World.size_alloc] at HBy
  generalize hw2 : (w.alloc (.cells #[.int .i64 (qx : Int), .int .i64 xh, .int .i64 xs, .int .i64 xi, .int .i64 xo, .int .i64 xw] 129)).alloc (.cells #[.int .i64 (qy : Int), .int .i64 yh, .int .i64 ys, .int .i64 yi, .int .i64 yo, .int .i64 yw] 129) = w2 at *
  clear hw2 P1 HBx HG HL
  have HS : Hid (∀ w', Below w2.heap.size w2 w' → w'.cell? ⟨w.heap.size, 0, none⟩ = some (.int .i64 (qx : Int)) ∧ w'.cell? ⟨w.heap.size, 5, none⟩ = some (.int .i64 xw) ∧ w'.cell? ⟨w.heap.size + 1, 0, none⟩ = some (.int .i64 (qy : Int)) ∧ w'.cell? ⟨w.heap.size + 1, 5, none⟩ = some (.int .i64 yw) ∧ w'.cell? ⟨G, 10 + qx, none⟩ = some (.int .u16 (rN S via qx)) ∧ w'.cell? ⟨G, 10 + qy, none⟩ = some (.int .u16 (rN S via qy)) ∧ w'.cell? ⟨lb, 0, none⟩ = some (.int .u16 (gL L))) := hide (fun w' hb => by
    obtain ⟨x0, x1, x2, x3, x4, x5⟩ := (unhide HX2).below hb
    obtain ⟨y0, y1, y2, y3, y4, y5⟩ := (unhide HBy).below hb
    have h2 := hb.cell (p := ⟨lb, 0, none⟩) (World.block_lt_of_cell? _ _ (unhide HL2))
    exact ⟨x0, x5, y0, y5, (((unhide HG2).below hb).r hqx).1, (((unhide HG2).below hb).r hqy).1, h2.trans (unhide HL2)⟩)
  clear HX2 HBy HG2 HL2
  have hRx := unhide HE1 qx
  have hRy := unhide HE1 qy
  have egx : gnV S via L (qx : Int) = ((strN (glB S via L qx) 8).length : Int) := rfl
  have egy : gnV S via L (qy : Int) = ((strN (glB S via L qy) 8).length : Int) := rfl
  have edx : dgV S via (qx : Int) = ((strN (rB S via qx) 8).length : Int) := rfl
  have edy : dgV S via (qy : Int) = ((strN (rB S via qy) 8).length : Int) := rfl
  have HGX := hide egx
  have HGY := hide egy
  have HDX := hide edx
  have HDY := hide edy
  have HRX := hide hRx
  have HRY := hide hRy
  clear egx egy edx edy hRx hRy HE1
  have B2 : Below w2.heap.size w2 w2.drew := (Below.refl _ _).drew
  refine wp_region_noPanic ?_
  refine wp_region_held_drew (S := fun w' => w'.cell? ⟨w.heap.size, 0, none⟩ = some (.int .i64 (qx : Int)) ∧ w'.cell? ⟨w.heap.size, 5, none⟩ = some (.int .i64 xw) ∧ w'.cell? ⟨w.heap.size + 1, 0, none⟩ = some (.int .i64 (qy : Int)) ∧ w'.cell? ⟨w.heap.size + 1, 5, none⟩ = some (.int .i64 yw) ∧ w'.cell? ⟨G, 10 + qx, none⟩ = some (.int .u16 (rN S via qx)) ∧ w'.cell? ⟨G, 10 + qy, none⟩ = some (.int .u16 (rN S via qy)) ∧ w'.cell? ⟨lb, 0, none⟩ = some (.int .u16 (gL L))) (by kernel_rfl) (unhide HS _ B2) (fun hHeld => ?_)
  refine Rg.t 0 7 ?_
  refine Rg.t 1 8 ?_
  refine Rg.t 2 9 ?_
  refine Rg.t 3 10 ?_
  refine Rg.t 4 11 ?_
  refine Rg.t 5 12 ?_
  refine Rg.t 6 13 ?_
  refine Rg.t 8 15 ?_
  refine Rg.t 9 16 ?_
  refine Rg.t 10 17 ?_
  refine Rg.t 11 18 ?_
  refine Rg.t 12 19 ?_
  refine Rg.t 13 20 ?_
  refine Rg.t 14 21 ?_
  refine Rg.t 17 24 ?_
  refine Rg.t 18 25 ?_
  refine Rg.t 19 26 ?_
  refine Rg.t 20 27 ?_
  refine Rg.t 22 29 ?_
  refine Rg.t 23 30 ?_
  refine Rg.t 24 31 ?_
  refine Rg.t 25 32 ?_
  refine Rg.t 26 33 ?_
  refine Rg.t 28 35 ?_
  refine Rg.t 29 36 ?_
  refine Rg.t 30 37 ?_
  refine Rg.t 31 38 ?_
  refine Rg.t 32 39 ?_
  refine Rg.t 35 42 ?_
  refine Rg.t 36 43 ?_
  refine Rg.t 37 44 ?_
  refine Rg.t 38 45 ?_
  (refine Rg.o 7 (fun K hK => ?_); go_simp)
  refine (count _ _).mono ?_
  rintro e v3 ⟨rfl, m3, hv3⟩
  have B3 : Below w2.heap.size w2 v3 := by rw [hv3]; exact B2.trans ((below_dN' _ m3).mono B2.size)
  clear hv3 hHeld
  refine hK.out _ _ (unhide HS _ B3) (fun hHeld => ?_)
  clear hK K
  (try simp only [Act.put, List.setIfInBounds_toArray, List.set_cons_zero, List.set_cons_succ])
  (refine Rg.o 15 (fun K hK => ?_); go_simp)
  refine (count _ _).mono ?_
  rintro e v4 ⟨rfl, m4, hv4⟩
  have B4 : Below w2.heap.size w2 v4 := by rw [hv4]; exact B3.trans ((below_dN' _ m4).mono B3.size)
  clear hv4 hHeld
  refine hK.out _ _ (unhide HS _ B4) (fun hHeld => ?_)
  clear hK K
  (try simp only [Act.put, List.setIfInBounds_toArray, List.set_cons_zero, List.set_cons_succ])
  (refine Rg.o 16 (fun K hK => ?_); go_simp)
  refine (compare _ _ _).mono ?_
  rintro e v5 ⟨rfl, hv5⟩
  have B5 : Below w2.heap.size w2 v5 := by rw [hv5]; exact B4
  clear hv5 hHeld
  refine hK.out _ _ (unhide HS _ B5) (fun hHeld => ?_)
  clear hK K
  (try simp only [Act.put, List.setIfInBounds_toArray, List.set_cons_zero, List.set_cons_succ])
  (refine Rg.o 21 (fun K hK => ?_); go_simp)
  refine (compare _ _ _).mono ?_
  rintro e v6 ⟨rfl, hv6⟩
  have B6 : Below w2.heap.size w2 v6 := by rw [hv6]; exact B5
  clear hv6 hHeld
  refine hK.out _ _ (unhide HS _ B6) (fun hHeld => ?_)
  clear hK K
  (try simp only [Act.put, List.setIfInBounds_toArray, List.set_cons_zero, List.set_cons_succ])
  (refine Rg.o 27 (fun K hK => ?_); go_simp)
  refine (count (rB S via qx) _).mono ?_
  rintro e v7 ⟨rfl, m7, hv7⟩
  have B7 : Below w2.heap.size w2 v7 := by rw [hv7]; exact B6.trans ((below_dN' _ m7).mono B6.size)
  clear hv7 hHeld
  refine hK.out _ _ (unhide HS _ B7) (fun hHeld => ?_)
  clear hK K
  (try simp only [Act.put, List.setIfInBounds_toArray, List.set_cons_zero, List.set_cons_succ])
  (refine Rg.o 33 (fun K hK => ?_); go_simp)
  refine (count (rB S via qy) _).mono ?_
  rintro e v8 ⟨rfl, m8, hv8⟩
  have B8 : Below w2.heap.size w2 v8 := by rw [hv8]; exact B7.trans ((below_dN' _ m8).mono B7.size)
  clear hv8 hHeld
  refine hK.out _ _ (unhide HS _ B8) (fun hHeld => ?_)
  clear hK K
  (try simp only [Act.put, List.setIfInBounds_toArray, List.set_cons_zero, List.set_cons_succ])
  (refine Rg.o 34 (fun K hK => ?_); go_simp)
  refine (compare _ _ _).mono ?_
  rintro e v9 ⟨rfl, hv9⟩
  have B9 : Below w2.heap.size w2 v9 := by rw [hv9]; exact B8
  clear hv9 hHeld
  refine hK.out _ _ (unhide HS _ B9) (fun hHeld => ?_)
  clear hK K
  (try simp only [Act.put, List.setIfInBounds_toArray, List.set_cons_zero, List.set_cons_succ])
  (refine Rg.o 39 (fun K hK => ?_); go_simp)
  refine (compare _ _ _).mono ?_
  rintro e v10 ⟨rfl, hv10⟩
  have B10 : Below w2.heap.size w2 v10 := by rw [hv10]; exact B9
  clear hv10 hHeld
  refine hK.out _ _ (unhide HS _ B10) (fun hHeld => ?_)
  clear hK K
  (try simp only [Act.put, List.setIfInBounds_toArray, List.set_cons_zero, List.set_cons_succ])
  (refine Rg.o 40 (fun K hK => ?_); go_simp)
  have B11 := B10.alloc B10.size (.cells #[.int .i64 (cmpV (strN (glB S via L qx) 8).length (strN (glB S via L qy) 8).length), .int .i64 (cmpV xw yw), .int .i64 (cmpV (strN (rB S via qx) 8).length (strN (rB S via qy) 8).length), .int .i64 (cmpV (qy : Int) (qx : Int))] 3)
  have HRN := hide (rm_new4 v10 (cmpV (strN (glB S via L qx) 8).length (strN (glB S via L qy) 8).length) (cmpV xw yw) (cmpV (strN (rB S via qx) 8).length (strN (rB S via qy) 8).length) (cmpV (qy : Int) (qx : Int)))
  clear hHeld
  refine hK.out _ _ (unhide HS _ B11) (fun hHeld => ?_)
  clear hK K
  (try simp only [Act.put, List.setIfInBounds_toArray, List.set_cons_zero, List.set_cons_succ])
  (refine Rg.o 41 (fun K hK => ?_); go_simp)
  refine (cmpOr _ [_, _, _, _] _ _ (by simp) (unhide HRN)).mono ?_
  rintro e v12 ⟨rfl, hv12⟩
  have B12 : Below w2.heap.size w2 v12 := by rw [hv12]; exact B11
  clear hv12 hHeld
  refine hK.out _ _ (unhide HS _ B12) (fun hHeld => ?_)
  clear hK K
  (try simp only [Act.put, List.setIfInBounds_toArray, List.set_cons_zero, List.set_cons_succ])
  refine Rg.t 42 6 ?_
  refine wpAnyH_done (by kernel_rfl) (NoPanic.normal ?_) _
  clear hHeld
  have HBF := hide ((unhide P2).trans (B12.mono (unhide P2).size))
  have HRF : Hid (orV [cmpV (strN (glB S via L qx) 8).length (strN (glB S via L qy) 8).length, cmpV xw yw, cmpV (strN (rB S via qx) 8).length (strN (rB S via qy) 8).length, cmpV (qy : Int) (qx : Int)] = orV [cmpV (gnV S via L (qx : Int)) (gnV S via L (qy : Int)), cmpV xw yw, cmpV (dgV S via (qx : Int)) (dgV S via (qy : Int)), cmpV (qy : Int) (qx : Int)]) := hide rfl
  go_wp2_with fail
  go_ret
  exact ⟨ret_int (unhide HRF), unhide HBF⟩
end Gp
end Go.Proofs.YtpknmiccgbjoiabGreat
namespace Go.Proofs.YtpknmiccgbjoiabGreat
open Go.ChangeShapes Go.WideShapes Go.ChangeAt Go.RowKit
set_option linter.unusedVariables false
set_option linter.unusedSimpArgs false
attribute [local go_sem ↓] Go.wp_at_zero Go.wp_at_succ
namespace Gp
open W1 Tu St Tw Mr
/-- A link in a block of its own, which may be written. -/
def BF (w : World) (b : Nat) (m : Lk.R) : Prop := (w.cell? ⟨b, 0, none⟩ = some (.int .i64 m.ad) ∧ w.cell? ⟨b, 1, none⟩ = some (.int .i64 m.hd) ∧ w.cell? ⟨b, 2, none⟩ = some (.int .i64 m.sy) ∧ w.cell? ⟨b, 3, none⟩ = some (.int .i64 m.ci) ∧ w.cell? ⟨b, 4, none⟩ = some (.int .i64 m.co) ∧ w.cell? ⟨b, 5, none⟩ = some (.int .i64 m.wl)) ∧ ∀ k, w.frozen? ⟨b, k, none⟩ = false
theorem BF.lt {w : World} {b : Nat} {m : Lk.R} (h : BF w b m) : b < w.heap.size := World.block_lt_of_cell? _ _ h.1.1
theorem BF.under {w w' : World} {B b : Nat} {m : Lk.R} (h : BF w b m) (hb : Below B w w') (hg : b < B) : BF w' b m := by
  obtain ⟨⟨h0, h1, h2, h3, h4, h5⟩, hf⟩ := h
  exact ⟨⟨(hb.cell (p := ⟨b, 0, none⟩) hg).trans h0, (hb.cell (p := ⟨b, 1, none⟩) hg).trans h1, (hb.cell (p := ⟨b, 2, none⟩) hg).trans h2, (hb.cell (p := ⟨b, 3, none⟩) hg).trans h3, (hb.cell (p := ⟨b, 4, none⟩) hg).trans h4, (hb.cell (p := ⟨b, 5, none⟩) hg).trans h5⟩, fun k => (hb.frozen (p := ⟨b, k, none⟩) hg).trans (hf k)⟩
theorem BF.below {w w' : World} {b : Nat} {m : Lk.R} (h : BF w b m) (hb : Below w.heap.size w w') : BF w' b m := h.under hb h.lt
theorem bf_new (w : World) (m : Lk.R) (t : Nat) : BF (w.alloc (.cells #[.int .i64 m.ad, .int .i64 m.hd, .int .i64 m.sy, .int .i64 m.ci, .int .i64 m.co, .int .i64 m.wl] t)) w.heap.size m := by
  have hb : (w.alloc (.cells #[.int .i64 m.ad, .int .i64 m.hd, .int .i64 m.sy, .int .i64 m.ci, .int .i64 m.co, .int .i64 m.wl] t)).heap[w.heap.size]? = some (.cells #[.int .i64 m.ad, .int .i64 m.hd, .int .i64 m.sy, .int .i64 m.ci, .int .i64 m.co, .int .i64 m.wl] t) := heap_alloc_last w _
  refine ⟨⟨?_, ?_, ?_, ?_, ?_, ?_⟩, fun k => ?_⟩
  · rw [World.cell?_alloc_new]; rfl
  · rw [World.cell?_alloc_new]; rfl
  · rw [World.cell?_alloc_new]; rfl
  · rw [World.cell?_alloc_new]; rfl
  · rw [World.cell?_alloc_new]; rfl
  · rw [World.cell?_alloc_new]; rfl
  · unfold World.frozen?
    simp only [hb]
    simp
theorem BF.put {w : World} {b : Nat} {m : Lk.R} (h : BF w b m) (x : Lk.R) : BF (Lk.put w b 0 x) b x := by
  obtain ⟨⟨h0, h1, h2, h3, h4, h5⟩, hf⟩ := h
  have ha : Lk.At (Lk.put w b 0 x) b 0 x := Lk.put_at w b 0 x (fun k hk => by
    rw [Nat.zero_add]
    match k, hk with
    | 0, _ => rw [h0]; rfl
    | 1, _ => rw [h1]; rfl
    | 2, _ => rw [h2]; rfl
    | 3, _ => rw [h3]; rfl
    | 4, _ => rw [h4]; rfl
    | 5, _ => rw [h5]; rfl
    | n + 6, h => omega)
  exact ⟨ha, fun k => by rw [Lk.put_frozen]; exact hf k⟩
theorem put_eq (W : World) (b : Nat) (x : Lk.R) : Lk.put W b 0 x = (((((W.setCell ⟨b, 0, none⟩ (.int .i64 x.ad)).setCell ⟨b, 1, none⟩ (.int .i64 x.hd)).setCell ⟨b, 2, none⟩ (.int .i64 x.sy)).setCell ⟨b, 3, none⟩ (.int .i64 x.ci)).setCell ⟨b, 4, none⟩ (.int .i64 x.co)).setCell ⟨b, 5, none⟩ (.int .i64 x.wl) := by
  unfold Lk.put; simp only [Nat.zero_add]
theorem BF.put6 {W : World} {b : Nat} {m : Lk.R} (h : BF W b m) (x : Lk.R) : BF ((((((W.setCell ⟨b, 0, none⟩ (.int .i64 x.ad)).setCell ⟨b, 1, none⟩ (.int .i64 x.hd)).setCell ⟨b, 2, none⟩ (.int .i64 x.sy)).setCell ⟨b, 3, none⟩ (.int .i64 x.ci)).setCell ⟨b, 4, none⟩ (.int .i64 x.co)).setCell ⟨b, 5, none⟩ (.int .i64 x.wl)) b x := by rw [← put_eq]; exact h.put x
theorem below6 {B : Nat} {w0 W : World} {b : Nat} {x : Lk.R} (h : Below B w0 W) (hg : B ≤ b) : Below B w0 ((((((W.setCell ⟨b, 0, none⟩ (.int .i64 x.ad)).setCell ⟨b, 1, none⟩ (.int .i64 x.hd)).setCell ⟨b, 2, none⟩ (.int .i64 x.sy)).setCell ⟨b, 3, none⟩ (.int .i64 x.ci)).setCell ⟨b, 4, none⟩ (.int .i64 x.co)).setCell ⟨b, 5, none⟩ (.int .i64 x.wl)) := by rw [← put_eq]; exact Lk.put_below h hg
theorem size6 (W : World) (b : Nat) (x : Lk.R) : ((((((W.setCell ⟨b, 0, none⟩ (.int .i64 x.ad)).setCell ⟨b, 1, none⟩ (.int .i64 x.hd)).setCell ⟨b, 2, none⟩ (.int .i64 x.sy)).setCell ⟨b, 3, none⟩ (.int .i64 x.ci)).setCell ⟨b, 4, none⟩ (.int .i64 x.co)).setCell ⟨b, 5, none⟩ (.int .i64 x.wl)).heap.size = W.heap.size := by rw [← put_eq]; exact Lk.put_size _ _ _ _
theorem max_step {f : Lk.R → Lk.R → Int} {ls : List Lk.R} {j : Nat} : maxV f ls (j + 1) = if 0 < f (ls.getD (j + 1) Lk.R.zero) (maxV f ls j) then ls.getD (j + 1) Lk.R.zero else maxV f ls j := rfl
theorem max_mem {f : Lk.R → Lk.R → Int} {ls : List Lk.R} : ∀ j, ∃ b, b ≤ j ∧ maxV f ls j = ls.getD b Lk.R.zero
  | 0 => ⟨0, Nat.le_refl _, rfl⟩
  | j + 1 => by
    rw [max_step]
    split
    · exact ⟨j + 1, Nat.le_refl _, rfl⟩
    · obtain ⟨b, h1, h2⟩ := max_mem j; exact ⟨b, by omega, h2⟩
theorem infoLk : Tryz.prog.underlying 129 = some (Tryz.prog.underlying 129).get! ∧ ((Tryz.prog.underlying 129).get!).isRow = true ∧ (Tryz.prog.info? 129).map (·.size) = some 6 := ⟨by kernel_rfl, by kernel_rfl, by kernel_rfl⟩
theorem BF.range {w : World} {b : Nat} {m : Lk.R} (h : BF w b m) : w.rangeAt b 0 m.cells := fun j v hv => Lk.at_cells (m := m) (o := 0) h.1 j v hv
theorem resultsL {fn : Func} {p : Tmp} (h : fn.results = #[.cell p 129]) (tmps : Array Value) (w : World) {b : Nat} {m : Lk.R} (hp : tmps.getD p undef = .pointer (some ⟨b, 0, none⟩)) (hg : BF w b m) : (results fn tmps).run Tryz.prog w = .ok m.value w := by
  have hp' : tmps[p]?.getD undef = .pointer (some ⟨b, 0, none⟩) := by simpa using hp
  have hv : m.value = .agg m.cells.toArray := rfl
  rw [hv]
  simp only [results, h]
  simp [Sem.run_bind, hp', asAddr, run_loadVar_mid w b 0 129 m.cells _ hg.range infoLk.1 infoLk.2.1 infoLk.2.2, Result.andThen]
set_option maxRecDepth 100000 in
set_option maxHeartbeats 8000000 in
theorem maxFunc (a : Option Addr) (ls : List Lk.R) (cap : Nat) (G lb : Nat) (s : Nat) (V : Nat → Nat) (S : List Int) (via : Int → List Int) (L : List Int) (w : World) (h0 : 0 < ls.length) (h8 : ls.length ≤ 8) (hrg : ∀ i, i < ls.length → 1 ≤ (ls.getD i Lk.R.zero).ad ∧ (ls.getD i Lk.R.zero).ad ≤ 8) (hr : Lk.RM w a ls) (hg : GA w G s V (rN S via)) (hl : w.cell? ⟨lb, 0, none⟩ = some (.int .u16 (gL L))) :
    Calls Tryz.prog 103 #[.slice a ls.length cap, .func (.func 99) #[] #[.pointer (some ⟨G, 0, none⟩), .pointer (some ⟨lb, 0, none⟩)]] w fun e w' => e = .returned (maxV (worth (gnV S via L) (dgV S via)) ls (ls.length - 1)).value ∧ Below w.heap.size w w' := by
  have HR := hide hr
  have HG := hide hg
  have HL := hide hl
  have hlb := World.block_lt_of_cell? _ _ hl
  have HRG := hide hrg
  have HBW := hide (fun (x y : Lk.R) (W : World) h1 h2 h3 h4 => byWorth G lb s V S via L x y W h1 h2 h3 h4)
  clear hr hg hl hrg
  obtain ⟨f, hf⟩ : ∃ f, worth (gnV S via L) (dgV S via) = f := ⟨_, rfl⟩
  rw [hf] at HBW ⊢
  clear hf
  generalize hN : ls.length = n at *
  have HN := hide hN
  clear hN
  obtain ⟨g, off, rfl⟩ := (unhide HR).form (by rw [unhide HN]; exact h0)
  have PA := hide ((Below.refl w.heap.size w).alloc (Nat.le_refl _) (.cells #[.int .i64 0, .int .i64 0, .int .i64 0, .int .i64 0, .int .i64 0, .int .i64 0] 129))
  have h00 : Lk.At (w.alloc (.cells #[.int .i64 0, .int .i64 0, .int .i64 0, .int .i64 0, .int .i64 0, .int .i64 0] 129)) g off (ls.getD 0 Lk.R.zero) := by
    have := ((unhide HR).below (unhide PA)).at (i := 0) (by rw [unhide HN]; exact h0)
    rw [Nat.zero_mul, Nat.add_zero] at this; exact this
  obtain ⟨c0, c1, c2, c3, c4, c5⟩ := h00
  have hn1 : ¬ (n : Int) < 1 := by omega
  have hn0 : (0 : Int) < (n : Int) := by omega
  have HM0 : Hid (ls.getD 0 Lk.R.zero = maxV f ls 0) := hide rfl
  have HF0 : Hid (BF (w.alloc (.cells #[.int .i64 0, .int .i64 0, .int .i64 0, .int .i64 0, .int .i64 0, .int .i64 0] 129)) w.heap.size Lk.R.zero) := hide (bf_new w Lk.R.zero 129)
  have hmb : w.heap.size + 1 = (w.alloc (.cells #[.int .i64 0, .int .i64 0, .int .i64 0, .int .i64 0, .int .i64 0, .int .i64 0] 129)).heap.size := by simp
  generalize ls.getD 0 Lk.R.zero = m at *
  have HB1 := hide (bf_new (w.alloc (.cells #[.int .i64 0, .int .i64 0, .int .i64 0, .int .i64 0, .int .i64 0, .int .i64 0] 129)) m 129)
  have PB := hide ((unhide PA).alloc (unhide PA).size (.cells #[.int .i64 m.ad, .int .i64 m.hd, .int .i64 m.sy, .int .i64 m.ci, .int .i64 m.co, .int .i64 m.wl] 129))
  have HF1 := hide ((unhide HF0).below ((Below.refl _ _).alloc (Nat.le_refl _) (.cells #[.int .i64 m.ad, .int .i64 m.hd, .int .i64 m.sy, .int .i64 m.ci, .int .i64 m.co, .int .i64 m.wl] 129)))
  rw [← hmb] at HB1
  clear hmb
  go_enter Tryz.func103, Tryz.ntmps103
  go_wp2_with fail
  clear c0 c1 c2 c3 c4 c5 PA HF0
  generalize hw1 : (w.alloc (.cells #[.int .i64 0, .int .i64 0, .int .i64 0, .int .i64 0, .int .i64 0, .int .i64 0] 129)).alloc (.cells #[.int .i64 m.ad, .int .i64 m.hd, .int .i64 m.sy, .int .i64 m.ci, .int .i64 m.co, .int .i64 m.wl] 129) = w1 at *
  clear hw1
  obtain ⟨mb, hmb⟩ : ∃ mb, w.heap.size + 1 = mb := ⟨_, rfl⟩
  rw [hmb] at HB1 ⊢
  have hmw : w.heap.size < mb := by omega
  clear hmb
  rw [unhide HM0] at HB1
  clear HM0
  go_loopw [6] (fun i wr => ∃ t : Nat, 1 ≤ t ∧ t ≤ n ∧ i = .int .i64 (t : Int) ∧ Hid (BF wr mb (maxV f ls (t - 1))) ∧ Hid (Below mb w1 wr) ∧ Hid (mb < wr.heap.size)) (fun i _ => n - (intOf i).toNat)
  case atStart => exact ⟨1, Nat.le_refl _, by omega, rfl, HB1, hide (Below.refl _ _), hide (unhide HB1).lt⟩
  case round =>
    obtain ⟨t, ht1, htn, rfl, hbf, hbl, hms⟩ := hrel
    have HBW1 := hide ((unhide PB).trans ((unhide hbl).mono (Nat.le_of_lt hmw)))
    by_cases hlt : (t : Int) < (n : Int)
    · have k0 : (0 : Int) ≤ (t : Int) := by omega
      have hlen : t < ls.length := by rw [unhide HN]; omega
      have hmr := unhide HRG t (by omega)
      have hzr : 1 ≤ (maxV f ls (t - 1)).ad ∧ (maxV f ls (t - 1)).ad ≤ 8 := by
        obtain ⟨b, hb, e⟩ := max_mem (f := f) (ls := ls) (t - 1)
        rw [e]; exact unhide HRG b (by omega)
      have HST : Hid (maxV f ls (t + 1 - 1) = if 0 < f (ls.getD t Lk.R.zero) (maxV f ls (t - 1)) then ls.getD t Lk.R.zero else maxV f ls (t - 1)) := hide (by
        have := max_step (f := f) (ls := ls) (j := t - 1)
        rw [show t - 1 + 1 = t by omega] at this
        rw [show t + 1 - 1 = t by omega]; exact this)
      have HRr := hide ((unhide HR).below (unhide HBW1))
      have HAT : Hid (∀ W, Lk.RM W (some ⟨g, off, none⟩) ls → Lk.At W g (off + t * 6) (ls.getD t Lk.R.zero)) := hide (fun W h => h.at hlen)
      have HGr := hide ((unhide HG).below (unhide HBW1))
      have HLr : Hid (wr.cell? ⟨lb, 0, none⟩ = some (.int .u16 (gL L))) := hide (((unhide HBW1).cell (p := ⟨lb, 0, none⟩) hlb).trans (unhide HL))
      have hlr := World.block_lt_of_cell? _ _ (unhide HLr)
      generalize ls.getD t Lk.R.zero = m at *
      generalize maxV f ls (t - 1) = z at *
      have HS : Hid (∀ w', Below wr.heap.size wr w' → (fun w' => w'.cell? ⟨g, off + t * 6, none⟩ = some (.int .i64 m.ad) ∧ w'.cell? ⟨g, off + t * 6 + 1, none⟩ = some (.int .i64 m.hd) ∧ w'.cell? ⟨g, off + t * 6 + 2, none⟩ = some (.int .i64 m.sy) ∧ w'.cell? ⟨g, off + t * 6 + 3, none⟩ = some (.int .i64 m.ci) ∧ w'.cell? ⟨g, off + t * 6 + 4, none⟩ = some (.int .i64 m.co) ∧ w'.cell? ⟨g, off + t * 6 + 5, none⟩ = some (.int .i64 m.wl) ∧ w'.cell? ⟨mb, 0, none⟩ = some (.int .i64 z.ad) ∧ w'.cell? ⟨mb, 1, none⟩ = some (.int .i64 z.hd) ∧ w'.cell? ⟨mb, 2, none⟩ = some (.int .i64 z.sy) ∧ w'.cell? ⟨mb, 3, none⟩ = some (.int .i64 z.ci) ∧ w'.cell? ⟨mb, 4, none⟩ = some (.int .i64 z.co) ∧ w'.cell? ⟨mb, 5, none⟩ = some (.int .i64 z.wl)) w') := hide (fun w' hb => by
        obtain ⟨x0, x1, x2, x3, x4, x5⟩ := unhide HAT _ ((unhide HRr).below hb)
        obtain ⟨⟨y0, y1, y2, y3, y4, y5⟩, _⟩ := (unhide hbf).below hb
        exact ⟨x0, x1, x2, x3, x4, x5, y0, y1, y2, y3, y4, y5⟩)
      have hmv : m.value = .agg #[.int .i64 m.ad, .int .i64 m.hd, .int .i64 m.sy, .int .i64 m.ci, .int .i64 m.co, .int .i64 m.wl] := rfl
      have hzv : z.value = .agg #[.int .i64 z.ad, .int .i64 z.hd, .int .i64 z.sy, .int .i64 z.ci, .int .i64 z.co, .int .i64 z.wl] := rfl
      have HCW : Hid (∀ W, Below wr.heap.size wr W → Calls Tryz.prog 99 #[.agg #[.int .i64 m.ad, .int .i64 m.hd, .int .i64 m.sy, .int .i64 m.ci, .int .i64 m.co, .int .i64 m.wl], .agg #[.int .i64 z.ad, .int .i64 z.hd, .int .i64 z.sy, .int .i64 z.ci, .int .i64 z.co, .int .i64 z.wl], .pointer (some ⟨G, 0, none⟩), .pointer (some ⟨lb, 0, none⟩)] W fun e w' => e = .returned (.int .i64 (f m z)) ∧ Below W.heap.size W w') := hide (fun W hb => by
        have := unhide HBW m z W hmr hzr ((unhide HGr).below hb) ((hb.cell (p := ⟨lb, 0, none⟩) hlr).trans (unhide HLr))
        rw [hmv, hzv] at this; exact this)
      clear hmv hzv hmr hzr
      have B2 : Below wr.heap.size wr wr.drew := (Below.refl _ _).drew
      obtain ⟨fv, hfv⟩ : ∃ fv, f m z = fv := ⟨_, rfl⟩
      rw [hfv] at HST HCW
      clear hfv
      go_wp2_with fail
      refine wp_region_noPanic ?_
      refine wp_region_held_drew (S := fun w' => w'.cell? ⟨g, off + t * 6, none⟩ = some (.int .i64 m.ad) ∧ w'.cell? ⟨g, off + t * 6 + 1, none⟩ = some (.int .i64 m.hd) ∧ w'.cell? ⟨g, off + t * 6 + 2, none⟩ = some (.int .i64 m.sy) ∧ w'.cell? ⟨g, off + t * 6 + 3, none⟩ = some (.int .i64 m.ci) ∧ w'.cell? ⟨g, off + t * 6 + 4, none⟩ = some (.int .i64 m.co) ∧ w'.cell? ⟨g, off + t * 6 + 5, none⟩ = some (.int .i64 m.wl) ∧ w'.cell? ⟨mb, 0, none⟩ = some (.int .i64 z.ad) ∧ w'.cell? ⟨mb, 1, none⟩ = some (.int .i64 z.hd) ∧ w'.cell? ⟨mb, 2, none⟩ = some (.int .i64 z.sy) ∧ w'.cell? ⟨mb, 3, none⟩ = some (.int .i64 z.ci) ∧ w'.cell? ⟨mb, 4, none⟩ = some (.int .i64 z.co) ∧ w'.cell? ⟨mb, 5, none⟩ = some (.int .i64 z.wl)) (by kernel_rfl) (unhide HS _ B2) (fun hHeld => ?_)
      refine Rg.t 0 20 ?_
      refine Rg.t 1 21 ?_
      refine Rg.t 2 22 ?_
      refine Rg.t 3 23 ?_
      refine Rg.t 4 24 ?_
      refine Rg.t 5 25 ?_
      (refine Rg.o 6 (fun K hK => ?_); go_simp)
      refine (unhide HCW _ B2).mono ?_
      rintro e w3 ⟨rfl, b3⟩
      have B3 := B2.trans (b3.mono B2.size)
      clear b3 hHeld
      refine hK.out _ _ (unhide HS _ B3) (fun hHeld => ?_)
      clear hK K
      (try simp only [Act.put, List.setIfInBounds_toArray, List.set_cons_zero, List.set_cons_succ])
      have HBF3 := hide ((unhide hbf).below B3)
      have HB3 := hide ((unhide hbl).trans (B3.mono (Nat.le_of_lt (unhide hms))))
      have HM3 := hide (Nat.lt_of_lt_of_le (unhide hms) B3.size)
      have HA3 := hide (unhide HAT _ ((unhide HRr).below B3))
      clear HS HCW HAT HRr HGr HLr hlr
      by_cases hpos : 0 < fv
      · rw [if_pos hpos] at HST
        refine Rg.t 7 27 ?_
        refine wpAnyH_done (by kernel_rfl) (NoPanic.normal ?_) _
        clear hHeld
        obtain ⟨x0, x1, x2, x3, x4, x5⟩ := unhide HA3
        obtain ⟨⟨y0, y1, y2, y3, y4, y5⟩, yf⟩ := unhide HBF3
        have f0 := yf 0
        have f1 := yf 1
        have f2 := yf 2
        have f3 := yf 3
        have f4 := yf 4
        have f5 := yf 5
        clear yf
        have HP := hide ((unhide HBF3).put6 m)
        have HPB := hide (below6 (x := m) (unhide HB3) (Nat.le_refl mb))
        have HPS := hide (show mb < _ from by rw [← size6 w3 mb m] at HM3; exact unhide HM3)
        go_wp2_with fail
        exact ⟨⟨t + 1, by omega, by omega, by go_num, by rw [unhide HST]; exact HP, HPB, HPS⟩, by simp [intOf]; omega⟩
      · rw [if_neg hpos] at HST
        rw [← unhide HST] at HBF3
        refine Rg.t 7 27 ?_
        refine wpAnyH_done (by kernel_rfl) (NoPanic.normal ?_) _
        clear hHeld
        go_wp2_with fail
        go_roundw
        case rel => exact ⟨t + 1, by omega, by omega, by go_num, HBF3, HB3, HM3⟩
        case measure => simp [intOf]; omega
    · obtain rfl : t = n := by omega
      have HF2 := hide ((unhide HF1).under (unhide hbl) hmw)
      obtain ⟨z, hz⟩ : ∃ z, maxV f ls (t - 1) = z := ⟨_, rfl⟩
      have HZ := hide hz
      rw [hz] at hbf
      clear hz
      obtain ⟨⟨x0, x1, x2, x3, x4, x5⟩, _⟩ := unhide hbf
      obtain ⟨⟨y0, y1, y2, y3, y4, y5⟩, yf⟩ := unhide HF2
      have f0 := yf 0
      have f1 := yf 1
      have f2 := yf 2
      have f3 := yf 3
      have f4 := yf 4
      have f5 := yf 5
      clear yf
      have HP := hide ((unhide HF2).put6 z)
      have HPB := hide (below6 (x := z) (unhide HBW1) (Nat.le_refl w.heap.size))
      go_wp2_with fail
      refine bodyPost_ret (resultsL rfl _ _ rfl (unhide HP)) rfl ⟨by rw [unhide HZ], unhide HPB⟩
end Gp
end Go.Proofs.YtpknmiccgbjoiabGreat
namespace Go.Proofs.YtpknmiccgbjoiabGreat
open Go.ChangeShapes Go.WideShapes Go.ChangeAt Go.RowKit
set_option linter.unusedVariables false
set_option linter.unusedSimpArgs false
attribute [local go_sem ↓] Go.wp_at_zero Go.wp_at_succ
namespace Gp
open W1 Tu St Tw Mr Mt
/-- A number in a block of its own, which may be written. -/
def CL (w : World) (b : Nat) (x : Int) : Prop := w.cell? ⟨b, 0, none⟩ = some (.int .u16 x) ∧ w.frozen? ⟨b, 0, none⟩ = false
theorem CL.lt {w : World} {b : Nat} {x : Int} (h : CL w b x) : b < w.heap.size := World.block_lt_of_cell? _ _ h.1
theorem CL.under {w w' : World} {B b : Nat} {x : Int} (h : CL w b x) (hb : Below B w w') (hg : b < B) : CL w' b x := ⟨(hb.cell (p := ⟨b, 0, none⟩) hg).trans h.1, (hb.frozen (p := ⟨b, 0, none⟩) hg).trans h.2⟩
theorem CL.below {w w' : World} {b : Nat} {x : Int} (h : CL w b x) (hb : Below w.heap.size w w') : CL w' b x := h.under hb h.lt
theorem cl_new (w : World) (x : Int) (t : Nat) : CL (w.alloc (.cells #[.int .u16 x] t)) w.heap.size x := by
  have hb : (w.alloc (.cells #[.int .u16 x] t)).heap[w.heap.size]? = some (.cells #[.int .u16 x] t) := heap_alloc_last w _
  refine ⟨by rw [World.cell?_alloc_new]; rfl, ?_⟩
  unfold World.frozen?
  simp only [hb]
  simp
theorem CL.set {w : World} {b : Nat} {x : Int} (h : CL w b x) (y : Int) : CL (w.setCell ⟨b, 0, none⟩ (.int .u16 y)) b y := ⟨World.cell?_setCell_same _ _ _ h.1, by rw [World.frozen?_setCell]; exact h.2⟩
set_option maxRecDepth 100000 in
set_option maxHeartbeats 16000000 in
theorem implFlood (a : Option Addr) (ms : List R) (cap : Nat) (b : Option Addr) (ls : List Lk.R) (capl : Nat) (me now : Int) (w : World) (hm : ms.length ≤ 1048576) (hl : ls.length ≤ 1048576) (hr : RM w a ms) (hr' : Lk.RM w b ls) :
    Calls Tryz.prog 49 #[.slice a ms.length cap, .slice b ls.length capl, .int .i64 me, .int .i64 now] w fun e w' => ∃ v, e = .returned (.tuple #[v, .int .i64 (codeTL ms ls)]) ∧ Below w.heap.size w w' ∧ In.LstV w' v (fldA ms ls me now) w.heap.size w'.heap.size := by
  have HRC := hide (fun W h1 h2 => relaysCode a ms cap b ls capl none [] 0 W hm hl (by simp) h1 h2)
  rw [codeM_nil] at HRC
  have HR := hide hr
  have HL := hide hr'
  clear hr hr'
  by_cases hc : codeTL ms ls = 0
  rotate_left
  · have h1 : fldA ms ls me now = [] := by unfold fldA; rw [if_neg hc]
    rw [h1]
    clear h1
    generalize hcd : codeTL ms ls = cd at *
    clear hcd
    have q1 : (cd != 0) = true := by simpa using hc
    go_enter Tryz.func49, Tryz.ntmps49
    go_wp2_with fail
    refine (unhide HRC _ (unhide HR) (unhide HL)).mono ?_
    rintro e w1 ⟨rfl, b1⟩
    have HB1 := hide b1
    clear b1
    go_wp2_with fail
    go_ret2
    exact ⟨_, rfl, unhide HB1, In.lstV_nil _ _ _ _ _⟩
  have HOK := hide (codeTL_ok hc)
  have h8 := Ln.links_len (unhide HOK).2
  have h1 : fldA ms ls me now = fldV (viaF ms ls now) (strF ms ls me now) ls now := by unfold fldA; rw [if_pos hc]
  have HGO := hide (fun W h1 h2 => groundOf a ms cap b ls capl me now W (unhide HOK) h1 h2)
  have HVR : Hid (∀ z, ∀ a ∈ viaF ms ls now z, 1 ≤ a ∧ a ≤ 8) := hide (fun z => via_rng (unhide HOK).2)
  have HVN : Hid (∀ z, (viaF ms ls now z).Nodup) := hide (fun z => via_nodup (unhide HOK).2)
  have HSR := hide (str_rng2 (ms := ms) (ls := ls) (me := me) (now := now))
  have HSV : Hid (∀ z ∈ strF ms ls me now, ∃ i, i < ls.length ∧ (viaF ms ls now z).contains (ls.getD i Lk.R.zero).ad = true) := hide (fun z hz => via_link (str_via z hz))
  have HSC : Hid (strF ms ls me now = strN (condS ms ls me now) 8) := hide rfl
  have HLR : Hid (∀ i, i < ls.length → 1 ≤ (ls.getD i Lk.R.zero).ad ∧ (ls.getD i Lk.R.zero).ad ≤ 8) := hide (fun i hi => Ln.ok_ad (Ri.all_ok (unhide HOK).2 hi))
  have HLU := hide (links_up (unhide HOK).2)
  have HAN := hide (alw_nodup (now := now) (unhide HOK).2)
  have HAR := hide (alw_rng (now := now) (unhide HOK).2)
  rw [h1]
  rw [hc] at HRC ⊢
  clear hc h1
  generalize strF ms ls me now = S at *
  generalize viaF ms ls now = via at *
  obtain ⟨A, hA⟩ : ∃ A, alwV ls now ls.length = A := ⟨_, rfl⟩
  obtain ⟨r0, hr0⟩ : ∃ r0, onesV via S A = r0 := ⟨_, rfl⟩
  have hF : fldV via S ls now = sortV (grdV via S ls 8 r0) := by unfold fldV; rw [hA, hr0]
  rw [hF]
  rw [hA] at HAN HAR
  have HAW : Hid (∀ W, Lk.RM W b ls → Calls Tryz.prog 96 #[.slice b ls.length capl, .int .i64 now] W fun e w' => e = .returned (.int .u16 (gL A)) ∧ Below W.heap.size W w') := hide (fun W h => by rw [← hA]; exact alwaysWilling b ls capl now W (by omega) h)
  have HON : Hid (bits .or .u16 (gL A : Int) (gN (oB S via 9) : Int) = (gL r0 : Int)) := hide (by rw [← hr0]; exact ones_group (unhide HSR) (unhide HVN) (unhide HVR))
  have HRN : Hid r0.Nodup := hide (by rw [← hr0]; exact ones_nodup (unhide HAN))
  have HRR : Hid (∀ a ∈ r0, 1 ≤ a ∧ a ≤ 8) := hide (by
    intro a ha
    rw [← hr0, ones_mem] at ha
    rcases ha with ha | ⟨z, hz, hl, rfl⟩
    · exact unhide HAR a ha
    · have : (via z).getD 0 0 ∈ via z := getD_mem (by omega)
      exact unhide HVR z _ this)
  have HLG : Hid (∀ r, bits .andNot .u16 (gL S : Int) (gN (reB S via (strN (fun a => r.contains a) 8)) : Int) = (gL (leftV via S r) : Int)) := hide (fun r => left_group (unhide HVR))
  have hS8 : S.length ≤ 8 := by rw [unhide HSC]; exact strN_len _ _
  clear hA hr0 hF
  go_enter Tryz.func49, Tryz.ntmps49
  go_wp2_with fail
  refine (unhide HRC _ (unhide HR) (unhide HL)).mono ?_
  rintro e w1 ⟨rfl, b1⟩
  have HB1 := hide b1
  have HR1 := hide ((unhide HR).below b1)
  have HL1 := hide ((unhide HL).below b1)
  clear b1
  go_wp2_with fail
  refine (unhide HGO _ (unhide HR1) (unhide HL1)).mono ?_
  rintro e w2 ⟨rfl, b2'⟩
  have HB2 := hide ((unhide HB1).trans (b2'.mono (unhide HB1).size))
  have HL2 := hide ((unhide HL1).below b2')
  clear b2'
  go_wp2_with (refine wpList_storeG _ _ rfl rfl rfl rfl (ga_new w2 0 (fun _ => 0) (fun _ => 0) 138).2 ?_; intro w5 ga5 hbb5 hsz5; have HG5 := hide ga5; have HB5 := hide (hbb5 _ _ ((unhide HB2).alloc (unhide HB2).size (.cells #[.int .u16 0, .int .u16 0, .int .u16 0, .int .u16 0, .int .u16 0, .int .u16 0, .int .u16 0, .int .u16 0, .int .u16 0, .int .u16 0, .int .u16 0, .int .u16 0, .int .u16 0, .int .u16 0, .int .u16 0, .int .u16 0, .int .u16 0, .int .u16 0, .int .u16 0] 138)) (unhide HB2).size); have HL5 := hide ((unhide HL2).below (hbb5 _ _ ((Below.refl w2.heap.size w2).alloc (Nat.le_refl _) (.cells #[.int .u16 0, .int .u16 0, .int .u16 0, .int .u16 0, .int .u16 0, .int .u16 0, .int .u16 0, .int .u16 0, .int .u16 0, .int .u16 0, .int .u16 0, .int .u16 0, .int .u16 0, .int .u16 0, .int .u16 0, .int .u16 0, .int .u16 0, .int .u16 0, .int .u16 0] 138)) (Nat.le_refl _))); clear ga5 hbb5 hsz5)
  obtain ⟨G, hG⟩ : ∃ G, w2.heap.size = G := ⟨_, rfl⟩
  rw [hG] at HG5 ⊢
  have hGw : w.heap.size ≤ G := by rw [← hG]; exact (unhide HB2).size
  clear hG
  -- the first relays
  refine wp_region_noPanic ?_
  refine wp_region_held_drew (S := fun w' => GA w' G (gL S) (vN S via) (rN S via)) (by kernel_rfl) ((unhide HG5).below ((Below.refl _ _).drew)) (fun hHeld => ?_)
  have B5 : Below w5.heap.size w5 w5.drew := (Below.refl _ _).drew
  refine Rg.t 0 27 ?_
  refine Rg.t 1 28 ?_
  refine Rg.t (v := GV (gL S) (vN S via) (rN S via)) 3 30 ?_ (hv := fun w0 hSw => run_execG _ rfl rfl hSw)
  (refine Rg.o 2 (fun K hK => ?_); go_simp)
  refine (unhide HAW _ ((unhide HL5).below B5)).mono ?_
  rintro e w6 ⟨rfl, b6⟩
  have B6 := B5.trans (b6.mono B5.size)
  clear b6 hHeld
  refine hK.out _ _ ((unhide HG5).below B6) (fun hHeld => ?_)
  clear hK K
  (try simp only [Act.put, List.setIfInBounds_toArray, List.set_cons_zero, List.set_cons_succ])
  (refine Rg.o 4 (fun K hK => ?_); go_simp)
  refine (onlyOnes _ _ S via _).mono ?_
  rintro e w7 ⟨rfl, b7⟩
  have B7 := B6.trans (b7.mono B6.size)
  clear b7 hHeld
  refine hK.out _ _ ((unhide HG5).below B7) (fun hHeld => ?_)
  clear hK K
  (try simp only [Act.put, List.setIfInBounds_toArray, List.set_cons_zero, List.set_cons_succ])
  (refine Rg.tk (i := 5) (d := 32) (v := .int .u16 (gL r0)) rfl rfl (by kernel_rfl) (by kernel_rfl) (by kernel_rfl) (fun _ _ _ h => h) (by rfl) ?_ (by assumption) ?_; (focus (intro w0 hSw; (try dsimp only at hSw); go_simp)); (try simp only [Act.put, List.setIfInBounds_toArray, List.set_cons_zero, List.set_cons_succ]))
  · rw [unhide HON]
  refine Rg.t 6 12 ?_
  refine wpAnyH_done (by kernel_rfl) (NoPanic.normal ?_) _
  clear hHeld B5 B6
  have HG7 := hide ((unhide HG5).below B7)
  have HB7 := hide ((unhide HB5).trans (B7.mono (unhide HB5).size))
  have HL7 := hide ((unhide HL5).below B7)
  clear B7 HG5 HB5 HL5
  go_wp2_with fail
  go_cut [13] (fun p wx => ∃ lb, p = .pointer (some ⟨lb, 0, none⟩) ∧ CL wx lb (gL (leftV via S r0)) ∧ Below w7.heap.size w7 wx ∧ w7.heap.size ≤ lb)
  case first =>
    have HRB := hide (fun W => reachedBy (gL S) (vN S via) S via (fun z => r0.contains z) W)
    have HLG0 := hide (unhide HLG r0)
    generalize hre : gN (reB S via (strN (fun z => r0.contains z) 8)) = Y at *
    generalize hle : gL (leftV via S r0) = X at *
    clear hre hle
    have B7 : Below w7.heap.size w7 w7.drew := (Below.refl _ _).drew
    refine wp_region_noPanic ?_
    refine wp_region_held_drew (S := fun w' => w'.cell? ⟨G, 0, none⟩ = some (.int .u16 (gL S)) ∧ GA w' G (gL S) (vN S via) (rN S via)) (by kernel_rfl) ⟨((unhide HG7).below B7).s, (unhide HG7).below B7⟩ (fun hHeld => ?_)
    refine Rg.t 0 33 ?_
    refine Rg.t 1 34 ?_
    refine Rg.t (v := GV (gL S) (vN S via) (rN S via)) 2 35 ?_ (hv := fun w0 hSw => run_execG _ rfl rfl hSw.2)
    refine Rg.t 3 36 ?_
    (refine wpAnyH_ready (rs := [4, 6]) (by kernel_rfl) (by simp) ?_; refine AllReadyH.cons (o := _) rfl (fun K hK => ?_) (AllReadyH.cons (o := _) rfl (fun K hK => ?_) AllReadyH.nil))
    · go_simp
      refine (unhide HRB _).mono ?_
      rintro e w8 ⟨rfl, b8⟩
      have B8 := B7.trans (b8.mono B7.size)
      clear b8 hHeld
      refine hK.out _ _ ⟨((unhide HG7).below B8).s, (unhide HG7).below B8⟩ (fun hHeld => ?_)
      clear hK K
      (try simp only [Act.put, List.setIfInBounds_toArray, List.set_cons_zero, List.set_cons_succ])
      (refine Rg.tk (i := 5) (d := 38) (v := .int .u16 X) rfl rfl (by kernel_rfl) (by kernel_rfl) (by kernel_rfl) (fun _ _ _ h => h) (by rfl) ?_ (by assumption) ?_; (focus (intro w0 hSw; (try dsimp only at hSw); go_simp)); (try simp only [Act.put, List.setIfInBounds_toArray, List.set_cons_zero, List.set_cons_succ]))
      · rw [unhide HLG0]
      (refine Rg.o 6 (fun K hK => ?_); go_simp)
      have B9 := B8.alloc B8.size (.cells #[.int .u16 0] 135)
      clear hHeld
      refine hK.out _ _ ⟨((unhide HG7).below B9).s, (unhide HG7).below B9⟩ (fun hHeld => ?_)
      clear hK K
      (try simp only [Act.put, List.setIfInBounds_toArray, List.set_cons_zero, List.set_cons_succ])
      (refine Rg.o 7 (fun K hK => ?_); go_simp)
      have B10 := B8.alloc B8.size (.cells #[.int .u16 X] 135)
      clear hHeld
      refine hK.out _ _ ⟨((unhide HG7).below B10).s, (unhide HG7).below B10⟩ (fun hHeld => ?_)
      clear hK K
      (try simp only [Act.put, List.setIfInBounds_toArray, List.set_cons_zero, List.set_cons_succ])
      refine wpAnyH_done (by kernel_rfl) (NoPanic.normal ?_) _
      clear hHeld
      go_wp2_with fail
      go_meet
      case rel => exact ⟨_, rfl, cl_new _ _ _, B10, B8.size⟩
    · go_simp
      have B8 := B7.alloc B7.size (.cells #[.int .u16 0] 135)
      have HC8 : Hid (CL (w7.drew.alloc (.cells #[.int .u16 0] 135)) w7.heap.size 0) := hide (cl_new w7.drew 0 135)
      clear hHeld
      refine hK.out _ _ ⟨((unhide HG7).below B8).s, (unhide HG7).below B8⟩ (fun hHeld => ?_)
      clear hK K
      (try simp only [Act.put, List.setIfInBounds_toArray, List.set_cons_zero, List.set_cons_succ])
      (refine Rg.o 4 (fun K hK => ?_); go_simp)
      refine (unhide HRB _).mono ?_
      rintro e w9 ⟨rfl, b9⟩
      have B9 := B8.trans (b9.mono B8.size)
      have HC9 := hide ((unhide HC8).below b9)
      clear b9 hHeld HC8
      refine hK.out _ _ ⟨((unhide HG7).below B9).s, (unhide HG7).below B9⟩ (fun hHeld => ?_)
      clear hK K
      (try simp only [Act.put, List.setIfInBounds_toArray, List.set_cons_zero, List.set_cons_succ])
      (refine Rg.tk (i := 5) (d := 38) (v := .int .u16 X) rfl rfl (by kernel_rfl) (by kernel_rfl) (by kernel_rfl) (fun _ _ _ h => h) (by rfl) ?_ (by assumption) ?_; (focus (intro w0 hSw; (try dsimp only at hSw); go_simp)); (try simp only [Act.put, List.setIfInBounds_toArray, List.set_cons_zero, List.set_cons_succ]))
      · rw [unhide HLG0]
      obtain ⟨cz, fz⟩ := unhide HC9
      (refine Rg.o 7 (fun K hK => ?_); go_simp)
      have B10 := B9.setCell (p := ⟨w7.heap.size, 0, none⟩) (Nat.le_refl _) (.int .u16 X)
      have HC10 := hide ((unhide HC9).set X)
      clear hHeld
      refine hK.out _ _ ⟨((unhide HG7).below B10).s, (unhide HG7).below B10⟩ (fun hHeld => ?_)
      clear hK K
      (try simp only [Act.put, List.setIfInBounds_toArray, List.set_cons_zero, List.set_cons_succ])
      refine wpAnyH_done (by kernel_rfl) (NoPanic.normal ?_) _
      clear hHeld cz fz
      go_wp2_with fail
      go_meet
      case rel => exact ⟨_, rfl, unhide HC10, B10, Nat.le_refl _⟩
  case rest =>
    obtain ⟨lb, rfl, hcl, hbb, hlo⟩ := hcut
    have HCL := hide hcl
    have HBB := hide hbb
    clear hcl hbb HLG HON HAW
    obtain ⟨Gd, hGd⟩ : ∃ Gd, grdV via S ls 8 r0 = Gd := ⟨_, rfl⟩
    have HGd := hide hGd
    clear hGd
    have HL8 : Hid ((leftV via S r0).length ≤ 8) := hide (Nat.le_trans (left_len _ _ _) hS8)
    go_wp2_with fail
    go_loopg [12] 8 (fun kx rl wr => ∃ (r : List Int) (f : Nat), rl = .int .u16 (gL r) ∧ Hid ((leftV via S r).length ≤ kx) ∧ Hid (CL wr lb (gL (leftV via S r))) ∧ Hid (Below w7.heap.size w7 wr) ∧ Hid (grdV via S ls f r = Gd) ∧ Hid ((leftV via S r).length ≤ f) ∧ Hid r.Nodup ∧ Hid (∀ a ∈ r, 1 ≤ a ∧ a ≤ 8))
    case atStart => exact ⟨r0, 8, rfl, HL8, HCL, HBB, HGd, HL8, HRN, HRR⟩
    case round =>
      obtain ⟨r, f, rfl, hkx, hcl, hbl, hgr, hlf, hnd, hrg⟩ := hrel
      have hLr : ∀ z ∈ leftV via S r, 1 ≤ z ∧ z ≤ 8 := fun z hz => unhide HSR z (left_sub hz)
      have HZI := hide (gL_zero hLr)
      by_cases hz : (leftV via S r).length = 0
      · have h0 : gL (leftV via S r) = 0 := (unhide HZI).2 hz
        rw [h0] at hcl
        have c0 := (unhide hcl).1
        have HGE : Hid (Gd = r) := hide (by rw [← unhide hgr]; exact grd_end hz)
        have HRES : Hid (strN (hasB (gL r)) 8 = sortV (grdV via S ls 8 r0)) := hide (by rw [unhide HGd, unhide HGE]; exact gL_list (unhide hnd) (unhide hrg))
        have hlt := gN_lt (fun z => r.contains z)
        clear hLr HZI
        go_wp2_with fail
        refine (addrs (gL r) _ (by unfold gL; omega)).mono ?_
        rintro e w9 ⟨v9, rfl, b9, hl9⟩
        rw [unhide HRES] at hl9
        have HB9 := hide ((unhide HB7).trans (((unhide hbl).trans (b9.mono (unhide hbl).size)).mono (unhide HB7).size))
        have HV9 := hide (hl9.mono (lo' := w.heap.size) (Nat.le_trans (unhide HB7).size (unhide hbl).size) (Nat.le_refl _))
        clear b9 hl9
        go_wp2_with fail
        go_ret2
        exact ⟨_, rfl, unhide HB9, unhide HV9⟩
      · have hne : ((gL (leftV via S r) : Int) != 0) = true := by
          have : ¬ gL (leftV via S r) = 0 := fun e => hz ((unhide HZI).1 e)
          simp; omega
        have hpos : 0 < (leftV via S r).length := by omega
        obtain ⟨bi, hbi⟩ := pick_some (via := via) (S := S) (L := leftV via S r) (ls := ls) (fun z hz => unhide HSV z (left_sub hz)) hpos
        have hb1 := pick_lt hbi
        have hn0 : 0 < ls.length := by omega
        have hmx : maxV (worth (gnV S via (leftV via S r)) (dgV S via)) ls (ls.length - 1) = ls.getD bi Lk.R.zero := by
          have e1 : gnV S via (leftV via S r) = fun a => (cntV via (leftV via S r) a : Int) := by
            funext a
            have := gain_count (cd := condS ms ls me now) (via := via) (r := r) (a := a)
            rw [← unhide HSC] at this
            rw [← this]; rfl
          have e2 : dgV S via = fun a => (cntV via S a : Int) := by
            funext a
            have := deg_count (cd := condS ms ls me now) (via := via) (a := a)
            rw [← unhide HSC] at this
            rw [← this]; rfl
          rw [e1, e2]
          have := pick_max (via := via) (S := S) (L := leftV via S r) (ls := ls) (f := worth (fun a => (cntV via (leftV via S r) a : Int)) (fun a => (cntV via S a : Int))) (fun i j hij hj => worth_bet (unhide HLU j i hij hj)) (ls.length - 1) (by omega)
          exact this.2 bi (by rw [show ls.length - 1 + 1 = ls.length by omega]; exact hbi)
        have HGS : Hid (∀ f', grdV via S ls (f' + 1) r = grdV via S ls f' (r ++ [(ls.getD bi Lk.R.zero).ad])) := hide (fun f' => grd_step hbi)
        have HLS : Hid ((leftV via S (r ++ [(ls.getD bi Lk.R.zero).ad])).length < (leftV via S r).length) := hide (left_less hb1.2)
        have hxr := unhide HLR bi hb1.1
        have HND : Hid (r ++ [(ls.getD bi Lk.R.zero).ad]).Nodup := hide (app_nodup (unhide hnd) (gain_new hb1.2))
        have HRG2 : Hid (∀ a ∈ r ++ [(ls.getD bi Lk.R.zero).ad], 1 ≤ a ∧ a ≤ 8) := hide (fun a ha => by
          rcases List.mem_append.1 ha with h | h
          · exact unhide hrg a h
          · rw [List.mem_singleton] at h; subst h; exact hxr)
        have HMF := hide (fun W h1 h2 h3 => maxFunc b ls capl G lb (gL S) (vN S via) S via (leftV via S r) W hn0 h8 (unhide HLR) h1 h2 h3)
        rw [hmx] at HMF
        clear hmx hbi hb1 HZI hLr hz
        generalize ls.getD bi Lk.R.zero = x at *
        obtain ⟨xa, xh, xs, xi, xo, xw⟩ := x
        have hxv : Lk.R.value ⟨xa, xh, xs, xi, xo, xw⟩ = .agg #[.int .i64 xa, .int .i64 xh, .int .i64 xs, .int .i64 xi, .int .i64 xo, .int .i64 xw] := rfl
        rw [hxv] at HMF
        clear hxv
        dsimp only at HGS HLS hxr HND HRG2
        obtain ⟨q, rfl⟩ : ∃ q : Nat, xa = (q : Int) := ⟨xa.toNat, by omega⟩
        have hq9 : q < 9 := by omega
        have q0 : (0 : Int) ≤ (q : Int) := by omega
        have q9 : (q : Int) < 9 := by omega
        clear hxr
        have HOR := hide (gL_app r (q : Int))
        have HAN2 : Hid (bits .andNot .u16 (gL (leftV via S r) : Int) (rN S via q : Int) = (gL (leftV via S (r ++ [(q : Int)])) : Int)) := hide less_group
        obtain ⟨f1, rfl⟩ : ∃ f1, f = f1 + 1 := ⟨f - 1, by have := unhide hlf; omega⟩
        have HGR2 : Hid (grdV via S ls f1 (r ++ [(q : Int)]) = Gd) := hide (by rw [← unhide HGS]; exact unhide hgr)
        have HLF2 : Hid ((leftV via S (r ++ [(q : Int)])).length ≤ f1) := hide (by have := unhide hlf; have := unhide HLS; omega)
        have hdec : (leftV via S (r ++ [(q : Int)])).length < gk := by have := unhide hkx; have := unhide HLS; omega
        clear HGS HLS hgr hlf hnd hrg hkx hpos
        have c0 := (unhide hcl).1
        have HLw := hide ((unhide HL7).below (unhide hbl))
        have HGw := hide ((unhide HG7).below (unhide hbl))
        have hgl := (unhide HG7).lt
        go_wp2_with fail
        refine (unhide HMF _ (unhide HLw) (unhide HGw) (unhide hcl).1).mono ?_
        rintro e w9 ⟨rfl, b9⟩
        have HCL9 := hide ((unhide hcl).below b9)
        have HB9 := hide ((unhide hbl).trans (b9.mono (unhide hbl).size))
        clear b9 c0
        have HBn := hide ((unhide HB9).alloc (unhide HB9).size (.cells #[.int .i64 (q : Int), .int .i64 xh, .int .i64 xs, .int .i64 xi, .int .i64 xo, .int .i64 xw] 129))
        have HX := hide (bf_new w9 ⟨(q : Int), xh, xs, xi, xo, xw⟩ 129)
        have HCLn := hide ((unhide HCL9).below ((Below.refl _ _).alloc (Nat.le_refl _) (.cells #[.int .i64 (q : Int), .int .i64 xh, .int .i64 xs, .int .i64 xi, .int .i64 xo, .int .i64 xw] 129)))
        go_wp2_with fail
        have HRq : Hid (In.RM ((w9.alloc (.cells #[.int .i64 (q : Int), .int .i64 xh, .int .i64 xs, .int .i64 xi, .int .i64 xo, .int .i64 xw] 129)).alloc (.cells #[.int .i64 (q : Int)] 3)) (some ⟨w9.heap.size + 1, 0, none⟩) [(q : Int)]) := hide (by
          have := In.rm_new (w9.alloc (.cells #[.int .i64 (q : Int), .int .i64 xh, .int .i64 xs, .int .i64 xi, .int .i64 xo, .int .i64 xw] 129)) (q : Int)
          rw [World.size_alloc] at this; exact this)
        have HB10 := hide ((unhide HBn).alloc (unhide HBn).size (.cells #[.int .i64 (q : Int)] 3))
        have HX10 := hide ((unhide HX).below ((Below.refl _ _).alloc (Nat.le_refl _) (.cells #[.int .i64 (q : Int)] 3)))
        have HC10 := hide ((unhide HCLn).below ((Below.refl _ _).alloc (Nat.le_refl _) (.cells #[.int .i64 (q : Int)] 3)))
        refine (groupOf _ [(q : Int)] _ _ (by simp) (unhide HRq)).mono ?_
        rintro e w11 ⟨rfl, hw11⟩
        generalize hW : (w9.alloc (.cells #[.int .i64 (q : Int), .int .i64 xh, .int .i64 xs, .int .i64 xi, .int .i64 xo, .int .i64 xw] 129)).alloc (.cells #[.int .i64 (q : Int)] 3) = w10 at *
        rw [hw11]
        clear hw11 hW HBn HX HCLn HCL9 HB9 HRq
        go_wp2_with fail
        rw [unhide HOR]
        have HG10 := hide ((unhide HG7).below (unhide HB10))
        have HS : Hid (∀ w', Below w10.heap.size w10 w' → w'.cell? ⟨w9.heap.size, 0, none⟩ = some (.int .i64 (q : Int)) ∧ w'.cell? ⟨G, 10 + q, none⟩ = some (.int .u16 (rN S via q))) := hide (fun w' hb => ⟨((unhide HX10).below hb).1.1, (((unhide HG10).below hb).r hq9).1⟩)
        have HSf : Hid (∀ y : Int, (w10.drew.setCell ⟨lb, 0, none⟩ (.int .u16 y)).cell? ⟨w9.heap.size, 0, none⟩ = some (.int .i64 (q : Int)) ∧ (w10.drew.setCell ⟨lb, 0, none⟩ (.int .u16 y)).cell? ⟨G, 10 + q, none⟩ = some (.int .u16 (rN S via q))) := hide (fun y => by
          have h1 := unhide HS _ ((Below.refl w10.heap.size w10).drew)
          refine ⟨?_, ?_⟩
          · rw [World.cell?_setCell_other _ _ _ _ (by
              intro e
              injection e with e1 _ _
              have h2 := (unhide HX10).1.1
              have h3 := (unhide HC10).1
              rw [e1] at h3
              rw [h3] at h2
              cases h2)]
            exact h1.1
          · rw [World.cell?_setCell_other _ _ _ _ (by intro e; injection e with e1 e2 _; omega)]; exact h1.2)
        obtain ⟨cz, fz⟩ := unhide HC10
        have HCf := hide ((unhide HC10).below ((Below.refl _ _).drew) |>.set (gL (leftV via S (r ++ [(q : Int)]))))
        have HBf := hide ((unhide HB10).drew.setCell (p := ⟨lb, 0, none⟩) hlo (.int .u16 (gL (leftV via S (r ++ [(q : Int)])))))
        refine wp_region_noPanic ?_
        refine wp_region_held_drew (S := fun w' => w'.cell? ⟨w9.heap.size, 0, none⟩ = some (.int .i64 (q : Int)) ∧ w'.cell? ⟨G, 10 + q, none⟩ = some (.int .u16 (rN S via q))) (by kernel_rfl) (unhide HS _ ((Below.refl _ _).drew)) (fun hHeld => ?_)
        refine Rg.t 1 52 ?_
        refine Rg.t 2 53 ?_
        refine Rg.t 3 54 ?_
        refine Rg.t 4 55 ?_
        refine Rg.t 5 56 ?_
        (refine Rg.o 0 (fun K hK => ?_); go_simp)
        clear hHeld
        refine hK.out _ _ (unhide HS _ ((Below.refl _ _).drew)) (fun hHeld => ?_)
        clear hK K
        (try simp only [Act.put, List.setIfInBounds_toArray, List.set_cons_zero, List.set_cons_succ])
        (refine Rg.tk (i := 6) (d := 57) (v := .int .u16 (gL (leftV via S (r ++ [(q : Int)])))) rfl rfl (by kernel_rfl) (by kernel_rfl) (by kernel_rfl) (fun _ _ _ h => h) (by rfl) ?_ (by assumption) ?_; (focus (intro w0 hSw; (try dsimp only at hSw); go_simp)); (try simp only [Act.put, List.setIfInBounds_toArray, List.set_cons_zero, List.set_cons_succ]))
        · rw [unhide HAN2]
        (refine Rg.o 7 (fun K hK => ?_); go_simp)
        clear hHeld
        refine hK.out _ _ (unhide HSf _) (fun hHeld => ?_)
        clear hK K
        (try simp only [Act.put, List.setIfInBounds_toArray, List.set_cons_zero, List.set_cons_succ])
        refine wpAnyH_done (by kernel_rfl) (NoPanic.normal ?_) _
        clear hHeld cz fz HS HSf
        go_wp2_with fail
        go_roundg ((leftV via S (r ++ [(q : Int)])).length)
        case measure => exact hdec
        case rel => exact ⟨r ++ [(q : Int)], f1, rfl, hide (Nat.le_refl _), HCf, HBf, HGR2, HLF2, HND, HRG2⟩
end Gp
end Go.Proofs.YtpknmiccgbjoiabGreat
namespace Go.Proofs.YtpknmiccgbjoiabGreat
set_option linter.unusedVariables false
set_option linter.unusedSimpArgs false
namespace Gp
open W1 Tu St Tw Mr
end Gp
end Go.Proofs.YtpknmiccgbjoiabGreat
namespace Go.Proofs.YtpknmiccgbjoiabGreat
set_option linter.unusedVariables false
set_option linter.unusedSimpArgs false
namespace Cv
open W1 Mr
theorem grd_left {via : Int → List Int} {S : List Int} {ls : List Lk.R} (hv : ∀ z ∈ S, ∃ i, i < ls.length ∧ (via z).contains (ls.getD i Lk.R.zero).ad = true) : ∀ (f : Nat) (r : List Int), (leftV via S r).length ≤ f → (leftV via S (grdV via S ls f r)).length = 0
  | 0, r, h => by have : grdV via S ls 0 r = r := rfl; rw [this]; omega
  | f + 1, r, h => by
    by_cases h0 : (leftV via S r).length = 0
    · rw [grd_end h0]; exact h0
    · obtain ⟨b, hb⟩ := pick_some (via := via) (S := S) (L := leftV via S r) (ls := ls) (fun z hz => hv z (Gp.left_sub hz)) (by omega)
      rw [grd_step hb]
      have := left_less (pick_lt hb).2
      exact grd_left hv f _ (by omega)
theorem grd_mem {via : Int → List Int} {S : List Int} {ls : List Lk.R} {a : Int} : ∀ (f : Nat) (r : List Int), a ∈ grdV via S ls f r → a ∈ r ∨ ∃ z, a ∈ via z
  | 0, r, h => .inl h
  | f + 1, r, h => by
    cases hp : pickV via S (leftV via S r) ls ls.length with
    | none =>
      have : grdV via S ls (f + 1) r = r := by unfold grdV; rw [hp]
      rw [this] at h; exact .inl h
    | some b =>
      rw [grd_step hp] at h
      rcases grd_mem f _ h with h | h
      · rcases List.mem_append.1 h with h | h
        · exact .inl h
        · rw [List.mem_singleton] at h
          have hg := (pick_lt hp).2
          unfold cntV at hg
          obtain ⟨z, hz⟩ := List.exists_mem_of_length_pos hg
          rw [List.mem_filter] at hz
          exact .inr ⟨z, by rw [h]; exact List.contains_iff_mem.1 hz.2⟩
      · exact .inr h
theorem grd_sub {via : Int → List Int} {S : List Int} {ls : List Lk.R} {a : Int} : ∀ (f : Nat) (r : List Int), a ∈ r → a ∈ grdV via S ls f r
  | 0, r, h => h
  | f + 1, r, h => by
    cases hp : pickV via S (leftV via S r) ls ls.length with
    | none =>
      have : grdV via S ls (f + 1) r = r := by unfold grdV; rw [hp]
      rw [this]; exact h
    | some b => rw [grd_step hp]; exact grd_sub f _ (by simp [h])
theorem grd_nodup {via : Int → List Int} {S : List Int} {ls : List Lk.R} : ∀ (f : Nat) (r : List Int), r.Nodup → (grdV via S ls f r).Nodup
  | 0, r, h => h
  | f + 1, r, h => by
    cases hp : pickV via S (leftV via S r) ls ls.length with
    | none =>
      have : grdV via S ls (f + 1) r = r := by unfold grdV; rw [hp]
      rw [this]; exact h
    | some b => rw [grd_step hp]; exact grd_nodup f _ (Gp.app_nodup h (Gp.gain_new (pick_lt hp).2))
theorem left_same {via : Int → List Int} {S L M : List Int} (h : ∀ a, a ∈ L ↔ a ∈ M) : leftV via S L = leftV via S M := by
  unfold leftV
  apply List.filter_congr
  intro z _
  have : hitV via L z = hitV via M z := by
    unfold hitV
    rw [Bool.eq_iff_iff, List.any_eq_true, List.any_eq_true]
    exact ⟨fun ⟨a, h1, h2⟩ => ⟨a, (h a).1 h1, h2⟩, fun ⟨a, h1, h2⟩ => ⟨a, (h a).2 h1, h2⟩⟩
  rw [this]
theorem ln_own {ms : List Lk.R} (h : Ln.linksB ms = true) {i : Nat} (hi : i < ms.length) : ms.find? (Ln.isAd (ms.getD i Lk.R.zero).ad) = some (ms.getD i Lk.R.zero) :=
  Ri.find_at (z := Lk.R.zero) _ ms i hi (fun j hj => by have := Ri.rises h i j hj hi; unfold Ln.isAd; rw [beq_eq_false_iff_ne]; omega) (by unfold Ln.isAd; simp)
/-- A relay: a link of ours, willing and symmetric. -/
def good (ls : List Lk.R) (now a : Int) : Prop := ∃ m, ls.find? (Ln.isAd a) = some m ∧ 0 < m.wl ∧ Ln.statusV m now = 2
theorem good_of {ls : List Lk.R} (hok : Ln.linksB ls = true) {now a : Int} {m : Lk.R} (hm : m ∈ ls) (ha : m.ad = a) (h1 : 0 < m.wl) (h2 : Ln.statusV m now = 2) : good ls now a := by
  obtain ⟨i, hi, rfl⟩ := List.getElem_of_mem hm
  have e : ls.getD i Lk.R.zero = ls[i] := by rw [List.getD_eq_getElem?_getD, List.getElem?_eq_getElem hi]; rfl
  have := ln_own hok hi
  rw [e] at this
  exact ⟨_, by rw [← ha]; exact this, h1, h2⟩
theorem via_good {ms : List Tu.R} {ls : List Lk.R} (hok : Ln.linksB ls = true) {now z a : Int} (h : a ∈ viaF ms ls now z) : good ls now a := by
  unfold viaF Tw.viaL at h
  rw [List.take_length, List.mem_map] at h
  obtain ⟨m, hm, rfl⟩ := h
  rw [List.mem_filter] at hm
  have hv := hm.2
  unfold Tw.viaOk at hv
  rw [Bool.and_eq_true, Bool.and_eq_true] at hv
  exact good_of hok hm.1 rfl (of_decide_eq_true hv.2.1) (eq_of_beq hv.1)
theorem alw_good {ls : List Lk.R} (hok : Ln.linksB ls = true) {now a : Int} (h : a ∈ alwV ls now ls.length) : good ls now a := by
  unfold alwV at h
  rw [List.take_length, List.mem_map] at h
  obtain ⟨m, hm, rfl⟩ := h
  rw [List.mem_filter] at hm
  have hv := hm.2
  unfold alwB at hv
  rw [Bool.and_eq_true] at hv
  have := eq_of_beq hv.2
  exact good_of hok hm.1 rfl (by omega) (eq_of_beq hv.1)
/-- The relays for floods: rising, of ours, all that are always willing among them, and they reach all. -/
theorem flood_ok {ms : List Tu.R} {ls : List Lk.R} {me now : Int} (hc : Tw.codeTL ms ls = 0) :
    (fldA ms ls me now).length ≤ 8 ∧ UpI (fldA ms ls me now) ∧ (∀ a ∈ fldA ms ls me now, good ls now a) ∧ (∀ m ∈ ls, m.wl = 7 → Ln.statusV m now = 2 → m.ad ∈ fldA ms ls me now) ∧ covA ms ls me now (fldA ms ls me now) = true ∧ codeM ms ls (fldA ms ls me now) = 0 := by
  have hok := (Tw.codeTL_ok hc).2
  have e0 : fldA ms ls me now = fldV (viaF ms ls now) (strF ms ls me now) ls now := by unfold fldA; rw [if_pos hc]
  have hvr : ∀ z, ∀ a ∈ viaF ms ls now z, 1 ≤ a ∧ a ≤ 8 := fun z => Gp.via_rng hok
  have hsv : ∀ z ∈ strF ms ls me now, ∃ i, i < ls.length ∧ (viaF ms ls now z).contains (ls.getD i Lk.R.zero).ad = true := fun z hz => via_link (str_via z hz)
  obtain ⟨r0, hr0⟩ : ∃ r0, onesV (viaF ms ls now) (strF ms ls me now) (alwV ls now ls.length) = r0 := ⟨_, rfl⟩
  obtain ⟨G, hG⟩ : ∃ G, grdV (viaF ms ls now) (strF ms ls me now) ls 8 r0 = G := ⟨_, rfl⟩
  have e1 : fldA ms ls me now = sortV G := by rw [e0]; unfold fldV; rw [hr0, hG]
  have hn0 : r0.Nodup := by rw [← hr0]; exact Gp.ones_nodup (Gp.alw_nodup hok)
  have hn : G.Nodup := by rw [← hG]; exact grd_nodup 8 _ hn0
  have hgood : ∀ a ∈ G, good ls now a := fun a ha => by
    rw [← hG] at ha
    rcases grd_mem 8 _ ha with h | ⟨z, h⟩
    · rw [← hr0, Gp.ones_mem] at h
      rcases h with h | ⟨z, _, hl, rfl⟩
      · exact alw_good hok h
      · exact via_good hok (z := z) (ms := ms) (getD_mem (by omega))
    · exact via_good hok h
  have hrg : ∀ a ∈ G, 1 ≤ a ∧ a ≤ 8 := fun a ha => by
    obtain ⟨m, hf, _⟩ := hgood a ha
    have h1 := List.find?_some hf
    have h2 := List.mem_of_find?_eq_some hf
    obtain ⟨i, hi, rfl⟩ := List.getElem_of_mem h2
    have h3 := Ln.ok_ad (Ri.all_ok hok hi)
    rw [List.getD_eq_getElem?_getD, List.getElem?_eq_getElem hi] at h3
    have h4 : (ls[i]).ad = a := by simpa [Ln.isAd] using h1
    simp only [Option.getD_some] at h3
    omega
  have hs := sort_str hn hrg
  have hup := sort_up G hn G.length (Nat.le_refl _)
  rw [List.take_length] at hup
  have hlen : (sortV G).length ≤ 8 := by rw [hs]; exact Tw.strN_len _ _
  have hcm : codeM ms ls (sortV G) = 0 := by unfold codeM; rw [if_neg (by omega), if_pos hc, if_neg (by omega)]
  rw [e1]
  refine ⟨hlen, hup.1, fun a ha => hgood a ((hup.2 a).1 ha), fun m hm h1 h2 => ?_, ?_, hcm⟩
  · rw [hup.2, ← hG]
    refine grd_sub 8 _ ?_
    rw [← hr0, Gp.ones_mem]
    refine .inl ?_
    unfold alwV
    rw [List.take_length]
    exact List.mem_map.2 ⟨m, List.mem_filter.2 ⟨hm, by unfold alwB; rw [h1, h2]; rfl⟩, rfl⟩
  · unfold covA
    rw [decide_eq_true hcm, left_same (fun a => hup.2 a), ← hG, grd_left hsv 8 r0 (Nat.le_trans (left_len _ _ _) (str_len _ _ _ _))]
    rfl
end Cv
end Go.Proofs.YtpknmiccgbjoiabGreat
namespace Go.Proofs.YtpknmiccgbjoiabGreat
open Go.ChangeShapes Go.WideShapes Go.ChangeAt Go.RowKit
set_option linter.unusedVariables false
set_option linter.unusedSimpArgs false
attribute [local go_sem ↓] Go.wp_at_zero Go.wp_at_succ
namespace Gp
open W1 Tu St Tw Mr Mt
/-- Relays without which the others cover, among the first j places. -/
def rest (rs : List Int) (i : Nat) : List Int := rs.take i ++ rs.drop (i + 1)
end Gp
end Go.Proofs.YtpknmiccgbjoiabGreat
namespace Go.Proofs.YtpknmiccgbjoiabGreat
open Go.ChangeShapes Go.WideShapes Go.ChangeAt Go.RowKit
set_option linter.unusedVariables false
set_option linter.unusedSimpArgs false
attribute [local go_sem ↓] Go.wp_at_zero Go.wp_at_succ
namespace Gp
open W1 Tu St Tw Mr
end Gp
end Go.Proofs.YtpknmiccgbjoiabGreat
namespace Go.Proofs.YtpknmiccgbjoiabGreat
open Go.ChangeShapes Go.WideShapes Go.ChangeAt Go.RowKit
set_option linter.unusedVariables false
set_option linter.unusedSimpArgs false
set_option maxRecDepth 100000
attribute [local go_sem ↓] Go.wp_at_zero Go.wp_at_succ
namespace Nt
open W1 Rt
theorem rtr_all {x1 x2 x3 x4 x5 x6 : Int} {ls : List Lk.R} {tw : List Tu.R} {se : List Tu.R} {du : List Tu.R} {ss : List So.R} {es : List Tu.R} {la : List Ed.R} (h : rtrB x1 x2 x3 x4 x5 x6 ls tw se du ss es la = true) : inB x1 1 8 = true ∧ inB x2 0 7 = true ∧ inB x3 0 65535 = true ∧ inB x4 0 65535 = true ∧ inB x5 0 100000 = true ∧ inB x6 0 1000000 = true ∧ lksB x1 ls = true ∧ twoOf x1 tw = true ∧ St.setB se = true ∧ St.setB du = true ∧ Tp.topB ss es = true ∧ Tp.hasS ss x1 = false ∧ Av.allN la la.length = true := by
  unfold rtrB at h
  simp only [Bool.and_eq_true, Bool.not_eq_true'] at h
  obtain ⟨h1, h2, h3, h4, h5, h6, h7, h8, h9, h10, h11, h12, h13⟩ := h
  exact ⟨h1, h2, h3, h4, h5, h6, h7, h8, h9, h10, h11, h12, h13⟩
theorem rtr_lens {x1 x2 x3 x4 x5 x6 : Int} {ls : List Lk.R} {tw : List Tu.R} {se : List Tu.R} {du : List Tu.R} {ss : List So.R} {es : List Tu.R} {la : List Ed.R} (h : rtrB x1 x2 x3 x4 x5 x6 ls tw se du ss es la = true) : ls.length ≤ 8 ∧ tw.length ≤ 64 ∧ se.length ≤ 64 ∧ du.length ≤ 64 ∧ ss.length ≤ 64 ∧ es.length ≤ 64 ∧ la.length ≤ 8 := by
  obtain ⟨h1, h2, h3, h4, h5, h6, h7, h8, h9, h10, h11, h12, h13⟩ := rtr_all h
  unfold lksB at h7
  unfold twoOf at h8
  unfold Tp.topB at h11
  simp only [Bool.and_eq_true] at h7 h8 h11
  have := Tw.two_len h8.1
  have := Tw.two_len h11.2.1
  exact ⟨Ln.links_len h7.1, by omega, St.setB_len h9, St.setB_len h10, Nat.le_trans (Tp.src_len h11.1) (by omega), by omega, Av.all_len h13⟩
theorem rtr_codeTL {x1 x2 x3 x4 x5 x6 : Int} {ls : List Lk.R} {tw : List Tu.R} {se : List Tu.R} {du : List Tu.R} {ss : List So.R} {es : List Tu.R} {la : List Ed.R} (h : rtrB x1 x2 x3 x4 x5 x6 ls tw se du ss es la = true) : Ln.linksB ls = true ∧ Tw.codeTL tw ls = 0 := by
  obtain ⟨h1, h2, h3, h4, h5, h6, h7, h8, h9, h10, h11, h12, h13⟩ := rtr_all h
  have hl := rtr_lens h
  unfold lksB at h7
  unfold twoOf at h8
  simp only [Bool.and_eq_true] at h7 h8
  exact ⟨h7.1, Tw.codeTL_zero (by omega) (by omega) (by rw [h8.1, h7.1]; rfl)⟩
theorem netB_rt {ms : List Rm} {cs : List Int} {fs : List Fm.R} {t : Int} (h : netB ms cs fs t = true) : ∀ i, i < ms.length → Tw.codeTL (ms.getD i Rm.zero).tw (ms.getD i Rm.zero).ls = 0 := by
  intro i hi
  unfold netB rtsB at h
  simp only [Bool.and_eq_true] at h
  have h1 := allI_at h.2.2.1 hi
  unfold rok okM at h1
  simp only [Bool.and_eq_true] at h1
  exact (rtr_codeTL h1.1).2
theorem sRA {w : World} {b : Nat} {m : Rm} {p : Pl} {y1 y5 : Int} (h : RA w b (cl m p)) (e1 : m.x1 = y1) (e5 : m.x5 = y5) : RA w b (cl m p) ∧ w.cell? ⟨b, 0, none⟩ = some (.int .i64 y1) ∧ w.cell? ⟨b, 4, none⟩ = some (.int .i64 y5) ∧ w.cell? ⟨b, 5, none⟩ = some (.slice p.a1 m.ls.length p.c1) ∧ w.cell? ⟨b, 6, none⟩ = some (.slice p.a2 m.tw.length p.c2) :=
  ⟨h, h.at (i := 0) (by rw [← e1]; rfl), h.at (i := 4) (by rw [← e5]; rfl), h.at (i := 5) rfl, h.at (i := 6) rfl⟩
set_option maxHeartbeats 16000000 in
theorem implAC (a b d : Option Addr) (ca cb cd : Nat) (t : Int) (ms : List Rm) (ps : List Pl) (cs : List Int) (fs : List Fm.R) (w : World) (hm : ms.length ≤ 1048576) (hc : cs.length ≤ 1048576) (hf : fs.length ≤ 1048576) (hs : ∀ i, i < ms.length → Sm (ms.getD i Rm.zero)) (hg : ∀ i, i < fs.length → (fs.getD i Fm.R.zero).bs.size ≤ maxLen) (hr : NR w a ms ps) (hi : In.RM w b cs) (hz : Fm.RM w d fs) :
    Calls Tryz.prog 20 #[.agg #[.slice a ms.length ca, .slice b cs.length cb, .slice d fs.length cd, .int .i64 t]] w fun e w' => e = .returned (.tuple #[.bool (netB ms cs fs t), .int .i64 (if netB ms cs fs t = true then 0 else 1)]) ∧ Below w.heap.size w w' := by
  have HX0 := hide (nb_new w (.slice a ms.length ca) (.slice b cs.length cb) (.slice d fs.length cd) t 33)
  have b0 := bel_new w (.cells #[.slice a ms.length ca, .slice b cs.length cb, .slice d fs.length cd, .int .i64 t] 33)
  have HB0 := hide b0
  have HR0 := hide (hr.below b0)
  have KN := hide (implNet a b d ca cb cd t ms ps cs fs _ hm hc hf hs hg (hr.below b0) (hi.below b0) (hz.below b0))
  have HRT := hide (fun h => netB_rt (ms := ms) (cs := cs) (fs := fs) (t := t) h)
  have HN6 := hide (fun h => netB_n (ms := ms) (cs := cs) (fs := fs) (t := t) h)
  have HS := hide hs
  clear b0 hr hi hz hs hg
  generalize netB ms cs fs t = ok at *
  obtain ⟨n, hN⟩ : ∃ n, ms.length = n := ⟨_, rfl⟩
  rw [hN] at hm HX0 HB0 HR0 KN ⊢
  have HN := hide hN
  clear hN
  go_enter Tryz.func20, Tryz.ntmps20
  go_wp2_with fail
  generalize w.alloc (.cells #[.slice a n ca, .slice b cs.length cb, .slice d fs.length cd, .int .i64 t] 33) = w0 at *
  refine (unhide KN).mono ?_
  rintro e w1 ⟨rfl, b1⟩
  have HX1 := hide ((unhide HX0).below b1)
  have HR1 := hide ((unhide HR0).below b1)
  have HB1 := hide ((unhide HB0).trans (b1.mono (unhide HB0).size))
  clear HX0 HR0 HB0 KN b1
  cases ok
  · go_wp2_with fail
    go_ret2
    exact ⟨rfl, unhide HB1⟩
  have HOK := hide (unhide HRT rfl)
  have hn6 : n ≤ 6 := by have := (unhide HN6 rfl).2.1; have e := unhide HN; omega
  clear HRT HN6
  obtain ⟨p0, p1, p2, p3⟩ := unhide HX1
  go_wp2_with fail
  clear p0 p1 p2 p3
  go_loopw [16] (fun i wr => ∃ j : Nat, j ≤ n ∧ i = .int .i64 j ∧ Hid (Below w.heap.size w wr) ∧ Hid (NR wr a ms ps)) (fun i _ => n - (intOf i).toNat)
  case atStart => exact ⟨0, by omega, rfl, HB1, HR1⟩
  case round =>
    clear HX1 HR1 HB1
    obtain ⟨j, hj, rfl, hbl, hnr⟩ := hrel
    by_cases hlt : (j : Int) < (n : Int)
    · have k0 : (0 : Int) ≤ (j : Int) := by omega
      have hlen : j < ms.length := by rw [unhide HN]; omega
      obtain ⟨g, off, rfl, hA, hD⟩ := (unhide hnr).at hlen
      have HA := hide hA
      have HD := hide hD
      have HM := hide ((unhide HS) j hlen)
      have hcl := (unhide HOK) j hlen
      clear hA hD
      generalize hmj : ms.getD j Rm.zero = m at HA HD HM hcl
      clear hmj hlen
      generalize hpj : ps.getD j Pl.zero = p at HA HD
      clear hpj
      obtain ⟨y1, hy1⟩ : ∃ y, m.x1 = y := ⟨_, rfl⟩
      obtain ⟨y5, hy5⟩ : ∃ y, m.x5 = y := ⟨_, rfl⟩
      have HY1 := hide hy1
      have HY5 := hide hy5
      have hsz := (unhide hbl).size
      obtain ⟨fl1, _, _, _, fl2, _⟩ := Cv.flood_ok (ms := m.tw) (ls := m.ls) (me := y1) (now := y5) hcl
      have HCV := hide fl2
      have hfl : (Mr.fldA m.tw m.ls y1 y5).length ≤ 1048576 := by omega
      clear fl1 fl2 hcl hy1 hy5
      go_upto_region 6 with (first | (refine loadI _ rfl rfl (unhide HA) rfl ?_) | (refine wpList_storeR _ _ rfl rfl (cl m p) (cl_ones m p) rfl rfl (ra_new wr (rC 0 0 0 0 0 (.slice none 0 0) (.slice none 0 0) (.slice none 0 0) (.slice none 0 0) (.slice none 0 0) (.slice none 0 0) (.slice none 0 0) 0) rfl 60).2.1 ?_; intro w1 ra bb hs1))
      have HB2 := hide (bb _ _ ((unhide hbl).alloc hsz _) hsz)
      have b2_ : Below wr.heap.size wr w1 := bb _ _ ((Below.refl _ _).alloc (Nat.le_refl _) _) (Nat.le_refl _)
      have HD2 := hide ((unhide HD).below b2_)
      have HN2 := hide ((unhide hnr).below b2_)
      have HRA := hide ra
      clear ra bb hs1 HA HD b2_ hbl hnr hsz
      have e0 := (unhide HRA).at (i := 0) (v := .int .i64 y1) (by rw [← unhide HY1]; rfl)
      have e4 := (unhide HRA).at (i := 4) (v := .int .i64 y5) (by rw [← unhide HY5]; rfl)
      have e5 := (unhide HRA).at (i := 5) (v := .slice p.a1 m.ls.length p.c1) rfl
      have e6 := (unhide HRA).at (i := 6) (v := .slice p.a2 m.tw.length p.c2) rfl
      go_wp2_with fail
      clear e0 e4 e5 e6
      refine (Gp.implFlood p.a2 m.tw p.c2 p.a1 m.ls p.c1 y1 y5 _ (unhide HM).2.1 (unhide HM).1 (unhide HD2).2.1 (unhide HD2).1).mono ?_
      rintro e w3 ⟨v, rfl, b3, lv⟩
      obtain ⟨av, cv, rfl, lst⟩ := lv
      have HRA3 := hide ((unhide HRA).below b3)
      have HD3 := hide ((unhide HD2).below b3)
      have HN3 := hide ((unhide HN2).below b3)
      have HB3 := hide ((unhide HB2).trans (b3.mono (unhide HB2).size))
      have HL3 := hide lst.rm
      clear HRA HD2 HN2 HB2 b3 lst
      generalize hFL : Mr.fldA m.tw m.ls y1 y5 = FL at *
      clear hFL
      have e0 := (unhide HRA3).at (i := 0) (v := .int .i64 y1) (by rw [← unhide HY1]; rfl)
      have e4 := (unhide HRA3).at (i := 4) (v := .int .i64 y5) (by rw [← unhide HY5]; rfl)
      have e5 := (unhide HRA3).at (i := 5) (v := .slice p.a1 m.ls.length p.c1) rfl
      have e6 := (unhide HRA3).at (i := 6) (v := .slice p.a2 m.tw.length p.c2) rfl
      go_wp2_with fail
      clear e0 e4 e5 e6
      refine (Gp.implCovers p.a2 m.tw p.c2 p.a1 m.ls p.c1 y1 y5 av FL cv _ (unhide HM).2.1 (unhide HM).1 hfl (unhide HD3).2.1 (unhide HD3).1 (unhide HL3)).mono ?_
      rintro e w4 ⟨rfl, b4⟩
      rw [unhide HCV]
      have HN4 := hide ((unhide HN3).below b4)
      have HB4 := hide ((unhide HB3).trans (b4.mono (unhide HB3).size))
      clear HRA3 HD3 HN3 HB3 HL3 b4
      go_wp2_with fail
      go_roundw
      case rel => exact ⟨j + 1, by omega, by go_num, HB4, HN4⟩
      case measure => simp [intOf]; omega
    · obtain rfl : j = n := by omega
      go_wp2_with fail
      go_ret2
      exact ⟨rfl, unhide hbl⟩
set_option maxHeartbeats 16000000 in
theorem specAC (a b d : Option Addr) (ca cb cd : Nat) (t : Int) (ms : List Rm) (ps : List Pl) (cs : List Int) (fs : List Fm.R) (w : World) (hm : ms.length ≤ 1048576) (hc : cs.length ≤ 1048576) (hf : fs.length ≤ 1048576) (hs : ∀ i, i < ms.length → Sm (ms.getD i Rm.zero)) (hg : ∀ i, i < fs.length → (fs.getD i Fm.R.zero).bs.size ≤ maxLen) (hr : NR w a ms ps) (hi : In.RM w b cs) (hz : Fm.RM w d fs) (had : ∀ i, i < ms.length → Ad (ps.getD i Pl.zero)) :
    Calls Tryz.prog 19 #[.agg #[.slice a ms.length ca, .slice b cs.length cb, .slice d fs.length cd, .int .i64 t]] w fun e w' => e = .returned (.tuple #[.bool (netB ms cs fs t), .int .i64 (if netB ms cs fs t = true then 0 else 1)]) ∧ Below w.heap.size w w' := by
  have HAD := hide had
  clear had
  have HX0 := hide (nb_new w (.slice a ms.length ca) (.slice b cs.length cb) (.slice d fs.length cd) t 33)
  have b0 := bel_new w (.cells #[.slice a ms.length ca, .slice b cs.length cb, .slice d fs.length cd, .int .i64 t] 33)
  have HB0 := hide b0
  have HR0 := hide (hr.below b0)
  have KN := hide (specNet a b d ca cb cd t ms ps cs fs _ hm hc hf hs hg (hr.below b0) (hi.below b0) (hz.below b0))
  have HRT := hide (fun h => netB_rt (ms := ms) (cs := cs) (fs := fs) (t := t) h)
  have HN6 := hide (fun h => netB_n (ms := ms) (cs := cs) (fs := fs) (t := t) h)
  have HS := hide hs
  clear b0 hr hi hz hs hg
  generalize netB ms cs fs t = ok at *
  obtain ⟨n, hN⟩ : ∃ n, ms.length = n := ⟨_, rfl⟩
  rw [hN] at hm HX0 HB0 HR0 KN ⊢
  have HN := hide hN
  clear hN
  go_enter Tryz.func19, Tryz.ntmps19
  go_wp2_with fail
  generalize w.alloc (.cells #[.slice a n ca, .slice b cs.length cb, .slice d fs.length cd, .int .i64 t] 33) = w0 at *
  refine (unhide KN).mono ?_
  rintro e w1 ⟨rfl, b1⟩
  have HX1 := hide ((unhide HX0).below b1)
  have HR1 := hide ((unhide HR0).below b1)
  have HB1 := hide ((unhide HB0).trans (b1.mono (unhide HB0).size))
  clear HX0 HR0 HB0 KN b1
  cases ok
  · go_wp2_with fail
    go_ret2
    exact ⟨rfl, unhide HB1⟩
  have HOK := hide (unhide HRT rfl)
  have hn6 : n ≤ 6 := by have := (unhide HN6 rfl).2.1; have e := unhide HN; omega
  clear HRT HN6
  obtain ⟨p0, p1, p2, p3⟩ := unhide HX1
  go_wp2_with fail
  clear p0 p1 p2 p3
  go_loopw [4] (fun i wr => ∃ j : Nat, j ≤ n ∧ i = .int .i64 j ∧ Hid (Below w.heap.size w wr) ∧ Hid (NR wr a ms ps) ∧ Hid (NB wr w.heap.size (.slice a n ca) (.slice b cs.length cb) (.slice d fs.length cd) t)) (fun i _ => n - (intOf i).toNat)
  case atStart => exact ⟨0, by omega, rfl, HB1, HR1, HX1⟩
  case round =>
    clear HX1 HR1 HB1
    obtain ⟨j, hj, rfl, hbl, hnr, hnb⟩ := hrel
    obtain ⟨p0, p1, p2, p3⟩ := unhide hnb
    by_cases hlt : (j : Int) < (n : Int)
    · have k0 : (0 : Int) ≤ (j : Int) := by omega
      have hlen : j < ms.length := by rw [unhide HN]; omega
      obtain ⟨g, off, rfl, hA, hD⟩ := (unhide hnr).at hlen
      have HA := hide hA
      have HD := hide hD
      have HM := hide ((unhide HS) j hlen)
      have hcl := (unhide HOK) j hlen
      clear hA hD
      have hadj := (unhide HAD) j hlen
      generalize hmj : ms.getD j Rm.zero = m at HA HD HM hcl
      clear hmj hlen
      generalize hpj : ps.getD j Pl.zero = p at HA HD hadj
      clear hpj
      obtain ⟨_, ⟨g2, hg2⟩, _⟩ := hadj
      have HG2 := hide hg2
      obtain ⟨y1, hy1⟩ : ∃ y, m.x1 = y := ⟨_, rfl⟩
      obtain ⟨y5, hy5⟩ : ∃ y, m.x5 = y := ⟨_, rfl⟩
      have HY1 := hide hy1
      have HY5 := hide hy5
      have hsz := (unhide hbl).size
      have HTL := hide (Tw.codeTL_ok hcl)
      obtain ⟨fl1, _, _, _, fl2, _⟩ := Cv.flood_ok (ms := m.tw) (ls := m.ls) (me := y1) (now := y5) hcl
      have hfe : Mr.fldA m.tw m.ls y1 y5 = Mr.fldV (Mr.viaF m.tw m.ls y5) (Mr.strF m.tw m.ls y1 y5) m.ls y5 := by unfold Mr.fldA; rw [if_pos hcl]
      rw [hfe] at fl1 fl2
      have HLV : Hid (Mr.leftV (Mr.viaF m.tw m.ls y5) (Mr.strF m.tw m.ls y1 y5) (Mr.fldV (Mr.viaF m.tw m.ls y5) (Mr.strF m.tw m.ls y1 y5) m.ls y5) = []) := hide (by unfold Mr.covA at fl2; simp only [Bool.and_eq_true, beq_iff_eq] at fl2; exact List.eq_nil_of_length_eq_zero fl2.2)
      have HFL := hide (show (Mr.fldV (Mr.viaF m.tw m.ls y5) (Mr.strF m.tw m.ls y1 y5) m.ls y5).length ≤ 64 by omega)
      clear fl1 fl2 hcl hy1 hy5 hfe hg2
      go_upto_region 7 with (first | (refine loadI _ rfl rfl (unhide HA) rfl ?_) | (refine wpList_storeR _ _ rfl rfl (cl m p) (cl_ones m p) rfl rfl (ra_new wr (rC 0 0 0 0 0 (.slice none 0 0) (.slice none 0 0) (.slice none 0 0) (.slice none 0 0) (.slice none 0 0) (.slice none 0 0) (.slice none 0 0) 0) rfl 60).2.1 ?_; intro w1 ra bb hs1))
      clear p0 p1 p2 p3
      have HB2 := hide (bb _ _ ((unhide hbl).alloc hsz _) hsz)
      have b2_ : Below wr.heap.size wr w1 := bb _ _ ((Below.refl _ _).alloc (Nat.le_refl _) _) (Nat.le_refl _)
      have HD2 := hide ((unhide HD).below b2_)
      have HN2 := hide ((unhide hnr).below b2_)
      have HNB2 := hide ((unhide hnb).below b2_)
      have HRA := hide ra
      clear ra bb hs1 HA HD b2_ hbl hnr hsz hnb
      refine wp_region_noPanic ?_
      refine wp_region_held_drew (S := fun w' => RA w' wr.heap.size (cl m p) ∧ w'.cell? ⟨wr.heap.size, 0, none⟩ = some (.int .i64 y1) ∧ w'.cell? ⟨wr.heap.size, 4, none⟩ = some (.int .i64 y5) ∧ w'.cell? ⟨wr.heap.size, 5, none⟩ = some (.slice p.a1 m.ls.length p.c1) ∧ w'.cell? ⟨wr.heap.size, 6, none⟩ = some (.slice p.a2 m.tw.length p.c2)) (by kernel_rfl) (sRA (unhide HRA).drew (unhide HY1) (unhide HY5)) (fun hHeld => ?_)
      refine Rg.t 0 21 ?_
      refine Rg.t 1 22 ?_
      refine Rg.t 2 23 ?_
      refine Rg.t 3 24 ?_
      refine Rg.t 4 25 ?_
      refine Rg.t 5 26 ?_
      refine Rg.t 6 27 ?_
      refine Rg.t 7 28 ?_
      refine Rg.t 8 29 ?_
      refine Rg.t 9 30 ?_
      refine Rg.t 10 31 ?_
      refine Rg.t 11 32 ?_
      refine Rg.t 12 33 ?_
      refine Rg.t 13 34 ?_
      refine Rg.t 14 35 ?_
      refine Rg.t 15 36 ?_
      (refine Rg.o 16 (fun K hK => ?_); go_simp)
      have l0 := Mr.l08Flood g2 0 m.tw p.c2 p.a1 m.ls p.c1 y1 y5 w1.drew (unhide HTL) (by have h := (unhide HD2).2.1; rw [unhide HG2] at h; exact h) (unhide HD2).1
      rw [← unhide HG2] at l0
      refine l0.mono ?_
      clear l0
      rintro e w3 ⟨v, rfl, b3, lv⟩
      obtain ⟨av, cv, rfl, lst⟩ := lv
      have HRA3 := hide ((unhide HRA).drew.below b3)
      have HD3 := hide ((unhide HD2).drew.below b3)
      have HN3 := hide ((unhide HN2).drew.below b3)
      have HNB3 := hide ((unhide HNB2).drew.below b3)
      have HB3 := hide ((unhide HB2).drew.trans (b3.mono (by show w.heap.size ≤ w1.heap.size; exact (unhide HB2).size)))
      have HL3 := hide lst.rm
      clear HRA HD2 HN2 HNB2 HB2 b3 lst
      refine hK.out _ _ (sRA (unhide HRA3) (unhide HY1) (unhide HY5)) (fun hHeld => ?_)
      clear hK K
      (try simp only [Act.put, List.setIfInBounds_toArray, List.set_cons_zero, List.set_cons_succ])
      (refine Rg.o 17 (fun K hK => ?_); go_simp)
      have l1 := Mr.l08Left g2 0 m.tw p.c2 p.a1 m.ls p.c1 y1 y5 av _ cv w3 (unhide HFL) (unhide HTL) (by have h := (unhide HD3).2.1; rw [unhide HG2] at h; exact h) (unhide HD3).1 (unhide HL3)
      rw [← unhide HG2, unhide HLV] at l1
      refine l1.mono ?_
      clear l1
      rintro e w4 ⟨v, rfl, b4, lv⟩
      obtain ⟨aw, cw, rfl, _⟩ := lv
      have HRA4 := hide ((unhide HRA3).below b4)
      have HN4 := hide ((unhide HN3).below b4)
      have HNB4 := hide ((unhide HNB3).below b4)
      have HB4 := hide ((unhide HB3).trans (b4.mono (unhide HB3).size))
      clear HRA3 HD3 HN3 HNB3 HB3 HL3 b4
      refine hK.out _ _ (sRA (unhide HRA4) (unhide HY1) (unhide HY5)) (fun hHeld => ?_)
      clear hK K
      (try simp only [Act.put, List.setIfInBounds_toArray, List.set_cons_zero, List.set_cons_succ])
      refine Rg.t 18 39 ?_
      refine Rg.t 19 40 ?_
      refine wpAnyH_done (by kernel_rfl) (NoPanic.normal ?_) _
      clear hHeld
      go_wp2_with fail
      go_roundw
      case rel => exact ⟨j + 1, by omega, by go_num, HB4, HN4, HNB4⟩
      case measure => simp [intOf]; omega
    · obtain rfl : j = n := by omega
      go_wp2_with fail
      go_ret2
      exact ⟨rfl, unhide hbl⟩
end Nt
end Go.Proofs.YtpknmiccgbjoiabGreat
