/-
  Of the texts Tim, AdvM, AdvC, RtrO, RtrP, LnkA, LnkF, RtrQ, TopN, Mpe, TopE: what this claim needs of them. (put together by mkprune.py)
-/
import Derived.Test.YtilphgfjgeoiaaaGreatQa4
import Derived.Laws.BitsAllLaws
import Derived.Laws.Shifts
import Derived.Deep.QuietTactic
import Derived.BigQuiet
import Derived.Maps.OwnSet
import Derived.DeepKeys4
import Derived.Maps.AppendAt
namespace Go.Proofs.YtilphgfjgeoiaaaGreat
open Go.ChangeShapes Go.WideShapes Go.ChangeAt Go.RowKit
set_option linter.unusedVariables false
namespace Tim
open W1
/-- The time of a code. -/
def tim (c : Nat) : Int := (8 + (c % 8 : Nat)) * 2 ^ (c / 8) / 8
theorem and_mask (j : Nat) (hj : j ≤ 16) (x m : Int) (hm : m = ((2 ^ j - 1 : Nat) : Int)) : bits BinOp.and IntKind.i64 x m = x % ((2 ^ j : Nat) : Int) := by
  subst hm
  have hp : 2 ^ j ≤ 2 ^ 16 := Nat.pow_le_pow_right (by decide) hj
  have hp1 : 0 < 2 ^ j := Nat.two_pow_pos j
  have hd : 2 ^ j ∣ 2 ^ 64 := Nat.pow_dvd_pow 2 (by omega)
  show IntKind.i64.wrap ((BitVec.ofInt 64 x &&& BitVec.ofInt 64 ((2 ^ j - 1 : Nat) : Int)).toNat : Int) = _
  rw [BitVec.toNat_and, ofInt_u64 (2 ^ j - 1) (by omega), Nat.and_two_pow_sub_one_eq_mod, BitVec.toNat_ofInt, IntWalk.i64_left]
  have h1 : (((x % ((2 ^ 64 : Nat) : Int)).toNat % 2 ^ j : Nat) : Int) = x % ((2 ^ j : Nat) : Int) := by
    rw [Int.natCast_emod, Int.toNat_of_nonneg (Int.emod_nonneg _ (by decide)), Int.emod_emod_of_dvd _ (Int.natCast_dvd_natCast.2 hd)]
  rw [h1]
  have h2 := Int.emod_nonneg x (show ((2 ^ j : Nat) : Int) ≠ 0 by omega)
  have h3 := Int.emod_lt_of_pos x (show (0 : Int) < ((2 ^ j : Nat) : Int) by omega)
  unfold wrap64
  generalize x % ((2 ^ j : Nat) : Int) = y at *
  omega
theorem big {c : Nat} (hc : c ≤ 223) : wrap64 ((8 + (c : Int) % 8) * 2 ^ (c / 8)) = (8 + (c : Int) % 8) * 2 ^ (c / 8) := by
  have h1 : (2 : Int) ^ (c / 8) ≤ 134217728 := by
    have hN : (2 : Nat) ^ (c / 8) ≤ 134217728 := Nat.le_trans (Nat.pow_le_pow_right (n := 2) (by omega) (by omega : c / 8 ≤ 27)) (by decide)
    have h := Int.ofNat_le.2 hN
    rw [Int.natCast_pow] at h
    exact h
  have h0 : (0 : Int) < 2 ^ (c / 8) := Int.pow_pos (by omega)
  have h2 : (8 + (c : Int) % 8) * 2 ^ (c / 8) ≤ 15 * 2 ^ (c / 8) := Int.mul_le_mul_of_nonneg_right (by omega) (by omega)
  have h3 : 0 ≤ (8 + (c : Int) % 8) * 2 ^ (c / 8) := Int.mul_nonneg (by omega) (by omega)
  generalize (8 + (c : Int) % 8) * 2 ^ (c / 8) = x at *
  unfold wrap64
  omega
theorem tim_step (c : Nat) : tim c ≤ tim (c + 1) := by
  unfold tim
  have hp : (0 : Int) < 2 ^ (c / 8) := Int.pow_pos (by decide)
  refine Int.ediv_le_ediv (by decide) ?_
  by_cases h : c % 8 = 7
  · have h1 : (c + 1) % 8 = 0 := by omega
    have h2 : (c + 1) / 8 = c / 8 + 1 := by omega
    rw [h, h1, h2, Int.pow_succ]
    generalize (2 : Int) ^ (c / 8) = p at *
    omega
  · have h1 : (c + 1) % 8 = c % 8 + 1 := by omega
    have h2 : (c + 1) / 8 = c / 8 := by omega
    rw [h1, h2]
    exact Int.mul_le_mul_of_nonneg_right (by omega) (by omega)
theorem tim_mono {a b : Nat} (h : a ≤ b) : tim a ≤ tim b := by
  induction h with
  | refl => exact Int.le_refl _
  | step _ ih => exact Int.le_trans ih (tim_step _)
/-- k is the least code whose time is n or more. -/
def IsTime (n : Int) (k : Nat) : Prop := k ≤ 223 ∧ n ≤ tim k ∧ (k = 0 ∨ tim (k - 1) < n)
/-- The least code whose time is n or more. -/
def tcode (n : Int) : Nat := cnt tim 224 n
theorem tcode_of {n : Int} {k : Nat} (h : IsTime n k) : tcode n = k :=
  cnt_of _ _ _ _ (by have := h.1; omega) (fun c hc => by
    rcases h.2.2 with e | e
    · omega
    · have := tim_mono (show c ≤ k - 1 by omega); omega) (fun c hc _ => by have := tim_mono hc; have := h.2.1; omega)
theorem tcode_ex {n : Int} (h1 : n ≤ 251658240) : ∃ k, k ≤ 223 ∧ (∀ c, c < k → tim c < n) ∧ n ≤ tim k := by
  refine Classical.byContradiction fun hno => ?_
  have hall : ∀ k, k ≤ 224 → ∀ c, c < k → tim c < n := by
    intro k
    induction k with
    | zero => intro _ c hc; omega
    | succ k ih =>
      intro hk c hc
      have ih' := ih (by omega)
      by_cases ek : c = k
      · subst ek
        rcases Int.lt_or_le (tim c) n with hh | hh
        · exact hh
        · exact absurd ⟨c, by omega, ih', hh⟩ hno
      · exact ih' c (by omega)
  have := hall 224 (by omega) 223 (by omega)
  rw [show tim 223 = 251658240 by decide] at this
  omega
theorem tcode_is {n : Int} (h1 : n ≤ 251658240) : IsTime n (tcode n) := by
  obtain ⟨k, hk1, hk2, hk3⟩ := tcode_ex h1
  have h : IsTime n k := ⟨hk1, hk3, by
    by_cases e : k = 0
    · exact .inl e
    · exact .inr (hk2 _ (by omega))⟩
  rw [tcode_of h]; exact h
theorem tcode_lt {n : Int} (h1 : n ≤ 251658240) : tcode n ≤ 223 := (tcode_is h1).1
/-- Whether a time is exact. -/
def exTB (n : Int) : Bool := tim (tcode n) == n
/-- Whether a time may be a hello's. -/
def valB (n : Int) : Bool := inB n 1 10000 && exTB n
set_option maxHeartbeats 400000 in
theorem timeAt (c : Nat) (hc : c ≤ 223) (w : World) : Calls Tryz.prog 185 #[.int .i64 c] w fun e w' => e = .returned (.int .i64 (tim c)) ∧ w' = w := by
  go_enter Tryz.func185, Tryz.ntmps185
  go_wp2
  go_ret
  refine ⟨ret_int ?_, rfl⟩
  have := big hc
  unfold tim
  simp [this]
theorem below_drewN {B : Nat} {w w' : World} (h : Below B w w') (q : Nat) : Below B w (w'.drewN q) := ⟨h.os, h.tape, h.output, h.size, h.block⟩
set_option maxHeartbeats 400000 in
theorem cloT (i : Nat) (hi : i ≤ 223) (n : Int) (b : Nat) (w : World) (hc : w.cell? ⟨b, 0, none⟩ = some (.int .i64 n)) :
    Calls Tryz.prog 191 #[.int .i64 i, .pointer (some ⟨b, 0, none⟩)] w fun e w' => e = .returned (.bool (decide (n ≤ tim i))) ∧ Below w.heap.size w w' := by
  by_cases h : n ≤ tim i
  all_goals
    go_enter Tryz.func191, Tryz.ntmps191
    go_wp2_with fail
    go_quiet ((go_at_call 185; exact Calls.quiet_of_same (timeAt i hi _)))
    go_wp2_with fail
    go_ret
    exact ⟨ret_bool (by simp [h]), below_drewN (Below.refl _ _) _⟩
set_option maxHeartbeats 1000000 in
theorem search (b : Nat) (n : Int) (h1 : n ≤ tim 223) (w : World) (hb : w.cell? ⟨b, 0, none⟩ = some (.int .i64 n)) :
    Calls Tryz.prog 190 #[.int .i64 224, .func (.func 191) #[] #[.pointer (some ⟨b, 0, none⟩)]] w fun e w' => e = .returned (.int .i64 (tcode n)) ∧ Below w.heap.size w w' := by
  have HB := hide hb
  have hblt := World.block_lt_of_cell? _ _ hb
  clear hb
  have H1 := hide h1
  clear h1
  go_enter Tryz.func190, Tryz.ntmps190
  go_wp2
  go_loopw [5, 6] (fun lo hi wr => ∃ low high : Nat, low ≤ high ∧ high ≤ 224 ∧ lo = .int .i64 low ∧ hi = .int .i64 high ∧ Hid (∀ i, i < low → tim i < n) ∧ Hid (∀ i, high ≤ i → i < 224 → n ≤ tim i) ∧ Hid (Below w.heap.size w wr)) (fun lo hi _ => (intOf hi - intOf lo).toNat)
  case atStart => exact ⟨0, 224, by omega, by omega, rfl, rfl, hide (fun i hi => by omega), hide (fun i hi h2 => by omega), hide (Below.refl _ _)⟩
  case round =>
    obtain ⟨low, high, hlh, hhn, rfl, rfl, h1, h2, hbl⟩ := hrel
    by_cases hlt : (low : Int) < (high : Int)
    · obtain ⟨mid, hmid⟩ : ∃ mid : Nat, mid = (low + high) / 2 := ⟨_, rfl⟩
      have hm1 : low ≤ mid := by omega
      have hm2 : mid < high := by omega
      have em : ((low : Int) + (high : Int)) / 2 = (mid : Int) := by omega
      have HC := hide ((unhide hbl).cell (p := ⟨b, 0, none⟩) hblt)
      clear hmid
      go_wp2_with fail
      refine (cloT mid (by omega) n b _ ((unhide HC).trans (unhide HB))).mono ?_
      rintro e w1 ⟨rfl, b1⟩
      have hb1 := hide ((unhide hbl).trans (b1.mono (unhide hbl).size))
      clear b1
      by_cases hp : n ≤ tim mid
      · have HST : Hid (∀ i, mid ≤ i → i < 224 → n ≤ tim i) := hide (fun i hi _ => Int.le_trans hp (tim_mono hi))
        rw [decide_eq_true hp]
        go_wp2_with fail
        exact ⟨⟨low, mid, by omega, by omega, rfl, rfl, h1, HST, hb1⟩, by simp [intOf]; omega⟩
      · have HST : Hid (∀ i, i < mid + 1 → tim i < n) := hide (fun i hi => by have := tim_mono (show i ≤ mid by omega); omega)
        rw [decide_eq_false hp]
        go_wp2_with fail
        exact ⟨⟨mid + 1, high, by omega, by omega, by go_num, rfl, HST, h2, hb1⟩, by simp [intOf]; omega⟩
    · obtain rfl : low = high := by omega
      have HT : Hid (tcode n = low) := hide (cnt_of _ _ _ _ hhn (unhide h1) (unhide h2))
      go_wp2_with fail
      go_ret
      exact ⟨ret_int (by rw [unhide HT]), unhide hbl⟩
set_option maxHeartbeats 400000 in
theorem leastTime (n : Int) (h1 : n ≤ 251658240) (w : World) :
    Calls Tryz.prog 184 #[.int .i64 n] w fun e w' => e = .returned (.int .i64 (tcode n)) ∧ Below w.heap.size w w' := by
  go_enter Tryz.func184, Tryz.ntmps184
  go_wp2_with fail
  refine (search w.heap.size n (by rw [show tim 223 = 251658240 by decide]; exact h1) _ (by simp [World.cell?_alloc_new])).mono ?_
  rintro e w1 ⟨rfl, b1⟩
  go_wp2_with fail
  go_ret
  exact ⟨rfl, ((Below.refl _ _).alloc (Nat.le_refl _) _).trans (b1.mono (by simp))⟩
set_option maxHeartbeats 400000 in
theorem isExactTime (n : Int) (h1 : n ≤ 251658240) (w : World) :
    Calls Tryz.prog 170 #[.int .i64 n] w fun e w' => e = .returned (.bool (exTB n)) ∧ Below w.heap.size w w' := by
  have hlt := tcode_lt h1
  have hlt' : ((tcode n : Nat) : Int) < 224 := by omega
  cases hx : tim (tcode n) == n
  all_goals
    have HX := hide hx
    go_enter Tryz.func170, Tryz.ntmps170
    go_wp2_with fail
    refine (leastTime n h1 _).mono ?_
    rintro e w1 ⟨rfl, b1⟩
    have B1 := hide b1
    clear b1
    generalize hk : tcode n = k at *
    have HK := hide hk
    clear hk
    go_wp2_with (go_at_call 185; refine (timeAt k hlt _).mono ?_; rintro e w' ⟨rfl, rfl⟩)
    go_ret
    exact ⟨ret_bool (by unfold exTB; rw [unhide HK, unhide HX]), unhide B1⟩
set_option maxHeartbeats 400000 in
theorem isValid (n : Int) (w : World) : Calls Tryz.prog 136 #[.int .i64 n] w fun e w' => e = .returned (.bool (valB n)) ∧ Below w.heap.size w w' := by
  cases h : inB n 1 10000
  · go_enter Tryz.func136, Tryz.ntmps136
    go_wp2_with (go_at_call 82; refine (within _ _ _ _).mono ?_; rintro e w' ⟨rfl, rfl⟩)
    go_ret
    exact ⟨ret_bool (by simp [valB, h]), Below.refl _ _⟩
  · have h0 : 1 ≤ n ∧ n ≤ 10000 := by simpa [inB] using h
    have HH := hide h
    go_enter Tryz.func136, Tryz.ntmps136
    go_wp2_with (first | (go_at_call 82; refine (within _ _ _ _).mono ?_; rintro e w' ⟨rfl, rfl⟩) | (go_at_call 170; refine (isExactTime n (by omega) _).mono ?_; rintro e w' ⟨rfl, b1⟩))
    go_ret
    exact ⟨ret_bool (by simp [valB, unhide HH]), b1⟩
end Tim
end Go.Proofs.YtilphgfjgeoiaaaGreat
namespace Go.Proofs.YtilphgfjgeoiaaaGreat
open Go.ChangeShapes Go.WideShapes Go.ChangeAt Go.RowKit
set_option linter.unusedVariables false
set_option linter.unusedSimpArgs false
attribute [local go_sem ↓] Go.wp_at_zero Go.wp_at_succ
namespace Av
open W1 Ed
/-- A metric that has a code of its own. -/
def exM (n : Int) : Bool := Mtr.met (Mtr.mcode n) == n
def toldB (n : Int) : Bool := inB n 1 16744192 && exM n
def okN (m : R) : Bool := inB m.ad 1 8 && toldB m.mt
abbrev allN (ms : List R) (j : Nat) : Bool := Ri.all R.zero okN R.ad ms j
/-- Whether an advertisement is right. -/
def tcB (ansn valid : Int) (ms : List R) : Bool := inB ansn 0 65535 && (Tim.valB valid && allN ms ms.length)
theorem ok_ad {m : R} (h : okN m = true) : 1 ≤ m.ad ∧ m.ad ≤ 8 := by
  unfold okN inB at h; simp at h; exact h.1
theorem all_len {ms : List R} (h : allN ms ms.length = true) : ms.length ≤ 8 := by
  have := Ri.all_long (lo := 1) (hi := 8) (fun m hm => ok_ad hm) h; omega
theorem tc_all {ansn valid : Int} {ms : List R} (h : tcB ansn valid ms = true) : allN ms ms.length = true := by
  unfold tcB at h; simp at h; exact h.2.2
set_option maxHeartbeats 400000 in
theorem isTold (n : Int) (w : World) : Calls Tryz.prog 165 #[.int .i64 n] w fun e w' => e = .returned (.bool (toldB n)) ∧ w' = w := by
  cases h : inB n 1 16744192
  · go_enter Tryz.func165, Tryz.ntmps165
    go_wp2_with (go_at_call 82; refine (within _ _ _ _).mono ?_; rintro e w' ⟨rfl, rfl⟩)
    go_ret
    exact ⟨ret_bool (by simp [toldB, h]), rfl⟩
  · have h0 : 1 ≤ n ∧ n ≤ 16744192 := by simpa [inB] using h
    have HH := hide h
    have hk := (Mtr.mcode_is (n := n) (by omega) (by omega)).1
    have E : Hid (toldB n = (Mtr.met (Mtr.mcode n) == n)) := hide (by unfold toldB exM; rw [h]; rfl)
    generalize hq : Mtr.mcode n = k at *
    have HQ := hide hq
    clear hq
    cases hx : Mtr.met k == n
    all_goals
      go_enter Tryz.func165, Tryz.ntmps165
      go_wp2_with (first | (go_at_call 82; refine (within _ _ _ _).mono ?_; rintro e w' ⟨rfl, rfl⟩) | (go_at_call 183; refine (Mtr.leastMetric n (by omega) (by omega) _).mono ?_; rintro e w' ⟨rfl, rfl⟩; rw [unhide HQ]) | (go_at_call 182; refine (Mtr.metricAt k hk _).mono ?_; rintro e w' ⟨rfl, rfl⟩))
      go_ret
      exact ⟨ret_bool (by rw [unhide E, hx]), rfl⟩
set_option maxHeartbeats 1000000 in
theorem isEdge (ad mt : Int) (w : World) :
    Calls Tryz.prog 137 #[.agg #[.int .i64 ad, .int .i64 mt]] w fun e w' => e = .returned (.bool (okN ⟨ad, mt⟩)) ∧ Below w.heap.size w w' := by
  have E : Hid (okN ⟨ad, mt⟩ = (inB ad 1 8 && toldB mt)) := hide rfl
  cases h1 : inB ad 1 8
  rotate_left
  cases h3 : toldB mt
  all_goals
    go_enter Tryz.func137, Tryz.ntmps137
    go_wp2_with (first | (go_at_call 79; refine (isAddress _ _).mono ?_; rintro e w' ⟨rfl, rfl⟩) | (go_at_call 165; refine (isTold _ _).mono ?_; rintro e w' ⟨rfl, rfl⟩))
    go_ret
    exact ⟨ret_bool (by rw [unhide E]; simp [*]), (Below.refl _ _).alloc (Nat.le_refl _) _⟩
set_option maxHeartbeats 400000 in
theorem l04Ex (n : Int) (h0 : 1 ≤ n) (h1 : n ≤ 16744192) (w : World) : Calls Tryz.prog 71 #[.int .i64 n] w fun e w' => e = .returned (.bool (exM n)) ∧ w' = w := by
  have hk := (Mtr.mcode_is (n := n) (by omega) (by omega)).1
  have E : Hid (exM n = (Mtr.met (Mtr.mcode n) == n)) := hide rfl
  generalize hq : Mtr.mcode n = k at *
  have HQ := hide hq
  clear hq
  cases hx : Mtr.met k == n
  all_goals
    go_enter Tryz.func71, Tryz.ntmps71
    go_wp2_with (first | (go_at_call 121; refine (Mtr.l02MetricCodeE n (by omega) (by omega) _).mono ?_; rintro e w' ⟨rfl, rfl⟩; rw [unhide HQ]) | (go_at_call 120; refine (Mtr.l02Metric k hk _).mono ?_; rintro e w' ⟨rfl, rfl⟩))
    go_ret
    exact ⟨ret_bool (by rw [unhide E, hx]), rfl⟩
end Av
end Go.Proofs.YtilphgfjgeoiaaaGreat
namespace Go.Proofs.YtilphgfjgeoiaaaGreat
open Go.ChangeShapes Go.WideShapes Go.ChangeAt Go.RowKit
set_option linter.unusedVariables false
set_option linter.unusedSimpArgs false
attribute [local go_sem ↓] Go.wp_at_zero Go.wp_at_succ
namespace Av
open W1 Ed
/-- An edge in a variable's block. -/
def Bx (w : World) (b : Nat) (m : R) : Prop := w.cell? ⟨b, 0, none⟩ = some (.int .i64 m.ad) ∧ w.cell? ⟨b, 1, none⟩ = some (.int .i64 m.mt)
theorem Bx.below {w w' : World} {b : Nat} {m : R} (h : Bx w b m) (hb : Below w.heap.size w w') : Bx w' b m := by
  have hg : b < w.heap.size := World.block_lt_of_cell? _ _ h.1
  obtain ⟨h0, h1⟩ := h
  refine ⟨?_, ?_⟩ <;> (rw [hb.cell hg]; assumption)
theorem Bx.drew {w : World} {b : Nat} {m : R} (h : Bx w b m) : Bx w.drew b m := h
theorem bx_new (w : World) (m : R) (t : Nat) : Bx (w.alloc (.cells #[.int .i64 m.ad, .int .i64 m.mt] t)) w.heap.size m := by
  refine ⟨?_, ?_⟩ <;> simp [World.cell?_alloc_new]
theorem sBox {w : World} {b : Nat} {ad mt : Int} (h : Bx w b ⟨ad, mt⟩) : Bx w b ⟨ad, mt⟩ ∧ w.cell? ⟨b, 0, none⟩ = some (.int .i64 ad) ∧ w.cell? ⟨b, 1, none⟩ = some (.int .i64 mt) := ⟨h, h⟩
theorem sBox2 {w : World} {b g p B : Nat} {m : R} {ad mt will valid : Int} {v : Value} (h : Bx w b ⟨ad, mt⟩) (h' : At w g p m) (hB : Bx3 w B will valid v) :
    (Bx w b ⟨ad, mt⟩ ∧ At w g p m ∧ Bx3 w B will valid v) ∧ w.cell? ⟨b, 0, none⟩ = some (.int .i64 ad) ∧ w.cell? ⟨b, 1, none⟩ = some (.int .i64 mt) ∧ w.cell? ⟨g, p, none⟩ = some (.int .i64 m.ad) ∧ w.cell? ⟨B, 2, none⟩ = some v := ⟨⟨h, h', hB⟩, h.1, h.2, h'.1, hB.2.2⟩
set_option maxRecDepth 100000 in
set_option maxHeartbeats 4000000 in
theorem implOK (will valid : Int) (a : Option Addr) (ms : List R) (cap : Nat) (w : World) (hm : ms.length ≤ 1048576) (hr : RM w a ms) :
    Calls Tryz.prog 88 #[.agg #[.int .i64 will, .int .i64 valid, .slice a ms.length cap]] w fun e w' => e = .returned (.bool (tcB will valid ms)) ∧ Below w.heap.size w w' := by
  cases h1 : inB will 0 65535
  · have HF := hide (show tcB will valid ms = false by unfold tcB; rw [h1]; rfl)
    go_enter Tryz.func88, Tryz.ntmps88
    go_wp2_with (go_at_call 81; refine (isSeq _ _).mono ?_; rintro e w' ⟨rfl, rfl⟩)
    go_ret
    exact ⟨ret_bool (unhide HF).symm, (Below.refl _ _).alloc (Nat.le_refl _) _⟩
  cases h2 : Tim.valB valid
  · have HF := hide (show tcB will valid ms = false by unfold tcB; rw [h1, h2]; rfl)
    go_enter Tryz.func88, Tryz.ntmps88
    go_wp2_with (go_at_call 81; refine (isSeq _ _).mono ?_; rintro e w' ⟨rfl, rfl⟩)
    refine (Tim.isValid valid _).mono ?_
    rintro e w1 ⟨rfl, b1⟩
    have HB1 : Hid (Below w.heap.size w w1) := hide (((Below.refl _ _).alloc (Nat.le_refl _) _).trans (b1.mono (by simp)))
    clear b1
    go_wp2_with fail
    go_ret
    exact ⟨ret_bool (unhide HF).symm, unhide HB1⟩
  have HT : Hid (allN ms ms.length = true → tcB will valid ms = true) := hide (fun h => by unfold tcB; rw [h1, h2, h]; rfl)
  have HF : Hid (allN ms ms.length = false → tcB will valid ms = false) := hide (fun h => by unfold tcB; rw [h1, h2, h]; rfl)
  have HR := hide hr
  clear hr
  generalize hN : ms.length = n at *
  have HN := hide hN
  clear hN
  go_enter Tryz.func88, Tryz.ntmps88
  go_wp2_with (go_at_call 81; refine (isSeq _ _).mono ?_; rintro e w' ⟨rfl, rfl⟩)
  refine (Tim.isValid valid _).mono ?_
  rintro e w1 ⟨rfl, b1⟩
  have HB1 : Hid (Below w.heap.size w w1) := hide (((Below.refl _ _).alloc (Nat.le_refl _) _).trans (b1.mono (by simp)))
  have HX1 := hide ((bx3_new w will valid (.slice a n cap) 51).below b1)
  have hbx := (unhide HX1).2.2
  have HR1 := hide ((unhide HR).below (unhide HB1))
  clear b1 HR
  go_wp2
  clear hbx
  go_loopw [18] (fun i wr => ∃ j : Nat, j ≤ n ∧ i = .int .i64 j ∧ Hid (allN ms j = true) ∧ Hid (Below w1.heap.size w1 wr)) (fun i _ => n - (intOf i).toNat)
  case atStart => exact ⟨0, by omega, rfl, hide Ri.all_zero, hide (Below.refl _ _)⟩
  case round =>
    obtain ⟨j, hj, rfl, hrl, hbl⟩ := hrel
    by_cases hlt : (j : Int) < (n : Int)
    · have k0 : (0 : Int) ≤ (j : Int) := by omega
      have hlen : j < ms.length := by rw [unhide HN]; omega
      have HX := hide ((unhide HX1).below (unhide hbl))
      rcases (unhide HR1).below (by exact (unhide hbl)) with e0 | ⟨g, off, rfl, hc⟩
      · exfalso; rw [e0] at hlen; simp at hlen
      have HL := hide hlen
      have hA := hc j hlen
      have hsz := (unhide hbl).size
      have HBX := hide (bx_new wr (ms.getD j R.zero) 126)
      have HBL := hide ((unhide hbl).alloc hsz (.cells #[.int .i64 (ms.getD j R.zero).ad, .int .i64 (ms.getD j R.zero).mt] 126))
      have HXA := hide ((unhide HX).below ((Below.refl _ _).alloc (Nat.le_refl _) (.cells #[.int .i64 (ms.getD j R.zero).ad, .int .i64 (ms.getD j R.zero).mt] 126)))
      clear HX
      cases hk : okN (ms.getD j R.zero)
      · clear hc
        have HST := hide (unhide HF (by have := Ri.all_no hlen (Ri.step_bad (key := R.ad) hk); exact (unhide HN) ▸ this))
        have HK := hide hk
        clear hk
        generalize ms.getD j R.zero = m at *
        obtain ⟨ad, mt⟩ := m
        obtain ⟨c0, c1⟩ := hA
        dsimp only at c0 c1
        go_wp2_with fail
        generalize hW : wr.alloc (.cells #[.int .i64 ad, .int .i64 mt] 126) = W0 at *
        clear hW
        refine wp_region_noPanic ?_
        refine wp_region_held_drew (S := fun w' => Bx w' wr.heap.size ⟨ad, mt⟩ ∧ w'.cell? ⟨wr.heap.size, 0, none⟩ = some (.int .i64 ad) ∧ w'.cell? ⟨wr.heap.size, 1, none⟩ = some (.int .i64 mt)) (by kernel_rfl) (sBox (unhide HBX).drew) (fun hHeld => ?_)
        (refine Rg.tk (i := 0) (d := 23) (v := ?_) rfl rfl (by kernel_rfl) (by kernel_rfl) (by kernel_rfl) (fun _ _ _ h => h) (by rfl) ?_ (by assumption) ?_; rotate_left; (focus (intro w0 hSw; (try dsimp only at hSw); go_simp; (try with_reducible rfl))); (try simp only [Act.put, List.setIfInBounds_toArray, List.set_cons_zero, List.set_cons_succ]))
        (refine wpAnyH_ready (rs := [1]) (by kernel_rfl) (by simp) ?_; refine AllReadyH.cons (o := _) rfl (fun K hK => ?_) AllReadyH.nil; go_simp)
        refine (isEdge ad mt _).mono ?_
        rintro e w2 ⟨rfl, b2⟩
        rw [unhide HK]
        refine hK.out _ _ (sBox ((unhide HBX).drew.below b2)) (fun hHeld => ?_)
        clear hK K
        (try simp only [Act.put, List.setIfInBounds_toArray, List.set_cons_zero, List.set_cons_succ])
        (refine Rg.tk (i := 2) (d := 25) (v := ?_) rfl rfl (by kernel_rfl) (by kernel_rfl) (by kernel_rfl) (fun _ _ _ h => h) (by rfl) ?_ (by assumption) ?_; rotate_left; (focus (intro w0 hSw; (try dsimp only at hSw); go_simp; (try with_reducible rfl))); (try simp only [Act.put, List.setIfInBounds_toArray, List.set_cons_zero, List.set_cons_succ]))
        (refine Rg.tk (i := 3) (d := 26) (v := ?_) rfl rfl (by kernel_rfl) (by kernel_rfl) (by kernel_rfl) (fun _ _ _ h => h) (by rfl) ?_ (by assumption) ?_; rotate_left; (focus (intro w0 hSw; (try dsimp only at hSw); go_simp; (try with_reducible rfl))); (try simp only [Act.put, List.setIfInBounds_toArray, List.set_cons_zero, List.set_cons_succ]))
        (refine Rg.sk (i := 4) (d := 27) rfl rfl (by kernel_rfl) (by kernel_rfl) (by kernel_rfl) (fun _ _ _ h => h) (by first | kernel_rfl | rfl) (by assumption) ?_; (try simp only [Act.put, List.setIfInBounds_toArray, List.set_cons_zero, List.set_cons_succ]))
        (refine Rg.sk (i := 5) (d := 28) rfl rfl (by kernel_rfl) (by kernel_rfl) (by kernel_rfl) (fun _ _ _ h => h) (by first | kernel_rfl | rfl) (by assumption) ?_; (try simp only [Act.put, List.setIfInBounds_toArray, List.set_cons_zero, List.set_cons_succ]))
        (refine Rg.sk (i := 6) (d := 29) rfl rfl (by kernel_rfl) (by kernel_rfl) (by kernel_rfl) (fun _ _ _ h => h) (by first | kernel_rfl | rfl) (by assumption) ?_; (try simp only [Act.put, List.setIfInBounds_toArray, List.set_cons_zero, List.set_cons_succ]))
        (refine Rg.sk (i := 7) (d := 30) rfl rfl (by kernel_rfl) (by kernel_rfl) (by kernel_rfl) (fun _ _ _ h => h) (by first | kernel_rfl | rfl) (by assumption) ?_; (try simp only [Act.put, List.setIfInBounds_toArray, List.set_cons_zero, List.set_cons_succ]))
        (refine Rg.sk (i := 8) (d := 31) rfl rfl (by kernel_rfl) (by kernel_rfl) (by kernel_rfl) (fun _ _ _ h => h) (by first | kernel_rfl | rfl) (by assumption) ?_; (try simp only [Act.put, List.setIfInBounds_toArray, List.set_cons_zero, List.set_cons_succ]))
        (refine Rg.sk (i := 9) (d := 32) rfl rfl (by kernel_rfl) (by kernel_rfl) (by kernel_rfl) (fun _ _ _ h => h) (by first | kernel_rfl | rfl) (by assumption) ?_; (try simp only [Act.put, List.setIfInBounds_toArray, List.set_cons_zero, List.set_cons_succ]))
        (refine Rg.sk (i := 10) (d := 33) rfl rfl (by kernel_rfl) (by kernel_rfl) (by kernel_rfl) (fun _ _ _ h => h) (by first | kernel_rfl | rfl) (by assumption) ?_; (try simp only [Act.put, List.setIfInBounds_toArray, List.set_cons_zero, List.set_cons_succ]))
        (refine Rg.sk (i := 11) (d := 34) rfl rfl (by kernel_rfl) (by kernel_rfl) (by kernel_rfl) (fun _ _ _ h => h) (by first | kernel_rfl | rfl) (by assumption) ?_; (try simp only [Act.put, List.setIfInBounds_toArray, List.set_cons_zero, List.set_cons_succ]))
        (refine Rg.sk (i := 12) (d := 35) rfl rfl (by kernel_rfl) (by kernel_rfl) (by kernel_rfl) (fun _ _ _ h => h) (by first | kernel_rfl | rfl) (by assumption) ?_; (try simp only [Act.put, List.setIfInBounds_toArray, List.set_cons_zero, List.set_cons_succ]))
        (refine Rg.sk (i := 13) (d := 36) rfl rfl (by kernel_rfl) (by kernel_rfl) (by kernel_rfl) (fun _ _ _ h => h) (by first | kernel_rfl | rfl) (by assumption) ?_; (try simp only [Act.put, List.setIfInBounds_toArray, List.set_cons_zero, List.set_cons_succ]))
        (refine Rg.sk (i := 14) (d := 37) rfl rfl (by kernel_rfl) (by kernel_rfl) (by kernel_rfl) (fun _ _ _ h => h) (by first | kernel_rfl | rfl) (by assumption) ?_; (try simp only [Act.put, List.setIfInBounds_toArray, List.set_cons_zero, List.set_cons_succ]))
        (refine Rg.sk (i := 15) (d := 38) rfl rfl (by kernel_rfl) (by kernel_rfl) (by kernel_rfl) (fun _ _ _ h => h) (by first | kernel_rfl | rfl) (by assumption) ?_; (try simp only [Act.put, List.setIfInBounds_toArray, List.set_cons_zero, List.set_cons_succ]))
        (refine Rg.sk (i := 16) (d := 39) rfl rfl (by kernel_rfl) (by kernel_rfl) (by kernel_rfl) (fun _ _ _ h => h) (by first | kernel_rfl | rfl) (by assumption) ?_; (try simp only [Act.put, List.setIfInBounds_toArray, List.set_cons_zero, List.set_cons_succ]))
        (refine Rg.sk (i := 17) (d := 40) rfl rfl (by kernel_rfl) (by kernel_rfl) (by kernel_rfl) (fun _ _ _ h => h) (by first | kernel_rfl | rfl) (by assumption) ?_; (try simp only [Act.put, List.setIfInBounds_toArray, List.set_cons_zero, List.set_cons_succ]))
        (refine Rg.tk (i := 18) (d := 41) (v := ?_) rfl rfl (by kernel_rfl) (by kernel_rfl) (by kernel_rfl) (fun _ _ _ h => h) (by rfl) ?_ (by assumption) ?_; rotate_left; (focus (intro w0 hSw; (try dsimp only at hSw); go_simp; (try with_reducible rfl))); (try simp only [Act.put, List.setIfInBounds_toArray, List.set_cons_zero, List.set_cons_succ]))
        refine wpAnyH_done (by kernel_rfl) (NoPanic.normal ?_) _
        have hb1 := hide ((unhide HB1).trans (((unhide HBL).drew.trans (b2.mono (by show w1.heap.size ≤ W0.heap.size; exact (unhide HBL).size))).mono (unhide HB1).size))
        go_wp2_with fail
        go_ret
        exact ⟨ret_bool (unhide HST).symm, unhide hb1⟩
      have HK := hide hk
      clear hk
      by_cases hj0 : j = 0
      · subst hj0
        clear hc
        rw [Nat.zero_mul, Nat.add_zero] at hA
        have HST := hide (Ri.all_succ (unhide hrl) (Ri.step_zero (key := R.ad) (unhide HK)))
        generalize ms.getD 0 R.zero = m at *
        obtain ⟨ad, mt⟩ := m
        obtain ⟨c0, c1⟩ := hA
        dsimp only at c0 c1
        go_wp2_with fail
        generalize hW : wr.alloc (.cells #[.int .i64 ad, .int .i64 mt] 126) = W0 at *
        clear hW
        refine wp_region_noPanic ?_
        refine wp_region_held_drew (S := fun w' => Bx w' wr.heap.size ⟨ad, mt⟩ ∧ w'.cell? ⟨wr.heap.size, 0, none⟩ = some (.int .i64 ad) ∧ w'.cell? ⟨wr.heap.size, 1, none⟩ = some (.int .i64 mt)) (by kernel_rfl) (sBox (unhide HBX).drew) (fun hHeld => ?_)
        (refine Rg.tk (i := 0) (d := 23) (v := ?_) rfl rfl (by kernel_rfl) (by kernel_rfl) (by kernel_rfl) (fun _ _ _ h => h) (by rfl) ?_ (by assumption) ?_; rotate_left; (focus (intro w0 hSw; (try dsimp only at hSw); go_simp; (try with_reducible rfl))); (try simp only [Act.put, List.setIfInBounds_toArray, List.set_cons_zero, List.set_cons_succ]))
        (refine wpAnyH_ready (rs := [1]) (by kernel_rfl) (by simp) ?_; refine AllReadyH.cons (o := _) rfl (fun K hK => ?_) AllReadyH.nil; go_simp)
        refine (isEdge ad mt _).mono ?_
        rintro e w2 ⟨rfl, b2⟩
        rw [unhide HK]
        refine hK.out _ _ (sBox ((unhide HBX).drew.below b2)) (fun hHeld => ?_)
        clear hK K
        (try simp only [Act.put, List.setIfInBounds_toArray, List.set_cons_zero, List.set_cons_succ])
        (refine Rg.tk (i := 2) (d := 25) (v := ?_) rfl rfl (by kernel_rfl) (by kernel_rfl) (by kernel_rfl) (fun _ _ _ h => h) (by rfl) ?_ (by assumption) ?_; rotate_left; (focus (intro w0 hSw; (try dsimp only at hSw); go_simp; (try with_reducible rfl))); (try simp only [Act.put, List.setIfInBounds_toArray, List.set_cons_zero, List.set_cons_succ]))
        (refine Rg.tk (i := 3) (d := 26) (v := ?_) rfl rfl (by kernel_rfl) (by kernel_rfl) (by kernel_rfl) (fun _ _ _ h => h) (by rfl) ?_ (by assumption) ?_; rotate_left; (focus (intro w0 hSw; (try dsimp only at hSw); go_simp; (try with_reducible rfl))); (try simp only [Act.put, List.setIfInBounds_toArray, List.set_cons_zero, List.set_cons_succ]))
        (refine Rg.tk (i := 4) (d := 27) (v := ?_) rfl rfl (by kernel_rfl) (by kernel_rfl) (by kernel_rfl) (fun _ _ _ h => h) (by rfl) ?_ (by assumption) ?_; rotate_left; (focus (intro w0 hSw; (try dsimp only at hSw); go_simp; (try with_reducible rfl))); (try simp only [Act.put, List.setIfInBounds_toArray, List.set_cons_zero, List.set_cons_succ]))
        (refine Rg.tk (i := 5) (d := 28) (v := ?_) rfl rfl (by kernel_rfl) (by kernel_rfl) (by kernel_rfl) (fun _ _ _ h => h) (by rfl) ?_ (by assumption) ?_; rotate_left; (focus (intro w0 hSw; (try dsimp only at hSw); go_simp; (try with_reducible rfl))); (try simp only [Act.put, List.setIfInBounds_toArray, List.set_cons_zero, List.set_cons_succ]))
        (refine Rg.tk (i := 6) (d := 29) (v := ?_) rfl rfl (by kernel_rfl) (by kernel_rfl) (by kernel_rfl) (fun _ _ _ h => h) (by rfl) ?_ (by assumption) ?_; rotate_left; (focus (intro w0 hSw; (try dsimp only at hSw); go_simp; (try with_reducible rfl))); (try simp only [Act.put, List.setIfInBounds_toArray, List.set_cons_zero, List.set_cons_succ]))
        (refine Rg.sk (i := 7) (d := 30) rfl rfl (by kernel_rfl) (by kernel_rfl) (by kernel_rfl) (fun _ _ _ h => h) (by first | kernel_rfl | rfl) (by assumption) ?_; (try simp only [Act.put, List.setIfInBounds_toArray, List.set_cons_zero, List.set_cons_succ]))
        (refine Rg.sk (i := 8) (d := 31) rfl rfl (by kernel_rfl) (by kernel_rfl) (by kernel_rfl) (fun _ _ _ h => h) (by first | kernel_rfl | rfl) (by assumption) ?_; (try simp only [Act.put, List.setIfInBounds_toArray, List.set_cons_zero, List.set_cons_succ]))
        (refine Rg.sk (i := 9) (d := 32) rfl rfl (by kernel_rfl) (by kernel_rfl) (by kernel_rfl) (fun _ _ _ h => h) (by first | kernel_rfl | rfl) (by assumption) ?_; (try simp only [Act.put, List.setIfInBounds_toArray, List.set_cons_zero, List.set_cons_succ]))
        (refine Rg.sk (i := 10) (d := 33) rfl rfl (by kernel_rfl) (by kernel_rfl) (by kernel_rfl) (fun _ _ _ h => h) (by first | kernel_rfl | rfl) (by assumption) ?_; (try simp only [Act.put, List.setIfInBounds_toArray, List.set_cons_zero, List.set_cons_succ]))
        (refine Rg.sk (i := 11) (d := 34) rfl rfl (by kernel_rfl) (by kernel_rfl) (by kernel_rfl) (fun _ _ _ h => h) (by first | kernel_rfl | rfl) (by assumption) ?_; (try simp only [Act.put, List.setIfInBounds_toArray, List.set_cons_zero, List.set_cons_succ]))
        (refine Rg.sk (i := 12) (d := 35) rfl rfl (by kernel_rfl) (by kernel_rfl) (by kernel_rfl) (fun _ _ _ h => h) (by first | kernel_rfl | rfl) (by assumption) ?_; (try simp only [Act.put, List.setIfInBounds_toArray, List.set_cons_zero, List.set_cons_succ]))
        (refine Rg.sk (i := 13) (d := 36) rfl rfl (by kernel_rfl) (by kernel_rfl) (by kernel_rfl) (fun _ _ _ h => h) (by first | kernel_rfl | rfl) (by assumption) ?_; (try simp only [Act.put, List.setIfInBounds_toArray, List.set_cons_zero, List.set_cons_succ]))
        (refine Rg.sk (i := 14) (d := 37) rfl rfl (by kernel_rfl) (by kernel_rfl) (by kernel_rfl) (fun _ _ _ h => h) (by first | kernel_rfl | rfl) (by assumption) ?_; (try simp only [Act.put, List.setIfInBounds_toArray, List.set_cons_zero, List.set_cons_succ]))
        (refine Rg.sk (i := 15) (d := 38) rfl rfl (by kernel_rfl) (by kernel_rfl) (by kernel_rfl) (fun _ _ _ h => h) (by first | kernel_rfl | rfl) (by assumption) ?_; (try simp only [Act.put, List.setIfInBounds_toArray, List.set_cons_zero, List.set_cons_succ]))
        (refine Rg.sk (i := 16) (d := 39) rfl rfl (by kernel_rfl) (by kernel_rfl) (by kernel_rfl) (fun _ _ _ h => h) (by first | kernel_rfl | rfl) (by assumption) ?_; (try simp only [Act.put, List.setIfInBounds_toArray, List.set_cons_zero, List.set_cons_succ]))
        (refine Rg.tk (i := 17) (d := 40) (v := ?_) rfl rfl (by kernel_rfl) (by kernel_rfl) (by kernel_rfl) (fun _ _ _ h => h) (by rfl) ?_ (by assumption) ?_; rotate_left; (focus (intro w0 hSw; (try dsimp only at hSw); go_simp; (try with_reducible rfl))); (try simp only [Act.put, List.setIfInBounds_toArray, List.set_cons_zero, List.set_cons_succ]))
        (refine Rg.tk (i := 18) (d := 41) (v := ?_) rfl rfl (by kernel_rfl) (by kernel_rfl) (by kernel_rfl) (fun _ _ _ h => h) (by rfl) ?_ (by assumption) ?_; rotate_left; (focus (intro w0 hSw; (try dsimp only at hSw); go_simp; (try with_reducible rfl))); (try simp only [Act.put, List.setIfInBounds_toArray, List.set_cons_zero, List.set_cons_succ]))
        refine wpAnyH_done (by kernel_rfl) (NoPanic.normal ?_) _
        have hb1 := hide ((unhide HBL).drew.trans (b2.mono (by show w1.heap.size ≤ W0.heap.size; exact (unhide HBL).size)))
        go_wp2_with fail
        go_roundw
        case rel => exact ⟨0 + 1, by omega, by go_num, HST, hb1⟩
        case measure => simp [intOf]; omega
      · obtain ⟨i, hji⟩ : ∃ i, j = i + 1 := ⟨j - 1, by omega⟩
        have HJ := hide hji
        have e1 : (j : Int) - 1 = (i : Int) := by omega
        have i0 : (0 : Int) ≤ (i : Int) := by omega
        have wi : IntKind.i64.wrap (i : Int) = (i : Int) := by rw [IntKind.wrap_i64]; omega
        have i1 : (i : Int) < (n : Int) := by omega
        have j1 : (0 : Int) < (j : Int) := by omega
        have j2 : 0 < j := by omega
        have hP := hide ((hc i (by omega)).below ((Below.refl _ _).alloc (Nat.le_refl _) (.cells #[.int .i64 (ms.getD j R.zero).ad, .int .i64 (ms.getD j R.zero).mt] 126)))
        have EJ : ms.getD j R.zero = ms.getD (i + 1) R.zero := by rw [hji]
        clear hc hji
        by_cases hk : (ms.getD i R.zero).ad < (ms.getD j R.zero).ad
        · have HST : Hid (allN ms (j + 1) = true) := hide (Ri.all_succ (unhide hrl) (by rw [unhide HJ]; exact Ri.step_lt (by rw [← EJ]; exact unhide HK) (by rw [← EJ]; exact hk)))
          clear EJ
          generalize ms.getD j R.zero = m at *
          generalize ms.getD i R.zero = m0 at *
          obtain ⟨ad, mt⟩ := m
          obtain ⟨ad0, mt0⟩ := m0
          dsimp only at hk
          obtain ⟨c0, c1⟩ := hA
          dsimp only at c0 c1
          go_wp2_with fail
          generalize hW : wr.alloc (.cells #[.int .i64 ad, .int .i64 mt] 126) = W0 at *
          clear hW
          refine wp_region_noPanic ?_
          refine wp_region_held_drew (S := fun w' => (Bx w' wr.heap.size ⟨ad, mt⟩ ∧ At w' g (off + i * 2) ⟨ad0, mt0⟩ ∧ Bx3 w' w.heap.size will valid (.slice (some ⟨g, off, none⟩) n cap)) ∧ w'.cell? ⟨wr.heap.size, 0, none⟩ = some (.int .i64 ad) ∧ w'.cell? ⟨wr.heap.size, 1, none⟩ = some (.int .i64 mt) ∧ w'.cell? ⟨g, off + i * 2, none⟩ = some (.int .i64 ad0) ∧ w'.cell? ⟨w.heap.size, 2, none⟩ = some (.slice (some ⟨g, off, none⟩) n cap)) (by kernel_rfl) (sBox2 (unhide HBX).drew (unhide hP).drew (unhide HXA).drew) (fun hHeld => ?_)
          (refine Rg.tk (i := 0) (d := 23) (v := ?_) rfl rfl (by kernel_rfl) (by kernel_rfl) (by kernel_rfl) (fun _ _ _ h => h) (by rfl) ?_ (by assumption) ?_; rotate_left; (focus (intro w0 hSw; (try dsimp only at hSw); go_simp; (try with_reducible rfl))); (try simp only [Act.put, List.setIfInBounds_toArray, List.set_cons_zero, List.set_cons_succ]))
          (refine wpAnyH_ready (rs := [1]) (by kernel_rfl) (by simp) ?_; refine AllReadyH.cons (o := _) rfl (fun K hK => ?_) AllReadyH.nil; go_simp)
          refine (isEdge ad mt _).mono ?_
          rintro e w2 ⟨rfl, b2⟩
          rw [unhide HK]
          refine hK.out _ _ (sBox2 ((unhide HBX).drew.below b2) ((unhide hP).drew.below b2) ((unhide HXA).drew.below b2)) (fun hHeld => ?_)
          clear hK K
          (try simp only [Act.put, List.setIfInBounds_toArray, List.set_cons_zero, List.set_cons_succ])
          (refine Rg.tk (i := 2) (d := 25) (v := ?_) rfl rfl (by kernel_rfl) (by kernel_rfl) (by kernel_rfl) (fun _ _ _ h => h) (by rfl) ?_ (by assumption) ?_; rotate_left; (focus (intro w0 hSw; (try dsimp only at hSw); go_simp; (try with_reducible rfl))); (try simp only [Act.put, List.setIfInBounds_toArray, List.set_cons_zero, List.set_cons_succ]))
          (refine Rg.tk (i := 3) (d := 26) (v := ?_) rfl rfl (by kernel_rfl) (by kernel_rfl) (by kernel_rfl) (fun _ _ _ h => h) (by rfl) ?_ (by assumption) ?_; rotate_left; (focus (intro w0 hSw; (try dsimp only at hSw); go_simp; (try with_reducible rfl))); (try simp only [Act.put, List.setIfInBounds_toArray, List.set_cons_zero, List.set_cons_succ]))
          (refine Rg.tk (i := 4) (d := 27) (v := ?_) rfl rfl (by kernel_rfl) (by kernel_rfl) (by kernel_rfl) (fun _ _ _ h => h) (by rfl) ?_ (by assumption) ?_; rotate_left; (focus (intro w0 hSw; (try dsimp only at hSw); go_simp; (try with_reducible rfl))); (try simp only [Act.put, List.setIfInBounds_toArray, List.set_cons_zero, List.set_cons_succ]))
          (refine Rg.tk (i := 5) (d := 28) (v := ?_) rfl rfl (by kernel_rfl) (by kernel_rfl) (by kernel_rfl) (fun _ _ _ h => h) (by rfl) ?_ (by assumption) ?_; rotate_left; (focus (intro w0 hSw; (try dsimp only at hSw); go_simp; (try with_reducible rfl))); (try simp only [Act.put, List.setIfInBounds_toArray, List.set_cons_zero, List.set_cons_succ]))
          (refine Rg.tk (i := 6) (d := 29) (v := ?_) rfl rfl (by kernel_rfl) (by kernel_rfl) (by kernel_rfl) (fun _ _ _ h => h) (by rfl) ?_ (by assumption) ?_; rotate_left; (focus (intro w0 hSw; (try dsimp only at hSw); go_simp; (try with_reducible rfl))); (try simp only [Act.put, List.setIfInBounds_toArray, List.set_cons_zero, List.set_cons_succ]))
          (refine Rg.tk (i := 7) (d := 30) (v := ?_) rfl rfl (by kernel_rfl) (by kernel_rfl) (by kernel_rfl) (fun _ _ _ h => h) (by rfl) ?_ (by assumption) ?_; rotate_left; (focus (intro w0 hSw; (try dsimp only at hSw); go_simp; (try with_reducible rfl))); (try simp only [Act.put, List.setIfInBounds_toArray, List.set_cons_zero, List.set_cons_succ]))
          (refine Rg.tk (i := 8) (d := 31) (v := ?_) rfl rfl (by kernel_rfl) (by kernel_rfl) (by kernel_rfl) (fun _ _ _ h => h) (by rfl) ?_ (by assumption) ?_; rotate_left; (focus (intro w0 hSw; (try dsimp only at hSw); go_simp; (try with_reducible rfl))); (try simp only [Act.put, List.setIfInBounds_toArray, List.set_cons_zero, List.set_cons_succ]))
          (refine Rg.tk (i := 9) (d := 32) (v := ?_) rfl rfl (by kernel_rfl) (by kernel_rfl) (by kernel_rfl) (fun _ _ _ h => h) (by rfl) ?_ (by assumption) ?_; rotate_left; (focus (intro w0 hSw; (try dsimp only at hSw); go_simp; (try with_reducible rfl))); (try simp only [Act.put, List.setIfInBounds_toArray, List.set_cons_zero, List.set_cons_succ]))
          (refine Rg.tk (i := 10) (d := 33) (v := ?_) rfl rfl (by kernel_rfl) (by kernel_rfl) (by kernel_rfl) (fun _ _ _ h => h) (by rfl) ?_ (by assumption) ?_; rotate_left; (focus (intro w0 hSw; (try dsimp only at hSw); go_simp; (try with_reducible rfl))); (try simp only [Act.put, List.setIfInBounds_toArray, List.set_cons_zero, List.set_cons_succ]))
          (refine Rg.tk (i := 11) (d := 34) (v := ?_) rfl rfl (by kernel_rfl) (by kernel_rfl) (by kernel_rfl) (fun _ _ _ h => h) (by rfl) ?_ (by assumption) ?_; rotate_left; (focus (intro w0 hSw; (try dsimp only at hSw); go_simp; (try with_reducible rfl))); (try simp only [Act.put, List.setIfInBounds_toArray, List.set_cons_zero, List.set_cons_succ]))
          (refine Rg.tk (i := 12) (d := 35) (v := ?_) rfl rfl (by kernel_rfl) (by kernel_rfl) (by kernel_rfl) (fun _ _ _ h => h) (by rfl) ?_ (by assumption) ?_; rotate_left; (focus (intro w0 hSw; (try dsimp only at hSw); go_simp; (try with_reducible rfl))); (try simp only [Act.put, List.setIfInBounds_toArray, List.set_cons_zero, List.set_cons_succ]))
          (refine Rg.tk (i := 13) (d := 36) (v := ?_) rfl rfl (by kernel_rfl) (by kernel_rfl) (by kernel_rfl) (fun _ _ _ h => h) (by rfl) ?_ (by assumption) ?_; rotate_left; (focus (intro w0 hSw; (try dsimp only at hSw); go_simp; (try with_reducible rfl))); (try simp only [Act.put, List.setIfInBounds_toArray, List.set_cons_zero, List.set_cons_succ]))
          (refine Rg.tk (i := 14) (d := 37) (v := ?_) rfl rfl (by kernel_rfl) (by kernel_rfl) (by kernel_rfl) (fun _ _ _ h => h) (by rfl) ?_ (by assumption) ?_; rotate_left; (focus (intro w0 hSw; (try dsimp only at hSw); go_simp; (try with_reducible rfl))); (try simp only [Act.put, List.setIfInBounds_toArray, List.set_cons_zero, List.set_cons_succ]))
          (refine Rg.tk (i := 15) (d := 38) (v := ?_) rfl rfl (by kernel_rfl) (by kernel_rfl) (by kernel_rfl) (fun _ _ _ h => h) (by rfl) ?_ (by assumption) ?_; rotate_left; (focus (intro w0 hSw; (try dsimp only at hSw); go_simp; (try with_reducible rfl))); (try simp only [Act.put, List.setIfInBounds_toArray, List.set_cons_zero, List.set_cons_succ]))
          (refine Rg.tk (i := 16) (d := 39) (v := ?_) rfl rfl (by kernel_rfl) (by kernel_rfl) (by kernel_rfl) (fun _ _ _ h => h) (by rfl) ?_ (by assumption) ?_; rotate_left; (focus (intro w0 hSw; (try dsimp only at hSw); go_simp; (try with_reducible rfl))); (try simp only [Act.put, List.setIfInBounds_toArray, List.set_cons_zero, List.set_cons_succ]))
          (refine Rg.tk (i := 17) (d := 40) (v := ?_) rfl rfl (by kernel_rfl) (by kernel_rfl) (by kernel_rfl) (fun _ _ _ h => h) (by rfl) ?_ (by assumption) ?_; rotate_left; (focus (intro w0 hSw; (try dsimp only at hSw); go_simp; (try with_reducible rfl))); (try simp only [Act.put, List.setIfInBounds_toArray, List.set_cons_zero, List.set_cons_succ]))
          (refine Rg.tk (i := 18) (d := 41) (v := ?_) rfl rfl (by kernel_rfl) (by kernel_rfl) (by kernel_rfl) (fun _ _ _ h => h) (by rfl) ?_ (by assumption) ?_; rotate_left; (focus (intro w0 hSw; (try dsimp only at hSw); go_simp; (try with_reducible rfl))); (try simp only [Act.put, List.setIfInBounds_toArray, List.set_cons_zero, List.set_cons_succ]))
          refine wpAnyH_done (by kernel_rfl) (NoPanic.normal ?_) _
          have hb1 := hide ((unhide HBL).drew.trans (b2.mono (by show w1.heap.size ≤ W0.heap.size; exact (unhide HBL).size)))
          go_wp2_with fail
          go_roundw
          case rel => exact ⟨j + 1, by omega, by go_num, HST, hb1⟩
          case measure => simp [intOf]; omega
        · have HST : Hid (tcB will valid ms = false) := hide (unhide HF (by have := Ri.all_no (unhide HL) (show Ri.step R.zero okN R.ad ms j = false by rw [unhide HJ]; exact Ri.step_ge (by rw [← EJ]; omega)); exact (unhide HN) ▸ this))
          clear EJ
          generalize ms.getD j R.zero = m at *
          generalize ms.getD i R.zero = m0 at *
          obtain ⟨ad, mt⟩ := m
          obtain ⟨ad0, mt0⟩ := m0
          dsimp only at hk
          obtain ⟨c0, c1⟩ := hA
          dsimp only at c0 c1
          go_wp2_with fail
          generalize hW : wr.alloc (.cells #[.int .i64 ad, .int .i64 mt] 126) = W0 at *
          clear hW
          refine wp_region_noPanic ?_
          refine wp_region_held_drew (S := fun w' => (Bx w' wr.heap.size ⟨ad, mt⟩ ∧ At w' g (off + i * 2) ⟨ad0, mt0⟩ ∧ Bx3 w' w.heap.size will valid (.slice (some ⟨g, off, none⟩) n cap)) ∧ w'.cell? ⟨wr.heap.size, 0, none⟩ = some (.int .i64 ad) ∧ w'.cell? ⟨wr.heap.size, 1, none⟩ = some (.int .i64 mt) ∧ w'.cell? ⟨g, off + i * 2, none⟩ = some (.int .i64 ad0) ∧ w'.cell? ⟨w.heap.size, 2, none⟩ = some (.slice (some ⟨g, off, none⟩) n cap)) (by kernel_rfl) (sBox2 (unhide HBX).drew (unhide hP).drew (unhide HXA).drew) (fun hHeld => ?_)
          (refine Rg.tk (i := 0) (d := 23) (v := ?_) rfl rfl (by kernel_rfl) (by kernel_rfl) (by kernel_rfl) (fun _ _ _ h => h) (by rfl) ?_ (by assumption) ?_; rotate_left; (focus (intro w0 hSw; (try dsimp only at hSw); go_simp; (try with_reducible rfl))); (try simp only [Act.put, List.setIfInBounds_toArray, List.set_cons_zero, List.set_cons_succ]))
          (refine wpAnyH_ready (rs := [1]) (by kernel_rfl) (by simp) ?_; refine AllReadyH.cons (o := _) rfl (fun K hK => ?_) AllReadyH.nil; go_simp)
          refine (isEdge ad mt _).mono ?_
          rintro e w2 ⟨rfl, b2⟩
          rw [unhide HK]
          refine hK.out _ _ (sBox2 ((unhide HBX).drew.below b2) ((unhide hP).drew.below b2) ((unhide HXA).drew.below b2)) (fun hHeld => ?_)
          clear hK K
          (try simp only [Act.put, List.setIfInBounds_toArray, List.set_cons_zero, List.set_cons_succ])
          (refine Rg.tk (i := 2) (d := 25) (v := ?_) rfl rfl (by kernel_rfl) (by kernel_rfl) (by kernel_rfl) (fun _ _ _ h => h) (by rfl) ?_ (by assumption) ?_; rotate_left; (focus (intro w0 hSw; (try dsimp only at hSw); go_simp; (try with_reducible rfl))); (try simp only [Act.put, List.setIfInBounds_toArray, List.set_cons_zero, List.set_cons_succ]))
          (refine Rg.tk (i := 3) (d := 26) (v := ?_) rfl rfl (by kernel_rfl) (by kernel_rfl) (by kernel_rfl) (fun _ _ _ h => h) (by rfl) ?_ (by assumption) ?_; rotate_left; (focus (intro w0 hSw; (try dsimp only at hSw); go_simp; (try with_reducible rfl))); (try simp only [Act.put, List.setIfInBounds_toArray, List.set_cons_zero, List.set_cons_succ]))
          (refine Rg.tk (i := 4) (d := 27) (v := ?_) rfl rfl (by kernel_rfl) (by kernel_rfl) (by kernel_rfl) (fun _ _ _ h => h) (by rfl) ?_ (by assumption) ?_; rotate_left; (focus (intro w0 hSw; (try dsimp only at hSw); go_simp; (try with_reducible rfl))); (try simp only [Act.put, List.setIfInBounds_toArray, List.set_cons_zero, List.set_cons_succ]))
          (refine Rg.tk (i := 5) (d := 28) (v := ?_) rfl rfl (by kernel_rfl) (by kernel_rfl) (by kernel_rfl) (fun _ _ _ h => h) (by rfl) ?_ (by assumption) ?_; rotate_left; (focus (intro w0 hSw; (try dsimp only at hSw); go_simp; (try with_reducible rfl))); (try simp only [Act.put, List.setIfInBounds_toArray, List.set_cons_zero, List.set_cons_succ]))
          (refine Rg.tk (i := 6) (d := 29) (v := ?_) rfl rfl (by kernel_rfl) (by kernel_rfl) (by kernel_rfl) (fun _ _ _ h => h) (by rfl) ?_ (by assumption) ?_; rotate_left; (focus (intro w0 hSw; (try dsimp only at hSw); go_simp; (try with_reducible rfl))); (try simp only [Act.put, List.setIfInBounds_toArray, List.set_cons_zero, List.set_cons_succ]))
          (refine Rg.tk (i := 7) (d := 30) (v := ?_) rfl rfl (by kernel_rfl) (by kernel_rfl) (by kernel_rfl) (fun _ _ _ h => h) (by rfl) ?_ (by assumption) ?_; rotate_left; (focus (intro w0 hSw; (try dsimp only at hSw); go_simp; (try with_reducible rfl))); (try simp only [Act.put, List.setIfInBounds_toArray, List.set_cons_zero, List.set_cons_succ]))
          (refine Rg.tk (i := 8) (d := 31) (v := ?_) rfl rfl (by kernel_rfl) (by kernel_rfl) (by kernel_rfl) (fun _ _ _ h => h) (by rfl) ?_ (by assumption) ?_; rotate_left; (focus (intro w0 hSw; (try dsimp only at hSw); go_simp; (try with_reducible rfl))); (try simp only [Act.put, List.setIfInBounds_toArray, List.set_cons_zero, List.set_cons_succ]))
          (refine Rg.tk (i := 9) (d := 32) (v := ?_) rfl rfl (by kernel_rfl) (by kernel_rfl) (by kernel_rfl) (fun _ _ _ h => h) (by rfl) ?_ (by assumption) ?_; rotate_left; (focus (intro w0 hSw; (try dsimp only at hSw); go_simp; (try with_reducible rfl))); (try simp only [Act.put, List.setIfInBounds_toArray, List.set_cons_zero, List.set_cons_succ]))
          (refine Rg.tk (i := 10) (d := 33) (v := ?_) rfl rfl (by kernel_rfl) (by kernel_rfl) (by kernel_rfl) (fun _ _ _ h => h) (by rfl) ?_ (by assumption) ?_; rotate_left; (focus (intro w0 hSw; (try dsimp only at hSw); go_simp; (try with_reducible rfl))); (try simp only [Act.put, List.setIfInBounds_toArray, List.set_cons_zero, List.set_cons_succ]))
          (refine Rg.tk (i := 11) (d := 34) (v := ?_) rfl rfl (by kernel_rfl) (by kernel_rfl) (by kernel_rfl) (fun _ _ _ h => h) (by rfl) ?_ (by assumption) ?_; rotate_left; (focus (intro w0 hSw; (try dsimp only at hSw); go_simp; (try with_reducible rfl))); (try simp only [Act.put, List.setIfInBounds_toArray, List.set_cons_zero, List.set_cons_succ]))
          (refine Rg.tk (i := 12) (d := 35) (v := ?_) rfl rfl (by kernel_rfl) (by kernel_rfl) (by kernel_rfl) (fun _ _ _ h => h) (by rfl) ?_ (by assumption) ?_; rotate_left; (focus (intro w0 hSw; (try dsimp only at hSw); go_simp; (try with_reducible rfl))); (try simp only [Act.put, List.setIfInBounds_toArray, List.set_cons_zero, List.set_cons_succ]))
          (refine Rg.tk (i := 13) (d := 36) (v := ?_) rfl rfl (by kernel_rfl) (by kernel_rfl) (by kernel_rfl) (fun _ _ _ h => h) (by rfl) ?_ (by assumption) ?_; rotate_left; (focus (intro w0 hSw; (try dsimp only at hSw); go_simp; (try with_reducible rfl))); (try simp only [Act.put, List.setIfInBounds_toArray, List.set_cons_zero, List.set_cons_succ]))
          (refine Rg.tk (i := 14) (d := 37) (v := ?_) rfl rfl (by kernel_rfl) (by kernel_rfl) (by kernel_rfl) (fun _ _ _ h => h) (by rfl) ?_ (by assumption) ?_; rotate_left; (focus (intro w0 hSw; (try dsimp only at hSw); go_simp; (try with_reducible rfl))); (try simp only [Act.put, List.setIfInBounds_toArray, List.set_cons_zero, List.set_cons_succ]))
          (refine Rg.tk (i := 15) (d := 38) (v := ?_) rfl rfl (by kernel_rfl) (by kernel_rfl) (by kernel_rfl) (fun _ _ _ h => h) (by rfl) ?_ (by assumption) ?_; rotate_left; (focus (intro w0 hSw; (try dsimp only at hSw); go_simp; (try with_reducible rfl))); (try simp only [Act.put, List.setIfInBounds_toArray, List.set_cons_zero, List.set_cons_succ]))
          (refine Rg.tk (i := 16) (d := 39) (v := ?_) rfl rfl (by kernel_rfl) (by kernel_rfl) (by kernel_rfl) (fun _ _ _ h => h) (by rfl) ?_ (by assumption) ?_; rotate_left; (focus (intro w0 hSw; (try dsimp only at hSw); go_simp; (try with_reducible rfl))); (try simp only [Act.put, List.setIfInBounds_toArray, List.set_cons_zero, List.set_cons_succ]))
          (refine Rg.tk (i := 17) (d := 40) (v := ?_) rfl rfl (by kernel_rfl) (by kernel_rfl) (by kernel_rfl) (fun _ _ _ h => h) (by rfl) ?_ (by assumption) ?_; rotate_left; (focus (intro w0 hSw; (try dsimp only at hSw); go_simp; (try with_reducible rfl))); (try simp only [Act.put, List.setIfInBounds_toArray, List.set_cons_zero, List.set_cons_succ]))
          (refine Rg.tk (i := 18) (d := 41) (v := ?_) rfl rfl (by kernel_rfl) (by kernel_rfl) (by kernel_rfl) (fun _ _ _ h => h) (by rfl) ?_ (by assumption) ?_; rotate_left; (focus (intro w0 hSw; (try dsimp only at hSw); go_simp; (try with_reducible rfl))); (try simp only [Act.put, List.setIfInBounds_toArray, List.set_cons_zero, List.set_cons_succ]))
          refine wpAnyH_done (by kernel_rfl) (NoPanic.normal ?_) _
          have hb1 := hide ((unhide HB1).trans (((unhide HBL).drew.trans (b2.mono (by show w1.heap.size ≤ W0.heap.size; exact (unhide HBL).size))).mono (unhide HB1).size))
          go_wp2_with fail
          go_ret
          exact ⟨ret_bool (unhide HST).symm, unhide hb1⟩
    · obtain rfl : j = n := by omega
      go_wp2
      go_ret
      exact ⟨ret_bool (unhide HT (unhide hrl)).symm, (unhide HB1).trans ((unhide hbl).mono (unhide HB1).size)⟩
set_option maxRecDepth 100000 in
set_option maxHeartbeats 4000000 in
theorem l05Edges (a : Option Addr) (ms : List R) (cap : Nat) (w : World) (hm : ms.length ≤ 1048576) (hr : RM w a ms) :
    Calls Tryz.prog 68 #[.slice a ms.length cap] w fun e w' => e = .returned (.bool (allN ms ms.length)) ∧ ∃ q, w' = w.drewN q := by
  have HT : Hid (allN ms ms.length = true → ms.length ≤ 8) := hide all_len
  have HR := hide hr
  clear hr
  obtain ⟨A, hA⟩ : ∃ A, allN ms ms.length = A := ⟨_, rfl⟩
  have HA := hide hA
  rw [hA]
  clear hA
  generalize hN : ms.length = n at *
  have HN := hide hN
  clear hN
  go_enter Tryz.func68, Tryz.ntmps68
  go_wp2_with fail
  go_loopw [3] (fun i wr => ∃ j : Nat, j ≤ n ∧ i = .int .i64 j ∧ Hid (allN ms j = true) ∧ Hid (∃ q, wr = w.drewN q)) (fun i _ => n - (intOf i).toNat)
  case atStart => exact ⟨0, by omega, rfl, hide Ri.all_zero, hide ⟨0, rfl⟩⟩
  case round =>
    obtain ⟨j, hj, rfl, hrl, hq⟩ := hrel
    have HRr : Hid (RM wr a ms) := hide (by obtain ⟨q, e⟩ := unhide hq; rw [e]; exact unhide HR)
    have HD : Hid (∀ m, ∃ q, wr.drewN m = w.drewN q) := hide (fun m => by obtain ⟨q, e⟩ := unhide hq; exact ⟨_, by rw [e, World.drewN_drewN]⟩)
    by_cases hlt : (j : Int) < (n : Int)
    · have k0 : (0 : Int) ≤ (j : Int) := by omega
      have hlen : j < ms.length := by rw [unhide HN]; omega
      rcases unhide HRr with e0 | ⟨g, off, rfl, hc⟩
      · exfalso; rw [e0] at hlen; simp at hlen
      have HL := hide hlen
      have hA := hc j hlen
      cases hk : okN (ms.getD j R.zero)
      · clear hc
        have HST : Hid (A = false) := hide (by rw [← unhide HA, ← unhide HN]; exact Ri.all_no hlen (Ri.step_bad (key := R.ad) hk))
        generalize ms.getD j R.zero = m at *
        obtain ⟨ad, mt⟩ := m
        obtain ⟨c0, c1⟩ := hA
        dsimp only at c0 c1
        have hk' : (inB ad 1 8 && (inB mt 1 16744192 && exM mt)) = false := hk
        clear hk
        cases h1 : inB ad 1 8
        rotate_left
        cases h2 : inB mt 1 16744192
        rotate_left
        have hmt : 1 ≤ mt ∧ mt ≤ 16744192 := by simpa [inB] using h2
        have h3 : exM mt = false := by rw [h1, h2] at hk'; simpa using hk'
        all_goals
          clear hk'
          go_wp2_with fail
          go_quiet ((first | (go_at_call 62; exact Calls.quiet_of_same (l01Addr _ _)) | (go_at_call 63; exact Calls.quiet_of_same (l01In _ _ _ _)) | (go_at_call 71; exact Calls.quiet_of_same (l04Ex mt (by omega) (by omega) _))))
          go_wp2_with fail
          go_ret
          exact ⟨ret_bool (unhide HST).symm, unhide HD _⟩
      have hk' : (inB (ms.getD j R.zero).ad 1 8 && (inB (ms.getD j R.zero).mt 1 16744192 && exM (ms.getD j R.zero).mt)) = true := hk
      simp only [Bool.and_eq_true] at hk'
      obtain ⟨h1, h2, h3⟩ := hk'
      have hmt : 1 ≤ (ms.getD j R.zero).mt ∧ (ms.getD j R.zero).mt ≤ 16744192 := by simpa [inB] using h2
      have HO := hide hk
      clear hk
      by_cases hj0 : j = 0
      · subst hj0
        clear hc
        rw [Nat.zero_mul, Nat.add_zero] at hA
        have HST := hide (Ri.all_succ (unhide hrl) (Ri.step_zero (key := R.ad) (unhide HO)))
        generalize ms.getD 0 R.zero = m at *
        obtain ⟨ad, mt⟩ := m
        obtain ⟨c0, c1⟩ := hA
        dsimp only at c0 c1 h1 h2 h3 hmt
        go_wp2_with fail
        go_quiet ((first | (go_at_call 62; exact Calls.quiet_of_same (l01Addr _ _)) | (go_at_call 63; exact Calls.quiet_of_same (l01In _ _ _ _)) | (go_at_call 71; exact Calls.quiet_of_same (l04Ex mt (by omega) (by omega) _))))
        go_wp2_with fail
        go_roundw
        case rel => exact ⟨0 + 1, by omega, by go_num, HST, hide (unhide HD _)⟩
        case measure => simp [intOf]; omega
      · obtain ⟨i, hji⟩ : ∃ i, j = i + 1 := ⟨j - 1, by omega⟩
        have HJ := hide hji
        have e1 : (j : Int) - 1 = (i : Int) := by omega
        have i0 : (0 : Int) ≤ (i : Int) := by omega
        have wi : IntKind.i64.wrap (i : Int) = (i : Int) := by rw [IntKind.wrap_i64]; omega
        have i1 : (i : Int) < (n : Int) := by omega
        have j1 : (0 : Int) < (j : Int) := by omega
        have j2 : 0 < j := by omega
        have hP := hc i (by omega)
        have EJ : ms.getD j R.zero = ms.getD (i + 1) R.zero := by rw [hji]
        clear hc hji
        by_cases hk : (ms.getD i R.zero).ad < (ms.getD j R.zero).ad
        · have HST : Hid (allN ms (j + 1) = true) := hide (Ri.all_succ (unhide hrl) (by rw [unhide HJ]; exact Ri.step_lt (by rw [← EJ]; exact unhide HO) (by rw [← EJ]; exact hk)))
          clear EJ
          generalize ms.getD j R.zero = m at *
          generalize ms.getD i R.zero = m0 at *
          obtain ⟨ad, mt⟩ := m
          obtain ⟨ad0, mt0⟩ := m0
          obtain ⟨c0, c1⟩ := hA
          obtain ⟨d0, d1⟩ := hP
          dsimp only at hk c0 c1 d0 d1 h1 h2 h3 hmt
          go_wp2_with fail
          go_quiet ((first | (go_at_call 62; exact Calls.quiet_of_same (l01Addr _ _)) | (go_at_call 63; exact Calls.quiet_of_same (l01In _ _ _ _)) | (go_at_call 71; exact Calls.quiet_of_same (l04Ex mt (by omega) (by omega) _))))
          go_wp2_with fail
          go_roundw
          case rel => exact ⟨j + 1, by omega, by go_num, HST, hide (unhide HD _)⟩
          case measure => simp [intOf]; omega
        · have HST : Hid (A = false) := hide (by rw [← unhide HA, ← unhide HN]; exact Ri.all_no (unhide HL) (show Ri.step R.zero okN R.ad ms j = false by rw [unhide HJ]; exact Ri.step_ge (by rw [← EJ]; omega)))
          clear EJ
          generalize ms.getD j R.zero = m at *
          generalize ms.getD i R.zero = m0 at *
          obtain ⟨ad, mt⟩ := m
          obtain ⟨ad0, mt0⟩ := m0
          obtain ⟨c0, c1⟩ := hA
          obtain ⟨d0, d1⟩ := hP
          dsimp only at hk c0 c1 d0 d1 h1 h2 h3 hmt
          go_wp2_with fail
          go_quiet ((first | (go_at_call 62; exact Calls.quiet_of_same (l01Addr _ _)) | (go_at_call 63; exact Calls.quiet_of_same (l01In _ _ _ _)) | (go_at_call 71; exact Calls.quiet_of_same (l04Ex mt (by omega) (by omega) _))))
          go_wp2_with fail
          go_ret
          exact ⟨ret_bool (unhide HST).symm, unhide HD _⟩
    · obtain rfl : j = n := by omega
      have ht : A = true := by rw [← unhide HA, ← unhide hrl]
      have h8 := unhide HT (unhide hrl)
      have h8' : (j : Int) ≤ 8 := by omega
      have HST := hide ht
      clear ht
      go_wp2
      go_ret
      exact ⟨ret_bool (unhide HST).symm, unhide hq⟩
end Av
end Go.Proofs.YtilphgfjgeoiaaaGreat
namespace Go.Proofs.YtilphgfjgeoiaaaGreat
open Go.ChangeShapes Go.WideShapes Go.ChangeAt Go.RowKit
set_option linter.unusedVariables false
set_option linter.unusedSimpArgs false
set_option maxRecDepth 100000
attribute [local go_sem ↓] Go.wp_at_zero Go.wp_at_succ
namespace Rt
open W1
/-- Whether what a router keeps of a link can be advertised. -/
def outB (co sy : Int) : Bool := if (co == 0) = true then sy == 0 else Av.toldB co
def lkB (me : Int) (x : Lk.R) : Bool := !(x.ad == me) && outB x.co x.sy
def twB (me : Int) (m : Tu.R) : Bool := !(Tw.hv m == me) && !(Tw.ha m == me)
def lksB (me : Int) (ls : List Lk.R) : Bool := Ln.linksB ls && ls.all (lkB me)
def twoOf (me : Int) (tw : List Tu.R) : Bool := Tw.twoB tw && tw.all (twB me)
def rtrB (x1 x2 x3 x4 x5 x6 : Int) (ls : List Lk.R) (tw se du : List Tu.R) (ss : List So.R) (es : List Tu.R) (la : List Ed.R) : Bool :=
  inB x1 1 8 && (inB x2 0 7 && (inB x3 0 65535 && (inB x4 0 65535 && (inB x5 0 100000 && (inB x6 0 1000000 && (lksB x1 ls && (twoOf x1 tw && (St.setB se && (St.setB du && (Tp.topB ss es && (!(Tp.hasS ss x1) && Av.allN la la.length)))))))))))
theorem all_no {α : Type} {p : α → Bool} {z : α} {ms : List α} {j : Nat} (h : j < ms.length) (hp : p (ms.getD j z) = false) : ms.all p = false := by
  rw [List.all_eq_false]
  refine ⟨ms.getD j z, ?_, by rw [hp]; simp⟩
  rw [List.getD_eq_getElem?_getD, List.getElem?_eq_getElem h]; exact List.getElem_mem h
theorem all_step {α : Type} {p : α → Bool} {z : α} {ms : List α} {j : Nat} (h : j < ms.length) (ha : (ms.take j).all p = true) (hp : p (ms.getD j z) = true) : (ms.take (j + 1)).all p = true := by
  rw [List.take_add_one, List.getElem?_eq_getElem h, List.all_append, ha]
  rw [List.getD_eq_getElem?_getD, List.getElem?_eq_getElem h] at hp
  simpa using hp
set_option maxHeartbeats 2000000 in
theorem isOutOf (ad hd sy ci co wl : Int) (w : World) :
    Calls Tryz.prog 130 #[.agg #[.int .i64 ad, .int .i64 hd, .int .i64 sy, .int .i64 ci, .int .i64 co, .int .i64 wl]] w fun e w' => e = .returned (.bool (outB co sy)) ∧ Below w.heap.size w w' := by
  have E : Hid (outB co sy = if (co == 0) = true then sy == 0 else Av.toldB co) := hide rfl
  cases h1 : (co == 0)
  · go_enter Tryz.func130, Tryz.ntmps130
    go_wp2_with (go_at_call 165; refine (Av.isTold _ _).mono ?_; rintro e w' ⟨rfl, rfl⟩)
    go_ret
    exact ⟨ret_bool (by rw [unhide E, h1]; simp), (Below.refl _ _).alloc (Nat.le_refl _) _⟩
  · go_enter Tryz.func130, Tryz.ntmps130
    go_wp2_with fail
    go_ret
    exact ⟨ret_bool (by rw [unhide E, h1]; simp), (Below.refl _ _).alloc (Nat.le_refl _) _⟩
set_option maxHeartbeats 4000000 in
theorem areLinksOf (me : Int) (a : Option Addr) (ls : List Lk.R) (cap : Nat) (w : World) (hm : ls.length ≤ 1048576) (hr : Lk.RM w a ls) :
    Calls Tryz.prog 83 #[.int .i64 me, .slice a ls.length cap] w fun e w' => e = .returned (.bool (lksB me ls)) ∧ Below w.heap.size w w' := by
  have HR := hide hr
  clear hr
  have E : Hid (lksB me ls = (Ln.linksB ls && ls.all (lkB me))) := hide rfl
  have KL := hide (fun W => Ln.implOK a ls cap W hm)
  cases hl : Ln.linksB ls
  · have hv : lksB me ls = false := by rw [unhide E, hl]; rfl
    rw [hv]
    rw [hl] at KL
    clear hv hl
    go_enter Tryz.func83, Tryz.ntmps83
    go_wp2_with fail
    refine (unhide KL _ (unhide HR)).mono ?_
    rintro e w1 ⟨rfl, b1⟩
    have HB1 := hide b1
    clear b1
    go_wp2_with fail
    go_ret
    exact ⟨rfl, unhide HB1⟩
  have h8 := Ln.links_len hl
  have HE : Hid (lksB me ls = ls.all (lkB me)) := hide (by rw [unhide E, hl]; rfl)
  rw [hl] at KL
  clear hl E
  obtain ⟨A, hA⟩ : ∃ A, lksB me ls = A := ⟨_, rfl⟩
  rw [hA] at HE ⊢
  clear hA
  generalize hN : ls.length = n at *
  have HN := hide hN
  clear hN
  go_enter Tryz.func83, Tryz.ntmps83
  go_wp2_with fail
  refine (unhide KL _ (unhide HR)).mono ?_
  rintro e w1 ⟨rfl, b1⟩
  have HB1 := hide b1
  clear b1
  go_wp2_with fail
  go_loopw [12] (fun i wr => ∃ j : Nat, j ≤ n ∧ i = .int .i64 j ∧ Hid ((ls.take j).all (lkB me) = true) ∧ Hid (Below w.heap.size w wr)) (fun i _ => n - (intOf i).toNat)
  case atStart => exact ⟨0, by omega, rfl, hide rfl, HB1⟩
  case round =>
    obtain ⟨j, hj, rfl, hal, hbl⟩ := hrel
    have hbs := (unhide hbl).size
    by_cases hlt : (j : Int) < (n : Int)
    · have k0 : (0 : Int) ≤ (j : Int) := by omega
      have hlen : j < ls.length := by rw [unhide HN]; omega
      obtain ⟨g, off, rfl⟩ := (unhide HR).form (by omega)
      have hA := ((unhide HR).below (unhide hbl)).at hlen
      have HY : Hid (lkB me (ls.getD j Lk.R.zero) = true → (ls.take (j + 1)).all (lkB me) = true) := hide (fun h => all_step hlen (unhide hal) h)
      have HZ : Hid (lkB me (ls.getD j Lk.R.zero) = false → A = false) := hide (fun h => by rw [unhide HE]; exact all_no hlen h)
      generalize ls.getD j Lk.R.zero = m at *
      obtain ⟨ad, hd, sy, ci, co, wl⟩ := m
      obtain ⟨c0, c1, c2, c3, c4, c5⟩ := hA
      dsimp only at c0 c1 c2 c3 c4 c5
      have EK : Hid (lkB me ⟨ad, hd, sy, ci, co, wl⟩ = (!(ad == me) && outB co sy)) := hide rfl
      have HB2 := hide ((unhide hbl).alloc hbs (.cells #[.int .i64 ad, .int .i64 hd, .int .i64 sy, .int .i64 ci, .int .i64 co, .int .i64 wl] 105))
      cases q1 : (ad == me)
      · have KO := hide (isOutOf ad hd sy ci co wl)
        cases q2 : outB co sy
        · have hf := unhide HZ (by rw [unhide EK, q1, q2]; rfl)
          rw [q2] at KO
          clear q2 HY HZ EK
          go_wp2_with fail
          generalize hWW : wr.alloc (.cells #[.int .i64 ad, .int .i64 hd, .int .i64 sy, .int .i64 ci, .int .i64 co, .int .i64 wl] 105) = WW at *
          clear hWW c0 c1 c2 c3 c4 c5
          refine (unhide KO _).mono ?_
          rintro e w3 ⟨rfl, b3⟩
          have HB3 := hide ((unhide HB2).trans (b3.mono (unhide HB2).size))
          clear b3
          go_wp2_with fail
          go_ret
          exact ⟨ret_bool hf.symm, unhide HB3⟩
        · have hy := hide (unhide HY (by rw [unhide EK, q1, q2]; rfl))
          rw [q2] at KO
          clear q2 HY HZ EK
          go_wp2_with fail
          generalize hWW : wr.alloc (.cells #[.int .i64 ad, .int .i64 hd, .int .i64 sy, .int .i64 ci, .int .i64 co, .int .i64 wl] 105) = WW at *
          clear hWW c0 c1 c2 c3 c4 c5
          refine (unhide KO _).mono ?_
          rintro e w3 ⟨rfl, b3⟩
          have HB3 := hide ((unhide HB2).trans (b3.mono (unhide HB2).size))
          clear b3
          go_wp2_with fail
          go_roundw
          case rel => exact ⟨j + 1, by omega, by go_num, hy, HB3⟩
          case measure => simp [intOf]; omega
      · have hf := unhide HZ (by rw [unhide EK, q1]; rfl)
        clear HY HZ EK
        go_wp2_with fail
        go_ret
        exact ⟨ret_bool hf.symm, unhide HB2⟩
    · obtain rfl : j = n := by omega
      have e : ls.take j = ls := List.take_of_length_le (by rw [unhide HN]; exact Nat.le_refl _)
      have ht : A = true := by rw [unhide HE, ← e]; exact unhide hal
      have HT := hide ht
      clear e ht
      go_wp2_with fail
      go_ret
      exact ⟨ret_bool (unhide HT).symm, unhide hbl⟩
set_option maxHeartbeats 4000000 in
theorem areTwoOf (me : Int) (a : Option Addr) (tw : List Tu.R) (cap : Nat) (w : World) (hm : tw.length ≤ 1048576) (hr : Tu.RM w a tw) :
    Calls Tryz.prog 84 #[.int .i64 me, .slice a tw.length cap] w fun e w' => e = .returned (.bool (twoOf me tw)) ∧ Below w.heap.size w w' := by
  have HR := hide hr
  clear hr
  have E : Hid (twoOf me tw = (Tw.twoB tw && tw.all (twB me))) := hide rfl
  have KL := hide (fun W => Tw.areHops a tw cap W hm)
  cases hl : Tw.twoB tw
  · have hv : twoOf me tw = false := by rw [unhide E, hl]; rfl
    rw [hv]
    rw [hl] at KL
    clear hv hl
    go_enter Tryz.func84, Tryz.ntmps84
    go_wp2_with fail
    refine (unhide KL _ (unhide HR)).mono ?_
    rintro e w1 ⟨rfl, b1⟩
    have HB1 := hide b1
    clear b1
    go_wp2_with fail
    go_ret
    exact ⟨rfl, unhide HB1⟩
  have h62 := Tw.two_len hl
  have HTW := hide hl
  have HE : Hid (twoOf me tw = tw.all (twB me)) := hide (by rw [unhide E, hl]; rfl)
  rw [hl] at KL
  clear hl E
  obtain ⟨A, hA⟩ : ∃ A, twoOf me tw = A := ⟨_, rfl⟩
  rw [hA] at HE ⊢
  clear hA
  generalize hN : tw.length = n at *
  have HN := hide hN
  clear hN
  go_enter Tryz.func84, Tryz.ntmps84
  go_wp2_with fail
  refine (unhide KL _ (unhide HR)).mono ?_
  rintro e w1 ⟨rfl, b1⟩
  have HB1 := hide b1
  clear b1
  go_wp2_with fail
  go_loopw [13] (fun i wr => ∃ j : Nat, j ≤ n ∧ i = .int .i64 j ∧ Hid ((tw.take j).all (twB me) = true) ∧ Hid (Below w.heap.size w wr)) (fun i _ => n - (intOf i).toNat)
  case atStart => exact ⟨0, by omega, rfl, hide rfl, HB1⟩
  case round =>
    obtain ⟨j, hj, rfl, hal, hbl⟩ := hrel
    have hbs := (unhide hbl).size
    by_cases hlt : (j : Int) < (n : Int)
    · have k0 : (0 : Int) ≤ (j : Int) := by omega
      have hlen : j < tw.length := by rw [unhide HN]; omega
      obtain ⟨g, off, rfl⟩ := (unhide HR).form (by omega)
      have hA := ((unhide HR).below (unhide hbl)).at hlen
      have HY : Hid (twB me (tw.getD j Tu.R.zero) = true → (tw.take (j + 1)).all (twB me) = true) := hide (fun h => all_step hlen (unhide hal) h)
      have HZ : Hid (twB me (tw.getD j Tu.R.zero) = false → A = false) := hide (fun h => by rw [unhide HE]; exact all_no hlen h)
      have hbd := St.ok_bounds (St.setB_ok (Tw.two_set (unhide HTW)) hlen)
      generalize tw.getD j Tu.R.zero = m at *
      obtain ⟨key, til, val⟩ := m
      obtain ⟨c0, c1, c2⟩ := hA
      dsimp only at c0 c1 c2 hbd
      have EK : Hid (twB me ⟨key, til, val⟩ = (!(key.tdiv 100 == me) && !(key.tmod 100 == me))) := hide rfl
      have KH := hide (fun W => Tw.hopOfKey key W (by omega) (by omega))
      obtain ⟨kd, hkd⟩ : ∃ kd, key.tdiv 100 = kd := ⟨_, rfl⟩
      obtain ⟨km, hkm⟩ : ∃ km, key.tmod 100 = km := ⟨_, rfl⟩
      rw [hkd, hkm] at EK KH
      clear hkd hkm hbd
      have HB2 := hide ((unhide hbl).alloc hbs (.cells #[.int .i64 key, .int .i64 til, .int .i64 val] 113))
      go_wp2_with fail
      generalize hWW : wr.alloc (.cells #[.int .i64 key, .int .i64 til, .int .i64 val] 113) = WW at *
      clear hWW c0 c1 c2
      refine (unhide KH _).mono ?_
      rintro e w3 ⟨rfl, b3⟩
      have HB3 := hide (((unhide HB2).trans (b3.mono (unhide HB2).size)).alloc (Nat.le_trans (unhide HB2).size b3.size) (.cells #[.int .i64 kd, .int .i64 km] 157))
      clear b3
      cases q1 : (kd == me)
      · cases q2 : (km == me)
        · have hy := hide (unhide HY (by rw [unhide EK, q1, q2]; rfl))
          clear HY HZ EK
          go_wp2_with fail
          go_roundw
          case rel => exact ⟨j + 1, by omega, by go_num, hy, HB3⟩
          case measure => simp [intOf]; omega
        · have hf := unhide HZ (by rw [unhide EK, q1, q2]; rfl)
          clear HY HZ EK
          go_wp2_with fail
          go_ret
          exact ⟨ret_bool hf.symm, unhide HB3⟩
      · have hf := unhide HZ (by rw [unhide EK, q1]; rfl)
        clear HY HZ EK
        go_wp2_with fail
        go_ret
        exact ⟨ret_bool hf.symm, unhide HB3⟩
    · obtain rfl : j = n := by omega
      have e : tw.take j = tw := List.take_of_length_le (by rw [unhide HN]; exact Nat.le_refl _)
      have ht : A = true := by rw [unhide HE, ← e]; exact unhide hal
      have HT := hide ht
      clear e ht
      go_wp2_with fail
      go_ret
      exact ⟨ret_bool (unhide HT).symm, unhide hbl⟩
end Rt
end Go.Proofs.YtilphgfjgeoiaaaGreat
namespace Go.Proofs.YtilphgfjgeoiaaaGreat
open Go.ChangeShapes Go.WideShapes Go.ChangeAt Go.RowKit
set_option linter.unusedVariables false
set_option linter.unusedSimpArgs false
set_option maxRecDepth 100000
attribute [local go_sem ↓] Go.wp_at_zero Go.wp_at_succ
namespace Rt
open W1
theorem tc_all (la : List Ed.R) : Av.tcB 0 15 la = Av.allN la la.length := by
  have h : Tim.valB 15 = true := by decide
  unfold Av.tcB; rw [h]; rfl
def Al (w W : World) (cs : List Value) : Prop := Below w.heap.size w W ∧ RA W w.heap.size cs
theorem al_below {w W W' : World} {cs : List Value} (h : Al w W cs) (hb : Below W.heap.size W W') : Al w W' cs := ⟨h.1.trans (hb.mono h.1.size), h.2.below hb⟩
set_option maxHeartbeats 32000000 in
theorem implRtr (x1 x2 x3 x4 x5 x6 : Int) (a1 a2 a3 a4 a5 a6 a7 : Option Addr) (c1 c2 c3 c4 c5 c6 c7 : Nat) (ls : List Lk.R) (tw : List Tu.R) (se : List Tu.R) (du : List Tu.R) (ss : List So.R) (es : List Tu.R) (la : List Ed.R) (w : World) (hm1 : ls.length ≤ 1048576) (hm2 : tw.length ≤ 1048576) (hm3 : se.length ≤ 1048576) (hm4 : du.length ≤ 1048576) (hm5 : ss.length ≤ 1048576) (hm6 : es.length ≤ 1048576) (hm7 : la.length ≤ 1048576) (hr1 : Lk.RM w a1 ls) (hr2 : Tu.RM w a2 tw) (hr3 : Tu.RM w a3 se) (hr4 : Tu.RM w a4 du) (hr5 : So.RM w a5 ss) (hr6 : Tu.RM w a6 es) (hr7 : Ed.RM w a7 la) :
    Calls Tryz.prog 36 #[.agg #[.int .i64 x1, .int .i64 x2, .int .i64 x3, .int .i64 x4, .int .i64 x5, .slice a1 ls.length c1, .slice a2 tw.length c2, .slice a3 se.length c3, .slice a4 du.length c4, .slice a5 ss.length c5, .slice a6 es.length c6, .slice a7 la.length c7, .int .i64 x6]] w fun e w' => e = .returned (.bool (rtrB x1 x2 x3 x4 x5 x6 ls tw se du ss es la)) ∧ Below w.heap.size w w' := by
  have HAL : Hid (Al w (w.alloc (.cells #[.int .i64 x1, .int .i64 x2, .int .i64 x3, .int .i64 x4, .int .i64 x5, .slice a1 ls.length c1, .slice a2 tw.length c2, .slice a3 se.length c3, .slice a4 du.length c4, .slice a5 ss.length c5, .slice a6 es.length c6, .slice a7 la.length c7, .int .i64 x6] 43)) (rC x1 x2 x3 x4 x5 (.slice a1 ls.length c1) (.slice a2 tw.length c2) (.slice a3 se.length c3) (.slice a4 du.length c4) (.slice a5 ss.length c5) (.slice a6 es.length c6) (.slice a7 la.length c7) x6)) := hide ⟨(Below.refl _ _).alloc (Nat.le_refl _) _, ra_new w _ rfl _⟩
  have HR1 := hide hr1
  clear hr1
  have HR2 := hide hr2
  clear hr2
  have HR3 := hide hr3
  clear hr3
  have HR4 := hide hr4
  clear hr4
  have HR5 := hide hr5
  clear hr5
  have HR6 := hide hr6
  clear hr6
  have HR7 := hide hr7
  clear hr7
  have K7 := hide (fun W => areLinksOf x1 a1 ls c1 W hm1)
  have K8 := hide (fun W => areTwoOf x1 a2 tw c2 W hm2)
  have K9 := hide (fun W => St.implOK a3 se c3 W hm3)
  have K10 := hide (fun W => St.implOK a4 du c4 W hm4)
  have K11 := hide (fun W => Tp.implOK a5 ss c5 a6 es c6 W hm5 hm6)
  have K13 := hide (fun W => Av.implOK 0 15 a7 la c7 W hm7)
  rw [tc_all] at K13
  cases h1 : inB x1 1 8
  · have hv : rtrB x1 x2 x3 x4 x5 x6 ls tw se du ss es la = false := by unfold rtrB; rw [h1]; rfl
    rw [hv]
    clear hv
    skip
    go_enter Tryz.func36, Tryz.ntmps36
    go_wp2_with (first | (go_at_call 79; refine (isAddress _ _).mono ?_; rintro e w_ ⟨rfl, rfl⟩) | (go_at_call 80; refine (Ln.isWill _ _).mono ?_; rintro e w_ ⟨rfl, rfl⟩) | (go_at_call 81; refine (isSeq _ _).mono ?_; rintro e w_ ⟨rfl, rfl⟩) | (go_at_call 82; refine (within _ _ _ _).mono ?_; rintro e w_ ⟨rfl, rfl⟩))
    go_ret
    exact ⟨rfl, (unhide HAL).1⟩
  cases h2 : inB x2 0 7
  · have hv : rtrB x1 x2 x3 x4 x5 x6 ls tw se du ss es la = false := by unfold rtrB; rw [h1, h2]; rfl
    rw [hv]
    clear hv
    skip
    go_enter Tryz.func36, Tryz.ntmps36
    go_wp2_with (first | (go_at_call 79; refine (isAddress _ _).mono ?_; rintro e w_ ⟨rfl, rfl⟩) | (go_at_call 80; refine (Ln.isWill _ _).mono ?_; rintro e w_ ⟨rfl, rfl⟩) | (go_at_call 81; refine (isSeq _ _).mono ?_; rintro e w_ ⟨rfl, rfl⟩) | (go_at_call 82; refine (within _ _ _ _).mono ?_; rintro e w_ ⟨rfl, rfl⟩))
    go_ret
    exact ⟨rfl, (unhide HAL).1⟩
  cases h3 : inB x3 0 65535
  · have hv : rtrB x1 x2 x3 x4 x5 x6 ls tw se du ss es la = false := by unfold rtrB; rw [h1, h2, h3]; rfl
    rw [hv]
    clear hv
    skip
    go_enter Tryz.func36, Tryz.ntmps36
    go_wp2_with (first | (go_at_call 79; refine (isAddress _ _).mono ?_; rintro e w_ ⟨rfl, rfl⟩) | (go_at_call 80; refine (Ln.isWill _ _).mono ?_; rintro e w_ ⟨rfl, rfl⟩) | (go_at_call 81; refine (isSeq _ _).mono ?_; rintro e w_ ⟨rfl, rfl⟩) | (go_at_call 82; refine (within _ _ _ _).mono ?_; rintro e w_ ⟨rfl, rfl⟩))
    go_ret
    exact ⟨rfl, (unhide HAL).1⟩
  cases h4 : inB x4 0 65535
  · have hv : rtrB x1 x2 x3 x4 x5 x6 ls tw se du ss es la = false := by unfold rtrB; rw [h1, h2, h3, h4]; rfl
    rw [hv]
    clear hv
    skip
    go_enter Tryz.func36, Tryz.ntmps36
    go_wp2_with (first | (go_at_call 79; refine (isAddress _ _).mono ?_; rintro e w_ ⟨rfl, rfl⟩) | (go_at_call 80; refine (Ln.isWill _ _).mono ?_; rintro e w_ ⟨rfl, rfl⟩) | (go_at_call 81; refine (isSeq _ _).mono ?_; rintro e w_ ⟨rfl, rfl⟩) | (go_at_call 82; refine (within _ _ _ _).mono ?_; rintro e w_ ⟨rfl, rfl⟩))
    go_ret
    exact ⟨rfl, (unhide HAL).1⟩
  cases h5 : inB x5 0 100000
  · have hv : rtrB x1 x2 x3 x4 x5 x6 ls tw se du ss es la = false := by unfold rtrB; rw [h1, h2, h3, h4, h5]; rfl
    rw [hv]
    clear hv
    skip
    go_enter Tryz.func36, Tryz.ntmps36
    go_wp2_with (first | (go_at_call 79; refine (isAddress _ _).mono ?_; rintro e w_ ⟨rfl, rfl⟩) | (go_at_call 80; refine (Ln.isWill _ _).mono ?_; rintro e w_ ⟨rfl, rfl⟩) | (go_at_call 81; refine (isSeq _ _).mono ?_; rintro e w_ ⟨rfl, rfl⟩) | (go_at_call 82; refine (within _ _ _ _).mono ?_; rintro e w_ ⟨rfl, rfl⟩))
    go_ret
    exact ⟨rfl, (unhide HAL).1⟩
  cases h6 : inB x6 0 1000000
  · have hv : rtrB x1 x2 x3 x4 x5 x6 ls tw se du ss es la = false := by unfold rtrB; rw [h1, h2, h3, h4, h5, h6]; rfl
    rw [hv]
    clear hv
    skip
    go_enter Tryz.func36, Tryz.ntmps36
    go_wp2_with (first | (go_at_call 79; refine (isAddress _ _).mono ?_; rintro e w_ ⟨rfl, rfl⟩) | (go_at_call 80; refine (Ln.isWill _ _).mono ?_; rintro e w_ ⟨rfl, rfl⟩) | (go_at_call 81; refine (isSeq _ _).mono ?_; rintro e w_ ⟨rfl, rfl⟩) | (go_at_call 82; refine (within _ _ _ _).mono ?_; rintro e w_ ⟨rfl, rfl⟩))
    go_ret
    exact ⟨rfl, (unhide HAL).1⟩
  cases h7 : lksB x1 ls
  · have hv : rtrB x1 x2 x3 x4 x5 x6 ls tw se du ss es la = false := by unfold rtrB; rw [h1, h2, h3, h4, h5, h6, h7]; rfl
    rw [hv]
    clear hv
    rw [h7] at K7
    clear h7
    go_enter Tryz.func36, Tryz.ntmps36
    go_wp2_with (first | (go_at_call 79; refine (isAddress _ _).mono ?_; rintro e w_ ⟨rfl, rfl⟩) | (go_at_call 80; refine (Ln.isWill _ _).mono ?_; rintro e w_ ⟨rfl, rfl⟩) | (go_at_call 81; refine (isSeq _ _).mono ?_; rintro e w_ ⟨rfl, rfl⟩) | (go_at_call 82; refine (within _ _ _ _).mono ?_; rintro e w_ ⟨rfl, rfl⟩))
    clear h1 h2 h3 h4 h5 h6
    generalize hW0 : w.alloc (.cells #[.int .i64 x1, .int .i64 x2, .int .i64 x3, .int .i64 x4, .int .i64 x5, .slice a1 ls.length c1, .slice a2 tw.length c2, .slice a3 se.length c3, .slice a4 du.length c4, .slice a5 ss.length c5, .slice a6 es.length c6, .slice a7 la.length c7, .int .i64 x6] 43) = W0 at *
    clear hW0
    refine (unhide K7 _ ((unhide HR1).below (unhide HAL).1)).mono ?_
    rintro e V7 ⟨rfl, b_⟩
    replace HAL := hide (al_below (unhide HAL) b_)
    clear b_
    go_wp2_with fail
    go_ret
    exact ⟨rfl, (unhide HAL).1⟩
  cases h8 : twoOf x1 tw
  · have hv : rtrB x1 x2 x3 x4 x5 x6 ls tw se du ss es la = false := by unfold rtrB; rw [h1, h2, h3, h4, h5, h6, h7, h8]; rfl
    rw [hv]
    clear hv
    rw [h7] at K7
    rw [h8] at K8
    clear h7 h8
    go_enter Tryz.func36, Tryz.ntmps36
    go_wp2_with (first | (go_at_call 79; refine (isAddress _ _).mono ?_; rintro e w_ ⟨rfl, rfl⟩) | (go_at_call 80; refine (Ln.isWill _ _).mono ?_; rintro e w_ ⟨rfl, rfl⟩) | (go_at_call 81; refine (isSeq _ _).mono ?_; rintro e w_ ⟨rfl, rfl⟩) | (go_at_call 82; refine (within _ _ _ _).mono ?_; rintro e w_ ⟨rfl, rfl⟩))
    clear h1 h2 h3 h4 h5 h6
    generalize hW0 : w.alloc (.cells #[.int .i64 x1, .int .i64 x2, .int .i64 x3, .int .i64 x4, .int .i64 x5, .slice a1 ls.length c1, .slice a2 tw.length c2, .slice a3 se.length c3, .slice a4 du.length c4, .slice a5 ss.length c5, .slice a6 es.length c6, .slice a7 la.length c7, .int .i64 x6] 43) = W0 at *
    clear hW0
    refine (unhide K7 _ ((unhide HR1).below (unhide HAL).1)).mono ?_
    rintro e V7 ⟨rfl, b_⟩
    replace HAL := hide (al_below (unhide HAL) b_)
    clear b_
    have z0 := (unhide HAL).2.at (i := 0) rfl
    have z6 := (unhide HAL).2.at (i := 6) rfl
    go_wp2_with fail
    clear z0 z6
    refine (unhide K8 _ ((unhide HR2).below (unhide HAL).1)).mono ?_
    rintro e V8 ⟨rfl, b_⟩
    replace HAL := hide (al_below (unhide HAL) b_)
    clear b_
    go_wp2_with fail
    go_ret
    exact ⟨rfl, (unhide HAL).1⟩
  cases h9 : St.setB se
  · have hv : rtrB x1 x2 x3 x4 x5 x6 ls tw se du ss es la = false := by unfold rtrB; rw [h1, h2, h3, h4, h5, h6, h7, h8, h9]; rfl
    rw [hv]
    clear hv
    rw [h7] at K7
    rw [h8] at K8
    rw [h9] at K9
    clear h7 h8 h9
    go_enter Tryz.func36, Tryz.ntmps36
    go_wp2_with (first | (go_at_call 79; refine (isAddress _ _).mono ?_; rintro e w_ ⟨rfl, rfl⟩) | (go_at_call 80; refine (Ln.isWill _ _).mono ?_; rintro e w_ ⟨rfl, rfl⟩) | (go_at_call 81; refine (isSeq _ _).mono ?_; rintro e w_ ⟨rfl, rfl⟩) | (go_at_call 82; refine (within _ _ _ _).mono ?_; rintro e w_ ⟨rfl, rfl⟩))
    clear h1 h2 h3 h4 h5 h6
    generalize hW0 : w.alloc (.cells #[.int .i64 x1, .int .i64 x2, .int .i64 x3, .int .i64 x4, .int .i64 x5, .slice a1 ls.length c1, .slice a2 tw.length c2, .slice a3 se.length c3, .slice a4 du.length c4, .slice a5 ss.length c5, .slice a6 es.length c6, .slice a7 la.length c7, .int .i64 x6] 43) = W0 at *
    clear hW0
    refine (unhide K7 _ ((unhide HR1).below (unhide HAL).1)).mono ?_
    rintro e V7 ⟨rfl, b_⟩
    replace HAL := hide (al_below (unhide HAL) b_)
    clear b_
    have z0 := (unhide HAL).2.at (i := 0) rfl
    have z6 := (unhide HAL).2.at (i := 6) rfl
    go_wp2_with fail
    clear z0 z6
    refine (unhide K8 _ ((unhide HR2).below (unhide HAL).1)).mono ?_
    rintro e V8 ⟨rfl, b_⟩
    replace HAL := hide (al_below (unhide HAL) b_)
    clear b_
    have z7 := (unhide HAL).2.at (i := 7) rfl
    go_wp2_with fail
    clear z7
    refine (unhide K9 _ ((unhide HR3).below (unhide HAL).1)).mono ?_
    rintro e V9 ⟨rfl, b_⟩
    replace HAL := hide (al_below (unhide HAL) b_)
    clear b_
    go_wp2_with fail
    go_ret
    exact ⟨rfl, (unhide HAL).1⟩
  cases h10 : St.setB du
  · have hv : rtrB x1 x2 x3 x4 x5 x6 ls tw se du ss es la = false := by unfold rtrB; rw [h1, h2, h3, h4, h5, h6, h7, h8, h9, h10]; rfl
    rw [hv]
    clear hv
    rw [h7] at K7
    rw [h8] at K8
    rw [h9] at K9
    rw [h10] at K10
    clear h7 h8 h9 h10
    go_enter Tryz.func36, Tryz.ntmps36
    go_wp2_with (first | (go_at_call 79; refine (isAddress _ _).mono ?_; rintro e w_ ⟨rfl, rfl⟩) | (go_at_call 80; refine (Ln.isWill _ _).mono ?_; rintro e w_ ⟨rfl, rfl⟩) | (go_at_call 81; refine (isSeq _ _).mono ?_; rintro e w_ ⟨rfl, rfl⟩) | (go_at_call 82; refine (within _ _ _ _).mono ?_; rintro e w_ ⟨rfl, rfl⟩))
    clear h1 h2 h3 h4 h5 h6
    generalize hW0 : w.alloc (.cells #[.int .i64 x1, .int .i64 x2, .int .i64 x3, .int .i64 x4, .int .i64 x5, .slice a1 ls.length c1, .slice a2 tw.length c2, .slice a3 se.length c3, .slice a4 du.length c4, .slice a5 ss.length c5, .slice a6 es.length c6, .slice a7 la.length c7, .int .i64 x6] 43) = W0 at *
    clear hW0
    refine (unhide K7 _ ((unhide HR1).below (unhide HAL).1)).mono ?_
    rintro e V7 ⟨rfl, b_⟩
    replace HAL := hide (al_below (unhide HAL) b_)
    clear b_
    have z0 := (unhide HAL).2.at (i := 0) rfl
    have z6 := (unhide HAL).2.at (i := 6) rfl
    go_wp2_with fail
    clear z0 z6
    refine (unhide K8 _ ((unhide HR2).below (unhide HAL).1)).mono ?_
    rintro e V8 ⟨rfl, b_⟩
    replace HAL := hide (al_below (unhide HAL) b_)
    clear b_
    have z7 := (unhide HAL).2.at (i := 7) rfl
    go_wp2_with fail
    clear z7
    refine (unhide K9 _ ((unhide HR3).below (unhide HAL).1)).mono ?_
    rintro e V9 ⟨rfl, b_⟩
    replace HAL := hide (al_below (unhide HAL) b_)
    clear b_
    have z8 := (unhide HAL).2.at (i := 8) rfl
    go_wp2_with fail
    clear z8
    refine (unhide K10 _ ((unhide HR4).below (unhide HAL).1)).mono ?_
    rintro e V10 ⟨rfl, b_⟩
    replace HAL := hide (al_below (unhide HAL) b_)
    clear b_
    go_wp2_with fail
    go_ret
    exact ⟨rfl, (unhide HAL).1⟩
  cases h11 : Tp.topB ss es
  · have hv : rtrB x1 x2 x3 x4 x5 x6 ls tw se du ss es la = false := by unfold rtrB; rw [h1, h2, h3, h4, h5, h6, h7, h8, h9, h10, h11]; rfl
    rw [hv]
    clear hv
    rw [h7] at K7
    rw [h8] at K8
    rw [h9] at K9
    rw [h10] at K10
    rw [h11] at K11
    clear h7 h8 h9 h10 h11
    go_enter Tryz.func36, Tryz.ntmps36
    go_wp2_with (first | (go_at_call 79; refine (isAddress _ _).mono ?_; rintro e w_ ⟨rfl, rfl⟩) | (go_at_call 80; refine (Ln.isWill _ _).mono ?_; rintro e w_ ⟨rfl, rfl⟩) | (go_at_call 81; refine (isSeq _ _).mono ?_; rintro e w_ ⟨rfl, rfl⟩) | (go_at_call 82; refine (within _ _ _ _).mono ?_; rintro e w_ ⟨rfl, rfl⟩))
    clear h1 h2 h3 h4 h5 h6
    generalize hW0 : w.alloc (.cells #[.int .i64 x1, .int .i64 x2, .int .i64 x3, .int .i64 x4, .int .i64 x5, .slice a1 ls.length c1, .slice a2 tw.length c2, .slice a3 se.length c3, .slice a4 du.length c4, .slice a5 ss.length c5, .slice a6 es.length c6, .slice a7 la.length c7, .int .i64 x6] 43) = W0 at *
    clear hW0
    refine (unhide K7 _ ((unhide HR1).below (unhide HAL).1)).mono ?_
    rintro e V7 ⟨rfl, b_⟩
    replace HAL := hide (al_below (unhide HAL) b_)
    clear b_
    have z0 := (unhide HAL).2.at (i := 0) rfl
    have z6 := (unhide HAL).2.at (i := 6) rfl
    go_wp2_with fail
    clear z0 z6
    refine (unhide K8 _ ((unhide HR2).below (unhide HAL).1)).mono ?_
    rintro e V8 ⟨rfl, b_⟩
    replace HAL := hide (al_below (unhide HAL) b_)
    clear b_
    have z7 := (unhide HAL).2.at (i := 7) rfl
    go_wp2_with fail
    clear z7
    refine (unhide K9 _ ((unhide HR3).below (unhide HAL).1)).mono ?_
    rintro e V9 ⟨rfl, b_⟩
    replace HAL := hide (al_below (unhide HAL) b_)
    clear b_
    have z8 := (unhide HAL).2.at (i := 8) rfl
    go_wp2_with fail
    clear z8
    refine (unhide K10 _ ((unhide HR4).below (unhide HAL).1)).mono ?_
    rintro e V10 ⟨rfl, b_⟩
    replace HAL := hide (al_below (unhide HAL) b_)
    clear b_
    have z9 := (unhide HAL).2.at (i := 9) rfl
    have z10 := (unhide HAL).2.at (i := 10) rfl
    go_wp2_with fail
    clear z9 z10
    refine (unhide K11 _ ((unhide HR5).below (unhide HAL).1) ((unhide HR6).below (unhide HAL).1)).mono ?_
    rintro e V11 ⟨rfl, b_⟩
    replace HAL := hide (al_below (unhide HAL) b_)
    clear b_
    go_wp2_with fail
    go_ret
    exact ⟨rfl, (unhide HAL).1⟩
  have K12 := hide (fun W h => Tp.hasSource a5 ss c5 x1 W h (Tp.up_src (Tp.top_src h11)) (by have := Tp.src_len (Tp.top_src h11); omega))
  cases h12 : Tp.hasS ss x1
  rotate_left
  · have hv : rtrB x1 x2 x3 x4 x5 x6 ls tw se du ss es la = false := by unfold rtrB; rw [h1, h2, h3, h4, h5, h6, h7, h8, h9, h10, h11, h12]; rfl
    rw [hv]
    clear hv
    rw [h7] at K7
    rw [h8] at K8
    rw [h9] at K9
    rw [h10] at K10
    rw [h11] at K11
    rw [h12] at K12
    clear h7 h8 h9 h10 h11 h12
    go_enter Tryz.func36, Tryz.ntmps36
    go_wp2_with (first | (go_at_call 79; refine (isAddress _ _).mono ?_; rintro e w_ ⟨rfl, rfl⟩) | (go_at_call 80; refine (Ln.isWill _ _).mono ?_; rintro e w_ ⟨rfl, rfl⟩) | (go_at_call 81; refine (isSeq _ _).mono ?_; rintro e w_ ⟨rfl, rfl⟩) | (go_at_call 82; refine (within _ _ _ _).mono ?_; rintro e w_ ⟨rfl, rfl⟩))
    clear h1 h2 h3 h4 h5 h6
    generalize hW0 : w.alloc (.cells #[.int .i64 x1, .int .i64 x2, .int .i64 x3, .int .i64 x4, .int .i64 x5, .slice a1 ls.length c1, .slice a2 tw.length c2, .slice a3 se.length c3, .slice a4 du.length c4, .slice a5 ss.length c5, .slice a6 es.length c6, .slice a7 la.length c7, .int .i64 x6] 43) = W0 at *
    clear hW0
    refine (unhide K7 _ ((unhide HR1).below (unhide HAL).1)).mono ?_
    rintro e V7 ⟨rfl, b_⟩
    replace HAL := hide (al_below (unhide HAL) b_)
    clear b_
    have z0 := (unhide HAL).2.at (i := 0) rfl
    have z6 := (unhide HAL).2.at (i := 6) rfl
    go_wp2_with fail
    clear z0 z6
    refine (unhide K8 _ ((unhide HR2).below (unhide HAL).1)).mono ?_
    rintro e V8 ⟨rfl, b_⟩
    replace HAL := hide (al_below (unhide HAL) b_)
    clear b_
    have z7 := (unhide HAL).2.at (i := 7) rfl
    go_wp2_with fail
    clear z7
    refine (unhide K9 _ ((unhide HR3).below (unhide HAL).1)).mono ?_
    rintro e V9 ⟨rfl, b_⟩
    replace HAL := hide (al_below (unhide HAL) b_)
    clear b_
    have z8 := (unhide HAL).2.at (i := 8) rfl
    go_wp2_with fail
    clear z8
    refine (unhide K10 _ ((unhide HR4).below (unhide HAL).1)).mono ?_
    rintro e V10 ⟨rfl, b_⟩
    replace HAL := hide (al_below (unhide HAL) b_)
    clear b_
    have z9 := (unhide HAL).2.at (i := 9) rfl
    have z10 := (unhide HAL).2.at (i := 10) rfl
    go_wp2_with fail
    clear z9 z10
    refine (unhide K11 _ ((unhide HR5).below (unhide HAL).1) ((unhide HR6).below (unhide HAL).1)).mono ?_
    rintro e V11 ⟨rfl, b_⟩
    replace HAL := hide (al_below (unhide HAL) b_)
    clear b_
    have z9 := (unhide HAL).2.at (i := 9) rfl
    have z0 := (unhide HAL).2.at (i := 0) rfl
    go_wp2_with fail
    clear z9 z0
    refine (unhide K12 _ ((unhide HR5).below (unhide HAL).1)).mono ?_
    rintro e V12 ⟨rfl, b_⟩
    replace HAL := hide (al_below (unhide HAL) b_)
    clear b_
    go_wp2_with fail
    go_ret
    exact ⟨rfl, (unhide HAL).1⟩
  cases h13 : Av.allN la la.length
  · have hv : rtrB x1 x2 x3 x4 x5 x6 ls tw se du ss es la = false := by unfold rtrB; rw [h1, h2, h3, h4, h5, h6, h7, h8, h9, h10, h11, h12, h13]; rfl
    rw [hv]
    clear hv
    rw [h7] at K7
    rw [h8] at K8
    rw [h9] at K9
    rw [h10] at K10
    rw [h11] at K11
    rw [h12] at K12
    rw [h13] at K13
    clear h7 h8 h9 h10 h11 h12 h13
    go_enter Tryz.func36, Tryz.ntmps36
    go_wp2_with (first | (go_at_call 79; refine (isAddress _ _).mono ?_; rintro e w_ ⟨rfl, rfl⟩) | (go_at_call 80; refine (Ln.isWill _ _).mono ?_; rintro e w_ ⟨rfl, rfl⟩) | (go_at_call 81; refine (isSeq _ _).mono ?_; rintro e w_ ⟨rfl, rfl⟩) | (go_at_call 82; refine (within _ _ _ _).mono ?_; rintro e w_ ⟨rfl, rfl⟩))
    clear h1 h2 h3 h4 h5 h6
    generalize hW0 : w.alloc (.cells #[.int .i64 x1, .int .i64 x2, .int .i64 x3, .int .i64 x4, .int .i64 x5, .slice a1 ls.length c1, .slice a2 tw.length c2, .slice a3 se.length c3, .slice a4 du.length c4, .slice a5 ss.length c5, .slice a6 es.length c6, .slice a7 la.length c7, .int .i64 x6] 43) = W0 at *
    clear hW0
    refine (unhide K7 _ ((unhide HR1).below (unhide HAL).1)).mono ?_
    rintro e V7 ⟨rfl, b_⟩
    replace HAL := hide (al_below (unhide HAL) b_)
    clear b_
    have z0 := (unhide HAL).2.at (i := 0) rfl
    have z6 := (unhide HAL).2.at (i := 6) rfl
    go_wp2_with fail
    clear z0 z6
    refine (unhide K8 _ ((unhide HR2).below (unhide HAL).1)).mono ?_
    rintro e V8 ⟨rfl, b_⟩
    replace HAL := hide (al_below (unhide HAL) b_)
    clear b_
    have z7 := (unhide HAL).2.at (i := 7) rfl
    go_wp2_with fail
    clear z7
    refine (unhide K9 _ ((unhide HR3).below (unhide HAL).1)).mono ?_
    rintro e V9 ⟨rfl, b_⟩
    replace HAL := hide (al_below (unhide HAL) b_)
    clear b_
    have z8 := (unhide HAL).2.at (i := 8) rfl
    go_wp2_with fail
    clear z8
    refine (unhide K10 _ ((unhide HR4).below (unhide HAL).1)).mono ?_
    rintro e V10 ⟨rfl, b_⟩
    replace HAL := hide (al_below (unhide HAL) b_)
    clear b_
    have z9 := (unhide HAL).2.at (i := 9) rfl
    have z10 := (unhide HAL).2.at (i := 10) rfl
    go_wp2_with fail
    clear z9 z10
    refine (unhide K11 _ ((unhide HR5).below (unhide HAL).1) ((unhide HR6).below (unhide HAL).1)).mono ?_
    rintro e V11 ⟨rfl, b_⟩
    replace HAL := hide (al_below (unhide HAL) b_)
    clear b_
    have z9 := (unhide HAL).2.at (i := 9) rfl
    have z0 := (unhide HAL).2.at (i := 0) rfl
    go_wp2_with fail
    clear z9 z0
    refine (unhide K12 _ ((unhide HR5).below (unhide HAL).1)).mono ?_
    rintro e V12 ⟨rfl, b_⟩
    replace HAL := hide (al_below (unhide HAL) b_)
    clear b_
    have z11 := (unhide HAL).2.at (i := 11) rfl
    go_wp2_with fail
    clear z11
    refine (unhide K13 _ ((unhide HR7).below (unhide HAL).1)).mono ?_
    rintro e V13 ⟨rfl, b_⟩
    replace HAL := hide (al_below (unhide HAL) b_)
    clear b_
    go_wp2_with fail
    go_ret
    exact ⟨rfl, (unhide HAL).1⟩
  have hv : rtrB x1 x2 x3 x4 x5 x6 ls tw se du ss es la = true := by unfold rtrB; rw [h1, h2, h3, h4, h5, h6, h7, h8, h9, h10, h11, h12, h13]; rfl
  rw [hv]
  clear hv
  rw [h7] at K7
  rw [h8] at K8
  rw [h9] at K9
  rw [h10] at K10
  rw [h11] at K11
  rw [h12] at K12
  rw [h13] at K13
  clear h7 h8 h9 h10 h11 h12 h13
  go_enter Tryz.func36, Tryz.ntmps36
  go_wp2_with (first | (go_at_call 79; refine (isAddress _ _).mono ?_; rintro e w_ ⟨rfl, rfl⟩) | (go_at_call 80; refine (Ln.isWill _ _).mono ?_; rintro e w_ ⟨rfl, rfl⟩) | (go_at_call 81; refine (isSeq _ _).mono ?_; rintro e w_ ⟨rfl, rfl⟩) | (go_at_call 82; refine (within _ _ _ _).mono ?_; rintro e w_ ⟨rfl, rfl⟩))
  clear h1 h2 h3 h4 h5 h6
  generalize hW0 : w.alloc (.cells #[.int .i64 x1, .int .i64 x2, .int .i64 x3, .int .i64 x4, .int .i64 x5, .slice a1 ls.length c1, .slice a2 tw.length c2, .slice a3 se.length c3, .slice a4 du.length c4, .slice a5 ss.length c5, .slice a6 es.length c6, .slice a7 la.length c7, .int .i64 x6] 43) = W0 at *
  clear hW0
  refine (unhide K7 _ ((unhide HR1).below (unhide HAL).1)).mono ?_
  rintro e V7 ⟨rfl, b_⟩
  replace HAL := hide (al_below (unhide HAL) b_)
  clear b_
  have z0 := (unhide HAL).2.at (i := 0) rfl
  have z6 := (unhide HAL).2.at (i := 6) rfl
  go_wp2_with fail
  clear z0 z6
  refine (unhide K8 _ ((unhide HR2).below (unhide HAL).1)).mono ?_
  rintro e V8 ⟨rfl, b_⟩
  replace HAL := hide (al_below (unhide HAL) b_)
  clear b_
  have z7 := (unhide HAL).2.at (i := 7) rfl
  go_wp2_with fail
  clear z7
  refine (unhide K9 _ ((unhide HR3).below (unhide HAL).1)).mono ?_
  rintro e V9 ⟨rfl, b_⟩
  replace HAL := hide (al_below (unhide HAL) b_)
  clear b_
  have z8 := (unhide HAL).2.at (i := 8) rfl
  go_wp2_with fail
  clear z8
  refine (unhide K10 _ ((unhide HR4).below (unhide HAL).1)).mono ?_
  rintro e V10 ⟨rfl, b_⟩
  replace HAL := hide (al_below (unhide HAL) b_)
  clear b_
  have z9 := (unhide HAL).2.at (i := 9) rfl
  have z10 := (unhide HAL).2.at (i := 10) rfl
  go_wp2_with fail
  clear z9 z10
  refine (unhide K11 _ ((unhide HR5).below (unhide HAL).1) ((unhide HR6).below (unhide HAL).1)).mono ?_
  rintro e V11 ⟨rfl, b_⟩
  replace HAL := hide (al_below (unhide HAL) b_)
  clear b_
  have z9 := (unhide HAL).2.at (i := 9) rfl
  have z0 := (unhide HAL).2.at (i := 0) rfl
  go_wp2_with fail
  clear z9 z0
  refine (unhide K12 _ ((unhide HR5).below (unhide HAL).1)).mono ?_
  rintro e V12 ⟨rfl, b_⟩
  replace HAL := hide (al_below (unhide HAL) b_)
  clear b_
  have z11 := (unhide HAL).2.at (i := 11) rfl
  go_wp2_with fail
  clear z11
  refine (unhide K13 _ ((unhide HR7).below (unhide HAL).1)).mono ?_
  rintro e V13 ⟨rfl, b_⟩
  replace HAL := hide (al_below (unhide HAL) b_)
  clear b_
  go_wp2_with fail
  go_ret
  exact ⟨rfl, (unhide HAL).1⟩
end Rt
end Go.Proofs.YtilphgfjgeoiaaaGreat
namespace Go.Proofs.YtilphgfjgeoiaaaGreat
open Go.ChangeShapes Go.WideShapes Go.ChangeAt Go.RowKit
set_option linter.unusedVariables false
set_option linter.unusedSimpArgs false
attribute [local go_sem ↓] Go.wp_at_zero Go.wp_at_succ
namespace Ln
open W1 Lk
def isAd (k : Int) (m : R) : Bool := m.ad == k
def lkF (ms : List R) (k : Int) : R := (ms.find? (isAd k)).getD R.zero
/-- A link's block that may be written. -/
def LV (w : World) (b : Nat) (m : R) : Prop := w.heap[b]? = some (.cells #[.int .i64 m.ad, .int .i64 m.hd, .int .i64 m.sy, .int .i64 m.ci, .int .i64 m.co, .int .i64 m.wl] 105 (0, 0))
theorem LV.cells {w : World} {b : Nat} {m : R} (h : LV w b m) : At w b 0 m := by
  unfold LV at h; refine ⟨?_, ?_, ?_, ?_, ?_, ?_⟩ <;> simp [World.cell?, h]
theorem LV.free {w : World} {b : Nat} {m : R} (h : LV w b m) (i : Nat) : w.frozen? ⟨b, i, none⟩ = false := by unfold LV at h; simp [World.frozen?, h]
theorem LV.lt {w : World} {b : Nat} {m : R} (h : LV w b m) : b < w.heap.size := by
  rcases Nat.lt_or_ge b w.heap.size with hlt | hge
  · exact hlt
  · unfold LV at h; rw [Array.getElem?_eq_none hge] at h; cases h
theorem LV.below {w w' : World} {b : Nat} {m : R} (h : LV w b m) (hb : Below w.heap.size w w') : LV w' b m := (hb.block b h.lt).trans h
theorem lv_new (w : World) (m : R) : LV (w.alloc (.cells #[.int .i64 m.ad, .int .i64 m.hd, .int .i64 m.sy, .int .i64 m.ci, .int .i64 m.co, .int .i64 m.wl] 105)) w.heap.size m := heap_alloc_new w _
end Ln
end Go.Proofs.YtilphgfjgeoiaaaGreat
namespace Go.Proofs.YtilphgfjgeoiaaaGreat
open Go.ChangeShapes Go.WideShapes Go.ChangeAt Go.RowKit
set_option linter.unusedVariables false
set_option linter.unusedSimpArgs false
attribute [local go_sem ↓] Go.wp_at_zero Go.wp_at_succ
namespace Ln
open W1 Lk
set_option maxRecDepth 100000 in
set_option maxHeartbeats 4000000 in
theorem l06Find (a : Option Addr) (ms : List R) (cap : Nat) (k : Int) (w : World) (hm : ms.length ≤ 1048576) (hr : RM w a ms) :
    Calls Tryz.prog 69 #[.slice a ms.length cap, .int .i64 k] w fun e w' => e = .returned (.tuple #[(lkF ms k).value, .bool (ms.find? (isAd k)).isSome]) ∧ Below w.heap.size w w' := by
  have HA : Hid (Below w.heap.size w (w.alloc (.cells #[.int .i64 0, .int .i64 0, .int .i64 0, .int .i64 0, .int .i64 0, .int .i64 0] 105))) := hide ((Below.refl _ _).alloc (Nat.le_refl _) _)
  have HV : Hid (LV (w.alloc (.cells #[.int .i64 0, .int .i64 0, .int .i64 0, .int .i64 0, .int .i64 0, .int .i64 0] 105)) w.heap.size R.zero) := hide (lv_new w R.zero)
  have HR := hide ((hr).below (unhide HA))
  clear hr
  have HT : Hid (∀ j, j < ms.length → (∀ i, i < j → isAd k (ms.getD i R.zero) = false) → isAd k (ms.getD j R.zero) = true → lkF ms k = ms.getD j R.zero ∧ (ms.find? (isAd k)).isSome = true) := hide (fun j hj h1 h2 => by
    have hf := Ri.find_at (z := R.zero) (isAd k) ms j hj h1 h2
    unfold lkF; rw [hf]; exact ⟨rfl, rfl⟩)
  have HN : Hid ((∀ i, i < ms.length → isAd k (ms.getD i R.zero) = false) → lkF ms k = R.zero ∧ (ms.find? (isAd k)).isSome = false) := hide (fun h1 => by
    have hf := Ri.find_no (z := R.zero) (isAd k) ms h1
    unfold lkF; rw [hf]; exact ⟨rfl, rfl⟩)
  obtain ⟨A, hA⟩ : ∃ A, lkF ms k = A := ⟨_, rfl⟩
  obtain ⟨E, hE⟩ : ∃ E, (ms.find? (isAd k)).isSome = E := ⟨_, rfl⟩
  rw [hA, hE] at HT HN ⊢
  clear hA hE
  generalize hN : ms.length = n at *
  have HL := hide hN
  clear hN
  go_enter Tryz.func69, Tryz.ntmps69
  go_wp2_with fail
  generalize hW : w.alloc (.cells #[.int .i64 0, .int .i64 0, .int .i64 0, .int .i64 0, .int .i64 0, .int .i64 0] 105) = W0 at *
  clear hW
  go_loopw [6] (fun i wr => ∃ j : Nat, j ≤ n ∧ i = .int .i64 j ∧ Hid (∀ i, i < j → isAd k (ms.getD i R.zero) = false) ∧ W0 = wr) (fun i _ => n - (intOf i).toNat)
  case atStart => exact ⟨0, by omega, rfl, hide (fun i hi => by omega), rfl⟩
  case round =>
    obtain ⟨j, hj, rfl, hrl, rfl⟩ := hrel
    obtain ⟨x0, x1, x2, x3, x4, x5⟩ := (unhide HV).cells
    simp only [Nat.zero_add] at x1 x2 x3 x4 x5
    have y0 := (unhide HV).free 0
    have y1 := (unhide HV).free 1
    have y2 := (unhide HV).free 2
    have y3 := (unhide HV).free 3
    have y4 := (unhide HV).free 4
    have y5 := (unhide HV).free 5
    unfold R.zero at x0 x1 x2 x3 x4 x5
    dsimp only at x0 x1 x2 x3 x4 x5
    by_cases hlt : (j : Int) < (n : Int)
    · have k0 : (0 : Int) ≤ (j : Int) := by omega
      have hlen : j < ms.length := by rw [unhide HL]; omega
      rcases (unhide HR) with e0 | ⟨g, off, rfl, hc⟩
      · exfalso; rw [e0] at hlen; simp at hlen
      have hA := hc j hlen
      clear hc
      cases hk : isAd k (ms.getD j R.zero)
      · have HST : Hid (∀ i, i < j + 1 → isAd k (ms.getD i R.zero) = false) := hide (fun i hi => by
          by_cases e : i = j
          · subst e; exact hk
          · exact unhide hrl i (by omega))
        have hne : ((ms.getD j R.zero).ad == k) = false := hk
        clear hk
        generalize ms.getD j R.zero = m at *
        obtain ⟨ad, hd, sy, ci, co, wl⟩ := m
        obtain ⟨c0, c1, c2, c3, c4, c5⟩ := hA
        dsimp only at c0 c1 c2 c3 c4 c5 hne
        go_wp2_with fail
        go_roundw
        case rel => exact ⟨j + 1, by omega, by go_num, HST, trivial⟩
        case measure => simp [intOf]; omega
      · have HAE := hide (unhide HT j (by have := unhide HL; omega) (unhide hrl) hk)
        have hne : ((ms.getD j R.zero).ad == k) = true := hk
        clear hk
        generalize ms.getD j R.zero = m at *
        obtain ⟨ad, hd, sy, ci, co, wl⟩ := m
        obtain ⟨c0, c1, c2, c3, c4, c5⟩ := hA
        dsimp only at c0 c1 c2 c3 c4 c5 hne
        go_wp2_with fail
        refine bodyPost_ret (v := .tuple #[.agg #[.int .i64 ad, .int .i64 hd, .int .i64 sy, .int .i64 ci, .int .i64 co, .int .i64 wl], .bool true]) (by simp [results, Tryz.results69, go_sem, x0, x1, x2, x3, x4, x5]) rfl ⟨by rw [(unhide HAE).1, (unhide HAE).2]; rfl, ?_⟩
        have hB := unhide HA
        (repeat (first | (with_reducible exact hB) | (with_reducible refine Below.drew ?_) | (with_reducible refine Below.setCell ?_ ?_ _; rotate_left; (first | exact Nat.le_refl _ | (simp; done) | (dsimp only; omega))) | (with_reducible refine Below.alloc ?_ ?_ _; rotate_left; (first | exact Nat.le_refl _ | omega | (simp [World.setCell]; omega)))))
    · obtain rfl : j = n := by omega
      have HAE := hide (unhide HN (unhide hrl))
      go_wp2_with fail
      refine bodyPost_ret (v := .tuple #[.agg #[.int .i64 0, .int .i64 0, .int .i64 0, .int .i64 0, .int .i64 0, .int .i64 0], .bool false]) (by simp [results, Tryz.results69, go_sem, x0, x1, x2, x3, x4, x5]) rfl ⟨by rw [(unhide HAE).1, (unhide HAE).2]; rfl, ?_⟩
      have hB := unhide HA
      (repeat (first | (with_reducible exact hB) | (with_reducible refine Below.drew ?_) | (with_reducible refine Below.setCell ?_ ?_ _; rotate_left; (first | exact Nat.le_refl _ | (simp; done) | (dsimp only; omega))) | (with_reducible refine Below.alloc ?_ ?_ _; rotate_left; (first | exact Nat.le_refl _ | omega | (simp [World.setCell]; omega)))))
end Ln
end Go.Proofs.YtilphgfjgeoiaaaGreat
namespace Go.Proofs.YtilphgfjgeoiaaaGreat
open Go.ChangeShapes Go.WideShapes Go.ChangeAt Go.RowKit
set_option linter.unusedVariables false
set_option linter.unusedSimpArgs false
set_option maxRecDepth 100000
attribute [local go_sem ↓] Go.wp_at_zero Go.wp_at_succ
namespace Rt
open W1
set_option maxHeartbeats 400000 in
theorem l04ExM (n : Int) (h0 : 1 ≤ n) (h1 : n ≤ 16776960) (w : World) : Calls Tryz.prog 71 #[.int .i64 n] w fun e w' => e = .returned (.bool (Av.exM n)) ∧ w' = w := by
  have hk := (Mtr.mcode_is (n := n) (by omega) (by omega)).1
  have E : Hid (Av.exM n = (Mtr.met (Mtr.mcode n) == n)) := hide rfl
  generalize hq : Mtr.mcode n = k at *
  have HQ := hide hq
  clear hq
  cases hx : Mtr.met k == n
  all_goals
    go_enter Tryz.func71, Tryz.ntmps71
    go_wp2_with (first | (go_at_call 121; refine (Mtr.l02MetricCodeE n (by omega) (by omega) _).mono ?_; rintro e w' ⟨rfl, rfl⟩; rw [unhide HQ]) | (go_at_call 120; refine (Mtr.l02Metric k hk _).mono ?_; rintro e w' ⟨rfl, rfl⟩))
    go_ret
    exact ⟨ret_bool (by rw [unhide E, hx]), rfl⟩
def obB (x : Lk.R) : Bool := outB x.co x.sy
theorem lks_found {me : Int} {ls : List Lk.R} (h : (ls.find? (Ln.isAd me)).isSome = true) : lksB me ls = false := by
  obtain ⟨x, hx⟩ := Option.isSome_iff_exists.1 h
  have h1 := List.mem_of_find?_eq_some hx
  have h2 := List.find?_some hx
  unfold lksB
  have : ls.all (lkB me) = false := by
    rw [List.all_eq_false]
    refine ⟨x, h1, ?_⟩
    unfold Ln.isAd at h2
    unfold lkB; rw [h2]; simp
  rw [this, Bool.and_false]
theorem lks_all {me : Int} {ls : List Lk.R} (hl : Ln.linksB ls = true) (h : (ls.find? (Ln.isAd me)).isSome = false) : lksB me ls = ls.all obB := by
  have hn : ∀ x ∈ ls, (x.ad == me) = false := by
    intro x hx
    have h' : ls.find? (Ln.isAd me) = none := by cases e : ls.find? (Ln.isAd me) <;> simp_all
    have := List.find?_eq_none.1 h' x hx
    unfold Ln.isAd at this
    simpa using this
  unfold lksB; rw [hl, Bool.true_and]
  cases e : ls.all obB
  · rw [List.all_eq_false] at e ⊢
    obtain ⟨x, hx, hb⟩ := e
    exact ⟨x, hx, by unfold lkB; unfold obB at hb; rw [hn x hx]; simpa using hb⟩
  · rw [List.all_eq_true] at e ⊢
    intro x hx
    have := e x hx
    unfold obB at this
    unfold lkB; rw [hn x hx, this]; rfl
theorem bel_drewN (w : World) (n : Nat) : Below w.heap.size w (w.drewN n) := by
  have h := Below.refl w.heap.size w
  exact ⟨h.os, h.tape, h.output, h.size, h.block⟩
/-- The ways of a link's numbers. -/
theorem ob_ways {co sy : Int} (h0 : 0 ≤ co) (h1 : co ≤ 16744448) (hs : 0 ≤ sy) :
    (co = 0 ∧ sy = 0 ∧ outB co sy = true) ∨ (co = 0 ∧ 0 < sy ∧ outB co sy = false) ∨ (0 < co ∧ Av.exM co = false ∧ outB co sy = false) ∨ (0 < co ∧ Av.exM co = true ∧ 16744192 < co ∧ outB co sy = false) ∨ (0 < co ∧ Av.exM co = true ∧ ¬ 16744192 < co ∧ outB co sy = true) := by
  by_cases e : co = 0
  · subst e
    by_cases e2 : sy = 0
    · subst e2; exact .inl ⟨rfl, rfl, rfl⟩
    · exact .inr (.inl ⟨rfl, by omega, by unfold outB; simp [e2]⟩)
  · have hc : (co == 0) = false := by simpa using e
    cases ex : Av.exM co
    · exact .inr (.inr (.inl ⟨by omega, rfl, by unfold outB Av.toldB; rw [hc, ex]; simp⟩))
    · by_cases e3 : 16744192 < co
      · exact .inr (.inr (.inr (.inl ⟨by omega, rfl, e3, by unfold outB Av.toldB inB; rw [hc, ex]; simp; omega⟩)))
      · exact .inr (.inr (.inr (.inr ⟨by omega, rfl, e3, by unfold outB Av.toldB inB; rw [hc, ex]; simp; omega⟩)))
set_option maxHeartbeats 32000000 in
theorem specRtr (x1 x2 x3 x4 x5 x6 : Int) (a1 a2 a3 a4 a5 a6 a7 : Option Addr) (c1 c2 c3 c4 c5 c6 c7 : Nat) (ls : List Lk.R) (tw : List Tu.R) (se : List Tu.R) (du : List Tu.R) (ss : List So.R) (es : List Tu.R) (la : List Ed.R) (w : World) (hm1 : ls.length ≤ 1048576) (hm2 : tw.length ≤ 1048576) (hm3 : se.length ≤ 1048576) (hm4 : du.length ≤ 1048576) (hm5 : ss.length ≤ 1048576) (hm6 : es.length ≤ 1048576) (hm7 : la.length ≤ 1048576) (hr1 : Lk.RM w a1 ls) (hr2 : Tu.RM w a2 tw) (hr3 : Tu.RM w a3 se) (hr4 : Tu.RM w a4 du) (hr5 : So.RM w a5 ss) (hr6 : Tu.RM w a6 es) (hr7 : Ed.RM w a7 la) :
    Calls Tryz.prog 30 #[.agg #[.int .i64 x1, .int .i64 x2, .int .i64 x3, .int .i64 x4, .int .i64 x5, .slice a1 ls.length c1, .slice a2 tw.length c2, .slice a3 se.length c3, .slice a4 du.length c4, .slice a5 ss.length c5, .slice a6 es.length c6, .slice a7 la.length c7, .int .i64 x6]] w fun e w' => e = .returned (.bool (rtrB x1 x2 x3 x4 x5 x6 ls tw se du ss es la)) ∧ Below w.heap.size w w' := by
  have HAL : Hid (Al w (w.alloc (.cells #[.int .i64 x1, .int .i64 x2, .int .i64 x3, .int .i64 x4, .int .i64 x5, .slice a1 ls.length c1, .slice a2 tw.length c2, .slice a3 se.length c3, .slice a4 du.length c4, .slice a5 ss.length c5, .slice a6 es.length c6, .slice a7 la.length c7, .int .i64 x6] 43)) (rC x1 x2 x3 x4 x5 (.slice a1 ls.length c1) (.slice a2 tw.length c2) (.slice a3 se.length c3) (.slice a4 du.length c4) (.slice a5 ss.length c5) (.slice a6 es.length c6) (.slice a7 la.length c7) x6)) := hide ⟨(Below.refl _ _).alloc (Nat.le_refl _) _, ra_new w _ rfl _⟩
  have HR1 := hide hr1
  clear hr1
  have HR2 := hide hr2
  clear hr2
  have HR3 := hide hr3
  clear hr3
  have HR4 := hide hr4
  clear hr4
  have HR5 := hide hr5
  clear hr5
  have HR6 := hide hr6
  clear hr6
  have HR7 := hide hr7
  clear hr7
  have K7 := hide (fun W => Ln.specOK a1 ls c1 W hm1)
  have K8 := hide (fun W => Tw.l07OK a2 tw c2 W hm2)
  have K9 := hide (fun W => St.specOK a3 se c3 W hm3)
  have K10 := hide (fun W => St.specOK a4 du c4 W hm4)
  have K11 := hide (fun W => Tp.specOK a5 ss c5 a6 es c6 W hm5 hm6)
  have K12 := hide (fun W => Av.l05Edges a7 la c7 W hm7)
  have K13 := hide (fun W => Ln.l06Find a1 ls c1 x1 W hm1)
  have K14 := hide (fun W => Tp.l09Find a5 ss c5 (.slice a6 es.length c6) x1 W hm5)
  obtain ⟨y1, y2, y3, y4, y5, y6, hy⟩ : ∃ y1 y2 y3 y4 y5 y6, Ln.lkF ls x1 = ⟨y1, y2, y3, y4, y5, y6⟩ := ⟨_, _, _, _, _, _, rfl⟩
  obtain ⟨v1, v2, v3, hu⟩ : ∃ v1 v2 v3, Tp.fS ss x1 = ⟨v1, v2, v3⟩ := ⟨_, _, _, rfl⟩
  rw [hy] at K13
  rw [hu] at K14
  dsimp only [Lk.R.value] at K13
  dsimp only [So.R.value] at K14
  clear hy hu
  cases h1 : inB x1 1 8
  · have hv : rtrB x1 x2 x3 x4 x5 x6 ls tw se du ss es la = false := by unfold rtrB; rw [h1]; rfl
    rw [hv]
    clear hv
    go_enter Tryz.func30, Tryz.ntmps30
    go_wp2_with (first | (go_at_call 62; refine (l01Addr _ _).mono ?_; rintro e w_ ⟨rfl, rfl⟩) | (go_at_call 63; refine (l01In _ _ _ _).mono ?_; rintro e w_ ⟨rfl, rfl⟩))
    go_ret
    exact ⟨rfl, (unhide HAL).1⟩
  cases h2 : inB x2 0 7
  · have hv : rtrB x1 x2 x3 x4 x5 x6 ls tw se du ss es la = false := by unfold rtrB; rw [h1, h2]; rfl
    rw [hv]
    clear hv
    go_enter Tryz.func30, Tryz.ntmps30
    go_wp2_with (first | (go_at_call 62; refine (l01Addr _ _).mono ?_; rintro e w_ ⟨rfl, rfl⟩) | (go_at_call 63; refine (l01In _ _ _ _).mono ?_; rintro e w_ ⟨rfl, rfl⟩))
    go_ret
    exact ⟨rfl, (unhide HAL).1⟩
  cases h3 : inB x3 0 65535
  · have hv : rtrB x1 x2 x3 x4 x5 x6 ls tw se du ss es la = false := by unfold rtrB; rw [h1, h2, h3]; rfl
    rw [hv]
    clear hv
    go_enter Tryz.func30, Tryz.ntmps30
    go_wp2_with (first | (go_at_call 62; refine (l01Addr _ _).mono ?_; rintro e w_ ⟨rfl, rfl⟩) | (go_at_call 63; refine (l01In _ _ _ _).mono ?_; rintro e w_ ⟨rfl, rfl⟩))
    go_ret
    exact ⟨rfl, (unhide HAL).1⟩
  cases h4 : inB x4 0 65535
  · have hv : rtrB x1 x2 x3 x4 x5 x6 ls tw se du ss es la = false := by unfold rtrB; rw [h1, h2, h3, h4]; rfl
    rw [hv]
    clear hv
    go_enter Tryz.func30, Tryz.ntmps30
    go_wp2_with (first | (go_at_call 62; refine (l01Addr _ _).mono ?_; rintro e w_ ⟨rfl, rfl⟩) | (go_at_call 63; refine (l01In _ _ _ _).mono ?_; rintro e w_ ⟨rfl, rfl⟩))
    go_ret
    exact ⟨rfl, (unhide HAL).1⟩
  cases h5 : inB x5 0 100000
  · have hv : rtrB x1 x2 x3 x4 x5 x6 ls tw se du ss es la = false := by unfold rtrB; rw [h1, h2, h3, h4, h5]; rfl
    rw [hv]
    clear hv
    go_enter Tryz.func30, Tryz.ntmps30
    go_wp2_with (first | (go_at_call 62; refine (l01Addr _ _).mono ?_; rintro e w_ ⟨rfl, rfl⟩) | (go_at_call 63; refine (l01In _ _ _ _).mono ?_; rintro e w_ ⟨rfl, rfl⟩))
    go_ret
    exact ⟨rfl, (unhide HAL).1⟩
  cases h6 : inB x6 0 1000000
  · have hv : rtrB x1 x2 x3 x4 x5 x6 ls tw se du ss es la = false := by unfold rtrB; rw [h1, h2, h3, h4, h5, h6]; rfl
    rw [hv]
    clear hv
    go_enter Tryz.func30, Tryz.ntmps30
    go_wp2_with (first | (go_at_call 62; refine (l01Addr _ _).mono ?_; rintro e w_ ⟨rfl, rfl⟩) | (go_at_call 63; refine (l01In _ _ _ _).mono ?_; rintro e w_ ⟨rfl, rfl⟩))
    go_ret
    exact ⟨rfl, (unhide HAL).1⟩
  cases h7 : Ln.linksB ls
  · have e7 : lksB x1 ls = false := by unfold lksB; rw [h7]; rfl
    have hv : rtrB x1 x2 x3 x4 x5 x6 ls tw se du ss es la = false := by unfold rtrB; rw [e7]; simp
    clear e7
    rw [hv]
    clear hv
    rw [h7] at K7
    clear h7
    go_enter Tryz.func30, Tryz.ntmps30
    go_wp2_with (first | (go_at_call 62; refine (l01Addr _ _).mono ?_; rintro e w_ ⟨rfl, rfl⟩) | (go_at_call 63; refine (l01In _ _ _ _).mono ?_; rintro e w_ ⟨rfl, rfl⟩))
    clear h1 h2 h3 h4 h5 h6
    generalize hW0 : w.alloc (.cells #[.int .i64 x1, .int .i64 x2, .int .i64 x3, .int .i64 x4, .int .i64 x5, .slice a1 ls.length c1, .slice a2 tw.length c2, .slice a3 se.length c3, .slice a4 du.length c4, .slice a5 ss.length c5, .slice a6 es.length c6, .slice a7 la.length c7, .int .i64 x6] 43) = W0 at *
    clear hW0
    refine (unhide K7 _ ((unhide HR1).below (unhide HAL).1)).mono ?_
    rintro e V7 ⟨rfl, b_⟩
    replace HAL := hide (al_below (unhide HAL) b_)
    clear b_
    go_wp2_with fail
    go_ret
    exact ⟨rfl, (unhide HAL).1⟩
  cases h8 : Tw.twoB tw
  · have e8 : twoOf x1 tw = false := by unfold twoOf; rw [h8]; rfl
    have hv : rtrB x1 x2 x3 x4 x5 x6 ls tw se du ss es la = false := by unfold rtrB; rw [e8]; simp
    clear e8
    rw [hv]
    clear hv
    rw [h7] at K7
    rw [h8] at K8
    clear h7 h8
    go_enter Tryz.func30, Tryz.ntmps30
    go_wp2_with (first | (go_at_call 62; refine (l01Addr _ _).mono ?_; rintro e w_ ⟨rfl, rfl⟩) | (go_at_call 63; refine (l01In _ _ _ _).mono ?_; rintro e w_ ⟨rfl, rfl⟩))
    clear h1 h2 h3 h4 h5 h6
    generalize hW0 : w.alloc (.cells #[.int .i64 x1, .int .i64 x2, .int .i64 x3, .int .i64 x4, .int .i64 x5, .slice a1 ls.length c1, .slice a2 tw.length c2, .slice a3 se.length c3, .slice a4 du.length c4, .slice a5 ss.length c5, .slice a6 es.length c6, .slice a7 la.length c7, .int .i64 x6] 43) = W0 at *
    clear hW0
    refine (unhide K7 _ ((unhide HR1).below (unhide HAL).1)).mono ?_
    rintro e V7 ⟨rfl, b_⟩
    replace HAL := hide (al_below (unhide HAL) b_)
    clear b_
    have z6 := (unhide HAL).2.at (i := 6) rfl
    go_wp2_with fail
    clear z6
    refine (unhide K8 _ ((unhide HR2).below (unhide HAL).1)).mono ?_
    rintro e V8 ⟨rfl, b_⟩
    replace HAL := hide (al_below (unhide HAL) b_)
    clear b_
    go_wp2_with fail
    go_ret
    exact ⟨rfl, (unhide HAL).1⟩
  cases h9 : St.setB se
  · have hv : rtrB x1 x2 x3 x4 x5 x6 ls tw se du ss es la = false := by unfold rtrB; rw [h9]; simp
    rw [hv]
    clear hv
    rw [h7] at K7
    rw [h8] at K8
    rw [h9] at K9
    clear h7 h8 h9
    go_enter Tryz.func30, Tryz.ntmps30
    go_wp2_with (first | (go_at_call 62; refine (l01Addr _ _).mono ?_; rintro e w_ ⟨rfl, rfl⟩) | (go_at_call 63; refine (l01In _ _ _ _).mono ?_; rintro e w_ ⟨rfl, rfl⟩))
    clear h1 h2 h3 h4 h5 h6
    generalize hW0 : w.alloc (.cells #[.int .i64 x1, .int .i64 x2, .int .i64 x3, .int .i64 x4, .int .i64 x5, .slice a1 ls.length c1, .slice a2 tw.length c2, .slice a3 se.length c3, .slice a4 du.length c4, .slice a5 ss.length c5, .slice a6 es.length c6, .slice a7 la.length c7, .int .i64 x6] 43) = W0 at *
    clear hW0
    refine (unhide K7 _ ((unhide HR1).below (unhide HAL).1)).mono ?_
    rintro e V7 ⟨rfl, b_⟩
    replace HAL := hide (al_below (unhide HAL) b_)
    clear b_
    have z6 := (unhide HAL).2.at (i := 6) rfl
    go_wp2_with fail
    clear z6
    refine (unhide K8 _ ((unhide HR2).below (unhide HAL).1)).mono ?_
    rintro e V8 ⟨rfl, b_⟩
    replace HAL := hide (al_below (unhide HAL) b_)
    clear b_
    have z7 := (unhide HAL).2.at (i := 7) rfl
    go_wp2_with fail
    clear z7
    refine (unhide K9 _ ((unhide HR3).below (unhide HAL).1)).mono ?_
    rintro e V9 ⟨rfl, b_⟩
    replace HAL := hide (al_below (unhide HAL) b_)
    clear b_
    go_wp2_with fail
    go_ret
    exact ⟨rfl, (unhide HAL).1⟩
  cases h10 : St.setB du
  · have hv : rtrB x1 x2 x3 x4 x5 x6 ls tw se du ss es la = false := by unfold rtrB; rw [h10]; simp
    rw [hv]
    clear hv
    rw [h7] at K7
    rw [h8] at K8
    rw [h9] at K9
    rw [h10] at K10
    clear h7 h8 h9 h10
    go_enter Tryz.func30, Tryz.ntmps30
    go_wp2_with (first | (go_at_call 62; refine (l01Addr _ _).mono ?_; rintro e w_ ⟨rfl, rfl⟩) | (go_at_call 63; refine (l01In _ _ _ _).mono ?_; rintro e w_ ⟨rfl, rfl⟩))
    clear h1 h2 h3 h4 h5 h6
    generalize hW0 : w.alloc (.cells #[.int .i64 x1, .int .i64 x2, .int .i64 x3, .int .i64 x4, .int .i64 x5, .slice a1 ls.length c1, .slice a2 tw.length c2, .slice a3 se.length c3, .slice a4 du.length c4, .slice a5 ss.length c5, .slice a6 es.length c6, .slice a7 la.length c7, .int .i64 x6] 43) = W0 at *
    clear hW0
    refine (unhide K7 _ ((unhide HR1).below (unhide HAL).1)).mono ?_
    rintro e V7 ⟨rfl, b_⟩
    replace HAL := hide (al_below (unhide HAL) b_)
    clear b_
    have z6 := (unhide HAL).2.at (i := 6) rfl
    go_wp2_with fail
    clear z6
    refine (unhide K8 _ ((unhide HR2).below (unhide HAL).1)).mono ?_
    rintro e V8 ⟨rfl, b_⟩
    replace HAL := hide (al_below (unhide HAL) b_)
    clear b_
    have z7 := (unhide HAL).2.at (i := 7) rfl
    go_wp2_with fail
    clear z7
    refine (unhide K9 _ ((unhide HR3).below (unhide HAL).1)).mono ?_
    rintro e V9 ⟨rfl, b_⟩
    replace HAL := hide (al_below (unhide HAL) b_)
    clear b_
    have z8 := (unhide HAL).2.at (i := 8) rfl
    go_wp2_with fail
    clear z8
    refine (unhide K10 _ ((unhide HR4).below (unhide HAL).1)).mono ?_
    rintro e V10 ⟨rfl, b_⟩
    replace HAL := hide (al_below (unhide HAL) b_)
    clear b_
    go_wp2_with fail
    go_ret
    exact ⟨rfl, (unhide HAL).1⟩
  cases h11 : Tp.topB ss es
  · have hv : rtrB x1 x2 x3 x4 x5 x6 ls tw se du ss es la = false := by unfold rtrB; rw [h11]; simp
    rw [hv]
    clear hv
    rw [h7] at K7
    rw [h8] at K8
    rw [h9] at K9
    rw [h10] at K10
    rw [h11] at K11
    clear h7 h8 h9 h10 h11
    go_enter Tryz.func30, Tryz.ntmps30
    go_wp2_with (first | (go_at_call 62; refine (l01Addr _ _).mono ?_; rintro e w_ ⟨rfl, rfl⟩) | (go_at_call 63; refine (l01In _ _ _ _).mono ?_; rintro e w_ ⟨rfl, rfl⟩))
    clear h1 h2 h3 h4 h5 h6
    generalize hW0 : w.alloc (.cells #[.int .i64 x1, .int .i64 x2, .int .i64 x3, .int .i64 x4, .int .i64 x5, .slice a1 ls.length c1, .slice a2 tw.length c2, .slice a3 se.length c3, .slice a4 du.length c4, .slice a5 ss.length c5, .slice a6 es.length c6, .slice a7 la.length c7, .int .i64 x6] 43) = W0 at *
    clear hW0
    refine (unhide K7 _ ((unhide HR1).below (unhide HAL).1)).mono ?_
    rintro e V7 ⟨rfl, b_⟩
    replace HAL := hide (al_below (unhide HAL) b_)
    clear b_
    have z6 := (unhide HAL).2.at (i := 6) rfl
    go_wp2_with fail
    clear z6
    refine (unhide K8 _ ((unhide HR2).below (unhide HAL).1)).mono ?_
    rintro e V8 ⟨rfl, b_⟩
    replace HAL := hide (al_below (unhide HAL) b_)
    clear b_
    have z7 := (unhide HAL).2.at (i := 7) rfl
    go_wp2_with fail
    clear z7
    refine (unhide K9 _ ((unhide HR3).below (unhide HAL).1)).mono ?_
    rintro e V9 ⟨rfl, b_⟩
    replace HAL := hide (al_below (unhide HAL) b_)
    clear b_
    have z8 := (unhide HAL).2.at (i := 8) rfl
    go_wp2_with fail
    clear z8
    refine (unhide K10 _ ((unhide HR4).below (unhide HAL).1)).mono ?_
    rintro e V10 ⟨rfl, b_⟩
    replace HAL := hide (al_below (unhide HAL) b_)
    clear b_
    have z9 := (unhide HAL).2.at (i := 9) rfl
    have z10 := (unhide HAL).2.at (i := 10) rfl
    go_wp2_with fail
    clear z9 z10
    refine (unhide K11 _ ((unhide HR5).below (unhide HAL).1) ((unhide HR6).below (unhide HAL).1)).mono ?_
    rintro e V11 ⟨rfl, b_⟩
    replace HAL := hide (al_below (unhide HAL) b_)
    clear b_
    go_wp2_with fail
    go_ret
    exact ⟨rfl, (unhide HAL).1⟩
  cases h12 : Av.allN la la.length
  · have hv : rtrB x1 x2 x3 x4 x5 x6 ls tw se du ss es la = false := by unfold rtrB; rw [h12]; simp
    rw [hv]
    clear hv
    rw [h7] at K7
    rw [h8] at K8
    rw [h9] at K9
    rw [h10] at K10
    rw [h11] at K11
    rw [h12] at K12
    clear h7 h8 h9 h10 h11 h12
    go_enter Tryz.func30, Tryz.ntmps30
    go_wp2_with (first | (go_at_call 62; refine (l01Addr _ _).mono ?_; rintro e w_ ⟨rfl, rfl⟩) | (go_at_call 63; refine (l01In _ _ _ _).mono ?_; rintro e w_ ⟨rfl, rfl⟩))
    clear h1 h2 h3 h4 h5 h6
    generalize hW0 : w.alloc (.cells #[.int .i64 x1, .int .i64 x2, .int .i64 x3, .int .i64 x4, .int .i64 x5, .slice a1 ls.length c1, .slice a2 tw.length c2, .slice a3 se.length c3, .slice a4 du.length c4, .slice a5 ss.length c5, .slice a6 es.length c6, .slice a7 la.length c7, .int .i64 x6] 43) = W0 at *
    clear hW0
    refine (unhide K7 _ ((unhide HR1).below (unhide HAL).1)).mono ?_
    rintro e V7 ⟨rfl, b_⟩
    replace HAL := hide (al_below (unhide HAL) b_)
    clear b_
    have z6 := (unhide HAL).2.at (i := 6) rfl
    go_wp2_with fail
    clear z6
    refine (unhide K8 _ ((unhide HR2).below (unhide HAL).1)).mono ?_
    rintro e V8 ⟨rfl, b_⟩
    replace HAL := hide (al_below (unhide HAL) b_)
    clear b_
    have z7 := (unhide HAL).2.at (i := 7) rfl
    go_wp2_with fail
    clear z7
    refine (unhide K9 _ ((unhide HR3).below (unhide HAL).1)).mono ?_
    rintro e V9 ⟨rfl, b_⟩
    replace HAL := hide (al_below (unhide HAL) b_)
    clear b_
    have z8 := (unhide HAL).2.at (i := 8) rfl
    go_wp2_with fail
    clear z8
    refine (unhide K10 _ ((unhide HR4).below (unhide HAL).1)).mono ?_
    rintro e V10 ⟨rfl, b_⟩
    replace HAL := hide (al_below (unhide HAL) b_)
    clear b_
    have z9 := (unhide HAL).2.at (i := 9) rfl
    have z10 := (unhide HAL).2.at (i := 10) rfl
    go_wp2_with fail
    clear z9 z10
    refine (unhide K11 _ ((unhide HR5).below (unhide HAL).1) ((unhide HR6).below (unhide HAL).1)).mono ?_
    rintro e V11 ⟨rfl, b_⟩
    replace HAL := hide (al_below (unhide HAL) b_)
    clear b_
    have z11 := (unhide HAL).2.at (i := 11) rfl
    go_wp2_with fail
    clear z11
    refine (unhide K12 _ ((unhide HR7).below (unhide HAL).1)).mono ?_
    rintro e V12 ⟨rfl, q_, hq_⟩
    have b_ : Below V11.heap.size V11 V12 := by rw [hq_]; exact bel_drewN _ _
    replace HAL := hide (al_below (unhide HAL) b_)
    clear hq_ q_ b_
    go_wp2_with fail
    go_ret
    exact ⟨rfl, (unhide HAL).1⟩
  cases h13 : (ls.find? (Ln.isAd x1)).isSome
  rotate_left
  · have e7 : lksB x1 ls = false := by exact lks_found h13
    have hv : rtrB x1 x2 x3 x4 x5 x6 ls tw se du ss es la = false := by unfold rtrB; rw [e7]; simp
    clear e7
    rw [hv]
    clear hv
    rw [h7] at K7
    rw [h8] at K8
    rw [h9] at K9
    rw [h10] at K10
    rw [h11] at K11
    rw [h12] at K12
    rw [h13] at K13
    clear h7 h8 h9 h10 h11 h12 h13
    go_enter Tryz.func30, Tryz.ntmps30
    go_wp2_with (first | (go_at_call 62; refine (l01Addr _ _).mono ?_; rintro e w_ ⟨rfl, rfl⟩) | (go_at_call 63; refine (l01In _ _ _ _).mono ?_; rintro e w_ ⟨rfl, rfl⟩))
    clear h1 h2 h3 h4 h5 h6
    generalize hW0 : w.alloc (.cells #[.int .i64 x1, .int .i64 x2, .int .i64 x3, .int .i64 x4, .int .i64 x5, .slice a1 ls.length c1, .slice a2 tw.length c2, .slice a3 se.length c3, .slice a4 du.length c4, .slice a5 ss.length c5, .slice a6 es.length c6, .slice a7 la.length c7, .int .i64 x6] 43) = W0 at *
    clear hW0
    refine (unhide K7 _ ((unhide HR1).below (unhide HAL).1)).mono ?_
    rintro e V7 ⟨rfl, b_⟩
    replace HAL := hide (al_below (unhide HAL) b_)
    clear b_
    have z6 := (unhide HAL).2.at (i := 6) rfl
    go_wp2_with fail
    clear z6
    refine (unhide K8 _ ((unhide HR2).below (unhide HAL).1)).mono ?_
    rintro e V8 ⟨rfl, b_⟩
    replace HAL := hide (al_below (unhide HAL) b_)
    clear b_
    have z7 := (unhide HAL).2.at (i := 7) rfl
    go_wp2_with fail
    clear z7
    refine (unhide K9 _ ((unhide HR3).below (unhide HAL).1)).mono ?_
    rintro e V9 ⟨rfl, b_⟩
    replace HAL := hide (al_below (unhide HAL) b_)
    clear b_
    have z8 := (unhide HAL).2.at (i := 8) rfl
    go_wp2_with fail
    clear z8
    refine (unhide K10 _ ((unhide HR4).below (unhide HAL).1)).mono ?_
    rintro e V10 ⟨rfl, b_⟩
    replace HAL := hide (al_below (unhide HAL) b_)
    clear b_
    have z9 := (unhide HAL).2.at (i := 9) rfl
    have z10 := (unhide HAL).2.at (i := 10) rfl
    go_wp2_with fail
    clear z9 z10
    refine (unhide K11 _ ((unhide HR5).below (unhide HAL).1) ((unhide HR6).below (unhide HAL).1)).mono ?_
    rintro e V11 ⟨rfl, b_⟩
    replace HAL := hide (al_below (unhide HAL) b_)
    clear b_
    have z11 := (unhide HAL).2.at (i := 11) rfl
    go_wp2_with fail
    clear z11
    refine (unhide K12 _ ((unhide HR7).below (unhide HAL).1)).mono ?_
    rintro e V12 ⟨rfl, q_, hq_⟩
    have b_ : Below V11.heap.size V11 V12 := by rw [hq_]; exact bel_drewN _ _
    replace HAL := hide (al_below (unhide HAL) b_)
    clear hq_ q_ b_
    have z5 := (unhide HAL).2.at (i := 5) rfl
    have z0 := (unhide HAL).2.at (i := 0) rfl
    go_wp2_with fail
    clear z5 z0
    refine (unhide K13 _ ((unhide HR1).below (unhide HAL).1)).mono ?_
    rintro e V13 ⟨rfl, b_⟩
    replace HAL := hide (al_below (unhide HAL) b_)
    clear b_
    have HAL2 := hide (al_below (unhide HAL) ((Below.refl _ _).alloc (Nat.le_refl _) (.cells #[.int .i64 y1, .int .i64 y2, .int .i64 y3, .int .i64 y4, .int .i64 y5, .int .i64 y6] 105)))
    go_wp2_with fail
    go_ret
    exact ⟨rfl, (unhide HAL2).1⟩
  cases h14 : Tp.hasS ss x1
  rotate_left
  · have hv : rtrB x1 x2 x3 x4 x5 x6 ls tw se du ss es la = false := by unfold rtrB; rw [h14]; simp
    rw [hv]
    clear hv
    rw [h7] at K7
    rw [h8] at K8
    rw [h9] at K9
    rw [h10] at K10
    rw [h11] at K11
    rw [h12] at K12
    rw [h13] at K13
    rw [h14] at K14
    clear h7 h8 h9 h10 h11 h12 h13 h14
    go_enter Tryz.func30, Tryz.ntmps30
    go_wp2_with (first | (go_at_call 62; refine (l01Addr _ _).mono ?_; rintro e w_ ⟨rfl, rfl⟩) | (go_at_call 63; refine (l01In _ _ _ _).mono ?_; rintro e w_ ⟨rfl, rfl⟩))
    clear h1 h2 h3 h4 h5 h6
    generalize hW0 : w.alloc (.cells #[.int .i64 x1, .int .i64 x2, .int .i64 x3, .int .i64 x4, .int .i64 x5, .slice a1 ls.length c1, .slice a2 tw.length c2, .slice a3 se.length c3, .slice a4 du.length c4, .slice a5 ss.length c5, .slice a6 es.length c6, .slice a7 la.length c7, .int .i64 x6] 43) = W0 at *
    clear hW0
    refine (unhide K7 _ ((unhide HR1).below (unhide HAL).1)).mono ?_
    rintro e V7 ⟨rfl, b_⟩
    replace HAL := hide (al_below (unhide HAL) b_)
    clear b_
    have z6 := (unhide HAL).2.at (i := 6) rfl
    go_wp2_with fail
    clear z6
    refine (unhide K8 _ ((unhide HR2).below (unhide HAL).1)).mono ?_
    rintro e V8 ⟨rfl, b_⟩
    replace HAL := hide (al_below (unhide HAL) b_)
    clear b_
    have z7 := (unhide HAL).2.at (i := 7) rfl
    go_wp2_with fail
    clear z7
    refine (unhide K9 _ ((unhide HR3).below (unhide HAL).1)).mono ?_
    rintro e V9 ⟨rfl, b_⟩
    replace HAL := hide (al_below (unhide HAL) b_)
    clear b_
    have z8 := (unhide HAL).2.at (i := 8) rfl
    go_wp2_with fail
    clear z8
    refine (unhide K10 _ ((unhide HR4).below (unhide HAL).1)).mono ?_
    rintro e V10 ⟨rfl, b_⟩
    replace HAL := hide (al_below (unhide HAL) b_)
    clear b_
    have z9 := (unhide HAL).2.at (i := 9) rfl
    have z10 := (unhide HAL).2.at (i := 10) rfl
    go_wp2_with fail
    clear z9 z10
    refine (unhide K11 _ ((unhide HR5).below (unhide HAL).1) ((unhide HR6).below (unhide HAL).1)).mono ?_
    rintro e V11 ⟨rfl, b_⟩
    replace HAL := hide (al_below (unhide HAL) b_)
    clear b_
    have z11 := (unhide HAL).2.at (i := 11) rfl
    go_wp2_with fail
    clear z11
    refine (unhide K12 _ ((unhide HR7).below (unhide HAL).1)).mono ?_
    rintro e V12 ⟨rfl, q_, hq_⟩
    have b_ : Below V11.heap.size V11 V12 := by rw [hq_]; exact bel_drewN _ _
    replace HAL := hide (al_below (unhide HAL) b_)
    clear hq_ q_ b_
    have z5 := (unhide HAL).2.at (i := 5) rfl
    have z0 := (unhide HAL).2.at (i := 0) rfl
    go_wp2_with fail
    clear z5 z0
    refine (unhide K13 _ ((unhide HR1).below (unhide HAL).1)).mono ?_
    rintro e V13 ⟨rfl, b_⟩
    replace HAL := hide (al_below (unhide HAL) b_)
    clear b_
    have HAL2 := hide (al_below (unhide HAL) ((Below.refl _ _).alloc (Nat.le_refl _) (.cells #[.int .i64 y1, .int .i64 y2, .int .i64 y3, .int .i64 y4, .int .i64 y5, .int .i64 y6] 105)))
    skip
    have z9 := (unhide HAL2).2.at (i := 9) rfl
    have z10 := (unhide HAL2).2.at (i := 10) rfl
    have z0 := (unhide HAL2).2.at (i := 0) rfl
    go_wp2_with fail
    clear z9 z10 z0
    generalize hW13 : V13.alloc (.cells #[.int .i64 y1, .int .i64 y2, .int .i64 y3, .int .i64 y4, .int .i64 y5, .int .i64 y6] 105) = W13 at *
    clear hW13
    replace HAL := HAL2
    clear HAL2
    refine (unhide K14 _ ((unhide HR5).below (unhide HAL).1)).mono ?_
    rintro e V14 ⟨rfl, b_⟩
    replace HAL := hide (al_below (unhide HAL) b_)
    clear b_
    have HAL2 := hide (al_below (unhide HAL) ((Below.refl _ _).alloc (Nat.le_refl _) (.cells #[.int .i64 v1, .int .i64 v2, .int .i64 v3] 109)))
    go_wp2_with fail
    go_ret
    exact ⟨rfl, (unhide HAL2).1⟩
  have HE : Hid (rtrB x1 x2 x3 x4 x5 x6 ls tw se du ss es la = (tw.all (twB x1) && ls.all obB)) := hide (by
    have e8 : twoOf x1 tw = tw.all (twB x1) := by unfold twoOf; rw [h8]; rfl
    unfold rtrB; rw [h1, h2, h3, h4, h5, h6, lks_all h7 h13, e8, h9, h10, h11, h14, h12]; simp [Bool.and_comm])
  obtain ⟨A, hA⟩ : ∃ A, rtrB x1 x2 x3 x4 x5 x6 ls tw se du ss es la = A := ⟨_, rfl⟩
  rw [hA] at HE ⊢
  clear hA
  have hl8 := Ln.links_len h7
  have hl62 := Tw.two_len h8
  have HLB := hide h7
  have HTW := hide h8
  rw [h7] at K7
  rw [h8] at K8
  rw [h9] at K9
  rw [h10] at K10
  rw [h11] at K11
  rw [h12] at K12
  rw [h13] at K13
  rw [h14] at K14
  clear h7 h8 h9 h10 h11 h12 h13 h14
  go_enter Tryz.func30, Tryz.ntmps30
  go_wp2_with (first | (go_at_call 62; refine (l01Addr _ _).mono ?_; rintro e w_ ⟨rfl, rfl⟩) | (go_at_call 63; refine (l01In _ _ _ _).mono ?_; rintro e w_ ⟨rfl, rfl⟩))
  clear h1 h2 h3 h4 h5 h6
  generalize hW0 : w.alloc (.cells #[.int .i64 x1, .int .i64 x2, .int .i64 x3, .int .i64 x4, .int .i64 x5, .slice a1 ls.length c1, .slice a2 tw.length c2, .slice a3 se.length c3, .slice a4 du.length c4, .slice a5 ss.length c5, .slice a6 es.length c6, .slice a7 la.length c7, .int .i64 x6] 43) = W0 at *
  clear hW0
  refine (unhide K7 _ ((unhide HR1).below (unhide HAL).1)).mono ?_
  rintro e V7 ⟨rfl, b_⟩
  replace HAL := hide (al_below (unhide HAL) b_)
  clear b_
  have z6 := (unhide HAL).2.at (i := 6) rfl
  go_wp2_with fail
  clear z6
  refine (unhide K8 _ ((unhide HR2).below (unhide HAL).1)).mono ?_
  rintro e V8 ⟨rfl, b_⟩
  replace HAL := hide (al_below (unhide HAL) b_)
  clear b_
  have z7 := (unhide HAL).2.at (i := 7) rfl
  go_wp2_with fail
  clear z7
  refine (unhide K9 _ ((unhide HR3).below (unhide HAL).1)).mono ?_
  rintro e V9 ⟨rfl, b_⟩
  replace HAL := hide (al_below (unhide HAL) b_)
  clear b_
  have z8 := (unhide HAL).2.at (i := 8) rfl
  go_wp2_with fail
  clear z8
  refine (unhide K10 _ ((unhide HR4).below (unhide HAL).1)).mono ?_
  rintro e V10 ⟨rfl, b_⟩
  replace HAL := hide (al_below (unhide HAL) b_)
  clear b_
  have z9 := (unhide HAL).2.at (i := 9) rfl
  have z10 := (unhide HAL).2.at (i := 10) rfl
  go_wp2_with fail
  clear z9 z10
  refine (unhide K11 _ ((unhide HR5).below (unhide HAL).1) ((unhide HR6).below (unhide HAL).1)).mono ?_
  rintro e V11 ⟨rfl, b_⟩
  replace HAL := hide (al_below (unhide HAL) b_)
  clear b_
  have z11 := (unhide HAL).2.at (i := 11) rfl
  go_wp2_with fail
  clear z11
  refine (unhide K12 _ ((unhide HR7).below (unhide HAL).1)).mono ?_
  rintro e V12 ⟨rfl, q_, hq_⟩
  have b_ : Below V11.heap.size V11 V12 := by rw [hq_]; exact bel_drewN _ _
  replace HAL := hide (al_below (unhide HAL) b_)
  clear hq_ q_ b_
  have z5 := (unhide HAL).2.at (i := 5) rfl
  have z0 := (unhide HAL).2.at (i := 0) rfl
  go_wp2_with fail
  clear z5 z0
  refine (unhide K13 _ ((unhide HR1).below (unhide HAL).1)).mono ?_
  rintro e V13 ⟨rfl, b_⟩
  replace HAL := hide (al_below (unhide HAL) b_)
  clear b_
  have HAL2 := hide (al_below (unhide HAL) ((Below.refl _ _).alloc (Nat.le_refl _) (.cells #[.int .i64 y1, .int .i64 y2, .int .i64 y3, .int .i64 y4, .int .i64 y5, .int .i64 y6] 105)))
  skip
  have z9 := (unhide HAL2).2.at (i := 9) rfl
  have z10 := (unhide HAL2).2.at (i := 10) rfl
  have z0 := (unhide HAL2).2.at (i := 0) rfl
  go_wp2_with fail
  clear z9 z10 z0
  generalize hW13 : V13.alloc (.cells #[.int .i64 y1, .int .i64 y2, .int .i64 y3, .int .i64 y4, .int .i64 y5, .int .i64 y6] 105) = W13 at *
  clear hW13
  replace HAL := HAL2
  clear HAL2
  refine (unhide K14 _ ((unhide HR5).below (unhide HAL).1)).mono ?_
  rintro e V14 ⟨rfl, b_⟩
  replace HAL := hide (al_below (unhide HAL) b_)
  clear b_
  have HAL2 := hide (al_below (unhide HAL) ((Below.refl _ _).alloc (Nat.le_refl _) (.cells #[.int .i64 v1, .int .i64 v2, .int .i64 v3] 109)))
  skip
  have z6 := (unhide HAL2).2.at (i := 6) rfl
  go_wp2_with fail
  clear z6
  generalize hW14 : V14.alloc (.cells #[.int .i64 v1, .int .i64 v2, .int .i64 v3] 109) = W14 at *
  clear hW14
  replace HAL := HAL2
  clear HAL2
  go_loopw [7] (fun i wr => ∃ j : Nat, j ≤ tw.length ∧ i = .int .i64 j ∧ Hid ((tw.take j).all (twB x1) = true) ∧ Hid (Al w wr (rC x1 x2 x3 x4 x5 (.slice a1 ls.length c1) (.slice a2 tw.length c2) (.slice a3 se.length c3) (.slice a4 du.length c4) (.slice a5 ss.length c5) (.slice a6 es.length c6) (.slice a7 la.length c7) x6))) (fun i _ => tw.length - (intOf i).toNat)
  case atStart => exact ⟨0, by omega, rfl, hide rfl, HAL⟩
  case round =>
    obtain ⟨j, hj, rfl, hal, hAl⟩ := hrel
    have z6 := (unhide hAl).2.at (i := 6) rfl
    have z0 := (unhide hAl).2.at (i := 0) rfl
    by_cases hlt : (j : Int) < (tw.length : Int)
    · have k0 : (0 : Int) ≤ (j : Int) := by omega
      have hlen : j < tw.length := by omega
      obtain ⟨g, off, ha2⟩ := (unhide HR2).form (by omega)
      have HC := (unhide HR2).below (unhide hAl).1
      rw [ha2] at HC z6
      have hA := HC.at hlen
      have HY : Hid (twB x1 (tw.getD j Tu.R.zero) = true → (tw.take (j + 1)).all (twB x1) = true) := hide (fun h => all_step hlen (unhide hal) h)
      have HZ : Hid (twB x1 (tw.getD j Tu.R.zero) = false → A = false) := hide (fun h => by rw [unhide HE, all_no hlen h]; rfl)
      have hbd := St.ok_bounds (St.setB_ok (Tw.two_set (unhide HTW)) hlen)
      generalize tw.getD j Tu.R.zero = m at *
      obtain ⟨key, til, val⟩ := m
      obtain ⟨t0, t1, t2⟩ := hA
      dsimp only at t0 t1 t2 hbd
      obtain ⟨hb0, hb1, _⟩ := hbd
      have EK : Hid (twB x1 ⟨key, til, val⟩ = (!(key / 100 == x1) && !(key % 100 == x1))) := hide (by unfold twB Tw.hv Tw.ha; dsimp only; rw [Int.tdiv_eq_ediv_of_nonneg hb0, Int.tmod_eq_emod_of_nonneg hb0])
      have HAD : Hid (∀ n, Al w (wr.drewN n) (rC x1 x2 x3 x4 x5 (.slice a1 ls.length c1) (.slice a2 tw.length c2) (.slice a3 se.length c3) (.slice a4 du.length c4) (.slice a5 ss.length c5) (.slice a6 es.length c6) (.slice a7 la.length c7) x6)) := hide (fun n => al_below (unhide hAl) (bel_drewN _ _))
      clear HC
      cases q1 : (key / 100 == x1)
      · cases q2 : (key % 100 == x1)
        · have hy := hide (unhide HY (by rw [unhide EK, q1, q2]; rfl))
          clear HY HZ EK
          go_wp2_with fail
          go_quiet (fail)
          go_wp2_with fail
          go_roundw
          case rel => exact ⟨j + 1, by omega, by go_num, hy, hide (unhide HAD _)⟩
          case measure => simp [intOf]; omega
        · have hf := hide (unhide HZ (by rw [unhide EK, q1, q2]; rfl))
          clear HY HZ EK
          go_wp2_with fail
          go_quiet (fail)
          go_wp2_with fail
          go_ret
          exact ⟨ret_bool (unhide hf).symm, (unhide HAD _).1⟩
      · have hf := hide (unhide HZ (by rw [unhide EK, q1]; rfl))
        clear HY HZ EK
        go_wp2_with fail
        go_quiet (fail)
        go_wp2_with fail
        go_ret
        exact ⟨ret_bool (unhide hf).symm, (unhide HAD _).1⟩
    · obtain rfl : j = tw.length := by omega
      have HE2 : Hid (A = ls.all obB) := hide (by have e := unhide hal; rw [List.take_length] at e; rw [unhide HE, e]; rfl)
      have z5 := (unhide hAl).2.at (i := 5) rfl
      go_wp2_with fail
      clear z5 z6 z0
      go_loopw [8] (fun i wr => ∃ j : Nat, j ≤ ls.length ∧ i = .int .i64 j ∧ Hid ((ls.take j).all obB = true) ∧ Hid (Al w wr (rC x1 x2 x3 x4 x5 (.slice a1 ls.length c1) (.slice a2 tw.length c2) (.slice a3 se.length c3) (.slice a4 du.length c4) (.slice a5 ss.length c5) (.slice a6 es.length c6) (.slice a7 la.length c7) x6))) (fun i _ => ls.length - (intOf i).toNat)
      case atStart => exact ⟨0, by omega, rfl, hide rfl, hAl⟩
      case round =>
        obtain ⟨k, hk, rfl, hal2, hAl2⟩ := hrel
        have z5 := (unhide hAl2).2.at (i := 5) rfl
        by_cases hlt2 : (k : Int) < (ls.length : Int)
        · have k0 : (0 : Int) ≤ (k : Int) := by omega
          have hlen : k < ls.length := by omega
          obtain ⟨g, off, ha1⟩ := (unhide HR1).form (by omega)
          have HC := (unhide HR1).below (unhide hAl2).1
          rw [ha1] at HC z5
          have hA := HC.at hlen
          clear ha1
          have HY : Hid (obB (ls.getD k Lk.R.zero) = true → (ls.take (k + 1)).all obB = true) := hide (fun h => all_step hlen (unhide hal2) h)
          have HZ : Hid (obB (ls.getD k Lk.R.zero) = false → A = false) := hide (fun h => by rw [unhide HE2]; exact all_no hlen h)
          have hco := Ln.ok_co (Ri.all_ok (unhide HLB) hlen)
          have hsy := Ln.ok_sy (Ri.all_ok (unhide HLB) hlen)
          generalize ls.getD k Lk.R.zero = m at *
          obtain ⟨ad, hd, sy, ci, co, wl⟩ := m
          obtain ⟨t0, t1, t2, t3, t4, t5⟩ := hA
          dsimp only at t0 t1 t2 t3 t4 t5 hco hsy
          have hw := ob_ways hco.1 hco.2 hsy.1
          have EK : Hid (obB ⟨ad, hd, sy, ci, co, wl⟩ = outB co sy) := hide rfl
          have HA3 := hide (al_below (unhide hAl2) ((Below.refl _ _).alloc (Nat.le_refl _) (.cells #[.int .i64 ad, .int .i64 hd, .int .i64 sy, .int .i64 ci, .int .i64 co, .int .i64 wl] 105)))
          clear HC
          rcases hw with ⟨rfl, rfl, e⟩ | ⟨rfl, q2, e⟩ | ⟨q1, q2, e⟩ | ⟨q1, q2, q3, e⟩ | ⟨q1, q2, q3, e⟩
          · have hy := hide (unhide HY ((unhide EK).trans e))
            clear HY HZ EK e
            go_wp2_with fail
            go_roundw
            case rel => exact ⟨k + 1, by omega, by go_num, hy, HA3⟩
            case measure => simp [intOf]; omega
          · have hf := hide (unhide HZ ((unhide EK).trans e))
            clear HY HZ EK e
            go_wp2_with fail
            go_ret
            exact ⟨ret_bool (unhide hf).symm, (unhide HA3).1⟩
          · have hf := hide (unhide HZ ((unhide EK).trans e))
            clear HY HZ EK e
            go_wp2_with (go_at_call 71; refine (l04ExM co (by omega) (by omega) _).mono ?_; rintro e w_ ⟨rfl, rfl⟩)
            go_ret
            exact ⟨ret_bool (unhide hf).symm, (unhide HA3).1⟩
          · have hf := hide (unhide HZ ((unhide EK).trans e))
            clear HY HZ EK e
            go_wp2_with (go_at_call 71; refine (l04ExM co (by omega) (by omega) _).mono ?_; rintro e w_ ⟨rfl, rfl⟩)
            go_ret
            exact ⟨ret_bool (unhide hf).symm, (unhide HA3).1⟩
          · have hy := hide (unhide HY ((unhide EK).trans e))
            have q4 : (co == 0) = false := by simp; omega
            clear HY HZ EK e
            go_wp2_with (go_at_call 71; refine (l04ExM co (by omega) (by omega) _).mono ?_; rintro e w_ ⟨rfl, rfl⟩)
            go_roundw
            case rel => exact ⟨k + 1, by omega, by go_num, hy, HA3⟩
            case measure => simp [intOf]; omega
        · obtain rfl : k = ls.length := by omega
          have hf := hide (show A = true by have e := unhide hal2; rw [List.take_length] at e; rw [unhide HE2, e])
          go_wp2_with fail
          go_ret
          exact ⟨ret_bool (unhide hf).symm, (unhide hAl2).1⟩
end Rt
end Go.Proofs.YtilphgfjgeoiaaaGreat
namespace Go.Proofs.YtilphgfjgeoiaaaGreat
set_option linter.unusedVariables false
set_option linter.unusedSimpArgs false
namespace Tp
open W1 Tu St Tw
end Tp
end Go.Proofs.YtilphgfjgeoiaaaGreat
namespace Go.Proofs.YtilphgfjgeoiaaaGreat
open Go.ChangeShapes Go.WideShapes Go.ChangeAt Go.RowKit
set_option linter.unusedVariables false
set_option maxRecDepth 100000
set_option linter.unusedSimpArgs false
namespace Me
open W1 Tu Tw Go.Maps
/-- How an element reads. -/
def rdR (v : Value) : Option (DataW R × List MemPlace) :=
  match v with
  | .agg cs => (match cs.toList with
    | [.int .i64 a, .int .i64 b, .int .i64 c] => some (.held ⟨a, b, c⟩, [])
    | _ => none)
  | _ => none
theorem rdR_mk (m : R) : rdR m.value = some (.held m, []) := rfl
theorem rdR_inv {v : Value} {m : R} {ps : List MemPlace} (h : rdR v = some (.held m, ps)) : v = m.value := by
  unfold rdR at h
  split at h
  · rename_i cs
    split at h
    · rename_i a b c hl
      cases h
      unfold R.value
      congr 1
      exact Array.toList_inj.1 hl
    · cases h
  · cases h
/-- A key. -/
def kv (v a : Int) : Value := .agg #[.int .i64 v, .int .i64 a]
theorem kv_inj {v a x y : Int} (h : kv v a = kv x y) : v = x ∧ a = y := by unfold kv at h; simpa using h
theorem laidOut : laidOutB Tryz.prog = true := by kernel_rfl
theorem rowK : (159 : TypeId) < Tryz.prog.types.size := of_decide_eq_true (by kernel_rfl)
theorem wideK : (match Tryz.prog.underlying 159 with | some (.array _ _) | some (.struct _) => true | _ => false) = true := by kernel_rfl
theorem law : Keyed Tryz.prog 159 := Keyed.of_law (deep_law_laid laidOut (m := 2) (by omega) rowK (by kernel_rfl) wideK)
theorem keyT : Tryz.prog.keyType 159 = true := by kernel_rfl
theorem cellsK : Tryz.prog.cellsOf 159 = 2 := by kernel_rfl
theorem cellsI : Tryz.prog.cellsOf 3 = 1 := by kernel_rfl
theorem zeroE (w : World) : (zeroValue 113).run Tryz.prog w = .ok R.zero.value w := by kernel_rfl
theorem kv_key {v a : Int} (hw1 : (Lit.int .i64 v).wf = true) (hw : (Lit.int .i64 a).wf = true) : ∃ l, keyOf Tryz.prog 159 (kv v a) = some l := by
  obtain ⟨d, hd⟩ : ∃ d, Tryz.prog.types.size = d + 1 := ⟨Tryz.prog.types.size - 1, (Nat.sub_add_cancel (Nat.lt_of_le_of_lt (Nat.zero_le _) rowK)).symm⟩
  have hf : (kv v a).formed Tryz.prog 159 = true := by simp [kv, Value.formed, Tryz.underlying159, cellsK]
  unfold keyOf
  rw [Tryz.underlying159]
  simp only [keyT, hf, Bool.and_self, if_true, hd]
  simp [kv, Value.cells, Program.keyLits, Tryz.underlying159, cellsK, cellsI, Tryz.underlying3, hw1, hw, List.range_succ, List.mapM_cons]
/-- Block b is a map of at most n entries that holds just what f says. -/
def OM (w : World) (b n : Nat) (f : Int → Int → Option R) : Prop :=
  ∃ D : DataW R, w.ownsMap Tryz.prog 159 rdR b n D ∧ ∀ v a l, keyOf Tryz.prog 159 (kv v a) = some l → has D l = (f v a).isSome ∧ ∀ m, f v a = some m → ∀ z, D.atKey l z = .held m
theorem om_made (w : World) : OM (w.alloc (.map #[] 0)) w.heap.size 0 (fun _ _ => none) := ⟨_, World.ownsMap_made w _ _ _, fun v a l h => ⟨rfl, fun m hm => by cases hm⟩⟩
theorem OM.lt {w : World} {b n : Nat} {f : Int → Int → Option R} (h : OM w b n f) : b < w.heap.size := let ⟨_, h, _⟩ := h; h.lt
theorem OM.drew {w : World} {b n : Nat} {f : Int → Int → Option R} (h : OM w b n f) : OM w.drew b n f := h
theorem OM.below {w w' : World} {b n : Nat} {f : Int → Int → Option R} (h : OM w b n f) (hb : Below w.heap.size w w') : OM w' b n f := by
  obtain ⟨D, h, hf⟩ := h
  exact ⟨D, h.kept (row := none) ⟨hb.os, hb.tape, hb.output, hb.size, fun k hk _ => hb.block k hk⟩ (by simp), hf⟩
theorem OM.setCell {w : World} {b n : Nat} {f : Int → Int → Option R} (h : OM w b n f) {a : Addr} (ha : b ≠ a.block) (u : Value) : OM (w.setCell a u) b n f := by
  obtain ⟨D, h, hf⟩ := h
  exact ⟨D, h.setCell ha u, hf⟩
theorem OM.mono {w : World} {b n n' : Nat} {f : Int → Int → Option R} (h : OM w b n f) (hn : n ≤ n') : OM w b n' f := by
  obtain ⟨D, h, hf⟩ := h
  exact ⟨D, h.mono hn, hf⟩
theorem OM.size {w : World} {b n : Nat} {f : Int → Int → Option R} (h : OM w b n f) : ∃ q : Nat, q ≤ n ∧ ∀ ty, (Builtin.len_ #[154] ty #[.map (some b)]).run Tryz.prog w = .ok (.int .i64 q) w := by
  obtain ⟨D, h, _⟩ := h
  exact ⟨_, h.size_le, fun ty => h.len Tryz.underlying154 ty⟩
theorem OM.look {w : World} {b n : Nat} {f : Int → Int → Option R} (h : OM w b n f) {v a : Int} (hw1 : (Lit.int .i64 v).wf = true) (hw : (Lit.int .i64 a).wf = true) (c : Bool) :
    (Instr.lookup 154 (.map (some b)) (kv v a) c).run Tryz.prog w = .ok (if c then .tuple #[((f v a).getD R.zero).value, .bool (f v a).isSome] else ((f v a).getD R.zero).value) w := by
  obtain ⟨D, h, hf⟩ := h
  obtain ⟨l, hl⟩ := kv_key hw1 hw
  obtain ⟨hh, hv⟩ := hf v a l hl
  have key : ∀ u ps, rdR u = some (D.atKey l (.held R.zero), ps) → u = ((f v a).getD R.zero).value := by
    intro u ps hr
    cases e : f v a with
    | none => rw [e] at hh; rw [atKey_of_not_has hh] at hr; exact rdR_inv hr
    | some m => rw [hv m e] at hr; exact rdR_inv hr
  cases c
  · obtain ⟨u, ps, hrun, hr⟩ := h.lookup law Tryz.underlying154 (zeroE w) (rdR_mk R.zero) hl
    rw [hrun, key u ps hr]; rfl
  · obtain ⟨u, ps, hrun, hr⟩ := h.look_ok law Tryz.underlying154 (zeroE w) (rdR_mk R.zero) hl
    rw [hrun, key u ps hr, hh]; rfl
theorem OM.store {w : World} {b n : Nat} {f : Int → Int → Option R} (h : OM w b n f) (hn : n < maxLen) {v a : Int} (hw1 : (Lit.int .i64 v).wf = true) (hw : (Lit.int .i64 a).wf = true) (m : R) :
    ∃ w', (Instr.mapUpdate 154 (.map (some b)) (kv v a) m.value).run Tryz.prog w = .ok () w' ∧ OM w' b (n + 1) (updT f v a m) ∧ w.grownBy w' (some b) := by
  obtain ⟨D, h, hf⟩ := h
  obtain ⟨l, hl⟩ := kv_key hw1 hw
  obtain ⟨w', hrun, hown, hg⟩ := h.update law Tryz.underlying154 hn hl (rdR_mk m)
  refine ⟨w', hrun, ⟨_, hown, fun x y lx hx => ?_⟩, hg⟩
  unfold updT
  by_cases e : x = v ∧ y = a
  · obtain ⟨rfl, rfl⟩ := e
    rw [hl] at hx; cases hx
    rw [if_pos ⟨rfl, rfl⟩]
    refine ⟨has_put_same h.isMap (law.key hl) _, fun m' hm' z => ?_⟩
    cases hm'
    exact atKey_put_same h.isMap (law.key hl) _ z
  · have hne : lx ≠ l := fun el => e (kv_inj (law.inj (el ▸ hx) hl))
    rw [if_neg e]
    obtain ⟨q1, q2⟩ := hf x y lx hx
    exact ⟨by rw [has_put_other hne]; exact q1, fun m' hm' z => by rw [atKey_put_other hne]; exact q2 m' hm' z⟩
theorem OM.drop {w : World} {b n : Nat} {f : Int → Int → Option R} (h : OM w b n f) {v a : Int} (hw1 : (Lit.int .i64 v).wf = true) (hw : (Lit.int .i64 a).wf = true) (ty : TypeId) :
    ∃ w', (Builtin.delete_ #[154, 159] ty #[.map (some b), kv v a]).run Tryz.prog w = .ok (.tuple #[]) w' ∧ OM w' b n (delT f v a) ∧ w.grownBy w' (some b) := by
  obtain ⟨D, h, hf⟩ := h
  obtain ⟨l, hl⟩ := kv_key hw1 hw
  obtain ⟨w', hrun, hown, hg⟩ := h.drop law Tryz.underlying154 hl ty
  refine ⟨w', hrun, ⟨_, hown, fun x y lx hx => ?_⟩, hg.grown⟩
  unfold delT
  by_cases e : x = v ∧ y = a
  · obtain ⟨rfl, rfl⟩ := e
    rw [hl] at hx; cases hx
    rw [if_pos ⟨rfl, rfl⟩]
    exact ⟨has_del_same, fun m' hm' => by cases hm'⟩
  · have hne : lx ≠ l := fun el => e (kv_inj (law.inj (el ▸ hx) hl))
    rw [if_neg e]
    obtain ⟨q1, q2⟩ := hf x y lx hx
    exact ⟨by rw [has_del_other hne]; exact q1, fun m' hm' z => by rw [atKey_del_other hne]; exact q2 m' hm' z⟩
section
variable {ops : Array Oper} {rest : List Oper} {o : Oper} {a : Act} {Q : Exit → Act → World → Prop}
/-- 'v, ok := m[k]' at the operation. -/
theorem wpList_look (w : World) (hg : o.guard = none) (m x : Operand) (hop : o.op = Op.lookup 154 m x true) (b n : Nat) (f : Int → Int → Option R) (hm : a.eval m = .map (some b)) (h : OM w b n f) (v k : Int) (hw1 : (Lit.int .i64 v).wf = true) (hw : (Lit.int .i64 k).wf = true) (hx : a.eval x = kv v k)
    (hK : wpList Tryz.prog ops Q rest (a.put o.dst (.tuple #[((f v k).getD R.zero).value, .bool (f v k).isSome])) w) : wpList Tryz.prog ops Q (o :: rest) a w := by
  refine wpList_plain hg fun K' hK' => ?_
  have hrun := h.look hw1 hw true
  unfold Oper.wp
  simp [execOp, hop, hm, hx, hrun, Result.andThen]
  exact hK' _ _ hK
/-- .. the answer written out. -/
theorem wpList_lookA (w : World) (hg : o.guard = none) (m x : Operand) (hop : o.op = Op.lookup 154 m x true) (b n : Nat) (f : Int → Int → Option R) (hm : a.eval m = .map (some b)) (h : OM w b n f) (v k : Int) (hw1 : (Lit.int .i64 v).wf = true) (hw : (Lit.int .i64 k).wf = true) (hx : a.eval x = kv v k)
    (ke ti va : Int) (E : Bool) (hA : (f v k).getD R.zero = ⟨ke, ti, va⟩) (hE : (f v k).isSome = E)
    (hK : wpList Tryz.prog ops Q rest (a.put o.dst (.tuple #[.agg #[.int .i64 ke, .int .i64 ti, .int .i64 va], .bool E])) w) : wpList Tryz.prog ops Q (o :: rest) a w :=
  wpList_look w hg m x hop b n f hm h v k hw1 hw hx (by rw [hA, hE]; exact hK)
/-- 'm[k] = v' at the operation. -/
theorem wpList_put (w : World) (hg : o.guard = none) (m x vo : Operand) (hop : o.op = Op.mapUpdate 154 m x vo) (b n : Nat) (f : Int → Int → Option R) (hm : a.eval m = .map (some b)) (h : OM w b n f) (hn : n < maxLen) (v k : Int) (hw1 : (Lit.int .i64 v).wf = true) (hw : (Lit.int .i64 k).wf = true) (r : R) (hx : a.eval x = kv v k) (hv : a.eval vo = r.value)
    (hK : ∀ w', OM w' b (n + 1) (updT f v k r) → w.grownBy w' (some b) → wpList Tryz.prog ops Q rest (a.put o.dst undef) w') : wpList Tryz.prog ops Q (o :: rest) a w := by
  refine wpList_plain hg fun K' hK' => ?_
  obtain ⟨w', hrun, q1, q2⟩ := h.store hn hw1 hw r
  unfold Oper.wp
  simp [execOp, hop, hm, hx, hv, hrun, Result.andThen]
  exact hK' _ _ (hK w' q1 q2)
/-- The same, inside a region that draws its order. -/
theorem wp_put {K : Act → World → Prop} (w : World) (m x vo : Operand) (hop : o.op = Op.mapUpdate 154 m x vo) (hd : o.dst = none) (b n : Nat) (f : Int → Int → Option R) (hm : a.eval m = .map (some b)) (h : OM w b n f) (hn : n < maxLen) (v k : Int) (hw1 : (Lit.int .i64 v).wf = true) (hw : (Lit.int .i64 k).wf = true) (r : R) (hx : a.eval x = kv v k) (hv : a.eval vo = r.value)
    (hK : ∀ w', OM w' b (n + 1) (updT f v k r) → w.grownBy w' (some b) → K (a.put none undef) w') : o.wp Tryz.prog a w K Q := by
  obtain ⟨w', hrun, q1, q2⟩ := h.store hn hw1 hw r
  unfold Oper.wp
  simp [execOp, hop, hm, hx, hv, hrun, Result.andThen]
  show K (a.put o.dst undef) w'
  rw [hd]
  exact hK w' q1 q2
end
end Me
end Go.Proofs.YtilphgfjgeoiaaaGreat
namespace Go.Proofs.YtilphgfjgeoiaaaGreat
open Go.ChangeShapes Go.WideShapes Go.ChangeAt Go.RowKit
set_option linter.unusedVariables false
set_option linter.unusedSimpArgs false
set_option maxRecDepth 100000
attribute [local go_sem ↓] Go.wp_at_zero Go.wp_at_succ
namespace Tp
open W1 Tu St Tw Me
theorem ordE_at (f : Int → Int → Option R) {j k : Nat} (hk : k < 8) : ordT f (8 * j + (k + 1)) = ordT f (8 * j + k) ++ (f ((j : Int) + 1) ((k : Int) + 1)).toList := by
  have := ordT_succ f (8 * j + k)
  rw [show (8 * j + k) / 8 = j by omega, show (8 * j + k) % 8 = k by omega] at this
  exact this
set_option maxRecDepth 100000 in
set_option maxHeartbeats 4000000 in
theorem edgesInOrder (b n : Nat) (f : Int → Int → Option R) (w : World) (hn : n ≤ 128) (hom : OM w b n f) :
    Calls Tryz.prog 114 #[.map (some b)] w fun e w' => ∃ v, e = .returned v ∧ Below w.heap.size w w' ∧ LstV w' v (ordT f 64) w.heap.size w'.heap.size := by
  obtain ⟨q, hqn, hlen⟩ := hom.size
  have HOM := hide hom
  clear hom
  obtain ⟨i0, hi, hz0, hz1, hz2⟩ := infoR
  obtain ⟨wm, hmk, hmown, hmgrow⟩ := run_make_own (P := Tryz.prog) w w.heap.size 37 113 i0 _ 3 Tryz.underlying37 hi hz0 hz1 .i64 .i64 q (by rw [hz2]; omega) (by unfold maxLen; omega) (Nat.le_refl _)
  have OW : Hid (wm.ownsRow w.heap.size 113 3 (.slice (some ⟨w.heap.size, 0, none⟩) 0 q) (ordT f (8 * 0)).length (flat (ordT f (8 * 0)))) := hide hmown
  have DM : Hid (Below w.heap.size w wm) := hide ((Below.refl _ _).grown hmgrow (Nat.le_refl _) (fun k hk => by cases hk))
  clear hi hz0 hz1 hz2 hmown hmgrow
  go_enter Tryz.func114, Tryz.ntmps114
  go_wp2_with fail
  clear hmk hlen
  go_loopw [3, 4] (fun v i wr => ∃ j : Nat, j ≤ 8 ∧ i = .int .i64 ((j : Int) + 1) ∧ Hid (wr.ownsRow w.heap.size 113 3 v (ordT f (8 * j)).length (flat (ordT f (8 * j)))) ∧ Hid (Below w.heap.size w wr)) (fun _ i _ => 9 - (intOf i).toNat)
  case atStart => exact ⟨0, by omega, rfl, OW, DM⟩
  case round =>
    obtain ⟨j, hj, rfl, how0, hbl0⟩ := hrel
    by_cases hlt0 : (j : Int) + 1 ≤ 8
    · have HWJ : Hid ((Lit.int .i64 ((j : Int) + 1)).wf = true) := hide (WalkArith.wf_i64 ⟨by omega, by omega⟩)
      go_wp2_with fail
      go_loopw [3, 5] (fun v i wr => ∃ k : Nat, k ≤ 8 ∧ i = .int .i64 ((k : Int) + 1) ∧ Hid (wr.ownsRow w.heap.size 113 3 v (ordT f (8 * j + k)).length (flat (ordT f (8 * j + k)))) ∧ Hid (Below w.heap.size w wr)) (fun _ i _ => 9 - (intOf i).toNat)
      case atStart => exact ⟨0, by omega, rfl, how0, hbl0⟩
      case round =>
        obtain ⟨k, hk, rfl, how, hbl⟩ := hrel
        have hbs := (unhide hbl).size
        have hfl := ordT_len f (8 * j + k)
        by_cases hlt : (k : Int) + 1 ≤ 8
        · have HM := hide ((unhide HOM).below (unhide hbl))
          have HWK : Hid ((Lit.int .i64 ((k : Int) + 1)).wf = true) := hide (WalkArith.wf_i64 ⟨by omega, by omega⟩)
          have HST := hide (ordE_at f (j := j) (k := k) (by omega))
          cases hf : f ((j : Int) + 1) ((k : Int) + 1) with
          | none =>
            rw [hf] at HST
            have HA : Hid ((f ((j : Int) + 1) ((k : Int) + 1)).getD R.zero = ⟨0, 0, 0⟩) := hide (by rw [hf]; rfl)
            have HE : Hid ((f ((j : Int) + 1) ((k : Int) + 1)).isSome = false) := hide (by rw [hf]; rfl)
            clear hf
            have e0 : ordT f (8 * j + (k + 1)) = ordT f (8 * j + k) := by rw [unhide HST]; simp
            rw [← e0] at how
            clear e0
            have HB := hide ((unhide hbl).alloc hbs (.cells #[.int .i64 0, .int .i64 0, .int .i64 0] 113))
            have HO := hide ((unhide how).alloc (.cells #[.int .i64 0, .int .i64 0, .int .i64 0] 113))
            go_wp2_with (at_lookup; refine wpList_lookA _ rfl _ _ rfl b _ _ rfl (unhide HM) ((j : Int) + 1) ((k : Int) + 1) (unhide HWJ) (unhide HWK) rfl 0 0 0 false (unhide HA) (unhide HE) ?_)
            go_roundw
            case rel => exact ⟨k + 1, by omega, by go_num, HO, HB⟩
            case measure => simp [intOf]; omega
          | some m =>
            rw [hf] at HST
            obtain ⟨ke, ti, va⟩ := m
            have HA : Hid ((f ((j : Int) + 1) ((k : Int) + 1)).getD R.zero = ⟨ke, ti, va⟩) := hide (by rw [hf]; rfl)
            have HE : Hid ((f ((j : Int) + 1) ((k : Int) + 1)).isSome = true) := hide (by rw [hf]; rfl)
            clear hf
            have HTF : Hid (ordT f (8 * j + (k + 1)) = ordT f (8 * j + k) ++ [(⟨ke, ti, va⟩ : R)]) := HST
            have HBA := hide ((unhide hbl).alloc hbs (.cells #[.int .i64 ke, .int .i64 ti, .int .i64 va] 113))
            have HOA := hide ((unhide how).alloc (.cells #[.int .i64 ke, .int .i64 ti, .int .i64 va] 113))
            have hs1 : w.heap.size ≤ (wr.alloc (.cells #[.int .i64 ke, .int .i64 ti, .int .i64 va] 113)).heap.size := by simp; omega
            go_wp2_with (first | (at_lookup; refine wpList_lookA _ rfl _ _ rfl b _ _ rfl (unhide HM) ((j : Int) + 1) ((k : Int) + 1) (unhide HWJ) (unhide HWK) rfl ke ti va true (unhide HA) (unhide HE) ?_) | (at_builtin; refine wpList_apS ((unhide HOA).alloc _) (wr.heap.size + 1) 0 1 1 [(⟨ke, ti, va⟩ : R)] rfl (by have := rm_new (wr.alloc (.cells #[.int .i64 ke, .int .i64 ti, .int .i64 va] 113)) ⟨ke, ti, va⟩; simpa using this) (by simp only [List.length_cons, List.length_nil]; omega) (by simp; omega) rfl _ _ rfl rfl rfl ?_; intro v' w' ho hg; have HO : Hid (w'.ownsRow w.heap.size 113 3 v' (ordT f (8 * j + (k + 1))).length (flat (ordT f (8 * j + (k + 1))))) := hide (by rw [unhide HTF]; exact ho); have HB := hide (below_own ((unhide HBA).alloc hs1 _) ((unhide HOA).alloc _) hg (Nat.le_refl _) (by simp; omega)); clear ho hg))
            go_roundw
            case rel => exact ⟨k + 1, by omega, by go_num, HO, HB⟩
            case measure => simp [intOf]; omega
        · obtain rfl : k = 8 := by omega
          have HO : Hid (wr.ownsRow w.heap.size 113 3 u3 (ordT f (8 * (j + 1))).length (flat (ordT f (8 * (j + 1))))) := hide (by rw [show 8 * (j + 1) = 8 * j + 8 by omega]; exact unhide how)
          go_wp2_with fail
          go_roundw
          case rel => exact ⟨j + 1, by omega, by go_num, HO, hbl⟩
          case measure => simp [intOf]; omega
    · obtain rfl : j = 8 := by omega
      have HL := hide (lst_own rfl (unhide how0))
      go_wp2_with fail
      go_ret
      exact ⟨_, rfl, unhide hbl0, unhide HL⟩
end Tp
end Go.Proofs.YtilphgfjgeoiaaaGreat
