/-
  Of the texts Tim, AdvM, AdvC, RtrO, NetM, RtrM, RtrL, NetW, Ints, NetA, IntsL, NetT: what this claim needs of them. (put together by mkprune.py)
-/
import Derived.Test.YtfooahhdikobeaaGreatQv4
import Derived.Laws.BitsAllLaws
import Derived.Laws.Shifts
import Derived.Deep.QuietTactic
import Derived.BigQuiet
import Derived.Deep.RegionHeld3
import Derived.Deep.DrawnRows
import Derived.Deep.Slices
import Derived.Laws.AppendOwn
namespace Go.Proofs.YtfooahhdikobeaaGreat
open Go.ChangeShapes Go.WideShapes Go.ChangeAt Go.RowKit
set_option linter.unusedVariables false
namespace Tim
open W1
/-- The time of a code. -/
def tim (c : Nat) : Int := (8 + (c % 8 : Nat)) * 2 ^ (c / 8) / 8
theorem and_mask (j : Nat) (hj : j ≤ 16) (x m : Int) (hm : m = ((2 ^ j - 1 : Nat) : Int)) : bits BinOp.and IntKind.i64 x m = x % ((2 ^ j : Nat) : Int) := by
  subst hm
  have hp : 2 ^ j ≤ 2 ^ 16 := Nat.pow_le_pow_right (by decide) hj
  have hp1 : 0 < 2 ^ j := Nat.two_pow_pos j
  have hd : 2 ^ j ∣ 2 ^ 64 := Nat.pow_dvd_pow 2 (by omega)
  show IntKind.i64.wrap ((BitVec.ofInt 64 x &&& BitVec.ofInt 64 ((2 ^ j - 1 : Nat) : Int)).toNat : Int) = _
  rw [BitVec.toNat_and, ofInt_u64 (2 ^ j - 1) (by omega), Nat.and_two_pow_sub_one_eq_mod, BitVec.toNat_ofInt, IntWalk.i64_left]
  have h1 : (((x % ((2 ^ 64 : Nat) : Int)).toNat % 2 ^ j : Nat) : Int) = x % ((2 ^ j : Nat) : Int) := by
    rw [Int.natCast_emod, Int.toNat_of_nonneg (Int.emod_nonneg _ (by decide)), Int.emod_emod_of_dvd _ (Int.natCast_dvd_natCast.2 hd)]
  rw [h1]
  have h2 := Int.emod_nonneg x (show ((2 ^ j : Nat) : Int) ≠ 0 by omega)
  have h3 := Int.emod_lt_of_pos x (show (0 : Int) < ((2 ^ j : Nat) : Int) by omega)
  unfold wrap64
  generalize x % ((2 ^ j : Nat) : Int) = y at *
  omega
theorem big {c : Nat} (hc : c ≤ 223) : wrap64 ((8 + (c : Int) % 8) * 2 ^ (c / 8)) = (8 + (c : Int) % 8) * 2 ^ (c / 8) := by
  have h1 : (2 : Int) ^ (c / 8) ≤ 134217728 := by
    have hN : (2 : Nat) ^ (c / 8) ≤ 134217728 := Nat.le_trans (Nat.pow_le_pow_right (n := 2) (by omega) (by omega : c / 8 ≤ 27)) (by decide)
    have h := Int.ofNat_le.2 hN
    rw [Int.natCast_pow] at h
    exact h
  have h0 : (0 : Int) < 2 ^ (c / 8) := Int.pow_pos (by omega)
  have h2 : (8 + (c : Int) % 8) * 2 ^ (c / 8) ≤ 15 * 2 ^ (c / 8) := Int.mul_le_mul_of_nonneg_right (by omega) (by omega)
  have h3 : 0 ≤ (8 + (c : Int) % 8) * 2 ^ (c / 8) := Int.mul_nonneg (by omega) (by omega)
  generalize (8 + (c : Int) % 8) * 2 ^ (c / 8) = x at *
  unfold wrap64
  omega
theorem tim_step (c : Nat) : tim c ≤ tim (c + 1) := by
  unfold tim
  have hp : (0 : Int) < 2 ^ (c / 8) := Int.pow_pos (by decide)
  refine Int.ediv_le_ediv (by decide) ?_
  by_cases h : c % 8 = 7
  · have h1 : (c + 1) % 8 = 0 := by omega
    have h2 : (c + 1) / 8 = c / 8 + 1 := by omega
    rw [h, h1, h2, Int.pow_succ]
    generalize (2 : Int) ^ (c / 8) = p at *
    omega
  · have h1 : (c + 1) % 8 = c % 8 + 1 := by omega
    have h2 : (c + 1) / 8 = c / 8 := by omega
    rw [h1, h2]
    exact Int.mul_le_mul_of_nonneg_right (by omega) (by omega)
theorem tim_mono {a b : Nat} (h : a ≤ b) : tim a ≤ tim b := by
  induction h with
  | refl => exact Int.le_refl _
  | step _ ih => exact Int.le_trans ih (tim_step _)
/-- k is the least code whose time is n or more. -/
def IsTime (n : Int) (k : Nat) : Prop := k ≤ 223 ∧ n ≤ tim k ∧ (k = 0 ∨ tim (k - 1) < n)
/-- The least code whose time is n or more. -/
def tcode (n : Int) : Nat := cnt tim 224 n
theorem tcode_of {n : Int} {k : Nat} (h : IsTime n k) : tcode n = k :=
  cnt_of _ _ _ _ (by have := h.1; omega) (fun c hc => by
    rcases h.2.2 with e | e
    · omega
    · have := tim_mono (show c ≤ k - 1 by omega); omega) (fun c hc _ => by have := tim_mono hc; have := h.2.1; omega)
theorem tcode_ex {n : Int} (h1 : n ≤ 251658240) : ∃ k, k ≤ 223 ∧ (∀ c, c < k → tim c < n) ∧ n ≤ tim k := by
  refine Classical.byContradiction fun hno => ?_
  have hall : ∀ k, k ≤ 224 → ∀ c, c < k → tim c < n := by
    intro k
    induction k with
    | zero => intro _ c hc; omega
    | succ k ih =>
      intro hk c hc
      have ih' := ih (by omega)
      by_cases ek : c = k
      · subst ek
        rcases Int.lt_or_le (tim c) n with hh | hh
        · exact hh
        · exact absurd ⟨c, by omega, ih', hh⟩ hno
      · exact ih' c (by omega)
  have := hall 224 (by omega) 223 (by omega)
  rw [show tim 223 = 251658240 by decide] at this
  omega
theorem tcode_is {n : Int} (h1 : n ≤ 251658240) : IsTime n (tcode n) := by
  obtain ⟨k, hk1, hk2, hk3⟩ := tcode_ex h1
  have h : IsTime n k := ⟨hk1, hk3, by
    by_cases e : k = 0
    · exact .inl e
    · exact .inr (hk2 _ (by omega))⟩
  rw [tcode_of h]; exact h
theorem tcode_lt {n : Int} (h1 : n ≤ 251658240) : tcode n ≤ 223 := (tcode_is h1).1
/-- Whether a time is exact. -/
def exTB (n : Int) : Bool := tim (tcode n) == n
/-- Whether a time may be a hello's. -/
def valB (n : Int) : Bool := inB n 1 10000 && exTB n
set_option maxHeartbeats 400000 in
theorem timeAt (c : Nat) (hc : c ≤ 223) (w : World) : Calls Tryz.prog 223 #[.int .i64 c] w fun e w' => e = .returned (.int .i64 (tim c)) ∧ w' = w := by
  go_enter Tryz.func223, Tryz.ntmps223
  go_wp2
  go_ret
  refine ⟨ret_int ?_, rfl⟩
  have := big hc
  unfold tim
  simp [this]
theorem below_drewN {B : Nat} {w w' : World} (h : Below B w w') (q : Nat) : Below B w (w'.drewN q) := ⟨h.os, h.tape, h.output, h.size, h.block⟩
set_option maxHeartbeats 400000 in
theorem cloT (i : Nat) (hi : i ≤ 223) (n : Int) (b : Nat) (w : World) (hc : w.cell? ⟨b, 0, none⟩ = some (.int .i64 n)) :
    Calls Tryz.prog 226 #[.int .i64 i, .pointer (some ⟨b, 0, none⟩)] w fun e w' => e = .returned (.bool (decide (n ≤ tim i))) ∧ Below w.heap.size w w' := by
  by_cases h : n ≤ tim i
  all_goals
    go_enter Tryz.func226, Tryz.ntmps226
    go_wp2_with fail
    go_quiet ((go_at_call 223; exact Calls.quiet_of_same (timeAt i hi _)))
    go_wp2_with fail
    go_ret
    exact ⟨ret_bool (by simp [h]), below_drewN (Below.refl _ _) _⟩
set_option maxHeartbeats 1000000 in
theorem search (b : Nat) (n : Int) (h1 : n ≤ tim 223) (w : World) (hb : w.cell? ⟨b, 0, none⟩ = some (.int .i64 n)) :
    Calls Tryz.prog 225 #[.int .i64 224, .func (.func 226) #[] #[.pointer (some ⟨b, 0, none⟩)]] w fun e w' => e = .returned (.int .i64 (tcode n)) ∧ Below w.heap.size w w' := by
  have HB := hide hb
  have hblt := World.block_lt_of_cell? _ _ hb
  clear hb
  have H1 := hide h1
  clear h1
  go_enter Tryz.func225, Tryz.ntmps225
  go_wp2
  go_loopw [5, 6] (fun lo hi wr => ∃ low high : Nat, low ≤ high ∧ high ≤ 224 ∧ lo = .int .i64 low ∧ hi = .int .i64 high ∧ Hid (∀ i, i < low → tim i < n) ∧ Hid (∀ i, high ≤ i → i < 224 → n ≤ tim i) ∧ Hid (Below w.heap.size w wr)) (fun lo hi _ => (intOf hi - intOf lo).toNat)
  case atStart => exact ⟨0, 224, by omega, by omega, rfl, rfl, hide (fun i hi => by omega), hide (fun i hi h2 => by omega), hide (Below.refl _ _)⟩
  case round =>
    obtain ⟨low, high, hlh, hhn, rfl, rfl, h1, h2, hbl⟩ := hrel
    by_cases hlt : (low : Int) < (high : Int)
    · obtain ⟨mid, hmid⟩ : ∃ mid : Nat, mid = (low + high) / 2 := ⟨_, rfl⟩
      have hm1 : low ≤ mid := by omega
      have hm2 : mid < high := by omega
      have em : ((low : Int) + (high : Int)) / 2 = (mid : Int) := by omega
      have HC := hide ((unhide hbl).cell (p := ⟨b, 0, none⟩) hblt)
      clear hmid
      go_wp2_with fail
      refine (cloT mid (by omega) n b _ ((unhide HC).trans (unhide HB))).mono ?_
      rintro e w1 ⟨rfl, b1⟩
      have hb1 := hide ((unhide hbl).trans (b1.mono (unhide hbl).size))
      clear b1
      by_cases hp : n ≤ tim mid
      · have HST : Hid (∀ i, mid ≤ i → i < 224 → n ≤ tim i) := hide (fun i hi _ => Int.le_trans hp (tim_mono hi))
        rw [decide_eq_true hp]
        go_wp2_with fail
        exact ⟨⟨low, mid, by omega, by omega, rfl, rfl, h1, HST, hb1⟩, by simp [intOf]; omega⟩
      · have HST : Hid (∀ i, i < mid + 1 → tim i < n) := hide (fun i hi => by have := tim_mono (show i ≤ mid by omega); omega)
        rw [decide_eq_false hp]
        go_wp2_with fail
        exact ⟨⟨mid + 1, high, by omega, by omega, by go_num, rfl, HST, h2, hb1⟩, by simp [intOf]; omega⟩
    · obtain rfl : low = high := by omega
      have HT : Hid (tcode n = low) := hide (cnt_of _ _ _ _ hhn (unhide h1) (unhide h2))
      go_wp2_with fail
      go_ret
      exact ⟨ret_int (by rw [unhide HT]), unhide hbl⟩
set_option maxHeartbeats 400000 in
theorem leastTime (n : Int) (h1 : n ≤ 251658240) (w : World) :
    Calls Tryz.prog 222 #[.int .i64 n] w fun e w' => e = .returned (.int .i64 (tcode n)) ∧ Below w.heap.size w w' := by
  go_enter Tryz.func222, Tryz.ntmps222
  go_wp2_with fail
  refine (search w.heap.size n (by rw [show tim 223 = 251658240 by decide]; exact h1) _ (by simp [World.cell?_alloc_new])).mono ?_
  rintro e w1 ⟨rfl, b1⟩
  go_wp2_with fail
  go_ret
  exact ⟨rfl, ((Below.refl _ _).alloc (Nat.le_refl _) _).trans (b1.mono (by simp))⟩
set_option maxHeartbeats 400000 in
theorem isExactTime (n : Int) (h1 : n ≤ 251658240) (w : World) :
    Calls Tryz.prog 217 #[.int .i64 n] w fun e w' => e = .returned (.bool (exTB n)) ∧ Below w.heap.size w w' := by
  have hlt := tcode_lt h1
  have hlt' : ((tcode n : Nat) : Int) < 224 := by omega
  cases hx : tim (tcode n) == n
  all_goals
    have HX := hide hx
    go_enter Tryz.func217, Tryz.ntmps217
    go_wp2_with fail
    refine (leastTime n h1 _).mono ?_
    rintro e w1 ⟨rfl, b1⟩
    have B1 := hide b1
    clear b1
    generalize hk : tcode n = k at *
    have HK := hide hk
    clear hk
    go_wp2_with (go_at_call 223; refine (timeAt k hlt _).mono ?_; rintro e w' ⟨rfl, rfl⟩)
    go_ret
    exact ⟨ret_bool (by unfold exTB; rw [unhide HK, unhide HX]), unhide B1⟩
set_option maxHeartbeats 400000 in
theorem isValid (n : Int) (w : World) : Calls Tryz.prog 202 #[.int .i64 n] w fun e w' => e = .returned (.bool (valB n)) ∧ Below w.heap.size w w' := by
  cases h : inB n 1 10000
  · go_enter Tryz.func202, Tryz.ntmps202
    go_wp2_with (go_at_call 88; refine (within _ _ _ _).mono ?_; rintro e w' ⟨rfl, rfl⟩)
    go_ret
    exact ⟨ret_bool (by simp [valB, h]), Below.refl _ _⟩
  · have h0 : 1 ≤ n ∧ n ≤ 10000 := by simpa [inB] using h
    have HH := hide h
    go_enter Tryz.func202, Tryz.ntmps202
    go_wp2_with (first | (go_at_call 88; refine (within _ _ _ _).mono ?_; rintro e w' ⟨rfl, rfl⟩) | (go_at_call 217; refine (isExactTime n (by omega) _).mono ?_; rintro e w' ⟨rfl, b1⟩))
    go_ret
    exact ⟨ret_bool (by simp [valB, unhide HH]), b1⟩
end Tim
end Go.Proofs.YtfooahhdikobeaaGreat
namespace Go.Proofs.YtfooahhdikobeaaGreat
open Go.ChangeShapes Go.WideShapes Go.ChangeAt Go.RowKit
set_option linter.unusedVariables false
set_option linter.unusedSimpArgs false
attribute [local go_sem ↓] Go.wp_at_zero Go.wp_at_succ
namespace Av
open W1 Ed
/-- A metric that has a code of its own. -/
def exM (n : Int) : Bool := Mtr.met (Mtr.mcode n) == n
def toldB (n : Int) : Bool := inB n 1 16744192 && exM n
def okN (m : R) : Bool := inB m.ad 1 8 && toldB m.mt
abbrev allN (ms : List R) (j : Nat) : Bool := Ri.all R.zero okN R.ad ms j
/-- Whether an advertisement is right. -/
def tcB (ansn valid : Int) (ms : List R) : Bool := inB ansn 0 65535 && (Tim.valB valid && allN ms ms.length)
theorem ok_ad {m : R} (h : okN m = true) : 1 ≤ m.ad ∧ m.ad ≤ 8 := by
  unfold okN inB at h; simp at h; exact h.1
theorem all_len {ms : List R} (h : allN ms ms.length = true) : ms.length ≤ 8 := by
  have := Ri.all_long (lo := 1) (hi := 8) (fun m hm => ok_ad hm) h; omega
theorem tc_all {ansn valid : Int} {ms : List R} (h : tcB ansn valid ms = true) : allN ms ms.length = true := by
  unfold tcB at h; simp at h; exact h.2.2
set_option maxHeartbeats 400000 in
theorem isTold (n : Int) (w : World) : Calls Tryz.prog 213 #[.int .i64 n] w fun e w' => e = .returned (.bool (toldB n)) ∧ w' = w := by
  cases h : inB n 1 16744192
  · go_enter Tryz.func213, Tryz.ntmps213
    go_wp2_with (go_at_call 88; refine (within _ _ _ _).mono ?_; rintro e w' ⟨rfl, rfl⟩)
    go_ret
    exact ⟨ret_bool (by simp [toldB, h]), rfl⟩
  · have h0 : 1 ≤ n ∧ n ≤ 16744192 := by simpa [inB] using h
    have HH := hide h
    have hk := (Mtr.mcode_is (n := n) (by omega) (by omega)).1
    have E : Hid (toldB n = (Mtr.met (Mtr.mcode n) == n)) := hide (by unfold toldB exM; rw [h]; rfl)
    generalize hq : Mtr.mcode n = k at *
    have HQ := hide hq
    clear hq
    cases hx : Mtr.met k == n
    all_goals
      go_enter Tryz.func213, Tryz.ntmps213
      go_wp2_with (first | (go_at_call 88; refine (within _ _ _ _).mono ?_; rintro e w' ⟨rfl, rfl⟩) | (go_at_call 221; refine (Mtr.leastMetric n (by omega) (by omega) _).mono ?_; rintro e w' ⟨rfl, rfl⟩; rw [unhide HQ]) | (go_at_call 220; refine (Mtr.metricAt k hk _).mono ?_; rintro e w' ⟨rfl, rfl⟩))
      go_ret
      exact ⟨ret_bool (by rw [unhide E, hx]), rfl⟩
set_option maxHeartbeats 1000000 in
theorem isEdge (ad mt : Int) (w : World) :
    Calls Tryz.prog 203 #[.agg #[.int .i64 ad, .int .i64 mt]] w fun e w' => e = .returned (.bool (okN ⟨ad, mt⟩)) ∧ Below w.heap.size w w' := by
  have E : Hid (okN ⟨ad, mt⟩ = (inB ad 1 8 && toldB mt)) := hide rfl
  cases h1 : inB ad 1 8
  rotate_left
  cases h3 : toldB mt
  all_goals
    go_enter Tryz.func203, Tryz.ntmps203
    go_wp2_with (first | (go_at_call 109; refine (isAddress _ _).mono ?_; rintro e w' ⟨rfl, rfl⟩) | (go_at_call 213; refine (isTold _ _).mono ?_; rintro e w' ⟨rfl, rfl⟩))
    go_ret
    exact ⟨ret_bool (by rw [unhide E]; simp [*]), (Below.refl _ _).alloc (Nat.le_refl _) _⟩
set_option maxHeartbeats 400000 in
theorem l04Ex (n : Int) (h0 : 1 ≤ n) (h1 : n ≤ 16744192) (w : World) : Calls Tryz.prog 141 #[.int .i64 n] w fun e w' => e = .returned (.bool (exM n)) ∧ w' = w := by
  have hk := (Mtr.mcode_is (n := n) (by omega) (by omega)).1
  have E : Hid (exM n = (Mtr.met (Mtr.mcode n) == n)) := hide rfl
  generalize hq : Mtr.mcode n = k at *
  have HQ := hide hq
  clear hq
  cases hx : Mtr.met k == n
  all_goals
    go_enter Tryz.func141, Tryz.ntmps141
    go_wp2_with (first | (go_at_call 181; refine (Mtr.l02MetricCodeE n (by omega) (by omega) _).mono ?_; rintro e w' ⟨rfl, rfl⟩; rw [unhide HQ]) | (go_at_call 180; refine (Mtr.l02Metric k hk _).mono ?_; rintro e w' ⟨rfl, rfl⟩))
    go_ret
    exact ⟨ret_bool (by rw [unhide E, hx]), rfl⟩
end Av
end Go.Proofs.YtfooahhdikobeaaGreat
namespace Go.Proofs.YtfooahhdikobeaaGreat
open Go.ChangeShapes Go.WideShapes Go.ChangeAt Go.RowKit
set_option linter.unusedVariables false
set_option linter.unusedSimpArgs false
attribute [local go_sem ↓] Go.wp_at_zero Go.wp_at_succ
namespace Av
open W1 Ed
/-- An edge in a variable's block. -/
def Bx (w : World) (b : Nat) (m : R) : Prop := w.cell? ⟨b, 0, none⟩ = some (.int .i64 m.ad) ∧ w.cell? ⟨b, 1, none⟩ = some (.int .i64 m.mt)
theorem Bx.below {w w' : World} {b : Nat} {m : R} (h : Bx w b m) (hb : Below w.heap.size w w') : Bx w' b m := by
  have hg : b < w.heap.size := World.block_lt_of_cell? _ _ h.1
  obtain ⟨h0, h1⟩ := h
  refine ⟨?_, ?_⟩ <;> (rw [hb.cell hg]; assumption)
theorem Bx.drew {w : World} {b : Nat} {m : R} (h : Bx w b m) : Bx w.drew b m := h
theorem bx_new (w : World) (m : R) (t : Nat) : Bx (w.alloc (.cells #[.int .i64 m.ad, .int .i64 m.mt] t)) w.heap.size m := by
  refine ⟨?_, ?_⟩ <;> simp [World.cell?_alloc_new]
theorem sBox {w : World} {b : Nat} {ad mt : Int} (h : Bx w b ⟨ad, mt⟩) : Bx w b ⟨ad, mt⟩ ∧ w.cell? ⟨b, 0, none⟩ = some (.int .i64 ad) ∧ w.cell? ⟨b, 1, none⟩ = some (.int .i64 mt) := ⟨h, h⟩
theorem sBox2 {w : World} {b g p B : Nat} {m : R} {ad mt will valid : Int} {v : Value} (h : Bx w b ⟨ad, mt⟩) (h' : At w g p m) (hB : Bx3 w B will valid v) :
    (Bx w b ⟨ad, mt⟩ ∧ At w g p m ∧ Bx3 w B will valid v) ∧ w.cell? ⟨b, 0, none⟩ = some (.int .i64 ad) ∧ w.cell? ⟨b, 1, none⟩ = some (.int .i64 mt) ∧ w.cell? ⟨g, p, none⟩ = some (.int .i64 m.ad) ∧ w.cell? ⟨B, 2, none⟩ = some v := ⟨⟨h, h', hB⟩, h.1, h.2, h'.1, hB.2.2⟩
set_option maxRecDepth 100000 in
set_option maxHeartbeats 4000000 in
theorem implOK (will valid : Int) (a : Option Addr) (ms : List R) (cap : Nat) (w : World) (hm : ms.length ≤ 1048576) (hr : RM w a ms) :
    Calls Tryz.prog 170 #[.agg #[.int .i64 will, .int .i64 valid, .slice a ms.length cap]] w fun e w' => e = .returned (.bool (tcB will valid ms)) ∧ Below w.heap.size w w' := by
  cases h1 : inB will 0 65535
  · have HF := hide (show tcB will valid ms = false by unfold tcB; rw [h1]; rfl)
    go_enter Tryz.func170, Tryz.ntmps170
    go_wp2_with (go_at_call 111; refine (isSeq _ _).mono ?_; rintro e w' ⟨rfl, rfl⟩)
    go_ret
    exact ⟨ret_bool (unhide HF).symm, (Below.refl _ _).alloc (Nat.le_refl _) _⟩
  cases h2 : Tim.valB valid
  · have HF := hide (show tcB will valid ms = false by unfold tcB; rw [h1, h2]; rfl)
    go_enter Tryz.func170, Tryz.ntmps170
    go_wp2_with (go_at_call 111; refine (isSeq _ _).mono ?_; rintro e w' ⟨rfl, rfl⟩)
    refine (Tim.isValid valid _).mono ?_
    rintro e w1 ⟨rfl, b1⟩
    have HB1 : Hid (Below w.heap.size w w1) := hide (((Below.refl _ _).alloc (Nat.le_refl _) _).trans (b1.mono (by simp)))
    clear b1
    go_wp2_with fail
    go_ret
    exact ⟨ret_bool (unhide HF).symm, unhide HB1⟩
  have HT : Hid (allN ms ms.length = true → tcB will valid ms = true) := hide (fun h => by unfold tcB; rw [h1, h2, h]; rfl)
  have HF : Hid (allN ms ms.length = false → tcB will valid ms = false) := hide (fun h => by unfold tcB; rw [h1, h2, h]; rfl)
  have HR := hide hr
  clear hr
  generalize hN : ms.length = n at *
  have HN := hide hN
  clear hN
  go_enter Tryz.func170, Tryz.ntmps170
  go_wp2_with (go_at_call 111; refine (isSeq _ _).mono ?_; rintro e w' ⟨rfl, rfl⟩)
  refine (Tim.isValid valid _).mono ?_
  rintro e w1 ⟨rfl, b1⟩
  have HB1 : Hid (Below w.heap.size w w1) := hide (((Below.refl _ _).alloc (Nat.le_refl _) _).trans (b1.mono (by simp)))
  have HX1 := hide ((bx3_new w will valid (.slice a n cap) 203).below b1)
  have hbx := (unhide HX1).2.2
  have HR1 := hide ((unhide HR).below (unhide HB1))
  clear b1 HR
  go_wp2
  clear hbx
  go_loopw [18] (fun i wr => ∃ j : Nat, j ≤ n ∧ i = .int .i64 j ∧ Hid (allN ms j = true) ∧ Hid (Below w1.heap.size w1 wr)) (fun i _ => n - (intOf i).toNat)
  case atStart => exact ⟨0, by omega, rfl, hide Ri.all_zero, hide (Below.refl _ _)⟩
  case round =>
    obtain ⟨j, hj, rfl, hrl, hbl⟩ := hrel
    by_cases hlt : (j : Int) < (n : Int)
    · have k0 : (0 : Int) ≤ (j : Int) := by omega
      have hlen : j < ms.length := by rw [unhide HN]; omega
      have HX := hide ((unhide HX1).below (unhide hbl))
      rcases (unhide HR1).below (by exact (unhide hbl)) with e0 | ⟨g, off, rfl, hc⟩
      · exfalso; rw [e0] at hlen; simp at hlen
      have HL := hide hlen
      have hA := hc j hlen
      have hsz := (unhide hbl).size
      have HBX := hide (bx_new wr (ms.getD j R.zero) 183)
      have HBL := hide ((unhide hbl).alloc hsz (.cells #[.int .i64 (ms.getD j R.zero).ad, .int .i64 (ms.getD j R.zero).mt] 183))
      have HXA := hide ((unhide HX).below ((Below.refl _ _).alloc (Nat.le_refl _) (.cells #[.int .i64 (ms.getD j R.zero).ad, .int .i64 (ms.getD j R.zero).mt] 183)))
      clear HX
      cases hk : okN (ms.getD j R.zero)
      · clear hc
        have HST := hide (unhide HF (by have := Ri.all_no hlen (Ri.step_bad (key := R.ad) hk); exact (unhide HN) ▸ this))
        have HK := hide hk
        clear hk
        generalize ms.getD j R.zero = m at *
        obtain ⟨ad, mt⟩ := m
        obtain ⟨c0, c1⟩ := hA
        dsimp only at c0 c1
        go_wp2_with fail
        generalize hW : wr.alloc (.cells #[.int .i64 ad, .int .i64 mt] 183) = W0 at *
        clear hW
        refine wp_region_noPanic ?_
        refine wp_region_held_drew (S := fun w' => Bx w' wr.heap.size ⟨ad, mt⟩ ∧ w'.cell? ⟨wr.heap.size, 0, none⟩ = some (.int .i64 ad) ∧ w'.cell? ⟨wr.heap.size, 1, none⟩ = some (.int .i64 mt)) (by kernel_rfl) (sBox (unhide HBX).drew) (fun hHeld => ?_)
        refine Rg.t 0 23 ?_
        (refine Rg.o 1 (fun K hK => ?_); go_simp)
        refine (isEdge ad mt _).mono ?_
        rintro e w2 ⟨rfl, b2⟩
        rw [unhide HK]
        refine hK.out _ _ (sBox ((unhide HBX).drew.below b2)) (fun hHeld => ?_)
        clear hK K
        (try simp only [Act.put, List.setIfInBounds_toArray, List.set_cons_zero, List.set_cons_succ])
        refine Rg.t 2 25 ?_
        refine Rg.t 3 26 ?_
        refine Rg.s 4 27 ?_
        refine Rg.s 5 28 ?_
        refine Rg.s 6 29 ?_
        refine Rg.s 7 30 ?_
        refine Rg.s 8 31 ?_
        refine Rg.s 9 32 ?_
        refine Rg.s 10 33 ?_
        refine Rg.s 11 34 ?_
        refine Rg.s 12 35 ?_
        refine Rg.s 13 36 ?_
        refine Rg.s 14 37 ?_
        refine Rg.s 15 38 ?_
        refine Rg.s 16 39 ?_
        refine Rg.s 17 40 ?_
        refine Rg.t 18 41 ?_
        refine wpAnyH_done (by kernel_rfl) (NoPanic.normal ?_) _
        have hb1 := hide ((unhide HB1).trans (((unhide HBL).drew.trans (b2.mono (by show w1.heap.size ≤ W0.heap.size; exact (unhide HBL).size))).mono (unhide HB1).size))
        go_wp2_with fail
        go_ret
        exact ⟨ret_bool (unhide HST).symm, unhide hb1⟩
      have HK := hide hk
      clear hk
      by_cases hj0 : j = 0
      · subst hj0
        clear hc
        rw [Nat.zero_mul, Nat.add_zero] at hA
        have HST := hide (Ri.all_succ (unhide hrl) (Ri.step_zero (key := R.ad) (unhide HK)))
        generalize ms.getD 0 R.zero = m at *
        obtain ⟨ad, mt⟩ := m
        obtain ⟨c0, c1⟩ := hA
        dsimp only at c0 c1
        go_wp2_with fail
        generalize hW : wr.alloc (.cells #[.int .i64 ad, .int .i64 mt] 183) = W0 at *
        clear hW
        refine wp_region_noPanic ?_
        refine wp_region_held_drew (S := fun w' => Bx w' wr.heap.size ⟨ad, mt⟩ ∧ w'.cell? ⟨wr.heap.size, 0, none⟩ = some (.int .i64 ad) ∧ w'.cell? ⟨wr.heap.size, 1, none⟩ = some (.int .i64 mt)) (by kernel_rfl) (sBox (unhide HBX).drew) (fun hHeld => ?_)
        refine Rg.t 0 23 ?_
        (refine Rg.o 1 (fun K hK => ?_); go_simp)
        refine (isEdge ad mt _).mono ?_
        rintro e w2 ⟨rfl, b2⟩
        rw [unhide HK]
        refine hK.out _ _ (sBox ((unhide HBX).drew.below b2)) (fun hHeld => ?_)
        clear hK K
        (try simp only [Act.put, List.setIfInBounds_toArray, List.set_cons_zero, List.set_cons_succ])
        refine Rg.t 2 25 ?_
        refine Rg.t 3 26 ?_
        refine Rg.t 4 27 ?_
        refine Rg.t 5 28 ?_
        refine Rg.t 6 29 ?_
        refine Rg.s 7 30 ?_
        refine Rg.s 8 31 ?_
        refine Rg.s 9 32 ?_
        refine Rg.s 10 33 ?_
        refine Rg.s 11 34 ?_
        refine Rg.s 12 35 ?_
        refine Rg.s 13 36 ?_
        refine Rg.s 14 37 ?_
        refine Rg.s 15 38 ?_
        refine Rg.s 16 39 ?_
        refine Rg.t 17 40 ?_
        refine Rg.t 18 41 ?_
        refine wpAnyH_done (by kernel_rfl) (NoPanic.normal ?_) _
        have hb1 := hide ((unhide HBL).drew.trans (b2.mono (by show w1.heap.size ≤ W0.heap.size; exact (unhide HBL).size)))
        go_wp2_with fail
        go_roundw
        case rel => exact ⟨0 + 1, by omega, by go_num, HST, hb1⟩
        case measure => simp [intOf]; omega
      · obtain ⟨i, hji⟩ : ∃ i, j = i + 1 := ⟨j - 1, by omega⟩
        have HJ := hide hji
        have e1 : (j : Int) - 1 = (i : Int) := by omega
        have i0 : (0 : Int) ≤ (i : Int) := by omega
        have wi : IntKind.i64.wrap (i : Int) = (i : Int) := by rw [IntKind.wrap_i64]; omega
        have i1 : (i : Int) < (n : Int) := by omega
        have j1 : (0 : Int) < (j : Int) := by omega
        have j2 : 0 < j := by omega
        have hP := hide ((hc i (by omega)).below ((Below.refl _ _).alloc (Nat.le_refl _) (.cells #[.int .i64 (ms.getD j R.zero).ad, .int .i64 (ms.getD j R.zero).mt] 183)))
        have EJ : ms.getD j R.zero = ms.getD (i + 1) R.zero := by rw [hji]
        clear hc hji
        by_cases hk : (ms.getD i R.zero).ad < (ms.getD j R.zero).ad
        · have HST : Hid (allN ms (j + 1) = true) := hide (Ri.all_succ (unhide hrl) (by rw [unhide HJ]; exact Ri.step_lt (by rw [← EJ]; exact unhide HK) (by rw [← EJ]; exact hk)))
          clear EJ
          generalize ms.getD j R.zero = m at *
          generalize ms.getD i R.zero = m0 at *
          obtain ⟨ad, mt⟩ := m
          obtain ⟨ad0, mt0⟩ := m0
          dsimp only at hk
          obtain ⟨c0, c1⟩ := hA
          dsimp only at c0 c1
          go_wp2_with fail
          generalize hW : wr.alloc (.cells #[.int .i64 ad, .int .i64 mt] 183) = W0 at *
          clear hW
          refine wp_region_noPanic ?_
          refine wp_region_held_drew (S := fun w' => (Bx w' wr.heap.size ⟨ad, mt⟩ ∧ At w' g (off + i * 2) ⟨ad0, mt0⟩ ∧ Bx3 w' w.heap.size will valid (.slice (some ⟨g, off, none⟩) n cap)) ∧ w'.cell? ⟨wr.heap.size, 0, none⟩ = some (.int .i64 ad) ∧ w'.cell? ⟨wr.heap.size, 1, none⟩ = some (.int .i64 mt) ∧ w'.cell? ⟨g, off + i * 2, none⟩ = some (.int .i64 ad0) ∧ w'.cell? ⟨w.heap.size, 2, none⟩ = some (.slice (some ⟨g, off, none⟩) n cap)) (by kernel_rfl) (sBox2 (unhide HBX).drew (unhide hP).drew (unhide HXA).drew) (fun hHeld => ?_)
          refine Rg.t 0 23 ?_
          (refine Rg.o 1 (fun K hK => ?_); go_simp)
          refine (isEdge ad mt _).mono ?_
          rintro e w2 ⟨rfl, b2⟩
          rw [unhide HK]
          refine hK.out _ _ (sBox2 ((unhide HBX).drew.below b2) ((unhide hP).drew.below b2) ((unhide HXA).drew.below b2)) (fun hHeld => ?_)
          clear hK K
          (try simp only [Act.put, List.setIfInBounds_toArray, List.set_cons_zero, List.set_cons_succ])
          refine Rg.t 2 25 ?_
          refine Rg.t 3 26 ?_
          refine Rg.t 4 27 ?_
          refine Rg.t 5 28 ?_
          refine Rg.t 6 29 ?_
          refine Rg.t 7 30 ?_
          refine Rg.t 8 31 ?_
          refine Rg.t 9 32 ?_
          refine Rg.t 10 33 ?_
          refine Rg.t 11 34 ?_
          refine Rg.t 12 35 ?_
          refine Rg.t 13 36 ?_
          refine Rg.t 14 37 ?_
          refine Rg.t 15 38 ?_
          refine Rg.t 16 39 ?_
          refine Rg.t 17 40 ?_
          refine Rg.t 18 41 ?_
          refine wpAnyH_done (by kernel_rfl) (NoPanic.normal ?_) _
          have hb1 := hide ((unhide HBL).drew.trans (b2.mono (by show w1.heap.size ≤ W0.heap.size; exact (unhide HBL).size)))
          go_wp2_with fail
          go_roundw
          case rel => exact ⟨j + 1, by omega, by go_num, HST, hb1⟩
          case measure => simp [intOf]; omega
        · have HST : Hid (tcB will valid ms = false) := hide (unhide HF (by have := Ri.all_no (unhide HL) (show Ri.step R.zero okN R.ad ms j = false by rw [unhide HJ]; exact Ri.step_ge (by rw [← EJ]; omega)); exact (unhide HN) ▸ this))
          clear EJ
          generalize ms.getD j R.zero = m at *
          generalize ms.getD i R.zero = m0 at *
          obtain ⟨ad, mt⟩ := m
          obtain ⟨ad0, mt0⟩ := m0
          dsimp only at hk
          obtain ⟨c0, c1⟩ := hA
          dsimp only at c0 c1
          go_wp2_with fail
          generalize hW : wr.alloc (.cells #[.int .i64 ad, .int .i64 mt] 183) = W0 at *
          clear hW
          refine wp_region_noPanic ?_
          refine wp_region_held_drew (S := fun w' => (Bx w' wr.heap.size ⟨ad, mt⟩ ∧ At w' g (off + i * 2) ⟨ad0, mt0⟩ ∧ Bx3 w' w.heap.size will valid (.slice (some ⟨g, off, none⟩) n cap)) ∧ w'.cell? ⟨wr.heap.size, 0, none⟩ = some (.int .i64 ad) ∧ w'.cell? ⟨wr.heap.size, 1, none⟩ = some (.int .i64 mt) ∧ w'.cell? ⟨g, off + i * 2, none⟩ = some (.int .i64 ad0) ∧ w'.cell? ⟨w.heap.size, 2, none⟩ = some (.slice (some ⟨g, off, none⟩) n cap)) (by kernel_rfl) (sBox2 (unhide HBX).drew (unhide hP).drew (unhide HXA).drew) (fun hHeld => ?_)
          refine Rg.t 0 23 ?_
          (refine Rg.o 1 (fun K hK => ?_); go_simp)
          refine (isEdge ad mt _).mono ?_
          rintro e w2 ⟨rfl, b2⟩
          rw [unhide HK]
          refine hK.out _ _ (sBox2 ((unhide HBX).drew.below b2) ((unhide hP).drew.below b2) ((unhide HXA).drew.below b2)) (fun hHeld => ?_)
          clear hK K
          (try simp only [Act.put, List.setIfInBounds_toArray, List.set_cons_zero, List.set_cons_succ])
          refine Rg.t 2 25 ?_
          refine Rg.t 3 26 ?_
          refine Rg.t 4 27 ?_
          refine Rg.t 5 28 ?_
          refine Rg.t 6 29 ?_
          refine Rg.t 7 30 ?_
          refine Rg.t 8 31 ?_
          refine Rg.t 9 32 ?_
          refine Rg.t 10 33 ?_
          refine Rg.t 11 34 ?_
          refine Rg.t 12 35 ?_
          refine Rg.t 13 36 ?_
          refine Rg.t 14 37 ?_
          refine Rg.t 15 38 ?_
          refine Rg.t 16 39 ?_
          refine Rg.t 17 40 ?_
          refine Rg.t 18 41 ?_
          refine wpAnyH_done (by kernel_rfl) (NoPanic.normal ?_) _
          have hb1 := hide ((unhide HB1).trans (((unhide HBL).drew.trans (b2.mono (by show w1.heap.size ≤ W0.heap.size; exact (unhide HBL).size))).mono (unhide HB1).size))
          go_wp2_with fail
          go_ret
          exact ⟨ret_bool (unhide HST).symm, unhide hb1⟩
    · obtain rfl : j = n := by omega
      go_wp2
      go_ret
      exact ⟨ret_bool (unhide HT (unhide hrl)).symm, (unhide HB1).trans ((unhide hbl).mono (unhide HB1).size)⟩
set_option maxRecDepth 100000 in
set_option maxHeartbeats 4000000 in
theorem l05Edges (a : Option Addr) (ms : List R) (cap : Nat) (w : World) (hm : ms.length ≤ 1048576) (hr : RM w a ms) :
    Calls Tryz.prog 138 #[.slice a ms.length cap] w fun e w' => e = .returned (.bool (allN ms ms.length)) ∧ ∃ q, w' = w.drewN q := by
  have HT : Hid (allN ms ms.length = true → ms.length ≤ 8) := hide all_len
  have HR := hide hr
  clear hr
  obtain ⟨A, hA⟩ : ∃ A, allN ms ms.length = A := ⟨_, rfl⟩
  have HA := hide hA
  rw [hA]
  clear hA
  generalize hN : ms.length = n at *
  have HN := hide hN
  clear hN
  go_enter Tryz.func138, Tryz.ntmps138
  go_wp2_with fail
  go_loopw [3] (fun i wr => ∃ j : Nat, j ≤ n ∧ i = .int .i64 j ∧ Hid (allN ms j = true) ∧ Hid (∃ q, wr = w.drewN q)) (fun i _ => n - (intOf i).toNat)
  case atStart => exact ⟨0, by omega, rfl, hide Ri.all_zero, hide ⟨0, rfl⟩⟩
  case round =>
    obtain ⟨j, hj, rfl, hrl, hq⟩ := hrel
    have HRr : Hid (RM wr a ms) := hide (by obtain ⟨q, e⟩ := unhide hq; rw [e]; exact unhide HR)
    have HD : Hid (∀ m, ∃ q, wr.drewN m = w.drewN q) := hide (fun m => by obtain ⟨q, e⟩ := unhide hq; exact ⟨_, by rw [e, World.drewN_drewN]⟩)
    by_cases hlt : (j : Int) < (n : Int)
    · have k0 : (0 : Int) ≤ (j : Int) := by omega
      have hlen : j < ms.length := by rw [unhide HN]; omega
      rcases unhide HRr with e0 | ⟨g, off, rfl, hc⟩
      · exfalso; rw [e0] at hlen; simp at hlen
      have HL := hide hlen
      have hA := hc j hlen
      cases hk : okN (ms.getD j R.zero)
      · clear hc
        have HST : Hid (A = false) := hide (by rw [← unhide HA, ← unhide HN]; exact Ri.all_no hlen (Ri.step_bad (key := R.ad) hk))
        generalize ms.getD j R.zero = m at *
        obtain ⟨ad, mt⟩ := m
        obtain ⟨c0, c1⟩ := hA
        dsimp only at c0 c1
        have hk' : (inB ad 1 8 && (inB mt 1 16744192 && exM mt)) = false := hk
        clear hk
        cases h1 : inB ad 1 8
        rotate_left
        cases h2 : inB mt 1 16744192
        rotate_left
        have hmt : 1 ≤ mt ∧ mt ≤ 16744192 := by simpa [inB] using h2
        have h3 : exM mt = false := by rw [h1, h2] at hk'; simpa using hk'
        all_goals
          clear hk'
          go_wp2_with fail
          go_quiet ((first | (go_at_call 124; exact Calls.quiet_of_same (l01Addr _ _)) | (go_at_call 43; exact Calls.quiet_of_same (l01In _ _ _ _)) | (go_at_call 141; exact Calls.quiet_of_same (l04Ex mt (by omega) (by omega) _))))
          go_wp2_with fail
          go_ret
          exact ⟨ret_bool (unhide HST).symm, unhide HD _⟩
      have hk' : (inB (ms.getD j R.zero).ad 1 8 && (inB (ms.getD j R.zero).mt 1 16744192 && exM (ms.getD j R.zero).mt)) = true := hk
      simp only [Bool.and_eq_true] at hk'
      obtain ⟨h1, h2, h3⟩ := hk'
      have hmt : 1 ≤ (ms.getD j R.zero).mt ∧ (ms.getD j R.zero).mt ≤ 16744192 := by simpa [inB] using h2
      have HO := hide hk
      clear hk
      by_cases hj0 : j = 0
      · subst hj0
        clear hc
        rw [Nat.zero_mul, Nat.add_zero] at hA
        have HST := hide (Ri.all_succ (unhide hrl) (Ri.step_zero (key := R.ad) (unhide HO)))
        generalize ms.getD 0 R.zero = m at *
        obtain ⟨ad, mt⟩ := m
        obtain ⟨c0, c1⟩ := hA
        dsimp only at c0 c1 h1 h2 h3 hmt
        go_wp2_with fail
        go_quiet ((first | (go_at_call 124; exact Calls.quiet_of_same (l01Addr _ _)) | (go_at_call 43; exact Calls.quiet_of_same (l01In _ _ _ _)) | (go_at_call 141; exact Calls.quiet_of_same (l04Ex mt (by omega) (by omega) _))))
        go_wp2_with fail
        go_roundw
        case rel => exact ⟨0 + 1, by omega, by go_num, HST, hide (unhide HD _)⟩
        case measure => simp [intOf]; omega
      · obtain ⟨i, hji⟩ : ∃ i, j = i + 1 := ⟨j - 1, by omega⟩
        have HJ := hide hji
        have e1 : (j : Int) - 1 = (i : Int) := by omega
        have i0 : (0 : Int) ≤ (i : Int) := by omega
        have wi : IntKind.i64.wrap (i : Int) = (i : Int) := by rw [IntKind.wrap_i64]; omega
        have i1 : (i : Int) < (n : Int) := by omega
        have j1 : (0 : Int) < (j : Int) := by omega
        have j2 : 0 < j := by omega
        have hP := hc i (by omega)
        have EJ : ms.getD j R.zero = ms.getD (i + 1) R.zero := by rw [hji]
        clear hc hji
        by_cases hk : (ms.getD i R.zero).ad < (ms.getD j R.zero).ad
        · have HST : Hid (allN ms (j + 1) = true) := hide (Ri.all_succ (unhide hrl) (by rw [unhide HJ]; exact Ri.step_lt (by rw [← EJ]; exact unhide HO) (by rw [← EJ]; exact hk)))
          clear EJ
          generalize ms.getD j R.zero = m at *
          generalize ms.getD i R.zero = m0 at *
          obtain ⟨ad, mt⟩ := m
          obtain ⟨ad0, mt0⟩ := m0
          obtain ⟨c0, c1⟩ := hA
          obtain ⟨d0, d1⟩ := hP
          dsimp only at hk c0 c1 d0 d1 h1 h2 h3 hmt
          go_wp2_with fail
          go_quiet ((first | (go_at_call 124; exact Calls.quiet_of_same (l01Addr _ _)) | (go_at_call 43; exact Calls.quiet_of_same (l01In _ _ _ _)) | (go_at_call 141; exact Calls.quiet_of_same (l04Ex mt (by omega) (by omega) _))))
          go_wp2_with fail
          go_roundw
          case rel => exact ⟨j + 1, by omega, by go_num, HST, hide (unhide HD _)⟩
          case measure => simp [intOf]; omega
        · have HST : Hid (A = false) := hide (by rw [← unhide HA, ← unhide HN]; exact Ri.all_no (unhide HL) (show Ri.step R.zero okN R.ad ms j = false by rw [unhide HJ]; exact Ri.step_ge (by rw [← EJ]; omega)))
          clear EJ
          generalize ms.getD j R.zero = m at *
          generalize ms.getD i R.zero = m0 at *
          obtain ⟨ad, mt⟩ := m
          obtain ⟨ad0, mt0⟩ := m0
          obtain ⟨c0, c1⟩ := hA
          obtain ⟨d0, d1⟩ := hP
          dsimp only at hk c0 c1 d0 d1 h1 h2 h3 hmt
          go_wp2_with fail
          go_quiet ((first | (go_at_call 124; exact Calls.quiet_of_same (l01Addr _ _)) | (go_at_call 43; exact Calls.quiet_of_same (l01In _ _ _ _)) | (go_at_call 141; exact Calls.quiet_of_same (l04Ex mt (by omega) (by omega) _))))
          go_wp2_with fail
          go_ret
          exact ⟨ret_bool (unhide HST).symm, unhide HD _⟩
    · obtain rfl : j = n := by omega
      have ht : A = true := by rw [← unhide HA, ← unhide hrl]
      have h8 := unhide HT (unhide hrl)
      have h8' : (j : Int) ≤ 8 := by omega
      have HST := hide ht
      clear ht
      go_wp2
      go_ret
      exact ⟨ret_bool (unhide HST).symm, unhide hq⟩
end Av
end Go.Proofs.YtfooahhdikobeaaGreat
namespace Go.Proofs.YtfooahhdikobeaaGreat
open Go.ChangeShapes Go.WideShapes Go.ChangeAt Go.RowKit
set_option linter.unusedVariables false
set_option linter.unusedSimpArgs false
set_option maxRecDepth 100000
attribute [local go_sem ↓] Go.wp_at_zero Go.wp_at_succ
namespace Rt
open W1
/-- Whether what a router keeps of a link can be advertised. -/
def outB (co sy : Int) : Bool := if (co == 0) = true then sy == 0 else Av.toldB co
def lkB (me : Int) (x : Lk.R) : Bool := !(x.ad == me) && outB x.co x.sy
def twB (me : Int) (m : Tu.R) : Bool := !(Tw.hv m == me) && !(Tw.ha m == me)
def lksB (me : Int) (ls : List Lk.R) : Bool := Ln.linksB ls && ls.all (lkB me)
def twoOf (me : Int) (tw : List Tu.R) : Bool := Tw.twoB tw && tw.all (twB me)
def rtrB (x1 x2 x3 x4 x5 x6 : Int) (ls : List Lk.R) (tw se du : List Tu.R) (ss : List So.R) (es : List Tu.R) (la : List Ed.R) : Bool :=
  inB x1 1 8 && (inB x2 0 7 && (inB x3 0 65535 && (inB x4 0 65535 && (inB x5 0 100000 && (inB x6 0 1000000 && (lksB x1 ls && (twoOf x1 tw && (St.setB se && (St.setB du && (Tp.topB ss es && (!(Tp.hasS ss x1) && Av.allN la la.length)))))))))))
theorem all_no {α : Type} {p : α → Bool} {z : α} {ms : List α} {j : Nat} (h : j < ms.length) (hp : p (ms.getD j z) = false) : ms.all p = false := by
  rw [List.all_eq_false]
  refine ⟨ms.getD j z, ?_, by rw [hp]; simp⟩
  rw [List.getD_eq_getElem?_getD, List.getElem?_eq_getElem h]; exact List.getElem_mem h
theorem all_step {α : Type} {p : α → Bool} {z : α} {ms : List α} {j : Nat} (h : j < ms.length) (ha : (ms.take j).all p = true) (hp : p (ms.getD j z) = true) : (ms.take (j + 1)).all p = true := by
  rw [List.take_add_one, List.getElem?_eq_getElem h, List.all_append, ha]
  rw [List.getD_eq_getElem?_getD, List.getElem?_eq_getElem h] at hp
  simpa using hp
set_option maxHeartbeats 2000000 in
theorem isOutOf (ad hd sy ci co wl : Int) (w : World) :
    Calls Tryz.prog 198 #[.agg #[.int .i64 ad, .int .i64 hd, .int .i64 sy, .int .i64 ci, .int .i64 co, .int .i64 wl]] w fun e w' => e = .returned (.bool (outB co sy)) ∧ Below w.heap.size w w' := by
  have E : Hid (outB co sy = if (co == 0) = true then sy == 0 else Av.toldB co) := hide rfl
  cases h1 : (co == 0)
  · go_enter Tryz.func198, Tryz.ntmps198
    go_wp2_with (go_at_call 213; refine (Av.isTold _ _).mono ?_; rintro e w' ⟨rfl, rfl⟩)
    go_ret
    exact ⟨ret_bool (by rw [unhide E, h1]; simp), (Below.refl _ _).alloc (Nat.le_refl _) _⟩
  · go_enter Tryz.func198, Tryz.ntmps198
    go_wp2_with fail
    go_ret
    exact ⟨ret_bool (by rw [unhide E, h1]; simp), (Below.refl _ _).alloc (Nat.le_refl _) _⟩
set_option maxHeartbeats 4000000 in
theorem areLinksOf (me : Int) (a : Option Addr) (ls : List Lk.R) (cap : Nat) (w : World) (hm : ls.length ≤ 1048576) (hr : Lk.RM w a ls) :
    Calls Tryz.prog 165 #[.int .i64 me, .slice a ls.length cap] w fun e w' => e = .returned (.bool (lksB me ls)) ∧ Below w.heap.size w w' := by
  have HR := hide hr
  clear hr
  have E : Hid (lksB me ls = (Ln.linksB ls && ls.all (lkB me))) := hide rfl
  have KL := hide (fun W => Ln.implOK a ls cap W hm)
  cases hl : Ln.linksB ls
  · have hv : lksB me ls = false := by rw [unhide E, hl]; rfl
    rw [hv]
    rw [hl] at KL
    clear hv hl
    go_enter Tryz.func165, Tryz.ntmps165
    go_wp2_with fail
    refine (unhide KL _ (unhide HR)).mono ?_
    rintro e w1 ⟨rfl, b1⟩
    have HB1 := hide b1
    clear b1
    go_wp2_with fail
    go_ret
    exact ⟨rfl, unhide HB1⟩
  have h8 := Ln.links_len hl
  have HE : Hid (lksB me ls = ls.all (lkB me)) := hide (by rw [unhide E, hl]; rfl)
  rw [hl] at KL
  clear hl E
  obtain ⟨A, hA⟩ : ∃ A, lksB me ls = A := ⟨_, rfl⟩
  rw [hA] at HE ⊢
  clear hA
  generalize hN : ls.length = n at *
  have HN := hide hN
  clear hN
  go_enter Tryz.func165, Tryz.ntmps165
  go_wp2_with fail
  refine (unhide KL _ (unhide HR)).mono ?_
  rintro e w1 ⟨rfl, b1⟩
  have HB1 := hide b1
  clear b1
  go_wp2_with fail
  go_loopw [12] (fun i wr => ∃ j : Nat, j ≤ n ∧ i = .int .i64 j ∧ Hid ((ls.take j).all (lkB me) = true) ∧ Hid (Below w.heap.size w wr)) (fun i _ => n - (intOf i).toNat)
  case atStart => exact ⟨0, by omega, rfl, hide rfl, HB1⟩
  case round =>
    obtain ⟨j, hj, rfl, hal, hbl⟩ := hrel
    have hbs := (unhide hbl).size
    by_cases hlt : (j : Int) < (n : Int)
    · have k0 : (0 : Int) ≤ (j : Int) := by omega
      have hlen : j < ls.length := by rw [unhide HN]; omega
      obtain ⟨g, off, rfl⟩ := (unhide HR).form (by omega)
      have hA := ((unhide HR).below (unhide hbl)).at hlen
      have HY : Hid (lkB me (ls.getD j Lk.R.zero) = true → (ls.take (j + 1)).all (lkB me) = true) := hide (fun h => all_step hlen (unhide hal) h)
      have HZ : Hid (lkB me (ls.getD j Lk.R.zero) = false → A = false) := hide (fun h => by rw [unhide HE]; exact all_no hlen h)
      generalize ls.getD j Lk.R.zero = m at *
      obtain ⟨ad, hd, sy, ci, co, wl⟩ := m
      obtain ⟨c0, c1, c2, c3, c4, c5⟩ := hA
      dsimp only at c0 c1 c2 c3 c4 c5
      have EK : Hid (lkB me ⟨ad, hd, sy, ci, co, wl⟩ = (!(ad == me) && outB co sy)) := hide rfl
      have HB2 := hide ((unhide hbl).alloc hbs (.cells #[.int .i64 ad, .int .i64 hd, .int .i64 sy, .int .i64 ci, .int .i64 co, .int .i64 wl] 166))
      cases q1 : (ad == me)
      · have KO := hide (isOutOf ad hd sy ci co wl)
        cases q2 : outB co sy
        · have hf := unhide HZ (by rw [unhide EK, q1, q2]; rfl)
          rw [q2] at KO
          clear q2 HY HZ EK
          go_wp2_with fail
          generalize hWW : wr.alloc (.cells #[.int .i64 ad, .int .i64 hd, .int .i64 sy, .int .i64 ci, .int .i64 co, .int .i64 wl] 166) = WW at *
          clear hWW c0 c1 c2 c3 c4 c5
          refine (unhide KO _).mono ?_
          rintro e w3 ⟨rfl, b3⟩
          have HB3 := hide ((unhide HB2).trans (b3.mono (unhide HB2).size))
          clear b3
          go_wp2_with fail
          go_ret
          exact ⟨ret_bool hf.symm, unhide HB3⟩
        · have hy := hide (unhide HY (by rw [unhide EK, q1, q2]; rfl))
          rw [q2] at KO
          clear q2 HY HZ EK
          go_wp2_with fail
          generalize hWW : wr.alloc (.cells #[.int .i64 ad, .int .i64 hd, .int .i64 sy, .int .i64 ci, .int .i64 co, .int .i64 wl] 166) = WW at *
          clear hWW c0 c1 c2 c3 c4 c5
          refine (unhide KO _).mono ?_
          rintro e w3 ⟨rfl, b3⟩
          have HB3 := hide ((unhide HB2).trans (b3.mono (unhide HB2).size))
          clear b3
          go_wp2_with fail
          go_roundw
          case rel => exact ⟨j + 1, by omega, by go_num, hy, HB3⟩
          case measure => simp [intOf]; omega
      · have hf := unhide HZ (by rw [unhide EK, q1]; rfl)
        clear HY HZ EK
        go_wp2_with fail
        go_ret
        exact ⟨ret_bool hf.symm, unhide HB2⟩
    · obtain rfl : j = n := by omega
      have e : ls.take j = ls := List.take_of_length_le (by rw [unhide HN]; exact Nat.le_refl _)
      have ht : A = true := by rw [unhide HE, ← e]; exact unhide hal
      have HT := hide ht
      clear e ht
      go_wp2_with fail
      go_ret
      exact ⟨ret_bool (unhide HT).symm, unhide hbl⟩
set_option maxHeartbeats 4000000 in
theorem areTwoOf (me : Int) (a : Option Addr) (tw : List Tu.R) (cap : Nat) (w : World) (hm : tw.length ≤ 1048576) (hr : Tu.RM w a tw) :
    Calls Tryz.prog 166 #[.int .i64 me, .slice a tw.length cap] w fun e w' => e = .returned (.bool (twoOf me tw)) ∧ Below w.heap.size w w' := by
  have HR := hide hr
  clear hr
  have E : Hid (twoOf me tw = (Tw.twoB tw && tw.all (twB me))) := hide rfl
  have KL := hide (fun W => Tw.areHops a tw cap W hm)
  cases hl : Tw.twoB tw
  · have hv : twoOf me tw = false := by rw [unhide E, hl]; rfl
    rw [hv]
    rw [hl] at KL
    clear hv hl
    go_enter Tryz.func166, Tryz.ntmps166
    go_wp2_with fail
    refine (unhide KL _ (unhide HR)).mono ?_
    rintro e w1 ⟨rfl, b1⟩
    have HB1 := hide b1
    clear b1
    go_wp2_with fail
    go_ret
    exact ⟨rfl, unhide HB1⟩
  have h62 := Tw.two_len hl
  have HTW := hide hl
  have HE : Hid (twoOf me tw = tw.all (twB me)) := hide (by rw [unhide E, hl]; rfl)
  rw [hl] at KL
  clear hl E
  obtain ⟨A, hA⟩ : ∃ A, twoOf me tw = A := ⟨_, rfl⟩
  rw [hA] at HE ⊢
  clear hA
  generalize hN : tw.length = n at *
  have HN := hide hN
  clear hN
  go_enter Tryz.func166, Tryz.ntmps166
  go_wp2_with fail
  refine (unhide KL _ (unhide HR)).mono ?_
  rintro e w1 ⟨rfl, b1⟩
  have HB1 := hide b1
  clear b1
  go_wp2_with fail
  go_loopw [13] (fun i wr => ∃ j : Nat, j ≤ n ∧ i = .int .i64 j ∧ Hid ((tw.take j).all (twB me) = true) ∧ Hid (Below w.heap.size w wr)) (fun i _ => n - (intOf i).toNat)
  case atStart => exact ⟨0, by omega, rfl, hide rfl, HB1⟩
  case round =>
    obtain ⟨j, hj, rfl, hal, hbl⟩ := hrel
    have hbs := (unhide hbl).size
    by_cases hlt : (j : Int) < (n : Int)
    · have k0 : (0 : Int) ≤ (j : Int) := by omega
      have hlen : j < tw.length := by rw [unhide HN]; omega
      obtain ⟨g, off, rfl⟩ := (unhide HR).form (by omega)
      have hA := ((unhide HR).below (unhide hbl)).at hlen
      have HY : Hid (twB me (tw.getD j Tu.R.zero) = true → (tw.take (j + 1)).all (twB me) = true) := hide (fun h => all_step hlen (unhide hal) h)
      have HZ : Hid (twB me (tw.getD j Tu.R.zero) = false → A = false) := hide (fun h => by rw [unhide HE]; exact all_no hlen h)
      have hbd := St.ok_bounds (St.setB_ok (Tw.two_set (unhide HTW)) hlen)
      generalize tw.getD j Tu.R.zero = m at *
      obtain ⟨key, til, val⟩ := m
      obtain ⟨c0, c1, c2⟩ := hA
      dsimp only at c0 c1 c2 hbd
      have EK : Hid (twB me ⟨key, til, val⟩ = (!(key.tdiv 100 == me) && !(key.tmod 100 == me))) := hide rfl
      have KH := hide (fun W => Tw.hopOfKey key W (by omega) (by omega))
      obtain ⟨kd, hkd⟩ : ∃ kd, key.tdiv 100 = kd := ⟨_, rfl⟩
      obtain ⟨km, hkm⟩ : ∃ km, key.tmod 100 = km := ⟨_, rfl⟩
      rw [hkd, hkm] at EK KH
      clear hkd hkm hbd
      have HB2 := hide ((unhide hbl).alloc hbs (.cells #[.int .i64 key, .int .i64 til, .int .i64 val] 99))
      go_wp2_with fail
      generalize hWW : wr.alloc (.cells #[.int .i64 key, .int .i64 til, .int .i64 val] 99) = WW at *
      clear hWW c0 c1 c2
      refine (unhide KH _).mono ?_
      rintro e w3 ⟨rfl, b3⟩
      have HB3 := hide (((unhide HB2).trans (b3.mono (unhide HB2).size)).alloc (Nat.le_trans (unhide HB2).size b3.size) (.cells #[.int .i64 kd, .int .i64 km] 145))
      clear b3
      cases q1 : (kd == me)
      · cases q2 : (km == me)
        · have hy := hide (unhide HY (by rw [unhide EK, q1, q2]; rfl))
          clear HY HZ EK
          go_wp2_with fail
          go_roundw
          case rel => exact ⟨j + 1, by omega, by go_num, hy, HB3⟩
          case measure => simp [intOf]; omega
        · have hf := unhide HZ (by rw [unhide EK, q1, q2]; rfl)
          clear HY HZ EK
          go_wp2_with fail
          go_ret
          exact ⟨ret_bool hf.symm, unhide HB3⟩
      · have hf := unhide HZ (by rw [unhide EK, q1]; rfl)
        clear HY HZ EK
        go_wp2_with fail
        go_ret
        exact ⟨ret_bool hf.symm, unhide HB3⟩
    · obtain rfl : j = n := by omega
      have e : tw.take j = tw := List.take_of_length_le (by rw [unhide HN]; exact Nat.le_refl _)
      have ht : A = true := by rw [unhide HE, ← e]; exact unhide hal
      have HT := hide ht
      clear e ht
      go_wp2_with fail
      go_ret
      exact ⟨ret_bool (unhide HT).symm, unhide hbl⟩
end Rt
end Go.Proofs.YtfooahhdikobeaaGreat
namespace Go.Proofs.YtfooahhdikobeaaGreat
open Go.ChangeShapes Go.WideShapes Go.ChangeAt Go.RowKit
set_option linter.unusedVariables false
set_option linter.unusedSimpArgs false
set_option maxRecDepth 100000
attribute [local go_sem ↓] Go.wp_at_zero Go.wp_at_succ
namespace Nt
open W1 Rt
/-- All places below n. -/
def allI (n : Nat) (p : Nat → Bool) : Bool := (List.range n).all p
theorem allI_no {n : Nat} {p : Nat → Bool} {j : Nat} (h : j < n) (hp : p j = false) : allI n p = false := by
  unfold allI
  rw [List.all_eq_false]
  exact ⟨j, List.mem_range.2 h, by rw [hp]; simp⟩
theorem allI_yes {n : Nat} {p : Nat → Bool} (h : ∀ i, i < n → p i = true) : allI n p = true := by
  unfold allI
  rw [List.all_eq_true]
  exact fun i hi => h i (List.mem_range.1 hi)
theorem allI_at {n : Nat} {p : Nat → Bool} (h : allI n p = true) {i : Nat} (hi : i < n) : p i = true := by
  unfold allI at h
  rw [List.all_eq_true] at h
  exact h i (List.mem_range.2 hi)
theorem up_to {p : Nat → Bool} {j : Nat} (h : ∀ i, i < j → p i = true) (hj : p j = true) : ∀ i, i < j + 1 → p i = true := fun i hi => by
  by_cases e : i = j
  · subst e; exact hj
  · exact h i (by omega)
/-- A cost at a place of n routers' rows. -/
def cok (cs : List Int) (n i : Nat) : Bool := inB (cs.getD i 0) 0 256 && (!(decide (i / n = i % n)) || cs.getD i 0 == 0)
def costB (cs : List Int) (n : Nat) : Bool := cs.length == n * n && allI cs.length (cok cs n)
theorem diag {n i : Nat} (h1 : 1 ≤ n) (h6 : n ≤ 6) (hi : i < n * n) : (i % (n + 1) = 0) ↔ (i / n = i % n) := by
  have key : ∀ n, n < 7 → 1 ≤ n → ∀ i, i < 36 → i < n * n → ((i % (n + 1) = 0) ↔ (i / n = i % n)) := by decide +kernel
  exact key n (by omega) h1 i (Nat.lt_of_lt_of_le hi (Nat.mul_le_mul h6 h6)) hi
/-- A frame of n routers at a time. -/
def fok (f : Fm.R) (n : Nat) (t : Int) : Bool := inB f.fr 1 n && (inB f.tt 1 n && (!(f.fr == f.tt) && (inB f.ti t (t + 1) && decide ((f.bs.size : Int) ≤ 900))))
def airB (fs : List Fm.R) (n : Nat) (t : Int) : Bool := decide (fs.length ≤ 200) && allI fs.length fun i => fok (fs.getD i Fm.R.zero) n t
def okM (m : Rm) : Bool := rtrB m.x1 m.x2 m.x3 m.x4 m.x5 m.x6 m.ls m.tw m.se m.du m.ss m.es m.la
def rok (m : Rm) (i : Nat) (t : Int) : Bool := okM m && (m.x1 == (i : Int) + 1 && decide (m.x5 ≤ t))
def rtsB (ms : List Rm) (t : Int) : Bool := allI ms.length fun i => rok (ms.getD i Rm.zero) i t
/-- Whether a net is right. -/
def netB (ms : List Rm) (cs : List Int) (fs : List Fm.R) (t : Int) : Bool := inB t 0 100000 && (inB ms.length 1 6 && (rtsB ms t && (costB cs ms.length && airB fs ms.length t)))
end Nt
end Go.Proofs.YtfooahhdikobeaaGreat
namespace Go.Proofs.YtfooahhdikobeaaGreat
open Go.ChangeShapes Go.WideShapes Go.ChangeAt Go.RowKit
set_option linter.unusedVariables false
set_option linter.unusedSimpArgs false
set_option maxRecDepth 100000
attribute [local go_sem ↓] Go.wp_at_zero Go.wp_at_succ
namespace Rt
open W1
theorem RA.but {w w' : World} {b : Nat} {cs : List Value} (h : RA w b cs) (hb : w'.heap[b]? = w.heap[b]?) : RA w' b cs := by
  have c : ∀ q, w'.cell? ⟨b, q, none⟩ = w.cell? ⟨b, q, none⟩ := fun q => World.cell?_of_block (a := ⟨b, q, none⟩) hb
  have f : ∀ q, w'.frozen? ⟨b, q, none⟩ = w.frozen? ⟨b, q, none⟩ := fun q => World.frozen?_of_block (a := ⟨b, q, none⟩) hb
  exact ⟨fun j u hu => (c _).trans (h.1 j u hu), fun j hj => ⟨by rw [c]; exact (h.2.1 j hj).1, by rw [f]; exact (h.2.1 j hj).2⟩, h.2.2⟩
theorem cells13 : Tryz.prog.cellsOf 114 = 13 := by kernel_rfl
theorem cells_int : Tryz.prog.cellsOf 3 = 1 := by kernel_rfl
theorem cells_lk : Tryz.prog.cellsOf 107 = 1 := by kernel_rfl
theorem cells_tu : Tryz.prog.cellsOf 108 = 1 := by kernel_rfl
theorem cells_so : Tryz.prog.cellsOf 109 = 1 := by kernel_rfl
theorem cells_ed : Tryz.prog.cellsOf 112 = 1 := by kernel_rfl
theorem cells_top : Tryz.prog.cellsOf 111 = 2 := by kernel_rfl
theorem list13 {α : Type} {l : List α} (h : l.length = 13) : ∃ c0 c1 c2 c3 c4 c5 c6 c7 c8 c9 c10 c11 c12, l = [c0, c1, c2, c3, c4, c5, c6, c7, c8, c9, c10, c11, c12] := by
  match l, h with
  | [c0, c1, c2, c3, c4, c5, c6, c7, c8, c9, c10, c11, c12], _ => exact ⟨c0, c1, c2, c3, c4, c5, c6, c7, c8, c9, c10, c11, c12, rfl⟩
theorem list12 {α : Type} {l : List α} (h : l.length = 12) : ∃ x0 x1 x2 x3 x4 x5 x6 x7 x8 x9 x10 x11, l = [x0, x1, x2, x3, x4, x5, x6, x7, x8, x9, x10, x11] := by
  match l, h with
  | [x0, x1, x2, x3, x4, x5, x6, x7, x8, x9, x10, x11], _ => exact ⟨x0, x1, x2, x3, x4, x5, x6, x7, x8, x9, x10, x11, rfl⟩
end Rt
end Go.Proofs.YtfooahhdikobeaaGreat
namespace Go.Proofs.YtfooahhdikobeaaGreat
open Go.ChangeShapes Go.WideShapes Go.ChangeAt Go.RowKit
set_option linter.unusedVariables false
set_option linter.unusedSimpArgs false
set_option maxRecDepth 100000
namespace Rt
open W1
/-- Seven lists that lie one behind the other between two bounds of the heap. -/
def RL (W : World) (lo hi : Nat) (a1 a2 a3 a4 a5 a6 a7 : Option Addr) (ls : List Lk.R) (tw : List Tu.R) (se : List Tu.R) (du : List Tu.R) (ss : List So.R) (es : List Tu.R) (la : List Ed.R) : Prop :=
  ∃ b1 b2 b3 b4 b5 b6 : Nat, (lo ≤ b1 ∧ b1 ≤ b2 ∧ b2 ≤ b3 ∧ b3 ≤ b4 ∧ b4 ≤ b5 ∧ b5 ≤ b6 ∧ b6 ≤ hi) ∧ Lk.Lst W a1 (ls) lo b1 ∧ Tu.Lst W a2 (tw) b1 b2 ∧ Tu.Lst W a3 (se) b2 b3 ∧ Tu.Lst W a4 (du) b3 b4 ∧ So.Lst W a5 (ss) b4 b5 ∧ Tu.Lst W a6 (es) b5 b6 ∧ Ed.Lst W a7 (la) b6 hi
theorem RL.below {W W' : World} {lo hi : Nat} {a1 a2 a3 a4 a5 a6 a7 : Option Addr} {ls : List Lk.R} {tw : List Tu.R} {se : List Tu.R} {du : List Tu.R} {ss : List So.R} {es : List Tu.R} {la : List Ed.R} (h : RL W lo hi a1 a2 a3 a4 a5 a6 a7 ls tw se du ss es la) (hb : Below W.heap.size W W') : RL W' lo hi a1 a2 a3 a4 a5 a6 a7 ls tw se du ss es la := by
  obtain ⟨b1, b2, b3, b4, b5, b6, ⟨o0, o1, o2, o3, o4, o5, o6⟩, h1, h2, h3, h4, h5, h6, h7⟩ := h
  exact ⟨b1, b2, b3, b4, b5, b6, ⟨o0, o1, o2, o3, o4, o5, o6⟩, h1.below hb, h2.below hb, h3.below hb, h4.below hb, h5.below hb, h6.below hb, h7.below hb⟩
theorem RL.but {W W' : World} {lo hi L H : Nat} {a1 a2 a3 a4 a5 a6 a7 : Option Addr} {ls : List Lk.R} {tw : List Tu.R} {se : List Tu.R} {du : List Tu.R} {ss : List So.R} {es : List Tu.R} {la : List Ed.R} (h : RL W lo hi a1 a2 a3 a4 a5 a6 a7 ls tw se du ss es la) (hs : W.heap.size ≤ W'.heap.size) (hb : ∀ k, k < W.heap.size → (k < L ∨ H ≤ k) → W'.heap[k]? = W.heap[k]?) (hd : hi ≤ L ∨ H ≤ lo) : RL W' lo hi a1 a2 a3 a4 a5 a6 a7 ls tw se du ss es la := by
  obtain ⟨b1, b2, b3, b4, b5, b6, ⟨o0, o1, o2, o3, o4, o5, o6⟩, h1, h2, h3, h4, h5, h6, h7⟩ := h
  exact ⟨b1, b2, b3, b4, b5, b6, ⟨o0, o1, o2, o3, o4, o5, o6⟩, h1.but (p := fun k => k < L ∨ H ≤ k) hs (fun k hk h => hb k hk h) (fun k h1 h2 => by omega), h2.but (p := fun k => k < L ∨ H ≤ k) hs (fun k hk h => hb k hk h) (fun k h1 h2 => by omega), h3.but (p := fun k => k < L ∨ H ≤ k) hs (fun k hk h => hb k hk h) (fun k h1 h2 => by omega), h4.but (p := fun k => k < L ∨ H ≤ k) hs (fun k hk h => hb k hk h) (fun k h1 h2 => by omega), h5.but (p := fun k => k < L ∨ H ≤ k) hs (fun k hk h => hb k hk h) (fun k h1 h2 => by omega), h6.but (p := fun k => k < L ∨ H ≤ k) hs (fun k hk h => hb k hk h) (fun k h1 h2 => by omega), h7.but (p := fun k => k < L ∨ H ≤ k) hs (fun k hk h => hb k hk h) (fun k h1 h2 => by omega)⟩
theorem RL.r1 {W : World} {lo hi : Nat} {a1 a2 a3 a4 a5 a6 a7 : Option Addr} {ls : List Lk.R} {tw : List Tu.R} {se : List Tu.R} {du : List Tu.R} {ss : List So.R} {es : List Tu.R} {la : List Ed.R} (h : RL W lo hi a1 a2 a3 a4 a5 a6 a7 ls tw se du ss es la) : Lk.RM W a1 ls := by obtain ⟨b1, b2, b3, b4, b5, b6, ⟨o0, o1, o2, o3, o4, o5, o6⟩, h1, h2, h3, h4, h5, h6, h7⟩ := h; exact h1.rm
theorem RL.r2 {W : World} {lo hi : Nat} {a1 a2 a3 a4 a5 a6 a7 : Option Addr} {ls : List Lk.R} {tw : List Tu.R} {se : List Tu.R} {du : List Tu.R} {ss : List So.R} {es : List Tu.R} {la : List Ed.R} (h : RL W lo hi a1 a2 a3 a4 a5 a6 a7 ls tw se du ss es la) : Tu.RM W a2 tw := by obtain ⟨b1, b2, b3, b4, b5, b6, ⟨o0, o1, o2, o3, o4, o5, o6⟩, h1, h2, h3, h4, h5, h6, h7⟩ := h; exact h2.rm
theorem RL.r3 {W : World} {lo hi : Nat} {a1 a2 a3 a4 a5 a6 a7 : Option Addr} {ls : List Lk.R} {tw : List Tu.R} {se : List Tu.R} {du : List Tu.R} {ss : List So.R} {es : List Tu.R} {la : List Ed.R} (h : RL W lo hi a1 a2 a3 a4 a5 a6 a7 ls tw se du ss es la) : Tu.RM W a3 se := by obtain ⟨b1, b2, b3, b4, b5, b6, ⟨o0, o1, o2, o3, o4, o5, o6⟩, h1, h2, h3, h4, h5, h6, h7⟩ := h; exact h3.rm
theorem RL.r4 {W : World} {lo hi : Nat} {a1 a2 a3 a4 a5 a6 a7 : Option Addr} {ls : List Lk.R} {tw : List Tu.R} {se : List Tu.R} {du : List Tu.R} {ss : List So.R} {es : List Tu.R} {la : List Ed.R} (h : RL W lo hi a1 a2 a3 a4 a5 a6 a7 ls tw se du ss es la) : Tu.RM W a4 du := by obtain ⟨b1, b2, b3, b4, b5, b6, ⟨o0, o1, o2, o3, o4, o5, o6⟩, h1, h2, h3, h4, h5, h6, h7⟩ := h; exact h4.rm
theorem RL.r5 {W : World} {lo hi : Nat} {a1 a2 a3 a4 a5 a6 a7 : Option Addr} {ls : List Lk.R} {tw : List Tu.R} {se : List Tu.R} {du : List Tu.R} {ss : List So.R} {es : List Tu.R} {la : List Ed.R} (h : RL W lo hi a1 a2 a3 a4 a5 a6 a7 ls tw se du ss es la) : So.RM W a5 ss := by obtain ⟨b1, b2, b3, b4, b5, b6, ⟨o0, o1, o2, o3, o4, o5, o6⟩, h1, h2, h3, h4, h5, h6, h7⟩ := h; exact h5.rm
theorem RL.r6 {W : World} {lo hi : Nat} {a1 a2 a3 a4 a5 a6 a7 : Option Addr} {ls : List Lk.R} {tw : List Tu.R} {se : List Tu.R} {du : List Tu.R} {ss : List So.R} {es : List Tu.R} {la : List Ed.R} (h : RL W lo hi a1 a2 a3 a4 a5 a6 a7 ls tw se du ss es la) : Tu.RM W a6 es := by obtain ⟨b1, b2, b3, b4, b5, b6, ⟨o0, o1, o2, o3, o4, o5, o6⟩, h1, h2, h3, h4, h5, h6, h7⟩ := h; exact h6.rm
theorem RL.r7 {W : World} {lo hi : Nat} {a1 a2 a3 a4 a5 a6 a7 : Option Addr} {ls : List Lk.R} {tw : List Tu.R} {se : List Tu.R} {du : List Tu.R} {ss : List So.R} {es : List Tu.R} {la : List Ed.R} (h : RL W lo hi a1 a2 a3 a4 a5 a6 a7 ls tw se du ss es la) : Ed.RM W a7 la := by obtain ⟨b1, b2, b3, b4, b5, b6, ⟨o0, o1, o2, o3, o4, o5, o6⟩, h1, h2, h3, h4, h5, h6, h7⟩ := h; exact h7.rm
theorem RL.le {W : World} {lo hi : Nat} {a1 a2 a3 a4 a5 a6 a7 : Option Addr} {ls : List Lk.R} {tw : List Tu.R} {se : List Tu.R} {du : List Tu.R} {ss : List So.R} {es : List Tu.R} {la : List Ed.R} (h : RL W lo hi a1 a2 a3 a4 a5 a6 a7 ls tw se du ss es la) : lo ≤ hi := by obtain ⟨b1, b2, b3, b4, b5, b6, ⟨o0, o1, o2, o3, o4, o5, o6⟩, h1, h2, h3, h4, h5, h6, h7⟩ := h; omega
theorem toRL (x1 x2 x3 x4 x5 x6 : Int) (a1 a2 a3 a4 a5 a6 a7 : Option Addr) (c1 c2 c3 c4 c5 c6 c7 : Nat) (ls : List Lk.R) (tw : List Tu.R) (se : List Tu.R) (du : List Tu.R) (ss : List So.R) (es : List Tu.R) (la : List Ed.R) (w : World) (hm1 : ls.length ≤ 1048576) (hm2 : tw.length ≤ 1048576) (hm3 : se.length ≤ 1048576) (hm4 : du.length ≤ 1048576) (hm5 : ss.length ≤ 1048576) (hm6 : es.length ≤ 1048576) (hm7 : la.length ≤ 1048576) (hr1 : Lk.RM w a1 ls) (hr2 : Tu.RM w a2 tw) (hr3 : Tu.RM w a3 se) (hr4 : Tu.RM w a4 du) (hr5 : So.RM w a5 ss) (hr6 : Tu.RM w a6 es) (hr7 : Ed.RM w a7 la) :
    Calls Tryz.prog 86 #[.agg #[.int .i64 x1, .int .i64 x2, .int .i64 x3, .int .i64 x4, .int .i64 x5, .slice a1 ls.length c1, .slice a2 tw.length c2, .slice a3 se.length c3, .slice a4 du.length c4, .slice a5 ss.length c5, .slice a6 es.length c6, .slice a7 la.length c7, .int .i64 x6]] w fun e w' => ∃ g1 g2 g3 g4 g5 g6 g7, e = .returned (.agg (rC x1 x2 x3 x4 x5 (.slice (some ⟨g1, 0, none⟩) ls.length ls.length) (.slice (some ⟨g2, 0, none⟩) tw.length tw.length) (.slice (some ⟨g3, 0, none⟩) se.length se.length) (.slice (some ⟨g4, 0, none⟩) du.length du.length) (.slice (some ⟨g5, 0, none⟩) ss.length ss.length) (.slice (some ⟨g6, 0, none⟩) es.length es.length) (.slice (some ⟨g7, 0, none⟩) la.length la.length) x6).toArray) ∧ Below w.heap.size w w' ∧ RL w' w.heap.size w'.heap.size (some ⟨g1, 0, none⟩) (some ⟨g2, 0, none⟩) (some ⟨g3, 0, none⟩) (some ⟨g4, 0, none⟩) (some ⟨g5, 0, none⟩) (some ⟨g6, 0, none⟩) (some ⟨g7, 0, none⟩) ls tw se du ss es la := by
  refine (toR x1 x2 x3 x4 x5 x6 a1 a2 a3 a4 a5 a6 a7 c1 c2 c3 c4 c5 c6 c7 ls tw se du ss es la w hm1 hm2 hm3 hm4 hm5 hm6 hm7 hr1 hr2 hr3 hr4 hr5 hr6 hr7).mono ?_
  rintro e w' ⟨g1, g2, g3, g4, g5, g6, g7, rfl, hb, ⟨o0, o1, o2, o3, o4, o5, o6, o7⟩, u1, u2, u3, u4, u5, u6, u7⟩
  refine ⟨g1, g2, g3, g4, g5, g6, g7, rfl, hb, g2, g3, g4, g5, g6, g7, ⟨by omega, by omega, by omega, by omega, by omega, by omega, by omega⟩, .inr ⟨g1, rfl, by omega, by omega, by omega, u1⟩, .inr ⟨g2, rfl, by omega, by omega, by omega, u2⟩, .inr ⟨g3, rfl, by omega, by omega, by omega, u3⟩, .inr ⟨g4, rfl, by omega, by omega, by omega, u4⟩, .inr ⟨g5, rfl, by omega, by omega, by omega, u5⟩, .inr ⟨g6, rfl, by omega, by omega, by omega, u6⟩, .inr ⟨g7, rfl, by omega, by omega, by omega, u7⟩⟩
end Rt
end Go.Proofs.YtfooahhdikobeaaGreat
namespace Go.Proofs.YtfooahhdikobeaaGreat
open Go.ChangeShapes Go.WideShapes Go.ChangeAt Go.RowKit
set_option linter.unusedVariables false
set_option linter.unusedSimpArgs false
set_option maxRecDepth 100000
attribute [local go_sem ↓] Go.wp_at_zero Go.wp_at_succ
namespace Nt
open W1 Rt
theorem szN (m : Rm) (p : Pl) (L : Int) (w : World) (hL : 0 ≤ L) (hL1 : L ≤ 1048576) (hs : Sx m) :
    Calls Tryz.prog 81 #[.agg (cl m p).toArray, .int .i64 L] w fun e w' => ∃ r : Int, e = .returned (.int .i64 r) ∧ Below w.heap.size w w' ∧ (r < 0 ∨ (0 ≤ r ∧ r = L - cnt m)) := by
  obtain ⟨s1, s2, s3, s4, s5, s6, s7⟩ := hs
  refine (szR m.x1 m.x2 m.x3 m.x4 m.x5 m.x6 p.a1 p.a2 p.a3 p.a4 p.a5 p.a6 p.a7 m.ls.length m.tw.length m.se.length m.du.length m.ss.length m.es.length m.la.length p.c1 p.c2 p.c3 p.c4 p.c5 p.c6 p.c7 L w hL hL1 s1 s2 s3 s4 s5 s6 s7).mono ?_
  rintro e w' ⟨r, rfl, hb, h⟩
  exact ⟨r, rfl, hb, by unfold cnt; omega⟩
theorem eqN (m : Rm) (p q : Pl) (w : World) (hs : Sm m) (hr : Rd w m p) (hq : Rd w m q) :
    Calls Tryz.prog 96 #[.agg (cl m p).toArray, .agg (cl m q).toArray] w fun e w' => e = .returned (.bool true) ∧ Below w.heap.size w w' := by
  obtain ⟨s1, s2, s3, s4, s5, s6, s7⟩ := hs
  obtain ⟨r1, r2, r3, r4, r5, r6, r7⟩ := hr
  obtain ⟨q1, q2, q3, q4, q5, q6, q7⟩ := hq
  exact eqR m.x1 m.x2 m.x3 m.x4 m.x5 m.x6 p.a1 p.a2 p.a3 p.a4 p.a5 p.a6 p.a7 p.c1 p.c2 p.c3 p.c4 p.c5 p.c6 p.c7 q.a1 q.a2 q.a3 q.a4 q.a5 q.a6 q.a7 q.c1 q.c2 q.c3 q.c4 q.c5 q.c6 q.c7 m.ls m.tw m.se m.du m.ss m.es m.la w s1 s2 s3 s4 s5 s6 s7 r1 r2 r3 r4 r5 r6 r7 q1 q2 q3 q4 q5 q6 q7
/-- Lists that may be written, one behind the other between two bounds. -/
def Ow (w : World) (lo hi : Nat) (m : Rm) (p : Pl) : Prop := RL w lo hi p.a1 p.a2 p.a3 p.a4 p.a5 p.a6 p.a7 m.ls m.tw m.se m.du m.ss m.es m.la
theorem Ow.rd {w : World} {lo hi : Nat} {m : Rm} {p : Pl} (h : Ow w lo hi m p) : Rd w m p := ⟨RL.r1 h, RL.r2 h, RL.r3 h, RL.r4 h, RL.r5 h, RL.r6 h, RL.r7 h⟩
theorem Ow.below {w w' : World} {lo hi : Nat} {m : Rm} {p : Pl} (h : Ow w lo hi m p) (hb : Below w.heap.size w w') : Ow w' lo hi m p := RL.below h hb
theorem Ow.but {w w' : World} {lo hi Lo Hi : Nat} {m : Rm} {p : Pl} (h : Ow w lo hi m p) (hs : w.heap.size ≤ w'.heap.size) (hb : ∀ k, k < w.heap.size → (k < Lo ∨ Hi ≤ k) → w'.heap[k]? = w.heap[k]?) (hd : hi ≤ Lo ∨ Hi ≤ lo) : Ow w' lo hi m p := RL.but h hs hb hd
theorem toN (m : Rm) (p : Pl) (w : World) (hs : Sm m) (hr : Rd w m p) :
    Calls Tryz.prog 86 #[.agg (cl m p).toArray] w fun e w' => ∃ q : Pl, e = .returned (.agg (cl m q).toArray) ∧ Below w.heap.size w w' ∧ Ow w' w.heap.size w'.heap.size m q ∧ Ad q := by
  obtain ⟨s1, s2, s3, s4, s5, s6, s7⟩ := hs
  obtain ⟨r1, r2, r3, r4, r5, r6, r7⟩ := hr
  refine (toRL m.x1 m.x2 m.x3 m.x4 m.x5 m.x6 p.a1 p.a2 p.a3 p.a4 p.a5 p.a6 p.a7 p.c1 p.c2 p.c3 p.c4 p.c5 p.c6 p.c7 m.ls m.tw m.se m.du m.ss m.es m.la w s1 s2 s3 s4 s5 s6 s7 r1 r2 r3 r4 r5 r6 r7).mono ?_
  rintro e w' ⟨g1, g2, g3, g4, g5, g6, g7, rfl, hb, h⟩
  exact ⟨⟨some ⟨g1, 0, none⟩, some ⟨g2, 0, none⟩, some ⟨g3, 0, none⟩, some ⟨g4, 0, none⟩, some ⟨g5, 0, none⟩, some ⟨g6, 0, none⟩, some ⟨g7, 0, none⟩, m.ls.length, m.tw.length, m.se.length, m.du.length, m.ss.length, m.es.length, m.la.length⟩, rfl, hb, h, ⟨g1, rfl⟩, ⟨g2, rfl⟩, ⟨g3, rfl⟩, ⟨g4, rfl⟩, ⟨g5, rfl⟩, ⟨g6, rfl⟩, ⟨g7, rfl⟩⟩
/-- A net in a variable's block. -/
def NB (w : World) (b : Nat) (v1 v2 v3 : Value) (t : Int) : Prop := w.cell? ⟨b, 0, none⟩ = some v1 ∧ w.cell? ⟨b, 1, none⟩ = some v2 ∧ w.cell? ⟨b, 2, none⟩ = some v3 ∧ w.cell? ⟨b, 3, none⟩ = some (.int .i64 t)
theorem NB.lt {w : World} {b : Nat} {v1 v2 v3 : Value} {t : Int} (h : NB w b v1 v2 v3 t) : b < w.heap.size := World.block_lt_of_cell? _ _ h.1
theorem NB.below {w w' : World} {b : Nat} {v1 v2 v3 : Value} {t : Int} (h : NB w b v1 v2 v3 t) (hb : Below w.heap.size w w') : NB w' b v1 v2 v3 t := by
  have hg := h.lt
  obtain ⟨h0, h1, h2, h3⟩ := h
  refine ⟨?_, ?_, ?_, ?_⟩ <;> (rw [hb.cell hg]; assumption)
theorem NB.drew {w : World} {b : Nat} {v1 v2 v3 : Value} {t : Int} (h : NB w b v1 v2 v3 t) : NB w.drew b v1 v2 v3 t := h
theorem nb_new (w : World) (v1 v2 v3 : Value) (t : Int) (ty : Nat) : NB (w.alloc (.cells #[v1, v2, v3, .int .i64 t] ty)) w.heap.size v1 v2 v3 t := by
  refine ⟨?_, ?_, ?_, ?_⟩ <;> simp [World.cell?_alloc_new]
theorem bel_new (w : World) (ob : Obj) : Below w.heap.size w (w.alloc ob) := (Below.refl _ _).alloc (Nat.le_refl _) ob
end Nt
end Go.Proofs.YtfooahhdikobeaaGreat
namespace Go.Proofs.YtfooahhdikobeaaGreat
open Go.ChangeShapes Go.WideShapes Go.ChangeAt Go.RowKit
set_option linter.unusedVariables false
set_option linter.unusedSimpArgs false
attribute [local go_sem ↓] Go.wp_at_zero Go.wp_at_succ
namespace In
open W1
def flat (zs : List Int) : List Value := zs.map (Value.int .i64)
theorem flat_len (zs : List Int) : (flat zs).length = zs.length * 1 := by simp [flat]
theorem flat_append (xs ys : List Int) : flat (xs ++ ys) = flat xs ++ flat ys := by simp [flat]
theorem flat_one_cell {zs : List Int} {u : Value} (h : u ∈ flat zs) : u.oneCell' = true := by
  obtain ⟨z, _, rfl⟩ := List.mem_map.1 h; rfl
theorem flat_get {zs : List Int} {i : Nat} (h : i < zs.length) : (flat zs)[i]? = some (.int .i64 (zs.getD i 0)) := by
  unfold flat
  rw [List.getElem?_map, List.getElem?_eq_getElem h, List.getD_eq_getElem?_getD, List.getElem?_eq_getElem h]; rfl
/-- The slice at a reads as these. -/
def RM (w : World) (a : Option Addr) (zs : List Int) : Prop :=
  zs = [] ∨ ∃ g off, a = some ⟨g, off, none⟩ ∧ ∀ i, i < zs.length → w.cell? ⟨g, off + i, none⟩ = some (.int .i64 (zs.getD i 0))
theorem RM.below {w w' : World} {a : Option Addr} {zs : List Int} (h : RM w a zs) (hb : Below w.heap.size w w') : RM w' a zs := by
  rcases h with h | ⟨g, off, rfl, hc⟩
  · exact .inl h
  · exact .inr ⟨g, off, rfl, fun i hi => (hb.cell (p := ⟨g, off + i, none⟩) (World.block_lt_of_cell? _ _ (hc i hi))).trans (hc i hi)⟩
theorem RM.at {w : World} {g off : Nat} {zs : List Int} {i : Nat} (h : RM w (some ⟨g, off, none⟩) zs) (hi : i < zs.length) : w.cell? ⟨g, off + i, none⟩ = some (.int .i64 (zs.getD i 0)) := by
  rcases h with rfl | ⟨g', off', e, hc⟩
  · simp at hi
  · cases e; exact hc i hi
theorem plain_add (b off k : Nat) : (⟨b, off, none⟩ : Addr).add k = ⟨b, off + k, none⟩ := by unfold Addr.add; split <;> simp_all
theorem RM.cells {w : World} {g off : Nat} {zs : List Int} (h : RM w (some ⟨g, off, none⟩) zs) : ∀ j u, (flat zs)[j]? = some u → w.cell? ((⟨g, off, none⟩ : Addr).add j) = some u := by
  intro j u hj
  have hl : j < zs.length := by have := (List.getElem?_eq_some_iff.1 hj).1; rw [flat_len] at this; omega
  rw [flat_get hl] at hj
  rw [plain_add, ← hj]
  exact h.at hl
/-- The first j stand at the head of block g, whose n cells may be written. -/
def Upto (w : World) (g n j : Nat) (zs : List Int) : Prop :=
  (∀ i, i < j → w.cell? ⟨g, i, none⟩ = some (.int .i64 (zs.getD i 0))) ∧ ∀ i, i < n → (w.cell? ⟨g, i, none⟩).isSome = true ∧ w.frozen? ⟨g, i, none⟩ = false
theorem Upto.step {w : World} {g n j : Nat} {zs : List Int} (h : Upto w g n j zs) (hj : j < n) : Upto (w.setCell ⟨g, j, none⟩ (.int .i64 (zs.getD j 0))) g n (j + 1) zs := by
  refine ⟨fun i hi => ?_, fun i hi => ⟨?_, by rw [World.frozen?_setCell]; exact (h.2 i hi).2⟩⟩
  · by_cases e : i = j
    · subst e
      obtain ⟨v, hv⟩ := Option.isSome_iff_exists.1 (h.2 i hj).1
      rw [World.cell?_setCell_same _ _ _ hv]
    · rw [World.cell?_setCell_other _ _ _ _ (by intro e'; cases e'; exact e rfl)]
      exact h.1 i (by omega)
  · obtain ⟨v, hv⟩ := Option.isSome_iff_exists.1 (h.2 i hi).1
    obtain ⟨v', hv'⟩ := cell?_setCell_some (p := ⟨g, j, none⟩) (x := .int .i64 (zs.getD j 0)) hv
    rw [hv']; rfl
theorem Upto.below {w w' : World} {g n j : Nat} {zs : List Int} (h : Upto w g n j zs) (hb : Below w.heap.size w w') (hg : g < w.heap.size) : Upto w' g n j zs :=
  ⟨fun i hi => (hb.cell (p := ⟨g, i, none⟩) hg).trans (h.1 i hi), fun i hi => ⟨by rw [hb.cell (p := ⟨g, i, none⟩) hg]; exact (h.2 i hi).1, by rw [hb.frozen (p := ⟨g, i, none⟩) hg]; exact (h.2 i hi).2⟩⟩
theorem Upto.of_block {w w' : World} {g n j : Nat} {zs : List Int} (h : Upto w g n j zs) (hb : w'.heap[g]? = w.heap[g]?) : Upto w' g n j zs := by
  have c : ∀ q, w'.cell? ⟨g, q, none⟩ = w.cell? ⟨g, q, none⟩ := fun q => World.cell?_of_block (a := ⟨g, q, none⟩) hb
  have f : ∀ q, w'.frozen? ⟨g, q, none⟩ = w.frozen? ⟨g, q, none⟩ := fun q => World.frozen?_of_block (a := ⟨g, q, none⟩) hb
  exact ⟨fun i hi => (c _).trans (h.1 i hi), fun i hi => ⟨by rw [c]; exact (h.2 i hi).1, by rw [f]; exact (h.2 i hi).2⟩⟩
theorem rm_of {w : World} {g n : Nat} {zs : List Int} (h : Upto w g n zs.length zs) : RM w (some ⟨g, 0, none⟩) zs := .inr ⟨g, 0, rfl, fun i hi => by rw [Nat.zero_add]; exact h.1 i hi⟩
/-- A list between two bounds of the heap, in memory that may be written. -/
def Lst (W : World) (a : Option Addr) (zs : List Int) (lo hi : Nat) : Prop := zs = [] ∨ ∃ g, a = some ⟨g, 0, none⟩ ∧ lo ≤ g ∧ g < hi ∧ g < W.heap.size ∧ Upto W g zs.length zs.length zs
theorem Lst.rm {W : World} {a : Option Addr} {zs : List Int} {lo hi : Nat} (h : Lst W a zs lo hi) : RM W a zs := by
  rcases h with rfl | ⟨g, rfl, _, _, _, hu⟩
  · exact .inl rfl
  · exact rm_of hu
theorem Lst.below {W W' : World} {a : Option Addr} {zs : List Int} {lo hi : Nat} (h : Lst W a zs lo hi) (hb : Below W.heap.size W W') : Lst W' a zs lo hi := by
  rcases h with rfl | ⟨g, rfl, h1, h2, h3, hu⟩
  · exact .inl rfl
  · exact .inr ⟨g, rfl, h1, h2, Nat.lt_of_lt_of_le h3 hb.size, hu.below hb h3⟩
theorem Lst.mono {W : World} {a : Option Addr} {zs : List Int} {lo hi lo' hi' : Nat} (h : Lst W a zs lo hi) (h1 : lo' ≤ lo) (h2 : hi ≤ hi') : Lst W a zs lo' hi' := by
  rcases h with rfl | ⟨g, rfl, h3, h4, h5, hu⟩
  · exact .inl rfl
  · exact .inr ⟨g, rfl, by omega, by omega, h5, hu⟩
theorem Lst.but {W W' : World} {a : Option Addr} {zs : List Int} {lo hi : Nat} {p : Nat → Prop} (h : Lst W a zs lo hi) (hs : W.heap.size ≤ W'.heap.size) (hb : ∀ k, k < W.heap.size → p k → W'.heap[k]? = W.heap[k]?) (hp : ∀ k, lo ≤ k → k < hi → p k) : Lst W' a zs lo hi := by
  rcases h with rfl | ⟨g, rfl, h1, h2, h3, hu⟩
  · exact .inl rfl
  · exact .inr ⟨g, rfl, h1, h2, Nat.lt_of_lt_of_le h3 hs, hu.of_block (hb g h3 (hp g h1 h2))⟩
def LstV (W : World) (v : Value) (zs : List Int) (lo hi : Nat) : Prop := ∃ a c, v = .slice a zs.length c ∧ Lst W a zs lo hi
theorem LstV.mono {W : World} {v : Value} {zs : List Int} {lo hi lo' hi' : Nat} (h : LstV W v zs lo hi) (h1 : lo' ≤ lo) (h2 : hi ≤ hi') : LstV W v zs lo' hi' := by
  obtain ⟨a, c, e, hl⟩ := h; exact ⟨a, c, e, hl.mono h1 h2⟩
theorem lstV_nil (W : World) (a : Option Addr) (c lo hi : Nat) : LstV W (.slice a 0 c) [] lo hi := ⟨a, c, rfl, .inl rfl⟩
theorem upto_own {w : World} {base g cap n : Nat} {zs : List Int} (hn : n = zs.length) (h : w.ownsRow base 3 1 (.slice (some ⟨g, 0, none⟩) n cap) n (flat zs)) : Upto w g n n zs := by
  subst hn
  refine ⟨fun i hi => ?_, fun i hi => ?_⟩
  · have := h.cells (g := g) rfl i _ (flat_get hi)
    rw [plain_add, Nat.zero_add] at this
    exact this
  · obtain ⟨_, ⟨e, _⟩ | ⟨g', cap', cur, e, _, hg, h1, _, h3, _⟩⟩ := h
    · cases e
    · cases e
      have hlt : i < cur.size := by rw [h3]; omega
      exact ⟨by simp [World.cell?, hg, hlt], by simp [World.frozen?, hg]⟩
theorem lst_own {w : World} {base n : Nat} {v : Value} {zs : List Int} (hn : n = zs.length) (h : w.ownsRow base 3 1 v n (flat zs)) : LstV w v zs base w.heap.size := by
  unfold LstV
  have h' := h
  obtain ⟨hl, ⟨rfl, h0⟩ | ⟨g, cap, cur, rfl, hb, hg, _, _, _, _⟩⟩ := h
  · exact ⟨none, 0, by rw [← hn, h0], .inl (List.eq_nil_of_length_eq_zero (by omega))⟩
  · have hlt : g < w.heap.size := by
      rcases Nat.lt_or_ge g w.heap.size with h | h
      · exact h
      · rw [Array.getElem?_eq_none h] at hg; cases hg
    refine ⟨_, cap, by rw [hn], .inr ⟨g, rfl, hb, hlt, hlt, ?_⟩⟩
    have := upto_own hn h'
    rw [hn] at this; exact this
theorem infoI : ∃ i, Tryz.prog.info? 3 = some i ∧ i.zero = some (.int .i64 0) ∧ i.size = 1 ∧ i.bytes = 8 := by
  have h : (Tryz.prog.info? 3).map (fun i => (i.zero, i.size, i.bytes)) = some (some (.int .i64 0), 1, 8) := by kernel_rfl
  obtain ⟨i, hi, he⟩ := Option.map_eq_some_iff.1 h
  simp only [Prod.mk.injEq] at he
  exact ⟨i, hi, he.1, he.2.1, he.2.2⟩
/-- append of a list to a row of one's own, as a walk meets it. -/
theorem wpList_apS {ops : Array Oper} {rest : List Oper} {o : Oper} {a : Act} {Q : Exit → Act → World → Prop} {w : World} {base : Nat} {v : Value} {xs : List Int} (hown : w.ownsRow base 3 1 v xs.length (flat xs)) (g off m c : Nat) (ms : List Int) (hm : ms.length = m) (hr : RM w (some ⟨g, off, none⟩) ms) (hlen : xs.length + ms.length ≤ 4194304) (hbase : base ≤ w.heap.size)
    (hgd : o.guard = none) (s x : Operand) (ho : o.op = .call { callee := .builtin .append, args := #[s, x], argTypes := #[23, 23] }) (hs : a.eval s = v) (hx : a.eval x = .slice (some ⟨g, off, none⟩) m c)
    (h : ∀ v' w', w'.ownsRow base 3 1 v' (xs ++ ms).length (flat (xs ++ ms)) → w.grownBy w' v.ownBlock → wpList Tryz.prog ops Q rest (a.put o.dst v') w') : wpList Tryz.prog ops Q (o :: rest) a w := by
  subst hm
  obtain ⟨i0, hi, hz0, hz1, hz2⟩ := infoI
  refine wpList_append_own w hgd s x _ ho base 3 i0 _ 1 8 Tryz.underlying23 hi hz0 hz1 hz2 rfl (by decide) v xs.length (flat xs) hs hown ⟨g, off, none⟩ ms.length c (flat ms) hx (flat_len ms) hr.cells (fun u hu => flat_one_cell hu) (by unfold maxLen; omega) (by omega) hbase (fun v' w' h1 h2 _ => ?_)
  refine h v' w' ?_ h2
  rw [List.length_append, flat_append]; exact h1
theorem rm_new (w : World) (z : Int) : RM (w.alloc (.cells #[.int .i64 z] 3)) (some ⟨w.heap.size, 0, none⟩) [z] := by
  refine .inr ⟨_, _, rfl, fun i hi => ?_⟩
  obtain rfl : i = 0 := by simp at hi; omega
  simp [World.cell?_alloc_new]
theorem own_empty (w : World) (base : Nat) (hb : base ≤ w.heap.size) : (w.alloc (.cells #[] 3)).ownsRow base 3 1 (.slice (some ⟨w.heap.size, 0, none⟩) 0 0) ([] : List Int).length (flat []) := World.ownsRow_made w #[] 0 hb (Nat.zero_le _) (by simp)
theorem own_nil (w : World) (base : Nat) : w.ownsRow base 3 1 (.slice none 0 0) ([] : List Int).length (flat []) := World.ownsRow_nil w base _ _
theorem below_own {B : Nat} {w0 w w' : World} {base : Nat} {v : Value} {n : Nat} {xs : List Value} (h : Below B w0 w) (ho : w.ownsRow base 3 1 v n xs) (hg : w.grownBy w' v.ownBlock) (hb : B ≤ base) (hB : B ≤ w.heap.size) : Below B w0 w' :=
  h.grown hg hB (fun k hk => Nat.le_trans hb (ho.lt k hk).1)
set_option maxRecDepth 100000 in
set_option maxHeartbeats 2000000 in
theorem eqS (a b : Option Addr) (zs : List Int) (ca cb : Nat) (w : World) (hm : zs.length ≤ 1048576) (hr : RM w a zs) (hr' : RM w b zs) :
    Calls Tryz.prog 33 #[.slice a zs.length ca, .slice b zs.length cb] w fun e w' => e = .returned (.bool true) ∧ Below w.heap.size w w' := by
  have HR := hide hr
  have HR' := hide hr'
  clear hr hr'
  generalize hN : zs.length = n at *
  have HN := hide hN
  clear hN
  go_enter Tryz.func33, Tryz.ntmps33
  go_wp2
  go_loopw [5] (fun i wr => ∃ j : Nat, j ≤ n ∧ i = .int .i64 j ∧ Hid (Below w.heap.size w wr)) (fun i _ => n - (intOf i).toNat)
  case atStart => exact ⟨0, by omega, rfl, hide (Below.refl _ _)⟩
  case round =>
    obtain ⟨j, hj, rfl, hbl⟩ := hrel
    by_cases hlt : (j : Int) < (n : Int)
    · have k0 : (0 : Int) ≤ (j : Int) := by omega
      have hlen : j < zs.length := by rw [unhide HN]; omega
      rcases (unhide HR).below (by exact (unhide hbl)) with e0 | ⟨g, off, rfl, hc⟩
      · exfalso; rw [e0] at hlen; simp at hlen
      rcases (unhide HR').below (by exact (unhide hbl)) with e0 | ⟨g', off', rfl, hc'⟩
      · exfalso; rw [e0] at hlen; simp at hlen
      have hA := hc j hlen
      have hA' := hc' j hlen
      clear hc hc'
      generalize zs.getD j 0 = z at *
      have hzb : (z == z) = true := by simp
      go_wp2_with fail
      go_region_held3 (fun w' => w'.cell? ⟨g, off + j, none⟩ = some (.int .i64 z) ∧ w'.cell? ⟨g', off' + j, none⟩ = some (.int .i64 z)) (exact ⟨hA, hA'⟩) (fail)
      have hb1 := hide ((unhide hbl).drew)
      go_wp2_with fail
      go_roundw
      case rel => exact ⟨j + 1, by omega, by go_num, hb1⟩
      case measure => simp [intOf]; omega
    · go_wp2
      go_ret
      exact ⟨rfl, unhide hbl⟩
/-- The marks from K on. -/
def marks (K : Int) (n : Nat) : List Int := (List.range n).map fun t : Nat => K + 1 * (t : Int)
end In
end Go.Proofs.YtfooahhdikobeaaGreat
namespace Go.Proofs.YtfooahhdikobeaaGreat
open Go.ChangeShapes Go.WideShapes Go.ChangeAt Go.RowKit
set_option linter.unusedVariables false
set_option linter.unusedSimpArgs false
set_option maxRecDepth 100000
attribute [local go_sem ↓] Go.wp_at_zero Go.wp_at_succ
namespace Nt
open W1 Rt
theorem belN (w : World) (n : Nat) : Below w.heap.size w (w.drewN n) := by
  have h := Below.refl w.heap.size w
  exact ⟨h.os, h.tape, h.output, h.size, h.block⟩
theorem l13Addr (a b d : Option Addr) (n k l ca cb cd : Nat) (t : Int) (x : Int) (w : World) :
    Calls Tryz.prog 60 #[.agg #[.slice a n ca, .slice b k cb, .slice d l cd, .int .i64 t], .int .i64 x] w fun e w' => e = .returned (.bool (inB x 1 n)) ∧ Below w.heap.size w w' := by
  go_enter Tryz.func60, Tryz.ntmps60
  go_wp2_with (go_at_call 43; refine (l01In _ _ _ _).mono ?_; rintro e w_ ⟨rfl, rfl⟩)
  go_ret
  exact ⟨rfl, (Below.refl _ _).alloc (Nat.le_refl _) _⟩
theorem isRouter (a b d : Option Addr) (n k l ca cb cd : Nat) (t : Int) (x : Int) (w : World) :
    Calls Tryz.prog 62 #[.agg #[.slice a n ca, .slice b k cb, .slice d l cd, .int .i64 t], .int .i64 x] w fun e w' => e = .returned (.bool (inB x 1 n)) ∧ Below w.heap.size w w' := by
  go_enter Tryz.func62, Tryz.ntmps62
  go_wp2_with (go_at_call 88; refine (within _ _ _ _).mono ?_; rintro e w_ ⟨rfl, rfl⟩)
  go_ret
  exact ⟨rfl, (Below.refl _ _).alloc (Nat.le_refl _) _⟩
/-- Two different routers. -/
def apB (x y : Int) (n : Nat) : Bool := inB x 1 n && (inB y 1 n && !(x == y))
set_option maxHeartbeats 4000000 in
theorem l13Pair (a b d : Option Addr) (n k l ca cb cd : Nat) (t : Int) (x y : Int) (w : World) :
    Calls Tryz.prog 42 #[.agg #[.slice a n ca, .slice b k cb, .slice d l cd, .int .i64 t], .int .i64 x, .int .i64 y] w fun e w' => e = .returned (.bool (apB x y n)) ∧ Below w.heap.size w w' := by
  have HX0 := hide (nb_new w (.slice a n ca) (.slice b k cb) (.slice d l cd) t 31)
  have HB0 := hide (bel_new w (.cells #[.slice a n ca, .slice b k cb, .slice d l cd, .int .i64 t] 31))
  have E : Hid (apB x y n = (inB x 1 n && (inB y 1 n && !(x == y)))) := hide rfl
  have K1 := hide (fun W => l13Addr a b d n k l ca cb cd t x W)
  have K2 := hide (fun W => l13Addr a b d n k l ca cb cd t y W)
  cases h1 : inB x 1 n
  · rw [h1] at K1 E
    clear h1
    go_enter Tryz.func42, Tryz.ntmps42
    go_wp2_with fail
    refine (unhide K1 _).mono ?_
    rintro e w1 ⟨rfl, b1⟩
    have HF := hide ((unhide HB0).trans (b1.mono (unhide HB0).size))
    clear b1
    go_wp2_with fail
    go_ret
    exact ⟨ret_bool (by rw [unhide E]; simp), unhide HF⟩
  rw [h1] at K1 E
  clear h1
  cases h2 : inB y 1 n
  · rw [h2] at K2 E
    clear h2
    go_enter Tryz.func42, Tryz.ntmps42
    go_wp2_with fail
    refine (unhide K1 _).mono ?_
    rintro e w1 ⟨rfl, b1⟩
    have HF := hide ((unhide HB0).trans (b1.mono (unhide HB0).size))
    obtain ⟨p0, p1, p2, p3⟩ := (unhide HX0).below b1
    clear b1
    go_wp2_with fail
    clear p0 p1 p2 p3
    refine (unhide K2 _).mono ?_
    rintro e w2 ⟨rfl, b2⟩
    have HG := hide ((unhide HF).trans (b2.mono (unhide HF).size))
    clear b2
    go_wp2_with fail
    go_ret
    exact ⟨ret_bool (by rw [unhide E]; simp), unhide HG⟩
  rw [h2] at K2 E
  clear h2
  have E2 : Hid (apB x y n = (x != y)) := hide (by rw [unhide E]; rfl)
  cases hxy : (x != y)
  all_goals
    have HXY := hide hxy
    go_enter Tryz.func42, Tryz.ntmps42
    go_wp2_with fail
    refine (unhide K1 _).mono ?_
    rintro e w1 ⟨rfl, b1⟩
    have HF := hide ((unhide HB0).trans (b1.mono (unhide HB0).size))
    obtain ⟨p0, p1, p2, p3⟩ := (unhide HX0).below b1
    clear b1
    go_wp2_with fail
    clear p0 p1 p2 p3
    refine (unhide K2 _).mono ?_
    rintro e w2 ⟨rfl, b2⟩
    have HG := hide ((unhide HF).trans (b2.mono (unhide HF).size))
    clear b2
    go_wp2_with fail
    go_ret
    exact ⟨ret_bool (by rw [unhide E2, unhide HXY]), unhide HG⟩
set_option maxHeartbeats 4000000 in
theorem areApart (a b d : Option Addr) (n k l ca cb cd : Nat) (t : Int) (x y : Int) (w : World) :
    Calls Tryz.prog 50 #[.agg #[.slice a n ca, .slice b k cb, .slice d l cd, .int .i64 t], .int .i64 x, .int .i64 y] w fun e w' => e = .returned (.bool (apB x y n)) ∧ Below w.heap.size w w' := by
  have HX0 := hide (nb_new w (.slice a n ca) (.slice b k cb) (.slice d l cd) t 31)
  have HB0 := hide (bel_new w (.cells #[.slice a n ca, .slice b k cb, .slice d l cd, .int .i64 t] 31))
  have E : Hid (apB x y n = (inB x 1 n && (inB y 1 n && !(x == y)))) := hide rfl
  have K1 := hide (fun W => isRouter a b d n k l ca cb cd t x W)
  have K2 := hide (fun W => isRouter a b d n k l ca cb cd t y W)
  cases h1 : inB x 1 n
  · rw [h1] at K1 E
    clear h1
    go_enter Tryz.func50, Tryz.ntmps50
    go_wp2_with fail
    refine (unhide K1 _).mono ?_
    rintro e w1 ⟨rfl, b1⟩
    have HF := hide ((unhide HB0).trans (b1.mono (unhide HB0).size))
    clear b1
    go_wp2_with fail
    go_ret
    exact ⟨ret_bool (by rw [unhide E]; simp), unhide HF⟩
  rw [h1] at K1 E
  clear h1
  cases h2 : inB y 1 n
  · rw [h2] at K2 E
    clear h2
    go_enter Tryz.func50, Tryz.ntmps50
    go_wp2_with fail
    refine (unhide K1 _).mono ?_
    rintro e w1 ⟨rfl, b1⟩
    have HF := hide ((unhide HB0).trans (b1.mono (unhide HB0).size))
    obtain ⟨p0, p1, p2, p3⟩ := (unhide HX0).below b1
    clear b1
    go_wp2_with fail
    clear p0 p1 p2 p3
    refine (unhide K2 _).mono ?_
    rintro e w2 ⟨rfl, b2⟩
    have HG := hide ((unhide HF).trans (b2.mono (unhide HF).size))
    clear b2
    go_wp2_with fail
    go_ret
    exact ⟨ret_bool (by rw [unhide E]; simp), unhide HG⟩
  rw [h2] at K2 E
  clear h2
  have E2 : Hid (apB x y n = (x != y)) := hide (by rw [unhide E]; rfl)
  cases hxy : (x != y)
  all_goals
    have HXY := hide hxy
    go_enter Tryz.func50, Tryz.ntmps50
    go_wp2_with fail
    refine (unhide K1 _).mono ?_
    rintro e w1 ⟨rfl, b1⟩
    have HF := hide ((unhide HB0).trans (b1.mono (unhide HB0).size))
    obtain ⟨p0, p1, p2, p3⟩ := (unhide HX0).below b1
    clear b1
    go_wp2_with fail
    clear p0 p1 p2 p3
    refine (unhide K2 _).mono ?_
    rintro e w2 ⟨rfl, b2⟩
    have HG := hide ((unhide HF).trans (b2.mono (unhide HF).size))
    clear b2
    go_wp2_with fail
    go_ret
    exact ⟨ret_bool (by rw [unhide E2, unhide HXY]), unhide HG⟩
theorem isCost (x : Int) (w : World) : Calls Tryz.prog 51 #[.int .i64 x] w fun e w' => e = .returned (.bool (inB x 0 256)) ∧ w' = w := by
  go_enter Tryz.func51, Tryz.ntmps51
  go_wp2_with (go_at_call 88; refine (within _ _ _ _).mono ?_; rintro e w_ ⟨rfl, rfl⟩)
  go_ret
  exact ⟨rfl, rfl⟩
set_option maxHeartbeats 8000000 in
theorem l13Costs (a : Option Addr) (cs : List Int) (cap n : Nat) (w : World) (hm : cs.length ≤ 1048576) (h1 : 1 ≤ n) (h6 : n ≤ 6) (hr : In.RM w a cs) :
    Calls Tryz.prog 83 #[.slice a cs.length cap, .int .i64 n] w fun e w' => e = .returned (.bool (costB cs n)) ∧ Below w.heap.size w w' := by
  have HR := hide hr
  clear hr
  have E : Hid (costB cs n = (cs.length == n * n && allI cs.length (cok cs n))) := hide rfl
  obtain ⟨N2, hN2⟩ : ∃ N2 : Nat, n * n = N2 := ⟨_, rfl⟩
  have hmul : (n : Int) * (n : Int) = (N2 : Int) := by rw [← hN2]; simp
  have hle : N2 ≤ 36 := by rw [← hN2]; exact Nat.mul_le_mul h6 h6
  rw [hN2] at E
  clear hN2
  obtain ⟨C, hC⟩ : ∃ C, cs.length = C := ⟨_, rfl⟩
  rw [hC] at hm E ⊢
  have HC := hide hC
  clear hC
  have hn1 : (1 : Int) ≤ (n : Int) := by omega
  have hn6 : (n : Int) ≤ 6 := by omega
  have hn0 : ¬ (n : Int) = 0 := by omega
  go_enter Tryz.func83, Tryz.ntmps83
  go_wp2
  go_loopw [5] (fun i wr => ∃ j : Nat, j ≤ C ∧ i = .int .i64 j ∧ Hid (∀ i, i < j → cok cs n i = true) ∧ Hid (∃ q, wr = w.drewN q)) (fun i _ => C - (intOf i).toNat)
  case atStart => exact ⟨0, by omega, rfl, hide (fun i hi => absurd hi (Nat.not_lt_zero i)), hide ⟨0, rfl⟩⟩
  case round =>
    obtain ⟨j, hj, rfl, hall, hwd⟩ := hrel
    by_cases hlt : (j : Int) < (C : Int)
    · have k0 : (0 : Int) ≤ (j : Int) := by omega
      have hlen : j < cs.length := by rw [unhide HC]; omega
      have hbl : Below w.heap.size w wr := by obtain ⟨q, rfl⟩ := unhide hwd; exact belN w q
      rcases (unhide HR).below hbl with e0 | ⟨g, off, rfl, hc⟩
      · exfalso; rw [e0] at hlen; simp at hlen
      have c0 := hc j hlen
      have HBL := hide hbl
      clear hc hbl
      have HCK : Hid (cok cs n j = (inB (cs.getD j 0) 0 256 && (!(decide (j / n = j % n)) || cs.getD j 0 == 0))) := hide rfl
      generalize cs.getD j 0 = x at *
      have hq : (j : Int) / (n : Int) = ((j / n : Nat) : Int) := by simp
      have hr : (j : Int) % (n : Int) = ((j % n : Nat) : Int) := by simp
      have hq2 : (j : Int).tdiv (n : Int) = ((j / n : Nat) : Int) := by simp
      have hr2 : (j : Int).tmod (n : Int) = ((j % n : Nat) : Int) := by rw [Int.tmod_eq_emod_of_nonneg (by omega)]; simp
      have HE : Hid ((((j / n : Nat) : Int) == ((j % n : Nat) : Int)) = decide (j / n = j % n)) := hide (by rw [Bool.eq_iff_iff]; simp; omega)
      have hqb : ((j / n : Nat) : Int) ≤ 1048576 := by have := Nat.div_le_self j n; omega
      have hrb : ((j % n : Nat) : Int) ≤ 6 := by have := Nat.mod_lt j (show 0 < n by omega); omega
      generalize j / n = Qn at *
      generalize j % n = Rn at *
      have hn0' : ¬ n = 0 := by omega
      have hwq : IntKind.i64.wrap (Qn : Int) = (Qn : Int) := by rw [IntKind.wrap_i64]; omega
      have hwr : IntKind.i64.wrap (Rn : Int) = (Rn : Int) := by rw [IntKind.wrap_i64]; omega
      have KC := hide (fun W => l01In x 0 256 W)
      have HNO := hide (fun h => allI_no (p := cok cs n) hlen h)
      have HUP := hide (fun h => up_to (p := cok cs n) (unhide hall) h)
      rw [unhide HC] at HNO
      clear hlen
      cases hin : inB x 0 256
      · have EB := hide (unhide HNO (by rw [unhide HCK, hin]; rfl))
        rw [hin] at KC
        clear hin
        go_wp2_with fail
        refine wp_region_noPanic ?_
        refine wp_region_held_drew (S := fun w' => w'.cell? ⟨g, off + j, none⟩ = some (.int .i64 x)) (by kernel_rfl) (c0) (fun hHeld => ?_)
        refine Rg.t 0 12 ?_
        refine Rg.t 1 13 ?_
        refine Rg.t 2 14 ?_
        refine Rg.t 3 15 ?_
        (refine Rg.o 4 (fun K hK => ?_); go_simp)
        refine (unhide KC _).mono ?_
        rintro e w1 ⟨rfl, hw1⟩
        subst hw1
        refine hK.out _ _ (by first | exact c0 | exact hHeld) (fun hHeld => ?_)
        clear hK
        (try simp only [Act.put, List.setIfInBounds_toArray, List.set_cons_zero, List.set_cons_succ])
        refine Rg.t 5 17 ?_
        refine Rg.t 6 18 ?_
        refine Rg.s 7 19 ?_
        refine Rg.s 8 20 ?_
        refine Rg.s 9 21 ?_
        refine Rg.s 10 22 ?_
        refine Rg.s 11 23 ?_
        refine Rg.s 12 24 ?_
        refine Rg.s 13 25 ?_
        refine Rg.s 14 26 ?_
        refine Rg.s 15 27 ?_
        refine Rg.s 16 28 ?_
        refine Rg.s 17 29 ?_
        refine Rg.s 18 30 ?_
        refine Rg.s 19 31 ?_
        refine Rg.s 20 32 ?_
        refine Rg.t 21 33 ?_
        refine wpAnyH_done (by kernel_rfl) (NoPanic.normal ?_) _
        clear hHeld
        go_wp2_with fail
        go_ret
        exact ⟨ret_bool (by rw [unhide E, unhide EB]; simp), (unhide HBL).drew⟩
      rw [hin] at KC
      have HIN := hide hin
      clear hin
      cases hd : ((Qn : Int) == (Rn : Int))
      · have OK := hide (unhide HUP (by rw [unhide HCK, unhide HIN, ← unhide HE, hd]; rfl))
        clear HNO HUP
        go_wp2_with fail
        refine wp_region_noPanic ?_
        refine wp_region_held_drew (S := fun w' => w'.cell? ⟨g, off + j, none⟩ = some (.int .i64 x)) (by kernel_rfl) (c0) (fun hHeld => ?_)
        refine Rg.t 0 12 ?_
        refine Rg.t 1 13 ?_
        refine Rg.t 2 14 ?_
        refine Rg.t 3 15 ?_
        (refine Rg.o 4 (fun K hK => ?_); go_simp)
        refine (unhide KC _).mono ?_
        rintro e w1 ⟨rfl, hw1⟩
        subst hw1
        refine hK.out _ _ (by first | exact c0 | exact hHeld) (fun hHeld => ?_)
        clear hK
        (try simp only [Act.put, List.setIfInBounds_toArray, List.set_cons_zero, List.set_cons_succ])
        refine Rg.t 5 17 ?_
        refine Rg.t 6 18 ?_
        refine Rg.t 7 19 ?_
        refine Rg.t 8 20 ?_
        refine Rg.t 9 21 ?_
        refine Rg.t 10 22 ?_
        refine Rg.t 11 23 ?_
        refine Rg.t 12 24 ?_
        refine Rg.t 13 25 ?_
        refine Rg.t 14 26 ?_
        refine Rg.s 15 27 ?_
        refine Rg.s 16 28 ?_
        refine Rg.s 17 29 ?_
        refine Rg.s 18 30 ?_
        refine Rg.s 19 31 ?_
        refine Rg.t 20 32 ?_
        refine Rg.t 21 33 ?_
        refine wpAnyH_done (by kernel_rfl) (NoPanic.normal ?_) _
        clear hHeld
        go_wp2_with fail
        go_roundw
        case rel => exact ⟨j + 1, by omega, by go_num, OK, hide (by obtain ⟨q, hq⟩ := unhide hwd; exact ⟨q + 1, by rw [hq]; rfl⟩)⟩
        case measure => simp [intOf]; omega
      cases hx : (x != 0)
      · have OK := hide (unhide HUP (by rw [unhide HCK, unhide HIN]; have : (x == 0) = true := (by simpa using hx); rw [this]; simp))
        clear HNO HUP
        go_wp2_with fail
        refine wp_region_noPanic ?_
        refine wp_region_held_drew (S := fun w' => w'.cell? ⟨g, off + j, none⟩ = some (.int .i64 x)) (by kernel_rfl) (c0) (fun hHeld => ?_)
        refine Rg.t 0 12 ?_
        refine Rg.t 1 13 ?_
        refine Rg.t 2 14 ?_
        refine Rg.t 3 15 ?_
        (refine Rg.o 4 (fun K hK => ?_); go_simp)
        refine (unhide KC _).mono ?_
        rintro e w1 ⟨rfl, hw1⟩
        subst hw1
        refine hK.out _ _ (by first | exact c0 | exact hHeld) (fun hHeld => ?_)
        clear hK
        (try simp only [Act.put, List.setIfInBounds_toArray, List.set_cons_zero, List.set_cons_succ])
        refine Rg.t 5 17 ?_
        refine Rg.t 6 18 ?_
        refine Rg.t 7 19 ?_
        refine Rg.t 8 20 ?_
        refine Rg.t 9 21 ?_
        refine Rg.t 10 22 ?_
        refine Rg.t 11 23 ?_
        refine Rg.t 12 24 ?_
        refine Rg.t 13 25 ?_
        refine Rg.t 14 26 ?_
        refine Rg.t 15 27 ?_
        refine Rg.t 16 28 ?_
        refine Rg.t 17 29 ?_
        refine Rg.t 18 30 ?_
        refine Rg.t 19 31 ?_
        refine Rg.t 20 32 ?_
        refine Rg.t 21 33 ?_
        refine wpAnyH_done (by kernel_rfl) (NoPanic.normal ?_) _
        clear hHeld
        go_wp2_with fail
        go_roundw
        case rel => exact ⟨j + 1, by omega, by go_num, OK, hide (by obtain ⟨q, hq⟩ := unhide hwd; exact ⟨q + 1, by rw [hq]; rfl⟩)⟩
        case measure => simp [intOf]; omega
      · have EB := hide (unhide HNO (by rw [unhide HCK, unhide HIN, ← unhide HE, hd]; have : (x == 0) = false := (by simpa using hx); rw [this]; rfl))
        clear HNO HUP
        go_wp2_with fail
        refine wp_region_noPanic ?_
        refine wp_region_held_drew (S := fun w' => w'.cell? ⟨g, off + j, none⟩ = some (.int .i64 x)) (by kernel_rfl) (c0) (fun hHeld => ?_)
        refine Rg.t 0 12 ?_
        refine Rg.t 1 13 ?_
        refine Rg.t 2 14 ?_
        refine Rg.t 3 15 ?_
        (refine Rg.o 4 (fun K hK => ?_); go_simp)
        refine (unhide KC _).mono ?_
        rintro e w1 ⟨rfl, hw1⟩
        subst hw1
        refine hK.out _ _ (by first | exact c0 | exact hHeld) (fun hHeld => ?_)
        clear hK
        (try simp only [Act.put, List.setIfInBounds_toArray, List.set_cons_zero, List.set_cons_succ])
        refine Rg.t 5 17 ?_
        refine Rg.t 6 18 ?_
        refine Rg.t 7 19 ?_
        refine Rg.t 8 20 ?_
        refine Rg.t 9 21 ?_
        refine Rg.t 10 22 ?_
        refine Rg.t 11 23 ?_
        refine Rg.t 12 24 ?_
        refine Rg.t 13 25 ?_
        refine Rg.t 14 26 ?_
        refine Rg.t 15 27 ?_
        refine Rg.t 16 28 ?_
        refine Rg.t 17 29 ?_
        refine Rg.t 18 30 ?_
        refine Rg.t 19 31 ?_
        refine Rg.t 20 32 ?_
        refine Rg.t 21 33 ?_
        refine wpAnyH_done (by kernel_rfl) (NoPanic.normal ?_) _
        clear hHeld
        go_wp2_with fail
        go_ret
        exact ⟨ret_bool (by rw [unhide E, unhide EB]; simp), (unhide HBL).drew⟩
    · obtain rfl : j = C := by omega
      have EA := hide (allI_yes (unhide hall))
      have HBL : Hid (Below w.heap.size w wr) := hide (by obtain ⟨q, rfl⟩ := unhide hwd; exact belN w q)
      have HEE : Hid (((j : Int) == (N2 : Int)) = (j == N2)) := hide (by rw [Bool.eq_iff_iff]; simp; omega)
      go_wp2_with fail
      go_ret
      exact ⟨ret_bool (by rw [unhide E, unhide EA, Bool.and_true]; first | exact unhide HEE | (rw [← unhide HEE]; simp)), unhide HBL⟩
set_option maxHeartbeats 8000000 in
theorem areCosts (a : Option Addr) (cs : List Int) (cap n : Nat) (w : World) (hm : cs.length ≤ 1048576) (h1 : 1 ≤ n) (h6 : n ≤ 6) (hr : In.RM w a cs) :
    Calls Tryz.prog 90 #[.slice a cs.length cap, .int .i64 n] w fun e w' => e = .returned (.bool (costB cs n)) ∧ Below w.heap.size w w' := by
  have HR := hide hr
  clear hr
  have E : Hid (costB cs n = (cs.length == n * n && allI cs.length (cok cs n))) := hide rfl
  have HDG := hide (fun i (hi : i < n * n) => diag h1 h6 hi)
  obtain ⟨N2, hN2⟩ : ∃ N2 : Nat, n * n = N2 := ⟨_, rfl⟩
  have hmul : (n : Int) * (n : Int) = (N2 : Int) := by rw [← hN2]; simp
  have hle : N2 ≤ 36 := by rw [← hN2]; exact Nat.mul_le_mul h6 h6
  rw [hN2] at E HDG
  clear hN2
  obtain ⟨C, hC⟩ : ∃ C, cs.length = C := ⟨_, rfl⟩
  rw [hC] at hm E ⊢
  have HC := hide hC
  clear hC
  have hn1 : (1 : Int) ≤ (n : Int) := by omega
  have hn6 : (n : Int) ≤ 6 := by omega
  cases hcn : ((C : Int) != (N2 : Int))
  rotate_left
  · go_enter Tryz.func90, Tryz.ntmps90
    go_wp2_with fail
    go_ret
    exact ⟨ret_bool (by rw [unhide E]; have : (C == N2) = false := (by simp at hcn ⊢; omega); rw [this]; rfl), Below.refl _ _⟩
  have hCN : C = N2 := by simp at hcn; omega
  have HCN := hide hCN
  have E2 : Hid (costB cs n = allI C (cok cs n)) := hide (by rw [unhide E, hCN]; simp)
  have HDG2 := hide (fun i (hi : i < C) => unhide HDG i (by omega))
  clear HDG E hCN
  go_enter Tryz.func90, Tryz.ntmps90
  go_wp2_with fail
  go_loop [15] (fun i => ∃ j : Nat, j ≤ C ∧ i = .int .i64 j ∧ Hid (∀ i, i < j → cok cs n i = true)) (fun i => C - (intOf i).toNat)
  case atStart => exact ⟨0, by omega, rfl, hide (fun i hi => absurd hi (Nat.not_lt_zero i))⟩
  case round =>
    obtain ⟨j, hj, rfl, hall⟩ := hrel
    by_cases hlt : (j : Int) < (C : Int)
    · have k0 : (0 : Int) ≤ (j : Int) := by omega
      have hlen : j < cs.length := by rw [unhide HC]; omega
      rcases unhide HR with e0 | ⟨g, off, rfl, hc⟩
      · exfalso; rw [e0] at hlen; simp at hlen
      have c0 := hc j hlen
      clear hc
      have HCK : Hid (cok cs n j = (inB (cs.getD j 0) 0 256 && (!(decide (j / n = j % n)) || cs.getD j 0 == 0))) := hide rfl
      have HDJ := hide (unhide HDG2 j (by omega))
      generalize cs.getD j 0 = x at *
      have hr : (j : Int) % ((n : Int) + 1) = ((j % (n + 1) : Nat) : Int) := by simp
      have hr2 : (j : Int).tmod ((n : Int) + 1) = ((j % (n + 1) : Nat) : Int) := by rw [Int.tmod_eq_emod_of_nonneg (by omega)]; simp
      have HE : Hid ((((j % (n + 1) : Nat) : Int) == 0) = decide (j / n = j % n)) := hide (by rw [Bool.eq_iff_iff]; have := unhide HDJ; simp; omega)
      have hrb : ((j % (n + 1) : Nat) : Int) ≤ 7 := by have := Nat.mod_lt j (show 0 < n + 1 by omega); omega
      have hn1p : ¬ ((n : Int) + 1 = 0) := by omega
      generalize j % (n + 1) = Rn at *
      have HNO := hide (fun h => allI_no (p := cok cs n) hlen h)
      have HUP := hide (fun h => up_to (p := cok cs n) (unhide hall) h)
      rw [unhide HC] at HNO
      have KC := hide (fun W => isCost x W)
      clear hlen
      cases hin : inB x 0 256
      · have EB := hide (unhide HNO (by rw [unhide HCK, hin]; rfl))
        rw [hin] at KC
        clear hin HNO HUP
        go_wp2_with (go_at_call 51; refine (unhide KC _).mono ?_; rintro e w_ ⟨rfl, rfl⟩)
        go_ret
        exact ⟨ret_bool (by rw [unhide E2, unhide EB]), Below.refl _ _⟩
      rw [hin] at KC
      have HIN := hide hin
      clear hin
      cases hd : ((Rn : Int) == 0)
      · have OK := hide (unhide HUP (by rw [unhide HCK, unhide HIN, ← unhide HE, hd]; rfl))
        clear HNO HUP
        go_wp2_with (go_at_call 51; refine (unhide KC _).mono ?_; rintro e w_ ⟨rfl, rfl⟩)
        go_round
        case rel => exact ⟨j + 1, by omega, by go_num, OK⟩
        case measure => simp [intOf]; omega
      cases hx : (x != 0)
      · have OK := hide (unhide HUP (by rw [unhide HCK, unhide HIN]; have : (x == 0) = true := (by simpa using hx); rw [this]; simp))
        clear HNO HUP
        go_wp2_with (go_at_call 51; refine (unhide KC _).mono ?_; rintro e w_ ⟨rfl, rfl⟩)
        go_round
        case rel => exact ⟨j + 1, by omega, by go_num, OK⟩
        case measure => simp [intOf]; omega
      · have EB := hide (unhide HNO (by rw [unhide HCK, unhide HIN, ← unhide HE, hd]; have : (x == 0) = false := (by simpa using hx); rw [this]; rfl))
        clear HNO HUP
        go_wp2_with (go_at_call 51; refine (unhide KC _).mono ?_; rintro e w_ ⟨rfl, rfl⟩)
        go_ret
        exact ⟨ret_bool (by rw [unhide E2, unhide EB]), Below.refl _ _⟩
    · obtain rfl : j = C := by omega
      have EA := hide (allI_yes (unhide hall))
      go_wp2_with fail
      go_ret
      exact ⟨ret_bool (by rw [unhide E2, unhide EA]), Below.refl _ _⟩
end Nt
end Go.Proofs.YtfooahhdikobeaaGreat
namespace Go.Proofs.YtfooahhdikobeaaGreat
open Go.ChangeShapes Go.WideShapes Go.ChangeAt Go.RowKit
set_option linter.unusedVariables false
set_option linter.unusedSimpArgs false
attribute [local go_sem ↓] Go.wp_at_zero Go.wp_at_succ
namespace In
open W1
set_option maxRecDepth 100000 in
set_option maxHeartbeats 2000000 in
theorem toS (a : Option Addr) (zs : List Int) (cap : Nat) (w : World) (hm : zs.length ≤ 1048576) (hr : RM w a zs) :
    Calls Tryz.prog 47 #[.slice a zs.length cap] w fun e w' => ∃ g, e = .returned (.slice (some ⟨g, 0, none⟩) zs.length zs.length) ∧ Below w.heap.size w w' ∧ w.heap.size ≤ g ∧ g < w'.heap.size ∧ Upto w' g zs.length zs.length zs := by
  obtain ⟨i0, hi, hz0, hz1, hz2⟩ := infoI
  have hmk := run_make (P := Tryz.prog) w 23 3 i0 _ Tryz.underlying23 hi hz0 .i64 .i64 (zs.length : Int) (zs.length : Int) (by omega) (by omega) (by rw [hz2]; omega) (by omega)
  have HR := hide hr
  clear hr
  generalize hN : zs.length = n at *
  have HN := hide hN
  clear hN
  rw [Int.toNat_natCast, hz1] at hmk
  have hcs : (madeCells (Value.int .i64 0).cells (n * 1)).size = n * 1 := size_madeCells _ _
  generalize madeCells (Value.int .i64 0).cells (n * 1) = cs at *
  have hup0 : Upto (w.alloc (.cells cs 3)) w.heap.size n 0 zs := by
    refine ⟨fun i hi => by omega, fun i hi => ⟨?_, by simp⟩⟩
    rw [World.cell?_alloc_new, Array.getElem?_eq_getElem (by omega)]; rfl
  have HU := hide hup0
  clear hup0 hcs hi hz0 hz1 hz2
  go_enter Tryz.func47, Tryz.ntmps47
  go_wp2
  go_loopw [4] (fun i wr => ∃ j : Nat, j ≤ n ∧ i = .int .i64 j ∧ Hid (w.heap.size < wr.heap.size) ∧ Hid (Below w.heap.size w wr) ∧ Hid (Upto wr w.heap.size n j zs)) (fun i _ => n - (intOf i).toNat)
  case atStart => exact ⟨0, by omega, rfl, hide (by simp), hide ((Below.refl _ _).alloc (Nat.le_refl _) _), HU⟩
  case round =>
    obtain ⟨j, hj, rfl, hsz, hb, hu⟩ := hrel
    by_cases hlt : (j : Int) < (n : Int)
    · have k0 : (0 : Int) ≤ (j : Int) := by omega
      have hlen : j < zs.length := by rw [unhide HN]; omega
      rcases (unhide HR).below (unhide hb) with e0 | ⟨g, off, rfl, hc⟩
      · exfalso; rw [e0] at hlen; simp at hlen
      have c0 := hc j hlen
      clear hc
      have HST := hide ((unhide hu).step (by omega))
      obtain ⟨⟨v0, x0⟩, y0⟩ : (∃ v0, wr.cell? ⟨w.heap.size, j, none⟩ = some v0) ∧ wr.frozen? ⟨w.heap.size, j, none⟩ = false := ⟨Option.isSome_iff_exists.1 ((unhide hu).2 j (by omega)).1, ((unhide hu).2 j (by omega)).2⟩
      generalize zs.getD j 0 = y at *
      have HB1 := hide ((unhide hb).setCell (p := ⟨w.heap.size, j, none⟩) (Nat.le_refl _) (.int .i64 y))
      have HS1 : Hid (w.heap.size < (wr.setCell ⟨w.heap.size, j, none⟩ (.int .i64 y)).heap.size) := hide (by simp [World.setCell]; exact unhide hsz)
      go_wp2_with fail
      go_roundw
      case rel => exact ⟨j + 1, by omega, by go_num, HS1, HB1, HST⟩
      case measure => simp [intOf]; omega
    · obtain rfl : j = n := by omega
      go_wp2
      go_ret
      exact ⟨w.heap.size, rfl, unhide hb, Nat.le_refl _, unhide hsz, unhide hu⟩
theorem open_list {H : Type} {enc : TypeId × Value → H} {W : World} {a : Option Addr} {len cap : Nat} {d : DataW H} {p : List MemPlace}
    (h : DataW.Trod enc Tryz.prog W 0 (fun _ => true) true 23 (.slice a len cap) d p) : ∃ zs : List Int, zs.length = len ∧ len ≤ maxLen ∧ RM W a zs := by
  obtain ⟨fuel, hf⟩ := h
  rcases open_ints Tryz.underlying23 Tryz.underlying3 (by kernel_rfl) hf with ⟨hcs, _⟩ | ⟨x, l, c, zs, hcs, _, hl, hm, hlen, _, hc, _⟩
  · simp [Value.cells] at hcs
    obtain ⟨rfl, rfl, rfl⟩ := hcs
    exact ⟨[], rfl, Nat.zero_le _, .inl rfl⟩
  · simp [Value.cells] at hcs
    obtain ⟨rfl, rfl, rfl⟩ := hcs
    rw [if_pos rfl] at hlen
    by_cases h0 : len = 0
    · subst h0; exact ⟨[], rfl, Nat.zero_le _, .inl rfl⟩
    obtain ⟨b, off, spot⟩ := x
    have hsp : spot = none := by
      have h2 := hc 0 (by omega)
      simpa [Addr.add] using World.cell?_spot h2
    subst hsp
    refine ⟨zs.take len, by rw [List.length_take]; omega, by omega, .inr ⟨b, off, rfl, fun i hi => ?_⟩⟩
    have hil : i < len ∧ i < zs.length := by simp at hi; omega
    have h2 := hc i hil.2
    rw [plain_add] at h2
    rw [List.getD_eq_getElem?_getD, List.getElem?_take_of_lt hil.1, ← List.getD_eq_getElem?_getD]; exact h2
end In
end Go.Proofs.YtfooahhdikobeaaGreat
namespace Go.Proofs.YtfooahhdikobeaaGreat
open Go.ChangeShapes Go.WideShapes Go.ChangeAt Go.RowKit
set_option linter.unusedVariables false
set_option linter.unusedSimpArgs false
set_option maxRecDepth 100000
attribute [local go_sem ↓] Go.wp_at_zero Go.wp_at_succ
namespace Nt
open W1 Rt
/-- The first j routers stand at the head of block g, whose n times 13 cells may be written. -/
def UpN (w : World) (g n j : Nat) (ms : List Rm) (qs : List Pl) : Prop := (∀ i, i < j → w.rangeAt g (i * 13) (cl (ms.getD i Rm.zero) (qs.getD i Pl.zero))) ∧ w.there g 0 (n * 13)
/-- Their lists lie one router's behind the other's between two bounds. -/
def OwN (w : World) (lo hi j : Nat) (ms : List Rm) (qs : List Pl) : Prop := ∃ f : Nat → Nat, lo ≤ f 0 ∧ (∀ i, i < j → f i ≤ f (i + 1)) ∧ f j ≤ hi ∧ ∀ i, i < j → Ow w (f i) (f (i + 1)) (ms.getD i Rm.zero) (qs.getD i Pl.zero)
theorem Ow.mono {w : World} {lo hi lo' hi' : Nat} {m : Rm} {p : Pl} (h : Ow w lo hi m p) (h1 : lo' ≤ lo) (h2 : hi ≤ hi') : Ow w lo' hi' m p := by
  obtain ⟨b1, b2, b3, b4, b5, b6, ⟨o0, o1, o2, o3, o4, o5, o6⟩, u1, u2, u3, u4, u5, u6, u7⟩ := h
  exact ⟨b1, b2, b3, b4, b5, b6, ⟨by omega, o1, o2, o3, o4, o5, by omega⟩, u1.mono h1 (Nat.le_refl _), u2, u3, u4, u5, u6, u7.mono (Nat.le_refl _) h2⟩
theorem there_part {w : World} {g n o k : Nat} (h : w.there g 0 n) (hk : o + k ≤ n) : w.there g o k := fun j hj => by have := h (o + j) (by omega); rwa [Nat.zero_add] at this
theorem there_under {w w' : World} {B g o n : Nat} (h : w.there g o n) (hb : Below B w w') (hg : g < B) : w'.there g o n := fun j hj => ⟨by rw [hb.cell (p := ⟨g, o + j, none⟩) hg]; exact (h j hj).1, by rw [hb.frozen (p := ⟨g, o + j, none⟩) hg]; exact (h j hj).2⟩
theorem UpN.under {w w' : World} {B g n j : Nat} {ms : List Rm} {qs : List Pl} (h : UpN w g n j ms qs) (hb : Below B w w') (hg : g < B) : UpN w' g n j ms qs := ⟨fun i hi => rng_under (h.1 i hi) hb hg, there_under h.2 hb hg⟩
theorem getD_snoc_lt {α : Type} (z : α) (l : List α) (x : α) {i : Nat} (h : i < l.length) : (l ++ [x]).getD i z = l.getD i z := by
  rw [List.getD_eq_getElem?_getD, List.getD_eq_getElem?_getD, List.getElem?_append_left h]
theorem getD_snoc_eq {α : Type} (z : α) (l : List α) (x : α) {i : Nat} (h : i = l.length) : (l ++ [x]).getD i z = x := by
  subst h; simp
theorem UpN.step {w : World} {g n j : Nat} {ms : List Rm} {qs : List Pl} (h : UpN w g n j ms qs) (hl : qs.length = j) (hj : j < n) (q : Pl) : UpN (w.setCells g (j * 13) (cl (ms.getD j Rm.zero) q)) g n (j + 1) ms (qs ++ [q]) := by
  refine ⟨fun i hi => ?_, World.there_setCells h.2 _ _ _⟩
  by_cases e : i = j
  · subst e
    rw [getD_snoc_eq _ _ _ hl.symm]
    exact World.rangeAt_setCells_same _ _ _ _ (there_part h.2 (by rw [cl_len]; omega))
  · rw [getD_snoc_lt _ _ _ (by omega)]
    exact World.rangeAt_setCells_apart (h.1 i (by omega)) _ _ _ (.inr (.inl (by rw [cl_len]; omega)))
theorem OwN.but {w w' : World} {lo hi j Lo Hi : Nat} {ms : List Rm} {qs : List Pl} (h : OwN w lo hi j ms qs) (hs : w.heap.size ≤ w'.heap.size) (hb : ∀ k, k < w.heap.size → (k < Lo ∨ Hi ≤ k) → w'.heap[k]? = w.heap[k]?) (hd : hi ≤ Lo ∨ Hi ≤ lo) : OwN w' lo hi j ms qs := by
  obtain ⟨f, f0, f1, f2, f3⟩ := h
  have up : ∀ i k, i + k ≤ j → f i ≤ f (i + k) := fun i k => by
    induction k with
    | zero => intro _; exact Nat.le_refl _
    | succ k ih => intro hk; exact Nat.le_trans (ih (by omega)) (f1 (i + k) (by omega))
  refine ⟨f, f0, f1, f2, fun i hi => (f3 i hi).but hs hb ?_⟩
  have e0 := up 0 i (by omega)
  have e1 := up (i + 1) (j - (i + 1)) (by omega)
  rw [Nat.zero_add] at e0
  rw [show i + 1 + (j - (i + 1)) = j by omega] at e1
  omega
theorem OwN.below {w w' : World} {lo hi j : Nat} {ms : List Rm} {qs : List Pl} (h : OwN w lo hi j ms qs) (hb : Below w.heap.size w w') : OwN w' lo hi j ms qs := by
  obtain ⟨f, f0, f1, f2, f3⟩ := h
  exact ⟨f, f0, f1, f2, fun i hi => (f3 i hi).below hb⟩
theorem OwN.step {w w' : World} {lo hi hi' j : Nat} {ms : List Rm} {qs : List Pl} (h : OwN w lo hi j ms qs) (hb : Below w.heap.size w w') (hl : qs.length = j) {q : Pl} (ho : Ow w' hi hi' (ms.getD j Rm.zero) q) (hh : hi ≤ hi') : OwN w' lo hi' (j + 1) ms (qs ++ [q]) := by
  obtain ⟨f, f0, f1, f2, f3⟩ := h
  refine ⟨fun i => if i ≤ j then f i else hi', by simpa using f0, fun i hi => ?_, by simp only [show ¬ j + 1 ≤ j by omega, if_false]; exact Nat.le_refl _, fun i hi => ?_⟩
  · by_cases e : i < j
    · simp only [show i ≤ j by omega, show i + 1 ≤ j by omega, if_true]; exact f1 i e
    · obtain rfl : i = j := by omega
      simp only [Nat.le_refl, if_true, show ¬ i + 1 ≤ i by omega, if_false]; omega
  · by_cases e : i < j
    · simp only [show i ≤ j by omega, show i + 1 ≤ j by omega, if_true]
      rw [getD_snoc_lt _ _ _ (by omega)]; exact (f3 i e).below hb
    · obtain rfl : i = j := by omega
      simp only [Nat.le_refl, if_true, show ¬ i + 1 ≤ i by omega, if_false]
      rw [getD_snoc_eq _ _ _ hl.symm]; exact ho.mono f2 (Nat.le_refl _)
theorem OwN.rd {w : World} {lo hi j : Nat} {ms : List Rm} {qs : List Pl} (h : OwN w lo hi j ms qs) {i : Nat} (hi : i < j) : Rd w (ms.getD i Rm.zero) (qs.getD i Pl.zero) := by
  obtain ⟨f, f0, f1, f2, f3⟩ := h
  exact (f3 i hi).rd
theorem nr_of {w : World} {g lo hi n : Nat} {ms : List Rm} {qs : List Pl} (hn : ms.length = n) (h : UpN w g n n ms qs) (ho : OwN w lo hi n ms qs) : NR w (some ⟨g, 0, none⟩) ms qs := .inr ⟨g, 0, rfl, fun i hi => ⟨by rw [Nat.zero_add]; exact h.1 i (by omega), ho.rd (by omega)⟩⟩
theorem infoZ : ∃ i, Tryz.prog.info? 83 = some i ∧ i.zero = some (Value.agg #[.int .i64 0, .int .i64 0, .int .i64 0, .int .i64 0, .int .i64 0, .slice none 0 0, .slice none 0 0, .slice none 0 0, .slice none 0 0, .slice none 0 0, .slice none 0 0, .slice none 0 0, .int .i64 0]) ∧ i.size = 13 ∧ i.bytes = 216 := by
  have h : (Tryz.prog.info? 83).map (fun i => (i.zero, i.size, i.bytes)) = some (some (Value.agg #[.int .i64 0, .int .i64 0, .int .i64 0, .int .i64 0, .int .i64 0, .slice none 0 0, .slice none 0 0, .slice none 0 0, .slice none 0 0, .slice none 0 0, .slice none 0 0, .slice none 0 0, .int .i64 0]), 13, 216) := by kernel_rfl
  obtain ⟨i, hi, he⟩ := Option.map_eq_some_iff.1 h
  simp only [Prod.mk.injEq] at he
  exact ⟨i, hi, he.1, he.2.1, he.2.2⟩
/-- A router written whole into a row. -/
theorem storeN {ops : Array Oper} {rest : List Oper} {op : Oper} {a : Act} {w : World} {Q : Exit → Act → World → Prop} (x y : Operand) (hgd : op.guard = none) (ho : op.op = .store 83 x y) {b o : Nat} {m : Rm} {p : Pl} (ht : w.there b o 13) (hx : a.eval x = .pointer (some ⟨b, o, none⟩)) (hy : a.eval y = .agg (cl m p).toArray)
    (hk : ∀ w', w' = w.setCells b o (cl m p) → wpList Tryz.prog ops Q rest (a.put op.dst undef) w') : wpList Tryz.prog ops Q (op :: rest) a w :=
  wpList_store_mid hgd 83 x y ho b o (cl m p).toArray hx hy ht infoR.2.2 (all_oneCell_toArray (cl_ones m p).2) (hk _ rfl)
set_option maxHeartbeats 8000000 in
theorem toNS (a : Option Addr) (ms : List Rm) (ps : List Pl) (cap : Nat) (w : World) (hm : ms.length ≤ 1048576) (hs : ∀ i, i < ms.length → Sm (ms.getD i Rm.zero)) (hr : NR w a ms ps) :
    Calls Tryz.prog 46 #[.slice a ms.length cap] w fun e w' => e = .returned (.slice (some ⟨w.heap.size, 0, none⟩) ms.length ms.length) ∧ Below w.heap.size w w' ∧ w.heap.size < w'.heap.size ∧ ∃ qs : List Pl, qs.length = ms.length ∧ (∀ i, i < ms.length → Ad (qs.getD i Pl.zero)) ∧ UpN w' w.heap.size ms.length ms.length ms qs ∧ OwN w' (w.heap.size + 1) w'.heap.size ms.length ms qs := by
  obtain ⟨i0, hi, hz0, hz1, hz2⟩ := infoZ
  have hmk := run_make (P := Tryz.prog) w 28 83 i0 _ Tryz.underlying28 hi hz0 .i64 .i64 (ms.length : Int) (ms.length : Int) (by omega) (by omega) (by rw [hz2]; omega) (by omega)
  have HR := hide hr
  have HS := hide hs
  clear hr hs
  generalize hN : ms.length = n at *
  have HN := hide hN
  clear hN
  rw [Int.toNat_natCast, hz1] at hmk
  have hcs : (madeCells (Value.agg #[.int .i64 0, .int .i64 0, .int .i64 0, .int .i64 0, .int .i64 0, .slice none 0 0, .slice none 0 0, .slice none 0 0, .slice none 0 0, .slice none 0 0, .slice none 0 0, .slice none 0 0, .int .i64 0]).cells (n * 13)).size = n * 13 := size_madeCells _ _
  generalize madeCells (Value.agg #[.int .i64 0, .int .i64 0, .int .i64 0, .int .i64 0, .int .i64 0, .slice none 0 0, .slice none 0 0, .slice none 0 0, .slice none 0 0, .slice none 0 0, .slice none 0 0, .slice none 0 0, .int .i64 0]).cells (n * 13) = cs at *
  have hup0 : UpN (w.alloc (.cells cs 83)) w.heap.size n 0 ms [] := by
    refine ⟨fun i hi => by omega, fun i hi => ⟨?_, by simp⟩⟩
    rw [World.cell?_alloc_new, Array.getElem?_eq_getElem (by omega)]; rfl
  have HU := hide hup0
  clear hup0 hcs hi hz0 hz1 hz2
  go_enter Tryz.func46, Tryz.ntmps46
  go_wp2
  go_loopw [4] (fun i wr => ∃ j : Nat, j ≤ n ∧ i = .int .i64 j ∧ ∃ qs : List Pl, qs.length = j ∧ Hid (∀ i, i < j → Ad (qs.getD i Pl.zero)) ∧ Hid (w.heap.size < wr.heap.size) ∧ Hid (Below w.heap.size w wr) ∧ Hid (UpN wr w.heap.size n j ms qs) ∧ Hid (OwN wr (w.heap.size + 1) wr.heap.size j ms qs)) (fun i _ => n - (intOf i).toNat)
  case atStart => exact ⟨0, by omega, rfl, [], rfl, hide (fun i hi => absurd hi (Nat.not_lt_zero i)), hide (by simp), hide ((Below.refl _ _).alloc (Nat.le_refl _) _), HU, hide ⟨fun _ => w.heap.size + 1, Nat.le_refl _, fun _ _ => Nat.le_refl _, by simp, fun i hi => absurd hi (Nat.not_lt_zero i)⟩⟩
  case round =>
    obtain ⟨j, hj, rfl, qs, hql, HAD, hsz, hb, hu, how⟩ := hrel
    have HQL := hide hql
    clear hql
    by_cases hlt : (j : Int) < (n : Int)
    · have k0 : (0 : Int) ≤ (j : Int) := by omega
      have hlen : j < ms.length := by rw [unhide HN]; omega
      obtain ⟨g, off, rfl, hA, hD⟩ := ((unhide HR).below (unhide hb)).at hlen
      have HA := hide hA
      have HD := hide hD
      have HX := hide ((unhide HS) j (by omega))
      have HST := hide (fun w1 (b1 : Below wr.heap.size wr w1) q => ((unhide hu).under b1 (unhide hsz)).step (unhide HQL) (by omega) q)
      have HSO := hide (fun w1 (b1 : Below wr.heap.size wr w1) q (h : Ow w1 wr.heap.size w1.heap.size (ms.getD j Rm.zero) q) => (unhide how).step b1 (unhide HQL) h b1.size)
      have HTH := hide (fun w1 (b1 : Below wr.heap.size wr w1) => there_part (o := j * 13) (k := 13) ((unhide hu).under b1 (unhide hsz)).2 (by omega))
      clear hlen hA hD
      generalize ms.getD j Rm.zero = m at *
      generalize ps.getD j Pl.zero = p at *
      go_wp2_with (refine loadW _ rfl rfl (unhide HA) rfl ?_)
      refine (toN m p _ (unhide HX) (unhide HD)).mono ?_
      rintro e w1 ⟨q, rfl, b1, ho, hadq⟩
      have HAD1 : Hid (∀ i, i < j + 1 → Ad ((qs ++ [q]).getD i Pl.zero)) := hide (fun i hi => by
        by_cases e : i = j
        · rw [getD_snoc_eq _ _ _ (by rw [unhide HQL]; exact e)]; exact hadq
        · rw [getD_snoc_lt _ _ _ (by rw [unhide HQL]; omega)]; exact unhide HAD i (by omega))
      clear hadq
      have HT1 := hide (unhide HTH w1 b1)
      have HU1 := hide (unhide HST w1 b1 q)
      have HO1 := hide ((unhide HSO w1 b1 q ho).but (w' := w1.setCells w.heap.size (j * 13) (cl m q)) (Lo := w.heap.size) (Hi := w.heap.size + 1) (Nat.le_of_eq (size_cells _ _ _).symm) (fun k hk h => heap_cells (by omega) _ _ _) (.inr (Nat.le_refl _)))
      have HB1 := hide (below_cells (b := w.heap.size) (Nat.le_refl _) (cl m q) (j * 13) w1 ((unhide hb).trans (b1.mono (unhide hb).size)))
      have hsz1 := hide (Nat.lt_of_lt_of_le (unhide hsz) b1.size)
      clear HA HD HX HST HSO HTH b1 ho
      go_wp2_with (refine storeN (m := m) (p := q) _ _ rfl rfl (unhide HT1) rfl rfl ?_; intro w2 hw2; have HW2 := hide hw2; clear hw2)
      go_roundw
      case rel => exact ⟨j + 1, by omega, by go_num, qs ++ [q], by rw [List.length_append, unhide HQL]; rfl, HAD1, hide (by rw [unhide HW2, size_cells]; exact unhide hsz1), hide (by rw [unhide HW2]; exact unhide HB1), hide (by rw [unhide HW2]; exact unhide HU1), hide (by rw [unhide HW2, size_cells]; exact unhide HO1)⟩
      case measure => simp [intOf]; omega
    · obtain rfl : j = n := by omega
      go_wp2
      go_ret
      exact ⟨rfl, unhide hb, unhide hsz, qs, unhide HQL, unhide HAD, unhide hu, unhide how⟩
end Nt
end Go.Proofs.YtfooahhdikobeaaGreat
