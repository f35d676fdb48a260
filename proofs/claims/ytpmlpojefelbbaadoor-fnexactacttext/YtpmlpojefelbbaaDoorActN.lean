/-
  Numbers' texts, of any number, on both sides.
-/
import Derived.Test.YtpmlpojefelbbaaDoorDig
import Derived.Test.YtpmlpojefelbbaaDoorShelf
import Derived.Test.YtpmlpojefelbbaaDoorIntsL
import Derived.Lib.ItoaLen
import Derived.Lib.ItoaMem
import Derived.Lib.AppendIntMem
namespace Go.Proofs.YtpmlpojefelbbaaDoor
open Go.ChangeShapes Go.WideShapes Go.ChangeAt Go.RowKit
set_option linter.unusedVariables false
set_option linter.unusedSimpArgs false
set_option maxRecDepth 100000
attribute [local go_sem ↓] Go.wp_at_zero Go.wp_at_succ
attribute [local go_sem] Go.strOfNums_size ByteArray.size_append
namespace Ac
open W1 Di

abbrev TabP (w : World) : Prop := Lib.TabIs Tryd.prog w "internal/strconv.uint64pow10" .u64 Lib.pow10Tab
/-- A number's text. -/
def tx (n : Int) : ByteArray := ⟨(Lib.itoa n).toArray⟩
theorem tx_size (n : Int) (h0 : -9223372036854775808 ≤ n) (h1 : n ≤ 9223372036854775807) : (tx n).size ≤ 21 := by
  have := Lib.itoa_length_le n h0 h1
  unfold tx; simpa [ByteArray.size] using this
theorem tx_nat (k : Nat) : tx (k : Int) = dig k := by unfold tx dig; rw [Lib.itoa_nonneg]
theorem tx_neg (k : Nat) (h : 1 ≤ k) : tx (-(k : Int)) = ⟨#[45]⟩ ++ dig k := by
  unfold tx dig
  rw [Lib.itoa_neg k h]
  apply ByteArray.ext
  simp [ByteArray.data_append]
theorem dig_size19 (k : Nat) (h : k ≤ 9223372036854775807) : (dig k).size ≤ 21 := by
  rw [← tx_nat]; exact tx_size _ (by omega) (by omega)
theorem tx_min : tx (-9223372036854775808) = ⟨#[45, 57, 50, 50, 51, 51, 55, 50, 48, 51, 54, 56, 53, 52, 55, 55, 53, 56, 48, 56]⟩ := by
  rw [show (-9223372036854775808 : Int) = -((9223372036854775808 : Nat) : Int) by omega, tx_neg _ (by omega)]
  rw [show dig 9223372036854775808 = ⟨#[57, 50, 50, 51, 51, 55, 50, 48, 51, 54, 56, 53, 52, 55, 55, 53, 56, 48, 56]⟩ by
    unfold dig
    simp [Lib.decDigits.eq_def]]
  rfl
set_option maxHeartbeats 1000000 in
theorem digits19 (k : Nat) : k ≤ 9223372036854775807 → ∀ w : World,
    Calls Tryd.prog 15 #[.int .i64 (k : Int)] w fun e w' => e = .returned (.string (dig k)) ∧ Below w.heap.size w w' := by
  induction k using Nat.strongRecOn with
  | ind k ih =>
  intro hk w
  by_cases h : k < 10
  · have hd := hide (dig_one h)
    have h1 : (k : Int) < 10 := by omega
    have hc := conv1 (w.alloc (Obj.cells #[Value.int IntKind.u8 (48 + (k : Int))] 5)) w.heap.size (48 + (k : Int)) (by simp [go_sem])
    clear ih
    go_enter Tryd.func15, Tryd.ntmps15
    go_wp2_with fail
    rw [unhide hd]
    go_ret
    exact ⟨rfl, (Below.refl _ _).alloc (Nat.le_refl _) _⟩
  · have hd := hide (dig_more h)
    have h1 : ¬ (k : Int) < 10 := by omega
    have hz := dig_size19 (k / 10) (by omega)
    have hih := hide (ih (k / 10) (by omega) (by omega))
    have hk10 : ((k / 10 : Nat) : Int) = (k : Int) / 10 := by omega
    rw [hk10] at hih
    have hc := fun W g => conv1 W g (48 + (k : Int) % 10)
    have hbl0 : Below w.heap.size w w := Below.refl _ _
    have hw1 : IntKind.i64.wrap ((k : Int) / 10) = (k : Int) / 10 := by rw [IntKind.wrap_i64]; omega
    have htm : (k : Int).tmod 10 = (k : Int) % 10 := Int.tmod_eq_emod_of_nonneg (by omega)
    have hw2 : IntKind.i64.wrap (48 + (k : Int) % 10) = 48 + (k : Int) % 10 := wrapS (by omega) (by omega)
    have hw3 : IntKind.u8.wrap (48 + (k : Int) % 10) = 48 + (k : Int) % 10 := by rw [IntKind.wrap_u8]; omega
    have hnb : ∀ n : Int, ¬ (9223372036854775807 < (dig (k / 10)).size + (strOfNums [n]).size) := fun n => by rw [strOfNums_size]; simp; omega
    clear ih hk10
    generalize dig (k / 10) = dk at *
    go_enter Tryd.func15, Tryd.ntmps15
    go_wp2_with fail
    go_region_with (first
        | (go_at_call 15; refine (unhide hih _).mono ?_; rintro e w' ⟨rfl, hbel⟩; obtain ⟨hcc, hff⟩ := bcell hbel))
    all_goals have hH : Below w.heap.size w w' := by first | exact ((Below.refl w.heap.size w).drew).trans hbel | exact (((Below.refl w.heap.size w).alloc (Nat.le_refl _) _).drew).trans (hbel.mono (by simp))
    all_goals rw [unhide hd]
    all_goals clear hcc hff hbel
    all_goals go_wp2
    all_goals go_ret
    all_goals first | exact ⟨rfl, hH⟩ | exact ⟨rfl, hH.alloc hH.size _⟩
set_option maxHeartbeats 1000000 in
theorem digsA (n : Int) (h0 : -9223372036854775808 ≤ n) (h1 : n ≤ 9223372036854775807) (w : World) :
    Calls Tryd.prog 15 #[.int .i64 n] w fun e w' => e = .returned (.string (tx n)) ∧ Below w.heap.size w w' := by
  by_cases hn : 0 ≤ n
  · obtain ⟨k, rfl⟩ := Int.eq_ofNat_of_zero_le hn
    rw [tx_nat]
    exact digits19 k (by omega) w
  · by_cases hmin : n = -9223372036854775808
    · subst hmin
      rw [tx_min]
      go_enter Tryd.func15, Tryd.ntmps15
      go_wp2_with fail
      go_ret
      exact ⟨rfl, Below.refl _ _⟩
    · obtain ⟨k, hk⟩ : ∃ k : Nat, (k : Int) = -n := ⟨(-n).toNat, by omega⟩
      obtain rfl : n = -(k : Int) := by omega
      have HD := hide (digits19 k (by omega))
      rw [tx_neg k (by omega)]
      have hz := dig_size19 k (by omega)
      have h2 : -(k : Int) < 0 := by omega
      have hw : IntKind.i64.wrap (k : Int) = (k : Int) := by rw [IntKind.wrap_i64]; omega
      generalize dig k = dk at *
      clear hn hk
      go_enter Tryd.func15, Tryd.ntmps15
      go_wp2_with fail
      refine (unhide HD _).mono ?_
      rintro e w' ⟨rfl, b⟩
      go_wp2_with fail
      go_ret
      exact ⟨rfl, b⟩
theorem itoaA (n : Int) (h0 : -9223372036854775808 ≤ n) (h1 : n ≤ 9223372036854775807) (w : World) (ht : TabP w) :
    Calls Tryd.prog 28 #[.int .i64 n] w fun e w' => e = .returned (.string (tx n)) ∧ Below w.heap.size w w' := by
  refine (Tryd.strconv_Itoa n h0 h1 w ht).mono ?_
  rintro e w' ⟨rfl, k, os, rfl⟩
  exact ⟨rfl, Lib.below_grow _ _ (Nat.le_refl _) _ _⟩
end Ac
end Go.Proofs.YtpmlpojefelbbaaDoor
