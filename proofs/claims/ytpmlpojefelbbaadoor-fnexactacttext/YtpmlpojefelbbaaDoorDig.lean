/-
  Contract of the model's l00Digits: for a number from 0 to 99999999 its decimal digits, as a text. It changes nothing that was there.
-/
import Derived.Test.YtpmlpojefelbbaaDoorWire1
import Derived.Lib.ItoaMem
import Derived.Laws.BytesArg
import Derived.Deep.RegionHeld3
import Derived.Deep.DrawnRows
namespace Go.Proofs.YtpmlpojefelbbaaDoor
open Go.ChangeShapes Go.WideShapes Go.ChangeAt Go.RowKit
set_option linter.unusedVariables false
attribute [local go_sem ↓] Go.wp_at_zero Go.wp_at_succ
attribute [local go_sem] Go.strOfNums_size ByteArray.size_append
namespace Di
open W1
/-- A number's digits, as a text. -/
def dig (k : Nat) : ByteArray := ⟨(Lib.decDigits k).toArray⟩
theorem dig_one {k : Nat} (h : k < 10) : strOfNums [48 + (k : Int)] = dig k := by
  unfold dig strOfNums; rw [Lib.decDigits_one h]
  have e : (48 + (k : Int)).toNat = 48 + k := by omega
  simp [e]
theorem dig_more {k : Nat} (h : ¬ k < 10) : dig (k / 10) ++ strOfNums [48 + (k : Int) % 10] = dig k := by
  unfold dig strOfNums
  rw [Lib.decDigits.eq_def k, dif_neg h]
  apply ByteArray.ext
  have e : (48 + (k : Int) % 10).toNat = 48 + k % 10 := by omega
  simp [ByteArray.data_append, e]
theorem dig_size (k : Nat) (h : k ≤ 65535) : (dig k).size ≤ 5 := by
  have e : (dig k).size = Lib.nDigits k := by
    show (Lib.decDigits k).toArray.size = _
    simp [Lib.decDigits_length]
  rw [e]
  have h1 : ∀ u, u < 10 → Lib.nDigits u ≤ 1 := fun u hu => by rw [Lib.nDigits_small hu]; omega
  have h2 : ∀ u, u < 100 → Lib.nDigits u ≤ 2 := fun u hu => by
    by_cases c : u < 10
    · have := h1 u c; omega
    · rw [Lib.nDigits_big c]; have := h1 (u / 10) (by omega); omega
  have h3 : ∀ u, u < 1000 → Lib.nDigits u ≤ 3 := fun u hu => by
    by_cases c : u < 10
    · have := h1 u c; omega
    · rw [Lib.nDigits_big c]; have := h2 (u / 10) (by omega); omega
  have h4 : ∀ u, u < 10000 → Lib.nDigits u ≤ 4 := fun u hu => by
    by_cases c : u < 10
    · have := h1 u c; omega
    · rw [Lib.nDigits_big c]; have := h3 (u / 10) (by omega); omega
  by_cases c : k < 10
  · have := h1 k c; omega
  · rw [Lib.nDigits_big c]; have := h4 (k / 10) (by omega); omega
theorem dig_size8 (k : Nat) (h : k ≤ 99999999) : (dig k).size ≤ 8 := by
  have e : (dig k).size = Lib.nDigits k := by
    show (Lib.decDigits k).toArray.size = _
    simp [Lib.decDigits_length]
  rw [e]
  have h1 : ∀ u, u < 10 → Lib.nDigits u ≤ 1 := fun u hu => by rw [Lib.nDigits_small hu]; omega
  have up : ∀ n N, (∀ u, u < N → Lib.nDigits u ≤ n) → 0 < n → ∀ u, u < N * 10 → Lib.nDigits u ≤ n + 1 := fun n N hn h0 u hu => by
    by_cases c : u < 10
    · have := h1 u c; omega
    · rw [Lib.nDigits_big c]; have := hn (u / 10) (by omega); omega
  exact up 7 _ (up 6 _ (up 5 _ (up 4 _ (up 3 _ (up 2 _ (up 1 _ h1 (by omega)) (by omega)) (by omega)) (by omega)) (by omega)) (by omega)) (by omega) k (by omega)
theorem wrapS {x : Int} (h0 : 0 ≤ x) (h1 : x ≤ 1099511627776) : IntKind.i64.wrap x = x := by
  have e := IntWalk.i64_left x
  rw [e]; unfold wrap64; omega
theorem conv1 (W : World) (g : Nat) (n : Int) (h : W.cell? ⟨g, 0, none⟩ = some (.int .u8 n)) :
    (convert 48 9 (.slice (some ⟨g, 0, none⟩) 1 1)).run Tryd.prog W = .ok (.string (strOfNums [n])) W :=
  run_convert_bytes_arg (P := Tryd.prog) W 48 5 Tryd.underlying48 Tryd.underlying5 g 0 1 1 [n] rfl (fun | 0, _ => h) 9 Tryd.underlying9

set_option maxRecDepth 100000 in
set_option maxHeartbeats 1000000 in
theorem digits8 (k : Nat) : k ≤ 99999999 → ∀ w : World,
    Calls Tryd.prog 15 #[.int .i64 (k : Int)] w fun e w' => e = .returned (.string (dig k)) ∧ Below w.heap.size w w' := by
  induction k using Nat.strongRecOn with
  | ind k ih =>
  intro hk w
  by_cases h : k < 10
  · have hd := hide (dig_one h)
    have h1 : (k : Int) < 10 := by omega
    have hc := conv1 (w.alloc (Obj.cells #[Value.int IntKind.u8 (48 + (k : Int))] 5)) w.heap.size (48 + (k : Int)) (by simp [go_sem])
    clear ih
    go_enter Tryd.func15, Tryd.ntmps15
    go_wp2_with fail
    rw [unhide hd]
    go_ret
    exact ⟨rfl, (Below.refl _ _).alloc (Nat.le_refl _) _⟩
  · have hd := hide (dig_more h)
    have h1 : ¬ (k : Int) < 10 := by omega
    have hz := dig_size8 (k / 10) (by omega)
    have hih := hide (ih (k / 10) (by omega) (by omega))
    have hk10 : ((k / 10 : Nat) : Int) = (k : Int) / 10 := by omega
    rw [hk10] at hih
    have hc := fun W g => conv1 W g (48 + (k : Int) % 10)
    have hbl0 : Below w.heap.size w w := Below.refl _ _
    have hw1 : IntKind.i64.wrap ((k : Int) / 10) = (k : Int) / 10 := wrapS (by omega) (by omega)
    have htm : (k : Int).tmod 10 = (k : Int) % 10 := Int.tmod_eq_emod_of_nonneg (by omega)
    have hw2 : IntKind.i64.wrap (48 + (k : Int) % 10) = 48 + (k : Int) % 10 := wrapS (by omega) (by omega)
    have hw3 : IntKind.u8.wrap (48 + (k : Int) % 10) = 48 + (k : Int) % 10 := by rw [IntKind.wrap_u8]; omega
    have hnb : ∀ n : Int, ¬ (9223372036854775807 < (dig (k / 10)).size + (strOfNums [n]).size) := fun n => by rw [strOfNums_size]; simp; omega
    clear ih hk10
    generalize dig (k / 10) = dk at *
    go_enter Tryd.func15, Tryd.ntmps15
    go_wp2_with fail
    go_region_with (first
        | (go_at_call 15; refine (unhide hih _).mono ?_; rintro e w' ⟨rfl, hbel⟩; obtain ⟨hcc, hff⟩ := bcell hbel))
    all_goals have hH : Below w.heap.size w w' := by first | exact ((Below.refl w.heap.size w).drew).trans hbel | exact (((Below.refl w.heap.size w).alloc (Nat.le_refl _) _).drew).trans (hbel.mono (by simp))
    all_goals rw [unhide hd]
    all_goals clear hcc hff hbel
    all_goals go_wp2
    all_goals go_ret
    all_goals first | exact ⟨rfl, hH⟩ | exact ⟨rfl, hH.alloc hH.size _⟩
theorem digits (k : Nat) (h : k ≤ 65535) (w : World) : Calls Tryd.prog 15 #[.int .i64 (k : Int)] w fun e w' => e = .returned (.string (dig k)) ∧ Below w.heap.size w w' :=
  digits8 k (by omega) w
end Di
end Go.Proofs.YtpmlpojefelbbaaDoor
