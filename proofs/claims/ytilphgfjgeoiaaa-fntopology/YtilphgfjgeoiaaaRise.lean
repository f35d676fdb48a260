/-
  Lists whose elements are right and whose keys rise, over any type.
-/
import Derived.Test.YtilphgfjgeoiaaaWire1
namespace Go.Proofs.Ytilphgfjgeoiaaa
set_option linter.unusedVariables false
namespace Ri
open W1
variable {α : Type} (z : α) (ok : α → Bool) (key : α → Int)
def step (ms : List α) (i : Nat) : Bool := ok (ms.getD i z) && (decide (i = 0) || decide (key (ms.getD (i - 1) z) < key (ms.getD i z)))
def all (ms : List α) (j : Nat) : Bool := (List.range j).all (step z ok key ms)
variable {z ok key} {ms : List α} {j : Nat}
theorem all_zero : all z ok key ms 0 = true := rfl
theorem all_succ (h : all z ok key ms j = true) (hs : step z ok key ms j = true) : all z ok key ms (j + 1) = true := by
  unfold all at *; rw [List.range_succ, List.all_append, h]; simp [hs]
theorem all_no (hj : j < ms.length) (hs : step z ok key ms j = false) : all z ok key ms ms.length = false := by
  unfold all; rw [List.all_eq_false]; exact ⟨j, List.mem_range.2 hj, by rw [hs]; simp⟩
theorem step_bad (h : ok (ms.getD j z) = false) : step z ok key ms j = false := by unfold step; rw [h]; rfl
theorem step_zero (h : ok (ms.getD 0 z) = true) : step z ok key ms 0 = true := by unfold step; rw [h]; rfl
theorem step_lt (h : ok (ms.getD (j + 1) z) = true) (hk : key (ms.getD j z) < key (ms.getD (j + 1) z)) : step z ok key ms (j + 1) = true := by
  unfold step; rw [h, Nat.add_sub_cancel, decide_eq_true hk]; simp
theorem step_ge (hk : key (ms.getD (j + 1) z) ≤ key (ms.getD j z)) : step z ok key ms (j + 1) = false := by
  unfold step; rw [Nat.add_sub_cancel, decide_eq_false (by omega : ¬ (j + 1 = 0)), decide_eq_false (by omega)]; simp
theorem all_step (h : all z ok key ms ms.length = true) (hj : j < ms.length) : step z ok key ms j = true := by
  unfold all at h; simp at h; exact h j hj
theorem all_ok (h : all z ok key ms ms.length = true) (hj : j < ms.length) : ok (ms.getD j z) = true := by
  have := all_step h hj; unfold step at this; rw [Bool.and_eq_true] at this; exact this.1
theorem rises1 (h : all z ok key ms ms.length = true) (hj : j + 1 < ms.length) : key (ms.getD j z) < key (ms.getD (j + 1) z) := by
  have hs := all_step h hj
  unfold step at hs
  rw [Nat.add_sub_cancel, decide_eq_false (by omega : ¬ (j + 1 = 0)), Bool.false_or, Bool.and_eq_true] at hs
  exact of_decide_eq_true hs.2
theorem rises (h : all z ok key ms ms.length = true) : ∀ j i, i < j → j < ms.length → key (ms.getD i z) < key (ms.getD j z)
  | 0, i, hi, _ => by omega
  | j + 1, i, hi, hj => by
    have hk := rises1 h hj
    by_cases e : i = j
    · subst e; exact hk
    · have := rises h j i (by omega) (by omega); omega
/-- Keys from lo on that rise leave no more than their range has. -/
theorem all_long {lo hi : Int} (hb : ∀ m, ok m = true → lo ≤ key m ∧ key m ≤ hi) (h : all z ok key ms ms.length = true) : (ms.length : Int) ≤ hi - lo + 1 ∨ ms.length = 0 := by
  have hg : ∀ i, i < ms.length → lo + (i : Int) ≤ key (ms.getD i z) := by
    intro i
    induction i with
    | zero => intro hi; have := (hb _ (all_ok h hi)).1; omega
    | succ i ih => intro hi; have := rises1 h hi; have := ih (by omega); omega
  by_cases h0 : ms.length = 0
  · exact .inr h0
  · have h1 := hg (ms.length - 1) (by omega)
    have h2 := (hb _ (all_ok h (j := ms.length - 1) (by omega))).2
    left; omega
theorem find_at (p : α → Bool) : ∀ (ms : List α) (j : Nat), j < ms.length → (∀ i, i < j → p (ms.getD i z) = false) → p (ms.getD j z) = true → ms.find? p = some (ms.getD j z)
  | [], j, hj, _, _ => by simp at hj
  | m :: t, 0, _, _, h => by
    have h' : p m = true := by simpa using h
    rw [List.find?_cons_of_pos h']; rfl
  | m :: t, j + 1, hj, h1, h => by
    have h0 : p m = false := by simpa using h1 0 (by omega)
    rw [List.find?_cons_of_neg (by simp [h0])]
    have := find_at p t j (by simpa using hj) (fun i hi => by have := h1 (i + 1) (by omega); simpa using this) (by simpa using h)
    rw [this]; simp
theorem find_no (p : α → Bool) (ms : List α) (h : ∀ i, i < ms.length → p (ms.getD i z) = false) : ms.find? p = none := by
  rw [List.find?_eq_none]
  intro x hx
  obtain ⟨i, hi, rfl⟩ := List.getElem_of_mem hx
  have := h i hi
  rw [List.getD_eq_getElem?_getD, List.getElem?_eq_getElem hi] at this
  simpa using this
end Ri
end Go.Proofs.Ytilphgfjgeoiaaa
