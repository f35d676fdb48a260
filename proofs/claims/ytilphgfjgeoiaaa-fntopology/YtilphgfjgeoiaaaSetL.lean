/-
  More on sets, over lists: a right set is one whose tuples are right and whose keys rise; what is put in stays right, and is found.
-/
import Derived.Test.YtilphgfjgeoiaaaSetM
namespace Go.Proofs.Ytilphgfjgeoiaaa
set_option linter.unusedVariables false
namespace St
open W1 Tu
def Rise (ms : List R) : Prop := ms.Pairwise fun a b => a.key < b.key
theorem getD_get {ms : List R} {i : Nat} (h : i < ms.length) : ms.getD i R.zero = ms[i] := by rw [List.getD_eq_getElem?_getD, List.getElem?_eq_getElem h]; rfl
theorem rise_of {ms : List R} (h : setB ms = true) : Rise ms := by
  unfold Rise
  rw [List.pairwise_iff_getElem]
  intro i j hi hj hij
  have := rises h j i hij hj
  rw [getD_get hi, getD_get hj] at this; exact this
theorem ok_of {ms : List R} (h : setB ms = true) : ∀ m ∈ ms, okR m = true := by
  intro m hm
  obtain ⟨i, hi, rfl⟩ := List.getElem_of_mem hm
  have := setB_ok h hi
  rw [getD_get hi] at this; exact this
theorem set_of {ms : List R} (hl : ms.length ≤ 64) (ho : ∀ m ∈ ms, okR m = true) (hr : Rise ms) : setB ms = true := by
  refine setB_all hl ?_
  unfold allB
  rw [List.all_eq_true]
  intro i hi
  have hi' : i < ms.length := List.mem_range.1 hi
  unfold stepB
  have h1 : okR (ms.getD i R.zero) = true := by rw [getD_get hi']; exact ho _ (List.getElem_mem hi')
  rw [h1]
  by_cases h0 : i = 0
  · simp [h0]
  · have h2 : (ms.getD (i - 1) R.zero).key < (ms.getD i R.zero).key := by
      unfold Rise at hr
      rw [List.pairwise_iff_getElem] at hr
      rw [getD_get hi', getD_get (by omega : i - 1 < ms.length)]
      exact hr (i - 1) i (by omega) hi' (by omega)
    rw [decide_eq_true h2]; simp
/-- The keys ahead of a place are less, those behind it no less. -/
theorem lt_place {ms : List R} {k : Int} {m : R} (h : m ∈ ms.take (place ms k)) : m.key < k := by
  obtain ⟨i, hi, rfl⟩ := List.getElem_of_mem h
  have hi2 : i < place ms k ∧ i < ms.length := by rw [List.length_take] at hi; omega
  have := placeP_no (atKey k) ms i hi2.1
  rw [getD_get hi2.2] at this
  rw [List.getElem_take]
  have := of_decide_eq_false this
  omega
theorem ge_place {ms : List R} {k : Int} (hr : Rise ms) {m : R} (h : m ∈ ms.drop (place ms k)) : k ≤ m.key := by
  obtain ⟨i, hi, rfl⟩ := List.getElem_of_mem h
  rw [List.length_drop] at hi
  rw [List.getElem_drop]
  have hp : place ms k < ms.length := by omega
  have h1 := placeP_yes (atKey k) ms hp
  have h1' : k ≤ (ms.getD (place ms k) R.zero).key := of_decide_eq_true h1
  rw [getD_get hp] at h1'
  by_cases e : i = 0
  · subst e; simpa using h1'
  · unfold Rise at hr
    rw [List.pairwise_iff_getElem] at hr
    have := hr (place ms k) (place ms k + i) hp (by omega) (by omega)
    omega
theorem gt_place {ms : List R} {k : Int} (hr : Rise ms) (ht : thereB ms k = true) {m : R} (h : m ∈ ms.drop (place ms k + 1)) : k < m.key := by
  unfold thereB at ht
  rw [Bool.and_eq_true] at ht
  have hp : place ms k < ms.length := of_decide_eq_true ht.1
  have hk : (ms.getD (place ms k) R.zero).key = k := of_decide_eq_true ht.2
  rw [getD_get hp] at hk
  obtain ⟨i, hi, rfl⟩ := List.getElem_of_mem h
  rw [List.length_drop] at hi
  rw [List.getElem_drop]
  unfold Rise at hr
  rw [List.pairwise_iff_getElem] at hr
  have := hr (place ms k) (place ms k + 1 + i) hp (by omega) (by omega)
  omega
theorem gt_place' {ms : List R} {k : Int} (hr : Rise ms) (ht : thereB ms k = false) {m : R} (h : m ∈ ms.drop (place ms k)) : k < m.key := by
  have h1 := ge_place hr h
  rcases Int.lt_or_eq_of_le h1 with h2 | h2
  · exact h2
  · exfalso
    obtain ⟨i, hi, e⟩ := List.getElem_of_mem h
    rw [List.length_drop] at hi
    rw [List.getElem_drop] at e
    have hp : place ms k < ms.length := by omega
    have hg : k ≤ (ms[place ms k]).key := ge_place hr (by rw [List.mem_iff_getElem]; exact ⟨0, by rw [List.length_drop]; omega, by rw [List.getElem_drop]; rfl⟩)
    have h0 : (ms[place ms k]).key = k := by
      by_cases e0 : i = 0
      · subst e0
        have : ms[place ms k] = m := by simpa using e
        rw [this]; exact h2.symm
      · unfold Rise at hr
        rw [List.pairwise_iff_getElem] at hr
        have := hr (place ms k) (place ms k + i) hp (by omega) (by omega)
        rw [e] at this
        omega
    unfold thereB at ht
    rw [decide_eq_true hp, getD_get hp, decide_eq_true h0] at ht
    cases ht
theorem take_mem {ms : List R} {n : Nat} {m : R} (h : m ∈ ms.take n) : m ∈ ms := List.mem_of_mem_take h
theorem drop_mem {ms : List R} {n : Nat} {m : R} (h : m ∈ ms.drop n) : m ∈ ms := List.mem_of_mem_drop h
/-- Three parts that rise and follow each other. -/
theorem rise_three {a c : List R} {x : R} (ha : Rise a) (hc : Rise c) (h1 : ∀ m ∈ a, m.key < x.key) (h2 : ∀ m ∈ c, x.key < m.key) : Rise (a ++ [x] ++ c) := by
  unfold Rise at *
  rw [List.append_assoc, List.pairwise_append]
  refine ⟨ha, ?_, ?_⟩
  · rw [List.singleton_append, List.pairwise_cons]
    exact ⟨h2, hc⟩
  · intro m hm b hb
    rw [List.singleton_append, List.mem_cons] at hb
    rcases hb with rfl | hb
    · exact h1 m hm
    · have := h1 m hm; have := h2 b hb; omega
theorem put_set {ms : List R} {x : R} (h : setB ms = true) (hx : okR x = true) (hl : ms.length < 64) : setB (putL ms x) = true := by
  have hr := rise_of h
  have ho := ok_of h
  have hp := placeP_le (atKey x.key) ms
  have hrt : ∀ n, Rise (ms.take n) := fun n => List.Pairwise.sublist (List.take_sublist _ _) hr
  have hrd : ∀ n, Rise (ms.drop n) := fun n => List.Pairwise.sublist (List.drop_sublist _ _) hr
  unfold putL
  cases ht : thereB ms x.key
  · rw [if_neg (by simp), if_neg (by omega)]
    refine set_of ?_ ?_ (rise_three (hrt _) (hrd _) (fun m hm => lt_place hm) (fun m hm => gt_place' hr ht hm))
    · simp only [List.length_append, List.length_take, List.length_drop, List.length_cons, List.length_nil]; unfold place; omega
    · intro m hm
      simp only [List.mem_append, List.mem_cons, List.not_mem_nil, or_false] at hm
      rcases hm with (hm | rfl) | hm
      · exact ho _ (take_mem hm)
      · exact hx
      · exact ho _ (drop_mem hm)
  · rw [if_pos rfl]
    refine set_of ?_ ?_ (rise_three (hrt _) (hrd _) (fun m hm => lt_place hm) (fun m hm => gt_place hr ht hm))
    · simp only [List.length_append, List.length_take, List.length_drop, List.length_cons, List.length_nil]; unfold place; omega
    · intro m hm
      simp only [List.mem_append, List.mem_cons, List.not_mem_nil, or_false] at hm
      rcases hm with (hm | rfl) | hm
      · exact ho _ (take_mem hm)
      · exact hx
      · exact ho _ (drop_mem hm)
theorem put_le (ms : List R) (x : R) : (putL ms x).length ≤ ms.length + 1 := by
  have hp := placeP_le (atKey x.key) ms
  unfold putL
  split
  · simp only [List.length_append, List.length_take, List.length_drop, List.length_cons, List.length_nil]; unfold place at *; omega
  · split
    · omega
    · simp only [List.length_append, List.length_take, List.length_drop, List.length_cons, List.length_nil]; unfold place at *; omega
theorem put_ne (ms : List R) (x : R) : 0 < (putL ms x).length := by
  unfold putL
  split
  · simp; omega
  · split
    · omega
    · simp; omega
end St
end Go.Proofs.Ytilphgfjgeoiaaa
