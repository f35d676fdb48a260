/-
  Mathematics of the law of forgetting: who is symmetric is kept; the addresses of the symmetric, one by one.
-/
import Derived.Test.YtpknahhdapmcoabDoorLnkE
import Derived.Test.YtpknahhdapmcoabDoorLnkS
namespace Go.Proofs.YtpknahhdapmcoabDoor
set_option linter.unusedVariables false
namespace Ln
open W1 Lk
theorem getD_at {ms : List R} {i : Nat} (h : i < ms.length) : ms.getD i R.zero = ms[i] := by rw [List.getD_eq_getElem?_getD, List.getElem?_eq_getElem h]; rfl
theorem up_links {ms : List R} (h : linksB ms = true) : ms.Pairwise (fun a b => a.ad < b.ad) := by
  rw [List.pairwise_iff_getElem]
  intro i j hi hj hij
  have := Ri.rises h j i hij hj
  rw [getD_at hi, getD_at hj] at this; exact this
theorem ok_links {ms : List R} (h : linksB ms = true) : ∀ m ∈ ms, okL m = true := by
  intro m hm
  obtain ⟨i, hi, rfl⟩ := List.getElem_of_mem hm
  have := Ri.all_ok h hi
  rw [getD_at hi] at this; exact this
theorem links_filter {ms : List R} (h : linksB ms = true) (p : R → Bool) : linksB (ms.filter p) = true := by
  have hu := (up_links h).filter p
  have ho : ∀ m ∈ ms.filter p, okL m = true := fun m hm => ok_links h m (List.mem_filter.1 hm).1
  unfold linksB allL Ri.all
  rw [List.all_eq_true]
  intro i hi
  have hi' : i < (ms.filter p).length := List.mem_range.1 hi
  unfold Ri.step
  rw [ho _ (getD_mem hi')]
  by_cases h0 : i = 0
  · subst h0; rfl
  · rw [getD_at hi', getD_at (show i - 1 < (ms.filter p).length by omega), decide_eq_true ((List.pairwise_iff_getElem.1 hu) (i - 1) i (by omega) hi' (by omega))]; simp
theorem sym_keep {now : Int} {m : R} (h : isSym now m = true) : keepL now m = true := by
  unfold isSym statusV at h
  unfold keepL
  by_cases h1 : m.hd ≤ now
  · rw [if_pos h1] at h; simp at h
  · exact decide_eq_true (by omega)
theorem filter_keep {now : Int} : ∀ ms : List R, (ms.filter (keepL now)).filter (isSym now) = ms.filter (isSym now)
  | [] => rfl
  | m :: t => by
    cases hs : isSym now m
    · cases hk : keepL now m
      · rw [List.filter_cons_of_neg (by simp [hk]), List.filter_cons_of_neg (by simp [hs]), filter_keep t]
      · rw [List.filter_cons_of_pos hk, List.filter_cons_of_neg (by simp [hs]), List.filter_cons_of_neg (by simp [hs]), filter_keep t]
    · rw [List.filter_cons_of_pos (sym_keep hs), List.filter_cons_of_pos hs, List.filter_cons_of_pos hs, filter_keep t]
/-- Who is symmetric is still there. -/
theorem sym_still (now : Int) (ms : List R) : symN now (ms.filter (keepL now)) (ms.filter (keepL now)).length = symN now ms ms.length := by
  unfold symN
  rw [List.take_length, List.take_length, filter_keep]
theorem sym_split (now : Int) (ms : List R) (j : Nat) : ∃ t, symN now ms ms.length = symN now ms j ++ t := by
  refine ⟨((ms.drop j).filter (isSym now)).map (·.ad), ?_⟩
  unfold symN
  rw [List.take_length, ← List.map_append, ← List.filter_append, List.take_append_drop]
theorem sym_here {now : Int} {ms : List R} {j : Nat} (h : j < ms.length) (hs : isSym now (ms.getD j R.zero) = true) :
    (symN now ms j).length < (symN now ms ms.length).length ∧ (symN now ms ms.length).getD (symN now ms j).length 0 = (ms.getD j R.zero).ad := by
  obtain ⟨t, ht⟩ := sym_split now ms (j + 1)
  rw [symN_yes h hs] at ht
  rw [ht]
  refine ⟨by simp, ?_⟩
  rw [List.append_assoc, List.getD_eq_getElem?_getD, List.getElem?_append_right (Nat.le_refl _), Nat.sub_self]; rfl
end Ln
end Go.Proofs.YtpknahhdapmcoabDoor
