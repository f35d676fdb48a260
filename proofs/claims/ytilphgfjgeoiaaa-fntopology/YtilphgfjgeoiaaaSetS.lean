/-
  What FnSet asks of a put: what is put is found and told in its range, dropped it is not found, and the others stay.
-/
import Derived.Test.YtilphgfjgeoiaaaSetL
namespace Go.Proofs.Ytilphgfjgeoiaaa
open Go.ChangeShapes Go.WideShapes Go.ChangeAt Go.RowKit
namespace St
open W1 Tu
theorem put_parts {ms : List R} {x : R} (h : setB ms = true) (hl : ms.length < 64) :
    ∃ A C, putL ms x = A ++ [x] ++ C ∧ (∀ m ∈ A, m.key < x.key) ∧ (∀ m ∈ C, x.key < m.key) ∧ ∀ y ∈ ms, y.key ≠ x.key → y ∈ A ∨ y ∈ C := by
  have hr := rise_of h
  cases ht : thereB ms x.key
  · refine ⟨ms.take (place ms x.key), ms.drop (place ms x.key), ?_, fun m hm => lt_place hm, fun m hm => gt_place' hr ht hm, fun y hy _ => ?_⟩
    · unfold putL; rw [if_neg (by rw [ht]; simp), if_neg (by omega)]
    · rw [← List.take_append_drop (place ms x.key) ms, List.mem_append] at hy; exact hy
  · refine ⟨ms.take (place ms x.key), ms.drop (place ms x.key + 1), ?_, fun m hm => lt_place hm, fun m hm => gt_place hr ht hm, fun y hy hne => ?_⟩
    · unfold putL; rw [if_pos ht]
    · unfold thereB at ht
      rw [Bool.and_eq_true] at ht
      have hp := of_decide_eq_true ht.1
      have hk := of_decide_eq_true ht.2
      rw [getD_get hp] at hk
      rw [← List.take_append_drop (place ms x.key) ms, List.mem_append, List.drop_eq_getElem_cons hp, List.mem_cons] at hy
      rcases hy with h1 | rfl | h2
      · exact .inl h1
      · exact absurd hk hne
      · exact .inr h2
theorem place_at {P : List R} (h : setB P = true) {i : Nat} (hi : i < P.length) : place P (P.getD i R.zero).key = i := by
  refine placeP_of _ P i (Nat.le_of_lt hi) (fun j hj => ?_) (fun _ => ?_)
  · unfold atKey; exact decide_eq_false (by have := rises h i j hj hi; omega)
  · unfold atKey; exact decide_eq_true (Int.le_refl _)
theorem mem_find {P : List R} (h : setB P = true) {m : R} (hm : m ∈ P) : findA P m.key = m ∧ dropE P m.key = 0 ∧ thereB P m.key = true := by
  obtain ⟨i, hi, rfl⟩ := List.getElem_of_mem hm
  have hp := place_at h hi
  rw [getD_get hi] at hp
  have ht : thereB P P[i].key = true := by unfold thereB; rw [hp, getD_get hi, decide_eq_true hi, decide_eq_true rfl]; rfl
  refine ⟨?_, ?_, ht⟩
  · unfold findA; rw [if_pos ⟨code_zero h, ht⟩, hp, getD_get hi]
  · unfold dropE dropC; rw [if_pos (code_zero h), if_pos ht]
theorem put_code {ms : List R} {x : R} (h : setB ms = true) (hx : okR x = true) (hl : ms.length < 64) : putE ms x = 0 ∧ putA ms x = putL ms x := by
  refine ⟨?_, ?_⟩
  · unfold putE putC; rw [if_pos (code_zero h), if_pos hx]; split
    · rfl
    · rw [if_neg (by omega)]
  · unfold putA; rw [if_pos ⟨code_zero h, hx⟩]
theorem put_mem {ms : List R} {x : R} (h : setB ms = true) (hl : ms.length < 64) : x ∈ putL ms x := by
  obtain ⟨A, C, e, _⟩ := put_parts (x := x) h hl
  rw [e]; simp
theorem put_keeps {ms : List R} {x : R} (h : setB ms = true) (hx : okR x = true) (hl : ms.length < 64) {y : R} (hy : y ∈ ms) :
    dropE (putL ms x) y.key = 0 ∧ (y.key ≠ x.key → findA (putL ms x) y.key = y) := by
  have hs := put_set h hx hl
  by_cases hk : y.key = x.key
  · rw [hk]; exact ⟨(mem_find hs (put_mem h hl)).2.1, fun hn => absurd rfl hn⟩
  · obtain ⟨A, C, e, _, _, h3⟩ := put_parts (x := x) h hl
    have hm : y ∈ putL ms x := by rw [e]; rcases h3 y hy hk with h | h <;> simp [h]
    exact ⟨(mem_find hs hm).2.1, fun _ => (mem_find hs hm).1⟩
theorem put_range {ms : List R} {x : R} (h : setB ms = true) (hx : okR x = true) (hl : ms.length < 64) : rangeA (putL ms x) x.key x.key = [x] := by
  obtain ⟨A, C, e, h1, h2, _⟩ := put_parts (x := x) h hl
  unfold rangeA
  rw [if_pos (code_zero (put_set h hx hl)), e, List.filter_append, List.filter_append]
  have e1 : A.filter (inK x.key x.key) = [] := by
    refine List.filter_eq_nil_iff.2 fun m hm => ?_
    have := h1 m hm
    simp [inK, inB]; omega
  have e2 : C.filter (inK x.key x.key) = [] := by
    refine List.filter_eq_nil_iff.2 fun m hm => ?_
    have := h2 m hm
    simp [inK, inB]; omega
  rw [e1, e2]
  simp [inK, inB]
theorem drop_gone {P : List R} {k : Int} (h : setB P = true) (ht : thereB P k = true) :
    dropA P k = dropL P k ∧ dropE P k = 0 ∧ setB (dropL P k) = true ∧ thereB (dropL P k) k = false := by
  have hr := rise_of h
  have e : dropL P k = P.take (place P k) ++ P.drop (place P k + 1) := by unfold dropL; rw [if_pos ht]
  have hsub : (dropL P k).Sublist P := by
    rw [e]
    conv => rhs; rw [← List.take_append_drop (place P k) P]
    exact (List.Sublist.refl _).append (List.drop_sublist_drop_left P (Nat.le_succ _))
  have hset : setB (dropL P k) = true := set_of (Nat.le_trans hsub.length_le (setB_len h)) (fun m hm => ok_of h m (hsub.subset hm)) (hr.sublist hsub)
  refine ⟨by unfold dropA; rw [if_pos (code_zero h)], by unfold dropE dropC; rw [if_pos (code_zero h), if_pos ht], hset, ?_⟩
  cases ht' : thereB (dropL P k) k
  · rfl
  · exfalso
    unfold thereB at ht'
    rw [Bool.and_eq_true] at ht'
    have hp := of_decide_eq_true ht'.1
    have hk := of_decide_eq_true ht'.2
    rw [getD_get hp] at hk
    have hm := List.getElem_mem hp
    generalize (dropL P k)[place (dropL P k) k] = m at hm hk
    rw [e, List.mem_append] at hm
    rcases hm with h1 | h1
    · have := lt_place h1; omega
    · have := gt_place hr ht h1; omega
theorem gone_none {D : List R} {k : Int} (h : setB D = true) (ht : thereB D k = false) : dropE D k = 5 ∧ findA D k = R.zero := by
  refine ⟨?_, ?_⟩
  · unfold dropE dropC; rw [if_pos (code_zero h), if_neg (by rw [ht]; simp)]
  · unfold findA; rw [if_neg (fun hh => by rw [ht] at hh; cases hh.2)]
theorem keys_leng {P : List R} (h : setB P = true) : (keysA P).length = P.length := by unfold keysA; rw [if_pos (code_zero h)]; simp
end St
end Go.Proofs.Ytilphgfjgeoiaaa
