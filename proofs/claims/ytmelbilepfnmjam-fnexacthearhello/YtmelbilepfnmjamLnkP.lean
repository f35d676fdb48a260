/-
  Mathematics of links that are put: what stands behind a put, in order; what addresses in order give of it.
-/
import Derived.Test.YtmelbilepfnmjamLnkK
namespace Go.Proofs.Ytmelbilepfnmjam
set_option linter.unusedVariables false
namespace Ln
open W1 Lk Mp
def ltA (k : Int) (m : R) : Bool := decide (m.ad < k)
def gtA (k : Int) (m : R) : Bool := decide (k < m.ad)
theorem lt_t {k : Int} {m : R} (h : m.ad < k) : ltA k m = true := decide_eq_true h
theorem lt_f {k : Int} {m : R} (h : ¬ m.ad < k) : ¬ ltA k m = true := fun e => h (of_decide_eq_true e)
theorem gt_t {k : Int} {m : R} (h : k < m.ad) : gtA k m = true := decide_eq_true h
theorem gt_f {k : Int} {m : R} (h : ¬ k < m.ad) : ¬ gtA k m = true := fun e => h (of_decide_eq_true e)
def putL (ms : List R) (x : R) : List R := ms.filter (ltA x.ad) ++ x :: ms.filter (gtA x.ad)
def ordL (f : Int → Option R) (n : Nat) : List R := (List.range n).filterMap (fun i : Nat => f ((i : Int) + 1))
abbrev Up (L : List R) : Prop := L.Pairwise (fun a b => a.ad < b.ad)
theorem getD_get {ms : List R} {i : Nat} (h : i < ms.length) : ms.getD i R.zero = ms[i] := by rw [List.getD_eq_getElem?_getD, List.getElem?_eq_getElem h]; rfl
theorem up_of {ms : List R} (h : linksB ms = true) : Up ms := by
  rw [Up, List.pairwise_iff_getElem]
  intro i j hi hj hij
  have := Ri.rises h j i hij hj
  rw [getD_get hi, getD_get hj] at this; exact this
theorem ads_of {ms : List R} (h : linksB ms = true) : ∀ m ∈ ms, 1 ≤ m.ad ∧ m.ad ≤ 8 := by
  intro m hm
  obtain ⟨i, hi, rfl⟩ := List.getElem_of_mem hm
  have := ok_ad (Ri.all_ok h hi)
  rw [getD_get hi] at this; exact this
theorem isAd_iff {k : Int} {m : R} : isAd k m = true ↔ m.ad = k := by unfold isAd; exact beq_iff_eq
theorem filter_none {p : R → Bool} : ∀ {L : List R}, (∀ m ∈ L, p m = false) → L.filter p = []
  | [], _ => rfl
  | m :: t, h => by rw [List.filter_cons_of_neg (by rw [h m (List.mem_cons_self ..)]; simp), filter_none (fun x hx => h x (List.mem_cons_of_mem _ hx))]
theorem le_succ (n : Int) : ∀ (L : List R), Up L → L.filter (fun m => decide (m.ad ≤ n + 1)) = L.filter (fun m => decide (m.ad ≤ n)) ++ (L.find? (isAd (n + 1))).toList
  | [], _ => rfl
  | m :: t, h => by
    obtain ⟨h1, h2⟩ := List.pairwise_cons.1 h
    rcases Int.lt_trichotomy m.ad (n + 1) with hk | hk | hk
    · rw [List.filter_cons_of_pos (by simp; omega), List.filter_cons_of_pos (by simp; omega), List.find?_cons_of_neg (by rw [isAd_iff]; omega), le_succ n t h2]; rfl
    · rw [List.filter_cons_of_pos (by simp; omega), List.filter_cons_of_neg (by simp; omega), List.find?_cons_of_pos (by rw [isAd_iff]; exact hk), filter_none (fun x hx => by have := h1 x hx; simp; omega), filter_none (fun x hx => by have := h1 x hx; simp; omega)]; rfl
    · rw [List.filter_cons_of_neg (by simp; omega), List.filter_cons_of_neg (by simp; omega), List.find?_cons_of_neg (by rw [isAd_iff]; omega), le_succ n t h2]
theorem ord_find (L : List R) (h : Up L) (h1 : ∀ m ∈ L, 1 ≤ m.ad) : ∀ n : Nat, ordL (fun k => L.find? (isAd k)) n = L.filter (fun m => decide (m.ad ≤ (n : Int)))
  | 0 => by rw [filter_none (fun m hm => by have := h1 m hm; simp; omega)]; rfl
  | n + 1 => by
    have ih := ord_find L h h1 n
    unfold ordL at *
    rw [List.range_succ, List.filterMap_append, ih, show (((n + 1 : Nat) : Int)) = (n : Int) + 1 by omega, le_succ (n : Int) L h]
    congr 1
theorem find_no_of {L : List R} {k : Int} (h : ∀ m ∈ L, m.ad ≠ k) : L.find? (isAd k) = none := by
  rw [List.find?_eq_none]; intro m hm; rw [isAd_iff]; exact h m hm
theorem find_put (ms : List R) (x : R) : (fun k => (putL ms x).find? (isAd k)) = upd (fun k => ms.find? (isAd k)) x.ad x := by
  funext k
  unfold putL upd
  rw [List.find?_append]
  rcases Int.lt_trichotomy k x.ad with hk | hk | hk
  · rw [if_neg (by omega), Maps.find_filter_keep (f := isAd k) (g := ltA x.ad) (fun m hm => by rw [isAd_iff] at hm; unfold ltA; simp; omega) ms]
    rw [List.find?_cons_of_neg (by rw [isAd_iff]; omega), find_no_of (L := ms.filter (gtA x.ad)) (fun m hm => by have := (List.mem_filter.1 hm).2; unfold gtA at this; simp at this; omega)]
    simp
  · rw [if_pos hk, find_no_of (L := ms.filter (ltA x.ad)) (fun m hm => by have := (List.mem_filter.1 hm).2; unfold ltA at this; simp at this; omega), List.find?_cons_of_pos (by rw [isAd_iff]; omega)]
    rfl
  · rw [if_neg (by omega), find_no_of (L := ms.filter (ltA x.ad)) (fun m hm => by have := (List.mem_filter.1 hm).2; unfold ltA at this; simp at this; omega), List.find?_cons_of_neg (by rw [isAd_iff]; omega)]
    rw [Maps.find_filter_keep (f := isAd k) (g := gtA x.ad) (fun m hm => by rw [isAd_iff] at hm; unfold gtA; simp; omega) ms]
    rfl
theorem up_put {ms : List R} (h : Up ms) (x : R) : Up (putL ms x) := by
  unfold putL
  rw [Up, List.pairwise_append]
  refine ⟨h.filter _, List.pairwise_cons.2 ⟨fun m hm => ?_, h.filter _⟩, fun a ha b hb => ?_⟩
  · have := (List.mem_filter.1 hm).2; unfold gtA at this; simpa using this
  · have h1 := (List.mem_filter.1 ha).2
    unfold ltA at h1; simp at h1
    rcases List.mem_cons.1 hb with rfl | hb
    · exact h1
    · have h2 := (List.mem_filter.1 hb).2; unfold gtA at h2; simp at h2; omega
theorem mem_put {ms : List R} {x m : R} (h : m ∈ putL ms x) : m = x ∨ m ∈ ms := by
  unfold putL at h
  rcases List.mem_append.1 h with h | h
  · exact .inr (List.mem_filter.1 h).1
  · rcases List.mem_cons.1 h with rfl | h
    · exact .inl rfl
    · exact .inr (List.mem_filter.1 h).1
/-- Addresses in order give just what stands behind a put. -/
theorem ord_put {ms : List R} (h : linksB ms = true) (x : R) (h1 : 1 ≤ x.ad) (h8 : x.ad ≤ 8) : ordL (upd (fun k => ms.find? (isAd k)) x.ad x) 8 = putL ms x := by
  have hr : ∀ m ∈ putL ms x, 1 ≤ m.ad ∧ m.ad ≤ 8 := by
    intro m hm
    rcases mem_put hm with rfl | hm
    · exact ⟨h1, h8⟩
    · exact ads_of h m hm
  rw [← find_put, ord_find _ (up_put (up_of h) x) (fun m hm => (hr m hm).1)]
  exact List.filter_eq_self.2 (fun m hm => by have := (hr m hm).2; simp; omega)
theorem ordL_succ (f : Int → Option R) (n : Nat) : ordL f (n + 1) = ordL f n ++ (f ((n : Int) + 1)).toList := by
  unfold ordL
  rw [List.range_succ, List.filterMap_append]
  congr 1
theorem ordL_len (f : Int → Option R) (n : Nat) : (ordL f n).length ≤ n := by
  unfold ordL
  have := List.length_filterMap_le (fun i : Nat => f ((i : Int) + 1)) (List.range n)
  rw [List.length_range] at this; exact this
theorem putL_len (ms : List R) (x : R) : (putL ms x).length ≤ ms.length + 1 := by
  unfold putL
  have h : ∀ L : List R, (L.filter (ltA x.ad)).length + (L.filter (gtA x.ad)).length ≤ L.length := by
    intro L
    induction L with
    | nil => simp
    | cons m t ih =>
      rcases Int.lt_trichotomy m.ad x.ad with hk | hk | hk
      · rw [List.filter_cons_of_pos (lt_t (by omega)), List.filter_cons_of_neg (gt_f (by omega))]; simp; omega
      · rw [List.filter_cons_of_neg (lt_f (by omega)), List.filter_cons_of_neg (gt_f (by omega))]; simp; omega
      · rw [List.filter_cons_of_neg (lt_f (by omega)), List.filter_cons_of_pos (gt_t (by omega))]; simp; omega
  have := h ms
  simp only [List.length_append, List.length_cons]; omega
/-- A put, link by link: whether it has been put, and what there is. -/
def putD (ms : List R) (x : R) (j : Nat) : Bool := (ms.take j).any (fun m => decide (x.ad ≤ m.ad))
def putN (ms : List R) (x : R) (j : Nat) : List R := (ms.take j).filter (ltA x.ad) ++ (if putD ms x j = true then x :: (ms.take j).filter (gtA x.ad) else [])
theorem take_one {ms : List R} {j : Nat} (h : j < ms.length) : ms.take (j + 1) = ms.take j ++ [ms.getD j R.zero] := by
  rw [List.take_add_one, List.getElem?_eq_getElem h, List.getD_eq_getElem?_getD, List.getElem?_eq_getElem h]; rfl
theorem putD_succ {ms : List R} {x : R} {j : Nat} (h : j < ms.length) : putD ms x (j + 1) = (putD ms x j || decide (x.ad ≤ (ms.getD j R.zero).ad)) := by
  unfold putD; rw [take_one h, List.any_append]; simp
theorem putD_no {ms : List R} {x : R} {j : Nat} (h : putD ms x j = false) : ∀ m ∈ ms.take j, m.ad < x.ad := by
  unfold putD at h
  rw [List.any_eq_false] at h
  intro m hm; have := h m hm; simp at this; omega
theorem up_before {ms : List R} (h : Up ms) {j : Nat} (hj : j < ms.length) : ∀ m ∈ ms.take j, m.ad < (ms.getD j R.zero).ad := by
  intro m hm
  obtain ⟨i, hi, rfl⟩ := List.getElem_of_mem hm
  have hij : i < j ∧ i < ms.length := by simp at hi; omega
  rw [List.getElem_take, getD_get hj]
  exact (List.pairwise_iff_getElem.1 h) i j hij.2 hj hij.1
theorem putD_low {ms : List R} (h : Up ms) {x : R} {j : Nat} (hj : j < ms.length) (hx : (ms.getD j R.zero).ad ≤ x.ad) : putD ms x j = false := by
  unfold putD; rw [List.any_eq_false]
  intro m hm; have := up_before h hj m hm; rw [decide_eq_false (by omega)]; simp
theorem gt_none {ms : List R} {x : R} {j : Nat} (h : putD ms x j = false) : (ms.take j).filter (gtA x.ad) = [] := filter_none (fun m hm => by have := putD_no h m hm; unfold gtA; simp; omega)
theorem putN_no {ms : List R} {x : R} {j : Nat} (h : putD ms x j = false) : putN ms x j = (ms.take j).filter (ltA x.ad) := by unfold putN; rw [if_neg (by simp [h])]; simp
theorem putN_yes {ms : List R} {x : R} {j : Nat} (h : putD ms x j = true) : putN ms x j = (ms.take j).filter (ltA x.ad) ++ x :: (ms.take j).filter (gtA x.ad) := by unfold putN; rw [if_pos h]
theorem put_lt {ms : List R} (hu : Up ms) {x : R} {j : Nat} (hj : j < ms.length) (hk : (ms.getD j R.zero).ad < x.ad) : putD ms x j = false ∧ putD ms x (j + 1) = false ∧ putN ms x (j + 1) = putN ms x j ++ [ms.getD j R.zero] := by
  have h0 := putD_low hu hj (x := x) (by omega)
  have h1 : putD ms x (j + 1) = false := by rw [putD_succ hj, h0, decide_eq_false (by omega)]; rfl
  refine ⟨h0, h1, ?_⟩
  rw [putN_no h1, putN_no h0, take_one hj, List.filter_append, List.filter_cons_of_pos (lt_t (by omega))]; rfl
theorem put_eq {ms : List R} (hu : Up ms) {x : R} {j : Nat} (hj : j < ms.length) (hk : (ms.getD j R.zero).ad = x.ad) : putD ms x j = false ∧ putD ms x (j + 1) = true ∧ putN ms x (j + 1) = putN ms x j ++ [x] := by
  have h0 := putD_low hu hj (x := x) (by omega)
  have h1 : putD ms x (j + 1) = true := by rw [putD_succ hj, h0, decide_eq_true (by omega)]; rfl
  refine ⟨h0, h1, ?_⟩
  rw [putN_yes h1, putN_no h0, take_one hj, List.filter_append, List.filter_append, gt_none h0, List.filter_cons_of_neg (lt_f (by omega)), List.filter_cons_of_neg (gt_f (by omega))]; simp
theorem put_gt {ms : List R} {x : R} {j : Nat} (hj : j < ms.length) (hk : x.ad < (ms.getD j R.zero).ad) (h0 : putD ms x j = false) : putD ms x (j + 1) = true ∧ putN ms x (j + 1) = putN ms x j ++ [x] ++ [ms.getD j R.zero] := by
  have h1 : putD ms x (j + 1) = true := by rw [putD_succ hj, h0, decide_eq_true (by omega)]; rfl
  refine ⟨h1, ?_⟩
  rw [putN_yes h1, putN_no h0, take_one hj, List.filter_append, List.filter_append, gt_none h0, List.filter_cons_of_neg (lt_f (by omega)), List.filter_cons_of_pos (gt_t (by omega))]; simp
theorem put_on {ms : List R} {x : R} {j : Nat} (hj : j < ms.length) (hk : x.ad < (ms.getD j R.zero).ad) (h0 : putD ms x j = true) : putD ms x (j + 1) = true ∧ putN ms x (j + 1) = putN ms x j ++ [ms.getD j R.zero] := by
  have h1 : putD ms x (j + 1) = true := by rw [putD_succ hj, h0]; rfl
  refine ⟨h1, ?_⟩
  rw [putN_yes h1, putN_yes h0, take_one hj, List.filter_append, List.filter_append, List.filter_cons_of_neg (lt_f (by omega)), List.filter_cons_of_pos (gt_t (by omega))]; simp
theorem put_all {ms : List R} {x : R} (h : putD ms x ms.length = true) : putN ms x ms.length = putL ms x := by rw [putN_yes h, List.take_length]; rfl
theorem put_end {ms : List R} {x : R} (h : putD ms x ms.length = false) : putN ms x ms.length ++ [x] = putL ms x := by
  have := gt_none h
  rw [putN_no h]
  rw [List.take_length] at this ⊢
  unfold putL; rw [this]
theorem putN_len (ms : List R) (x : R) (j : Nat) : (putN ms x j).length ≤ j + 1 := by
  have := putL_len (ms.take j) x
  have h2 := List.length_take_le j ms
  unfold putN putL at *
  split
  · omega
  · simp at this ⊢; omega
end Ln
end Go.Proofs.Ytmelbilepfnmjam
