/-
  What sets are, over lists: whether one is right, where a key stands, what the calls answer.
-/
import Derived.Test.YtilphgfjgeoiaaaRecTuple
namespace Go.Proofs.Ytilphgfjgeoiaaa
set_option linter.unusedVariables false
namespace St
open W1 Tu
def okR (m : R) : Bool := inB m.key 0 1000000 && (inB m.til 0 1073741824 && inB m.val 0 1073741824)
def stepB (ms : List R) (i : Nat) : Bool := okR (ms.getD i R.zero) && (decide (i = 0) || decide ((ms.getD (i - 1) R.zero).key < (ms.getD i R.zero).key))
def allB (ms : List R) (j : Nat) : Bool := (List.range j).all (stepB ms)
def setB (ms : List R) : Bool := decide (ms.length ≤ 64) && allB ms ms.length
/-- The code of the faults that are looked for in every call. -/
def codeS (ms : List R) : Int := if 4096 < ms.length then 2 else if setB ms = true then 0 else 1
theorem allB_zero (ms : List R) : allB ms 0 = true := rfl
theorem allB_succ {ms : List R} {j : Nat} (h : allB ms j = true) (hs : stepB ms j = true) : allB ms (j + 1) = true := by
  unfold allB at *; rw [List.range_succ, List.all_append, h]; simp [hs]
theorem allB_no {ms : List R} {j : Nat} (hj : j < ms.length) (hs : stepB ms j = false) : setB ms = false := by
  have : allB ms ms.length = false := by
    unfold allB; rw [List.all_eq_false]; exact ⟨j, List.mem_range.2 hj, by rw [hs]; simp⟩
  unfold setB; rw [this, Bool.and_false]
theorem setB_long {ms : List R} (h : 64 < ms.length) : setB ms = false := by unfold setB; rw [decide_eq_false (by omega)]; rfl
theorem setB_all {ms : List R} (h : ms.length ≤ 64) (ha : allB ms ms.length = true) : setB ms = true := by unfold setB; rw [decide_eq_true h, ha]; rfl
theorem step_bad {ms : List R} {j : Nat} (h : okR (ms.getD j R.zero) = false) : stepB ms j = false := by unfold stepB; rw [h]; rfl
theorem step_zero {ms : List R} (h : okR (ms.getD 0 R.zero) = true) : stepB ms 0 = true := by unfold stepB; rw [h]; rfl
theorem step_lt {ms : List R} {j : Nat} (h : okR (ms.getD (j + 1) R.zero) = true) (hk : (ms.getD j R.zero).key < (ms.getD (j + 1) R.zero).key) : stepB ms (j + 1) = true := by
  unfold stepB; rw [h, Nat.add_sub_cancel, decide_eq_true hk]; simp
theorem step_ge {ms : List R} {j : Nat} (hk : (ms.getD (j + 1) R.zero).key ≤ (ms.getD j R.zero).key) : stepB ms (j + 1) = false := by
  unfold stepB; rw [Nat.add_sub_cancel, decide_eq_false (by omega : ¬ (j + 1 = 0)), decide_eq_false (by omega)]; simp
theorem setB_len {ms : List R} (h : setB ms = true) : ms.length ≤ 64 := by unfold setB at h; simp at h; exact h.1
theorem setB_step {ms : List R} (h : setB ms = true) {j : Nat} (hj : j < ms.length) : stepB ms j = true := by
  unfold setB allB at h; simp at h; exact h.2 j hj
theorem setB_ok {ms : List R} (h : setB ms = true) {j : Nat} (hj : j < ms.length) : okR (ms.getD j R.zero) = true := by
  have := setB_step h hj; unfold stepB at this; simp at this; simpa using this.1
theorem ok_bounds {m : R} (h : okR m = true) : 0 ≤ m.key ∧ m.key ≤ 1000000 ∧ 0 ≤ m.til ∧ m.til ≤ 1073741824 ∧ 0 ≤ m.val ∧ m.val ≤ 1073741824 := by
  unfold okR inB at h; simp at h; exact ⟨h.1.1, h.1.2, h.2.1.1, h.2.1.2, h.2.2.1, h.2.2.2⟩
theorem rises {ms : List R} (h : setB ms = true) : ∀ j i, i < j → j < ms.length → (ms.getD i R.zero).key < (ms.getD j R.zero).key
  | 0, i, hi, _ => by omega
  | j + 1, i, hi, hj => by
    have hs := setB_step h hj
    unfold stepB at hs
    rw [Nat.add_sub_cancel, decide_eq_false (by omega : ¬ (j + 1 = 0))] at hs
    simp at hs
    have hk : (ms.getD j R.zero).key < (ms.getD (j + 1) R.zero).key := by simpa using hs.2
    by_cases e : i = j
    · subst e; exact hk
    · have := rises h j i (by omega) (by omega); omega
/-- The first place at which something holds, or the list's length. -/
def placeP (p : R → Bool) (ms : List R) : Nat := (ms.takeWhile fun m => !p m).length
theorem placeP_of (p : R → Bool) : ∀ (ms : List R) (j : Nat), j ≤ ms.length → (∀ i, i < j → p (ms.getD i R.zero) = false) → (j < ms.length → p (ms.getD j R.zero) = true) → placeP p ms = j
  | [], j, hj, _, _ => by simp at hj; subst hj; rfl
  | m :: t, 0, _, _, h2 => by
    have h := h2 (by simp)
    simp at h
    unfold placeP
    rw [List.takeWhile_cons_of_neg (by simp [h])]; rfl
  | m :: t, j + 1, hj, h1, h2 => by
    have h := h1 0 (by omega)
    simp at h
    have ih := placeP_of p t j (by simpa using hj) (fun i hi => by have := h1 (i + 1) (by omega); simpa using this) (fun hl => by have := h2 (by simp; omega); simpa using this)
    unfold placeP at *
    rw [List.takeWhile_cons_of_pos (by simp [h]), List.length_cons, ih]
theorem placeP_le (p : R → Bool) (ms : List R) : placeP p ms ≤ ms.length := by
  unfold placeP
  have := (List.takeWhile_sublist (p := fun m => !p m) (l := ms)).length_le
  exact this
theorem placeP_no (p : R → Bool) : ∀ (ms : List R) (i : Nat), i < placeP p ms → p (ms.getD i R.zero) = false
  | [], i, h => by simp [placeP] at h
  | m :: t, i, h => by
    unfold placeP at h
    by_cases hm : p m = true
    · rw [List.takeWhile_cons_of_neg (by simp [hm])] at h; simp at h
    · have hm' : p m = false := by simpa using hm
      rw [List.takeWhile_cons_of_pos (by simp [hm']), List.length_cons] at h
      cases i with
      | zero => simpa using hm'
      | succ i => have := placeP_no p t i (by unfold placeP; omega); simpa using this
theorem placeP_yes (p : R → Bool) : ∀ (ms : List R), placeP p ms < ms.length → p (ms.getD (placeP p ms) R.zero) = true
  | [], h => by simp at h
  | m :: t, h => by
    by_cases hm : p m = true
    · have e : placeP p (m :: t) = 0 := by unfold placeP; rw [List.takeWhile_cons_of_neg (by simp [hm])]; rfl
      rw [e]; simpa using hm
    · have hm' : p m = false := by simpa using hm
      have e : placeP p (m :: t) = placeP p t + 1 := by unfold placeP; rw [List.takeWhile_cons_of_pos (by simp [hm']), List.length_cons]
      rw [e] at h ⊢
      have := placeP_yes p t (by simpa using h)
      simpa using this
def atKey (k : Int) (m : R) : Bool := decide (k ≤ m.key)
def overKey (k : Int) (m : R) : Bool := decide (k < m.key)
/-- Where a key stands, or would; whether it is there. -/
def place (ms : List R) (k : Int) : Nat := placeP (atKey k) ms
def thereB (ms : List R) (k : Int) : Bool := decide (place ms k < ms.length) && decide ((ms.getD (place ms k) R.zero).key = k)
def putL (ms : List R) (x : R) : List R :=
  if thereB ms x.key = true then ms.take (place ms x.key) ++ [x] ++ ms.drop (place ms x.key + 1)
  else if ms.length = 64 then ms else ms.take (place ms x.key) ++ [x] ++ ms.drop (place ms x.key)
def putC (ms : List R) (x : R) : Int := if thereB ms x.key = true then 0 else if ms.length = 64 then 7 else 0
def dropL (ms : List R) (k : Int) : List R := if thereB ms k = true then ms.take (place ms k) ++ ms.drop (place ms k + 1) else ms
def dropC (ms : List R) (k : Int) : Int := if thereB ms k = true then 0 else 5
/-- What SetPut, SetDrop answer. -/
def putA (ms : List R) (x : R) : List R := if codeS ms = 0 ∧ okR x = true then putL ms x else []
def putE (ms : List R) (x : R) : Int := if codeS ms = 0 then (if okR x = true then putC ms x else 1) else codeS ms
def dropA (ms : List R) (k : Int) : List R := if codeS ms = 0 then dropL ms k else []
def dropE (ms : List R) (k : Int) : Int := if codeS ms = 0 then dropC ms k else codeS ms
def findA (ms : List R) (k : Int) : R := if codeS ms = 0 ∧ thereB ms k = true then ms.getD (place ms k) R.zero else R.zero
def keepT (now : Int) (m : R) : Bool := decide (now < m.til)
def expireA (ms : List R) (now : Int) : List R := if codeS ms = 0 then ms.filter (keepT now) else []
def inK (low high : Int) (m : R) : Bool := inB m.key low high
def rangeA (ms : List R) (low high : Int) : List R := if codeS ms = 0 then ms.filter (inK low high) else []
def keysA (ms : List R) : List Int := if codeS ms = 0 then ms.map (·.key) else []
def nextN (ms : List R) : Int := match ms with | [] => 0 | m :: t => t.foldl (fun n x => min n x.til) m.til
def nextA (ms : List R) : Int := if codeS ms = 0 then nextN ms else 0
def nextE (ms : List R) : Int := if codeS ms = 0 then (if ms.length = 0 then 5 else 0) else codeS ms
theorem code_zero {ms : List R} (h : setB ms = true) : codeS ms = 0 := by
  have := setB_len h
  unfold codeS; rw [if_neg (by omega), if_pos h]
theorem code_set {ms : List R} (h : codeS ms = 0) : setB ms = true := by
  unfold codeS at h
  split at h
  · cases h
  · split at h
    · assumption
    · cases h
theorem code_long {ms : List R} (h : 4096 < ms.length) : codeS ms = 2 := by unfold codeS; rw [if_pos h]
theorem code_bad {ms : List R} (h : ¬ 4096 < ms.length) (hs : setB ms = false) : codeS ms = 1 := by unfold codeS; rw [if_neg h, if_neg (by simp [hs])]
theorem expire_len (ms : List R) (now : Int) : (expireA ms now).length ≤ ms.length := by
  unfold expireA; split
  · exact List.length_filter_le _ _
  · exact Nat.zero_le _
theorem range_len (ms : List R) (low high : Int) : (rangeA ms low high).length ≤ ms.length := by
  unfold rangeA; split
  · exact List.length_filter_le _ _
  · exact Nat.zero_le _
theorem drop_len (ms : List R) (k : Int) : (dropA ms k).length ≤ ms.length := by
  unfold dropA dropL; split
  · split
    · rw [List.length_append, List.length_take, List.length_drop]; omega
    · omega
  · exact Nat.zero_le _
theorem put_len (ms : List R) (x : R) : (putA ms x).length ≤ 65 := by
  unfold putA; split
  · rename_i h
    have := setB_len (code_set h.1)
    unfold putL
    split
    · simp only [List.length_append, List.length_take, List.length_drop, List.length_cons, List.length_nil]; omega
    · split
      · omega
      · simp only [List.length_append, List.length_take, List.length_drop, List.length_cons, List.length_nil]; omega
  · exact Nat.zero_le _
theorem filter_part {ms : List R} {p : R → Bool} {f t : Nat} (hft : f ≤ t) (ht : t ≤ ms.length) (h1 : ∀ i, i < f → p (ms.getD i R.zero) = false) (h2 : ∀ i, f ≤ i → i < t → p (ms.getD i R.zero) = true)
    (h3 : ∀ i, t ≤ i → i < ms.length → p (ms.getD i R.zero) = false) : ms.filter p = (ms.drop f).take (t - f) := by
  have hm : ∀ {l : List R} {x : R}, x ∈ l → ∃ i, i < l.length ∧ l.getD i R.zero = x := by
    intro l x hx
    obtain ⟨i, hi, e⟩ := List.getElem_of_mem hx
    exact ⟨i, hi, by rw [List.getD_eq_getElem?_getD, List.getElem?_eq_getElem hi, e]; rfl⟩
  have e : ms = ms.take f ++ ((ms.drop f).take (t - f) ++ ms.drop t) := by
    conv => lhs; rw [← List.take_append_drop f ms]
    congr 1
    conv => lhs; rw [← List.take_append_drop (t - f) (ms.drop f)]
    rw [List.drop_drop, show f + (t - f) = t by omega]
  conv => lhs; rw [e]
  rw [List.filter_append, List.filter_append]
  have a1 : (ms.take f).filter p = [] := by
    rw [List.filter_eq_nil_iff]
    intro x hx
    obtain ⟨i, hi, rfl⟩ := hm hx
    have hi' : i < f := by simp at hi; omega
    rw [show (ms.take f).getD i R.zero = ms.getD i R.zero by rw [List.getD_eq_getElem?_getD, List.getD_eq_getElem?_getD, List.getElem?_take_of_lt hi'], h1 i hi']
    simp
  have a2 : ((ms.drop f).take (t - f)).filter p = (ms.drop f).take (t - f) := by
    rw [List.filter_eq_self]
    intro x hx
    obtain ⟨i, hi, rfl⟩ := hm hx
    have hi' : i < t - f := by simp at hi; omega
    rw [show ((ms.drop f).take (t - f)).getD i R.zero = ms.getD (f + i) R.zero by rw [List.getD_eq_getElem?_getD, List.getD_eq_getElem?_getD, List.getElem?_take_of_lt hi', List.getElem?_drop]]
    exact h2 _ (by omega) (by omega)
  have a3 : (ms.drop t).filter p = [] := by
    rw [List.filter_eq_nil_iff]
    intro x hx
    obtain ⟨i, hi, rfl⟩ := hm hx
    rw [show (ms.drop t).getD i R.zero = ms.getD (t + i) R.zero by rw [List.getD_eq_getElem?_getD, List.getD_eq_getElem?_getD, List.getElem?_drop], h3 _ (by omega) (by simp at hi; omega)]
    simp
  rw [a1, a2, a3, List.nil_append, List.append_nil]
/-- Those with keys from low to high stand together. -/
theorem range_part {ms : List R} (h : setB ms = true) (low high : Int) :
    ms.filter (inK low high) = (ms.drop (min (place ms low) (placeP (overKey high) ms))).take (placeP (overKey high) ms - min (place ms low) (placeP (overKey high) ms)) := by
  have hl := placeP_le (overKey high) ms
  have hl1 := placeP_le (atKey low) ms
  refine filter_part (Nat.min_le_right _ _) hl (fun i hi => ?_) (fun i hi ht => ?_) (fun i hi hn => ?_)
  · have := placeP_no (atKey low) ms i (by unfold place at hi; omega)
    unfold atKey at this; simp at this
    unfold inK inB; rw [decide_eq_false (by simpa using this)]; rfl
  · have h1 := placeP_no (overKey high) ms i ht
    unfold overKey at h1
    have h1' : (ms.getD i R.zero).key ≤ high := by simpa using h1
    have hp : place ms low ≤ i := by omega
    have h2 := placeP_yes (atKey low) ms (by unfold place at hp; omega)
    have h2' : low ≤ (ms.getD (place ms low) R.zero).key := of_decide_eq_true h2
    have h3 : low ≤ (ms.getD i R.zero).key := by
      by_cases e : place ms low = i
      · rw [← e]; exact h2'
      · have := rises h i (place ms low) (by omega) (by omega); omega
    unfold inK inB; rw [decide_eq_true h3, decide_eq_true h1']; rfl
  · have h1 := placeP_yes (overKey high) ms (by omega)
    have h1' : high < (ms.getD (placeP (overKey high) ms) R.zero).key := of_decide_eq_true h1
    have h3 : high < (ms.getD i R.zero).key := by
      by_cases e : placeP (overKey high) ms = i
      · rw [← e]; exact h1'
      · have := rises h i (placeP (overKey high) ms) (by omega) hn; omega
    unfold inK inB; rw [decide_eq_false (by omega : ¬ (ms.getD i R.zero).key ≤ high), Bool.and_false]
end St
end Go.Proofs.Ytilphgfjgeoiaaa
