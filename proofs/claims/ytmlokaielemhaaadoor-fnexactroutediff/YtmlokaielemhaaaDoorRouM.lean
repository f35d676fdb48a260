/-
  Mathematics of lists of routes: which are right, where an address stands. (written by mkroum.py)
-/
import Derived.Test.YtmlokaielemhaaaDoorRecRoute
import Derived.Test.YtmlokaielemhaaaDoorRise
namespace Go.Proofs.YtmlokaielemhaaaDoor
set_option linter.unusedVariables false
set_option linter.unusedSimpArgs false
namespace Pq
variable {α : Type}
/-- The first place at which something holds, or the list's length. -/
def place (p : α → Bool) (ms : List α) : Nat := (ms.takeWhile fun m => !p m).length
theorem place_of (z : α) (p : α → Bool) : ∀ (ms : List α) (j : Nat), j ≤ ms.length → (∀ i, i < j → p (ms.getD i z) = false) → (j < ms.length → p (ms.getD j z) = true) → place p ms = j
  | [], j, hj, _, _ => by simp at hj; subst hj; rfl
  | m :: t, 0, _, _, h2 => by
    have h := h2 (by simp)
    simp at h
    unfold place
    rw [List.takeWhile_cons_of_neg (by simp [h])]; rfl
  | m :: t, j + 1, hj, h1, h2 => by
    have h := h1 0 (by omega)
    simp at h
    have ih := place_of z p t j (by simpa using hj) (fun i hi => by have := h1 (i + 1) (by omega); simpa using this) (fun hl => by have := h2 (by simp; omega); simpa using this)
    unfold place at *
    rw [List.takeWhile_cons_of_pos (by simp [h]), List.length_cons, ih]
theorem place_le (p : α → Bool) (ms : List α) : place p ms ≤ ms.length := (List.takeWhile_sublist (p := fun m => !p m) (l := ms)).length_le
theorem place_cons_yes {p : α → Bool} {m : α} {t : List α} (h : p m = true) : place p (m :: t) = 0 := by unfold place; rw [List.takeWhile_cons_of_neg (by simp [h])]; rfl
theorem place_cons_no {p : α → Bool} {m : α} {t : List α} (h : p m = false) : place p (m :: t) = place p t + 1 := by unfold place; rw [List.takeWhile_cons_of_pos (by simp [h]), List.length_cons]
end Pq
namespace Rw
open W1 Ro
/-- Whether a route is right; whether routes are, the first j of them. -/
def okT (r : R) : Bool := inB r.ds 1 8 && (inB r.nx 1 8 && (inB r.co 1 1099511627776 && inB r.hp 1 8))
abbrev allT (ss : List R) (j : Nat) : Bool := Ri.all R.zero okT R.ds ss j
def rouB (ss : List R) : Bool := allT ss ss.length
def isT (a : Int) (s : R) : Bool := s.ds == a
def hasT (ss : List R) (a : Int) : Bool := (ss.find? (isT a)).isSome
theorem ok_ad {s : R} (h : okT s = true) : 1 ≤ s.ds ∧ s.ds ≤ 8 := by unfold okT inB at h; simp at h; exact h.1
theorem ok_nx {s : R} (h : okT s = true) : 1 ≤ s.nx ∧ s.nx ≤ 8 := by unfold okT inB at h; simp at h; exact h.2.1
theorem ok_co {s : R} (h : okT s = true) : 1 ≤ s.co ∧ s.co ≤ 1099511627776 := by unfold okT inB at h; simp at h; exact h.2.2.1
theorem ok_hp {s : R} (h : okT s = true) : 1 ≤ s.hp ∧ s.hp ≤ 8 := by unfold okT inB at h; simp at h; exact h.2.2.2
theorem rou_len {ss : List R} (h : rouB ss = true) : ss.length ≤ 8 := by
  have := Ri.all_long (lo := 1) (hi := 8) (fun m hm => ok_ad hm) h; omega
theorem isT_iff {a : Int} {s : R} : isT a s = true ↔ s.ds = a := by unfold isT; simp
theorem has_iff {ss : List R} {a : Int} : hasT ss a = true ↔ ∃ s ∈ ss, s.ds = a := by
  unfold hasT
  rw [List.find?_isSome]
  simp only [isT_iff]
theorem has_not {ss : List R} {a : Int} (h : hasT ss a = false) : ∀ s ∈ ss, s.ds ≠ a := fun s hs e => by rw [has_iff.2 ⟨s, hs, e⟩] at h; cases h
/-- Addresses that rise. -/
abbrev UpT (ss : List R) : Prop := ss.Pairwise (fun a b => a.ds < b.ds)
theorem getD_get {ss : List R} {i : Nat} (h : i < ss.length) : ss.getD i R.zero = ss[i] := by rw [List.getD_eq_getElem?_getD, List.getElem?_eq_getElem h]; rfl
theorem up_rou {ss : List R} (h : rouB ss = true) : UpT ss := by
  rw [UpT, List.pairwise_iff_getElem]
  intro i j hi hj hij
  have := Ri.rises h j i hij hj
  rw [getD_get hi, getD_get hj] at this
  exact this
theorem rou_ok {ss : List R} (h : rouB ss = true) : ∀ s ∈ ss, okT s = true := by
  intro s hs
  obtain ⟨i, hi, rfl⟩ := List.getElem_of_mem hs
  have := Ri.all_ok h hi
  rw [getD_get hi] at this; exact this
theorem rou_of {ss : List R} (h : UpT ss) (ho : ∀ s ∈ ss, okT s = true) : rouB ss = true := by
  have key : ∀ j, j ≤ ss.length → allT ss j = true := by
    intro j
    induction j with
    | zero => intro _; exact Ri.all_zero
    | succ j ih =>
      intro hj
      have hok : okT (ss.getD j R.zero) = true := ho _ (by rw [getD_get (by omega)]; exact List.getElem_mem _)
      refine Ri.all_succ (ih (by omega)) ?_
      cases j with
      | zero => exact Ri.step_zero hok
      | succ j =>
        refine Ri.step_lt hok ?_
        rw [getD_get (by omega), getD_get (by omega)]
        exact (List.pairwise_iff_getElem.1 h) j (j + 1) (by omega) (by omega) (by omega)
  exact key _ (Nat.le_refl _)
/-- Where an address stands, or would; whether it is there. -/
def atT (a : Int) (s : R) : Bool := decide (a ≤ s.ds)
def placeT (ss : List R) (a : Int) : Nat := Pq.place (atT a) ss
def thereT (ss : List R) (a : Int) : Bool := decide (placeT ss a < ss.length) && decide ((ss.getD (placeT ss a) R.zero).ds = a)
theorem place_le (ss : List R) (a : Int) : placeT ss a ≤ ss.length := Pq.place_le _ _
theorem place_lt {s : R} {t : List R} {a : Int} (h : s.ds < a) : placeT (s :: t) a = placeT t a + 1 := Pq.place_cons_no (by unfold atT; exact decide_eq_false (by omega))
theorem place_ge {s : R} {t : List R} {a : Int} (h : a ≤ s.ds) : placeT (s :: t) a = 0 := Pq.place_cons_yes (by unfold atT; exact decide_eq_true h)
theorem there_lt {s : R} {t : List R} {a : Int} (h : s.ds < a) : thereT (s :: t) a = thereT t a := by
  unfold thereT; rw [place_lt h]; simp
theorem there_ge {s : R} {t : List R} {a : Int} (h : a ≤ s.ds) : thereT (s :: t) a = decide (s.ds = a) := by
  unfold thereT; rw [place_ge h]; simp
theorem find_there : ∀ {ss : List R}, UpT ss → ∀ a, ss.find? (isT a) = if thereT ss a = true then some (ss.getD (placeT ss a) R.zero) else none
  | [], _, a => rfl
  | s :: t, h, a => by
    obtain ⟨h1, h2⟩ := List.pairwise_cons.1 h
    rcases Int.lt_trichotomy s.ds a with hk | hk | hk
    · rw [List.find?_cons_of_neg (by rw [isT_iff]; omega), there_lt hk, place_lt hk, find_there h2 a]; simp
    · rw [List.find?_cons_of_pos (by rw [isT_iff]; exact hk), there_ge (by omega), place_ge (by omega), decide_eq_true hk]; simp
    · rw [there_ge (by omega), decide_eq_false (by omega)]
      simp only [Bool.false_eq_true, if_false]
      rw [List.find?_eq_none]
      intro x hx
      rw [isT_iff]
      rcases List.mem_cons.1 hx with rfl | hx
      · omega
      · have := h1 x hx; omega
theorem has_there {ss : List R} (h : UpT ss) (a : Int) : hasT ss a = thereT ss a := by
  unfold hasT; rw [find_there h a]; cases thereT ss a <;> rfl
/-- The source of an address; what SourceOf answers. -/
def fT (ss : List R) (k : Int) : R := (ss.find? (isT k)).getD R.zero
theorem fT_there {ss : List R} (h : UpT ss) {a : Int} (ht : thereT ss a = true) : fT ss a = ss.getD (placeT ss a) R.zero := by
  unfold fT; rw [find_there h a, if_pos ht]; rfl
theorem fT_mem {ss : List R} {a : Int} (h : hasT ss a = true) : fT ss a ∈ ss ∧ (fT ss a).ds = a := by
  unfold hasT at h
  unfold fT
  cases e : ss.find? (isT a) with
  | none => rw [e] at h; cases h
  | some s => exact ⟨List.mem_of_find?_eq_some e, isT_iff.1 (List.find?_some e)⟩
theorem fT_none {ss : List R} {a : Int} (h : hasT ss a = false) : fT ss a = R.zero := by
  unfold hasT at h
  unfold fT
  cases e : ss.find? (isT a) with
  | none => rfl
  | some s => rw [e] at h; cases h
theorem up_uniq {ss : List R} (h : UpT ss) {a b : R} (ha : a ∈ ss) (hb : b ∈ ss) (e : a.ds = b.ds) : a = b := by
  obtain ⟨i, hi, rfl⟩ := List.getElem_of_mem ha
  obtain ⟨j, hj, rfl⟩ := List.getElem_of_mem hb
  rcases Nat.lt_trichotomy i j with hh | hh | hh
  · have := (List.pairwise_iff_getElem.1 h) i j hi hj hh; omega
  · subst hh; rfl
  · have := (List.pairwise_iff_getElem.1 h) j i hj hi hh; omega
/-- The code of a list, of two lists; what RouteTo answers. -/
def codeR (l : List R) : Int := if 4096 < (l.length : Int) then 2 else if rouB l = true then 0 else 1
def codeR2 (l k : List R) : Int := if 4096 < (l.length : Int) ∨ 4096 < (k.length : Int) then 2 else if rouB l = true ∧ rouB k = true then 0 else 1
def rtA (l : List R) (k : Int) : R := if codeR l = 0 then fT l k else R.zero
def rtE (l : List R) (k : Int) : Int := if codeR l = 0 then (if hasT l k = true then 0 else 5) else codeR l
theorem code_long {l : List R} (h : 4096 < (l.length : Int)) : codeR l = 2 := by unfold codeR; rw [if_pos h]
theorem code_bad {l : List R} (h : ¬ 4096 < (l.length : Int)) (hb : rouB l = false) : codeR l = 1 := by unfold codeR; rw [if_neg h, if_neg (by rw [hb]; simp)]
theorem code_zero {l : List R} (hb : rouB l = true) : codeR l = 0 := by have := rou_len hb; unfold codeR; rw [if_neg (by omega), if_pos hb]
theorem code_ok {l : List R} (h : codeR l = 0) : rouB l = true := by
  unfold codeR at h; split at h
  · omega
  · split at h
    · assumption
    · omega
theorem code_nil : codeR [] = 0 := rfl
theorem code2_nil (l : List R) : codeR2 l [] = codeR l := by
  have h : rouB ([] : List R) = true := rfl
  unfold codeR2 codeR; simp [h]
theorem code2_long {l k : List R} (h : 4096 < (l.length : Int) ∨ 4096 < (k.length : Int)) : codeR2 l k = 2 := by unfold codeR2; rw [if_pos h]
theorem code2_bad {l k : List R} (h : ¬ 4096 < (l.length : Int)) (h' : ¬ 4096 < (k.length : Int)) (hb : rouB l = false ∨ rouB k = false) : codeR2 l k = 1 := by
  unfold codeR2; rw [if_neg (by omega), if_neg (by rcases hb with e | e <;> rw [e] <;> simp)]
theorem code2_zero {l k : List R} (hb : rouB l = true) (hc : rouB k = true) : codeR2 l k = 0 := by
  have := rou_len hb; have := rou_len hc; unfold codeR2; rw [if_neg (by omega), if_pos ⟨hb, hc⟩]
end Rw
end Go.Proofs.YtmlokaielemhaaaDoor
