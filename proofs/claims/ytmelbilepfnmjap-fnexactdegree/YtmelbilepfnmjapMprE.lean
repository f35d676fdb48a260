/-
  Mathematics of relays for floods: who is chosen.
-/
import Derived.Test.YtmelbilepfnmjapMprD
namespace Go.Proofs.Ytmelbilepfnmjap
set_option linter.unusedVariables false
namespace Mr
open W1
/-- Those that are always willing. -/
def alwB (now : Int) (m : Lk.R) : Bool := (Ln.statusV m now == 2) && (m.wl == 7)
def alwV (ls : List Lk.R) (now : Int) (j : Nat) : List Int := ((ls.take j).filter (alwB now)).map (·.ad)
theorem alw_yes {ls : List Lk.R} {now : Int} {j : Nat} (h : j < ls.length) (hs : alwB now (ls.getD j Lk.R.zero) = true) : alwV ls now (j + 1) = alwV ls now j ++ [(ls.getD j Lk.R.zero).ad] := by
  unfold alwV; rw [Tw.ls_take h, List.filter_append, List.filter_cons_of_pos hs, List.map_append]; rfl
theorem alw_no {ls : List Lk.R} {now : Int} {j : Nat} (h : j < ls.length) (hs : alwB now (ls.getD j Lk.R.zero) = false) : alwV ls now (j + 1) = alwV ls now j := by
  unfold alwV; rw [Tw.ls_take h, List.filter_append, List.filter_cons_of_neg (by rw [hs]; simp)]; simp
theorem alw_len (ls : List Lk.R) (now : Int) (j : Nat) : (alwV ls now j).length ≤ j := by
  unfold alwV
  have := List.length_filter_le (alwB now) (ls.take j)
  have := List.length_take_le j ls
  rw [List.length_map]; omega
/-- Those that alone reach one. -/
def oneB (via : Int → List Int) (out : List Int) (z : Int) : Bool := ((via z).length == 1) && !out.contains ((via z).getD 0 0)
def oneS (via : Int → List Int) (out : List Int) (z : Int) : List Int := if oneB via out z = true then out ++ [(via z).getD 0 0] else out
def onesV (via : Int → List Int) (S out : List Int) : List Int := S.foldl (oneS via) out
theorem ones_step {via : Int → List Int} {S out : List Int} {j : Nat} (h : j < S.length) : onesV via (S.take (j + 1)) out = oneS via (onesV via (S.take j) out) (S.getD j 0) := by
  unfold onesV; rw [zs_take h, List.foldl_append]; rfl
theorem ones_len (via : Int → List Int) (S out : List Int) : ∀ j, j ≤ S.length → (onesV via (S.take j) out).length ≤ out.length + j
  | 0, _ => by simp [onesV]
  | j + 1, h => by
    rw [ones_step (by omega)]
    have := ones_len via S out j (by omega)
    unfold oneS; split
    · rw [List.length_append, List.length_singleton]; omega
    · omega
/-- The best of the first links. -/
def pickV (via : Int → List Int) (S L : List Int) (ls : List Lk.R) : Nat → Option Nat
  | 0 => none
  | j + 1 => if (decide (0 < cntV via L (ls.getD j Lk.R.zero).ad) && (match pickV via S L ls j with | none => true | some b => betV via S L (ls.getD j Lk.R.zero) (ls.getD b Lk.R.zero))) = true then some j else pickV via S L ls j
def idxV (o : Option Nat) : Int := match o with | none => -1 | some b => b
theorem pick_first {via : Int → List Int} {S L : List Int} {ls : List Lk.R} {j : Nat} (h : pickV via S L ls j = none) : pickV via S L ls (j + 1) = if decide (0 < cntV via L (ls.getD j Lk.R.zero).ad) = true then some j else none := by
  rw [pickV, h]; simp
theorem pick_next {via : Int → List Int} {S L : List Int} {ls : List Lk.R} {j b : Nat} (h : pickV via S L ls j = some b) : pickV via S L ls (j + 1) = if (decide (0 < cntV via L (ls.getD j Lk.R.zero).ad) && betV via S L (ls.getD j Lk.R.zero) (ls.getD b Lk.R.zero)) = true then some j else some b := by
  rw [pickV, h]
theorem pick_lt {via : Int → List Int} {S L : List Int} {ls : List Lk.R} : ∀ {j b : Nat}, pickV via S L ls j = some b → b < j ∧ 0 < cntV via L (ls.getD b Lk.R.zero).ad
  | 0, b, h => by cases h
  | j + 1, b, h => by
    cases hp : pickV via S L ls j with
    | none =>
      rw [pick_first hp] at h
      by_cases hc : 0 < cntV via L (ls.getD j Lk.R.zero).ad
      · rw [if_pos (by simpa using hc)] at h; cases h; exact ⟨by omega, hc⟩
      · rw [if_neg (by simpa using hc)] at h; cases h
    | some b' =>
      rw [pick_next hp] at h
      split at h
      · rename_i hc
        cases h
        rw [Bool.and_eq_true] at hc
        exact ⟨by omega, by simpa using hc.1⟩
      · cases h
        have := pick_lt hp
        exact ⟨by omega, this.2⟩
theorem pick_none {via : Int → List Int} {S L : List Int} {ls : List Lk.R} : ∀ {j : Nat}, pickV via S L ls j = none → ∀ i, i < j → cntV via L (ls.getD i Lk.R.zero).ad = 0
  | 0, _, i, hi => by omega
  | j + 1, h, i, hi => by
    cases hp : pickV via S L ls j with
    | none =>
      rw [pick_first hp] at h
      by_cases hc : 0 < cntV via L (ls.getD j Lk.R.zero).ad
      · rw [if_pos (by simpa using hc)] at h; cases h
      · by_cases e : i = j
        · subst e; omega
        · exact pick_none hp i (by omega)
    | some b' =>
      rw [pick_next hp] at h
      split at h <;> cases h
/-- Chosen one after another, as long as one is left. -/
def grdV (via : Int → List Int) (S : List Int) (ls : List Lk.R) : Nat → List Int → List Int
  | 0, out => out
  | f + 1, out => match pickV via S (leftV via S out) ls ls.length with | none => out | some b => grdV via S ls f (out ++ [(ls.getD b Lk.R.zero).ad])
def fldV (via : Int → List Int) (S : List Int) (ls : List Lk.R) (now : Int) : List Int := sortV (grdV via S ls 8 (onesV via S (alwV ls now ls.length)))
theorem hit_app {via : Int → List Int} {rs : List Int} {a z : Int} : hitV via (rs ++ [a]) z = (hitV via rs z || (via z).contains a) := by
  unfold hitV; rw [List.any_append]; simp
theorem left_app (via : Int → List Int) (S rs : List Int) (a : Int) : leftV via S (rs ++ [a]) = (leftV via S rs).filter (fun z => !(via z).contains a) := by
  unfold leftV
  rw [List.filter_filter]
  congr 1
  funext z
  rw [hit_app]
  cases hitV via rs z <;> cases (via z).contains a <;> rfl
theorem cnt_not (via : Int → List Int) (L : List Int) (a : Int) : (L.filter (fun z => !(via z).contains a)).length + cntV via L a = L.length := by
  unfold cntV
  induction L with
  | nil => rfl
  | cons z t ih =>
    cases h : (via z).contains a
    · rw [List.filter_cons_of_pos (by rw [h]; rfl), List.filter_cons_of_neg (by rw [h]; simp), List.length_cons, List.length_cons]; omega
    · rw [List.filter_cons_of_neg (by rw [h]; simp), List.filter_cons_of_pos (by rw [h]), List.length_cons, List.length_cons]; omega
theorem left_less {via : Int → List Int} {S rs : List Int} {a : Int} (h : 0 < cntV via (leftV via S rs) a) : (leftV via S (rs ++ [a])).length < (leftV via S rs).length := by
  rw [left_app]
  have := cnt_not via (leftV via S rs) a
  omega
theorem grd_end {via : Int → List Int} {S : List Int} {ls : List Lk.R} {r : List Int} : ∀ {f : Nat}, (leftV via S r).length = 0 → grdV via S ls f r = r
  | 0, _ => rfl
  | f + 1, h => by
    unfold grdV
    cases hp : pickV via S (leftV via S r) ls ls.length with
    | none => rfl
    | some b =>
      have := (pick_lt hp).2
      have := cnt_len via (leftV via S r) (ls.getD b Lk.R.zero).ad
      omega
theorem grd_step {via : Int → List Int} {S : List Int} {ls : List Lk.R} {r : List Int} {f b : Nat} (hp : pickV via S (leftV via S r) ls ls.length = some b) : grdV via S ls (f + 1) r = grdV via S ls f (r ++ [(ls.getD b Lk.R.zero).ad]) := by
  rw [grdV, hp]
/-- One who is left is reached by a neighbor. -/
theorem pick_some {via : Int → List Int} {S L : List Int} {ls : List Lk.R} (hv : ∀ z ∈ L, ∃ i, i < ls.length ∧ (via z).contains (ls.getD i Lk.R.zero).ad = true) (hL : 0 < L.length) : ∃ b, pickV via S L ls ls.length = some b := by
  cases hp : pickV via S L ls ls.length with
  | some b => exact ⟨b, rfl⟩
  | none =>
    exfalso
    cases L with
    | nil => simp at hL
    | cons z t =>
      obtain ⟨i, hi, hc⟩ := hv z (by simp)
      have := pick_none hp i hi
      unfold cntV at this
      rw [List.filter_cons_of_pos (by exact hc), List.length_cons] at this
      omega
theorem via_link {ms : List Tu.R} {ls : List Lk.R} {now z : Int} (h : 0 < (viaF ms ls now z).length) : ∃ i, i < ls.length ∧ (viaF ms ls now z).contains (ls.getD i Lk.R.zero).ad = true := by
  obtain ⟨a, ha⟩ : ∃ a, a ∈ viaF ms ls now z := List.exists_mem_of_length_pos h
  have ha' := ha
  unfold viaF Tw.viaL at ha
  rw [List.take_length, List.mem_map] at ha
  obtain ⟨m, hm, rfl⟩ := ha
  obtain ⟨i, hi, e⟩ := List.getElem_of_mem (List.mem_filter.1 hm).1
  refine ⟨i, hi, ?_⟩
  rw [List.getD_eq_getElem?_getD, List.getElem?_eq_getElem hi, e]
  exact List.contains_iff_mem.2 ha'
theorem str_via {ms : List Tu.R} {ls : List Lk.R} {me now : Int} : ∀ z ∈ strF ms ls me now, 0 < (viaF ms ls now z).length := by
  intro z hz
  unfold strF Tw.strN at hz
  simp only [List.mem_map, List.mem_filter, List.mem_range] at hz
  obtain ⟨t, ⟨_, h2⟩, rfl⟩ := hz
  unfold Tw.condS at h2
  simp only [Bool.and_eq_true, decide_eq_true_eq] at h2
  exact h2.2.2
theorem left_mem {via : Int → List Int} {S rs : List Int} {z : Int} (h : z ∈ leftV via S rs) : z ∈ S := (List.mem_filter.1 h).1
theorem left_nil {via : Int → List Int} {S rs : List Int} (h : (leftV via S rs).length = 0) : ∀ z ∈ S, hitV via rs z = true := by
  intro z hz
  have := List.eq_nil_of_length_eq_zero h
  unfold leftV at this
  have := (List.filter_eq_nil_iff.1 this) z hz
  simpa using this
end Mr
end Go.Proofs.Ytmelbilepfnmjap
