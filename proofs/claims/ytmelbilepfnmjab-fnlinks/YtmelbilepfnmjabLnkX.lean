/-
  Mathematics of the law of links: what is heard is right, is found, and leaves the others.
-/
import Derived.Test.YtmelbilepfnmjabLnkR
namespace Go.Proofs.Ytmelbilepfnmjab
set_option linter.unusedVariables false
namespace Ln
open W1 Lk Mp
theorem links_of {L : List R} (hu : Up L) (ho : ∀ m ∈ L, okL m = true) : linksB L = true := by
  unfold linksB allL Ri.all
  rw [List.all_eq_true]
  intro i hi
  have hi' : i < L.length := List.mem_range.1 hi
  unfold Ri.step
  rw [ho _ (getD_mem hi')]
  by_cases h0 : i = 0
  · subst h0; rfl
  · rw [getD_get hi', getD_get (show i - 1 < L.length by omega), decide_eq_true ((List.pairwise_iff_getElem.1 hu) (i - 1) i (by omega) hi' (by omega))]; simp
theorem oks_of {ms : List R} (h : linksB ms = true) : ∀ m ∈ ms, okL m = true := by
  intro m hm
  obtain ⟨i, hi, rfl⟩ := List.getElem_of_mem hm
  have := Ri.all_ok h hi
  rw [getD_get hi] at this; exact this
theorem links_put {ms : List R} (h : linksB ms = true) {z : R} (hz : okL z = true) : linksB (putL ms z) = true := by
  refine links_of (up_put (up_of h) z) (fun m hm => ?_)
  rcases mem_put hm with rfl | hm
  · exact hz
  · exact oks_of h m hm
theorem lkF_in {ms : List R} (h : linksB ms = true) (k : Int) : (0 ≤ (lkF ms k).sy ∧ (lkF ms k).sy ≤ 1073741824) ∧ 0 ≤ (lkF ms k).co ∧ (lkF ms k).co ≤ 16744448 := by
  unfold lkF
  cases hf : ms.find? (isAd k) with
  | none => exact ⟨⟨by decide, by decide⟩, by decide, by decide⟩
  | some y =>
    have hy := oks_of h y (List.mem_of_find?_eq_some hf)
    exact ⟨ok_sy hy, ok_co hy⟩
theorem heard_ad (x : R) (me frm cost now will valid : Int) (ns : List Nb.R) : (heardR x me frm cost now will valid ns).ad = frm := by unfold heardR; split <;> (try split) <;> rfl
theorem heard_hd (x : R) (me frm cost now will valid : Int) (ns : List Nb.R) : (heardR x me frm cost now will valid ns).hd = now + valid := by unfold heardR; split <;> (try split) <;> rfl
theorem heard_ci (x : R) (me frm cost now will valid : Int) (ns : List Nb.R) : (heardR x me frm cost now will valid ns).ci = cost := by unfold heardR; split <;> (try split) <;> rfl
theorem heard_wl (x : R) (me frm cost now will valid : Int) (ns : List Nb.R) : (heardR x me frm cost now will valid ns).wl = will := by unfold heardR; split <;> (try split) <;> rfl
theorem heard_ok {ms : List R} {me frm cost now will valid : Int} {ns : List Nb.R} (hms : linksB ms = true) (hh : Hl.helB will valid ns = true) (hf : 1 ≤ frm ∧ frm ≤ 8) (hc : 1 ≤ cost ∧ cost ≤ 256) (hn : 0 ≤ now ∧ now ≤ 1000000) :
    okL (heardR (lkF ms frm) me frm cost now will valid ns) = true := by
  have hv := Hl.hel_valid hh
  have hw := Hl.hel_will hh
  have hl := lkF_in hms frm
  generalize lkF ms frm = x at *
  unfold heardR
  cases hfd : ns.find? (Hl.isAd me) with
  | none => dsimp only; unfold okL inB; simp; omega
  | some n =>
    have hmem := List.mem_of_find?_eq_some hfd
    obtain ⟨i, hi, rfl⟩ := List.getElem_of_mem hmem
    have hok := Ri.all_ok (Hl.hel_all hh) hi
    have hg : ns.getD i Nb.R.zero = ns[i] := by rw [List.getD_eq_getElem?_getD, List.getElem?_eq_getElem hi]; rfl
    rw [hg] at hok
    have hmt := Hl.ok_mt hok
    dsimp only
    split
    · unfold okL inB; simp; omega
    · unfold okL inB; simp; omega
/-- What is found behind a put. -/
theorem find_put_at (ms : List R) (z : R) (k : Int) : (putL ms z).find? (isAd k) = if k = z.ad then some z else ms.find? (isAd k) := congrFun (find_put ms z) k
theorem find_own {ms : List R} (h : linksB ms = true) {i : Nat} (hi : i < ms.length) : ms.find? (isAd (ms.getD i R.zero).ad) = some (ms.getD i R.zero) :=
  Ri.find_at (z := R.zero) _ ms i hi (fun j hj => by have := Ri.rises h i j hj hi; unfold isAd; rw [beq_eq_false_iff_ne]; omega) (by unfold isAd; simp)
theorem lk_found {ms : List R} (h : linksB ms = true) {k : Int} {z : R} (hf : ms.find? (isAd k) = some z) : lkA ms k = z ∧ lkE ms k = 0 := by
  unfold lkA lkE lkF
  rw [code_zero h, if_pos rfl, if_pos rfl, hf]; exact ⟨rfl, rfl⟩
theorem heard_lost (x : R) (me frm cost now will valid : Int) (ns : List Nb.R) : statusV (heardR x me frm cost now will valid ns) (now + valid) = 0 := by
  unfold statusV; rw [heard_hd, if_pos (Int.le_refl _)]
theorem heard_sym {x : R} {me frm cost now will valid : Int} {ns : List Nb.R} {n : Nb.R} (hv : 1 ≤ valid) (hf : ns.find? (Hl.isAd me) = some n) (hs : n.st ≠ 0) :
    statusV (heardR x me frm cost now will valid ns) now = 2 ∧ (heardR x me frm cost now will valid ns).co = n.mt := by
  have e : heardR x me frm cost now will valid ns = ⟨frm, now + valid, now + valid, cost, n.mt, will⟩ := by unfold heardR; rw [hf]; dsimp only; rw [if_neg hs]
  rw [e]
  refine ⟨?_, rfl⟩
  unfold statusV
  dsimp only
  rw [if_neg (by omega), if_pos (by omega)]
theorem heard_not {x : R} {me frm cost now will valid : Int} {ns : List Nb.R} {n : Nb.R} (hn : 0 ≤ now) (hv : 1 ≤ valid) (hf : ns.find? (Hl.isAd me) = some n) (hs : n.st = 0) :
    statusV (heardR x me frm cost now will valid ns) now = 1 := by
  have e : heardR x me frm cost now will valid ns = ⟨frm, now + valid, 0, cost, x.co, will⟩ := by unfold heardR; rw [hf]; dsimp only; rw [if_pos hs]
  rw [e]
  unfold statusV
  dsimp only
  rw [if_neg (by omega), if_neg (by omega)]
end Ln
end Go.Proofs.Ytmelbilepfnmjab
