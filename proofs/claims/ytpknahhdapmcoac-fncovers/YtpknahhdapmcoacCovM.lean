/-
  Mathematics of FnCovers: who the relays for floods are, and that they reach all.
-/
import Derived.Test.YtpknahhdapmcoacMg4
import Derived.Test.YtpknahhdapmcoacLnkA
namespace Go.Proofs.Ytpknahhdapmcoac
set_option linter.unusedVariables false
set_option linter.unusedSimpArgs false
namespace Cv
open W1 Mr
theorem grd_left {via : Int → List Int} {S : List Int} {ls : List Lk.R} (hv : ∀ z ∈ S, ∃ i, i < ls.length ∧ (via z).contains (ls.getD i Lk.R.zero).ad = true) : ∀ (f : Nat) (r : List Int), (leftV via S r).length ≤ f → (leftV via S (grdV via S ls f r)).length = 0
  | 0, r, h => by have : grdV via S ls 0 r = r := rfl; rw [this]; omega
  | f + 1, r, h => by
    by_cases h0 : (leftV via S r).length = 0
    · rw [grd_end h0]; exact h0
    · obtain ⟨b, hb⟩ := pick_some (via := via) (S := S) (L := leftV via S r) (ls := ls) (fun z hz => hv z (Gp.left_sub hz)) (by omega)
      rw [grd_step hb]
      have := left_less (pick_lt hb).2
      exact grd_left hv f _ (by omega)
theorem grd_mem {via : Int → List Int} {S : List Int} {ls : List Lk.R} {a : Int} : ∀ (f : Nat) (r : List Int), a ∈ grdV via S ls f r → a ∈ r ∨ ∃ z, a ∈ via z
  | 0, r, h => .inl h
  | f + 1, r, h => by
    cases hp : pickV via S (leftV via S r) ls ls.length with
    | none =>
      have : grdV via S ls (f + 1) r = r := by unfold grdV; rw [hp]
      rw [this] at h; exact .inl h
    | some b =>
      rw [grd_step hp] at h
      rcases grd_mem f _ h with h | h
      · rcases List.mem_append.1 h with h | h
        · exact .inl h
        · rw [List.mem_singleton] at h
          have hg := (pick_lt hp).2
          unfold cntV at hg
          obtain ⟨z, hz⟩ := List.exists_mem_of_length_pos hg
          rw [List.mem_filter] at hz
          exact .inr ⟨z, by rw [h]; exact List.contains_iff_mem.1 hz.2⟩
      · exact .inr h
theorem grd_sub {via : Int → List Int} {S : List Int} {ls : List Lk.R} {a : Int} : ∀ (f : Nat) (r : List Int), a ∈ r → a ∈ grdV via S ls f r
  | 0, r, h => h
  | f + 1, r, h => by
    cases hp : pickV via S (leftV via S r) ls ls.length with
    | none =>
      have : grdV via S ls (f + 1) r = r := by unfold grdV; rw [hp]
      rw [this]; exact h
    | some b => rw [grd_step hp]; exact grd_sub f _ (by simp [h])
theorem grd_nodup {via : Int → List Int} {S : List Int} {ls : List Lk.R} : ∀ (f : Nat) (r : List Int), r.Nodup → (grdV via S ls f r).Nodup
  | 0, r, h => h
  | f + 1, r, h => by
    cases hp : pickV via S (leftV via S r) ls ls.length with
    | none =>
      have : grdV via S ls (f + 1) r = r := by unfold grdV; rw [hp]
      rw [this]; exact h
    | some b => rw [grd_step hp]; exact grd_nodup f _ (Gp.app_nodup h (Gp.gain_new (pick_lt hp).2))
theorem left_same {via : Int → List Int} {S L M : List Int} (h : ∀ a, a ∈ L ↔ a ∈ M) : leftV via S L = leftV via S M := by
  unfold leftV
  apply List.filter_congr
  intro z _
  have : hitV via L z = hitV via M z := by
    unfold hitV
    rw [Bool.eq_iff_iff, List.any_eq_true, List.any_eq_true]
    exact ⟨fun ⟨a, h1, h2⟩ => ⟨a, (h a).1 h1, h2⟩, fun ⟨a, h1, h2⟩ => ⟨a, (h a).2 h1, h2⟩⟩
  rw [this]
theorem ln_own {ms : List Lk.R} (h : Ln.linksB ms = true) {i : Nat} (hi : i < ms.length) : ms.find? (Ln.isAd (ms.getD i Lk.R.zero).ad) = some (ms.getD i Lk.R.zero) :=
  Ri.find_at (z := Lk.R.zero) _ ms i hi (fun j hj => by have := Ri.rises h i j hj hi; unfold Ln.isAd; rw [beq_eq_false_iff_ne]; omega) (by unfold Ln.isAd; simp)
theorem ln_found {ms : List Lk.R} (h : Ln.linksB ms = true) {k : Int} {z : Lk.R} (hf : ms.find? (Ln.isAd k) = some z) : Ln.lkA ms k = z ∧ Ln.lkE ms k = 0 := by
  unfold Ln.lkA Ln.lkE Ln.lkF
  rw [Ln.code_zero h, if_pos rfl, if_pos rfl, hf]; exact ⟨rfl, rfl⟩
/-- A relay: a link of ours, willing and symmetric. -/
def good (ls : List Lk.R) (now a : Int) : Prop := ∃ m, ls.find? (Ln.isAd a) = some m ∧ 0 < m.wl ∧ Ln.statusV m now = 2
theorem good_of {ls : List Lk.R} (hok : Ln.linksB ls = true) {now a : Int} {m : Lk.R} (hm : m ∈ ls) (ha : m.ad = a) (h1 : 0 < m.wl) (h2 : Ln.statusV m now = 2) : good ls now a := by
  obtain ⟨i, hi, rfl⟩ := List.getElem_of_mem hm
  have e : ls.getD i Lk.R.zero = ls[i] := by rw [List.getD_eq_getElem?_getD, List.getElem?_eq_getElem hi]; rfl
  have := ln_own hok hi
  rw [e] at this
  exact ⟨_, by rw [← ha]; exact this, h1, h2⟩
theorem via_good {ms : List Tu.R} {ls : List Lk.R} (hok : Ln.linksB ls = true) {now z a : Int} (h : a ∈ viaF ms ls now z) : good ls now a := by
  unfold viaF Tw.viaL at h
  rw [List.take_length, List.mem_map] at h
  obtain ⟨m, hm, rfl⟩ := h
  rw [List.mem_filter] at hm
  have hv := hm.2
  unfold Tw.viaOk at hv
  rw [Bool.and_eq_true, Bool.and_eq_true] at hv
  exact good_of hok hm.1 rfl (of_decide_eq_true hv.2.1) (eq_of_beq hv.1)
theorem alw_good {ls : List Lk.R} (hok : Ln.linksB ls = true) {now a : Int} (h : a ∈ alwV ls now ls.length) : good ls now a := by
  unfold alwV at h
  rw [List.take_length, List.mem_map] at h
  obtain ⟨m, hm, rfl⟩ := h
  rw [List.mem_filter] at hm
  have hv := hm.2
  unfold alwB at hv
  rw [Bool.and_eq_true] at hv
  have := eq_of_beq hv.2
  exact good_of hok hm.1 rfl (by omega) (eq_of_beq hv.1)
/-- How often a number is among the first of a rising list. -/
def occ (zs : List Int) (x : Int) (j : Nat) : Nat := ((zs.take j).filter (fun y => y == x)).length
theorem occ_step {zs : List Int} {x : Int} {j : Nat} (h : j < zs.length) : occ zs x (j + 1) = if (zs.getD j 0 == x) = true then occ zs x j + 1 else occ zs x j := by
  unfold occ
  rw [zs_take h, List.filter_append]
  split
  · rename_i he; rw [List.filter_cons_of_pos (by exact he), List.length_append]; rfl
  · rename_i he; rw [List.filter_cons_of_neg (by exact he)]; simp
theorem occ_one {zs : List Int} {x : Int} (hu : UpI zs) (hx : x ∈ zs) : occ zs x zs.length = 1 := by
  unfold occ
  rw [List.take_length]
  induction zs with
  | nil => cases hx
  | cons y t ih =>
    obtain ⟨h1, h2⟩ := List.pairwise_cons.1 hu
    rcases List.mem_cons.1 hx with rfl | hx
    · rw [List.filter_cons_of_pos (by simp), Tw.filter_none (fun z hz => by have := h1 z hz; simp; omega)]; rfl
    · have : y ≠ x := fun e => by have := h1 x hx; omega
      rw [List.filter_cons_of_neg (by simpa using this)]
      exact ih h2 hx
/-- The relays for floods: rising, of ours, all that are always willing among them, and they reach all. -/
theorem flood_ok {ms : List Tu.R} {ls : List Lk.R} {me now : Int} (hc : Tw.codeTL ms ls = 0) :
    (fldA ms ls me now).length ≤ 8 ∧ UpI (fldA ms ls me now) ∧ (∀ a ∈ fldA ms ls me now, good ls now a) ∧ (∀ m ∈ ls, m.wl = 7 → Ln.statusV m now = 2 → m.ad ∈ fldA ms ls me now) ∧ covA ms ls me now (fldA ms ls me now) = true ∧ codeM ms ls (fldA ms ls me now) = 0 := by
  have hok := (Tw.codeTL_ok hc).2
  have e0 : fldA ms ls me now = fldV (viaF ms ls now) (strF ms ls me now) ls now := by unfold fldA; rw [if_pos hc]
  have hvr : ∀ z, ∀ a ∈ viaF ms ls now z, 1 ≤ a ∧ a ≤ 8 := fun z => Gp.via_rng hok
  have hsv : ∀ z ∈ strF ms ls me now, ∃ i, i < ls.length ∧ (viaF ms ls now z).contains (ls.getD i Lk.R.zero).ad = true := fun z hz => via_link (str_via z hz)
  obtain ⟨r0, hr0⟩ : ∃ r0, onesV (viaF ms ls now) (strF ms ls me now) (alwV ls now ls.length) = r0 := ⟨_, rfl⟩
  obtain ⟨G, hG⟩ : ∃ G, grdV (viaF ms ls now) (strF ms ls me now) ls 8 r0 = G := ⟨_, rfl⟩
  have e1 : fldA ms ls me now = sortV G := by rw [e0]; unfold fldV; rw [hr0, hG]
  have hn0 : r0.Nodup := by rw [← hr0]; exact Gp.ones_nodup (Gp.alw_nodup hok)
  have hn : G.Nodup := by rw [← hG]; exact grd_nodup 8 _ hn0
  have hgood : ∀ a ∈ G, good ls now a := fun a ha => by
    rw [← hG] at ha
    rcases grd_mem 8 _ ha with h | ⟨z, h⟩
    · rw [← hr0, Gp.ones_mem] at h
      rcases h with h | ⟨z, _, hl, rfl⟩
      · exact alw_good hok h
      · exact via_good hok (z := z) (ms := ms) (getD_mem (by omega))
    · exact via_good hok h
  have hrg : ∀ a ∈ G, 1 ≤ a ∧ a ≤ 8 := fun a ha => by
    obtain ⟨m, hf, _⟩ := hgood a ha
    have h1 := List.find?_some hf
    have h2 := List.mem_of_find?_eq_some hf
    obtain ⟨i, hi, rfl⟩ := List.getElem_of_mem h2
    have h3 := Ln.ok_ad (Ri.all_ok hok hi)
    rw [List.getD_eq_getElem?_getD, List.getElem?_eq_getElem hi] at h3
    have h4 : (ls[i]).ad = a := by simpa [Ln.isAd] using h1
    simp only [Option.getD_some] at h3
    omega
  have hs := sort_str hn hrg
  have hup := sort_up G hn G.length (Nat.le_refl _)
  rw [List.take_length] at hup
  have hlen : (sortV G).length ≤ 8 := by rw [hs]; exact Tw.strN_len _ _
  have hcm : codeM ms ls (sortV G) = 0 := by unfold codeM; rw [if_neg (by omega), if_pos hc, if_neg (by omega)]
  rw [e1]
  refine ⟨hlen, hup.1, fun a ha => hgood a ((hup.2 a).1 ha), fun m hm h1 h2 => ?_, ?_, hcm⟩
  · rw [hup.2, ← hG]
    refine grd_sub 8 _ ?_
    rw [← hr0, Gp.ones_mem]
    refine .inl ?_
    unfold alwV
    rw [List.take_length]
    exact List.mem_map.2 ⟨m, List.mem_filter.2 ⟨hm, by unfold alwB; rw [h1, h2]; rfl⟩, rfl⟩
  · unfold covA
    rw [decide_eq_true hcm, left_same (fun a => hup.2 a), ← hG, grd_left hsv 8 r0 (Nat.le_trans (left_len _ _ _) (str_len _ _ _ _))]
    rfl
end Cv
end Go.Proofs.Ytpknahhdapmcoac
