/-
  Mathematics of relays for floods, as bits: who is the best, what is left, which list it is in the end.
-/
import Derived.Test.YtpknahhdapmcoaoGrpD
namespace Go.Proofs.Ytpknahhdapmcoao
set_option linter.unusedVariables false
set_option linter.unusedSimpArgs false
namespace Gp
open W1 Tw Mr
/-- How two numbers compare; the first of several that is not 0. -/
def cmpV (x y : Int) : Int := if x < y then -1 else if y < x then 1 else 0
def orV : List Int → Int
  | [] => 0
  | x :: t => if x = 0 then orV t else x
/-- The first that none behind it is above. -/
def maxV (f : Lk.R → Lk.R → Int) (ls : List Lk.R) : Nat → Lk.R
  | 0 => ls.getD 0 Lk.R.zero
  | i + 1 => if 0 < f (ls.getD (i + 1) Lk.R.zero) (maxV f ls i) then ls.getD (i + 1) Lk.R.zero else maxV f ls i
def worth (gn dg : Int → Int) (x y : Lk.R) : Int := orV [cmpV (gn x.ad) (gn y.ad), cmpV x.wl y.wl, cmpV (dg x.ad) (dg y.ad), cmpV y.ad x.ad]
theorem cmp_zero {x y : Int} : cmpV x y = 0 ↔ x = y := by
  unfold cmpV
  split
  · constructor <;> intro h <;> omega
  · split <;> constructor <;> intro h <;> omega
theorem cmp_pos {x y : Int} : 0 < cmpV x y ↔ y < x := by
  unfold cmpV
  split
  · constructor <;> intro h <;> omega
  · split <;> constructor <;> intro h <;> omega
theorem worth_bet {via : Int → List Int} {S L : List Int} {x y : Lk.R} (h : y.ad < x.ad) : 0 < worth (fun a => (cntV via L a : Int)) (fun a => (cntV via S a : Int)) x y ↔ betV via S L x y = true := by
  unfold worth betV
  simp only [orV, cmp_zero]
  by_cases h1 : cntV via L x.ad = cntV via L y.ad
  · rw [if_pos (by omega), if_pos h1]
    by_cases h2 : x.wl = y.wl
    · rw [if_pos h2, if_pos h2]
      by_cases h3 : cntV via S x.ad = cntV via S y.ad
      · rw [if_pos (by omega), if_neg (by omega), cmp_pos, decide_eq_true_eq]
        constructor <;> intro h <;> omega
      · rw [if_neg (by omega), cmp_pos, decide_eq_true_eq]
        constructor <;> intro h <;> omega
    · rw [if_neg h2, if_neg h2, cmp_pos, decide_eq_true_eq]
  · rw [if_neg (by omega), if_neg h1, cmp_pos, decide_eq_true_eq]
    constructor <;> intro h <;> omega
theorem bet_gain {via : Int → List Int} {S L : List Int} {x y : Lk.R} (h : betV via S L x y = true) : cntV via L y.ad ≤ cntV via L x.ad := by
  unfold betV at h
  split at h
  · omega
  · have := of_decide_eq_true h; omega
theorem gain_bet {via : Int → List Int} {S L : List Int} {x y : Lk.R} (h : cntV via L y.ad < cntV via L x.ad) : betV via S L x y = true := by
  unfold betV
  rw [if_neg (by omega)]; exact decide_eq_true h
theorem pick_max {via : Int → List Int} {S L : List Int} {ls : List Lk.R} {f : Lk.R → Lk.R → Int} (hf : ∀ i j, i < j → j < ls.length → (0 < f (ls.getD j Lk.R.zero) (ls.getD i Lk.R.zero) ↔ betV via S L (ls.getD j Lk.R.zero) (ls.getD i Lk.R.zero) = true)) :
    ∀ j, j < ls.length → (∃ b, b ≤ j ∧ maxV f ls j = ls.getD b Lk.R.zero) ∧ ∀ b, pickV via S L ls (j + 1) = some b → maxV f ls j = ls.getD b Lk.R.zero
  | 0, h => by
    refine ⟨⟨0, Nat.le_refl _, rfl⟩, fun b hb => ?_⟩
    have := (pick_lt hb).1
    obtain rfl : b = 0 := by omega
    rfl
  | j + 1, h => by
    obtain ⟨⟨b', hb', hm⟩, ih⟩ := pick_max hf j (by omega)
    have hmax : maxV f ls (j + 1) = if 0 < f (ls.getD (j + 1) Lk.R.zero) (maxV f ls j) then ls.getD (j + 1) Lk.R.zero else maxV f ls j := rfl
    refine ⟨?_, fun b hb => ?_⟩
    · rw [hmax]
      split
      · exact ⟨j + 1, Nat.le_refl _, rfl⟩
      · exact ⟨b', by omega, hm⟩
    · rw [hmax]
      cases hp : pickV via S L ls (j + 1) with
      | none =>
        rw [pick_first hp] at hb
        by_cases hc : 0 < cntV via L (ls.getD (j + 1) Lk.R.zero).ad
        · rw [if_pos (by simpa using hc)] at hb
          cases hb
          rw [if_pos]
          rw [hm]
          exact (hf b' (j + 1) (by omega) h).2 (gain_bet (by rw [pick_none hp b' (by omega)]; exact hc))
        · rw [if_neg (by simpa using hc)] at hb; cases hb
      | some c =>
        have h1 := ih c hp
        have h2 := pick_lt hp
        rw [pick_next hp] at hb
        rw [h1]
        by_cases hbt : betV via S L (ls.getD (j + 1) Lk.R.zero) (ls.getD c Lk.R.zero) = true
        · have h3 := bet_gain hbt
          rw [if_pos (by rw [hbt, decide_eq_true (by omega)]; rfl)] at hb
          cases hb
          rw [if_pos ((hf c (j + 1) h2.1 h).2 hbt)]
        · rw [if_neg (by intro e; rw [Bool.and_eq_true] at e; exact hbt e.2)] at hb
          cases hb
          rw [if_neg (fun e => hbt ((hf b (j + 1) h2.1 h).1 e))]
/-- Links rise. -/
theorem links_up {ls : List Lk.R} (h : Ln.linksB ls = true) : ∀ j i, i < j → j < ls.length → (ls.getD i Lk.R.zero).ad < (ls.getD j Lk.R.zero).ad
  | 0, i, hi, _ => by omega
  | j + 1, i, hi, hj => by
    have h1 := Ri.rises1 h hj
    by_cases e : i = j
    · subst e; exact h1
    · have := links_up h j i (by omega) (by omega)
      exact Int.lt_trans this h1
theorem links_nodup {ls : List Lk.R} (h : Ln.linksB ls = true) : (ls.map (·.ad)).Nodup := by
  rw [List.Nodup, List.pairwise_iff_getElem]
  intro i j hi hj hij
  simp only [List.length_map] at hi hj
  rw [List.getElem_map, List.getElem_map]
  have := links_up h j i hij hj
  rw [List.getD_eq_getElem?_getD, List.getD_eq_getElem?_getD, List.getElem?_eq_getElem hi, List.getElem?_eq_getElem hj] at this
  simp only [Option.getD_some] at this
  omega
theorem sub_nodup {ls : List Lk.R} (h : Ln.linksB ls = true) (p : Lk.R → Bool) : ((ls.filter p).map (·.ad)).Nodup := (links_nodup h).sublist (List.Sublist.map _ List.filter_sublist)
theorem sub_rng {ls : List Lk.R} (h : Ln.linksB ls = true) (p : Lk.R → Bool) : ∀ a ∈ (ls.filter p).map (·.ad), 1 ≤ a ∧ a ≤ 8 := by
  intro a ha
  obtain ⟨m, hm, rfl⟩ := List.mem_map.1 ha
  obtain ⟨i, hi, e⟩ := List.getElem_of_mem (List.mem_filter.1 hm).1
  have := Ln.ok_ad (Ri.all_ok h hi)
  rw [List.getD_eq_getElem?_getD, List.getElem?_eq_getElem hi, e] at this
  exact this
theorem via_nodup {ms : List Tu.R} {ls : List Lk.R} {now z : Int} (h : Ln.linksB ls = true) : (viaF ms ls now z).Nodup := by
  unfold viaF viaL; rw [List.take_length]; exact sub_nodup h _
theorem alw_nodup {ls : List Lk.R} {now : Int} (h : Ln.linksB ls = true) : (alwV ls now ls.length).Nodup := by
  unfold alwV; rw [List.take_length]; exact sub_nodup h _
theorem alw_rng {ls : List Lk.R} {now : Int} (h : Ln.linksB ls = true) : ∀ a ∈ alwV ls now ls.length, 1 ≤ a ∧ a ≤ 8 := by
  unfold alwV; rw [List.take_length]; exact sub_rng h _
/-- Those that alone reach one: who they are. -/
theorem one_mem {via : Int → List Int} {out : List Int} {z a : Int} : a ∈ oneS via out z ↔ a ∈ out ∨ ((via z).length = 1 ∧ a = (via z).getD 0 0) := by
  unfold oneS oneB
  by_cases h1 : (via z).length = 1
  · cases h2 : out.contains ((via z).getD 0 0)
    · rw [if_pos (by rw [h1]; rfl), List.mem_append, List.mem_singleton]
      exact ⟨fun h => h.imp id (fun e => ⟨h1, e⟩), fun h => h.imp id (fun e => e.2)⟩
    · rw [if_neg (by simp)]
      constructor
      · exact fun h => .inl h
      · rintro (h | ⟨_, rfl⟩)
        · exact h
        · exact List.contains_iff_mem.1 h2
  · rw [if_neg (by simp [h1])]
    exact ⟨fun h => .inl h, fun h => h.elim id (fun e => absurd e.1 h1)⟩
theorem ones_mem {via : Int → List Int} {a : Int} : ∀ {S out : List Int}, a ∈ onesV via S out ↔ a ∈ out ∨ ∃ z ∈ S, (via z).length = 1 ∧ a = (via z).getD 0 0
  | [], out => by simp [onesV]
  | z :: t, out => by
    have : onesV via (z :: t) out = onesV via t (oneS via out z) := rfl
    rw [this, ones_mem, one_mem]
    constructor
    · rintro ((h | h) | ⟨y, hy, h⟩)
      · exact .inl h
      · exact .inr ⟨z, by simp, h⟩
      · exact .inr ⟨y, by simp [hy], h⟩
    · rintro (h | ⟨y, hy, h⟩)
      · exact .inl (.inl h)
      · rcases List.mem_cons.1 hy with rfl | hy
        · exact .inl (.inr h)
        · exact .inr ⟨y, hy, h⟩
theorem one_nodup {via : Int → List Int} {out : List Int} {z : Int} (h : out.Nodup) : (oneS via out z).Nodup := by
  unfold oneS oneB
  split
  · rename_i h2
    rw [Bool.and_eq_true] at h2
    rw [List.nodup_append]
    refine ⟨h, by simp, fun a ha b hb e => ?_⟩
    rw [List.mem_singleton] at hb
    subst hb e
    have := h2.2
    rw [List.contains_iff_mem.2 ha] at this
    cases this
  · exact h
theorem ones_nodup {via : Int → List Int} : ∀ {S out : List Int}, out.Nodup → (onesV via S out).Nodup
  | [], out, h => h
  | z :: t, out, h => ones_nodup (S := t) (one_nodup h)
theorem lone_len {S : List Int} {via : Int → List Int} {i : Nat} (hn : (via i).Nodup) (hr : ∀ a ∈ via i, 1 ≤ a ∧ a ≤ 8) (hS : S.contains (i : Int) = true) : (strN (vB S via i) 8).length = (via i).length := by
  have h1 := sort_str hn hr
  have h2 := sort_len (via i) (via i).length (Nat.le_refl _)
  rw [List.take_length, h1] at h2
  rw [← h2]
  congr 1
  exact str_same (fun z _ _ => by unfold vB; rw [hS]; rfl)
theorem oB_iff {S : List Int} {via : Int → List Int} {a : Int} (hS : ∀ z ∈ S, 1 ≤ z ∧ z ≤ 8) (hn : ∀ z, (via z).Nodup) (hr : ∀ z, ∀ a ∈ via z, 1 ≤ a ∧ a ≤ 8) : oB S via 9 a = true ↔ ∃ z ∈ S, (via z).length = 1 ∧ a = (via z).getD 0 0 := by
  have key : ∀ z : Int, (via z).length = 1 → (a ∈ via z ↔ a = (via z).getD 0 0) := fun z h => by
    obtain ⟨b, hb⟩ := List.length_eq_one_iff.1 h
    rw [hb]; simp
  unfold oB
  rw [List.any_eq_true]
  constructor
  · rintro ⟨i, hi, h⟩
    rw [Bool.and_eq_true] at h
    have hv := h.2
    unfold vB at hv
    rw [Bool.and_eq_true] at hv
    have hl : (via i).length = 1 := by
      rw [← lone_len (hn i) (hr i) hv.1]
      have := h.1
      unfold lone at this
      exact eq_of_beq this
    exact ⟨i, List.contains_iff_mem.1 hv.1, hl, (key i hl).1 (List.contains_iff_mem.1 hv.2)⟩
  · rintro ⟨z, hz, hl, ha⟩
    have hz8 := hS z hz
    obtain ⟨i, rfl⟩ : ∃ i : Nat, z = (i : Int) := ⟨z.toNat, by omega⟩
    have hc := List.contains_iff_mem.2 hz
    refine ⟨i, List.mem_range.2 (by omega), ?_⟩
    rw [Bool.and_eq_true]
    refine ⟨?_, ?_⟩
    · unfold lone; rw [lone_len (hn _) (hr _) hc, hl]; rfl
    · unfold vB; rw [hc, List.contains_iff_mem.2 ((key _ hl).2 ha)]; rfl
/-- Groups of lists. -/
theorem gL_same {L M : List Int} (h : ∀ a, 1 ≤ a → a ≤ 8 → (a ∈ L ↔ a ∈ M)) : gL L = gL M := gN_congr (fun z h1 h2 => by
  rw [Bool.eq_iff_iff, List.contains_iff_mem, List.contains_iff_mem]; exact h z h1 h2)
theorem ones_group {S : List Int} {via : Int → List Int} {A : List Int} (hS : ∀ z ∈ S, 1 ≤ z ∧ z ≤ 8) (hn : ∀ z, (via z).Nodup) (hr : ∀ z, ∀ a ∈ via z, 1 ≤ a ∧ a ≤ 8) : bits .or .u16 (gL A : Int) (gN (oB S via 9) : Int) = (gL (onesV via S A) : Int) := by
  unfold gL; rw [or_int]; congr 1
  refine gN_congr (fun a _ _ => ?_)
  rw [Bool.eq_iff_iff, Bool.or_eq_true, List.contains_iff_mem, List.contains_iff_mem, oB_iff hS hn hr, ones_mem]
theorem left_group {S : List Int} {via : Int → List Int} {r : List Int} (hr : ∀ z, ∀ a ∈ via z, 1 ≤ a ∧ a ≤ 8) : bits .andNot .u16 (gL S : Int) (gN (reB S via (strN (fun a => r.contains a) 8)) : Int) = (gL (leftV via S r) : Int) := by
  unfold gL; rw [not_int]; congr 1
  refine gN_congr (fun z _ _ => ?_)
  rw [re_any (hr z), any_has, Bool.eq_iff_iff, List.contains_iff_mem]
  unfold leftV hitV
  rw [List.mem_filter, ← List.contains_iff_mem]
  cases S.contains z <;> simp
theorem left_sub {S : List Int} {via : Int → List Int} {r : List Int} {z : Int} (h : z ∈ leftV via S r) : z ∈ S := (List.mem_filter.1 h).1
theorem less_group {S : List Int} {via : Int → List Int} {r : List Int} {i : Nat} : bits .andNot .u16 (gL (leftV via S r) : Int) (rN S via i : Int) = (gL (leftV via S (r ++ [(i : Int)])) : Int) := by
  unfold gL rN; rw [not_int]; congr 1
  refine gN_congr (fun z _ _ => ?_)
  rw [left_app, Bool.eq_iff_iff, List.contains_iff_mem, List.mem_filter, Bool.and_eq_true, List.contains_iff_mem]
  unfold rB
  constructor
  · rintro ⟨h1, h2⟩
    rw [List.contains_iff_mem.2 (left_sub h1)] at h2
    exact ⟨h1, by simpa using h2⟩
  · rintro ⟨h1, h2⟩
    refine ⟨h1, ?_⟩
    rw [List.contains_iff_mem.2 (left_sub h1)]
    simpa using h2
/-- Gain and degree, counted by bits. -/
theorem gain_count {cd : Int → Bool} {via : Int → List Int} {r : List Int} {a : Int} : (strN (fun z => rB (strN cd 8) via a z && (leftV via (strN cd 8) r).contains z) 8).length = cntV via (leftV via (strN cd 8) r) a := by
  unfold cntV
  have e : leftV via (strN cd 8) r = strN (fun z => cd z && !hitV via r z) 8 := by unfold leftV; exact str_filter _ _ _
  rw [e, str_filter]
  congr 1
  refine str_same (fun z h1 h2 => ?_)
  have h3 : ∀ p : Int → Bool, (strN p 8).contains z = p z := fun p => by
    rw [Bool.eq_iff_iff, List.contains_iff_mem, str_mem]
    exact ⟨fun h => h.2.2, fun h => ⟨h1, h2, h⟩⟩
  unfold rB
  rw [h3, h3]
  cases cd z <;> cases (via z).contains a <;> cases hitV via r z <;> rfl
theorem deg_count {cd : Int → Bool} {via : Int → List Int} {a : Int} : (strN (rB (strN cd 8) via a) 8).length = cntV via (strN cd 8) a := by
  unfold cntV
  rw [str_filter]
  congr 1
  refine str_same (fun z h1 h2 => ?_)
  unfold rB
  have : (strN cd 8).contains z = cd z := by
    rw [Bool.eq_iff_iff, List.contains_iff_mem, str_mem]
    exact ⟨fun h => h.2.2, fun h => ⟨h1, h2, h⟩⟩
  rw [this]
/-- One that reaches some that are left is no relay yet. -/
theorem gain_new {via : Int → List Int} {S r : List Int} {a : Int} (h : 0 < cntV via (leftV via S r) a) : a ∉ r := by
  intro ha
  unfold cntV at h
  obtain ⟨z, hz⟩ := List.exists_mem_of_length_pos h
  rw [List.mem_filter] at hz
  have h2 := (List.mem_filter.1 hz.1).2
  unfold hitV at h2
  rw [List.any_eq_true.2 ⟨a, ha, hz.2⟩] at h2
  cases h2
theorem app_nodup {r : List Int} {a : Int} (h : r.Nodup) (ha : a ∉ r) : (r ++ [a]).Nodup := by
  rw [List.nodup_append]
  refine ⟨h, by simp, fun x hx y hy e => ?_⟩
  rw [List.mem_singleton] at hy
  subst hy e; exact ha hx
theorem gL_list {r : List Int} (hn : r.Nodup) (hr : ∀ a ∈ r, 1 ≤ a ∧ a ≤ 8) : strN (hasB (gL r)) 8 = sortV r := by
  rw [sort_str hn hr]
  refine str_same (fun z h1 h2 => ?_)
  unfold gL
  rw [has_gN]
  unfold inB
  rw [decide_eq_true h1, decide_eq_true h2]; rfl
theorem gL_zero {L : List Int} (h : ∀ z ∈ L, 1 ≤ z ∧ z ≤ 8) : gL L = 0 ↔ L.length = 0 := by
  unfold gL
  rw [gN_zero, str_zero, List.length_eq_zero_iff]
  constructor
  · intro hh
    cases L with
    | nil => rfl
    | cons x t =>
      have h1 := h x (by simp)
      have := hh x h1.1 h1.2
      simp at this
  · rintro rfl z _ _; rfl
end Gp
end Go.Proofs.Ytpknahhdapmcoao
