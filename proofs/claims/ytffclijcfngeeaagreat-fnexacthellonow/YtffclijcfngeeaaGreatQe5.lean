/-
  Of the texts Mg4, LnkA, CovM, RecNeighbor, Nums, Tim, HelM, HelC, HelVa, RtrH: what this claim needs of them. (put together by mkprune.py)
-/
import Derived.Test.YtffclijcfngeeaaGreatQe4
import Derived.Deep.DeepCutAuto
import Derived.Deep.LoopGhost
import Derived.Deep.RegionHeld3
import Derived.Deep.DrawnRows
import Derived.Deep.Slices
import Derived.Laws.AppendOwn
import Derived.Test.YtffclijcfngeeaaGreatShelf
import Derived.Lib.ItoaNum
import Derived.Laws.BitsAllLaws
import Derived.Laws.Shifts
import Derived.Deep.QuietTactic
import Derived.BigQuiet
import Derived.OneCell
import Derived.Deep.AppendLies
namespace Go.Proofs.YtffclijcfngeeaaGreat
set_option linter.unusedVariables false
set_option linter.unusedSimpArgs false
namespace Gp
open W1 Tw Mr
/-- How two numbers compare; the first of several that is not 0. -/
def cmpV (x y : Int) : Int := if x < y then -1 else if y < x then 1 else 0
def orV : List Int → Int
  | [] => 0
  | x :: t => if x = 0 then orV t else x
/-- The first that none behind it is above. -/
def maxV (f : Lk.R → Lk.R → Int) (ls : List Lk.R) : Nat → Lk.R
  | 0 => ls.getD 0 Lk.R.zero
  | i + 1 => if 0 < f (ls.getD (i + 1) Lk.R.zero) (maxV f ls i) then ls.getD (i + 1) Lk.R.zero else maxV f ls i
def worth (gn dg : Int → Int) (x y : Lk.R) : Int := orV [cmpV (gn x.ad) (gn y.ad), cmpV x.wl y.wl, cmpV (dg x.ad) (dg y.ad), cmpV y.ad x.ad]
theorem cmp_zero {x y : Int} : cmpV x y = 0 ↔ x = y := by
  unfold cmpV
  split
  · constructor <;> intro h <;> omega
  · split <;> constructor <;> intro h <;> omega
theorem cmp_pos {x y : Int} : 0 < cmpV x y ↔ y < x := by
  unfold cmpV
  split
  · constructor <;> intro h <;> omega
  · split <;> constructor <;> intro h <;> omega
theorem worth_bet {via : Int → List Int} {S L : List Int} {x y : Lk.R} (h : y.ad < x.ad) : 0 < worth (fun a => (cntV via L a : Int)) (fun a => (cntV via S a : Int)) x y ↔ betV via S L x y = true := by
  unfold worth betV
  simp only [orV, cmp_zero]
  by_cases h1 : cntV via L x.ad = cntV via L y.ad
  · rw [if_pos (by omega), if_pos h1]
    by_cases h2 : x.wl = y.wl
    · rw [if_pos h2, if_pos h2]
      by_cases h3 : cntV via S x.ad = cntV via S y.ad
      · rw [if_pos (by omega), if_neg (by omega), cmp_pos, decide_eq_true_eq]
        constructor <;> intro h <;> omega
      · rw [if_neg (by omega), cmp_pos, decide_eq_true_eq]
        constructor <;> intro h <;> omega
    · rw [if_neg h2, if_neg h2, cmp_pos, decide_eq_true_eq]
  · rw [if_neg (by omega), if_neg h1, cmp_pos, decide_eq_true_eq]
    constructor <;> intro h <;> omega
theorem bet_gain {via : Int → List Int} {S L : List Int} {x y : Lk.R} (h : betV via S L x y = true) : cntV via L y.ad ≤ cntV via L x.ad := by
  unfold betV at h
  split at h
  · omega
  · have := of_decide_eq_true h; omega
theorem gain_bet {via : Int → List Int} {S L : List Int} {x y : Lk.R} (h : cntV via L y.ad < cntV via L x.ad) : betV via S L x y = true := by
  unfold betV
  rw [if_neg (by omega)]; exact decide_eq_true h
theorem pick_max {via : Int → List Int} {S L : List Int} {ls : List Lk.R} {f : Lk.R → Lk.R → Int} (hf : ∀ i j, i < j → j < ls.length → (0 < f (ls.getD j Lk.R.zero) (ls.getD i Lk.R.zero) ↔ betV via S L (ls.getD j Lk.R.zero) (ls.getD i Lk.R.zero) = true)) :
    ∀ j, j < ls.length → (∃ b, b ≤ j ∧ maxV f ls j = ls.getD b Lk.R.zero) ∧ ∀ b, pickV via S L ls (j + 1) = some b → maxV f ls j = ls.getD b Lk.R.zero
  | 0, h => by
    refine ⟨⟨0, Nat.le_refl _, rfl⟩, fun b hb => ?_⟩
    have := (pick_lt hb).1
    obtain rfl : b = 0 := by omega
    rfl
  | j + 1, h => by
    obtain ⟨⟨b', hb', hm⟩, ih⟩ := pick_max hf j (by omega)
    have hmax : maxV f ls (j + 1) = if 0 < f (ls.getD (j + 1) Lk.R.zero) (maxV f ls j) then ls.getD (j + 1) Lk.R.zero else maxV f ls j := rfl
    refine ⟨?_, fun b hb => ?_⟩
    · rw [hmax]
      split
      · exact ⟨j + 1, Nat.le_refl _, rfl⟩
      · exact ⟨b', by omega, hm⟩
    · rw [hmax]
      cases hp : pickV via S L ls (j + 1) with
      | none =>
        rw [pick_first hp] at hb
        by_cases hc : 0 < cntV via L (ls.getD (j + 1) Lk.R.zero).ad
        · rw [if_pos (by simpa using hc)] at hb
          cases hb
          rw [if_pos]
          rw [hm]
          exact (hf b' (j + 1) (by omega) h).2 (gain_bet (by rw [pick_none hp b' (by omega)]; exact hc))
        · rw [if_neg (by simpa using hc)] at hb; cases hb
      | some c =>
        have h1 := ih c hp
        have h2 := pick_lt hp
        rw [pick_next hp] at hb
        rw [h1]
        by_cases hbt : betV via S L (ls.getD (j + 1) Lk.R.zero) (ls.getD c Lk.R.zero) = true
        · have h3 := bet_gain hbt
          rw [if_pos (by rw [hbt, decide_eq_true (by omega)]; rfl)] at hb
          cases hb
          rw [if_pos ((hf c (j + 1) h2.1 h).2 hbt)]
        · rw [if_neg (by intro e; rw [Bool.and_eq_true] at e; exact hbt e.2)] at hb
          cases hb
          rw [if_neg (fun e => hbt ((hf b (j + 1) h2.1 h).1 e))]
/-- Links rise. -/
theorem links_up {ls : List Lk.R} (h : Ln.linksB ls = true) : ∀ j i, i < j → j < ls.length → (ls.getD i Lk.R.zero).ad < (ls.getD j Lk.R.zero).ad
  | 0, i, hi, _ => by omega
  | j + 1, i, hi, hj => by
    have h1 := Ri.rises1 h hj
    by_cases e : i = j
    · subst e; exact h1
    · have := links_up h j i (by omega) (by omega)
      exact Int.lt_trans this h1
theorem links_nodup {ls : List Lk.R} (h : Ln.linksB ls = true) : (ls.map (·.ad)).Nodup := by
  rw [List.Nodup, List.pairwise_iff_getElem]
  intro i j hi hj hij
  simp only [List.length_map] at hi hj
  rw [List.getElem_map, List.getElem_map]
  have := links_up h j i hij hj
  rw [List.getD_eq_getElem?_getD, List.getD_eq_getElem?_getD, List.getElem?_eq_getElem hi, List.getElem?_eq_getElem hj] at this
  simp only [Option.getD_some] at this
  omega
theorem sub_nodup {ls : List Lk.R} (h : Ln.linksB ls = true) (p : Lk.R → Bool) : ((ls.filter p).map (·.ad)).Nodup := (links_nodup h).sublist (List.Sublist.map _ List.filter_sublist)
theorem sub_rng {ls : List Lk.R} (h : Ln.linksB ls = true) (p : Lk.R → Bool) : ∀ a ∈ (ls.filter p).map (·.ad), 1 ≤ a ∧ a ≤ 8 := by
  intro a ha
  obtain ⟨m, hm, rfl⟩ := List.mem_map.1 ha
  obtain ⟨i, hi, e⟩ := List.getElem_of_mem (List.mem_filter.1 hm).1
  have := Ln.ok_ad (Ri.all_ok h hi)
  rw [List.getD_eq_getElem?_getD, List.getElem?_eq_getElem hi, e] at this
  exact this
theorem via_nodup {ms : List Tu.R} {ls : List Lk.R} {now z : Int} (h : Ln.linksB ls = true) : (viaF ms ls now z).Nodup := by
  unfold viaF viaL; rw [List.take_length]; exact sub_nodup h _
theorem alw_nodup {ls : List Lk.R} {now : Int} (h : Ln.linksB ls = true) : (alwV ls now ls.length).Nodup := by
  unfold alwV; rw [List.take_length]; exact sub_nodup h _
theorem alw_rng {ls : List Lk.R} {now : Int} (h : Ln.linksB ls = true) : ∀ a ∈ alwV ls now ls.length, 1 ≤ a ∧ a ≤ 8 := by
  unfold alwV; rw [List.take_length]; exact sub_rng h _
/-- Those that alone reach one: who they are. -/
theorem one_mem {via : Int → List Int} {out : List Int} {z a : Int} : a ∈ oneS via out z ↔ a ∈ out ∨ ((via z).length = 1 ∧ a = (via z).getD 0 0) := by
  unfold oneS oneB
  by_cases h1 : (via z).length = 1
  · cases h2 : out.contains ((via z).getD 0 0)
    · rw [if_pos (by rw [h1]; rfl), List.mem_append, List.mem_singleton]
      exact ⟨fun h => h.imp id (fun e => ⟨h1, e⟩), fun h => h.imp id (fun e => e.2)⟩
    · rw [if_neg (by simp)]
      constructor
      · exact fun h => .inl h
      · rintro (h | ⟨_, rfl⟩)
        · exact h
        · exact List.contains_iff_mem.1 h2
  · rw [if_neg (by simp [h1])]
    exact ⟨fun h => .inl h, fun h => h.elim id (fun e => absurd e.1 h1)⟩
theorem ones_mem {via : Int → List Int} {a : Int} : ∀ {S out : List Int}, a ∈ onesV via S out ↔ a ∈ out ∨ ∃ z ∈ S, (via z).length = 1 ∧ a = (via z).getD 0 0
  | [], out => by simp [onesV]
  | z :: t, out => by
    have : onesV via (z :: t) out = onesV via t (oneS via out z) := rfl
    rw [this, ones_mem, one_mem]
    constructor
    · rintro ((h | h) | ⟨y, hy, h⟩)
      · exact .inl h
      · exact .inr ⟨z, by simp, h⟩
      · exact .inr ⟨y, by simp [hy], h⟩
    · rintro (h | ⟨y, hy, h⟩)
      · exact .inl (.inl h)
      · rcases List.mem_cons.1 hy with rfl | hy
        · exact .inl (.inr h)
        · exact .inr ⟨y, hy, h⟩
theorem one_nodup {via : Int → List Int} {out : List Int} {z : Int} (h : out.Nodup) : (oneS via out z).Nodup := by
  unfold oneS oneB
  split
  · rename_i h2
    rw [Bool.and_eq_true] at h2
    rw [List.nodup_append]
    refine ⟨h, by simp, fun a ha b hb e => ?_⟩
    rw [List.mem_singleton] at hb
    subst hb e
    have := h2.2
    rw [List.contains_iff_mem.2 ha] at this
    cases this
  · exact h
theorem ones_nodup {via : Int → List Int} : ∀ {S out : List Int}, out.Nodup → (onesV via S out).Nodup
  | [], out, h => h
  | z :: t, out, h => ones_nodup (S := t) (one_nodup h)
theorem lone_len {S : List Int} {via : Int → List Int} {i : Nat} (hn : (via i).Nodup) (hr : ∀ a ∈ via i, 1 ≤ a ∧ a ≤ 8) (hS : S.contains (i : Int) = true) : (strN (vB S via i) 8).length = (via i).length := by
  have h1 := sort_str hn hr
  have h2 := sort_len (via i) (via i).length (Nat.le_refl _)
  rw [List.take_length, h1] at h2
  rw [← h2]
  congr 1
  exact str_same (fun z _ _ => by unfold vB; rw [hS]; rfl)
theorem oB_iff {S : List Int} {via : Int → List Int} {a : Int} (hS : ∀ z ∈ S, 1 ≤ z ∧ z ≤ 8) (hn : ∀ z, (via z).Nodup) (hr : ∀ z, ∀ a ∈ via z, 1 ≤ a ∧ a ≤ 8) : oB S via 9 a = true ↔ ∃ z ∈ S, (via z).length = 1 ∧ a = (via z).getD 0 0 := by
  have key : ∀ z : Int, (via z).length = 1 → (a ∈ via z ↔ a = (via z).getD 0 0) := fun z h => by
    obtain ⟨b, hb⟩ := List.length_eq_one_iff.1 h
    rw [hb]; simp
  unfold oB
  rw [List.any_eq_true]
  constructor
  · rintro ⟨i, hi, h⟩
    rw [Bool.and_eq_true] at h
    have hv := h.2
    unfold vB at hv
    rw [Bool.and_eq_true] at hv
    have hl : (via i).length = 1 := by
      rw [← lone_len (hn i) (hr i) hv.1]
      have := h.1
      unfold lone at this
      exact eq_of_beq this
    exact ⟨i, List.contains_iff_mem.1 hv.1, hl, (key i hl).1 (List.contains_iff_mem.1 hv.2)⟩
  · rintro ⟨z, hz, hl, ha⟩
    have hz8 := hS z hz
    obtain ⟨i, rfl⟩ : ∃ i : Nat, z = (i : Int) := ⟨z.toNat, by omega⟩
    have hc := List.contains_iff_mem.2 hz
    refine ⟨i, List.mem_range.2 (by omega), ?_⟩
    rw [Bool.and_eq_true]
    refine ⟨?_, ?_⟩
    · unfold lone; rw [lone_len (hn _) (hr _) hc, hl]; rfl
    · unfold vB; rw [hc, List.contains_iff_mem.2 ((key _ hl).2 ha)]; rfl
theorem ones_group {S : List Int} {via : Int → List Int} {A : List Int} (hS : ∀ z ∈ S, 1 ≤ z ∧ z ≤ 8) (hn : ∀ z, (via z).Nodup) (hr : ∀ z, ∀ a ∈ via z, 1 ≤ a ∧ a ≤ 8) : bits .or .u16 (gL A : Int) (gN (oB S via 9) : Int) = (gL (onesV via S A) : Int) := by
  unfold gL; rw [or_int]; congr 1
  refine gN_congr (fun a _ _ => ?_)
  rw [Bool.eq_iff_iff, Bool.or_eq_true, List.contains_iff_mem, List.contains_iff_mem, oB_iff hS hn hr, ones_mem]
theorem left_group {S : List Int} {via : Int → List Int} {r : List Int} (hr : ∀ z, ∀ a ∈ via z, 1 ≤ a ∧ a ≤ 8) : bits .andNot .u16 (gL S : Int) (gN (reB S via (strN (fun a => r.contains a) 8)) : Int) = (gL (leftV via S r) : Int) := by
  unfold gL; rw [not_int]; congr 1
  refine gN_congr (fun z _ _ => ?_)
  rw [re_any (hr z), any_has, Bool.eq_iff_iff, List.contains_iff_mem]
  unfold leftV hitV
  rw [List.mem_filter, ← List.contains_iff_mem]
  cases S.contains z <;> simp
theorem left_sub {S : List Int} {via : Int → List Int} {r : List Int} {z : Int} (h : z ∈ leftV via S r) : z ∈ S := (List.mem_filter.1 h).1
theorem less_group {S : List Int} {via : Int → List Int} {r : List Int} {i : Nat} : bits .andNot .u16 (gL (leftV via S r) : Int) (rN S via i : Int) = (gL (leftV via S (r ++ [(i : Int)])) : Int) := by
  unfold gL rN; rw [not_int]; congr 1
  refine gN_congr (fun z _ _ => ?_)
  rw [left_app, Bool.eq_iff_iff, List.contains_iff_mem, List.mem_filter, Bool.and_eq_true, List.contains_iff_mem]
  unfold rB
  constructor
  · rintro ⟨h1, h2⟩
    rw [List.contains_iff_mem.2 (left_sub h1)] at h2
    exact ⟨h1, by simpa using h2⟩
  · rintro ⟨h1, h2⟩
    refine ⟨h1, ?_⟩
    rw [List.contains_iff_mem.2 (left_sub h1)]
    simpa using h2
/-- Gain and degree, counted by bits. -/
theorem gain_count {cd : Int → Bool} {via : Int → List Int} {r : List Int} {a : Int} : (strN (fun z => rB (strN cd 8) via a z && (leftV via (strN cd 8) r).contains z) 8).length = cntV via (leftV via (strN cd 8) r) a := by
  unfold cntV
  have e : leftV via (strN cd 8) r = strN (fun z => cd z && !hitV via r z) 8 := by unfold leftV; exact str_filter _ _ _
  rw [e, str_filter]
  congr 1
  refine str_same (fun z h1 h2 => ?_)
  have h3 : ∀ p : Int → Bool, (strN p 8).contains z = p z := fun p => by
    rw [Bool.eq_iff_iff, List.contains_iff_mem, str_mem]
    exact ⟨fun h => h.2.2, fun h => ⟨h1, h2, h⟩⟩
  unfold rB
  rw [h3, h3]
  cases cd z <;> cases (via z).contains a <;> cases hitV via r z <;> rfl
theorem deg_count {cd : Int → Bool} {via : Int → List Int} {a : Int} : (strN (rB (strN cd 8) via a) 8).length = cntV via (strN cd 8) a := by
  unfold cntV
  rw [str_filter]
  congr 1
  refine str_same (fun z h1 h2 => ?_)
  unfold rB
  have : (strN cd 8).contains z = cd z := by
    rw [Bool.eq_iff_iff, List.contains_iff_mem, str_mem]
    exact ⟨fun h => h.2.2, fun h => ⟨h1, h2, h⟩⟩
  rw [this]
/-- One that reaches some that are left is no relay yet. -/
theorem gain_new {via : Int → List Int} {S r : List Int} {a : Int} (h : 0 < cntV via (leftV via S r) a) : a ∉ r := by
  intro ha
  unfold cntV at h
  obtain ⟨z, hz⟩ := List.exists_mem_of_length_pos h
  rw [List.mem_filter] at hz
  have h2 := (List.mem_filter.1 hz.1).2
  unfold hitV at h2
  rw [List.any_eq_true.2 ⟨a, ha, hz.2⟩] at h2
  cases h2
theorem app_nodup {r : List Int} {a : Int} (h : r.Nodup) (ha : a ∉ r) : (r ++ [a]).Nodup := by
  rw [List.nodup_append]
  refine ⟨h, by simp, fun x hx y hy e => ?_⟩
  rw [List.mem_singleton] at hy
  subst hy e; exact ha hx
theorem gL_list {r : List Int} (hn : r.Nodup) (hr : ∀ a ∈ r, 1 ≤ a ∧ a ≤ 8) : strN (hasB (gL r)) 8 = sortV r := by
  rw [sort_str hn hr]
  refine str_same (fun z h1 h2 => ?_)
  unfold gL
  rw [has_gN]
  unfold inB
  rw [decide_eq_true h1, decide_eq_true h2]; rfl
theorem gL_zero {L : List Int} (h : ∀ z ∈ L, 1 ≤ z ∧ z ≤ 8) : gL L = 0 ↔ L.length = 0 := by
  unfold gL
  rw [gN_zero, str_zero, List.length_eq_zero_iff]
  constructor
  · intro hh
    cases L with
    | nil => rfl
    | cons x t =>
      have h1 := h x (by simp)
      have := hh x h1.1 h1.2
      simp at this
  · rintro rfl z _ _; rfl
end Gp
end Go.Proofs.YtffclijcfngeeaaGreat
namespace Go.Proofs.YtffclijcfngeeaaGreat
open Go.ChangeShapes Go.WideShapes Go.ChangeAt Go.RowKit
set_option linter.unusedVariables false
set_option linter.unusedSimpArgs false
attribute [local go_sem ↓] Go.wp_at_zero Go.wp_at_succ
namespace Gp
open W1 Tu St Tw Mr
set_option maxHeartbeats 1000000 in
theorem compare (x y : Int) (w : World) : Calls Tryz.prog 201 #[.int .i64 x, .int .i64 y] w fun e w' => e = .returned (.int .i64 (cmpV x y)) ∧ w' = w := by
  by_cases h1 : x < y
  · rw [show cmpV x y = -1 by unfold cmpV; rw [if_pos h1]]
    go_enter Tryz.func201, Tryz.ntmps201
    go_wp2
    go_ret
    exact ⟨rfl, rfl⟩
  by_cases h2 : y < x
  · rw [show cmpV x y = 1 by unfold cmpV; rw [if_neg h1, if_pos h2]]
    go_enter Tryz.func201, Tryz.ntmps201
    go_wp2
    go_ret
    exact ⟨rfl, rfl⟩
  · rw [show cmpV x y = 0 by unfold cmpV; rw [if_neg h1, if_neg h2]]
    go_enter Tryz.func201, Tryz.ntmps201
    go_wp2
    go_ret
    exact ⟨rfl, rfl⟩
theorem or_drop {zs : List Int} {j : Nat} (h : j < zs.length) : orV (zs.drop j) = if zs.getD j 0 = 0 then orV (zs.drop (j + 1)) else zs.getD j 0 := by
  rw [List.drop_eq_getElem_cons h, List.getD_eq_getElem?_getD, List.getElem?_eq_getElem h]; rfl
set_option maxHeartbeats 2000000 in
theorem cmpOr (a : Option Addr) (zs : List Int) (cap : Nat) (w : World) (hm : zs.length ≤ 64) (hr : In.RM w a zs) :
    Calls Tryz.prog 200 #[.slice a zs.length cap] w fun e w' => e = .returned (.int .i64 (orV zs)) ∧ w' = w := by
  have HR := hide hr
  clear hr
  generalize hN : zs.length = n at *
  have HN := hide hN
  clear hN
  go_enter Tryz.func200, Tryz.ntmps200
  go_wp2_with fail
  go_loopw [8] (fun i wr => w = wr ∧ ∃ j : Nat, j ≤ n ∧ i = .int .i64 j ∧ Hid (orV zs = orV (zs.drop j))) (fun i _ => n - (intOf i).toNat)
  case atStart => exact ⟨rfl, 0, by omega, rfl, hide rfl⟩
  case round =>
    obtain ⟨rfl, j, hj, rfl, ho⟩ := hrel
    by_cases hlt : (j : Int) < (n : Int)
    · have k0 : (0 : Int) ≤ (j : Int) := by omega
      have hlen : j < zs.length := by rw [unhide HN]; omega
      rcases unhide HR with e0 | ⟨g, off, rfl, hc⟩
      · exfalso; rw [e0] at hlen; simp at hlen
      have c0 := hc j hlen
      clear hc
      have HT := hide (or_drop hlen)
      generalize zs.getD j 0 = y at *
      by_cases hy : y = 0
      · have HE : Hid (orV zs = orV (zs.drop (j + 1))) := hide (by rw [unhide ho, unhide HT, if_pos hy])
        subst hy
        go_wp2_with fail
        go_roundw
        case rel => exact ⟨by first | trivial | rfl, j + 1, by omega, by go_num, HE⟩
        case measure => simp [intOf]; omega
      · have HE : Hid (y = orV zs) := hide (by rw [unhide ho, unhide HT, if_neg hy])
        have hy2 : (y != 0) = true := by simpa using hy
        go_wp2_with fail
        go_ret
        exact ⟨ret_int (unhide HE), rfl⟩
    · obtain rfl : j = n := by omega
      have HE : Hid (0 = orV zs) := hide (by have := unhide ho; rw [← unhide HN, List.drop_length] at this; exact this.symm)
      go_wp2_with fail
      go_ret
      exact ⟨ret_int (unhide HE), rfl⟩
theorem rm_new4 (w : World) (a b c d : Int) : In.RM (w.alloc (.cells #[.int .i64 a, .int .i64 b, .int .i64 c, .int .i64 d] 3)) (some ⟨w.heap.size, 0, none⟩) [a, b, c, d] := by
  refine .inr ⟨_, _, rfl, fun i hi => ?_⟩
  rw [World.cell?_alloc_new]
  match i, hi with
  | 0, _ | 1, _ | 2, _ | 3, _ => rfl
  | n + 4, h => simp at h; omega
/-- Gain and degree as the program counts them. -/
def glB (S : List Int) (via : Int → List Int) (L : List Int) (a z : Int) : Bool := rB S via a z && L.contains z
def gnV (S : List Int) (via : Int → List Int) (L : List Int) (a : Int) : Int := ((strN (glB S via L a) 8).length : Int)
def dgV (S : List Int) (via : Int → List Int) (a : Int) : Int := ((strN (rB S via a) 8).length : Int)
theorem and_rL (S : List Int) (via : Int → List Int) (L : List Int) (q : Nat) : bits .and .u16 (rN S via q : Int) (gL L : Int) = (gN (glB S via L q) : Int) := and_int _ _
set_option maxRecDepth 100000 in
set_option maxHeartbeats 8000000 in
theorem byWorth (G lb : Nat) (s : Nat) (V : Nat → Nat) (S : List Int) (via : Int → List Int) (L : List Int) (x y : Lk.R) (w : World) (hx : 1 ≤ x.ad ∧ x.ad ≤ 8) (hy : 1 ≤ y.ad ∧ y.ad ≤ 8) (hg : GA w G s V (rN S via)) (hl : w.cell? ⟨lb, 0, none⟩ = some (.int .u16 (gL L))) :
    Calls Tryz.prog 199 #[x.value, y.value, .pointer (some ⟨G, 0, none⟩), .pointer (some ⟨lb, 0, none⟩)] w fun e w' => e = .returned (.int .i64 (worth (gnV S via L) (dgV S via) x y)) ∧ Below w.heap.size w w' := by
  have HG := hide hg
  have hlb := World.block_lt_of_cell? _ _ hl
  have HL := hide hl
  clear hg hl
  have e0 : worth (gnV S via L) (dgV S via) x y = orV [cmpV (gnV S via L x.ad) (gnV S via L y.ad), cmpV x.wl y.wl, cmpV (dgV S via x.ad) (dgV S via y.ad), cmpV y.ad x.ad] := rfl
  rw [e0]
  clear e0
  obtain ⟨xa, xh, xs, xi, xo, xw⟩ := x
  obtain ⟨ya, yh, ys, yi, yo, yw⟩ := y
  dsimp only at hx hy ⊢
  obtain ⟨qx, rfl⟩ : ∃ q : Nat, xa = (q : Int) := ⟨xa.toNat, by omega⟩
  obtain ⟨qy, rfl⟩ : ∃ q : Nat, ya = (q : Int) := ⟨ya.toNat, by omega⟩
  have hqx : qx < 9 := by omega
  have hqy : qy < 9 := by omega
  have qx0 : (0 : Int) ≤ (qx : Int) := by omega
  have qx9 : (qx : Int) < 9 := by omega
  have qy0 : (0 : Int) ≤ (qy : Int) := by omega
  have qy9 : (qy : Int) < 9 := by omega
  have hAx := and_rL S via L qx
  have hAy := and_rL S via L qy
  have HE1 : Hid (∀ q : Nat, rN S via q = gN (rB S via q)) := hide (fun _ => rfl)
  show Calls Tryz.prog 199 #[.agg #[.int .i64 (qx : Int), .int .i64 xh, .int .i64 xs, .int .i64 xi, .int .i64 xo, .int .i64 xw], .agg #[.int .i64 (qy : Int), .int .i64 yh, .int .i64 ys, .int .i64 yi, .int .i64 yo, .int .i64 yw], .pointer (some ⟨G, 0, none⟩), .pointer (some ⟨lb, 0, none⟩)] w _
  have HBx := hide (Ln.bx_new w ⟨(qx : Int), xh, xs, xi, xo, xw⟩ 140)
  have HBy := hide (Ln.bx_new (w.alloc (.cells #[.int .i64 (qx : Int), .int .i64 xh, .int .i64 xs, .int .i64 xi, .int .i64 xo, .int .i64 xw] 140)) ⟨(qy : Int), yh, ys, yi, yo, yw⟩ 140)
  have P1 := hide ((Below.refl w.heap.size w).alloc (Nat.le_refl _) (.cells #[.int .i64 (qx : Int), .int .i64 xh, .int .i64 xs, .int .i64 xi, .int .i64 xo, .int .i64 xw] 140))
  have P2 := hide ((unhide P1).alloc (unhide P1).size (.cells #[.int .i64 (qy : Int), .int .i64 yh, .int .i64 ys, .int .i64 yi, .int .i64 yo, .int .i64 yw] 140))
  go_enter Tryz.func199, Tryz.ntmps199
  go_wp2_with fail
  have HG2 := hide ((unhide HG).below (unhide P2))
  have HL2 : Hid (((w.alloc (.cells #[.int .i64 (qx : Int), .int .i64 xh, .int .i64 xs, .int .i64 xi, .int .i64 xo, .int .i64 xw] 140)).alloc (.cells #[.int .i64 (qy : Int), .int .i64 yh, .int .i64 ys, .int .i64 yi, .int .i64 yo, .int .i64 yw] 140)).cell? ⟨lb, 0, none⟩ = some (.int .u16 (gL L))) := hide (((unhide P2).cell (p := ⟨lb, 0, none⟩) hlb).trans (unhide HL))
  have HX2 := hide ((unhide HBx).below ((Below.refl _ _).alloc (Nat.le_refl _) (.cells #[.int .i64 (qy : Int), .int .i64 yh, .int .i64 ys, .int .i64 yi, .int .i64 yo, .int .i64 yw] 140)))
  rw [World.size_alloc] at HBy
  generalize hw2 : (w.alloc (.cells #[.int .i64 (qx : Int), .int .i64 xh, .int .i64 xs, .int .i64 xi, .int .i64 xo, .int .i64 xw] 140)).alloc (.cells #[.int .i64 (qy : Int), .int .i64 yh, .int .i64 ys, .int .i64 yi, .int .i64 yo, .int .i64 yw] 140) = w2 at *
  clear hw2 P1 HBx HG HL
  have HS : Hid (∀ w', Below w2.heap.size w2 w' → w'.cell? ⟨w.heap.size, 0, none⟩ = some (.int .i64 (qx : Int)) ∧ w'.cell? ⟨w.heap.size, 5, none⟩ = some (.int .i64 xw) ∧ w'.cell? ⟨w.heap.size + 1, 0, none⟩ = some (.int .i64 (qy : Int)) ∧ w'.cell? ⟨w.heap.size + 1, 5, none⟩ = some (.int .i64 yw) ∧ w'.cell? ⟨G, 10 + qx, none⟩ = some (.int .u16 (rN S via qx)) ∧ w'.cell? ⟨G, 10 + qy, none⟩ = some (.int .u16 (rN S via qy)) ∧ w'.cell? ⟨lb, 0, none⟩ = some (.int .u16 (gL L))) := hide (fun w' hb => by
    obtain ⟨x0, x1, x2, x3, x4, x5⟩ := (unhide HX2).below hb
    obtain ⟨y0, y1, y2, y3, y4, y5⟩ := (unhide HBy).below hb
    have h2 := hb.cell (p := ⟨lb, 0, none⟩) (World.block_lt_of_cell? _ _ (unhide HL2))
    exact ⟨x0, x5, y0, y5, (((unhide HG2).below hb).r hqx).1, (((unhide HG2).below hb).r hqy).1, h2.trans (unhide HL2)⟩)
  clear HX2 HBy HG2 HL2
  have hRx := unhide HE1 qx
  have hRy := unhide HE1 qy
  have egx : gnV S via L (qx : Int) = ((strN (glB S via L qx) 8).length : Int) := rfl
  have egy : gnV S via L (qy : Int) = ((strN (glB S via L qy) 8).length : Int) := rfl
  have edx : dgV S via (qx : Int) = ((strN (rB S via qx) 8).length : Int) := rfl
  have edy : dgV S via (qy : Int) = ((strN (rB S via qy) 8).length : Int) := rfl
  have HGX := hide egx
  have HGY := hide egy
  have HDX := hide edx
  have HDY := hide edy
  have HRX := hide hRx
  have HRY := hide hRy
  clear egx egy edx edy hRx hRy HE1
  have B2 : Below w2.heap.size w2 w2.drew := (Below.refl _ _).drew
  refine wp_region_noPanic ?_
  refine wp_region_held_drew (S := fun w' => w'.cell? ⟨w.heap.size, 0, none⟩ = some (.int .i64 (qx : Int)) ∧ w'.cell? ⟨w.heap.size, 5, none⟩ = some (.int .i64 xw) ∧ w'.cell? ⟨w.heap.size + 1, 0, none⟩ = some (.int .i64 (qy : Int)) ∧ w'.cell? ⟨w.heap.size + 1, 5, none⟩ = some (.int .i64 yw) ∧ w'.cell? ⟨G, 10 + qx, none⟩ = some (.int .u16 (rN S via qx)) ∧ w'.cell? ⟨G, 10 + qy, none⟩ = some (.int .u16 (rN S via qy)) ∧ w'.cell? ⟨lb, 0, none⟩ = some (.int .u16 (gL L))) (by kernel_rfl) (unhide HS _ B2) (fun hHeld => ?_)
  refine Rg.t 0 7 ?_
  refine Rg.t 1 8 ?_
  refine Rg.t 2 9 ?_
  refine Rg.t 3 10 ?_
  refine Rg.t 4 11 ?_
  refine Rg.t 5 12 ?_
  refine Rg.t 6 13 ?_
  refine Rg.t 8 15 ?_
  refine Rg.t 9 16 ?_
  refine Rg.t 10 17 ?_
  refine Rg.t 11 18 ?_
  refine Rg.t 12 19 ?_
  refine Rg.t 13 20 ?_
  refine Rg.t 14 21 ?_
  refine Rg.t 17 24 ?_
  refine Rg.t 18 25 ?_
  refine Rg.t 19 26 ?_
  refine Rg.t 20 27 ?_
  refine Rg.t 22 29 ?_
  refine Rg.t 23 30 ?_
  refine Rg.t 24 31 ?_
  refine Rg.t 25 32 ?_
  refine Rg.t 26 33 ?_
  refine Rg.t 28 35 ?_
  refine Rg.t 29 36 ?_
  refine Rg.t 30 37 ?_
  refine Rg.t 31 38 ?_
  refine Rg.t 32 39 ?_
  refine Rg.t 35 42 ?_
  refine Rg.t 36 43 ?_
  refine Rg.t 37 44 ?_
  refine Rg.t 38 45 ?_
  (refine Rg.o 7 (fun K hK => ?_); go_simp)
  refine (count _ _).mono ?_
  rintro e v3 ⟨rfl, m3, hv3⟩
  have B3 : Below w2.heap.size w2 v3 := by rw [hv3]; exact B2.trans ((below_dN' _ m3).mono B2.size)
  clear hv3 hHeld
  refine hK.out _ _ (unhide HS _ B3) (fun hHeld => ?_)
  clear hK K
  (try simp only [Act.put, List.setIfInBounds_toArray, List.set_cons_zero, List.set_cons_succ])
  (refine Rg.o 15 (fun K hK => ?_); go_simp)
  refine (count _ _).mono ?_
  rintro e v4 ⟨rfl, m4, hv4⟩
  have B4 : Below w2.heap.size w2 v4 := by rw [hv4]; exact B3.trans ((below_dN' _ m4).mono B3.size)
  clear hv4 hHeld
  refine hK.out _ _ (unhide HS _ B4) (fun hHeld => ?_)
  clear hK K
  (try simp only [Act.put, List.setIfInBounds_toArray, List.set_cons_zero, List.set_cons_succ])
  (refine Rg.o 16 (fun K hK => ?_); go_simp)
  refine (compare _ _ _).mono ?_
  rintro e v5 ⟨rfl, hv5⟩
  have B5 : Below w2.heap.size w2 v5 := by rw [hv5]; exact B4
  clear hv5 hHeld
  refine hK.out _ _ (unhide HS _ B5) (fun hHeld => ?_)
  clear hK K
  (try simp only [Act.put, List.setIfInBounds_toArray, List.set_cons_zero, List.set_cons_succ])
  (refine Rg.o 21 (fun K hK => ?_); go_simp)
  refine (compare _ _ _).mono ?_
  rintro e v6 ⟨rfl, hv6⟩
  have B6 : Below w2.heap.size w2 v6 := by rw [hv6]; exact B5
  clear hv6 hHeld
  refine hK.out _ _ (unhide HS _ B6) (fun hHeld => ?_)
  clear hK K
  (try simp only [Act.put, List.setIfInBounds_toArray, List.set_cons_zero, List.set_cons_succ])
  (refine Rg.o 27 (fun K hK => ?_); go_simp)
  refine (count (rB S via qx) _).mono ?_
  rintro e v7 ⟨rfl, m7, hv7⟩
  have B7 : Below w2.heap.size w2 v7 := by rw [hv7]; exact B6.trans ((below_dN' _ m7).mono B6.size)
  clear hv7 hHeld
  refine hK.out _ _ (unhide HS _ B7) (fun hHeld => ?_)
  clear hK K
  (try simp only [Act.put, List.setIfInBounds_toArray, List.set_cons_zero, List.set_cons_succ])
  (refine Rg.o 33 (fun K hK => ?_); go_simp)
  refine (count (rB S via qy) _).mono ?_
  rintro e v8 ⟨rfl, m8, hv8⟩
  have B8 : Below w2.heap.size w2 v8 := by rw [hv8]; exact B7.trans ((below_dN' _ m8).mono B7.size)
  clear hv8 hHeld
  refine hK.out _ _ (unhide HS _ B8) (fun hHeld => ?_)
  clear hK K
  (try simp only [Act.put, List.setIfInBounds_toArray, List.set_cons_zero, List.set_cons_succ])
  (refine Rg.o 34 (fun K hK => ?_); go_simp)
  refine (compare _ _ _).mono ?_
  rintro e v9 ⟨rfl, hv9⟩
  have B9 : Below w2.heap.size w2 v9 := by rw [hv9]; exact B8
  clear hv9 hHeld
  refine hK.out _ _ (unhide HS _ B9) (fun hHeld => ?_)
  clear hK K
  (try simp only [Act.put, List.setIfInBounds_toArray, List.set_cons_zero, List.set_cons_succ])
  (refine Rg.o 39 (fun K hK => ?_); go_simp)
  refine (compare _ _ _).mono ?_
  rintro e v10 ⟨rfl, hv10⟩
  have B10 : Below w2.heap.size w2 v10 := by rw [hv10]; exact B9
  clear hv10 hHeld
  refine hK.out _ _ (unhide HS _ B10) (fun hHeld => ?_)
  clear hK K
  (try simp only [Act.put, List.setIfInBounds_toArray, List.set_cons_zero, List.set_cons_succ])
  (refine Rg.o 40 (fun K hK => ?_); go_simp)
  have B11 := B10.alloc B10.size (.cells #[.int .i64 (cmpV (strN (glB S via L qx) 8).length (strN (glB S via L qy) 8).length), .int .i64 (cmpV xw yw), .int .i64 (cmpV (strN (rB S via qx) 8).length (strN (rB S via qy) 8).length), .int .i64 (cmpV (qy : Int) (qx : Int))] 3)
  have HRN := hide (rm_new4 v10 (cmpV (strN (glB S via L qx) 8).length (strN (glB S via L qy) 8).length) (cmpV xw yw) (cmpV (strN (rB S via qx) 8).length (strN (rB S via qy) 8).length) (cmpV (qy : Int) (qx : Int)))
  clear hHeld
  refine hK.out _ _ (unhide HS _ B11) (fun hHeld => ?_)
  clear hK K
  (try simp only [Act.put, List.setIfInBounds_toArray, List.set_cons_zero, List.set_cons_succ])
  (refine Rg.o 41 (fun K hK => ?_); go_simp)
  refine (cmpOr _ [_, _, _, _] _ _ (by simp) (unhide HRN)).mono ?_
  rintro e v12 ⟨rfl, hv12⟩
  have B12 : Below w2.heap.size w2 v12 := by rw [hv12]; exact B11
  clear hv12 hHeld
  refine hK.out _ _ (unhide HS _ B12) (fun hHeld => ?_)
  clear hK K
  (try simp only [Act.put, List.setIfInBounds_toArray, List.set_cons_zero, List.set_cons_succ])
  refine Rg.t 42 6 ?_
  refine wpAnyH_done (by kernel_rfl) (NoPanic.normal ?_) _
  clear hHeld
  have HBF := hide ((unhide P2).trans (B12.mono (unhide P2).size))
  have HRF : Hid (orV [cmpV (strN (glB S via L qx) 8).length (strN (glB S via L qy) 8).length, cmpV xw yw, cmpV (strN (rB S via qx) 8).length (strN (rB S via qy) 8).length, cmpV (qy : Int) (qx : Int)] = orV [cmpV (gnV S via L (qx : Int)) (gnV S via L (qy : Int)), cmpV xw yw, cmpV (dgV S via (qx : Int)) (dgV S via (qy : Int)), cmpV (qy : Int) (qx : Int)]) := hide rfl
  go_wp2_with fail
  go_ret
  exact ⟨ret_int (unhide HRF), unhide HBF⟩
end Gp
end Go.Proofs.YtffclijcfngeeaaGreat
namespace Go.Proofs.YtffclijcfngeeaaGreat
open Go.ChangeShapes Go.WideShapes Go.ChangeAt Go.RowKit
set_option linter.unusedVariables false
set_option linter.unusedSimpArgs false
attribute [local go_sem ↓] Go.wp_at_zero Go.wp_at_succ
namespace Gp
open W1 Tu St Tw Mr
/-- A link in a block of its own, which may be written. -/
def BF (w : World) (b : Nat) (m : Lk.R) : Prop := (w.cell? ⟨b, 0, none⟩ = some (.int .i64 m.ad) ∧ w.cell? ⟨b, 1, none⟩ = some (.int .i64 m.hd) ∧ w.cell? ⟨b, 2, none⟩ = some (.int .i64 m.sy) ∧ w.cell? ⟨b, 3, none⟩ = some (.int .i64 m.ci) ∧ w.cell? ⟨b, 4, none⟩ = some (.int .i64 m.co) ∧ w.cell? ⟨b, 5, none⟩ = some (.int .i64 m.wl)) ∧ ∀ k, w.frozen? ⟨b, k, none⟩ = false
theorem BF.lt {w : World} {b : Nat} {m : Lk.R} (h : BF w b m) : b < w.heap.size := World.block_lt_of_cell? _ _ h.1.1
theorem BF.under {w w' : World} {B b : Nat} {m : Lk.R} (h : BF w b m) (hb : Below B w w') (hg : b < B) : BF w' b m := by
  obtain ⟨⟨h0, h1, h2, h3, h4, h5⟩, hf⟩ := h
  exact ⟨⟨(hb.cell (p := ⟨b, 0, none⟩) hg).trans h0, (hb.cell (p := ⟨b, 1, none⟩) hg).trans h1, (hb.cell (p := ⟨b, 2, none⟩) hg).trans h2, (hb.cell (p := ⟨b, 3, none⟩) hg).trans h3, (hb.cell (p := ⟨b, 4, none⟩) hg).trans h4, (hb.cell (p := ⟨b, 5, none⟩) hg).trans h5⟩, fun k => (hb.frozen (p := ⟨b, k, none⟩) hg).trans (hf k)⟩
theorem BF.below {w w' : World} {b : Nat} {m : Lk.R} (h : BF w b m) (hb : Below w.heap.size w w') : BF w' b m := h.under hb h.lt
theorem bf_new (w : World) (m : Lk.R) (t : Nat) : BF (w.alloc (.cells #[.int .i64 m.ad, .int .i64 m.hd, .int .i64 m.sy, .int .i64 m.ci, .int .i64 m.co, .int .i64 m.wl] t)) w.heap.size m := by
  have hb : (w.alloc (.cells #[.int .i64 m.ad, .int .i64 m.hd, .int .i64 m.sy, .int .i64 m.ci, .int .i64 m.co, .int .i64 m.wl] t)).heap[w.heap.size]? = some (.cells #[.int .i64 m.ad, .int .i64 m.hd, .int .i64 m.sy, .int .i64 m.ci, .int .i64 m.co, .int .i64 m.wl] t) := heap_alloc_last w _
  refine ⟨⟨?_, ?_, ?_, ?_, ?_, ?_⟩, fun k => ?_⟩
  · rw [World.cell?_alloc_new]; rfl
  · rw [World.cell?_alloc_new]; rfl
  · rw [World.cell?_alloc_new]; rfl
  · rw [World.cell?_alloc_new]; rfl
  · rw [World.cell?_alloc_new]; rfl
  · rw [World.cell?_alloc_new]; rfl
  · unfold World.frozen?
    simp only [hb]
    simp
theorem BF.put {w : World} {b : Nat} {m : Lk.R} (h : BF w b m) (x : Lk.R) : BF (Lk.put w b 0 x) b x := by
  obtain ⟨⟨h0, h1, h2, h3, h4, h5⟩, hf⟩ := h
  have ha : Lk.At (Lk.put w b 0 x) b 0 x := Lk.put_at w b 0 x (fun k hk => by
    rw [Nat.zero_add]
    match k, hk with
    | 0, _ => rw [h0]; rfl
    | 1, _ => rw [h1]; rfl
    | 2, _ => rw [h2]; rfl
    | 3, _ => rw [h3]; rfl
    | 4, _ => rw [h4]; rfl
    | 5, _ => rw [h5]; rfl
    | n + 6, h => omega)
  exact ⟨ha, fun k => by rw [Lk.put_frozen]; exact hf k⟩
theorem put_eq (W : World) (b : Nat) (x : Lk.R) : Lk.put W b 0 x = (((((W.setCell ⟨b, 0, none⟩ (.int .i64 x.ad)).setCell ⟨b, 1, none⟩ (.int .i64 x.hd)).setCell ⟨b, 2, none⟩ (.int .i64 x.sy)).setCell ⟨b, 3, none⟩ (.int .i64 x.ci)).setCell ⟨b, 4, none⟩ (.int .i64 x.co)).setCell ⟨b, 5, none⟩ (.int .i64 x.wl) := by
  unfold Lk.put; simp only [Nat.zero_add]
theorem BF.put6 {W : World} {b : Nat} {m : Lk.R} (h : BF W b m) (x : Lk.R) : BF ((((((W.setCell ⟨b, 0, none⟩ (.int .i64 x.ad)).setCell ⟨b, 1, none⟩ (.int .i64 x.hd)).setCell ⟨b, 2, none⟩ (.int .i64 x.sy)).setCell ⟨b, 3, none⟩ (.int .i64 x.ci)).setCell ⟨b, 4, none⟩ (.int .i64 x.co)).setCell ⟨b, 5, none⟩ (.int .i64 x.wl)) b x := by rw [← put_eq]; exact h.put x
theorem below6 {B : Nat} {w0 W : World} {b : Nat} {x : Lk.R} (h : Below B w0 W) (hg : B ≤ b) : Below B w0 ((((((W.setCell ⟨b, 0, none⟩ (.int .i64 x.ad)).setCell ⟨b, 1, none⟩ (.int .i64 x.hd)).setCell ⟨b, 2, none⟩ (.int .i64 x.sy)).setCell ⟨b, 3, none⟩ (.int .i64 x.ci)).setCell ⟨b, 4, none⟩ (.int .i64 x.co)).setCell ⟨b, 5, none⟩ (.int .i64 x.wl)) := by rw [← put_eq]; exact Lk.put_below h hg
theorem size6 (W : World) (b : Nat) (x : Lk.R) : ((((((W.setCell ⟨b, 0, none⟩ (.int .i64 x.ad)).setCell ⟨b, 1, none⟩ (.int .i64 x.hd)).setCell ⟨b, 2, none⟩ (.int .i64 x.sy)).setCell ⟨b, 3, none⟩ (.int .i64 x.ci)).setCell ⟨b, 4, none⟩ (.int .i64 x.co)).setCell ⟨b, 5, none⟩ (.int .i64 x.wl)).heap.size = W.heap.size := by rw [← put_eq]; exact Lk.put_size _ _ _ _
theorem max_step {f : Lk.R → Lk.R → Int} {ls : List Lk.R} {j : Nat} : maxV f ls (j + 1) = if 0 < f (ls.getD (j + 1) Lk.R.zero) (maxV f ls j) then ls.getD (j + 1) Lk.R.zero else maxV f ls j := rfl
theorem max_mem {f : Lk.R → Lk.R → Int} {ls : List Lk.R} : ∀ j, ∃ b, b ≤ j ∧ maxV f ls j = ls.getD b Lk.R.zero
  | 0 => ⟨0, Nat.le_refl _, rfl⟩
  | j + 1 => by
    rw [max_step]
    split
    · exact ⟨j + 1, Nat.le_refl _, rfl⟩
    · obtain ⟨b, h1, h2⟩ := max_mem j; exact ⟨b, by omega, h2⟩
theorem infoLk : Tryz.prog.underlying 140 = some (Tryz.prog.underlying 140).get! ∧ ((Tryz.prog.underlying 140).get!).isRow = true ∧ (Tryz.prog.info? 140).map (·.size) = some 6 := ⟨by kernel_rfl, by kernel_rfl, by kernel_rfl⟩
theorem BF.range {w : World} {b : Nat} {m : Lk.R} (h : BF w b m) : w.rangeAt b 0 m.cells := fun j v hv => Lk.at_cells (m := m) (o := 0) h.1 j v hv
theorem resultsL {fn : Func} {p : Tmp} (h : fn.results = #[.cell p 140]) (tmps : Array Value) (w : World) {b : Nat} {m : Lk.R} (hp : tmps.getD p undef = .pointer (some ⟨b, 0, none⟩)) (hg : BF w b m) : (results fn tmps).run Tryz.prog w = .ok m.value w := by
  have hp' : tmps[p]?.getD undef = .pointer (some ⟨b, 0, none⟩) := by simpa using hp
  have hv : m.value = .agg m.cells.toArray := rfl
  rw [hv]
  simp only [results, h]
  simp [Sem.run_bind, hp', asAddr, run_loadVar_mid w b 0 140 m.cells _ hg.range infoLk.1 infoLk.2.1 infoLk.2.2, Result.andThen]
set_option maxRecDepth 100000 in
set_option maxHeartbeats 8000000 in
theorem maxFunc (a : Option Addr) (ls : List Lk.R) (cap : Nat) (G lb : Nat) (s : Nat) (V : Nat → Nat) (S : List Int) (via : Int → List Int) (L : List Int) (w : World) (h0 : 0 < ls.length) (h8 : ls.length ≤ 8) (hrg : ∀ i, i < ls.length → 1 ≤ (ls.getD i Lk.R.zero).ad ∧ (ls.getD i Lk.R.zero).ad ≤ 8) (hr : Lk.RM w a ls) (hg : GA w G s V (rN S via)) (hl : w.cell? ⟨lb, 0, none⟩ = some (.int .u16 (gL L))) :
    Calls Tryz.prog 203 #[.slice a ls.length cap, .func (.func 199) #[] #[.pointer (some ⟨G, 0, none⟩), .pointer (some ⟨lb, 0, none⟩)]] w fun e w' => e = .returned (maxV (worth (gnV S via L) (dgV S via)) ls (ls.length - 1)).value ∧ Below w.heap.size w w' := by
  have HR := hide hr
  have HG := hide hg
  have HL := hide hl
  have hlb := World.block_lt_of_cell? _ _ hl
  have HRG := hide hrg
  have HBW := hide (fun (x y : Lk.R) (W : World) h1 h2 h3 h4 => byWorth G lb s V S via L x y W h1 h2 h3 h4)
  clear hr hg hl hrg
  obtain ⟨f, hf⟩ : ∃ f, worth (gnV S via L) (dgV S via) = f := ⟨_, rfl⟩
  rw [hf] at HBW ⊢
  clear hf
  generalize hN : ls.length = n at *
  have HN := hide hN
  clear hN
  obtain ⟨g, off, rfl⟩ := (unhide HR).form (by rw [unhide HN]; exact h0)
  have PA := hide ((Below.refl w.heap.size w).alloc (Nat.le_refl _) (.cells #[.int .i64 0, .int .i64 0, .int .i64 0, .int .i64 0, .int .i64 0, .int .i64 0] 140))
  have h00 : Lk.At (w.alloc (.cells #[.int .i64 0, .int .i64 0, .int .i64 0, .int .i64 0, .int .i64 0, .int .i64 0] 140)) g off (ls.getD 0 Lk.R.zero) := by
    have := ((unhide HR).below (unhide PA)).at (i := 0) (by rw [unhide HN]; exact h0)
    rw [Nat.zero_mul, Nat.add_zero] at this; exact this
  obtain ⟨c0, c1, c2, c3, c4, c5⟩ := h00
  have hn1 : ¬ (n : Int) < 1 := by omega
  have hn0 : (0 : Int) < (n : Int) := by omega
  have HM0 : Hid (ls.getD 0 Lk.R.zero = maxV f ls 0) := hide rfl
  have HF0 : Hid (BF (w.alloc (.cells #[.int .i64 0, .int .i64 0, .int .i64 0, .int .i64 0, .int .i64 0, .int .i64 0] 140)) w.heap.size Lk.R.zero) := hide (bf_new w Lk.R.zero 140)
  have hmb : w.heap.size + 1 = (w.alloc (.cells #[.int .i64 0, .int .i64 0, .int .i64 0, .int .i64 0, .int .i64 0, .int .i64 0] 140)).heap.size := by simp
  generalize ls.getD 0 Lk.R.zero = m at *
  have HB1 := hide (bf_new (w.alloc (.cells #[.int .i64 0, .int .i64 0, .int .i64 0, .int .i64 0, .int .i64 0, .int .i64 0] 140)) m 140)
  have PB := hide ((unhide PA).alloc (unhide PA).size (.cells #[.int .i64 m.ad, .int .i64 m.hd, .int .i64 m.sy, .int .i64 m.ci, .int .i64 m.co, .int .i64 m.wl] 140))
  have HF1 := hide ((unhide HF0).below ((Below.refl _ _).alloc (Nat.le_refl _) (.cells #[.int .i64 m.ad, .int .i64 m.hd, .int .i64 m.sy, .int .i64 m.ci, .int .i64 m.co, .int .i64 m.wl] 140)))
  rw [← hmb] at HB1
  clear hmb
  go_enter Tryz.func203, Tryz.ntmps203
  go_wp2_with fail
  clear c0 c1 c2 c3 c4 c5 PA HF0
  generalize hw1 : (w.alloc (.cells #[.int .i64 0, .int .i64 0, .int .i64 0, .int .i64 0, .int .i64 0, .int .i64 0] 140)).alloc (.cells #[.int .i64 m.ad, .int .i64 m.hd, .int .i64 m.sy, .int .i64 m.ci, .int .i64 m.co, .int .i64 m.wl] 140) = w1 at *
  clear hw1
  obtain ⟨mb, hmb⟩ : ∃ mb, w.heap.size + 1 = mb := ⟨_, rfl⟩
  rw [hmb] at HB1 ⊢
  have hmw : w.heap.size < mb := by omega
  clear hmb
  rw [unhide HM0] at HB1
  clear HM0
  go_loopw [6] (fun i wr => ∃ t : Nat, 1 ≤ t ∧ t ≤ n ∧ i = .int .i64 (t : Int) ∧ Hid (BF wr mb (maxV f ls (t - 1))) ∧ Hid (Below mb w1 wr) ∧ Hid (mb < wr.heap.size)) (fun i _ => n - (intOf i).toNat)
  case atStart => exact ⟨1, Nat.le_refl _, by omega, rfl, HB1, hide (Below.refl _ _), hide (unhide HB1).lt⟩
  case round =>
    obtain ⟨t, ht1, htn, rfl, hbf, hbl, hms⟩ := hrel
    have HBW1 := hide ((unhide PB).trans ((unhide hbl).mono (Nat.le_of_lt hmw)))
    by_cases hlt : (t : Int) < (n : Int)
    · have k0 : (0 : Int) ≤ (t : Int) := by omega
      have hlen : t < ls.length := by rw [unhide HN]; omega
      have hmr := unhide HRG t (by omega)
      have hzr : 1 ≤ (maxV f ls (t - 1)).ad ∧ (maxV f ls (t - 1)).ad ≤ 8 := by
        obtain ⟨b, hb, e⟩ := max_mem (f := f) (ls := ls) (t - 1)
        rw [e]; exact unhide HRG b (by omega)
      have HST : Hid (maxV f ls (t + 1 - 1) = if 0 < f (ls.getD t Lk.R.zero) (maxV f ls (t - 1)) then ls.getD t Lk.R.zero else maxV f ls (t - 1)) := hide (by
        have := max_step (f := f) (ls := ls) (j := t - 1)
        rw [show t - 1 + 1 = t by omega] at this
        rw [show t + 1 - 1 = t by omega]; exact this)
      have HRr := hide ((unhide HR).below (unhide HBW1))
      have HAT : Hid (∀ W, Lk.RM W (some ⟨g, off, none⟩) ls → Lk.At W g (off + t * 6) (ls.getD t Lk.R.zero)) := hide (fun W h => h.at hlen)
      have HGr := hide ((unhide HG).below (unhide HBW1))
      have HLr : Hid (wr.cell? ⟨lb, 0, none⟩ = some (.int .u16 (gL L))) := hide (((unhide HBW1).cell (p := ⟨lb, 0, none⟩) hlb).trans (unhide HL))
      have hlr := World.block_lt_of_cell? _ _ (unhide HLr)
      generalize ls.getD t Lk.R.zero = m at *
      generalize maxV f ls (t - 1) = z at *
      have HS : Hid (∀ w', Below wr.heap.size wr w' → (fun w' => w'.cell? ⟨g, off + t * 6, none⟩ = some (.int .i64 m.ad) ∧ w'.cell? ⟨g, off + t * 6 + 1, none⟩ = some (.int .i64 m.hd) ∧ w'.cell? ⟨g, off + t * 6 + 2, none⟩ = some (.int .i64 m.sy) ∧ w'.cell? ⟨g, off + t * 6 + 3, none⟩ = some (.int .i64 m.ci) ∧ w'.cell? ⟨g, off + t * 6 + 4, none⟩ = some (.int .i64 m.co) ∧ w'.cell? ⟨g, off + t * 6 + 5, none⟩ = some (.int .i64 m.wl) ∧ w'.cell? ⟨mb, 0, none⟩ = some (.int .i64 z.ad) ∧ w'.cell? ⟨mb, 1, none⟩ = some (.int .i64 z.hd) ∧ w'.cell? ⟨mb, 2, none⟩ = some (.int .i64 z.sy) ∧ w'.cell? ⟨mb, 3, none⟩ = some (.int .i64 z.ci) ∧ w'.cell? ⟨mb, 4, none⟩ = some (.int .i64 z.co) ∧ w'.cell? ⟨mb, 5, none⟩ = some (.int .i64 z.wl)) w') := hide (fun w' hb => by
        obtain ⟨x0, x1, x2, x3, x4, x5⟩ := unhide HAT _ ((unhide HRr).below hb)
        obtain ⟨⟨y0, y1, y2, y3, y4, y5⟩, _⟩ := (unhide hbf).below hb
        exact ⟨x0, x1, x2, x3, x4, x5, y0, y1, y2, y3, y4, y5⟩)
      have hmv : m.value = .agg #[.int .i64 m.ad, .int .i64 m.hd, .int .i64 m.sy, .int .i64 m.ci, .int .i64 m.co, .int .i64 m.wl] := rfl
      have hzv : z.value = .agg #[.int .i64 z.ad, .int .i64 z.hd, .int .i64 z.sy, .int .i64 z.ci, .int .i64 z.co, .int .i64 z.wl] := rfl
      have HCW : Hid (∀ W, Below wr.heap.size wr W → Calls Tryz.prog 199 #[.agg #[.int .i64 m.ad, .int .i64 m.hd, .int .i64 m.sy, .int .i64 m.ci, .int .i64 m.co, .int .i64 m.wl], .agg #[.int .i64 z.ad, .int .i64 z.hd, .int .i64 z.sy, .int .i64 z.ci, .int .i64 z.co, .int .i64 z.wl], .pointer (some ⟨G, 0, none⟩), .pointer (some ⟨lb, 0, none⟩)] W fun e w' => e = .returned (.int .i64 (f m z)) ∧ Below W.heap.size W w') := hide (fun W hb => by
        have := unhide HBW m z W hmr hzr ((unhide HGr).below hb) ((hb.cell (p := ⟨lb, 0, none⟩) hlr).trans (unhide HLr))
        rw [hmv, hzv] at this; exact this)
      clear hmv hzv hmr hzr
      have B2 : Below wr.heap.size wr wr.drew := (Below.refl _ _).drew
      obtain ⟨fv, hfv⟩ : ∃ fv, f m z = fv := ⟨_, rfl⟩
      rw [hfv] at HST HCW
      clear hfv
      go_wp2_with fail
      refine wp_region_noPanic ?_
      refine wp_region_held_drew (S := fun w' => w'.cell? ⟨g, off + t * 6, none⟩ = some (.int .i64 m.ad) ∧ w'.cell? ⟨g, off + t * 6 + 1, none⟩ = some (.int .i64 m.hd) ∧ w'.cell? ⟨g, off + t * 6 + 2, none⟩ = some (.int .i64 m.sy) ∧ w'.cell? ⟨g, off + t * 6 + 3, none⟩ = some (.int .i64 m.ci) ∧ w'.cell? ⟨g, off + t * 6 + 4, none⟩ = some (.int .i64 m.co) ∧ w'.cell? ⟨g, off + t * 6 + 5, none⟩ = some (.int .i64 m.wl) ∧ w'.cell? ⟨mb, 0, none⟩ = some (.int .i64 z.ad) ∧ w'.cell? ⟨mb, 1, none⟩ = some (.int .i64 z.hd) ∧ w'.cell? ⟨mb, 2, none⟩ = some (.int .i64 z.sy) ∧ w'.cell? ⟨mb, 3, none⟩ = some (.int .i64 z.ci) ∧ w'.cell? ⟨mb, 4, none⟩ = some (.int .i64 z.co) ∧ w'.cell? ⟨mb, 5, none⟩ = some (.int .i64 z.wl)) (by kernel_rfl) (unhide HS _ B2) (fun hHeld => ?_)
      refine Rg.t 0 20 ?_
      refine Rg.t 1 21 ?_
      refine Rg.t 2 22 ?_
      refine Rg.t 3 23 ?_
      refine Rg.t 4 24 ?_
      refine Rg.t 5 25 ?_
      (refine Rg.o 6 (fun K hK => ?_); go_simp)
      refine (unhide HCW _ B2).mono ?_
      rintro e w3 ⟨rfl, b3⟩
      have B3 := B2.trans (b3.mono B2.size)
      clear b3 hHeld
      refine hK.out _ _ (unhide HS _ B3) (fun hHeld => ?_)
      clear hK K
      (try simp only [Act.put, List.setIfInBounds_toArray, List.set_cons_zero, List.set_cons_succ])
      have HBF3 := hide ((unhide hbf).below B3)
      have HB3 := hide ((unhide hbl).trans (B3.mono (Nat.le_of_lt (unhide hms))))
      have HM3 := hide (Nat.lt_of_lt_of_le (unhide hms) B3.size)
      have HA3 := hide (unhide HAT _ ((unhide HRr).below B3))
      clear HS HCW HAT HRr HGr HLr hlr
      by_cases hpos : 0 < fv
      · rw [if_pos hpos] at HST
        refine Rg.t 7 27 ?_
        refine wpAnyH_done (by kernel_rfl) (NoPanic.normal ?_) _
        clear hHeld
        obtain ⟨x0, x1, x2, x3, x4, x5⟩ := unhide HA3
        obtain ⟨⟨y0, y1, y2, y3, y4, y5⟩, yf⟩ := unhide HBF3
        have f0 := yf 0
        have f1 := yf 1
        have f2 := yf 2
        have f3 := yf 3
        have f4 := yf 4
        have f5 := yf 5
        clear yf
        have HP := hide ((unhide HBF3).put6 m)
        have HPB := hide (below6 (x := m) (unhide HB3) (Nat.le_refl mb))
        have HPS := hide (show mb < _ from by rw [← size6 w3 mb m] at HM3; exact unhide HM3)
        go_wp2_with fail
        exact ⟨⟨t + 1, by omega, by omega, by go_num, by rw [unhide HST]; exact HP, HPB, HPS⟩, by simp [intOf]; omega⟩
      · rw [if_neg hpos] at HST
        rw [← unhide HST] at HBF3
        refine Rg.t 7 27 ?_
        refine wpAnyH_done (by kernel_rfl) (NoPanic.normal ?_) _
        clear hHeld
        go_wp2_with fail
        go_roundw
        case rel => exact ⟨t + 1, by omega, by omega, by go_num, HBF3, HB3, HM3⟩
        case measure => simp [intOf]; omega
    · obtain rfl : t = n := by omega
      have HF2 := hide ((unhide HF1).under (unhide hbl) hmw)
      obtain ⟨z, hz⟩ : ∃ z, maxV f ls (t - 1) = z := ⟨_, rfl⟩
      have HZ := hide hz
      rw [hz] at hbf
      clear hz
      obtain ⟨⟨x0, x1, x2, x3, x4, x5⟩, _⟩ := unhide hbf
      obtain ⟨⟨y0, y1, y2, y3, y4, y5⟩, yf⟩ := unhide HF2
      have f0 := yf 0
      have f1 := yf 1
      have f2 := yf 2
      have f3 := yf 3
      have f4 := yf 4
      have f5 := yf 5
      clear yf
      have HP := hide ((unhide HF2).put6 z)
      have HPB := hide (below6 (x := z) (unhide HBW1) (Nat.le_refl w.heap.size))
      go_wp2_with fail
      refine bodyPost_ret (resultsL rfl _ _ rfl (unhide HP)) rfl ⟨by rw [unhide HZ], unhide HPB⟩
end Gp
end Go.Proofs.YtffclijcfngeeaaGreat
namespace Go.Proofs.YtffclijcfngeeaaGreat
open Go.ChangeShapes Go.WideShapes Go.ChangeAt Go.RowKit
set_option linter.unusedVariables false
set_option linter.unusedSimpArgs false
attribute [local go_sem ↓] Go.wp_at_zero Go.wp_at_succ
namespace Gp
open W1 Tu St Tw Mr Mt
/-- A number in a block of its own, which may be written. -/
def CL (w : World) (b : Nat) (x : Int) : Prop := w.cell? ⟨b, 0, none⟩ = some (.int .u16 x) ∧ w.frozen? ⟨b, 0, none⟩ = false
theorem CL.lt {w : World} {b : Nat} {x : Int} (h : CL w b x) : b < w.heap.size := World.block_lt_of_cell? _ _ h.1
theorem CL.under {w w' : World} {B b : Nat} {x : Int} (h : CL w b x) (hb : Below B w w') (hg : b < B) : CL w' b x := ⟨(hb.cell (p := ⟨b, 0, none⟩) hg).trans h.1, (hb.frozen (p := ⟨b, 0, none⟩) hg).trans h.2⟩
theorem CL.below {w w' : World} {b : Nat} {x : Int} (h : CL w b x) (hb : Below w.heap.size w w') : CL w' b x := h.under hb h.lt
theorem cl_new (w : World) (x : Int) (t : Nat) : CL (w.alloc (.cells #[.int .u16 x] t)) w.heap.size x := by
  have hb : (w.alloc (.cells #[.int .u16 x] t)).heap[w.heap.size]? = some (.cells #[.int .u16 x] t) := heap_alloc_last w _
  refine ⟨by rw [World.cell?_alloc_new]; rfl, ?_⟩
  unfold World.frozen?
  simp only [hb]
  simp
theorem CL.set {w : World} {b : Nat} {x : Int} (h : CL w b x) (y : Int) : CL (w.setCell ⟨b, 0, none⟩ (.int .u16 y)) b y := ⟨World.cell?_setCell_same _ _ _ h.1, by rw [World.frozen?_setCell]; exact h.2⟩
set_option maxRecDepth 100000 in
set_option maxHeartbeats 16000000 in
theorem implFlood (a : Option Addr) (ms : List R) (cap : Nat) (b : Option Addr) (ls : List Lk.R) (capl : Nat) (me now : Int) (w : World) (hm : ms.length ≤ 1048576) (hl : ls.length ≤ 1048576) (hr : RM w a ms) (hr' : Lk.RM w b ls) :
    Calls Tryz.prog 132 #[.slice a ms.length cap, .slice b ls.length capl, .int .i64 me, .int .i64 now] w fun e w' => ∃ v, e = .returned (.tuple #[v, .int .i64 (codeTL ms ls)]) ∧ Below w.heap.size w w' ∧ In.LstV w' v (fldA ms ls me now) w.heap.size w'.heap.size := by
  have HRC := hide (fun W h1 h2 => relaysCode a ms cap b ls capl none [] 0 W hm hl (by simp) h1 h2)
  rw [codeM_nil] at HRC
  have HR := hide hr
  have HL := hide hr'
  clear hr hr'
  by_cases hc : codeTL ms ls = 0
  rotate_left
  · have h1 : fldA ms ls me now = [] := by unfold fldA; rw [if_neg hc]
    rw [h1]
    clear h1
    generalize hcd : codeTL ms ls = cd at *
    clear hcd
    have q1 : (cd != 0) = true := by simpa using hc
    go_enter Tryz.func132, Tryz.ntmps132
    go_wp2_with fail
    refine (unhide HRC _ (unhide HR) (unhide HL)).mono ?_
    rintro e w1 ⟨rfl, b1⟩
    have HB1 := hide b1
    clear b1
    go_wp2_with fail
    go_ret2
    exact ⟨_, rfl, unhide HB1, In.lstV_nil _ _ _ _ _⟩
  have HOK := hide (codeTL_ok hc)
  have h8 := Ln.links_len (unhide HOK).2
  have h1 : fldA ms ls me now = fldV (viaF ms ls now) (strF ms ls me now) ls now := by unfold fldA; rw [if_pos hc]
  have HGO := hide (fun W h1 h2 => groundOf a ms cap b ls capl me now W (unhide HOK) h1 h2)
  have HVR : Hid (∀ z, ∀ a ∈ viaF ms ls now z, 1 ≤ a ∧ a ≤ 8) := hide (fun z => via_rng (unhide HOK).2)
  have HVN : Hid (∀ z, (viaF ms ls now z).Nodup) := hide (fun z => via_nodup (unhide HOK).2)
  have HSR := hide (str_rng2 (ms := ms) (ls := ls) (me := me) (now := now))
  have HSV : Hid (∀ z ∈ strF ms ls me now, ∃ i, i < ls.length ∧ (viaF ms ls now z).contains (ls.getD i Lk.R.zero).ad = true) := hide (fun z hz => via_link (str_via z hz))
  have HSC : Hid (strF ms ls me now = strN (condS ms ls me now) 8) := hide rfl
  have HLR : Hid (∀ i, i < ls.length → 1 ≤ (ls.getD i Lk.R.zero).ad ∧ (ls.getD i Lk.R.zero).ad ≤ 8) := hide (fun i hi => Ln.ok_ad (Ri.all_ok (unhide HOK).2 hi))
  have HLU := hide (links_up (unhide HOK).2)
  have HAN := hide (alw_nodup (now := now) (unhide HOK).2)
  have HAR := hide (alw_rng (now := now) (unhide HOK).2)
  rw [h1]
  rw [hc] at HRC ⊢
  clear hc h1
  generalize strF ms ls me now = S at *
  generalize viaF ms ls now = via at *
  obtain ⟨A, hA⟩ : ∃ A, alwV ls now ls.length = A := ⟨_, rfl⟩
  obtain ⟨r0, hr0⟩ : ∃ r0, onesV via S A = r0 := ⟨_, rfl⟩
  have hF : fldV via S ls now = sortV (grdV via S ls 8 r0) := by unfold fldV; rw [hA, hr0]
  rw [hF]
  rw [hA] at HAN HAR
  have HAW : Hid (∀ W, Lk.RM W b ls → Calls Tryz.prog 196 #[.slice b ls.length capl, .int .i64 now] W fun e w' => e = .returned (.int .u16 (gL A)) ∧ Below W.heap.size W w') := hide (fun W h => by rw [← hA]; exact alwaysWilling b ls capl now W (by omega) h)
  have HON : Hid (bits .or .u16 (gL A : Int) (gN (oB S via 9) : Int) = (gL r0 : Int)) := hide (by rw [← hr0]; exact ones_group (unhide HSR) (unhide HVN) (unhide HVR))
  have HRN : Hid r0.Nodup := hide (by rw [← hr0]; exact ones_nodup (unhide HAN))
  have HRR : Hid (∀ a ∈ r0, 1 ≤ a ∧ a ≤ 8) := hide (by
    intro a ha
    rw [← hr0, ones_mem] at ha
    rcases ha with ha | ⟨z, hz, hl, rfl⟩
    · exact unhide HAR a ha
    · have : (via z).getD 0 0 ∈ via z := getD_mem (by omega)
      exact unhide HVR z _ this)
  have HLG : Hid (∀ r, bits .andNot .u16 (gL S : Int) (gN (reB S via (strN (fun a => r.contains a) 8)) : Int) = (gL (leftV via S r) : Int)) := hide (fun r => left_group (unhide HVR))
  have hS8 : S.length ≤ 8 := by rw [unhide HSC]; exact strN_len _ _
  clear hA hr0 hF
  go_enter Tryz.func132, Tryz.ntmps132
  go_wp2_with fail
  refine (unhide HRC _ (unhide HR) (unhide HL)).mono ?_
  rintro e w1 ⟨rfl, b1⟩
  have HB1 := hide b1
  have HR1 := hide ((unhide HR).below b1)
  have HL1 := hide ((unhide HL).below b1)
  clear b1
  go_wp2_with fail
  refine (unhide HGO _ (unhide HR1) (unhide HL1)).mono ?_
  rintro e w2 ⟨rfl, b2'⟩
  have HB2 := hide ((unhide HB1).trans (b2'.mono (unhide HB1).size))
  have HL2 := hide ((unhide HL1).below b2')
  clear b2'
  go_wp2_with (refine wpList_storeG _ _ rfl rfl rfl rfl (ga_new w2 0 (fun _ => 0) (fun _ => 0) 245).2 ?_; intro w5 ga5 hbb5 hsz5; have HG5 := hide ga5; have HB5 := hide (hbb5 _ _ ((unhide HB2).alloc (unhide HB2).size (.cells #[.int .u16 0, .int .u16 0, .int .u16 0, .int .u16 0, .int .u16 0, .int .u16 0, .int .u16 0, .int .u16 0, .int .u16 0, .int .u16 0, .int .u16 0, .int .u16 0, .int .u16 0, .int .u16 0, .int .u16 0, .int .u16 0, .int .u16 0, .int .u16 0, .int .u16 0] 245)) (unhide HB2).size); have HL5 := hide ((unhide HL2).below (hbb5 _ _ ((Below.refl w2.heap.size w2).alloc (Nat.le_refl _) (.cells #[.int .u16 0, .int .u16 0, .int .u16 0, .int .u16 0, .int .u16 0, .int .u16 0, .int .u16 0, .int .u16 0, .int .u16 0, .int .u16 0, .int .u16 0, .int .u16 0, .int .u16 0, .int .u16 0, .int .u16 0, .int .u16 0, .int .u16 0, .int .u16 0, .int .u16 0] 245)) (Nat.le_refl _))); clear ga5 hbb5 hsz5)
  obtain ⟨G, hG⟩ : ∃ G, w2.heap.size = G := ⟨_, rfl⟩
  rw [hG] at HG5 ⊢
  have hGw : w.heap.size ≤ G := by rw [← hG]; exact (unhide HB2).size
  clear hG
  -- the first relays
  refine wp_region_noPanic ?_
  refine wp_region_held_drew (S := fun w' => GA w' G (gL S) (vN S via) (rN S via)) (by kernel_rfl) ((unhide HG5).below ((Below.refl _ _).drew)) (fun hHeld => ?_)
  have B5 : Below w5.heap.size w5 w5.drew := (Below.refl _ _).drew
  refine Rg.t 0 27 ?_
  refine Rg.t 1 28 ?_
  refine Rg.t (v := GV (gL S) (vN S via) (rN S via)) 3 30 ?_ (hv := fun w0 hSw => run_execG _ rfl rfl hSw)
  (refine Rg.o 2 (fun K hK => ?_); go_simp)
  refine (unhide HAW _ ((unhide HL5).below B5)).mono ?_
  rintro e w6 ⟨rfl, b6⟩
  have B6 := B5.trans (b6.mono B5.size)
  clear b6 hHeld
  refine hK.out _ _ ((unhide HG5).below B6) (fun hHeld => ?_)
  clear hK K
  (try simp only [Act.put, List.setIfInBounds_toArray, List.set_cons_zero, List.set_cons_succ])
  (refine Rg.o 4 (fun K hK => ?_); go_simp)
  refine (onlyOnes _ _ S via _).mono ?_
  rintro e w7 ⟨rfl, b7⟩
  have B7 := B6.trans (b7.mono B6.size)
  clear b7 hHeld
  refine hK.out _ _ ((unhide HG5).below B7) (fun hHeld => ?_)
  clear hK K
  (try simp only [Act.put, List.setIfInBounds_toArray, List.set_cons_zero, List.set_cons_succ])
  (refine Rg.tk (i := 5) (d := 32) (v := .int .u16 (gL r0)) rfl rfl (by kernel_rfl) (by kernel_rfl) (by kernel_rfl) (fun _ _ _ h => h) (by rfl) ?_ (by assumption) ?_; (focus (intro w0 hSw; (try dsimp only at hSw); go_simp)); (try simp only [Act.put, List.setIfInBounds_toArray, List.set_cons_zero, List.set_cons_succ]))
  · rw [unhide HON]
  refine Rg.t 6 12 ?_
  refine wpAnyH_done (by kernel_rfl) (NoPanic.normal ?_) _
  clear hHeld B5 B6
  have HG7 := hide ((unhide HG5).below B7)
  have HB7 := hide ((unhide HB5).trans (B7.mono (unhide HB5).size))
  have HL7 := hide ((unhide HL5).below B7)
  clear B7 HG5 HB5 HL5
  go_wp2_with fail
  go_cut [13] (fun p wx => ∃ lb, p = .pointer (some ⟨lb, 0, none⟩) ∧ CL wx lb (gL (leftV via S r0)) ∧ Below w7.heap.size w7 wx ∧ w7.heap.size ≤ lb)
  case first =>
    have HRB := hide (fun W => reachedBy (gL S) (vN S via) S via (fun z => r0.contains z) W)
    have HLG0 := hide (unhide HLG r0)
    generalize hre : gN (reB S via (strN (fun z => r0.contains z) 8)) = Y at *
    generalize hle : gL (leftV via S r0) = X at *
    clear hre hle
    have B7 : Below w7.heap.size w7 w7.drew := (Below.refl _ _).drew
    refine wp_region_noPanic ?_
    refine wp_region_held_drew (S := fun w' => w'.cell? ⟨G, 0, none⟩ = some (.int .u16 (gL S)) ∧ GA w' G (gL S) (vN S via) (rN S via)) (by kernel_rfl) ⟨((unhide HG7).below B7).s, (unhide HG7).below B7⟩ (fun hHeld => ?_)
    refine Rg.t 0 33 ?_
    refine Rg.t 1 34 ?_
    refine Rg.t (v := GV (gL S) (vN S via) (rN S via)) 2 35 ?_ (hv := fun w0 hSw => run_execG _ rfl rfl hSw.2)
    refine Rg.t 3 36 ?_
    (refine wpAnyH_ready (rs := [4, 6]) (by kernel_rfl) (by simp) ?_; refine AllReadyH.cons (o := _) rfl (fun K hK => ?_) (AllReadyH.cons (o := _) rfl (fun K hK => ?_) AllReadyH.nil))
    · go_simp
      refine (unhide HRB _).mono ?_
      rintro e w8 ⟨rfl, b8⟩
      have B8 := B7.trans (b8.mono B7.size)
      clear b8 hHeld
      refine hK.out _ _ ⟨((unhide HG7).below B8).s, (unhide HG7).below B8⟩ (fun hHeld => ?_)
      clear hK K
      (try simp only [Act.put, List.setIfInBounds_toArray, List.set_cons_zero, List.set_cons_succ])
      (refine Rg.tk (i := 5) (d := 38) (v := .int .u16 X) rfl rfl (by kernel_rfl) (by kernel_rfl) (by kernel_rfl) (fun _ _ _ h => h) (by rfl) ?_ (by assumption) ?_; (focus (intro w0 hSw; (try dsimp only at hSw); go_simp)); (try simp only [Act.put, List.setIfInBounds_toArray, List.set_cons_zero, List.set_cons_succ]))
      · rw [unhide HLG0]
      (refine Rg.o 6 (fun K hK => ?_); go_simp)
      have B9 := B8.alloc B8.size (.cells #[.int .u16 0] 190)
      clear hHeld
      refine hK.out _ _ ⟨((unhide HG7).below B9).s, (unhide HG7).below B9⟩ (fun hHeld => ?_)
      clear hK K
      (try simp only [Act.put, List.setIfInBounds_toArray, List.set_cons_zero, List.set_cons_succ])
      (refine Rg.o 7 (fun K hK => ?_); go_simp)
      have B10 := B8.alloc B8.size (.cells #[.int .u16 X] 190)
      clear hHeld
      refine hK.out _ _ ⟨((unhide HG7).below B10).s, (unhide HG7).below B10⟩ (fun hHeld => ?_)
      clear hK K
      (try simp only [Act.put, List.setIfInBounds_toArray, List.set_cons_zero, List.set_cons_succ])
      refine wpAnyH_done (by kernel_rfl) (NoPanic.normal ?_) _
      clear hHeld
      go_wp2_with fail
      go_meet
      case rel => exact ⟨_, rfl, cl_new _ _ _, B10, B8.size⟩
    · go_simp
      have B8 := B7.alloc B7.size (.cells #[.int .u16 0] 190)
      have HC8 : Hid (CL (w7.drew.alloc (.cells #[.int .u16 0] 190)) w7.heap.size 0) := hide (cl_new w7.drew 0 190)
      clear hHeld
      refine hK.out _ _ ⟨((unhide HG7).below B8).s, (unhide HG7).below B8⟩ (fun hHeld => ?_)
      clear hK K
      (try simp only [Act.put, List.setIfInBounds_toArray, List.set_cons_zero, List.set_cons_succ])
      (refine Rg.o 4 (fun K hK => ?_); go_simp)
      refine (unhide HRB _).mono ?_
      rintro e w9 ⟨rfl, b9⟩
      have B9 := B8.trans (b9.mono B8.size)
      have HC9 := hide ((unhide HC8).below b9)
      clear b9 hHeld HC8
      refine hK.out _ _ ⟨((unhide HG7).below B9).s, (unhide HG7).below B9⟩ (fun hHeld => ?_)
      clear hK K
      (try simp only [Act.put, List.setIfInBounds_toArray, List.set_cons_zero, List.set_cons_succ])
      (refine Rg.tk (i := 5) (d := 38) (v := .int .u16 X) rfl rfl (by kernel_rfl) (by kernel_rfl) (by kernel_rfl) (fun _ _ _ h => h) (by rfl) ?_ (by assumption) ?_; (focus (intro w0 hSw; (try dsimp only at hSw); go_simp)); (try simp only [Act.put, List.setIfInBounds_toArray, List.set_cons_zero, List.set_cons_succ]))
      · rw [unhide HLG0]
      obtain ⟨cz, fz⟩ := unhide HC9
      (refine Rg.o 7 (fun K hK => ?_); go_simp)
      have B10 := B9.setCell (p := ⟨w7.heap.size, 0, none⟩) (Nat.le_refl _) (.int .u16 X)
      have HC10 := hide ((unhide HC9).set X)
      clear hHeld
      refine hK.out _ _ ⟨((unhide HG7).below B10).s, (unhide HG7).below B10⟩ (fun hHeld => ?_)
      clear hK K
      (try simp only [Act.put, List.setIfInBounds_toArray, List.set_cons_zero, List.set_cons_succ])
      refine wpAnyH_done (by kernel_rfl) (NoPanic.normal ?_) _
      clear hHeld cz fz
      go_wp2_with fail
      go_meet
      case rel => exact ⟨_, rfl, unhide HC10, B10, Nat.le_refl _⟩
  case rest =>
    obtain ⟨lb, rfl, hcl, hbb, hlo⟩ := hcut
    have HCL := hide hcl
    have HBB := hide hbb
    clear hcl hbb HLG HON HAW
    obtain ⟨Gd, hGd⟩ : ∃ Gd, grdV via S ls 8 r0 = Gd := ⟨_, rfl⟩
    have HGd := hide hGd
    clear hGd
    have HL8 : Hid ((leftV via S r0).length ≤ 8) := hide (Nat.le_trans (left_len _ _ _) hS8)
    go_wp2_with fail
    go_loopg [12] 8 (fun kx rl wr => ∃ (r : List Int) (f : Nat), rl = .int .u16 (gL r) ∧ Hid ((leftV via S r).length ≤ kx) ∧ Hid (CL wr lb (gL (leftV via S r))) ∧ Hid (Below w7.heap.size w7 wr) ∧ Hid (grdV via S ls f r = Gd) ∧ Hid ((leftV via S r).length ≤ f) ∧ Hid r.Nodup ∧ Hid (∀ a ∈ r, 1 ≤ a ∧ a ≤ 8))
    case atStart => exact ⟨r0, 8, rfl, HL8, HCL, HBB, HGd, HL8, HRN, HRR⟩
    case round =>
      obtain ⟨r, f, rfl, hkx, hcl, hbl, hgr, hlf, hnd, hrg⟩ := hrel
      have hLr : ∀ z ∈ leftV via S r, 1 ≤ z ∧ z ≤ 8 := fun z hz => unhide HSR z (left_sub hz)
      have HZI := hide (gL_zero hLr)
      by_cases hz : (leftV via S r).length = 0
      · have h0 : gL (leftV via S r) = 0 := (unhide HZI).2 hz
        rw [h0] at hcl
        have c0 := (unhide hcl).1
        have HGE : Hid (Gd = r) := hide (by rw [← unhide hgr]; exact grd_end hz)
        have HRES : Hid (strN (hasB (gL r)) 8 = sortV (grdV via S ls 8 r0)) := hide (by rw [unhide HGd, unhide HGE]; exact gL_list (unhide hnd) (unhide hrg))
        have hlt := gN_lt (fun z => r.contains z)
        clear hLr HZI
        go_wp2_with fail
        refine (addrs (gL r) _ (by unfold gL; omega)).mono ?_
        rintro e w9 ⟨v9, rfl, b9, hl9⟩
        rw [unhide HRES] at hl9
        have HB9 := hide ((unhide HB7).trans (((unhide hbl).trans (b9.mono (unhide hbl).size)).mono (unhide HB7).size))
        have HV9 := hide (hl9.mono (lo' := w.heap.size) (Nat.le_trans (unhide HB7).size (unhide hbl).size) (Nat.le_refl _))
        clear b9 hl9
        go_wp2_with fail
        go_ret2
        exact ⟨_, rfl, unhide HB9, unhide HV9⟩
      · have hne : ((gL (leftV via S r) : Int) != 0) = true := by
          have : ¬ gL (leftV via S r) = 0 := fun e => hz ((unhide HZI).1 e)
          simp; omega
        have hpos : 0 < (leftV via S r).length := by omega
        obtain ⟨bi, hbi⟩ := pick_some (via := via) (S := S) (L := leftV via S r) (ls := ls) (fun z hz => unhide HSV z (left_sub hz)) hpos
        have hb1 := pick_lt hbi
        have hn0 : 0 < ls.length := by omega
        have hmx : maxV (worth (gnV S via (leftV via S r)) (dgV S via)) ls (ls.length - 1) = ls.getD bi Lk.R.zero := by
          have e1 : gnV S via (leftV via S r) = fun a => (cntV via (leftV via S r) a : Int) := by
            funext a
            have := gain_count (cd := condS ms ls me now) (via := via) (r := r) (a := a)
            rw [← unhide HSC] at this
            rw [← this]; rfl
          have e2 : dgV S via = fun a => (cntV via S a : Int) := by
            funext a
            have := deg_count (cd := condS ms ls me now) (via := via) (a := a)
            rw [← unhide HSC] at this
            rw [← this]; rfl
          rw [e1, e2]
          have := pick_max (via := via) (S := S) (L := leftV via S r) (ls := ls) (f := worth (fun a => (cntV via (leftV via S r) a : Int)) (fun a => (cntV via S a : Int))) (fun i j hij hj => worth_bet (unhide HLU j i hij hj)) (ls.length - 1) (by omega)
          exact this.2 bi (by rw [show ls.length - 1 + 1 = ls.length by omega]; exact hbi)
        have HGS : Hid (∀ f', grdV via S ls (f' + 1) r = grdV via S ls f' (r ++ [(ls.getD bi Lk.R.zero).ad])) := hide (fun f' => grd_step hbi)
        have HLS : Hid ((leftV via S (r ++ [(ls.getD bi Lk.R.zero).ad])).length < (leftV via S r).length) := hide (left_less hb1.2)
        have hxr := unhide HLR bi hb1.1
        have HND : Hid (r ++ [(ls.getD bi Lk.R.zero).ad]).Nodup := hide (app_nodup (unhide hnd) (gain_new hb1.2))
        have HRG2 : Hid (∀ a ∈ r ++ [(ls.getD bi Lk.R.zero).ad], 1 ≤ a ∧ a ≤ 8) := hide (fun a ha => by
          rcases List.mem_append.1 ha with h | h
          · exact unhide hrg a h
          · rw [List.mem_singleton] at h; subst h; exact hxr)
        have HMF := hide (fun W h1 h2 h3 => maxFunc b ls capl G lb (gL S) (vN S via) S via (leftV via S r) W hn0 h8 (unhide HLR) h1 h2 h3)
        rw [hmx] at HMF
        clear hmx hbi hb1 HZI hLr hz
        generalize ls.getD bi Lk.R.zero = x at *
        obtain ⟨xa, xh, xs, xi, xo, xw⟩ := x
        have hxv : Lk.R.value ⟨xa, xh, xs, xi, xo, xw⟩ = .agg #[.int .i64 xa, .int .i64 xh, .int .i64 xs, .int .i64 xi, .int .i64 xo, .int .i64 xw] := rfl
        rw [hxv] at HMF
        clear hxv
        dsimp only at HGS HLS hxr HND HRG2
        obtain ⟨q, rfl⟩ : ∃ q : Nat, xa = (q : Int) := ⟨xa.toNat, by omega⟩
        have hq9 : q < 9 := by omega
        have q0 : (0 : Int) ≤ (q : Int) := by omega
        have q9 : (q : Int) < 9 := by omega
        clear hxr
        have HOR := hide (gL_app r (q : Int))
        have HAN2 : Hid (bits .andNot .u16 (gL (leftV via S r) : Int) (rN S via q : Int) = (gL (leftV via S (r ++ [(q : Int)])) : Int)) := hide less_group
        obtain ⟨f1, rfl⟩ : ∃ f1, f = f1 + 1 := ⟨f - 1, by have := unhide hlf; omega⟩
        have HGR2 : Hid (grdV via S ls f1 (r ++ [(q : Int)]) = Gd) := hide (by rw [← unhide HGS]; exact unhide hgr)
        have HLF2 : Hid ((leftV via S (r ++ [(q : Int)])).length ≤ f1) := hide (by have := unhide hlf; have := unhide HLS; omega)
        have hdec : (leftV via S (r ++ [(q : Int)])).length < gk := by have := unhide hkx; have := unhide HLS; omega
        clear HGS HLS hgr hlf hnd hrg hkx hpos
        have c0 := (unhide hcl).1
        have HLw := hide ((unhide HL7).below (unhide hbl))
        have HGw := hide ((unhide HG7).below (unhide hbl))
        have hgl := (unhide HG7).lt
        go_wp2_with fail
        refine (unhide HMF _ (unhide HLw) (unhide HGw) (unhide hcl).1).mono ?_
        rintro e w9 ⟨rfl, b9⟩
        have HCL9 := hide ((unhide hcl).below b9)
        have HB9 := hide ((unhide hbl).trans (b9.mono (unhide hbl).size))
        clear b9 c0
        have HBn := hide ((unhide HB9).alloc (unhide HB9).size (.cells #[.int .i64 (q : Int), .int .i64 xh, .int .i64 xs, .int .i64 xi, .int .i64 xo, .int .i64 xw] 140))
        have HX := hide (bf_new w9 ⟨(q : Int), xh, xs, xi, xo, xw⟩ 140)
        have HCLn := hide ((unhide HCL9).below ((Below.refl _ _).alloc (Nat.le_refl _) (.cells #[.int .i64 (q : Int), .int .i64 xh, .int .i64 xs, .int .i64 xi, .int .i64 xo, .int .i64 xw] 140)))
        go_wp2_with fail
        have HRq : Hid (In.RM ((w9.alloc (.cells #[.int .i64 (q : Int), .int .i64 xh, .int .i64 xs, .int .i64 xi, .int .i64 xo, .int .i64 xw] 140)).alloc (.cells #[.int .i64 (q : Int)] 3)) (some ⟨w9.heap.size + 1, 0, none⟩) [(q : Int)]) := hide (by
          have := In.rm_new (w9.alloc (.cells #[.int .i64 (q : Int), .int .i64 xh, .int .i64 xs, .int .i64 xi, .int .i64 xo, .int .i64 xw] 140)) (q : Int)
          rw [World.size_alloc] at this; exact this)
        have HB10 := hide ((unhide HBn).alloc (unhide HBn).size (.cells #[.int .i64 (q : Int)] 3))
        have HX10 := hide ((unhide HX).below ((Below.refl _ _).alloc (Nat.le_refl _) (.cells #[.int .i64 (q : Int)] 3)))
        have HC10 := hide ((unhide HCLn).below ((Below.refl _ _).alloc (Nat.le_refl _) (.cells #[.int .i64 (q : Int)] 3)))
        refine (groupOf _ [(q : Int)] _ _ (by simp) (unhide HRq)).mono ?_
        rintro e w11 ⟨rfl, hw11⟩
        generalize hW : (w9.alloc (.cells #[.int .i64 (q : Int), .int .i64 xh, .int .i64 xs, .int .i64 xi, .int .i64 xo, .int .i64 xw] 140)).alloc (.cells #[.int .i64 (q : Int)] 3) = w10 at *
        rw [hw11]
        clear hw11 hW HBn HX HCLn HCL9 HB9 HRq
        go_wp2_with fail
        rw [unhide HOR]
        have HG10 := hide ((unhide HG7).below (unhide HB10))
        have HS : Hid (∀ w', Below w10.heap.size w10 w' → w'.cell? ⟨w9.heap.size, 0, none⟩ = some (.int .i64 (q : Int)) ∧ w'.cell? ⟨G, 10 + q, none⟩ = some (.int .u16 (rN S via q))) := hide (fun w' hb => ⟨((unhide HX10).below hb).1.1, (((unhide HG10).below hb).r hq9).1⟩)
        have HSf : Hid (∀ y : Int, (w10.drew.setCell ⟨lb, 0, none⟩ (.int .u16 y)).cell? ⟨w9.heap.size, 0, none⟩ = some (.int .i64 (q : Int)) ∧ (w10.drew.setCell ⟨lb, 0, none⟩ (.int .u16 y)).cell? ⟨G, 10 + q, none⟩ = some (.int .u16 (rN S via q))) := hide (fun y => by
          have h1 := unhide HS _ ((Below.refl w10.heap.size w10).drew)
          refine ⟨?_, ?_⟩
          · rw [World.cell?_setCell_other _ _ _ _ (by
              intro e
              injection e with e1 _ _
              have h2 := (unhide HX10).1.1
              have h3 := (unhide HC10).1
              rw [e1] at h3
              rw [h3] at h2
              cases h2)]
            exact h1.1
          · rw [World.cell?_setCell_other _ _ _ _ (by intro e; injection e with e1 e2 _; omega)]; exact h1.2)
        obtain ⟨cz, fz⟩ := unhide HC10
        have HCf := hide ((unhide HC10).below ((Below.refl _ _).drew) |>.set (gL (leftV via S (r ++ [(q : Int)]))))
        have HBf := hide ((unhide HB10).drew.setCell (p := ⟨lb, 0, none⟩) hlo (.int .u16 (gL (leftV via S (r ++ [(q : Int)])))))
        refine wp_region_noPanic ?_
        refine wp_region_held_drew (S := fun w' => w'.cell? ⟨w9.heap.size, 0, none⟩ = some (.int .i64 (q : Int)) ∧ w'.cell? ⟨G, 10 + q, none⟩ = some (.int .u16 (rN S via q))) (by kernel_rfl) (unhide HS _ ((Below.refl _ _).drew)) (fun hHeld => ?_)
        refine Rg.t 1 52 ?_
        refine Rg.t 2 53 ?_
        refine Rg.t 3 54 ?_
        refine Rg.t 4 55 ?_
        refine Rg.t 5 56 ?_
        (refine Rg.o 0 (fun K hK => ?_); go_simp)
        clear hHeld
        refine hK.out _ _ (unhide HS _ ((Below.refl _ _).drew)) (fun hHeld => ?_)
        clear hK K
        (try simp only [Act.put, List.setIfInBounds_toArray, List.set_cons_zero, List.set_cons_succ])
        (refine Rg.tk (i := 6) (d := 57) (v := .int .u16 (gL (leftV via S (r ++ [(q : Int)])))) rfl rfl (by kernel_rfl) (by kernel_rfl) (by kernel_rfl) (fun _ _ _ h => h) (by rfl) ?_ (by assumption) ?_; (focus (intro w0 hSw; (try dsimp only at hSw); go_simp)); (try simp only [Act.put, List.setIfInBounds_toArray, List.set_cons_zero, List.set_cons_succ]))
        · rw [unhide HAN2]
        (refine Rg.o 7 (fun K hK => ?_); go_simp)
        clear hHeld
        refine hK.out _ _ (unhide HSf _) (fun hHeld => ?_)
        clear hK K
        (try simp only [Act.put, List.setIfInBounds_toArray, List.set_cons_zero, List.set_cons_succ])
        refine wpAnyH_done (by kernel_rfl) (NoPanic.normal ?_) _
        clear hHeld cz fz HS HSf
        go_wp2_with fail
        go_roundg ((leftV via S (r ++ [(q : Int)])).length)
        case measure => exact hdec
        case rel => exact ⟨r ++ [(q : Int)], f1, rfl, hide (Nat.le_refl _), HCf, HBf, HGR2, HLF2, HND, HRG2⟩
end Gp
end Go.Proofs.YtffclijcfngeeaaGreat
namespace Go.Proofs.YtffclijcfngeeaaGreat
set_option linter.unusedVariables false
set_option linter.unusedSimpArgs false
namespace Gp
open W1 Tu St Tw Mr
end Gp
end Go.Proofs.YtffclijcfngeeaaGreat
namespace Go.Proofs.YtffclijcfngeeaaGreat
open Go.ChangeShapes Go.WideShapes Go.ChangeAt Go.RowKit
set_option linter.unusedVariables false
set_option linter.unusedSimpArgs false
attribute [local go_sem ↓] Go.wp_at_zero Go.wp_at_succ
namespace Ln
open W1 Lk
def isAd (k : Int) (m : R) : Bool := m.ad == k
def lkF (ms : List R) (k : Int) : R := (ms.find? (isAd k)).getD R.zero
/-- A link's block that may be written. -/
def LV (w : World) (b : Nat) (m : R) : Prop := w.heap[b]? = some (.cells #[.int .i64 m.ad, .int .i64 m.hd, .int .i64 m.sy, .int .i64 m.ci, .int .i64 m.co, .int .i64 m.wl] 140 (0, 0))
theorem LV.cells {w : World} {b : Nat} {m : R} (h : LV w b m) : At w b 0 m := by
  unfold LV at h; refine ⟨?_, ?_, ?_, ?_, ?_, ?_⟩ <;> simp [World.cell?, h]
theorem LV.free {w : World} {b : Nat} {m : R} (h : LV w b m) (i : Nat) : w.frozen? ⟨b, i, none⟩ = false := by unfold LV at h; simp [World.frozen?, h]
theorem LV.lt {w : World} {b : Nat} {m : R} (h : LV w b m) : b < w.heap.size := by
  rcases Nat.lt_or_ge b w.heap.size with hlt | hge
  · exact hlt
  · unfold LV at h; rw [Array.getElem?_eq_none hge] at h; cases h
theorem LV.below {w w' : World} {b : Nat} {m : R} (h : LV w b m) (hb : Below w.heap.size w w') : LV w' b m := (hb.block b h.lt).trans h
theorem lv_new (w : World) (m : R) : LV (w.alloc (.cells #[.int .i64 m.ad, .int .i64 m.hd, .int .i64 m.sy, .int .i64 m.ci, .int .i64 m.co, .int .i64 m.wl] 140)) w.heap.size m := heap_alloc_new w _
end Ln
end Go.Proofs.YtffclijcfngeeaaGreat
namespace Go.Proofs.YtffclijcfngeeaaGreat
set_option linter.unusedVariables false
set_option linter.unusedSimpArgs false
namespace Cv
open W1 Mr
theorem grd_left {via : Int → List Int} {S : List Int} {ls : List Lk.R} (hv : ∀ z ∈ S, ∃ i, i < ls.length ∧ (via z).contains (ls.getD i Lk.R.zero).ad = true) : ∀ (f : Nat) (r : List Int), (leftV via S r).length ≤ f → (leftV via S (grdV via S ls f r)).length = 0
  | 0, r, h => by have : grdV via S ls 0 r = r := rfl; rw [this]; omega
  | f + 1, r, h => by
    by_cases h0 : (leftV via S r).length = 0
    · rw [grd_end h0]; exact h0
    · obtain ⟨b, hb⟩ := pick_some (via := via) (S := S) (L := leftV via S r) (ls := ls) (fun z hz => hv z (Gp.left_sub hz)) (by omega)
      rw [grd_step hb]
      have := left_less (pick_lt hb).2
      exact grd_left hv f _ (by omega)
theorem grd_mem {via : Int → List Int} {S : List Int} {ls : List Lk.R} {a : Int} : ∀ (f : Nat) (r : List Int), a ∈ grdV via S ls f r → a ∈ r ∨ ∃ z, a ∈ via z
  | 0, r, h => .inl h
  | f + 1, r, h => by
    cases hp : pickV via S (leftV via S r) ls ls.length with
    | none =>
      have : grdV via S ls (f + 1) r = r := by unfold grdV; rw [hp]
      rw [this] at h; exact .inl h
    | some b =>
      rw [grd_step hp] at h
      rcases grd_mem f _ h with h | h
      · rcases List.mem_append.1 h with h | h
        · exact .inl h
        · rw [List.mem_singleton] at h
          have hg := (pick_lt hp).2
          unfold cntV at hg
          obtain ⟨z, hz⟩ := List.exists_mem_of_length_pos hg
          rw [List.mem_filter] at hz
          exact .inr ⟨z, by rw [h]; exact List.contains_iff_mem.1 hz.2⟩
      · exact .inr h
theorem grd_sub {via : Int → List Int} {S : List Int} {ls : List Lk.R} {a : Int} : ∀ (f : Nat) (r : List Int), a ∈ r → a ∈ grdV via S ls f r
  | 0, r, h => h
  | f + 1, r, h => by
    cases hp : pickV via S (leftV via S r) ls ls.length with
    | none =>
      have : grdV via S ls (f + 1) r = r := by unfold grdV; rw [hp]
      rw [this]; exact h
    | some b => rw [grd_step hp]; exact grd_sub f _ (by simp [h])
theorem grd_nodup {via : Int → List Int} {S : List Int} {ls : List Lk.R} : ∀ (f : Nat) (r : List Int), r.Nodup → (grdV via S ls f r).Nodup
  | 0, r, h => h
  | f + 1, r, h => by
    cases hp : pickV via S (leftV via S r) ls ls.length with
    | none =>
      have : grdV via S ls (f + 1) r = r := by unfold grdV; rw [hp]
      rw [this]; exact h
    | some b => rw [grd_step hp]; exact grd_nodup f _ (Gp.app_nodup h (Gp.gain_new (pick_lt hp).2))
theorem left_same {via : Int → List Int} {S L M : List Int} (h : ∀ a, a ∈ L ↔ a ∈ M) : leftV via S L = leftV via S M := by
  unfold leftV
  apply List.filter_congr
  intro z _
  have : hitV via L z = hitV via M z := by
    unfold hitV
    rw [Bool.eq_iff_iff, List.any_eq_true, List.any_eq_true]
    exact ⟨fun ⟨a, h1, h2⟩ => ⟨a, (h a).1 h1, h2⟩, fun ⟨a, h1, h2⟩ => ⟨a, (h a).2 h1, h2⟩⟩
  rw [this]
theorem ln_own {ms : List Lk.R} (h : Ln.linksB ms = true) {i : Nat} (hi : i < ms.length) : ms.find? (Ln.isAd (ms.getD i Lk.R.zero).ad) = some (ms.getD i Lk.R.zero) :=
  Ri.find_at (z := Lk.R.zero) _ ms i hi (fun j hj => by have := Ri.rises h i j hj hi; unfold Ln.isAd; rw [beq_eq_false_iff_ne]; omega) (by unfold Ln.isAd; simp)
/-- A relay: a link of ours, willing and symmetric. -/
def good (ls : List Lk.R) (now a : Int) : Prop := ∃ m, ls.find? (Ln.isAd a) = some m ∧ 0 < m.wl ∧ Ln.statusV m now = 2
theorem good_of {ls : List Lk.R} (hok : Ln.linksB ls = true) {now a : Int} {m : Lk.R} (hm : m ∈ ls) (ha : m.ad = a) (h1 : 0 < m.wl) (h2 : Ln.statusV m now = 2) : good ls now a := by
  obtain ⟨i, hi, rfl⟩ := List.getElem_of_mem hm
  have e : ls.getD i Lk.R.zero = ls[i] := by rw [List.getD_eq_getElem?_getD, List.getElem?_eq_getElem hi]; rfl
  have := ln_own hok hi
  rw [e] at this
  exact ⟨_, by rw [← ha]; exact this, h1, h2⟩
theorem via_good {ms : List Tu.R} {ls : List Lk.R} (hok : Ln.linksB ls = true) {now z a : Int} (h : a ∈ viaF ms ls now z) : good ls now a := by
  unfold viaF Tw.viaL at h
  rw [List.take_length, List.mem_map] at h
  obtain ⟨m, hm, rfl⟩ := h
  rw [List.mem_filter] at hm
  have hv := hm.2
  unfold Tw.viaOk at hv
  rw [Bool.and_eq_true, Bool.and_eq_true] at hv
  exact good_of hok hm.1 rfl (of_decide_eq_true hv.2.1) (eq_of_beq hv.1)
theorem alw_good {ls : List Lk.R} (hok : Ln.linksB ls = true) {now a : Int} (h : a ∈ alwV ls now ls.length) : good ls now a := by
  unfold alwV at h
  rw [List.take_length, List.mem_map] at h
  obtain ⟨m, hm, rfl⟩ := h
  rw [List.mem_filter] at hm
  have hv := hm.2
  unfold alwB at hv
  rw [Bool.and_eq_true] at hv
  have := eq_of_beq hv.2
  exact good_of hok hm.1 rfl (by omega) (eq_of_beq hv.1)
/-- The relays for floods: rising, of ours, all that are always willing among them, and they reach all. -/
theorem flood_ok {ms : List Tu.R} {ls : List Lk.R} {me now : Int} (hc : Tw.codeTL ms ls = 0) :
    (fldA ms ls me now).length ≤ 8 ∧ UpI (fldA ms ls me now) ∧ (∀ a ∈ fldA ms ls me now, good ls now a) ∧ (∀ m ∈ ls, m.wl = 7 → Ln.statusV m now = 2 → m.ad ∈ fldA ms ls me now) ∧ covA ms ls me now (fldA ms ls me now) = true ∧ codeM ms ls (fldA ms ls me now) = 0 := by
  have hok := (Tw.codeTL_ok hc).2
  have e0 : fldA ms ls me now = fldV (viaF ms ls now) (strF ms ls me now) ls now := by unfold fldA; rw [if_pos hc]
  have hvr : ∀ z, ∀ a ∈ viaF ms ls now z, 1 ≤ a ∧ a ≤ 8 := fun z => Gp.via_rng hok
  have hsv : ∀ z ∈ strF ms ls me now, ∃ i, i < ls.length ∧ (viaF ms ls now z).contains (ls.getD i Lk.R.zero).ad = true := fun z hz => via_link (str_via z hz)
  obtain ⟨r0, hr0⟩ : ∃ r0, onesV (viaF ms ls now) (strF ms ls me now) (alwV ls now ls.length) = r0 := ⟨_, rfl⟩
  obtain ⟨G, hG⟩ : ∃ G, grdV (viaF ms ls now) (strF ms ls me now) ls 8 r0 = G := ⟨_, rfl⟩
  have e1 : fldA ms ls me now = sortV G := by rw [e0]; unfold fldV; rw [hr0, hG]
  have hn0 : r0.Nodup := by rw [← hr0]; exact Gp.ones_nodup (Gp.alw_nodup hok)
  have hn : G.Nodup := by rw [← hG]; exact grd_nodup 8 _ hn0
  have hgood : ∀ a ∈ G, good ls now a := fun a ha => by
    rw [← hG] at ha
    rcases grd_mem 8 _ ha with h | ⟨z, h⟩
    · rw [← hr0, Gp.ones_mem] at h
      rcases h with h | ⟨z, _, hl, rfl⟩
      · exact alw_good hok h
      · exact via_good hok (z := z) (ms := ms) (getD_mem (by omega))
    · exact via_good hok h
  have hrg : ∀ a ∈ G, 1 ≤ a ∧ a ≤ 8 := fun a ha => by
    obtain ⟨m, hf, _⟩ := hgood a ha
    have h1 := List.find?_some hf
    have h2 := List.mem_of_find?_eq_some hf
    obtain ⟨i, hi, rfl⟩ := List.getElem_of_mem h2
    have h3 := Ln.ok_ad (Ri.all_ok hok hi)
    rw [List.getD_eq_getElem?_getD, List.getElem?_eq_getElem hi] at h3
    have h4 : (ls[i]).ad = a := by simpa [Ln.isAd] using h1
    simp only [Option.getD_some] at h3
    omega
  have hs := sort_str hn hrg
  have hup := sort_up G hn G.length (Nat.le_refl _)
  rw [List.take_length] at hup
  have hlen : (sortV G).length ≤ 8 := by rw [hs]; exact Tw.strN_len _ _
  have hcm : codeM ms ls (sortV G) = 0 := by unfold codeM; rw [if_neg (by omega), if_pos hc, if_neg (by omega)]
  rw [e1]
  refine ⟨hlen, hup.1, fun a ha => hgood a ((hup.2 a).1 ha), fun m hm h1 h2 => ?_, ?_, hcm⟩
  · rw [hup.2, ← hG]
    refine grd_sub 8 _ ?_
    rw [← hr0, Gp.ones_mem]
    refine .inl ?_
    unfold alwV
    rw [List.take_length]
    exact List.mem_map.2 ⟨m, List.mem_filter.2 ⟨hm, by unfold alwB; rw [h1, h2]; rfl⟩, rfl⟩
  · unfold covA
    rw [decide_eq_true hcm, left_same (fun a => hup.2 a), ← hG, grd_left hsv 8 r0 (Nat.le_trans (left_len _ _ _) (str_len _ _ _ _))]
    rfl
end Cv
end Go.Proofs.YtffclijcfngeeaaGreat
namespace Go.Proofs.YtffclijcfngeeaaGreat
open Go.ChangeShapes Go.WideShapes Go.ChangeAt Go.RowKit
set_option linter.unusedVariables false
set_option maxRecDepth 100000
set_option linter.unusedSimpArgs false
attribute [local go_sem ↓] Go.wp_at_zero Go.wp_at_succ
namespace Nb
open W1
structure R where
  ad : Int
  st : Int
  mt : Int
  mp : Bool
def R.zero : R := ⟨0, 0, 0, false⟩
/-- The value of one. -/
def R.value (m : R) : Value := .agg #[.int .i64 m.ad, .int .i64 m.st, .int .i64 m.mt, .bool m.mp]
/-- The cells of one, of a list of them. -/
def R.cells (m : R) : List Value := [.int .i64 m.ad, .int .i64 m.st, .int .i64 m.mt, .bool m.mp]
def flat (ms : List R) : List Value := ms.flatMap R.cells
/-- The cells of one that lies at an address. -/
def At (w : World) (g o : Nat) (m : R) : Prop :=
  w.cell? ⟨g, o, none⟩ = some (.int .i64 m.ad) ∧ w.cell? ⟨g, o + 1, none⟩ = some (.int .i64 m.st) ∧ w.cell? ⟨g, o + 2, none⟩ = some (.int .i64 m.mt) ∧ w.cell? ⟨g, o + 3, none⟩ = some (.bool m.mp)
/-- The slice at a reads as these. -/
def RM (w : World) (a : Option Addr) (ms : List R) : Prop :=
  ms = [] ∨ ∃ g off, a = some ⟨g, off, none⟩ ∧ ∀ i, i < ms.length → At w g (off + i * 4) (ms.getD i R.zero)
theorem At.below {w w' : World} {g o : Nat} {m : R} (h : At w g o m) (hb : Below w.heap.size w w') : At w' g o m := by
  have hg : g < w.heap.size := World.block_lt_of_cell? _ _ h.1
  obtain ⟨h0, h1, h2, h3⟩ := h
  refine ⟨?_, ?_, ?_, ?_⟩ <;> (rw [hb.cell hg]; assumption)
theorem At.drew {w : World} {g o : Nat} {m : R} (h : At w g o m) : At w.drew g o m := h
theorem RM.below {w w' : World} {a : Option Addr} {ms : List R} (h : RM w a ms) (hb : Below w.heap.size w w') : RM w' a ms := by
  rcases h with h | ⟨g, off, rfl, hc⟩
  · exact .inl h
  · exact .inr ⟨g, off, rfl, fun i hi => (hc i hi).below hb⟩
theorem RM.drew {w : World} {a : Option Addr} {ms : List R} (h : RM w a ms) : RM w.drew a ms := h
theorem RM.at {w : World} {g off : Nat} {ms : List R} {i : Nat} (h : RM w (some ⟨g, off, none⟩) ms) (hi : i < ms.length) : At w g (off + i * 4) (ms.getD i R.zero) := by
  rcases h with rfl | ⟨g', off', e, hc⟩
  · simp at hi
  · cases e; exact hc i hi
theorem RM.form {w : World} {a : Option Addr} {ms : List R} (h : RM w a ms) (h0 : 0 < ms.length) : ∃ g off, a = some ⟨g, off, none⟩ := by
  rcases h with rfl | ⟨g, off, e, _⟩
  · simp at h0
  · exact ⟨g, off, e⟩
theorem getD_mem {ms : List R} {j : Nat} (h : j < ms.length) : ms.getD j R.zero ∈ ms := by rw [List.getD_eq_getElem?_getD, List.getElem?_eq_getElem h]; exact List.getElem_mem h
theorem R.len (m : R) : m.cells.length = 4 := rfl
theorem flat_len (ms : List R) : (flat ms).length = ms.length * 4 := by
  unfold flat
  induction ms with
  | nil => rfl
  | cons m t ih => rw [List.flatMap_cons, List.length_append, ih, R.len, List.length_cons]; omega
theorem flat_append (xs ys : List R) : flat (xs ++ ys) = flat xs ++ flat ys := by unfold flat; rw [List.flatMap_append]
theorem flat_get : ∀ (ms : List R) (i j : Nat), j < 4 → i < ms.length → (flat ms)[i * 4 + j]? = (ms.getD i R.zero).cells[j]?
  | [], i, j, hj, hi => by simp at hi
  | m :: t, 0, j, hj, hi => by
    unfold flat
    rw [List.flatMap_cons, Nat.zero_mul, Nat.zero_add, List.getElem?_append_left (by rw [R.len]; exact hj)]; rfl
  | m :: t, i + 1, j, hj, hi => by
    have ih := flat_get t i j hj (by simpa using hi)
    unfold flat at ih ⊢
    rw [List.flatMap_cons, show (i + 1) * 4 + j = m.cells.length + (i * 4 + j) by rw [R.len]; omega, List.getElem?_append_right (by omega), Nat.add_sub_cancel_left, ih]; rfl
theorem cell_one {m : R} {u : Value} (h : u ∈ m.cells) : u.oneCell' = true := by
  unfold R.cells at h; simp only [List.mem_cons, List.not_mem_nil, or_false] at h
  rcases h with rfl | rfl | rfl | rfl <;> rfl
theorem flat_one_cell {ms : List R} {u : Value} (h : u ∈ flat ms) : u.oneCell' = true := by
  obtain ⟨m, _, hu⟩ := List.mem_flatMap.1 h; exact cell_one hu
theorem at_cells {w : World} {g o : Nat} {m : R} (h : At w g o m) : ∀ j u, m.cells[j]? = some u → w.cell? ⟨g, o + j, none⟩ = some u := by
  intro j u hj
  match j, hj with
  | 0, hj => simp [R.cells] at hj; subst hj; exact h.1
  | 1, hj => simp [R.cells] at hj; subst hj; exact h.2.1
  | 2, hj => simp [R.cells] at hj; subst hj; exact h.2.2.1
  | 3, hj => simp [R.cells] at hj; subst hj; exact h.2.2.2
  | n + 4, hj => simp [R.cells] at hj
theorem plain_add (b off k : Nat) : (⟨b, off, none⟩ : Addr).add k = ⟨b, off + k, none⟩ := by unfold Addr.add; split <;> simp_all
/-- A list that is read, cell by cell. -/
theorem RM.cells {w : World} {g off : Nat} {ms : List R} (h : RM w (some ⟨g, off, none⟩) ms) : ∀ j u, (flat ms)[j]? = some u → w.cell? ((⟨g, off, none⟩ : Addr).add j) = some u := by
  intro j u hj
  have hl : j < ms.length * 4 := by
    rw [← flat_len]; exact (List.getElem?_eq_some_iff.1 hj).1
  have hi : j / 4 < ms.length := by omega
  have e : j / 4 * 4 + j % 4 = j := by omega
  rw [← e, flat_get ms _ _ (by omega) hi] at hj
  rw [plain_add, ← e, ← Nat.add_assoc]
  exact at_cells (h.at hi) _ _ hj
/-- A row of one's own that holds a list. -/
theorem at_own {w : World} {base g n cap : Nat} {ms : List R} (hn : n = ms.length) (h : w.ownsRow base 184 4 (.slice (some ⟨g, 0, none⟩) n cap) n (flat ms)) (i : Nat) (hi : i < ms.length) : At w g (i * 4) (ms.getD i R.zero) := by
  have hc : ∀ j, j < 4 → ∀ u, (ms.getD i R.zero).cells[j]? = some u → w.cell? ⟨g, i * 4 + j, none⟩ = some u := by
    intro j hj u hu
    have := h.cells (g := g) rfl (i * 4 + j) u (by rw [flat_get ms i j hj hi]; exact hu)
    rw [plain_add, Nat.zero_add] at this
    exact this
  exact ⟨hc 0 (by omega) _ rfl, hc 1 (by omega) _ rfl, hc 2 (by omega) _ rfl, hc 3 (by omega) _ rfl⟩

/-- One laid at an address. -/
def put (w : World) (g o : Nat) (m : R) : World := (((w.setCell ⟨g, o, none⟩ (.int .i64 m.ad)).setCell ⟨g, o + 1, none⟩ (.int .i64 m.st)).setCell ⟨g, o + 2, none⟩ (.int .i64 m.mt)).setCell ⟨g, o + 3, none⟩ (.bool m.mp)
theorem put_below {B : Nat} {w0 w : World} {g o : Nat} {m : R} (h : Below B w0 w) (hg : B ≤ g) : Below B w0 (put w g o m) := by
  unfold put
  exact (((h.setCell (p := ⟨g, o, none⟩) hg _).setCell (p := ⟨g, o + 1, none⟩) hg _).setCell (p := ⟨g, o + 2, none⟩) hg _).setCell (p := ⟨g, o + 3, none⟩) hg _
theorem put_size (w : World) (g o : Nat) (m : R) : (put w g o m).heap.size = w.heap.size := by simp [put, World.setCell]
theorem put_frozen (w : World) (g o : Nat) (m : R) (a : Addr) : (put w g o m).frozen? a = w.frozen? a := by
  unfold put; rw [World.frozen?_setCell, World.frozen?_setCell, World.frozen?_setCell, World.frozen?_setCell]
theorem put_far (w : World) (g o : Nat) (m : R) {b q : Nat} (h : b ≠ g ∨ q < o ∨ o + 4 ≤ q) : (put w g o m).cell? ⟨b, q, none⟩ = w.cell? ⟨b, q, none⟩ := by
  unfold put
  rw [World.cell?_setCell_other _ _ _ _ (by intro e; cases e <;> omega), World.cell?_setCell_other _ _ _ _ (by intro e; cases e <;> omega), World.cell?_setCell_other _ _ _ _ (by intro e; cases e <;> omega), World.cell?_setCell_other _ _ _ _ (by intro e; cases e <;> omega)]
theorem put_at (w : World) (g o : Nat) (m : R) (h : ∀ k, k < 4 → (w.cell? ⟨g, o + k, none⟩).isSome = true) : At (put w g o m) g o m := by
  obtain ⟨v0, h0⟩ := Option.isSome_iff_exists.1 (h 0 (by omega))
  obtain ⟨v1, h1⟩ := Option.isSome_iff_exists.1 (h 1 (by omega))
  obtain ⟨v2, h2⟩ := Option.isSome_iff_exists.1 (h 2 (by omega))
  obtain ⟨v3, h3⟩ := Option.isSome_iff_exists.1 (h 3 (by omega))
  rw [Nat.add_zero] at h0
  have n : ∀ {w : World} {v : Value} {a b : Nat}, a ≠ b → (w.setCell ⟨g, a, none⟩ v).cell? ⟨g, b, none⟩ = w.cell? ⟨g, b, none⟩ := fun {w v a b} e => World.cell?_setCell_other _ _ _ _ (by intro h; cases h; exact e rfl)
  unfold put
  refine ⟨?_, ?_, ?_, ?_⟩
  · rw [n (by omega), n (by omega), n (by omega), World.cell?_setCell_same _ _ _ h0]
  · rw [n (by omega), n (by omega), World.cell?_setCell_same _ _ _ ((n (by omega)).trans h1)]
  · rw [n (by omega), World.cell?_setCell_same _ _ _ ((n (by omega)).trans ((n (by omega)).trans h2))]
  · rw [World.cell?_setCell_same _ _ _ ((n (by omega)).trans ((n (by omega)).trans ((n (by omega)).trans h3)))]
theorem put_some (w : World) (g o : Nat) (m : R) (b q : Nat) (h : (w.cell? ⟨b, q, none⟩).isSome = true) : ((put w g o m).cell? ⟨b, q, none⟩).isSome = true := by
  obtain ⟨v, y0⟩ := Option.isSome_iff_exists.1 h
  unfold put
  obtain ⟨v1, y1⟩ := cell?_setCell_some (p := ⟨g, o, none⟩) (x := .int .i64 m.ad) y0
  obtain ⟨v2, y2⟩ := cell?_setCell_some (p := ⟨g, o + 1, none⟩) (x := .int .i64 m.st) y1
  obtain ⟨v3, y3⟩ := cell?_setCell_some (p := ⟨g, o + 2, none⟩) (x := .int .i64 m.mt) y2
  obtain ⟨v4, y4⟩ := cell?_setCell_some (p := ⟨g, o + 3, none⟩) (x := .bool m.mp) y3
  rw [y4]; rfl
/-- The first j stand at the head of block g, whose n times 4 cells may be written. -/
def Upto (w : World) (g n j : Nat) (ms : List R) : Prop :=
  (∀ i, i < j → At w g (i * 4) (ms.getD i R.zero)) ∧ ∀ i, i < n * 4 → (w.cell? ⟨g, i, none⟩).isSome = true ∧ w.frozen? ⟨g, i, none⟩ = false
theorem Upto.step {w : World} {g n j : Nat} {ms : List R} (h : Upto w g n j ms) (hj : j < n) : Upto (put w g (j * 4) (ms.getD j R.zero)) g n (j + 1) ms := by
  refine ⟨fun i hi => ?_, fun i hi => ⟨put_some _ _ _ _ _ _ (h.2 i hi).1, by rw [put_frozen]; exact (h.2 i hi).2⟩⟩
  by_cases e : i = j
  · subst e
    exact put_at _ _ _ _ (fun k hk => (h.2 _ (by omega)).1)
  · obtain ⟨h0, h1, h2, h3⟩ := h.1 i (by omega)
    exact ⟨(put_far _ _ _ _ (by omega)).trans h0, (put_far _ _ _ _ (by omega)).trans h1, (put_far _ _ _ _ (by omega)).trans h2, (put_far _ _ _ _ (by omega)).trans h3⟩
theorem Upto.below {w w' : World} {g n j : Nat} {ms : List R} (h : Upto w g n j ms) (hb : Below w.heap.size w w') (hg : g < w.heap.size) : Upto w' g n j ms :=
  ⟨fun i hi => (h.1 i hi).below hb, fun i hi => ⟨by rw [hb.cell (p := ⟨g, i, none⟩) hg]; exact (h.2 i hi).1, by rw [hb.frozen (p := ⟨g, i, none⟩) hg]; exact (h.2 i hi).2⟩⟩
theorem Upto.of_block {w w' : World} {g n j : Nat} {ms : List R} (h : Upto w g n j ms) (hb : w'.heap[g]? = w.heap[g]?) : Upto w' g n j ms := by
  have c : ∀ q, w'.cell? ⟨g, q, none⟩ = w.cell? ⟨g, q, none⟩ := fun q => World.cell?_of_block (a := ⟨g, q, none⟩) hb
  have f : ∀ q, w'.frozen? ⟨g, q, none⟩ = w.frozen? ⟨g, q, none⟩ := fun q => World.frozen?_of_block (a := ⟨g, q, none⟩) hb
  refine ⟨fun i hi => ?_, fun i hi => ⟨by rw [c]; exact (h.2 i hi).1, by rw [f]; exact (h.2 i hi).2⟩⟩
  obtain ⟨h0, h1, h2, h3⟩ := h.1 i hi
  exact ⟨(c _).trans h0, (c _).trans h1, (c _).trans h2, (c _).trans h3⟩
theorem rm_of {w : World} {g n : Nat} {ms : List R} (h : Upto w g n ms.length ms) : RM w (some ⟨g, 0, none⟩) ms := .inr ⟨g, 0, rfl, fun i hi => by rw [Nat.zero_add]; exact h.1 i hi⟩
theorem upto_own {w : World} {base g cap n : Nat} {ms : List R} (hn : n = ms.length) (h : w.ownsRow base 184 4 (.slice (some ⟨g, 0, none⟩) n cap) n (flat ms)) : Upto w g n n ms := by
  subst hn
  refine ⟨fun i hi => at_own rfl h i hi, fun i hi => ?_⟩
  obtain ⟨_, ⟨e, _⟩ | ⟨g', cap', cur, e, _, hg, h1, _, h3, _⟩⟩ := h
  · cases e
  · cases e
    have hlt : i < cur.size := by rw [h3]; exact Nat.lt_of_lt_of_le hi (Nat.mul_le_mul_right _ h1)
    refine ⟨?_, ?_⟩
    · simp [World.cell?, hg, hlt]
    · simp [World.frozen?, hg]
/-- A list between two bounds of the heap, in memory that may be written. -/
def Lst (W : World) (a : Option Addr) (ms : List R) (lo hi : Nat) : Prop := ms = [] ∨ ∃ g, a = some ⟨g, 0, none⟩ ∧ lo ≤ g ∧ g < hi ∧ g < W.heap.size ∧ Upto W g ms.length ms.length ms
theorem Lst.rm {W : World} {a : Option Addr} {ms : List R} {lo hi : Nat} (h : Lst W a ms lo hi) : RM W a ms := by
  rcases h with rfl | ⟨g, rfl, _, _, _, hu⟩
  · exact .inl rfl
  · exact rm_of hu
theorem Lst.below {W W' : World} {a : Option Addr} {ms : List R} {lo hi : Nat} (h : Lst W a ms lo hi) (hb : Below W.heap.size W W') : Lst W' a ms lo hi := by
  rcases h with rfl | ⟨g, rfl, h1, h2, h3, hu⟩
  · exact .inl rfl
  · exact .inr ⟨g, rfl, h1, h2, Nat.lt_of_lt_of_le h3 hb.size, hu.below hb h3⟩
theorem Lst.mono {W : World} {a : Option Addr} {ms : List R} {lo hi lo' hi' : Nat} (h : Lst W a ms lo hi) (h1 : lo' ≤ lo) (h2 : hi ≤ hi') : Lst W a ms lo' hi' := by
  rcases h with rfl | ⟨g, rfl, h3, h4, h5, hu⟩
  · exact .inl rfl
  · exact .inr ⟨g, rfl, by omega, by omega, h5, hu⟩
theorem Lst.but {W W' : World} {a : Option Addr} {ms : List R} {lo hi : Nat} {p : Nat → Prop} (h : Lst W a ms lo hi) (hs : W.heap.size ≤ W'.heap.size) (hb : ∀ k, k < W.heap.size → p k → W'.heap[k]? = W.heap[k]?) (hp : ∀ k, lo ≤ k → k < hi → p k) : Lst W' a ms lo hi := by
  rcases h with rfl | ⟨g, rfl, h1, h2, h3, hu⟩
  · exact .inl rfl
  · exact .inr ⟨g, rfl, h1, h2, Nat.lt_of_lt_of_le h3 hs, hu.of_block (hb g h3 (hp g h1 h2))⟩
/-- The same of a value. -/
def LstV (W : World) (v : Value) (ms : List R) (lo hi : Nat) : Prop := ∃ a c, v = .slice a ms.length c ∧ Lst W a ms lo hi
theorem LstV.below {W W' : World} {v : Value} {ms : List R} {lo hi : Nat} (h : LstV W v ms lo hi) (hb : Below W.heap.size W W') : LstV W' v ms lo hi := by
  obtain ⟨a, c, e, hl⟩ := h; exact ⟨a, c, e, hl.below hb⟩
theorem LstV.mono {W : World} {v : Value} {ms : List R} {lo hi lo' hi' : Nat} (h : LstV W v ms lo hi) (h1 : lo' ≤ lo) (h2 : hi ≤ hi') : LstV W v ms lo' hi' := by
  obtain ⟨a, c, e, hl⟩ := h; exact ⟨a, c, e, hl.mono h1 h2⟩
theorem lstV_nil (W : World) (a : Option Addr) (c lo hi : Nat) : LstV W (.slice a 0 c) [] lo hi := ⟨a, c, rfl, .inl rfl⟩
/-- A row of one's own as such a list. -/
theorem lst_own {w : World} {base n : Nat} {v : Value} {ms : List R} (hn : n = ms.length) (h : w.ownsRow base 184 4 v n (flat ms)) : LstV w v ms base w.heap.size := by
  unfold LstV
  have h' := h
  obtain ⟨hl, ⟨rfl, h0⟩ | ⟨g, cap, cur, rfl, hb, hg, _, _, _, _⟩⟩ := h
  · exact ⟨none, 0, by rw [← hn, h0], .inl (List.eq_nil_of_length_eq_zero (by omega))⟩
  · have hlt : g < w.heap.size := by
      rcases Nat.lt_or_ge g w.heap.size with h | h
      · exact h
      · rw [Array.getElem?_eq_none h] at hg; cases hg
    refine ⟨_, cap, by rw [hn], .inr ⟨g, rfl, hb, hlt, hlt, ?_⟩⟩
    have := upto_own hn h'
    rw [hn] at this; exact this


theorem infoR : ∃ i, Tryz.prog.info? 184 = some i ∧ i.zero = some (Value.agg #[.int .i64 0, .int .i64 0, .int .i64 0, .bool false]) ∧ i.size = 4 ∧ i.bytes = 32 := by
  have h : (Tryz.prog.info? 184).map (fun i => (i.zero, i.size, i.bytes)) = some (some (Value.agg #[.int .i64 0, .int .i64 0, .int .i64 0, .bool false]), 4, 32) := by kernel_rfl
  obtain ⟨i, hi, he⟩ := Option.map_eq_some_iff.1 h
  simp only [Prod.mk.injEq] at he
  exact ⟨i, hi, he.1, he.2.1, he.2.2⟩

/-- append of a list to a row of one's own, as a walk meets it. -/
theorem wpList_apS {ops : Array Oper} {rest : List Oper} {o : Oper} {a : Act} {Q : Exit → Act → World → Prop} {w : World} {base : Nat} {v : Value} {xs : List R} (hown : w.ownsRow base 184 4 v xs.length (flat xs)) (g off m c : Nat) (ms : List R) (hm : ms.length = m) (hr : RM w (some ⟨g, off, none⟩) ms) (hlen : xs.length + ms.length ≤ 4194304) (hbase : base ≤ w.heap.size)
    (hgd : o.guard = none) (s x : Operand) (ho : o.op = .call { callee := .builtin .append, args := #[s, x], argTypes := #[51, 51] }) (hs : a.eval s = v) (hx : a.eval x = .slice (some ⟨g, off, none⟩) m c)
    (h : ∀ v' w', w'.ownsRow base 184 4 v' (xs ++ ms).length (flat (xs ++ ms)) → w.grownBy w' v.ownBlock → wpList Tryz.prog ops Q rest (a.put o.dst v') w') : wpList Tryz.prog ops Q (o :: rest) a w := by
  subst hm
  obtain ⟨i0, hi, hz0, hz1, hz2⟩ := infoR
  refine wpList_append_own w hgd s x _ ho base 184 i0 _ 4 32 Tryz.underlying51 hi hz0 hz1 hz2 rfl (by decide) v xs.length (flat xs) hs hown ⟨g, off, none⟩ ms.length c (flat ms) hx (flat_len ms) hr.cells (fun u hu => flat_one_cell hu) (by unfold maxLen; omega) (by omega) hbase (fun v' w' h1 h2 _ => ?_)
  refine h v' w' ?_ h2
  rw [List.length_append, flat_append]; exact h1
/-- The same, inside a region that draws its order. -/
theorem wp_apS {o : Oper} {a : Act} {K : Act → World → Prop} {Q : Exit → Act → World → Prop} {w : World} {base d : Nat} {v : Value} {xs : List R} (hown : w.ownsRow base 184 4 v xs.length (flat xs)) (g off m c : Nat) (ms : List R) (hm : ms.length = m) (hr : RM w (some ⟨g, off, none⟩) ms) (hlen : xs.length + ms.length ≤ 4194304) (hbase : base ≤ w.heap.size)
    (s x : Operand) (ho : o.op = .call { callee := .builtin .append, args := #[s, x], argTypes := #[51, 51] }) (hd : o.dst = some d) (hs : a.eval s = v) (hx : a.eval x = .slice (some ⟨g, off, none⟩) m c)
    (h : ∀ v' w', w'.ownsRow base 184 4 v' (xs ++ ms).length (flat (xs ++ ms)) → w.grownBy w' v.ownBlock → K (a.put (some d) v') w') : o.wp Tryz.prog a w K Q := by
  subst hm
  obtain ⟨i0, hi, hz0, hz1, hz2⟩ := infoR
  refine wp_append_own w s x _ ho base 184 i0 _ 4 32 Tryz.underlying51 hi hz0 hz1 hz2 rfl (by decide) v xs.length (flat xs) hs hown ⟨g, off, none⟩ ms.length c (flat ms) hx (flat_len ms) hr.cells (fun u hu => flat_one_cell hu) (by unfold maxLen; omega) (by omega) hbase (fun v' w' h1 h2 _ => ?_)
  rw [hd]
  refine h v' w' ?_ h2
  rw [List.length_append, flat_append]; exact h1
theorem rm_new (w : World) (m : R) : RM (w.alloc (.cells #[.int .i64 m.ad, .int .i64 m.st, .int .i64 m.mt, .bool m.mp] 184)) (some ⟨w.heap.size, 0, none⟩) [m] := by
  refine .inr ⟨_, _, rfl, fun i hi => ?_⟩
  obtain rfl : i = 0 := by simp at hi; omega
  refine ⟨?_, ?_, ?_, ?_⟩ <;> simp [World.cell?_alloc_new]
theorem own_empty (w : World) (base : Nat) (hb : base ≤ w.heap.size) : (w.alloc (.cells #[] 184)).ownsRow base 184 4 (.slice (some ⟨w.heap.size, 0, none⟩) 0 0) ([] : List R).length (flat []) := World.ownsRow_made w #[] 0 hb (Nat.zero_le _) (by simp)
theorem own_nil (w : World) (base : Nat) : w.ownsRow base 184 4 (.slice none 0 0) ([] : List R).length (flat []) := World.ownsRow_nil w base _ _
theorem below_own {B : Nat} {w0 w w' : World} {base : Nat} {v : Value} {n : Nat} {xs : List Value} (h : Below B w0 w) (ho : w.ownsRow base 184 4 v n xs) (hg : w.grownBy w' v.ownBlock) (hb : B ≤ base) (hB : B ≤ w.heap.size) : Below B w0 w' :=
  h.grown hg hB (fun k hk => Nat.le_trans hb (ho.lt k hk).1)


set_option maxHeartbeats 1000000 in
theorem eqR (ad : Int) (st : Int) (mt : Int) (mp : Bool) (w : World) :
    Calls Tryz.prog 157 #[.agg #[.int .i64 ad, .int .i64 st, .int .i64 mt, .bool mp], .agg #[.int .i64 ad, .int .i64 st, .int .i64 mt, .bool mp]] w
      fun e w' => e = .returned (.bool true) ∧ Below w.heap.size w w' := by
  go_enter Tryz.func157, Tryz.ntmps157
  go_wp2
  go_ret
  repeat (first | exact ⟨rfl, Below.refl _ _⟩ | refine ⟨rfl, ?_⟩ | exact Below.refl _ _ | refine Below.alloc ?_ (by simp <;> omega) _)

theorem sAt {w : World} {g g' o o' : Nat} {ad st mt : Int} {mp : Bool} (h : At w g o ⟨ad, st, mt, mp⟩) (h' : At w g' o' ⟨ad, st, mt, mp⟩) :
    (At w g o ⟨ad, st, mt, mp⟩ ∧ At w g' o' ⟨ad, st, mt, mp⟩) ∧ w.cell? ⟨g, o, none⟩ = some (.int .i64 ad) ∧ w.cell? ⟨g, o + 1, none⟩ = some (.int .i64 st) ∧ w.cell? ⟨g, o + 2, none⟩ = some (.int .i64 mt) ∧ w.cell? ⟨g, o + 3, none⟩ = some (.bool mp) ∧ w.cell? ⟨g', o', none⟩ = some (.int .i64 ad) ∧ w.cell? ⟨g', o' + 1, none⟩ = some (.int .i64 st) ∧ w.cell? ⟨g', o' + 2, none⟩ = some (.int .i64 mt) ∧ w.cell? ⟨g', o' + 3, none⟩ = some (.bool mp) := ⟨⟨h, h'⟩, h.1, h.2.1, h.2.2.1, h.2.2.2, h'⟩

set_option maxRecDepth 100000 in
set_option maxHeartbeats 4000000 in
theorem eqS (a b : Option Addr) (ms : List R) (ca cb : Nat) (w : World) (hm : ms.length ≤ 1048576) (hr : RM w a ms) (hr' : RM w b ms) :
    Calls Tryz.prog 71 #[.slice a ms.length ca, .slice b ms.length cb] w fun e w' => e = .returned (.bool true) ∧ Below w.heap.size w w' := by
  have HR := hide hr
  have HR' := hide hr'
  clear hr hr'
  generalize hN : ms.length = n at *
  have HN := hide hN
  clear hN
  go_enter Tryz.func71, Tryz.ntmps71
  go_wp2
  go_loopw [5] (fun i wr => ∃ j : Nat, j ≤ n ∧ i = .int .i64 j ∧ Hid (Below w.heap.size w wr)) (fun i _ => n - (intOf i).toNat)
  case atStart => exact ⟨0, by omega, rfl, hide (Below.refl _ _)⟩
  case round =>
    obtain ⟨j, hj, rfl, hbl⟩ := hrel
    by_cases hlt : (j : Int) < (n : Int)
    · have k0 : (0 : Int) ≤ (j : Int) := by omega
      have hlen : j < ms.length := by rw [unhide HN]; omega
      rcases (unhide HR).below (by exact (unhide hbl)) with e0 | ⟨g, off, rfl, hc⟩
      · exfalso; rw [e0] at hlen; simp at hlen
      rcases (unhide HR').below (by exact (unhide hbl)) with e0 | ⟨g', off', rfl, hc'⟩
      · exfalso; rw [e0] at hlen; simp at hlen
      have hA := hc j hlen
      have hA' := hc' j hlen
      clear hc hc'
      generalize ms.getD j R.zero = m at *
      obtain ⟨ad, st, mt, mp⟩ := m
      go_wp2_with fail
      go_region_held3 (fun w' => (At w' g (off + j * 4) ⟨ad, st, mt, mp⟩ ∧ At w' g' (off' + j * 4) ⟨ad, st, mt, mp⟩) ∧ w'.cell? ⟨g, off + j * 4, none⟩ = some (.int .i64 ad) ∧ w'.cell? ⟨g, off + j * 4 + 1, none⟩ = some (.int .i64 st) ∧ w'.cell? ⟨g, off + j * 4 + 2, none⟩ = some (.int .i64 mt) ∧ w'.cell? ⟨g, off + j * 4 + 3, none⟩ = some (.bool mp) ∧ w'.cell? ⟨g', off' + j * 4, none⟩ = some (.int .i64 ad) ∧ w'.cell? ⟨g', off' + j * 4 + 1, none⟩ = some (.int .i64 st) ∧ w'.cell? ⟨g', off' + j * 4 + 2, none⟩ = some (.int .i64 mt) ∧ w'.cell? ⟨g', off' + j * 4 + 3, none⟩ = some (.bool mp))
        ((go_split_ands; exact sAt (by first | with_reducible assumption | (with_reducible refine At.drew ?_; with_reducible assumption) | (exact At.below (by with_reducible assumption) b1)) (by first | with_reducible assumption | (with_reducible refine At.drew ?_; with_reducible assumption) | (exact At.below (by with_reducible assumption) b1))))
        (first | (go_at_call 157; refine (eqR ad st mt mp _).mono ?_; rintro e w1 ⟨rfl, b1⟩))
      have hb1 := hide ((unhide hbl).drew.trans (b1.mono (by show w.heap.size ≤ wr.heap.size; exact (unhide hbl).size)))
      go_wp2_with fail
      go_roundw
      case rel => exact ⟨j + 1, by omega, by go_num, hb1⟩
      case measure => simp [intOf]; omega
    · go_wp2
      go_ret
      exact ⟨rfl, unhide hbl⟩

/-- The marks from K on. -/
def markR (K : Int) : R := ⟨K, K + 1, K + 1 + 1, ((K + 1 + 1 + 1) % 3 == 0)⟩
def marks (K : Int) (n : Nat) : List R := (List.range n).map fun t : Nat => markR (K + 4 * (t : Int))
theorem marks_len (K : Int) (n : Nat) : (marks K n).length = n := by simp [marks]
theorem marks_at (K : Int) (n t : Nat) (h : t < n) : (marks K n).getD t R.zero = markR (K + 4 * (t : Int)) := by
  unfold marks
  rw [List.getD_eq_getElem?_getD, List.getElem?_map, List.getElem?_range h]; rfl
theorem grown_set {w w1 : World} {g o : Nat} {v : Value} (h : w.grownBy w1 (some g)) : w.grownBy (w1.setCell ⟨g, o, none⟩ v) (some g) :=
  ⟨h.os, h.tape, h.output, by have := h.size; simp [World.setCell]; exact this, fun k hk hne => (Below.heap_setCell _ _ _ _ (fun e => hne (by rw [e]))).trans (h.block k hk hne)⟩
theorem grown_put {w w1 : World} {g o : Nat} {m : R} (h : w.grownBy w1 (some g)) : w.grownBy (put w1 g o m) (some g) := grown_set (grown_set (grown_set (grown_set (h))))

set_option maxHeartbeats 4000000 in
theorem markS (g n c : Nat) (K : Int) (ms : List R) (w : World) (hK : 0 ≤ K) (hK1 : K ≤ 1073741824) (hn : n ≤ 1048576) (hg : g < w.heap.size) (hU : Upto w g n n ms) :
    Calls Tryz.prog 72 #[.slice (some ⟨g, 0, none⟩) n c, .int .i64 K] w fun e w' => e = .returned (.int .i64 (K + 4 * (n : Int))) ∧ w.grownBy w' (some g) ∧ Upto w' g n n (marks K n) := by
  have hU0 : Hid (Upto w g n 0 (marks K n)) := hide ⟨fun i hi => by omega, hU.2⟩
  clear hU
  go_enter Tryz.func72, Tryz.ntmps72
  go_wp2
  go_loopw [1, 5] (fun q i wr => ∃ j : Nat, j ≤ n ∧ i = .int .i64 j ∧ q = .int .i64 (K + 4 * (j : Int)) ∧ Hid (w.grownBy wr (some g)) ∧ Hid (Upto wr g n j (marks K n))) (fun _ i _ => n - (intOf i).toNat)
  case atStart => exact ⟨0, by omega, rfl, by simp, hide ⟨rfl, rfl, rfl, Nat.le_refl _, fun _ _ _ => rfl⟩, hU0⟩
  case round =>
    obtain ⟨j, hj, rfl, rfl, hgr, hu⟩ := hrel
    by_cases hlt : (j : Int) < (n : Int)
    · have k0 : (0 : Int) ≤ (j : Int) := by omega
      obtain ⟨v0, x0⟩ := Option.isSome_iff_exists.1 ((unhide hu).2 (j * 4) (by omega)).1
      obtain ⟨v1, x1⟩ := Option.isSome_iff_exists.1 ((unhide hu).2 (j * 4 + 1) (by omega)).1
      obtain ⟨v2, x2⟩ := Option.isSome_iff_exists.1 ((unhide hu).2 (j * 4 + 2) (by omega)).1
      obtain ⟨v3, x3⟩ := Option.isSome_iff_exists.1 ((unhide hu).2 (j * 4 + 3) (by omega)).1
      have y0 := ((unhide hu).2 (j * 4) (by omega)).2
      have y1 := ((unhide hu).2 (j * 4 + 1) (by omega)).2
      have y2 := ((unhide hu).2 (j * 4 + 2) (by omega)).2
      have y3 := ((unhide hu).2 (j * 4 + 3) (by omega)).2
      have hst := (unhide hu).step (by omega)
      rw [marks_at K n j (by omega)] at hst
      have HST := hide hst
      have HGN := hide (grown_put (o := j * 4) (m := markR (K + 4 * (j : Int))) (unhide hgr))
      clear hst
      generalize hq : K + 4 * (j : Int) = q at *
      have hq0 : 0 ≤ q := by omega
      have hq1 : q ≤ 1109393408 := by omega
      go_wp2_with fail
      exact ⟨⟨j + 1, by omega, by go_num, by go_num, HGN, HST⟩, by simp [intOf]; omega⟩
    · obtain rfl : j = n := by omega
      go_wp2
      go_ret
      exact ⟨rfl, unhide hgr, unhide hu⟩
theorem markS0 (a : Option Addr) (c : Nat) (K : Int) (w : World) :
    Calls Tryz.prog 72 #[.slice a 0 c, .int .i64 K] w fun e w' => e = .returned (.int .i64 K) ∧ w' = w := by
  go_enter Tryz.func72, Tryz.ntmps72
  go_wp2
  go_loop [1, 5] (fun q i => q = .int .i64 K ∧ i = .int .i64 0) (fun _ i => 0)
  case atStart => exact ⟨rfl, rfl⟩
  case round =>
    obtain ⟨rfl, rfl⟩ := hrel
    go_wp2
    go_ret
    exact ⟨rfl, rfl⟩
theorem heldS0 (a : Option Addr) (c : Nat) (K : Int) (w : World) :
    Calls Tryz.prog 73 #[.slice a 0 c, .int .i64 K] w fun e w' => e = .returned (.int .i64 K) ∧ w' = w := by
  go_enter Tryz.func73, Tryz.ntmps73
  go_wp2
  go_loop [1, 5] (fun q i => q = .int .i64 K ∧ i = .int .i64 0) (fun _ i => 0)
  case atStart => exact ⟨rfl, rfl⟩
  case round =>
    obtain ⟨rfl, rfl⟩ := hrel
    go_wp2
    go_ret
    exact ⟨rfl, rfl⟩

set_option maxHeartbeats 4000000 in
theorem heldS (g n c : Nat) (K : Int) (w : World) (hK : 0 ≤ K) (hK1 : K ≤ 1073741824) (hn : n ≤ 1048576) (hU : Upto w g n n (marks K n)) :
    Calls Tryz.prog 73 #[.slice (some ⟨g, 0, none⟩) n c, .int .i64 K] w fun e w' => e = .returned (.int .i64 (K + 4 * (n : Int))) ∧ w' = w := by
  have HU := hide hU
  clear hU
  go_enter Tryz.func73, Tryz.ntmps73
  go_wp2
  go_loopw [1, 5] (fun q i wr => wr = w ∧ ∃ j : Nat, j ≤ n ∧ i = .int .i64 j ∧ q = .int .i64 (K + 4 * (j : Int))) (fun _ i _ => n - (intOf i).toNat)
  case atStart => exact ⟨rfl, 0, by omega, rfl, by simp⟩
  case round =>
    obtain ⟨rfl, j, hj, rfl, rfl⟩ := hrel
    by_cases hlt : (j : Int) < (n : Int)
    · have k0 : (0 : Int) ≤ (j : Int) := by omega
      have hA := (unhide HU).1 j (by omega)
      rw [marks_at K n j (by omega)] at hA
      obtain ⟨c0, c1, c2, c3⟩ := hA
      unfold markR at c0 c1 c2 c3
      dsimp only at c0 c1 c2 c3
      generalize hq : K + 4 * (j : Int) = q at *
      have hq0 : 0 ≤ q := by omega
      have hq1 : q ≤ 1109393408 := by omega
      go_wp2_with fail
      go_roundw
      case rel => exact ⟨by first | trivial | rfl, j + 1, by omega, by go_num, by go_num⟩
      case measure => simp [intOf]; omega
    · obtain rfl : j = n := by omega
      go_wp2
      go_ret
      exact ⟨by first | trivial | rfl, rfl⟩
/-- Marks on a list that may be written, whether it has any or not. -/
theorem markF (a : Option Addr) (c lo hi : Nat) (K : Int) (ms : List R) (w : World) (hK : 0 ≤ K) (hK1 : K ≤ 1073741824) (hn : ms.length ≤ 1048576) (h : Lst w a ms lo hi) :
    Calls Tryz.prog 72 #[.slice a ms.length c, .int .i64 K] w fun e w' => e = .returned (.int .i64 (K + 4 * (ms.length : Int))) ∧ w.heap.size ≤ w'.heap.size ∧ Below (min lo w.heap.size) w w' ∧ Lst w' a (marks K ms.length) lo hi ∧ ∀ k, k < w.heap.size → (k < lo ∨ hi ≤ k) → w'.heap[k]? = w.heap[k]? := by
  have hnil : ∀ w', w' = w → w.heap.size ≤ w'.heap.size ∧ Below (min lo w.heap.size) w w' ∧ ∀ k, k < w.heap.size → (k < lo ∨ hi ≤ k) → w'.heap[k]? = w.heap[k]? := by
    rintro w' rfl
    exact ⟨Nat.le_refl _, Below.refl _ _, fun _ _ _ => rfl⟩
  by_cases h0 : ms.length = 0
  · obtain rfl : ms = [] := List.eq_nil_of_length_eq_zero h0
    refine (markS0 a c K w).mono ?_
    rintro e w' ⟨rfl, hw⟩
    obtain ⟨q1, q2, q3⟩ := hnil w' hw
    exact ⟨by simp, q1, q2, .inl rfl, q3⟩
  rcases h with rfl | ⟨g, rfl, h1, h2, h3, hu⟩
  · simp at h0
  refine (markS g ms.length c K ms w hK hK1 hn h3 hu).mono ?_
  rintro e w' ⟨rfl, gr, hu'⟩
  exact ⟨rfl, gr.size, ⟨gr.os, gr.tape, gr.output, gr.size, fun k hk => gr.block k (by omega) (fun e => by cases e; omega)⟩, .inr ⟨g, rfl, h1, h2, Nat.lt_of_lt_of_le h3 gr.size, by rw [marks_len]; exact hu'⟩, fun k hk hne => gr.block k hk (fun e => by cases e; omega)⟩
theorem heldF (a : Option Addr) (c n lo hi : Nat) (K : Int) (w : World) (hK : 0 ≤ K) (hK1 : K ≤ 1073741824) (hn : n ≤ 1048576) (h : Lst w a (marks K n) lo hi) :
    Calls Tryz.prog 73 #[.slice a n c, .int .i64 K] w fun e w' => e = .returned (.int .i64 (K + 4 * (n : Int))) ∧ w' = w := by
  by_cases h0 : n = 0
  · subst h0
    refine (heldS0 a c K w).mono ?_
    rintro e w' ⟨rfl, rfl⟩
    exact ⟨by simp, rfl⟩
  rcases h with h | ⟨g, rfl, _, _, _, hu⟩
  · have := marks_len K n; rw [h] at this; simp at this; omega
  · rw [marks_len] at hu
    exact heldS g n c K w hK hK1 hn hu
end Nb
end Go.Proofs.YtffclijcfngeeaaGreat
namespace Go.Proofs.YtffclijcfngeeaaGreat
open Go.ChangeShapes Go.WideShapes Go.ChangeAt Go.RowKit
set_option linter.unusedVariables false
namespace Mtr
open W1
def met (c : Nat) : Int := (257 + (c % 256 : Nat)) * 2 ^ (c / 256) - 256
theorem met_step (c : Nat) : met c < met (c + 1) := by
  unfold met
  have hp : (0 : Int) < 2 ^ (c / 256) := Int.pow_pos (by decide)
  by_cases h : c % 256 = 255
  · have h1 : (c + 1) % 256 = 0 := by omega
    have h2 : (c + 1) / 256 = c / 256 + 1 := by omega
    rw [h, h1, h2, Int.pow_succ]
    generalize (2 : Int) ^ (c / 256) = p at *
    omega
  · have h1 : (c + 1) % 256 = c % 256 + 1 := by omega
    have h2 : (c + 1) / 256 = c / 256 := by omega
    rw [h1, h2]
    have := Int.mul_lt_mul_of_pos_right (show (257 + ((c % 256 : Nat) : Int)) < 257 + ((c % 256 + 1 : Nat) : Int) by omega) hp
    omega
theorem met_mono {a b : Nat} (h : a ≤ b) : met a ≤ met b := by
  induction h with
  | refl => exact Int.le_refl _
  | step _ ih => exact Int.le_trans ih (Int.le_of_lt (met_step _))
theorem met_lo (a : Nat) : 1 ≤ met a := by
  have h0 : met 0 = 1 := by decide
  have := met_mono (Nat.zero_le a)
  omega
theorem met_hi {a : Nat} (h : a ≤ 4095) : met a ≤ 16776960 := by
  have h0 : met 4095 = 16776960 := by decide
  have := met_mono h
  omega
/-- k is the least code whose metric is n or more. -/
def IsCode (n : Int) (k : Nat) : Prop := k ≤ 4095 ∧ n ≤ met k ∧ (k = 0 ∨ met (k - 1) < n)
theorem arith1 (c : Nat) : ((c + 1) * 256 + 256 - 256 - 1) % 256 = 255 ∧ ((c + 1) * 256 + 256 - 256 - 1) / 256 = c := by omega
theorem arith2 {b q : Nat} (h : 257 ≤ q) (h' : q < 512) : (b * 256 + q - 256 - 1) % 256 = q - 257 ∧ (b * 256 + q - 256 - 1) / 256 = b := by omega
/-- The least code whose metric is n or more. -/
def mcode (n : Int) : Nat := cnt met 4096 n
theorem mcode_of {n : Int} {k : Nat} (h : IsCode n k) : mcode n = k :=
  cnt_of _ _ _ _ (by have := h.1; omega) (fun c hc => by
    rcases h.2.2 with e | e
    · omega
    · have := met_mono (show c ≤ k - 1 by omega); omega) (fun c hc _ => by have := met_mono hc; have := h.2.1; omega)
/-- The program's way to the code. -/
theorem fast {n : Nat} (h1 : 1 ≤ n) (h2 : n ≤ 16776960) :
    9 ≤ Lib.bitLen (n + 255) ∧ Lib.bitLen (n + 255) ≤ 24 ∧ 256 ≤ (n + 255) / 2 ^ (Lib.bitLen (n + 255) - 9) ∧ (n + 255) / 2 ^ (Lib.bitLen (n + 255) - 9) ≤ 511 ∧
    IsCode n ((Lib.bitLen (n + 255) - 9) * 256 + (n + 255) / 2 ^ (Lib.bitLen (n + 255) - 9) - 256) ∧ (n ≤ 256 → met ((Lib.bitLen (n + 255) - 9) * 256 + (n + 255) / 2 ^ (Lib.bitLen (n + 255) - 9) - 256) = n) := by
  obtain ⟨l1, l2, l3⟩ := Lib.bitLenAux_bounds 64 (n + 255) (by omega) (by omega)
  have hb : Lib.bitLen (n + 255) = Lib.bitLenAux 64 (n + 255) := by rw [Lib.bitLen]
  rw [← hb] at l1 l2 l3
  clear hb
  generalize Lib.bitLen (n + 255) = L at *
  have a1 : 9 ≤ L := by
    rcases Nat.lt_or_ge L 9 with h | h
    · have := Nat.pow_le_pow_right (n := 2) (by decide) (show L ≤ 8 by omega); omega
    · exact h
  have a2 : L ≤ 24 := by
    rcases Nat.lt_or_ge 24 L with h | h
    · have := Nat.pow_le_pow_right (n := 2) (by decide) (show 24 ≤ L - 1 by omega); omega
    · exact h
  obtain ⟨b, rfl⟩ : ∃ b, L = b + 9 := ⟨L - 9, by omega⟩
  have e1 : b + 9 - 1 = b + 8 := by omega
  have e2 : b + 9 - 9 = b := by omega
  rw [e1, Nat.pow_add] at l2
  rw [Nat.pow_add] at l3
  rw [e2]
  have hp : 0 < 2 ^ b := Nat.two_pow_pos _
  have q1 : 256 ≤ (n + 255) / 2 ^ b := (Nat.le_div_iff_mul_le hp).2 (by omega)
  have q2 : (n + 255) / 2 ^ b < 512 := (Nat.div_lt_iff_lt_mul hp).2 (by omega)
  have dm := Nat.div_add_mod (n + 255) (2 ^ b)
  have ml := Nat.mod_lt (n + 255) hp
  generalize hq : (n + 255) / 2 ^ b = q at *
  refine ⟨a1, a2, q1, by omega, ?_⟩
  have k1 : (b * 256 + q - 256) % 256 = q - 256 := by omega
  have k2 : (b * 256 + q - 256) / 256 = b := by omega
  have hme : met (b * 256 + q - 256) = ((2 ^ b * q + 2 ^ b : Nat) : Int) - 256 := by
    unfold met
    rw [k1, k2]
    have : (257 + ((q - 256 : Nat) : Int)) = (q : Int) + 1 := by omega
    rw [this, Int.add_mul]
    simp [Int.mul_comm]
  refine ⟨⟨by omega, by rw [hme]; omega, ?_⟩, ?_⟩
  · by_cases hz : b * 256 + q - 256 = 0
    · exact .inl hz
    · right
      have hm2 : met (b * 256 + q - 256 - 1) = ((2 ^ b * q : Nat) : Int) - 256 := by
        unfold met
        by_cases hq0 : q = 256
        · subst hq0
          obtain ⟨c, rfl⟩ : ∃ c, b = c + 1 := ⟨b - 1, by omega⟩
          obtain ⟨k3, k4⟩ := arith1 c
          rw [k3, k4, Nat.pow_succ]
          simp
          generalize (2 : Int) ^ c = p
          omega
        · obtain ⟨k3, k4⟩ := arith2 (b := b) (show 257 ≤ q by omega) q2
          rw [k3, k4]
          have : (257 + ((q - 257 : Nat) : Int)) = (q : Int) := by omega
          rw [this]
          simp [Int.mul_comm]
      rw [hm2]
      generalize 2 ^ b * q = pq at *
      omega
  · intro hn
    have hb : b = 0 := by
      rcases Nat.eq_zero_or_pos b with h | h
      · exact h
      · have : 2 ^ 1 ≤ 2 ^ b := Nat.pow_le_pow_right (by decide) h
        omega
    subst hb
    rw [hme]
    simp at *
    omega
theorem mcode_is {n : Int} (h0 : 1 ≤ n) (h1 : n ≤ 16776960) : IsCode n (mcode n) := by
  obtain ⟨c, rfl⟩ := Int.eq_ofNat_of_zero_le (show 0 ≤ n by omega)
  obtain ⟨_, _, _, _, hc, _⟩ := fast (n := c) (by omega) (by omega)
  rw [mcode_of hc]; exact hc
theorem and_mask (j : Nat) (hj : j ≤ 16) (x m : Int) (hm : m = ((2 ^ j - 1 : Nat) : Int)) : bits BinOp.and IntKind.i64 x m = x % ((2 ^ j : Nat) : Int) := by
  subst hm
  have hp : 2 ^ j ≤ 2 ^ 16 := Nat.pow_le_pow_right (by decide) hj
  have hp1 : 0 < 2 ^ j := Nat.two_pow_pos j
  have hd : 2 ^ j ∣ 2 ^ 64 := Nat.pow_dvd_pow 2 (by omega)
  show IntKind.i64.wrap ((BitVec.ofInt 64 x &&& BitVec.ofInt 64 ((2 ^ j - 1 : Nat) : Int)).toNat : Int) = _
  rw [BitVec.toNat_and, ofInt_u64 (2 ^ j - 1) (by omega), Nat.and_two_pow_sub_one_eq_mod, BitVec.toNat_ofInt, IntWalk.i64_left]
  have h1 : (((x % ((2 ^ 64 : Nat) : Int)).toNat % 2 ^ j : Nat) : Int) = x % ((2 ^ j : Nat) : Int) := by
    rw [Int.natCast_emod, Int.toNat_of_nonneg (Int.emod_nonneg _ (by decide)), Int.emod_emod_of_dvd _ (Int.natCast_dvd_natCast.2 hd)]
  rw [h1]
  have h2 := Int.emod_nonneg x (show ((2 ^ j : Nat) : Int) ≠ 0 by omega)
  have h3 := Int.emod_lt_of_pos x (show (0 : Int) < ((2 ^ j : Nat) : Int) by omega)
  unfold wrap64
  generalize x % ((2 ^ j : Nat) : Int) = y at *
  omega
theorem and_255 (x : Int) : bits BinOp.and IntKind.i64 x 255 = x % 256 := and_mask 8 (by decide) x 255 rfl
theorem and_7 (x : Int) : bits BinOp.and IntKind.i64 x 7 = x % 8 := and_mask 3 (by decide) x 7 rfl

theorem met_wrap {c : Nat} (hc : c ≤ 4095) : wrap64 (wrap64 ((257 + (c : Int) % 256) * 2 ^ (c / 256)) - 256) = met c := by
  have h0 := met_lo c
  have h1 := met_hi hc
  have e : (257 + (c : Int) % 256) * 2 ^ (c / 256) = met c + 256 := by unfold met; simp
  rw [e]
  unfold wrap64
  omega
set_option maxHeartbeats 400000 in
theorem metricAt (c : Nat) (hc : c ≤ 4095) (w : World) : Calls Tryz.prog 303 #[.int .i64 c] w fun e w' => e = .returned (.int .i64 (met c)) ∧ w' = w := by
  go_enter Tryz.func303, Tryz.ntmps303
  go_wp2
  go_ret
  exact ⟨ret_int (met_wrap hc), rfl⟩
theorem met_wrap2 {c : Nat} (hc : c ≤ 4095) : wrap64 (wrap64 (wrap64 (257 + bits BinOp.and IntKind.i64 c 255) * 2 ^ (c / 256)) - 256) = met c := by
  have e : wrap64 (257 + bits BinOp.and IntKind.i64 c 255) = 257 + (c : Int) % 256 := by rw [and_255]; unfold wrap64; omega
  rw [e]; exact met_wrap hc
set_option maxHeartbeats 400000 in
theorem l02Metric (c : Nat) (hc : c ≤ 4095) (w : World) : Calls Tryz.prog 167 #[.int .i64 c] w fun e w' => e = .returned (.int .i64 (met c)) ∧ w' = w := by
  go_enter Tryz.func167, Tryz.ntmps167
  go_wp2
  go_ret
  exact ⟨ret_int (met_wrap2 hc), rfl⟩
set_option maxHeartbeats 400000 in
theorem leastMetric (n : Int) (h0 : 1 ≤ n) (h1 : n ≤ 16776960) (w : World) : Calls Tryz.prog 131 #[.int .i64 n] w fun e w' => e = .returned (.int .i64 (mcode n)) ∧ w' = w := by
  obtain ⟨c, rfl⟩ := Int.eq_ofNat_of_zero_le (show 0 ≤ n by omega)
  obtain ⟨l1, l2, q1, q2, hc, hx⟩ := fast (n := c) (by omega) (by omega)
  obtain ⟨b, hb⟩ : ∃ b, Lib.bitLen (c + 255) = b + 9 := ⟨_, (Nat.sub_add_cancel l1).symm⟩
  have hL : ((Lib.bitLen ((c : Int) + 256 - 1).toNat : Nat) : Int) = (b : Int) + 9 := by
    rw [show ((c : Int) + 256 - 1).toNat = c + 255 by omega, hb]; rfl
  rw [hb, Nat.add_sub_cancel] at hc q1 q2
  rw [hb] at l2
  clear hb l1 hx
  have HC := hide (mcode_of hc)
  clear hc
  have hd : ((c : Int) + 256 - 1) / 2 ^ b = (((c + 255) / 2 ^ b : Nat) : Int) := by
    rw [show (c : Int) + 256 - 1 = ((c + 255 : Nat) : Int) by omega]; simp
  generalize (c + 255) / 2 ^ b = q at *
  go_enter Tryz.func131, Tryz.ntmps131
  go_wp2_with (go_at_call 193; refine (Tryz.bits_Len ((c : Int) + 256 - 1) _ (by omega) (by omega)).mono ?_; rintro e w' ⟨rfl, rfl⟩; rw [hL])
  go_ret
  exact ⟨ret_int (by rw [unhide HC]; omega), rfl⟩
set_option maxHeartbeats 400000 in
theorem l02MetricCode (n : Int) (h0 : 1 ≤ n) (h1 : n ≤ 16776960) (w : World) : Calls Tryz.prog 168 #[.int .i64 n] w fun e w' => (∃ k : Nat, e = .returned (.int .i64 k) ∧ IsCode n k) ∧ w' = w := by
  go_enter Tryz.func168, Tryz.ntmps168
  go_wp2
  go_loop [3, 4] (fun l h => ∃ a b : Nat, l = .int .i64 a ∧ h = .int .i64 b ∧ a ≤ b ∧ b ≤ 4095 ∧ n ≤ met b ∧ (a = 0 ∨ met (a - 1) < n)) (fun l h => (intOf h - intOf l).toNat)
  case atStart => exact ⟨0, 4095, rfl, rfl, by omega, by omega, by rw [show met 4095 = 16776960 by decide]; exact h1, .inl rfl⟩
  case round =>
    obtain ⟨a, b, rfl, rfl, hab, hb, hm, ha⟩ := hrel
    have HM := hide hm
    have HA := hide ha
    clear hm ha
    by_cases hlt : a < b
    · obtain ⟨m, hm1, hm2⟩ : ∃ m : Nat, a ≤ m ∧ m < b ∧ Hid (((a : Int) + b) / 2 = m) := ⟨(a + b) / 2, by omega, by omega, hide (by omega)⟩
      obtain ⟨hm2, HQ⟩ := hm2
      by_cases hge : n ≤ met m
      · go_wp2_with (go_at_call 167; rw [unhide HQ]; refine (l02Metric m (by omega) _).mono ?_; rintro e w' ⟨rfl, rfl⟩)
        go_round
        case rel => exact ⟨a, m, rfl, rfl, by omega, by omega, hge, unhide HA⟩
        case measure => simp [intOf]; omega
      · go_wp2_with (go_at_call 167; rw [unhide HQ]; refine (l02Metric m (by omega) _).mono ?_; rintro e w' ⟨rfl, rfl⟩)
        go_round
        case rel => exact ⟨m + 1, b, by rfl, rfl, by omega, by omega, unhide HM, .inr (by rw [Nat.add_sub_cancel]; exact hge)⟩
        case measure => simp [intOf]; omega
    · have hab' : a = b := by omega
      subst hab'
      go_wp2
      go_ret
      exact ⟨⟨a, rfl, by omega, unhide HM, unhide HA⟩, rfl⟩
theorem l02MetricCodeE (n : Int) (h0 : 1 ≤ n) (h1 : n ≤ 16776960) (w : World) : Calls Tryz.prog 168 #[.int .i64 n] w fun e w' => e = .returned (.int .i64 (mcode n)) ∧ w' = w :=
  (l02MetricCode n h0 h1 w).mono fun e w' ⟨⟨k, he, hk⟩, hw⟩ => ⟨by rw [mcode_of hk]; exact he, hw⟩
end Mtr
end Go.Proofs.YtffclijcfngeeaaGreat
namespace Go.Proofs.YtffclijcfngeeaaGreat
open Go.ChangeShapes Go.WideShapes Go.ChangeAt Go.RowKit
set_option linter.unusedVariables false
namespace Tim
open W1
/-- The time of a code. -/
def tim (c : Nat) : Int := (8 + (c % 8 : Nat)) * 2 ^ (c / 8) / 8
theorem and_mask (j : Nat) (hj : j ≤ 16) (x m : Int) (hm : m = ((2 ^ j - 1 : Nat) : Int)) : bits BinOp.and IntKind.i64 x m = x % ((2 ^ j : Nat) : Int) := by
  subst hm
  have hp : 2 ^ j ≤ 2 ^ 16 := Nat.pow_le_pow_right (by decide) hj
  have hp1 : 0 < 2 ^ j := Nat.two_pow_pos j
  have hd : 2 ^ j ∣ 2 ^ 64 := Nat.pow_dvd_pow 2 (by omega)
  show IntKind.i64.wrap ((BitVec.ofInt 64 x &&& BitVec.ofInt 64 ((2 ^ j - 1 : Nat) : Int)).toNat : Int) = _
  rw [BitVec.toNat_and, ofInt_u64 (2 ^ j - 1) (by omega), Nat.and_two_pow_sub_one_eq_mod, BitVec.toNat_ofInt, IntWalk.i64_left]
  have h1 : (((x % ((2 ^ 64 : Nat) : Int)).toNat % 2 ^ j : Nat) : Int) = x % ((2 ^ j : Nat) : Int) := by
    rw [Int.natCast_emod, Int.toNat_of_nonneg (Int.emod_nonneg _ (by decide)), Int.emod_emod_of_dvd _ (Int.natCast_dvd_natCast.2 hd)]
  rw [h1]
  have h2 := Int.emod_nonneg x (show ((2 ^ j : Nat) : Int) ≠ 0 by omega)
  have h3 := Int.emod_lt_of_pos x (show (0 : Int) < ((2 ^ j : Nat) : Int) by omega)
  unfold wrap64
  generalize x % ((2 ^ j : Nat) : Int) = y at *
  omega
theorem and_7 (x : Int) : bits BinOp.and IntKind.i64 x 7 = x % 8 := and_mask 3 (by decide) x 7 rfl
theorem big {c : Nat} (hc : c ≤ 223) : wrap64 ((8 + (c : Int) % 8) * 2 ^ (c / 8)) = (8 + (c : Int) % 8) * 2 ^ (c / 8) := by
  have h1 : (2 : Int) ^ (c / 8) ≤ 134217728 := by
    have hN : (2 : Nat) ^ (c / 8) ≤ 134217728 := Nat.le_trans (Nat.pow_le_pow_right (n := 2) (by omega) (by omega : c / 8 ≤ 27)) (by decide)
    have h := Int.ofNat_le.2 hN
    rw [Int.natCast_pow] at h
    exact h
  have h0 : (0 : Int) < 2 ^ (c / 8) := Int.pow_pos (by omega)
  have h2 : (8 + (c : Int) % 8) * 2 ^ (c / 8) ≤ 15 * 2 ^ (c / 8) := Int.mul_le_mul_of_nonneg_right (by omega) (by omega)
  have h3 : 0 ≤ (8 + (c : Int) % 8) * 2 ^ (c / 8) := Int.mul_nonneg (by omega) (by omega)
  generalize (8 + (c : Int) % 8) * 2 ^ (c / 8) = x at *
  unfold wrap64
  omega
theorem tim_step (c : Nat) : tim c ≤ tim (c + 1) := by
  unfold tim
  have hp : (0 : Int) < 2 ^ (c / 8) := Int.pow_pos (by decide)
  refine Int.ediv_le_ediv (by decide) ?_
  by_cases h : c % 8 = 7
  · have h1 : (c + 1) % 8 = 0 := by omega
    have h2 : (c + 1) / 8 = c / 8 + 1 := by omega
    rw [h, h1, h2, Int.pow_succ]
    generalize (2 : Int) ^ (c / 8) = p at *
    omega
  · have h1 : (c + 1) % 8 = c % 8 + 1 := by omega
    have h2 : (c + 1) / 8 = c / 8 := by omega
    rw [h1, h2]
    exact Int.mul_le_mul_of_nonneg_right (by omega) (by omega)
theorem tim_mono {a b : Nat} (h : a ≤ b) : tim a ≤ tim b := by
  induction h with
  | refl => exact Int.le_refl _
  | step _ ih => exact Int.le_trans ih (tim_step _)
/-- k is the least code whose time is n or more. -/
def IsTime (n : Int) (k : Nat) : Prop := k ≤ 223 ∧ n ≤ tim k ∧ (k = 0 ∨ tim (k - 1) < n)
/-- The least code whose time is n or more. -/
def tcode (n : Int) : Nat := cnt tim 224 n
theorem tcode_of {n : Int} {k : Nat} (h : IsTime n k) : tcode n = k :=
  cnt_of _ _ _ _ (by have := h.1; omega) (fun c hc => by
    rcases h.2.2 with e | e
    · omega
    · have := tim_mono (show c ≤ k - 1 by omega); omega) (fun c hc _ => by have := tim_mono hc; have := h.2.1; omega)
theorem tcode_ex {n : Int} (h1 : n ≤ 251658240) : ∃ k, k ≤ 223 ∧ (∀ c, c < k → tim c < n) ∧ n ≤ tim k := by
  refine Classical.byContradiction fun hno => ?_
  have hall : ∀ k, k ≤ 224 → ∀ c, c < k → tim c < n := by
    intro k
    induction k with
    | zero => intro _ c hc; omega
    | succ k ih =>
      intro hk c hc
      have ih' := ih (by omega)
      by_cases ek : c = k
      · subst ek
        rcases Int.lt_or_le (tim c) n with hh | hh
        · exact hh
        · exact absurd ⟨c, by omega, ih', hh⟩ hno
      · exact ih' c (by omega)
  have := hall 224 (by omega) 223 (by omega)
  rw [show tim 223 = 251658240 by decide] at this
  omega
theorem tcode_is {n : Int} (h1 : n ≤ 251658240) : IsTime n (tcode n) := by
  obtain ⟨k, hk1, hk2, hk3⟩ := tcode_ex h1
  have h : IsTime n k := ⟨hk1, hk3, by
    by_cases e : k = 0
    · exact .inl e
    · exact .inr (hk2 _ (by omega))⟩
  rw [tcode_of h]; exact h
theorem tcode_lt {n : Int} (h1 : n ≤ 251658240) : tcode n ≤ 223 := (tcode_is h1).1
/-- Whether a time is exact. -/
def exTB (n : Int) : Bool := tim (tcode n) == n
/-- Whether a time may be a hello's. -/
def valB (n : Int) : Bool := inB n 1 10000 && exTB n
set_option maxHeartbeats 400000 in
theorem timeAt (c : Nat) (hc : c ≤ 223) (w : World) : Calls Tryz.prog 192 #[.int .i64 c] w fun e w' => e = .returned (.int .i64 (tim c)) ∧ w' = w := by
  go_enter Tryz.func192, Tryz.ntmps192
  go_wp2
  go_ret
  refine ⟨ret_int ?_, rfl⟩
  have := big hc
  unfold tim
  simp [this]
set_option maxHeartbeats 400000 in
theorem l02Time (c : Nat) (hc : c ≤ 223) (w : World) : Calls Tryz.prog 240 #[.int .i64 c] w fun e w' => e = .returned (.int .i64 (tim c)) ∧ w' = w := by
  go_enter Tryz.func240, Tryz.ntmps240
  go_wp2
  go_ret
  refine ⟨ret_int ?_, rfl⟩
  have e : wrap64 (8 + bits BinOp.and IntKind.i64 c 7) = 8 + (c : Int) % 8 := by rw [and_7]; unfold wrap64; omega
  rw [e]
  have := big hc
  unfold tim
  simp [this]
set_option maxHeartbeats 400000 in
theorem l02TimeCode (n : Int) (h0 : 1 ≤ n) (h1 : n ≤ 251658240) (w : World) : Calls Tryz.prog 173 #[.int .i64 n] w fun e w' => e = .returned (.int .i64 (tcode n)) ∧ w' = w := by
  go_enter Tryz.func173, Tryz.ntmps173
  go_wp2
  go_loop [3, 4] (fun l h => ∃ a b : Nat, l = .int .i64 a ∧ h = .int .i64 b ∧ a ≤ b ∧ b ≤ 223 ∧ n ≤ tim b ∧ (a = 0 ∨ tim (a - 1) < n)) (fun l h => (intOf h - intOf l).toNat)
  case atStart => exact ⟨0, 223, rfl, rfl, by omega, by omega, by rw [show tim 223 = 251658240 by decide]; exact h1, .inl rfl⟩
  case round =>
    obtain ⟨a, b, rfl, rfl, hab, hb, hm, ha⟩ := hrel
    have HM := hide hm
    have HA := hide ha
    clear hm ha
    by_cases hlt : a < b
    · obtain ⟨m, hm1, hm2⟩ : ∃ m : Nat, a ≤ m ∧ m < b ∧ Hid (((a : Int) + b) / 2 = m) := ⟨(a + b) / 2, by omega, by omega, hide (by omega)⟩
      obtain ⟨hm2, HQ⟩ := hm2
      by_cases hge : n ≤ tim m
      · go_wp2_with (go_at_call 240; rw [unhide HQ]; refine (l02Time m (by omega) _).mono ?_; rintro e w' ⟨rfl, rfl⟩)
        go_round
        case rel => exact ⟨a, m, rfl, rfl, by omega, by omega, hge, unhide HA⟩
        case measure => simp [intOf]; omega
      · go_wp2_with (go_at_call 240; rw [unhide HQ]; refine (l02Time m (by omega) _).mono ?_; rintro e w' ⟨rfl, rfl⟩)
        go_round
        case rel => exact ⟨m + 1, b, by rfl, rfl, by omega, by omega, unhide HM, .inr (by rw [Nat.add_sub_cancel]; exact hge)⟩
        case measure => simp [intOf]; omega
    · have hab' : a = b := by omega
      subst hab'
      have HT : Hid (IsTime n a) := hide ⟨by omega, unhide HM, unhide HA⟩
      go_wp2
      go_ret
      have e := tcode_of (unhide HT)
      exact ⟨ret_int (by rw [e]), rfl⟩
theorem below_drewN {B : Nat} {w w' : World} (h : Below B w w') (q : Nat) : Below B w (w'.drewN q) := ⟨h.os, h.tape, h.output, h.size, h.block⟩
set_option maxHeartbeats 400000 in
theorem cloT (i : Nat) (hi : i ≤ 223) (n : Int) (b : Nat) (w : World) (hc : w.cell? ⟨b, 0, none⟩ = some (.int .i64 n)) :
    Calls Tryz.prog 191 #[.int .i64 i, .pointer (some ⟨b, 0, none⟩)] w fun e w' => e = .returned (.bool (decide (n ≤ tim i))) ∧ Below w.heap.size w w' := by
  by_cases h : n ≤ tim i
  all_goals
    go_enter Tryz.func191, Tryz.ntmps191
    go_wp2_with fail
    go_quiet ((go_at_call 192; exact Calls.quiet_of_same (timeAt i hi _)))
    go_wp2_with fail
    go_ret
    exact ⟨ret_bool (by simp [h]), below_drewN (Below.refl _ _) _⟩
set_option maxHeartbeats 1000000 in
theorem search (b : Nat) (n : Int) (h1 : n ≤ tim 223) (w : World) (hb : w.cell? ⟨b, 0, none⟩ = some (.int .i64 n)) :
    Calls Tryz.prog 190 #[.int .i64 224, .func (.func 191) #[] #[.pointer (some ⟨b, 0, none⟩)]] w fun e w' => e = .returned (.int .i64 (tcode n)) ∧ Below w.heap.size w w' := by
  have HB := hide hb
  have hblt := World.block_lt_of_cell? _ _ hb
  clear hb
  have H1 := hide h1
  clear h1
  go_enter Tryz.func190, Tryz.ntmps190
  go_wp2
  go_loopw [5, 6] (fun lo hi wr => ∃ low high : Nat, low ≤ high ∧ high ≤ 224 ∧ lo = .int .i64 low ∧ hi = .int .i64 high ∧ Hid (∀ i, i < low → tim i < n) ∧ Hid (∀ i, high ≤ i → i < 224 → n ≤ tim i) ∧ Hid (Below w.heap.size w wr)) (fun lo hi _ => (intOf hi - intOf lo).toNat)
  case atStart => exact ⟨0, 224, by omega, by omega, rfl, rfl, hide (fun i hi => by omega), hide (fun i hi h2 => by omega), hide (Below.refl _ _)⟩
  case round =>
    obtain ⟨low, high, hlh, hhn, rfl, rfl, h1, h2, hbl⟩ := hrel
    by_cases hlt : (low : Int) < (high : Int)
    · obtain ⟨mid, hmid⟩ : ∃ mid : Nat, mid = (low + high) / 2 := ⟨_, rfl⟩
      have hm1 : low ≤ mid := by omega
      have hm2 : mid < high := by omega
      have em : ((low : Int) + (high : Int)) / 2 = (mid : Int) := by omega
      have HC := hide ((unhide hbl).cell (p := ⟨b, 0, none⟩) hblt)
      clear hmid
      go_wp2_with fail
      refine (cloT mid (by omega) n b _ ((unhide HC).trans (unhide HB))).mono ?_
      rintro e w1 ⟨rfl, b1⟩
      have hb1 := hide ((unhide hbl).trans (b1.mono (unhide hbl).size))
      clear b1
      by_cases hp : n ≤ tim mid
      · have HST : Hid (∀ i, mid ≤ i → i < 224 → n ≤ tim i) := hide (fun i hi _ => Int.le_trans hp (tim_mono hi))
        rw [decide_eq_true hp]
        go_wp2_with fail
        exact ⟨⟨low, mid, by omega, by omega, rfl, rfl, h1, HST, hb1⟩, by simp [intOf]; omega⟩
      · have HST : Hid (∀ i, i < mid + 1 → tim i < n) := hide (fun i hi => by have := tim_mono (show i ≤ mid by omega); omega)
        rw [decide_eq_false hp]
        go_wp2_with fail
        exact ⟨⟨mid + 1, high, by omega, by omega, by go_num, rfl, HST, h2, hb1⟩, by simp [intOf]; omega⟩
    · obtain rfl : low = high := by omega
      have HT : Hid (tcode n = low) := hide (cnt_of _ _ _ _ hhn (unhide h1) (unhide h2))
      go_wp2_with fail
      go_ret
      exact ⟨ret_int (by rw [unhide HT]), unhide hbl⟩
set_option maxHeartbeats 400000 in
theorem leastTime (n : Int) (h1 : n ≤ 251658240) (w : World) :
    Calls Tryz.prog 128 #[.int .i64 n] w fun e w' => e = .returned (.int .i64 (tcode n)) ∧ Below w.heap.size w w' := by
  go_enter Tryz.func128, Tryz.ntmps128
  go_wp2_with fail
  refine (search w.heap.size n (by rw [show tim 223 = 251658240 by decide]; exact h1) _ (by simp [World.cell?_alloc_new])).mono ?_
  rintro e w1 ⟨rfl, b1⟩
  go_wp2_with fail
  go_ret
  exact ⟨rfl, ((Below.refl _ _).alloc (Nat.le_refl _) _).trans (b1.mono (by simp))⟩
set_option maxHeartbeats 400000 in
theorem isExactTime (n : Int) (h1 : n ≤ 251658240) (w : World) :
    Calls Tryz.prog 247 #[.int .i64 n] w fun e w' => e = .returned (.bool (exTB n)) ∧ Below w.heap.size w w' := by
  have hlt := tcode_lt h1
  have hlt' : ((tcode n : Nat) : Int) < 224 := by omega
  cases hx : tim (tcode n) == n
  all_goals
    have HX := hide hx
    go_enter Tryz.func247, Tryz.ntmps247
    go_wp2_with fail
    refine (leastTime n h1 _).mono ?_
    rintro e w1 ⟨rfl, b1⟩
    have B1 := hide b1
    clear b1
    generalize hk : tcode n = k at *
    have HK := hide hk
    clear hk
    go_wp2_with (go_at_call 192; refine (timeAt k hlt _).mono ?_; rintro e w' ⟨rfl, rfl⟩)
    go_ret
    exact ⟨ret_bool (by unfold exTB; rw [unhide HK, unhide HX]), unhide B1⟩
set_option maxHeartbeats 400000 in
theorem isValid (n : Int) (w : World) : Calls Tryz.prog 185 #[.int .i64 n] w fun e w' => e = .returned (.bool (valB n)) ∧ Below w.heap.size w w' := by
  cases h : inB n 1 10000
  · go_enter Tryz.func185, Tryz.ntmps185
    go_wp2_with (go_at_call 82; refine (within _ _ _ _).mono ?_; rintro e w' ⟨rfl, rfl⟩)
    go_ret
    exact ⟨ret_bool (by simp [valB, h]), Below.refl _ _⟩
  · have h0 : 1 ≤ n ∧ n ≤ 10000 := by simpa [inB] using h
    have HH := hide h
    go_enter Tryz.func185, Tryz.ntmps185
    go_wp2_with (first | (go_at_call 82; refine (within _ _ _ _).mono ?_; rintro e w' ⟨rfl, rfl⟩) | (go_at_call 247; refine (isExactTime n (by omega) _).mono ?_; rintro e w' ⟨rfl, b1⟩))
    go_ret
    exact ⟨ret_bool (by simp [valB, unhide HH]), b1⟩
end Tim
end Go.Proofs.YtffclijcfngeeaaGreat
namespace Go.Proofs.YtffclijcfngeeaaGreat
open Go.ChangeShapes Go.WideShapes Go.ChangeAt Go.RowKit
set_option linter.unusedVariables false
set_option linter.unusedSimpArgs false
attribute [local go_sem ↓] Go.wp_at_zero Go.wp_at_succ
namespace Hl
open W1 Nb
/-- A metric that has a code of its own. -/
def exM (n : Int) : Bool := Mtr.met (Mtr.mcode n) == n
def toldB (n : Int) : Bool := inB n 1 16744192 && exM n
def nbB (m : R) : Bool := inB m.ad 1 8 && (inB m.st 0 2 && (inB m.mt 1 16744192 && (!m.mp || (m.st == 2))))
def okN (m : R) : Bool := nbB m && exM m.mt
abbrev allN (ms : List R) (j : Nat) : Bool := Ri.all R.zero okN R.ad ms j
/-- Whether a hello is right. -/
def helB (will valid : Int) (ms : List R) : Bool := inB will 0 7 && (Tim.valB valid && allN ms ms.length)
theorem ok_ad {m : R} (h : okN m = true) : 1 ≤ m.ad ∧ m.ad ≤ 8 := by
  unfold okN nbB inB at h; simp at h; exact ⟨h.1.1.1, h.1.1.2⟩
theorem all_len {ms : List R} (h : allN ms ms.length = true) : ms.length ≤ 8 := by
  have := Ri.all_long (lo := 1) (hi := 8) (fun m hm => ok_ad hm) h; omega
theorem hel_len {will valid : Int} {ms : List R} (h : helB will valid ms = true) : ms.length ≤ 8 := by
  unfold helB at h; simp at h; exact all_len h.2.2
set_option maxHeartbeats 400000 in
theorem isTold (n : Int) (w : World) : Calls Tryz.prog 242 #[.int .i64 n] w fun e w' => e = .returned (.bool (toldB n)) ∧ w' = w := by
  cases h : inB n 1 16744192
  · go_enter Tryz.func242, Tryz.ntmps242
    go_wp2_with (go_at_call 82; refine (within _ _ _ _).mono ?_; rintro e w' ⟨rfl, rfl⟩)
    go_ret
    exact ⟨ret_bool (by simp [toldB, h]), rfl⟩
  · have h0 : 1 ≤ n ∧ n ≤ 16744192 := by simpa [inB] using h
    have HH := hide h
    have hk := (Mtr.mcode_is (n := n) (by omega) (by omega)).1
    have E : Hid (toldB n = (Mtr.met (Mtr.mcode n) == n)) := hide (by unfold toldB exM; rw [h]; rfl)
    generalize hq : Mtr.mcode n = k at *
    have HQ := hide hq
    clear hq
    cases hx : Mtr.met k == n
    all_goals
      go_enter Tryz.func242, Tryz.ntmps242
      go_wp2_with (first | (go_at_call 82; refine (within _ _ _ _).mono ?_; rintro e w' ⟨rfl, rfl⟩) | (go_at_call 131; refine (Mtr.leastMetric n (by omega) (by omega) _).mono ?_; rintro e w' ⟨rfl, rfl⟩; rw [unhide HQ]) | (go_at_call 303; refine (Mtr.metricAt k hk _).mono ?_; rintro e w' ⟨rfl, rfl⟩))
      go_ret
      exact ⟨ret_bool (by rw [unhide E, hx]), rfl⟩
set_option maxHeartbeats 1000000 in
theorem isNb (ad st mt : Int) (mp : Bool) (w : World) :
    Calls Tryz.prog 189 #[.agg #[.int .i64 ad, .int .i64 st, .int .i64 mt, .bool mp]] w fun e w' => e = .returned (.bool (okN ⟨ad, st, mt, mp⟩)) ∧ Below w.heap.size w w' := by
  have E : Hid (okN ⟨ad, st, mt, mp⟩ = (inB ad 1 8 && (inB st 0 2 && (toldB mt && (!mp || (st == 2)))))) := hide (by
    unfold okN nbB toldB; dsimp only
    cases inB ad 1 8 <;> cases inB st 0 2 <;> cases inB mt 1 16744192 <;> cases exM mt <;> cases mp <;> cases st == 2 <;> rfl)
  cases h1 : inB ad 1 8
  rotate_left
  cases h2 : inB st 0 2
  rotate_left
  cases h3 : toldB mt
  rotate_left
  cases mp
  rotate_left
  cases h5 : st == 2
  all_goals
    go_enter Tryz.func189, Tryz.ntmps189
    go_wp2_with (first | (go_at_call 82; refine (within _ _ _ _).mono ?_; rintro e w' ⟨rfl, rfl⟩) | (go_at_call 111; refine (isAddress _ _).mono ?_; rintro e w' ⟨rfl, rfl⟩) | (go_at_call 242; refine (isTold _ _).mono ?_; rintro e w' ⟨rfl, rfl⟩))
    go_ret
    exact ⟨ret_bool (by rw [unhide E]; simp [*]), (Below.refl _ _).alloc (Nat.le_refl _) _⟩
set_option maxHeartbeats 1000000 in
theorem l04Nb (ad st mt : Int) (mp : Bool) (w : World) :
    Calls Tryz.prog 307 #[.agg #[.int .i64 ad, .int .i64 st, .int .i64 mt, .bool mp]] w fun e w' => e = .returned (.bool (nbB ⟨ad, st, mt, mp⟩)) ∧ Below w.heap.size w w' := by
  cases h1 : inB ad 1 8
  rotate_left
  cases h2 : inB st 0 2
  rotate_left
  cases h3 : inB mt 1 16744192
  rotate_left
  cases mp
  rotate_left
  cases h5 : st == 2
  all_goals
    go_enter Tryz.func307, Tryz.ntmps307
    go_wp2_with (first | (go_at_call 64; refine (l01In _ _ _ _).mono ?_; rintro e w' ⟨rfl, rfl⟩) | (go_at_call 63; refine (l01Addr _ _).mono ?_; rintro e w' ⟨rfl, rfl⟩))
    go_ret
    exact ⟨ret_bool (by unfold nbB; simp [*]), (Below.refl _ _).alloc (Nat.le_refl _) _⟩
set_option maxHeartbeats 400000 in
theorem l04Ex (n : Int) (h0 : 1 ≤ n) (h1 : n ≤ 16744192) (w : World) : Calls Tryz.prog 97 #[.int .i64 n] w fun e w' => e = .returned (.bool (exM n)) ∧ w' = w := by
  have hk := (Mtr.mcode_is (n := n) (by omega) (by omega)).1
  have E : Hid (exM n = (Mtr.met (Mtr.mcode n) == n)) := hide rfl
  generalize hq : Mtr.mcode n = k at *
  have HQ := hide hq
  clear hq
  cases hx : Mtr.met k == n
  all_goals
    go_enter Tryz.func97, Tryz.ntmps97
    go_wp2_with (first | (go_at_call 168; refine (Mtr.l02MetricCodeE n (by omega) (by omega) _).mono ?_; rintro e w' ⟨rfl, rfl⟩; rw [unhide HQ]) | (go_at_call 167; refine (Mtr.l02Metric k hk _).mono ?_; rintro e w' ⟨rfl, rfl⟩))
    go_ret
    exact ⟨ret_bool (by rw [unhide E, hx]), rfl⟩
theorem isWill (n : Int) (w : World) : Calls Tryz.prog 112 #[.int .i64 n] w fun e w' => e = .returned (.bool (inB n 0 7)) ∧ w' = w := by
  go_enter Tryz.func112, Tryz.ntmps112
  go_wp2_with (go_at_call 82; refine (within _ _ _ _).mono ?_; rintro e w' ⟨rfl, rfl⟩)
  go_ret
  exact ⟨rfl, rfl⟩
end Hl
end Go.Proofs.YtffclijcfngeeaaGreat
namespace Go.Proofs.YtffclijcfngeeaaGreat
open Go.ChangeShapes Go.WideShapes Go.ChangeAt Go.RowKit
set_option linter.unusedVariables false
set_option linter.unusedSimpArgs false
attribute [local go_sem ↓] Go.wp_at_zero Go.wp_at_succ
namespace Hl
open W1 Nb
/-- A neighbor in a variable's block. -/
def Bx (w : World) (b : Nat) (m : R) : Prop := w.cell? ⟨b, 0, none⟩ = some (.int .i64 m.ad) ∧ w.cell? ⟨b, 1, none⟩ = some (.int .i64 m.st) ∧ w.cell? ⟨b, 2, none⟩ = some (.int .i64 m.mt) ∧ w.cell? ⟨b, 3, none⟩ = some (.bool m.mp)
theorem Bx.below {w w' : World} {b : Nat} {m : R} (h : Bx w b m) (hb : Below w.heap.size w w') : Bx w' b m := by
  have hg : b < w.heap.size := World.block_lt_of_cell? _ _ h.1
  obtain ⟨h0, h1, h2, h3⟩ := h
  refine ⟨?_, ?_, ?_, ?_⟩ <;> (rw [hb.cell hg]; assumption)
theorem Bx.drew {w : World} {b : Nat} {m : R} (h : Bx w b m) : Bx w.drew b m := h
theorem bx_new (w : World) (m : R) (t : Nat) : Bx (w.alloc (.cells #[.int .i64 m.ad, .int .i64 m.st, .int .i64 m.mt, .bool m.mp] t)) w.heap.size m := by
  refine ⟨?_, ?_, ?_, ?_⟩ <;> simp [World.cell?_alloc_new]
theorem sBox {w : World} {b : Nat} {ad st mt : Int} {mp : Bool} (h : Bx w b ⟨ad, st, mt, mp⟩) : Bx w b ⟨ad, st, mt, mp⟩ ∧ w.cell? ⟨b, 0, none⟩ = some (.int .i64 ad) ∧ w.cell? ⟨b, 1, none⟩ = some (.int .i64 st) ∧ w.cell? ⟨b, 2, none⟩ = some (.int .i64 mt) ∧ w.cell? ⟨b, 3, none⟩ = some (.bool mp) := ⟨h, h⟩
theorem sBox2 {w : World} {b g p B : Nat} {m : R} {ad st mt will valid : Int} {mp : Bool} {v : Value} (h : Bx w b ⟨ad, st, mt, mp⟩) (h' : At w g p m) (hB : Bx3 w B will valid v) :
    (Bx w b ⟨ad, st, mt, mp⟩ ∧ At w g p m ∧ Bx3 w B will valid v) ∧ w.cell? ⟨b, 0, none⟩ = some (.int .i64 ad) ∧ w.cell? ⟨b, 1, none⟩ = some (.int .i64 st) ∧ w.cell? ⟨b, 2, none⟩ = some (.int .i64 mt) ∧ w.cell? ⟨b, 3, none⟩ = some (.bool mp) ∧ w.cell? ⟨g, p, none⟩ = some (.int .i64 m.ad) ∧ w.cell? ⟨B, 2, none⟩ = some v := ⟨⟨h, h', hB⟩, h.1, h.2.1, h.2.2.1, h.2.2.2, h'.1, hB.2.2⟩
theorem sH1 {w : World} {g o B : Nat} {ad st mt will valid : Int} {mp : Bool} {v : Value} (h : At w g o ⟨ad, st, mt, mp⟩) (hB : Bx3 w B will valid v) :
    (At w g o ⟨ad, st, mt, mp⟩ ∧ Bx3 w B will valid v) ∧ w.cell? ⟨g, o, none⟩ = some (.int .i64 ad) ∧ w.cell? ⟨g, o + 1, none⟩ = some (.int .i64 st) ∧ w.cell? ⟨g, o + 2, none⟩ = some (.int .i64 mt) ∧ w.cell? ⟨g, o + 3, none⟩ = some (.bool mp) ∧ w.cell? ⟨B, 2, none⟩ = some v := ⟨⟨h, hB⟩, h.1, h.2.1, h.2.2.1, h.2.2.2, hB.2.2⟩
theorem sH2 {w : World} {g o p B : Nat} {m : R} {ad st mt will valid : Int} {mp : Bool} {v : Value} (h : At w g o ⟨ad, st, mt, mp⟩) (h' : At w g p m) (hB : Bx3 w B will valid v) :
    (At w g o ⟨ad, st, mt, mp⟩ ∧ At w g p m ∧ Bx3 w B will valid v) ∧ w.cell? ⟨g, o, none⟩ = some (.int .i64 ad) ∧ w.cell? ⟨g, o + 1, none⟩ = some (.int .i64 st) ∧ w.cell? ⟨g, o + 2, none⟩ = some (.int .i64 mt) ∧ w.cell? ⟨g, o + 3, none⟩ = some (.bool mp) ∧ w.cell? ⟨g, p, none⟩ = some (.int .i64 m.ad) ∧ w.cell? ⟨B, 2, none⟩ = some v := ⟨⟨h, h', hB⟩, h.1, h.2.1, h.2.2.1, h.2.2.2, h'.1, hB.2.2⟩
set_option maxRecDepth 100000 in
set_option maxHeartbeats 4000000 in
theorem implOK (will valid : Int) (a : Option Addr) (ms : List R) (cap : Nat) (w : World) (hm : ms.length ≤ 1048576) (hr : RM w a ms) :
    Calls Tryz.prog 127 #[.agg #[.int .i64 will, .int .i64 valid, .slice a ms.length cap]] w fun e w' => e = .returned (.bool (helB will valid ms)) ∧ Below w.heap.size w w' := by
  cases h1 : inB will 0 7
  · have HF := hide (show helB will valid ms = false by unfold helB; rw [h1]; rfl)
    go_enter Tryz.func127, Tryz.ntmps127
    go_wp2_with (go_at_call 112; refine (isWill _ _).mono ?_; rintro e w' ⟨rfl, rfl⟩)
    go_ret
    exact ⟨ret_bool (unhide HF).symm, (Below.refl _ _).alloc (Nat.le_refl _) _⟩
  cases h2 : Tim.valB valid
  · have HF := hide (show helB will valid ms = false by unfold helB; rw [h1, h2]; rfl)
    go_enter Tryz.func127, Tryz.ntmps127
    go_wp2_with (go_at_call 112; refine (isWill _ _).mono ?_; rintro e w' ⟨rfl, rfl⟩)
    refine (Tim.isValid valid _).mono ?_
    rintro e w1 ⟨rfl, b1⟩
    have HB1 : Hid (Below w.heap.size w w1) := hide (((Below.refl _ _).alloc (Nat.le_refl _) _).trans (b1.mono (by simp)))
    clear b1
    go_wp2_with fail
    go_ret
    exact ⟨ret_bool (unhide HF).symm, unhide HB1⟩
  have HT : Hid (allN ms ms.length = true → helB will valid ms = true) := hide (fun h => by unfold helB; rw [h1, h2, h]; rfl)
  have HF : Hid (allN ms ms.length = false → helB will valid ms = false) := hide (fun h => by unfold helB; rw [h1, h2, h]; rfl)
  have HR := hide hr
  clear hr
  generalize hN : ms.length = n at *
  have HN := hide hN
  clear hN
  go_enter Tryz.func127, Tryz.ntmps127
  go_wp2_with (go_at_call 112; refine (isWill _ _).mono ?_; rintro e w' ⟨rfl, rfl⟩)
  refine (Tim.isValid valid _).mono ?_
  rintro e w1 ⟨rfl, b1⟩
  have HB1 : Hid (Below w.heap.size w w1) := hide (((Below.refl _ _).alloc (Nat.le_refl _) _).trans (b1.mono (by simp)))
  have HX1 := hide ((bx3_new w will valid (.slice a n cap) 53).below b1)
  have hbx := (unhide HX1).2.2
  have HR1 := hide ((unhide HR).below (unhide HB1))
  clear b1 HR
  go_wp2
  clear hbx
  go_loopw [18] (fun i wr => ∃ j : Nat, j ≤ n ∧ i = .int .i64 j ∧ Hid (allN ms j = true) ∧ Hid (Below w1.heap.size w1 wr)) (fun i _ => n - (intOf i).toNat)
  case atStart => exact ⟨0, by omega, rfl, hide Ri.all_zero, hide (Below.refl _ _)⟩
  case round =>
    obtain ⟨j, hj, rfl, hrl, hbl⟩ := hrel
    by_cases hlt : (j : Int) < (n : Int)
    · have k0 : (0 : Int) ≤ (j : Int) := by omega
      have hlen : j < ms.length := by rw [unhide HN]; omega
      have HX := hide ((unhide HX1).below (unhide hbl))
      rcases (unhide HR1).below (by exact (unhide hbl)) with e0 | ⟨g, off, rfl, hc⟩
      · exfalso; rw [e0] at hlen; simp at hlen
      have HL := hide hlen
      have hA := hc j hlen
      have hsz := (unhide hbl).size
      have HBX := hide (bx_new wr (ms.getD j R.zero) 184)
      have HBL := hide ((unhide hbl).alloc hsz (.cells #[.int .i64 (ms.getD j R.zero).ad, .int .i64 (ms.getD j R.zero).st, .int .i64 (ms.getD j R.zero).mt, .bool (ms.getD j R.zero).mp] 184))
      have HXA := hide ((unhide HX).below ((Below.refl _ _).alloc (Nat.le_refl _) (.cells #[.int .i64 (ms.getD j R.zero).ad, .int .i64 (ms.getD j R.zero).st, .int .i64 (ms.getD j R.zero).mt, .bool (ms.getD j R.zero).mp] 184)))
      clear HX
      cases hk : okN (ms.getD j R.zero)
      · clear hc
        have HST := hide (unhide HF (by have := Ri.all_no hlen (Ri.step_bad (key := R.ad) hk); exact (unhide HN) ▸ this))
        have HK := hide hk
        clear hk
        generalize ms.getD j R.zero = m at *
        obtain ⟨ad, st, mt, mp⟩ := m
        obtain ⟨c0, c1, c2, c3⟩ := hA
        dsimp only at c0 c1 c2 c3
        go_wp2_with fail
        generalize hW : wr.alloc (.cells #[.int .i64 ad, .int .i64 st, .int .i64 mt, .bool mp] 184) = W0 at *
        clear hW
        refine wp_region_noPanic ?_
        refine wp_region_held_drew (S := fun w' => Bx w' wr.heap.size ⟨ad, st, mt, mp⟩ ∧ w'.cell? ⟨wr.heap.size, 0, none⟩ = some (.int .i64 ad) ∧ w'.cell? ⟨wr.heap.size, 1, none⟩ = some (.int .i64 st) ∧ w'.cell? ⟨wr.heap.size, 2, none⟩ = some (.int .i64 mt) ∧ w'.cell? ⟨wr.heap.size, 3, none⟩ = some (.bool mp)) (by kernel_rfl) (sBox (unhide HBX).drew) (fun hHeld => ?_)
        refine Rg.t 0 23 ?_
        (refine Rg.o 1 (fun K hK => ?_); go_simp)
        refine (isNb ad st mt mp _).mono ?_
        rintro e w2 ⟨rfl, b2⟩
        rw [unhide HK]
        refine hK.out _ _ (sBox ((unhide HBX).drew.below b2)) (fun hHeld => ?_)
        clear hK K
        (try simp only [Act.put, List.setIfInBounds_toArray, List.set_cons_zero, List.set_cons_succ])
        refine Rg.t 2 25 ?_
        refine Rg.t 3 26 ?_
        refine Rg.s 4 27 ?_
        refine Rg.s 5 28 ?_
        refine Rg.s 6 29 ?_
        refine Rg.s 7 30 ?_
        refine Rg.s 8 31 ?_
        refine Rg.s 9 32 ?_
        refine Rg.s 10 33 ?_
        refine Rg.s 11 34 ?_
        refine Rg.s 12 35 ?_
        refine Rg.s 13 36 ?_
        refine Rg.s 14 37 ?_
        refine Rg.s 15 38 ?_
        refine Rg.s 16 39 ?_
        refine Rg.s 17 40 ?_
        refine Rg.t 18 41 ?_
        refine wpAnyH_done (by kernel_rfl) (NoPanic.normal ?_) _
        have hb1 := hide ((unhide HB1).trans (((unhide HBL).drew.trans (b2.mono (by show w1.heap.size ≤ W0.heap.size; exact (unhide HBL).size))).mono (unhide HB1).size))
        go_wp2_with fail
        go_ret
        exact ⟨ret_bool (unhide HST).symm, unhide hb1⟩
      have HK := hide hk
      clear hk
      by_cases hj0 : j = 0
      · subst hj0
        clear hc
        rw [Nat.zero_mul, Nat.add_zero] at hA
        have HST := hide (Ri.all_succ (unhide hrl) (Ri.step_zero (key := R.ad) (unhide HK)))
        generalize ms.getD 0 R.zero = m at *
        obtain ⟨ad, st, mt, mp⟩ := m
        obtain ⟨c0, c1, c2, c3⟩ := hA
        dsimp only at c0 c1 c2 c3
        go_wp2_with fail
        generalize hW : wr.alloc (.cells #[.int .i64 ad, .int .i64 st, .int .i64 mt, .bool mp] 184) = W0 at *
        clear hW
        refine wp_region_noPanic ?_
        refine wp_region_held_drew (S := fun w' => Bx w' wr.heap.size ⟨ad, st, mt, mp⟩ ∧ w'.cell? ⟨wr.heap.size, 0, none⟩ = some (.int .i64 ad) ∧ w'.cell? ⟨wr.heap.size, 1, none⟩ = some (.int .i64 st) ∧ w'.cell? ⟨wr.heap.size, 2, none⟩ = some (.int .i64 mt) ∧ w'.cell? ⟨wr.heap.size, 3, none⟩ = some (.bool mp)) (by kernel_rfl) (sBox (unhide HBX).drew) (fun hHeld => ?_)
        refine Rg.t 0 23 ?_
        (refine Rg.o 1 (fun K hK => ?_); go_simp)
        refine (isNb ad st mt mp _).mono ?_
        rintro e w2 ⟨rfl, b2⟩
        rw [unhide HK]
        refine hK.out _ _ (sBox ((unhide HBX).drew.below b2)) (fun hHeld => ?_)
        clear hK K
        (try simp only [Act.put, List.setIfInBounds_toArray, List.set_cons_zero, List.set_cons_succ])
        refine Rg.t 2 25 ?_
        refine Rg.t 3 26 ?_
        refine Rg.t 4 27 ?_
        refine Rg.t 5 28 ?_
        refine Rg.t 6 29 ?_
        refine Rg.s 7 30 ?_
        refine Rg.s 8 31 ?_
        refine Rg.s 9 32 ?_
        refine Rg.s 10 33 ?_
        refine Rg.s 11 34 ?_
        refine Rg.s 12 35 ?_
        refine Rg.s 13 36 ?_
        refine Rg.s 14 37 ?_
        refine Rg.s 15 38 ?_
        refine Rg.s 16 39 ?_
        refine Rg.t 17 40 ?_
        refine Rg.t 18 41 ?_
        refine wpAnyH_done (by kernel_rfl) (NoPanic.normal ?_) _
        have hb1 := hide ((unhide HBL).drew.trans (b2.mono (by show w1.heap.size ≤ W0.heap.size; exact (unhide HBL).size)))
        go_wp2_with fail
        go_roundw
        case rel => exact ⟨0 + 1, by omega, by go_num, HST, hb1⟩
        case measure => simp [intOf]; omega
      · obtain ⟨i, hji⟩ : ∃ i, j = i + 1 := ⟨j - 1, by omega⟩
        have HJ := hide hji
        have e1 : (j : Int) - 1 = (i : Int) := by omega
        have i0 : (0 : Int) ≤ (i : Int) := by omega
        have wi : IntKind.i64.wrap (i : Int) = (i : Int) := by rw [IntKind.wrap_i64]; omega
        have i1 : (i : Int) < (n : Int) := by omega
        have j1 : (0 : Int) < (j : Int) := by omega
        have j2 : 0 < j := by omega
        have hP := hide ((hc i (by omega)).below ((Below.refl _ _).alloc (Nat.le_refl _) (.cells #[.int .i64 (ms.getD j R.zero).ad, .int .i64 (ms.getD j R.zero).st, .int .i64 (ms.getD j R.zero).mt, .bool (ms.getD j R.zero).mp] 184)))
        have EJ : ms.getD j R.zero = ms.getD (i + 1) R.zero := by rw [hji]
        clear hc hji
        by_cases hk : (ms.getD i R.zero).ad < (ms.getD j R.zero).ad
        · have HST : Hid (allN ms (j + 1) = true) := hide (Ri.all_succ (unhide hrl) (by rw [unhide HJ]; exact Ri.step_lt (by rw [← EJ]; exact unhide HK) (by rw [← EJ]; exact hk)))
          clear EJ
          generalize ms.getD j R.zero = m at *
          generalize ms.getD i R.zero = m0 at *
          obtain ⟨ad, st, mt, mp⟩ := m
          obtain ⟨ad0, st0, mt0, mp0⟩ := m0
          dsimp only at hk
          obtain ⟨c0, c1, c2, c3⟩ := hA
          dsimp only at c0 c1 c2 c3
          go_wp2_with fail
          generalize hW : wr.alloc (.cells #[.int .i64 ad, .int .i64 st, .int .i64 mt, .bool mp] 184) = W0 at *
          clear hW
          refine wp_region_noPanic ?_
          refine wp_region_held_drew (S := fun w' => (Bx w' wr.heap.size ⟨ad, st, mt, mp⟩ ∧ At w' g (off + i * 4) ⟨ad0, st0, mt0, mp0⟩ ∧ Bx3 w' w.heap.size will valid (.slice (some ⟨g, off, none⟩) n cap)) ∧ w'.cell? ⟨wr.heap.size, 0, none⟩ = some (.int .i64 ad) ∧ w'.cell? ⟨wr.heap.size, 1, none⟩ = some (.int .i64 st) ∧ w'.cell? ⟨wr.heap.size, 2, none⟩ = some (.int .i64 mt) ∧ w'.cell? ⟨wr.heap.size, 3, none⟩ = some (.bool mp) ∧ w'.cell? ⟨g, off + i * 4, none⟩ = some (.int .i64 ad0) ∧ w'.cell? ⟨w.heap.size, 2, none⟩ = some (.slice (some ⟨g, off, none⟩) n cap)) (by kernel_rfl) (sBox2 (unhide HBX).drew (unhide hP).drew (unhide HXA).drew) (fun hHeld => ?_)
          refine Rg.t 0 23 ?_
          (refine Rg.o 1 (fun K hK => ?_); go_simp)
          refine (isNb ad st mt mp _).mono ?_
          rintro e w2 ⟨rfl, b2⟩
          rw [unhide HK]
          refine hK.out _ _ (sBox2 ((unhide HBX).drew.below b2) ((unhide hP).drew.below b2) ((unhide HXA).drew.below b2)) (fun hHeld => ?_)
          clear hK K
          (try simp only [Act.put, List.setIfInBounds_toArray, List.set_cons_zero, List.set_cons_succ])
          refine Rg.t 2 25 ?_
          refine Rg.t 3 26 ?_
          refine Rg.t 4 27 ?_
          refine Rg.t 5 28 ?_
          refine Rg.t 6 29 ?_
          refine Rg.t 7 30 ?_
          refine Rg.t 8 31 ?_
          refine Rg.t 9 32 ?_
          refine Rg.t 10 33 ?_
          refine Rg.t 11 34 ?_
          refine Rg.t 12 35 ?_
          refine Rg.t 13 36 ?_
          refine Rg.t 14 37 ?_
          refine Rg.t 15 38 ?_
          refine Rg.t 16 39 ?_
          refine Rg.t 17 40 ?_
          refine Rg.t 18 41 ?_
          refine wpAnyH_done (by kernel_rfl) (NoPanic.normal ?_) _
          have hb1 := hide ((unhide HBL).drew.trans (b2.mono (by show w1.heap.size ≤ W0.heap.size; exact (unhide HBL).size)))
          go_wp2_with fail
          go_roundw
          case rel => exact ⟨j + 1, by omega, by go_num, HST, hb1⟩
          case measure => simp [intOf]; omega
        · have HST : Hid (helB will valid ms = false) := hide (unhide HF (by have := Ri.all_no (unhide HL) (show Ri.step R.zero okN R.ad ms j = false by rw [unhide HJ]; exact Ri.step_ge (by rw [← EJ]; omega)); exact (unhide HN) ▸ this))
          clear EJ
          generalize ms.getD j R.zero = m at *
          generalize ms.getD i R.zero = m0 at *
          obtain ⟨ad, st, mt, mp⟩ := m
          obtain ⟨ad0, st0, mt0, mp0⟩ := m0
          dsimp only at hk
          obtain ⟨c0, c1, c2, c3⟩ := hA
          dsimp only at c0 c1 c2 c3
          go_wp2_with fail
          generalize hW : wr.alloc (.cells #[.int .i64 ad, .int .i64 st, .int .i64 mt, .bool mp] 184) = W0 at *
          clear hW
          refine wp_region_noPanic ?_
          refine wp_region_held_drew (S := fun w' => (Bx w' wr.heap.size ⟨ad, st, mt, mp⟩ ∧ At w' g (off + i * 4) ⟨ad0, st0, mt0, mp0⟩ ∧ Bx3 w' w.heap.size will valid (.slice (some ⟨g, off, none⟩) n cap)) ∧ w'.cell? ⟨wr.heap.size, 0, none⟩ = some (.int .i64 ad) ∧ w'.cell? ⟨wr.heap.size, 1, none⟩ = some (.int .i64 st) ∧ w'.cell? ⟨wr.heap.size, 2, none⟩ = some (.int .i64 mt) ∧ w'.cell? ⟨wr.heap.size, 3, none⟩ = some (.bool mp) ∧ w'.cell? ⟨g, off + i * 4, none⟩ = some (.int .i64 ad0) ∧ w'.cell? ⟨w.heap.size, 2, none⟩ = some (.slice (some ⟨g, off, none⟩) n cap)) (by kernel_rfl) (sBox2 (unhide HBX).drew (unhide hP).drew (unhide HXA).drew) (fun hHeld => ?_)
          refine Rg.t 0 23 ?_
          (refine Rg.o 1 (fun K hK => ?_); go_simp)
          refine (isNb ad st mt mp _).mono ?_
          rintro e w2 ⟨rfl, b2⟩
          rw [unhide HK]
          refine hK.out _ _ (sBox2 ((unhide HBX).drew.below b2) ((unhide hP).drew.below b2) ((unhide HXA).drew.below b2)) (fun hHeld => ?_)
          clear hK K
          (try simp only [Act.put, List.setIfInBounds_toArray, List.set_cons_zero, List.set_cons_succ])
          refine Rg.t 2 25 ?_
          refine Rg.t 3 26 ?_
          refine Rg.t 4 27 ?_
          refine Rg.t 5 28 ?_
          refine Rg.t 6 29 ?_
          refine Rg.t 7 30 ?_
          refine Rg.t 8 31 ?_
          refine Rg.t 9 32 ?_
          refine Rg.t 10 33 ?_
          refine Rg.t 11 34 ?_
          refine Rg.t 12 35 ?_
          refine Rg.t 13 36 ?_
          refine Rg.t 14 37 ?_
          refine Rg.t 15 38 ?_
          refine Rg.t 16 39 ?_
          refine Rg.t 17 40 ?_
          refine Rg.t 18 41 ?_
          refine wpAnyH_done (by kernel_rfl) (NoPanic.normal ?_) _
          have hb1 := hide ((unhide HB1).trans (((unhide HBL).drew.trans (b2.mono (by show w1.heap.size ≤ W0.heap.size; exact (unhide HBL).size))).mono (unhide HB1).size))
          go_wp2_with fail
          go_ret
          exact ⟨ret_bool (unhide HST).symm, unhide hb1⟩
    · obtain rfl : j = n := by omega
      go_wp2
      go_ret
      exact ⟨ret_bool (unhide HT (unhide hrl)).symm, (unhide HB1).trans ((unhide hbl).mono (unhide HB1).size)⟩
theorem below_drewN {B : Nat} {w w' : World} (h : Below B w w') (q : Nat) : Below B w (w'.drewN q) := ⟨h.os, h.tape, h.output, h.size, h.block⟩
set_option maxRecDepth 100000 in
set_option maxHeartbeats 4000000 in
theorem specOK (will valid : Int) (a : Option Addr) (ms : List R) (cap : Nat) (w : World) (hm : ms.length ≤ 1048576) (hr : RM w a ms) :
    Calls Tryz.prog 259 #[.agg #[.int .i64 will, .int .i64 valid, .slice a ms.length cap]] w fun e w' => e = .returned (.bool (helB will valid ms)) ∧ Below w.heap.size w w' := by
  cases h1 : inB will 0 7
  · have HF := hide (show helB will valid ms = false by unfold helB; rw [h1]; rfl)
    go_enter Tryz.func259, Tryz.ntmps259
    go_wp2_with fail
    go_quiet ((go_at_call 64; exact Calls.quiet_of_same (l01In _ _ _ _)))
    go_wp2_with fail
    go_ret
    exact ⟨ret_bool (unhide HF).symm, below_drewN ((Below.refl _ _).alloc (Nat.le_refl _) _) _⟩
  cases h2 : inB valid 1 10000
  · have HF := hide (show helB will valid ms = false by unfold helB Tim.valB; rw [h1, h2]; rfl)
    go_enter Tryz.func259, Tryz.ntmps259
    go_wp2_with fail
    go_quiet ((go_at_call 64; exact Calls.quiet_of_same (l01In _ _ _ _)))
    go_wp2_with fail
    go_ret
    exact ⟨ret_bool (unhide HF).symm, below_drewN ((Below.refl _ _).alloc (Nat.le_refl _) _) _⟩
  have hv : 1 ≤ valid ∧ valid ≤ 10000 := by simpa [inB] using h2
  have htc := Tim.tcode_lt (n := valid) (by omega)
  cases h3 : Tim.tim (Tim.tcode valid) == valid
  · have h3' : (Tim.tim (Tim.tcode valid) != valid) = true := by rw [bne, h3]; rfl
    have HF := hide (show helB will valid ms = false by unfold helB Tim.valB Tim.exTB; rw [h1, h2, h3]; rfl)
    go_enter Tryz.func259, Tryz.ntmps259
    go_wp2_with fail
    go_quiet ((first | (go_at_call 64; exact Calls.quiet_of_same (l01In _ _ _ _)) | (go_at_call 173; exact Calls.quiet_of_same (Tim.l02TimeCode valid (by omega) (by omega) _)) | (go_at_call 240; exact Calls.quiet_of_same (Tim.l02Time (Tim.tcode valid) htc _))))
    go_wp2_with fail
    go_ret
    exact ⟨ret_bool (unhide HF).symm, below_drewN ((Below.refl _ _).alloc (Nat.le_refl _) _) _⟩
  have h3' : (Tim.tim (Tim.tcode valid) != valid) = false := by rw [bne, h3]; rfl
  have h4 : Tim.valB valid = true := by unfold Tim.valB Tim.exTB; rw [h2, h3]; rfl
  by_cases hbig : (8 : Int) < ms.length
  · have HF := hide (show helB will valid ms = false by
      cases hh : helB will valid ms
      · rfl
      · have := hel_len hh; omega)
    clear h4
    go_enter Tryz.func259, Tryz.ntmps259
    go_wp2_with fail
    go_quiet ((first | (go_at_call 64; exact Calls.quiet_of_same (l01In _ _ _ _)) | (go_at_call 173; exact Calls.quiet_of_same (Tim.l02TimeCode valid (by omega) (by omega) _)) | (go_at_call 240; exact Calls.quiet_of_same (Tim.l02Time (Tim.tcode valid) htc _))))
    go_wp2_with fail
    go_ret
    exact ⟨ret_bool (unhide HF).symm, below_drewN ((Below.refl _ _).alloc (Nat.le_refl _) _) _⟩
  have HT : Hid (allN ms ms.length = true → helB will valid ms = true) := hide (fun h => by unfold helB; rw [h1, h4, h]; rfl)
  have HF : Hid (allN ms ms.length = false → helB will valid ms = false) := hide (fun h => by unfold helB; rw [h1, h4, h]; rfl)
  clear h4
  have HR := hide hr
  clear hr
  generalize hN : ms.length = n at *
  have HN := hide hN
  clear hN
  obtain ⟨w1, hw1⟩ : ∃ w1, w1 = w.alloc (.cells #[.int .i64 will, .int .i64 valid, .slice a n cap] 53) := ⟨_, rfl⟩
  have HW := hide hw1
  have HB1 : Hid (Below w.heap.size w w1) := hide (by rw [hw1]; exact (Below.refl _ _).alloc (Nat.le_refl _) _)
  have HX1 : Hid (Bx3 w1 w.heap.size will valid (.slice a n cap)) := hide (by rw [hw1]; exact bx3_new _ _ _ _ _)
  have HR1 := hide ((unhide HR).below (unhide HB1))
  clear hw1 HR
  go_enter Tryz.func259, Tryz.ntmps259
  go_wp2_with fail
  go_quiet ((first | (go_at_call 64; exact Calls.quiet_of_same (l01In _ _ _ _)) | (go_at_call 173; exact Calls.quiet_of_same (Tim.l02TimeCode valid (by omega) (by omega) _)) | (go_at_call 240; exact Calls.quiet_of_same (Tim.l02Time (Tim.tcode valid) htc _))))
  go_wp2_with fail
  clear h1 h2 h3 h3'
  go_loopw [3] (fun i wr => ∃ j : Nat, j ≤ n ∧ i = .int .i64 j ∧ Hid (allN ms j = true) ∧ Hid (Below w1.heap.size w1 wr)) (fun i _ => n - (intOf i).toNat)
  case atStart => exact ⟨0, by omega, rfl, hide Ri.all_zero, hide (by rw [unhide HW]; exact below_drewN (Below.refl _ _) _)⟩
  case round =>
    obtain ⟨j, hj, rfl, hrl, hbl⟩ := hrel
    have HX := hide ((unhide HX1).below (unhide hbl))
    have hbx := (unhide HX).2.2
    by_cases hlt : (j : Int) < (n : Int)
    · have k0 : (0 : Int) ≤ (j : Int) := by omega
      have hlen : j < ms.length := by rw [unhide HN]; omega
      rcases (unhide HR1).below (by exact (unhide hbl)) with e0 | ⟨g, off, rfl, hc⟩
      · exfalso; rw [e0] at hlen; simp at hlen
      have HL := hide hlen
      have hA := hc j hlen
      cases hk : nbB (ms.getD j R.zero)
      · clear hc
        have HST := hide (unhide HF (by have := Ri.all_no hlen (Ri.step_bad (ok := okN) (key := R.ad) (by unfold okN; rw [hk]; rfl)); exact (unhide HN) ▸ this))
        have HK := hide hk
        clear hk
        generalize ms.getD j R.zero = m at *
        obtain ⟨ad, st, mt, mp⟩ := m
        go_wp2_with fail
        refine wp_region_noPanic ?_
        refine wp_region_held_drew (S := fun w' => (At w' g (off + j * 4) ⟨ad, st, mt, mp⟩ ∧ Bx3 w' w.heap.size will valid (.slice (some ⟨g, off, none⟩) n cap)) ∧ w'.cell? ⟨g, off + j * 4, none⟩ = some (.int .i64 ad) ∧ w'.cell? ⟨g, off + j * 4 + 1, none⟩ = some (.int .i64 st) ∧ w'.cell? ⟨g, off + j * 4 + 2, none⟩ = some (.int .i64 mt) ∧ w'.cell? ⟨g, off + j * 4 + 3, none⟩ = some (.bool mp) ∧ w'.cell? ⟨w.heap.size, 2, none⟩ = some (.slice (some ⟨g, off, none⟩) n cap)) (by kernel_rfl) (sH1 hA.drew (unhide HX).drew) (fun hHeld => ?_)
        refine Rg.t 0 36 ?_
        refine Rg.t 1 37 ?_
        refine Rg.t 2 38 ?_
        refine Rg.t 3 39 ?_
        refine Rg.t 4 40 ?_
        (refine Rg.o 5 (fun K hK => ?_); go_simp)
        refine (l04Nb ad st mt mp _).mono ?_
        rintro e w2 ⟨rfl, b2⟩
        rw [unhide HK]
        refine hK.out _ _ (sH1 (hA.drew.below b2) ((unhide HX).drew.below b2)) (fun hHeld => ?_)
        clear hK K
        (try simp only [Act.put, List.setIfInBounds_toArray, List.set_cons_zero, List.set_cons_succ])
        refine Rg.t 6 42 ?_
        refine Rg.t 7 43 ?_
        refine Rg.s 8 44 ?_
        refine Rg.s 9 45 ?_
        refine Rg.s 10 46 ?_
        refine Rg.s 11 47 ?_
        refine Rg.s 12 48 ?_
        refine Rg.s 13 49 ?_
        refine Rg.s 14 50 ?_
        refine Rg.s 15 51 ?_
        refine Rg.t 16 52 ?_
        refine Rg.t 17 53 ?_
        refine Rg.s 18 54 ?_
        refine Rg.s 19 55 ?_
        refine Rg.s 20 56 ?_
        refine Rg.s 21 57 ?_
        refine Rg.s 22 58 ?_
        refine Rg.s 23 59 ?_
        refine Rg.s 24 60 ?_
        refine Rg.s 25 61 ?_
        refine Rg.s 26 62 ?_
        refine Rg.s 27 63 ?_
        refine Rg.s 28 64 ?_
        refine Rg.s 29 65 ?_
        refine Rg.s 30 66 ?_
        refine Rg.s 31 67 ?_
        refine Rg.s 32 68 ?_
        refine Rg.s 33 69 ?_
        refine Rg.s 34 70 ?_
        refine Rg.s 35 71 ?_
        refine Rg.t 36 72 ?_
        refine wpAnyH_done (by kernel_rfl) (NoPanic.normal ?_) _
        have hb1 := hide ((unhide HB1).trans (((unhide hbl).drew.trans (b2.mono (by show w1.heap.size ≤ wr.heap.size; exact (unhide hbl).size))).mono (unhide HB1).size))
        go_wp2_with fail
        go_ret
        exact ⟨ret_bool (unhide HST).symm, unhide hb1⟩
      have HK := hide hk
      have hmt : 1 ≤ (ms.getD j R.zero).mt ∧ (ms.getD j R.zero).mt ≤ 16744192 := by unfold nbB inB at hk; simp at hk; simpa using hk.2.2.1
      clear hk
      cases hx : exM (ms.getD j R.zero).mt
      · clear hc
        have HST := hide (unhide HF (by have := Ri.all_no hlen (Ri.step_bad (ok := okN) (key := R.ad) (by unfold okN; rw [hx, Bool.and_false])); exact (unhide HN) ▸ this))
        have HE := hide hx
        clear hx
        generalize ms.getD j R.zero = m at *
        obtain ⟨ad, st, mt, mp⟩ := m
        go_wp2_with fail
        refine wp_region_noPanic ?_
        refine wp_region_held_drew (S := fun w' => (At w' g (off + j * 4) ⟨ad, st, mt, mp⟩ ∧ Bx3 w' w.heap.size will valid (.slice (some ⟨g, off, none⟩) n cap)) ∧ w'.cell? ⟨g, off + j * 4, none⟩ = some (.int .i64 ad) ∧ w'.cell? ⟨g, off + j * 4 + 1, none⟩ = some (.int .i64 st) ∧ w'.cell? ⟨g, off + j * 4 + 2, none⟩ = some (.int .i64 mt) ∧ w'.cell? ⟨g, off + j * 4 + 3, none⟩ = some (.bool mp) ∧ w'.cell? ⟨w.heap.size, 2, none⟩ = some (.slice (some ⟨g, off, none⟩) n cap)) (by kernel_rfl) (sH1 hA.drew (unhide HX).drew) (fun hHeld => ?_)
        refine Rg.t 0 36 ?_
        refine Rg.t 1 37 ?_
        refine Rg.t 2 38 ?_
        refine Rg.t 3 39 ?_
        refine Rg.t 4 40 ?_
        (refine Rg.o 5 (fun K hK => ?_); go_simp)
        refine (l04Nb ad st mt mp _).mono ?_
        rintro e w2 ⟨rfl, b2⟩
        rw [unhide HK]
        refine hK.out _ _ (sH1 (hA.drew.below b2) ((unhide HX).drew.below b2)) (fun hHeld => ?_)
        clear hK K
        (try simp only [Act.put, List.setIfInBounds_toArray, List.set_cons_zero, List.set_cons_succ])
        refine Rg.t 6 42 ?_
        refine Rg.t 7 43 ?_
        refine Rg.t 8 44 ?_
        refine Rg.t 9 45 ?_
        refine Rg.t 10 46 ?_
        refine Rg.t 11 47 ?_
        refine Rg.t 12 48 ?_
        refine Rg.t 13 49 ?_
        (refine Rg.o 14 (fun K hK => ?_); go_simp)
        refine (l04Ex mt hmt.1 hmt.2 _).mono ?_
        rintro e w3 ⟨rfl, rfl⟩
        rw [unhide HE]
        refine hK.out _ _ (sH1 (hA.drew.below b2) ((unhide HX).drew.below b2)) (fun hHeld => ?_)
        clear hK K
        (try simp only [Act.put, List.setIfInBounds_toArray, List.set_cons_zero, List.set_cons_succ])
        refine Rg.t 15 51 ?_
        refine Rg.t 16 52 ?_
        refine Rg.t 17 53 ?_
        refine Rg.s 18 54 ?_
        refine Rg.s 19 55 ?_
        refine Rg.s 20 56 ?_
        refine Rg.s 21 57 ?_
        refine Rg.s 22 58 ?_
        refine Rg.s 23 59 ?_
        refine Rg.s 24 60 ?_
        refine Rg.s 25 61 ?_
        refine Rg.s 26 62 ?_
        refine Rg.s 27 63 ?_
        refine Rg.s 28 64 ?_
        refine Rg.s 29 65 ?_
        refine Rg.s 30 66 ?_
        refine Rg.s 31 67 ?_
        refine Rg.s 32 68 ?_
        refine Rg.s 33 69 ?_
        refine Rg.s 34 70 ?_
        refine Rg.s 35 71 ?_
        refine Rg.t 36 72 ?_
        refine wpAnyH_done (by kernel_rfl) (NoPanic.normal ?_) _
        have hb1 := hide ((unhide HB1).trans (((unhide hbl).drew.trans (b2.mono (by show w1.heap.size ≤ wr.heap.size; exact (unhide hbl).size))).mono (unhide HB1).size))
        go_wp2_with fail
        go_ret
        exact ⟨ret_bool (unhide HST).symm, unhide hb1⟩
      have HE := hide hx
      clear hx
      have HO : Hid (okN (ms.getD j R.zero) = true) := hide (by unfold okN; rw [unhide HK, unhide HE]; rfl)
      by_cases hj0 : j = 0
      · subst hj0
        clear hc
        rw [Nat.zero_mul, Nat.add_zero] at hA
        have HST := hide (Ri.all_succ (unhide hrl) (Ri.step_zero (key := R.ad) (unhide HO)))
        generalize ms.getD 0 R.zero = m at *
        obtain ⟨ad, st, mt, mp⟩ := m
        go_wp2_with fail
        refine wp_region_noPanic ?_
        refine wp_region_held_drew (S := fun w' => (At w' g off ⟨ad, st, mt, mp⟩ ∧ Bx3 w' w.heap.size will valid (.slice (some ⟨g, off, none⟩) n cap)) ∧ w'.cell? ⟨g, off, none⟩ = some (.int .i64 ad) ∧ w'.cell? ⟨g, off + 1, none⟩ = some (.int .i64 st) ∧ w'.cell? ⟨g, off + 2, none⟩ = some (.int .i64 mt) ∧ w'.cell? ⟨g, off + 3, none⟩ = some (.bool mp) ∧ w'.cell? ⟨w.heap.size, 2, none⟩ = some (.slice (some ⟨g, off, none⟩) n cap)) (by kernel_rfl) (sH1 hA.drew (unhide HX).drew) (fun hHeld => ?_)
        refine Rg.t 0 36 ?_
        refine Rg.t 1 37 ?_
        refine Rg.t 2 38 ?_
        refine Rg.t 3 39 ?_
        refine Rg.t 4 40 ?_
        (refine Rg.o 5 (fun K hK => ?_); go_simp)
        refine (l04Nb ad st mt mp _).mono ?_
        rintro e w2 ⟨rfl, b2⟩
        rw [unhide HK]
        refine hK.out _ _ (sH1 (hA.drew.below b2) ((unhide HX).drew.below b2)) (fun hHeld => ?_)
        clear hK K
        (try simp only [Act.put, List.setIfInBounds_toArray, List.set_cons_zero, List.set_cons_succ])
        refine Rg.t 6 42 ?_
        refine Rg.t 7 43 ?_
        refine Rg.t 8 44 ?_
        refine Rg.t 9 45 ?_
        refine Rg.t 10 46 ?_
        refine Rg.t 11 47 ?_
        refine Rg.t 12 48 ?_
        refine Rg.t 13 49 ?_
        (refine Rg.o 14 (fun K hK => ?_); go_simp)
        refine (l04Ex mt hmt.1 hmt.2 _).mono ?_
        rintro e w3 ⟨rfl, rfl⟩
        rw [unhide HE]
        refine hK.out _ _ (sH1 (hA.drew.below b2) ((unhide HX).drew.below b2)) (fun hHeld => ?_)
        clear hK K
        (try simp only [Act.put, List.setIfInBounds_toArray, List.set_cons_zero, List.set_cons_succ])
        refine Rg.t 15 51 ?_
        refine Rg.t 16 52 ?_
        refine Rg.t 17 53 ?_
        refine Rg.t 18 54 ?_
        refine Rg.t 19 55 ?_
        refine Rg.t 20 56 ?_
        refine Rg.s 21 57 ?_
        refine Rg.s 22 58 ?_
        refine Rg.s 23 59 ?_
        refine Rg.s 24 60 ?_
        refine Rg.s 25 61 ?_
        refine Rg.s 26 62 ?_
        refine Rg.s 27 63 ?_
        refine Rg.s 28 64 ?_
        refine Rg.s 29 65 ?_
        refine Rg.s 30 66 ?_
        refine Rg.s 31 67 ?_
        refine Rg.s 32 68 ?_
        refine Rg.s 33 69 ?_
        refine Rg.s 34 70 ?_
        refine Rg.t 35 71 ?_
        refine Rg.t 36 72 ?_
        refine wpAnyH_done (by kernel_rfl) (NoPanic.normal ?_) _
        have hb1 := hide ((unhide hbl).drew.trans (b2.mono (by show w1.heap.size ≤ wr.heap.size; exact (unhide hbl).size)))
        go_wp2_with fail
        go_roundw
        case rel => exact ⟨0 + 1, by omega, by go_num, HST, hb1⟩
        case measure => simp [intOf]; omega
      · obtain ⟨i, hji⟩ : ∃ i, j = i + 1 := ⟨j - 1, by omega⟩
        have HJ := hide hji
        have e1 : (j : Int) - 1 = (i : Int) := by omega
        have i0 : (0 : Int) ≤ (i : Int) := by omega
        have wi : IntKind.i64.wrap (i : Int) = (i : Int) := by rw [IntKind.wrap_i64]; omega
        have i1 : (i : Int) < (n : Int) := by omega
        have j1 : (0 : Int) < (j : Int) := by omega
        have j2 : 0 < j := by omega
        have hP := hide (hc i (by omega))
        have EJ : ms.getD j R.zero = ms.getD (i + 1) R.zero := by rw [hji]
        clear hc hji
        by_cases hk : (ms.getD i R.zero).ad < (ms.getD j R.zero).ad
        · have HST : Hid (allN ms (j + 1) = true) := hide (Ri.all_succ (unhide hrl) (by rw [unhide HJ]; exact Ri.step_lt (by rw [← EJ]; exact unhide HO) (by rw [← EJ]; exact hk)))
          clear EJ
          generalize ms.getD j R.zero = m at *
          generalize ms.getD i R.zero = m0 at *
          obtain ⟨ad, st, mt, mp⟩ := m
          obtain ⟨ad0, st0, mt0, mp0⟩ := m0
          dsimp only at hk
          go_wp2_with fail
          refine wp_region_noPanic ?_
          refine wp_region_held_drew (S := fun w' => (At w' g (off + j * 4) ⟨ad, st, mt, mp⟩ ∧ At w' g (off + i * 4) ⟨ad0, st0, mt0, mp0⟩ ∧ Bx3 w' w.heap.size will valid (.slice (some ⟨g, off, none⟩) n cap)) ∧ w'.cell? ⟨g, off + j * 4, none⟩ = some (.int .i64 ad) ∧ w'.cell? ⟨g, off + j * 4 + 1, none⟩ = some (.int .i64 st) ∧ w'.cell? ⟨g, off + j * 4 + 2, none⟩ = some (.int .i64 mt) ∧ w'.cell? ⟨g, off + j * 4 + 3, none⟩ = some (.bool mp) ∧ w'.cell? ⟨g, off + i * 4, none⟩ = some (.int .i64 ad0) ∧ w'.cell? ⟨w.heap.size, 2, none⟩ = some (.slice (some ⟨g, off, none⟩) n cap)) (by kernel_rfl) (sH2 hA.drew (unhide hP).drew (unhide HX).drew) (fun hHeld => ?_)
          refine Rg.t 0 36 ?_
          refine Rg.t 1 37 ?_
          refine Rg.t 2 38 ?_
          refine Rg.t 3 39 ?_
          refine Rg.t 4 40 ?_
          (refine Rg.o 5 (fun K hK => ?_); go_simp)
          refine (l04Nb ad st mt mp _).mono ?_
          rintro e w2 ⟨rfl, b2⟩
          rw [unhide HK]
          refine hK.out _ _ (sH2 (hA.drew.below b2) ((unhide hP).drew.below b2) ((unhide HX).drew.below b2)) (fun hHeld => ?_)
          clear hK K
          (try simp only [Act.put, List.setIfInBounds_toArray, List.set_cons_zero, List.set_cons_succ])
          refine Rg.t 6 42 ?_
          refine Rg.t 7 43 ?_
          refine Rg.t 8 44 ?_
          refine Rg.t 9 45 ?_
          refine Rg.t 10 46 ?_
          refine Rg.t 11 47 ?_
          refine Rg.t 12 48 ?_
          refine Rg.t 13 49 ?_
          (refine Rg.o 14 (fun K hK => ?_); go_simp)
          refine (l04Ex mt hmt.1 hmt.2 _).mono ?_
          rintro e w3 ⟨rfl, rfl⟩
          rw [unhide HE]
          refine hK.out _ _ (sH2 (hA.drew.below b2) ((unhide hP).drew.below b2) ((unhide HX).drew.below b2)) (fun hHeld => ?_)
          clear hK K
          (try simp only [Act.put, List.setIfInBounds_toArray, List.set_cons_zero, List.set_cons_succ])
          refine Rg.t 15 51 ?_
          refine Rg.t 16 52 ?_
          refine Rg.t 17 53 ?_
          refine Rg.t 18 54 ?_
          refine Rg.t 19 55 ?_
          refine Rg.t 20 56 ?_
          refine Rg.t 21 57 ?_
          refine Rg.t 22 58 ?_
          refine Rg.t 23 59 ?_
          refine Rg.t 24 60 ?_
          refine Rg.t 25 61 ?_
          refine Rg.t 26 62 ?_
          refine Rg.t 27 63 ?_
          refine Rg.t 28 64 ?_
          refine Rg.t 29 65 ?_
          refine Rg.t 30 66 ?_
          refine Rg.t 31 67 ?_
          refine Rg.t 32 68 ?_
          refine Rg.t 33 69 ?_
          refine Rg.t 34 70 ?_
          refine Rg.t 35 71 ?_
          refine Rg.t 36 72 ?_
          refine wpAnyH_done (by kernel_rfl) (NoPanic.normal ?_) _
          have hb1 := hide ((unhide hbl).drew.trans (b2.mono (by show w1.heap.size ≤ wr.heap.size; exact (unhide hbl).size)))
          go_wp2_with fail
          go_roundw
          case rel => exact ⟨j + 1, by omega, by go_num, HST, hb1⟩
          case measure => simp [intOf]; omega
        · have HST : Hid (helB will valid ms = false) := hide (unhide HF (by have := Ri.all_no (unhide HL) (show Ri.step R.zero okN R.ad ms j = false by rw [unhide HJ]; exact Ri.step_ge (by rw [← EJ]; omega)); exact (unhide HN) ▸ this))
          clear EJ
          generalize ms.getD j R.zero = m at *
          generalize ms.getD i R.zero = m0 at *
          obtain ⟨ad, st, mt, mp⟩ := m
          obtain ⟨ad0, st0, mt0, mp0⟩ := m0
          dsimp only at hk
          go_wp2_with fail
          refine wp_region_noPanic ?_
          refine wp_region_held_drew (S := fun w' => (At w' g (off + j * 4) ⟨ad, st, mt, mp⟩ ∧ At w' g (off + i * 4) ⟨ad0, st0, mt0, mp0⟩ ∧ Bx3 w' w.heap.size will valid (.slice (some ⟨g, off, none⟩) n cap)) ∧ w'.cell? ⟨g, off + j * 4, none⟩ = some (.int .i64 ad) ∧ w'.cell? ⟨g, off + j * 4 + 1, none⟩ = some (.int .i64 st) ∧ w'.cell? ⟨g, off + j * 4 + 2, none⟩ = some (.int .i64 mt) ∧ w'.cell? ⟨g, off + j * 4 + 3, none⟩ = some (.bool mp) ∧ w'.cell? ⟨g, off + i * 4, none⟩ = some (.int .i64 ad0) ∧ w'.cell? ⟨w.heap.size, 2, none⟩ = some (.slice (some ⟨g, off, none⟩) n cap)) (by kernel_rfl) (sH2 hA.drew (unhide hP).drew (unhide HX).drew) (fun hHeld => ?_)
          refine Rg.t 0 36 ?_
          refine Rg.t 1 37 ?_
          refine Rg.t 2 38 ?_
          refine Rg.t 3 39 ?_
          refine Rg.t 4 40 ?_
          (refine Rg.o 5 (fun K hK => ?_); go_simp)
          refine (l04Nb ad st mt mp _).mono ?_
          rintro e w2 ⟨rfl, b2⟩
          rw [unhide HK]
          refine hK.out _ _ (sH2 (hA.drew.below b2) ((unhide hP).drew.below b2) ((unhide HX).drew.below b2)) (fun hHeld => ?_)
          clear hK K
          (try simp only [Act.put, List.setIfInBounds_toArray, List.set_cons_zero, List.set_cons_succ])
          refine Rg.t 6 42 ?_
          refine Rg.t 7 43 ?_
          refine Rg.t 8 44 ?_
          refine Rg.t 9 45 ?_
          refine Rg.t 10 46 ?_
          refine Rg.t 11 47 ?_
          refine Rg.t 12 48 ?_
          refine Rg.t 13 49 ?_
          (refine Rg.o 14 (fun K hK => ?_); go_simp)
          refine (l04Ex mt hmt.1 hmt.2 _).mono ?_
          rintro e w3 ⟨rfl, rfl⟩
          rw [unhide HE]
          refine hK.out _ _ (sH2 (hA.drew.below b2) ((unhide hP).drew.below b2) ((unhide HX).drew.below b2)) (fun hHeld => ?_)
          clear hK K
          (try simp only [Act.put, List.setIfInBounds_toArray, List.set_cons_zero, List.set_cons_succ])
          refine Rg.t 15 51 ?_
          refine Rg.t 16 52 ?_
          refine Rg.t 17 53 ?_
          refine Rg.t 18 54 ?_
          refine Rg.t 19 55 ?_
          refine Rg.t 20 56 ?_
          refine Rg.t 21 57 ?_
          refine Rg.t 22 58 ?_
          refine Rg.t 23 59 ?_
          refine Rg.t 24 60 ?_
          refine Rg.t 25 61 ?_
          refine Rg.t 26 62 ?_
          refine Rg.t 27 63 ?_
          refine Rg.t 28 64 ?_
          refine Rg.t 29 65 ?_
          refine Rg.t 30 66 ?_
          refine Rg.t 31 67 ?_
          refine Rg.t 32 68 ?_
          refine Rg.t 33 69 ?_
          refine Rg.t 34 70 ?_
          refine Rg.t 35 71 ?_
          refine Rg.t 36 72 ?_
          refine wpAnyH_done (by kernel_rfl) (NoPanic.normal ?_) _
          have hb1 := hide ((unhide HB1).trans (((unhide hbl).drew.trans (b2.mono (by show w1.heap.size ≤ wr.heap.size; exact (unhide hbl).size))).mono (unhide HB1).size))
          go_wp2_with fail
          go_ret
          exact ⟨ret_bool (unhide HST).symm, unhide hb1⟩
    · obtain rfl : j = n := by omega
      go_wp2
      go_ret
      exact ⟨ret_bool (unhide HT (unhide hrl)).symm, (unhide HB1).trans ((unhide hbl).mono (unhide HB1).size)⟩
end Hl
end Go.Proofs.YtffclijcfngeeaaGreat
namespace Go.Proofs.YtffclijcfngeeaaGreat
open Go.ChangeShapes Go.WideShapes Go.ChangeAt Go.RowKit
set_option linter.unusedVariables false
namespace Hl
open W1 Nb
def HV (w : World) (b : Nat) (x y : Int) (v : Value) : Prop := w.heap[b]? = some (.cells #[.int .i64 x, .int .i64 y, v] 53 (0, 0))
theorem HV.bx {w : World} {b : Nat} {x y : Int} {v : Value} (h : HV w b x y v) : Bx3 w b x y v := by
  unfold HV at h; exact ⟨by simp [World.cell?, h], by simp [World.cell?, h], by simp [World.cell?, h]⟩
theorem HV.free {w : World} {b : Nat} {x y : Int} {v : Value} (h : HV w b x y v) (i : Nat) : w.frozen? ⟨b, i, none⟩ = false := by
  unfold HV at h; simp [World.frozen?, h]
theorem HV.lt {w : World} {b : Nat} {x y : Int} {v : Value} (h : HV w b x y v) : b < w.heap.size := lt_of_block h
theorem HV.drew {w : World} {b : Nat} {x y : Int} {v : Value} (h : HV w b x y v) : HV w.drew b x y v := h
theorem HV.under {w w' : World} {B b : Nat} {x y : Int} {v : Value} (h : HV w b x y v) (hb : Below B w w') (hl : b < B) : HV w' b x y v := (hb.block b hl).trans h
theorem HV.below {w w' : World} {b : Nat} {x y : Int} {v : Value} (h : HV w b x y v) (hb : Below w.heap.size w w') : HV w' b x y v := h.under hb h.lt
theorem HV.grown {w w' : World} {b : Nat} {x y : Int} {v : Value} {r : Option Nat} (h : HV w b x y v) (hg : w.grownBy w' r) (hne : some b ≠ r) : HV w' b x y v := (hg.block b h.lt hne).trans h
theorem hv_new (w : World) (x y : Int) (v : Value) : HV (w.alloc (.cells #[.int .i64 x, .int .i64 y, v] 53)) w.heap.size x y v := by
  unfold HV; exact heap_alloc_new w _
theorem HV.row {w : World} {b : Nat} {x y : Int} {v u : Value} {base n : Nat} {xs : List Value} (h : HV w b x y v) (hr : w.ownsRow base 184 4 u n xs) : some b ≠ u.ownBlock := by
  rcases hr.2 with ⟨rfl, _⟩ | ⟨g, cap, cur, rfl, _, hgb, _⟩
  · simp [Value.ownBlock]
  · intro e'
    obtain rfl : b = g := by simpa [Value.ownBlock] using e'
    have := (show w.heap[b]? = _ from h).symm.trans hgb
    simp at this
theorem heap_set {w : World} {b i : Nat} {c : Array Value} {t : TypeId} {fr : Nat × Nat} (u : Value) (h : w.heap[b]? = some (.cells c t fr)) : (w.setCell ⟨b, i, none⟩ u).heap[b]? = some (.cells (c.setIfInBounds i u) t fr) := by
  have hlt := lt_of_block h
  have h' : w.heap[b] = .cells c t fr := by simpa [Array.getElem?_eq_getElem hlt] using h
  show (w.heap.modify b _)[b]? = _
  rw [Array.getElem?_eq_getElem (by simpa using hlt), Array.getElem_modify_self, h']
  rfl
theorem HV.set {w : World} {b : Nat} {x y : Int} {v : Value} (u : Value) (h : HV w b x y v) : HV (w.setCell ⟨b, 2, none⟩ u) b x y u := heap_set u h
theorem HV.put {w : World} {b : Nat} {x y x' y' : Int} {v u : Value} (h : HV w b x y v) : HV (((w.setCell ⟨b, 0, none⟩ (.int .i64 x')).setCell ⟨b, 1, none⟩ (.int .i64 y')).setCell ⟨b, 2, none⟩ u) b x' y' u :=
  heap_set u (heap_set (.int .i64 y') (heap_set (.int .i64 x') h))
theorem own_below {w w' : World} {base : Nat} {v : Value} {n : Nat} {xs : List Value} (h : w.ownsRow base 184 4 v n xs) (hb : Below w.heap.size w w') : w'.ownsRow base 184 4 v n xs := by
  refine h.kept (row := none) ⟨hb.os, hb.tape, hb.output, hb.size, fun k hk _ => hb.block k hk⟩ ?_
  cases v.ownBlock
  · exact .inl rfl
  · exact .inr (by simp)
end Hl
end Go.Proofs.YtffclijcfngeeaaGreat
namespace Go.Proofs.YtffclijcfngeeaaGreat
open Go.ChangeShapes Go.WideShapes Go.ChangeAt Go.RowKit
set_option linter.unusedVariables false
set_option linter.unusedSimpArgs false
set_option maxRecDepth 100000
attribute [local go_sem ↓] Go.wp_at_zero Go.wp_at_succ
namespace Rt
open W1
/-- What a hello says of a link. -/
def helR (mp : List Int) (now : Int) (x : Lk.R) : Nb.R := ⟨x.ad, Ln.statusV x now, x.ci, mp.contains x.ad⟩
def helL (tw : List Tu.R) (ls : List Lk.R) (me now : Int) : List Nb.R := ls.map (helR (Mr.fldA tw ls me now) now)
theorem hel_len (tw : List Tu.R) (ls : List Lk.R) (me now : Int) : (helL tw ls me now).length = ls.length := by unfold helL; rw [List.length_map]
theorem hel_take {mp : List Int} {now : Int} {ls : List Lk.R} {j : Nat} (h : j < ls.length) : (ls.map (helR mp now)).take (j + 1) = (ls.map (helR mp now)).take j ++ [helR mp now (ls.getD j Lk.R.zero)] := by
  rw [← List.map_take, ← List.map_take, List.take_add_one, List.getElem?_eq_getElem h, List.map_append, List.getD_eq_getElem?_getD, List.getElem?_eq_getElem h]; rfl
theorem rng_ad {ls : List Lk.R} (h : Ln.linksB ls = true) {j : Nat} (hj : j < ls.length) : inB (ls.getD j Lk.R.zero).ad 1 8 = true := by
  have := Ln.ok_ad (Ri.all_ok h hj)
  generalize ls.getD j Lk.R.zero = m at *
  unfold inB; simp; omega
theorem has_mp {mp : List Int} {a : Int} (h : inB a 1 8 = true) : Gp.hasB (Gp.gL mp) a = mp.contains a := by
  unfold Gp.gL; rw [Gp.has_gN, h, Bool.true_and]
/-- A relay is symmetric. -/
theorem mp_sym {tw : List Tu.R} {ls : List Lk.R} {me now : Int} (hc : Tw.codeTL tw ls = 0) {j : Nat} (hj : j < ls.length) (h : (Mr.fldA tw ls me now).contains (ls.getD j Lk.R.zero).ad = true) : Ln.statusV (ls.getD j Lk.R.zero) now = 2 := by
  have hok := (Tw.codeTL_ok hc).2
  have hg := (Cv.flood_ok (me := me) (now := now) hc).2.2.1 _ (by simpa using h)
  obtain ⟨m, hf, _, hst⟩ := hg
  have h1 := List.find?_some hf
  have h2 := List.mem_of_find?_eq_some hf
  obtain ⟨i, hi, rfl⟩ := List.getElem_of_mem h2
  have h4 : (ls[i]).ad = (ls.getD j Lk.R.zero).ad := by simpa [Ln.isAd] using h1
  have e : i = j := by
    rcases Nat.lt_trichotomy i j with hlt | e | hlt
    · have := Ri.rises hok j i hlt hj
      rw [List.getD_eq_getElem?_getD, List.getElem?_eq_getElem hi] at this
      simp only [Option.getD_some] at this
      have h5 : (ls[i]).ad < (ls.getD j Lk.R.zero).ad := this
      omega
    · exact e
    · have := Ri.rises hok i j hlt hi
      rw [List.getD_eq_getElem?_getD (l := ls) (i := i), List.getElem?_eq_getElem hi] at this
      simp only [Option.getD_some] at this
      have h5 : (ls.getD j Lk.R.zero).ad < (ls[i]).ad := this
      omega
  subst e
  rw [List.getD_eq_getElem?_getD, List.getElem?_eq_getElem hi]; exact hst
theorem sCO {w : World} {b : Nat} {x1 x2 x3 x4 x5 x6 : Int} {v1 v2 v3 v4 v5 v6 v7 v8 : Value} (h : CA w b (cC x1 x2 x3 x4 x5 v1 v2 v3 v4 v5 v6 v7 x6 v8)) :
    CA w b (cC x1 x2 x3 x4 x5 v1 v2 v3 v4 v5 v6 v7 x6 v8) ∧ w.cell? ⟨b, 0, none⟩ = some (.int .i64 x1) ∧ w.cell? ⟨b, 4, none⟩ = some (.int .i64 x5) ∧ w.cell? ⟨b, 5, none⟩ = some v1 ∧ w.cell? ⟨b, 6, none⟩ = some v2 :=
  ⟨h, h.at (i := 0) rfl, h.at (i := 4) rfl, h.at (i := 5) rfl, h.at (i := 6) rfl⟩
theorem bx_other {w : World} {b : Nat} {m : Lk.R} {p : Addr} (h : Ln.Bx w b m) (hne : b ≠ p.block) (v : Value) : Ln.Bx (w.setCell p v) b m := by
  have hb : (w.setCell p v).heap[b]? = w.heap[b]? := Below.heap_setCell _ _ _ _ hne
  obtain ⟨h0, h1, h2, h3, h4, h5⟩ := h
  exact ⟨(World.cell?_of_block (a := ⟨b, 0, none⟩) hb).trans h0, (World.cell?_of_block (a := ⟨b, 1, none⟩) hb).trans h1, (World.cell?_of_block (a := ⟨b, 2, none⟩) hb).trans h2, (World.cell?_of_block (a := ⟨b, 3, none⟩) hb).trans h3, (World.cell?_of_block (a := ⟨b, 4, none⟩) hb).trans h4, (World.cell?_of_block (a := ⟨b, 5, none⟩) hb).trans h5⟩
theorem bx_grown {w w' : World} {b : Nat} {m : Lk.R} {r : Option Nat} (h : Ln.Bx w b m) (hg : w.grownBy w' r) (hne : some b ≠ r) : Ln.Bx w' b m := by
  obtain ⟨h0, h1, h2, h3, h4, h5⟩ := h
  exact ⟨hg.cell h0 hne, hg.cell h1 hne, hg.cell h2 hne, hg.cell h3 hne, hg.cell h4 hne, hg.cell h5 hne⟩
theorem ca_grown {w w' : World} {b : Nat} {cs : List Value} {r : Option Nat} (h : CA w b cs) (hg : w.grownBy w' r) (hne : some b ≠ r) : CA w' b cs := by
  have hb := hg.block b h.lt hne
  have c : ∀ q, w'.cell? ⟨b, q, none⟩ = w.cell? ⟨b, q, none⟩ := fun q => World.cell?_of_block (a := ⟨b, q, none⟩) hb
  have f : ∀ q, w'.frozen? ⟨b, q, none⟩ = w.frozen? ⟨b, q, none⟩ := fun q => World.frozen?_of_block (a := ⟨b, q, none⟩) hb
  exact ⟨fun j u hu => (c _).trans (h.1 j u hu), fun j hj => ⟨by rw [c]; exact (h.2.1 j hj).1, by rw [f]; exact (h.2.1 j hj).2⟩, h.2.2⟩
theorem sHE {w : World} {X p : Nat} {ad hd sy ci co wl x1 x2 x3 x4 x5 x6 : Int} {v1 v2 v3 v4 v5 v6 v7 v8 : Value} (h : Ln.Bx w X ⟨ad, hd, sy, ci, co, wl⟩) (h2 : CA w p (cC x1 x2 x3 x4 x5 v1 v2 v3 v4 v5 v6 v7 x6 v8)) :
    (Ln.Bx w X ⟨ad, hd, sy, ci, co, wl⟩ ∧ CA w p (cC x1 x2 x3 x4 x5 v1 v2 v3 v4 v5 v6 v7 x6 v8)) ∧ w.cell? ⟨X, 0, none⟩ = some (.int .i64 ad) ∧ w.cell? ⟨X, 1, none⟩ = some (.int .i64 hd) ∧ w.cell? ⟨X, 2, none⟩ = some (.int .i64 sy) ∧ w.cell? ⟨X, 3, none⟩ = some (.int .i64 ci) ∧ w.cell? ⟨X, 4, none⟩ = some (.int .i64 co) ∧ w.cell? ⟨X, 5, none⟩ = some (.int .i64 wl) ∧ w.cell? ⟨p, 4, none⟩ = some (.int .i64 x5) :=
  ⟨⟨h, h2⟩, h.1, h.2.1, h.2.2.1, h.2.2.2.1, h.2.2.2.2.1, h.2.2.2.2.2, h2.at (i := 4) rfl⟩
set_option maxHeartbeats 16000000 in
theorem coreHello (x1 x2 x3 x4 x5 x6 : Int) (a1 a2 : Option Addr) (d1 d2 : Nat) (v3 v4 v5 v6 v7 v8 : Value) (ls : List Lk.R) (tw : List Tu.R) (p : Nat) (w : World) (hm2 : tw.length ≤ 1048576) (hok : Ln.linksB ls = true) (hcode : Tw.codeTL tw ls = 0) (hp : CA w p (cC x1 x2 x3 x4 x5 (.slice a1 ls.length d1) (.slice a2 tw.length d2) v3 v4 v5 v6 v7 x6 v8)) (hr1 : Lk.RM w a1 ls) (hr2 : Tu.RM w a2 tw) :
    Calls Tryz.prog 46 #[.pointer (some ⟨p, 0, none⟩)] w fun e w' => ∃ v, e = .returned (.agg #[.int .i64 x2, .int .i64 6, v]) ∧ Below w.heap.size w w' ∧ Nb.LstV w' v (helL tw ls x1 x5) w.heap.size w'.heap.size := by
  have h8 := Ln.links_len hok
  have hmp8 := (Cv.flood_ok (me := x1) (now := x5) hcode).1
  have HLB := hide hok
  have KF := hide (fun W => Gp.implFlood a2 tw d2 a1 ls d1 x1 x5 W hm2 (by omega))
  have HEL : Hid (helL tw ls x1 x5 = ls.map (helR (Mr.fldA tw ls x1 x5) x5)) := hide rfl
  rw [hcode] at KF
  generalize Mr.fldA tw ls x1 x5 = mp at *
  obtain ⟨HH, hHH⟩ : ∃ HH, helL tw ls x1 x5 = HH := ⟨_, rfl⟩
  rw [hHH] at HEL ⊢
  have hlen : HH.length = ls.length := by rw [unhide HEL, List.length_map]
  have HLEN := hide hlen
  clear hHH hcode hok hlen
  have A0 : Hid (Below w.heap.size w (w.alloc (.cells #[.int .i64 0, .int .i64 0, .slice none 0 0] 53))) := hide ((Below.refl _ _).alloc (Nat.le_refl _) _)
  have T0 : Hid (Hl.HV (w.alloc (.cells #[.int .i64 0, .int .i64 0, .slice none 0 0] 53)) w.heap.size 0 0 (.slice none 0 0)) := hide (Hl.hv_new _ _ _ _)
  have C0 := hide (hp.below (unhide A0))
  have HR1 := hide hr1
  have HR2 := hide hr2
  have hz0 : (w.alloc (.cells #[.int .i64 0, .int .i64 0, .slice none 0 0] 53)).heap.size = w.heap.size + 1 := by simp
  have hpl := hp.lt
  clear hp hr1 hr2
  go_enter Tryz.func46, Tryz.ntmps46
  go_wp2_with fail
  generalize hW : w.alloc (.cells #[.int .i64 0, .int .i64 0, .slice none 0 0] 53) = W0 at *
  clear hW
  refine wp_region_noPanic ?_
  refine wp_region_held_drew (S := fun w' => CA w' p (cC x1 x2 x3 x4 x5 (.slice a1 ls.length d1) (.slice a2 tw.length d2) v3 v4 v5 v6 v7 x6 v8) ∧ w'.cell? ⟨p, 0, none⟩ = some (.int .i64 x1) ∧ w'.cell? ⟨p, 4, none⟩ = some (.int .i64 x5) ∧ w'.cell? ⟨p, 5, none⟩ = some (.slice a1 ls.length d1) ∧ w'.cell? ⟨p, 6, none⟩ = some (.slice a2 tw.length d2)) (by kernel_rfl) (sCO (unhide C0).drew) (fun hHeld => ?_)
  refine Rg.t 0 10 ?_
  refine Rg.t 1 11 ?_
  refine Rg.t 2 12 ?_
  refine Rg.t 3 13 ?_
  refine Rg.t 4 14 ?_
  refine Rg.t 5 15 ?_
  refine Rg.t 6 16 ?_
  refine Rg.t 7 17 ?_
  refine Rg.t 8 18 ?_
  refine Rg.t 9 19 ?_
  refine Rg.t 10 20 ?_
  refine Rg.t 11 21 ?_
  refine Rg.t 12 22 ?_
  refine Rg.t 13 23 ?_
  refine Rg.t 14 24 ?_
  refine Rg.t 15 25 ?_
  refine Rg.t 16 26 ?_
  refine Rg.t 17 27 ?_
  refine Rg.t 18 28 ?_
  refine Rg.t 19 29 ?_
  (refine Rg.o 20 (fun K hK => ?_); go_simp)
  refine (unhide KF _ ((unhide HR2).below (unhide A0).drew) ((unhide HR1).below (unhide A0).drew)).mono ?_
  rintro e w1 ⟨v1, rfl, b_, l1⟩
  have b1 : Below W0.heap.size W0 w1 := (Below.refl _ _).drew.trans b_
  obtain ⟨ma, mc, rfl, L1⟩ := l1
  have M1 := hide L1.rm
  have A1 := hide ((unhide A0).trans (b1.mono (unhide A0).size))
  have T1 := hide ((unhide T0).below b1)
  have C1 := hide ((unhide C0).below b1)
  have hz1 := b1.size
  clear L1 b1 b_ hHeld A0 T0 C0
  refine hK.out _ _ (sCO (unhide C1)) (fun hHeld => ?_)
  clear hK K
  (try simp only [Act.put, List.setIfInBounds_toArray, List.set_cons_zero, List.set_cons_succ])
  refine Rg.t 21 9 ?_
  refine Rg.t 22 31 ?_
  refine Rg.t 23 32 ?_
  refine Rg.t 24 3 ?_
  refine Rg.t 25 4 ?_
  refine wpAnyH_done (by kernel_rfl) (NoPanic.normal ?_) _
  clear hHeld KF
  go_wp2_with fail
  refine (Gp.groupOf ma mp mc _ (by omega) (unhide M1)).mono ?_
  rintro e w2 ⟨rfl, hw2⟩
  rw [hw2]
  clear hw2 w2
  have hsl := Gp.gL_lt mp
  obtain ⟨s, hs⟩ : ∃ s, Gp.gL mp = s := ⟨_, rfl⟩
  have HHAS : Hid (∀ j, j < ls.length → Gp.hasB s (ls.getD j Lk.R.zero).ad = mp.contains (ls.getD j Lk.R.zero).ad) := hide (fun j hj => by rw [← hs]; exact has_mp (rng_ad (unhide HLB) hj))
  rw [hs] at hsl ⊢
  clear hs
  have z1 := (unhide C1).at (i := 1) rfl
  have z5 := (unhide C1).at (i := 5) rfl
  have B3b : Below w1.heap.size w1 (w1.alloc (.cells #[.int .i64 x2, .int .i64 6, .slice none 0 0] 53)) := (Below.refl _ _).alloc (Nat.le_refl _) _
  have H3 : Hid (Hl.HV (w1.alloc (.cells #[.int .i64 x2, .int .i64 6, .slice none 0 0] 53)) w1.heap.size x2 6 (.slice none 0 0)) := hide (Hl.hv_new _ _ _ _)
  have A3 := hide ((unhide A1).trans (B3b.mono (unhide A1).size))
  have T3 := hide ((unhide T1).below B3b)
  have C3 := hide ((unhide C1).below B3b)
  have hz3 : (w1.alloc (.cells #[.int .i64 x2, .int .i64 6, .slice none 0 0] 53)).heap.size = w1.heap.size + 1 := by simp
  have O3 : Hid ((w1.alloc (.cells #[.int .i64 x2, .int .i64 6, .slice none 0 0] 53)).ownsRow (w1.heap.size + 1) 184 4 (.slice none 0 0) ([] : List Nb.R).length (Nb.flat [])) := hide (Nb.own_nil _ _)
  have z5' := (unhide C3).at (i := 5) rfl
  clear B3b
  go_wp2_with fail
  clear z1 z5 z5'
  generalize hW3 : w1.alloc (.cells #[.int .i64 x2, .int .i64 6, .slice none 0 0] 53) = w3 at *
  clear hW3 A1 T1 C1 M1
  generalize hB : w1.heap.size = B at *
  clear hB
  generalize hN : ls.length = n at *
  have HN := hide hN
  clear hN
  obtain ⟨V1, V2, C4⟩ : ∃ V1 V2, Hid (CA w3 p (cC x1 x2 x3 x4 x5 V1 V2 v3 v4 v5 v6 v7 x6 v8)) := ⟨_, _, C3⟩
  clear C3
  go_loopw [47] (fun i wr => ∃ (j : Nat) (v : Value), j ≤ n ∧ i = .int .i64 j ∧ Hid (Hl.HV wr B x2 6 v) ∧ Hid (wr.ownsRow (B + 1) 184 4 v (HH.take j).length (Nb.flat (HH.take j))) ∧ Hid (Below B w3 wr)) (fun i _ => n - (intOf i).toNat)
  case atStart => exact ⟨0, _, by omega, rfl, H3, O3, hide (Below.refl _ _)⟩
  case round =>
    obtain ⟨j, v, hj, rfl, hH, hO, hBl⟩ := hrel
    have Ar := hide ((unhide A3).trans ((unhide hBl).mono (by omega)))
    have Tr := hide ((unhide T3).under (unhide hBl) (by omega))
    have Cr := hide ((unhide C4).under (unhide hBl) (by omega))
    have hzr : w3.heap.size ≤ wr.heap.size := (unhide hBl).size
    by_cases hlt : (j : Int) < (n : Int)
    · have k0 : (0 : Int) ≤ (j : Int) := by omega
      have hlen : j < ls.length := by rw [unhide HN]; omega
      obtain ⟨g, off, ha1⟩ := (unhide HR1).form (by omega)
      have HC := (unhide HR1).below (unhide Ar)
      have HTK : Hid (HH.take (j + 1) = HH.take j ++ [helR mp x5 (ls.getD j Lk.R.zero)]) := hide (by rw [unhide HEL]; exact hel_take hlen)
      have hhas := unhide HHAS j (by omega)
      have htl : (HH.take j).length ≤ 8 := by rw [List.length_take]; omega
      have HTL := hide htl
      obtain ⟨TJ, hTJ⟩ : ∃ TJ, HH.take j = TJ := ⟨_, rfl⟩
      rw [hTJ] at hO HTK htl HTL
      clear hTJ
      subst ha1
      have hA := HC.at hlen
      clear HC
      generalize ls.getD j Lk.R.zero = m at *
      obtain ⟨ad, hd, sy, ci, co, wl⟩ := m
      obtain ⟨t0, t1, t2, t3, t4, t5⟩ := hA
      dsimp only at t0 t1 t2 t3 t4 t5 hhas
      obtain ⟨mb, hmb⟩ : ∃ mb, mp.contains ad = mb := ⟨_, rfl⟩
      have HNB : Hid (helR mp x5 ⟨ad, hd, sy, ci, co, wl⟩ = ⟨ad, Ln.statusV ⟨ad, hd, sy, ci, co, wl⟩ x5, ci, mb⟩) := hide (by unfold helR; dsimp only; rw [hmb])
      rw [hmb] at hhas
      clear hmb
      have KH := hide (fun W => Gp.has s ad W (by omega))
      rw [hhas] at KH
      clear hhas
      have bX : Below wr.heap.size wr (wr.alloc (.cells #[.int .i64 ad, .int .i64 hd, .int .i64 sy, .int .i64 ci, .int .i64 co, .int .i64 wl] 140)) := (Below.refl _ _).alloc (Nat.le_refl _) _
      have X1 : Hid (Ln.Bx (wr.alloc (.cells #[.int .i64 ad, .int .i64 hd, .int .i64 sy, .int .i64 ci, .int .i64 co, .int .i64 wl] 140)) wr.heap.size ⟨ad, hd, sy, ci, co, wl⟩) := hide (Ln.bx_new _ ⟨ad, hd, sy, ci, co, wl⟩ _)
      have H1 := hide ((unhide hH).below bX)
      have O1 := hide (Hl.own_below (unhide hO) bX)
      have D1 : Hid (Below B w3 (wr.alloc (.cells #[.int .i64 ad, .int .i64 hd, .int .i64 sy, .int .i64 ci, .int .i64 co, .int .i64 wl] 140))) := hide ((unhide hBl).trans (bX.mono (by omega)))
      have C1 := hide ((unhide Cr).below bX)
      have hs1 : (wr.alloc (.cells #[.int .i64 ad, .int .i64 hd, .int .i64 sy, .int .i64 ci, .int .i64 co, .int .i64 wl] 140)).heap.size = wr.heap.size + 1 := by simp
      clear bX
      go_wp2_with fail
      clear t0 t1 t2 t3 t4 t5
      generalize hW4 : wr.alloc (.cells #[.int .i64 ad, .int .i64 hd, .int .i64 sy, .int .i64 ci, .int .i64 co, .int .i64 wl] 140) = w4 at *
      clear hW4
      generalize hX : wr.heap.size = X at *
      have HXE := hide hX
      clear hX
      refine wp_region_noPanic ?_
      refine Rl.drew (S := fun w' => (Ln.Bx w' X ⟨ad, hd, sy, ci, co, wl⟩ ∧ CA w' p (cC x1 x2 x3 x4 x5 V1 V2 v3 v4 v5 v6 v7 x6 v8)) ∧ w'.cell? ⟨X, 0, none⟩ = some (.int .i64 ad) ∧ w'.cell? ⟨X, 1, none⟩ = some (.int .i64 hd) ∧ w'.cell? ⟨X, 2, none⟩ = some (.int .i64 sy) ∧ w'.cell? ⟨X, 3, none⟩ = some (.int .i64 ci) ∧ w'.cell? ⟨X, 4, none⟩ = some (.int .i64 co) ∧ w'.cell? ⟨X, 5, none⟩ = some (.int .i64 wl) ∧ w'.cell? ⟨p, 4, none⟩ = some (.int .i64 x5)) (T := fun w' => w'.cell? ⟨B, 2, none⟩ = some v) 21 (by kernel_rfl) ⟨sHE (unhide X1) (unhide C1), (unhide H1).bx.2.2⟩ (fun hHeld => ?_)

      (refine Rl.tkS (k := 21) (i := 0) (d := 51) (v := ?_) rfl rfl (by kernel_rfl) (by kernel_rfl) (by kernel_rfl) rfl (fun _ _ _ h => h) (by rfl) ?_ (by assumption) ?_; rotate_left; (focus (intro w0 hSw; (try dsimp only at hSw); go_simp; (try with_reducible rfl))); (try simp only [Act.put, List.setIfInBounds_toArray, List.set_cons_zero, List.set_cons_succ]))
      (refine Rl.tk (k := 21) (i := 1) (d := 52) (v := ?_) rfl rfl (by kernel_rfl) (by kernel_rfl) (by kernel_rfl) (by kernel_rfl) rfl (by kernel_rfl) (fun _ _ _ h => h) (by rfl) ?_ (by assumption) ?_; rotate_left; (focus (intro w0 hSw; (try dsimp only at hSw); go_simp; (try with_reducible rfl))); (try simp only [Act.put, List.setIfInBounds_toArray, List.set_cons_zero, List.set_cons_succ]))
      (refine Rl.tkS (k := 21) (i := 2) (d := 53) (v := ?_) rfl rfl (by kernel_rfl) (by kernel_rfl) (by kernel_rfl) rfl (fun _ _ _ h => h) (by rfl) ?_ (by assumption) ?_; rotate_left; (focus (intro w0 hSw; (try dsimp only at hSw); go_simp; (try with_reducible rfl))); (try simp only [Act.put, List.setIfInBounds_toArray, List.set_cons_zero, List.set_cons_succ]))
      (refine Rl.tkS (k := 21) (i := 3) (d := 54) (v := ?_) rfl rfl (by kernel_rfl) (by kernel_rfl) (by kernel_rfl) rfl (fun _ _ _ h => h) (by rfl) ?_ (by assumption) ?_; rotate_left; (focus (intro w0 hSw; (try dsimp only at hSw); go_simp; (try with_reducible rfl))); (try simp only [Act.put, List.setIfInBounds_toArray, List.set_cons_zero, List.set_cons_succ]))
      (refine Rl.tkS (k := 21) (i := 4) (d := 55) (v := ?_) rfl rfl (by kernel_rfl) (by kernel_rfl) (by kernel_rfl) rfl (fun _ _ _ h => h) (by rfl) ?_ (by assumption) ?_; rotate_left; (focus (intro w0 hSw; (try dsimp only at hSw); go_simp; (try with_reducible rfl))); (try simp only [Act.put, List.setIfInBounds_toArray, List.set_cons_zero, List.set_cons_succ]))
      (refine Rl.tkS (k := 21) (i := 5) (d := 56) (v := ?_) rfl rfl (by kernel_rfl) (by kernel_rfl) (by kernel_rfl) rfl (fun _ _ _ h => h) (by rfl) ?_ (by assumption) ?_; rotate_left; (focus (intro w0 hSw; (try dsimp only at hSw); go_simp; (try with_reducible rfl))); (try simp only [Act.put, List.setIfInBounds_toArray, List.set_cons_zero, List.set_cons_succ]))
      (refine Rl.tkS (k := 21) (i := 6) (d := 57) (v := ?_) rfl rfl (by kernel_rfl) (by kernel_rfl) (by kernel_rfl) rfl (fun _ _ _ h => h) (by rfl) ?_ (by assumption) ?_; rotate_left; (focus (intro w0 hSw; (try dsimp only at hSw); go_simp; (try with_reducible rfl))); (try simp only [Act.put, List.setIfInBounds_toArray, List.set_cons_zero, List.set_cons_succ]))
      (refine Rl.tkS (k := 21) (i := 7) (d := 58) (v := ?_) rfl rfl (by kernel_rfl) (by kernel_rfl) (by kernel_rfl) rfl (fun _ _ _ h => h) (by rfl) ?_ (by assumption) ?_; rotate_left; (focus (intro w0 hSw; (try dsimp only at hSw); go_simp; (try with_reducible rfl))); (try simp only [Act.put, List.setIfInBounds_toArray, List.set_cons_zero, List.set_cons_succ]))
      (refine Rl.tkS (k := 21) (i := 8) (d := 59) (v := ?_) rfl rfl (by kernel_rfl) (by kernel_rfl) (by kernel_rfl) rfl (fun _ _ _ h => h) (by rfl) ?_ (by assumption) ?_; rotate_left; (focus (intro w0 hSw; (try dsimp only at hSw); go_simp; (try with_reducible rfl))); (try simp only [Act.put, List.setIfInBounds_toArray, List.set_cons_zero, List.set_cons_succ]))
      (refine Rl.tkS (k := 21) (i := 9) (d := 60) (v := ?_) rfl rfl (by kernel_rfl) (by kernel_rfl) (by kernel_rfl) rfl (fun _ _ _ h => h) (by rfl) ?_ (by assumption) ?_; rotate_left; (focus (intro w0 hSw; (try dsimp only at hSw); go_simp; (try with_reducible rfl))); (try simp only [Act.put, List.setIfInBounds_toArray, List.set_cons_zero, List.set_cons_succ]))
      (refine Rl.tkS (k := 21) (i := 11) (d := 62) (v := ?_) rfl rfl (by kernel_rfl) (by kernel_rfl) (by kernel_rfl) rfl (fun _ _ _ h => h) (by rfl) ?_ (by assumption) ?_; rotate_left; (focus (intro w0 hSw; (try dsimp only at hSw); go_simp; (try with_reducible rfl))); (try simp only [Act.put, List.setIfInBounds_toArray, List.set_cons_zero, List.set_cons_succ]))
      (refine Rl.tkS (k := 21) (i := 12) (d := 63) (v := ?_) rfl rfl (by kernel_rfl) (by kernel_rfl) (by kernel_rfl) rfl (fun _ _ _ h => h) (by rfl) ?_ (by assumption) ?_; rotate_left; (focus (intro w0 hSw; (try dsimp only at hSw); go_simp; (try with_reducible rfl))); (try simp only [Act.put, List.setIfInBounds_toArray, List.set_cons_zero, List.set_cons_succ]))
      (refine Rl.tkS (k := 21) (i := 13) (d := 64) (v := ?_) rfl rfl (by kernel_rfl) (by kernel_rfl) (by kernel_rfl) rfl (fun _ _ _ h => h) (by rfl) ?_ (by assumption) ?_; rotate_left; (focus (intro w0 hSw; (try dsimp only at hSw); go_simp; (try with_reducible rfl))); (try simp only [Act.put, List.setIfInBounds_toArray, List.set_cons_zero, List.set_cons_succ]))
      (refine Rl.tkS (k := 21) (i := 14) (d := 65) (v := ?_) rfl rfl (by kernel_rfl) (by kernel_rfl) (by kernel_rfl) rfl (fun _ _ _ h => h) (by rfl) ?_ (by assumption) ?_; rotate_left; (focus (intro w0 hSw; (try dsimp only at hSw); go_simp; (try with_reducible rfl))); (try simp only [Act.put, List.setIfInBounds_toArray, List.set_cons_zero, List.set_cons_succ]))
      (refine Rl.tkS (k := 21) (i := 15) (d := 66) (v := ?_) rfl rfl (by kernel_rfl) (by kernel_rfl) (by kernel_rfl) rfl (fun _ _ _ h => h) (by rfl) ?_ (by assumption) ?_; rotate_left; (focus (intro w0 hSw; (try dsimp only at hSw); go_simp; (try with_reducible rfl))); (try simp only [Act.put, List.setIfInBounds_toArray, List.set_cons_zero, List.set_cons_succ]))
      (refine Rl.ready (rs := [10]) (by kernel_rfl) (by simp) ?_; refine Rl.AllReadyL.cons (o := _) rfl rfl (fun K hK => ?_) Rl.AllReadyL.nil; go_simp)
      refine (Ln.implStatus ad hd sy ci co wl x5 _).mono ?_
      rintro e w5 ⟨rfl, b_⟩
      have b5 : Below w4.heap.size w4 w5 := (Below.refl _ _).drew.trans b_
      have X5 := hide ((unhide X1).below b5)
      have H5 := hide ((unhide H1).below b5)
      have O5 := hide (Hl.own_below (unhide O1) b5)
      have D5 := hide ((unhide D1).trans (b5.mono (by omega)))
      have C5 := hide ((unhide C1).below b5)
      have hs5 := b5.size
      clear b5 b_ X1 H1 O1 D1 C1 hHeld
      refine hK.out _ _ ⟨sHE (unhide X5) (unhide C5), (unhide H5).bx.2.2⟩ (fun hHeld => ?_)
      clear hK K
      (try simp only [Act.put, List.setIfInBounds_toArray, List.set_cons_zero, List.set_cons_succ])
      obtain ⟨st, hst⟩ : ∃ st, Ln.statusV ⟨ad, hd, sy, ci, co, wl⟩ x5 = st := ⟨_, rfl⟩
      rw [hst] at HNB ⊢
      clear hst
      (refine Rl.ready (rs := [16]) (by kernel_rfl) (by simp) ?_; refine Rl.AllReadyL.cons (o := _) rfl rfl (fun K hK => ?_) Rl.AllReadyL.nil; go_simp)
      refine (unhide KH _).mono ?_
      rintro e w6 ⟨rfl, b6⟩
      have X6 := hide ((unhide X5).below b6)
      have H6 := hide ((unhide H5).below b6)
      have O6 := hide (Hl.own_below (unhide O5) b6)
      have D6 := hide ((unhide D5).trans (b6.mono (by omega)))
      have C6 := hide ((unhide C5).below b6)
      have hs6 := b6.size
      clear b6 X5 H5 O5 D5 C5 hHeld
      refine hK.out _ _ ⟨sHE (unhide X6) (unhide C6), (unhide H6).bx.2.2⟩ (fun hHeld => ?_)
      clear hK K
      (try simp only [Act.put, List.setIfInBounds_toArray, List.set_cons_zero, List.set_cons_succ])
      (refine Rl.tkS (k := 21) (i := 17) (d := 68) (v := ?_) rfl rfl (by kernel_rfl) (by kernel_rfl) (by kernel_rfl) rfl (fun _ _ _ h => h) (by rfl) ?_ (by assumption) ?_; rotate_left; (focus (intro w0 hSw; (try dsimp only at hSw); go_simp; (try with_reducible rfl))); (try simp only [Act.put, List.setIfInBounds_toArray, List.set_cons_zero, List.set_cons_succ]))
      have bN : Below w6.heap.size w6 (w6.alloc (.cells #[.int .i64 ad, .int .i64 st, .int .i64 ci, .bool mb] 184)) := (Below.refl _ _).alloc (Nat.le_refl _) _
      have X7 := hide ((unhide X6).below bN)
      have H7 := hide ((unhide H6).below bN)
      have O7 := hide (Hl.own_below (unhide O6) bN)
      have D7 := hide ((unhide D6).trans (bN.mono (by omega)))
      have C7 := hide ((unhide C6).below bN)
      have R7 : Hid (Nb.RM (w6.alloc (.cells #[.int .i64 ad, .int .i64 st, .int .i64 ci, .bool mb] 184)) (some ⟨w6.heap.size, 0, none⟩) [(⟨ad, st, ci, mb⟩ : Nb.R)]) := hide (Nb.rm_new w6 ⟨ad, st, ci, mb⟩)
      have hs7 : (w6.alloc (.cells #[.int .i64 ad, .int .i64 st, .int .i64 ci, .bool mb] 184)).heap.size = w6.heap.size + 1 := by simp
      clear bN
      (refine Rl.ready (rs := [18]) (by kernel_rfl) (by simp) ?_; refine Rl.AllReadyL.cons (o := _) rfl rfl (fun K hK => ?_) Rl.AllReadyL.nil; go_simp)
      generalize hW7 : w6.alloc (.cells #[.int .i64 ad, .int .i64 st, .int .i64 ci, .bool mb] 184) = w7 at *
      clear hW7 X6 H6 O6 D6 C6 hHeld
      refine hK.out _ _ ⟨sHE (unhide X7) (unhide C7), (unhide H7).bx.2.2⟩ (fun hHeld => ?_)
      clear hK K
      (try simp only [Act.put, List.setIfInBounds_toArray, List.set_cons_zero, List.set_cons_succ])
      (refine Rl.ready (rs := [19]) (by kernel_rfl) (by simp) ?_; refine Rl.AllReadyL.cons (o := _) rfl rfl (fun K hK => ?_) Rl.AllReadyL.nil; rw [if_pos (by rfl)])
      refine Nb.wp_apS (unhide O7) w6.heap.size 0 1 1 [(⟨ad, st, ci, mb⟩ : Nb.R)] rfl (unhide R7) (by simp only [List.length_cons, List.length_nil]; omega) (by omega) _ _ rfl rfl rfl rfl ?_
      intro v8' w8 o8 g8
      obtain ⟨gq, cq, rfl, _, _⟩ := o8.form (by simp)
      obtain ⟨nn, hnn⟩ : ∃ nn, (TJ ++ [(⟨ad, st, ci, mb⟩ : Nb.R)]).length = nn := ⟨_, rfl⟩
      rw [hnn] at o8 ⊢
      have HNN := hide hnn
      clear hnn
      have hrow := (unhide H7).row (unhide O7)
      have H8 := hide ((unhide H7).grown g8 hrow)
      have hXr : some X ≠ v.ownBlock := fun e => by
        have hO' := unhide hO
        have := (hO'.lt X e.symm).2
        have e2 := unhide HXE
        omega
      have X8 := hide (bx_grown (unhide X7) g8 hXr)
      have hPr : some p ≠ v.ownBlock := fun e => by
        have := ((unhide O7).lt p e.symm).1
        omega
      have C8 := hide (ca_grown (unhide C7) g8 hPr)
      have D8 : Hid (Below B w3 w8) := hide ((unhide D7).grown g8 (by omega) (fun k hk => by have := ((unhide O7).lt k hk).1; omega))
      have O8 := hide o8
      have hs8 := g8.size
      clear o8 g8 hrow hXr hPr X7 H7 O7 D7 C7 R7 hHeld
      refine hK.out _ _ ⟨sHE (unhide X8) (unhide C8), (unhide H8).bx.2.2⟩ (fun hHeld => ?_)
      clear hK K
      (try simp only [Act.put, List.setIfInBounds_toArray, List.set_cons_zero, List.set_cons_succ])
      (refine Rl.tkS (k := 21) (i := 20) (d := 71) (v := ?_) rfl rfl (by kernel_rfl) (by kernel_rfl) (by kernel_rfl) rfl (fun _ _ _ h => h) (by rfl) ?_ (by assumption) ?_; rotate_left; (focus (intro w0 hSw; (try dsimp only at hSw); go_simp; (try with_reducible rfl))); (try simp only [Act.put, List.setIfInBounds_toArray, List.set_cons_zero, List.set_cons_succ]))
      have c8 := (unhide H8).bx.2.2
      have f8 := (unhide H8).free 2
      have H9 := hide ((unhide H8).set (.slice (some ⟨gq, 0, none⟩) nn cq))
      have O9 := hide (ownsRow_setCell_other (unhide O8) (a := ⟨B, 2, none⟩) (fun e => (unhide H8).row (unhide O8) e.symm) (.slice (some ⟨gq, 0, none⟩) nn cq))
      have D9 : Hid (Below B w3 (w8.setCell ⟨B, 2, none⟩ (.slice (some ⟨gq, 0, none⟩) nn cq))) := hide ((unhide D8).setCell (p := ⟨B, 2, none⟩) (Nat.le_refl _) (.slice (some ⟨gq, 0, none⟩) nn cq))
      have X9 := hide (bx_other (unhide X8) (p := ⟨B, 2, none⟩) (by show X ≠ B; omega) (.slice (some ⟨gq, 0, none⟩) nn cq))
      have C9 := hide ((unhide C8).other (p := ⟨B, 2, none⟩) (by show p ≠ B; omega) (.slice (some ⟨gq, 0, none⟩) nn cq))
      (refine Rl.ready (rs := [21]) (by kernel_rfl) (by simp) ?_; refine Rl.AllReadyL.last (o := _) rfl (by kernel_rfl) (fun K hK => ?_); go_simp)
      clear c8 f8 hHeld
      generalize hW9 : w8.setCell ⟨B, 2, none⟩ (.slice (some ⟨gq, 0, none⟩) nn cq) = w9 at *
      clear hW9
      refine hK.out _ _ (sHE (unhide X9) (unhide C9)) (fun hHeld => ?_)
      clear hK K hHeld
      (try simp only [Act.put, List.setIfInBounds_toArray, List.set_cons_zero, List.set_cons_succ])
      refine Rl.done (by kernel_rfl) (NoPanic.normal ?_) _
      have HO9 : Hid (w9.ownsRow (B + 1) 184 4 (.slice (some ⟨gq, 0, none⟩) nn cq) (HH.take (j + 1)).length (Nb.flat (HH.take (j + 1)))) := hide (by rw [unhide HTK, unhide HNB, unhide HNN]; exact unhide O9)
      go_wp2_with fail
      go_roundw
      case rel => exact ⟨j + 1, _, by omega, by go_num, H9, HO9, D9⟩
      case measure => simp [intOf]; omega
    · obtain rfl : j = n := by omega
      have e0 : HH.take j = HH := List.take_of_length_le (by rw [unhide HLEN]; exact Nat.le_refl _)
      rw [e0] at hO
      clear e0
      obtain ⟨va, vc, rfl, LF⟩ := Nb.lst_own rfl (unhide hO)
      have HLF := hide LF
      obtain ⟨y0, y1, y2⟩ := (unhide hH).bx
      obtain ⟨q0, q1, q2⟩ := (unhide Tr).bx
      have r0 := (unhide Tr).free 0
      have r1 := (unhide Tr).free 1
      have r2 := (unhide Tr).free 2
      have hlw := (unhide Tr).lt
      have hne : ¬ B = w.heap.size := by omega
      clear LF
      go_wp2_with fail
      refine bodyPost_ret (v := .agg #[.int .i64 x2, .int .i64 6, .slice va HH.length vc]) (by simp [results, Tryz.results46, go_sem, q0, q1, q2, hlw]) rfl ?_
      refine ⟨_, rfl, ?_, va, vc, rfl, ?_⟩
      · exact (((unhide Ar).setCell (p := ⟨w.heap.size, 0, none⟩) (Nat.le_refl _) _).setCell (p := ⟨w.heap.size, 1, none⟩) (Nat.le_refl _) _).setCell (p := ⟨w.heap.size, 2, none⟩) (Nat.le_refl _) _
      · refine ((unhide HLF).but (p := fun k => k ≠ w.heap.size) (by simp [World.setCell]) (fun k hk hp => ?_) (fun k h1 h2 => ?_)).mono (by omega) (by simp [World.setCell])
        · rw [Below.heap_setCell _ _ _ _ hp, Below.heap_setCell _ _ _ _ hp, Below.heap_setCell _ _ _ _ hp]
        · show k ≠ w.heap.size
          omega
end Rt
end Go.Proofs.YtffclijcfngeeaaGreat
