/-
  Mathematics of relays for floods, as bits: who is the best, what is left, which list it is in the end. The program's contracts: cmp.Compare, cmp.Or, and which of two links is the better relay. The program's contract: slices.MaxFunc over links, by worth. The program's contract: FloodMprs. How many relays for floods there may be.
-/
import Derived.Test.YtpknahhdapmcoacMg3
import Derived.Test.YtpknahhdapmcoacMg2
import Derived.Deep.DeepCutAuto
import Derived.Deep.LoopGhost
namespace Go.Proofs.Ytpknahhdapmcoac
set_option linter.unusedVariables false
set_option linter.unusedSimpArgs false
namespace Gp
open W1 Tw Mr
/-- How two numbers compare; the first of several that is not 0. -/
def cmpV (x y : Int) : Int := if x < y then -1 else if y < x then 1 else 0
def orV : List Int → Int
  | [] => 0
  | x :: t => if x = 0 then orV t else x
/-- The first that none behind it is above. -/
def maxV (f : Lk.R → Lk.R → Int) (ls : List Lk.R) : Nat → Lk.R
  | 0 => ls.getD 0 Lk.R.zero
  | i + 1 => if 0 < f (ls.getD (i + 1) Lk.R.zero) (maxV f ls i) then ls.getD (i + 1) Lk.R.zero else maxV f ls i
def worth (gn dg : Int → Int) (x y : Lk.R) : Int := orV [cmpV (gn x.ad) (gn y.ad), cmpV x.wl y.wl, cmpV (dg x.ad) (dg y.ad), cmpV y.ad x.ad]
theorem cmp_zero {x y : Int} : cmpV x y = 0 ↔ x = y := by
  unfold cmpV
  split
  · constructor <;> intro h <;> omega
  · split <;> constructor <;> intro h <;> omega
theorem cmp_pos {x y : Int} : 0 < cmpV x y ↔ y < x := by
  unfold cmpV
  split
  · constructor <;> intro h <;> omega
  · split <;> constructor <;> intro h <;> omega
theorem worth_bet {via : Int → List Int} {S L : List Int} {x y : Lk.R} (h : y.ad < x.ad) : 0 < worth (fun a => (cntV via L a : Int)) (fun a => (cntV via S a : Int)) x y ↔ betV via S L x y = true := by
  unfold worth betV
  simp only [orV, cmp_zero]
  by_cases h1 : cntV via L x.ad = cntV via L y.ad
  · rw [if_pos (by omega), if_pos h1]
    by_cases h2 : x.wl = y.wl
    · rw [if_pos h2, if_pos h2]
      by_cases h3 : cntV via S x.ad = cntV via S y.ad
      · rw [if_pos (by omega), if_neg (by omega), cmp_pos, decide_eq_true_eq]
        constructor <;> intro h <;> omega
      · rw [if_neg (by omega), cmp_pos, decide_eq_true_eq]
        constructor <;> intro h <;> omega
    · rw [if_neg h2, if_neg h2, cmp_pos, decide_eq_true_eq]
  · rw [if_neg (by omega), if_neg h1, cmp_pos, decide_eq_true_eq]
    constructor <;> intro h <;> omega
theorem bet_gain {via : Int → List Int} {S L : List Int} {x y : Lk.R} (h : betV via S L x y = true) : cntV via L y.ad ≤ cntV via L x.ad := by
  unfold betV at h
  split at h
  · omega
  · have := of_decide_eq_true h; omega
theorem gain_bet {via : Int → List Int} {S L : List Int} {x y : Lk.R} (h : cntV via L y.ad < cntV via L x.ad) : betV via S L x y = true := by
  unfold betV
  rw [if_neg (by omega)]; exact decide_eq_true h
theorem pick_max {via : Int → List Int} {S L : List Int} {ls : List Lk.R} {f : Lk.R → Lk.R → Int} (hf : ∀ i j, i < j → j < ls.length → (0 < f (ls.getD j Lk.R.zero) (ls.getD i Lk.R.zero) ↔ betV via S L (ls.getD j Lk.R.zero) (ls.getD i Lk.R.zero) = true)) :
    ∀ j, j < ls.length → (∃ b, b ≤ j ∧ maxV f ls j = ls.getD b Lk.R.zero) ∧ ∀ b, pickV via S L ls (j + 1) = some b → maxV f ls j = ls.getD b Lk.R.zero
  | 0, h => by
    refine ⟨⟨0, Nat.le_refl _, rfl⟩, fun b hb => ?_⟩
    have := (pick_lt hb).1
    obtain rfl : b = 0 := by omega
    rfl
  | j + 1, h => by
    obtain ⟨⟨b', hb', hm⟩, ih⟩ := pick_max hf j (by omega)
    have hmax : maxV f ls (j + 1) = if 0 < f (ls.getD (j + 1) Lk.R.zero) (maxV f ls j) then ls.getD (j + 1) Lk.R.zero else maxV f ls j := rfl
    refine ⟨?_, fun b hb => ?_⟩
    · rw [hmax]
      split
      · exact ⟨j + 1, Nat.le_refl _, rfl⟩
      · exact ⟨b', by omega, hm⟩
    · rw [hmax]
      cases hp : pickV via S L ls (j + 1) with
      | none =>
        rw [pick_first hp] at hb
        by_cases hc : 0 < cntV via L (ls.getD (j + 1) Lk.R.zero).ad
        · rw [if_pos (by simpa using hc)] at hb
          cases hb
          rw [if_pos]
          rw [hm]
          exact (hf b' (j + 1) (by omega) h).2 (gain_bet (by rw [pick_none hp b' (by omega)]; exact hc))
        · rw [if_neg (by simpa using hc)] at hb; cases hb
      | some c =>
        have h1 := ih c hp
        have h2 := pick_lt hp
        rw [pick_next hp] at hb
        rw [h1]
        by_cases hbt : betV via S L (ls.getD (j + 1) Lk.R.zero) (ls.getD c Lk.R.zero) = true
        · have h3 := bet_gain hbt
          rw [if_pos (by rw [hbt, decide_eq_true (by omega)]; rfl)] at hb
          cases hb
          rw [if_pos ((hf c (j + 1) h2.1 h).2 hbt)]
        · rw [if_neg (by intro e; rw [Bool.and_eq_true] at e; exact hbt e.2)] at hb
          cases hb
          rw [if_neg (fun e => hbt ((hf b (j + 1) h2.1 h).1 e))]
/-- Links rise. -/
theorem links_up {ls : List Lk.R} (h : Ln.linksB ls = true) : ∀ j i, i < j → j < ls.length → (ls.getD i Lk.R.zero).ad < (ls.getD j Lk.R.zero).ad
  | 0, i, hi, _ => by omega
  | j + 1, i, hi, hj => by
    have h1 := Ri.rises1 h hj
    by_cases e : i = j
    · subst e; exact h1
    · have := links_up h j i (by omega) (by omega)
      exact Int.lt_trans this h1
theorem links_nodup {ls : List Lk.R} (h : Ln.linksB ls = true) : (ls.map (·.ad)).Nodup := by
  rw [List.Nodup, List.pairwise_iff_getElem]
  intro i j hi hj hij
  simp only [List.length_map] at hi hj
  rw [List.getElem_map, List.getElem_map]
  have := links_up h j i hij hj
  rw [List.getD_eq_getElem?_getD, List.getD_eq_getElem?_getD, List.getElem?_eq_getElem hi, List.getElem?_eq_getElem hj] at this
  simp only [Option.getD_some] at this
  omega
theorem sub_nodup {ls : List Lk.R} (h : Ln.linksB ls = true) (p : Lk.R → Bool) : ((ls.filter p).map (·.ad)).Nodup := (links_nodup h).sublist (List.Sublist.map _ List.filter_sublist)
theorem sub_rng {ls : List Lk.R} (h : Ln.linksB ls = true) (p : Lk.R → Bool) : ∀ a ∈ (ls.filter p).map (·.ad), 1 ≤ a ∧ a ≤ 8 := by
  intro a ha
  obtain ⟨m, hm, rfl⟩ := List.mem_map.1 ha
  obtain ⟨i, hi, e⟩ := List.getElem_of_mem (List.mem_filter.1 hm).1
  have := Ln.ok_ad (Ri.all_ok h hi)
  rw [List.getD_eq_getElem?_getD, List.getElem?_eq_getElem hi, e] at this
  exact this
theorem via_nodup {ms : List Tu.R} {ls : List Lk.R} {now z : Int} (h : Ln.linksB ls = true) : (viaF ms ls now z).Nodup := by
  unfold viaF viaL; rw [List.take_length]; exact sub_nodup h _
theorem alw_nodup {ls : List Lk.R} {now : Int} (h : Ln.linksB ls = true) : (alwV ls now ls.length).Nodup := by
  unfold alwV; rw [List.take_length]; exact sub_nodup h _
theorem alw_rng {ls : List Lk.R} {now : Int} (h : Ln.linksB ls = true) : ∀ a ∈ alwV ls now ls.length, 1 ≤ a ∧ a ≤ 8 := by
  unfold alwV; rw [List.take_length]; exact sub_rng h _
/-- Those that alone reach one: who they are. -/
theorem one_mem {via : Int → List Int} {out : List Int} {z a : Int} : a ∈ oneS via out z ↔ a ∈ out ∨ ((via z).length = 1 ∧ a = (via z).getD 0 0) := by
  unfold oneS oneB
  by_cases h1 : (via z).length = 1
  · cases h2 : out.contains ((via z).getD 0 0)
    · rw [if_pos (by rw [h1]; rfl), List.mem_append, List.mem_singleton]
      exact ⟨fun h => h.imp id (fun e => ⟨h1, e⟩), fun h => h.imp id (fun e => e.2)⟩
    · rw [if_neg (by simp)]
      constructor
      · exact fun h => .inl h
      · rintro (h | ⟨_, rfl⟩)
        · exact h
        · exact List.contains_iff_mem.1 h2
  · rw [if_neg (by simp [h1])]
    exact ⟨fun h => .inl h, fun h => h.elim id (fun e => absurd e.1 h1)⟩
theorem ones_mem {via : Int → List Int} {a : Int} : ∀ {S out : List Int}, a ∈ onesV via S out ↔ a ∈ out ∨ ∃ z ∈ S, (via z).length = 1 ∧ a = (via z).getD 0 0
  | [], out => by simp [onesV]
  | z :: t, out => by
    have : onesV via (z :: t) out = onesV via t (oneS via out z) := rfl
    rw [this, ones_mem, one_mem]
    constructor
    · rintro ((h | h) | ⟨y, hy, h⟩)
      · exact .inl h
      · exact .inr ⟨z, by simp, h⟩
      · exact .inr ⟨y, by simp [hy], h⟩
    · rintro (h | ⟨y, hy, h⟩)
      · exact .inl (.inl h)
      · rcases List.mem_cons.1 hy with rfl | hy
        · exact .inl (.inr h)
        · exact .inr ⟨y, hy, h⟩
theorem one_nodup {via : Int → List Int} {out : List Int} {z : Int} (h : out.Nodup) : (oneS via out z).Nodup := by
  unfold oneS oneB
  split
  · rename_i h2
    rw [Bool.and_eq_true] at h2
    rw [List.nodup_append]
    refine ⟨h, by simp, fun a ha b hb e => ?_⟩
    rw [List.mem_singleton] at hb
    subst hb e
    have := h2.2
    rw [List.contains_iff_mem.2 ha] at this
    cases this
  · exact h
theorem ones_nodup {via : Int → List Int} : ∀ {S out : List Int}, out.Nodup → (onesV via S out).Nodup
  | [], out, h => h
  | z :: t, out, h => ones_nodup (S := t) (one_nodup h)
theorem lone_len {S : List Int} {via : Int → List Int} {i : Nat} (hn : (via i).Nodup) (hr : ∀ a ∈ via i, 1 ≤ a ∧ a ≤ 8) (hS : S.contains (i : Int) = true) : (strN (vB S via i) 8).length = (via i).length := by
  have h1 := sort_str hn hr
  have h2 := sort_len (via i) (via i).length (Nat.le_refl _)
  rw [List.take_length, h1] at h2
  rw [← h2]
  congr 1
  exact str_same (fun z _ _ => by unfold vB; rw [hS]; rfl)
theorem oB_iff {S : List Int} {via : Int → List Int} {a : Int} (hS : ∀ z ∈ S, 1 ≤ z ∧ z ≤ 8) (hn : ∀ z, (via z).Nodup) (hr : ∀ z, ∀ a ∈ via z, 1 ≤ a ∧ a ≤ 8) : oB S via 9 a = true ↔ ∃ z ∈ S, (via z).length = 1 ∧ a = (via z).getD 0 0 := by
  have key : ∀ z : Int, (via z).length = 1 → (a ∈ via z ↔ a = (via z).getD 0 0) := fun z h => by
    obtain ⟨b, hb⟩ := List.length_eq_one_iff.1 h
    rw [hb]; simp
  unfold oB
  rw [List.any_eq_true]
  constructor
  · rintro ⟨i, hi, h⟩
    rw [Bool.and_eq_true] at h
    have hv := h.2
    unfold vB at hv
    rw [Bool.and_eq_true] at hv
    have hl : (via i).length = 1 := by
      rw [← lone_len (hn i) (hr i) hv.1]
      have := h.1
      unfold lone at this
      exact eq_of_beq this
    exact ⟨i, List.contains_iff_mem.1 hv.1, hl, (key i hl).1 (List.contains_iff_mem.1 hv.2)⟩
  · rintro ⟨z, hz, hl, ha⟩
    have hz8 := hS z hz
    obtain ⟨i, rfl⟩ : ∃ i : Nat, z = (i : Int) := ⟨z.toNat, by omega⟩
    have hc := List.contains_iff_mem.2 hz
    refine ⟨i, List.mem_range.2 (by omega), ?_⟩
    rw [Bool.and_eq_true]
    refine ⟨?_, ?_⟩
    · unfold lone; rw [lone_len (hn _) (hr _) hc, hl]; rfl
    · unfold vB; rw [hc, List.contains_iff_mem.2 ((key _ hl).2 ha)]; rfl
/-- Groups of lists. -/
theorem gL_same {L M : List Int} (h : ∀ a, 1 ≤ a → a ≤ 8 → (a ∈ L ↔ a ∈ M)) : gL L = gL M := gN_congr (fun z h1 h2 => by
  rw [Bool.eq_iff_iff, List.contains_iff_mem, List.contains_iff_mem]; exact h z h1 h2)
theorem ones_group {S : List Int} {via : Int → List Int} {A : List Int} (hS : ∀ z ∈ S, 1 ≤ z ∧ z ≤ 8) (hn : ∀ z, (via z).Nodup) (hr : ∀ z, ∀ a ∈ via z, 1 ≤ a ∧ a ≤ 8) : bits .or .u16 (gL A : Int) (gN (oB S via 9) : Int) = (gL (onesV via S A) : Int) := by
  unfold gL; rw [or_int]; congr 1
  refine gN_congr (fun a _ _ => ?_)
  rw [Bool.eq_iff_iff, Bool.or_eq_true, List.contains_iff_mem, List.contains_iff_mem, oB_iff hS hn hr, ones_mem]
theorem left_group {S : List Int} {via : Int → List Int} {r : List Int} (hr : ∀ z, ∀ a ∈ via z, 1 ≤ a ∧ a ≤ 8) : bits .andNot .u16 (gL S : Int) (gN (reB S via (strN (fun a => r.contains a) 8)) : Int) = (gL (leftV via S r) : Int) := by
  unfold gL; rw [not_int]; congr 1
  refine gN_congr (fun z _ _ => ?_)
  rw [re_any (hr z), any_has, Bool.eq_iff_iff, List.contains_iff_mem]
  unfold leftV hitV
  rw [List.mem_filter, ← List.contains_iff_mem]
  cases S.contains z <;> simp
theorem left_sub {S : List Int} {via : Int → List Int} {r : List Int} {z : Int} (h : z ∈ leftV via S r) : z ∈ S := (List.mem_filter.1 h).1
theorem less_group {S : List Int} {via : Int → List Int} {r : List Int} {i : Nat} : bits .andNot .u16 (gL (leftV via S r) : Int) (rN S via i : Int) = (gL (leftV via S (r ++ [(i : Int)])) : Int) := by
  unfold gL rN; rw [not_int]; congr 1
  refine gN_congr (fun z _ _ => ?_)
  rw [left_app, Bool.eq_iff_iff, List.contains_iff_mem, List.mem_filter, Bool.and_eq_true, List.contains_iff_mem]
  unfold rB
  constructor
  · rintro ⟨h1, h2⟩
    rw [List.contains_iff_mem.2 (left_sub h1)] at h2
    exact ⟨h1, by simpa using h2⟩
  · rintro ⟨h1, h2⟩
    refine ⟨h1, ?_⟩
    rw [List.contains_iff_mem.2 (left_sub h1)]
    simpa using h2
/-- Gain and degree, counted by bits. -/
theorem gain_count {cd : Int → Bool} {via : Int → List Int} {r : List Int} {a : Int} : (strN (fun z => rB (strN cd 8) via a z && (leftV via (strN cd 8) r).contains z) 8).length = cntV via (leftV via (strN cd 8) r) a := by
  unfold cntV
  have e : leftV via (strN cd 8) r = strN (fun z => cd z && !hitV via r z) 8 := by unfold leftV; exact str_filter _ _ _
  rw [e, str_filter]
  congr 1
  refine str_same (fun z h1 h2 => ?_)
  have h3 : ∀ p : Int → Bool, (strN p 8).contains z = p z := fun p => by
    rw [Bool.eq_iff_iff, List.contains_iff_mem, str_mem]
    exact ⟨fun h => h.2.2, fun h => ⟨h1, h2, h⟩⟩
  unfold rB
  rw [h3, h3]
  cases cd z <;> cases (via z).contains a <;> cases hitV via r z <;> rfl
theorem deg_count {cd : Int → Bool} {via : Int → List Int} {a : Int} : (strN (rB (strN cd 8) via a) 8).length = cntV via (strN cd 8) a := by
  unfold cntV
  rw [str_filter]
  congr 1
  refine str_same (fun z h1 h2 => ?_)
  unfold rB
  have : (strN cd 8).contains z = cd z := by
    rw [Bool.eq_iff_iff, List.contains_iff_mem, str_mem]
    exact ⟨fun h => h.2.2, fun h => ⟨h1, h2, h⟩⟩
  rw [this]
/-- One that reaches some that are left is no relay yet. -/
theorem gain_new {via : Int → List Int} {S r : List Int} {a : Int} (h : 0 < cntV via (leftV via S r) a) : a ∉ r := by
  intro ha
  unfold cntV at h
  obtain ⟨z, hz⟩ := List.exists_mem_of_length_pos h
  rw [List.mem_filter] at hz
  have h2 := (List.mem_filter.1 hz.1).2
  unfold hitV at h2
  rw [List.any_eq_true.2 ⟨a, ha, hz.2⟩] at h2
  cases h2
theorem app_nodup {r : List Int} {a : Int} (h : r.Nodup) (ha : a ∉ r) : (r ++ [a]).Nodup := by
  rw [List.nodup_append]
  refine ⟨h, by simp, fun x hx y hy e => ?_⟩
  rw [List.mem_singleton] at hy
  subst hy e; exact ha hx
theorem gL_list {r : List Int} (hn : r.Nodup) (hr : ∀ a ∈ r, 1 ≤ a ∧ a ≤ 8) : strN (hasB (gL r)) 8 = sortV r := by
  rw [sort_str hn hr]
  refine str_same (fun z h1 h2 => ?_)
  unfold gL
  rw [has_gN]
  unfold inB
  rw [decide_eq_true h1, decide_eq_true h2]; rfl
theorem gL_zero {L : List Int} (h : ∀ z ∈ L, 1 ≤ z ∧ z ≤ 8) : gL L = 0 ↔ L.length = 0 := by
  unfold gL
  rw [gN_zero, str_zero, List.length_eq_zero_iff]
  constructor
  · intro hh
    cases L with
    | nil => rfl
    | cons x t =>
      have h1 := h x (by simp)
      have := hh x h1.1 h1.2
      simp at this
  · rintro rfl z _ _; rfl
end Gp
end Go.Proofs.Ytpknahhdapmcoac
namespace Go.Proofs.Ytpknahhdapmcoac
open Go.ChangeShapes Go.WideShapes Go.ChangeAt Go.RowKit
set_option linter.unusedVariables false
set_option linter.unusedSimpArgs false
attribute [local go_sem ↓] Go.wp_at_zero Go.wp_at_succ
namespace Gp
open W1 Tu St Tw Mr
set_option maxHeartbeats 1000000 in
theorem compare (x y : Int) (w : World) : Calls Try.prog 61 #[.int .i64 x, .int .i64 y] w fun e w' => e = .returned (.int .i64 (cmpV x y)) ∧ w' = w := by
  by_cases h1 : x < y
  · rw [show cmpV x y = -1 by unfold cmpV; rw [if_pos h1]]
    go_enter Try.func61, Try.ntmps61
    go_wp2
    go_ret
    exact ⟨rfl, rfl⟩
  by_cases h2 : y < x
  · rw [show cmpV x y = 1 by unfold cmpV; rw [if_neg h1, if_pos h2]]
    go_enter Try.func61, Try.ntmps61
    go_wp2
    go_ret
    exact ⟨rfl, rfl⟩
  · rw [show cmpV x y = 0 by unfold cmpV; rw [if_neg h1, if_neg h2]]
    go_enter Try.func61, Try.ntmps61
    go_wp2
    go_ret
    exact ⟨rfl, rfl⟩
theorem or_drop {zs : List Int} {j : Nat} (h : j < zs.length) : orV (zs.drop j) = if zs.getD j 0 = 0 then orV (zs.drop (j + 1)) else zs.getD j 0 := by
  rw [List.drop_eq_getElem_cons h, List.getD_eq_getElem?_getD, List.getElem?_eq_getElem h]; rfl
set_option maxHeartbeats 2000000 in
theorem cmpOr (a : Option Addr) (zs : List Int) (cap : Nat) (w : World) (hm : zs.length ≤ 64) (hr : In.RM w a zs) :
    Calls Try.prog 60 #[.slice a zs.length cap] w fun e w' => e = .returned (.int .i64 (orV zs)) ∧ w' = w := by
  have HR := hide hr
  clear hr
  generalize hN : zs.length = n at *
  have HN := hide hN
  clear hN
  go_enter Try.func60, Try.ntmps60
  go_wp2_with fail
  go_loopw [8] (fun i wr => w = wr ∧ ∃ j : Nat, j ≤ n ∧ i = .int .i64 j ∧ Hid (orV zs = orV (zs.drop j))) (fun i _ => n - (intOf i).toNat)
  case atStart => exact ⟨rfl, 0, by omega, rfl, hide rfl⟩
  case round =>
    obtain ⟨rfl, j, hj, rfl, ho⟩ := hrel
    by_cases hlt : (j : Int) < (n : Int)
    · have k0 : (0 : Int) ≤ (j : Int) := by omega
      have hlen : j < zs.length := by rw [unhide HN]; omega
      rcases unhide HR with e0 | ⟨g, off, rfl, hc⟩
      · exfalso; rw [e0] at hlen; simp at hlen
      have c0 := hc j hlen
      clear hc
      have HT := hide (or_drop hlen)
      generalize zs.getD j 0 = y at *
      by_cases hy : y = 0
      · have HE : Hid (orV zs = orV (zs.drop (j + 1))) := hide (by rw [unhide ho, unhide HT, if_pos hy])
        subst hy
        go_wp2_with fail
        go_roundw
        case rel => exact ⟨by first | trivial | rfl, j + 1, by omega, by go_num, HE⟩
        case measure => simp [intOf]; omega
      · have HE : Hid (y = orV zs) := hide (by rw [unhide ho, unhide HT, if_neg hy])
        have hy2 : (y != 0) = true := by simpa using hy
        go_wp2_with fail
        go_ret
        exact ⟨ret_int (unhide HE), rfl⟩
    · obtain rfl : j = n := by omega
      have HE : Hid (0 = orV zs) := hide (by have := unhide ho; rw [← unhide HN, List.drop_length] at this; exact this.symm)
      go_wp2_with fail
      go_ret
      exact ⟨ret_int (unhide HE), rfl⟩
theorem rm_new4 (w : World) (a b c d : Int) : In.RM (w.alloc (.cells #[.int .i64 a, .int .i64 b, .int .i64 c, .int .i64 d] 3)) (some ⟨w.heap.size, 0, none⟩) [a, b, c, d] := by
  refine .inr ⟨_, _, rfl, fun i hi => ?_⟩
  rw [World.cell?_alloc_new]
  match i, hi with
  | 0, _ | 1, _ | 2, _ | 3, _ => rfl
  | n + 4, h => simp at h; omega
theorem rm_new3 (w : World) (a b c : Int) : In.RM (w.alloc (.cells #[.int .i64 a, .int .i64 b, .int .i64 c] 3)) (some ⟨w.heap.size, 0, none⟩) [a, b, c] := by
  refine .inr ⟨_, _, rfl, fun i hi => ?_⟩
  rw [World.cell?_alloc_new]
  match i, hi with
  | 0, _ | 1, _ | 2, _ => rfl
  | n + 3, h => simp at h; omega
/-- Gain and degree as the program counts them. -/
def glB (S : List Int) (via : Int → List Int) (L : List Int) (a z : Int) : Bool := rB S via a z && L.contains z
def gnV (S : List Int) (via : Int → List Int) (L : List Int) (a : Int) : Int := ((strN (glB S via L a) 8).length : Int)
def dgV (S : List Int) (via : Int → List Int) (a : Int) : Int := ((strN (rB S via a) 8).length : Int)
theorem and_rL (S : List Int) (via : Int → List Int) (L : List Int) (q : Nat) : bits .and .u16 (rN S via q : Int) (gL L : Int) = (gN (glB S via L q) : Int) := and_int _ _
set_option maxRecDepth 100000 in
set_option maxHeartbeats 8000000 in
theorem byWorth (G lb : Nat) (s : Nat) (V : Nat → Nat) (S : List Int) (via : Int → List Int) (L : List Int) (x y : Lk.R) (w : World) (hx : 1 ≤ x.ad ∧ x.ad ≤ 8) (hy : 1 ≤ y.ad ∧ y.ad ≤ 8) (hg : GA w G s V (rN S via)) (hl : w.cell? ⟨lb, 0, none⟩ = some (.int .u16 (gL L))) :
    Calls Try.prog 59 #[x.value, y.value, .pointer (some ⟨G, 0, none⟩), .pointer (some ⟨lb, 0, none⟩)] w fun e w' => e = .returned (.int .i64 (worth (gnV S via L) (dgV S via) x y)) ∧ Below w.heap.size w w' := by
  have HG := hide hg
  have hlb := World.block_lt_of_cell? _ _ hl
  have HL := hide hl
  clear hg hl
  have e0 : worth (gnV S via L) (dgV S via) x y = orV [cmpV (gnV S via L x.ad) (gnV S via L y.ad), cmpV x.wl y.wl, cmpV (dgV S via x.ad) (dgV S via y.ad), cmpV y.ad x.ad] := rfl
  rw [e0]
  clear e0
  obtain ⟨xa, xh, xs, xi, xo, xw⟩ := x
  obtain ⟨ya, yh, ys, yi, yo, yw⟩ := y
  dsimp only at hx hy ⊢
  obtain ⟨qx, rfl⟩ : ∃ q : Nat, xa = (q : Int) := ⟨xa.toNat, by omega⟩
  obtain ⟨qy, rfl⟩ : ∃ q : Nat, ya = (q : Int) := ⟨ya.toNat, by omega⟩
  have hqx : qx < 9 := by omega
  have hqy : qy < 9 := by omega
  have qx0 : (0 : Int) ≤ (qx : Int) := by omega
  have qx9 : (qx : Int) < 9 := by omega
  have qy0 : (0 : Int) ≤ (qy : Int) := by omega
  have qy9 : (qy : Int) < 9 := by omega
  have hAx := and_rL S via L qx
  have hAy := and_rL S via L qy
  have HE1 : Hid (∀ q : Nat, rN S via q = gN (rB S via q)) := hide (fun _ => rfl)
  show Calls Try.prog 59 #[.agg #[.int .i64 (qx : Int), .int .i64 xh, .int .i64 xs, .int .i64 xi, .int .i64 xo, .int .i64 xw], .agg #[.int .i64 (qy : Int), .int .i64 yh, .int .i64 ys, .int .i64 yi, .int .i64 yo, .int .i64 yw], .pointer (some ⟨G, 0, none⟩), .pointer (some ⟨lb, 0, none⟩)] w _
  have HBx := hide (Ln.bx_new w ⟨(qx : Int), xh, xs, xi, xo, xw⟩ 30)
  have HBy := hide (Ln.bx_new (w.alloc (.cells #[.int .i64 (qx : Int), .int .i64 xh, .int .i64 xs, .int .i64 xi, .int .i64 xo, .int .i64 xw] 30)) ⟨(qy : Int), yh, ys, yi, yo, yw⟩ 30)
  have P1 := hide ((Below.refl w.heap.size w).alloc (Nat.le_refl _) (.cells #[.int .i64 (qx : Int), .int .i64 xh, .int .i64 xs, .int .i64 xi, .int .i64 xo, .int .i64 xw] 30))
  have P2 := hide ((unhide P1).alloc (unhide P1).size (.cells #[.int .i64 (qy : Int), .int .i64 yh, .int .i64 ys, .int .i64 yi, .int .i64 yo, .int .i64 yw] 30))
  go_enter Try.func59, Try.ntmps59
  go_wp2_with fail
  have HG2 := hide ((unhide HG).below (unhide P2))
  have HL2 : Hid (((w.alloc (.cells #[.int .i64 (qx : Int), .int .i64 xh, .int .i64 xs, .int .i64 xi, .int .i64 xo, .int .i64 xw] 30)).alloc (.cells #[.int .i64 (qy : Int), .int .i64 yh, .int .i64 ys, .int .i64 yi, .int .i64 yo, .int .i64 yw] 30)).cell? ⟨lb, 0, none⟩ = some (.int .u16 (gL L))) := hide (((unhide P2).cell (p := ⟨lb, 0, none⟩) hlb).trans (unhide HL))
  have HX2 := hide ((unhide HBx).below ((Below.refl _ _).alloc (Nat.le_refl _) (.cells #[.int .i64 (qy : Int), .int .i64 yh, .int .i64 ys, .int .i64 yi, .int .i64 yo, .int .i64 yw] 30)))
  rw [World.size_alloc] at HBy
  generalize hw2 : (w.alloc (.cells #[.int .i64 (qx : Int), .int .i64 xh, .int .i64 xs, .int .i64 xi, .int .i64 xo, .int .i64 xw] 30)).alloc (.cells #[.int .i64 (qy : Int), .int .i64 yh, .int .i64 ys, .int .i64 yi, .int .i64 yo, .int .i64 yw] 30) = w2 at *
  clear hw2 P1 HBx HG HL
  have HS : Hid (∀ w', Below w2.heap.size w2 w' → w'.cell? ⟨w.heap.size, 0, none⟩ = some (.int .i64 (qx : Int)) ∧ w'.cell? ⟨w.heap.size, 5, none⟩ = some (.int .i64 xw) ∧ w'.cell? ⟨w.heap.size + 1, 0, none⟩ = some (.int .i64 (qy : Int)) ∧ w'.cell? ⟨w.heap.size + 1, 5, none⟩ = some (.int .i64 yw) ∧ w'.cell? ⟨G, 10 + qx, none⟩ = some (.int .u16 (rN S via qx)) ∧ w'.cell? ⟨G, 10 + qy, none⟩ = some (.int .u16 (rN S via qy)) ∧ w'.cell? ⟨lb, 0, none⟩ = some (.int .u16 (gL L))) := hide (fun w' hb => by
    obtain ⟨x0, x1, x2, x3, x4, x5⟩ := (unhide HX2).below hb
    obtain ⟨y0, y1, y2, y3, y4, y5⟩ := (unhide HBy).below hb
    have h2 := hb.cell (p := ⟨lb, 0, none⟩) (World.block_lt_of_cell? _ _ (unhide HL2))
    exact ⟨x0, x5, y0, y5, (((unhide HG2).below hb).r hqx).1, (((unhide HG2).below hb).r hqy).1, h2.trans (unhide HL2)⟩)
  clear HX2 HBy HG2 HL2
  have hRx := unhide HE1 qx
  have hRy := unhide HE1 qy
  have egx : gnV S via L (qx : Int) = ((strN (glB S via L qx) 8).length : Int) := rfl
  have egy : gnV S via L (qy : Int) = ((strN (glB S via L qy) 8).length : Int) := rfl
  have edx : dgV S via (qx : Int) = ((strN (rB S via qx) 8).length : Int) := rfl
  have edy : dgV S via (qy : Int) = ((strN (rB S via qy) 8).length : Int) := rfl
  have HGX := hide egx
  have HGY := hide egy
  have HDX := hide edx
  have HDY := hide edy
  have HRX := hide hRx
  have HRY := hide hRy
  clear egx egy edx edy hRx hRy HE1
  have B2 : Below w2.heap.size w2 w2.drew := (Below.refl _ _).drew
  refine wp_region_noPanic ?_
  refine wp_region_held_drew (S := fun w' => w'.cell? ⟨w.heap.size, 0, none⟩ = some (.int .i64 (qx : Int)) ∧ w'.cell? ⟨w.heap.size, 5, none⟩ = some (.int .i64 xw) ∧ w'.cell? ⟨w.heap.size + 1, 0, none⟩ = some (.int .i64 (qy : Int)) ∧ w'.cell? ⟨w.heap.size + 1, 5, none⟩ = some (.int .i64 yw) ∧ w'.cell? ⟨G, 10 + qx, none⟩ = some (.int .u16 (rN S via qx)) ∧ w'.cell? ⟨G, 10 + qy, none⟩ = some (.int .u16 (rN S via qy)) ∧ w'.cell? ⟨lb, 0, none⟩ = some (.int .u16 (gL L))) (by kernel_rfl) (unhide HS _ B2) (fun hHeld => ?_)
  (refine Rg.tk (i := 0) (d := 7) (v := ?_) rfl rfl (by kernel_rfl) (by kernel_rfl) (by kernel_rfl) (fun _ _ _ h => h) (by rfl) ?_ (by assumption) ?_; rotate_left; (focus (intro w0 hSw; (try dsimp only at hSw); go_simp; (try with_reducible rfl))); (try simp only [Act.put, List.setIfInBounds_toArray, List.set_cons_zero, List.set_cons_succ]))
  (refine Rg.tk (i := 1) (d := 8) (v := ?_) rfl rfl (by kernel_rfl) (by kernel_rfl) (by kernel_rfl) (fun _ _ _ h => h) (by rfl) ?_ (by assumption) ?_; rotate_left; (focus (intro w0 hSw; (try dsimp only at hSw); go_simp; (try with_reducible rfl))); (try simp only [Act.put, List.setIfInBounds_toArray, List.set_cons_zero, List.set_cons_succ]))
  (refine Rg.tk (i := 2) (d := 9) (v := ?_) rfl rfl (by kernel_rfl) (by kernel_rfl) (by kernel_rfl) (fun _ _ _ h => h) (by rfl) ?_ (by assumption) ?_; rotate_left; (focus (intro w0 hSw; (try dsimp only at hSw); go_simp; (try with_reducible rfl))); (try simp only [Act.put, List.setIfInBounds_toArray, List.set_cons_zero, List.set_cons_succ]))
  (refine Rg.tk (i := 3) (d := 10) (v := ?_) rfl rfl (by kernel_rfl) (by kernel_rfl) (by kernel_rfl) (fun _ _ _ h => h) (by rfl) ?_ (by assumption) ?_; rotate_left; (focus (intro w0 hSw; (try dsimp only at hSw); go_simp; (try with_reducible rfl))); (try simp only [Act.put, List.setIfInBounds_toArray, List.set_cons_zero, List.set_cons_succ]))
  (refine Rg.tk (i := 4) (d := 11) (v := ?_) rfl rfl (by kernel_rfl) (by kernel_rfl) (by kernel_rfl) (fun _ _ _ h => h) (by rfl) ?_ (by assumption) ?_; rotate_left; (focus (intro w0 hSw; (try dsimp only at hSw); go_simp; (try with_reducible rfl))); (try simp only [Act.put, List.setIfInBounds_toArray, List.set_cons_zero, List.set_cons_succ]))
  (refine Rg.tk (i := 5) (d := 12) (v := ?_) rfl rfl (by kernel_rfl) (by kernel_rfl) (by kernel_rfl) (fun _ _ _ h => h) (by rfl) ?_ (by assumption) ?_; rotate_left; (focus (intro w0 hSw; (try dsimp only at hSw); go_simp; (try with_reducible rfl))); (try simp only [Act.put, List.setIfInBounds_toArray, List.set_cons_zero, List.set_cons_succ]))
  (refine Rg.tk (i := 6) (d := 13) (v := ?_) rfl rfl (by kernel_rfl) (by kernel_rfl) (by kernel_rfl) (fun _ _ _ h => h) (by rfl) ?_ (by assumption) ?_; rotate_left; (focus (intro w0 hSw; (try dsimp only at hSw); go_simp; (try with_reducible rfl))); (try simp only [Act.put, List.setIfInBounds_toArray, List.set_cons_zero, List.set_cons_succ]))
  (refine Rg.tk (i := 8) (d := 15) (v := ?_) rfl rfl (by kernel_rfl) (by kernel_rfl) (by kernel_rfl) (fun _ _ _ h => h) (by rfl) ?_ (by assumption) ?_; rotate_left; (focus (intro w0 hSw; (try dsimp only at hSw); go_simp; (try with_reducible rfl))); (try simp only [Act.put, List.setIfInBounds_toArray, List.set_cons_zero, List.set_cons_succ]))
  (refine Rg.tk (i := 9) (d := 16) (v := ?_) rfl rfl (by kernel_rfl) (by kernel_rfl) (by kernel_rfl) (fun _ _ _ h => h) (by rfl) ?_ (by assumption) ?_; rotate_left; (focus (intro w0 hSw; (try dsimp only at hSw); go_simp; (try with_reducible rfl))); (try simp only [Act.put, List.setIfInBounds_toArray, List.set_cons_zero, List.set_cons_succ]))
  (refine Rg.tk (i := 10) (d := 17) (v := ?_) rfl rfl (by kernel_rfl) (by kernel_rfl) (by kernel_rfl) (fun _ _ _ h => h) (by rfl) ?_ (by assumption) ?_; rotate_left; (focus (intro w0 hSw; (try dsimp only at hSw); go_simp; (try with_reducible rfl))); (try simp only [Act.put, List.setIfInBounds_toArray, List.set_cons_zero, List.set_cons_succ]))
  (refine Rg.tk (i := 11) (d := 18) (v := ?_) rfl rfl (by kernel_rfl) (by kernel_rfl) (by kernel_rfl) (fun _ _ _ h => h) (by rfl) ?_ (by assumption) ?_; rotate_left; (focus (intro w0 hSw; (try dsimp only at hSw); go_simp; (try with_reducible rfl))); (try simp only [Act.put, List.setIfInBounds_toArray, List.set_cons_zero, List.set_cons_succ]))
  (refine Rg.tk (i := 12) (d := 19) (v := ?_) rfl rfl (by kernel_rfl) (by kernel_rfl) (by kernel_rfl) (fun _ _ _ h => h) (by rfl) ?_ (by assumption) ?_; rotate_left; (focus (intro w0 hSw; (try dsimp only at hSw); go_simp; (try with_reducible rfl))); (try simp only [Act.put, List.setIfInBounds_toArray, List.set_cons_zero, List.set_cons_succ]))
  (refine Rg.tk (i := 13) (d := 20) (v := ?_) rfl rfl (by kernel_rfl) (by kernel_rfl) (by kernel_rfl) (fun _ _ _ h => h) (by rfl) ?_ (by assumption) ?_; rotate_left; (focus (intro w0 hSw; (try dsimp only at hSw); go_simp; (try with_reducible rfl))); (try simp only [Act.put, List.setIfInBounds_toArray, List.set_cons_zero, List.set_cons_succ]))
  (refine Rg.tk (i := 14) (d := 21) (v := ?_) rfl rfl (by kernel_rfl) (by kernel_rfl) (by kernel_rfl) (fun _ _ _ h => h) (by rfl) ?_ (by assumption) ?_; rotate_left; (focus (intro w0 hSw; (try dsimp only at hSw); go_simp; (try with_reducible rfl))); (try simp only [Act.put, List.setIfInBounds_toArray, List.set_cons_zero, List.set_cons_succ]))
  (refine Rg.tk (i := 17) (d := 24) (v := ?_) rfl rfl (by kernel_rfl) (by kernel_rfl) (by kernel_rfl) (fun _ _ _ h => h) (by rfl) ?_ (by assumption) ?_; rotate_left; (focus (intro w0 hSw; (try dsimp only at hSw); go_simp; (try with_reducible rfl))); (try simp only [Act.put, List.setIfInBounds_toArray, List.set_cons_zero, List.set_cons_succ]))
  (refine Rg.tk (i := 18) (d := 25) (v := ?_) rfl rfl (by kernel_rfl) (by kernel_rfl) (by kernel_rfl) (fun _ _ _ h => h) (by rfl) ?_ (by assumption) ?_; rotate_left; (focus (intro w0 hSw; (try dsimp only at hSw); go_simp; (try with_reducible rfl))); (try simp only [Act.put, List.setIfInBounds_toArray, List.set_cons_zero, List.set_cons_succ]))
  (refine Rg.tk (i := 19) (d := 26) (v := ?_) rfl rfl (by kernel_rfl) (by kernel_rfl) (by kernel_rfl) (fun _ _ _ h => h) (by rfl) ?_ (by assumption) ?_; rotate_left; (focus (intro w0 hSw; (try dsimp only at hSw); go_simp; (try with_reducible rfl))); (try simp only [Act.put, List.setIfInBounds_toArray, List.set_cons_zero, List.set_cons_succ]))
  (refine Rg.tk (i := 20) (d := 27) (v := ?_) rfl rfl (by kernel_rfl) (by kernel_rfl) (by kernel_rfl) (fun _ _ _ h => h) (by rfl) ?_ (by assumption) ?_; rotate_left; (focus (intro w0 hSw; (try dsimp only at hSw); go_simp; (try with_reducible rfl))); (try simp only [Act.put, List.setIfInBounds_toArray, List.set_cons_zero, List.set_cons_succ]))
  (refine Rg.tk (i := 22) (d := 29) (v := ?_) rfl rfl (by kernel_rfl) (by kernel_rfl) (by kernel_rfl) (fun _ _ _ h => h) (by rfl) ?_ (by assumption) ?_; rotate_left; (focus (intro w0 hSw; (try dsimp only at hSw); go_simp; (try with_reducible rfl))); (try simp only [Act.put, List.setIfInBounds_toArray, List.set_cons_zero, List.set_cons_succ]))
  (refine Rg.tk (i := 23) (d := 30) (v := ?_) rfl rfl (by kernel_rfl) (by kernel_rfl) (by kernel_rfl) (fun _ _ _ h => h) (by rfl) ?_ (by assumption) ?_; rotate_left; (focus (intro w0 hSw; (try dsimp only at hSw); go_simp; (try with_reducible rfl))); (try simp only [Act.put, List.setIfInBounds_toArray, List.set_cons_zero, List.set_cons_succ]))
  (refine Rg.tk (i := 24) (d := 31) (v := ?_) rfl rfl (by kernel_rfl) (by kernel_rfl) (by kernel_rfl) (fun _ _ _ h => h) (by rfl) ?_ (by assumption) ?_; rotate_left; (focus (intro w0 hSw; (try dsimp only at hSw); go_simp; (try with_reducible rfl))); (try simp only [Act.put, List.setIfInBounds_toArray, List.set_cons_zero, List.set_cons_succ]))
  (refine Rg.tk (i := 25) (d := 32) (v := ?_) rfl rfl (by kernel_rfl) (by kernel_rfl) (by kernel_rfl) (fun _ _ _ h => h) (by rfl) ?_ (by assumption) ?_; rotate_left; (focus (intro w0 hSw; (try dsimp only at hSw); go_simp; (try with_reducible rfl))); (try simp only [Act.put, List.setIfInBounds_toArray, List.set_cons_zero, List.set_cons_succ]))
  (refine Rg.tk (i := 26) (d := 33) (v := ?_) rfl rfl (by kernel_rfl) (by kernel_rfl) (by kernel_rfl) (fun _ _ _ h => h) (by rfl) ?_ (by assumption) ?_; rotate_left; (focus (intro w0 hSw; (try dsimp only at hSw); go_simp; (try with_reducible rfl))); (try simp only [Act.put, List.setIfInBounds_toArray, List.set_cons_zero, List.set_cons_succ]))
  (refine Rg.tk (i := 28) (d := 35) (v := ?_) rfl rfl (by kernel_rfl) (by kernel_rfl) (by kernel_rfl) (fun _ _ _ h => h) (by rfl) ?_ (by assumption) ?_; rotate_left; (focus (intro w0 hSw; (try dsimp only at hSw); go_simp; (try with_reducible rfl))); (try simp only [Act.put, List.setIfInBounds_toArray, List.set_cons_zero, List.set_cons_succ]))
  (refine Rg.tk (i := 29) (d := 36) (v := ?_) rfl rfl (by kernel_rfl) (by kernel_rfl) (by kernel_rfl) (fun _ _ _ h => h) (by rfl) ?_ (by assumption) ?_; rotate_left; (focus (intro w0 hSw; (try dsimp only at hSw); go_simp; (try with_reducible rfl))); (try simp only [Act.put, List.setIfInBounds_toArray, List.set_cons_zero, List.set_cons_succ]))
  (refine Rg.tk (i := 30) (d := 37) (v := ?_) rfl rfl (by kernel_rfl) (by kernel_rfl) (by kernel_rfl) (fun _ _ _ h => h) (by rfl) ?_ (by assumption) ?_; rotate_left; (focus (intro w0 hSw; (try dsimp only at hSw); go_simp; (try with_reducible rfl))); (try simp only [Act.put, List.setIfInBounds_toArray, List.set_cons_zero, List.set_cons_succ]))
  (refine Rg.tk (i := 31) (d := 38) (v := ?_) rfl rfl (by kernel_rfl) (by kernel_rfl) (by kernel_rfl) (fun _ _ _ h => h) (by rfl) ?_ (by assumption) ?_; rotate_left; (focus (intro w0 hSw; (try dsimp only at hSw); go_simp; (try with_reducible rfl))); (try simp only [Act.put, List.setIfInBounds_toArray, List.set_cons_zero, List.set_cons_succ]))
  (refine Rg.tk (i := 32) (d := 39) (v := ?_) rfl rfl (by kernel_rfl) (by kernel_rfl) (by kernel_rfl) (fun _ _ _ h => h) (by rfl) ?_ (by assumption) ?_; rotate_left; (focus (intro w0 hSw; (try dsimp only at hSw); go_simp; (try with_reducible rfl))); (try simp only [Act.put, List.setIfInBounds_toArray, List.set_cons_zero, List.set_cons_succ]))
  (refine Rg.tk (i := 35) (d := 42) (v := ?_) rfl rfl (by kernel_rfl) (by kernel_rfl) (by kernel_rfl) (fun _ _ _ h => h) (by rfl) ?_ (by assumption) ?_; rotate_left; (focus (intro w0 hSw; (try dsimp only at hSw); go_simp; (try with_reducible rfl))); (try simp only [Act.put, List.setIfInBounds_toArray, List.set_cons_zero, List.set_cons_succ]))
  (refine Rg.tk (i := 36) (d := 43) (v := ?_) rfl rfl (by kernel_rfl) (by kernel_rfl) (by kernel_rfl) (fun _ _ _ h => h) (by rfl) ?_ (by assumption) ?_; rotate_left; (focus (intro w0 hSw; (try dsimp only at hSw); go_simp; (try with_reducible rfl))); (try simp only [Act.put, List.setIfInBounds_toArray, List.set_cons_zero, List.set_cons_succ]))
  (refine Rg.tk (i := 37) (d := 44) (v := ?_) rfl rfl (by kernel_rfl) (by kernel_rfl) (by kernel_rfl) (fun _ _ _ h => h) (by rfl) ?_ (by assumption) ?_; rotate_left; (focus (intro w0 hSw; (try dsimp only at hSw); go_simp; (try with_reducible rfl))); (try simp only [Act.put, List.setIfInBounds_toArray, List.set_cons_zero, List.set_cons_succ]))
  (refine Rg.tk (i := 38) (d := 45) (v := ?_) rfl rfl (by kernel_rfl) (by kernel_rfl) (by kernel_rfl) (fun _ _ _ h => h) (by rfl) ?_ (by assumption) ?_; rotate_left; (focus (intro w0 hSw; (try dsimp only at hSw); go_simp; (try with_reducible rfl))); (try simp only [Act.put, List.setIfInBounds_toArray, List.set_cons_zero, List.set_cons_succ]))
  (refine wpAnyH_ready (rs := [7]) (by kernel_rfl) (by simp) ?_; refine AllReadyH.cons (o := _) rfl (fun K hK => ?_) AllReadyH.nil; go_simp)
  refine (count _ _).mono ?_
  rintro e v3 ⟨rfl, m3, hv3⟩
  have B3 : Below w2.heap.size w2 v3 := by rw [hv3]; exact B2.trans ((below_dN' _ m3).mono B2.size)
  clear hv3 hHeld
  refine hK.out _ _ (unhide HS _ B3) (fun hHeld => ?_)
  clear hK K
  (try simp only [Act.put, List.setIfInBounds_toArray, List.set_cons_zero, List.set_cons_succ])
  (refine wpAnyH_ready (rs := [15]) (by kernel_rfl) (by simp) ?_; refine AllReadyH.cons (o := _) rfl (fun K hK => ?_) AllReadyH.nil; go_simp)
  refine (count _ _).mono ?_
  rintro e v4 ⟨rfl, m4, hv4⟩
  have B4 : Below w2.heap.size w2 v4 := by rw [hv4]; exact B3.trans ((below_dN' _ m4).mono B3.size)
  clear hv4 hHeld
  refine hK.out _ _ (unhide HS _ B4) (fun hHeld => ?_)
  clear hK K
  (try simp only [Act.put, List.setIfInBounds_toArray, List.set_cons_zero, List.set_cons_succ])
  (refine wpAnyH_ready (rs := [16]) (by kernel_rfl) (by simp) ?_; refine AllReadyH.cons (o := _) rfl (fun K hK => ?_) AllReadyH.nil; go_simp)
  refine (compare _ _ _).mono ?_
  rintro e v5 ⟨rfl, hv5⟩
  have B5 : Below w2.heap.size w2 v5 := by rw [hv5]; exact B4
  clear hv5 hHeld
  refine hK.out _ _ (unhide HS _ B5) (fun hHeld => ?_)
  clear hK K
  (try simp only [Act.put, List.setIfInBounds_toArray, List.set_cons_zero, List.set_cons_succ])
  (refine wpAnyH_ready (rs := [21]) (by kernel_rfl) (by simp) ?_; refine AllReadyH.cons (o := _) rfl (fun K hK => ?_) AllReadyH.nil; go_simp)
  refine (compare _ _ _).mono ?_
  rintro e v6 ⟨rfl, hv6⟩
  have B6 : Below w2.heap.size w2 v6 := by rw [hv6]; exact B5
  clear hv6 hHeld
  refine hK.out _ _ (unhide HS _ B6) (fun hHeld => ?_)
  clear hK K
  (try simp only [Act.put, List.setIfInBounds_toArray, List.set_cons_zero, List.set_cons_succ])
  (refine wpAnyH_ready (rs := [27]) (by kernel_rfl) (by simp) ?_; refine AllReadyH.cons (o := _) rfl (fun K hK => ?_) AllReadyH.nil; go_simp)
  refine (count (rB S via qx) _).mono ?_
  rintro e v7 ⟨rfl, m7, hv7⟩
  have B7 : Below w2.heap.size w2 v7 := by rw [hv7]; exact B6.trans ((below_dN' _ m7).mono B6.size)
  clear hv7 hHeld
  refine hK.out _ _ (unhide HS _ B7) (fun hHeld => ?_)
  clear hK K
  (try simp only [Act.put, List.setIfInBounds_toArray, List.set_cons_zero, List.set_cons_succ])
  (refine wpAnyH_ready (rs := [33]) (by kernel_rfl) (by simp) ?_; refine AllReadyH.cons (o := _) rfl (fun K hK => ?_) AllReadyH.nil; go_simp)
  refine (count (rB S via qy) _).mono ?_
  rintro e v8 ⟨rfl, m8, hv8⟩
  have B8 : Below w2.heap.size w2 v8 := by rw [hv8]; exact B7.trans ((below_dN' _ m8).mono B7.size)
  clear hv8 hHeld
  refine hK.out _ _ (unhide HS _ B8) (fun hHeld => ?_)
  clear hK K
  (try simp only [Act.put, List.setIfInBounds_toArray, List.set_cons_zero, List.set_cons_succ])
  (refine wpAnyH_ready (rs := [34]) (by kernel_rfl) (by simp) ?_; refine AllReadyH.cons (o := _) rfl (fun K hK => ?_) AllReadyH.nil; go_simp)
  refine (compare _ _ _).mono ?_
  rintro e v9 ⟨rfl, hv9⟩
  have B9 : Below w2.heap.size w2 v9 := by rw [hv9]; exact B8
  clear hv9 hHeld
  refine hK.out _ _ (unhide HS _ B9) (fun hHeld => ?_)
  clear hK K
  (try simp only [Act.put, List.setIfInBounds_toArray, List.set_cons_zero, List.set_cons_succ])
  (refine wpAnyH_ready (rs := [39]) (by kernel_rfl) (by simp) ?_; refine AllReadyH.cons (o := _) rfl (fun K hK => ?_) AllReadyH.nil; go_simp)
  refine (compare _ _ _).mono ?_
  rintro e v10 ⟨rfl, hv10⟩
  have B10 : Below w2.heap.size w2 v10 := by rw [hv10]; exact B9
  clear hv10 hHeld
  refine hK.out _ _ (unhide HS _ B10) (fun hHeld => ?_)
  clear hK K
  (try simp only [Act.put, List.setIfInBounds_toArray, List.set_cons_zero, List.set_cons_succ])
  (refine wpAnyH_ready (rs := [40]) (by kernel_rfl) (by simp) ?_; refine AllReadyH.cons (o := _) rfl (fun K hK => ?_) AllReadyH.nil; go_simp)
  have B11 := B10.alloc B10.size (.cells #[.int .i64 (cmpV (strN (glB S via L qx) 8).length (strN (glB S via L qy) 8).length), .int .i64 (cmpV xw yw), .int .i64 (cmpV (strN (rB S via qx) 8).length (strN (rB S via qy) 8).length), .int .i64 (cmpV (qy : Int) (qx : Int))] 3)
  have HRN := hide (rm_new4 v10 (cmpV (strN (glB S via L qx) 8).length (strN (glB S via L qy) 8).length) (cmpV xw yw) (cmpV (strN (rB S via qx) 8).length (strN (rB S via qy) 8).length) (cmpV (qy : Int) (qx : Int)))
  clear hHeld
  refine hK.out _ _ (unhide HS _ B11) (fun hHeld => ?_)
  clear hK K
  (try simp only [Act.put, List.setIfInBounds_toArray, List.set_cons_zero, List.set_cons_succ])
  (refine wpAnyH_ready (rs := [41]) (by kernel_rfl) (by simp) ?_; refine AllReadyH.cons (o := _) rfl (fun K hK => ?_) AllReadyH.nil; go_simp)
  refine (cmpOr _ [_, _, _, _] _ _ (by simp) (unhide HRN)).mono ?_
  rintro e v12 ⟨rfl, hv12⟩
  have B12 : Below w2.heap.size w2 v12 := by rw [hv12]; exact B11
  clear hv12 hHeld
  refine hK.out _ _ (unhide HS _ B12) (fun hHeld => ?_)
  clear hK K
  (try simp only [Act.put, List.setIfInBounds_toArray, List.set_cons_zero, List.set_cons_succ])
  (refine Rg.tk (i := 42) (d := 6) (v := ?_) rfl rfl (by kernel_rfl) (by kernel_rfl) (by kernel_rfl) (fun _ _ _ h => h) (by rfl) ?_ (by assumption) ?_; rotate_left; (focus (intro w0 hSw; (try dsimp only at hSw); go_simp; (try with_reducible rfl))); (try simp only [Act.put, List.setIfInBounds_toArray, List.set_cons_zero, List.set_cons_succ]))
  refine wpAnyH_done (by kernel_rfl) (NoPanic.normal ?_) _
  clear hHeld
  have HBF := hide ((unhide P2).trans (B12.mono (unhide P2).size))
  have HRF : Hid (orV [cmpV (strN (glB S via L qx) 8).length (strN (glB S via L qy) 8).length, cmpV xw yw, cmpV (strN (rB S via qx) 8).length (strN (rB S via qy) 8).length, cmpV (qy : Int) (qx : Int)] = orV [cmpV (gnV S via L (qx : Int)) (gnV S via L (qy : Int)), cmpV xw yw, cmpV (dgV S via (qx : Int)) (dgV S via (qy : Int)), cmpV (qy : Int) (qx : Int)]) := hide rfl
  go_wp2_with fail
  go_ret
  exact ⟨ret_int (unhide HRF), unhide HBF⟩
end Gp
end Go.Proofs.Ytpknahhdapmcoac
namespace Go.Proofs.Ytpknahhdapmcoac
open Go.ChangeShapes Go.WideShapes Go.ChangeAt Go.RowKit
set_option linter.unusedVariables false
set_option linter.unusedSimpArgs false
attribute [local go_sem ↓] Go.wp_at_zero Go.wp_at_succ
namespace Gp
open W1 Tu St Tw Mr
/-- A link in a block of its own, which may be written. -/
def BF (w : World) (b : Nat) (m : Lk.R) : Prop := (w.cell? ⟨b, 0, none⟩ = some (.int .i64 m.ad) ∧ w.cell? ⟨b, 1, none⟩ = some (.int .i64 m.hd) ∧ w.cell? ⟨b, 2, none⟩ = some (.int .i64 m.sy) ∧ w.cell? ⟨b, 3, none⟩ = some (.int .i64 m.ci) ∧ w.cell? ⟨b, 4, none⟩ = some (.int .i64 m.co) ∧ w.cell? ⟨b, 5, none⟩ = some (.int .i64 m.wl)) ∧ ∀ k, w.frozen? ⟨b, k, none⟩ = false
theorem BF.lt {w : World} {b : Nat} {m : Lk.R} (h : BF w b m) : b < w.heap.size := World.block_lt_of_cell? _ _ h.1.1
theorem BF.under {w w' : World} {B b : Nat} {m : Lk.R} (h : BF w b m) (hb : Below B w w') (hg : b < B) : BF w' b m := by
  obtain ⟨⟨h0, h1, h2, h3, h4, h5⟩, hf⟩ := h
  exact ⟨⟨(hb.cell (p := ⟨b, 0, none⟩) hg).trans h0, (hb.cell (p := ⟨b, 1, none⟩) hg).trans h1, (hb.cell (p := ⟨b, 2, none⟩) hg).trans h2, (hb.cell (p := ⟨b, 3, none⟩) hg).trans h3, (hb.cell (p := ⟨b, 4, none⟩) hg).trans h4, (hb.cell (p := ⟨b, 5, none⟩) hg).trans h5⟩, fun k => (hb.frozen (p := ⟨b, k, none⟩) hg).trans (hf k)⟩
theorem BF.below {w w' : World} {b : Nat} {m : Lk.R} (h : BF w b m) (hb : Below w.heap.size w w') : BF w' b m := h.under hb h.lt
theorem bf_new (w : World) (m : Lk.R) (t : Nat) : BF (w.alloc (.cells #[.int .i64 m.ad, .int .i64 m.hd, .int .i64 m.sy, .int .i64 m.ci, .int .i64 m.co, .int .i64 m.wl] t)) w.heap.size m := by
  have hb : (w.alloc (.cells #[.int .i64 m.ad, .int .i64 m.hd, .int .i64 m.sy, .int .i64 m.ci, .int .i64 m.co, .int .i64 m.wl] t)).heap[w.heap.size]? = some (.cells #[.int .i64 m.ad, .int .i64 m.hd, .int .i64 m.sy, .int .i64 m.ci, .int .i64 m.co, .int .i64 m.wl] t) := heap_alloc_last w _
  refine ⟨⟨?_, ?_, ?_, ?_, ?_, ?_⟩, fun k => ?_⟩
  · rw [World.cell?_alloc_new]; rfl
  · rw [World.cell?_alloc_new]; rfl
  · rw [World.cell?_alloc_new]; rfl
  · rw [World.cell?_alloc_new]; rfl
  · rw [World.cell?_alloc_new]; rfl
  · rw [World.cell?_alloc_new]; rfl
  · unfold World.frozen?
    simp only [hb]
    simp
theorem BF.put {w : World} {b : Nat} {m : Lk.R} (h : BF w b m) (x : Lk.R) : BF (Lk.put w b 0 x) b x := by
  obtain ⟨⟨h0, h1, h2, h3, h4, h5⟩, hf⟩ := h
  have ha : Lk.At (Lk.put w b 0 x) b 0 x := Lk.put_at w b 0 x (fun k hk => by
    rw [Nat.zero_add]
    match k, hk with
    | 0, _ => rw [h0]; rfl
    | 1, _ => rw [h1]; rfl
    | 2, _ => rw [h2]; rfl
    | 3, _ => rw [h3]; rfl
    | 4, _ => rw [h4]; rfl
    | 5, _ => rw [h5]; rfl
    | n + 6, h => omega)
  exact ⟨ha, fun k => by rw [Lk.put_frozen]; exact hf k⟩
theorem put_eq (W : World) (b : Nat) (x : Lk.R) : Lk.put W b 0 x = (((((W.setCell ⟨b, 0, none⟩ (.int .i64 x.ad)).setCell ⟨b, 1, none⟩ (.int .i64 x.hd)).setCell ⟨b, 2, none⟩ (.int .i64 x.sy)).setCell ⟨b, 3, none⟩ (.int .i64 x.ci)).setCell ⟨b, 4, none⟩ (.int .i64 x.co)).setCell ⟨b, 5, none⟩ (.int .i64 x.wl) := by
  unfold Lk.put; simp only [Nat.zero_add]
theorem BF.put6 {W : World} {b : Nat} {m : Lk.R} (h : BF W b m) (x : Lk.R) : BF ((((((W.setCell ⟨b, 0, none⟩ (.int .i64 x.ad)).setCell ⟨b, 1, none⟩ (.int .i64 x.hd)).setCell ⟨b, 2, none⟩ (.int .i64 x.sy)).setCell ⟨b, 3, none⟩ (.int .i64 x.ci)).setCell ⟨b, 4, none⟩ (.int .i64 x.co)).setCell ⟨b, 5, none⟩ (.int .i64 x.wl)) b x := by rw [← put_eq]; exact h.put x
theorem below6 {B : Nat} {w0 W : World} {b : Nat} {x : Lk.R} (h : Below B w0 W) (hg : B ≤ b) : Below B w0 ((((((W.setCell ⟨b, 0, none⟩ (.int .i64 x.ad)).setCell ⟨b, 1, none⟩ (.int .i64 x.hd)).setCell ⟨b, 2, none⟩ (.int .i64 x.sy)).setCell ⟨b, 3, none⟩ (.int .i64 x.ci)).setCell ⟨b, 4, none⟩ (.int .i64 x.co)).setCell ⟨b, 5, none⟩ (.int .i64 x.wl)) := by rw [← put_eq]; exact Lk.put_below h hg
theorem size6 (W : World) (b : Nat) (x : Lk.R) : ((((((W.setCell ⟨b, 0, none⟩ (.int .i64 x.ad)).setCell ⟨b, 1, none⟩ (.int .i64 x.hd)).setCell ⟨b, 2, none⟩ (.int .i64 x.sy)).setCell ⟨b, 3, none⟩ (.int .i64 x.ci)).setCell ⟨b, 4, none⟩ (.int .i64 x.co)).setCell ⟨b, 5, none⟩ (.int .i64 x.wl)).heap.size = W.heap.size := by rw [← put_eq]; exact Lk.put_size _ _ _ _
theorem max_step {f : Lk.R → Lk.R → Int} {ls : List Lk.R} {j : Nat} : maxV f ls (j + 1) = if 0 < f (ls.getD (j + 1) Lk.R.zero) (maxV f ls j) then ls.getD (j + 1) Lk.R.zero else maxV f ls j := rfl
theorem max_mem {f : Lk.R → Lk.R → Int} {ls : List Lk.R} : ∀ j, ∃ b, b ≤ j ∧ maxV f ls j = ls.getD b Lk.R.zero
  | 0 => ⟨0, Nat.le_refl _, rfl⟩
  | j + 1 => by
    rw [max_step]
    split
    · exact ⟨j + 1, Nat.le_refl _, rfl⟩
    · obtain ⟨b, h1, h2⟩ := max_mem j; exact ⟨b, by omega, h2⟩
theorem infoLk : Try.prog.underlying 30 = some (Try.prog.underlying 30).get! ∧ ((Try.prog.underlying 30).get!).isRow = true ∧ (Try.prog.info? 30).map (·.size) = some 6 := ⟨by kernel_rfl, by kernel_rfl, by kernel_rfl⟩
theorem BF.range {w : World} {b : Nat} {m : Lk.R} (h : BF w b m) : w.rangeAt b 0 m.cells := fun j v hv => Lk.at_cells (m := m) (o := 0) h.1 j v hv
theorem resultsL {fn : Func} {p : Tmp} (h : fn.results = #[.cell p 30]) (tmps : Array Value) (w : World) {b : Nat} {m : Lk.R} (hp : tmps.getD p undef = .pointer (some ⟨b, 0, none⟩)) (hg : BF w b m) : (results fn tmps).run Try.prog w = .ok m.value w := by
  have hp' : tmps[p]?.getD undef = .pointer (some ⟨b, 0, none⟩) := by simpa using hp
  have hv : m.value = .agg m.cells.toArray := rfl
  rw [hv]
  simp only [results, h]
  simp [Sem.run_bind, hp', asAddr, run_loadVar_mid w b 0 30 m.cells _ hg.range infoLk.1 infoLk.2.1 infoLk.2.2, Result.andThen]
set_option maxRecDepth 100000 in
set_option maxHeartbeats 8000000 in
theorem maxFunc (a : Option Addr) (ls : List Lk.R) (cap : Nat) (G lb : Nat) (s : Nat) (V : Nat → Nat) (S : List Int) (via : Int → List Int) (L : List Int) (w : World) (h0 : 0 < ls.length) (h8 : ls.length ≤ 8) (hrg : ∀ i, i < ls.length → 1 ≤ (ls.getD i Lk.R.zero).ad ∧ (ls.getD i Lk.R.zero).ad ≤ 8) (hr : Lk.RM w a ls) (hg : GA w G s V (rN S via)) (hl : w.cell? ⟨lb, 0, none⟩ = some (.int .u16 (gL L))) :
    Calls Try.prog 63 #[.slice a ls.length cap, .func (.func 59) #[] #[.pointer (some ⟨G, 0, none⟩), .pointer (some ⟨lb, 0, none⟩)]] w fun e w' => e = .returned (maxV (worth (gnV S via L) (dgV S via)) ls (ls.length - 1)).value ∧ Below w.heap.size w w' := by
  have HR := hide hr
  have HG := hide hg
  have HL := hide hl
  have hlb := World.block_lt_of_cell? _ _ hl
  have HRG := hide hrg
  have HBW := hide (fun (x y : Lk.R) (W : World) h1 h2 h3 h4 => byWorth G lb s V S via L x y W h1 h2 h3 h4)
  clear hr hg hl hrg
  obtain ⟨f, hf⟩ : ∃ f, worth (gnV S via L) (dgV S via) = f := ⟨_, rfl⟩
  rw [hf] at HBW ⊢
  clear hf
  generalize hN : ls.length = n at *
  have HN := hide hN
  clear hN
  obtain ⟨g, off, rfl⟩ := (unhide HR).form (by rw [unhide HN]; exact h0)
  have PA := hide ((Below.refl w.heap.size w).alloc (Nat.le_refl _) (.cells #[.int .i64 0, .int .i64 0, .int .i64 0, .int .i64 0, .int .i64 0, .int .i64 0] 30))
  have h00 : Lk.At (w.alloc (.cells #[.int .i64 0, .int .i64 0, .int .i64 0, .int .i64 0, .int .i64 0, .int .i64 0] 30)) g off (ls.getD 0 Lk.R.zero) := by
    have := ((unhide HR).below (unhide PA)).at (i := 0) (by rw [unhide HN]; exact h0)
    rw [Nat.zero_mul, Nat.add_zero] at this; exact this
  obtain ⟨c0, c1, c2, c3, c4, c5⟩ := h00
  have hn1 : ¬ (n : Int) < 1 := by omega
  have hn0 : (0 : Int) < (n : Int) := by omega
  have HM0 : Hid (ls.getD 0 Lk.R.zero = maxV f ls 0) := hide rfl
  have HF0 : Hid (BF (w.alloc (.cells #[.int .i64 0, .int .i64 0, .int .i64 0, .int .i64 0, .int .i64 0, .int .i64 0] 30)) w.heap.size Lk.R.zero) := hide (bf_new w Lk.R.zero 30)
  have hmb : w.heap.size + 1 = (w.alloc (.cells #[.int .i64 0, .int .i64 0, .int .i64 0, .int .i64 0, .int .i64 0, .int .i64 0] 30)).heap.size := by simp
  generalize ls.getD 0 Lk.R.zero = m at *
  have HB1 := hide (bf_new (w.alloc (.cells #[.int .i64 0, .int .i64 0, .int .i64 0, .int .i64 0, .int .i64 0, .int .i64 0] 30)) m 30)
  have PB := hide ((unhide PA).alloc (unhide PA).size (.cells #[.int .i64 m.ad, .int .i64 m.hd, .int .i64 m.sy, .int .i64 m.ci, .int .i64 m.co, .int .i64 m.wl] 30))
  have HF1 := hide ((unhide HF0).below ((Below.refl _ _).alloc (Nat.le_refl _) (.cells #[.int .i64 m.ad, .int .i64 m.hd, .int .i64 m.sy, .int .i64 m.ci, .int .i64 m.co, .int .i64 m.wl] 30)))
  rw [← hmb] at HB1
  clear hmb
  go_enter Try.func63, Try.ntmps63
  go_wp2_with fail
  clear c0 c1 c2 c3 c4 c5 PA HF0
  generalize hw1 : (w.alloc (.cells #[.int .i64 0, .int .i64 0, .int .i64 0, .int .i64 0, .int .i64 0, .int .i64 0] 30)).alloc (.cells #[.int .i64 m.ad, .int .i64 m.hd, .int .i64 m.sy, .int .i64 m.ci, .int .i64 m.co, .int .i64 m.wl] 30) = w1 at *
  clear hw1
  obtain ⟨mb, hmb⟩ : ∃ mb, w.heap.size + 1 = mb := ⟨_, rfl⟩
  rw [hmb] at HB1 ⊢
  have hmw : w.heap.size < mb := by omega
  clear hmb
  rw [unhide HM0] at HB1
  clear HM0
  go_loopw [6] (fun i wr => ∃ t : Nat, 1 ≤ t ∧ t ≤ n ∧ i = .int .i64 (t : Int) ∧ Hid (BF wr mb (maxV f ls (t - 1))) ∧ Hid (Below mb w1 wr) ∧ Hid (mb < wr.heap.size)) (fun i _ => n - (intOf i).toNat)
  case atStart => exact ⟨1, Nat.le_refl _, by omega, rfl, HB1, hide (Below.refl _ _), hide (unhide HB1).lt⟩
  case round =>
    obtain ⟨t, ht1, htn, rfl, hbf, hbl, hms⟩ := hrel
    have HBW1 := hide ((unhide PB).trans ((unhide hbl).mono (Nat.le_of_lt hmw)))
    by_cases hlt : (t : Int) < (n : Int)
    · have k0 : (0 : Int) ≤ (t : Int) := by omega
      have hlen : t < ls.length := by rw [unhide HN]; omega
      have hmr := unhide HRG t (by omega)
      have hzr : 1 ≤ (maxV f ls (t - 1)).ad ∧ (maxV f ls (t - 1)).ad ≤ 8 := by
        obtain ⟨b, hb, e⟩ := max_mem (f := f) (ls := ls) (t - 1)
        rw [e]; exact unhide HRG b (by omega)
      have HST : Hid (maxV f ls (t + 1 - 1) = if 0 < f (ls.getD t Lk.R.zero) (maxV f ls (t - 1)) then ls.getD t Lk.R.zero else maxV f ls (t - 1)) := hide (by
        have := max_step (f := f) (ls := ls) (j := t - 1)
        rw [show t - 1 + 1 = t by omega] at this
        rw [show t + 1 - 1 = t by omega]; exact this)
      have HRr := hide ((unhide HR).below (unhide HBW1))
      have HAT : Hid (∀ W, Lk.RM W (some ⟨g, off, none⟩) ls → Lk.At W g (off + t * 6) (ls.getD t Lk.R.zero)) := hide (fun W h => h.at hlen)
      have HGr := hide ((unhide HG).below (unhide HBW1))
      have HLr : Hid (wr.cell? ⟨lb, 0, none⟩ = some (.int .u16 (gL L))) := hide (((unhide HBW1).cell (p := ⟨lb, 0, none⟩) hlb).trans (unhide HL))
      have hlr := World.block_lt_of_cell? _ _ (unhide HLr)
      generalize ls.getD t Lk.R.zero = m at *
      generalize maxV f ls (t - 1) = z at *
      have HS : Hid (∀ w', Below wr.heap.size wr w' → (fun w' => w'.cell? ⟨g, off + t * 6, none⟩ = some (.int .i64 m.ad) ∧ w'.cell? ⟨g, off + t * 6 + 1, none⟩ = some (.int .i64 m.hd) ∧ w'.cell? ⟨g, off + t * 6 + 2, none⟩ = some (.int .i64 m.sy) ∧ w'.cell? ⟨g, off + t * 6 + 3, none⟩ = some (.int .i64 m.ci) ∧ w'.cell? ⟨g, off + t * 6 + 4, none⟩ = some (.int .i64 m.co) ∧ w'.cell? ⟨g, off + t * 6 + 5, none⟩ = some (.int .i64 m.wl) ∧ w'.cell? ⟨mb, 0, none⟩ = some (.int .i64 z.ad) ∧ w'.cell? ⟨mb, 1, none⟩ = some (.int .i64 z.hd) ∧ w'.cell? ⟨mb, 2, none⟩ = some (.int .i64 z.sy) ∧ w'.cell? ⟨mb, 3, none⟩ = some (.int .i64 z.ci) ∧ w'.cell? ⟨mb, 4, none⟩ = some (.int .i64 z.co) ∧ w'.cell? ⟨mb, 5, none⟩ = some (.int .i64 z.wl)) w') := hide (fun w' hb => by
        obtain ⟨x0, x1, x2, x3, x4, x5⟩ := unhide HAT _ ((unhide HRr).below hb)
        obtain ⟨⟨y0, y1, y2, y3, y4, y5⟩, _⟩ := (unhide hbf).below hb
        exact ⟨x0, x1, x2, x3, x4, x5, y0, y1, y2, y3, y4, y5⟩)
      have hmv : m.value = .agg #[.int .i64 m.ad, .int .i64 m.hd, .int .i64 m.sy, .int .i64 m.ci, .int .i64 m.co, .int .i64 m.wl] := rfl
      have hzv : z.value = .agg #[.int .i64 z.ad, .int .i64 z.hd, .int .i64 z.sy, .int .i64 z.ci, .int .i64 z.co, .int .i64 z.wl] := rfl
      have HCW : Hid (∀ W, Below wr.heap.size wr W → Calls Try.prog 59 #[.agg #[.int .i64 m.ad, .int .i64 m.hd, .int .i64 m.sy, .int .i64 m.ci, .int .i64 m.co, .int .i64 m.wl], .agg #[.int .i64 z.ad, .int .i64 z.hd, .int .i64 z.sy, .int .i64 z.ci, .int .i64 z.co, .int .i64 z.wl], .pointer (some ⟨G, 0, none⟩), .pointer (some ⟨lb, 0, none⟩)] W fun e w' => e = .returned (.int .i64 (f m z)) ∧ Below W.heap.size W w') := hide (fun W hb => by
        have := unhide HBW m z W hmr hzr ((unhide HGr).below hb) ((hb.cell (p := ⟨lb, 0, none⟩) hlr).trans (unhide HLr))
        rw [hmv, hzv] at this; exact this)
      clear hmv hzv hmr hzr
      have B2 : Below wr.heap.size wr wr.drew := (Below.refl _ _).drew
      obtain ⟨fv, hfv⟩ : ∃ fv, f m z = fv := ⟨_, rfl⟩
      rw [hfv] at HST HCW
      clear hfv
      go_wp2_with fail
      refine wp_region_noPanic ?_
      refine wp_region_held_drew (S := fun w' => w'.cell? ⟨g, off + t * 6, none⟩ = some (.int .i64 m.ad) ∧ w'.cell? ⟨g, off + t * 6 + 1, none⟩ = some (.int .i64 m.hd) ∧ w'.cell? ⟨g, off + t * 6 + 2, none⟩ = some (.int .i64 m.sy) ∧ w'.cell? ⟨g, off + t * 6 + 3, none⟩ = some (.int .i64 m.ci) ∧ w'.cell? ⟨g, off + t * 6 + 4, none⟩ = some (.int .i64 m.co) ∧ w'.cell? ⟨g, off + t * 6 + 5, none⟩ = some (.int .i64 m.wl) ∧ w'.cell? ⟨mb, 0, none⟩ = some (.int .i64 z.ad) ∧ w'.cell? ⟨mb, 1, none⟩ = some (.int .i64 z.hd) ∧ w'.cell? ⟨mb, 2, none⟩ = some (.int .i64 z.sy) ∧ w'.cell? ⟨mb, 3, none⟩ = some (.int .i64 z.ci) ∧ w'.cell? ⟨mb, 4, none⟩ = some (.int .i64 z.co) ∧ w'.cell? ⟨mb, 5, none⟩ = some (.int .i64 z.wl)) (by kernel_rfl) (unhide HS _ B2) (fun hHeld => ?_)
      (refine Rg.tk (i := 0) (d := 20) (v := ?_) rfl rfl (by kernel_rfl) (by kernel_rfl) (by kernel_rfl) (fun _ _ _ h => h) (by rfl) ?_ (by assumption) ?_; rotate_left; (focus (intro w0 hSw; (try dsimp only at hSw); go_simp; (try with_reducible rfl))); (try simp only [Act.put, List.setIfInBounds_toArray, List.set_cons_zero, List.set_cons_succ]))
      (refine Rg.tk (i := 1) (d := 21) (v := ?_) rfl rfl (by kernel_rfl) (by kernel_rfl) (by kernel_rfl) (fun _ _ _ h => h) (by rfl) ?_ (by assumption) ?_; rotate_left; (focus (intro w0 hSw; (try dsimp only at hSw); go_simp; (try with_reducible rfl))); (try simp only [Act.put, List.setIfInBounds_toArray, List.set_cons_zero, List.set_cons_succ]))
      (refine Rg.tk (i := 2) (d := 22) (v := ?_) rfl rfl (by kernel_rfl) (by kernel_rfl) (by kernel_rfl) (fun _ _ _ h => h) (by rfl) ?_ (by assumption) ?_; rotate_left; (focus (intro w0 hSw; (try dsimp only at hSw); go_simp; (try with_reducible rfl))); (try simp only [Act.put, List.setIfInBounds_toArray, List.set_cons_zero, List.set_cons_succ]))
      (refine Rg.tk (i := 3) (d := 23) (v := ?_) rfl rfl (by kernel_rfl) (by kernel_rfl) (by kernel_rfl) (fun _ _ _ h => h) (by rfl) ?_ (by assumption) ?_; rotate_left; (focus (intro w0 hSw; (try dsimp only at hSw); go_simp; (try with_reducible rfl))); (try simp only [Act.put, List.setIfInBounds_toArray, List.set_cons_zero, List.set_cons_succ]))
      (refine Rg.tk (i := 4) (d := 24) (v := ?_) rfl rfl (by kernel_rfl) (by kernel_rfl) (by kernel_rfl) (fun _ _ _ h => h) (by rfl) ?_ (by assumption) ?_; rotate_left; (focus (intro w0 hSw; (try dsimp only at hSw); go_simp; (try with_reducible rfl))); (try simp only [Act.put, List.setIfInBounds_toArray, List.set_cons_zero, List.set_cons_succ]))
      (refine Rg.tk (i := 5) (d := 25) (v := ?_) rfl rfl (by kernel_rfl) (by kernel_rfl) (by kernel_rfl) (fun _ _ _ h => h) (by rfl) ?_ (by assumption) ?_; rotate_left; (focus (intro w0 hSw; (try dsimp only at hSw); go_simp; (try with_reducible rfl))); (try simp only [Act.put, List.setIfInBounds_toArray, List.set_cons_zero, List.set_cons_succ]))
      (refine wpAnyH_ready (rs := [6]) (by kernel_rfl) (by simp) ?_; refine AllReadyH.cons (o := _) rfl (fun K hK => ?_) AllReadyH.nil; go_simp)
      refine (unhide HCW _ B2).mono ?_
      rintro e w3 ⟨rfl, b3⟩
      have B3 := B2.trans (b3.mono B2.size)
      clear b3 hHeld
      refine hK.out _ _ (unhide HS _ B3) (fun hHeld => ?_)
      clear hK K
      (try simp only [Act.put, List.setIfInBounds_toArray, List.set_cons_zero, List.set_cons_succ])
      have HBF3 := hide ((unhide hbf).below B3)
      have HB3 := hide ((unhide hbl).trans (B3.mono (Nat.le_of_lt (unhide hms))))
      have HM3 := hide (Nat.lt_of_lt_of_le (unhide hms) B3.size)
      have HA3 := hide (unhide HAT _ ((unhide HRr).below B3))
      clear HS HCW HAT HRr HGr HLr hlr
      by_cases hpos : 0 < fv
      · rw [if_pos hpos] at HST
        (refine Rg.tk (i := 7) (d := 27) (v := ?_) rfl rfl (by kernel_rfl) (by kernel_rfl) (by kernel_rfl) (fun _ _ _ h => h) (by rfl) ?_ (by assumption) ?_; rotate_left; (focus (intro w0 hSw; (try dsimp only at hSw); go_simp; (try with_reducible rfl))); (try simp only [Act.put, List.setIfInBounds_toArray, List.set_cons_zero, List.set_cons_succ]))
        refine wpAnyH_done (by kernel_rfl) (NoPanic.normal ?_) _
        clear hHeld
        obtain ⟨x0, x1, x2, x3, x4, x5⟩ := unhide HA3
        obtain ⟨⟨y0, y1, y2, y3, y4, y5⟩, yf⟩ := unhide HBF3
        have f0 := yf 0
        have f1 := yf 1
        have f2 := yf 2
        have f3 := yf 3
        have f4 := yf 4
        have f5 := yf 5
        clear yf
        have HP := hide ((unhide HBF3).put6 m)
        have HPB := hide (below6 (x := m) (unhide HB3) (Nat.le_refl mb))
        have HPS := hide (show mb < _ from by rw [← size6 w3 mb m] at HM3; exact unhide HM3)
        go_wp2_with fail
        exact ⟨⟨t + 1, by omega, by omega, by go_num, by rw [unhide HST]; exact HP, HPB, HPS⟩, by simp [intOf]; omega⟩
      · rw [if_neg hpos] at HST
        rw [← unhide HST] at HBF3
        (refine Rg.tk (i := 7) (d := 27) (v := ?_) rfl rfl (by kernel_rfl) (by kernel_rfl) (by kernel_rfl) (fun _ _ _ h => h) (by rfl) ?_ (by assumption) ?_; rotate_left; (focus (intro w0 hSw; (try dsimp only at hSw); go_simp; (try with_reducible rfl))); (try simp only [Act.put, List.setIfInBounds_toArray, List.set_cons_zero, List.set_cons_succ]))
        refine wpAnyH_done (by kernel_rfl) (NoPanic.normal ?_) _
        clear hHeld
        go_wp2_with fail
        go_roundw
        case rel => exact ⟨t + 1, by omega, by omega, by go_num, HBF3, HB3, HM3⟩
        case measure => simp [intOf]; omega
    · obtain rfl : t = n := by omega
      have HF2 := hide ((unhide HF1).under (unhide hbl) hmw)
      obtain ⟨z, hz⟩ : ∃ z, maxV f ls (t - 1) = z := ⟨_, rfl⟩
      have HZ := hide hz
      rw [hz] at hbf
      clear hz
      obtain ⟨⟨x0, x1, x2, x3, x4, x5⟩, _⟩ := unhide hbf
      obtain ⟨⟨y0, y1, y2, y3, y4, y5⟩, yf⟩ := unhide HF2
      have f0 := yf 0
      have f1 := yf 1
      have f2 := yf 2
      have f3 := yf 3
      have f4 := yf 4
      have f5 := yf 5
      clear yf
      have HP := hide ((unhide HF2).put6 z)
      have HPB := hide (below6 (x := z) (unhide HBW1) (Nat.le_refl w.heap.size))
      go_wp2_with fail
      refine bodyPost_ret (resultsL rfl _ _ rfl (unhide HP)) rfl ⟨by rw [unhide HZ], unhide HPB⟩
end Gp
end Go.Proofs.Ytpknahhdapmcoac
namespace Go.Proofs.Ytpknahhdapmcoac
open Go.ChangeShapes Go.WideShapes Go.ChangeAt Go.RowKit
set_option linter.unusedVariables false
set_option linter.unusedSimpArgs false
attribute [local go_sem ↓] Go.wp_at_zero Go.wp_at_succ
namespace Gp
open W1 Tu St Tw Mr Mt
/-- A number in a block of its own, which may be written. -/
def CL (w : World) (b : Nat) (x : Int) : Prop := w.cell? ⟨b, 0, none⟩ = some (.int .u16 x) ∧ w.frozen? ⟨b, 0, none⟩ = false
theorem CL.lt {w : World} {b : Nat} {x : Int} (h : CL w b x) : b < w.heap.size := World.block_lt_of_cell? _ _ h.1
theorem CL.under {w w' : World} {B b : Nat} {x : Int} (h : CL w b x) (hb : Below B w w') (hg : b < B) : CL w' b x := ⟨(hb.cell (p := ⟨b, 0, none⟩) hg).trans h.1, (hb.frozen (p := ⟨b, 0, none⟩) hg).trans h.2⟩
theorem CL.below {w w' : World} {b : Nat} {x : Int} (h : CL w b x) (hb : Below w.heap.size w w') : CL w' b x := h.under hb h.lt
theorem cl_new (w : World) (x : Int) (t : Nat) : CL (w.alloc (.cells #[.int .u16 x] t)) w.heap.size x := by
  have hb : (w.alloc (.cells #[.int .u16 x] t)).heap[w.heap.size]? = some (.cells #[.int .u16 x] t) := heap_alloc_last w _
  refine ⟨by rw [World.cell?_alloc_new]; rfl, ?_⟩
  unfold World.frozen?
  simp only [hb]
  simp
theorem CL.set {w : World} {b : Nat} {x : Int} (h : CL w b x) (y : Int) : CL (w.setCell ⟨b, 0, none⟩ (.int .u16 y)) b y := ⟨World.cell?_setCell_same _ _ _ h.1, by rw [World.frozen?_setCell]; exact h.2⟩
set_option maxRecDepth 100000 in
set_option maxHeartbeats 16000000 in
theorem implFlood (a : Option Addr) (ms : List R) (cap : Nat) (b : Option Addr) (ls : List Lk.R) (capl : Nat) (me now : Int) (w : World) (hm : ms.length ≤ 1048576) (hl : ls.length ≤ 1048576) (hr : RM w a ms) (hr' : Lk.RM w b ls) :
    Calls Try.prog 18 #[.slice a ms.length cap, .slice b ls.length capl, .int .i64 me, .int .i64 now] w fun e w' => ∃ v, e = .returned (.tuple #[v, .int .i64 (codeTL ms ls)]) ∧ Below w.heap.size w w' ∧ In.LstV w' v (fldA ms ls me now) w.heap.size w'.heap.size := by
  have HRC := hide (fun W h1 h2 => relaysCode a ms cap b ls capl none [] 0 W hm hl (by simp) h1 h2)
  rw [codeM_nil] at HRC
  have HR := hide hr
  have HL := hide hr'
  clear hr hr'
  by_cases hc : codeTL ms ls = 0
  rotate_left
  · have h1 : fldA ms ls me now = [] := by unfold fldA; rw [if_neg hc]
    rw [h1]
    clear h1
    generalize hcd : codeTL ms ls = cd at *
    clear hcd
    have q1 : (cd != 0) = true := by simpa using hc
    go_enter Try.func18, Try.ntmps18
    go_wp2_with fail
    refine (unhide HRC _ (unhide HR) (unhide HL)).mono ?_
    rintro e w1 ⟨rfl, b1⟩
    have HB1 := hide b1
    clear b1
    go_wp2_with fail
    go_ret2
    exact ⟨_, rfl, unhide HB1, In.lstV_nil _ _ _ _ _⟩
  have HOK := hide (codeTL_ok hc)
  have h8 := Ln.links_len (unhide HOK).2
  have h1 : fldA ms ls me now = fldV (viaF ms ls now) (strF ms ls me now) ls now := by unfold fldA; rw [if_pos hc]
  have HGO := hide (fun W h1 h2 => groundOf a ms cap b ls capl me now W (unhide HOK) h1 h2)
  have HVR : Hid (∀ z, ∀ a ∈ viaF ms ls now z, 1 ≤ a ∧ a ≤ 8) := hide (fun z => via_rng (unhide HOK).2)
  have HVN : Hid (∀ z, (viaF ms ls now z).Nodup) := hide (fun z => via_nodup (unhide HOK).2)
  have HSR := hide (str_rng2 (ms := ms) (ls := ls) (me := me) (now := now))
  have HSV : Hid (∀ z ∈ strF ms ls me now, ∃ i, i < ls.length ∧ (viaF ms ls now z).contains (ls.getD i Lk.R.zero).ad = true) := hide (fun z hz => via_link (str_via z hz))
  have HSC : Hid (strF ms ls me now = strN (condS ms ls me now) 8) := hide rfl
  have HLR : Hid (∀ i, i < ls.length → 1 ≤ (ls.getD i Lk.R.zero).ad ∧ (ls.getD i Lk.R.zero).ad ≤ 8) := hide (fun i hi => Ln.ok_ad (Ri.all_ok (unhide HOK).2 hi))
  have HLU := hide (links_up (unhide HOK).2)
  have HAN := hide (alw_nodup (now := now) (unhide HOK).2)
  have HAR := hide (alw_rng (now := now) (unhide HOK).2)
  rw [h1]
  rw [hc] at HRC ⊢
  clear hc h1
  generalize strF ms ls me now = S at *
  generalize viaF ms ls now = via at *
  obtain ⟨A, hA⟩ : ∃ A, alwV ls now ls.length = A := ⟨_, rfl⟩
  obtain ⟨r0, hr0⟩ : ∃ r0, onesV via S A = r0 := ⟨_, rfl⟩
  have hF : fldV via S ls now = sortV (grdV via S ls 8 r0) := by unfold fldV; rw [hA, hr0]
  rw [hF]
  rw [hA] at HAN HAR
  have HAW : Hid (∀ W, Lk.RM W b ls → Calls Try.prog 56 #[.slice b ls.length capl, .int .i64 now] W fun e w' => e = .returned (.int .u16 (gL A)) ∧ Below W.heap.size W w') := hide (fun W h => by rw [← hA]; exact alwaysWilling b ls capl now W (by omega) h)
  have HON : Hid (bits .or .u16 (gL A : Int) (gN (oB S via 9) : Int) = (gL r0 : Int)) := hide (by rw [← hr0]; exact ones_group (unhide HSR) (unhide HVN) (unhide HVR))
  have HRN : Hid r0.Nodup := hide (by rw [← hr0]; exact ones_nodup (unhide HAN))
  have HRR : Hid (∀ a ∈ r0, 1 ≤ a ∧ a ≤ 8) := hide (by
    intro a ha
    rw [← hr0, ones_mem] at ha
    rcases ha with ha | ⟨z, hz, hl, rfl⟩
    · exact unhide HAR a ha
    · have : (via z).getD 0 0 ∈ via z := getD_mem (by omega)
      exact unhide HVR z _ this)
  have HLG : Hid (∀ r, bits .andNot .u16 (gL S : Int) (gN (reB S via (strN (fun a => r.contains a) 8)) : Int) = (gL (leftV via S r) : Int)) := hide (fun r => left_group (unhide HVR))
  have hS8 : S.length ≤ 8 := by rw [unhide HSC]; exact strN_len _ _
  clear hA hr0 hF
  go_enter Try.func18, Try.ntmps18
  go_wp2_with fail
  refine (unhide HRC _ (unhide HR) (unhide HL)).mono ?_
  rintro e w1 ⟨rfl, b1⟩
  have HB1 := hide b1
  have HR1 := hide ((unhide HR).below b1)
  have HL1 := hide ((unhide HL).below b1)
  clear b1
  go_wp2_with fail
  refine (unhide HGO _ (unhide HR1) (unhide HL1)).mono ?_
  rintro e w2 ⟨rfl, b2'⟩
  have HB2 := hide ((unhide HB1).trans (b2'.mono (unhide HB1).size))
  have HL2 := hide ((unhide HL1).below b2')
  clear b2'
  go_wp2_with (refine wpList_storeG _ _ rfl rfl rfl rfl (ga_new w2 0 (fun _ => 0) (fun _ => 0) 94).2 ?_; intro w5 ga5 hbb5 hsz5; have HG5 := hide ga5; have HB5 := hide (hbb5 _ _ ((unhide HB2).alloc (unhide HB2).size (.cells #[.int .u16 0, .int .u16 0, .int .u16 0, .int .u16 0, .int .u16 0, .int .u16 0, .int .u16 0, .int .u16 0, .int .u16 0, .int .u16 0, .int .u16 0, .int .u16 0, .int .u16 0, .int .u16 0, .int .u16 0, .int .u16 0, .int .u16 0, .int .u16 0, .int .u16 0] 94)) (unhide HB2).size); have HL5 := hide ((unhide HL2).below (hbb5 _ _ ((Below.refl w2.heap.size w2).alloc (Nat.le_refl _) (.cells #[.int .u16 0, .int .u16 0, .int .u16 0, .int .u16 0, .int .u16 0, .int .u16 0, .int .u16 0, .int .u16 0, .int .u16 0, .int .u16 0, .int .u16 0, .int .u16 0, .int .u16 0, .int .u16 0, .int .u16 0, .int .u16 0, .int .u16 0, .int .u16 0, .int .u16 0] 94)) (Nat.le_refl _))); clear ga5 hbb5 hsz5)
  obtain ⟨G, hG⟩ : ∃ G, w2.heap.size = G := ⟨_, rfl⟩
  rw [hG] at HG5 ⊢
  have hGw : w.heap.size ≤ G := by rw [← hG]; exact (unhide HB2).size
  clear hG
  -- the first relays
  refine wp_region_noPanic ?_
  refine wp_region_held_drew (S := fun w' => GA w' G (gL S) (vN S via) (rN S via)) (by kernel_rfl) ((unhide HG5).below ((Below.refl _ _).drew)) (fun hHeld => ?_)
  have B5 : Below w5.heap.size w5 w5.drew := (Below.refl _ _).drew
  (refine Rg.tk (i := 0) (d := 27) (v := ?_) rfl rfl (by kernel_rfl) (by kernel_rfl) (by kernel_rfl) (fun _ _ _ h => h) (by rfl) ?_ (by assumption) ?_; rotate_left; (focus (intro w0 hSw; (try dsimp only at hSw); go_simp; (try with_reducible rfl))); (try simp only [Act.put, List.setIfInBounds_toArray, List.set_cons_zero, List.set_cons_succ]))
  (refine Rg.tk (i := 1) (d := 28) (v := ?_) rfl rfl (by kernel_rfl) (by kernel_rfl) (by kernel_rfl) (fun _ _ _ h => h) (by rfl) ?_ (by assumption) ?_; rotate_left; (focus (intro w0 hSw; (try dsimp only at hSw); go_simp; (try with_reducible rfl))); (try simp only [Act.put, List.setIfInBounds_toArray, List.set_cons_zero, List.set_cons_succ]))
  (refine Rg.tk (i := 3) (d := 30) (v := GV (gL S) (vN S via) (rN S via)) rfl rfl (by kernel_rfl) (by kernel_rfl) (by kernel_rfl) (fun _ _ _ h => h) (by rfl) (fun w0 hSw => run_execG _ rfl rfl hSw) (by assumption) ?_; (try simp only [Act.put, List.setIfInBounds_toArray, List.set_cons_zero, List.set_cons_succ]))
  (refine wpAnyH_ready (rs := [2]) (by kernel_rfl) (by simp) ?_; refine AllReadyH.cons (o := _) rfl (fun K hK => ?_) AllReadyH.nil; go_simp)
  refine (unhide HAW _ ((unhide HL5).below B5)).mono ?_
  rintro e w6 ⟨rfl, b6⟩
  have B6 := B5.trans (b6.mono B5.size)
  clear b6 hHeld
  refine hK.out _ _ ((unhide HG5).below B6) (fun hHeld => ?_)
  clear hK K
  (try simp only [Act.put, List.setIfInBounds_toArray, List.set_cons_zero, List.set_cons_succ])
  (refine wpAnyH_ready (rs := [4]) (by kernel_rfl) (by simp) ?_; refine AllReadyH.cons (o := _) rfl (fun K hK => ?_) AllReadyH.nil; go_simp)
  refine (onlyOnes _ _ S via _).mono ?_
  rintro e w7 ⟨rfl, b7⟩
  have B7 := B6.trans (b7.mono B6.size)
  clear b7 hHeld
  refine hK.out _ _ ((unhide HG5).below B7) (fun hHeld => ?_)
  clear hK K
  (try simp only [Act.put, List.setIfInBounds_toArray, List.set_cons_zero, List.set_cons_succ])
  (refine Rg.tk (i := 5) (d := 32) (v := .int .u16 (gL r0)) rfl rfl (by kernel_rfl) (by kernel_rfl) (by kernel_rfl) (fun _ _ _ h => h) (by rfl) ?_ (by assumption) ?_; (focus (intro w0 hSw; (try dsimp only at hSw); go_simp)); (try simp only [Act.put, List.setIfInBounds_toArray, List.set_cons_zero, List.set_cons_succ]))
  · rw [unhide HON]
  (refine Rg.tk (i := 6) (d := 12) (v := ?_) rfl rfl (by kernel_rfl) (by kernel_rfl) (by kernel_rfl) (fun _ _ _ h => h) (by rfl) ?_ (by assumption) ?_; rotate_left; (focus (intro w0 hSw; (try dsimp only at hSw); go_simp; (try with_reducible rfl))); (try simp only [Act.put, List.setIfInBounds_toArray, List.set_cons_zero, List.set_cons_succ]))
  refine wpAnyH_done (by kernel_rfl) (NoPanic.normal ?_) _
  clear hHeld B5 B6
  have HG7 := hide ((unhide HG5).below B7)
  have HB7 := hide ((unhide HB5).trans (B7.mono (unhide HB5).size))
  have HL7 := hide ((unhide HL5).below B7)
  clear B7 HG5 HB5 HL5
  go_wp2_with fail
  go_cut [13] (fun p wx => ∃ lb, p = .pointer (some ⟨lb, 0, none⟩) ∧ CL wx lb (gL (leftV via S r0)) ∧ Below w7.heap.size w7 wx ∧ w7.heap.size ≤ lb)
  case first =>
    have HRB := hide (fun W => reachedBy (gL S) (vN S via) S via (fun z => r0.contains z) W)
    have HLG0 := hide (unhide HLG r0)
    generalize hre : gN (reB S via (strN (fun z => r0.contains z) 8)) = Y at *
    generalize hle : gL (leftV via S r0) = X at *
    clear hre hle
    have B7 : Below w7.heap.size w7 w7.drew := (Below.refl _ _).drew
    refine wp_region_noPanic ?_
    refine wp_region_held_drew (S := fun w' => w'.cell? ⟨G, 0, none⟩ = some (.int .u16 (gL S)) ∧ GA w' G (gL S) (vN S via) (rN S via)) (by kernel_rfl) ⟨((unhide HG7).below B7).s, (unhide HG7).below B7⟩ (fun hHeld => ?_)
    (refine Rg.tk (i := 0) (d := 33) (v := ?_) rfl rfl (by kernel_rfl) (by kernel_rfl) (by kernel_rfl) (fun _ _ _ h => h) (by rfl) ?_ (by assumption) ?_; rotate_left; (focus (intro w0 hSw; (try dsimp only at hSw); go_simp; (try with_reducible rfl))); (try simp only [Act.put, List.setIfInBounds_toArray, List.set_cons_zero, List.set_cons_succ]))
    (refine Rg.tk (i := 1) (d := 34) (v := ?_) rfl rfl (by kernel_rfl) (by kernel_rfl) (by kernel_rfl) (fun _ _ _ h => h) (by rfl) ?_ (by assumption) ?_; rotate_left; (focus (intro w0 hSw; (try dsimp only at hSw); go_simp; (try with_reducible rfl))); (try simp only [Act.put, List.setIfInBounds_toArray, List.set_cons_zero, List.set_cons_succ]))
    (refine Rg.tk (i := 2) (d := 35) (v := GV (gL S) (vN S via) (rN S via)) rfl rfl (by kernel_rfl) (by kernel_rfl) (by kernel_rfl) (fun _ _ _ h => h) (by rfl) (fun w0 hSw => run_execG _ rfl rfl hSw.2) (by assumption) ?_; (try simp only [Act.put, List.setIfInBounds_toArray, List.set_cons_zero, List.set_cons_succ]))
    (refine Rg.tk (i := 3) (d := 36) (v := ?_) rfl rfl (by kernel_rfl) (by kernel_rfl) (by kernel_rfl) (fun _ _ _ h => h) (by rfl) ?_ (by assumption) ?_; rotate_left; (focus (intro w0 hSw; (try dsimp only at hSw); go_simp; (try with_reducible rfl))); (try simp only [Act.put, List.setIfInBounds_toArray, List.set_cons_zero, List.set_cons_succ]))
    (refine wpAnyH_ready (rs := [4, 6]) (by kernel_rfl) (by simp) ?_; refine AllReadyH.cons (o := _) rfl (fun K hK => ?_) (AllReadyH.cons (o := _) rfl (fun K hK => ?_) AllReadyH.nil))
    · go_simp
      refine (unhide HRB _).mono ?_
      rintro e w8 ⟨rfl, b8⟩
      have B8 := B7.trans (b8.mono B7.size)
      clear b8 hHeld
      refine hK.out _ _ ⟨((unhide HG7).below B8).s, (unhide HG7).below B8⟩ (fun hHeld => ?_)
      clear hK K
      (try simp only [Act.put, List.setIfInBounds_toArray, List.set_cons_zero, List.set_cons_succ])
      (refine Rg.tk (i := 5) (d := 38) (v := .int .u16 X) rfl rfl (by kernel_rfl) (by kernel_rfl) (by kernel_rfl) (fun _ _ _ h => h) (by rfl) ?_ (by assumption) ?_; (focus (intro w0 hSw; (try dsimp only at hSw); go_simp)); (try simp only [Act.put, List.setIfInBounds_toArray, List.set_cons_zero, List.set_cons_succ]))
      · rw [unhide HLG0]
      (refine wpAnyH_ready (rs := [6]) (by kernel_rfl) (by simp) ?_; refine AllReadyH.cons (o := _) rfl (fun K hK => ?_) AllReadyH.nil; go_simp)
      have B9 := B8.alloc B8.size (.cells #[.int .u16 0] 91)
      clear hHeld
      refine hK.out _ _ ⟨((unhide HG7).below B9).s, (unhide HG7).below B9⟩ (fun hHeld => ?_)
      clear hK K
      (try simp only [Act.put, List.setIfInBounds_toArray, List.set_cons_zero, List.set_cons_succ])
      (refine wpAnyH_ready (rs := [7]) (by kernel_rfl) (by simp) ?_; refine AllReadyH.cons (o := _) rfl (fun K hK => ?_) AllReadyH.nil; go_simp)
      have B10 := B8.alloc B8.size (.cells #[.int .u16 X] 91)
      clear hHeld
      refine hK.out _ _ ⟨((unhide HG7).below B10).s, (unhide HG7).below B10⟩ (fun hHeld => ?_)
      clear hK K
      (try simp only [Act.put, List.setIfInBounds_toArray, List.set_cons_zero, List.set_cons_succ])
      refine wpAnyH_done (by kernel_rfl) (NoPanic.normal ?_) _
      clear hHeld
      go_wp2_with fail
      go_meet
      case rel => exact ⟨_, rfl, cl_new _ _ _, B10, B8.size⟩
    · go_simp
      have B8 := B7.alloc B7.size (.cells #[.int .u16 0] 91)
      have HC8 : Hid (CL (w7.drew.alloc (.cells #[.int .u16 0] 91)) w7.heap.size 0) := hide (cl_new w7.drew 0 91)
      clear hHeld
      refine hK.out _ _ ⟨((unhide HG7).below B8).s, (unhide HG7).below B8⟩ (fun hHeld => ?_)
      clear hK K
      (try simp only [Act.put, List.setIfInBounds_toArray, List.set_cons_zero, List.set_cons_succ])
      (refine wpAnyH_ready (rs := [4]) (by kernel_rfl) (by simp) ?_; refine AllReadyH.cons (o := _) rfl (fun K hK => ?_) AllReadyH.nil; go_simp)
      refine (unhide HRB _).mono ?_
      rintro e w9 ⟨rfl, b9⟩
      have B9 := B8.trans (b9.mono B8.size)
      have HC9 := hide ((unhide HC8).below b9)
      clear b9 hHeld HC8
      refine hK.out _ _ ⟨((unhide HG7).below B9).s, (unhide HG7).below B9⟩ (fun hHeld => ?_)
      clear hK K
      (try simp only [Act.put, List.setIfInBounds_toArray, List.set_cons_zero, List.set_cons_succ])
      (refine Rg.tk (i := 5) (d := 38) (v := .int .u16 X) rfl rfl (by kernel_rfl) (by kernel_rfl) (by kernel_rfl) (fun _ _ _ h => h) (by rfl) ?_ (by assumption) ?_; (focus (intro w0 hSw; (try dsimp only at hSw); go_simp)); (try simp only [Act.put, List.setIfInBounds_toArray, List.set_cons_zero, List.set_cons_succ]))
      · rw [unhide HLG0]
      obtain ⟨cz, fz⟩ := unhide HC9
      (refine wpAnyH_ready (rs := [7]) (by kernel_rfl) (by simp) ?_; refine AllReadyH.cons (o := _) rfl (fun K hK => ?_) AllReadyH.nil; go_simp)
      have B10 := B9.setCell (p := ⟨w7.heap.size, 0, none⟩) (Nat.le_refl _) (.int .u16 X)
      have HC10 := hide ((unhide HC9).set X)
      clear hHeld
      refine hK.out _ _ ⟨((unhide HG7).below B10).s, (unhide HG7).below B10⟩ (fun hHeld => ?_)
      clear hK K
      (try simp only [Act.put, List.setIfInBounds_toArray, List.set_cons_zero, List.set_cons_succ])
      refine wpAnyH_done (by kernel_rfl) (NoPanic.normal ?_) _
      clear hHeld cz fz
      go_wp2_with fail
      go_meet
      case rel => exact ⟨_, rfl, unhide HC10, B10, Nat.le_refl _⟩
  case rest =>
    obtain ⟨lb, rfl, hcl, hbb, hlo⟩ := hcut
    have HCL := hide hcl
    have HBB := hide hbb
    clear hcl hbb HLG HON HAW
    obtain ⟨Gd, hGd⟩ : ∃ Gd, grdV via S ls 8 r0 = Gd := ⟨_, rfl⟩
    have HGd := hide hGd
    clear hGd
    have HL8 : Hid ((leftV via S r0).length ≤ 8) := hide (Nat.le_trans (left_len _ _ _) hS8)
    go_wp2_with fail
    go_loopg [12] 8 (fun kx rl wr => ∃ (r : List Int) (f : Nat), rl = .int .u16 (gL r) ∧ Hid ((leftV via S r).length ≤ kx) ∧ Hid (CL wr lb (gL (leftV via S r))) ∧ Hid (Below w7.heap.size w7 wr) ∧ Hid (grdV via S ls f r = Gd) ∧ Hid ((leftV via S r).length ≤ f) ∧ Hid r.Nodup ∧ Hid (∀ a ∈ r, 1 ≤ a ∧ a ≤ 8))
    case atStart => exact ⟨r0, 8, rfl, HL8, HCL, HBB, HGd, HL8, HRN, HRR⟩
    case round =>
      obtain ⟨r, f, rfl, hkx, hcl, hbl, hgr, hlf, hnd, hrg⟩ := hrel
      have hLr : ∀ z ∈ leftV via S r, 1 ≤ z ∧ z ≤ 8 := fun z hz => unhide HSR z (left_sub hz)
      have HZI := hide (gL_zero hLr)
      by_cases hz : (leftV via S r).length = 0
      · have h0 : gL (leftV via S r) = 0 := (unhide HZI).2 hz
        rw [h0] at hcl
        have c0 := (unhide hcl).1
        have HGE : Hid (Gd = r) := hide (by rw [← unhide hgr]; exact grd_end hz)
        have HRES : Hid (strN (hasB (gL r)) 8 = sortV (grdV via S ls 8 r0)) := hide (by rw [unhide HGd, unhide HGE]; exact gL_list (unhide hnd) (unhide hrg))
        have hlt := gN_lt (fun z => r.contains z)
        clear hLr HZI
        go_wp2_with fail
        refine (addrs (gL r) _ (by unfold gL; omega)).mono ?_
        rintro e w9 ⟨v9, rfl, b9, hl9⟩
        rw [unhide HRES] at hl9
        have HB9 := hide ((unhide HB7).trans (((unhide hbl).trans (b9.mono (unhide hbl).size)).mono (unhide HB7).size))
        have HV9 := hide (hl9.mono (lo' := w.heap.size) (Nat.le_trans (unhide HB7).size (unhide hbl).size) (Nat.le_refl _))
        clear b9 hl9
        go_wp2_with fail
        go_ret2
        exact ⟨_, rfl, unhide HB9, unhide HV9⟩
      · have hne : ((gL (leftV via S r) : Int) != 0) = true := by
          have : ¬ gL (leftV via S r) = 0 := fun e => hz ((unhide HZI).1 e)
          simp; omega
        have hpos : 0 < (leftV via S r).length := by omega
        obtain ⟨bi, hbi⟩ := pick_some (via := via) (S := S) (L := leftV via S r) (ls := ls) (fun z hz => unhide HSV z (left_sub hz)) hpos
        have hb1 := pick_lt hbi
        have hn0 : 0 < ls.length := by omega
        have hmx : maxV (worth (gnV S via (leftV via S r)) (dgV S via)) ls (ls.length - 1) = ls.getD bi Lk.R.zero := by
          have e1 : gnV S via (leftV via S r) = fun a => (cntV via (leftV via S r) a : Int) := by
            funext a
            have := gain_count (cd := condS ms ls me now) (via := via) (r := r) (a := a)
            rw [← unhide HSC] at this
            rw [← this]; rfl
          have e2 : dgV S via = fun a => (cntV via S a : Int) := by
            funext a
            have := deg_count (cd := condS ms ls me now) (via := via) (a := a)
            rw [← unhide HSC] at this
            rw [← this]; rfl
          rw [e1, e2]
          have := pick_max (via := via) (S := S) (L := leftV via S r) (ls := ls) (f := worth (fun a => (cntV via (leftV via S r) a : Int)) (fun a => (cntV via S a : Int))) (fun i j hij hj => worth_bet (unhide HLU j i hij hj)) (ls.length - 1) (by omega)
          exact this.2 bi (by rw [show ls.length - 1 + 1 = ls.length by omega]; exact hbi)
        have HGS : Hid (∀ f', grdV via S ls (f' + 1) r = grdV via S ls f' (r ++ [(ls.getD bi Lk.R.zero).ad])) := hide (fun f' => grd_step hbi)
        have HLS : Hid ((leftV via S (r ++ [(ls.getD bi Lk.R.zero).ad])).length < (leftV via S r).length) := hide (left_less hb1.2)
        have hxr := unhide HLR bi hb1.1
        have HND : Hid (r ++ [(ls.getD bi Lk.R.zero).ad]).Nodup := hide (app_nodup (unhide hnd) (gain_new hb1.2))
        have HRG2 : Hid (∀ a ∈ r ++ [(ls.getD bi Lk.R.zero).ad], 1 ≤ a ∧ a ≤ 8) := hide (fun a ha => by
          rcases List.mem_append.1 ha with h | h
          · exact unhide hrg a h
          · rw [List.mem_singleton] at h; subst h; exact hxr)
        have HMF := hide (fun W h1 h2 h3 => maxFunc b ls capl G lb (gL S) (vN S via) S via (leftV via S r) W hn0 h8 (unhide HLR) h1 h2 h3)
        rw [hmx] at HMF
        clear hmx hbi hb1 HZI hLr hz
        generalize ls.getD bi Lk.R.zero = x at *
        obtain ⟨xa, xh, xs, xi, xo, xw⟩ := x
        have hxv : Lk.R.value ⟨xa, xh, xs, xi, xo, xw⟩ = .agg #[.int .i64 xa, .int .i64 xh, .int .i64 xs, .int .i64 xi, .int .i64 xo, .int .i64 xw] := rfl
        rw [hxv] at HMF
        clear hxv
        dsimp only at HGS HLS hxr HND HRG2
        obtain ⟨q, rfl⟩ : ∃ q : Nat, xa = (q : Int) := ⟨xa.toNat, by omega⟩
        have hq9 : q < 9 := by omega
        have q0 : (0 : Int) ≤ (q : Int) := by omega
        have q9 : (q : Int) < 9 := by omega
        clear hxr
        have HOR := hide (gL_app r (q : Int))
        have HAN2 : Hid (bits .andNot .u16 (gL (leftV via S r) : Int) (rN S via q : Int) = (gL (leftV via S (r ++ [(q : Int)])) : Int)) := hide less_group
        obtain ⟨f1, rfl⟩ : ∃ f1, f = f1 + 1 := ⟨f - 1, by have := unhide hlf; omega⟩
        have HGR2 : Hid (grdV via S ls f1 (r ++ [(q : Int)]) = Gd) := hide (by rw [← unhide HGS]; exact unhide hgr)
        have HLF2 : Hid ((leftV via S (r ++ [(q : Int)])).length ≤ f1) := hide (by have := unhide hlf; have := unhide HLS; omega)
        have hdec : (leftV via S (r ++ [(q : Int)])).length < gk := by have := unhide hkx; have := unhide HLS; omega
        clear HGS HLS hgr hlf hnd hrg hkx hpos
        have c0 := (unhide hcl).1
        have HLw := hide ((unhide HL7).below (unhide hbl))
        have HGw := hide ((unhide HG7).below (unhide hbl))
        have hgl := (unhide HG7).lt
        go_wp2_with fail
        refine (unhide HMF _ (unhide HLw) (unhide HGw) (unhide hcl).1).mono ?_
        rintro e w9 ⟨rfl, b9⟩
        have HCL9 := hide ((unhide hcl).below b9)
        have HB9 := hide ((unhide hbl).trans (b9.mono (unhide hbl).size))
        clear b9 c0
        have HBn := hide ((unhide HB9).alloc (unhide HB9).size (.cells #[.int .i64 (q : Int), .int .i64 xh, .int .i64 xs, .int .i64 xi, .int .i64 xo, .int .i64 xw] 30))
        have HX := hide (bf_new w9 ⟨(q : Int), xh, xs, xi, xo, xw⟩ 30)
        have HCLn := hide ((unhide HCL9).below ((Below.refl _ _).alloc (Nat.le_refl _) (.cells #[.int .i64 (q : Int), .int .i64 xh, .int .i64 xs, .int .i64 xi, .int .i64 xo, .int .i64 xw] 30)))
        go_wp2_with fail
        have HRq : Hid (In.RM ((w9.alloc (.cells #[.int .i64 (q : Int), .int .i64 xh, .int .i64 xs, .int .i64 xi, .int .i64 xo, .int .i64 xw] 30)).alloc (.cells #[.int .i64 (q : Int)] 3)) (some ⟨w9.heap.size + 1, 0, none⟩) [(q : Int)]) := hide (by
          have := In.rm_new (w9.alloc (.cells #[.int .i64 (q : Int), .int .i64 xh, .int .i64 xs, .int .i64 xi, .int .i64 xo, .int .i64 xw] 30)) (q : Int)
          rw [World.size_alloc] at this; exact this)
        have HB10 := hide ((unhide HBn).alloc (unhide HBn).size (.cells #[.int .i64 (q : Int)] 3))
        have HX10 := hide ((unhide HX).below ((Below.refl _ _).alloc (Nat.le_refl _) (.cells #[.int .i64 (q : Int)] 3)))
        have HC10 := hide ((unhide HCLn).below ((Below.refl _ _).alloc (Nat.le_refl _) (.cells #[.int .i64 (q : Int)] 3)))
        refine (groupOf _ [(q : Int)] _ _ (by simp) (unhide HRq)).mono ?_
        rintro e w11 ⟨rfl, hw11⟩
        generalize hW : (w9.alloc (.cells #[.int .i64 (q : Int), .int .i64 xh, .int .i64 xs, .int .i64 xi, .int .i64 xo, .int .i64 xw] 30)).alloc (.cells #[.int .i64 (q : Int)] 3) = w10 at *
        rw [hw11]
        clear hw11 hW HBn HX HCLn HCL9 HB9 HRq
        go_wp2_with fail
        rw [unhide HOR]
        have HG10 := hide ((unhide HG7).below (unhide HB10))
        have HS : Hid (∀ w', Below w10.heap.size w10 w' → w'.cell? ⟨w9.heap.size, 0, none⟩ = some (.int .i64 (q : Int)) ∧ w'.cell? ⟨G, 10 + q, none⟩ = some (.int .u16 (rN S via q))) := hide (fun w' hb => ⟨((unhide HX10).below hb).1.1, (((unhide HG10).below hb).r hq9).1⟩)
        have HSf : Hid (∀ y : Int, (w10.drew.setCell ⟨lb, 0, none⟩ (.int .u16 y)).cell? ⟨w9.heap.size, 0, none⟩ = some (.int .i64 (q : Int)) ∧ (w10.drew.setCell ⟨lb, 0, none⟩ (.int .u16 y)).cell? ⟨G, 10 + q, none⟩ = some (.int .u16 (rN S via q))) := hide (fun y => by
          have h1 := unhide HS _ ((Below.refl w10.heap.size w10).drew)
          refine ⟨?_, ?_⟩
          · rw [World.cell?_setCell_other _ _ _ _ (by
              intro e
              injection e with e1 _ _
              have h2 := (unhide HX10).1.1
              have h3 := (unhide HC10).1
              rw [e1] at h3
              rw [h3] at h2
              cases h2)]
            exact h1.1
          · rw [World.cell?_setCell_other _ _ _ _ (by intro e; injection e with e1 e2 _; omega)]; exact h1.2)
        obtain ⟨cz, fz⟩ := unhide HC10
        have HCf := hide ((unhide HC10).below ((Below.refl _ _).drew) |>.set (gL (leftV via S (r ++ [(q : Int)]))))
        have HBf := hide ((unhide HB10).drew.setCell (p := ⟨lb, 0, none⟩) hlo (.int .u16 (gL (leftV via S (r ++ [(q : Int)])))))
        refine wp_region_noPanic ?_
        refine wp_region_held_drew (S := fun w' => w'.cell? ⟨w9.heap.size, 0, none⟩ = some (.int .i64 (q : Int)) ∧ w'.cell? ⟨G, 10 + q, none⟩ = some (.int .u16 (rN S via q))) (by kernel_rfl) (unhide HS _ ((Below.refl _ _).drew)) (fun hHeld => ?_)
        (refine Rg.tk (i := 1) (d := 52) (v := ?_) rfl rfl (by kernel_rfl) (by kernel_rfl) (by kernel_rfl) (fun _ _ _ h => h) (by rfl) ?_ (by assumption) ?_; rotate_left; (focus (intro w0 hSw; (try dsimp only at hSw); go_simp; (try with_reducible rfl))); (try simp only [Act.put, List.setIfInBounds_toArray, List.set_cons_zero, List.set_cons_succ]))
        (refine Rg.tk (i := 2) (d := 53) (v := ?_) rfl rfl (by kernel_rfl) (by kernel_rfl) (by kernel_rfl) (fun _ _ _ h => h) (by rfl) ?_ (by assumption) ?_; rotate_left; (focus (intro w0 hSw; (try dsimp only at hSw); go_simp; (try with_reducible rfl))); (try simp only [Act.put, List.setIfInBounds_toArray, List.set_cons_zero, List.set_cons_succ]))
        (refine Rg.tk (i := 3) (d := 54) (v := ?_) rfl rfl (by kernel_rfl) (by kernel_rfl) (by kernel_rfl) (fun _ _ _ h => h) (by rfl) ?_ (by assumption) ?_; rotate_left; (focus (intro w0 hSw; (try dsimp only at hSw); go_simp; (try with_reducible rfl))); (try simp only [Act.put, List.setIfInBounds_toArray, List.set_cons_zero, List.set_cons_succ]))
        (refine Rg.tk (i := 4) (d := 55) (v := ?_) rfl rfl (by kernel_rfl) (by kernel_rfl) (by kernel_rfl) (fun _ _ _ h => h) (by rfl) ?_ (by assumption) ?_; rotate_left; (focus (intro w0 hSw; (try dsimp only at hSw); go_simp; (try with_reducible rfl))); (try simp only [Act.put, List.setIfInBounds_toArray, List.set_cons_zero, List.set_cons_succ]))
        (refine Rg.tk (i := 5) (d := 56) (v := ?_) rfl rfl (by kernel_rfl) (by kernel_rfl) (by kernel_rfl) (fun _ _ _ h => h) (by rfl) ?_ (by assumption) ?_; rotate_left; (focus (intro w0 hSw; (try dsimp only at hSw); go_simp; (try with_reducible rfl))); (try simp only [Act.put, List.setIfInBounds_toArray, List.set_cons_zero, List.set_cons_succ]))
        (refine wpAnyH_ready (rs := [0]) (by kernel_rfl) (by simp) ?_; refine AllReadyH.cons (o := _) rfl (fun K hK => ?_) AllReadyH.nil; go_simp)
        clear hHeld
        refine hK.out _ _ (unhide HS _ ((Below.refl _ _).drew)) (fun hHeld => ?_)
        clear hK K
        (try simp only [Act.put, List.setIfInBounds_toArray, List.set_cons_zero, List.set_cons_succ])
        (refine Rg.tk (i := 6) (d := 57) (v := .int .u16 (gL (leftV via S (r ++ [(q : Int)])))) rfl rfl (by kernel_rfl) (by kernel_rfl) (by kernel_rfl) (fun _ _ _ h => h) (by rfl) ?_ (by assumption) ?_; (focus (intro w0 hSw; (try dsimp only at hSw); go_simp)); (try simp only [Act.put, List.setIfInBounds_toArray, List.set_cons_zero, List.set_cons_succ]))
        · rw [unhide HAN2]
        (refine wpAnyH_ready (rs := [7]) (by kernel_rfl) (by simp) ?_; refine AllReadyH.cons (o := _) rfl (fun K hK => ?_) AllReadyH.nil; go_simp)
        clear hHeld
        refine hK.out _ _ (unhide HSf _) (fun hHeld => ?_)
        clear hK K
        (try simp only [Act.put, List.setIfInBounds_toArray, List.set_cons_zero, List.set_cons_succ])
        refine wpAnyH_done (by kernel_rfl) (NoPanic.normal ?_) _
        clear hHeld cz fz HS HSf
        go_wp2_with fail
        go_roundg ((leftV via S (r ++ [(q : Int)])).length)
        case measure => exact hdec
        case rel => exact ⟨r ++ [(q : Int)], f1, rfl, hide (Nat.le_refl _), HCf, HBf, HGR2, HLF2, HND, HRG2⟩
end Gp
end Go.Proofs.Ytpknahhdapmcoac
namespace Go.Proofs.Ytpknahhdapmcoac
set_option linter.unusedVariables false
set_option linter.unusedSimpArgs false
namespace Gp
open W1 Tu St Tw Mr
theorem grd_len (via : Int → List Int) (S : List Int) (ls : List Lk.R) : ∀ (f : Nat) (out : List Int), (grdV via S ls f out).length ≤ out.length + f
  | 0, out => Nat.le_refl _
  | f + 1, out => by
    unfold grdV
    cases hp : pickV via S (leftV via S out) ls ls.length with
    | none => exact Nat.le_add_right _ _
    | some b =>
      have := grd_len via S ls f (out ++ [(ls.getD b Lk.R.zero).ad])
      rw [List.length_append, List.length_singleton] at this
      simp only; omega
theorem fld_len (ms : List R) (ls : List Lk.R) (me now : Int) : (fldA ms ls me now).length ≤ 1048576 := by
  unfold fldA
  split
  · rename_i h
    have h8 := Ln.links_len (codeTL_ok h).2
    unfold fldV
    generalize hG : grdV (viaF ms ls now) (strF ms ls me now) ls 8 (onesV (viaF ms ls now) (strF ms ls me now) (alwV ls now ls.length)) = G
    have h1 := sort_len G G.length (Nat.le_refl _)
    rw [List.take_length] at h1
    rw [h1, ← hG]
    have h2 := grd_len (viaF ms ls now) (strF ms ls me now) ls 8 (onesV (viaF ms ls now) (strF ms ls me now) (alwV ls now ls.length))
    have h3 := ones_len (viaF ms ls now) (strF ms ls me now) (alwV ls now ls.length) (strF ms ls me now).length (Nat.le_refl _)
    rw [List.take_length] at h3
    have h4 := alw_len ls now ls.length
    have h5 := str_len ms ls me now
    omega
  · simp
end Gp
end Go.Proofs.Ytpknahhdapmcoac
