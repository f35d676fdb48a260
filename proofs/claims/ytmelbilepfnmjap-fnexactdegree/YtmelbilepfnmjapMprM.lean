/-
  Mathematics of relays: how many one reaches, who is left, what is chosen, lists in order.
-/
import Derived.Test.YtmelbilepfnmjapTwoN
namespace Go.Proofs.Ytmelbilepfnmjap
set_option linter.unusedVariables false
namespace Mr
open W1
/-- By whom an address is two hops off; the strict two-hop neighbors. -/
def viaF (ms : List Tu.R) (ls : List Lk.R) (now : Int) (z : Int) : List Int := Tw.viaL (Tw.findT ms) ls z now ls.length
def strF (ms : List Tu.R) (ls : List Lk.R) (me now : Int) : List Int := Tw.strN (Tw.condS ms ls me now) 8
/-- How many of a list one reaches. -/
def cntV (via : Int → List Int) (L : List Int) (a : Int) : Nat := (L.filter (fun z => (via z).contains a)).length
theorem zs_take {zs : List Int} {i : Nat} (h : i < zs.length) : zs.take (i + 1) = zs.take i ++ [zs.getD i 0] := by
  rw [List.take_add_one, List.getElem?_eq_getElem h, List.getD_eq_getElem?_getD, List.getElem?_eq_getElem h]; rfl
theorem cnt_yes {via : Int → List Int} {L : List Int} {a : Int} {j : Nat} (h : j < L.length) (hk : (via (L.getD j 0)).contains a = true) : cntV via (L.take (j + 1)) a = cntV via (L.take j) a + 1 := by
  unfold cntV; rw [zs_take h, List.filter_append, List.filter_cons_of_pos (p := fun z => (via z).contains a) hk]; simp
theorem cnt_no {via : Int → List Int} {L : List Int} {a : Int} {j : Nat} (h : j < L.length) (hk : (via (L.getD j 0)).contains a = false) : cntV via (L.take (j + 1)) a = cntV via (L.take j) a := by
  unfold cntV; rw [zs_take h, List.filter_append, List.filter_cons_of_neg (by rw [hk]; simp)]; simp
theorem cnt_le (via : Int → List Int) (L : List Int) (a : Int) (j : Nat) : cntV via (L.take j) a ≤ j := by
  unfold cntV
  have := List.length_filter_le (fun z => (via z).contains a) (L.take j)
  have := List.length_take_le j L
  omega
/-- Whether relays reach an address; who is left. -/
def hitV (via : Int → List Int) (rs : List Int) (z : Int) : Bool := rs.any (fun r => (via z).contains r)
def leftV (via : Int → List Int) (L rs : List Int) : List Int := L.filter (fun z => !hitV via rs z)
theorem hit_step {via : Int → List Int} {rs : List Int} {z : Int} {k : Nat} (h : k < rs.length) : hitV via (rs.take (k + 1)) z = (hitV via (rs.take k) z || (via z).contains (rs.getD k 0)) := by
  unfold hitV; rw [zs_take h, List.any_append]; simp
theorem left_yes {via : Int → List Int} {L rs : List Int} {j : Nat} (h : j < L.length) (hk : hitV via rs (L.getD j 0) = false) : leftV via (L.take (j + 1)) rs = leftV via (L.take j) rs ++ [L.getD j 0] := by
  unfold leftV; rw [zs_take h, List.filter_append, List.filter_cons_of_pos (by rw [hk]; rfl)]; rfl
theorem left_no {via : Int → List Int} {L rs : List Int} {j : Nat} (h : j < L.length) (hk : hitV via rs (L.getD j 0) = true) : leftV via (L.take (j + 1)) rs = leftV via (L.take j) rs := by
  unfold leftV; rw [zs_take h, List.filter_append, List.filter_cons_of_neg (by rw [hk]; simp)]; simp
theorem left_len (via : Int → List Int) (L rs : List Int) : (leftV via L rs).length ≤ L.length := List.length_filter_le _ _
/-- One put in behind all that are not above it, from the end on. -/
def tailN (out : List Int) (x : Int) : Nat := (out.reverse.takeWhile (fun y => decide (x < y))).length
def insV (out : List Int) (x : Int) : List Int := out.take (out.length - tailN out x) ++ [x] ++ out.drop (out.length - tailN out x)
def sortV (L : List Int) : List Int := L.foldl insV []
theorem sort_step {L : List Int} {j : Nat} (h : j < L.length) : sortV (L.take (j + 1)) = insV (sortV (L.take j)) (L.getD j 0) := by
  unfold sortV; rw [zs_take h, List.foldl_append]; rfl
theorem ins_len (out : List Int) (x : Int) : (insV out x).length = out.length + 1 := by
  unfold insV; simp; omega
theorem sort_len (L : List Int) : ∀ j, j ≤ L.length → (sortV (L.take j)).length = j
  | 0, _ => by simp [sortV]
  | j + 1, h => by rw [sort_step (by omega), ins_len, sort_len L j (by omega)]
theorem take_tail : ∀ (L : List Int) (x : Int) (k : Nat), k ≤ L.length → (∀ i, i < k → x < L.getD i 0) → (k < L.length → ¬ x < L.getD k 0) → (L.takeWhile (fun y => decide (x < y))).length = k
  | [], _, 0, _, _, _ => rfl
  | [], _, k + 1, h, _, _ => by simp at h
  | y :: t, x, 0, _, _, h2 => by
    have := h2 (by simp)
    simp at this
    rw [List.takeWhile_cons_of_neg (by simp; omega)]; rfl
  | y :: t, x, k + 1, h, h1, h2 => by
    have h0 := h1 0 (by omega)
    simp at h0
    rw [List.takeWhile_cons_of_pos (by simpa using h0), List.length_cons, take_tail t x k (by simp at h; omega) (fun i hi => by have := h1 (i + 1) (by omega); simpa using this) (fun hk => by have := h2 (by simp; omega); simpa using this)]
theorem rev_get {L : List Int} {i : Nat} (h : i < L.length) : L.reverse.getD i 0 = L.getD (L.length - 1 - i) 0 := by
  rw [List.getD_eq_getElem?_getD, List.getD_eq_getElem?_getD, List.getElem?_reverse h]
/-- The place, found from the end on. -/
theorem tail_of {out : List Int} {x : Int} {k : Nat} (hk : k ≤ out.length) (h1 : ∀ i, k ≤ i → i < out.length → x < out.getD i 0) (h2 : 0 < k → ¬ x < out.getD (k - 1) 0) : out.length - tailN out x = k := by
  have : tailN out x = out.length - k := by
    unfold tailN
    refine take_tail _ x _ (by rw [List.length_reverse]; omega) (fun i hi => ?_) (fun hlt => ?_)
    · rw [rev_get (by omega)]; exact h1 _ (by omega) (by omega)
    · rw [List.length_reverse] at hlt
      rw [rev_get (by omega), show out.length - 1 - (out.length - k) = k - 1 by omega]; exact h2 (by omega)
  omega
/-- Rising lists of addresses without two alike are told by who is in them. -/
theorem ins_mem {out : List Int} {x z : Int} : z ∈ insV out x ↔ z = x ∨ z ∈ out := by
  unfold insV
  rw [List.mem_append, List.mem_append, List.mem_singleton]
  constructor
  · rintro ((h | h) | h)
    · exact .inr (List.mem_of_mem_take h)
    · exact .inl h
    · exact .inr (List.mem_of_mem_drop h)
  · rintro (h | h)
    · exact .inl (.inr h)
    · rw [← List.take_append_drop (out.length - tailN out x) out, List.mem_append] at h
      rcases h with h | h
      · exact .inl (.inl h)
      · exact .inr h
abbrev UpI (L : List Int) : Prop := L.Pairwise (fun a b => a < b)
theorem tw_mem {x z : Int} : ∀ (L : List Int), z ∈ L.takeWhile (fun y => decide (x < y)) → x < z
  | [], h => by cases h
  | y :: t, h => by
    by_cases hy : x < y
    · rw [List.takeWhile_cons_of_pos (by simpa using hy)] at h
      rcases List.mem_cons.1 h with rfl | h
      · exact hy
      · exact tw_mem t h
    · rw [List.takeWhile_cons_of_neg (by simpa using hy)] at h; cases h
theorem rev_tail (out : List Int) (x : Int) : ∀ z ∈ out.drop (out.length - tailN out x), x < z := by
  intro z hz
  have h1 := List.takeWhile_append_dropWhile (p := fun y => decide (x < y)) (l := out.reverse)
  have h2 := congrArg List.reverse h1
  rw [List.reverse_append, List.reverse_reverse] at h2
  have hl : out.length - tailN out x = ((out.reverse.dropWhile (fun y => decide (x < y))).reverse).length := by
    have h3 := congrArg List.length h1
    rw [List.length_append, List.length_reverse] at h3
    rw [List.length_reverse]; unfold tailN; omega
  rw [hl] at hz
  have h4 := congrArg (List.drop ((out.reverse.dropWhile (fun y => decide (x < y))).reverse).length) h2
  rw [List.drop_left] at h4
  rw [← h4, List.mem_reverse] at hz
  exact tw_mem _ hz
theorem take_low {out : List Int} {x : Int} (h : UpI out) : ∀ z ∈ out.take (out.length - tailN out x), z ≤ x := by
  intro z hz
  obtain ⟨i, hi, rfl⟩ := List.getElem_of_mem hz
  rw [List.getElem_take]
  have hik : i < out.length - tailN out x ∧ i < out.length := by simp at hi; omega
  have hlt : tailN out x < out.length := by omega
  have hstop : ¬ x < out.getD (out.length - 1 - tailN out x) 0 := by
    have h4 : out.reverse.getD (tailN out x) 0 = out.getD (out.length - 1 - tailN out x) 0 := rev_get hlt
    rw [← h4]
    unfold tailN
    have hne : out.reverse.dropWhile (fun y => decide (x < y)) ≠ [] := by
      intro e
      have h1 := List.takeWhile_append_dropWhile (p := fun y => decide (x < y)) (l := out.reverse)
      rw [e, List.append_nil] at h1
      have := congrArg List.length h1
      rw [List.length_reverse] at this
      unfold tailN at hlt; omega
    have h1 := List.takeWhile_append_dropWhile (p := fun y => decide (x < y)) (l := out.reverse)
    have hh := List.head_dropWhile_not (fun y => decide (x < y)) hne
    have hg : out.reverse.getD ((out.reverse.takeWhile (fun y => decide (x < y))).length) 0 = (out.reverse.dropWhile (fun y => decide (x < y))).head hne := by
      conv => lhs; arg 1; rw [← h1]
      rw [List.getD_eq_getElem?_getD, List.getElem?_append_right (Nat.le_refl _), Nat.sub_self, ← List.head?_eq_getElem?, List.head?_eq_some_head hne]; rfl
    rw [hg]
    simpa using hh
  have hle : out[i] ≤ out.getD (out.length - 1 - tailN out x) 0 := by
    rw [List.getD_eq_getElem?_getD, List.getElem?_eq_getElem (by omega)]
    show out[i] ≤ out[out.length - 1 - tailN out x]
    by_cases e : i = out.length - 1 - tailN out x
    · subst e; exact Int.le_refl _
    · exact Int.le_of_lt ((List.pairwise_iff_getElem.1 h) i _ hik.2 (by omega) (by omega))
  omega
theorem ins_up {out : List Int} {x : Int} (h : UpI out) (hx : x ∉ out) : UpI (insV out x) := by
  unfold insV
  rw [UpI, List.append_assoc, List.pairwise_append]
  refine ⟨h.sublist (List.take_sublist _ _), ?_, fun a ha b hb => ?_⟩
  · rw [List.singleton_append, List.pairwise_cons]
    exact ⟨fun z hz => rev_tail out x z hz, h.sublist (List.drop_sublist _ _)⟩
  · have h1 := take_low h a ha
    have h2 : a ≠ x := fun e => hx (by rw [← e]; exact List.mem_of_mem_take ha)
    rw [List.singleton_append, List.mem_cons] at hb
    rcases hb with rfl | hb
    · omega
    · have := rev_tail out x b hb; omega
theorem sort_up : ∀ (L : List Int), L.Nodup → ∀ j, j ≤ L.length → UpI (sortV (L.take j)) ∧ ∀ z, z ∈ sortV (L.take j) ↔ z ∈ L.take j
  | L, hn, 0, _ => by simp [sortV, UpI]
  | L, hn, j + 1, h => by
    obtain ⟨h1, h2⟩ := sort_up L hn j (by omega)
    rw [sort_step (by omega)]
    have hx : L.getD j 0 ∉ L.take j := by
      intro hm
      obtain ⟨i, hi, e⟩ := List.getElem_of_mem hm
      have hij : i < j ∧ i < L.length := by simp at hi; omega
      rw [List.getElem_take] at e
      rw [List.getD_eq_getElem?_getD, List.getElem?_eq_getElem (by omega)] at e
      have := (List.pairwise_iff_getElem.1 hn) i j hij.2 (by omega) hij.1
      exact this e
    refine ⟨ins_up h1 (fun hm => hx ((h2 _).1 hm)), fun z => ?_⟩
    rw [ins_mem, h2, zs_take (by omega), List.mem_append, List.mem_singleton]
    exact Or.comm
theorem up_str : ∀ (L : List Int) (n : Nat), UpI L → (∀ z ∈ L, 1 ≤ z) → L.filter (fun z => decide (z ≤ (n : Int))) = Tw.strN (fun a => L.contains a) n
  | L, 0, _, h1 => by
    rw [Tw.filter_none (fun z hz => by have := h1 z hz; simp; omega)]; rfl
  | L, n + 1, h, h1 => by
    have ih := up_str L n h h1
    have key : L.filter (fun z => decide (z ≤ ((n + 1 : Nat) : Int))) = L.filter (fun z => decide (z ≤ (n : Int))) ++ (if L.contains ((n : Int) + 1) = true then [(n : Int) + 1] else []) := by
      clear ih h1
      induction L with
      | nil => rfl
      | cons m t iht =>
        obtain ⟨p1, p2⟩ := List.pairwise_cons.1 h
        have ih2 := iht p2
        rcases Int.lt_trichotomy m ((n : Int) + 1) with hk | hk | hk
        · rw [List.filter_cons_of_pos (by simp; omega), List.filter_cons_of_pos (by simp; omega), ih2, List.contains_cons, show ((n : Int) + 1 == m) = false by simp; omega]; rfl
        · subst hk
          rw [List.filter_cons_of_pos (by simp), List.filter_cons_of_neg (by simp; omega), Tw.filter_none (fun z hz => by have := p1 z hz; simp; omega), Tw.filter_none (fun z hz => by have := p1 z hz; simp; omega)]
          simp
        · rw [List.filter_cons_of_neg (by simp; omega), List.filter_cons_of_neg (by simp; omega), ih2, List.contains_cons, show ((n : Int) + 1 == m) = false by simp; omega]; rfl
    rw [key, ih]
    cases hc : L.contains ((n : Int) + 1)
    · rw [Tw.strN_no (c := fun a => L.contains a) hc]; simp
    · rw [Tw.strN_yes (c := fun a => L.contains a) hc]; simp
theorem str_congr {c d : Int → Bool} (n : Nat) (h : ∀ z, c z = d z) : Tw.strN c n = Tw.strN d n := by rw [show c = d from funext h]
theorem sort_str {L : List Int} (hn : L.Nodup) (hr : ∀ z ∈ L, 1 ≤ z ∧ z ≤ 8) : sortV L = Tw.strN (fun a => L.contains a) 8 := by
  obtain ⟨h1, h2⟩ := sort_up L hn L.length (Nat.le_refl _)
  rw [List.take_length] at h1 h2
  have h3 := up_str (sortV L) 8 h1 (fun z hz => (hr z ((h2 z).1 hz)).1)
  rw [List.filter_eq_self.2 (fun z hz => by have := (hr z ((h2 z).1 hz)).2; simp; omega)] at h3
  rw [h3]
  refine str_congr 8 (fun z => ?_)
  have : z ∈ sortV L ↔ z ∈ L := h2 z
  rw [Bool.eq_iff_iff]; simp [this]
end Mr
end Go.Proofs.Ytmelbilepfnmjap
