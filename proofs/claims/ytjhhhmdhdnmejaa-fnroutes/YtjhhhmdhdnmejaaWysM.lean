/-
  Mathematics of ways: which of two comes ahead; the best ways of a graph are one; heaps of ways; how ways become known.
-/
import Derived.Test.YtjhhhmdhdnmejaaRecRoute
import Derived.Test.YtjhhhmdhdnmejaaTwoM
namespace Go.Proofs.Ytjhhhmdhdnmejaa
set_option linter.unusedVariables false
set_option linter.unusedSimpArgs false
namespace Wd
open Ro
/-- One way comes ahead of another: it costs less, or as much with fewer hops, or with as many by a lower first hop. -/
def Bt (x y : R) : Prop := x.co < y.co ∨ x.co = y.co ∧ (x.hp < y.hp ∨ x.hp = y.hp ∧ x.nx < y.nx)
def btB (x y : R) : Bool := decide (x.co < y.co) || (x.co == y.co) && (decide (x.hp < y.hp) || (x.hp == y.hp) && decide (x.nx < y.nx))
theorem btB_iff {x y : R} : btB x y = true ↔ Bt x y := by unfold btB Bt; simp
theorem btB_no {x y : R} : btB x y = false ↔ ¬ Bt x y := by rw [← btB_iff]; simp
theorem no_self (x : R) : ¬ Bt x x := by unfold Bt; omega
theorem no_trans {x y z : R} (h1 : ¬ Bt y x) (h2 : ¬ Bt z y) : ¬ Bt z x := by unfold Bt at *; omega
theorem bt_no {x y : R} (h : Bt x y) : ¬ Bt y x := by unfold Bt at *; omega
theorem no_both {x y : R} (hd : x.ds = y.ds) (h1 : ¬ Bt y x) (h2 : ¬ Bt x y) : x = y := by
  obtain ⟨a, b, c, d⟩ := x
  obtain ⟨a', b', c', d'⟩ := y
  unfold Bt at h1 h2
  dsimp only at hd h1 h2
  obtain ⟨h3, h4, h5⟩ : b = b' ∧ c = c' ∧ d = d' := by omega
  rw [hd, h3, h4, h5]
/-- A way with one edge more. -/
def ext (x : R) (v c : Int) : R := ⟨v, if x.hp = 0 then v else x.nx, x.co + c, x.hp + 1⟩
/-- There is an edge. -/
def Ed (g : List Tu.R) (u v c : Int) : Prop := ∃ m ∈ g, Tw.hv m = u ∧ Tw.ha m = v ∧ m.val = c
/-- The best ways of a graph from one address: to itself, each with one before it, and no edge makes a better one. -/
structure Good (g : List Tu.R) (f : Int) (L : Int → Option R) : Prop where
  own : L f = some ⟨f, 0, 0, 0⟩
  to : ∀ v x, L v = some x → x.ds = v ∧ 0 ≤ x.co ∧ 0 ≤ x.hp
  from' : ∀ v x, L v = some x → v ≠ f → ∃ u y c, L u = some y ∧ Ed g u v c ∧ x = ext y v c
  least : ∀ u y v c, L u = some y → Ed g u v c → ∃ x, L v = some x ∧ ¬ Bt (ext y v c) x
def Pos (g : List Tu.R) : Prop := ∀ m ∈ g, 1 ≤ m.val
theorem ed_pos {g : List Tu.R} (h : Pos g) {u v c : Int} (he : Ed g u v c) : 1 ≤ c := by obtain ⟨m, hm, _, _, rfl⟩ := he; exact h m hm
theorem hp_one {g : List Tu.R} {f : Int} {L : Int → Option R} (hg : Good g f L) {v : Int} {x : R} (h : L v = some x) (hv : v ≠ f) : 1 ≤ x.hp := by
  obtain ⟨u, y, c, hu, _, rfl⟩ := hg.from' v x h hv
  have := (hg.to u y hu).2.2
  unfold ext; dsimp only; omega
theorem best_le {g : List Tu.R} (hp : Pos g) {f : Int} {L L' : Int → Option R} (h : Good g f L) (h' : Good g f L') :
    ∀ n : Nat, ∀ v x, L v = some x → x.co < n → ∃ x', L' v = some x' ∧ ¬ Bt x x' := by
  intro n
  induction n with
  | zero => intro v x hx hn; have := (h.to v x hx).2.1; omega
  | succ n ih =>
    intro v x hx hn
    by_cases hv : v = f
    · subst hv
      rw [h.own] at hx
      cases hx
      exact ⟨_, h'.own, no_self _⟩
    · obtain ⟨u, y, c, hu, he, rfl⟩ := h.from' v x hx hv
      have hc := ed_pos hp he
      obtain ⟨y', hy', hb⟩ := ih u y hu (by unfold ext at hn; dsimp only at hn; omega)
      obtain ⟨x', hx', hb'⟩ := h'.least u y' v c hy' he
      refine ⟨x', hx', ?_⟩
      by_cases hf : u = f
      · subst hf
        rw [h.own] at hu; rw [h'.own] at hy'
        cases hu; cases hy'; exact hb'
      · have h1 := hp_one h hu hf
        have h2 := hp_one h' hy' hf
        refine no_trans hb' ?_
        unfold ext Bt at *
        dsimp only
        rw [if_neg (by omega), if_neg (by omega)]
        omega
theorem best_one {g : List Tu.R} (hp : Pos g) {f : Int} {L L' : Int → Option R} (h : Good g f L) (h' : Good g f L') : ∀ v, L v = L' v := by
  intro v
  have key : ∀ {L L' : Int → Option R}, Good g f L → Good g f L' → ∀ x, L v = some x → L' v = some x := by
    intro L L' h h' x hx
    have := (h.to v x hx).2.1
    obtain ⟨x', hx', hb⟩ := best_le hp h h' (x.co.toNat + 1) v x hx (by omega)
    have := (h'.to v x' hx').2.1
    obtain ⟨x2, hx2, hb2⟩ := best_le hp h' h (x'.co.toNat + 1) v x' hx' (by omega)
    rw [hx] at hx2; cases hx2
    rw [hx', no_both ((h.to v x hx).1.trans (h'.to v x' hx').1.symm) hb2 hb]
  cases e : L v with
  | none =>
    cases e' : L' v with
    | none => rfl
    | some x => rw [key h' h x e'] at e; cases e
  | some x => exact (key h h' x e).symm
/-! Heaps. -/
def at' (hs : List R) (i : Nat) : R := hs.getD i R.zero
def swp (hs : List R) (i j : Nat) : List R := (hs.set i (at' hs j)).set j (at' hs i)
theorem swp_len (hs : List R) (i j : Nat) : (swp hs i j).length = hs.length := by unfold swp; simp
theorem swp_at (hs : List R) {i j : Nat} (hi : i < hs.length) (hj : j < hs.length) (k : Nat) : at' (swp hs i j) k = if k = j then at' hs i else if k = i then at' hs j else at' hs k := by
  unfold swp at'
  simp only [List.getD_eq_getElem?_getD, List.getElem?_set, List.length_set]
  by_cases h1 : k = j
  · subst h1; simp [hj]
  · rw [if_neg (by omega), if_neg h1]
    by_cases h2 : k = i
    · subst h2; simp [hi]
    · rw [if_neg (by omega), if_neg h2]
theorem at_mem {hs : List R} {i : Nat} (h : i < hs.length) : at' hs i ∈ hs := by
  unfold at'; rw [List.getD_eq_getElem?_getD, List.getElem?_eq_getElem h]; exact List.getElem_mem h
theorem mem_at {hs : List R} {x : R} (h : x ∈ hs) : ∃ i, i < hs.length ∧ at' hs i = x := by
  obtain ⟨i, hi, rfl⟩ := List.getElem_of_mem h
  exact ⟨i, hi, by unfold at'; rw [List.getD_eq_getElem?_getD, List.getElem?_eq_getElem hi]; rfl⟩
theorem swp_mem {hs : List R} {i j : Nat} (hi : i < hs.length) (hj : j < hs.length) (x : R) : x ∈ swp hs i j ↔ x ∈ hs := by
  constructor
  · intro h
    obtain ⟨k, hk, rfl⟩ := mem_at h
    rw [swp_at hs hi hj]
    rw [swp_len] at hk
    split
    · exact at_mem hi
    · split
      · exact at_mem hj
      · exact at_mem hk
  · intro h
    obtain ⟨k, hk, rfl⟩ := mem_at h
    by_cases h1 : k = i
    · subst h1
      have := at_mem (hs := swp hs k j) (i := j) (by rw [swp_len]; exact hj)
      rw [swp_at hs hi hj, if_pos rfl] at this; exact this
    · by_cases h2 : k = j
      · subst h2
        have := at_mem (hs := swp hs i k) (i := i) (by rw [swp_len]; exact hi)
        rw [swp_at hs hi hj, if_neg (by omega), if_pos rfl] at this; exact this
      · have := at_mem (hs := swp hs i j) (i := k) (by rw [swp_len]; exact hk)
        rw [swp_at hs hi hj, if_neg h2, if_neg h1] at this; exact this
def Heap (hs : List R) : Prop := ∀ i, 0 < i → i < hs.length → ¬ Bt (at' hs i) (at' hs ((i - 1) / 2))
/-- A heap but for one at a place that may have to rise, that may have to sink. -/
def UpI (hs : List R) (i : Nat) : Prop := (∀ j, 0 < j → j < hs.length → j ≠ i → ¬ Bt (at' hs j) (at' hs ((j - 1) / 2))) ∧ (∀ j, 0 < j → j < hs.length → (j - 1) / 2 = i → 0 < i → ¬ Bt (at' hs j) (at' hs ((i - 1) / 2)))
def DnI (hs : List R) (i : Nat) : Prop := (∀ j, 0 < j → j < hs.length → (j - 1) / 2 ≠ i → ¬ Bt (at' hs j) (at' hs ((j - 1) / 2))) ∧ (∀ j, 0 < j → j < hs.length → (j - 1) / 2 = i → 0 < i → ¬ Bt (at' hs j) (at' hs ((i - 1) / 2)))
theorem at_snoc_lt {hs : List R} (x : R) {i : Nat} (h : i < hs.length) : at' (hs ++ [x]) i = at' hs i := by
  unfold at'; rw [List.getD_eq_getElem?_getD, List.getD_eq_getElem?_getD, List.getElem?_append_left h]
theorem at_snoc (hs : List R) (x : R) : at' (hs ++ [x]) hs.length = x := by
  unfold at'; rw [List.getD_eq_getElem?_getD, List.getElem?_append_right (Nat.le_refl _)]; simp
theorem up_start {hs : List R} (h : Heap hs) (x : R) : UpI (hs ++ [x]) hs.length := by
  refine ⟨fun j h0 hj hne => ?_, fun j h0 hj he hi => ?_⟩
  · rw [List.length_append, List.length_singleton] at hj
    rw [at_snoc_lt x (by omega), at_snoc_lt x (by omega)]
    exact h j h0 (by omega)
  · rw [List.length_append, List.length_singleton] at hj; omega
theorem up_done {hs : List R} {i : Nat} (h : UpI hs i) (he : i = 0 ∨ ¬ Bt (at' hs i) (at' hs ((i - 1) / 2))) : Heap hs := by
  intro j h0 hj
  by_cases e : j = i
  · subst e
    rcases he with he | he
    · omega
    · exact he
  · exact h.1 j h0 hj e
theorem up_step {hs : List R} {i : Nat} (h : UpI hs i) (h0 : 0 < i) (hi : i < hs.length) (hb : Bt (at' hs i) (at' hs ((i - 1) / 2))) : UpI (swp hs i ((i - 1) / 2)) ((i - 1) / 2) := by
  obtain ⟨p, hp⟩ : ∃ p, p = (i - 1) / 2 := ⟨_, rfl⟩
  rw [← hp] at hb ⊢
  have hpl : p < hs.length := by omega
  refine ⟨fun j h1 hj hne => ?_, fun j h1 hj he h2 => ?_⟩
  · rw [swp_len] at hj
    rw [swp_at hs hi hpl, swp_at hs hi hpl, if_neg hne]
    by_cases e1 : j = i
    · subst e1
      rw [if_pos rfl, ← hp, if_pos rfl]
      exact bt_no hb
    · rw [if_neg e1]
      by_cases e2 : (j - 1) / 2 = p
      · rw [if_pos e2]
        have := h.1 j h1 hj e1
        rw [e2] at this
        exact no_trans (bt_no hb) this
      · rw [if_neg e2]
        by_cases e3 : (j - 1) / 2 = i
        · rw [if_pos e3]
          have := h.2 j h1 hj e3 h0
          rw [← hp] at this; exact this
        · rw [if_neg e3]; exact h.1 j h1 hj e1
  · rw [swp_len] at hj
    rw [swp_at hs hi hpl, swp_at hs hi hpl, if_neg (by omega : ¬ j = p), if_neg (by omega : ¬ (p - 1) / 2 = p), if_neg (by omega : ¬ (p - 1) / 2 = i)]
    have hpp := h.1 p h2 hpl (by omega)
    by_cases e1 : j = i
    · rw [if_pos e1]; exact hpp
    · rw [if_neg e1]
      have := h.1 j h1 hj e1
      rw [he] at this
      exact no_trans hpp this
theorem heap_top {hs : List R} (h : Heap hs) : ∀ n i, i ≤ n → i < hs.length → ¬ Bt (at' hs i) (at' hs 0) := by
  intro n
  induction n with
  | zero => intro i h0 hi; obtain rfl : i = 0 := by omega
            exact no_self _
  | succ n ih =>
    intro i h0 hi
    by_cases e : i = 0
    · subst e; exact no_self _
    · exact no_trans (ih ((i - 1) / 2) (by omega) (by omega)) (h i (by omega) hi)
theorem heap_min {hs : List R} (h : Heap hs) {x : R} (hx : x ∈ hs) : ¬ Bt x (at' hs 0) := by
  obtain ⟨i, hi, rfl⟩ := mem_at hx
  exact heap_top h i i (Nat.le_refl _) hi
/-- A heap's first and last one change places, and the last goes. -/
def cutL (hs : List R) : List R := (swp hs 0 (hs.length - 1)).take (hs.length - 1)
theorem cut_len {hs : List R} : (cutL hs).length = hs.length - 1 := by unfold cutL; rw [List.length_take, swp_len]; omega
theorem cut_at {hs : List R} {k : Nat} (hk : k < hs.length - 1) : at' (cutL hs) k = if k = 0 then at' hs (hs.length - 1) else at' hs k := by
  have : at' (cutL hs) k = at' (swp hs 0 (hs.length - 1)) k := by
    unfold cutL at'; rw [List.getD_eq_getElem?_getD, List.getD_eq_getElem?_getD, List.getElem?_take, if_pos hk]
  rw [this, swp_at hs (by omega) (by omega), if_neg (by omega)]
theorem cut_dn {hs : List R} (h : Heap hs) : DnI (cutL hs) 0 := by
  refine ⟨fun j h0 hj hne => ?_, fun j h0 hj he hi => by omega⟩
  rw [cut_len] at hj
  rw [cut_at hj, cut_at (by omega), if_neg (by omega), if_neg hne]
  exact h j h0 (by omega)
theorem cut_mem {hs : List R} {x : R} (h : x ∈ cutL hs) : x ∈ hs := by
  obtain ⟨k, hk, rfl⟩ := mem_at h
  rw [cut_len] at hk
  rw [cut_at hk]
  split
  · exact at_mem (by omega)
  · exact at_mem (by omega)
theorem mem_cut {hs : List R} {x : R} (h : x ∈ hs) : x = at' hs 0 ∨ x ∈ cutL hs := by
  obtain ⟨k, hk, rfl⟩ := mem_at h
  by_cases h0 : k = 0
  · subst h0; exact .inl rfl
  · right
    by_cases e : k = hs.length - 1
    · subst e
      have := at_mem (hs := cutL hs) (i := 0) (by rw [cut_len]; omega)
      rw [cut_at (by omega), if_pos rfl] at this; exact this
    · have := at_mem (hs := cutL hs) (i := k) (by rw [cut_len]; omega)
      rw [cut_at (by omega), if_neg h0] at this; exact this
/-- The first of one and of those below it. -/
def fst1 (hs : List R) (i b : Nat) (f : Nat) : Nat := if b < hs.length ∧ btB (at' hs b) (at' hs f) = true then b else f
def fstOf (hs : List R) (i : Nat) : Nat := fst1 hs i (2 * i + 2) (fst1 hs i (2 * i + 1) i)
theorem fst_cases (hs : List R) {i : Nat} (hi : i < hs.length) :
    (fstOf hs i = i ∨ (fstOf hs i = 2 * i + 1 ∨ fstOf hs i = 2 * i + 2) ∧ fstOf hs i < hs.length ∧ Bt (at' hs (fstOf hs i)) (at' hs i)) ∧ (∀ j, 0 < j → j < hs.length → (j - 1) / 2 = i → ¬ Bt (at' hs j) (at' hs (fstOf hs i))) := by
  have hj : ∀ j, 0 < j → (j - 1) / 2 = i → j = 2 * i + 1 ∨ j = 2 * i + 2 := fun j h0 h => by omega
  unfold fstOf fst1
  by_cases h1 : 2 * i + 1 < hs.length ∧ btB (at' hs (2 * i + 1)) (at' hs i) = true
  · rw [if_pos h1]
    have b1 := btB_iff.1 h1.2
    by_cases h2 : 2 * i + 2 < hs.length ∧ btB (at' hs (2 * i + 2)) (at' hs (2 * i + 1)) = true
    · rw [if_pos h2]
      have b2 := btB_iff.1 h2.2
      refine ⟨.inr ⟨.inr rfl, h2.1, by unfold Bt at *; omega⟩, fun j h0 hl hp => ?_⟩
      rcases hj j h0 hp with rfl | rfl
      · exact bt_no b2
      · exact no_self _
    · rw [if_neg h2]
      refine ⟨.inr ⟨.inl rfl, h1.1, b1⟩, fun j h0 hl hp => ?_⟩
      rcases hj j h0 hp with rfl | rfl
      · exact no_self _
      · intro hb; exact h2 ⟨hl, btB_iff.2 hb⟩
  · rw [if_neg h1]
    by_cases h2 : 2 * i + 2 < hs.length ∧ btB (at' hs (2 * i + 2)) (at' hs i) = true
    · rw [if_pos h2]
      have b2 := btB_iff.1 h2.2
      refine ⟨.inr ⟨.inr rfl, h2.1, b2⟩, fun j h0 hl hp => ?_⟩
      rcases hj j h0 hp with rfl | rfl
      · have : ¬ Bt (at' hs (2 * i + 1)) (at' hs i) := fun hb => h1 ⟨hl, btB_iff.2 hb⟩
        exact no_trans (bt_no b2) this
      · exact no_self _
    · rw [if_neg h2]
      refine ⟨.inl rfl, fun j h0 hl hp => ?_⟩
      rcases hj j h0 hp with rfl | rfl
      · exact fun hb => h1 ⟨hl, btB_iff.2 hb⟩
      · exact fun hb => h2 ⟨hl, btB_iff.2 hb⟩
theorem dn_done {hs : List R} {i : Nat} (h : DnI hs i) (hi : i < hs.length) (he : fstOf hs i = i) : Heap hs := by
  intro j h0 hj
  by_cases e : (j - 1) / 2 = i
  · have := (fst_cases hs hi).2 j h0 hj e
    rw [he] at this; rw [e]; exact this
  · exact h.1 j h0 hj e
theorem dn_step {hs : List R} {i k : Nat} (h : DnI hs i) (hi : i < hs.length) (hk : fstOf hs i = k) (hne : k ≠ i) : i < k ∧ k < hs.length ∧ DnI (swp hs i k) k := by
  obtain ⟨h1, h2⟩ := fst_cases hs hi
  rw [hk] at h1 h2
  rcases h1 with h1 | ⟨h1, h3, h4⟩
  · exact absurd h1 hne
  have hik : i < k := by omega
  have hpk : (k - 1) / 2 = i := by omega
  refine ⟨hik, h3, fun j h0 hj hp => ?_, fun j h0 hj hp hi0 => ?_⟩
  · rw [swp_len] at hj
    rw [swp_at hs hi h3, swp_at hs hi h3]
    by_cases e1 : j = k
    · subst e1
      rw [if_pos rfl, hpk, if_neg (by omega : ¬ i = j), if_pos rfl]
      exact bt_no h4
    · rw [if_neg e1]
      by_cases e2 : j = i
      · subst e2
        rw [if_pos rfl, if_neg (by omega : ¬ (j - 1) / 2 = k), if_neg (by omega : ¬ (j - 1) / 2 = j)]
        exact h.2 k (by omega) h3 hpk (by omega)
      · rw [if_neg e2]
        by_cases e3 : (j - 1) / 2 = i
        · rw [if_neg (by omega : ¬ (j - 1) / 2 = k), if_pos e3]
          exact h2 j h0 hj e3
        · rw [if_neg hp, if_neg e3]
          exact h.1 j h0 hj e3
  · rw [swp_len] at hj
    rw [swp_at hs hi h3, swp_at hs hi h3, hpk, if_neg (by omega : ¬ j = k), if_neg (by omega : ¬ j = i), if_neg (by omega : ¬ i = k), if_pos rfl]
    have := h.1 j h0 hj (by omega)
    rw [hp] at this; exact this
end Wd
namespace Wd
open Ro
def zl (f : Int) : R := ⟨f, 0, 0, 0⟩
/-- Whose best way is known (W), and what ways lie open (H). -/
structure Inv (g : List Tu.R) (f : Int) (W : Int → Option R) (H : R → Prop) : Prop where
  st : W f = some (zl f) ∨ (∀ v, W v = none) ∧ (∀ x, H x → x = zl f) ∧ H (zl f)
  to : ∀ v x, W v = some x → x.ds = v ∧ 0 ≤ x.co ∧ 0 ≤ x.hp
  fr : ∀ v x, W v = some x → v ≠ f → ∃ u y c, W u = some y ∧ Ed g u v c ∧ x = ext y v c
  hp : ∀ x, H x → x = zl f ∨ ∃ u y c, W u = some y ∧ Ed g u x.ds c ∧ x = ext y x.ds c
  ge : ∀ x, H x → ∀ v y, W v = some y → ¬ Bt x y
  le : ∀ u y v c, W u = some y → Ed g u v c → (∃ x, H x ∧ x.ds = v ∧ ¬ Bt (ext y v c) x) ∨ (∃ x, W v = some x ∧ ¬ Bt (ext y v c) x)
def upW (W : Int → Option R) (x : R) : Int → Option R := fun v => if v = x.ds then some x else W v
theorem ext_no {x : R} {v c : Int} (h : 1 ≤ c) : ¬ Bt (ext x v c) x := by unfold ext Bt; dsimp only; omega
theorem inv_start (g : List Tu.R) (f : Int) : Inv g f (fun _ => none) (fun x => x = zl f) :=
  ⟨.inr ⟨fun _ => rfl, fun _ h => h, rfl⟩, fun _ _ h => (by cases h), fun _ _ h => (by cases h), fun _ h => .inl h, fun _ _ _ _ h => (by cases h), fun _ _ _ _ h => (by cases h)⟩
theorem inv_ge0 {g : List Tu.R} (hp : Pos g) {f : Int} {W : Int → Option R} {H : R → Prop} (h : Inv g f W H) {x : R} (hx : H x) : 0 ≤ x.co ∧ 0 ≤ x.hp := by
  rcases h.hp x hx with rfl | ⟨u, y, c, hu, he, e⟩
  · exact ⟨Int.le_refl _, Int.le_refl _⟩
  · have := (h.to u y hu).2; have := ed_pos hp he
    rw [e]; unfold ext; dsimp only; omega
theorem inv_skip {g : List Tu.R} {f : Int} {W : Int → Option R} {H H' : R → Prop} (h : Inv g f W H) {b z : R} (hb : H b) (hz : W b.ds = some z)
    (h1 : ∀ x, H x → x = b ∨ H' x) (h2 : ∀ x, H' x → H x) : Inv g f W H' := by
  refine ⟨?_, h.to, h.fr, fun x hx => h.hp x (h2 x hx), fun x hx => h.ge x (h2 x hx), ?_⟩
  · rcases h.st with e | ⟨e, _, _⟩
    · exact .inl e
    · rw [e b.ds] at hz; cases hz
  · intro u y v c hu he
    rcases h.le u y v c hu he with ⟨x, hx, hd, hn⟩ | hr
    · rcases h1 x hx with rfl | hx'
      · exact .inr ⟨z, by rw [← hd]; exact hz, no_trans (h.ge x hx _ _ hz) hn⟩
      · exact .inl ⟨x, hx', hd, hn⟩
    · exact .inr hr
theorem inv_new {g : List Tu.R} (hp : Pos g) {f : Int} {W : Int → Option R} {H H' : R → Prop} (h : Inv g f W H) {b : R} (hb : H b) (hz : W b.ds = none)
    (hmin : ∀ x, H x → ¬ Bt x b)
    (h2 : ∀ x, H' x → H x ∨ ∃ c, Ed g b.ds x.ds c ∧ x = ext b x.ds c)
    (h1 : ∀ x, H x → x = b ∨ x.ds = b.ds ∨ ∃ x', H' x' ∧ x'.ds = x.ds ∧ ¬ Bt x x')
    (h3 : ∀ v c, Ed g b.ds v c → (∃ x, H' x ∧ x.ds = v ∧ ¬ Bt (ext b v c) x) ∨ (∃ y, upW W b v = some y)) : Inv g f (upW W b) H' := by
  have hge := inv_ge0 hp h hb
  have hbp : (b = zl f ∧ ∀ v, W v = none) ∨ (b.ds ≠ f ∧ W f = some (zl f) ∧ ∃ u y c, W u = some y ∧ Ed g u b.ds c ∧ b = ext y b.ds c) := by
    rcases h.st with e | ⟨e, e2, _⟩
    · have hne : b.ds ≠ f := fun hh => by rw [hh, e] at hz; cases hz
      rcases h.hp b hb with e3 | e3
      · rw [e3] at hne; exact absurd rfl hne
      · exact .inr ⟨hne, e, e3⟩
    · exact .inl ⟨e2 b hb, e⟩
  have keep : ∀ {v x}, W v = some x → upW W b v = some x := fun {v x} hv => by
    unfold upW; rw [if_neg (fun e => by rw [e, hz] at hv; cases hv)]; exact hv
  have self : upW W b b.ds = some b := by unfold upW; rw [if_pos rfl]
  have split : ∀ {v x}, upW W b v = some x → (v = b.ds ∧ x = b) ∨ W v = some x := fun {v x} hv => by
    unfold upW at hv; split at hv
    · cases hv; exact .inl ⟨by assumption, rfl⟩
    · exact .inr hv
  have geb : ∀ v y, upW W b v = some y → ¬ Bt b y := fun v y hv => by
    rcases split hv with ⟨_, rfl⟩ | hv
    · exact no_self _
    · exact h.ge b hb v y hv
  refine ⟨?_, ?_, ?_, ?_, ?_, ?_⟩
  · left
    rcases hbp with ⟨e, _⟩ | ⟨_, e, _⟩
    · have : b.ds = f := by rw [e]; rfl
      unfold upW; rw [if_pos this.symm, e]
    · exact keep e
  · intro v x hv
    rcases split hv with ⟨rfl, rfl⟩ | hv
    · exact ⟨rfl, hge⟩
    · exact h.to v x hv
  · intro v x hv hvf
    rcases split hv with ⟨rfl, rfl⟩ | hv
    · rcases hbp with ⟨e, _⟩ | ⟨_, _, u, y, c, hu, he, e⟩
      · exact absurd (by rw [e]; rfl) hvf
      · exact ⟨u, y, c, keep hu, he, e⟩
    · obtain ⟨u, y, c, hu, he, e⟩ := h.fr v x hv hvf
      exact ⟨u, y, c, keep hu, he, e⟩
  · intro x hx
    rcases h2 x hx with hx | ⟨c, he, e⟩
    · rcases h.hp x hx with e | ⟨u, y, c, hu, he, e⟩
      · exact .inl e
      · exact .inr ⟨u, y, c, keep hu, he, e⟩
    · exact .inr ⟨b.ds, b, c, self, he, e⟩
  · intro x hx v y hv
    rcases h2 x hx with hx | ⟨c, he, e⟩
    · rcases split hv with ⟨_, rfl⟩ | hv
      · exact hmin x hx
      · exact h.ge x hx v y hv
    · rw [e]; exact no_trans (geb v y hv) (ext_no (ed_pos hp he))
  · intro u y v c hu he
    rcases split hu with ⟨rfl, rfl⟩ | hu
    · rcases h3 v c he with hr | ⟨z, hz'⟩
      · exact .inl hr
      · exact .inr ⟨z, hz', no_trans (geb v z hz') (ext_no (ed_pos hp he))⟩
    · rcases h.le u y v c hu he with ⟨x, hx, hd, hn⟩ | ⟨x, hv, hn⟩
      · rcases h1 x hx with rfl | e | ⟨x', hx', hd', hn'⟩
        · exact .inr ⟨x, by rw [← hd]; exact self, hn⟩
        · exact .inr ⟨b, by rw [← hd, e]; exact self, no_trans (hmin x hx) hn⟩
        · exact .inl ⟨x', hx', hd'.trans hd, no_trans hn' hn⟩
      · exact .inr ⟨x, keep hv, hn⟩
theorem inv_done {g : List Tu.R} {f : Int} {W : Int → Option R} {H : R → Prop} (h : Inv g f W H) (he : ∀ x, ¬ H x) : Good g f W := by
  refine ⟨?_, h.to, h.fr, ?_⟩
  · rcases h.st with e | ⟨_, _, e⟩
    · exact e
    · exact absurd e (he _)
  · intro u y v c hu hE
    rcases h.le u y v c hu hE with ⟨x, hx, _⟩ | hr
    · exact absurd hx (he x)
    · exact hr
/-- How many addresses are known; hops and costs are bounded by it. -/
def cntW (W : Int → Option R) : Nat := (if (W 1).isSome then 1 else 0) + (if (W 2).isSome then 1 else 0) + (if (W 3).isSome then 1 else 0) + (if (W 4).isSome then 1 else 0) + (if (W 5).isSome then 1 else 0) + (if (W 6).isSome then 1 else 0) + (if (W 7).isSome then 1 else 0) + (if (W 8).isSome then 1 else 0)
theorem cnt_le (W : Int → Option R) : cntW W ≤ 8 := by
  have h : ∀ b : Bool, (if b = true then 1 else 0) ≤ 1 := fun b => by cases b <;> simp
  unfold cntW
  have := h (W 1).isSome; have := h (W 2).isSome; have := h (W 3).isSome; have := h (W 4).isSome
  have := h (W 5).isSome; have := h (W 6).isSome; have := h (W 7).isSome; have := h (W 8).isSome
  omega
theorem cnt_none (W : Int → Option R) (h : ∀ v, W v = none) : cntW W = 0 := by unfold cntW; simp [h]
theorem up_same (W : Int → Option R) (b : R) : upW W b b.ds = some b := by unfold upW; rw [if_pos rfl]
theorem up_other {W : Int → Option R} {b : R} {v : Int} (h : v ≠ b.ds) : upW W b v = W v := by unfold upW; rw [if_neg h]
theorem cnt_up {W : Int → Option R} {b : R} (h1 : 1 ≤ b.ds) (h8 : b.ds ≤ 8) (hz : W b.ds = none) : cntW (upW W b) = cntW W + 1 := by
  have hs := up_same W b
  obtain ⟨d, hd⟩ : ∃ d, b.ds = d := ⟨_, rfl⟩
  rw [hd] at h1 h8 hz hs
  have ho : ∀ v, v ≠ d → upW W b v = W v := fun v hv => up_other (by rw [hd]; exact hv)
  have hc : d = 1 ∨ d = 2 ∨ d = 3 ∨ d = 4 ∨ d = 5 ∨ d = 6 ∨ d = 7 ∨ d = 8 := by omega
  unfold cntW
  rcases hc with rfl | rfl | rfl | rfl | rfl | rfl | rfl | rfl
  · rw [hs, hz, ho 2 (by omega), ho 3 (by omega), ho 4 (by omega), ho 5 (by omega), ho 6 (by omega), ho 7 (by omega), ho 8 (by omega)]; simp <;> omega
  · rw [hs, hz, ho 1 (by omega), ho 3 (by omega), ho 4 (by omega), ho 5 (by omega), ho 6 (by omega), ho 7 (by omega), ho 8 (by omega)]; simp <;> omega
  · rw [hs, hz, ho 1 (by omega), ho 2 (by omega), ho 4 (by omega), ho 5 (by omega), ho 6 (by omega), ho 7 (by omega), ho 8 (by omega)]; simp <;> omega
  · rw [hs, hz, ho 1 (by omega), ho 2 (by omega), ho 3 (by omega), ho 5 (by omega), ho 6 (by omega), ho 7 (by omega), ho 8 (by omega)]; simp <;> omega
  · rw [hs, hz, ho 1 (by omega), ho 2 (by omega), ho 3 (by omega), ho 4 (by omega), ho 6 (by omega), ho 7 (by omega), ho 8 (by omega)]; simp <;> omega
  · rw [hs, hz, ho 1 (by omega), ho 2 (by omega), ho 3 (by omega), ho 4 (by omega), ho 5 (by omega), ho 7 (by omega), ho 8 (by omega)]; simp <;> omega
  · rw [hs, hz, ho 1 (by omega), ho 2 (by omega), ho 3 (by omega), ho 4 (by omega), ho 5 (by omega), ho 6 (by omega), ho 8 (by omega)]; simp <;> omega
  · rw [hs, hz, ho 1 (by omega), ho 2 (by omega), ho 3 (by omega), ho 4 (by omega), ho 5 (by omega), ho 6 (by omega), ho 7 (by omega)]; simp <;> omega
/-- Bounds: a way that is known, or open, has at most as many hops as there are known ones, and ends at an address. -/
def okN (n : Nat) (x : R) : Prop := 1 ≤ x.ds ∧ x.ds ≤ 8 ∧ 0 ≤ x.nx ∧ x.nx ≤ 8 ∧ 0 ≤ x.hp ∧ x.hp ≤ n ∧ 0 ≤ x.co ∧ x.co ≤ 1073741824 * n ∧ (x.hp = 0 ∨ 1 ≤ x.nx)
theorem okN_mono {n m : Nat} (h : n ≤ m) {x : R} (hx : okN n x) : okN m x := by unfold okN at *; omega
theorem okN_ext {n : Nat} {x : R} (hx : okN n x) {v c : Int} (hv : 1 ≤ v ∧ v ≤ 8) (hc : 0 ≤ c ∧ c ≤ 1073741824) : okN (n + 1) (ext x v c) := by
  unfold okN ext at *
  dsimp only
  split <;> omega
theorem okN_zl {f : Int} (h : 1 ≤ f ∧ f ≤ 8) : okN 0 (zl f) := by unfold okN zl; dsimp only; omega
/-- The best ways. -/
noncomputable def best (g : List Tu.R) (f : Int) : Int → Option R := by
  classical
  exact if h : ∃ L, Good g f L then h.choose else fun _ => none
theorem best_is {g : List Tu.R} (hp : Pos g) {f : Int} {L : Int → Option R} (h : Good g f L) : L = best g f := by
  have hx : ∃ L, Good g f L := ⟨L, h⟩
  have e : best g f = hx.choose := by unfold best; rw [dif_pos hx]
  rw [e]
  exact funext (best_one hp h hx.choose_spec)
end Wd
end Go.Proofs.Ytjhhhmdhdnmejaa
