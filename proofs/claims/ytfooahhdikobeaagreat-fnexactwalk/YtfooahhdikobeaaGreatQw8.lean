/-
  Of the texts WysM, GphA, NetG, NetI, NetJ, TopN, Mpe, TopE, GraI, RouM, RouA, HepA: what this claim needs of them. (put together by mkprune.py)
-/
import Derived.Test.YtfooahhdikobeaaGreatQw7
import Derived.Laws.AppendOwn
import Derived.Maps.OwnSet
import Derived.DeepKeys4
import Derived.Maps.AppendAt
import Derived.Laws.NewBlocks
namespace Go.Proofs.YtfooahhdikobeaaGreat
set_option linter.unusedVariables false
set_option linter.unusedSimpArgs false
namespace Wd
open Ro
/-- One way comes ahead of another: it costs less, or as much with fewer hops, or with as many by a lower first hop. -/
def Bt (x y : R) : Prop := x.co < y.co ∨ x.co = y.co ∧ (x.hp < y.hp ∨ x.hp = y.hp ∧ x.nx < y.nx)
def btB (x y : R) : Bool := decide (x.co < y.co) || (x.co == y.co) && (decide (x.hp < y.hp) || (x.hp == y.hp) && decide (x.nx < y.nx))
theorem btB_iff {x y : R} : btB x y = true ↔ Bt x y := by unfold btB Bt; simp
theorem btB_no {x y : R} : btB x y = false ↔ ¬ Bt x y := by rw [← btB_iff]; simp
theorem no_self (x : R) : ¬ Bt x x := by unfold Bt; omega
theorem no_trans {x y z : R} (h1 : ¬ Bt y x) (h2 : ¬ Bt z y) : ¬ Bt z x := by unfold Bt at *; omega
theorem bt_no {x y : R} (h : Bt x y) : ¬ Bt y x := by unfold Bt at *; omega
theorem no_both {x y : R} (hd : x.ds = y.ds) (h1 : ¬ Bt y x) (h2 : ¬ Bt x y) : x = y := by
  obtain ⟨a, b, c, d⟩ := x
  obtain ⟨a', b', c', d'⟩ := y
  unfold Bt at h1 h2
  dsimp only at hd h1 h2
  obtain ⟨h3, h4, h5⟩ : b = b' ∧ c = c' ∧ d = d' := by omega
  rw [hd, h3, h4, h5]
/-- A way with one edge more. -/
def ext (x : R) (v c : Int) : R := ⟨v, if x.hp = 0 then v else x.nx, x.co + c, x.hp + 1⟩
/-- There is an edge. -/
def Ed (g : List Tu.R) (u v c : Int) : Prop := ∃ m ∈ g, Tw.hv m = u ∧ Tw.ha m = v ∧ m.val = c
/-- The best ways of a graph from one address: to itself, each with one before it, and no edge makes a better one. -/
structure Good (g : List Tu.R) (f : Int) (L : Int → Option R) : Prop where
  own : L f = some ⟨f, 0, 0, 0⟩
  too : ∀ v x, L v = some x → x.ds = v ∧ 0 ≤ x.co ∧ 0 ≤ x.hp
  from' : ∀ v x, L v = some x → v ≠ f → ∃ u y c, L u = some y ∧ Ed g u v c ∧ x = ext y v c
  least : ∀ u y v c, L u = some y → Ed g u v c → ∃ x, L v = some x ∧ ¬ Bt (ext y v c) x
def Pos (g : List Tu.R) : Prop := ∀ m ∈ g, 1 ≤ m.val
theorem ed_pos {g : List Tu.R} (h : Pos g) {u v c : Int} (he : Ed g u v c) : 1 ≤ c := by obtain ⟨m, hm, _, _, rfl⟩ := he; exact h m hm
theorem hp_one {g : List Tu.R} {f : Int} {L : Int → Option R} (hg : Good g f L) {v : Int} {x : R} (h : L v = some x) (hv : v ≠ f) : 1 ≤ x.hp := by
  obtain ⟨u, y, c, hu, _, rfl⟩ := hg.from' v x h hv
  have := (hg.too u y hu).2.2
  unfold ext; dsimp only; omega
theorem best_le {g : List Tu.R} (hp : Pos g) {f : Int} {L L' : Int → Option R} (h : Good g f L) (h' : Good g f L') :
    ∀ n : Nat, ∀ v x, L v = some x → x.co < n → ∃ x', L' v = some x' ∧ ¬ Bt x x' := by
  intro n
  induction n with
  | zero => intro v x hx hn; have := (h.too v x hx).2.1; omega
  | succ n ih =>
    intro v x hx hn
    by_cases hv : v = f
    · subst hv
      rw [h.own] at hx
      cases hx
      exact ⟨_, h'.own, no_self _⟩
    · obtain ⟨u, y, c, hu, he, rfl⟩ := h.from' v x hx hv
      have hc := ed_pos hp he
      obtain ⟨y', hy', hb⟩ := ih u y hu (by unfold ext at hn; dsimp only at hn; omega)
      obtain ⟨x', hx', hb'⟩ := h'.least u y' v c hy' he
      refine ⟨x', hx', ?_⟩
      by_cases hf : u = f
      · subst hf
        rw [h.own] at hu; rw [h'.own] at hy'
        cases hu; cases hy'; exact hb'
      · have h1 := hp_one h hu hf
        have h2 := hp_one h' hy' hf
        refine no_trans hb' ?_
        unfold ext Bt at *
        dsimp only
        rw [if_neg (by omega), if_neg (by omega)]
        omega
theorem best_one {g : List Tu.R} (hp : Pos g) {f : Int} {L L' : Int → Option R} (h : Good g f L) (h' : Good g f L') : ∀ v, L v = L' v := by
  intro v
  have key : ∀ {L L' : Int → Option R}, Good g f L → Good g f L' → ∀ x, L v = some x → L' v = some x := by
    intro L L' h h' x hx
    have := (h.too v x hx).2.1
    obtain ⟨x', hx', hb⟩ := best_le hp h h' (x.co.toNat + 1) v x hx (by omega)
    have := (h'.too v x' hx').2.1
    obtain ⟨x2, hx2, hb2⟩ := best_le hp h' h (x'.co.toNat + 1) v x' hx' (by omega)
    rw [hx] at hx2; cases hx2
    rw [hx', no_both ((h.too v x hx).1.trans (h'.too v x' hx').1.symm) hb2 hb]
  cases e : L v with
  | none =>
    cases e' : L' v with
    | none => rfl
    | some x => rw [key h' h x e'] at e; cases e
  | some x => exact (key h h' x e).symm
/-! Heaps. -/
def at' (hs : List R) (i : Nat) : R := hs.getD i R.zero
def swp (hs : List R) (i j : Nat) : List R := (hs.set i (at' hs j)).set j (at' hs i)
theorem swp_len (hs : List R) (i j : Nat) : (swp hs i j).length = hs.length := by unfold swp; simp
theorem swp_at (hs : List R) {i j : Nat} (hi : i < hs.length) (hj : j < hs.length) (k : Nat) : at' (swp hs i j) k = if k = j then at' hs i else if k = i then at' hs j else at' hs k := by
  unfold swp at'
  simp only [List.getD_eq_getElem?_getD, List.getElem?_set, List.length_set]
  by_cases h1 : k = j
  · subst h1; simp [hj]
  · rw [if_neg (by omega), if_neg h1]
    by_cases h2 : k = i
    · subst h2; simp [hi]
    · rw [if_neg (by omega), if_neg h2]
theorem at_mem {hs : List R} {i : Nat} (h : i < hs.length) : at' hs i ∈ hs := by
  unfold at'; rw [List.getD_eq_getElem?_getD, List.getElem?_eq_getElem h]; exact List.getElem_mem h
theorem mem_at {hs : List R} {x : R} (h : x ∈ hs) : ∃ i, i < hs.length ∧ at' hs i = x := by
  obtain ⟨i, hi, rfl⟩ := List.getElem_of_mem h
  exact ⟨i, hi, by unfold at'; rw [List.getD_eq_getElem?_getD, List.getElem?_eq_getElem hi]; rfl⟩
theorem swp_mem {hs : List R} {i j : Nat} (hi : i < hs.length) (hj : j < hs.length) (x : R) : x ∈ swp hs i j ↔ x ∈ hs := by
  constructor
  · intro h
    obtain ⟨k, hk, rfl⟩ := mem_at h
    rw [swp_at hs hi hj]
    rw [swp_len] at hk
    split
    · exact at_mem hi
    · split
      · exact at_mem hj
      · exact at_mem hk
  · intro h
    obtain ⟨k, hk, rfl⟩ := mem_at h
    by_cases h1 : k = i
    · subst h1
      have := at_mem (hs := swp hs k j) (i := j) (by rw [swp_len]; exact hj)
      rw [swp_at hs hi hj, if_pos rfl] at this; exact this
    · by_cases h2 : k = j
      · subst h2
        have := at_mem (hs := swp hs i k) (i := i) (by rw [swp_len]; exact hi)
        rw [swp_at hs hi hj, if_neg (by omega), if_pos rfl] at this; exact this
      · have := at_mem (hs := swp hs i j) (i := k) (by rw [swp_len]; exact hk)
        rw [swp_at hs hi hj, if_neg h2, if_neg h1] at this; exact this
def Heap (hs : List R) : Prop := ∀ i, 0 < i → i < hs.length → ¬ Bt (at' hs i) (at' hs ((i - 1) / 2))
/-- A heap but for one at a place that may have to rise, that may have to sink. -/
def UpI (hs : List R) (i : Nat) : Prop := (∀ j, 0 < j → j < hs.length → j ≠ i → ¬ Bt (at' hs j) (at' hs ((j - 1) / 2))) ∧ (∀ j, 0 < j → j < hs.length → (j - 1) / 2 = i → 0 < i → ¬ Bt (at' hs j) (at' hs ((i - 1) / 2)))
def DnI (hs : List R) (i : Nat) : Prop := (∀ j, 0 < j → j < hs.length → (j - 1) / 2 ≠ i → ¬ Bt (at' hs j) (at' hs ((j - 1) / 2))) ∧ (∀ j, 0 < j → j < hs.length → (j - 1) / 2 = i → 0 < i → ¬ Bt (at' hs j) (at' hs ((i - 1) / 2)))
theorem at_snoc_lt {hs : List R} (x : R) {i : Nat} (h : i < hs.length) : at' (hs ++ [x]) i = at' hs i := by
  unfold at'; rw [List.getD_eq_getElem?_getD, List.getD_eq_getElem?_getD, List.getElem?_append_left h]
theorem up_start {hs : List R} (h : Heap hs) (x : R) : UpI (hs ++ [x]) hs.length := by
  refine ⟨fun j h0 hj hne => ?_, fun j h0 hj he hi => ?_⟩
  · rw [List.length_append, List.length_singleton] at hj
    rw [at_snoc_lt x (by omega), at_snoc_lt x (by omega)]
    exact h j h0 (by omega)
  · rw [List.length_append, List.length_singleton] at hj; omega
theorem up_done {hs : List R} {i : Nat} (h : UpI hs i) (he : i = 0 ∨ ¬ Bt (at' hs i) (at' hs ((i - 1) / 2))) : Heap hs := by
  intro j h0 hj
  by_cases e : j = i
  · subst e
    rcases he with he | he
    · omega
    · exact he
  · exact h.1 j h0 hj e
theorem up_step {hs : List R} {i : Nat} (h : UpI hs i) (h0 : 0 < i) (hi : i < hs.length) (hb : Bt (at' hs i) (at' hs ((i - 1) / 2))) : UpI (swp hs i ((i - 1) / 2)) ((i - 1) / 2) := by
  obtain ⟨p, hp⟩ : ∃ p, p = (i - 1) / 2 := ⟨_, rfl⟩
  rw [← hp] at hb ⊢
  have hpl : p < hs.length := by omega
  refine ⟨fun j h1 hj hne => ?_, fun j h1 hj he h2 => ?_⟩
  · rw [swp_len] at hj
    rw [swp_at hs hi hpl, swp_at hs hi hpl, if_neg hne]
    by_cases e1 : j = i
    · subst e1
      rw [if_pos rfl, ← hp, if_pos rfl]
      exact bt_no hb
    · rw [if_neg e1]
      by_cases e2 : (j - 1) / 2 = p
      · rw [if_pos e2]
        have := h.1 j h1 hj e1
        rw [e2] at this
        exact no_trans (bt_no hb) this
      · rw [if_neg e2]
        by_cases e3 : (j - 1) / 2 = i
        · rw [if_pos e3]
          have := h.2 j h1 hj e3 h0
          rw [← hp] at this; exact this
        · rw [if_neg e3]; exact h.1 j h1 hj e1
  · rw [swp_len] at hj
    rw [swp_at hs hi hpl, swp_at hs hi hpl, if_neg (by omega : ¬ j = p), if_neg (by omega : ¬ (p - 1) / 2 = p), if_neg (by omega : ¬ (p - 1) / 2 = i)]
    have hpp := h.1 p h2 hpl (by omega)
    by_cases e1 : j = i
    · rw [if_pos e1]; exact hpp
    · rw [if_neg e1]
      have := h.1 j h1 hj e1
      rw [he] at this
      exact no_trans hpp this
theorem heap_top {hs : List R} (h : Heap hs) : ∀ n i, i ≤ n → i < hs.length → ¬ Bt (at' hs i) (at' hs 0) := by
  intro n
  induction n with
  | zero => intro i h0 hi; obtain rfl : i = 0 := by omega
            exact no_self _
  | succ n ih =>
    intro i h0 hi
    by_cases e : i = 0
    · subst e; exact no_self _
    · exact no_trans (ih ((i - 1) / 2) (by omega) (by omega)) (h i (by omega) hi)
theorem heap_min {hs : List R} (h : Heap hs) {x : R} (hx : x ∈ hs) : ¬ Bt x (at' hs 0) := by
  obtain ⟨i, hi, rfl⟩ := mem_at hx
  exact heap_top h i i (Nat.le_refl _) hi
/-- A heap's first and last one change places, and the last goes. -/
def cutL (hs : List R) : List R := (swp hs 0 (hs.length - 1)).take (hs.length - 1)
theorem cut_len {hs : List R} : (cutL hs).length = hs.length - 1 := by unfold cutL; rw [List.length_take, swp_len]; omega
theorem cut_at {hs : List R} {k : Nat} (hk : k < hs.length - 1) : at' (cutL hs) k = if k = 0 then at' hs (hs.length - 1) else at' hs k := by
  have : at' (cutL hs) k = at' (swp hs 0 (hs.length - 1)) k := by
    unfold cutL at'; rw [List.getD_eq_getElem?_getD, List.getD_eq_getElem?_getD, List.getElem?_take, if_pos hk]
  rw [this, swp_at hs (by omega) (by omega), if_neg (by omega)]
theorem cut_dn {hs : List R} (h : Heap hs) : DnI (cutL hs) 0 := by
  refine ⟨fun j h0 hj hne => ?_, fun j h0 hj he hi => by omega⟩
  rw [cut_len] at hj
  rw [cut_at hj, cut_at (by omega), if_neg (by omega), if_neg hne]
  exact h j h0 (by omega)
theorem cut_mem {hs : List R} {x : R} (h : x ∈ cutL hs) : x ∈ hs := by
  obtain ⟨k, hk, rfl⟩ := mem_at h
  rw [cut_len] at hk
  rw [cut_at hk]
  split
  · exact at_mem (by omega)
  · exact at_mem (by omega)
theorem mem_cut {hs : List R} {x : R} (h : x ∈ hs) : x = at' hs 0 ∨ x ∈ cutL hs := by
  obtain ⟨k, hk, rfl⟩ := mem_at h
  by_cases h0 : k = 0
  · subst h0; exact .inl rfl
  · right
    by_cases e : k = hs.length - 1
    · subst e
      have := at_mem (hs := cutL hs) (i := 0) (by rw [cut_len]; omega)
      rw [cut_at (by omega), if_pos rfl] at this; exact this
    · have := at_mem (hs := cutL hs) (i := k) (by rw [cut_len]; omega)
      rw [cut_at (by omega), if_neg h0] at this; exact this
/-- The first of one and of those below it. -/
def fst1 (hs : List R) (i b : Nat) (f : Nat) : Nat := if b < hs.length ∧ btB (at' hs b) (at' hs f) = true then b else f
def fstOf (hs : List R) (i : Nat) : Nat := fst1 hs i (2 * i + 2) (fst1 hs i (2 * i + 1) i)
theorem fst_cases (hs : List R) {i : Nat} (hi : i < hs.length) :
    (fstOf hs i = i ∨ (fstOf hs i = 2 * i + 1 ∨ fstOf hs i = 2 * i + 2) ∧ fstOf hs i < hs.length ∧ Bt (at' hs (fstOf hs i)) (at' hs i)) ∧ (∀ j, 0 < j → j < hs.length → (j - 1) / 2 = i → ¬ Bt (at' hs j) (at' hs (fstOf hs i))) := by
  have hj : ∀ j, 0 < j → (j - 1) / 2 = i → j = 2 * i + 1 ∨ j = 2 * i + 2 := fun j h0 h => by omega
  unfold fstOf fst1
  by_cases h1 : 2 * i + 1 < hs.length ∧ btB (at' hs (2 * i + 1)) (at' hs i) = true
  · rw [if_pos h1]
    have b1 := btB_iff.1 h1.2
    by_cases h2 : 2 * i + 2 < hs.length ∧ btB (at' hs (2 * i + 2)) (at' hs (2 * i + 1)) = true
    · rw [if_pos h2]
      have b2 := btB_iff.1 h2.2
      refine ⟨.inr ⟨.inr rfl, h2.1, by unfold Bt at *; omega⟩, fun j h0 hl hp => ?_⟩
      rcases hj j h0 hp with rfl | rfl
      · exact bt_no b2
      · exact no_self _
    · rw [if_neg h2]
      refine ⟨.inr ⟨.inl rfl, h1.1, b1⟩, fun j h0 hl hp => ?_⟩
      rcases hj j h0 hp with rfl | rfl
      · exact no_self _
      · intro hb; exact h2 ⟨hl, btB_iff.2 hb⟩
  · rw [if_neg h1]
    by_cases h2 : 2 * i + 2 < hs.length ∧ btB (at' hs (2 * i + 2)) (at' hs i) = true
    · rw [if_pos h2]
      have b2 := btB_iff.1 h2.2
      refine ⟨.inr ⟨.inr rfl, h2.1, b2⟩, fun j h0 hl hp => ?_⟩
      rcases hj j h0 hp with rfl | rfl
      · have : ¬ Bt (at' hs (2 * i + 1)) (at' hs i) := fun hb => h1 ⟨hl, btB_iff.2 hb⟩
        exact no_trans (bt_no b2) this
      · exact no_self _
    · rw [if_neg h2]
      refine ⟨.inl rfl, fun j h0 hl hp => ?_⟩
      rcases hj j h0 hp with rfl | rfl
      · exact fun hb => h1 ⟨hl, btB_iff.2 hb⟩
      · exact fun hb => h2 ⟨hl, btB_iff.2 hb⟩
theorem dn_done {hs : List R} {i : Nat} (h : DnI hs i) (hi : i < hs.length) (he : fstOf hs i = i) : Heap hs := by
  intro j h0 hj
  by_cases e : (j - 1) / 2 = i
  · have := (fst_cases hs hi).2 j h0 hj e
    rw [he] at this; rw [e]; exact this
  · exact h.1 j h0 hj e
theorem dn_step {hs : List R} {i k : Nat} (h : DnI hs i) (hi : i < hs.length) (hk : fstOf hs i = k) (hne : k ≠ i) : i < k ∧ k < hs.length ∧ DnI (swp hs i k) k := by
  obtain ⟨h1, h2⟩ := fst_cases hs hi
  rw [hk] at h1 h2
  rcases h1 with h1 | ⟨h1, h3, h4⟩
  · exact absurd h1 hne
  have hik : i < k := by omega
  have hpk : (k - 1) / 2 = i := by omega
  refine ⟨hik, h3, fun j h0 hj hp => ?_, fun j h0 hj hp hi0 => ?_⟩
  · rw [swp_len] at hj
    rw [swp_at hs hi h3, swp_at hs hi h3]
    by_cases e1 : j = k
    · subst e1
      rw [if_pos rfl, hpk, if_neg (by omega : ¬ i = j), if_pos rfl]
      exact bt_no h4
    · rw [if_neg e1]
      by_cases e2 : j = i
      · subst e2
        rw [if_pos rfl, if_neg (by omega : ¬ (j - 1) / 2 = k), if_neg (by omega : ¬ (j - 1) / 2 = j)]
        exact h.2 k (by omega) h3 hpk (by omega)
      · rw [if_neg e2]
        by_cases e3 : (j - 1) / 2 = i
        · rw [if_neg (by omega : ¬ (j - 1) / 2 = k), if_pos e3]
          exact h2 j h0 hj e3
        · rw [if_neg hp, if_neg e3]
          exact h.1 j h0 hj e3
  · rw [swp_len] at hj
    rw [swp_at hs hi h3, swp_at hs hi h3, hpk, if_neg (by omega : ¬ j = k), if_neg (by omega : ¬ j = i), if_neg (by omega : ¬ i = k), if_pos rfl]
    have := h.1 j h0 hj (by omega)
    rw [hp] at this; exact this
end Wd
namespace Wd
open Ro
def zl (f : Int) : R := ⟨f, 0, 0, 0⟩
/-- Whose best way is known (W), and what ways lie open (H). -/
structure Inv (g : List Tu.R) (f : Int) (W : Int → Option R) (H : R → Prop) : Prop where
  st : W f = some (zl f) ∨ (∀ v, W v = none) ∧ (∀ x, H x → x = zl f) ∧ H (zl f)
  too : ∀ v x, W v = some x → x.ds = v ∧ 0 ≤ x.co ∧ 0 ≤ x.hp
  fr : ∀ v x, W v = some x → v ≠ f → ∃ u y c, W u = some y ∧ Ed g u v c ∧ x = ext y v c
  hp : ∀ x, H x → x = zl f ∨ ∃ u y c, W u = some y ∧ Ed g u x.ds c ∧ x = ext y x.ds c
  ge : ∀ x, H x → ∀ v y, W v = some y → ¬ Bt x y
  le : ∀ u y v c, W u = some y → Ed g u v c → (∃ x, H x ∧ x.ds = v ∧ ¬ Bt (ext y v c) x) ∨ (∃ x, W v = some x ∧ ¬ Bt (ext y v c) x)
def upW (W : Int → Option R) (x : R) : Int → Option R := fun v => if v = x.ds then some x else W v
theorem ext_no {x : R} {v c : Int} (h : 1 ≤ c) : ¬ Bt (ext x v c) x := by unfold ext Bt; dsimp only; omega
theorem inv_start (g : List Tu.R) (f : Int) : Inv g f (fun _ => none) (fun x => x = zl f) :=
  ⟨.inr ⟨fun _ => rfl, fun _ h => h, rfl⟩, fun _ _ h => (by cases h), fun _ _ h => (by cases h), fun _ h => .inl h, fun _ _ _ _ h => (by cases h), fun _ _ _ _ h => (by cases h)⟩
theorem inv_ge0 {g : List Tu.R} (hp : Pos g) {f : Int} {W : Int → Option R} {H : R → Prop} (h : Inv g f W H) {x : R} (hx : H x) : 0 ≤ x.co ∧ 0 ≤ x.hp := by
  rcases h.hp x hx with rfl | ⟨u, y, c, hu, he, e⟩
  · exact ⟨Int.le_refl _, Int.le_refl _⟩
  · have := (h.too u y hu).2; have := ed_pos hp he
    rw [e]; unfold ext; dsimp only; omega
theorem inv_skip {g : List Tu.R} {f : Int} {W : Int → Option R} {H H' : R → Prop} (h : Inv g f W H) {b z : R} (hb : H b) (hz : W b.ds = some z)
    (h1 : ∀ x, H x → x = b ∨ H' x) (h2 : ∀ x, H' x → H x) : Inv g f W H' := by
  refine ⟨?_, h.too, h.fr, fun x hx => h.hp x (h2 x hx), fun x hx => h.ge x (h2 x hx), ?_⟩
  · rcases h.st with e | ⟨e, _, _⟩
    · exact .inl e
    · rw [e b.ds] at hz; cases hz
  · intro u y v c hu he
    rcases h.le u y v c hu he with ⟨x, hx, hd, hn⟩ | hr
    · rcases h1 x hx with rfl | hx'
      · exact .inr ⟨z, by rw [← hd]; exact hz, no_trans (h.ge x hx _ _ hz) hn⟩
      · exact .inl ⟨x, hx', hd, hn⟩
    · exact .inr hr
theorem inv_new {g : List Tu.R} (hp : Pos g) {f : Int} {W : Int → Option R} {H H' : R → Prop} (h : Inv g f W H) {b : R} (hb : H b) (hz : W b.ds = none)
    (hmin : ∀ x, H x → ¬ Bt x b)
    (h2 : ∀ x, H' x → H x ∨ ∃ c, Ed g b.ds x.ds c ∧ x = ext b x.ds c)
    (h1 : ∀ x, H x → x = b ∨ x.ds = b.ds ∨ ∃ x', H' x' ∧ x'.ds = x.ds ∧ ¬ Bt x x')
    (h3 : ∀ v c, Ed g b.ds v c → (∃ x, H' x ∧ x.ds = v ∧ ¬ Bt (ext b v c) x) ∨ (∃ y, upW W b v = some y)) : Inv g f (upW W b) H' := by
  have hge := inv_ge0 hp h hb
  have hbp : (b = zl f ∧ ∀ v, W v = none) ∨ (b.ds ≠ f ∧ W f = some (zl f) ∧ ∃ u y c, W u = some y ∧ Ed g u b.ds c ∧ b = ext y b.ds c) := by
    rcases h.st with e | ⟨e, e2, _⟩
    · have hne : b.ds ≠ f := fun hh => by rw [hh, e] at hz; cases hz
      rcases h.hp b hb with e3 | e3
      · rw [e3] at hne; exact absurd rfl hne
      · exact .inr ⟨hne, e, e3⟩
    · exact .inl ⟨e2 b hb, e⟩
  have keep : ∀ {v x}, W v = some x → upW W b v = some x := fun {v x} hv => by
    unfold upW; rw [if_neg (fun e => by rw [e, hz] at hv; cases hv)]; exact hv
  have self : upW W b b.ds = some b := by unfold upW; rw [if_pos rfl]
  have split : ∀ {v x}, upW W b v = some x → (v = b.ds ∧ x = b) ∨ W v = some x := fun {v x} hv => by
    unfold upW at hv; split at hv
    · cases hv; exact .inl ⟨by assumption, rfl⟩
    · exact .inr hv
  have geb : ∀ v y, upW W b v = some y → ¬ Bt b y := fun v y hv => by
    rcases split hv with ⟨_, rfl⟩ | hv
    · exact no_self _
    · exact h.ge b hb v y hv
  refine ⟨?_, ?_, ?_, ?_, ?_, ?_⟩
  · left
    rcases hbp with ⟨e, _⟩ | ⟨_, e, _⟩
    · have : b.ds = f := by rw [e]; rfl
      unfold upW; rw [if_pos this.symm, e]
    · exact keep e
  · intro v x hv
    rcases split hv with ⟨rfl, rfl⟩ | hv
    · exact ⟨rfl, hge⟩
    · exact h.too v x hv
  · intro v x hv hvf
    rcases split hv with ⟨rfl, rfl⟩ | hv
    · rcases hbp with ⟨e, _⟩ | ⟨_, _, u, y, c, hu, he, e⟩
      · exact absurd (by rw [e]; rfl) hvf
      · exact ⟨u, y, c, keep hu, he, e⟩
    · obtain ⟨u, y, c, hu, he, e⟩ := h.fr v x hv hvf
      exact ⟨u, y, c, keep hu, he, e⟩
  · intro x hx
    rcases h2 x hx with hx | ⟨c, he, e⟩
    · rcases h.hp x hx with e | ⟨u, y, c, hu, he, e⟩
      · exact .inl e
      · exact .inr ⟨u, y, c, keep hu, he, e⟩
    · exact .inr ⟨b.ds, b, c, self, he, e⟩
  · intro x hx v y hv
    rcases h2 x hx with hx | ⟨c, he, e⟩
    · rcases split hv with ⟨_, rfl⟩ | hv
      · exact hmin x hx
      · exact h.ge x hx v y hv
    · rw [e]; exact no_trans (geb v y hv) (ext_no (ed_pos hp he))
  · intro u y v c hu he
    rcases split hu with ⟨rfl, rfl⟩ | hu
    · rcases h3 v c he with hr | ⟨z, hz'⟩
      · exact .inl hr
      · exact .inr ⟨z, hz', no_trans (geb v z hz') (ext_no (ed_pos hp he))⟩
    · rcases h.le u y v c hu he with ⟨x, hx, hd, hn⟩ | ⟨x, hv, hn⟩
      · rcases h1 x hx with rfl | e | ⟨x', hx', hd', hn'⟩
        · exact .inr ⟨x, by rw [← hd]; exact self, hn⟩
        · exact .inr ⟨b, by rw [← hd, e]; exact self, no_trans (hmin x hx) hn⟩
        · exact .inl ⟨x', hx', hd'.trans hd, no_trans hn' hn⟩
      · exact .inr ⟨x, keep hv, hn⟩
theorem inv_done {g : List Tu.R} {f : Int} {W : Int → Option R} {H : R → Prop} (h : Inv g f W H) (he : ∀ x, ¬ H x) : Good g f W := by
  refine ⟨?_, h.too, h.fr, ?_⟩
  · rcases h.st with e | ⟨_, _, e⟩
    · exact e
    · exact absurd e (he _)
  · intro u y v c hu hE
    rcases h.le u y v c hu hE with ⟨x, hx, _⟩ | hr
    · exact absurd hx (he x)
    · exact hr
/-- How many addresses are known; hops and costs are bounded by it. -/
def cntW (W : Int → Option R) : Nat := (if (W 1).isSome then 1 else 0) + (if (W 2).isSome then 1 else 0) + (if (W 3).isSome then 1 else 0) + (if (W 4).isSome then 1 else 0) + (if (W 5).isSome then 1 else 0) + (if (W 6).isSome then 1 else 0) + (if (W 7).isSome then 1 else 0) + (if (W 8).isSome then 1 else 0)
theorem cnt_le (W : Int → Option R) : cntW W ≤ 8 := by
  have h : ∀ b : Bool, (if b = true then 1 else 0) ≤ 1 := fun b => by cases b <;> simp
  unfold cntW
  have := h (W 1).isSome; have := h (W 2).isSome; have := h (W 3).isSome; have := h (W 4).isSome
  have := h (W 5).isSome; have := h (W 6).isSome; have := h (W 7).isSome; have := h (W 8).isSome
  omega
theorem cnt_none (W : Int → Option R) (h : ∀ v, W v = none) : cntW W = 0 := by unfold cntW; simp [h]
theorem up_same (W : Int → Option R) (b : R) : upW W b b.ds = some b := by unfold upW; rw [if_pos rfl]
theorem up_other {W : Int → Option R} {b : R} {v : Int} (h : v ≠ b.ds) : upW W b v = W v := by unfold upW; rw [if_neg h]
theorem cnt_up {W : Int → Option R} {b : R} (h1 : 1 ≤ b.ds) (h8 : b.ds ≤ 8) (hz : W b.ds = none) : cntW (upW W b) = cntW W + 1 := by
  have hs := up_same W b
  obtain ⟨d, hd⟩ : ∃ d, b.ds = d := ⟨_, rfl⟩
  rw [hd] at h1 h8 hz hs
  have ho : ∀ v, v ≠ d → upW W b v = W v := fun v hv => up_other (by rw [hd]; exact hv)
  have hc : d = 1 ∨ d = 2 ∨ d = 3 ∨ d = 4 ∨ d = 5 ∨ d = 6 ∨ d = 7 ∨ d = 8 := by omega
  unfold cntW
  rcases hc with rfl | rfl | rfl | rfl | rfl | rfl | rfl | rfl
  · rw [hs, hz, ho 2 (by omega), ho 3 (by omega), ho 4 (by omega), ho 5 (by omega), ho 6 (by omega), ho 7 (by omega), ho 8 (by omega)]; simp <;> omega
  · rw [hs, hz, ho 1 (by omega), ho 3 (by omega), ho 4 (by omega), ho 5 (by omega), ho 6 (by omega), ho 7 (by omega), ho 8 (by omega)]; simp <;> omega
  · rw [hs, hz, ho 1 (by omega), ho 2 (by omega), ho 4 (by omega), ho 5 (by omega), ho 6 (by omega), ho 7 (by omega), ho 8 (by omega)]; simp <;> omega
  · rw [hs, hz, ho 1 (by omega), ho 2 (by omega), ho 3 (by omega), ho 5 (by omega), ho 6 (by omega), ho 7 (by omega), ho 8 (by omega)]; simp <;> omega
  · rw [hs, hz, ho 1 (by omega), ho 2 (by omega), ho 3 (by omega), ho 4 (by omega), ho 6 (by omega), ho 7 (by omega), ho 8 (by omega)]; simp <;> omega
  · rw [hs, hz, ho 1 (by omega), ho 2 (by omega), ho 3 (by omega), ho 4 (by omega), ho 5 (by omega), ho 7 (by omega), ho 8 (by omega)]; simp <;> omega
  · rw [hs, hz, ho 1 (by omega), ho 2 (by omega), ho 3 (by omega), ho 4 (by omega), ho 5 (by omega), ho 6 (by omega), ho 8 (by omega)]; simp <;> omega
  · rw [hs, hz, ho 1 (by omega), ho 2 (by omega), ho 3 (by omega), ho 4 (by omega), ho 5 (by omega), ho 6 (by omega), ho 7 (by omega)]; simp <;> omega
/-- Bounds: a way that is known, or open, has at most as many hops as there are known ones, and ends at an address. -/
def okN (n : Nat) (x : R) : Prop := 1 ≤ x.ds ∧ x.ds ≤ 8 ∧ 0 ≤ x.nx ∧ x.nx ≤ 8 ∧ 0 ≤ x.hp ∧ x.hp ≤ n ∧ 0 ≤ x.co ∧ x.co ≤ 1073741824 * n ∧ (x.hp = 0 ∨ 1 ≤ x.nx)
theorem okN_mono {n m : Nat} (h : n ≤ m) {x : R} (hx : okN n x) : okN m x := by unfold okN at *; omega
theorem okN_ext {n : Nat} {x : R} (hx : okN n x) {v c : Int} (hv : 1 ≤ v ∧ v ≤ 8) (hc : 0 ≤ c ∧ c ≤ 1073741824) : okN (n + 1) (ext x v c) := by
  unfold okN ext at *
  dsimp only
  split <;> omega
theorem okN_zl {f : Int} (h : 1 ≤ f ∧ f ≤ 8) : okN 0 (zl f) := by unfold okN zl; dsimp only; omega
/-- The best ways. -/
noncomputable def best (g : List Tu.R) (f : Int) : Int → Option R := by
  classical
  exact if h : ∃ L, Good g f L then h.choose else fun _ => none
theorem best_is {g : List Tu.R} (hp : Pos g) {f : Int} {L : Int → Option R} (h : Good g f L) : L = best g f := by
  have hx : ∃ L, Good g f L := ⟨L, h⟩
  have e : best g f = hx.choose := by unfold best; rw [dif_pos hx]
  rw [e]
  exact funext (best_one hp h hx.choose_spec)
end Wd
end Go.Proofs.YtfooahhdikobeaaGreat
namespace Go.Proofs.YtfooahhdikobeaaGreat
open Go.ChangeShapes Go.WideShapes Go.ChangeAt Go.RowKit
set_option linter.unusedVariables false
set_option linter.unusedSimpArgs false
set_option maxRecDepth 100000
attribute [local go_sem ↓] Go.wp_at_zero Go.wp_at_succ
namespace Wd
open W1 Tu St Tw
/-- The first j values are from 1 on; whether a graph is right; the code of one and an address. -/
def posJ (g : List Tu.R) (j : Nat) : Bool := (g.take j).all (fun m => decide (1 ≤ m.val))
def graphB (g : List Tu.R) : Bool := twoB g && posJ g g.length
def codeG (g : List Tu.R) (f : Int) : Int := if 4096 < (g.length : Int) then 2 else if graphB g = true then (if inB f 1 8 = true then 0 else 4) else 1
theorem pos_zero (g : List Tu.R) : posJ g 0 = true := rfl
theorem pos_succ {g : List Tu.R} {j : Nat} (hj : j < g.length) (h : posJ g j = true) (hk : 1 ≤ (g.getD j Tu.R.zero).val) : posJ g (j + 1) = true := by
  unfold posJ at *; rw [take_one hj, List.all_append, h, Bool.true_and, List.all_cons, decide_eq_true hk]; rfl
theorem pos_no {g : List Tu.R} {j : Nat} (hj : j < g.length) (hk : (g.getD j Tu.R.zero).val < 1) : graphB g = false := by
  have : posJ g g.length = false := by
    unfold posJ; rw [List.take_length, List.all_eq_false]
    exact ⟨_, getD_mem hj, by show ¬ decide (1 ≤ (g.getD j Tu.R.zero).val) = true; rw [decide_eq_false (by omega)]; simp⟩
  unfold graphB; rw [this, Bool.and_false]
theorem graph_two {g : List Tu.R} (h : graphB g = true) : twoB g = true := by unfold graphB at h; rw [Bool.and_eq_true] at h; exact h.1
theorem graph_pos {g : List Tu.R} (h : graphB g = true) : Pos g := by
  unfold graphB at h; rw [Bool.and_eq_true] at h
  intro m hm
  have := h.2
  unfold posJ at this
  rw [List.take_length] at this
  simpa using List.all_eq_true.1 this m hm
theorem graph_of {g : List Tu.R} (h : twoB g = true) (hp : Pos g) : graphB g = true := by
  unfold graphB posJ; rw [h, List.take_length, Bool.true_and]
  exact List.all_eq_true.2 (fun m hm => decide_eq_true (hp m hm))
theorem codeG_long {g : List Tu.R} {f : Int} (h : 4096 < (g.length : Int)) : codeG g f = 2 := by unfold codeG; rw [if_pos h]
theorem codeG_bad {g : List Tu.R} {f : Int} (h : ¬ 4096 < (g.length : Int)) (hg : graphB g = false) : codeG g f = 1 := by unfold codeG; rw [if_neg h, if_neg (by rw [hg]; simp)]
theorem codeG_range {g : List Tu.R} {f : Int} (h : ¬ 4096 < (g.length : Int)) (hg : graphB g = true) (hf : inB f 1 8 = false) : codeG g f = 4 := by unfold codeG; rw [if_neg h, if_pos hg, if_neg (by rw [hf]; simp)]
theorem codeG_zero {g : List Tu.R} {f : Int} (hg : graphB g = true) (hf : inB f 1 8 = true) : codeG g f = 0 := by
  have := two_len (graph_two hg); unfold codeG; rw [if_neg (by omega), if_pos hg, if_pos hf]
theorem codeG_ok {g : List Tu.R} {f : Int} (h : codeG g f = 0) : graphB g = true ∧ 1 ≤ f ∧ f ≤ 8 := by
  unfold codeG at h
  split at h
  · omega
  · split at h
    · split at h
      · refine ⟨by assumption, ?_⟩; rename_i hf; simpa [inB] using hf
      · omega
    · omega
theorem ed_rng {g : List Tu.R} (h : twoB g = true) {u v c : Int} (he : Ed g u v c) : (1 ≤ u ∧ u ≤ 8) ∧ (1 ≤ v ∧ v ≤ 8) ∧ u ≠ v ∧ 0 ≤ c ∧ c ≤ 1073741824 := by
  obtain ⟨m, hm, rfl, rfl, rfl⟩ := he
  have hk := ok_k (two_ok h m hm)
  obtain ⟨i, hi, rfl⟩ := List.getElem_of_mem hm
  have hb := ok_bounds (setB_ok (two_set h) hi)
  rw [show g.getD i Tu.R.zero = g[i] by rw [List.getD_eq_getElem?_getD, List.getElem?_eq_getElem hi]; rfl] at hb
  exact ⟨hk.1, hk.2.1, hk.2.2, by omega⟩
set_option maxHeartbeats 4000000 in
theorem implGraphOK (a : Option Addr) (ms : List Tu.R) (cap : Nat) (w : World) (hm : ms.length ≤ 1048576) (hr : Tu.RM w a ms) :
    Calls Tryz.prog 157 #[.slice a ms.length cap] w fun e w' => e = .returned (.bool (graphB ms)) ∧ Below w.heap.size w w' := by
  have HR := hide hr
  clear hr
  cases hs : twoB ms
  · rw [show graphB ms = false by unfold graphB; rw [hs]; rfl]
    have HS := hide hs
    clear hs
    go_enter Tryz.func157, Tryz.ntmps157
    go_wp2_with fail
    refine (areHops _ ms cap _ hm (unhide HR)).mono ?_
    rintro e w1 ⟨rfl, b1⟩
    rw [unhide HS]
    have HB := hide b1
    clear b1
    go_wp2_with fail
    go_ret
    exact ⟨rfl, unhide HB⟩
  have HS := hide hs
  clear hs
  obtain ⟨G, hG⟩ : ∃ G, graphB ms = G := ⟨_, rfl⟩
  have HG := hide hG
  rw [hG]
  clear hG
  generalize hN : ms.length = n at *
  have HN := hide hN
  clear hN
  go_enter Tryz.func157, Tryz.ntmps157
  go_wp2_with fail
  rw [← unhide HN]
  refine (areHops _ ms cap _ (by have := unhide HN; omega) (unhide HR)).mono ?_
  rintro e w1 ⟨rfl, b1⟩
  rw [unhide HS]
  have HB1 := hide b1
  clear b1
  go_wp2_with fail
  rw [unhide HN]
  go_loopw [10] (fun i wr => ∃ j : Nat, j ≤ n ∧ i = .int .i64 j ∧ Hid (posJ ms j = true) ∧ Hid (Below w.heap.size w wr)) (fun i _ => n - (intOf i).toNat)
  case atStart => exact ⟨0, by omega, rfl, hide (pos_zero ms), HB1⟩
  case round =>
    obtain ⟨j, hj, rfl, hkb, hbl⟩ := hrel
    by_cases hlt : (j : Int) < (n : Int)
    · have k0 : (0 : Int) ≤ (j : Int) := by omega
      have hlen : j < ms.length := by rw [unhide HN]; omega
      obtain ⟨g, off, rfl⟩ := (unhide HR).form (by omega)
      obtain ⟨c0, c1, c2⟩ := ((unhide HR).below (unhide hbl)).at hlen
      have hbs := (unhide hbl).size
      have HY : Hid (1 ≤ (ms.getD j Tu.R.zero).val → posJ ms (j + 1) = true) := hide (fun h => pos_succ hlen (unhide hkb) h)
      have HZ : Hid ((ms.getD j Tu.R.zero).val < 1 → G = false) := hide (fun h => by rw [← unhide HG]; exact pos_no hlen h)
      generalize ms.getD j Tu.R.zero = m at *
      obtain ⟨key, til, val⟩ := m
      dsimp only at c0 c1 c2 HY HZ
      have HBA := hide ((unhide hbl).alloc hbs (.cells #[.int .i64 key, .int .i64 til, .int .i64 val] 99))
      by_cases hv : val < 1
      · have HT := hide (unhide HZ hv)
        go_wp2_with fail
        go_ret
        exact ⟨ret_bool (unhide HT).symm, unhide HBA⟩
      · have HT := hide (unhide HY (by omega))
        go_wp2_with fail
        go_roundw
        case rel => exact ⟨j + 1, by omega, by go_num, HT, HBA⟩
        case measure => simp [intOf]; omega
    · obtain rfl : j = n := by omega
      have HT : Hid (G = true) := hide (by rw [← unhide HG]; unfold graphB; rw [unhide HS, unhide HN, unhide hkb]; rfl)
      go_wp2_with fail
      go_ret
      exact ⟨ret_bool (unhide HT).symm, unhide hbl⟩
set_option maxHeartbeats 2000000 in
theorem graphCode (a : Option Addr) (ms : List Tu.R) (cap : Nat) (f : Int) (w : World) (hm : ms.length ≤ 1048576) (hr : Tu.RM w a ms) :
    Calls Tryz.prog 116 #[.slice a ms.length cap, .int .i64 f] w fun e w' => e = .returned (.int .i64 (codeG ms f)) ∧ Below w.heap.size w w' := by
  have HR := hide hr
  clear hr
  by_cases hbig : (4096 : Int) < ms.length
  · rw [codeG_long hbig]
    go_enter Tryz.func116, Tryz.ntmps116
    go_wp2_with fail
    go_ret
    exact ⟨rfl, Below.refl _ _⟩
  cases hs : graphB ms
  · rw [codeG_bad hbig hs]
    have HS := hide hs
    clear hs
    go_enter Tryz.func116, Tryz.ntmps116
    go_wp2_with fail
    refine (implGraphOK _ ms cap _ hm (unhide HR)).mono ?_
    rintro e w1 ⟨rfl, b1⟩
    rw [unhide HS]
    have HB := hide b1
    clear b1
    go_wp2_with fail
    go_ret
    exact ⟨rfl, unhide HB⟩
  cases hf : inB f 1 8
  · rw [codeG_range hbig hs hf]
    have HS := hide hs
    clear hs
    go_enter Tryz.func116, Tryz.ntmps116
    go_wp2_with fail
    refine (implGraphOK _ ms cap _ hm (unhide HR)).mono ?_
    rintro e w1 ⟨rfl, b1⟩
    rw [unhide HS]
    have HB := hide b1
    clear b1
    go_wp2_with (go_at_call 109; refine (isAddress _ _).mono ?_; rintro e w' ⟨rfl, rfl⟩)
    go_ret
    exact ⟨rfl, unhide HB⟩
  rw [codeG_zero hs hf]
  have HS := hide hs
  clear hs
  go_enter Tryz.func116, Tryz.ntmps116
  go_wp2_with fail
  refine (implGraphOK _ ms cap _ hm (unhide HR)).mono ?_
  rintro e w1 ⟨rfl, b1⟩
  rw [unhide HS]
  have HB := hide b1
  clear b1
  go_wp2_with (go_at_call 109; refine (isAddress _ _).mono ?_; rintro e w' ⟨rfl, rfl⟩)
  go_ret
  exact ⟨rfl, unhide HB⟩
end Wd
end Go.Proofs.YtfooahhdikobeaaGreat
namespace Go.Proofs.YtfooahhdikobeaaGreat
open Go.ChangeShapes Go.WideShapes Go.ChangeAt Go.RowKit
set_option linter.unusedVariables false
set_option linter.unusedSimpArgs false
set_option maxRecDepth 100000
attribute [local go_sem ↓] Go.wp_at_zero Go.wp_at_succ
namespace Nt
open W1 Tu St Tw
end Nt
end Go.Proofs.YtfooahhdikobeaaGreat
namespace Go.Proofs.YtfooahhdikobeaaGreat
open Go.ChangeShapes Go.WideShapes Go.ChangeAt Go.RowKit
set_option linter.unusedVariables false
set_option linter.unusedSimpArgs false
set_option maxRecDepth 100000
attribute [local go_sem ↓] Go.wp_at_zero Go.wp_at_succ
namespace Nt
open W1 Rt
theorem own_bel {w w' : World} {base e k : Nat} {v : Value} {n : Nat} {xs : List Value} (h : w.ownsRow base e k v n xs) (hb : Below w.heap.size w w') : w'.ownsRow base e k v n xs :=
  h.kept (row := none) ⟨hb.os, hb.tape, hb.output, hb.size, fun k hk _ => hb.block k hk⟩ (by rcases hv : v.ownBlock with _ | g; exact .inl rfl; exact .inr (by simp))
theorem NB.under {w w' : World} {B b : Nat} {v1 v2 v3 : Value} {t : Int} (h : NB w b v1 v2 v3 t) (hb : Below B w w') (hg : b < B) : NB w' b v1 v2 v3 t := by
  obtain ⟨h0, h1, h2, h3⟩ := h
  refine ⟨?_, ?_, ?_, ?_⟩ <;> (rw [hb.cell (p := ⟨b, _, none⟩) hg]; assumption)
end Nt
end Go.Proofs.YtfooahhdikobeaaGreat
namespace Go.Proofs.YtfooahhdikobeaaGreat
open Go.ChangeShapes Go.WideShapes Go.ChangeAt Go.RowKit
set_option linter.unusedVariables false
set_option linter.unusedSimpArgs false
set_option maxRecDepth 100000
attribute [local go_sem ↓] Go.wp_at_zero Go.wp_at_succ
namespace Nt
open W1 Rt
/-- A list with an address of its own above a bound. -/
def OG (W : World) (v : Value) (xs : List Tu.R) (lo : Nat) : Prop := ∃ g c, v = .slice (some ⟨g, 0, none⟩) xs.length c ∧ lo ≤ g ∧ g < W.heap.size ∧ Tu.Upto W g xs.length xs.length xs
theorem OG.below {W W' : World} {v : Value} {xs : List Tu.R} {lo : Nat} (h : OG W v xs lo) (hb : Below W.heap.size W W') : OG W' v xs lo := by
  obtain ⟨g, c, e, h1, h2, h3⟩ := h
  exact ⟨g, c, e, h1, Nat.lt_of_lt_of_le h2 hb.size, h3.below hb h2⟩
end Nt
end Go.Proofs.YtfooahhdikobeaaGreat
namespace Go.Proofs.YtfooahhdikobeaaGreat
set_option linter.unusedVariables false
set_option linter.unusedSimpArgs false
namespace Tp
open W1 Tu St Tw
end Tp
end Go.Proofs.YtfooahhdikobeaaGreat
namespace Go.Proofs.YtfooahhdikobeaaGreat
open Go.ChangeShapes Go.WideShapes Go.ChangeAt Go.RowKit
set_option linter.unusedVariables false
set_option maxRecDepth 100000
set_option linter.unusedSimpArgs false
namespace Me
open W1 Tu Tw Go.Maps
/-- How an element reads. -/
def rdR (v : Value) : Option (DataW R × List MemPlace) :=
  match v with
  | .agg cs => (match cs.toList with
    | [.int .i64 a, .int .i64 b, .int .i64 c] => some (.held ⟨a, b, c⟩, [])
    | _ => none)
  | _ => none
theorem rdR_mk (m : R) : rdR m.value = some (.held m, []) := rfl
theorem rdR_inv {v : Value} {m : R} {ps : List MemPlace} (h : rdR v = some (.held m, ps)) : v = m.value := by
  unfold rdR at h
  split at h
  · rename_i cs
    split at h
    · rename_i a b c hl
      cases h
      unfold R.value
      congr 1
      exact Array.toList_inj.1 hl
    · cases h
  · cases h
/-- A key. -/
def kv (v a : Int) : Value := .agg #[.int .i64 v, .int .i64 a]
theorem kv_inj {v a x y : Int} (h : kv v a = kv x y) : v = x ∧ a = y := by unfold kv at h; simpa using h
theorem laidOut : laidOutB Tryz.prog = true := by kernel_rfl
theorem rowK : (194 : TypeId) < Tryz.prog.types.size := of_decide_eq_true (by kernel_rfl)
theorem wideK : (match Tryz.prog.underlying 194 with | some (.array _ _) | some (.struct _) => true | _ => false) = true := by kernel_rfl
theorem law : Keyed Tryz.prog 194 := Keyed.of_law (deep_law_laid laidOut (m := 2) (by omega) rowK (by kernel_rfl) wideK)
theorem keyT : Tryz.prog.keyType 194 = true := by kernel_rfl
theorem cellsK : Tryz.prog.cellsOf 194 = 2 := by kernel_rfl
theorem cellsI : Tryz.prog.cellsOf 3 = 1 := by kernel_rfl
theorem zeroE (w : World) : (zeroValue 99).run Tryz.prog w = .ok R.zero.value w := by kernel_rfl
theorem kv_key {v a : Int} (hw1 : (Lit.int .i64 v).wf = true) (hw : (Lit.int .i64 a).wf = true) : ∃ l, keyOf Tryz.prog 194 (kv v a) = some l := by
  obtain ⟨d, hd⟩ : ∃ d, Tryz.prog.types.size = d + 1 := ⟨Tryz.prog.types.size - 1, (Nat.sub_add_cancel (Nat.lt_of_le_of_lt (Nat.zero_le _) rowK)).symm⟩
  have hf : (kv v a).formed Tryz.prog 194 = true := by simp [kv, Value.formed, Tryz.underlying194, cellsK]
  unfold keyOf
  rw [Tryz.underlying194]
  simp only [keyT, hf, Bool.and_self, if_true, hd]
  simp [kv, Value.cells, Program.keyLits, Tryz.underlying194, cellsK, cellsI, Tryz.underlying3, hw1, hw, List.range_succ, List.mapM_cons]
/-- Block b is a map of at most n entries that holds just what f says. -/
def OM (w : World) (b n : Nat) (f : Int → Int → Option R) : Prop :=
  ∃ D : DataW R, w.ownsMap Tryz.prog 194 rdR b n D ∧ ∀ v a l, keyOf Tryz.prog 194 (kv v a) = some l → has D l = (f v a).isSome ∧ ∀ m, f v a = some m → ∀ z, D.atKey l z = .held m
theorem om_made (w : World) : OM (w.alloc (.map #[] 0)) w.heap.size 0 (fun _ _ => none) := ⟨_, World.ownsMap_made w _ _ _, fun v a l h => ⟨rfl, fun m hm => by cases hm⟩⟩
theorem OM.lt {w : World} {b n : Nat} {f : Int → Int → Option R} (h : OM w b n f) : b < w.heap.size := let ⟨_, h, _⟩ := h; h.lt
theorem OM.drew {w : World} {b n : Nat} {f : Int → Int → Option R} (h : OM w b n f) : OM w.drew b n f := h
theorem OM.below {w w' : World} {b n : Nat} {f : Int → Int → Option R} (h : OM w b n f) (hb : Below w.heap.size w w') : OM w' b n f := by
  obtain ⟨D, h, hf⟩ := h
  exact ⟨D, h.kept (row := none) ⟨hb.os, hb.tape, hb.output, hb.size, fun k hk _ => hb.block k hk⟩ (by simp), hf⟩
theorem OM.setCell {w : World} {b n : Nat} {f : Int → Int → Option R} (h : OM w b n f) {a : Addr} (ha : b ≠ a.block) (u : Value) : OM (w.setCell a u) b n f := by
  obtain ⟨D, h, hf⟩ := h
  exact ⟨D, h.setCell ha u, hf⟩
theorem OM.mono {w : World} {b n n' : Nat} {f : Int → Int → Option R} (h : OM w b n f) (hn : n ≤ n') : OM w b n' f := by
  obtain ⟨D, h, hf⟩ := h
  exact ⟨D, h.mono hn, hf⟩
theorem OM.size {w : World} {b n : Nat} {f : Int → Int → Option R} (h : OM w b n f) : ∃ q : Nat, q ≤ n ∧ ∀ ty, (Builtin.len_ #[205] ty #[.map (some b)]).run Tryz.prog w = .ok (.int .i64 q) w := by
  obtain ⟨D, h, _⟩ := h
  exact ⟨_, h.size_le, fun ty => h.len Tryz.underlying205 ty⟩
theorem OM.look {w : World} {b n : Nat} {f : Int → Int → Option R} (h : OM w b n f) {v a : Int} (hw1 : (Lit.int .i64 v).wf = true) (hw : (Lit.int .i64 a).wf = true) (c : Bool) :
    (Instr.lookup 205 (.map (some b)) (kv v a) c).run Tryz.prog w = .ok (if c then .tuple #[((f v a).getD R.zero).value, .bool (f v a).isSome] else ((f v a).getD R.zero).value) w := by
  obtain ⟨D, h, hf⟩ := h
  obtain ⟨l, hl⟩ := kv_key hw1 hw
  obtain ⟨hh, hv⟩ := hf v a l hl
  have key : ∀ u ps, rdR u = some (D.atKey l (.held R.zero), ps) → u = ((f v a).getD R.zero).value := by
    intro u ps hr
    cases e : f v a with
    | none => rw [e] at hh; rw [atKey_of_not_has hh] at hr; exact rdR_inv hr
    | some m => rw [hv m e] at hr; exact rdR_inv hr
  cases c
  · obtain ⟨u, ps, hrun, hr⟩ := h.lookup law Tryz.underlying205 (zeroE w) (rdR_mk R.zero) hl
    rw [hrun, key u ps hr]; rfl
  · obtain ⟨u, ps, hrun, hr⟩ := h.look_ok law Tryz.underlying205 (zeroE w) (rdR_mk R.zero) hl
    rw [hrun, key u ps hr, hh]; rfl
theorem OM.store {w : World} {b n : Nat} {f : Int → Int → Option R} (h : OM w b n f) (hn : n < maxLen) {v a : Int} (hw1 : (Lit.int .i64 v).wf = true) (hw : (Lit.int .i64 a).wf = true) (m : R) :
    ∃ w', (Instr.mapUpdate 205 (.map (some b)) (kv v a) m.value).run Tryz.prog w = .ok () w' ∧ OM w' b (n + 1) (updT f v a m) ∧ w.grownBy w' (some b) := by
  obtain ⟨D, h, hf⟩ := h
  obtain ⟨l, hl⟩ := kv_key hw1 hw
  obtain ⟨w', hrun, hown, hg⟩ := h.update law Tryz.underlying205 hn hl (rdR_mk m)
  refine ⟨w', hrun, ⟨_, hown, fun x y lx hx => ?_⟩, hg⟩
  unfold updT
  by_cases e : x = v ∧ y = a
  · obtain ⟨rfl, rfl⟩ := e
    rw [hl] at hx; cases hx
    rw [if_pos ⟨rfl, rfl⟩]
    refine ⟨has_put_same h.isMap (law.key hl) _, fun m' hm' z => ?_⟩
    cases hm'
    exact atKey_put_same h.isMap (law.key hl) _ z
  · have hne : lx ≠ l := fun el => e (kv_inj (law.inj (el ▸ hx) hl))
    rw [if_neg e]
    obtain ⟨q1, q2⟩ := hf x y lx hx
    exact ⟨by rw [has_put_other hne]; exact q1, fun m' hm' z => by rw [atKey_put_other hne]; exact q2 m' hm' z⟩
theorem OM.drop {w : World} {b n : Nat} {f : Int → Int → Option R} (h : OM w b n f) {v a : Int} (hw1 : (Lit.int .i64 v).wf = true) (hw : (Lit.int .i64 a).wf = true) (ty : TypeId) :
    ∃ w', (Builtin.delete_ #[205, 194] ty #[.map (some b), kv v a]).run Tryz.prog w = .ok (.tuple #[]) w' ∧ OM w' b n (delT f v a) ∧ w.grownBy w' (some b) := by
  obtain ⟨D, h, hf⟩ := h
  obtain ⟨l, hl⟩ := kv_key hw1 hw
  obtain ⟨w', hrun, hown, hg⟩ := h.drop law Tryz.underlying205 hl ty
  refine ⟨w', hrun, ⟨_, hown, fun x y lx hx => ?_⟩, hg.grown⟩
  unfold delT
  by_cases e : x = v ∧ y = a
  · obtain ⟨rfl, rfl⟩ := e
    rw [hl] at hx; cases hx
    rw [if_pos ⟨rfl, rfl⟩]
    exact ⟨has_del_same, fun m' hm' => by cases hm'⟩
  · have hne : lx ≠ l := fun el => e (kv_inj (law.inj (el ▸ hx) hl))
    rw [if_neg e]
    obtain ⟨q1, q2⟩ := hf x y lx hx
    exact ⟨by rw [has_del_other hne]; exact q1, fun m' hm' z => by rw [atKey_del_other hne]; exact q2 m' hm' z⟩
section
variable {ops : Array Oper} {rest : List Oper} {o : Oper} {a : Act} {Q : Exit → Act → World → Prop}
/-- 'v, ok := m[k]' at the operation. -/
theorem wpList_look (w : World) (hg : o.guard = none) (m x : Operand) (hop : o.op = Op.lookup 205 m x true) (b n : Nat) (f : Int → Int → Option R) (hm : a.eval m = .map (some b)) (h : OM w b n f) (v k : Int) (hw1 : (Lit.int .i64 v).wf = true) (hw : (Lit.int .i64 k).wf = true) (hx : a.eval x = kv v k)
    (hK : wpList Tryz.prog ops Q rest (a.put o.dst (.tuple #[((f v k).getD R.zero).value, .bool (f v k).isSome])) w) : wpList Tryz.prog ops Q (o :: rest) a w := by
  refine wpList_plain hg fun K' hK' => ?_
  have hrun := h.look hw1 hw true
  unfold Oper.wp
  simp [execOp, hop, hm, hx, hrun, Result.andThen]
  exact hK' _ _ hK
/-- .. the answer written out. -/
theorem wpList_lookA (w : World) (hg : o.guard = none) (m x : Operand) (hop : o.op = Op.lookup 205 m x true) (b n : Nat) (f : Int → Int → Option R) (hm : a.eval m = .map (some b)) (h : OM w b n f) (v k : Int) (hw1 : (Lit.int .i64 v).wf = true) (hw : (Lit.int .i64 k).wf = true) (hx : a.eval x = kv v k)
    (ke ti va : Int) (E : Bool) (hA : (f v k).getD R.zero = ⟨ke, ti, va⟩) (hE : (f v k).isSome = E)
    (hK : wpList Tryz.prog ops Q rest (a.put o.dst (.tuple #[.agg #[.int .i64 ke, .int .i64 ti, .int .i64 va], .bool E])) w) : wpList Tryz.prog ops Q (o :: rest) a w :=
  wpList_look w hg m x hop b n f hm h v k hw1 hw hx (by rw [hA, hE]; exact hK)
/-- 'm[k] = v' at the operation. -/
theorem wpList_put (w : World) (hg : o.guard = none) (m x vo : Operand) (hop : o.op = Op.mapUpdate 205 m x vo) (b n : Nat) (f : Int → Int → Option R) (hm : a.eval m = .map (some b)) (h : OM w b n f) (hn : n < maxLen) (v k : Int) (hw1 : (Lit.int .i64 v).wf = true) (hw : (Lit.int .i64 k).wf = true) (r : R) (hx : a.eval x = kv v k) (hv : a.eval vo = r.value)
    (hK : ∀ w', OM w' b (n + 1) (updT f v k r) → w.grownBy w' (some b) → wpList Tryz.prog ops Q rest (a.put o.dst undef) w') : wpList Tryz.prog ops Q (o :: rest) a w := by
  refine wpList_plain hg fun K' hK' => ?_
  obtain ⟨w', hrun, q1, q2⟩ := h.store hn hw1 hw r
  unfold Oper.wp
  simp [execOp, hop, hm, hx, hv, hrun, Result.andThen]
  exact hK' _ _ (hK w' q1 q2)
/-- The same, inside a region that draws its order. -/
theorem wp_put {K : Act → World → Prop} (w : World) (m x vo : Operand) (hop : o.op = Op.mapUpdate 205 m x vo) (hd : o.dst = none) (b n : Nat) (f : Int → Int → Option R) (hm : a.eval m = .map (some b)) (h : OM w b n f) (hn : n < maxLen) (v k : Int) (hw1 : (Lit.int .i64 v).wf = true) (hw : (Lit.int .i64 k).wf = true) (r : R) (hx : a.eval x = kv v k) (hv : a.eval vo = r.value)
    (hK : ∀ w', OM w' b (n + 1) (updT f v k r) → w.grownBy w' (some b) → K (a.put none undef) w') : o.wp Tryz.prog a w K Q := by
  obtain ⟨w', hrun, q1, q2⟩ := h.store hn hw1 hw r
  unfold Oper.wp
  simp [execOp, hop, hm, hx, hv, hrun, Result.andThen]
  show K (a.put o.dst undef) w'
  rw [hd]
  exact hK w' q1 q2
end
end Me
end Go.Proofs.YtfooahhdikobeaaGreat
namespace Go.Proofs.YtfooahhdikobeaaGreat
open Go.ChangeShapes Go.WideShapes Go.ChangeAt Go.RowKit
set_option linter.unusedVariables false
set_option linter.unusedSimpArgs false
set_option maxRecDepth 100000
attribute [local go_sem ↓] Go.wp_at_zero Go.wp_at_succ
namespace Tp
open W1 Tu St Tw Me
theorem ordE_at (f : Int → Int → Option R) {j k : Nat} (hk : k < 8) : ordT f (8 * j + (k + 1)) = ordT f (8 * j + k) ++ (f ((j : Int) + 1) ((k : Int) + 1)).toList := by
  have := ordT_succ f (8 * j + k)
  rw [show (8 * j + k) / 8 = j by omega, show (8 * j + k) % 8 = k by omega] at this
  exact this
set_option maxRecDepth 100000 in
set_option maxHeartbeats 4000000 in
theorem edgesInOrder (b n : Nat) (f : Int → Int → Option R) (w : World) (hn : n ≤ 128) (hom : OM w b n f) :
    Calls Tryz.prog 173 #[.map (some b)] w fun e w' => ∃ v, e = .returned v ∧ Below w.heap.size w w' ∧ LstV w' v (ordT f 64) w.heap.size w'.heap.size := by
  obtain ⟨q, hqn, hlen⟩ := hom.size
  have HOM := hide hom
  clear hom
  obtain ⟨i0, hi, hz0, hz1, hz2⟩ := infoR
  obtain ⟨wm, hmk, hmown, hmgrow⟩ := run_make_own (P := Tryz.prog) w w.heap.size 77 99 i0 _ 3 Tryz.underlying77 hi hz0 hz1 .i64 .i64 q (by rw [hz2]; omega) (by unfold maxLen; omega) (Nat.le_refl _)
  have OW : Hid (wm.ownsRow w.heap.size 99 3 (.slice (some ⟨w.heap.size, 0, none⟩) 0 q) (ordT f (8 * 0)).length (flat (ordT f (8 * 0)))) := hide hmown
  have DM : Hid (Below w.heap.size w wm) := hide ((Below.refl _ _).grown hmgrow (Nat.le_refl _) (fun k hk => by cases hk))
  clear hi hz0 hz1 hz2 hmown hmgrow
  go_enter Tryz.func173, Tryz.ntmps173
  go_wp2_with fail
  clear hmk hlen
  go_loopw [3, 4] (fun v i wr => ∃ j : Nat, j ≤ 8 ∧ i = .int .i64 ((j : Int) + 1) ∧ Hid (wr.ownsRow w.heap.size 99 3 v (ordT f (8 * j)).length (flat (ordT f (8 * j)))) ∧ Hid (Below w.heap.size w wr)) (fun _ i _ => 9 - (intOf i).toNat)
  case atStart => exact ⟨0, by omega, rfl, OW, DM⟩
  case round =>
    obtain ⟨j, hj, rfl, how0, hbl0⟩ := hrel
    by_cases hlt0 : (j : Int) + 1 ≤ 8
    · have HWJ : Hid ((Lit.int .i64 ((j : Int) + 1)).wf = true) := hide (WalkArith.wf_i64 ⟨by omega, by omega⟩)
      go_wp2_with fail
      go_loopw [3, 5] (fun v i wr => ∃ k : Nat, k ≤ 8 ∧ i = .int .i64 ((k : Int) + 1) ∧ Hid (wr.ownsRow w.heap.size 99 3 v (ordT f (8 * j + k)).length (flat (ordT f (8 * j + k)))) ∧ Hid (Below w.heap.size w wr)) (fun _ i _ => 9 - (intOf i).toNat)
      case atStart => exact ⟨0, by omega, rfl, how0, hbl0⟩
      case round =>
        obtain ⟨k, hk, rfl, how, hbl⟩ := hrel
        have hbs := (unhide hbl).size
        have hfl := ordT_len f (8 * j + k)
        by_cases hlt : (k : Int) + 1 ≤ 8
        · have HM := hide ((unhide HOM).below (unhide hbl))
          have HWK : Hid ((Lit.int .i64 ((k : Int) + 1)).wf = true) := hide (WalkArith.wf_i64 ⟨by omega, by omega⟩)
          have HST := hide (ordE_at f (j := j) (k := k) (by omega))
          cases hf : f ((j : Int) + 1) ((k : Int) + 1) with
          | none =>
            rw [hf] at HST
            have HA : Hid ((f ((j : Int) + 1) ((k : Int) + 1)).getD R.zero = ⟨0, 0, 0⟩) := hide (by rw [hf]; rfl)
            have HE : Hid ((f ((j : Int) + 1) ((k : Int) + 1)).isSome = false) := hide (by rw [hf]; rfl)
            clear hf
            have e0 : ordT f (8 * j + (k + 1)) = ordT f (8 * j + k) := by rw [unhide HST]; simp
            rw [← e0] at how
            clear e0
            have HB := hide ((unhide hbl).alloc hbs (.cells #[.int .i64 0, .int .i64 0, .int .i64 0] 99))
            have HO := hide ((unhide how).alloc (.cells #[.int .i64 0, .int .i64 0, .int .i64 0] 99))
            go_wp2_with (at_lookup; refine wpList_lookA _ rfl _ _ rfl b _ _ rfl (unhide HM) ((j : Int) + 1) ((k : Int) + 1) (unhide HWJ) (unhide HWK) rfl 0 0 0 false (unhide HA) (unhide HE) ?_)
            go_roundw
            case rel => exact ⟨k + 1, by omega, by go_num, HO, HB⟩
            case measure => simp [intOf]; omega
          | some m =>
            rw [hf] at HST
            obtain ⟨ke, ti, va⟩ := m
            have HA : Hid ((f ((j : Int) + 1) ((k : Int) + 1)).getD R.zero = ⟨ke, ti, va⟩) := hide (by rw [hf]; rfl)
            have HE : Hid ((f ((j : Int) + 1) ((k : Int) + 1)).isSome = true) := hide (by rw [hf]; rfl)
            clear hf
            have HTF : Hid (ordT f (8 * j + (k + 1)) = ordT f (8 * j + k) ++ [(⟨ke, ti, va⟩ : R)]) := HST
            have HBA := hide ((unhide hbl).alloc hbs (.cells #[.int .i64 ke, .int .i64 ti, .int .i64 va] 99))
            have HOA := hide ((unhide how).alloc (.cells #[.int .i64 ke, .int .i64 ti, .int .i64 va] 99))
            have hs1 : w.heap.size ≤ (wr.alloc (.cells #[.int .i64 ke, .int .i64 ti, .int .i64 va] 99)).heap.size := by simp; omega
            go_wp2_with (first | (at_lookup; refine wpList_lookA _ rfl _ _ rfl b _ _ rfl (unhide HM) ((j : Int) + 1) ((k : Int) + 1) (unhide HWJ) (unhide HWK) rfl ke ti va true (unhide HA) (unhide HE) ?_) | (at_builtin; refine wpList_apS ((unhide HOA).alloc _) (wr.heap.size + 1) 0 1 1 [(⟨ke, ti, va⟩ : R)] rfl (by have := rm_new (wr.alloc (.cells #[.int .i64 ke, .int .i64 ti, .int .i64 va] 99)) ⟨ke, ti, va⟩; simpa using this) (by simp only [List.length_cons, List.length_nil]; omega) (by simp; omega) rfl _ _ rfl rfl rfl ?_; intro v' w' ho hg; have HO : Hid (w'.ownsRow w.heap.size 99 3 v' (ordT f (8 * j + (k + 1))).length (flat (ordT f (8 * j + (k + 1))))) := hide (by rw [unhide HTF]; exact ho); have HB := hide (below_own ((unhide HBA).alloc hs1 _) ((unhide HOA).alloc _) hg (Nat.le_refl _) (by simp; omega)); clear ho hg))
            go_roundw
            case rel => exact ⟨k + 1, by omega, by go_num, HO, HB⟩
            case measure => simp [intOf]; omega
        · obtain rfl : k = 8 := by omega
          have HO : Hid (wr.ownsRow w.heap.size 99 3 u3 (ordT f (8 * (j + 1))).length (flat (ordT f (8 * (j + 1))))) := hide (by rw [show 8 * (j + 1) = 8 * j + 8 by omega]; exact unhide how)
          go_wp2_with fail
          go_roundw
          case rel => exact ⟨j + 1, by omega, by go_num, HO, hbl⟩
          case measure => simp [intOf]; omega
    · obtain rfl : j = 8 := by omega
      have HL := hide (lst_own rfl (unhide how0))
      go_wp2_with fail
      go_ret
      exact ⟨_, rfl, unhide hbl0, unhide HL⟩
end Tp
end Go.Proofs.YtfooahhdikobeaaGreat
namespace Go.Proofs.YtfooahhdikobeaaGreat
open Go.ChangeShapes Go.WideShapes Go.ChangeAt Go.RowKit
set_option linter.unusedVariables false
set_option linter.unusedSimpArgs false
set_option maxRecDepth 100000
attribute [local go_sem ↓] Go.wp_at_zero Go.wp_at_succ
namespace Gr
open W1 Tu St Tw Me
theorem lk_lt {w : World} {g o : Nat} {m : Lk.R} (h : Lk.At w g o m) : g < w.heap.size := World.block_lt_of_cell? _ _ h.1
theorem lk_but {w w' : World} {g o : Nat} {m : Lk.R} (h : Lk.At w g o m) (hb : w'.heap[g]? = w.heap[g]?) : Lk.At w' g o m := by
  obtain ⟨h0, h1, h2, h3, h4, h5⟩ := h
  exact ⟨(World.cell?_of_block (a := ⟨g, o, none⟩) hb).trans h0, (World.cell?_of_block (a := ⟨g, o + 1, none⟩) hb).trans h1, (World.cell?_of_block (a := ⟨g, o + 2, none⟩) hb).trans h2, (World.cell?_of_block (a := ⟨g, o + 3, none⟩) hb).trans h3, (World.cell?_of_block (a := ⟨g, o + 4, none⟩) hb).trans h4, (World.cell?_of_block (a := ⟨g, o + 5, none⟩) hb).trans h5⟩
theorem lk_offI {me now ad hd sy ci co wl st : Int} (hst : Ln.statusV ⟨ad, hd, sy, ci, co, wl⟩ now = st) (h : lkOn me now ⟨ad, hd, sy, ci, co, wl⟩ = false) :
    (ad != me) = false ∨ (ad != me) = true ∧ (¬ 0 < co ∨ 0 < co ∧ (st == 2) = false) := by
  unfold lkOn at h
  dsimp only at h
  rw [hst] at h
  cases e1 : (ad != me)
  · exact .inl rfl
  · right; refine ⟨rfl, ?_⟩
    by_cases e2 : 0 < co
    · right; refine ⟨e2, ?_⟩
      rw [e1, decide_eq_true e2] at h
      simpa using h
    · exact .inl e2
theorem ed_offI {me now key til val : Int} (h : edOn me now ⟨key, til, val⟩ = false) : ¬ now < til ∨ now < til ∧ ((key.tdiv 100 != me) = false ∨ (key.tdiv 100 != me) = true ∧ (key.tmod 100 != me) = false) := by
  unfold edOn hv ha at h
  dsimp only at h
  by_cases e1 : now < til
  · right; refine ⟨e1, ?_⟩
    rw [decide_eq_true e1, Bool.true_and] at h
    cases e2 : (key.tdiv 100 != me)
    · exact .inl rfl
    · right; refine ⟨rfl, ?_⟩
      rw [e2, Bool.true_and] at h; exact h
  · exact .inl e1
theorem ed_onI {me now key til val : Int} (h : edOn me now ⟨key, til, val⟩ = true) : now < til ∧ (key.tdiv 100 != me) = true ∧ (key.tmod 100 != me) = true := by
  unfold edOn hv ha at h
  dsimp only at h
  rw [Bool.and_eq_true, Bool.and_eq_true, decide_eq_true_eq] at h
  exact h
theorem run_make0 (w : World) : (Instr.makeMap 205 none).run Tryz.prog w = .ok (.map (some w.heap.size)) (w.alloc (.map #[] 0)) := by kernel_rfl
set_option maxHeartbeats 8000000 in
theorem graphOfCode (me : Int) (a : Option Addr) (ls : List Lk.R) (ca : Nat) (b : Option Addr) (ss : List So.R) (cb : Nat) (c : Option Addr) (es : List R) (cc : Nat) (w : World) (hm : ls.length ≤ 1048576) (hs : ss.length ≤ 1048576) (hl : es.length ≤ 1048576) (hr : Lk.RM w a ls) (hr1 : So.RM w b ss) (hr' : RM w c es) :
    Calls Tryz.prog 171 #[.int .i64 me, .slice a ls.length ca, .agg #[.slice b ss.length cb, .slice c es.length cc]] w fun e w' => e = .returned (.int .i64 (graC me ls ss es)) ∧ Below w.heap.size w w' := by
  have HB : Hid (Below w.heap.size w (w.alloc (.cells #[.slice b ss.length cb, .slice c es.length cc] 80))) := hide ((Below.refl _ _).alloc (Nat.le_refl _) _)
  have HX : Hid (Tp.Bx2 (w.alloc (.cells #[.slice b ss.length cb, .slice c es.length cc] 80)) w.heap.size (.slice b ss.length cb) (.slice c es.length cc)) := hide (Tp.bx2_new w _ _ _)
  have HR := hide hr
  have HS := hide hr1
  have HE := hide hr'
  clear hr hr1 hr'
  obtain ⟨W0, hW0⟩ : ∃ W0, w.alloc (.cells #[.slice b ss.length cb, .slice c es.length cc] 80) = W0 := ⟨_, rfl⟩
  rw [hW0] at HB HX
  have HW0 := hide hW0
  clear hW0
  have KL := hide (fun W => Ln.linksCode a ls ca W hm)
  by_cases hc0 : Ln.codeL ls = 0
  rotate_left
  · have hc : graC me ls ss es = Ln.codeL ls := by
      unfold graC Ln.codeL
      unfold Ln.codeL at hc0
      split
      · rfl
      · rename_i hb
        rw [if_neg hb] at hc0
        cases e1 : Ln.linksB ls
        · unfold graB; rw [e1]; simp
        · rw [e1] at hc0; simp at hc0
    rw [hc]
    generalize Ln.codeL ls = cd at *
    have q1 : (cd != 0) = true := by simpa using hc0
    clear hc hc0
    go_enter Tryz.func171, Tryz.ntmps171
    go_wp2_with fail
    rw [unhide HW0]
    refine (unhide KL _ ((unhide HR).below (unhide HB))).mono ?_
    rintro e w1 ⟨rfl, b1⟩
    have HB1 := hide ((unhide HB).trans (b1.mono (unhide HB).size))
    clear b1
    go_wp2_with fail
    go_ret
    exact ⟨rfl, unhide HB1⟩
  have hlb : Ln.linksB ls = true := by
    cases hh : Ln.linksB ls
    · unfold Ln.codeL at hc0; rw [hh] at hc0; split at hc0 <;> simp at hc0
    · rfl
  have h8 := Ln.links_len hlb
  rw [hc0] at KL
  have KA := hide (fun W => isAddress me W)
  have HLB := hide hlb
  clear hlb hc0
  cases e3 : inB me 1 8
  · have hc := gra_bad (ls := ls) (ss := ss) (es := es) (by omega) (.inr (.inl e3))
    rw [hc]
    rw [e3] at KA
    clear hc e3
    go_enter Tryz.func171, Tryz.ntmps171
    go_wp2_with fail
    rw [unhide HW0]
    refine (unhide KL _ ((unhide HR).below (unhide HB))).mono ?_
    rintro e w1 ⟨rfl, b1⟩
    have HB1 := hide ((unhide HB).trans (b1.mono (unhide HB).size))
    clear b1
    go_wp2_with fail
    refine (unhide KA _).mono ?_
    rintro e w2 ⟨rfl, rfl⟩
    go_wp2_with fail
    go_ret
    exact ⟨rfl, unhide HB1⟩
  rw [e3] at KA
  have HME := hide e3
  clear e3
  obtain ⟨T, hT⟩ : ∃ T, Tp.topB ss es = T := ⟨_, rfl⟩
  have HT := hide hT
  have hc : graC me ls ss es = if T = true then 0 else 1 := by
    cases T
    · exact gra_bad (ls := ls) (by omega) (.inr (.inr hT))
    · exact gra_ok (unhide HLB) (unhide HME) hT
  rw [hc]
  clear hc hT
  cases T
  all_goals
    go_enter Tryz.func171, Tryz.ntmps171
    go_wp2_with fail
    rw [unhide HW0]
    refine (unhide KL _ ((unhide HR).below (unhide HB))).mono ?_
    rintro e w1 ⟨rfl, b1⟩
    have HB1 := hide ((unhide HB).trans (b1.mono (unhide HB).size))
    have HX1 := hide ((unhide HX).below b1)
    clear b1
    go_wp2_with fail
    refine (unhide KA _).mono ?_
    rintro e w2 ⟨rfl, rfl⟩
    obtain ⟨z0, z1⟩ := unhide HX1
    go_wp2_with fail
    clear z0 z1
    refine (Tp.implOK b ss cb c es cc _ hs hl ((unhide HS).below (unhide HB1)) ((unhide HE).below (unhide HB1))).mono ?_
    rintro e w3 ⟨rfl, b3⟩
    rw [unhide HT]
    have HB3 := hide ((unhide HB1).trans (b3.mono (unhide HB1).size))
    clear b3
    go_wp2_with fail
    go_ret
    exact ⟨rfl, unhide HB3⟩
set_option maxHeartbeats 16000000 in
theorem implGraph (me : Int) (a : Option Addr) (ls : List Lk.R) (ca : Nat) (b : Option Addr) (ss : List So.R) (cb : Nat) (c : Option Addr) (es : List R) (cc : Nat) (now : Int) (w : World) (hm : ls.length ≤ 1048576) (hs : ss.length ≤ 1048576) (hl : es.length ≤ 1048576) (hr : Lk.RM w a ls) (hr1 : So.RM w b ss) (hr' : RM w c es) :
    Calls Tryz.prog 123 #[.int .i64 me, .slice a ls.length ca, .agg #[.slice b ss.length cb, .slice c es.length cc], .int .i64 now] w fun e w' => ∃ v, e = .returned (.tuple #[v, .int .i64 (graC me ls ss es)]) ∧ Below w.heap.size w w' ∧ LstV w' v (graA me ls ss es now) w.heap.size w'.heap.size := by
  have HB : Hid (Below w.heap.size w (w.alloc (.cells #[.slice b ss.length cb, .slice c es.length cc] 80))) := hide ((Below.refl _ _).alloc (Nat.le_refl _) _)
  have HX : Hid (Tp.Bx2 (w.alloc (.cells #[.slice b ss.length cb, .slice c es.length cc] 80)) w.heap.size (.slice b ss.length cb) (.slice c es.length cc)) := hide (Tp.bx2_new w _ _ _)
  have HR := hide (hr.below (unhide HB))
  have HS := hide (hr1.below (unhide HB))
  have HE := hide (hr'.below (unhide HB))
  clear hr hr1 hr'
  obtain ⟨W0, hW0⟩ : ∃ W0, w.alloc (.cells #[.slice b ss.length cb, .slice c es.length cc] 80) = W0 := ⟨_, rfl⟩
  rw [hW0] at HB HX HR HS HE
  have HW0 := hide hW0
  clear hW0
  have KC := hide (fun W => graphOfCode me a ls ca b ss cb c es cc W hm hs hl)
  by_cases hc : graC me ls ss es = 0
  rotate_left
  · rw [gra_none hc]
    generalize graC me ls ss es = cd at *
    have q1 : (cd != 0) = true := by simpa using hc
    clear hc
    obtain ⟨z0, z1⟩ := unhide HX
    rw [← unhide HW0] at z0 z1
    go_enter Tryz.func123, Tryz.ntmps123
    go_wp2_with fail
    clear z0 z1
    rw [unhide HW0]
    refine (unhide KC _ (unhide HR) (unhide HS) (unhide HE)).mono ?_
    rintro e w1 ⟨rfl, b1⟩
    have HB1 := hide ((unhide HB).trans (b1.mono (unhide HB).size))
    clear b1
    go_wp2_with fail
    go_ret2
    exact ⟨_, rfl, unhide HB1, lstV_nil _ _ _ _ _⟩
  rw [gra_yes hc]
  obtain ⟨hlb, hme, htop⟩ := gra_zero hc
  have h8 := Ln.links_len hlb
  have h62 := two_len (Tp.top_two htop)
  have HLB := hide hlb
  have HTE := hide (Tp.top_two htop)
  have HT1 := hide (grL_two (now := now) hme hlb)
  have HT2 := hide (grE_two (me := me) (now := now) (unhide HT1 _ (Nat.le_refl _)) (unhide HTE))
  have HGR : Hid (ordT (findT (grE me now (grL me now ls ls.length) es es.length)) 64 = graph me ls es now) := hide (ord_all (unhide HT2 _ (Nat.le_refl _)))
  rw [hc] at KC ⊢
  clear hc hlb htop hm hs hl
  obtain ⟨GG, hGG⟩ : ∃ GG, graph me ls es now = GG := ⟨_, rfl⟩
  rw [hGG] at HGR ⊢
  clear hGG
  generalize hN : ls.length = N at *
  have HN := hide hN
  clear hN
  generalize hM : es.length = M at *
  have HM := hide hM
  clear hM
  obtain ⟨z0, z1⟩ := unhide HX
  rw [← unhide HW0] at z0 z1
  go_enter Tryz.func123, Tryz.ntmps123
  go_wp2_with fail
  clear z0 z1
  rw [unhide HW0]
  refine (unhide KC _ (unhide HR) (unhide HS) (unhide HE)).mono ?_
  rintro e w1 ⟨rfl, b1⟩
  have HB1 := hide ((unhide HB).trans (b1.mono (unhide HB).size))
  have HX1 := hide ((unhide HX).below b1)
  have HR1 := hide ((unhide HR).below b1)
  have HE1 := hide ((unhide HE).below b1)
  have hwx : w.heap.size < w1.heap.size := (unhide HX1).lt
  clear b1 HB HX HR HS HE
  have O0 : Hid (OM (w1.alloc (.map #[] 0)) w1.heap.size 0 (findT (grL me now ls 0))) := hide (om_made w1)
  have P0 := hide ((Below.refl w1.heap.size w1).alloc (Nat.le_refl _) (.map #[] 0))
  have hmk := run_make0 w1
  go_wp2_with fail
  clear hmk
  go_loopw [27] (fun i wr => ∃ j : Nat, j ≤ N ∧ i = .int .i64 j ∧ Hid (OM wr w1.heap.size j (findT (grL me now ls j))) ∧ Hid (Below w1.heap.size w1 wr)) (fun i _ => N - (intOf i).toNat)
  case atStart => exact ⟨0, by omega, rfl, O0, P0⟩
  case round =>
    obtain ⟨j, hj, rfl, hom, hbl⟩ := hrel
    have hbs := (unhide hbl).size
    have hlm := (unhide hom).lt
    by_cases hlt : (j : Int) < (N : Int)
    · have k0 : (0 : Int) ≤ (j : Int) := by omega
      have hlen : j < ls.length := by rw [unhide HN]; omega
      obtain ⟨g, off, rfl⟩ := (unhide HR1).form (by omega)
      have hA := ((unhide HR1).below (unhide hbl)).at hlen
      have HY : Hid (lkOn me now (ls.getD j Lk.R.zero) = true → findT (grL me now ls (j + 1)) = updT (findT (grL me now ls j)) me (ls.getD j Lk.R.zero).ad (lkT me (ls.getD j Lk.R.zero))) := hide (fun h => by
        have hl := two_len (unhide HT1 j (by omega))
        obtain ⟨_, _, t3, t4⟩ := lkT_ok hme (Ri.all_ok (unhide HLB) hlen) h
        rw [grL_yes hlen h, find_put (two_set (unhide HT1 j (by omega))) (by omega), t3, t4])
      have HZ : Hid (lkOn me now (ls.getD j Lk.R.zero) = false → grL me now ls (j + 1) = grL me now ls j) := hide (fun h => grL_no hlen h)
      have had := Ln.ok_ad (Ri.all_ok (unhide HLB) hlen)
      generalize ls.getD j Lk.R.zero = m at *
      obtain ⟨ad, hd, sy, ci, co, wl⟩ := m
      obtain ⟨c0, c1, c2, c3, c4, c5⟩ := hA
      dsimp only at c0 c1 c2 c3 c4 c5 had
      have HXL := hide (lk_new wr ad hd sy ci co wl)
      have B1 : Hid (Below wr.heap.size wr (wr.alloc (.cells #[.int .i64 ad, .int .i64 hd, .int .i64 sy, .int .i64 ci, .int .i64 co, .int .i64 wl] 166))) := hide ((Below.refl _ _).alloc (Nat.le_refl _) _)
      have HO1 := hide ((unhide hom).below (unhide B1))
      have HBL1 := hide ((unhide hbl).trans ((unhide B1).mono (unhide hbl).size))
      have KS := hide (Ln.implStatus ad hd sy ci co wl now)
      obtain ⟨st, hst⟩ : ∃ st, Ln.statusV ⟨ad, hd, sy, ci, co, wl⟩ now = st := ⟨_, rfl⟩
      rw [hst] at KS
      have HST := hide hst
      clear hst B1
      cases hon : lkOn me now ⟨ad, hd, sy, ci, co, wl⟩
      · have E1 := unhide HZ hon
        have HO2 : Hid (∀ W, OM W w1.heap.size j (findT (grL me now ls j)) → OM W w1.heap.size (j + 1) (findT (grL me now ls (j + 1)))) := hide (fun W h => by rw [E1]; exact h.mono (by omega))
        have hcs := lk_offI (unhide HST) hon
        clear E1 HY HZ hon
        rcases hcs with q1 | ⟨q1, q2 | ⟨q2, q3⟩⟩
        · go_wp2_with fail
          go_roundw
          case rel => exact ⟨j + 1, by omega, by go_num, hide (unhide HO2 _ (unhide HO1)), HBL1⟩
          case measure => simp [intOf]; omega
        · go_wp2_with fail
          go_roundw
          case rel => exact ⟨j + 1, by omega, by go_num, hide (unhide HO2 _ (unhide HO1)), HBL1⟩
          case measure => simp [intOf]; omega
        · go_wp2_with fail
          generalize hWW : wr.alloc (.cells #[.int .i64 ad, .int .i64 hd, .int .i64 sy, .int .i64 ci, .int .i64 co, .int .i64 wl] 166) = WW at *
          clear hWW c0 c1 c2 c3 c4 c5
          refine (unhide KS _).mono ?_
          rintro e w2 ⟨rfl, b2⟩
          have HO3 := hide (unhide HO2 _ ((unhide HO1).below b2))
          have HB3 := hide ((unhide HBL1).trans (b2.mono (unhide HBL1).size))
          clear b2
          go_wp2_with fail
          go_roundw
          case rel => exact ⟨j + 1, by omega, by go_num, HO3, HB3⟩
          case measure => simp [intOf]; omega
      · have HPF := hide (unhide HY hon)
        obtain ⟨q3, q1, q2⟩ := lk_on (unhide HST) hon
        clear HY HZ hon
        go_wp2_with fail
        generalize hWW : wr.alloc (.cells #[.int .i64 ad, .int .i64 hd, .int .i64 sy, .int .i64 ci, .int .i64 co, .int .i64 wl] 166) = WW at *
        clear hWW c0 c1 c2 c3 c4 c5
        refine (unhide KS _).mono ?_
        rintro e w2 ⟨rfl, b2⟩
        have HO2 := hide ((unhide HO1).below b2)
        have HB2 := hide ((unhide HBL1).trans (b2.mono (unhide HBL1).size))
        have HX2 := hide ((unhide HXL).below b2)
        clear b2 HO1 HBL1 HXL
        go_wp2_with fail
        refine wp_region_noPanic ?_
        refine wp_region_held_drew (S := fun w' => Lk.At w' wr.heap.size 0 ⟨ad, hd, sy, ci, co, wl⟩ ∧ w'.cell? ⟨wr.heap.size, 0, none⟩ = some (.int .i64 ad) ∧ w'.cell? ⟨wr.heap.size, 4, none⟩ = some (.int .i64 co)) (by kernel_rfl) (sLk (lk_drew (unhide HX2))) (fun hHeld => ?_)
        refine Rg.t 0 46 ?_
        refine Rg.t 1 47 ?_
        refine Rg.t 2 48 ?_
        refine Rg.t 3 49 ?_
        refine Rg.t 4 50 ?_
        refine Rg.t 5 51 ?_
        refine Rg.t 6 52 ?_
        refine Rg.t 7 53 ?_
        refine Rg.t 8 54 ?_
        refine Rg.t 10 56 ?_
        refine Rg.t 11 57 ?_
        (refine Rg.o 9 (fun K hK => ?_); go_simp)
        refine (Tw.keyOfHop me ad _ (by omega) (by omega) (by omega) (by omega)).mono ?_
        rintro e w3 ⟨rfl, b3_⟩
        have b3 : Below w2.heap.size w2 w3 := (Below.refl _ _).drew.trans b3_
        have HX3 := hide ((unhide HX2).below b3)
        have HO3 := hide ((unhide HO2).below b3)
        have HB3 := hide ((unhide HB2).trans (b3.mono (unhide HB2).size))
        clear b3 b3_ hHeld
        refine hK.out _ _ (sLk (unhide HX3)) (fun hHeld => ?_)
        clear hK K
        (try simp only [Act.put, List.setIfInBounds_toArray, List.set_cons_zero, List.set_cons_succ])
        refine Rg.t 12 58 ?_
        (refine Rg.o 13 (fun K hK => ?_); rw [if_pos (by rfl)])
        refine wp_put _ _ _ _ rfl rfl w1.heap.size j _ rfl (unhide HO3) (by unfold maxLen; omega) me ad (WalkArith.wf_i64 ⟨by omega, by omega⟩) (WalkArith.wf_i64 ⟨by omega, by omega⟩) ⟨100 * me + ad, 0, co⟩ rfl rfl ?_
        intro w6 om6 g6
        have HO6 : Hid (OM w6 w1.heap.size (j + 1) (findT (grL me now ls (j + 1)))) := hide ((unhide HPF) ▸ om6)
        have HX6 := hide (lk_but (unhide HX3) (g6.block wr.heap.size (lk_lt (unhide HX3)) (by intro e; have := Option.some.inj e; omega)))
        have HB6 := hide (om_grown (unhide HB3) (Nat.le_refl _) (Nat.le_refl _) g6)
        clear om6 g6 hHeld
        refine hK.out _ _ (sLk (unhide HX6)) (fun hHeld => ?_)
        clear hK K hHeld
        (try simp only [Act.put, List.setIfInBounds_toArray, List.set_cons_zero, List.set_cons_succ])
        refine wpAnyH_done (by kernel_rfl) (NoPanic.normal ?_) _
        go_wp2_with fail
        go_roundw
        case rel => exact ⟨j + 1, by omega, by go_num, HO6, HB6⟩
        case measure => simp [intOf]; omega
    · obtain rfl : j = N := by omega
      have O1 : Hid (OM wr w1.heap.size (j + 0) (findT (grE me now (grL me now ls j) es 0))) := hom
      have hX2 := (unhide HX1).below (unhide hbl)
      obtain ⟨z0, z1⟩ := hX2
      clear hom
      go_wp2_with fail
      clear z0 z1
      go_loopw [63] (fun i wr => ∃ k : Nat, k ≤ M ∧ i = .int .i64 k ∧ Hid (OM wr w1.heap.size (j + k) (findT (grE me now (grL me now ls j) es k))) ∧ Hid (Below w1.heap.size w1 wr)) (fun i _ => M - (intOf i).toNat)
      case atStart => exact ⟨0, by omega, rfl, O1, hbl⟩
      case round =>
        obtain ⟨k, hk, rfl, hom, hbl⟩ := hrel
        have hbs := (unhide hbl).size
        have hlm := (unhide hom).lt
        by_cases hlt2 : (k : Int) < (M : Int)
        · have k0 : (0 : Int) ≤ (k : Int) := by omega
          have hlen : k < es.length := by rw [unhide HM]; omega
          obtain ⟨g, off, rfl⟩ := (unhide HE1).form (by omega)
          have hA := ((unhide HE1).below (unhide hbl)).at hlen
          have HY : Hid (edOn me now (es.getD k R.zero) = true → findT (grE me now (grL me now ls j) es (k + 1)) = updT (findT (grE me now (grL me now ls j) es k)) (hv (es.getD k R.zero)) (ha (es.getD k R.zero)) (edT (es.getD k R.zero))) := hide (fun h => by
            have hl := two_len (unhide HT2 k (by omega))
            rw [grE_yes hlen h, find_put (two_set (unhide HT2 k (by omega))) (by omega)]; rfl)
          have HZ : Hid (edOn me now (es.getD k R.zero) = false → grE me now (grL me now ls j) es (k + 1) = grE me now (grL me now ls j) es k) := hide (fun h => grE_no hlen h)
          have hbd := ok_bounds (setB_ok (two_set (unhide HTE)) hlen)
          have hbk := ok_k (two_ok (unhide HTE) _ (Tu.getD_mem hlen))
          generalize es.getD k R.zero = m at *
          obtain ⟨key, til, val⟩ := m
          obtain ⟨c0, c1, c2⟩ := hA
          unfold hv ha at hbk HY
          dsimp only at c0 c1 c2 hbd hbk HY
          have KE := hide (fun W => Tp.endsOfKey key W (by omega) (by omega))
          have HCF := hide (ed_offI (me := me) (now := now) (key := key) (til := til) (val := val))
          have HCT := hide (ed_onI (me := me) (now := now) (key := key) (til := til) (val := val))
          obtain ⟨kd, hkd⟩ : ∃ kd, key.tdiv 100 = kd := ⟨_, rfl⟩
          obtain ⟨km, hkm⟩ : ∃ km, key.tmod 100 = km := ⟨_, rfl⟩
          rw [hkd, hkm] at KE HCF HCT hbk HY
          clear hkd hkm
          have HXT : Hid (St.Bx (wr.alloc (.cells #[.int .i64 key, .int .i64 til, .int .i64 val] 99)) wr.heap.size ⟨key, til, val⟩) := hide (Tw.bx_new wr ⟨key, til, val⟩ _)
          have B1 : Hid (Below wr.heap.size wr (wr.alloc (.cells #[.int .i64 key, .int .i64 til, .int .i64 val] 99))) := hide ((Below.refl _ _).alloc (Nat.le_refl _) _)
          have HO1 := hide ((unhide hom).below (unhide B1))
          have HBL1 := hide ((unhide hbl).trans ((unhide B1).mono (unhide hbl).size))
          have hlw : wr.heap.size < (wr.alloc (.cells #[.int .i64 key, .int .i64 til, .int .i64 val] 99)).heap.size := by simp
          clear B1
          go_wp2_with fail
          generalize hWW : wr.alloc (.cells #[.int .i64 key, .int .i64 til, .int .i64 val] 99) = WW at *
          clear hWW c0 c1 c2
          refine (unhide KE _).mono ?_
          rintro e w2 ⟨rfl, b2⟩
          have HO2 := hide (((unhide HO1).below b2).below ((Below.refl _ _).alloc (Nat.le_refl _) (.cells #[.int .i64 kd, .int .i64 km] 194)))
          have HB2 := hide (((unhide HBL1).trans (b2.mono (unhide HBL1).size)).alloc (Nat.le_trans (unhide HBL1).size b2.size) (.cells #[.int .i64 kd, .int .i64 km] 194))
          obtain ⟨x0, x1, x2⟩ := (unhide HXT).below b2
          obtain ⟨y0, y1, y2⟩ := ((unhide HXT).below b2).below ((Below.refl _ _).alloc (Nat.le_refl _) (.cells #[.int .i64 kd, .int .i64 km] 194))
          dsimp only at x0 x1 x2 y0 y1 y2
          have hws : wr.heap.size < w2.heap.size := Nat.lt_of_lt_of_le hlw b2.size
          clear b2 HO1 HBL1 HXT
          cases hon : edOn me now ⟨key, til, val⟩
          · have E1 := unhide HZ hon
            have HO3 : Hid (OM (w2.alloc (.cells #[.int .i64 kd, .int .i64 km] 194)) w1.heap.size (j + (k + 1)) (findT (grE me now (grL me now ls j) es (k + 1)))) := hide (by rw [E1]; exact (unhide HO2).mono (by omega))
            have hcs := unhide HCF hon
            clear E1 HY HZ hon
            rcases hcs with q1 | ⟨q1, q2 | ⟨q2, q3⟩⟩
            all_goals
              go_wp2_with fail
              go_roundw
              case rel => exact ⟨k + 1, by omega, by go_num, HO3, HB2⟩
              case measure => simp [intOf]; omega
          · have HPF := hide (unhide HY hon)
            obtain ⟨q1, q2, q3⟩ := unhide HCT hon
            clear HY HZ hon
            go_wp2_with (refine wpList_put _ rfl _ _ _ rfl w1.heap.size (j + k) _ rfl (unhide HO2) (by unfold maxLen; omega) kd km (WalkArith.wf_i64 ⟨by omega, by omega⟩) (WalkArith.wf_i64 ⟨by omega, by omega⟩) ⟨key, 0, val⟩ rfl rfl ?_; intro w6 om6 g6; have HO6 : Hid (OM w6 w1.heap.size (j + (k + 1)) (findT (grE me now (grL me now ls j) es (k + 1)))) := hide ((unhide HPF) ▸ om6); have HB6 := hide (om_grown (unhide HB2) (Nat.le_refl _) (Nat.le_refl _) g6); clear om6 g6)
            go_roundw
            case rel => exact ⟨k + 1, by omega, by go_num, HO6, HB6⟩
            case measure => simp [intOf]; omega
        · obtain rfl : k = M := by omega
          have HBw := hide ((unhide HB1).trans ((unhide hbl).mono (unhide HB1).size))
          go_wp2_with fail
          refine (Tp.edgesInOrder w1.heap.size (j + k) _ _ (by omega) (unhide hom)).mono ?_
          rintro e w6 ⟨ve, rfl, b6, l6⟩
          rw [unhide HGR] at l6
          have HB6 := hide ((unhide HBw).trans (b6.mono (unhide HBw).size))
          have HL6 := hide (l6.mono (lo' := w.heap.size) (unhide HBw).size (Nat.le_refl _))
          clear b6 l6
          go_wp2_with fail
          go_ret2
          exact ⟨_, rfl, unhide HB6, unhide HL6⟩
end Gr
end Go.Proofs.YtfooahhdikobeaaGreat
namespace Go.Proofs.YtfooahhdikobeaaGreat
set_option linter.unusedVariables false
set_option linter.unusedSimpArgs false
namespace Pq
variable {α : Type}
/-- The first place at which something holds, or the list's length. -/
def place (p : α → Bool) (ms : List α) : Nat := (ms.takeWhile fun m => !p m).length
theorem place_of (z : α) (p : α → Bool) : ∀ (ms : List α) (j : Nat), j ≤ ms.length → (∀ i, i < j → p (ms.getD i z) = false) → (j < ms.length → p (ms.getD j z) = true) → place p ms = j
  | [], j, hj, _, _ => by simp at hj; subst hj; rfl
  | m :: t, 0, _, _, h2 => by
    have h := h2 (by simp)
    simp at h
    unfold place
    rw [List.takeWhile_cons_of_neg (by simp [h])]; rfl
  | m :: t, j + 1, hj, h1, h2 => by
    have h := h1 0 (by omega)
    simp at h
    have ih := place_of z p t j (by simpa using hj) (fun i hi => by have := h1 (i + 1) (by omega); simpa using this) (fun hl => by have := h2 (by simp; omega); simpa using this)
    unfold place at *
    rw [List.takeWhile_cons_of_pos (by simp [h]), List.length_cons, ih]
theorem place_le (p : α → Bool) (ms : List α) : place p ms ≤ ms.length := (List.takeWhile_sublist (p := fun m => !p m) (l := ms)).length_le
theorem place_cons_yes {p : α → Bool} {m : α} {t : List α} (h : p m = true) : place p (m :: t) = 0 := by unfold place; rw [List.takeWhile_cons_of_neg (by simp [h])]; rfl
theorem place_cons_no {p : α → Bool} {m : α} {t : List α} (h : p m = false) : place p (m :: t) = place p t + 1 := by unfold place; rw [List.takeWhile_cons_of_pos (by simp [h]), List.length_cons]
end Pq
namespace Rw
open W1 Ro
/-- Whether a route is right; whether routes are, the first j of them. -/
def okT (r : R) : Bool := inB r.ds 1 8 && (inB r.nx 1 8 && (inB r.co 1 1099511627776 && inB r.hp 1 8))
abbrev allT (ss : List R) (j : Nat) : Bool := Ri.all R.zero okT R.ds ss j
def rouB (ss : List R) : Bool := allT ss ss.length
def isT (a : Int) (s : R) : Bool := s.ds == a
def hasT (ss : List R) (a : Int) : Bool := (ss.find? (isT a)).isSome
theorem ok_ad {s : R} (h : okT s = true) : 1 ≤ s.ds ∧ s.ds ≤ 8 := by unfold okT inB at h; simp at h; exact h.1
theorem ok_co {s : R} (h : okT s = true) : 1 ≤ s.co ∧ s.co ≤ 1099511627776 := by unfold okT inB at h; simp at h; exact h.2.2.1
theorem rou_len {ss : List R} (h : rouB ss = true) : ss.length ≤ 8 := by
  have := Ri.all_long (lo := 1) (hi := 8) (fun m hm => ok_ad hm) h; omega
theorem isT_iff {a : Int} {s : R} : isT a s = true ↔ s.ds = a := by unfold isT; simp
/-- Addresses that rise. -/
abbrev UpT (ss : List R) : Prop := ss.Pairwise (fun a b => a.ds < b.ds)
theorem getD_get {ss : List R} {i : Nat} (h : i < ss.length) : ss.getD i R.zero = ss[i] := by rw [List.getD_eq_getElem?_getD, List.getElem?_eq_getElem h]; rfl
theorem up_rou {ss : List R} (h : rouB ss = true) : UpT ss := by
  rw [UpT, List.pairwise_iff_getElem]
  intro i j hi hj hij
  have := Ri.rises h j i hij hj
  rw [getD_get hi, getD_get hj] at this
  exact this
theorem rou_ok {ss : List R} (h : rouB ss = true) : ∀ s ∈ ss, okT s = true := by
  intro s hs
  obtain ⟨i, hi, rfl⟩ := List.getElem_of_mem hs
  have := Ri.all_ok h hi
  rw [getD_get hi] at this; exact this
theorem rou_of {ss : List R} (h : UpT ss) (ho : ∀ s ∈ ss, okT s = true) : rouB ss = true := by
  have key : ∀ j, j ≤ ss.length → allT ss j = true := by
    intro j
    induction j with
    | zero => intro _; exact Ri.all_zero
    | succ j ih =>
      intro hj
      have hok : okT (ss.getD j R.zero) = true := ho _ (by rw [getD_get (by omega)]; exact List.getElem_mem _)
      refine Ri.all_succ (ih (by omega)) ?_
      cases j with
      | zero => exact Ri.step_zero hok
      | succ j =>
        refine Ri.step_lt hok ?_
        rw [getD_get (by omega), getD_get (by omega)]
        exact (List.pairwise_iff_getElem.1 h) j (j + 1) (by omega) (by omega) (by omega)
  exact key _ (Nat.le_refl _)
/-- Where an address stands, or would; whether it is there. -/
def atT (a : Int) (s : R) : Bool := decide (a ≤ s.ds)
def placeT (ss : List R) (a : Int) : Nat := Pq.place (atT a) ss
def thereT (ss : List R) (a : Int) : Bool := decide (placeT ss a < ss.length) && decide ((ss.getD (placeT ss a) R.zero).ds = a)
theorem place_le (ss : List R) (a : Int) : placeT ss a ≤ ss.length := Pq.place_le _ _
theorem place_lt {s : R} {t : List R} {a : Int} (h : s.ds < a) : placeT (s :: t) a = placeT t a + 1 := Pq.place_cons_no (by unfold atT; exact decide_eq_false (by omega))
theorem place_ge {s : R} {t : List R} {a : Int} (h : a ≤ s.ds) : placeT (s :: t) a = 0 := Pq.place_cons_yes (by unfold atT; exact decide_eq_true h)
theorem there_lt {s : R} {t : List R} {a : Int} (h : s.ds < a) : thereT (s :: t) a = thereT t a := by
  unfold thereT; rw [place_lt h]; simp
theorem there_ge {s : R} {t : List R} {a : Int} (h : a ≤ s.ds) : thereT (s :: t) a = decide (s.ds = a) := by
  unfold thereT; rw [place_ge h]; simp
theorem find_there : ∀ {ss : List R}, UpT ss → ∀ a, ss.find? (isT a) = if thereT ss a = true then some (ss.getD (placeT ss a) R.zero) else none
  | [], _, a => rfl
  | s :: t, h, a => by
    obtain ⟨h1, h2⟩ := List.pairwise_cons.1 h
    rcases Int.lt_trichotomy s.ds a with hk | hk | hk
    · rw [List.find?_cons_of_neg (by rw [isT_iff]; omega), there_lt hk, place_lt hk, find_there h2 a]; simp
    · rw [List.find?_cons_of_pos (by rw [isT_iff]; exact hk), there_ge (by omega), place_ge (by omega), decide_eq_true hk]; simp
    · rw [there_ge (by omega), decide_eq_false (by omega)]
      simp only [Bool.false_eq_true, if_false]
      rw [List.find?_eq_none]
      intro x hx
      rw [isT_iff]
      rcases List.mem_cons.1 hx with rfl | hx
      · omega
      · have := h1 x hx; omega
theorem has_there {ss : List R} (h : UpT ss) (a : Int) : hasT ss a = thereT ss a := by
  unfold hasT; rw [find_there h a]; cases thereT ss a <;> rfl
/-- The source of an address; what SourceOf answers. -/
def fT (ss : List R) (k : Int) : R := (ss.find? (isT k)).getD R.zero
theorem fT_there {ss : List R} (h : UpT ss) {a : Int} (ht : thereT ss a = true) : fT ss a = ss.getD (placeT ss a) R.zero := by
  unfold fT; rw [find_there h a, if_pos ht]; rfl
theorem fT_mem {ss : List R} {a : Int} (h : hasT ss a = true) : fT ss a ∈ ss ∧ (fT ss a).ds = a := by
  unfold hasT at h
  unfold fT
  cases e : ss.find? (isT a) with
  | none => rw [e] at h; cases h
  | some s => exact ⟨List.mem_of_find?_eq_some e, isT_iff.1 (List.find?_some e)⟩
theorem fT_none {ss : List R} {a : Int} (h : hasT ss a = false) : fT ss a = R.zero := by
  unfold hasT at h
  unfold fT
  cases e : ss.find? (isT a) with
  | none => rfl
  | some s => rw [e] at h; cases h
/-- The code of a list, of two lists; what RouteTo answers. -/
def codeR (l : List R) : Int := if 4096 < (l.length : Int) then 2 else if rouB l = true then 0 else 1
def codeR2 (l k : List R) : Int := if 4096 < (l.length : Int) ∨ 4096 < (k.length : Int) then 2 else if rouB l = true ∧ rouB k = true then 0 else 1
def rtA (l : List R) (k : Int) : R := if codeR l = 0 then fT l k else R.zero
def rtE (l : List R) (k : Int) : Int := if codeR l = 0 then (if hasT l k = true then 0 else 5) else codeR l
theorem code_long {l : List R} (h : 4096 < (l.length : Int)) : codeR l = 2 := by unfold codeR; rw [if_pos h]
theorem code_bad {l : List R} (h : ¬ 4096 < (l.length : Int)) (hb : rouB l = false) : codeR l = 1 := by unfold codeR; rw [if_neg h, if_neg (by rw [hb]; simp)]
theorem code_zero {l : List R} (hb : rouB l = true) : codeR l = 0 := by have := rou_len hb; unfold codeR; rw [if_neg (by omega), if_pos hb]
theorem code_ok {l : List R} (h : codeR l = 0) : rouB l = true := by
  unfold codeR at h; split at h
  · omega
  · split at h
    · assumption
    · omega
theorem code2_nil (l : List R) : codeR2 l [] = codeR l := by
  have h : rouB ([] : List R) = true := rfl
  unfold codeR2 codeR; simp [h]
theorem code2_long {l k : List R} (h : 4096 < (l.length : Int) ∨ 4096 < (k.length : Int)) : codeR2 l k = 2 := by unfold codeR2; rw [if_pos h]
theorem code2_bad {l k : List R} (h : ¬ 4096 < (l.length : Int)) (h' : ¬ 4096 < (k.length : Int)) (hb : rouB l = false ∨ rouB k = false) : codeR2 l k = 1 := by
  unfold codeR2; rw [if_neg (by omega), if_neg (by rcases hb with e | e <;> rw [e] <;> simp)]
theorem code2_zero {l k : List R} (hb : rouB l = true) (hc : rouB k = true) : codeR2 l k = 0 := by
  have := rou_len hb; have := rou_len hc; unfold codeR2; rw [if_neg (by omega), if_pos ⟨hb, hc⟩]
end Rw
end Go.Proofs.YtfooahhdikobeaaGreat
namespace Go.Proofs.YtfooahhdikobeaaGreat
open Go.ChangeShapes Go.WideShapes Go.ChangeAt Go.RowKit
set_option linter.unusedVariables false
set_option linter.unusedSimpArgs false
set_option maxRecDepth 100000
attribute [local go_sem ↓] Go.wp_at_zero Go.wp_at_succ
namespace Rw
open W1 Ro
set_option maxHeartbeats 1000000 in
theorem isRoute (ds nx co hp : Int) (w : World) :
    Calls Tryz.prog 218 #[.agg #[.int .i64 ds, .int .i64 nx, .int .i64 co, .int .i64 hp]] w fun e w' => e = .returned (.bool (okT ⟨ds, nx, co, hp⟩)) ∧ Below w.heap.size w w' := by
  have E : Hid (okT ⟨ds, nx, co, hp⟩ = (inB ds 1 8 && (inB nx 1 8 && (inB co 1 1099511627776 && inB hp 1 8)))) := hide rfl
  cases h1 : inB ds 1 8
  rotate_left
  cases h2 : inB nx 1 8
  rotate_left
  cases h3 : inB co 1 1099511627776
  rotate_left
  cases h4 : inB hp 1 8
  all_goals
    go_enter Tryz.func218, Tryz.ntmps218
    go_wp2_with (first | (go_at_call 88; refine (within _ _ _ _).mono ?_; rintro e w' ⟨rfl, rfl⟩) | (go_at_call 109; refine (isAddress _ _).mono ?_; rintro e w' ⟨rfl, rfl⟩))
    go_ret
    exact ⟨ret_bool (by rw [unhide E]; simp [*]), (Below.refl _ _).alloc (Nat.le_refl _) _⟩
/-- A route in a variable's block. -/
def Bx (w : World) (b : Nat) (m : R) : Prop := w.cell? ⟨b, 0, none⟩ = some (.int .i64 m.ds) ∧ w.cell? ⟨b, 1, none⟩ = some (.int .i64 m.nx) ∧ w.cell? ⟨b, 2, none⟩ = some (.int .i64 m.co) ∧ w.cell? ⟨b, 3, none⟩ = some (.int .i64 m.hp)
theorem Bx.below {w w' : World} {b : Nat} {m : R} (h : Bx w b m) (hb : Below w.heap.size w w') : Bx w' b m := by
  have hg : b < w.heap.size := World.block_lt_of_cell? _ _ h.1
  obtain ⟨h0, h1, h2, h3⟩ := h
  refine ⟨?_, ?_, ?_, ?_⟩ <;> (rw [hb.cell hg]; assumption)
theorem Bx.lt {w : World} {b : Nat} {m : R} (h : Bx w b m) : b < w.heap.size := World.block_lt_of_cell? _ _ h.1
theorem Bx.drew {w : World} {b : Nat} {m : R} (h : Bx w b m) : Bx w.drew b m := h
theorem bx_new (w : World) (m : R) (t : Nat) : Bx (w.alloc (.cells #[.int .i64 m.ds, .int .i64 m.nx, .int .i64 m.co, .int .i64 m.hp] t)) w.heap.size m := by
  refine ⟨?_, ?_, ?_, ?_⟩ <;> simp [World.cell?_alloc_new]
theorem sBox {w : World} {b : Nat} {ds nx co hp : Int} (h : Bx w b ⟨ds, nx, co, hp⟩) : Bx w b ⟨ds, nx, co, hp⟩ ∧ w.cell? ⟨b, 0, none⟩ = some (.int .i64 ds) ∧ w.cell? ⟨b, 1, none⟩ = some (.int .i64 nx) ∧ w.cell? ⟨b, 2, none⟩ = some (.int .i64 co) ∧ w.cell? ⟨b, 3, none⟩ = some (.int .i64 hp) := ⟨h, h⟩
theorem sBox2 {w : World} {b g p : Nat} {m : R} {ds nx co hp : Int} (h : Bx w b ⟨ds, nx, co, hp⟩) (h' : At w g p m) :
    (Bx w b ⟨ds, nx, co, hp⟩ ∧ At w g p m) ∧ w.cell? ⟨b, 0, none⟩ = some (.int .i64 ds) ∧ w.cell? ⟨b, 1, none⟩ = some (.int .i64 nx) ∧ w.cell? ⟨b, 2, none⟩ = some (.int .i64 co) ∧ w.cell? ⟨b, 3, none⟩ = some (.int .i64 hp) ∧ w.cell? ⟨g, p, none⟩ = some (.int .i64 m.ds) := ⟨⟨h, h'⟩, h.1, h.2.1, h.2.2.1, h.2.2.2, h'.1⟩
set_option maxRecDepth 100000 in
set_option maxHeartbeats 4000000 in
theorem areRoutes (a : Option Addr) (ms : List R) (cap : Nat) (w : World) (hm : ms.length ≤ 1048576) (hr : RM w a ms) :
    Calls Tryz.prog 205 #[.slice a ms.length cap] w fun e w' => e = .returned (.bool (rouB ms)) ∧ Below w.heap.size w w' := by
  have HR := hide hr
  clear hr
  generalize hN : ms.length = n at *
  have HN := hide hN
  clear hN
  go_enter Tryz.func205, Tryz.ntmps205
  go_wp2
  go_loopw [7] (fun i wr => ∃ j : Nat, j ≤ n ∧ i = .int .i64 j ∧ Hid (allT ms j = true) ∧ Hid (Below w.heap.size w wr)) (fun i _ => n - (intOf i).toNat)
  case atStart => exact ⟨0, by omega, rfl, hide Ri.all_zero, hide (Below.refl _ _)⟩
  case round =>
    obtain ⟨j, hj, rfl, hrl, hbl⟩ := hrel
    by_cases hlt : (j : Int) < (n : Int)
    · have k0 : (0 : Int) ≤ (j : Int) := by omega
      have hlen : j < ms.length := by rw [unhide HN]; omega
      rcases (unhide HR).below (by exact (unhide hbl)) with e0 | ⟨g, off, rfl, hc⟩
      · exfalso; rw [e0] at hlen; simp at hlen
      have HL := hide hlen
      have hA := hc j hlen
      have hsz := (unhide hbl).size
      have HBX := hide (bx_new wr (ms.getD j R.zero) 87)
      have HBL := hide ((unhide hbl).alloc hsz (.cells #[.int .i64 (ms.getD j R.zero).ds, .int .i64 (ms.getD j R.zero).nx, .int .i64 (ms.getD j R.zero).co, .int .i64 (ms.getD j R.zero).hp] 87))
      cases hk : okT (ms.getD j R.zero)
      · clear hc
        have HST := hide (Ri.all_no hlen (Ri.step_bad (key := R.ds) hk))
        have HK := hide hk
        clear hk
        generalize ms.getD j R.zero = m at *
        obtain ⟨ds, nx, co, hp⟩ := m
        obtain ⟨c0, c1, c2, c3⟩ := hA
        dsimp only at c0 c1 c2 c3
        go_wp2_with fail
        generalize hW : wr.alloc (.cells #[.int .i64 ds, .int .i64 nx, .int .i64 co, .int .i64 hp] 87) = W0 at *
        clear hW
        refine wp_region_noPanic ?_
        refine wp_region_held_drew (S := fun w' => Bx w' wr.heap.size ⟨ds, nx, co, hp⟩ ∧ w'.cell? ⟨wr.heap.size, 0, none⟩ = some (.int .i64 ds) ∧ w'.cell? ⟨wr.heap.size, 1, none⟩ = some (.int .i64 nx) ∧ w'.cell? ⟨wr.heap.size, 2, none⟩ = some (.int .i64 co) ∧ w'.cell? ⟨wr.heap.size, 3, none⟩ = some (.int .i64 hp)) (by kernel_rfl) (sBox (unhide HBX).drew) (fun hHeld => ?_)
        refine Rg.t 0 12 ?_
        (refine Rg.o 1 (fun K hK => ?_); go_simp)
        refine (isRoute ds nx co hp _).mono ?_
        rintro e w2 ⟨rfl, b2⟩
        rw [unhide HK]
        refine hK.out _ _ (sBox ((unhide HBX).drew.below b2)) (fun hHeld => ?_)
        clear hK K
        (try simp only [Act.put, List.setIfInBounds_toArray, List.set_cons_zero, List.set_cons_succ])
        refine Rg.t 2 14 ?_
        refine Rg.t 3 15 ?_
        refine Rg.s 4 16 ?_
        refine Rg.s 5 17 ?_
        refine Rg.s 6 18 ?_
        refine Rg.s 7 19 ?_
        refine Rg.s 8 20 ?_
        refine Rg.s 9 21 ?_
        refine Rg.s 10 22 ?_
        refine Rg.s 11 23 ?_
        refine Rg.s 12 24 ?_
        refine Rg.s 13 25 ?_
        refine Rg.s 14 26 ?_
        refine Rg.s 15 27 ?_
        refine Rg.s 16 28 ?_
        refine Rg.t 17 29 ?_
        refine wpAnyH_done (by kernel_rfl) (NoPanic.normal ?_) _
        have hb1 := hide ((unhide HBL).drew.trans (b2.mono (by show w.heap.size ≤ W0.heap.size; exact (unhide HBL).size)))
        go_wp2_with fail
        go_ret
        exact ⟨ret_bool (unhide HST).symm, unhide hb1⟩
      have HK := hide hk
      clear hk
      by_cases hj0 : j = 0
      · subst hj0
        clear hc
        rw [Nat.zero_mul, Nat.add_zero] at hA
        have HST := hide (Ri.all_succ (unhide hrl) (Ri.step_zero (key := R.ds) (unhide HK)))
        generalize ms.getD 0 R.zero = m at *
        obtain ⟨ds, nx, co, hp⟩ := m
        obtain ⟨c0, c1, c2, c3⟩ := hA
        dsimp only at c0 c1 c2 c3
        go_wp2_with fail
        generalize hW : wr.alloc (.cells #[.int .i64 ds, .int .i64 nx, .int .i64 co, .int .i64 hp] 87) = W0 at *
        clear hW
        refine wp_region_noPanic ?_
        refine wp_region_held_drew (S := fun w' => Bx w' wr.heap.size ⟨ds, nx, co, hp⟩ ∧ w'.cell? ⟨wr.heap.size, 0, none⟩ = some (.int .i64 ds) ∧ w'.cell? ⟨wr.heap.size, 1, none⟩ = some (.int .i64 nx) ∧ w'.cell? ⟨wr.heap.size, 2, none⟩ = some (.int .i64 co) ∧ w'.cell? ⟨wr.heap.size, 3, none⟩ = some (.int .i64 hp)) (by kernel_rfl) (sBox (unhide HBX).drew) (fun hHeld => ?_)
        refine Rg.t 0 12 ?_
        (refine Rg.o 1 (fun K hK => ?_); go_simp)
        refine (isRoute ds nx co hp _).mono ?_
        rintro e w2 ⟨rfl, b2⟩
        rw [unhide HK]
        refine hK.out _ _ (sBox ((unhide HBX).drew.below b2)) (fun hHeld => ?_)
        clear hK K
        (try simp only [Act.put, List.setIfInBounds_toArray, List.set_cons_zero, List.set_cons_succ])
        refine Rg.t 2 14 ?_
        refine Rg.t 3 15 ?_
        refine Rg.t 4 16 ?_
        refine Rg.t 5 17 ?_
        refine Rg.t 6 18 ?_
        refine Rg.s 7 19 ?_
        refine Rg.s 8 20 ?_
        refine Rg.s 9 21 ?_
        refine Rg.s 10 22 ?_
        refine Rg.s 11 23 ?_
        refine Rg.s 12 24 ?_
        refine Rg.s 13 25 ?_
        refine Rg.s 14 26 ?_
        refine Rg.s 15 27 ?_
        refine Rg.t 16 28 ?_
        refine Rg.t 17 29 ?_
        refine wpAnyH_done (by kernel_rfl) (NoPanic.normal ?_) _
        have hb1 := hide ((unhide HBL).drew.trans (b2.mono (by show w.heap.size ≤ W0.heap.size; exact (unhide HBL).size)))
        go_wp2_with fail
        go_roundw
        case rel => exact ⟨0 + 1, by omega, by go_num, HST, hb1⟩
        case measure => simp [intOf]; omega
      · obtain ⟨i, hji⟩ : ∃ i, j = i + 1 := ⟨j - 1, by omega⟩
        have HJ := hide hji
        have e1 : (j : Int) - 1 = (i : Int) := by omega
        have i0 : (0 : Int) ≤ (i : Int) := by omega
        have wi : IntKind.i64.wrap (i : Int) = (i : Int) := by rw [IntKind.wrap_i64]; omega
        have i1 : (i : Int) < (n : Int) := by omega
        have j1 : (0 : Int) < (j : Int) := by omega
        have j2 : 0 < j := by omega
        have hP := hide ((hc i (by omega)).below ((Below.refl _ _).alloc (Nat.le_refl _) (.cells #[.int .i64 (ms.getD j R.zero).ds, .int .i64 (ms.getD j R.zero).nx, .int .i64 (ms.getD j R.zero).co, .int .i64 (ms.getD j R.zero).hp] 87)))
        have EJ : ms.getD j R.zero = ms.getD (i + 1) R.zero := by rw [hji]
        clear hc hji
        by_cases hk : (ms.getD i R.zero).ds < (ms.getD j R.zero).ds
        · have HST : Hid (allT ms (j + 1) = true) := hide (Ri.all_succ (unhide hrl) (by rw [unhide HJ]; exact Ri.step_lt (by rw [← EJ]; exact unhide HK) (by rw [← EJ]; exact hk)))
          clear EJ
          generalize ms.getD i R.zero = m0 at *
          obtain ⟨ds0, nx0, co0, hp0⟩ := m0
          dsimp only at hk
          generalize ms.getD j R.zero = m at *
          obtain ⟨ds, nx, co, hp⟩ := m
          obtain ⟨c0, c1, c2, c3⟩ := hA
          dsimp only at hk c0 c1 c2 c3
          go_wp2_with fail
          generalize hW : wr.alloc (.cells #[.int .i64 ds, .int .i64 nx, .int .i64 co, .int .i64 hp] 87) = W0 at *
          clear hW
          refine wp_region_noPanic ?_
          refine wp_region_held_drew (S := fun w' => (Bx w' wr.heap.size ⟨ds, nx, co, hp⟩ ∧ At w' g (off + i * 4) ⟨ds0, nx0, co0, hp0⟩) ∧ w'.cell? ⟨wr.heap.size, 0, none⟩ = some (.int .i64 ds) ∧ w'.cell? ⟨wr.heap.size, 1, none⟩ = some (.int .i64 nx) ∧ w'.cell? ⟨wr.heap.size, 2, none⟩ = some (.int .i64 co) ∧ w'.cell? ⟨wr.heap.size, 3, none⟩ = some (.int .i64 hp) ∧ w'.cell? ⟨g, off + i * 4, none⟩ = some (.int .i64 ds0)) (by kernel_rfl) (sBox2 (unhide HBX).drew (unhide hP).drew) (fun hHeld => ?_)
          refine Rg.t 0 12 ?_
          (refine Rg.o 1 (fun K hK => ?_); go_simp)
          refine (isRoute ds nx co hp _).mono ?_
          rintro e w2 ⟨rfl, b2⟩
          rw [unhide HK]
          refine hK.out _ _ (sBox2 ((unhide HBX).drew.below b2) ((unhide hP).drew.below b2)) (fun hHeld => ?_)
          clear hK K
          (try simp only [Act.put, List.setIfInBounds_toArray, List.set_cons_zero, List.set_cons_succ])
          refine Rg.t 2 14 ?_
          refine Rg.t 3 15 ?_
          refine Rg.t 4 16 ?_
          refine Rg.t 5 17 ?_
          refine Rg.t 6 18 ?_
          refine Rg.t 7 19 ?_
          refine Rg.t 8 20 ?_
          refine Rg.t 9 21 ?_
          refine Rg.t 10 22 ?_
          refine Rg.t 11 23 ?_
          refine Rg.t 12 24 ?_
          refine Rg.t 13 25 ?_
          refine Rg.t 14 26 ?_
          refine Rg.t 15 27 ?_
          refine Rg.t 16 28 ?_
          refine Rg.t 17 29 ?_
          refine wpAnyH_done (by kernel_rfl) (NoPanic.normal ?_) _
          have hb1 := hide ((unhide HBL).drew.trans (b2.mono (by show w.heap.size ≤ W0.heap.size; exact (unhide HBL).size)))
          go_wp2_with fail
          go_roundw
          case rel => exact ⟨j + 1, by omega, by go_num, HST, hb1⟩
          case measure => simp [intOf]; omega
        · have HST : Hid (rouB ms = false) := hide (Ri.all_no (unhide HL) (show Ri.step R.zero okT R.ds ms j = false by rw [unhide HJ]; exact Ri.step_ge (by rw [← EJ]; omega)))
          clear EJ
          generalize ms.getD i R.zero = m0 at *
          obtain ⟨ds0, nx0, co0, hp0⟩ := m0
          dsimp only at hk
          generalize ms.getD j R.zero = m at *
          obtain ⟨ds, nx, co, hp⟩ := m
          obtain ⟨c0, c1, c2, c3⟩ := hA
          dsimp only at hk c0 c1 c2 c3
          go_wp2_with fail
          generalize hW : wr.alloc (.cells #[.int .i64 ds, .int .i64 nx, .int .i64 co, .int .i64 hp] 87) = W0 at *
          clear hW
          refine wp_region_noPanic ?_
          refine wp_region_held_drew (S := fun w' => (Bx w' wr.heap.size ⟨ds, nx, co, hp⟩ ∧ At w' g (off + i * 4) ⟨ds0, nx0, co0, hp0⟩) ∧ w'.cell? ⟨wr.heap.size, 0, none⟩ = some (.int .i64 ds) ∧ w'.cell? ⟨wr.heap.size, 1, none⟩ = some (.int .i64 nx) ∧ w'.cell? ⟨wr.heap.size, 2, none⟩ = some (.int .i64 co) ∧ w'.cell? ⟨wr.heap.size, 3, none⟩ = some (.int .i64 hp) ∧ w'.cell? ⟨g, off + i * 4, none⟩ = some (.int .i64 ds0)) (by kernel_rfl) (sBox2 (unhide HBX).drew (unhide hP).drew) (fun hHeld => ?_)
          refine Rg.t 0 12 ?_
          (refine Rg.o 1 (fun K hK => ?_); go_simp)
          refine (isRoute ds nx co hp _).mono ?_
          rintro e w2 ⟨rfl, b2⟩
          rw [unhide HK]
          refine hK.out _ _ (sBox2 ((unhide HBX).drew.below b2) ((unhide hP).drew.below b2)) (fun hHeld => ?_)
          clear hK K
          (try simp only [Act.put, List.setIfInBounds_toArray, List.set_cons_zero, List.set_cons_succ])
          refine Rg.t 2 14 ?_
          refine Rg.t 3 15 ?_
          refine Rg.t 4 16 ?_
          refine Rg.t 5 17 ?_
          refine Rg.t 6 18 ?_
          refine Rg.t 7 19 ?_
          refine Rg.t 8 20 ?_
          refine Rg.t 9 21 ?_
          refine Rg.t 10 22 ?_
          refine Rg.t 11 23 ?_
          refine Rg.t 12 24 ?_
          refine Rg.t 13 25 ?_
          refine Rg.t 14 26 ?_
          refine Rg.t 15 27 ?_
          refine Rg.t 16 28 ?_
          refine Rg.t 17 29 ?_
          refine wpAnyH_done (by kernel_rfl) (NoPanic.normal ?_) _
          have hb1 := hide ((unhide HBL).drew.trans (b2.mono (by show w.heap.size ≤ W0.heap.size; exact (unhide HBL).size)))
          go_wp2_with fail
          go_ret
          exact ⟨ret_bool (unhide HST).symm, unhide hb1⟩
    · obtain rfl : j = n := by omega
      have HO : Hid (rouB ms = true) := hide (by unfold rouB; rw [unhide HN]; exact unhide hrl)
      go_wp2
      go_ret
      exact ⟨ret_bool (unhide HO).symm, unhide hbl⟩
theorem up_at {ms : List R} (h : UpT ms) (k : Int) : ∀ i j, i < j → j < ms.length → atT k (ms.getD i R.zero) = true → atT k (ms.getD j R.zero) = true := by
  intro i j hij hj hi
  have := (List.pairwise_iff_getElem.1 h) i j (by omega) hj hij
  rw [← getD_get (by omega), ← getD_get hj] at this
  unfold atT at *
  exact decide_eq_true (by have := of_decide_eq_true hi; omega)
theorem cloAt (ds nx co hp k : Int) (b : Nat) (w : World) (hc : w.cell? ⟨b, 0, none⟩ = some (.int .i64 k)) :
    Calls Tryz.prog 207 #[.agg #[.int .i64 ds, .int .i64 nx, .int .i64 co, .int .i64 hp], .pointer (some ⟨b, 0, none⟩)] w fun e w' => e = .returned (.bool (atT k ⟨ds, nx, co, hp⟩)) ∧ Below w.heap.size w w' := by
  have hlt : b < w.heap.size := World.block_lt_of_cell? _ _ hc
  have hne : ¬ b = w.heap.size := by omega
  by_cases h : k ≤ ds
  all_goals
    go_enter Tryz.func207, Tryz.ntmps207
    go_wp2
    go_ret
    exact ⟨ret_bool (by unfold atT; simp [h]), (Below.refl _ _).alloc (Nat.le_refl _) _⟩
set_option maxHeartbeats 2000000 in
theorem firstAt (b : Nat) (a : Option Addr) (k : Int) (ms : List R) (cap : Nat) (w : World) (hr : RM w a ms) (hs : UpT ms) (hm : ms.length ≤ 4096) (hb : w.cell? ⟨b, 0, none⟩ = some (.int .i64 k)) :
    Calls Tryz.prog 206 #[.slice a ms.length cap, .func (.func 207) #[] #[.pointer (some ⟨b, 0, none⟩)]] w fun e w' => e = .returned (.int .i64 (Pq.place (atT k) ms)) ∧ Below w.heap.size w w' := by
  have HR := hide hr
  have HB := hide hb
  have HUP := hide (up_at hs k)
  have hblt := World.block_lt_of_cell? _ _ hb
  clear hr hs hb
  generalize hN : ms.length = n at *
  have HN := hide hN
  clear hN
  go_enter Tryz.func206, Tryz.ntmps206
  go_wp2
  go_loopw [5, 6] (fun lo hi wr => ∃ low high : Nat, low ≤ high ∧ high ≤ n ∧ lo = .int .i64 low ∧ hi = .int .i64 high ∧ Hid (∀ i, i < low → atT k (ms.getD i R.zero) = false) ∧ Hid (∀ i, high ≤ i → i < n → atT k (ms.getD i R.zero) = true) ∧ Hid (Below w.heap.size w wr)) (fun lo hi _ => (intOf hi - intOf lo).toNat)
  case atStart => exact ⟨0, n, by omega, by omega, rfl, rfl, hide (fun i hi => by omega), hide (fun i hi h2 => by omega), hide (Below.refl _ _)⟩
  case round =>
    obtain ⟨low, high, hlh, hhn, rfl, rfl, h1, h2, hbl⟩ := hrel
    by_cases hlt : (low : Int) < (high : Int)
    · obtain ⟨mid, hmid⟩ : ∃ mid : Nat, mid = low + (high - low) / 2 := ⟨_, rfl⟩
      have hm1 : low ≤ mid := by omega
      have hm2 : mid < high := by omega
      have em : (low : Int) + ((high : Int) - (low : Int)) / 2 = (mid : Int) := by omega
      have et : ((high : Int) - (low : Int)).tdiv 2 = ((high : Int) - (low : Int)) / 2 := Int.tdiv_eq_ediv_of_nonneg (by omega)
      have k0 : (0 : Int) ≤ (mid : Int) := by omega
      have k1 : (mid : Int) < (n : Int) := by omega
      obtain ⟨g, off, rfl⟩ := (unhide HR).form (by rw [unhide HN]; omega)
      have hA := ((unhide HR).below (unhide hbl)).at (i := mid) (by rw [unhide HN]; omega)
      have HC := hide ((unhide hbl).cell (p := ⟨b, 0, none⟩) hblt)
      have HP : Hid (atT k (ms.getD mid R.zero) = true → ∀ i, mid ≤ i → i < n → atT k (ms.getD i R.zero) = true) := hide (fun h i hi hn => by
        by_cases e : mid = i
        · subst e; exact h
        · exact unhide HUP mid i (by omega) hn h)
      have HQ : Hid (atT k (ms.getD mid R.zero) = false → ∀ i, i < mid + 1 → atT k (ms.getD i R.zero) = false) := hide (fun h i hi => by
        by_cases e : mid = i
        · subst e; exact h
        · cases hb : atT k (ms.getD i R.zero)
          · rfl
          · rw [unhide HUP i mid (by omega) (by omega) hb] at h; cases h)
      clear hmid
      generalize ms.getD mid R.zero = m at *
      obtain ⟨ds, nx, co, hp⟩ := m
      obtain ⟨c0, c1, c2, c3⟩ := hA
      dsimp only at c0 c1 c2 c3
      go_wp2_with fail
      refine (cloAt ds nx co hp k b _ ((unhide HC).trans (unhide HB))).mono ?_
      rintro e w1 ⟨rfl, b1⟩
      have hb1 := hide ((unhide hbl).trans (b1.mono (unhide hbl).size))
      clear c0 c1 c2 c3 b1
      cases hp : atT k ⟨ds, nx, co, hp⟩
      · have HST := hide (unhide HQ hp)
        go_wp2_with fail
        exact ⟨⟨mid + 1, high, by omega, by omega, by go_num, rfl, HST, h2, hb1⟩, by simp [intOf]; omega⟩
      · have HST := hide (unhide HP hp)
        go_wp2_with fail
        exact ⟨⟨low, mid, by omega, by omega, rfl, rfl, h1, HST, hb1⟩, by simp [intOf]; omega⟩
    · obtain rfl : low = high := by omega
      have HST : Hid (Pq.place (atT k) ms = low) := hide (Pq.place_of R.zero _ ms low (by rw [unhide HN]; omega) (unhide h1) (fun h => unhide h2 low (Nat.le_refl _) (by rw [unhide HN] at h; exact h)))
      go_wp2_with fail
      go_ret
      exact ⟨ret_int (by rw [unhide HST]), unhide hbl⟩
theorem there_no {ms : List R} {k : Int} {p : Nat} (e : placeT ms k = p) (h : ms.length ≤ p) : thereT ms k = false := by unfold thereT; rw [e, decide_eq_false (by omega)]; rfl
theorem there_ne {ms : List R} {k : Int} {p : Nat} (e : placeT ms k = p) (h : ¬ (ms.getD p R.zero).ds = k) : thereT ms k = false := by unfold thereT; rw [e, decide_eq_false h, Bool.and_false]
theorem there_yes {ms : List R} {k : Int} {p : Nat} (e : placeT ms k = p) (hl : p < ms.length) (h : (ms.getD p R.zero).ds = k) : thereT ms k = true := by unfold thereT; rw [e, decide_eq_true hl, decide_eq_true h]; rfl
theorem sKey {w : World} {b g o : Nat} {k : Int} {m : R} (h : w.cell? ⟨b, 0, none⟩ = some (.int .i64 k)) (h' : At w g o m) : w.cell? ⟨b, 0, none⟩ = some (.int .i64 k) ∧ w.cell? ⟨g, o, none⟩ = some (.int .i64 m.ds) := ⟨h, h'.1⟩
theorem lt_block {w : World} {b : Nat} {c : Obj} (h : w.heap[b]? = some c) : b < w.heap.size := by
  rcases Nat.lt_or_ge b w.heap.size with hlt | hge
  · exact hlt
  · rw [Array.getElem?_eq_none hge] at h; cases h
theorem heap_set {w : World} {b i : Nat} {c : Array Value} {t : TypeId} {fr : Nat × Nat} (u : Value) (h : w.heap[b]? = some (.cells c t fr)) : (w.setCell ⟨b, i, none⟩ u).heap[b]? = some (.cells (c.setIfInBounds i u) t fr) := by
  have hlt := lt_block h
  have h' : w.heap[b] = .cells c t fr := by simpa [Array.getElem?_eq_getElem hlt] using h
  show (w.heap.modify b _)[b]? = _
  rw [Array.getElem?_eq_getElem (by simpa using hlt), Array.getElem_modify_self, h']
  rfl
/-- A route's block that may be written. -/
def RV (w : World) (b : Nat) (m : R) : Prop := w.heap[b]? = some (.cells #[.int .i64 m.ds, .int .i64 m.nx, .int .i64 m.co, .int .i64 m.hp] 87 (0, 0))
theorem RV.cells {w : World} {b : Nat} {m : R} (h : RV w b m) : Bx w b m := by
  unfold RV at h; refine ⟨?_, ?_, ?_, ?_⟩ <;> simp [World.cell?, h]
theorem RV.free {w : World} {b : Nat} {m : R} (h : RV w b m) (i : Nat) : w.frozen? ⟨b, i, none⟩ = false := by unfold RV at h; simp [World.frozen?, h]
theorem RV.lt {w : World} {b : Nat} {m : R} (h : RV w b m) : b < w.heap.size := lt_block h
theorem RV.drew {w : World} {b : Nat} {m : R} (h : RV w b m) : RV w.drew b m := h
theorem RV.below {w w' : World} {b : Nat} {m : R} (h : RV w b m) (hb : Below w.heap.size w w') : RV w' b m := (hb.block b h.lt).trans h
theorem RV.under {w w' : World} {B b : Nat} {m : R} (h : RV w b m) (hb : Below B w w') (hl : b < B) : RV w' b m := (hb.block b hl).trans h
theorem rv_new (w : World) (m : R) : RV (w.alloc (.cells #[.int .i64 m.ds, .int .i64 m.nx, .int .i64 m.co, .int .i64 m.hp] 87)) w.heap.size m := heap_alloc_new w _
theorem rv_put {w : World} {b : Nat} {m : R} (h : RV w b m) (x y z u : Int) : RV ((((w.setCell ⟨b, 0, none⟩ (.int .i64 x)).setCell ⟨b, 1, none⟩ (.int .i64 y)).setCell ⟨b, 2, none⟩ (.int .i64 z)).setCell ⟨b, 3, none⟩ (.int .i64 u)) b ⟨x, y, z, u⟩ := by
  have h1 := heap_set (i := 0) (.int .i64 x) h
  have h2 := heap_set (i := 1) (.int .i64 y) h1
  have h3 := heap_set (i := 2) (.int .i64 z) h2
  exact heap_set (i := 3) (.int .i64 u) h3
theorem fT_val {ms : List R} {k : Int} {p : Nat} (hs : UpT ms) (e : placeT ms k = p) (ht : thereT ms k = true) : fT ms k = ms.getD p R.zero := by rw [fT_there hs ht, e]
theorem fT_not {ms : List R} {k : Int} (hs : UpT ms) (ht : thereT ms k = false) : fT ms k = R.zero := fT_none (by rw [has_there hs]; exact ht)
set_option maxHeartbeats 4000000 in
theorem routeAt (a : Option Addr) (ms : List R) (cap : Nat) (k : Int) (w : World) (hr : RM w a ms) (hs : UpT ms) (hm : ms.length ≤ 4096) :
    Calls Tryz.prog 175 #[.slice a ms.length cap, .int .i64 k] w fun e w' => e = .returned (fT ms k).value ∧ Below w.heap.size w w' := by
  have HR := hide hr
  have HS := hide hs
  have hl := Pq.place_le (atT k) ms
  clear hr hs
  have HC : Hid (((w.alloc (.cells #[.int .i64 k] 3)).alloc (.cells #[.int .i64 0, .int .i64 0, .int .i64 0, .int .i64 0] 87)).cell? ⟨w.heap.size, 0, none⟩ = some (.int .i64 k)) := hide (by rw [((Below.refl (w.alloc (.cells #[.int .i64 k] 3)).heap.size (w.alloc (.cells #[.int .i64 k] 3))).alloc (Nat.le_refl _) (.cells #[.int .i64 0, .int .i64 0, .int .i64 0, .int .i64 0] 87)).cell (p := ⟨w.heap.size, 0, none⟩) (by simp)]; simp [World.cell?_alloc_new])
  have HBA : Hid (Below w.heap.size w ((w.alloc (.cells #[.int .i64 k] 3)).alloc (.cells #[.int .i64 0, .int .i64 0, .int .i64 0, .int .i64 0] 87))) := hide (((Below.refl _ _).alloc (Nat.le_refl _) _).alloc (by simp) _)
  have HZ : Hid (RV ((w.alloc (.cells #[.int .i64 k] 3)).alloc (.cells #[.int .i64 0, .int .i64 0, .int .i64 0, .int .i64 0] 87)) (w.heap.size + 1) R.zero) := hide (by have := rv_new (w.alloc (.cells #[.int .i64 k] 3)) R.zero; rw [show (w.alloc (.cells #[.int .i64 k] 3)).heap.size = w.heap.size + 1 by simp] at this; exact this)
  obtain ⟨p, hp⟩ : ∃ p, placeT ms k = p := ⟨_, rfl⟩
  have HP := hide hp
  have HP' : Hid (Pq.place (atT k) ms = p) := hide hp
  rw [show Pq.place (atT k) ms = p from hp] at hl
  clear hp
  have hmf : ∀ (fn : Fn) (first cap : Array Value) (w : World), (Instr.makeFunc fn first cap).run Tryz.prog w = .ok (.func fn first cap) w := fun _ _ _ _ => rfl
  obtain ⟨qd, qn, qc, qh, hq⟩ : ∃ qd qn qc qh, fT ms k = ⟨qd, qn, qc, qh⟩ := ⟨_, _, _, _, rfl⟩
  have HQ := hide hq
  rw [hq]
  clear hq
  go_enter Tryz.func175, Tryz.ntmps175
  go_wp2_with fail
  refine (firstAt w.heap.size a k ms cap _ ((unhide HR).below (unhide HBA)) (unhide HS) hm (unhide HC)).mono ?_
  rintro e w1 ⟨rfl, b1⟩
  rw [unhide HP']
  have hb1 := hide ((unhide HBA).trans (b1.mono (unhide HBA).size))
  have hcell := (b1.cell (p := ⟨w.heap.size, 0, none⟩) (by simp; omega)).trans (unhide HC)
  have HR1 := hide ((unhide HR).below (unhide hb1))
  have HZ1 := hide ((unhide HZ).below b1)
  have hlt1 := (unhide HZ1).lt
  clear HC HBA b1 HZ
  have y0 := (unhide HZ1).free 0
  have y1 := (unhide HZ1).free 1
  have y2 := (unhide HZ1).free 2
  have y3 := (unhide HZ1).free 3
  obtain ⟨x0, x1, x2, x3⟩ := (unhide HZ1).cells
  unfold R.zero at x0 x1 x2 x3
  dsimp only at x0 x1 x2 x3
  by_cases hlt : (p : Int) < (ms.length : Int)
  · obtain ⟨g, off, rfl⟩ := (unhide HR1).form (by omega)
    have hA := (unhide HR1).at (i := p) (by omega)
    have k0 : (0 : Int) ≤ (p : Int) := by omega
    have hlen : p < ms.length := by omega
    have hpn : ((p : Int) == (ms.length : Int)) = false := by simp; omega
    by_cases hk : (ms.getD p R.zero).ds = k
    · have HT := hide (there_yes (unhide HP) hlen hk)
      have e := fT_val (unhide HS) (unhide HP) (unhide HT)
      rw [unhide HQ] at e
      rw [← e] at hA hk
      dsimp only at hk
      have hk' : (qd != k) = false := by simpa using hk
      clear hk e
      have HSK := hide (sKey hcell hA.drew)
      obtain ⟨c0, c1, c2, c3⟩ := hA
      dsimp only at c0 c1 c2 c3
      go_wp2_with fail
      refine wp_region_noPanic ?_
      refine wp_region_held_drew (S := fun w' => w'.cell? ⟨w.heap.size, 0, none⟩ = some (.int .i64 k) ∧ w'.cell? ⟨g, off + p * 4, none⟩ = some (.int .i64 qd)) (by kernel_rfl) (unhide HSK) (fun hHeld => ?_)
      refine Rg.t 0 9 ?_
      refine Rg.t 1 10 ?_
      refine Rg.t 2 11 ?_
      refine Rg.t 3 12 ?_
      refine Rg.t 4 13 ?_
      refine Rg.t 5 14 ?_
      refine Rg.t 6 15 ?_
      refine Rg.t 7 16 ?_
      refine Rg.t 8 17 ?_
      refine Rg.t 9 18 ?_
      refine Rg.t 10 19 ?_
      refine Rg.t 11 20 ?_
      refine Rg.t 12 21 ?_
      refine wpAnyH_done (by kernel_rfl) (NoPanic.normal ?_) _
      go_wp2_with fail
      refine bodyPost_ret (v := .agg #[.int .i64 qd, .int .i64 qn, .int .i64 qc, .int .i64 qh]) (by simp [results, Tryz.results175, go_sem, x0, x1, x2, x3]) rfl ⟨rfl, ?_⟩
      have hB := unhide hb1
      (repeat (first | (with_reducible exact hB) | (with_reducible refine Below.drew ?_) | (with_reducible refine Below.setCell ?_ ?_ _; rotate_left; (first | exact Nat.le_refl _ | (simp; done) | (dsimp only; omega))) | (with_reducible refine Below.alloc ?_ ?_ _; rotate_left; (first | exact Nat.le_refl _ | omega | (simp [World.setCell]; omega)))))
    · have HT := hide (there_ne (unhide HP) hk)
      have e := fT_not (unhide HS) (unhide HT)
      rw [unhide HQ] at e
      obtain ⟨rfl, rfl, rfl, rfl⟩ : qd = 0 ∧ qn = 0 ∧ qc = 0 ∧ qh = 0 := by unfold R.zero at e; cases e; exact ⟨rfl, rfl, rfl, rfl⟩
      generalize ms.getD p R.zero = m at *
      have hk' : (m.ds != k) = true := by simpa using hk
      clear hk e
      go_wp2_with fail
      refine wp_region_noPanic ?_
      refine wp_region_held_drew (S := fun w' => w'.cell? ⟨w.heap.size, 0, none⟩ = some (.int .i64 k) ∧ w'.cell? ⟨g, off + p * 4, none⟩ = some (.int .i64 m.ds)) (by kernel_rfl) (sKey hcell hA.drew) (fun hHeld => ?_)
      refine Rg.t 0 9 ?_
      refine Rg.t 1 10 ?_
      refine Rg.t 2 11 ?_
      refine Rg.t 3 12 ?_
      refine Rg.t 4 13 ?_
      refine Rg.t 5 14 ?_
      refine Rg.t 6 15 ?_
      refine Rg.t 7 16 ?_
      refine Rg.t 8 17 ?_
      refine Rg.t 9 18 ?_
      refine Rg.t 10 19 ?_
      refine Rg.t 11 20 ?_
      refine Rg.t 12 21 ?_
      refine wpAnyH_done (by kernel_rfl) (NoPanic.normal ?_) _
      go_wp2_with fail
      refine bodyPost_ret (v := .agg #[.int .i64 0, .int .i64 0, .int .i64 0, .int .i64 0]) (by simp [results, Tryz.results175, go_sem, x0, x1, x2, x3]) rfl ⟨rfl, ?_⟩
      have hB := unhide hb1
      (repeat (first | (with_reducible exact hB) | (with_reducible refine Below.drew ?_) | (with_reducible refine Below.setCell ?_ ?_ _; rotate_left; (first | exact Nat.le_refl _ | (simp; done) | (dsimp only; omega))) | (with_reducible refine Below.alloc ?_ ?_ _; rotate_left; (first | exact Nat.le_refl _ | omega | (simp [World.setCell]; omega)))))
  · obtain rfl : p = ms.length := by omega
    have HT := hide (there_no (unhide HP) (by omega))
    have e := fT_not (unhide HS) (unhide HT)
    rw [unhide HQ] at e
    obtain ⟨rfl, rfl, rfl, rfl⟩ : qd = 0 ∧ qn = 0 ∧ qc = 0 ∧ qh = 0 := by unfold R.zero at e; cases e; exact ⟨rfl, rfl, rfl, rfl⟩
    clear e
    have hpn : ((ms.length : Int) == (ms.length : Int)) = true := by simp
    go_wp2_with fail
    refine wp_region_noPanic ?_
    refine wp_region_held_drew (S := fun w' => True) (by kernel_rfl) trivial (fun hHeld => ?_)
    refine Rg.t 0 9 ?_
    refine Rg.t 1 10 ?_
    refine Rg.t 2 11 ?_
    refine Rg.t 3 12 ?_
    refine Rg.t 4 13 ?_
    refine Rg.s 5 14 ?_
    refine Rg.s 6 15 ?_
    refine Rg.s 7 16 ?_
    refine Rg.s 8 17 ?_
    refine Rg.s 9 18 ?_
    refine Rg.s 10 19 ?_
    refine Rg.s 11 20 ?_
    refine Rg.t 12 21 ?_
    refine wpAnyH_done (by kernel_rfl) (NoPanic.normal ?_) _
    go_wp2_with fail
    refine bodyPost_ret (v := .agg #[.int .i64 0, .int .i64 0, .int .i64 0, .int .i64 0]) (by simp [results, Tryz.results175, go_sem, x0, x1, x2, x3]) rfl ⟨rfl, ?_⟩
    have hB := unhide hb1
    (repeat (first | (with_reducible exact hB) | (with_reducible refine Below.drew ?_) | (with_reducible refine Below.setCell ?_ ?_ _; rotate_left; (first | exact Nat.le_refl _ | (simp; done) | (dsimp only; omega))) | (with_reducible refine Below.alloc ?_ ?_ _; rotate_left; (first | exact Nat.le_refl _ | omega | (simp [World.setCell]; omega)))))
set_option maxHeartbeats 2000000 in
theorem routesCode (a : Option Addr) (ms : List R) (cap : Nat) (b : Option Addr) (ns : List R) (capb : Nat) (w : World) (hm : ms.length ≤ 1048576) (hn : ns.length ≤ 1048576) (hr : RM w a ms) (hr' : RM w b ns) :
    Calls Tryz.prog 174 #[.slice a ms.length cap, .slice b ns.length capb] w fun e w' => e = .returned (.int .i64 (codeR2 ms ns)) ∧ Below w.heap.size w w' := by
  have HR := hide hr
  have HR' := hide hr'
  clear hr hr'
  by_cases hbig : (4096 : Int) < ms.length
  · rw [code2_long (.inl hbig)]
    go_enter Tryz.func174, Tryz.ntmps174
    go_wp2_with fail
    go_ret
    exact ⟨rfl, Below.refl _ _⟩
  by_cases hbig' : (4096 : Int) < ns.length
  · rw [code2_long (.inr hbig')]
    go_enter Tryz.func174, Tryz.ntmps174
    go_wp2_with fail
    go_ret
    exact ⟨rfl, Below.refl _ _⟩
  cases hs : rouB ms
  · rw [code2_bad hbig hbig' (.inl hs)]
    have HS := hide hs
    clear hs
    go_enter Tryz.func174, Tryz.ntmps174
    go_wp2_with fail
    refine (areRoutes _ ms cap _ hm (unhide HR)).mono ?_
    rintro e w1 ⟨rfl, b1⟩
    rw [unhide HS]
    have HB := hide b1
    clear b1
    go_wp2_with fail
    go_ret
    exact ⟨rfl, unhide HB⟩
  cases ht : rouB ns
  · rw [code2_bad hbig hbig' (.inr ht)]
    have HS := hide hs
    have HT := hide ht
    clear hs ht
    go_enter Tryz.func174, Tryz.ntmps174
    go_wp2_with fail
    refine (areRoutes _ ms cap _ hm (unhide HR)).mono ?_
    rintro e w1 ⟨rfl, b1⟩
    rw [unhide HS]
    have HB := hide b1
    clear b1
    go_wp2_with fail
    refine (areRoutes _ ns capb _ hn ((unhide HR').below (unhide HB))).mono ?_
    rintro e w2 ⟨rfl, b2⟩
    rw [unhide HT]
    have HB2 := hide ((unhide HB).trans (b2.mono (unhide HB).size))
    clear b2
    go_wp2_with fail
    go_ret
    exact ⟨rfl, unhide HB2⟩
  rw [code2_zero hs ht]
  have HS := hide hs
  have HT := hide ht
  clear hs ht
  go_enter Tryz.func174, Tryz.ntmps174
  go_wp2_with fail
  refine (areRoutes _ ms cap _ hm (unhide HR)).mono ?_
  rintro e w1 ⟨rfl, b1⟩
  rw [unhide HS]
  have HB := hide b1
  clear b1
  go_wp2_with fail
  refine (areRoutes _ ns capb _ hn ((unhide HR').below (unhide HB))).mono ?_
  rintro e w2 ⟨rfl, b2⟩
  rw [unhide HT]
  have HB2 := hide ((unhide HB).trans (b2.mono (unhide HB).size))
  clear b2
  go_wp2_with fail
  go_ret
  exact ⟨rfl, unhide HB2⟩
/-- The code of one list, as the program asks for it. -/
theorem routesCode1 (a : Option Addr) (ms : List R) (cap : Nat) (w : World) (hm : ms.length ≤ 1048576) (hr : RM w a ms) :
    Calls Tryz.prog 174 #[.slice a ms.length cap, .slice none 0 0] w fun e w' => e = .returned (.int .i64 (codeR ms)) ∧ Below w.heap.size w w' := by
  have := routesCode a ms cap none [] 0 w hm (by simp) hr (.inl rfl)
  rw [code2_nil] at this
  exact this
set_option maxHeartbeats 4000000 in
theorem implRouteTo (a : Option Addr) (ms : List R) (cap : Nat) (k : Int) (w : World) (hm : ms.length ≤ 1048576) (hr : RM w a ms) :
    Calls Tryz.prog 129 #[.slice a ms.length cap, .int .i64 k] w fun e w' => e = .returned (.tuple #[(rtA ms k).value, .int .i64 (rtE ms k)]) ∧ Below w.heap.size w w' := by
  have HA : Hid (Below w.heap.size w (w.alloc (.cells #[.int .i64 0, .int .i64 0, .int .i64 0, .int .i64 0] 87))) := hide ((Below.refl _ _).alloc (Nat.le_refl _) _)
  have HZ : Hid (RV (w.alloc (.cells #[.int .i64 0, .int .i64 0, .int .i64 0, .int .i64 0] 87)) w.heap.size R.zero) := hide (rv_new w R.zero)
  have HR := hide (hr.below (unhide HA))
  clear hr
  by_cases hc : codeR ms = 0
  rotate_left
  · have h1 : rtA ms k = R.zero := by unfold rtA; rw [if_neg hc]
    have h2 : rtE ms k = codeR ms := by unfold rtE; rw [if_neg hc]
    rw [h1, h2]
    clear h1 h2
    obtain ⟨cd, hcd⟩ : ∃ cd, codeR ms = cd := ⟨_, rfl⟩
    have HC := hide hcd
    rw [hcd] at hc ⊢
    have q1 : (cd != 0) = true := by simpa using hc
    clear hcd hc
    go_enter Tryz.func129, Tryz.ntmps129
    go_wp2_with fail
    refine (routesCode1 _ ms cap _ hm (unhide HR)).mono ?_
    rintro e w1 ⟨rfl, b1⟩
    rw [unhide HC]
    have HB1 := hide ((unhide HA).trans (b1.mono (unhide HA).size))
    have HZ1 := hide ((unhide HZ).below b1)
    clear b1
    obtain ⟨x0, x1, x2, x3⟩ := (unhide HZ1).cells
    have y0 := (unhide HZ1).free 0
    have y1 := (unhide HZ1).free 1
    have y2 := (unhide HZ1).free 2
    have y3 := (unhide HZ1).free 3
    unfold R.zero at x0 x1 x2 x3
    dsimp only at x0 x1 x2 x3
    go_wp2_with fail
    refine bodyPost_ret (v := .tuple #[.agg #[.int .i64 0, .int .i64 0, .int .i64 0, .int .i64 0], .int .i64 cd]) (by simp [results, Tryz.results129, go_sem, x0, x1, x2, x3]) rfl ⟨rfl, ?_⟩
    have hB := unhide HB1
    (repeat (first | (with_reducible exact hB) | (with_reducible refine Below.drew ?_) | (with_reducible refine Below.setCell ?_ ?_ _; rotate_left; (first | exact Nat.le_refl _ | (simp; done) | (dsimp only; omega))) | (with_reducible refine Below.alloc ?_ ?_ _; rotate_left; (first | exact Nat.le_refl _ | omega | (simp [World.setCell]; omega)))))
  have h1 : rtA ms k = fT ms k := by unfold rtA; rw [if_pos hc]
  have h2 : rtE ms k = if hasT ms k = true then 0 else 5 := by unfold rtE; rw [if_pos hc]
  rw [h1, h2]
  have hok := code_ok hc
  have HC := hide hc
  have HU := hide (up_rou hok)
  have h8 := rou_len hok
  clear h1 h2 hc
  obtain ⟨qd, qn, qc, qh, hq⟩ : ∃ qd qn qc qh, fT ms k = ⟨qd, qn, qc, qh⟩ := ⟨_, _, _, _, rfl⟩
  have HQV : Hid ((fT ms k).value = .agg #[.int .i64 qd, .int .i64 qn, .int .i64 qc, .int .i64 qh]) := hide (by rw [hq]; rfl)
  rw [show (fT ms k).value = .agg #[.int .i64 qd, .int .i64 qn, .int .i64 qc, .int .i64 qh] from unhide HQV]
  have hd : (hasT ms k = true ∧ (qd == 0) = false) ∨ (hasT ms k = false ∧ qd = 0 ∧ qn = 0 ∧ qc = 0 ∧ qh = 0) := by
    cases hh : hasT ms k
    · have hz := fT_none hh
      rw [hq] at hz
      unfold R.zero at hz
      cases hz; exact .inr ⟨rfl, rfl, rfl, rfl, rfl⟩
    · obtain ⟨hm1, hm2⟩ := fT_mem hh
      have := ok_ad (rou_ok hok _ hm1)
      rw [hq] at this
      dsimp only at this
      exact .inl ⟨rfl, by simp; omega⟩
  clear hq hok
  rcases hd with ⟨hh, hz⟩ | ⟨hh, rfl, rfl, rfl, rfl⟩
  · rw [hh, if_pos rfl]
    clear hh
    go_enter Tryz.func129, Tryz.ntmps129
    go_wp2_with fail
    refine (routesCode1 _ ms cap _ hm (unhide HR)).mono ?_
    rintro e w1 ⟨rfl, b1⟩
    rw [unhide HC]
    have HB1 := hide ((unhide HA).trans (b1.mono (unhide HA).size))
    have HZ1 := hide ((unhide HZ).below b1)
    have HR1 := hide ((unhide HR).below b1)
    clear b1
    go_wp2_with fail
    refine (routeAt _ ms cap k _ (unhide HR1) (unhide HU) (by omega)).mono ?_
    rintro e w2 ⟨rfl, b2⟩
    rw [unhide HQV]
    have HB2 := hide ((unhide HB1).trans (b2.mono (unhide HB1).size))
    have HZ2 := hide ((unhide HZ1).below b2)
    have hlt2 := (unhide HZ2).lt
    have hne2 : ¬ w.heap.size = w2.heap.size := by omega
    clear b2
    obtain ⟨x0, x1, x2, x3⟩ := (unhide HZ2).cells
    have y0 := (unhide HZ2).free 0
    have y1 := (unhide HZ2).free 1
    have y2 := (unhide HZ2).free 2
    have y3 := (unhide HZ2).free 3
    unfold R.zero at x0 x1 x2 x3
    dsimp only at x0 x1 x2 x3
    go_wp2_with fail
    refine bodyPost_ret (v := .tuple #[.agg #[.int .i64 qd, .int .i64 qn, .int .i64 qc, .int .i64 qh], .int .i64 0]) (by simp [results, Tryz.results129, go_sem, x0, x1, x2, x3, hlt2, hne2]) rfl ⟨rfl, ?_⟩
    have hB := unhide HB2
    (repeat (first | (with_reducible exact hB) | (with_reducible refine Below.drew ?_) | (with_reducible refine Below.setCell ?_ ?_ _; rotate_left; (first | exact Nat.le_refl _ | (simp; done) | (dsimp only; omega))) | (with_reducible refine Below.alloc ?_ ?_ _; rotate_left; (first | exact Nat.le_refl _ | omega | (simp [World.setCell]; omega)))))
  · rw [hh, if_neg (by simp)]
    clear hh
    go_enter Tryz.func129, Tryz.ntmps129
    go_wp2_with fail
    refine (routesCode1 _ ms cap _ hm (unhide HR)).mono ?_
    rintro e w1 ⟨rfl, b1⟩
    rw [unhide HC]
    have HB1 := hide ((unhide HA).trans (b1.mono (unhide HA).size))
    have HZ1 := hide ((unhide HZ).below b1)
    have HR1 := hide ((unhide HR).below b1)
    clear b1
    go_wp2_with fail
    refine (routeAt _ ms cap k _ (unhide HR1) (unhide HU) (by omega)).mono ?_
    rintro e w2 ⟨rfl, b2⟩
    rw [unhide HQV]
    have HB2 := hide ((unhide HB1).trans (b2.mono (unhide HB1).size))
    have HZ2 := hide ((unhide HZ1).below b2)
    have hlt2 := (unhide HZ2).lt
    have hne2 : ¬ w.heap.size = w2.heap.size := by omega
    clear b2
    obtain ⟨x0, x1, x2, x3⟩ := (unhide HZ2).cells
    have y0 := (unhide HZ2).free 0
    have y1 := (unhide HZ2).free 1
    have y2 := (unhide HZ2).free 2
    have y3 := (unhide HZ2).free 3
    unfold R.zero at x0 x1 x2 x3
    dsimp only at x0 x1 x2 x3
    go_wp2_with fail
    refine bodyPost_ret (v := .tuple #[.agg #[.int .i64 0, .int .i64 0, .int .i64 0, .int .i64 0], .int .i64 5]) (by simp [results, Tryz.results129, go_sem, x0, x1, x2, x3, hlt2, hne2]) rfl ⟨rfl, ?_⟩
    have hB := unhide HB2
    (repeat (first | (with_reducible exact hB) | (with_reducible refine Below.drew ?_) | (with_reducible refine Below.setCell ?_ ?_ _; rotate_left; (first | exact Nat.le_refl _ | (simp; done) | (dsimp only; omega))) | (with_reducible refine Below.alloc ?_ ?_ _; rotate_left; (first | exact Nat.le_refl _ | omega | (simp [World.setCell]; omega)))))
end Rw
end Go.Proofs.YtfooahhdikobeaaGreat
namespace Go.Proofs.YtfooahhdikobeaaGreat
open Go.ChangeShapes Go.WideShapes Go.ChangeAt Go.RowKit
set_option linter.unusedVariables false
set_option linter.unusedSimpArgs false
set_option maxRecDepth 100000
attribute [local go_sem ↓] Go.wp_at_zero Go.wp_at_succ
namespace Wd
open W1 Ro Rw
/-- How two numbers compare; the first of several that is not 0. -/
def cmpV (x y : Int) : Int := if x < y then -1 else if y < x then 1 else 0
def orV : List Int → Int
  | [] => 0
  | x :: t => if x = 0 then orV t else x
theorem cmp_zero {x y : Int} : cmpV x y = 0 ↔ x = y := by
  unfold cmpV
  split
  · constructor <;> intro h <;> omega
  · split <;> constructor <;> intro h <;> omega
theorem cmp_neg {x y : Int} : cmpV x y < 0 ↔ x < y := by
  unfold cmpV
  split
  · constructor <;> intro h <;> omega
  · split <;> constructor <;> intro h <;> omega
theorem bt_cmp (x y : R) : decide (orV [cmpV x.co y.co, cmpV x.hp y.hp, cmpV x.nx y.nx] < 0) = btB x y := by
  simp only [orV, cmp_zero]
  rw [Bool.eq_iff_iff, decide_eq_true_eq, btB_iff]
  unfold Bt
  by_cases h1 : x.co = y.co
  · rw [if_pos h1]
    by_cases h2 : x.hp = y.hp
    · rw [if_pos h2]
      by_cases h3 : x.nx = y.nx
      · rw [if_pos h3]; omega
      · rw [if_neg h3, cmp_neg]; omega
    · rw [if_neg h2, cmp_neg]; omega
  · rw [if_neg h1, cmp_neg]; omega
set_option maxHeartbeats 1000000 in
theorem compare (x y : Int) (w : World) : Calls Tryz.prog 192 #[.int .i64 x, .int .i64 y] w fun e w' => e = .returned (.int .i64 (cmpV x y)) ∧ w' = w := by
  by_cases h1 : x < y
  · rw [show cmpV x y = -1 by unfold cmpV; rw [if_pos h1]]
    go_enter Tryz.func192, Tryz.ntmps192
    go_wp2
    go_ret
    exact ⟨rfl, rfl⟩
  by_cases h2 : y < x
  · rw [show cmpV x y = 1 by unfold cmpV; rw [if_neg h1, if_pos h2]]
    go_enter Tryz.func192, Tryz.ntmps192
    go_wp2
    go_ret
    exact ⟨rfl, rfl⟩
  · rw [show cmpV x y = 0 by unfold cmpV; rw [if_neg h1, if_neg h2]]
    go_enter Tryz.func192, Tryz.ntmps192
    go_wp2
    go_ret
    exact ⟨rfl, rfl⟩
theorem or_drop {zs : List Int} {j : Nat} (h : j < zs.length) : orV (zs.drop j) = if zs.getD j 0 = 0 then orV (zs.drop (j + 1)) else zs.getD j 0 := by
  rw [List.drop_eq_getElem_cons h, List.getD_eq_getElem?_getD, List.getElem?_eq_getElem h]; rfl
set_option maxHeartbeats 2000000 in
theorem cmpOr (a : Option Addr) (zs : List Int) (cap : Nat) (w : World) (hm : zs.length ≤ 64) (hr : In.RM w a zs) :
    Calls Tryz.prog 191 #[.slice a zs.length cap] w fun e w' => e = .returned (.int .i64 (orV zs)) ∧ w' = w := by
  have HR := hide hr
  clear hr
  generalize hN : zs.length = n at *
  have HN := hide hN
  clear hN
  go_enter Tryz.func191, Tryz.ntmps191
  go_wp2_with fail
  go_loopw [8] (fun i wr => w = wr ∧ ∃ j : Nat, j ≤ n ∧ i = .int .i64 j ∧ Hid (orV zs = orV (zs.drop j))) (fun i _ => n - (intOf i).toNat)
  case atStart => exact ⟨rfl, 0, by omega, rfl, hide rfl⟩
  case round =>
    obtain ⟨rfl, j, hj, rfl, ho⟩ := hrel
    by_cases hlt : (j : Int) < (n : Int)
    · have k0 : (0 : Int) ≤ (j : Int) := by omega
      have hlen : j < zs.length := by rw [unhide HN]; omega
      rcases unhide HR with e0 | ⟨g, off, rfl, hc⟩
      · exfalso; rw [e0] at hlen; simp at hlen
      have c0 := hc j hlen
      clear hc
      have HT := hide (or_drop hlen)
      generalize zs.getD j 0 = y at *
      by_cases hy : y = 0
      · have HE : Hid (orV zs = orV (zs.drop (j + 1))) := hide (by rw [unhide ho, unhide HT, if_pos hy])
        subst hy
        go_wp2_with fail
        go_roundw
        case rel => exact ⟨by first | trivial | rfl, j + 1, by omega, by go_num, HE⟩
        case measure => simp [intOf]; omega
      · have HE : Hid (y = orV zs) := hide (by rw [unhide ho, unhide HT, if_neg hy])
        have hy2 : (y != 0) = true := by simpa using hy
        go_wp2_with fail
        go_ret
        exact ⟨ret_int (unhide HE), rfl⟩
    · obtain rfl : j = n := by omega
      have HE : Hid (0 = orV zs) := hide (by have := unhide ho; rw [← unhide HN, List.drop_length] at this; exact this.symm)
      go_wp2_with fail
      go_ret
      exact ⟨ret_int (unhide HE), rfl⟩
theorem rm_new3 (w : World) (a b c : Int) : In.RM (w.alloc (.cells #[.int .i64 a, .int .i64 b, .int .i64 c] 3)) (some ⟨w.heap.size, 0, none⟩) [a, b, c] := by
  refine .inr ⟨_, _, rfl, fun i hi => ?_⟩
  rw [World.cell?_alloc_new]
  match i, hi with
  | 0, _ | 1, _ | 2, _ => rfl
  | n + 3, h => simp at h; omega
set_option maxRecDepth 100000 in
set_option maxHeartbeats 8000000 in
theorem isBetter (x y : R) (w : World) : Calls Tryz.prog 158 #[x.value, y.value] w fun e w' => e = .returned (.bool (btB x y)) ∧ Below w.heap.size w w' := by
  have HE := hide (bt_cmp x y)
  obtain ⟨xa, xn, xc, xh⟩ := x
  obtain ⟨ya, yn, yc, yh⟩ := y
  dsimp only at HE ⊢
  show Calls Tryz.prog 158 #[.agg #[.int .i64 xa, .int .i64 xn, .int .i64 xc, .int .i64 xh], .agg #[.int .i64 ya, .int .i64 yn, .int .i64 yc, .int .i64 yh]] w _
  have HBx := hide (bx_new w ⟨xa, xn, xc, xh⟩ 87)
  have HBy := hide (bx_new (w.alloc (.cells #[.int .i64 xa, .int .i64 xn, .int .i64 xc, .int .i64 xh] 87)) ⟨ya, yn, yc, yh⟩ 87)
  have P1 := hide ((Below.refl w.heap.size w).alloc (Nat.le_refl _) (.cells #[.int .i64 xa, .int .i64 xn, .int .i64 xc, .int .i64 xh] 87))
  have P2 := hide ((unhide P1).alloc (unhide P1).size (.cells #[.int .i64 ya, .int .i64 yn, .int .i64 yc, .int .i64 yh] 87))
  go_enter Tryz.func158, Tryz.ntmps158
  go_wp2_with fail
  have HX2 := hide ((unhide HBx).below ((Below.refl _ _).alloc (Nat.le_refl _) (.cells #[.int .i64 ya, .int .i64 yn, .int .i64 yc, .int .i64 yh] 87)))
  rw [World.size_alloc] at HBy
  generalize hw2 : (w.alloc (.cells #[.int .i64 xa, .int .i64 xn, .int .i64 xc, .int .i64 xh] 87)).alloc (.cells #[.int .i64 ya, .int .i64 yn, .int .i64 yc, .int .i64 yh] 87) = w2 at *
  clear hw2 P1 HBx
  have HS : Hid (∀ w', Below w2.heap.size w2 w' → w'.cell? ⟨w.heap.size, 1, none⟩ = some (.int .i64 xn) ∧ w'.cell? ⟨w.heap.size, 2, none⟩ = some (.int .i64 xc) ∧ w'.cell? ⟨w.heap.size, 3, none⟩ = some (.int .i64 xh) ∧ w'.cell? ⟨w.heap.size + 1, 1, none⟩ = some (.int .i64 yn) ∧ w'.cell? ⟨w.heap.size + 1, 2, none⟩ = some (.int .i64 yc) ∧ w'.cell? ⟨w.heap.size + 1, 3, none⟩ = some (.int .i64 yh)) := hide (fun w' hb => by
    obtain ⟨x0, x1, x2, x3⟩ := (unhide HX2).below hb
    obtain ⟨y0, y1, y2, y3⟩ := (unhide HBy).below hb
    exact ⟨x1, x2, x3, y1, y2, y3⟩)
  clear HX2 HBy
  have B2 : Below w2.heap.size w2 w2.drew := (Below.refl _ _).drew
  refine wp_region_noPanic ?_
  refine wp_region_held_drew (S := fun w' => w'.cell? ⟨w.heap.size, 1, none⟩ = some (.int .i64 xn) ∧ w'.cell? ⟨w.heap.size, 2, none⟩ = some (.int .i64 xc) ∧ w'.cell? ⟨w.heap.size, 3, none⟩ = some (.int .i64 xh) ∧ w'.cell? ⟨w.heap.size + 1, 1, none⟩ = some (.int .i64 yn) ∧ w'.cell? ⟨w.heap.size + 1, 2, none⟩ = some (.int .i64 yc) ∧ w'.cell? ⟨w.heap.size + 1, 3, none⟩ = some (.int .i64 yh)) (by kernel_rfl) (unhide HS _ B2) (fun hHeld => ?_)
  refine Rg.t 0 5 ?_
  refine Rg.t 1 6 ?_
  refine Rg.t 2 7 ?_
  refine Rg.t 3 8 ?_
  refine Rg.t 5 10 ?_
  refine Rg.t 6 11 ?_
  refine Rg.t 7 12 ?_
  refine Rg.t 8 13 ?_
  refine Rg.t 10 15 ?_
  refine Rg.t 11 16 ?_
  refine Rg.t 12 17 ?_
  refine Rg.t 13 18 ?_
  (refine Rg.o 4 (fun K hK => ?_); go_simp)
  refine (compare _ _ _).mono ?_
  rintro e v3 ⟨rfl, hv3⟩
  have B3 : Below w2.heap.size w2 v3 := by rw [hv3]; exact B2
  clear hv3 hHeld
  refine hK.out _ _ (unhide HS _ B3) (fun hHeld => ?_)
  clear hK K
  (try simp only [Act.put, List.setIfInBounds_toArray, List.set_cons_zero, List.set_cons_succ])
  (refine Rg.o 9 (fun K hK => ?_); go_simp)
  refine (compare _ _ _).mono ?_
  rintro e v4 ⟨rfl, hv4⟩
  have B4 : Below w2.heap.size w2 v4 := by rw [hv4]; exact B3
  clear hv4 hHeld
  refine hK.out _ _ (unhide HS _ B4) (fun hHeld => ?_)
  clear hK K
  (try simp only [Act.put, List.setIfInBounds_toArray, List.set_cons_zero, List.set_cons_succ])
  (refine Rg.o 14 (fun K hK => ?_); go_simp)
  refine (compare _ _ _).mono ?_
  rintro e v5 ⟨rfl, hv5⟩
  have B5 : Below w2.heap.size w2 v5 := by rw [hv5]; exact B4
  clear hv5 hHeld
  refine hK.out _ _ (unhide HS _ B5) (fun hHeld => ?_)
  clear hK K
  (try simp only [Act.put, List.setIfInBounds_toArray, List.set_cons_zero, List.set_cons_succ])
  (refine Rg.o 15 (fun K hK => ?_); go_simp)
  have B6 := B5.alloc B5.size (.cells #[.int .i64 (cmpV xc yc), .int .i64 (cmpV xh yh), .int .i64 (cmpV xn yn)] 3)
  have HRN := hide (rm_new3 v5 (cmpV xc yc) (cmpV xh yh) (cmpV xn yn))
  clear hHeld
  refine hK.out _ _ (unhide HS _ B6) (fun hHeld => ?_)
  clear hK K
  (try simp only [Act.put, List.setIfInBounds_toArray, List.set_cons_zero, List.set_cons_succ])
  (refine Rg.o 16 (fun K hK => ?_); go_simp)
  refine (cmpOr _ [_, _, _] _ _ (by simp) (unhide HRN)).mono ?_
  rintro e v7 ⟨rfl, hv7⟩
  have B7 : Below w2.heap.size w2 v7 := by rw [hv7]; exact B6
  clear hv7 hHeld
  refine hK.out _ _ (unhide HS _ B7) (fun hHeld => ?_)
  clear hK K
  (try simp only [Act.put, List.setIfInBounds_toArray, List.set_cons_zero, List.set_cons_succ])
  refine Rg.t 17 22 ?_
  refine Rg.t 18 4 ?_
  refine wpAnyH_done (by kernel_rfl) (NoPanic.normal ?_) _
  clear hHeld
  have HBF := hide ((unhide P2).trans (B7.mono (unhide P2).size))
  go_wp2_with fail
  go_ret
  exact ⟨ret_bool (unhide HE), unhide HBF⟩
set_option maxHeartbeats 4000000 in
theorem longer (x : R) (v c : Int) (w : World) (hc : 0 ≤ x.co ∧ x.co ≤ 1099511627776) (hh : 0 ≤ x.hp ∧ x.hp ≤ 1000) (hv : 0 ≤ c ∧ c ≤ 1099511627776) :
    Calls Tryz.prog 163 #[x.value, .int .i64 v, .int .i64 c] w fun e w' => e = .returned (ext x v c).value ∧ Below w.heap.size w w' := by
  obtain ⟨xa, xn, xc, xh⟩ := x
  dsimp only at hc hh
  show Calls Tryz.prog 163 #[.agg #[.int .i64 xa, .int .i64 xn, .int .i64 xc, .int .i64 xh], .int .i64 v, .int .i64 c] w _
  by_cases h0 : xh = 0
  · have e : (ext ⟨xa, xn, xc, xh⟩ v c).value = .agg #[.int .i64 v, .int .i64 v, .int .i64 (xc + c), .int .i64 (xh + 1)] := by unfold ext R.value; dsimp only; rw [if_pos h0]
    rw [e]
    have h0' : (xh == 0) = true := by simpa using h0
    clear e h0
    go_enter Tryz.func163, Tryz.ntmps163
    go_wp2_with fail
    refine bodyPost_ret (v := .agg #[.int .i64 v, .int .i64 v, .int .i64 (xc + c), .int .i64 (xh + 1)]) (by simp [results, Tryz.results163, go_sem]) rfl ⟨rfl, ((Below.refl _ _).alloc (Nat.le_refl _) _).alloc (by simp) _⟩
  · have e : (ext ⟨xa, xn, xc, xh⟩ v c).value = .agg #[.int .i64 v, .int .i64 xn, .int .i64 (xc + c), .int .i64 (xh + 1)] := by unfold ext R.value; dsimp only; rw [if_neg h0]
    rw [e]
    have h0' : (xh == 0) = false := by simpa using h0
    clear e h0
    go_enter Tryz.func163, Tryz.ntmps163
    go_wp2_with fail
    refine bodyPost_ret (v := .agg #[.int .i64 v, .int .i64 xn, .int .i64 (xc + c), .int .i64 (xh + 1)]) (by simp [results, Tryz.results163, go_sem]) rfl ⟨rfl, ((Below.refl _ _).alloc (Nat.le_refl _) _).alloc (by simp) _⟩
end Wd
end Go.Proofs.YtfooahhdikobeaaGreat
