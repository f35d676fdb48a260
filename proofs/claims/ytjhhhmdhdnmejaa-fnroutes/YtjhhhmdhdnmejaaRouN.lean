/-
  What a list of best ways tells: each route, its next hop, the edge there, and the rest of the way.
-/
import Derived.Test.YtjhhhmdhdnmejaaGphE
namespace Go.Proofs.Ytjhhhmdhdnmejaa
set_option linter.unusedVariables false
set_option linter.unusedSimpArgs false
namespace Wd
open W1 Ro Rw Tw
theorem ed_one {g : List Tu.R} (hs : St.setB g = true) {u v c c' : Int} (h : Ed g u v c) (h' : Ed g u v c') : c = c' := by
  obtain ⟨m, hm, e1, e2, e3⟩ := h
  obtain ⟨m', hm', e1', e2', e3'⟩ := h'
  obtain ⟨i, hi, rfl⟩ := List.getElem_of_mem hm
  obtain ⟨j, hj, rfl⟩ := List.getElem_of_mem hm'
  have hk : g[i].key = g[j].key := by rw [key_eq g[i], key_eq g[j], e1, e2, e1', e2']
  have gi : g.getD i Tu.R.zero = g[i] := by rw [List.getD_eq_getElem?_getD, List.getElem?_eq_getElem hi]; rfl
  have gj : g.getD j Tu.R.zero = g[j] := by rw [List.getD_eq_getElem?_getD, List.getElem?_eq_getElem hj]; rfl
  rcases Nat.lt_trichotomy i j with h | h | h
  · have := St.rises hs j i h hj; rw [gi, gj] at this; omega
  · subst h; rw [← e3, ← e3']
  · have := St.rises hs i j h hi; rw [gi, gj] at this; omega
theorem nx_edge {g : List Tu.R} {f : Int} {L : Int → Option R} (hp : Pos g) (hG : Good g f L) : ∀ n : Nat, ∀ v x, L v = some x → v ≠ f → x.co < n → ∃ c, Ed g f x.nx c := by
  intro n
  induction n with
  | zero => intro v x h hv hn; have := (hG.to v x h).2.1; omega
  | succ n ih =>
    intro v x h hv hn
    obtain ⟨u, y, c, hu, he, rfl⟩ := hG.from' v x h hv
    have hc := ed_pos hp he
    by_cases e : u = f
    · subst e
      rw [hG.own] at hu
      cases hu
      exact ⟨c, he⟩
    · have h1 := hp_one hG hu e
      have h2 := ih u y hu e (by unfold ext at hn; dsimp only at hn; omega)
      unfold ext; dsimp only; rw [if_neg (by omega)]; exact h2
theorem low {g : List Tu.R} (hs : St.setB g = true) {f : Int} {L : Int → Option R} (hp : Pos g) (hG : Good g f L) {k c : Int} (hk : Ed g f k c) {M : Int → Option R} (hM : Good g k M) :
    ∀ n : Nat, ∀ v x, L v = some x → v ≠ f → x.nx = k → x.co < n → ∃ z, M v = some z ∧ c + z.co ≤ x.co := by
  intro n
  induction n with
  | zero => intro v x h hv hx hn; have := (hG.to v x h).2.1; omega
  | succ n ih =>
    intro v x h hv hx hn
    obtain ⟨u, y, d, hu, he, rfl⟩ := hG.from' v x h hv
    have hd := ed_pos hp he
    by_cases e : u = f
    · subst e
      rw [hG.own] at hu
      cases hu
      have ev : v = k := hx
      subst ev
      refine ⟨_, hM.own, ?_⟩
      have := ed_one hs hk he
      unfold ext; dsimp only; omega
    · have h1 := hp_one hG hu e
      have hy : y.nx = k := by unfold ext at hx; dsimp only at hx; rw [if_neg (by omega)] at hx; exact hx
      obtain ⟨z, hz, hle⟩ := ih u y hu e hy (by unfold ext at hn; dsimp only at hn; omega)
      obtain ⟨z', hz', hb⟩ := hM.least u z v d hz he
      refine ⟨z', hz', ?_⟩
      unfold Bt ext at hb
      dsimp only at hb
      unfold ext; dsimp only; omega
theorem high {g : List Tu.R} {f : Int} {L : Int → Option R} (hp : Pos g) (hG : Good g f L) {k c : Int} (hk : Ed g f k c) {M : Int → Option R} (hM : Good g k M) :
    ∀ n : Nat, ∀ v z, M v = some z → z.co < n → ∃ x, L v = some x ∧ x.co ≤ c + z.co := by
  intro n
  induction n with
  | zero => intro v z h hn; have := (hM.to v z h).2.1; omega
  | succ n ih =>
    intro v z h hn
    by_cases e : v = k
    · subst e
      rw [hM.own] at h
      cases h
      obtain ⟨x, hx, hb⟩ := hG.least f _ v c hG.own hk
      refine ⟨x, hx, ?_⟩
      unfold Bt ext at hb
      dsimp only at hb ⊢
      omega
    · obtain ⟨u, y, d, hu, he, rfl⟩ := hM.from' v z h e
      have hd := ed_pos hp he
      obtain ⟨x, hx, hle⟩ := ih u y hu (by unfold ext at hn; dsimp only at hn; omega)
      obtain ⟨x', hx', hb⟩ := hG.least u x v d hx he
      refine ⟨x', hx', ?_⟩
      unfold Bt ext at hb
      dsimp only at hb
      unfold ext; dsimp only; omega
/-- A way is the edge to its next hop and the best way from there on. -/
theorem rou_sum {g : List Tu.R} (hg : graphB g = true) {f : Nat} (hf : 1 ≤ f ∧ f ≤ 8) {v : Int} {x : R} (h : best g (f : Int) v = some x) (hv : v ≠ (f : Int)) :
    (1 ≤ x.nx ∧ x.nx ≤ 8) ∧ x.nx ≠ (f : Int) ∧ ∃ c, Ed g (f : Int) x.nx c ∧ ∃ z, best g x.nx v = some z ∧ c + z.co = x.co := by
  obtain ⟨hG, _⟩ := fin_good hg hf
  have hp := graph_pos hg
  have h0 := (hG.to v x h).2.1
  obtain ⟨c, hc⟩ := nx_edge hp hG (x.co.toNat + 1) v x h hv (by omega)
  have hr := ed_rng (graph_two hg) hc
  obtain ⟨k, hk⟩ : ∃ k : Nat, x.nx = (k : Int) := ⟨x.nx.toNat, by omega⟩
  have hM : Good g x.nx (best g x.nx) := by rw [hk]; exact (fin_good hg (f := k) (by omega)).1
  obtain ⟨z, hz, hle⟩ := low (two_set (graph_two hg)) hp hG hc hM (x.co.toNat + 1) v x h hv rfl (by omega)
  have hz0 := (hM.to v z hz).2.1
  obtain ⟨x', hx', hle'⟩ := high hp hG hc hM (z.co.toNat + 1) v z hz (by omega)
  rw [h] at hx'
  cases hx'
  exact ⟨hr.2.1, fun e => hr.2.2.1 e.symm, c, hc, z, hz, by omega⟩
theorem find_edge {g : List Tu.R} (hg : graphB g = true) {u v c : Int} (he : Ed g u v c) : St.codeS g = 0 ∧ St.thereB g (100 * u + v) = true ∧ (g.getD (St.place g (100 * u + v)) Tu.R.zero).val = c := by
  have hs := two_set (graph_two hg)
  obtain ⟨m, hm, e1, e2, e3⟩ := he
  obtain ⟨i, hi, rfl⟩ := List.getElem_of_mem hm
  have gi : g.getD i Tu.R.zero = g[i] := by rw [List.getD_eq_getElem?_getD, List.getElem?_eq_getElem hi]; rfl
  have hk : (g.getD i Tu.R.zero).key = 100 * u + v := by rw [gi, key_eq g[i], e1, e2]
  have hpl := St.place_at hs hi
  rw [hk] at hpl
  refine ⟨?_, ?_, ?_⟩
  · have := St.setB_len hs; unfold St.codeS; rw [if_neg (by omega), if_pos hs]
  · unfold St.thereB; rw [hpl, decide_eq_true hi, decide_eq_true hk]; rfl
  · rw [hpl, gi]; exact e3
theorem mem_rou {g : List Tu.R} {f : Int} (hG : Good g f (best g f)) {y : R} : y ∈ rouL g f ↔ ∃ i : Nat, i < 8 ∧ best g f ((i : Int) + 1) = some y ∧ (i : Int) + 1 ≠ f := by
  unfold rouL waysL keptB
  rw [List.mem_filter, List.mem_map]
  constructor
  · rintro ⟨⟨i, hi, e⟩, hk⟩
    rw [List.mem_range] at hi
    simp only [Bool.and_eq_true, bne_iff_ne, ne_eq] at hk
    cases hb : best g f ((i : Int) + 1) with
    | none => rw [hb] at e; rw [← e] at hk; exact absurd rfl hk.1
    | some x =>
      rw [hb] at e
      have e' : x = y := e
      subst e'
      have hd := (hG.to _ x hb).1
      exact ⟨i, hi, hb, by rw [← hd]; exact hk.2⟩
  · rintro ⟨i, hi, hb, hne⟩
    have hd := (hG.to _ y hb).1
    refine ⟨⟨i, List.mem_range.2 hi, by rw [hb]; rfl⟩, ?_⟩
    simp only [Bool.and_eq_true, bne_iff_ne, ne_eq]
    exact ⟨by omega, by rw [hd]; exact hne⟩
theorem rou_up {g : List Tu.R} {f : Int} (hG : Good g f (best g f)) : UpT (rouL g f) := by
  unfold rouL waysL
  rw [UpT, List.pairwise_filter, List.pairwise_map]
  refine List.pairwise_lt_range.imp ?_
  intro i j hij h1 h2
  unfold keptB at h1 h2
  simp only [Bool.and_eq_true, bne_iff_ne, ne_eq] at h1 h2
  have key : ∀ i : Nat, (((best g f ((i : Int) + 1)).getD R.zero).ds ≠ 0) → ((best g f ((i : Int) + 1)).getD R.zero).ds = (i : Int) + 1 := by
    intro i h
    cases hb : best g f ((i : Int) + 1) with
    | none => rw [hb] at h; exact absurd rfl h
    | some x => exact (hG.to _ x hb).1
  rw [key i h1.1, key j h2.1]
  omega
theorem rou_of {ss : List R} (hu : UpT ss) (ho : ∀ s ∈ ss, okT s = true) : rouB ss = true := by
  unfold rouB allT Ri.all
  rw [List.all_eq_true]
  intro i hi
  rw [List.mem_range] at hi
  unfold Ri.step
  rw [getD_get hi, ho _ (List.getElem_mem hi), Bool.true_and]
  by_cases h0 : i = 0
  · rw [decide_eq_true h0, Bool.true_or]
  · have hp : i - 1 < ss.length := by omega
    rw [getD_get hp, decide_eq_true (List.pairwise_iff_getElem.1 hu (i - 1) i hp hi (by omega)), Bool.or_true]
theorem rou_right {g : List Tu.R} (hg : graphB g = true) {f : Nat} (hf : 1 ≤ f ∧ f ≤ 8) : rouB (rouL g (f : Int)) = true := by
  obtain ⟨hG, hok⟩ := fin_good hg hf
  refine rou_of (rou_up hG) (fun s hs => ?_)
  obtain ⟨i, hi, hb, hne⟩ := (mem_rou hG).1 hs
  have h1 := hok (i + 1) (by omega) (by omega) s (by rw [← hb]; congr 1)
  obtain ⟨hn, _, c, hc, z, hz, hsum⟩ := rou_sum hg hf hb hne
  have hp := ed_pos (graph_pos hg) hc
  have hh := hp_one hG hb hne
  obtain ⟨k, hk⟩ : ∃ k : Nat, s.nx = (k : Int) := ⟨s.nx.toNat, by omega⟩
  have hM : Good g s.nx (best g s.nx) := by rw [hk]; exact (fin_good hg (f := k) (by omega)).1
  have hz0 := (hM.to _ z hz).2.1
  unfold okN at h1
  unfold okT inB
  simp
  omega
/-- How many of the first addresses have a route. -/
noncomputable def nnR (g : List Tu.R) (f : Int) (j : Nat) : Nat := (((waysL g f).take j).filter (keptB f)).length
theorem nn_zero (g : List Tu.R) (f : Int) : nnR g f 0 = 0 := rfl
theorem nn_all (g : List Tu.R) (f : Int) : nnR g f 8 = (rouL g f).length := by
  unfold nnR rouL; rw [List.take_of_length_le (by rw [waysL_len]; exact Nat.le_refl _)]
theorem nn_le (g : List Tu.R) (f : Int) (j : Nat) : nnR g f j ≤ 8 := by
  unfold nnR
  have h1 := List.length_filter_le (keptB f) ((waysL g f).take j)
  have h2 := List.length_take_le' j (waysL g f)
  rw [waysL_len] at h2
  omega
theorem nn_step (g : List Tu.R) (f : Int) {j : Nat} (hj : j < 8) : nnR g f (j + 1) = nnR g f j + (if keptB f ((best g f ((j : Int) + 1)).getD R.zero) = true then 1 else 0) := by
  have hl : j < (waysL g f).length := by rw [waysL_len]; exact hj
  have e : (waysL g f)[j] = (best g f ((j : Int) + 1)).getD R.zero := by
    have := waysL_at g f hj
    unfold at' at this
    rw [List.getD_eq_getElem?_getD, List.getElem?_eq_getElem hl] at this
    exact this
  unfold nnR
  rw [List.take_add_one, List.getElem?_eq_getElem hl, List.filter_append, List.length_append, e]
  show _ + (List.filter (keptB f) [_]).length = _
  rw [List.filter_cons]
  split <;> rfl
theorem rou_case {g : List Tu.R} (hg : graphB g = true) {f : Nat} (hf : 1 ≤ f ∧ f ≤ 8) {j : Nat} (hj : j < 8) :
    (hasT (rouL g (f : Int)) ((j : Int) + 1) = false ∧ ((j : Int) + 1 = (f : Int) ∨ ((j : Int) + 1 ≠ (f : Int) ∧ dI g (f : Int) j < 0)) ∧ nnR g (f : Int) (j + 1) = nnR g (f : Int) j) ∨
    (∃ (x : R) (c : Int), hasT (rouL g (f : Int)) ((j : Int) + 1) = true ∧ fT (rouL g (f : Int)) ((j : Int) + 1) = x ∧ (j : Int) + 1 ≠ (f : Int) ∧ 0 ≤ dI g (f : Int) j ∧ x.co = dI g (f : Int) j ∧ (1 ≤ x.nx ∧ x.nx ≤ 8) ∧ x.nx ≠ (f : Int)
      ∧ St.dropE g (100 * (f : Int) + x.nx) = 0 ∧ (St.findA g (100 * (f : Int) + x.nx)).val = c ∧ c + dI g x.nx j = x.co ∧ nnR g (f : Int) (j + 1) = nnR g (f : Int) j + 1) := by
  obtain ⟨hG, _⟩ := fin_good hg hf
  have hn := nn_step g (f : Int) hj
  have hd := dst_at hG hj
  cases hb : best g (f : Int) ((j : Int) + 1) with
  | none =>
    rw [hb] at hn hd
    left
    have hne : (j : Int) + 1 ≠ (f : Int) := fun e => by rw [e, hG.own] at hb; cases hb
    refine ⟨?_, .inr ⟨hne, by rw [hd]; dsimp only; omega⟩, by rw [hn]; rfl⟩
    cases hh : hasT (rouL g (f : Int)) ((j : Int) + 1)
    · rfl
    · obtain ⟨s, hs, e⟩ := has_iff.1 hh
      obtain ⟨i, hi, hbi, _⟩ := (mem_rou hG).1 hs
      have := (hG.to _ s hbi).1
      rw [show (i : Int) + 1 = (j : Int) + 1 by omega, hb] at hbi
      cases hbi
  | some x =>
    rw [hb] at hn hd
    have hdx := (hG.to _ x hb).1
    by_cases e : (j : Int) + 1 = (f : Int)
    · left
      refine ⟨?_, .inl e, ?_⟩
      · cases hh : hasT (rouL g (f : Int)) ((j : Int) + 1)
        · rfl
        · obtain ⟨s, hs, e2⟩ := has_iff.1 hh
          obtain ⟨i, hi, hbi, hne⟩ := (mem_rou hG).1 hs
          have := (hG.to _ s hbi).1
          omega
      · rw [hn, if_neg]
        · rfl
        · unfold keptB; simp; omega
    · right
      have hmem : x ∈ rouL g (f : Int) := (mem_rou hG).2 ⟨j, hj, hb, e⟩
      have hh : hasT (rouL g (f : Int)) ((j : Int) + 1) = true := has_iff.2 ⟨x, hmem, hdx⟩
      have hft : fT (rouL g (f : Int)) ((j : Int) + 1) = x := by
        obtain ⟨h1, h2⟩ := fT_mem hh
        obtain ⟨i, hi, hbi, _⟩ := (mem_rou hG).1 h1
        have := (hG.to _ _ hbi).1
        rw [show (i : Int) + 1 = (j : Int) + 1 by omega, hb] at hbi
        exact (Option.some.inj hbi).symm
      obtain ⟨hnx, hnf, c, hc, z, hz, hsum⟩ := rou_sum hg hf hb e
      obtain ⟨f1, f2, f3⟩ := find_edge hg hc
      obtain ⟨k, hk⟩ : ∃ k : Nat, x.nx = (k : Int) := ⟨x.nx.toNat, by omega⟩
      have hM : Good g x.nx (best g x.nx) := by rw [hk]; exact (fin_good hg (f := k) (by omega)).1
      have hx0 := (hG.to _ x hb).2.1
      refine ⟨x, c, hh, hft, e, by rw [hd]; exact hx0, by rw [hd], hnx, hnf, ?_, ?_, ?_, ?_⟩
      · unfold St.dropE St.dropC; rw [if_pos f1, if_pos f2]
      · unfold St.findA; rw [if_pos ⟨f1, f2⟩]; exact f3
      · rw [dst_at hM hj, hz]; exact hsum
      · rw [hn, if_pos]
        show keptB _ x = true
        unfold keptB; simp; omega
end Wd
end Go.Proofs.Ytjhhhmdhdnmejaa
