/-
  The theorem of shortest ways, for lists of distances: no edge is a shorter way, each way ends with an edge.
-/
import Derived.Test.YtjhhhmdhdnmejaaSpcC
namespace Go.Proofs.Ytjhhhmdhdnmejaa
set_option linter.unusedVariables false
set_option linter.unusedSimpArgs false
namespace Wd
open W1 Ro Rw Tw
theorem fin_end {g : List Tu.R} (hg : graphB g = true) {f : Int} {bs : List R} {ds : List Bool} (h : StM g f bs ds) (h0 : pk bs ds 8 = 0) :
    Good g f (best g f) ∧ ∀ a : Nat, 1 ≤ a → a ≤ 8 → ∀ x, best g f (a : Int) = some x → okN 8 x := by
  obtain ⟨e, hG⟩ := stm_done hg h h0
  refine ⟨hG, fun a h1 h8 x hx => ?_⟩
  have ea : at' bs a = x := by rw [e, mdl_at g f (by omega), if_neg (by omega), hx]; rfl
  have hc := (hG.to _ x hx).2.1
  have := h.ok a h1 h8 (by rw [ea]; exact hc)
  rw [ea] at this
  exact okN_mono (cnt_le _) this
theorem fin_good {g : List Tu.R} (hg : graphB g = true) {f : Nat} (hf : 1 ≤ f ∧ f ≤ 8) :
    Good g (f : Int) (best g (f : Int)) ∧ ∀ a : Nat, 1 ≤ a → a ≤ 8 → ∀ x, best g (f : Int) (a : Int) = some x → okN 8 x := by
  have key : ∀ (n : Nat) (bs : List R) (ds : List Bool), 8 - cntW (WM bs ds) ≤ n → StM g (f : Int) bs ds → (Good g (f : Int) (best g (f : Int)) ∧ ∀ a : Nat, 1 ≤ a → a ≤ 8 → ∀ x, best g (f : Int) (a : Int) = some x → okN 8 x) := by
    intro n
    induction n with
    | zero =>
      intro bs ds hc hs
      by_cases h0 : pk bs ds 8 = 0
      · exact fin_end hg hs h0
      · obtain ⟨_, h2⟩ := stm_step hg hs rfl h0
        have := cnt_le (WM (rl g (at' bs (pk bs ds 8)) (ds.set (pk bs ds 8) true) bs g.length) (ds.set (pk bs ds 8) true))
        omega
    | succ n ih =>
      intro bs ds hc hs
      by_cases h0 : pk bs ds 8 = 0
      · exact fin_end hg hs h0
      · obtain ⟨h1, h2⟩ := stm_step hg hs rfl h0
        exact ih _ _ (by omega) h1
  exact key 8 _ _ (by omega) (stm_start hf)
/-- The i-th distance. -/
noncomputable def dI (g : List Tu.R) (f : Int) (i : Nat) : Int := (dstL g f).getD i 0
theorem dst_at {g : List Tu.R} {f : Int} (hG : Good g f (best g f)) {i : Nat} (hi : i < 8) : dI g f i = match best g f ((i : Int) + 1) with
    | none => -1
    | some x => x.co := by
  have hl : i < (waysL g f).length := by rw [waysL_len]; exact hi
  have e1 : dI g f i = dstV (at' (waysL g f) i) := by
    unfold dI dstL at'
    rw [List.getD_eq_getElem?_getD, List.getElem?_map, List.getElem?_eq_getElem hl, List.getD_eq_getElem?_getD, List.getElem?_eq_getElem hl]; rfl
  rw [e1, waysL_at g f hi]
  cases hb : best g f ((i : Int) + 1) with
  | none => rfl
  | some x =>
    have hd := (hG.to _ x hb).1
    show dstV x = x.co
    unfold dstV
    rw [if_neg (by omega)]
theorem dst_own {g : List Tu.R} {f : Int} (hG : Good g f (best g f)) {i : Nat} (hi : i < 8) (e : f = (i : Int) + 1) : dI g f i = 0 := by
  rw [dst_at hG hi, ← e, hG.own]
theorem dst_lim {g : List Tu.R} {f : Nat} (hg : graphB g = true) (hf : 1 ≤ f ∧ f ≤ 8) {i : Nat} (hi : i < 8) : -1 ≤ dI g (f : Int) i ∧ dI g (f : Int) i ≤ 8589934592 := by
  obtain ⟨hG, hok⟩ := fin_good hg hf
  rw [dst_at hG hi]
  cases hb : best g (f : Int) ((i : Int) + 1) with
  | none => dsimp only; omega
  | some x =>
    have h1 := hok (i + 1) (by omega) (by omega) x (by rw [← hb]; congr 1)
    unfold okN at h1
    dsimp only; omega
theorem dij_edge {g : List Tu.R} {f : Int} (hG : Good g f (best g f)) {m : Tu.R} (hm : m ∈ g) {x y : Nat} (hx : hv m = (x : Int) + 1) (hy : ha m = (y : Int) + 1) (x8 : x < 8) (y8 : y < 8) (h0 : 0 ≤ dI g f x) :
    0 ≤ dI g f y ∧ dI g f y ≤ dI g f x + m.val := by
  rw [dst_at hG x8] at h0 ⊢
  rw [dst_at hG y8]
  cases hb : best g f ((x : Int) + 1) with
  | none => rw [hb] at h0; dsimp only at h0; omega
  | some p =>
    obtain ⟨z, hz, hn⟩ := hG.least _ p _ m.val hb ⟨m, hm, hx, hy, rfl⟩
    rw [hz]
    dsimp only
    have := (hG.to _ z hz).2.1
    unfold Bt ext at hn
    dsimp only at hn
    omega
theorem dij_last {g : List Tu.R} {f : Int} (hg : graphB g = true) (hG : Good g f (best g f)) {v : Nat} (v8 : v < 8) (h0 : 0 ≤ dI g f v) (hne : (v : Int) + 1 ≠ f) :
    ∃ (i : Nat) (x : Nat), i < g.length ∧ x < 8 ∧ hv (g.getD i Tu.R.zero) = (x : Int) + 1 ∧ ha (g.getD i Tu.R.zero) = (v : Int) + 1 ∧ 0 ≤ dI g f x ∧ dI g f x + (g.getD i Tu.R.zero).val = dI g f v := by
  rw [dst_at hG v8] at h0
  cases hb : best g f ((v : Int) + 1) with
  | none => rw [hb] at h0; dsimp only at h0; omega
  | some z =>
    obtain ⟨u, p, c, hu, ⟨m, hm, h1, h2, h3⟩, hz⟩ := hG.from' _ z hb hne
    obtain ⟨i, hi, e⟩ := List.getElem_of_mem hm
    have ed : g.getD i Tu.R.zero = m := by rw [List.getD_eq_getElem?_getD, List.getElem?_eq_getElem hi, e]; rfl
    have hk := ok_k (two_ok (graph_two hg) m hm)
    have hxx : hv m = ((hv m - 1).toNat : Int) + 1 := by omega
    refine ⟨i, (hv m - 1).toNat, hi, by omega, by rw [ed]; exact hxx, by rw [ed]; exact h2, ?_, ?_⟩
    · rw [dst_at hG (by omega), ← hxx, h1, hu]; exact (hG.to _ p hu).2.1
    · rw [ed, dst_at hG (by omega), ← hxx, h1, hu, dst_at hG v8, hb, hz, h3]; rfl
/-- Whether one of the first edges ends the way. -/
noncomputable def cndD (g : List Tu.R) (f : Int) (v : Nat) (m : Tu.R) : Bool := (m.key % 100 - 1 == (v : Int)) && (decide (0 ≤ dI g f (m.key / 100 - 1).toNat) && (dI g f (m.key / 100 - 1).toNat + m.val == dI g f v))
noncomputable def fnd (g : List Tu.R) (f : Int) (v : Nat) : Nat → Bool
  | 0 => false
  | i + 1 => fnd g f v i || cndD g f v (g.getD i Tu.R.zero)
theorem fnd_has {g : List Tu.R} {f : Int} {v i : Nat} (h : cndD g f v (g.getD i Tu.R.zero) = true) : ∀ n, i < n → fnd g f v n = true := by
  intro n
  induction n with
  | zero => intro h; omega
  | succ n ih =>
    intro hn
    unfold fnd
    by_cases e : i = n
    · rw [← e, h, Bool.or_true]
    · rw [ih (by omega), Bool.true_or]
theorem fnd_all {g : List Tu.R} {f : Int} (hg : graphB g = true) (hG : Good g f (best g f)) {v : Nat} (v8 : v < 8) (h0 : 0 ≤ dI g f v) (hne : (v : Int) + 1 ≠ f) : fnd g f v g.length = true := by
  obtain ⟨i, x, hi, x8, h1, h2, h3, h4⟩ := dij_last hg hG v8 h0 hne
  refine fnd_has (i := i) ?_ _ hi
  have hb := St.ok_bounds (St.setB_ok (two_set (graph_two hg)) hi)
  unfold hv at h1
  unfold ha at h2
  rw [Int.tdiv_eq_ediv_of_nonneg hb.1] at h1
  rw [Int.tmod_eq_emod_of_nonneg hb.1] at h2
  unfold cndD
  have e1 : ((g.getD i Tu.R.zero).key / 100 - 1).toNat = x := by omega
  rw [e1, decide_eq_true h3]
  simp only [Bool.true_and, Bool.and_eq_true, beq_iff_eq]
  exact ⟨by omega, h4⟩
end Wd
end Go.Proofs.Ytjhhhmdhdnmejaa
