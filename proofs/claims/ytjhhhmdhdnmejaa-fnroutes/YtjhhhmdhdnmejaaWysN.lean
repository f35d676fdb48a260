/-
  Mathematics of ways: the state of the program's search (what is known, in a list of eight; what lies open, in a heap), step by step.
-/
import Derived.Test.YtjhhhmdhdnmejaaGphA
namespace Go.Proofs.Ytjhhhmdhdnmejaa
set_option linter.unusedVariables false
set_option linter.unusedSimpArgs false
namespace Wd
open W1 Ro Tw
/-- What a list of eight tells: of an address its way, none where the route there is to nowhere. -/
def WL (ws : List R) (v : Int) : Option R := if 1 ≤ v ∧ v ≤ 8 then (if (at' ws (v - 1).toNat).ds = 0 then none else some (at' ws (v - 1).toNat)) else none
theorem wl_some {ws : List R} {v : Int} {x : R} (h : WL ws v = some x) : (1 ≤ v ∧ v ≤ 8) ∧ x = at' ws (v - 1).toNat ∧ x.ds ≠ 0 := by
  unfold WL at h
  split at h
  · split at h
    · cases h
    · cases h; exact ⟨by assumption, rfl, by assumption⟩
  · cases h
theorem wl_at {ws : List R} {v : Int} (hv : 1 ≤ v ∧ v ≤ 8) (h : (at' ws (v - 1).toNat).ds ≠ 0) : WL ws v = some (at' ws (v - 1).toNat) := by
  unfold WL; rw [if_pos hv, if_neg h]
theorem wl_none {ws : List R} {v : Int} (h : (at' ws (v - 1).toNat).ds = 0) : WL ws v = none := by
  unfold WL
  by_cases hv : 1 ≤ v ∧ v ≤ 8
  · rw [if_pos hv, if_pos h]
  · rw [if_neg hv]
theorem at_set {ws : List R} {i : Nat} {m : R} (h : i < ws.length) (k : Nat) : at' (ws.set i m) k = if k = i then m else at' ws k := by
  unfold at'
  simp only [List.getD_eq_getElem?_getD, List.getElem?_set]
  by_cases e : k = i
  · subst e; simp [h]
  · rw [if_neg (by omega), if_neg e]
theorem wl_set {ws : List R} (hl : ws.length = 8) {b : R} (hb : 1 ≤ b.ds ∧ b.ds ≤ 8) : WL (ws.set (b.ds - 1).toNat b) = upW (WL ws) b := by
  funext v
  unfold upW
  by_cases e : v = b.ds
  · rw [if_pos e]
    have h1 : at' (ws.set (b.ds - 1).toNat b) (v - 1).toNat = b := by rw [at_set (by omega), if_pos (by rw [e])]
    rw [wl_at (by omega) (by rw [h1]; omega), h1]
  · rw [if_neg e]
    unfold WL
    by_cases hv : 1 ≤ v ∧ v ≤ 8
    · have e1 : at' (ws.set (b.ds - 1).toNat b) (v - 1).toNat = at' ws (v - 1).toNat := by rw [at_set (by omega), if_neg (by omega)]
      rw [e1]
    · rw [if_neg hv, if_neg hv]
/-- The state of the search. -/
structure Sta (g : List Tu.R) (f : Int) (ws hs : List R) : Prop where
  len : ws.length = 8
  heap : Heap hs
  inv : Inv g f (WL ws) (fun x => x ∈ hs)
  okh : ∀ x ∈ hs, okN (cntW (WL ws)) x
  okw : ∀ v x, WL ws v = some x → okN (cntW (WL ws)) x
  size : hs.length ≤ 1 + 64 * cntW (WL ws)
  zero : ∀ i, i < 8 → (at' ws i).ds = 0 → at' ws i = R.zero
def zs8 : List R := [R.zero, R.zero, R.zero, R.zero, R.zero, R.zero, R.zero, R.zero]
theorem zs8_at (i : Nat) : at' zs8 i = R.zero := by
  unfold at' zs8
  match i with
  | 0 | 1 | 2 | 3 | 4 | 5 | 6 | 7 => rfl
  | n + 8 => simp
theorem zs8_wl (v : Int) : WL zs8 v = none := wl_none (by rw [zs8_at]; rfl)
theorem sta_start {g : List Tu.R} {f : Int} (hf : 1 ≤ f ∧ f ≤ 8) {hs : List R} (hh : Heap hs) (hl : hs.length = 1) (hm : ∀ y, y ∈ hs ↔ y = zl f) : Sta g f zs8 hs := by
  have hW : WL zs8 = fun _ => none := funext zs8_wl
  refine ⟨rfl, hh, ?_, fun x hx => ?_, fun v x h => ?_, by omega, fun i _ _ => zs8_at i⟩
  · rw [hW, show (fun x => x ∈ hs) = fun x => x = zl f from funext (fun x => propext (hm x))]
    exact inv_start g f
  · rw [(hm x).1 hx, cnt_none _ zs8_wl]; exact okN_zl hf
  · rw [zs8_wl] at h; cases h
theorem sta_top {g : List Tu.R} {f : Int} {ws hs : List R} (h : Sta g f ws hs) {b : R} (hb : b ∈ hs) : (1 ≤ b.ds ∧ b.ds ≤ 8) ∧ (0 ≤ b.co ∧ b.co ≤ 8589934592) ∧ (0 ≤ b.hp ∧ b.hp ≤ 8) := by
  have h1 := h.okh b hb
  have h2 := cnt_le (WL ws)
  unfold okN at h1
  refine ⟨by omega, by omega, by omega⟩
theorem sta_skip {g : List Tu.R} {f : Int} {ws hs hs' : List R} (h : Sta g f ws hs) {b : R} (hb : b ∈ hs) (hz : (at' ws (b.ds - 1).toNat).ds ≠ 0)
    (hh : Heap hs') (hl : hs'.length + 1 = hs.length) (h1 : ∀ y ∈ hs, y = b ∨ y ∈ hs') (h2 : ∀ y ∈ hs', y ∈ hs) : Sta g f ws hs' := by
  have hr := (sta_top h hb).1
  exact ⟨h.len, hh, inv_skip h.inv hb (wl_at hr hz) h1 h2, fun x hx => h.okh x (h2 x hx), h.okw, by have := h.size; omega, h.zero⟩
/-- What was pushed by the first j edges. -/
def psh (g : List Tu.R) (b : R) (j : Nat) (y : R) : Prop := ∃ m ∈ g.take j, hv m = b.ds ∧ y = ext b (ha m) m.val
theorem psh_zero (g : List Tu.R) (b y : R) : ¬ psh g b 0 y := by rintro ⟨m, hm, _⟩; simp at hm
theorem psh_yes {g : List Tu.R} {b : R} {j : Nat} (hj : j < g.length) (h : hv (g.getD j Tu.R.zero) = b.ds) (y : R) : psh g b (j + 1) y ↔ psh g b j y ∨ y = ext b (ha (g.getD j Tu.R.zero)) (g.getD j Tu.R.zero).val := by
  unfold psh
  rw [take_one hj]
  constructor
  · rintro ⟨m, hm, h1, h2⟩
    rcases List.mem_append.1 hm with hm | hm
    · exact .inl ⟨m, hm, h1, h2⟩
    · rw [List.mem_singleton] at hm; subst hm; exact .inr h2
  · rintro (⟨m, hm, h1, h2⟩ | e)
    · exact ⟨m, List.mem_append_left _ hm, h1, h2⟩
    · exact ⟨_, List.mem_append_right _ (List.mem_singleton.2 rfl), h, e⟩
theorem psh_no {g : List Tu.R} {b : R} {j : Nat} (hj : j < g.length) (h : hv (g.getD j Tu.R.zero) ≠ b.ds) (y : R) : psh g b (j + 1) y ↔ psh g b j y := by
  unfold psh
  rw [take_one hj]
  constructor
  · rintro ⟨m, hm, h1, h2⟩
    rcases List.mem_append.1 hm with hm | hm
    · exact ⟨m, hm, h1, h2⟩
    · rw [List.mem_singleton] at hm; subst hm; exact absurd h1 h
  · rintro ⟨m, hm, h1, h2⟩
    exact ⟨m, List.mem_append_left _ hm, h1, h2⟩
theorem psh_all {g : List Tu.R} {b y : R} : psh g b g.length y ↔ ∃ c, Ed g b.ds y.ds c ∧ y = ext b y.ds c := by
  unfold psh Ed
  rw [List.take_length]
  constructor
  · rintro ⟨m, hm, h1, h2⟩
    have e : y.ds = ha m := by rw [h2]; rfl
    exact ⟨m.val, ⟨m, hm, h1, e.symm, rfl⟩, by rw [e]; exact h2⟩
  · rintro ⟨c, ⟨m, hm, h1, h2, h3⟩, h4⟩
    exact ⟨m, hm, h1, by rw [h2, h3]; exact h4⟩
theorem sta_new {g : List Tu.R} (hg : graphB g = true) {f : Int} {ws hs hs' hs2 : List R} (h : Sta g f ws hs) {b : R} (hb : b ∈ hs) (hmin : ∀ y ∈ hs, ¬ Bt y b) (hz : (at' ws (b.ds - 1).toNat).ds = 0)
    (hl : hs'.length + 1 = hs.length) (h1 : ∀ y ∈ hs, y = b ∨ y ∈ hs') (h2 : ∀ y ∈ hs', y ∈ hs)
    (hh2 : Heap hs2) (hl2 : hs2.length ≤ hs'.length + g.length) (hm : ∀ y, y ∈ hs2 ↔ y ∈ hs' ∨ psh g b g.length y) : Sta g f (ws.set (b.ds - 1).toNat b) hs2 := by
  have hr := (sta_top h hb).1
  have hn : WL ws b.ds = none := wl_none hz
  have hp := graph_pos hg
  have ht := graph_two hg
  have hW := wl_set h.len hr
  have hc : cntW (WL (ws.set (b.ds - 1).toNat b)) = cntW (WL ws) + 1 := by rw [hW]; exact cnt_up hr.1 hr.2 hn
  have hob := h.okh b hb
  refine ⟨by rw [List.length_set]; exact h.len, hh2, ?_, fun x hx => ?_, fun v x hv => ?_, ?_, fun i hi h0 => ?_⟩
  · rw [hW]
    refine inv_new hp h.inv hb hn hmin (fun x hx => ?_) (fun x hx => ?_) (fun v c he => ?_)
    · rcases (hm x).1 hx with hx | hx
      · exact .inl (h2 x hx)
      · exact .inr (psh_all.1 hx)
    · rcases h1 x hx with e | hx'
      · exact .inl e
      · exact .inr (.inr ⟨x, (hm x).2 (.inl hx'), rfl, no_self _⟩)
    · refine .inl ⟨ext b v c, (hm _).2 (.inr (psh_all.2 ⟨c, he, rfl⟩)), rfl, no_self _⟩
  · rw [hc]
    rcases (hm x).1 hx with hx | hx
    · exact okN_mono (by omega) (h.okh x (h2 x hx))
    · obtain ⟨c, he, e⟩ := psh_all.1 hx
      have hrn := ed_rng ht he
      rw [e]
      exact okN_ext hob hrn.2.1 hrn.2.2.2
  · rw [hc]
    rw [hW] at hv
    unfold upW at hv
    split at hv
    · cases hv; exact okN_mono (by omega) hob
    · exact okN_mono (by omega) (h.okw v x hv)
  · rw [hc]
    have := two_len ht
    have := h.size
    omega
  · rw [at_set (by rw [h.len]; omega)] at h0 ⊢
    split at h0
    · omega
    · rename_i e; rw [if_neg e]; exact h.zero i hi h0
/-- The best ways as a list of eight. -/
noncomputable def waysL (g : List Tu.R) (f : Int) : List R := (List.range 8).map (fun i : Nat => (best g f ((i : Int) + 1)).getD R.zero)
theorem waysL_len (g : List Tu.R) (f : Int) : (waysL g f).length = 8 := by unfold waysL; simp
theorem waysL_at (g : List Tu.R) (f : Int) {i : Nat} (h : i < 8) : at' (waysL g f) i = (best g f ((i : Int) + 1)).getD R.zero := by
  unfold at' waysL
  rw [List.getD_eq_getElem?_getD, List.getElem?_map, List.getElem?_range h]; rfl
theorem ext_at {xs ys : List R} (hx : xs.length = 8) (hy : ys.length = 8) (h : ∀ i, i < 8 → at' xs i = at' ys i) : xs = ys := by
  apply List.ext_getElem (by rw [hx, hy])
  intro i h1 h2
  have := h i (by omega)
  unfold at' at this
  rw [List.getD_eq_getElem?_getD, List.getD_eq_getElem?_getD, List.getElem?_eq_getElem h1, List.getElem?_eq_getElem h2] at this
  exact this
theorem sta_good {g : List Tu.R} {f : Int} {ws : List R} (h : Sta g f ws []) : Good g f (WL ws) := inv_done h.inv (fun x hx => by cases hx)
theorem sta_done {g : List Tu.R} (hg : graphB g = true) {f : Int} {ws : List R} (h : Sta g f ws []) : ws = waysL g f ∧ Good g f (best g f) ∧ ∀ v x, best g f v = some x → (1 ≤ v ∧ v ≤ 8) ∧ okN 8 x := by
  have hG := sta_good h
  have e := best_is (graph_pos hg) hG
  refine ⟨ext_at h.len (waysL_len g f) (fun i hi => ?_), by rw [← e]; exact hG, fun v x hx => ?_⟩
  · rw [waysL_at g f hi, ← e]
    have hi' : ((i : Int) + 1 - 1).toNat = i := by omega
    by_cases h0 : (at' ws i).ds = 0
    · rw [wl_none (by rw [hi']; exact h0), h.zero i hi h0]; rfl
    · rw [wl_at (by omega) (by rw [hi']; exact h0), hi']; rfl
  · rw [← e] at hx
    exact ⟨(wl_some hx).1, okN_mono (cnt_le _) (h.okw v x hx)⟩
end Wd
end Go.Proofs.Ytjhhhmdhdnmejaa
