/-
  Mathematics of ways: the state of the model's search (nine routes, nine marks), step by step; what it comes to.
-/
import Derived.Test.YtjhhhmdhdnmejaaWysN
namespace Go.Proofs.Ytjhhhmdhdnmejaa
set_option linter.unusedVariables false
set_option linter.unusedSimpArgs false
namespace Wd
open W1 Ro Tw
/-- A mark; whose way is known; what lies open. -/
def dn (ds : List Bool) (a : Nat) : Bool := ds.getD a false
def WM (bs : List R) (ds : List Bool) (v : Int) : Option R := if 1 ≤ v ∧ v ≤ 8 then (if dn ds v.toNat = true then some (at' bs v.toNat) else none) else none
def opn (bs : List R) (ds : List Bool) (a : Nat) : Prop := dn ds a = false ∧ 0 ≤ (at' bs a).co
def HM (bs : List R) (ds : List Bool) (x : R) : Prop := ∃ a, 1 ≤ a ∧ a ≤ 8 ∧ opn bs ds a ∧ x = at' bs a
def nul (a : Nat) : R := ⟨(a : Int), 0, -1, 0⟩
theorem dn_set {ds : List Bool} {k : Nat} (h : k < ds.length) (a : Nat) : dn (ds.set k true) a = if a = k then true else dn ds a := by
  unfold dn
  simp only [List.getD_eq_getElem?_getD, List.getElem?_set]
  by_cases e : a = k
  · subst e; simp [h]
  · rw [if_neg (by omega), if_neg e]
theorem wm_some {bs : List R} {ds : List Bool} {v : Int} {x : R} (h : WM bs ds v = some x) : (1 ≤ v ∧ v ≤ 8) ∧ dn ds v.toNat = true ∧ x = at' bs v.toNat := by
  unfold WM at h
  split at h
  · split at h
    · cases h; exact ⟨by assumption, by assumption, rfl⟩
    · cases h
  · cases h
theorem wm_at {bs : List R} {ds : List Bool} {a : Nat} (h1 : 1 ≤ a) (h8 : a ≤ 8) (h : dn ds a = true) : WM bs ds (a : Int) = some (at' bs a) := by
  unfold WM; rw [if_pos (by omega), Int.toNat_natCast, if_pos h]
theorem wm_none {bs : List R} {ds : List Bool} {a : Nat} (h : dn ds a = false) : WM bs ds (a : Int) = none := by
  unfold WM; rw [Int.toNat_natCast, h]; simp
/-- The state of the model's search. -/
structure StM (g : List Tu.R) (f : Int) (bs : List R) (ds : List Bool) : Prop where
  len : bs.length = 9
  len' : ds.length = 9
  tag : ∀ a : Nat, a ≤ 8 → (at' bs a).ds = (a : Int)
  neg : ∀ a : Nat, a ≤ 8 → (at' bs a).co < 0 → at' bs a = nul a
  nut : at' bs 0 = nul 0
  inv : Inv g f (WM bs ds) (HM bs ds)
  ok : ∀ a : Nat, 1 ≤ a → a ≤ 8 → 0 ≤ (at' bs a).co → okN (cntW (WM bs ds)) (at' bs a)
  dco : ∀ a : Nat, 1 ≤ a → a ≤ 8 → dn ds a = true → 0 ≤ (at' bs a).co
def bs9 (j : Nat) : List R := (List.range 9).map (fun a => if a < j then nul a else R.zero)
def fs9 : List Bool := [false, false, false, false, false, false, false, false, false]
theorem bs9_len (j : Nat) : (bs9 j).length = 9 := by unfold bs9; simp
theorem bs9_at {j a : Nat} (h : a < 9) : at' (bs9 j) a = if a < j then nul a else R.zero := by
  unfold at' bs9; rw [List.getD_eq_getElem?_getD, List.getElem?_map, List.getElem?_range h]; rfl
theorem at_ext {xs ys : List R} (hx : xs.length = ys.length) (h : ∀ i, i < xs.length → at' xs i = at' ys i) : xs = ys := by
  apply List.ext_getElem hx
  intro i h1 h2
  have := h i h1
  unfold at' at this
  rw [List.getD_eq_getElem?_getD, List.getD_eq_getElem?_getD, List.getElem?_eq_getElem h1, List.getElem?_eq_getElem h2] at this
  exact this
theorem bs9_step {j : Nat} (h : j < 9) : (bs9 j).set j (nul j) = bs9 (j + 1) := by
  refine at_ext (by rw [List.length_set, bs9_len, bs9_len]) (fun i hi => ?_)
  rw [List.length_set, bs9_len] at hi
  rw [at_set (by rw [bs9_len]; exact h), bs9_at hi, bs9_at hi]
  by_cases e : i = j
  · subst e; rw [if_pos rfl, if_pos (by omega)]
  · rw [if_neg e]
    by_cases e2 : i < j
    · rw [if_pos e2, if_pos (by omega)]
    · rw [if_neg e2, if_neg (by omega)]
theorem fs9_dn (a : Nat) : dn fs9 a = false := by
  unfold dn fs9
  match a with
  | 0 | 1 | 2 | 3 | 4 | 5 | 6 | 7 | 8 => rfl
  | n + 9 => simp
/-- At the beginning: all at -1 but one's own, at 0. -/
def bsF (f : Nat) : List R := (bs9 9).set f ⟨(f : Int), 0, 0, 0⟩
theorem bsF_at {f a : Nat} (hf : f < 9) (h : a < 9) : at' (bsF f) a = if a = f then zl (f : Int) else nul a := by
  unfold bsF; rw [at_set (by rw [bs9_len]; exact hf), bs9_at h, if_pos h]; rfl
theorem stm_start {g : List Tu.R} {f : Nat} (hf : 1 ≤ f ∧ f ≤ 8) : StM g (f : Int) (bsF f) fs9 := by
  have hW : WM (bsF f) fs9 = fun _ => none := funext (fun v => by unfold WM; rw [fs9_dn]; simp)
  have hH : HM (bsF f) fs9 = fun x => x = zl (f : Int) := funext (fun x => propext ⟨fun ⟨a, h1, h8, ho, e⟩ => by
      rw [bsF_at (by omega) (by omega)] at e
      by_cases ha : a = f
      · rw [if_pos ha] at e; exact e
      · have := ho.2; rw [bsF_at (by omega) (by omega), if_neg ha] at this; unfold nul at this; dsimp only at this; omega,
    fun e => ⟨f, hf.1, hf.2, ⟨fs9_dn f, by rw [bsF_at (by omega) (by omega), if_pos rfl]; exact Int.le_refl _⟩, by rw [bsF_at (by omega) (by omega), if_pos rfl]; exact e⟩⟩)
  refine ⟨by unfold bsF; rw [List.length_set, bs9_len], rfl, fun a ha => ?_, fun a ha h => ?_, ?_, ?_, fun a h1 h8 h => ?_, fun a _ _ h => ?_⟩
  · rw [bsF_at (by omega) (by omega)]; split
    · rename_i e; subst e; rfl
    · rfl
  · rw [bsF_at (by omega) (by omega)] at h ⊢
    split at h
    · unfold zl at h; dsimp only at h; omega
    · rename_i e; rw [if_neg e]
  · rw [bsF_at (by omega) (by omega), if_neg (by omega)]
  · rw [hW, hH]; exact inv_start g _
  · rw [bsF_at (by omega) (by omega)] at h ⊢
    by_cases e : a = f
    · rw [if_pos e]; exact okN_mono (by omega) (okN_zl (by omega))
    · rw [if_neg e] at h; unfold nul at h; dsimp only at h; omega
  · rw [fs9_dn] at h; cases h
/-- The best that lies open, the first of such, of the first j. -/
def canB (bs : List R) (ds : List Bool) (k a : Nat) : Bool := !dn ds a && decide (0 ≤ (at' bs a).co) && (k == 0 || btB (at' bs a) (at' bs k))
def pk (bs : List R) (ds : List Bool) : Nat → Nat
  | 0 => 0
  | a + 1 => if canB bs ds (pk bs ds a) (a + 1) = true then a + 1 else pk bs ds a
theorem pk_le (bs : List R) (ds : List Bool) : ∀ j, pk bs ds j ≤ j
  | 0 => Nat.le_refl _
  | j + 1 => by unfold pk; split; exact Nat.le_refl _; have := pk_le bs ds j; omega
theorem can_iff {bs : List R} {ds : List Bool} {k a : Nat} : canB bs ds k a = true ↔ opn bs ds a ∧ (k = 0 ∨ Bt (at' bs a) (at' bs k)) := by
  unfold canB opn
  rw [Bool.and_eq_true, Bool.and_eq_true, Bool.or_eq_true, btB_iff]
  simp
theorem pk_spec (bs : List R) (ds : List Bool) : ∀ j, (pk bs ds j = 0 ∧ ∀ a, 1 ≤ a → a ≤ j → ¬ opn bs ds a) ∨ (1 ≤ pk bs ds j ∧ opn bs ds (pk bs ds j) ∧ ∀ a, 1 ≤ a → a ≤ j → opn bs ds a → ¬ Bt (at' bs a) (at' bs (pk bs ds j)))
  | 0 => .inl ⟨rfl, fun a h1 h2 => by omega⟩
  | j + 1 => by
    have ih := pk_spec bs ds j
    have hlast : ∀ a, a ≤ j + 1 → a = j + 1 ∨ a ≤ j := fun a h => by omega
    unfold pk
    by_cases hc : canB bs ds (pk bs ds j) (j + 1) = true
    · rw [if_pos hc]
      obtain ⟨ho, hb⟩ := can_iff.1 hc
      refine .inr ⟨by omega, ho, fun a h1 h2 hoa => ?_⟩
      rcases hlast a h2 with rfl | h2
      · exact no_self _
      · rcases ih with ⟨h0, hn⟩ | ⟨h0, ho', hm⟩
        · exact absurd hoa (hn a h1 h2)
        · rcases hb with e | hb
          · omega
          · exact no_trans (bt_no hb) (hm a h1 h2 hoa)
    · rw [if_neg hc]
      have hc' : ¬ (opn bs ds (j + 1) ∧ (pk bs ds j = 0 ∨ Bt (at' bs (j + 1)) (at' bs (pk bs ds j)))) := fun h => hc (can_iff.2 h)
      rcases ih with ⟨h0, hn⟩ | ⟨h0, ho', hm⟩
      · refine .inl ⟨h0, fun a h1 h2 hoa => ?_⟩
        rcases hlast a h2 with rfl | h2
        · exact hc' ⟨hoa, .inl h0⟩
        · exact hn a h1 h2 hoa
      · refine .inr ⟨h0, ho', fun a h1 h2 hoa => ?_⟩
        rcases hlast a h2 with rfl | h2
        · exact fun hb => hc' ⟨hoa, .inr hb⟩
        · exact hm a h1 h2 hoa
/-- What the first j edges make of the routes. -/
def betB (bs : List R) (ds : List Bool) (x : R) (a : Nat) : Bool := !dn ds a && (decide ((at' bs a).co < 0) || btB x (at' bs a))
def rl1 (b : R) (ds : List Bool) (B : List R) (m : Tu.R) : List R := if hv m = b.ds ∧ betB B ds (ext b (ha m) m.val) (ha m).toNat = true then B.set (ha m).toNat (ext b (ha m) m.val) else B
def rl (g : List Tu.R) (b : R) (ds : List Bool) (bs : List R) : Nat → List R
  | 0 => bs
  | j + 1 => rl1 b ds (rl g b ds bs j) (g.getD j Tu.R.zero)
theorem bet_iff {bs : List R} {ds : List Bool} {x : R} {a : Nat} : betB bs ds x a = true ↔ dn ds a = false ∧ ((at' bs a).co < 0 ∨ Bt x (at' bs a)) := by
  unfold betB; rw [Bool.and_eq_true, Bool.or_eq_true, btB_iff]; simp
structure RlI (g : List Tu.R) (b : R) (ds : List Bool) (bs B : List R) (j : Nat) : Prop where
  len : B.length = 9
  keep : ∀ a : Nat, a ≤ 8 → at' B a = at' bs a ∨ 1 ≤ a ∧ dn ds a = false ∧ ∃ c, Ed g b.ds (a : Int) c ∧ at' B a = ext b (a : Int) c
  impr : ∀ a : Nat, a ≤ 8 → 0 ≤ (at' bs a).co → 0 ≤ (at' B a).co ∧ ¬ Bt (at' bs a) (at' B a)
  best : ∀ m ∈ g.take j, hv m = b.ds → dn ds (ha m).toNat = false → 0 ≤ (at' B (ha m).toNat).co ∧ ¬ Bt (ext b (ha m) m.val) (at' B (ha m).toNat)
theorem rl_inv {g : List Tu.R} (hg : graphB g = true) {b : R} (hb : 0 ≤ b.co) {ds : List Bool} {bs : List R} (hl : bs.length = 9) : ∀ j, j ≤ g.length → RlI g b ds bs (rl g b ds bs j) j
  | 0, _ => ⟨hl, fun a _ => .inl rfl, fun a _ h => ⟨h, no_self _⟩, fun m hm => by simp at hm⟩
  | j + 1, hj => by
    have ih := rl_inv hg hb (ds := ds) hl j (by omega)
    have hlen : j < g.length := by omega
    have hk := ok_k (two_ok (graph_two hg) _ (Tu.getD_mem hlen))
    have hpos := graph_pos hg _ (Tu.getD_mem hlen)
    have hmem : g.getD j Tu.R.zero ∈ g := Tu.getD_mem hlen
    have htk := take_one hlen
    unfold rl rl1
    generalize g.getD j Tu.R.zero = m at *
    generalize rl g b ds bs j = B at *
    obtain ⟨t, ht⟩ : ∃ t : Nat, ha m = (t : Int) := ⟨(ha m).toNat, by omega⟩
    have ht8 : 1 ≤ t ∧ t ≤ 8 := by omega
    have hto : (ha m).toNat = t := by omega
    rw [hto]
    by_cases hc : hv m = b.ds ∧ betB B ds (ext b (ha m) m.val) t = true
    · rw [if_pos hc]
      obtain ⟨hd, hbt⟩ := bet_iff.1 hc.2
      have hat : ∀ a, at' (B.set t (ext b (ha m) m.val)) a = if a = t then ext b (ha m) m.val else at' B a := fun a => at_set (by rw [ih.len]; omega) a
      have hco : 0 ≤ (ext b (ha m) m.val).co := by unfold ext; dsimp only; omega
      refine ⟨by rw [List.length_set]; exact ih.len, fun a ha8 => ?_, fun a ha8 h0 => ?_, fun m' hm' hv' hd' => ?_⟩
      · rw [hat]
        by_cases e : a = t
        · rw [if_pos e]
          exact .inr ⟨by omega, by rw [e]; exact hd, m.val, ⟨m, hmem, hc.1, by rw [ht, e], rfl⟩, by rw [ht, e]⟩
        · rw [if_neg e]; exact ih.keep a ha8
      · rw [hat]
        by_cases e : a = t
        · rw [if_pos e]
          refine ⟨hco, ?_⟩
          obtain ⟨h1, h2⟩ := ih.impr a ha8 h0
          rw [e] at h1 h2
          rcases hbt with hbt | hbt
          · omega
          · rw [e]; exact no_trans (bt_no hbt) h2
        · rw [if_neg e]; exact ih.impr a ha8 h0
      · rw [htk] at hm'
        rw [hat]
        rcases List.mem_append.1 hm' with hm' | hm'
        · obtain ⟨h1, h2⟩ := ih.best m' hm' hv' hd'
          by_cases e : (ha m').toNat = t
          · rw [if_pos e]
            rw [e] at h1 h2
            refine ⟨hco, ?_⟩
            rcases hbt with hbt | hbt
            · omega
            · exact no_trans (bt_no hbt) h2
          · rw [if_neg e]; exact ⟨h1, h2⟩
        · rw [List.mem_singleton] at hm'
          subst hm'
          rw [if_pos hto]; exact ⟨hco, no_self _⟩
    · rw [if_neg hc]
      refine ⟨ih.len, ih.keep, ih.impr, fun m' hm' hv' hd' => ?_⟩
      rw [htk] at hm'
      rcases List.mem_append.1 hm' with hm' | hm'
      · exact ih.best m' hm' hv' hd'
      · rw [List.mem_singleton] at hm'
        subst hm'
        rw [hto] at hd' ⊢
        have hn : ¬ ((at' B t).co < 0 ∨ Bt (ext b (ha m') m'.val) (at' B t)) := fun h => hc ⟨hv', bet_iff.2 ⟨hd', h⟩⟩
        exact ⟨by omega, fun h => hn (.inr h)⟩
theorem stm_pick {g : List Tu.R} {f : Int} {bs : List R} {ds : List Bool} (h : StM g f bs ds) (h0 : pk bs ds 8 ≠ 0) : (1 ≤ pk bs ds 8 ∧ pk bs ds 8 ≤ 8) ∧ dn ds (pk bs ds 8) = false ∧ HM bs ds (at' bs (pk bs ds 8)) ∧ okN 7 (at' bs (pk bs ds 8)) ∧ ((at' bs (pk bs ds 8)).hp = 0 ↔ ((pk bs ds 8 : Nat) : Int) = f) := by
  have hle := pk_le bs ds 8
  rcases pk_spec bs ds 8 with ⟨e, _⟩ | ⟨h1, ho, hm⟩
  · exact absurd e h0
  · generalize pk bs ds 8 = k at *
    have hH : HM bs ds (at' bs k) := ⟨k, h1, hle, ho, rfl⟩
    have hW : WM bs ds (k : Int) = none := wm_none ho.1
    have hc : cntW (WM bs ds) ≤ 7 := by
      have e := cnt_up (W := WM bs ds) (b := at' bs k) (by rw [h.tag k hle]; omega) (by rw [h.tag k hle]; omega) (by rw [h.tag k hle]; exact hW)
      have := cnt_le (upW (WM bs ds) (at' bs k))
      omega
    refine ⟨⟨h1, hle⟩, ho.1, hH, okN_mono hc (h.ok k h1 hle ho.2), ?_⟩
    have htag := h.tag k hle
    constructor
    · intro e
      rcases h.inv.hp _ hH with e2 | ⟨u, y, c, hu, _, e2⟩
      · rw [e2] at htag; exact htag.symm
      · have := (h.inv.to u y hu).2.2
        rw [e2] at e; unfold ext at e; dsimp only at e; omega
    · intro e
      rcases h.inv.st with e2 | ⟨_, e2, _⟩
      · rw [e] at hW; rw [hW] at e2; cases e2
      · rw [e2 _ hH]; rfl
theorem stm_step {g : List Tu.R} (hg : graphB g = true) {f : Int} {bs : List R} {ds : List Bool} (h : StM g f bs ds) {k : Nat} (hk : pk bs ds 8 = k) (h0 : k ≠ 0) :
    StM g f (rl g (at' bs k) (ds.set k true) bs g.length) (ds.set k true) ∧ cntW (WM (rl g (at' bs k) (ds.set k true) bs g.length) (ds.set k true)) = cntW (WM bs ds) + 1 := by
  obtain ⟨hk8, hdk, hHk, hok, _⟩ := (by have := stm_pick h (by rw [hk]; exact h0); rw [hk] at this; exact this)
  have hsp := pk_spec bs ds 8
  rw [hk] at hsp
  have hmin : ∀ x, HM bs ds x → ¬ Bt x (at' bs k) := by
    rcases hsp with ⟨e, _⟩ | ⟨_, _, hm⟩
    · omega
    · rintro x ⟨a, h1, h8, ho, rfl⟩; exact hm a h1 h8 ho
  have htag := h.tag k hk8.2
  have hopk : 0 ≤ (at' bs k).co := by obtain ⟨a, h1, h8, ho, e⟩ := hHk; rw [e]; exact ho.2
  have hdn : ∀ a, dn (ds.set k true) a = if a = k then true else dn ds a := fun a => dn_set (by rw [h.len']; omega) a
  have hI := rl_inv hg hopk (ds := ds.set k true) h.len g.length (Nat.le_refl _)
  obtain ⟨b, hb⟩ : ∃ b, at' bs k = b := ⟨_, rfl⟩
  rw [hb] at hI hmin htag hopk hHk hok ⊢
  generalize hB : rl g b (ds.set k true) bs g.length = B at *
  have hkeep : ∀ a : Nat, a ≤ 8 → dn (ds.set k true) a = true → at' B a = at' bs a := fun a ha hd => by
    rcases hI.keep a ha with e | ⟨_, e, _⟩
    · exact e
    · rw [hd] at e; cases e
  have hWb : WM bs ds b.ds = none := by rw [htag]; exact wm_none hdk
  have hW : WM B (ds.set k true) = upW (WM bs ds) b := by
    funext v
    unfold upW
    by_cases e : v = b.ds
    · rw [if_pos e, e, htag, wm_at hk8.1 hk8.2 (by rw [hdn, if_pos rfl]), hkeep k hk8.2 (by rw [hdn, if_pos rfl]), hb]
    · rw [if_neg e]
      unfold WM
      by_cases hv : 1 ≤ v ∧ v ≤ 8
      · rw [if_pos hv, if_pos hv]
        have hne : v.toNat ≠ k := by omega
        have e1 : dn (ds.set k true) v.toNat = dn ds v.toNat := by rw [hdn, if_neg hne]
        rw [e1]
        by_cases hd : dn ds v.toNat = true
        · rw [if_pos hd, if_pos hd, hkeep v.toNat (by omega) (by rw [e1]; exact hd)]
        · rw [if_neg hd, if_neg hd]
      · rw [if_neg hv, if_neg hv]
  have hcnt : cntW (WM B (ds.set k true)) = cntW (WM bs ds) + 1 := by
    rw [hW]; exact cnt_up (by omega) (by omega) hWb
  have hokb : okN (cntW (WM bs ds)) b := by rw [← hb]; exact h.ok k hk8.1 hk8.2 (by rw [hb]; exact hopk)
  refine ⟨⟨hI.len, by rw [List.length_set]; exact h.len', fun a ha => ?_, fun a ha hn => ?_, ?_, ?_, fun a h1 h8 h00 => ?_, fun a h1 h8 hd => ?_⟩, hcnt⟩
  · rcases hI.keep a ha with e | ⟨_, _, c, _, e⟩
    · rw [e]; exact h.tag a ha
    · rw [e]; rfl
  · rcases hI.keep a ha with e | ⟨_, _, c, he, e⟩
    · rw [e] at hn ⊢; exact h.neg a ha hn
    · have := ed_rng (graph_two hg) he
      rw [e] at hn; unfold ext at hn; dsimp only at hn; omega
  · rcases hI.keep 0 (by omega) with e | ⟨e, _⟩
    · rw [e]; exact h.nut
    · omega
  · rw [hW]
    refine inv_new (graph_pos hg) h.inv hHk hWb hmin (fun x hx => ?_) (fun x hx => ?_) (fun v c he => ?_)
    · obtain ⟨a, h1, h8, ho, rfl⟩ := hx
      have hne : a ≠ k := fun e => by have := ho.1; rw [hdn, if_pos e] at this; cases this
      have hda : dn ds a = false := by have := ho.1; rw [hdn, if_neg hne] at this; exact this
      rcases hI.keep a h8 with e | ⟨_, _, c, he, e⟩
      · rw [e]; exact .inl ⟨a, h1, h8, ⟨hda, by have := ho.2; rw [e] at this; exact this⟩, rfl⟩
      · have ed : (at' B a).ds = (a : Int) := by rw [e]; rfl
        exact .inr ⟨c, by rw [ed]; exact he, by rw [ed]; exact e⟩
    · obtain ⟨a, h1, h8, ho, rfl⟩ := hx
      by_cases e : a = k
      · exact .inl (by rw [e]; exact hb)
      · obtain ⟨h3, h4⟩ := hI.impr a h8 ho.2
        refine .inr (.inr ⟨at' B a, ⟨a, h1, h8, ⟨by rw [hdn, if_neg e]; exact ho.1, h3⟩, rfl⟩, ?_, h4⟩)
        rcases hI.keep a h8 with e2 | ⟨_, _, c, _, e2⟩
        · rw [e2]
        · rw [e2, h.tag a h8]; rfl
    · obtain ⟨m, hm, h1, h2, h3⟩ := he
      have hr := ed_rng (graph_two hg) ⟨m, hm, h1, h2, h3⟩
      obtain ⟨t, ht⟩ : ∃ t : Nat, v = (t : Int) := ⟨v.toNat, by omega⟩
      have hto : (ha m).toNat = t := by omega
      by_cases hd : dn (ds.set k true) t = true
      · right
        rw [← hW, ht, wm_at (by omega) (by omega) hd]
        exact ⟨_, rfl⟩
      · have hd' : dn (ds.set k true) t = false := by cases hh : dn (ds.set k true) t; rfl; exact absurd hh hd
        obtain ⟨h4, h5⟩ := hI.best m (by rw [List.take_length]; exact hm) h1 (by rw [hto]; exact hd')
        rw [hto, h2, h3] at h5
        rw [hto] at h4
        refine .inl ⟨at' B t, ⟨t, by omega, by omega, ⟨hd', h4⟩, rfl⟩, ?_, h5⟩
        rcases hI.keep t (by omega) with e2 | ⟨_, _, c', _, e2⟩
        · rw [e2, h.tag t (by omega), ht]
        · rw [e2, ht]; rfl
  · rw [hcnt]
    rcases hI.keep a h8 with e | ⟨_, _, c, he, e⟩
    · rw [e] at h00 ⊢; exact okN_mono (by omega) (h.ok a h1 h8 h00)
    · have hr := ed_rng (graph_two hg) he
      rw [e]; exact okN_ext hokb hr.2.1 hr.2.2.2
  · by_cases e : a = k
    · rw [hkeep a h8 hd, e, hb]; exact hopk
    · rw [hkeep a h8 hd]; exact h.dco a h1 h8 (by rw [hdn, if_neg e] at hd; exact hd)
/-- What the model's search comes to. -/
noncomputable def mdl (g : List Tu.R) (f : Int) : List R := (List.range 9).map (fun a : Nat => if a = 0 then nul 0 else (best g f (a : Int)).getD (nul a))
theorem mdl_len (g : List Tu.R) (f : Int) : (mdl g f).length = 9 := by unfold mdl; simp
theorem mdl_at (g : List Tu.R) (f : Int) {a : Nat} (h : a < 9) : at' (mdl g f) a = if a = 0 then nul 0 else (best g f (a : Int)).getD (nul a) := by
  unfold at' mdl; rw [List.getD_eq_getElem?_getD, List.getElem?_map, List.getElem?_range h]; rfl
theorem stm_done {g : List Tu.R} (hg : graphB g = true) {f : Int} {bs : List R} {ds : List Bool} (h : StM g f bs ds) (h0 : pk bs ds 8 = 0) : bs = mdl g f ∧ Good g f (best g f) := by
  have hno : ∀ a, 1 ≤ a → a ≤ 8 → ¬ opn bs ds a := by
    rcases pk_spec bs ds 8 with ⟨_, hn⟩ | ⟨h1, _⟩
    · exact hn
    · omega
  have hG : Good g f (WM bs ds) := inv_done h.inv (fun x ⟨a, h1, h8, ho, _⟩ => hno a h1 h8 ho)
  have e := best_is (graph_pos hg) hG
  refine ⟨at_ext (by rw [h.len, mdl_len]) (fun a ha => ?_), by rw [← e]; exact hG⟩
  rw [h.len] at ha
  rw [mdl_at g f ha]
  by_cases h00 : a = 0
  · subst h00; rw [if_pos rfl]; exact h.nut
  · rw [if_neg h00, ← e]
    by_cases hd : dn ds a = true
    · rw [wm_at (by omega) (by omega) hd]; rfl
    · have hd' : dn ds a = false := by cases hh : dn ds a; rfl; exact absurd hh hd
      rw [wm_none hd']
      exact h.neg a (by omega) (by
        have : ¬ 0 ≤ (at' bs a).co := fun hc => hno a (by omega) (by omega) ⟨hd', hc⟩
        omega)
end Wd
end Go.Proofs.Ytjhhhmdhdnmejaa
