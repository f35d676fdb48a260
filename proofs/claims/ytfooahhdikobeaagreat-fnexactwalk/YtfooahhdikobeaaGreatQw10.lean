/-
  Of the texts WysS, SpcA, SpB0, SpcB, SpcC, RtrR, NetL, GphE: what this claim needs of them. (put together by mkprune.py)
-/
import Derived.Test.YtfooahhdikobeaaGreatQw9
import Derived.Deep.Cut
import Derived.BigRegion
import Derived.Deep.MidRow
namespace Go.Proofs.YtfooahhdikobeaaGreat
set_option linter.unusedVariables false
set_option linter.unusedSimpArgs false
namespace Wd
open W1 Ro Tw
/-- A mark; whose way is known; what lies open. -/
def dn (ds : List Bool) (a : Nat) : Bool := ds.getD a false
def WM (bs : List R) (ds : List Bool) (v : Int) : Option R := if 1 ≤ v ∧ v ≤ 8 then (if dn ds v.toNat = true then some (at' bs v.toNat) else none) else none
def opn (bs : List R) (ds : List Bool) (a : Nat) : Prop := dn ds a = false ∧ 0 ≤ (at' bs a).co
def HM (bs : List R) (ds : List Bool) (x : R) : Prop := ∃ a, 1 ≤ a ∧ a ≤ 8 ∧ opn bs ds a ∧ x = at' bs a
def nul (a : Nat) : R := ⟨(a : Int), 0, -1, 0⟩
theorem dn_set {ds : List Bool} {k : Nat} (h : k < ds.length) (a : Nat) : dn (ds.set k true) a = if a = k then true else dn ds a := by
  unfold dn
  simp only [List.getD_eq_getElem?_getD, List.getElem?_set]
  by_cases e : a = k
  · subst e; simp [h]
  · rw [if_neg (by omega), if_neg e]
theorem wm_at {bs : List R} {ds : List Bool} {a : Nat} (h1 : 1 ≤ a) (h8 : a ≤ 8) (h : dn ds a = true) : WM bs ds (a : Int) = some (at' bs a) := by
  unfold WM; rw [if_pos (by omega), Int.toNat_natCast, if_pos h]
theorem wm_none {bs : List R} {ds : List Bool} {a : Nat} (h : dn ds a = false) : WM bs ds (a : Int) = none := by
  unfold WM; rw [Int.toNat_natCast, h]; simp
/-- The state of the model's search. -/
structure StM (g : List Tu.R) (f : Int) (bs : List R) (ds : List Bool) : Prop where
  len : bs.length = 9
  len' : ds.length = 9
  tag : ∀ a : Nat, a ≤ 8 → (at' bs a).ds = (a : Int)
  neg : ∀ a : Nat, a ≤ 8 → (at' bs a).co < 0 → at' bs a = nul a
  nut : at' bs 0 = nul 0
  inv : Inv g f (WM bs ds) (HM bs ds)
  ok : ∀ a : Nat, 1 ≤ a → a ≤ 8 → 0 ≤ (at' bs a).co → okN (cntW (WM bs ds)) (at' bs a)
  dco : ∀ a : Nat, 1 ≤ a → a ≤ 8 → dn ds a = true → 0 ≤ (at' bs a).co
def bs9 (j : Nat) : List R := (List.range 9).map (fun a => if a < j then nul a else R.zero)
def fs9 : List Bool := [false, false, false, false, false, false, false, false, false]
theorem bs9_len (j : Nat) : (bs9 j).length = 9 := by unfold bs9; simp
theorem bs9_at {j a : Nat} (h : a < 9) : at' (bs9 j) a = if a < j then nul a else R.zero := by
  unfold at' bs9; rw [List.getD_eq_getElem?_getD, List.getElem?_map, List.getElem?_range h]; rfl
theorem at_ext {xs ys : List R} (hx : xs.length = ys.length) (h : ∀ i, i < xs.length → at' xs i = at' ys i) : xs = ys := by
  apply List.ext_getElem hx
  intro i h1 h2
  have := h i h1
  unfold at' at this
  rw [List.getD_eq_getElem?_getD, List.getD_eq_getElem?_getD, List.getElem?_eq_getElem h1, List.getElem?_eq_getElem h2] at this
  exact this
theorem bs9_step {j : Nat} (h : j < 9) : (bs9 j).set j (nul j) = bs9 (j + 1) := by
  refine at_ext (by rw [List.length_set, bs9_len, bs9_len]) (fun i hi => ?_)
  rw [List.length_set, bs9_len] at hi
  rw [at_set (by rw [bs9_len]; exact h), bs9_at hi, bs9_at hi]
  by_cases e : i = j
  · subst e; rw [if_pos rfl, if_pos (by omega)]
  · rw [if_neg e]
    by_cases e2 : i < j
    · rw [if_pos e2, if_pos (by omega)]
    · rw [if_neg e2, if_neg (by omega)]
theorem fs9_dn (a : Nat) : dn fs9 a = false := by
  unfold dn fs9
  match a with
  | 0 | 1 | 2 | 3 | 4 | 5 | 6 | 7 | 8 => rfl
  | n + 9 => simp
/-- At the beginning: all at -1 but one's own, at 0. -/
def bsF (f : Nat) : List R := (bs9 9).set f ⟨(f : Int), 0, 0, 0⟩
theorem bsF_at {f a : Nat} (hf : f < 9) (h : a < 9) : at' (bsF f) a = if a = f then zl (f : Int) else nul a := by
  unfold bsF; rw [at_set (by rw [bs9_len]; exact hf), bs9_at h, if_pos h]; rfl
theorem stm_start {g : List Tu.R} {f : Nat} (hf : 1 ≤ f ∧ f ≤ 8) : StM g (f : Int) (bsF f) fs9 := by
  have hW : WM (bsF f) fs9 = fun _ => none := funext (fun v => by unfold WM; rw [fs9_dn]; simp)
  have hH : HM (bsF f) fs9 = fun x => x = zl (f : Int) := funext (fun x => propext ⟨fun ⟨a, h1, h8, ho, e⟩ => by
      rw [bsF_at (by omega) (by omega)] at e
      by_cases ha : a = f
      · rw [if_pos ha] at e; exact e
      · have := ho.2; rw [bsF_at (by omega) (by omega), if_neg ha] at this; unfold nul at this; dsimp only at this; omega,
    fun e => ⟨f, hf.1, hf.2, ⟨fs9_dn f, by rw [bsF_at (by omega) (by omega), if_pos rfl]; exact Int.le_refl _⟩, by rw [bsF_at (by omega) (by omega), if_pos rfl]; exact e⟩⟩)
  refine ⟨by unfold bsF; rw [List.length_set, bs9_len], rfl, fun a ha => ?_, fun a ha h => ?_, ?_, ?_, fun a h1 h8 h => ?_, fun a _ _ h => ?_⟩
  · rw [bsF_at (by omega) (by omega)]; split
    · rename_i e; subst e; rfl
    · rfl
  · rw [bsF_at (by omega) (by omega)] at h ⊢
    split at h
    · unfold zl at h; dsimp only at h; omega
    · rename_i e; rw [if_neg e]
  · rw [bsF_at (by omega) (by omega), if_neg (by omega)]
  · rw [hW, hH]; exact inv_start g _
  · rw [bsF_at (by omega) (by omega)] at h ⊢
    by_cases e : a = f
    · rw [if_pos e]; exact okN_mono (by omega) (okN_zl (by omega))
    · rw [if_neg e] at h; unfold nul at h; dsimp only at h; omega
  · rw [fs9_dn] at h; cases h
/-- The best that lies open, the first of such, of the first j. -/
def canB (bs : List R) (ds : List Bool) (k a : Nat) : Bool := !dn ds a && decide (0 ≤ (at' bs a).co) && (k == 0 || btB (at' bs a) (at' bs k))
def pk (bs : List R) (ds : List Bool) : Nat → Nat
  | 0 => 0
  | a + 1 => if canB bs ds (pk bs ds a) (a + 1) = true then a + 1 else pk bs ds a
theorem pk_le (bs : List R) (ds : List Bool) : ∀ j, pk bs ds j ≤ j
  | 0 => Nat.le_refl _
  | j + 1 => by unfold pk; split; exact Nat.le_refl _; have := pk_le bs ds j; omega
theorem can_iff {bs : List R} {ds : List Bool} {k a : Nat} : canB bs ds k a = true ↔ opn bs ds a ∧ (k = 0 ∨ Bt (at' bs a) (at' bs k)) := by
  unfold canB opn
  rw [Bool.and_eq_true, Bool.and_eq_true, Bool.or_eq_true, btB_iff]
  simp
theorem pk_spec (bs : List R) (ds : List Bool) : ∀ j, (pk bs ds j = 0 ∧ ∀ a, 1 ≤ a → a ≤ j → ¬ opn bs ds a) ∨ (1 ≤ pk bs ds j ∧ opn bs ds (pk bs ds j) ∧ ∀ a, 1 ≤ a → a ≤ j → opn bs ds a → ¬ Bt (at' bs a) (at' bs (pk bs ds j)))
  | 0 => .inl ⟨rfl, fun a h1 h2 => by omega⟩
  | j + 1 => by
    have ih := pk_spec bs ds j
    have hlast : ∀ a, a ≤ j + 1 → a = j + 1 ∨ a ≤ j := fun a h => by omega
    unfold pk
    by_cases hc : canB bs ds (pk bs ds j) (j + 1) = true
    · rw [if_pos hc]
      obtain ⟨ho, hb⟩ := can_iff.1 hc
      refine .inr ⟨by omega, ho, fun a h1 h2 hoa => ?_⟩
      rcases hlast a h2 with rfl | h2
      · exact no_self _
      · rcases ih with ⟨h0, hn⟩ | ⟨h0, ho', hm⟩
        · exact absurd hoa (hn a h1 h2)
        · rcases hb with e | hb
          · omega
          · exact no_trans (bt_no hb) (hm a h1 h2 hoa)
    · rw [if_neg hc]
      have hc' : ¬ (opn bs ds (j + 1) ∧ (pk bs ds j = 0 ∨ Bt (at' bs (j + 1)) (at' bs (pk bs ds j)))) := fun h => hc (can_iff.2 h)
      rcases ih with ⟨h0, hn⟩ | ⟨h0, ho', hm⟩
      · refine .inl ⟨h0, fun a h1 h2 hoa => ?_⟩
        rcases hlast a h2 with rfl | h2
        · exact hc' ⟨hoa, .inl h0⟩
        · exact hn a h1 h2 hoa
      · refine .inr ⟨h0, ho', fun a h1 h2 hoa => ?_⟩
        rcases hlast a h2 with rfl | h2
        · exact fun hb => hc' ⟨hoa, .inr hb⟩
        · exact hm a h1 h2 hoa
/-- What the first j edges make of the routes. -/
def betB (bs : List R) (ds : List Bool) (x : R) (a : Nat) : Bool := !dn ds a && (decide ((at' bs a).co < 0) || btB x (at' bs a))
def rl1 (b : R) (ds : List Bool) (B : List R) (m : Tu.R) : List R := if hv m = b.ds ∧ betB B ds (ext b (ha m) m.val) (ha m).toNat = true then B.set (ha m).toNat (ext b (ha m) m.val) else B
def rl (g : List Tu.R) (b : R) (ds : List Bool) (bs : List R) : Nat → List R
  | 0 => bs
  | j + 1 => rl1 b ds (rl g b ds bs j) (g.getD j Tu.R.zero)
theorem bet_iff {bs : List R} {ds : List Bool} {x : R} {a : Nat} : betB bs ds x a = true ↔ dn ds a = false ∧ ((at' bs a).co < 0 ∨ Bt x (at' bs a)) := by
  unfold betB; rw [Bool.and_eq_true, Bool.or_eq_true, btB_iff]; simp
structure RlI (g : List Tu.R) (b : R) (ds : List Bool) (bs B : List R) (j : Nat) : Prop where
  len : B.length = 9
  keep : ∀ a : Nat, a ≤ 8 → at' B a = at' bs a ∨ 1 ≤ a ∧ dn ds a = false ∧ ∃ c, Ed g b.ds (a : Int) c ∧ at' B a = ext b (a : Int) c
  impr : ∀ a : Nat, a ≤ 8 → 0 ≤ (at' bs a).co → 0 ≤ (at' B a).co ∧ ¬ Bt (at' bs a) (at' B a)
  best : ∀ m ∈ g.take j, hv m = b.ds → dn ds (ha m).toNat = false → 0 ≤ (at' B (ha m).toNat).co ∧ ¬ Bt (ext b (ha m) m.val) (at' B (ha m).toNat)
theorem rl_inv {g : List Tu.R} (hg : graphB g = true) {b : R} (hb : 0 ≤ b.co) {ds : List Bool} {bs : List R} (hl : bs.length = 9) : ∀ j, j ≤ g.length → RlI g b ds bs (rl g b ds bs j) j
  | 0, _ => ⟨hl, fun a _ => .inl rfl, fun a _ h => ⟨h, no_self _⟩, fun m hm => by simp at hm⟩
  | j + 1, hj => by
    have ih := rl_inv hg hb (ds := ds) hl j (by omega)
    have hlen : j < g.length := by omega
    have hk := ok_k (two_ok (graph_two hg) _ (Tu.getD_mem hlen))
    have hpos := graph_pos hg _ (Tu.getD_mem hlen)
    have hmem : g.getD j Tu.R.zero ∈ g := Tu.getD_mem hlen
    have htk := take_one hlen
    unfold rl rl1
    generalize g.getD j Tu.R.zero = m at *
    generalize rl g b ds bs j = B at *
    obtain ⟨t, ht⟩ : ∃ t : Nat, ha m = (t : Int) := ⟨(ha m).toNat, by omega⟩
    have ht8 : 1 ≤ t ∧ t ≤ 8 := by omega
    have hto : (ha m).toNat = t := by omega
    rw [hto]
    by_cases hc : hv m = b.ds ∧ betB B ds (ext b (ha m) m.val) t = true
    · rw [if_pos hc]
      obtain ⟨hd, hbt⟩ := bet_iff.1 hc.2
      have hat : ∀ a, at' (B.set t (ext b (ha m) m.val)) a = if a = t then ext b (ha m) m.val else at' B a := fun a => at_set (by rw [ih.len]; omega) a
      have hco : 0 ≤ (ext b (ha m) m.val).co := by unfold ext; dsimp only; omega
      refine ⟨by rw [List.length_set]; exact ih.len, fun a ha8 => ?_, fun a ha8 h0 => ?_, fun m' hm' hv' hd' => ?_⟩
      · rw [hat]
        by_cases e : a = t
        · rw [if_pos e]
          exact .inr ⟨by omega, by rw [e]; exact hd, m.val, ⟨m, hmem, hc.1, by rw [ht, e], rfl⟩, by rw [ht, e]⟩
        · rw [if_neg e]; exact ih.keep a ha8
      · rw [hat]
        by_cases e : a = t
        · rw [if_pos e]
          refine ⟨hco, ?_⟩
          obtain ⟨h1, h2⟩ := ih.impr a ha8 h0
          rw [e] at h1 h2
          rcases hbt with hbt | hbt
          · omega
          · rw [e]; exact no_trans (bt_no hbt) h2
        · rw [if_neg e]; exact ih.impr a ha8 h0
      · rw [htk] at hm'
        rw [hat]
        rcases List.mem_append.1 hm' with hm' | hm'
        · obtain ⟨h1, h2⟩ := ih.best m' hm' hv' hd'
          by_cases e : (ha m').toNat = t
          · rw [if_pos e]
            rw [e] at h1 h2
            refine ⟨hco, ?_⟩
            rcases hbt with hbt | hbt
            · omega
            · exact no_trans (bt_no hbt) h2
          · rw [if_neg e]; exact ⟨h1, h2⟩
        · rw [List.mem_singleton] at hm'
          subst hm'
          rw [if_pos hto]; exact ⟨hco, no_self _⟩
    · rw [if_neg hc]
      refine ⟨ih.len, ih.keep, ih.impr, fun m' hm' hv' hd' => ?_⟩
      rw [htk] at hm'
      rcases List.mem_append.1 hm' with hm' | hm'
      · exact ih.best m' hm' hv' hd'
      · rw [List.mem_singleton] at hm'
        subst hm'
        rw [hto] at hd' ⊢
        have hn : ¬ ((at' B t).co < 0 ∨ Bt (ext b (ha m') m'.val) (at' B t)) := fun h => hc ⟨hv', bet_iff.2 ⟨hd', h⟩⟩
        exact ⟨by omega, fun h => hn (.inr h)⟩
theorem stm_pick {g : List Tu.R} {f : Int} {bs : List R} {ds : List Bool} (h : StM g f bs ds) (h0 : pk bs ds 8 ≠ 0) : (1 ≤ pk bs ds 8 ∧ pk bs ds 8 ≤ 8) ∧ dn ds (pk bs ds 8) = false ∧ HM bs ds (at' bs (pk bs ds 8)) ∧ okN 7 (at' bs (pk bs ds 8)) ∧ ((at' bs (pk bs ds 8)).hp = 0 ↔ ((pk bs ds 8 : Nat) : Int) = f) := by
  have hle := pk_le bs ds 8
  rcases pk_spec bs ds 8 with ⟨e, _⟩ | ⟨h1, ho, hm⟩
  · exact absurd e h0
  · generalize pk bs ds 8 = k at *
    have hH : HM bs ds (at' bs k) := ⟨k, h1, hle, ho, rfl⟩
    have hW : WM bs ds (k : Int) = none := wm_none ho.1
    have hc : cntW (WM bs ds) ≤ 7 := by
      have e := cnt_up (W := WM bs ds) (b := at' bs k) (by rw [h.tag k hle]; omega) (by rw [h.tag k hle]; omega) (by rw [h.tag k hle]; exact hW)
      have := cnt_le (upW (WM bs ds) (at' bs k))
      omega
    refine ⟨⟨h1, hle⟩, ho.1, hH, okN_mono hc (h.ok k h1 hle ho.2), ?_⟩
    have htag := h.tag k hle
    constructor
    · intro e
      rcases h.inv.hp _ hH with e2 | ⟨u, y, c, hu, _, e2⟩
      · rw [e2] at htag; exact htag.symm
      · have := (h.inv.too u y hu).2.2
        rw [e2] at e; unfold ext at e; dsimp only at e; omega
    · intro e
      rcases h.inv.st with e2 | ⟨_, e2, _⟩
      · rw [e] at hW; rw [hW] at e2; cases e2
      · rw [e2 _ hH]; rfl
theorem stm_step {g : List Tu.R} (hg : graphB g = true) {f : Int} {bs : List R} {ds : List Bool} (h : StM g f bs ds) {k : Nat} (hk : pk bs ds 8 = k) (h0 : k ≠ 0) :
    StM g f (rl g (at' bs k) (ds.set k true) bs g.length) (ds.set k true) ∧ cntW (WM (rl g (at' bs k) (ds.set k true) bs g.length) (ds.set k true)) = cntW (WM bs ds) + 1 := by
  obtain ⟨hk8, hdk, hHk, hok, _⟩ := (by have := stm_pick h (by rw [hk]; exact h0); rw [hk] at this; exact this)
  have hsp := pk_spec bs ds 8
  rw [hk] at hsp
  have hmin : ∀ x, HM bs ds x → ¬ Bt x (at' bs k) := by
    rcases hsp with ⟨e, _⟩ | ⟨_, _, hm⟩
    · omega
    · rintro x ⟨a, h1, h8, ho, rfl⟩; exact hm a h1 h8 ho
  have htag := h.tag k hk8.2
  have hopk : 0 ≤ (at' bs k).co := by obtain ⟨a, h1, h8, ho, e⟩ := hHk; rw [e]; exact ho.2
  have hdn : ∀ a, dn (ds.set k true) a = if a = k then true else dn ds a := fun a => dn_set (by rw [h.len']; omega) a
  have hI := rl_inv hg hopk (ds := ds.set k true) h.len g.length (Nat.le_refl _)
  obtain ⟨b, hb⟩ : ∃ b, at' bs k = b := ⟨_, rfl⟩
  rw [hb] at hI hmin htag hopk hHk hok ⊢
  generalize hB : rl g b (ds.set k true) bs g.length = B at *
  have hkeep : ∀ a : Nat, a ≤ 8 → dn (ds.set k true) a = true → at' B a = at' bs a := fun a ha hd => by
    rcases hI.keep a ha with e | ⟨_, e, _⟩
    · exact e
    · rw [hd] at e; cases e
  have hWb : WM bs ds b.ds = none := by rw [htag]; exact wm_none hdk
  have hW : WM B (ds.set k true) = upW (WM bs ds) b := by
    funext v
    unfold upW
    by_cases e : v = b.ds
    · rw [if_pos e, e, htag, wm_at hk8.1 hk8.2 (by rw [hdn, if_pos rfl]), hkeep k hk8.2 (by rw [hdn, if_pos rfl]), hb]
    · rw [if_neg e]
      unfold WM
      by_cases hv : 1 ≤ v ∧ v ≤ 8
      · rw [if_pos hv, if_pos hv]
        have hne : v.toNat ≠ k := by omega
        have e1 : dn (ds.set k true) v.toNat = dn ds v.toNat := by rw [hdn, if_neg hne]
        rw [e1]
        by_cases hd : dn ds v.toNat = true
        · rw [if_pos hd, if_pos hd, hkeep v.toNat (by omega) (by rw [e1]; exact hd)]
        · rw [if_neg hd, if_neg hd]
      · rw [if_neg hv, if_neg hv]
  have hcnt : cntW (WM B (ds.set k true)) = cntW (WM bs ds) + 1 := by
    rw [hW]; exact cnt_up (by omega) (by omega) hWb
  have hokb : okN (cntW (WM bs ds)) b := by rw [← hb]; exact h.ok k hk8.1 hk8.2 (by rw [hb]; exact hopk)
  refine ⟨⟨hI.len, by rw [List.length_set]; exact h.len', fun a ha => ?_, fun a ha hn => ?_, ?_, ?_, fun a h1 h8 h00 => ?_, fun a h1 h8 hd => ?_⟩, hcnt⟩
  · rcases hI.keep a ha with e | ⟨_, _, c, _, e⟩
    · rw [e]; exact h.tag a ha
    · rw [e]; rfl
  · rcases hI.keep a ha with e | ⟨_, _, c, he, e⟩
    · rw [e] at hn ⊢; exact h.neg a ha hn
    · have := ed_rng (graph_two hg) he
      rw [e] at hn; unfold ext at hn; dsimp only at hn; omega
  · rcases hI.keep 0 (by omega) with e | ⟨e, _⟩
    · rw [e]; exact h.nut
    · omega
  · rw [hW]
    refine inv_new (graph_pos hg) h.inv hHk hWb hmin (fun x hx => ?_) (fun x hx => ?_) (fun v c he => ?_)
    · obtain ⟨a, h1, h8, ho, rfl⟩ := hx
      have hne : a ≠ k := fun e => by have := ho.1; rw [hdn, if_pos e] at this; cases this
      have hda : dn ds a = false := by have := ho.1; rw [hdn, if_neg hne] at this; exact this
      rcases hI.keep a h8 with e | ⟨_, _, c, he, e⟩
      · rw [e]; exact .inl ⟨a, h1, h8, ⟨hda, by have := ho.2; rw [e] at this; exact this⟩, rfl⟩
      · have ed : (at' B a).ds = (a : Int) := by rw [e]; rfl
        exact .inr ⟨c, by rw [ed]; exact he, by rw [ed]; exact e⟩
    · obtain ⟨a, h1, h8, ho, rfl⟩ := hx
      by_cases e : a = k
      · exact .inl (by rw [e]; exact hb)
      · obtain ⟨h3, h4⟩ := hI.impr a h8 ho.2
        refine .inr (.inr ⟨at' B a, ⟨a, h1, h8, ⟨by rw [hdn, if_neg e]; exact ho.1, h3⟩, rfl⟩, ?_, h4⟩)
        rcases hI.keep a h8 with e2 | ⟨_, _, c, _, e2⟩
        · rw [e2]
        · rw [e2, h.tag a h8]; rfl
    · obtain ⟨m, hm, h1, h2, h3⟩ := he
      have hr := ed_rng (graph_two hg) ⟨m, hm, h1, h2, h3⟩
      obtain ⟨t, ht⟩ : ∃ t : Nat, v = (t : Int) := ⟨v.toNat, by omega⟩
      have hto : (ha m).toNat = t := by omega
      by_cases hd : dn (ds.set k true) t = true
      · right
        rw [← hW, ht, wm_at (by omega) (by omega) hd]
        exact ⟨_, rfl⟩
      · have hd' : dn (ds.set k true) t = false := by cases hh : dn (ds.set k true) t; rfl; exact absurd hh hd
        obtain ⟨h4, h5⟩ := hI.best m (by rw [List.take_length]; exact hm) h1 (by rw [hto]; exact hd')
        rw [hto, h2, h3] at h5
        rw [hto] at h4
        refine .inl ⟨at' B t, ⟨t, by omega, by omega, ⟨hd', h4⟩, rfl⟩, ?_, h5⟩
        rcases hI.keep t (by omega) with e2 | ⟨_, _, c', _, e2⟩
        · rw [e2, h.tag t (by omega), ht]
        · rw [e2, ht]; rfl
  · rw [hcnt]
    rcases hI.keep a h8 with e | ⟨_, _, c, he, e⟩
    · rw [e] at h00 ⊢; exact okN_mono (by omega) (h.ok a h1 h8 h00)
    · have hr := ed_rng (graph_two hg) he
      rw [e]; exact okN_ext hokb hr.2.1 hr.2.2.2
  · by_cases e : a = k
    · rw [hkeep a h8 hd, e, hb]; exact hopk
    · rw [hkeep a h8 hd]; exact h.dco a h1 h8 (by rw [hdn, if_neg e] at hd; exact hd)
/-- What the model's search comes to. -/
noncomputable def mdl (g : List Tu.R) (f : Int) : List R := (List.range 9).map (fun a : Nat => if a = 0 then nul 0 else (best g f (a : Int)).getD (nul a))
theorem mdl_len (g : List Tu.R) (f : Int) : (mdl g f).length = 9 := by unfold mdl; simp
theorem mdl_at (g : List Tu.R) (f : Int) {a : Nat} (h : a < 9) : at' (mdl g f) a = if a = 0 then nul 0 else (best g f (a : Int)).getD (nul a) := by
  unfold at' mdl; rw [List.getD_eq_getElem?_getD, List.getElem?_map, List.getElem?_range h]; rfl
theorem stm_done {g : List Tu.R} (hg : graphB g = true) {f : Int} {bs : List R} {ds : List Bool} (h : StM g f bs ds) (h0 : pk bs ds 8 = 0) : bs = mdl g f ∧ Good g f (best g f) := by
  have hno : ∀ a, 1 ≤ a → a ≤ 8 → ¬ opn bs ds a := by
    rcases pk_spec bs ds 8 with ⟨_, hn⟩ | ⟨h1, _⟩
    · exact hn
    · omega
  have hG : Good g f (WM bs ds) := inv_done h.inv (fun x ⟨a, h1, h8, ho, _⟩ => hno a h1 h8 ho)
  have e := best_is (graph_pos hg) hG
  refine ⟨at_ext (by rw [h.len, mdl_len]) (fun a ha => ?_), by rw [← e]; exact hG⟩
  rw [h.len] at ha
  rw [mdl_at g f ha]
  by_cases h00 : a = 0
  · subst h00; rw [if_pos rfl]; exact h.nut
  · rw [if_neg h00, ← e]
    by_cases hd : dn ds a = true
    · rw [wm_at (by omega) (by omega) hd]; rfl
    · have hd' : dn ds a = false := by cases hh : dn ds a; rfl; exact absurd hh hd
      rw [wm_none hd']
      exact h.neg a (by omega) (by
        have : ¬ 0 ≤ (at' bs a).co := fun hc => hno a (by omega) (by omega) ⟨hd', hc⟩
        omega)
end Wd
end Go.Proofs.YtfooahhdikobeaaGreat
namespace Go.Proofs.YtfooahhdikobeaaGreat
open Go.ChangeShapes Go.WideShapes Go.ChangeAt Go.RowKit
set_option linter.unusedVariables false
set_option linter.unusedSimpArgs false
set_option maxRecDepth 100000
attribute [local go_sem ↓] Go.wp_at_zero Go.wp_at_succ
namespace Wd
open W1 Ro Rw Tw
set_option maxHeartbeats 4000000 in
theorem l11Less (x y : R) (w : World) : Calls Tryz.prog 112 #[x.value, y.value] w fun e w' => e = .returned (.bool (btB x y)) ∧ Below w.heap.size w w' := by
  have HE : Hid (btB x y = (decide (x.co < y.co) || (x.co == y.co) && (decide (x.hp < y.hp) || (x.hp == y.hp) && decide (x.nx < y.nx)))) := hide rfl
  obtain ⟨xa, xn, xc, xh⟩ := x
  obtain ⟨ya, yn, yc, yh⟩ := y
  dsimp only at HE
  show Calls Tryz.prog 112 #[.agg #[.int .i64 xa, .int .i64 xn, .int .i64 xc, .int .i64 xh], .agg #[.int .i64 ya, .int .i64 yn, .int .i64 yc, .int .i64 yh]] w _
  have HB : Hid (∀ o1 o2 : Obj, Below w.heap.size w ((w.alloc o1).alloc o2)) := hide (fun o1 o2 => ((Below.refl _ _).alloc (Nat.le_refl _) _).alloc (by simp) _)
  by_cases h1 : xc = yc
  · have n1 : (xc != yc) = false := by simpa using h1
    by_cases h2 : xh = yh
    · have n2 : (xh != yh) = false := by simpa using h2
      have HF : Hid (btB ⟨xa, xn, xc, xh⟩ ⟨ya, yn, yc, yh⟩ = decide (xn < yn)) := hide (by rw [unhide HE, h1, h2]; simp)
      clear h1 h2
      by_cases h3 : xn < yn
      · have HG : Hid (btB ⟨xa, xn, xc, xh⟩ ⟨ya, yn, yc, yh⟩ = true) := hide (by rw [unhide HF]; exact decide_eq_true h3)
        go_enter Tryz.func112, Tryz.ntmps112
        go_wp2_with fail
        go_ret
        exact ⟨ret_bool (unhide HG).symm, unhide HB _ _⟩
      · have HG : Hid (btB ⟨xa, xn, xc, xh⟩ ⟨ya, yn, yc, yh⟩ = false) := hide (by rw [unhide HF]; exact decide_eq_false h3)
        go_enter Tryz.func112, Tryz.ntmps112
        go_wp2_with fail
        go_ret
        exact ⟨ret_bool (unhide HG).symm, unhide HB _ _⟩
    · have n2 : (xh != yh) = true := by simpa using h2
      have HF : Hid (btB ⟨xa, xn, xc, xh⟩ ⟨ya, yn, yc, yh⟩ = decide (xh < yh)) := hide (by rw [unhide HE, h1, show (xh == yh) = false by simpa using h2]; simp)
      clear h1 h2
      by_cases h3 : xh < yh
      · have HG : Hid (btB ⟨xa, xn, xc, xh⟩ ⟨ya, yn, yc, yh⟩ = true) := hide (by rw [unhide HF]; exact decide_eq_true h3)
        go_enter Tryz.func112, Tryz.ntmps112
        go_wp2_with fail
        go_ret
        exact ⟨ret_bool (unhide HG).symm, unhide HB _ _⟩
      · have HG : Hid (btB ⟨xa, xn, xc, xh⟩ ⟨ya, yn, yc, yh⟩ = false) := hide (by rw [unhide HF]; exact decide_eq_false h3)
        go_enter Tryz.func112, Tryz.ntmps112
        go_wp2_with fail
        go_ret
        exact ⟨ret_bool (unhide HG).symm, unhide HB _ _⟩
  · have n1 : (xc != yc) = true := by simpa using h1
    have HF : Hid (btB ⟨xa, xn, xc, xh⟩ ⟨ya, yn, yc, yh⟩ = decide (xc < yc)) := hide (by rw [unhide HE, show (xc == yc) = false by simpa using h1]; simp)
    clear h1
    by_cases h3 : xc < yc
    · have HG : Hid (btB ⟨xa, xn, xc, xh⟩ ⟨ya, yn, yc, yh⟩ = true) := hide (by rw [unhide HF]; exact decide_eq_true h3)
      go_enter Tryz.func112, Tryz.ntmps112
      go_wp2_with fail
      go_ret
      exact ⟨ret_bool (unhide HG).symm, unhide HB _ _⟩
    · have HG : Hid (btB ⟨xa, xn, xc, xh⟩ ⟨ya, yn, yc, yh⟩ = false) := hide (by rw [unhide HF]; exact decide_eq_false h3)
      go_enter Tryz.func112, Tryz.ntmps112
      go_wp2_with fail
      go_ret
      exact ⟨ret_bool (unhide HG).symm, unhide HB _ _⟩
/-- Routes, marks in a block of their own that may be written. -/
def BV (w : World) (b : Nat) (bs : List R) : Prop := w.heap[b]? = some (.cells (flat bs).toArray 87 (0, 0))
theorem BV.lt {w : World} {b : Nat} {bs : List R} (h : BV w b bs) : b < w.heap.size := lt_block h
theorem BV.cell {w : World} {b : Nat} {bs : List R} (h : BV w b bs) (j : Nat) : w.cell? ⟨b, j, none⟩ = (flat bs)[j]? := by unfold BV at h; simp [World.cell?, h]
theorem BV.free {w : World} {b : Nat} {bs : List R} (h : BV w b bs) (i : Nat) : w.frozen? ⟨b, i, none⟩ = false := by unfold BV at h; simp [World.frozen?, h]
theorem BV.at {w : World} {b : Nat} {bs : List R} (h : BV w b bs) {i : Nat} (hi : i < bs.length) : At w b (i * 4) (at' bs i) := by
  have h0 := flat_get bs i 0 (by omega) hi
  have h1 := flat_get bs i 1 (by omega) hi
  have h2 := flat_get bs i 2 (by omega) hi
  have h3 := flat_get bs i 3 (by omega) hi
  exact ⟨(h.cell _).trans h0, (h.cell _).trans h1, (h.cell _).trans h2, (h.cell _).trans h3⟩
theorem BV.below {w w' : World} {b : Nat} {bs : List R} (h : BV w b bs) (hb : Below w.heap.size w w') : BV w' b bs := (hb.block b h.lt).trans h
theorem BV.put {w : World} {b : Nat} {bs : List R} (h : BV w b bs) {i : Nat} (hi : i < bs.length) (m : R) : BV (put w b (i * 4) m) b (bs.set i m) := by
  have h' := heap_set (i := i * 4 + 3) (.int .i64 m.hp) (heap_set (i := i * 4 + 2) (.int .i64 m.co) (heap_set (i := i * 4 + 1) (.int .i64 m.nx) (heap_set (i := i * 4) (.int .i64 m.ds) h)))
  simp only [List.setIfInBounds_toArray] at h'
  unfold BV
  rw [flat_set bs i m hi]
  exact h'
theorem flat_co : ∀ (hs : List R) (i : Nat) (c : Int), i < hs.length → flat (hs.set i ⟨(at' hs i).ds, (at' hs i).nx, c, (at' hs i).hp⟩) = (flat hs).set (i * 4 + 2) (.int .i64 c)
  | [], i, c, h => by simp at h
  | x :: t, 0, c, _ => rfl
  | x :: t, i + 1, c, h => by
    have ih := flat_co t i c (by simpa using h)
    have e : flat (x :: t) = .int .i64 x.ds :: .int .i64 x.nx :: .int .i64 x.co :: .int .i64 x.hp :: flat t := rfl
    have ea : at' (x :: t) (i + 1) = at' t i := rfl
    have e' : ∀ m, flat ((x :: t).set (i + 1) m) = .int .i64 x.ds :: .int .i64 x.nx :: .int .i64 x.co :: .int .i64 x.hp :: flat (t.set i m) := fun m => rfl
    rw [ea, e', e, ih, show (i + 1) * 4 + 2 = (i * 4 + 2) + 1 + 1 + 1 + 1 by omega]
    simp only [List.set_cons_succ]
theorem BV.co {w : World} {b : Nat} {bs : List R} (h : BV w b bs) {i : Nat} (hi : i < bs.length) (c : Int) : BV (w.setCell ⟨b, i * 4 + 2, none⟩ (.int .i64 c)) b (bs.set i ⟨(at' bs i).ds, (at' bs i).nx, c, (at' bs i).hp⟩) := by
  have h' := heap_set (i := i * 4 + 2) (.int .i64 c) h
  simp only [List.setIfInBounds_toArray] at h'
  unfold BV
  rw [flat_co bs i c hi]
  exact h'
def DV (w : World) (b : Nat) (ds : List Bool) : Prop := w.heap[b]? = some (.cells (ds.map Value.bool).toArray 4 (0, 0))
theorem DV.lt {w : World} {b : Nat} {ds : List Bool} (h : DV w b ds) : b < w.heap.size := lt_block h
theorem DV.at {w : World} {b : Nat} {ds : List Bool} (h : DV w b ds) {i : Nat} (hi : i < ds.length) : w.cell? ⟨b, i, none⟩ = some (.bool (dn ds i)) := by
  unfold DV at h
  have : w.cell? ⟨b, i, none⟩ = (ds.map Value.bool)[i]? := by simp [World.cell?, h]
  rw [this, List.getElem?_map, List.getElem?_eq_getElem hi]
  unfold dn
  rw [List.getD_eq_getElem?_getD, List.getElem?_eq_getElem hi]; rfl
theorem DV.free {w : World} {b : Nat} {ds : List Bool} (h : DV w b ds) (i : Nat) : w.frozen? ⟨b, i, none⟩ = false := by unfold DV at h; simp [World.frozen?, h]
theorem DV.below {w w' : World} {b : Nat} {ds : List Bool} (h : DV w b ds) (hb : Below w.heap.size w w') : DV w' b ds := (hb.block b h.lt).trans h
theorem DV.set {w : World} {b : Nat} {ds : List Bool} (h : DV w b ds) (i : Nat) (x : Bool) : DV (w.setCell ⟨b, i, none⟩ (.bool x)) b (ds.set i x) := by
  have h' := heap_set (i := i) (.bool x) h
  simp only [List.setIfInBounds_toArray] at h'
  unfold DV
  rw [List.map_set]
  exact h'
theorem bsF_set {q : Nat} (h : q < 9) : (bs9 9).set q ⟨(at' (bs9 9) q).ds, (at' (bs9 9) q).nx, 0, (at' (bs9 9) q).hp⟩ = bsF q := by
  unfold bsF; rw [bs9_at h, if_pos h]; rfl
theorem makeB (w : World) : (Instr.makeSlice 88 (.int .i64 9) (.int .i64 9)).run Tryz.prog w = .ok (.slice (some ⟨w.heap.size, 0, none⟩) 9 9) (w.alloc (.cells (flat (bs9 0)).toArray 87)) := by
  obtain ⟨i0, hi, hz0, hz1, hz2⟩ := infoR
  have hmk := run_make (P := Tryz.prog) w 88 87 i0 _ Tryz.underlying88 hi hz0 .i64 .i64 9 9 (by omega) (by omega) (by rw [hz2]; omega) (by omega)
  rw [hz1] at hmk
  have e : madeCells (Value.agg #[.int .i64 0, .int .i64 0, .int .i64 0, .int .i64 0]).cells (Int.toNat 9 * 4) = (flat (bs9 0)).toArray := by kernel_rfl
  rw [e] at hmk
  exact hmk
theorem infoB : ∃ i, Tryz.prog.info? 4 = some i ∧ i.zero = some (.bool false) ∧ i.size = 1 ∧ i.bytes = 1 := by
  have h : (Tryz.prog.info? 4).map (fun i => (i.zero, i.size, i.bytes)) = some (some (.bool false), 1, 1) := by kernel_rfl
  obtain ⟨i, hi, he⟩ := Option.map_eq_some_iff.1 h
  simp only [Prod.mk.injEq] at he
  exact ⟨i, hi, he.1, he.2.1, he.2.2⟩
theorem makeD (w : World) : (Instr.makeSlice 138 (.int .i64 9) (.int .i64 9)).run Tryz.prog w = .ok (.slice (some ⟨w.heap.size, 0, none⟩) 9 9) (w.alloc (.cells (fs9.map Value.bool).toArray 4)) := by
  obtain ⟨i0, hi, hz0, hz1, hz2⟩ := infoB
  have hmk := run_make (P := Tryz.prog) w 138 4 i0 _ Tryz.underlying138 hi hz0 .i64 .i64 9 9 (by omega) (by omega) (by rw [hz2]; omega) (by omega)
  rw [hz1] at hmk
  have e : madeCells (Value.bool false).cells (Int.toNat 9 * 1) = (fs9.map Value.bool).toArray := by kernel_rfl
  rw [e] at hmk
  exact hmk
end Wd
end Go.Proofs.YtfooahhdikobeaaGreat
namespace Go.Proofs.YtfooahhdikobeaaGreat
open Go.ChangeShapes Go.WideShapes Go.ChangeAt Go.RowKit
set_option linter.unusedVariables false
set_option linter.unusedSimpArgs false
set_option maxRecDepth 100000
attribute [local go_sem ↓] Go.wp_at_zero Go.wp_at_succ
namespace Wd
open W1 Ro Rw Tw
/-- Nine routes, nine marks lie there, and all below B is as it was. -/
def Nin (w : World) (B D : Nat) (bs : List R) (ds : List Bool) : Prop := BV w B bs ∧ DV w D ds
theorem Nin.below {w w' : World} {B D : Nat} {bs : List R} {ds : List Bool} (h : Nin w B D bs ds) (hb : Below w.heap.size w w') : Nin w' B D bs ds := ⟨h.1.below hb, h.2.below hb⟩
theorem Nin.drew {w : World} {B D : Nat} {bs : List R} {ds : List Bool} (h : Nin w B D bs ds) : Nin w.drew B D bs ds := h
theorem infoT : Tryz.prog.underlying 87 = some (Tryz.prog.underlying 87).get! ∧ ((Tryz.prog.underlying 87).get!).isRow = true ∧ (Tryz.prog.info? 87).map (·.size) = some 4 := ⟨by kernel_rfl, by kernel_rfl, by kernel_rfl⟩
/-- A route is read whole, written whole. -/
theorem wpList_loadR {ops : Array Oper} {rest : List Oper} {op : Oper} {a : Act} {w : World} {Q : Exit → Act → World → Prop} (x : Operand) (hgd : op.guard = none) (ho : op.op = .load 87 x) {b : Nat} {m : R} (hx : a.eval x = .pointer (some ⟨b, 0, none⟩)) (h : Bx w b m)
    (hk : wpList Tryz.prog ops Q rest (a.put op.dst (.agg #[.int .i64 m.ds, .int .i64 m.nx, .int .i64 m.co, .int .i64 m.hp])) w) : wpList Tryz.prog ops Q (op :: rest) a w := by
  refine wpList_load_mid hgd 87 x ho b 0 hx m.cells _ (fun j v hv => ?_) infoT.1 infoT.2.1 (by rw [infoT.2.2]; rfl) hk
  rw [Nat.zero_add]
  obtain ⟨h0, h1, h2, h3⟩ := h
  unfold R.cells at hv
  match j, hv with
  | 0, hv => simp at hv; rw [← hv]; exact h0
  | 1, hv => simp at hv; rw [← hv]; exact h1
  | 2, hv => simp at hv; rw [← hv]; exact h2
  | 3, hv => simp at hv; rw [← hv]; exact h3
  | n + 4, hv => simp at hv
theorem wpList_storeR {ops : Array Oper} {rest : List Oper} {op : Oper} {a : Act} {w : World} {Q : Exit → Act → World → Prop} (x y : Operand) (hgd : op.guard = none) (ho : op.op = .store 87 x y) {b t : Nat} {m : R} {bs : List R} (hx : a.eval x = .pointer (some ⟨b, t * 4, none⟩)) (hy : a.eval y = .agg #[.int .i64 m.ds, .int .i64 m.nx, .int .i64 m.co, .int .i64 m.hp]) (h : BV w b bs) (ht : t < bs.length)
    (hk : wpList Tryz.prog ops Q rest (a.put op.dst undef) (put w b (t * 4) m)) : wpList Tryz.prog ops Q (op :: rest) a w := by
  refine wpList_store_mid hgd 87 x y ho b (t * 4) #[.int .i64 m.ds, .int .i64 m.nx, .int .i64 m.co, .int .i64 m.hp] hx hy (fun j hj => ⟨?_, h.free _⟩) (by rw [infoT.2.2]; rfl) (by kernel_rfl) hk
  have hj4 : j < 4 := hj
  rw [h.cell, flat_get bs t j hj4 ht]
  unfold R.cells
  match j, hj4 with
  | 0, _ | 1, _ | 2, _ | 3, _ => rfl
theorem nin_new (w : World) : Nin ((w.alloc (.cells (flat (bs9 0)).toArray 87)).alloc (.cells (fs9.map Value.bool).toArray 4)) w.heap.size (w.heap.size + 1) (bs9 0) fs9 := by
  have a1 : BV (w.alloc (.cells (flat (bs9 0)).toArray 87)) w.heap.size (bs9 0) := heap_alloc_new w _
  refine ⟨a1.below ((Below.refl _ _).alloc (Nat.le_refl _) _), ?_⟩
  have := heap_alloc_new (w.alloc (.cells (flat (bs9 0)).toArray 87)) (.cells (fs9.map Value.bool).toArray 4); rw [World.size_alloc] at this; exact this
def sP (w : World) (B D j k : Nat) (dj : Bool) (x y : R) : Prop := w.cell? ⟨D, j, none⟩ = some (.bool dj) ∧ At w B (j * 4) x ∧ At w B (k * 4) y
theorem sP_of {w : World} {B D j k : Nat} {bs : List R} {ds : List Bool} (h : Nin w B D bs ds) (hb : bs.length = 9) (hd : ds.length = 9) (hj : j < 9) (hk : k < 9) : sP w B D j k (dn ds j) (at' bs j) (at' bs k) := ⟨h.2.at (by omega), h.1.at (by omega), h.1.at (by omega)⟩
theorem sP.below {w w' : World} {B D j k : Nat} {dj : Bool} {x y : R} (h : sP w B D j k dj x y) (hb : Below w.heap.size w w') : sP w' B D j k dj x y :=
  ⟨(hb.cell (p := ⟨D, j, none⟩) (World.block_lt_of_cell? _ _ h.1)).trans h.1, h.2.1.below hb, h.2.2.below hb⟩
theorem sPc {w : World} {B D j k : Nat} {dj : Bool} {xa xn xc xh ya yn yc yh : Int} (h : sP w B D j k dj ⟨xa, xn, xc, xh⟩ ⟨ya, yn, yc, yh⟩) : sP w B D j k dj ⟨xa, xn, xc, xh⟩ ⟨ya, yn, yc, yh⟩ ∧ w.cell? ⟨D, j, none⟩ = some (.bool dj) ∧ w.cell? ⟨B, j * 4, none⟩ = some (.int .i64 xa) ∧ w.cell? ⟨B, j * 4 + 1, none⟩ = some (.int .i64 xn) ∧ w.cell? ⟨B, j * 4 + 2, none⟩ = some (.int .i64 xc) ∧ w.cell? ⟨B, j * 4 + 3, none⟩ = some (.int .i64 xh) ∧ w.cell? ⟨B, k * 4, none⟩ = some (.int .i64 ya) ∧ w.cell? ⟨B, k * 4 + 1, none⟩ = some (.int .i64 yn) ∧ w.cell? ⟨B, k * 4 + 2, none⟩ = some (.int .i64 yc) ∧ w.cell? ⟨B, k * 4 + 3, none⟩ = some (.int .i64 yh) :=
  ⟨h, h.1, h.2.1.1, h.2.1.2.1, h.2.1.2.2.1, h.2.1.2.2.2, h.2.2.1, h.2.2.2.1, h.2.2.2.2.1, h.2.2.2.2.2⟩
def sQ (w : World) (B D j X : Nat) (dj : Bool) (x y : R) : Prop := w.cell? ⟨D, j, none⟩ = some (.bool dj) ∧ At w B (j * 4) y ∧ Bx w X x
theorem sQ_of {w : World} {B D j X : Nat} {bs : List R} {ds : List Bool} {x : R} (h : Nin w B D bs ds) (hb : bs.length = 9) (hd : ds.length = 9) (hj : j < 9) (hx : Bx w X x) : sQ w B D j X (dn ds j) x (at' bs j) := ⟨h.2.at (by omega), h.1.at (by omega), hx⟩
theorem sQ.below {w w' : World} {B D j X : Nat} {dj : Bool} {x y : R} (h : sQ w B D j X dj x y) (hb : Below w.heap.size w w') : sQ w' B D j X dj x y :=
  ⟨(hb.cell (p := ⟨D, j, none⟩) (World.block_lt_of_cell? _ _ h.1)).trans h.1, h.2.1.below hb, h.2.2.below hb⟩
theorem sQc {w : World} {B D j X : Nat} {dj : Bool} {xa xn xc xh ya yn yc yh : Int} (h : sQ w B D j X dj ⟨xa, xn, xc, xh⟩ ⟨ya, yn, yc, yh⟩) : sQ w B D j X dj ⟨xa, xn, xc, xh⟩ ⟨ya, yn, yc, yh⟩ ∧ w.cell? ⟨D, j, none⟩ = some (.bool dj) ∧ w.cell? ⟨B, j * 4, none⟩ = some (.int .i64 ya) ∧ w.cell? ⟨B, j * 4 + 1, none⟩ = some (.int .i64 yn) ∧ w.cell? ⟨B, j * 4 + 2, none⟩ = some (.int .i64 yc) ∧ w.cell? ⟨B, j * 4 + 3, none⟩ = some (.int .i64 yh) ∧ w.cell? ⟨X, 0, none⟩ = some (.int .i64 xa) ∧ w.cell? ⟨X, 1, none⟩ = some (.int .i64 xn) ∧ w.cell? ⟨X, 2, none⟩ = some (.int .i64 xc) ∧ w.cell? ⟨X, 3, none⟩ = some (.int .i64 xh) :=
  ⟨h, h.1, h.2.1.1, h.2.1.2.1, h.2.1.2.2.1, h.2.1.2.2.2, h.2.2.1, h.2.2.2.1, h.2.2.2.2.1, h.2.2.2.2.2⟩
/-- A region of a function's text, by its number. -/
def regOf (n : Nat) : Code → Option Code
  | .region i ops d => match Nat.beq i n with
    | true => some (.region i ops d)
    | false => none
  | .loop c => regOf n c
  | .seq a b => match regOf n a with
    | some c => some c
    | none => regOf n b
  | .block _ c => regOf n c
  | .scope c => regOf n c
  | .cond _ a b => match regOf n a with
    | some c => some c
    | none => regOf n b
  | _ => none
noncomputable def reg (n : Nat) : Code := ((Tryz.f64.body.bind (regOf n)).getD .skip)
set_option maxHeartbeats 8000000 in
theorem r12a (KK : Act → World → Prop) (Q' : Exit → Act → World → Prop) (p0 p1 p2 p3 p4 p7 p10 p11 p12 p13 p14 p15 p16 p17 p18 p19 p20 p21 p22 p23 p24 p25 p26 p27 p28 p29 p30 p31 p32 p33 p34 p35 p36 p37 p38 p39 p40 p41 p42 p43 p44 p45 p46 p47 p48 p49 p50 p51 p52 p53 p54 p55 p56 p57 p58 p59 p60 p61 p62 p63 p64 p65 p66 p67 p68 p69 p70 p71 p72 p73 p74 p75 p76 p77 p78 p79 p80 p81 p82 p83 p84 p85 p86 p87 p88 p89 p90 p91 p92 p93 p94 p95 p96 p97 p98 p99 p100 p101 p102 p103 p104 p105 p106 p107 p108 p109 p110 p111 p112 p113 p114 p115 p116 p117 p118 p119 p120 p121 p122 p123 p124 p125 p126 p127 p128 p129 p130 p131 p132 p133 p134 p135 p136 p137 p138 p139 p140 : Value) (B D j k : Nat) (xa xn xc xh ya yn yc yh : Int) (w : World)
    (HSP : Hid (sP w B D j k true ⟨xa, xn, xc, xh⟩ ⟨ya, yn, yc, yh⟩)) (j0 : (0 : Int) ≤ (j : Int)) (j9 : (j : Int) < 9) (k0 : (0 : Int) ≤ (k : Int)) (k9 : (k : Int) < 9)
    (hKK : ∀ (r32 r33 r34 r35 r36 r37 r38 r39 r40 r41 r42 r43 r44 r45 r46 r47 r48 r49 r50 r51 r52 r53 r54 r55 r56 r57 r58 : Value) (wz : World), wz = w.drew → KK ⟨#[p0, p1, p2, p3, p4, .slice (some ⟨B, 0, none⟩) 9 9, .slice (some ⟨D, 0, none⟩) 9 9, p7, .int .i64 (k : Int), .int .i64 (j : Int), p10, p11, p12, p13, p14, p15, p16, p17, p18, p19, p20, p21, p22, p23, p24, p25, p26, p27, p28, p29, p30, p31, r32, r33, r34, r35, r36, r37, r38, r39, r40, r41, r42, r43, r44, r45, r46, r47, r48, r49, r50, r51, r52, r53, r54, r55, r56, r57, r58, .bool false, p60, p61, p62, p63, p64, p65, p66, p67, p68, p69, p70, p71, p72, p73, p74, p75, p76, p77, p78, p79, p80, p81, p82, p83, p84, p85, p86, p87, p88, p89, p90, p91, p92, p93, p94, p95, p96, p97, p98, p99, p100, p101, p102, p103, p104, p105, p106, p107, p108, p109, p110, p111, p112, p113, p114, p115, p116, p117, p118, p119, p120, p121, p122, p123, p124, p125, p126, p127, p128, p129, p130, p131, p132, p133, p134, p135, p136, p137, p138, p139, p140], []⟩ wz) :
    Code.wp Tryz.prog (reg 12) (Exit.then KK Q') ⟨#[p0, p1, p2, p3, p4, .slice (some ⟨B, 0, none⟩) 9 9, .slice (some ⟨D, 0, none⟩) 9 9, p7, .int .i64 (k : Int), .int .i64 (j : Int), p10, p11, p12, p13, p14, p15, p16, p17, p18, p19, p20, p21, p22, p23, p24, p25, p26, p27, p28, p29, p30, p31, p32, p33, p34, p35, p36, p37, p38, p39, p40, p41, p42, p43, p44, p45, p46, p47, p48, p49, p50, p51, p52, p53, p54, p55, p56, p57, p58, p59, p60, p61, p62, p63, p64, p65, p66, p67, p68, p69, p70, p71, p72, p73, p74, p75, p76, p77, p78, p79, p80, p81, p82, p83, p84, p85, p86, p87, p88, p89, p90, p91, p92, p93, p94, p95, p96, p97, p98, p99, p100, p101, p102, p103, p104, p105, p106, p107, p108, p109, p110, p111, p112, p113, p114, p115, p116, p117, p118, p119, p120, p121, p122, p123, p124, p125, p126, p127, p128, p129, p130, p131, p132, p133, p134, p135, p136, p137, p138, p139, p140], []⟩ w := by
  conv => arg 2; whnf
  refine wp_region_noPanic ?_
  refine wp_region_held_drew (S := fun w' => sP w' B D j k true ⟨xa, xn, xc, xh⟩ ⟨ya, yn, yc, yh⟩ ∧ w'.cell? ⟨D, j, none⟩ = some (.bool true) ∧ w'.cell? ⟨B, j * 4, none⟩ = some (.int .i64 xa) ∧ w'.cell? ⟨B, j * 4 + 1, none⟩ = some (.int .i64 xn) ∧ w'.cell? ⟨B, j * 4 + 2, none⟩ = some (.int .i64 xc) ∧ w'.cell? ⟨B, j * 4 + 3, none⟩ = some (.int .i64 xh) ∧ w'.cell? ⟨B, k * 4, none⟩ = some (.int .i64 ya) ∧ w'.cell? ⟨B, k * 4 + 1, none⟩ = some (.int .i64 yn) ∧ w'.cell? ⟨B, k * 4 + 2, none⟩ = some (.int .i64 yc) ∧ w'.cell? ⟨B, k * 4 + 3, none⟩ = some (.int .i64 yh)) (by kernel_rfl) (sPc (unhide HSP)) (fun hHeld => ?_)
  refine Rg.t 0 32 ?_
  refine Rg.t 1 33 ?_
  refine Rg.t 2 34 ?_
  refine Rg.t 3 35 ?_
  refine Rg.t 4 36 ?_
  refine Rg.t 5 37 ?_
  refine Rg.s 6 38 ?_
  refine Rg.s 7 39 ?_
  refine Rg.s 8 40 ?_
  refine Rg.s 9 41 ?_
  refine Rg.s 10 42 ?_
  refine Rg.s 11 43 ?_
  refine Rg.t 12 44 ?_
  refine Rg.t 13 45 ?_
  refine Rg.s 14 46 ?_
  refine Rg.s 15 47 ?_
  refine Rg.s 16 48 ?_
  refine Rg.s 17 49 ?_
  refine Rg.s 18 50 ?_
  refine Rg.s 19 51 ?_
  refine Rg.s 20 52 ?_
  refine Rg.s 21 53 ?_
  refine Rg.s 22 54 ?_
  refine Rg.s 23 55 ?_
  refine Rg.s 24 56 ?_
  refine Rg.s 25 57 ?_
  refine Rg.s 26 58 ?_
  refine Rg.t 27 59 ?_
  refine wpAnyH_done (by kernel_rfl) (NoPanic.normal ?_) _
  clear hHeld
  exact hKK _ _ _ _ _ _ _ _ _ _ _ _ _ _ _ _ _ _ _ _ _ _ _ _ _ _ _ _ rfl
set_option maxHeartbeats 8000000 in
theorem r12b (KK : Act → World → Prop) (Q' : Exit → Act → World → Prop) (p0 p1 p2 p3 p4 p7 p10 p11 p12 p13 p14 p15 p16 p17 p18 p19 p20 p21 p22 p23 p24 p25 p26 p27 p28 p29 p30 p31 p32 p33 p34 p35 p36 p37 p38 p39 p40 p41 p42 p43 p44 p45 p46 p47 p48 p49 p50 p51 p52 p53 p54 p55 p56 p57 p58 p59 p60 p61 p62 p63 p64 p65 p66 p67 p68 p69 p70 p71 p72 p73 p74 p75 p76 p77 p78 p79 p80 p81 p82 p83 p84 p85 p86 p87 p88 p89 p90 p91 p92 p93 p94 p95 p96 p97 p98 p99 p100 p101 p102 p103 p104 p105 p106 p107 p108 p109 p110 p111 p112 p113 p114 p115 p116 p117 p118 p119 p120 p121 p122 p123 p124 p125 p126 p127 p128 p129 p130 p131 p132 p133 p134 p135 p136 p137 p138 p139 p140 : Value) (B D j k : Nat) (xa xn xc xh ya yn yc yh : Int) (w : World)
    (HSP : Hid (sP w B D j k false ⟨xa, xn, xc, xh⟩ ⟨ya, yn, yc, yh⟩)) (j0 : (0 : Int) ≤ (j : Int)) (j9 : (j : Int) < 9) (k0 : (0 : Int) ≤ (k : Int)) (k9 : (k : Int) < 9) (hxd : decide (0 ≤ xc) = false)
    (hKK : ∀ (r32 r33 r34 r35 r36 r37 r38 r39 r40 r41 r42 r43 r44 r45 r46 r47 r48 r49 r50 r51 r52 r53 r54 r55 r56 r57 r58 : Value) (wz : World), wz = w.drew → KK ⟨#[p0, p1, p2, p3, p4, .slice (some ⟨B, 0, none⟩) 9 9, .slice (some ⟨D, 0, none⟩) 9 9, p7, .int .i64 (k : Int), .int .i64 (j : Int), p10, p11, p12, p13, p14, p15, p16, p17, p18, p19, p20, p21, p22, p23, p24, p25, p26, p27, p28, p29, p30, p31, r32, r33, r34, r35, r36, r37, r38, r39, r40, r41, r42, r43, r44, r45, r46, r47, r48, r49, r50, r51, r52, r53, r54, r55, r56, r57, r58, .bool false, p60, p61, p62, p63, p64, p65, p66, p67, p68, p69, p70, p71, p72, p73, p74, p75, p76, p77, p78, p79, p80, p81, p82, p83, p84, p85, p86, p87, p88, p89, p90, p91, p92, p93, p94, p95, p96, p97, p98, p99, p100, p101, p102, p103, p104, p105, p106, p107, p108, p109, p110, p111, p112, p113, p114, p115, p116, p117, p118, p119, p120, p121, p122, p123, p124, p125, p126, p127, p128, p129, p130, p131, p132, p133, p134, p135, p136, p137, p138, p139, p140], []⟩ wz) :
    Code.wp Tryz.prog (reg 12) (Exit.then KK Q') ⟨#[p0, p1, p2, p3, p4, .slice (some ⟨B, 0, none⟩) 9 9, .slice (some ⟨D, 0, none⟩) 9 9, p7, .int .i64 (k : Int), .int .i64 (j : Int), p10, p11, p12, p13, p14, p15, p16, p17, p18, p19, p20, p21, p22, p23, p24, p25, p26, p27, p28, p29, p30, p31, p32, p33, p34, p35, p36, p37, p38, p39, p40, p41, p42, p43, p44, p45, p46, p47, p48, p49, p50, p51, p52, p53, p54, p55, p56, p57, p58, p59, p60, p61, p62, p63, p64, p65, p66, p67, p68, p69, p70, p71, p72, p73, p74, p75, p76, p77, p78, p79, p80, p81, p82, p83, p84, p85, p86, p87, p88, p89, p90, p91, p92, p93, p94, p95, p96, p97, p98, p99, p100, p101, p102, p103, p104, p105, p106, p107, p108, p109, p110, p111, p112, p113, p114, p115, p116, p117, p118, p119, p120, p121, p122, p123, p124, p125, p126, p127, p128, p129, p130, p131, p132, p133, p134, p135, p136, p137, p138, p139, p140], []⟩ w := by
  conv => arg 2; whnf
  refine wp_region_noPanic ?_
  refine wp_region_held_drew (S := fun w' => sP w' B D j k false ⟨xa, xn, xc, xh⟩ ⟨ya, yn, yc, yh⟩ ∧ w'.cell? ⟨D, j, none⟩ = some (.bool false) ∧ w'.cell? ⟨B, j * 4, none⟩ = some (.int .i64 xa) ∧ w'.cell? ⟨B, j * 4 + 1, none⟩ = some (.int .i64 xn) ∧ w'.cell? ⟨B, j * 4 + 2, none⟩ = some (.int .i64 xc) ∧ w'.cell? ⟨B, j * 4 + 3, none⟩ = some (.int .i64 xh) ∧ w'.cell? ⟨B, k * 4, none⟩ = some (.int .i64 ya) ∧ w'.cell? ⟨B, k * 4 + 1, none⟩ = some (.int .i64 yn) ∧ w'.cell? ⟨B, k * 4 + 2, none⟩ = some (.int .i64 yc) ∧ w'.cell? ⟨B, k * 4 + 3, none⟩ = some (.int .i64 yh)) (by kernel_rfl) (sPc (unhide HSP)) (fun hHeld => ?_)
  refine Rg.t 0 32 ?_
  refine Rg.t 1 33 ?_
  refine Rg.t 2 34 ?_
  refine Rg.t 3 35 ?_
  refine Rg.t 4 36 ?_
  refine Rg.t 5 37 ?_
  refine Rg.t 6 38 ?_
  refine Rg.t 7 39 ?_
  refine Rg.t 8 40 ?_
  refine Rg.t 9 41 ?_
  refine Rg.t 10 42 ?_
  refine Rg.t 11 43 ?_
  refine Rg.t 12 44 ?_
  refine Rg.t 13 45 ?_
  refine Rg.s 14 46 ?_
  refine Rg.s 15 47 ?_
  refine Rg.s 16 48 ?_
  refine Rg.s 17 49 ?_
  refine Rg.s 18 50 ?_
  refine Rg.s 19 51 ?_
  refine Rg.s 20 52 ?_
  refine Rg.s 21 53 ?_
  refine Rg.s 22 54 ?_
  refine Rg.s 23 55 ?_
  refine Rg.s 24 56 ?_
  refine Rg.s 25 57 ?_
  refine Rg.s 26 58 ?_
  refine Rg.t 27 59 ?_
  refine wpAnyH_done (by kernel_rfl) (NoPanic.normal ?_) _
  clear hHeld
  exact hKK _ _ _ _ _ _ _ _ _ _ _ _ _ _ _ _ _ _ _ _ _ _ _ _ _ _ _ _ rfl
set_option maxHeartbeats 8000000 in
theorem r12c (KK : Act → World → Prop) (Q' : Exit → Act → World → Prop) (p0 p1 p2 p3 p4 p7 p10 p11 p12 p13 p14 p15 p16 p17 p18 p19 p20 p21 p22 p23 p24 p25 p26 p27 p28 p29 p30 p31 p32 p33 p34 p35 p36 p37 p38 p39 p40 p41 p42 p43 p44 p45 p46 p47 p48 p49 p50 p51 p52 p53 p54 p55 p56 p57 p58 p59 p60 p61 p62 p63 p64 p65 p66 p67 p68 p69 p70 p71 p72 p73 p74 p75 p76 p77 p78 p79 p80 p81 p82 p83 p84 p85 p86 p87 p88 p89 p90 p91 p92 p93 p94 p95 p96 p97 p98 p99 p100 p101 p102 p103 p104 p105 p106 p107 p108 p109 p110 p111 p112 p113 p114 p115 p116 p117 p118 p119 p120 p121 p122 p123 p124 p125 p126 p127 p128 p129 p130 p131 p132 p133 p134 p135 p136 p137 p138 p139 p140 : Value) (B D j k : Nat) (xa xn xc xh ya yn yc yh : Int) (w : World)
    (HSP : Hid (sP w B D j k false ⟨xa, xn, xc, xh⟩ ⟨ya, yn, yc, yh⟩)) (j0 : (0 : Int) ≤ (j : Int)) (j9 : (j : Int) < 9) (k0 : (0 : Int) ≤ (k : Int)) (k9 : (k : Int) < 9) (hxc : 0 ≤ xc) (hxd : decide (0 ≤ xc) = true) (hk' : ((k : Int) == 0) = true)
    (hKK : ∀ (r32 r33 r34 r35 r36 r37 r38 r39 r40 r41 r42 r43 r44 r45 r46 r47 r48 r49 r50 r51 r52 r53 r54 r55 r56 r57 r58 : Value) (wz : World), wz = w.drew → KK ⟨#[p0, p1, p2, p3, p4, .slice (some ⟨B, 0, none⟩) 9 9, .slice (some ⟨D, 0, none⟩) 9 9, p7, .int .i64 (k : Int), .int .i64 (j : Int), p10, p11, p12, p13, p14, p15, p16, p17, p18, p19, p20, p21, p22, p23, p24, p25, p26, p27, p28, p29, p30, p31, r32, r33, r34, r35, r36, r37, r38, r39, r40, r41, r42, r43, r44, r45, r46, r47, r48, r49, r50, r51, r52, r53, r54, r55, r56, r57, r58, .bool true, p60, p61, p62, p63, p64, p65, p66, p67, p68, p69, p70, p71, p72, p73, p74, p75, p76, p77, p78, p79, p80, p81, p82, p83, p84, p85, p86, p87, p88, p89, p90, p91, p92, p93, p94, p95, p96, p97, p98, p99, p100, p101, p102, p103, p104, p105, p106, p107, p108, p109, p110, p111, p112, p113, p114, p115, p116, p117, p118, p119, p120, p121, p122, p123, p124, p125, p126, p127, p128, p129, p130, p131, p132, p133, p134, p135, p136, p137, p138, p139, p140], []⟩ wz) :
    Code.wp Tryz.prog (reg 12) (Exit.then KK Q') ⟨#[p0, p1, p2, p3, p4, .slice (some ⟨B, 0, none⟩) 9 9, .slice (some ⟨D, 0, none⟩) 9 9, p7, .int .i64 (k : Int), .int .i64 (j : Int), p10, p11, p12, p13, p14, p15, p16, p17, p18, p19, p20, p21, p22, p23, p24, p25, p26, p27, p28, p29, p30, p31, p32, p33, p34, p35, p36, p37, p38, p39, p40, p41, p42, p43, p44, p45, p46, p47, p48, p49, p50, p51, p52, p53, p54, p55, p56, p57, p58, p59, p60, p61, p62, p63, p64, p65, p66, p67, p68, p69, p70, p71, p72, p73, p74, p75, p76, p77, p78, p79, p80, p81, p82, p83, p84, p85, p86, p87, p88, p89, p90, p91, p92, p93, p94, p95, p96, p97, p98, p99, p100, p101, p102, p103, p104, p105, p106, p107, p108, p109, p110, p111, p112, p113, p114, p115, p116, p117, p118, p119, p120, p121, p122, p123, p124, p125, p126, p127, p128, p129, p130, p131, p132, p133, p134, p135, p136, p137, p138, p139, p140], []⟩ w := by
  conv => arg 2; whnf
  refine wp_region_noPanic ?_
  refine wp_region_held_drew (S := fun w' => sP w' B D j k false ⟨xa, xn, xc, xh⟩ ⟨ya, yn, yc, yh⟩ ∧ w'.cell? ⟨D, j, none⟩ = some (.bool false) ∧ w'.cell? ⟨B, j * 4, none⟩ = some (.int .i64 xa) ∧ w'.cell? ⟨B, j * 4 + 1, none⟩ = some (.int .i64 xn) ∧ w'.cell? ⟨B, j * 4 + 2, none⟩ = some (.int .i64 xc) ∧ w'.cell? ⟨B, j * 4 + 3, none⟩ = some (.int .i64 xh) ∧ w'.cell? ⟨B, k * 4, none⟩ = some (.int .i64 ya) ∧ w'.cell? ⟨B, k * 4 + 1, none⟩ = some (.int .i64 yn) ∧ w'.cell? ⟨B, k * 4 + 2, none⟩ = some (.int .i64 yc) ∧ w'.cell? ⟨B, k * 4 + 3, none⟩ = some (.int .i64 yh)) (by kernel_rfl) (sPc (unhide HSP)) (fun hHeld => ?_)
  refine Rg.t 0 32 ?_
  refine Rg.t 1 33 ?_
  refine Rg.t 2 34 ?_
  refine Rg.t 3 35 ?_
  refine Rg.t 4 36 ?_
  refine Rg.t 5 37 ?_
  refine Rg.t 6 38 ?_
  refine Rg.t 7 39 ?_
  refine Rg.t 8 40 ?_
  refine Rg.t 9 41 ?_
  refine Rg.t 10 42 ?_
  refine Rg.t 11 43 ?_
  refine Rg.t 12 44 ?_
  refine Rg.t 13 45 ?_
  refine Rg.t 14 46 ?_
  refine Rg.t 15 47 ?_
  refine Rg.t 16 48 ?_
  refine Rg.s 17 49 ?_
  refine Rg.s 18 50 ?_
  refine Rg.s 19 51 ?_
  refine Rg.s 20 52 ?_
  refine Rg.s 21 53 ?_
  refine Rg.s 22 54 ?_
  refine Rg.s 23 55 ?_
  refine Rg.s 24 56 ?_
  refine Rg.s 25 57 ?_
  refine Rg.t 26 58 ?_
  refine Rg.t 27 59 ?_
  refine wpAnyH_done (by kernel_rfl) (NoPanic.normal ?_) _
  clear hHeld
  exact hKK _ _ _ _ _ _ _ _ _ _ _ _ _ _ _ _ _ _ _ _ _ _ _ _ _ _ _ _ rfl
set_option maxHeartbeats 8000000 in
theorem r12d (KK : Act → World → Prop) (Q' : Exit → Act → World → Prop) (p0 p1 p2 p3 p4 p7 p10 p11 p12 p13 p14 p15 p16 p17 p18 p19 p20 p21 p22 p23 p24 p25 p26 p27 p28 p29 p30 p31 p32 p33 p34 p35 p36 p37 p38 p39 p40 p41 p42 p43 p44 p45 p46 p47 p48 p49 p50 p51 p52 p53 p54 p55 p56 p57 p58 p59 p60 p61 p62 p63 p64 p65 p66 p67 p68 p69 p70 p71 p72 p73 p74 p75 p76 p77 p78 p79 p80 p81 p82 p83 p84 p85 p86 p87 p88 p89 p90 p91 p92 p93 p94 p95 p96 p97 p98 p99 p100 p101 p102 p103 p104 p105 p106 p107 p108 p109 p110 p111 p112 p113 p114 p115 p116 p117 p118 p119 p120 p121 p122 p123 p124 p125 p126 p127 p128 p129 p130 p131 p132 p133 p134 p135 p136 p137 p138 p139 p140 : Value) (B D j k : Nat) (xa xn xc xh ya yn yc yh : Int) (w : World)
    (HSP : Hid (sP w B D j k false ⟨xa, xn, xc, xh⟩ ⟨ya, yn, yc, yh⟩)) (j0 : (0 : Int) ≤ (j : Int)) (j9 : (j : Int) < 9) (k0 : (0 : Int) ≤ (k : Int)) (k9 : (k : Int) < 9) (hxc : 0 ≤ xc) (hxd : decide (0 ≤ xc) = true) (hk' : ((k : Int) == 0) = false)
    (hKK : ∀ (r32 r33 r34 r35 r36 r37 r38 r39 r40 r41 r42 r43 r44 r45 r46 r47 r48 r49 r50 r51 r52 r53 r54 r55 r56 r57 r58 : Value) (wz : World), Below w.heap.size w wz → KK ⟨#[p0, p1, p2, p3, p4, .slice (some ⟨B, 0, none⟩) 9 9, .slice (some ⟨D, 0, none⟩) 9 9, p7, .int .i64 (k : Int), .int .i64 (j : Int), p10, p11, p12, p13, p14, p15, p16, p17, p18, p19, p20, p21, p22, p23, p24, p25, p26, p27, p28, p29, p30, p31, r32, r33, r34, r35, r36, r37, r38, r39, r40, r41, r42, r43, r44, r45, r46, r47, r48, r49, r50, r51, r52, r53, r54, r55, r56, r57, r58, .bool (btB ⟨xa, xn, xc, xh⟩ ⟨ya, yn, yc, yh⟩), p60, p61, p62, p63, p64, p65, p66, p67, p68, p69, p70, p71, p72, p73, p74, p75, p76, p77, p78, p79, p80, p81, p82, p83, p84, p85, p86, p87, p88, p89, p90, p91, p92, p93, p94, p95, p96, p97, p98, p99, p100, p101, p102, p103, p104, p105, p106, p107, p108, p109, p110, p111, p112, p113, p114, p115, p116, p117, p118, p119, p120, p121, p122, p123, p124, p125, p126, p127, p128, p129, p130, p131, p132, p133, p134, p135, p136, p137, p138, p139, p140], []⟩ wz) :
    Code.wp Tryz.prog (reg 12) (Exit.then KK Q') ⟨#[p0, p1, p2, p3, p4, .slice (some ⟨B, 0, none⟩) 9 9, .slice (some ⟨D, 0, none⟩) 9 9, p7, .int .i64 (k : Int), .int .i64 (j : Int), p10, p11, p12, p13, p14, p15, p16, p17, p18, p19, p20, p21, p22, p23, p24, p25, p26, p27, p28, p29, p30, p31, p32, p33, p34, p35, p36, p37, p38, p39, p40, p41, p42, p43, p44, p45, p46, p47, p48, p49, p50, p51, p52, p53, p54, p55, p56, p57, p58, p59, p60, p61, p62, p63, p64, p65, p66, p67, p68, p69, p70, p71, p72, p73, p74, p75, p76, p77, p78, p79, p80, p81, p82, p83, p84, p85, p86, p87, p88, p89, p90, p91, p92, p93, p94, p95, p96, p97, p98, p99, p100, p101, p102, p103, p104, p105, p106, p107, p108, p109, p110, p111, p112, p113, p114, p115, p116, p117, p118, p119, p120, p121, p122, p123, p124, p125, p126, p127, p128, p129, p130, p131, p132, p133, p134, p135, p136, p137, p138, p139, p140], []⟩ w := by
  conv => arg 2; whnf
  obtain ⟨T, hT⟩ : ∃ T, btB (⟨xa, xn, xc, xh⟩ : R) ⟨ya, yn, yc, yh⟩ = T := ⟨_, rfl⟩
  rw [hT] at hKK
  have HBT := hide hT
  clear hT
  refine wp_region_noPanic ?_
  refine wp_region_held_drew (S := fun w' => sP w' B D j k false ⟨xa, xn, xc, xh⟩ ⟨ya, yn, yc, yh⟩ ∧ w'.cell? ⟨D, j, none⟩ = some (.bool false) ∧ w'.cell? ⟨B, j * 4, none⟩ = some (.int .i64 xa) ∧ w'.cell? ⟨B, j * 4 + 1, none⟩ = some (.int .i64 xn) ∧ w'.cell? ⟨B, j * 4 + 2, none⟩ = some (.int .i64 xc) ∧ w'.cell? ⟨B, j * 4 + 3, none⟩ = some (.int .i64 xh) ∧ w'.cell? ⟨B, k * 4, none⟩ = some (.int .i64 ya) ∧ w'.cell? ⟨B, k * 4 + 1, none⟩ = some (.int .i64 yn) ∧ w'.cell? ⟨B, k * 4 + 2, none⟩ = some (.int .i64 yc) ∧ w'.cell? ⟨B, k * 4 + 3, none⟩ = some (.int .i64 yh)) (by kernel_rfl) (sPc (unhide HSP)) (fun hHeld => ?_)
  refine Rg.t 0 32 ?_
  refine Rg.t 1 33 ?_
  refine Rg.t 2 34 ?_
  refine Rg.t 3 35 ?_
  refine Rg.t 4 36 ?_
  refine Rg.t 5 37 ?_
  refine Rg.t 6 38 ?_
  refine Rg.t 7 39 ?_
  refine Rg.t 8 40 ?_
  refine Rg.t 9 41 ?_
  refine Rg.t 10 42 ?_
  refine Rg.t 11 43 ?_
  refine Rg.t 12 44 ?_
  refine Rg.t 13 45 ?_
  refine Rg.t 14 46 ?_
  refine Rg.t 15 47 ?_
  refine Rg.t 16 48 ?_
  refine Rg.t 17 49 ?_
  refine Rg.t 18 50 ?_
  refine Rg.t 19 51 ?_
  refine Rg.t 20 52 ?_
  refine Rg.t 21 53 ?_
  refine Rg.t 22 54 ?_
  refine Rg.t 23 55 ?_
  refine Rg.t 24 56 ?_
  (refine Rg.o 25 (fun K hK => ?_); go_simp)
  refine (l11Less ⟨xa, xn, xc, xh⟩ ⟨ya, yn, yc, yh⟩ _).mono ?_
  rintro e w5 ⟨rfl, b5_⟩
  rw [unhide HBT]
  have b5 : Below w.heap.size w w5 := (Below.refl _ _).drew.trans b5_
  have HSP5 := hide ((unhide HSP).below b5)
  have HB5 := hide b5
  clear b5 b5_ hHeld HSP
  refine hK.out _ _ (sPc (unhide HSP5)) (fun hHeld => ?_)
  clear hK K
  (try simp only [Act.put, List.setIfInBounds_toArray, List.set_cons_zero, List.set_cons_succ])
  refine Rg.t 26 58 ?_
  refine Rg.t 27 59 ?_
  refine wpAnyH_done (by kernel_rfl) (NoPanic.normal ?_) _
  clear hHeld
  exact hKK _ _ _ _ _ _ _ _ _ _ _ _ _ _ _ _ _ _ _ _ _ _ _ _ _ _ _ _ (unhide HB5)
set_option maxHeartbeats 8000000 in
theorem r25a (KK : Act → World → Prop) (Q' : Exit → Act → World → Prop) (p0 p1 p2 p3 p4 p7 p8 p9 p10 p13 p14 p15 p16 p17 p18 p19 p20 p21 p22 p23 p24 p25 p26 p27 p28 p29 p30 p31 p32 p33 p34 p35 p36 p37 p38 p39 p40 p41 p42 p43 p44 p45 p46 p47 p48 p49 p50 p51 p52 p53 p54 p55 p56 p57 p58 p59 p60 p61 p62 p63 p64 p65 p66 p67 p68 p69 p70 p71 p72 p73 p74 p75 p76 p77 p78 p79 p80 p81 p82 p83 p84 p85 p86 p87 p88 p89 p90 p91 p92 p93 p94 p95 p96 p97 p98 p99 p100 p101 p102 p103 p104 p105 p106 p107 p108 p109 p110 p111 p112 p113 p114 p115 p116 p117 p118 p119 p120 p121 p122 p123 p124 p125 p126 p127 p128 p129 p130 p131 p132 p133 p134 p135 p136 p137 p138 p139 p140 : Value) (B D t X : Nat) (xa xn xc xh ya yn yc yh : Int) (w : World)
    (HSQ : Hid (sQ w B D t X true ⟨xa, xn, xc, xh⟩ ⟨ya, yn, yc, yh⟩)) (t0 : (0 : Int) ≤ (t : Int)) (t9 : (t : Int) < 9)
    (hKK : ∀ (r116 r117 r118 r119 r120 r121 r122 r123 r124 r125 r126 r127 r128 r129 r130 r131 r132 r133 r134 r135 : Value) (wz : World), wz = w.drew → KK ⟨#[p0, p1, p2, p3, p4, .slice (some ⟨B, 0, none⟩) 9 9, .slice (some ⟨D, 0, none⟩) 9 9, p7, p8, p9, p10, .int .i64 (t : Int), .pointer (some ⟨X, 0, none⟩), p13, p14, p15, p16, p17, p18, p19, p20, p21, p22, p23, p24, p25, p26, p27, p28, p29, p30, p31, p32, p33, p34, p35, p36, p37, p38, p39, p40, p41, p42, p43, p44, p45, p46, p47, p48, p49, p50, p51, p52, p53, p54, p55, p56, p57, p58, p59, p60, p61, p62, p63, p64, p65, p66, p67, p68, p69, p70, p71, p72, p73, p74, p75, p76, p77, p78, p79, p80, p81, p82, p83, p84, p85, p86, p87, p88, p89, p90, p91, p92, p93, p94, p95, p96, p97, p98, p99, p100, p101, p102, p103, p104, p105, p106, p107, p108, p109, p110, p111, p112, p113, p114, p115, r116, r117, r118, r119, r120, r121, r122, r123, r124, r125, r126, r127, r128, r129, r130, r131, r132, r133, r134, r135, .bool false, p137, p138, p139, p140], []⟩ wz) :
    Code.wp Tryz.prog (reg 25) (Exit.then KK Q') ⟨#[p0, p1, p2, p3, p4, .slice (some ⟨B, 0, none⟩) 9 9, .slice (some ⟨D, 0, none⟩) 9 9, p7, p8, p9, p10, .int .i64 (t : Int), .pointer (some ⟨X, 0, none⟩), p13, p14, p15, p16, p17, p18, p19, p20, p21, p22, p23, p24, p25, p26, p27, p28, p29, p30, p31, p32, p33, p34, p35, p36, p37, p38, p39, p40, p41, p42, p43, p44, p45, p46, p47, p48, p49, p50, p51, p52, p53, p54, p55, p56, p57, p58, p59, p60, p61, p62, p63, p64, p65, p66, p67, p68, p69, p70, p71, p72, p73, p74, p75, p76, p77, p78, p79, p80, p81, p82, p83, p84, p85, p86, p87, p88, p89, p90, p91, p92, p93, p94, p95, p96, p97, p98, p99, p100, p101, p102, p103, p104, p105, p106, p107, p108, p109, p110, p111, p112, p113, p114, p115, p116, p117, p118, p119, p120, p121, p122, p123, p124, p125, p126, p127, p128, p129, p130, p131, p132, p133, p134, p135, p136, p137, p138, p139, p140], []⟩ w := by
  conv => arg 2; whnf
  refine wp_region_noPanic ?_
  refine wp_region_held_drew (S := fun w' => sQ w' B D t X true ⟨xa, xn, xc, xh⟩ ⟨ya, yn, yc, yh⟩ ∧ w'.cell? ⟨D, t, none⟩ = some (.bool true) ∧ w'.cell? ⟨B, t * 4, none⟩ = some (.int .i64 ya) ∧ w'.cell? ⟨B, t * 4 + 1, none⟩ = some (.int .i64 yn) ∧ w'.cell? ⟨B, t * 4 + 2, none⟩ = some (.int .i64 yc) ∧ w'.cell? ⟨B, t * 4 + 3, none⟩ = some (.int .i64 yh) ∧ w'.cell? ⟨X, 0, none⟩ = some (.int .i64 xa) ∧ w'.cell? ⟨X, 1, none⟩ = some (.int .i64 xn) ∧ w'.cell? ⟨X, 2, none⟩ = some (.int .i64 xc) ∧ w'.cell? ⟨X, 3, none⟩ = some (.int .i64 xh)) (by kernel_rfl) (sQc (unhide HSQ)) (fun hHeld => ?_)
  refine Rg.t 0 116 ?_
  refine Rg.t 1 117 ?_
  refine Rg.t 2 118 ?_
  refine Rg.t 3 119 ?_
  refine Rg.t 4 120 ?_
  refine Rg.t 5 121 ?_
  refine Rg.s 6 122 ?_
  refine Rg.s 7 123 ?_
  refine Rg.s 8 124 ?_
  refine Rg.s 9 125 ?_
  refine Rg.s 10 126 ?_
  refine Rg.s 11 127 ?_
  refine Rg.s 12 128 ?_
  refine Rg.s 13 129 ?_
  refine Rg.s 14 130 ?_
  refine Rg.s 15 131 ?_
  refine Rg.s 16 132 ?_
  refine Rg.s 17 133 ?_
  refine Rg.s 18 134 ?_
  refine Rg.s 19 135 ?_
  refine Rg.t 20 136 ?_
  refine wpAnyH_done (by kernel_rfl) (NoPanic.normal ?_) _
  clear hHeld
  exact hKK _ _ _ _ _ _ _ _ _ _ _ _ _ _ _ _ _ _ _ _ _ rfl
set_option maxHeartbeats 8000000 in
theorem r25b (KK : Act → World → Prop) (Q' : Exit → Act → World → Prop) (p0 p1 p2 p3 p4 p7 p8 p9 p10 p13 p14 p15 p16 p17 p18 p19 p20 p21 p22 p23 p24 p25 p26 p27 p28 p29 p30 p31 p32 p33 p34 p35 p36 p37 p38 p39 p40 p41 p42 p43 p44 p45 p46 p47 p48 p49 p50 p51 p52 p53 p54 p55 p56 p57 p58 p59 p60 p61 p62 p63 p64 p65 p66 p67 p68 p69 p70 p71 p72 p73 p74 p75 p76 p77 p78 p79 p80 p81 p82 p83 p84 p85 p86 p87 p88 p89 p90 p91 p92 p93 p94 p95 p96 p97 p98 p99 p100 p101 p102 p103 p104 p105 p106 p107 p108 p109 p110 p111 p112 p113 p114 p115 p116 p117 p118 p119 p120 p121 p122 p123 p124 p125 p126 p127 p128 p129 p130 p131 p132 p133 p134 p135 p136 p137 p138 p139 p140 : Value) (B D t X : Nat) (xa xn xc xh ya yn yc yh : Int) (w : World)
    (HSQ : Hid (sQ w B D t X false ⟨xa, xn, xc, xh⟩ ⟨ya, yn, yc, yh⟩)) (t0 : (0 : Int) ≤ (t : Int)) (t9 : (t : Int) < 9) (hyc : yc < 0) (hyd : decide (yc < 0) = true)
    (hKK : ∀ (r116 r117 r118 r119 r120 r121 r122 r123 r124 r125 r126 r127 r128 r129 r130 r131 r132 r133 r134 r135 : Value) (wz : World), wz = w.drew → KK ⟨#[p0, p1, p2, p3, p4, .slice (some ⟨B, 0, none⟩) 9 9, .slice (some ⟨D, 0, none⟩) 9 9, p7, p8, p9, p10, .int .i64 (t : Int), .pointer (some ⟨X, 0, none⟩), p13, p14, p15, p16, p17, p18, p19, p20, p21, p22, p23, p24, p25, p26, p27, p28, p29, p30, p31, p32, p33, p34, p35, p36, p37, p38, p39, p40, p41, p42, p43, p44, p45, p46, p47, p48, p49, p50, p51, p52, p53, p54, p55, p56, p57, p58, p59, p60, p61, p62, p63, p64, p65, p66, p67, p68, p69, p70, p71, p72, p73, p74, p75, p76, p77, p78, p79, p80, p81, p82, p83, p84, p85, p86, p87, p88, p89, p90, p91, p92, p93, p94, p95, p96, p97, p98, p99, p100, p101, p102, p103, p104, p105, p106, p107, p108, p109, p110, p111, p112, p113, p114, p115, r116, r117, r118, r119, r120, r121, r122, r123, r124, r125, r126, r127, r128, r129, r130, r131, r132, r133, r134, r135, .bool true, p137, p138, p139, p140], []⟩ wz) :
    Code.wp Tryz.prog (reg 25) (Exit.then KK Q') ⟨#[p0, p1, p2, p3, p4, .slice (some ⟨B, 0, none⟩) 9 9, .slice (some ⟨D, 0, none⟩) 9 9, p7, p8, p9, p10, .int .i64 (t : Int), .pointer (some ⟨X, 0, none⟩), p13, p14, p15, p16, p17, p18, p19, p20, p21, p22, p23, p24, p25, p26, p27, p28, p29, p30, p31, p32, p33, p34, p35, p36, p37, p38, p39, p40, p41, p42, p43, p44, p45, p46, p47, p48, p49, p50, p51, p52, p53, p54, p55, p56, p57, p58, p59, p60, p61, p62, p63, p64, p65, p66, p67, p68, p69, p70, p71, p72, p73, p74, p75, p76, p77, p78, p79, p80, p81, p82, p83, p84, p85, p86, p87, p88, p89, p90, p91, p92, p93, p94, p95, p96, p97, p98, p99, p100, p101, p102, p103, p104, p105, p106, p107, p108, p109, p110, p111, p112, p113, p114, p115, p116, p117, p118, p119, p120, p121, p122, p123, p124, p125, p126, p127, p128, p129, p130, p131, p132, p133, p134, p135, p136, p137, p138, p139, p140], []⟩ w := by
  conv => arg 2; whnf
  refine wp_region_noPanic ?_
  refine wp_region_held_drew (S := fun w' => sQ w' B D t X false ⟨xa, xn, xc, xh⟩ ⟨ya, yn, yc, yh⟩ ∧ w'.cell? ⟨D, t, none⟩ = some (.bool false) ∧ w'.cell? ⟨B, t * 4, none⟩ = some (.int .i64 ya) ∧ w'.cell? ⟨B, t * 4 + 1, none⟩ = some (.int .i64 yn) ∧ w'.cell? ⟨B, t * 4 + 2, none⟩ = some (.int .i64 yc) ∧ w'.cell? ⟨B, t * 4 + 3, none⟩ = some (.int .i64 yh) ∧ w'.cell? ⟨X, 0, none⟩ = some (.int .i64 xa) ∧ w'.cell? ⟨X, 1, none⟩ = some (.int .i64 xn) ∧ w'.cell? ⟨X, 2, none⟩ = some (.int .i64 xc) ∧ w'.cell? ⟨X, 3, none⟩ = some (.int .i64 xh)) (by kernel_rfl) (sQc (unhide HSQ)) (fun hHeld => ?_)
  refine Rg.t 0 116 ?_
  refine Rg.t 1 117 ?_
  refine Rg.t 2 118 ?_
  refine Rg.t 3 119 ?_
  refine Rg.t 4 120 ?_
  refine Rg.t 5 121 ?_
  refine Rg.t 6 122 ?_
  refine Rg.t 7 123 ?_
  refine Rg.t 8 124 ?_
  refine Rg.t 9 125 ?_
  refine Rg.t 10 126 ?_
  refine Rg.t 11 127 ?_
  refine Rg.t 12 128 ?_
  refine Rg.s 13 129 ?_
  refine Rg.s 14 130 ?_
  refine Rg.s 15 131 ?_
  refine Rg.s 16 132 ?_
  refine Rg.s 17 133 ?_
  refine Rg.s 18 134 ?_
  refine Rg.t 19 135 ?_
  refine Rg.t 20 136 ?_
  refine wpAnyH_done (by kernel_rfl) (NoPanic.normal ?_) _
  clear hHeld
  exact hKK _ _ _ _ _ _ _ _ _ _ _ _ _ _ _ _ _ _ _ _ _ rfl
set_option maxHeartbeats 8000000 in
theorem r25c (KK : Act → World → Prop) (Q' : Exit → Act → World → Prop) (p0 p1 p2 p3 p4 p7 p8 p9 p10 p13 p14 p15 p16 p17 p18 p19 p20 p21 p22 p23 p24 p25 p26 p27 p28 p29 p30 p31 p32 p33 p34 p35 p36 p37 p38 p39 p40 p41 p42 p43 p44 p45 p46 p47 p48 p49 p50 p51 p52 p53 p54 p55 p56 p57 p58 p59 p60 p61 p62 p63 p64 p65 p66 p67 p68 p69 p70 p71 p72 p73 p74 p75 p76 p77 p78 p79 p80 p81 p82 p83 p84 p85 p86 p87 p88 p89 p90 p91 p92 p93 p94 p95 p96 p97 p98 p99 p100 p101 p102 p103 p104 p105 p106 p107 p108 p109 p110 p111 p112 p113 p114 p115 p116 p117 p118 p119 p120 p121 p122 p123 p124 p125 p126 p127 p128 p129 p130 p131 p132 p133 p134 p135 p136 p137 p138 p139 p140 : Value) (B D t X : Nat) (xa xn xc xh ya yn yc yh : Int) (w : World)
    (HSQ : Hid (sQ w B D t X false ⟨xa, xn, xc, xh⟩ ⟨ya, yn, yc, yh⟩)) (t0 : (0 : Int) ≤ (t : Int)) (t9 : (t : Int) < 9) (hyd : decide (yc < 0) = false)
    (hKK : ∀ (r116 r117 r118 r119 r120 r121 r122 r123 r124 r125 r126 r127 r128 r129 r130 r131 r132 r133 r134 r135 : Value) (wz : World), Below w.heap.size w wz → KK ⟨#[p0, p1, p2, p3, p4, .slice (some ⟨B, 0, none⟩) 9 9, .slice (some ⟨D, 0, none⟩) 9 9, p7, p8, p9, p10, .int .i64 (t : Int), .pointer (some ⟨X, 0, none⟩), p13, p14, p15, p16, p17, p18, p19, p20, p21, p22, p23, p24, p25, p26, p27, p28, p29, p30, p31, p32, p33, p34, p35, p36, p37, p38, p39, p40, p41, p42, p43, p44, p45, p46, p47, p48, p49, p50, p51, p52, p53, p54, p55, p56, p57, p58, p59, p60, p61, p62, p63, p64, p65, p66, p67, p68, p69, p70, p71, p72, p73, p74, p75, p76, p77, p78, p79, p80, p81, p82, p83, p84, p85, p86, p87, p88, p89, p90, p91, p92, p93, p94, p95, p96, p97, p98, p99, p100, p101, p102, p103, p104, p105, p106, p107, p108, p109, p110, p111, p112, p113, p114, p115, r116, r117, r118, r119, r120, r121, r122, r123, r124, r125, r126, r127, r128, r129, r130, r131, r132, r133, r134, r135, .bool (btB ⟨xa, xn, xc, xh⟩ ⟨ya, yn, yc, yh⟩), p137, p138, p139, p140], []⟩ wz) :
    Code.wp Tryz.prog (reg 25) (Exit.then KK Q') ⟨#[p0, p1, p2, p3, p4, .slice (some ⟨B, 0, none⟩) 9 9, .slice (some ⟨D, 0, none⟩) 9 9, p7, p8, p9, p10, .int .i64 (t : Int), .pointer (some ⟨X, 0, none⟩), p13, p14, p15, p16, p17, p18, p19, p20, p21, p22, p23, p24, p25, p26, p27, p28, p29, p30, p31, p32, p33, p34, p35, p36, p37, p38, p39, p40, p41, p42, p43, p44, p45, p46, p47, p48, p49, p50, p51, p52, p53, p54, p55, p56, p57, p58, p59, p60, p61, p62, p63, p64, p65, p66, p67, p68, p69, p70, p71, p72, p73, p74, p75, p76, p77, p78, p79, p80, p81, p82, p83, p84, p85, p86, p87, p88, p89, p90, p91, p92, p93, p94, p95, p96, p97, p98, p99, p100, p101, p102, p103, p104, p105, p106, p107, p108, p109, p110, p111, p112, p113, p114, p115, p116, p117, p118, p119, p120, p121, p122, p123, p124, p125, p126, p127, p128, p129, p130, p131, p132, p133, p134, p135, p136, p137, p138, p139, p140], []⟩ w := by
  conv => arg 2; whnf
  obtain ⟨T, hT⟩ : ∃ T, btB (⟨xa, xn, xc, xh⟩ : R) ⟨ya, yn, yc, yh⟩ = T := ⟨_, rfl⟩
  rw [hT] at hKK
  have HBT := hide hT
  clear hT
  refine wp_region_noPanic ?_
  refine wp_region_held_drew (S := fun w' => sQ w' B D t X false ⟨xa, xn, xc, xh⟩ ⟨ya, yn, yc, yh⟩ ∧ w'.cell? ⟨D, t, none⟩ = some (.bool false) ∧ w'.cell? ⟨B, t * 4, none⟩ = some (.int .i64 ya) ∧ w'.cell? ⟨B, t * 4 + 1, none⟩ = some (.int .i64 yn) ∧ w'.cell? ⟨B, t * 4 + 2, none⟩ = some (.int .i64 yc) ∧ w'.cell? ⟨B, t * 4 + 3, none⟩ = some (.int .i64 yh) ∧ w'.cell? ⟨X, 0, none⟩ = some (.int .i64 xa) ∧ w'.cell? ⟨X, 1, none⟩ = some (.int .i64 xn) ∧ w'.cell? ⟨X, 2, none⟩ = some (.int .i64 xc) ∧ w'.cell? ⟨X, 3, none⟩ = some (.int .i64 xh)) (by kernel_rfl) (sQc (unhide HSQ)) (fun hHeld => ?_)
  refine Rg.t 0 116 ?_
  refine Rg.t 1 117 ?_
  refine Rg.t 2 118 ?_
  refine Rg.t 3 119 ?_
  refine Rg.t 4 120 ?_
  refine Rg.t 5 121 ?_
  refine Rg.t 6 122 ?_
  refine Rg.t 7 123 ?_
  refine Rg.t 8 124 ?_
  refine Rg.t 9 125 ?_
  refine Rg.t 10 126 ?_
  refine Rg.t 11 127 ?_
  refine Rg.t 12 128 ?_
  refine Rg.t 13 129 ?_
  refine Rg.t 14 130 ?_
  refine Rg.t 15 131 ?_
  refine Rg.t 16 132 ?_
  refine Rg.t 17 133 ?_
  (refine Rg.o 18 (fun K hK => ?_); go_simp)
  refine (l11Less ⟨xa, xn, xc, xh⟩ ⟨ya, yn, yc, yh⟩ _).mono ?_
  rintro e w5 ⟨rfl, b5_⟩
  rw [unhide HBT]
  have b5 : Below w.heap.size w w5 := (Below.refl _ _).drew.trans b5_
  have HSQ5 := hide ((unhide HSQ).below b5)
  have HB5 := hide b5
  clear b5 b5_ hHeld HSQ
  refine hK.out _ _ (sQc (unhide HSQ5)) (fun hHeld => ?_)
  clear hK K
  (try simp only [Act.put, List.setIfInBounds_toArray, List.set_cons_zero, List.set_cons_succ])
  refine Rg.t 19 135 ?_
  refine Rg.t 20 136 ?_
  refine wpAnyH_done (by kernel_rfl) (NoPanic.normal ?_) _
  clear hHeld
  exact hKK _ _ _ _ _ _ _ _ _ _ _ _ _ _ _ _ _ _ _ _ _ (unhide HB5)
set_option maxHeartbeats 8000000 in
theorem r12 (KK : Act → World → Prop) (Q' : Exit → Act → World → Prop) (p0 p1 p2 p3 p4 p7 p10 p11 p12 p13 p14 p15 p16 p17 p18 p19 p20 p21 p22 p23 p24 p25 p26 p27 p28 p29 p30 p31 p32 p33 p34 p35 p36 p37 p38 p39 p40 p41 p42 p43 p44 p45 p46 p47 p48 p49 p50 p51 p52 p53 p54 p55 p56 p57 p58 p59 p60 p61 p62 p63 p64 p65 p66 p67 p68 p69 p70 p71 p72 p73 p74 p75 p76 p77 p78 p79 p80 p81 p82 p83 p84 p85 p86 p87 p88 p89 p90 p91 p92 p93 p94 p95 p96 p97 p98 p99 p100 p101 p102 p103 p104 p105 p106 p107 p108 p109 p110 p111 p112 p113 p114 p115 p116 p117 p118 p119 p120 p121 p122 p123 p124 p125 p126 p127 p128 p129 p130 p131 p132 p133 p134 p135 p136 p137 p138 p139 p140 : Value) (B D j k : Nat) (dj : Bool) (x y : R) (w : World)
    (HSP : Hid (sP w B D j k dj x y)) (j0 : (0 : Int) ≤ (j : Int)) (j9 : (j : Int) < 9) (k0 : (0 : Int) ≤ (k : Int)) (k9 : (k : Int) < 9)
    (hKK : ∀ (c : Bool), c = (!dj && decide (0 ≤ x.co) && (k == 0 || btB x y)) → ∀ (r32 r33 r34 r35 r36 r37 r38 r39 r40 r41 r42 r43 r44 r45 r46 r47 r48 r49 r50 r51 r52 r53 r54 r55 r56 r57 r58 : Value) (wz : World), Below w.heap.size w wz → KK ⟨#[p0, p1, p2, p3, p4, .slice (some ⟨B, 0, none⟩) 9 9, .slice (some ⟨D, 0, none⟩) 9 9, p7, .int .i64 (k : Int), .int .i64 (j : Int), p10, p11, p12, p13, p14, p15, p16, p17, p18, p19, p20, p21, p22, p23, p24, p25, p26, p27, p28, p29, p30, p31, r32, r33, r34, r35, r36, r37, r38, r39, r40, r41, r42, r43, r44, r45, r46, r47, r48, r49, r50, r51, r52, r53, r54, r55, r56, r57, r58, .bool c, p60, p61, p62, p63, p64, p65, p66, p67, p68, p69, p70, p71, p72, p73, p74, p75, p76, p77, p78, p79, p80, p81, p82, p83, p84, p85, p86, p87, p88, p89, p90, p91, p92, p93, p94, p95, p96, p97, p98, p99, p100, p101, p102, p103, p104, p105, p106, p107, p108, p109, p110, p111, p112, p113, p114, p115, p116, p117, p118, p119, p120, p121, p122, p123, p124, p125, p126, p127, p128, p129, p130, p131, p132, p133, p134, p135, p136, p137, p138, p139, p140], []⟩ wz) :
    Code.wp Tryz.prog (reg 12) (Exit.then KK Q') ⟨#[p0, p1, p2, p3, p4, .slice (some ⟨B, 0, none⟩) 9 9, .slice (some ⟨D, 0, none⟩) 9 9, p7, .int .i64 (k : Int), .int .i64 (j : Int), p10, p11, p12, p13, p14, p15, p16, p17, p18, p19, p20, p21, p22, p23, p24, p25, p26, p27, p28, p29, p30, p31, p32, p33, p34, p35, p36, p37, p38, p39, p40, p41, p42, p43, p44, p45, p46, p47, p48, p49, p50, p51, p52, p53, p54, p55, p56, p57, p58, p59, p60, p61, p62, p63, p64, p65, p66, p67, p68, p69, p70, p71, p72, p73, p74, p75, p76, p77, p78, p79, p80, p81, p82, p83, p84, p85, p86, p87, p88, p89, p90, p91, p92, p93, p94, p95, p96, p97, p98, p99, p100, p101, p102, p103, p104, p105, p106, p107, p108, p109, p110, p111, p112, p113, p114, p115, p116, p117, p118, p119, p120, p121, p122, p123, p124, p125, p126, p127, p128, p129, p130, p131, p132, p133, p134, p135, p136, p137, p138, p139, p140], []⟩ w := by
  have hd : Below w.heap.size w w.drew := (Below.refl _ _).drew
  obtain ⟨xa, xn, xc, xh⟩ := x
  obtain ⟨ya, yn, yc, yh⟩ := y
  dsimp only at hKK
  cases dj
  · by_cases hxc : 0 ≤ xc
    · by_cases hk : k = 0
      · exact r12c KK Q' p0 p1 p2 p3 p4 p7 p10 p11 p12 p13 p14 p15 p16 p17 p18 p19 p20 p21 p22 p23 p24 p25 p26 p27 p28 p29 p30 p31 p32 p33 p34 p35 p36 p37 p38 p39 p40 p41 p42 p43 p44 p45 p46 p47 p48 p49 p50 p51 p52 p53 p54 p55 p56 p57 p58 p59 p60 p61 p62 p63 p64 p65 p66 p67 p68 p69 p70 p71 p72 p73 p74 p75 p76 p77 p78 p79 p80 p81 p82 p83 p84 p85 p86 p87 p88 p89 p90 p91 p92 p93 p94 p95 p96 p97 p98 p99 p100 p101 p102 p103 p104 p105 p106 p107 p108 p109 p110 p111 p112 p113 p114 p115 p116 p117 p118 p119 p120 p121 p122 p123 p124 p125 p126 p127 p128 p129 p130 p131 p132 p133 p134 p135 p136 p137 p138 p139 p140 B D j k xa xn xc xh ya yn yc yh w HSP j0 j9 k0 k9 hxc (decide_eq_true hxc) (by simpa using hk) (fun r32 r33 r34 r35 r36 r37 r38 r39 r40 r41 r42 r43 r44 r45 r46 r47 r48 r49 r50 r51 r52 r53 r54 r55 r56 r57 r58 wz e => hKK true (by rw [decide_eq_true hxc, hk]; rfl) r32 r33 r34 r35 r36 r37 r38 r39 r40 r41 r42 r43 r44 r45 r46 r47 r48 r49 r50 r51 r52 r53 r54 r55 r56 r57 r58 wz (by rw [e]; exact hd))
      · exact r12d KK Q' p0 p1 p2 p3 p4 p7 p10 p11 p12 p13 p14 p15 p16 p17 p18 p19 p20 p21 p22 p23 p24 p25 p26 p27 p28 p29 p30 p31 p32 p33 p34 p35 p36 p37 p38 p39 p40 p41 p42 p43 p44 p45 p46 p47 p48 p49 p50 p51 p52 p53 p54 p55 p56 p57 p58 p59 p60 p61 p62 p63 p64 p65 p66 p67 p68 p69 p70 p71 p72 p73 p74 p75 p76 p77 p78 p79 p80 p81 p82 p83 p84 p85 p86 p87 p88 p89 p90 p91 p92 p93 p94 p95 p96 p97 p98 p99 p100 p101 p102 p103 p104 p105 p106 p107 p108 p109 p110 p111 p112 p113 p114 p115 p116 p117 p118 p119 p120 p121 p122 p123 p124 p125 p126 p127 p128 p129 p130 p131 p132 p133 p134 p135 p136 p137 p138 p139 p140 B D j k xa xn xc xh ya yn yc yh w HSP j0 j9 k0 k9 hxc (decide_eq_true hxc) (by simpa using hk) (fun r32 r33 r34 r35 r36 r37 r38 r39 r40 r41 r42 r43 r44 r45 r46 r47 r48 r49 r50 r51 r52 r53 r54 r55 r56 r57 r58 wz e => hKK _ (by rw [decide_eq_true hxc, show (k == 0) = false by simpa using hk]; simp) r32 r33 r34 r35 r36 r37 r38 r39 r40 r41 r42 r43 r44 r45 r46 r47 r48 r49 r50 r51 r52 r53 r54 r55 r56 r57 r58 wz e)
    · exact r12b KK Q' p0 p1 p2 p3 p4 p7 p10 p11 p12 p13 p14 p15 p16 p17 p18 p19 p20 p21 p22 p23 p24 p25 p26 p27 p28 p29 p30 p31 p32 p33 p34 p35 p36 p37 p38 p39 p40 p41 p42 p43 p44 p45 p46 p47 p48 p49 p50 p51 p52 p53 p54 p55 p56 p57 p58 p59 p60 p61 p62 p63 p64 p65 p66 p67 p68 p69 p70 p71 p72 p73 p74 p75 p76 p77 p78 p79 p80 p81 p82 p83 p84 p85 p86 p87 p88 p89 p90 p91 p92 p93 p94 p95 p96 p97 p98 p99 p100 p101 p102 p103 p104 p105 p106 p107 p108 p109 p110 p111 p112 p113 p114 p115 p116 p117 p118 p119 p120 p121 p122 p123 p124 p125 p126 p127 p128 p129 p130 p131 p132 p133 p134 p135 p136 p137 p138 p139 p140 B D j k xa xn xc xh ya yn yc yh w HSP j0 j9 k0 k9 (decide_eq_false hxc) (fun r32 r33 r34 r35 r36 r37 r38 r39 r40 r41 r42 r43 r44 r45 r46 r47 r48 r49 r50 r51 r52 r53 r54 r55 r56 r57 r58 wz e => hKK false (by rw [decide_eq_false hxc]; rfl) r32 r33 r34 r35 r36 r37 r38 r39 r40 r41 r42 r43 r44 r45 r46 r47 r48 r49 r50 r51 r52 r53 r54 r55 r56 r57 r58 wz (by rw [e]; exact hd))
  · exact r12a KK Q' p0 p1 p2 p3 p4 p7 p10 p11 p12 p13 p14 p15 p16 p17 p18 p19 p20 p21 p22 p23 p24 p25 p26 p27 p28 p29 p30 p31 p32 p33 p34 p35 p36 p37 p38 p39 p40 p41 p42 p43 p44 p45 p46 p47 p48 p49 p50 p51 p52 p53 p54 p55 p56 p57 p58 p59 p60 p61 p62 p63 p64 p65 p66 p67 p68 p69 p70 p71 p72 p73 p74 p75 p76 p77 p78 p79 p80 p81 p82 p83 p84 p85 p86 p87 p88 p89 p90 p91 p92 p93 p94 p95 p96 p97 p98 p99 p100 p101 p102 p103 p104 p105 p106 p107 p108 p109 p110 p111 p112 p113 p114 p115 p116 p117 p118 p119 p120 p121 p122 p123 p124 p125 p126 p127 p128 p129 p130 p131 p132 p133 p134 p135 p136 p137 p138 p139 p140 B D j k xa xn xc xh ya yn yc yh w HSP j0 j9 k0 k9 (fun r32 r33 r34 r35 r36 r37 r38 r39 r40 r41 r42 r43 r44 r45 r46 r47 r48 r49 r50 r51 r52 r53 r54 r55 r56 r57 r58 wz e => hKK false rfl r32 r33 r34 r35 r36 r37 r38 r39 r40 r41 r42 r43 r44 r45 r46 r47 r48 r49 r50 r51 r52 r53 r54 r55 r56 r57 r58 wz (by rw [e]; exact hd))
set_option maxHeartbeats 8000000 in
theorem r25 (KK : Act → World → Prop) (Q' : Exit → Act → World → Prop) (p0 p1 p2 p3 p4 p7 p8 p9 p10 p13 p14 p15 p16 p17 p18 p19 p20 p21 p22 p23 p24 p25 p26 p27 p28 p29 p30 p31 p32 p33 p34 p35 p36 p37 p38 p39 p40 p41 p42 p43 p44 p45 p46 p47 p48 p49 p50 p51 p52 p53 p54 p55 p56 p57 p58 p59 p60 p61 p62 p63 p64 p65 p66 p67 p68 p69 p70 p71 p72 p73 p74 p75 p76 p77 p78 p79 p80 p81 p82 p83 p84 p85 p86 p87 p88 p89 p90 p91 p92 p93 p94 p95 p96 p97 p98 p99 p100 p101 p102 p103 p104 p105 p106 p107 p108 p109 p110 p111 p112 p113 p114 p115 p116 p117 p118 p119 p120 p121 p122 p123 p124 p125 p126 p127 p128 p129 p130 p131 p132 p133 p134 p135 p136 p137 p138 p139 p140 : Value) (B D t X : Nat) (dj : Bool) (x y : R) (w : World)
    (HSQ : Hid (sQ w B D t X dj x y)) (t0 : (0 : Int) ≤ (t : Int)) (t9 : (t : Int) < 9)
    (hKK : ∀ (c : Bool), c = (!dj && (decide (y.co < 0) || btB x y)) → ∀ (r116 r117 r118 r119 r120 r121 r122 r123 r124 r125 r126 r127 r128 r129 r130 r131 r132 r133 r134 r135 : Value) (wz : World), Below w.heap.size w wz → KK ⟨#[p0, p1, p2, p3, p4, .slice (some ⟨B, 0, none⟩) 9 9, .slice (some ⟨D, 0, none⟩) 9 9, p7, p8, p9, p10, .int .i64 (t : Int), .pointer (some ⟨X, 0, none⟩), p13, p14, p15, p16, p17, p18, p19, p20, p21, p22, p23, p24, p25, p26, p27, p28, p29, p30, p31, p32, p33, p34, p35, p36, p37, p38, p39, p40, p41, p42, p43, p44, p45, p46, p47, p48, p49, p50, p51, p52, p53, p54, p55, p56, p57, p58, p59, p60, p61, p62, p63, p64, p65, p66, p67, p68, p69, p70, p71, p72, p73, p74, p75, p76, p77, p78, p79, p80, p81, p82, p83, p84, p85, p86, p87, p88, p89, p90, p91, p92, p93, p94, p95, p96, p97, p98, p99, p100, p101, p102, p103, p104, p105, p106, p107, p108, p109, p110, p111, p112, p113, p114, p115, r116, r117, r118, r119, r120, r121, r122, r123, r124, r125, r126, r127, r128, r129, r130, r131, r132, r133, r134, r135, .bool c, p137, p138, p139, p140], []⟩ wz) :
    Code.wp Tryz.prog (reg 25) (Exit.then KK Q') ⟨#[p0, p1, p2, p3, p4, .slice (some ⟨B, 0, none⟩) 9 9, .slice (some ⟨D, 0, none⟩) 9 9, p7, p8, p9, p10, .int .i64 (t : Int), .pointer (some ⟨X, 0, none⟩), p13, p14, p15, p16, p17, p18, p19, p20, p21, p22, p23, p24, p25, p26, p27, p28, p29, p30, p31, p32, p33, p34, p35, p36, p37, p38, p39, p40, p41, p42, p43, p44, p45, p46, p47, p48, p49, p50, p51, p52, p53, p54, p55, p56, p57, p58, p59, p60, p61, p62, p63, p64, p65, p66, p67, p68, p69, p70, p71, p72, p73, p74, p75, p76, p77, p78, p79, p80, p81, p82, p83, p84, p85, p86, p87, p88, p89, p90, p91, p92, p93, p94, p95, p96, p97, p98, p99, p100, p101, p102, p103, p104, p105, p106, p107, p108, p109, p110, p111, p112, p113, p114, p115, p116, p117, p118, p119, p120, p121, p122, p123, p124, p125, p126, p127, p128, p129, p130, p131, p132, p133, p134, p135, p136, p137, p138, p139, p140], []⟩ w := by
  have hd : Below w.heap.size w w.drew := (Below.refl _ _).drew
  obtain ⟨xa, xn, xc, xh⟩ := x
  obtain ⟨ya, yn, yc, yh⟩ := y
  dsimp only at hKK
  cases dj
  · by_cases hyc : yc < 0
    · exact r25b KK Q' p0 p1 p2 p3 p4 p7 p8 p9 p10 p13 p14 p15 p16 p17 p18 p19 p20 p21 p22 p23 p24 p25 p26 p27 p28 p29 p30 p31 p32 p33 p34 p35 p36 p37 p38 p39 p40 p41 p42 p43 p44 p45 p46 p47 p48 p49 p50 p51 p52 p53 p54 p55 p56 p57 p58 p59 p60 p61 p62 p63 p64 p65 p66 p67 p68 p69 p70 p71 p72 p73 p74 p75 p76 p77 p78 p79 p80 p81 p82 p83 p84 p85 p86 p87 p88 p89 p90 p91 p92 p93 p94 p95 p96 p97 p98 p99 p100 p101 p102 p103 p104 p105 p106 p107 p108 p109 p110 p111 p112 p113 p114 p115 p116 p117 p118 p119 p120 p121 p122 p123 p124 p125 p126 p127 p128 p129 p130 p131 p132 p133 p134 p135 p136 p137 p138 p139 p140 B D t X xa xn xc xh ya yn yc yh w HSQ t0 t9 hyc (decide_eq_true hyc) (fun r116 r117 r118 r119 r120 r121 r122 r123 r124 r125 r126 r127 r128 r129 r130 r131 r132 r133 r134 r135 wz e => hKK true (by rw [decide_eq_true hyc]; rfl) r116 r117 r118 r119 r120 r121 r122 r123 r124 r125 r126 r127 r128 r129 r130 r131 r132 r133 r134 r135 wz (by rw [e]; exact hd))
    · exact r25c KK Q' p0 p1 p2 p3 p4 p7 p8 p9 p10 p13 p14 p15 p16 p17 p18 p19 p20 p21 p22 p23 p24 p25 p26 p27 p28 p29 p30 p31 p32 p33 p34 p35 p36 p37 p38 p39 p40 p41 p42 p43 p44 p45 p46 p47 p48 p49 p50 p51 p52 p53 p54 p55 p56 p57 p58 p59 p60 p61 p62 p63 p64 p65 p66 p67 p68 p69 p70 p71 p72 p73 p74 p75 p76 p77 p78 p79 p80 p81 p82 p83 p84 p85 p86 p87 p88 p89 p90 p91 p92 p93 p94 p95 p96 p97 p98 p99 p100 p101 p102 p103 p104 p105 p106 p107 p108 p109 p110 p111 p112 p113 p114 p115 p116 p117 p118 p119 p120 p121 p122 p123 p124 p125 p126 p127 p128 p129 p130 p131 p132 p133 p134 p135 p136 p137 p138 p139 p140 B D t X xa xn xc xh ya yn yc yh w HSQ t0 t9 (decide_eq_false hyc) (fun r116 r117 r118 r119 r120 r121 r122 r123 r124 r125 r126 r127 r128 r129 r130 r131 r132 r133 r134 r135 wz e => hKK _ (by rw [decide_eq_false hyc]; simp) r116 r117 r118 r119 r120 r121 r122 r123 r124 r125 r126 r127 r128 r129 r130 r131 r132 r133 r134 r135 wz e)
  · exact r25a KK Q' p0 p1 p2 p3 p4 p7 p8 p9 p10 p13 p14 p15 p16 p17 p18 p19 p20 p21 p22 p23 p24 p25 p26 p27 p28 p29 p30 p31 p32 p33 p34 p35 p36 p37 p38 p39 p40 p41 p42 p43 p44 p45 p46 p47 p48 p49 p50 p51 p52 p53 p54 p55 p56 p57 p58 p59 p60 p61 p62 p63 p64 p65 p66 p67 p68 p69 p70 p71 p72 p73 p74 p75 p76 p77 p78 p79 p80 p81 p82 p83 p84 p85 p86 p87 p88 p89 p90 p91 p92 p93 p94 p95 p96 p97 p98 p99 p100 p101 p102 p103 p104 p105 p106 p107 p108 p109 p110 p111 p112 p113 p114 p115 p116 p117 p118 p119 p120 p121 p122 p123 p124 p125 p126 p127 p128 p129 p130 p131 p132 p133 p134 p135 p136 p137 p138 p139 p140 B D t X xa xn xc xh ya yn yc yh w HSQ t0 t9 (fun r116 r117 r118 r119 r120 r121 r122 r123 r124 r125 r126 r127 r128 r129 r130 r131 r132 r133 r134 r135 wz e => hKK false rfl r116 r117 r118 r119 r120 r121 r122 r123 r124 r125 r126 r127 r128 r129 r130 r131 r132 r133 r134 r135 wz (by rw [e]; exact hd))
def sK (w : World) (B k ga o : Nat) (bd bn bc bh val : Int) : Prop := At w B (k * 4) ⟨bd, bn, bc, bh⟩ ∧ w.cell? ⟨ga, o, none⟩ = some (.int .i64 val)
theorem sKc {w : World} {B k ga o : Nat} {bd bn bc bh val : Int} (h : sK w B k ga o bd bn bc bh val) : sK w B k ga o bd bn bc bh val ∧ w.cell? ⟨B, k * 4, none⟩ = some (.int .i64 bd) ∧ w.cell? ⟨B, k * 4 + 1, none⟩ = some (.int .i64 bn) ∧ w.cell? ⟨B, k * 4 + 2, none⟩ = some (.int .i64 bc) ∧ w.cell? ⟨B, k * 4 + 3, none⟩ = some (.int .i64 bh) ∧ w.cell? ⟨ga, o, none⟩ = some (.int .i64 val) := ⟨h, h.1.1, h.1.2.1, h.1.2.2.1, h.1.2.2.2, h.2⟩
theorem sK.below {w w' : World} {B k ga o : Nat} {bd bn bc bh val : Int} (h : sK w B k ga o bd bn bc bh val) (hb : Below w.heap.size w w') : sK w' B k ga o bd bn bc bh val := ⟨h.1.below hb, (hb.cell (p := ⟨ga, o, none⟩) (World.block_lt_of_cell? _ _ h.2)).trans h.2⟩
set_option maxHeartbeats 8000000 in
theorem r22 (KK : Act → World → Prop) (Q' : Exit → Act → World → Prop) (p1 p2 p3 p4 p6 p7 p9 p12 p13 p14 p15 p16 p17 p18 p19 p20 p21 p22 p23 p24 p25 p26 p27 p28 p29 p30 p31 p32 p33 p34 p35 p36 p37 p38 p39 p40 p41 p42 p43 p44 p45 p46 p47 p48 p49 p50 p51 p52 p53 p54 p55 p56 p57 p58 p59 p60 p61 p62 p63 p64 p65 p66 p67 p68 p69 p70 p71 p72 p73 p74 p75 p76 p77 p78 p79 p80 p81 p82 p83 p84 p85 p86 p87 p88 p89 p90 p91 p92 p93 p94 p95 p96 p97 p98 p99 p100 p101 p102 p103 p104 p105 p106 p107 p108 p109 p110 p111 p112 p113 p114 p115 p116 p117 p118 p119 p120 p121 p122 p123 p124 p125 p126 p127 p128 p129 p130 p131 p132 p133 p134 p135 p136 p137 p138 p139 p140 : Value) (ga off n cap B k i : Nat) (ti bd bn bc bh val : Int) (w : World)
    (HK : Hid (At w B (k * 4) ⟨bd, bn, bc, bh⟩)) (c2 : w.cell? ⟨ga, off + i * 3 + 2, none⟩ = some (.int .i64 val))
    (k0 : (0 : Int) ≤ (k : Int)) (k9 : (k : Int) < 9) (i0 : (0 : Int) ≤ (i : Int)) (hin : (i : Int) < (n : Int)) (h0 : 0 ≤ bc) (h1 : 0 ≤ val) (h2 : bc + val ≤ 9223372036854775807) (h3 : 0 ≤ bh) (h4 : bh ≤ 9)
    (hKK : ∀ (r87 r88 r89 r90 r91 r92 r93 r94 r95 r96 r97 r98 r99 r100 r101 r102 r103 r104 r105 r106 r107 r108 r109 r110 : Value) (wz : World), wz = (w.alloc (.cells #[.int .i64 ti, .int .i64 bn, .int .i64 (bc + val), .int .i64 (bh + 1)] 87)).drew → KK ⟨#[.slice (some ⟨ga, off, none⟩) n cap, p1, p2, p3, p4, .slice (some ⟨B, 0, none⟩) 9 9, p6, p7, .int .i64 (k : Int), p9, .int .i64 (i : Int), .int .i64 ti, .pointer (some ⟨w.heap.size, 0, none⟩), p13, p14, p15, p16, p17, p18, p19, p20, p21, p22, p23, p24, p25, p26, p27, p28, p29, p30, p31, p32, p33, p34, p35, p36, p37, p38, p39, p40, p41, p42, p43, p44, p45, p46, p47, p48, p49, p50, p51, p52, p53, p54, p55, p56, p57, p58, p59, p60, p61, p62, p63, p64, p65, p66, p67, p68, p69, p70, p71, p72, p73, p74, p75, p76, p77, p78, p79, p80, p81, p82, p83, p84, p85, p86, r87, r88, r89, r90, r91, r92, r93, r94, r95, r96, r97, r98, r99, r100, r101, r102, r103, r104, r105, r106, r107, r108, r109, r110, p111, p112, p113, p114, p115, p116, p117, p118, p119, p120, p121, p122, p123, p124, p125, p126, p127, p128, p129, p130, p131, p132, p133, p134, p135, p136, p137, p138, p139, p140], []⟩ wz) :
    Code.wp Tryz.prog (reg 22) (Exit.then KK Q') ⟨#[.slice (some ⟨ga, off, none⟩) n cap, p1, p2, p3, p4, .slice (some ⟨B, 0, none⟩) 9 9, p6, p7, .int .i64 (k : Int), p9, .int .i64 (i : Int), .int .i64 ti, p12, p13, p14, p15, p16, p17, p18, p19, p20, p21, p22, p23, p24, p25, p26, p27, p28, p29, p30, p31, p32, p33, p34, p35, p36, p37, p38, p39, p40, p41, p42, p43, p44, p45, p46, p47, p48, p49, p50, p51, p52, p53, p54, p55, p56, p57, p58, p59, p60, p61, p62, p63, p64, p65, p66, p67, p68, p69, p70, p71, p72, p73, p74, p75, p76, p77, p78, p79, p80, p81, p82, p83, p84, p85, p86, p87, p88, p89, p90, p91, p92, p93, p94, p95, p96, p97, p98, p99, p100, p101, p102, p103, p104, p105, p106, p107, p108, p109, p110, p111, p112, p113, p114, p115, p116, p117, p118, p119, p120, p121, p122, p123, p124, p125, p126, p127, p128, p129, p130, p131, p132, p133, p134, p135, p136, p137, p138, p139, p140], []⟩ w := by
  conv => arg 2; whnf
  have HS : Hid (sK w B k ga (off + i * 3 + 2) bd bn bc bh val) := hide ⟨unhide HK, c2⟩
  clear HK c2
  refine wp_region_noPanic ?_
  refine wp_region_held_drew (S := fun w' => sK w' B k ga (off + i * 3 + 2) bd bn bc bh val ∧ w'.cell? ⟨B, k * 4, none⟩ = some (.int .i64 bd) ∧ w'.cell? ⟨B, k * 4 + 1, none⟩ = some (.int .i64 bn) ∧ w'.cell? ⟨B, k * 4 + 2, none⟩ = some (.int .i64 bc) ∧ w'.cell? ⟨B, k * 4 + 3, none⟩ = some (.int .i64 bh) ∧ w'.cell? ⟨ga, off + i * 3 + 2, none⟩ = some (.int .i64 val)) (by kernel_rfl) (sKc (unhide HS)) (fun hHeld => ?_)
  refine Rg.t 0 87 ?_
  refine Rg.t 1 88 ?_
  refine Rg.t 2 89 ?_
  refine Rg.t 3 90 ?_
  refine Rg.t 4 91 ?_
  refine Rg.t 5 92 ?_
  refine Rg.t 6 93 ?_
  refine Rg.t 7 94 ?_
  refine Rg.t 8 95 ?_
  refine Rg.t 9 96 ?_
  refine Rg.t 10 97 ?_
  refine Rg.t 11 98 ?_
  refine Rg.t 12 99 ?_
  refine Rg.t 13 100 ?_
  refine Rg.t 14 101 ?_
  refine Rg.t 15 102 ?_
  refine Rg.t 16 103 ?_
  refine Rg.t 17 104 ?_
  refine Rg.t 18 105 ?_
  refine Rg.t 19 106 ?_
  refine Rg.t 20 107 ?_
  refine Rg.t 21 108 ?_
  refine Rg.t 22 109 ?_
  refine Rg.t 23 110 ?_
  (refine Rg.o 24 (fun K hK => ?_); go_simp)
  have HS2 := hide ((unhide HS).below (w' := (w.alloc (.cells #[.int .i64 0, .int .i64 0, .int .i64 0, .int .i64 0] 87)).drew) ((Below.refl _ _).alloc (Nat.le_refl _) _).drew)
  clear hHeld
  refine hK.out _ _ (sKc (unhide HS2)) (fun hHeld => ?_)
  clear hK K
  (try simp only [Act.put, List.setIfInBounds_toArray, List.set_cons_zero, List.set_cons_succ])
  (refine Rg.o 25 (fun K hK => ?_); go_simp)
  have HS3 := hide ((unhide HS).below (w' := (w.alloc (.cells #[.int .i64 ti, .int .i64 bn, .int .i64 (bc + val), .int .i64 (bh + 1)] 87)).drew) ((Below.refl _ _).alloc (Nat.le_refl _) _).drew)
  have e1 : IntKind.i64.wrap (bc + val) = bc + val := by rw [IntKind.wrap_i64]; omega
  have e2 : IntKind.i64.wrap (bh + 1) = bh + 1 := by rw [IntKind.wrap_i64]; omega
  rw [e1, e2]
  clear hHeld
  refine hK.out _ _ (sKc (unhide HS3)) (fun hHeld => ?_)
  clear hK K
  (try simp only [Act.put, List.setIfInBounds_toArray, List.set_cons_zero, List.set_cons_succ])
  refine wpAnyH_done (by kernel_rfl) (NoPanic.normal ?_) _
  exact hKK _ _ _ _ _ _ _ _ _ _ _ _ _ _ _ _ _ _ _ _ _ _ _ _ _ rfl
end Wd
end Go.Proofs.YtfooahhdikobeaaGreat
namespace Go.Proofs.YtfooahhdikobeaaGreat
open Go.ChangeShapes Go.WideShapes Go.ChangeAt Go.RowKit
set_option linter.unusedVariables false
set_option linter.unusedSimpArgs false
set_option maxRecDepth 100000
attribute [local go_sem ↓] Go.wp_at_zero Go.wp_at_succ
namespace Wd
open W1 Ro Rw Tw
set_option maxHeartbeats 32000000 in
theorem l11Routes (a : Option Addr) (g : List Tu.R) (cap : Nat) (f : Int) (w : World) (hg : graphB g = true) (hf : 1 ≤ f ∧ f ≤ 8) (hr : Tu.RM w a g) :
    Calls Tryz.prog 64 #[.slice a g.length cap, .int .i64 f] w fun e w' => ∃ b, e = .returned (.slice (some ⟨b, 0, none⟩) 9 9) ∧ Below w.heap.size w w' ∧ w.heap.size ≤ b ∧ BV w' b (mdl g f) ∧ Good g f (best g f) := by
  have HR := hide hr
  have HG := hide hg
  have h62 := two_len (graph_two hg)
  obtain ⟨q, rfl⟩ : ∃ q : Nat, f = (q : Int) := ⟨f.toNat, by omega⟩
  have hq1 : 1 ≤ q := by omega
  have hq8 : q ≤ 8 := by omega
  have q0 : (0 : Int) ≤ (q : Int) := by omega
  have q9 : (q : Int) < 9 := by omega
  have hmB := makeB w
  have hmD := makeD (w.alloc (.cells (flat (bs9 0)).toArray 87))
  rw [World.size_alloc] at hmD
  have HN0 := hide (nin_new w)
  have HB0 : Hid (Below w.heap.size w ((w.alloc (.cells (flat (bs9 0)).toArray 87)).alloc (.cells (fs9.map Value.bool).toArray 4))) := hide (((Below.refl _ _).alloc (Nat.le_refl _) _).alloc (by simp) _)
  clear hr hg hf
  obtain ⟨n, hn⟩ : ∃ n, g.length = n := ⟨_, rfl⟩
  have HN := hide hn
  rw [hn] at h62 ⊢
  clear hn
  go_enter Tryz.func64, Tryz.ntmps64
  go_wp2_with fail
  clear hmB hmD
  generalize hW0 : (w.alloc (.cells (flat (bs9 0)).toArray 87)).alloc (.cells (fs9.map Value.bool).toArray 4) = W0 at *
  clear hW0
  generalize hB : w.heap.size = B at *
  have HBB := hide hB
  clear hB
  generalize hD : B + 1 = D at *
  have hDB : D ≠ B := by omega
  have hDB2 : B < D := by omega
  clear hD
  go_loopw [7] (fun iv wr => ∃ j : Nat, j ≤ 9 ∧ iv = .int .i64 (j : Int) ∧ Hid (Nin wr B D (bs9 j) fs9) ∧ Hid (Below B w wr)) (fun iv _ => 9 - (intOf iv).toNat)
  case atStart => exact ⟨0, by omega, rfl, HN0, HB0⟩
  case round =>
    obtain ⟨j, hj, rfl, hN, hbl⟩ := hrel
    by_cases hlt : (j : Int) ≤ 8
    · have j0 : (0 : Int) ≤ (j : Int) := by omega
      have j9 : (j : Int) < 9 := by omega
      obtain ⟨a0, a1, a2, a3⟩ := (unhide hN).1.at (i := j) (by rw [bs9_len]; omega)
      have g0 := (unhide hN).1.free (j * 4)
      have g1 := (unhide hN).1.free (j * 4 + 1)
      have g2 := (unhide hN).1.free (j * 4 + 2)
      have g3 := (unhide hN).1.free (j * 4 + 3)
      have HN2 : Hid (Nin (put wr B (j * 4) (nul j)) B D (bs9 (j + 1)) fs9) := hide ⟨by rw [← bs9_step (by omega)]; exact (unhide hN).1.put (by rw [bs9_len]; omega) (nul j), (put_other hDB).trans (unhide hN).2⟩
      have HB2 := hide (put_below (g := B) (o := j * 4) (m := nul j) (unhide hbl) (Nat.le_refl _))
      have HPW : Hid (put wr B (j * 4) (nul j) = ((((wr.setCell ⟨B, j * 4, none⟩ (.int .i64 (j : Int))).setCell ⟨B, j * 4 + 1, none⟩ (.int .i64 0)).setCell ⟨B, j * 4 + 2, none⟩ (.int .i64 (-1))).setCell ⟨B, j * 4 + 3, none⟩ (.int .i64 0))) := hide rfl
      rw [unhide HPW] at HN2 HB2
      clear HPW
      go_wp2_with fail
      go_roundw
      case rel => exact ⟨j + 1, by omega, by go_num, HN2, HB2⟩
      case measure => simp [intOf]; omega
    · obtain rfl : j = 9 := by omega
      obtain ⟨a0, a1, a2, a3⟩ := (unhide hN).1.at (i := q) (by rw [bs9_len]; omega)
      have g2 := (unhide hN).1.free (q * 4 + 2)
      have HN2 : Hid (Nin (wr.setCell ⟨B, q * 4 + 2, none⟩ (.int .i64 0)) B D (bsF q) fs9) := hide ⟨by rw [← bsF_set (by omega)]; exact (unhide hN).1.co (by rw [bs9_len]; omega) 0, (Below.heap_setCell _ _ _ _ hDB).trans (unhide hN).2⟩
      have HB2 : Hid (Below B w (wr.setCell ⟨B, q * 4 + 2, none⟩ (.int .i64 0))) := hide ((unhide hbl).setCell (p := ⟨B, q * 4 + 2, none⟩) (Nat.le_refl _) _)
      have HST : Hid (StM g (q : Int) (bsF q) fs9) := hide (stm_start ⟨hq1, hq8⟩)
      have HKX : Hid (8 - cntW (WM (bsF q) fs9) ≤ 8) := hide (by omega)
      go_wp2_with fail
      clear a0 a1 a2 a3 g2
      go_loopg [] 8 (fun kx wr => ∃ (bs : List R) (ds : List Bool), Hid (Nin wr B D bs ds) ∧ Hid (StM g (q : Int) bs ds) ∧ Hid (Below B w wr) ∧ Hid (8 - cntW (WM bs ds) ≤ kx))
      case atStart => exact ⟨bsF q, fs9, HN2, HST, HB2, HKX⟩
      case round =>
        obtain ⟨bs, ds, hN, hST, hbl, hkx⟩ := hrel
        have HL9 := hide (unhide hST).len
        have HD9 := hide (unhide hST).len'
        go_wp2_with fail
        go_loopw [8, 9] (fun kv jv wr => ∃ j : Nat, 1 ≤ j ∧ j ≤ 9 ∧ jv = .int .i64 (j : Int) ∧ kv = .int .i64 (pk bs ds (j - 1) : Int) ∧ Hid (Nin wr B D bs ds) ∧ Hid (Below B w wr)) (fun _ jv _ => 9 - (intOf jv).toNat)
        case atStart => exact ⟨1, by omega, by omega, rfl, rfl, hN, hbl⟩
        case round =>
          rename World => wo
          obtain ⟨j, hj1, hj9, rfl, rfl, hN, hbl⟩ := hrel
          by_cases hlt : (j : Int) ≤ 8
          · have j0 : (0 : Int) ≤ (j : Int) := by omega
            have j9 : (j : Int) < 9 := by omega
            have hpl := pk_le bs ds (j - 1)
            have HPK : Hid (pk bs ds j = if canB bs ds (pk bs ds (j - 1)) j = true then j else pk bs ds (j - 1)) := hide (by
              obtain ⟨t, rfl⟩ : ∃ t, j = t + 1 := ⟨j - 1, by omega⟩
              rw [Nat.add_sub_cancel]; rfl)
            unfold canB at HPK
            generalize pk bs ds (j - 1) = k at *
            have k0 : (0 : Int) ≤ (k : Int) := by omega
            have k9 : (k : Int) < 9 := by omega
            have HSP := hide (sP_of (unhide hN) (unhide HL9) (unhide HD9) (j := j) (k := k) (by omega) (by omega))
            generalize dn ds j = dj at *
            generalize at' bs j = X at *
            generalize at' bs k = Y at *
            go_upto_region 12 with fail
            refine r12 _ _ _ _ _ _ _ _ _ _ _ _ _ _ _ _ _ _ _ _ _ _ _ _ _ _ _ _ _ _ _ _ _ _ _ _ _ _ _ _ _ _ _ _ _ _ _ _ _ _ _ _ _ _ _ _ _ _ _ _ _ _ _ _ _ _ _ _ _ _ _ _ _ _ _ _ _ _ _ _ _ _ _ _ _ _ _ _ _ _ _ _ _ _ _ _ _ _ _ _ _ _ _ _ _ _ _ _ _ _ _ _ _ _ _ _ _ _ _ _ _ _ _ _ _ _ _ _ _ _ _ _ _ _ _ _ _ _ _ B D j k dj X Y _ HSP j0 j9 k0 k9 ?_
            intro c hc r32 r33 r34 r35 r36 r37 r38 r39 r40 r41 r42 r43 r44 r45 r46 r47 r48 r49 r50 r51 r52 r53 r54 r55 r56 r57 r58 wz bz
            have HN5 := hide ((unhide hN).below bz)
            have HB5 := hide ((unhide hbl).trans (bz.mono (Nat.le_of_lt (unhide hN).1.lt)))
            have HPC : Hid (pk bs ds j = if c = true then j else k) := hide (by rw [hc]; exact unhide HPK)
            clear hc HPK bz HSP hN hbl
            cases c
            · have HPY : Hid (pk bs ds j = k) := hide (by rw [unhide HPC]; rfl)
              go_wp2_with fail
              go_roundw
              case rel => exact ⟨j + 1, by omega, by omega, by go_num, by rw [Nat.add_sub_cancel, unhide HPY], HN5, HB5⟩
              case measure => simp [intOf]; omega
            · have HPY : Hid (pk bs ds j = j) := hide (by rw [unhide HPC]; rfl)
              go_wp2_with fail
              go_roundw
              case rel => exact ⟨j + 1, by omega, by omega, by go_num, by rw [Nat.add_sub_cancel, unhide HPY], HN5, HB5⟩
              case measure => simp [intOf]; omega
          · obtain rfl : j = 9 := by omega
            by_cases hk0 : pk bs ds (9 - 1) = 0
            · have hd := stm_done (unhide HG) (unhide hST) hk0
              have hbs : bs = mdl g (q : Int) := hd.1
              have HGD := hide hd.2
              have HBV : Hid (BV wo B (mdl g (q : Int))) := hide (by rw [← hbs]; exact (unhide hN).1)
              have hk' : ((pk bs ds (9 - 1) : Int) == 0) = true := by rw [hk0]; rfl
              clear hd hbs
              generalize pk bs ds (9 - 1) = k at *
              go_wp2_with fail
              go_ret
              exact ⟨_, rfl, by rw [unhide HBB]; exact unhide hbl, by rw [unhide HBB]; exact Nat.le_refl _, unhide HBV, unhide HGD⟩
            · have hpk := stm_pick (unhide hST) hk0
              obtain ⟨k, hk⟩ : ∃ k, pk bs ds (9 - 1) = k := ⟨_, rfl⟩
              have hstep := stm_step (unhide HG) (unhide hST) hk (by rw [← hk]; exact hk0)
              rw [show pk bs ds 8 = k from hk] at hpk
              rw [hk] at hk0 ⊢
              obtain ⟨hk8, hdk, _, hok, hhq⟩ := hpk
              have HSTP := hide hstep
              have hk' : ((k : Int) == 0) = false := by simpa using hk0
              have k0 : (0 : Int) ≤ (k : Int) := by omega
              have k9 : (k : Int) < 9 := by omega
              have d0 := (unhide hN).2.at (i := k) (by rw [unhide HD9]; omega)
              have f0 := (unhide hN).2.free k
              obtain ⟨ds2, hds2⟩ : ∃ ds2, ds.set k true = ds2 := ⟨_, rfl⟩
              have HN2 : Hid (Nin (wo.setCell ⟨D, k, none⟩ (.bool true)) B D bs ds2) := hide ⟨(Below.heap_setCell _ _ _ _ (show B ≠ D by omega)).trans (unhide hN).1, by rw [← hds2]; exact (unhide hN).2.set k true⟩
              have HB2 : Hid (Below B w (wo.setCell ⟨D, k, none⟩ (.bool true))) := hide ((unhide hbl).setCell (p := ⟨D, k, none⟩) (show B ≤ D by omega) _)
              have HDK : Hid (dn ds2 k = true) := hide (by rw [← hds2, dn_set (by rw [unhide HD9]; omega), if_pos rfl])
              have HDL : Hid (ds2.length = 9) := hide (by rw [← hds2, List.length_set]; exact unhide HD9)
              have hbd : (at' bs k).ds = (k : Int) := (unhide hST).tag k hk8.2
              rw [hds2] at HSTP
              have HRI : Hid (∀ i, i ≤ g.length → RlI g (at' bs k) ds2 bs (rl g (at' bs k) ds2 bs i) i) := hide (fun i hi => rl_inv (unhide HG) (by unfold okN at hok; omega) (unhide HL9) i hi)
              have HBK : Hid (∀ i, i ≤ g.length → at' (rl g (at' bs k) ds2 bs i) k = at' bs k) := hide (fun i hi => by
                rcases (unhide HRI i hi).keep k hk8.2 with e | ⟨_, e, _⟩
                · exact e
                · rw [unhide HDK] at e; cases e)
              have HRS : Hid (∀ i, rl g (at' bs k) ds2 bs (i + 1) = rl1 (at' bs k) ds2 (rl g (at' bs k) ds2 bs i) (g.getD i Tu.R.zero)) := hide (fun i => rfl)
              have HR0 : Hid (Nin (wo.setCell ⟨D, k, none⟩ (.bool true)) B D (rl g (at' bs k) ds2 bs 0) ds2) := HN2
              have HRM : Hid (∀ W, Below B w W → Tu.RM W a g) := hide (fun W h => (unhide HR).below (by rw [unhide HBB]; exact h))
              clear hds2 hdk hk hk0 hstep hN hbl HN2
              generalize dn ds k = dk at *
              generalize at' bs k = b at *
              obtain ⟨bd, bn, bc, bh⟩ := b
              unfold okN at hok
              dsimp only at hok hhq hbd
              subst hbd
              go_wp2_with fail
              clear d0 f0
              generalize hW2 : wo.setCell ⟨D, k, none⟩ (.bool true) = W2 at *
              clear hW2
              go_loopw [10] (fun iv wr => ∃ i : Nat, i ≤ n ∧ iv = .int .i64 (i : Int) ∧ Hid (Nin wr B D (rl g ⟨(k : Int), bn, bc, bh⟩ ds2 bs i) ds2) ∧ Hid (Below B w wr)) (fun iv _ => n - (intOf iv).toNat)
              case atStart => exact ⟨0, by omega, rfl, HR0, HB2⟩
              case round =>
                obtain ⟨i, hi, rfl, hN, hbl⟩ := hrel
                by_cases hlt : (i : Int) < (n : Int)
                · have i0 : (0 : Int) ≤ (i : Int) := by omega
                  have hlen : i < g.length := by rw [unhide HN]; omega
                  have HRr := hide (unhide HRM _ (unhide hbl))
                  obtain ⟨ga, off, rfl⟩ := (unhide HRr).form (by omega)
                  have hA := (unhide HRr).at hlen
                  have hbd := St.ok_bounds (St.setB_ok (two_set (graph_two (unhide HG))) hlen)
                  have hbk := ok_k (two_ok (graph_two (unhide HG)) _ (Tu.getD_mem hlen))
                  have HRX := hide (unhide HRS i)
                  have HKB := hide (unhide HBK i (by omega))
                  have HLB := hide (unhide HRI i (by omega)).len
                  unfold rl1 at HRX
                  unfold hv ha at hbk HRX
                  generalize g.getD i Tu.R.zero = m at *
                  obtain ⟨key, til, val⟩ := m
                  dsimp only at hbd hbk HRX
                  rw [Int.tdiv_eq_ediv_of_nonneg hbd.1, Int.tmod_eq_emod_of_nonneg hbd.1] at hbk HRX
                  obtain ⟨c0, c1, c2⟩ := hA
                  dsimp only at c0 c1 c2
                  have hsl := (unhide hN).1.lt
                  generalize rl g ⟨(k : Int), bn, bc, bh⟩ ds2 bs i = Bi at *
                  generalize hrn : rl g ⟨(k : Int), bn, bc, bh⟩ ds2 bs (i + 1) = Bn at *
                  have HBN := hide hrn
                  clear hrn
                  by_cases hhk : key / 100 = (k : Int)
                  · have hh' : (key / 100 != (k : Int)) = false := by simpa using hhk
                    obtain ⟨t, ht⟩ : ∃ t : Nat, key % 100 = (t : Int) := ⟨(key % 100).toNat, by omega⟩
                    have ht8 : 1 ≤ t ∧ t ≤ 8 := by omega
                    have t0 : (0 : Int) ≤ (t : Int) := by omega
                    have t9 : (t : Int) < 9 := by omega
                    have HRX2 : Hid (Bn = if betB Bi ds2 (ext ⟨(k : Int), bn, bc, bh⟩ (t : Int) val) t = true then Bi.set t (ext ⟨(k : Int), bn, bc, bh⟩ (t : Int) val) else Bi) := hide (by
                      rw [unhide HRX, ht, Int.toNat_natCast]
                      simp only [hhk, true_and])
                    unfold betB at HRX2
                    have hbc : bc + val ≤ 9223372036854775807 := by omega
                    have HSP := hide (sP_of (unhide hN) (unhide HLB) (unhide HDL) (j := t) (k := k) (by omega) (by omega))
                    rw [unhide HKB] at HSP
                    have HTA := hide ht
                    clear HRX hhk
                    go_upto_region 22 with fail
                    refine r22 _ _ _ _ _ _ _ _ _ _ _ _ _ _ _ _ _ _ _ _ _ _ _ _ _ _ _ _ _ _ _ _ _ _ _ _ _ _ _ _ _ _ _ _ _ _ _ _ _ _ _ _ _ _ _ _ _ _ _ _ _ _ _ _ _ _ _ _ _ _ _ _ _ _ _ _ _ _ _ _ _ _ _ _ _ _ _ _ _ _ _ _ _ _ _ _ _ _ _ _ _ _ _ _ _ _ _ _ _ _ _ _ _ _ _ _ _ _ _ _ _ _ _ _ _ _ _ _ _ _ _ _ _ _ _ _ _ _ ga off n cap B k i (key % 100) (k : Int) bn bc bh val _ (hide (unhide HSP).2.2) c2 k0 k9 i0 hlt (by omega) (by omega) hbc (by omega) (by omega) ?_
                    intro r87 r88 r89 r90 r91 r92 r93 r94 r95 r96 r97 r98 r99 r100 r101 r102 r103 r104 r105 r106 r107 r108 r109 r110 wz hwz
                    subst hwz
                    rw [ht]
                    by_cases hkq : (k : Int) = (q : Int)
                    · have hkq' : ((k : Int) == (q : Int)) = true := by simpa using hkq
                      have HB00 : Hid (bh = 0) := hide (hhq.2 hkq)
                      have HEX : Hid (ext ⟨(k : Int), bn, bc, bh⟩ (t : Int) val = ⟨(t : Int), (t : Int), bc + val, bh + 1⟩) := hide (by unfold ext; dsimp only; rw [if_pos (unhide HB00)])
                      clear hkq hhq
                      have b1 : Below wr.heap.size wr (wr.alloc (.cells #[.int .i64 (t : Int), .int .i64 (t : Int), .int .i64 (bc + val), .int .i64 (bh + 1)] 87)).drew := ((Below.refl _ _).alloc (Nat.le_refl _) _).drew
                      have HN1 := hide ((unhide hN).below b1)
                      have HB1 := hide ((unhide hbl).trans (b1.mono (Nat.le_of_lt hsl)))
                      have HX1 : Hid (Bx (wr.alloc (.cells #[.int .i64 (t : Int), .int .i64 (t : Int), .int .i64 (bc + val), .int .i64 (bh + 1)] 87)).drew wr.heap.size ⟨(t : Int), (t : Int), bc + val, bh + 1⟩) := hide (bx_new wr ⟨(t : Int), (t : Int), bc + val, bh + 1⟩ 87).drew
                      have hXB : wr.heap.size ≠ B := by omega
                      have hXD : wr.heap.size ≠ D := by have := (unhide hN).2.lt; omega
                      go_upto_region 25 with fail
                      clear b1 c0 c1 c2 hN hbl ht HRr
                      generalize hW1 : (wr.alloc (.cells #[.int .i64 (t : Int), .int .i64 (t : Int), .int .i64 (bc + val), .int .i64 (bh + 1)] 87)).drew = W1 at *
                      clear hW1
                      generalize hX : wr.heap.size = X at *
                      clear hX
                      have HSQ := hide (sQ_of (unhide HN1) (unhide HLB) (unhide HDL) (j := t) (by omega) (unhide HX1))
                      have HFB : Hid (Bn = if (!dn ds2 t && (decide ((at' Bi t).co < 0) || btB (⟨(t : Int), (t : Int), bc + val, bh + 1⟩ : R) (at' Bi t))) = true then Bi.set t ⟨(t : Int), (t : Int), bc + val, bh + 1⟩ else Bi) := hide (by rw [unhide HRX2, unhide HEX])
                      clear HRX2 HSP
                      generalize hdj : dn ds2 t = dj at *
                      generalize hYY : at' Bi t = Y at *
                      clear hdj hYY
                      clear hbc
                      generalize hXC : bc + val = xc at *
                      generalize hXH : bh + 1 = xh at *
                      clear hXC hXH
                      have HN9 : Hid (∀ W, Nin W B D Bn ds2 → Nin W B D (rl g ⟨(k : Int), bn, bc, bh⟩ ds2 bs (i + 1)) ds2) := hide (fun W h => by rw [unhide HBN]; exact h)
                      refine r25 _ _ _ _ _ _ _ _ _ _ _ _ _ _ _ _ _ _ _ _ _ _ _ _ _ _ _ _ _ _ _ _ _ _ _ _ _ _ _ _ _ _ _ _ _ _ _ _ _ _ _ _ _ _ _ _ _ _ _ _ _ _ _ _ _ _ _ _ _ _ _ _ _ _ _ _ _ _ _ _ _ _ _ _ _ _ _ _ _ _ _ _ _ _ _ _ _ _ _ _ _ _ _ _ _ _ _ _ _ _ _ _ _ _ _ _ _ _ _ _ _ _ _ _ _ _ _ _ _ _ _ _ _ _ _ _ _ _ _ B D t X dj ⟨(t : Int), (t : Int), xc, xh⟩ Y _ HSQ t0 t9 ?_
                      intro c hc r116 r117 r118 r119 r120 r121 r122 r123 r124 r125 r126 r127 r128 r129 r130 r131 r132 r133 r134 r135 W3 bz
                      have HFC : Hid (Bn = if c = true then Bi.set t ⟨(t : Int), (t : Int), xc, xh⟩ else Bi) := hide (by rw [hc]; exact unhide HFB)
                      have HN3 := hide ((unhide HN1).below bz)
                      have HX3 := hide ((unhide HX1).below bz)
                      have HB3 := hide ((unhide HB1).trans (bz.mono (Nat.le_of_lt (unhide HN1).1.lt)))
                      clear bz hc HSQ HFB HN1 HX1 HB1
                      cases c
                      · have HE : Hid (Bn = Bi) := hide (by rw [unhide HFC]; rfl)
                        go_wp2_with fail
                        go_roundw
                        case rel => exact ⟨i + 1, by omega, by go_num, hide (unhide HN9 _ (by rw [unhide HE]; exact unhide HN3)), HB3⟩
                        case measure => simp [intOf]; omega
                      · have HE : Hid (Bn = Bi.set t ⟨(t : Int), (t : Int), xc, xh⟩) := hide (by rw [unhide HFC]; rfl)
                        have HTL : Hid (t < Bi.length) := hide (by rw [unhide HLB]; omega)
                        have HPN : Hid (Nin (put W3 B (t * 4) ⟨(t : Int), (t : Int), xc, xh⟩) B D Bn ds2) := hide ⟨by rw [unhide HE]; exact (unhide HN3).1.put (unhide HTL) _, (put_other hDB).trans (unhide HN3).2⟩
                        have HPB := hide (put_below (g := B) (o := t * 4) (m := ⟨(t : Int), (t : Int), xc, xh⟩) (unhide HB3) (Nat.le_refl _))
                        have HPN9 := hide (unhide HN9 _ (unhide HPN))
                        go_wp2_with (first | (refine wpList_loadR _ rfl rfl (m := ⟨(t : Int), (t : Int), xc, xh⟩) rfl (unhide HX3) ?_) | (refine wpList_storeR _ _ rfl rfl (t := t) (m := ⟨(t : Int), (t : Int), xc, xh⟩) rfl rfl (unhide HN3).1 (unhide HTL) ?_))
                        go_roundw
                        case rel => exact ⟨i + 1, by omega, by go_num, HPN9, HPB⟩
                        case measure => simp [intOf]; omega
                    · have hkq' : ((k : Int) == (q : Int)) = false := by simpa using hkq
                      have HB00 : Hid (¬ bh = 0) := hide (fun e => hkq (hhq.1 e))
                      have HEX : Hid (ext ⟨(k : Int), bn, bc, bh⟩ (t : Int) val = ⟨(t : Int), bn, bc + val, bh + 1⟩) := hide (by unfold ext; dsimp only; rw [if_neg (unhide HB00)])
                      clear hkq hhq
                      have b1 : Below wr.heap.size wr (wr.alloc (.cells #[.int .i64 (t : Int), .int .i64 bn, .int .i64 (bc + val), .int .i64 (bh + 1)] 87)).drew := ((Below.refl _ _).alloc (Nat.le_refl _) _).drew
                      have HN1 := hide ((unhide hN).below b1)
                      have HB1 := hide ((unhide hbl).trans (b1.mono (Nat.le_of_lt hsl)))
                      have HX1 : Hid (Bx (wr.alloc (.cells #[.int .i64 (t : Int), .int .i64 bn, .int .i64 (bc + val), .int .i64 (bh + 1)] 87)).drew wr.heap.size ⟨(t : Int), bn, bc + val, bh + 1⟩) := hide (bx_new wr ⟨(t : Int), bn, bc + val, bh + 1⟩ 87).drew
                      have hXB : wr.heap.size ≠ B := by omega
                      have hXD : wr.heap.size ≠ D := by have := (unhide hN).2.lt; omega
                      go_upto_region 25 with fail
                      clear b1 c0 c1 c2 hN hbl ht HRr
                      generalize hW1 : (wr.alloc (.cells #[.int .i64 (t : Int), .int .i64 bn, .int .i64 (bc + val), .int .i64 (bh + 1)] 87)).drew = W1 at *
                      clear hW1
                      generalize hX : wr.heap.size = X at *
                      clear hX
                      have HSQ := hide (sQ_of (unhide HN1) (unhide HLB) (unhide HDL) (j := t) (by omega) (unhide HX1))
                      have HFB : Hid (Bn = if (!dn ds2 t && (decide ((at' Bi t).co < 0) || btB (⟨(t : Int), bn, bc + val, bh + 1⟩ : R) (at' Bi t))) = true then Bi.set t ⟨(t : Int), bn, bc + val, bh + 1⟩ else Bi) := hide (by rw [unhide HRX2, unhide HEX])
                      clear HRX2 HSP
                      generalize hdj : dn ds2 t = dj at *
                      generalize hYY : at' Bi t = Y at *
                      clear hdj hYY
                      clear hbc
                      generalize hXC : bc + val = xc at *
                      generalize hXH : bh + 1 = xh at *
                      clear hXC hXH
                      have HN9 : Hid (∀ W, Nin W B D Bn ds2 → Nin W B D (rl g ⟨(k : Int), bn, bc, bh⟩ ds2 bs (i + 1)) ds2) := hide (fun W h => by rw [unhide HBN]; exact h)
                      refine r25 _ _ _ _ _ _ _ _ _ _ _ _ _ _ _ _ _ _ _ _ _ _ _ _ _ _ _ _ _ _ _ _ _ _ _ _ _ _ _ _ _ _ _ _ _ _ _ _ _ _ _ _ _ _ _ _ _ _ _ _ _ _ _ _ _ _ _ _ _ _ _ _ _ _ _ _ _ _ _ _ _ _ _ _ _ _ _ _ _ _ _ _ _ _ _ _ _ _ _ _ _ _ _ _ _ _ _ _ _ _ _ _ _ _ _ _ _ _ _ _ _ _ _ _ _ _ _ _ _ _ _ _ _ _ _ _ _ _ _ B D t X dj ⟨(t : Int), bn, xc, xh⟩ Y _ HSQ t0 t9 ?_
                      intro c hc r116 r117 r118 r119 r120 r121 r122 r123 r124 r125 r126 r127 r128 r129 r130 r131 r132 r133 r134 r135 W3 bz
                      have HFC : Hid (Bn = if c = true then Bi.set t ⟨(t : Int), bn, xc, xh⟩ else Bi) := hide (by rw [hc]; exact unhide HFB)
                      have HN3 := hide ((unhide HN1).below bz)
                      have HX3 := hide ((unhide HX1).below bz)
                      have HB3 := hide ((unhide HB1).trans (bz.mono (Nat.le_of_lt (unhide HN1).1.lt)))
                      clear bz hc HSQ HFB HN1 HX1 HB1
                      cases c
                      · have HE : Hid (Bn = Bi) := hide (by rw [unhide HFC]; rfl)
                        go_wp2_with fail
                        go_roundw
                        case rel => exact ⟨i + 1, by omega, by go_num, hide (unhide HN9 _ (by rw [unhide HE]; exact unhide HN3)), HB3⟩
                        case measure => simp [intOf]; omega
                      · have HE : Hid (Bn = Bi.set t ⟨(t : Int), bn, xc, xh⟩) := hide (by rw [unhide HFC]; rfl)
                        have HTL : Hid (t < Bi.length) := hide (by rw [unhide HLB]; omega)
                        have HPN : Hid (Nin (put W3 B (t * 4) ⟨(t : Int), bn, xc, xh⟩) B D Bn ds2) := hide ⟨by rw [unhide HE]; exact (unhide HN3).1.put (unhide HTL) _, (put_other hDB).trans (unhide HN3).2⟩
                        have HPB := hide (put_below (g := B) (o := t * 4) (m := ⟨(t : Int), bn, xc, xh⟩) (unhide HB3) (Nat.le_refl _))
                        have HPN9 := hide (unhide HN9 _ (unhide HPN))
                        go_wp2_with (first | (refine wpList_loadR _ rfl rfl (m := ⟨(t : Int), bn, xc, xh⟩) rfl (unhide HX3) ?_) | (refine wpList_storeR _ _ rfl rfl (t := t) (m := ⟨(t : Int), bn, xc, xh⟩) rfl rfl (unhide HN3).1 (unhide HTL) ?_))
                        go_roundw
                        case rel => exact ⟨i + 1, by omega, by go_num, HPN9, HPB⟩
                        case measure => simp [intOf]; omega
                  · have hh' : (key / 100 != (k : Int)) = true := by simpa using hhk
                    have HE : Hid (Bn = Bi) := hide (by rw [unhide HRX, if_neg (fun e => hhk e.1)])
                    have HN9 : Hid (Nin wr B D (rl g ⟨(k : Int), bn, bc, bh⟩ ds2 bs (i + 1)) ds2) := hide (by rw [unhide HBN, unhide HE]; exact unhide hN)
                    go_wp2_with fail
                    go_roundw
                    case rel => exact ⟨i + 1, by omega, by go_num, HN9, hbl⟩
                    case measure => simp [intOf]; omega
                · obtain rfl : i = n := by omega
                  obtain ⟨h1, h2⟩ := unhide HSTP
                  rw [unhide HN] at h1 h2
                  have HS9 := hide h1
                  have hm9 : 8 - cntW (WM (rl g ⟨(k : Int), bn, bc, bh⟩ ds2 bs i) ds2) < gk := by
                    have h3 := unhide hkx; have h4 := cnt_le (WM (rl g ⟨(k : Int), bn, bc, bh⟩ ds2 bs i) ds2); omega
                  clear h1 h2
                  go_wp2_with fail
                  go_roundg (8 - cntW (WM (rl g ⟨(k : Int), bn, bc, bh⟩ ds2 bs i) ds2))
                  case measure => exact hm9
                  case rel => exact ⟨_, ds2, hN, HS9, hbl, hide (Nat.le_refl _)⟩
end Wd
end Go.Proofs.YtfooahhdikobeaaGreat
namespace Go.Proofs.YtfooahhdikobeaaGreat
open Go.ChangeShapes Go.WideShapes Go.ChangeAt Go.RowKit
set_option linter.unusedVariables false
set_option linter.unusedSimpArgs false
set_option maxRecDepth 100000
attribute [local go_sem ↓] Go.wp_at_zero Go.wp_at_succ
namespace Wd
open W1 Ro Rw Tw
/-- What the model has of an address, and what the program has. -/
theorem mdl_ways {g : List Tu.R} {f : Int} (hG : Good g f (best g f)) {j : Nat} (hj : j < 8) :
    dstV (at' (waysL g f) j) = (at' (mdl g f) (j + 1)).co ∧ keptB f (at' (waysL g f) j) = (((j : Int) + 1 != f) && decide (0 ≤ (at' (mdl g f) (j + 1)).co)) ∧ (keptB f (at' (waysL g f) j) = true → at' (waysL g f) j = at' (mdl g f) (j + 1)) := by
  rw [waysL_at g f hj, mdl_at g f (by omega), if_neg (by omega)]
  have e : ((j + 1 : Nat) : Int) = (j : Int) + 1 := by omega
  rw [e]
  cases hb : best g f ((j : Int) + 1) with
  | none =>
    refine ⟨rfl, ?_, fun h => ?_⟩
    · show (false && _) = ((j : Int) + 1 != f && decide ((0 : Int) ≤ -1))
      simp
    · exfalso
      have : keptB f R.zero = false := rfl
      rw [show (none : Option R).getD R.zero = R.zero from rfl, this] at h; cases h
  | some x =>
    obtain ⟨h1, h2, _⟩ := hG.too _ x hb
    refine ⟨?_, ?_, fun _ => rfl⟩
    · show dstV x = x.co
      unfold dstV; rw [if_neg (by omega)]
    · show (x.ds != 0 && x.ds != f) = ((j : Int) + 1 != f && decide (0 ≤ x.co))
      rw [decide_eq_true h2, Bool.and_true, h1, show ((j : Int) + 1 != 0) = true by simp; omega, Bool.true_and]
theorem BV.rm {w : World} {b : Nat} {bs : List R} (h : BV w b bs) {i : Nat} (hi : i < bs.length) : At w b (i * 4) (at' bs i) := h.at hi
theorem BV.grown {w w' : World} {b : Nat} {bs : List R} {r : Option Nat} (h : BV w b bs) (hg : w.grownBy w' r) (hne : some b ≠ r) : BV w' b bs := (hg.block b h.lt hne).trans h
theorem wpList_apT {ops : Array Oper} {rest : List Oper} {o : Oper} {a : Act} {Q : Exit → Act → World → Prop} {w : World} {base : Nat} {v : Value} {xs : List R} (hown : w.ownsRow base 87 4 v xs.length (flat xs)) (g off m c : Nat) (zs : List R) (hm : zs.length = m) (hm0 : 0 < m) (hr : RM w (some ⟨g, off, none⟩) zs) (hlen : xs.length + zs.length ≤ 4194304) (hbase : base ≤ w.heap.size)
    (hgd : o.guard = none) (s x : Operand) (ho : o.op = .call { callee := .builtin .append, args := #[s, x], argTypes := #[88, 88] }) (hs : a.eval s = v) (hx : a.eval x = .slice (some ⟨g, off, none⟩) m c)
    (h : ∀ v' w', w'.ownsRow base 87 4 v' (xs ++ zs).length (flat (xs ++ zs)) → w.grownBy w' v.ownBlock → (v'.ownBlock = v.ownBlock ∨ v'.ownBlock = some w.heap.size) → wpList Tryz.prog ops Q rest (a.put o.dst v') w') : wpList Tryz.prog ops Q (o :: rest) a w := by
  subst hm
  obtain ⟨i0, hi, hz0, hz1, hz2⟩ := infoR
  refine wpList_append_lies w hgd s x _ ho base 87 i0 _ 4 32 Tryz.underlying88 hi hz0 hz1 hz2 rfl (by decide) v xs.length (flat xs) hs hown ⟨g, off, none⟩ zs.length c (flat zs) hx (flat_len zs) hr.cells (fun u hu => flat_one_cell hu) hm0 (by unfold maxLen; omega) (by omega) hbase _ rfl (fun g' cap w' h1 h2 h3 h4 => ?_)
  refine h _ w' ?_ h2 ?_
  · rw [List.length_append, flat_append]; exact h1
  · rcases h3 with h3 | h3
    · exact .inl h3.symm
    · exact .inr (by rw [h3]; rfl)
set_option maxHeartbeats 8000000 in
theorem l11List (a : Option Addr) (g : List Tu.R) (cap : Nat) (f : Int) (w : World) (hg : graphB g = true) (hf : 1 ≤ f ∧ f ≤ 8) (hr : Tu.RM w a g) :
    Calls Tryz.prog 120 #[.slice a g.length cap, .int .i64 f] w fun e w' => ∃ v, e = .returned v ∧ Below w.heap.size w w' ∧ LstV w' v (rouL g f) w.heap.size w'.heap.size := by
  have HR := hide hr
  have HLR : Hid (∀ W, Tu.RM W a g → Calls Tryz.prog 64 #[.slice a g.length cap, .int .i64 f] W fun e w' => ∃ b, e = .returned (.slice (some ⟨b, 0, none⟩) 9 9) ∧ Below W.heap.size W w' ∧ W.heap.size ≤ b ∧ BV w' b (mdl g f) ∧ Good g f (best g f)) := hide (fun W h => l11Routes a g cap f W hg hf h)
  have BE : Hid (Below w.heap.size w (w.alloc (.cells #[] 87))) := hide ((Below.refl _ _).alloc (Nat.le_refl _) _)
  clear hr hg hf
  go_enter Tryz.func120, Tryz.ntmps120
  go_wp2_with fail
  refine (unhide HLR _ ((unhide HR).below (unhide BE))).mono ?_
  rintro e w2 ⟨B, rfl, b2, hB, bv2, hG⟩
  have HB2 := hide ((unhide BE).trans (b2.mono (unhide BE).size))
  have OW2 : Hid (w2.ownsRow w.heap.size 87 4 (.slice (some ⟨w.heap.size, 0, none⟩) 0 0) (((waysL g f).take 0).filter (keptB f)).length (flat (((waysL g f).take 0).filter (keptB f)))) := hide ((World.ownsRow_made w #[] 0 (Nat.le_refl _) (Nat.zero_le _) rfl).kept (row := none) ⟨b2.os, b2.tape, b2.output, b2.size, fun k hk _ => b2.block k hk⟩ (by simp [Value.ownBlock]))
  have hs2 := b2.size
  simp only [World.size_alloc] at hs2 hB
  have HBV := hide bv2
  have HTY : Hid (∀ j : Nat, j < 8 → (((j : Int) + 1 != f) && decide (0 ≤ (at' (mdl g f) (j + 1)).co)) = true → ((waysL g f).take (j + 1)).filter (keptB f) = ((waysL g f).take j).filter (keptB f) ++ [at' (mdl g f) (j + 1)]) := hide (fun j hj hk => by
    have hk' : keptB f (at' (waysL g f) j) = true := by rw [(mdl_ways hG hj).2.1]; exact hk
    rw [tk1 R.zero (by rw [waysL_len]; exact hj), List.filter_append, show (waysL g f).getD j R.zero = at' (waysL g f) j from rfl, List.filter_cons_of_pos hk', (mdl_ways hG hj).2.2 hk']; rfl)
  have HTN : Hid (∀ j : Nat, j < 8 → (((j : Int) + 1 != f) && decide (0 ≤ (at' (mdl g f) (j + 1)).co)) = false → ((waysL g f).take (j + 1)).filter (keptB f) = ((waysL g f).take j).filter (keptB f)) := hide (fun j hj hk => by
    have hk' : keptB f (at' (waysL g f) j) = false := by rw [(mdl_ways hG hj).2.1]; exact hk
    rw [tk1 R.zero (by rw [waysL_len]; exact hj), List.filter_append, show (waysL g f).getD j R.zero = at' (waysL g f) j from rfl, List.filter_cons_of_neg (by rw [hk']; simp)]; simp)
  have HTL : Hid (∀ j, (((waysL g f).take j).filter (keptB f)).length ≤ 8) := hide (fun j => by have := List.length_filter_le (keptB f) ((waysL g f).take j); rw [List.length_take, waysL_len] at this; omega)
  have HFL : Hid (((waysL g f).take 8).filter (keptB f) = rouL g f) := hide (by rw [List.take_of_length_le (by rw [waysL_len]; exact Nat.le_refl _)]; rfl)
  have HML := hide (mdl_len g f)
  clear b2 bv2 hG HLR BE
  generalize mdl g f = ms at *
  generalize hWL : waysL g f = ws at *
  clear hWL
  go_wp2_with fail
  go_loopw [5, 7] (fun v iv wr => ∃ t : Nat, 1 ≤ t ∧ t ≤ 9 ∧ iv = .int .i64 (t : Int) ∧ Hid (wr.ownsRow w.heap.size 87 4 v ((ws.take (t - 1)).filter (keptB f)).length (flat ((ws.take (t - 1)).filter (keptB f)))) ∧ Hid (v.ownBlock ≠ some B) ∧ Hid (BV wr B ms) ∧ Hid (Below w.heap.size w wr)) (fun _ iv _ => 9 - (intOf iv).toNat)
  case atStart => exact ⟨1, by omega, by omega, rfl, OW2, hide (by simp [Value.ownBlock]; omega), HBV, HB2⟩
  case round =>
    obtain ⟨t, ht1, ht9, rfl, how, hvb, hbv, hbl⟩ := hrel
    have hbs := (unhide hbl).size
    by_cases hlt : (t : Int) ≤ 8
    · have t0 : (0 : Int) ≤ (t : Int) := by omega
      have t9 : (t : Int) < 9 := by omega
      have ej : ((t - 1 : Nat) : Int) + 1 = (t : Int) := by omega
      have HTy : Hid (((t : Int) != f && decide (0 ≤ (at' ms t).co)) = true → (ws.take t).filter (keptB f) = (ws.take (t - 1)).filter (keptB f) ++ [at' ms t]) := hide (by have := unhide HTY (t - 1) (by omega); rw [show t - 1 + 1 = t by omega, ej] at this; exact this)
      have HTn : Hid (((t : Int) != f && decide (0 ≤ (at' ms t).co)) = false → (ws.take t).filter (keptB f) = (ws.take (t - 1)).filter (keptB f)) := hide (by have := unhide HTN (t - 1) (by omega); rw [show t - 1 + 1 = t by omega, ej] at this; exact this)
      have HTJ := unhide HTL (t - 1)
      obtain ⟨c0, c1, c2, c3⟩ := (unhide hbv).at (i := t) (by rw [unhide HML]; omega)
      have hlB := (unhide hbv).lt
      clear ej
      generalize at' ms t = x at *
      generalize hDT : (ws.take (t - 1)).filter (keptB f) = D1 at *
      clear hDT
      obtain ⟨xa, xn, xc, xh⟩ := x
      dsimp only at c0 c1 c2 c3 HTy HTn
      cases hd : ((t : Int) != f)
      · have HTF := hide (unhide HTn (by rw [hd]; rfl))
        have HO : Hid (wr.ownsRow w.heap.size 87 4 u5 ((ws.take (t + 1 - 1)).filter (keptB f)).length (flat ((ws.take (t + 1 - 1)).filter (keptB f)))) := hide (by rw [Nat.add_sub_cancel, unhide HTF]; exact unhide how)
        clear HTy HTn
        go_wp2_with fail
        go_roundw
        case rel => exact ⟨t + 1, by omega, by omega, by go_num, HO, hvb, hbv, hbl⟩
        case measure => simp [intOf]; omega
      · by_cases hxc : 0 ≤ xc
        · have HTF := hide (unhide HTy (by rw [hd, decide_eq_true hxc]; rfl))
          clear HTy HTn
          go_wp2_with (at_builtin; refine wpList_apT ((unhide how).alloc _) wr.heap.size 0 1 1 [(⟨xa, xn, xc, xh⟩ : R)] rfl (by omega) (rm_new wr ⟨xa, xn, xc, xh⟩) (by simp only [List.length_cons, List.length_nil]; omega) (by simp; omega) rfl _ _ rfl rfl rfl ?_; intro v' w' ho hg hv; have HO : Hid (w'.ownsRow w.heap.size 87 4 v' ((ws.take (t + 1 - 1)).filter (keptB f)).length (flat ((ws.take (t + 1 - 1)).filter (keptB f)))) := hide (by rw [Nat.add_sub_cancel, unhide HTF]; exact ho); have HBB := hide (((unhide hbv).below ((Below.refl _ _).alloc (Nat.le_refl _) (.cells #[.int .i64 xa, .int .i64 xn, .int .i64 xc, .int .i64 xh] 87))).grown hg (fun e => unhide hvb e.symm)); have HVB : Hid (v'.ownBlock ≠ some B) := hide (by rcases hv with e | e; rw [e]; exact unhide hvb; rw [e]; simp; omega); have HB := hide (below_own ((unhide hbl).alloc hbs _) ((unhide how).alloc _) hg (Nat.le_refl _) (by simp; omega)); clear ho hg hv)
          go_roundw
          case rel => exact ⟨t + 1, by omega, by omega, by go_num, HO, HVB, HBB, HB⟩
          case measure => simp [intOf]; omega
        · have HTF := hide (unhide HTn (by rw [hd, decide_eq_false hxc]; rfl))
          have HO : Hid (wr.ownsRow w.heap.size 87 4 u5 ((ws.take (t + 1 - 1)).filter (keptB f)).length (flat ((ws.take (t + 1 - 1)).filter (keptB f)))) := hide (by rw [Nat.add_sub_cancel, unhide HTF]; exact unhide how)
          clear HTy HTn
          go_wp2_with fail
          go_roundw
          case rel => exact ⟨t + 1, by omega, by omega, by go_num, HO, hvb, hbv, hbl⟩
          case measure => simp [intOf]; omega
    · obtain rfl : t = 9 := by omega
      have HL : Hid (LstV wr u5 (rouL g f) w.heap.size wr.heap.size) := hide (by
        have := lst_own rfl (unhide how)
        rw [show 9 - 1 = 8 from rfl, unhide HFL] at this
        exact this)
      go_wp2_with fail
      go_ret
      exact ⟨_, rfl, unhide hbl, unhide HL⟩
end Wd
end Go.Proofs.YtfooahhdikobeaaGreat
namespace Go.Proofs.YtfooahhdikobeaaGreat
open Go.ChangeShapes Go.WideShapes Go.ChangeAt Go.RowKit
set_option linter.unusedVariables false
set_option linter.unusedSimpArgs false
set_option maxRecDepth 100000
attribute [local go_sem ↓] Go.wp_at_zero Go.wp_at_succ
namespace Rt
open W1
noncomputable def rrA (me now : Int) (ls : List Lk.R) (es : List Tu.R) (b : Bool) : List Ro.R := if b = true then Wd.rouL (Gr.graph me ls es now) me else []
theorem rtr_parts {x1 x2 x3 x4 x5 x6 : Int} {ls : List Lk.R} {tw : List Tu.R} {se : List Tu.R} {du : List Tu.R} {ss : List So.R} {es : List Tu.R} {la : List Ed.R} (h : rtrB x1 x2 x3 x4 x5 x6 ls tw se du ss es la = true) : inB x1 1 8 = true ∧ Ln.linksB ls = true ∧ Tp.topB ss es = true := by
  unfold rtrB lksB at h
  simp only [Bool.and_eq_true] at h
  obtain ⟨h1, h2, h3, h4, h5, h6, ⟨h7, _⟩, h8, h9, h10, h11, h12⟩ := h
  exact ⟨h1, h7, h11⟩
theorem pos_L {me now : Int} {ls : List Lk.R} : ∀ j, ∀ m ∈ Gr.grL me now ls j, 1 ≤ m.val := by
  intro j
  unfold Gr.grL
  generalize ls.take j = xs
  have : ∀ (xs : List Lk.R) (L : List Tu.R), (∀ m ∈ L, 1 ≤ m.val) → ∀ m ∈ xs.foldl (fun L x => if Gr.lkOn me now x = true then St.putL L (Gr.lkT me x) else L) L, 1 ≤ m.val := by
    intro xs
    induction xs with
    | nil => intro L h m hm; exact h m hm
    | cons x r ih =>
      intro L h
      rw [List.foldl_cons]
      refine ih _ ?_
      split
      · rename_i hx
        intro m hm
        rcases Tw.mem_put hm with rfl | hm
        · unfold Gr.lkOn at hx
          simp only [Bool.and_eq_true, decide_eq_true_eq] at hx
          unfold Gr.lkT; dsimp only; omega
        · exact h m hm
      · exact h
  exact this xs [] (by simp)
theorem pos_E {me now : Int} {L es : List Tu.R} (hL : ∀ m ∈ L, 1 ≤ m.val) (he : ∀ m ∈ es, 1 ≤ m.val) : ∀ m ∈ Gr.grE me now L es es.length, 1 ≤ m.val := by
  unfold Gr.grE
  rw [List.take_length]
  have : ∀ (xs L : List Tu.R), (∀ m ∈ xs, 1 ≤ m.val) → (∀ m ∈ L, 1 ≤ m.val) → ∀ m ∈ xs.foldl (fun L e => if Gr.edOn me now e = true then St.putL L (Gr.edT e) else L) L, 1 ≤ m.val := by
    intro xs
    induction xs with
    | nil => intro L _ h m hm; exact h m hm
    | cons x r ih =>
      intro L hx h
      rw [List.foldl_cons]
      refine ih _ (fun m hm => hx m (List.mem_cons_of_mem _ hm)) ?_
      split
      · intro m hm
        rcases Tw.mem_put hm with rfl | hm
        · exact hx x List.mem_cons_self
        · exact h m hm
      · exact h
  exact this es L he hL
theorem graph_right {me now : Int} {ls : List Lk.R} {ss : List So.R} {es : List Tu.R} (h1 : inB me 1 8 = true) (h2 : Ln.linksB ls = true) (h3 : Tp.topB ss es = true) : Wd.graphB (Gr.graph me ls es now) = true := by
  refine Wd.graph_of (Gr.graph_two (Gr.gra_ok h2 h1 h3)) ?_
  unfold Gr.graph
  refine pos_E (pos_L _) (fun m hm => ?_)
  have := Tp.top_edg h3 m hm
  unfold Tp.okE at this
  simp only [Bool.and_eq_true, decide_eq_true_eq] at this
  exact this.1
theorem sRR {w : World} {b : Nat} {x1 x2 x3 x4 x5 x6 : Int} {v1 v2 v3 v4 v5 v6 v7 : Value} (h : RA w b (rC x1 x2 x3 x4 x5 v1 v2 v3 v4 v5 v6 v7 x6)) :
    RA w b (rC x1 x2 x3 x4 x5 v1 v2 v3 v4 v5 v6 v7 x6) ∧ w.cell? ⟨b, 0, none⟩ = some (.int .i64 x1) ∧ w.cell? ⟨b, 4, none⟩ = some (.int .i64 x5) ∧ w.cell? ⟨b, 5, none⟩ = some v1 ∧ w.cell? ⟨b, 9, none⟩ = some v5 ∧ w.cell? ⟨b, 10, none⟩ = some v6 :=
  ⟨h, h.at (i := 0) rfl, h.at (i := 4) rfl, h.at (i := 5) rfl, h.at (i := 9) rfl, h.at (i := 10) rfl⟩
theorem rou_yes {g : List Tu.R} {f : Int} (h : Wd.codeG g f = 0) : Wd.rouA g f = Wd.rouL g f := by unfold Wd.rouA; rw [if_pos h]
set_option maxHeartbeats 8000000 in
theorem implRR (x1 x2 x3 x4 x5 x6 : Int) (a1 a2 a3 a4 a5 a6 a7 : Option Addr) (c1 c2 c3 c4 c5 c6 c7 : Nat) (ls : List Lk.R) (tw : List Tu.R) (se : List Tu.R) (du : List Tu.R) (ss : List So.R) (es : List Tu.R) (la : List Ed.R) (w : World) (hm1 : ls.length ≤ 1048576) (hm2 : tw.length ≤ 1048576) (hm3 : se.length ≤ 1048576) (hm4 : du.length ≤ 1048576) (hm5 : ss.length ≤ 1048576) (hm6 : es.length ≤ 1048576) (hm7 : la.length ≤ 1048576) (hr1 : Lk.RM w a1 ls) (hr2 : Tu.RM w a2 tw) (hr3 : Tu.RM w a3 se) (hr4 : Tu.RM w a4 du) (hr5 : So.RM w a5 ss) (hr6 : Tu.RM w a6 es) (hr7 : Ed.RM w a7 la) :
    Calls Tryz.prog 70 #[.agg #[.int .i64 x1, .int .i64 x2, .int .i64 x3, .int .i64 x4, .int .i64 x5, .slice a1 ls.length c1, .slice a2 tw.length c2, .slice a3 se.length c3, .slice a4 du.length c4, .slice a5 ss.length c5, .slice a6 es.length c6, .slice a7 la.length c7, .int .i64 x6]] w fun e w' => ∃ v, e = .returned (.tuple #[v, .int .i64 (rtrC (rtrB x1 x2 x3 x4 x5 x6 ls tw se du ss es la))]) ∧ Below w.heap.size w w' ∧ Ro.LstV w' v (rrA x1 x5 ls es (rtrB x1 x2 x3 x4 x5 x6 ls tw se du ss es la)) w.heap.size w'.heap.size := by
  have HAL : Hid (Al w (w.alloc (.cells #[.int .i64 x1, .int .i64 x2, .int .i64 x3, .int .i64 x4, .int .i64 x5, .slice a1 ls.length c1, .slice a2 tw.length c2, .slice a3 se.length c3, .slice a4 du.length c4, .slice a5 ss.length c5, .slice a6 es.length c6, .slice a7 la.length c7, .int .i64 x6] 83)) (rC x1 x2 x3 x4 x5 (.slice a1 ls.length c1) (.slice a2 tw.length c2) (.slice a3 se.length c3) (.slice a4 du.length c4) (.slice a5 ss.length c5) (.slice a6 es.length c6) (.slice a7 la.length c7) x6)) := hide ⟨(Below.refl _ _).alloc (Nat.le_refl _) _, ra_new w _ rfl _⟩
  have HR1 := hide hr1
  clear hr1
  have HR2 := hide hr2
  clear hr2
  have HR3 := hide hr3
  clear hr3
  have HR4 := hide hr4
  clear hr4
  have HR5 := hide hr5
  clear hr5
  have HR6 := hide hr6
  clear hr6
  have HR7 := hide hr7
  clear hr7
  have KO := hide (fun W => implRtr x1 x2 x3 x4 x5 x6 a1 a2 a3 a4 a5 a6 a7 c1 c2 c3 c4 c5 c6 c7 ls tw se du ss es la W hm1 hm2 hm3 hm4 hm5 hm6 hm7)
  have KG := hide (fun W => Gr.implGraph x1 a1 ls c1 a5 ss c5 a6 es c6 x5 W hm1 hm5 hm6)
  cases hB : rtrB x1 x2 x3 x4 x5 x6 ls tw se du ss es la
  · rw [hB] at KO
    rw [show rtrC false = 1 from rfl, show rrA x1 x5 ls es false = [] from rfl]
    clear hB
    go_enter Tryz.func70, Tryz.ntmps70
    go_wp2_with (refine wpList_loadR _ rfl rfl rfl (unhide HAL).2 ?_)
    generalize hW0 : w.alloc (.cells #[.int .i64 x1, .int .i64 x2, .int .i64 x3, .int .i64 x4, .int .i64 x5, .slice a1 ls.length c1, .slice a2 tw.length c2, .slice a3 se.length c3, .slice a4 du.length c4, .slice a5 ss.length c5, .slice a6 es.length c6, .slice a7 la.length c7, .int .i64 x6] 83) = W0 at *
    clear hW0
    refine (unhide KO _ ((unhide HR1).below (unhide HAL).1) ((unhide HR2).below (unhide HAL).1) ((unhide HR3).below (unhide HAL).1) ((unhide HR4).below (unhide HAL).1) ((unhide HR5).below (unhide HAL).1) ((unhide HR6).below (unhide HAL).1) ((unhide HR7).below (unhide HAL).1)).mono ?_
    rintro e V1 ⟨rfl, b_⟩
    replace HAL := hide (al_below (unhide HAL) b_)
    clear b_
    go_wp2_with fail
    go_ret2
    exact ⟨_, rfl, (unhide HAL).1, Ro.lstV_nil _ _ _ _ _⟩
  · obtain ⟨q1, q2, q3⟩ := rtr_parts hB
    have hg := graph_right (now := x5) q1 q2 q3
    have hc := Gr.gra_ok q2 q1 q3
    have hl := Tw.two_len (Gr.graph_two (now := x5) hc)
    rw [show rtrC true = 0 from rfl, show rrA x1 x5 ls es true = Wd.rouL (Gr.graph x1 ls es x5) x1 from rfl]
    rw [hB] at KO
    rw [hc, Gr.gra_yes hc] at KG
    generalize Gr.graph x1 ls es x5 = G at *
    have KR := hide (fun W a c => Wd.implRoutes a G c x1 W (by omega))
    rw [rou_yes (Wd.codeG_zero hg q1), Wd.codeG_zero hg q1] at KR
    clear hB hc hg q1 q2 q3
    go_enter Tryz.func70, Tryz.ntmps70
    go_wp2_with (refine wpList_loadR _ rfl rfl rfl (unhide HAL).2 ?_)
    generalize hW0 : w.alloc (.cells #[.int .i64 x1, .int .i64 x2, .int .i64 x3, .int .i64 x4, .int .i64 x5, .slice a1 ls.length c1, .slice a2 tw.length c2, .slice a3 se.length c3, .slice a4 du.length c4, .slice a5 ss.length c5, .slice a6 es.length c6, .slice a7 la.length c7, .int .i64 x6] 83) = W0 at *
    clear hW0
    refine (unhide KO _ ((unhide HR1).below (unhide HAL).1) ((unhide HR2).below (unhide HAL).1) ((unhide HR3).below (unhide HAL).1) ((unhide HR4).below (unhide HAL).1) ((unhide HR5).below (unhide HAL).1) ((unhide HR6).below (unhide HAL).1) ((unhide HR7).below (unhide HAL).1)).mono ?_
    rintro e V1 ⟨rfl, b_⟩
    replace HAL := hide (al_below (unhide HAL) b_)
    clear b_
    have z0 := (unhide HAL).2.at (i := 0) rfl
    have z5 := (unhide HAL).2.at (i := 5) rfl
    have z9 := (unhide HAL).2.at (i := 9) rfl
    have z10 := (unhide HAL).2.at (i := 10) rfl
    have z4 := (unhide HAL).2.at (i := 4) rfl
    go_wp2_with fail
    clear z0 z5 z9 z10 z4
    refine (unhide KG _ ((unhide HR1).below (unhide HAL).1) ((unhide HR5).below (unhide HAL).1) ((unhide HR6).below (unhide HAL).1)).mono ?_
    rintro e V2 ⟨v2, rfl, b_, lv⟩
    replace HAL := hide (al_below (unhide HAL) b_)
    obtain ⟨ga, gc, rfl, gl⟩ := lv
    have HG := hide gl.rm
    clear b_ gl
    have z0 := (unhide HAL).2.at (i := 0) rfl
    go_wp2_with fail
    clear z0
    refine (unhide KR _ _ _ (unhide HG)).mono ?_
    rintro e V3 ⟨v3, rfl, b_, lv⟩
    have HL := hide (lv.mono (unhide HAL).1.size (Nat.le_refl _))
    replace HAL := hide (al_below (unhide HAL) b_)
    clear b_ lv
    go_wp2_with fail
    go_ret2
    exact ⟨_, rfl, (unhide HAL).1, unhide HL⟩
set_option maxHeartbeats 8000000 in
theorem l12Routes (x1 x2 x3 x4 x5 x6 : Int) (a1 a2 a3 a4 a5 a6 a7 : Option Addr) (c1 c2 c3 c4 c5 c6 c7 : Nat) (ls : List Lk.R) (tw : List Tu.R) (se : List Tu.R) (du : List Tu.R) (ss : List So.R) (es : List Tu.R) (la : List Ed.R) (w : World) (hm1 : ls.length ≤ 1048576) (hm2 : tw.length ≤ 1048576) (hm3 : se.length ≤ 1048576) (hm4 : du.length ≤ 1048576) (hm5 : ss.length ≤ 1048576) (hm6 : es.length ≤ 1048576) (hm7 : la.length ≤ 1048576) (hr1 : Lk.RM w a1 ls) (hr2 : Tu.RM w a2 tw) (hr3 : Tu.RM w a3 se) (hr4 : Tu.RM w a4 du) (hr5 : So.RM w a5 ss) (hr6 : Tu.RM w a6 es) (hr7 : Ed.RM w a7 la) (hg : Wd.graphB (Gr.graph x1 ls es x5) = true) (hf : 1 ≤ x1 ∧ x1 ≤ 8) (hc : Gr.graC x1 ls ss es = 0) :
    Calls Tryz.prog 121 #[.agg #[.int .i64 x1, .int .i64 x2, .int .i64 x3, .int .i64 x4, .int .i64 x5, .slice a1 ls.length c1, .slice a2 tw.length c2, .slice a3 se.length c3, .slice a4 du.length c4, .slice a5 ss.length c5, .slice a6 es.length c6, .slice a7 la.length c7, .int .i64 x6]] w fun e w' => ∃ v, e = .returned v ∧ Below w.heap.size w w' ∧ Ro.LstV w' v (Wd.rouL (Gr.graph x1 ls es x5) x1) w.heap.size w'.heap.size := by
  have HAL : Hid (Al w (w.alloc (.cells #[.int .i64 x1, .int .i64 x2, .int .i64 x3, .int .i64 x4, .int .i64 x5, .slice a1 ls.length c1, .slice a2 tw.length c2, .slice a3 se.length c3, .slice a4 du.length c4, .slice a5 ss.length c5, .slice a6 es.length c6, .slice a7 la.length c7, .int .i64 x6] 83)) (rC x1 x2 x3 x4 x5 (.slice a1 ls.length c1) (.slice a2 tw.length c2) (.slice a3 se.length c3) (.slice a4 du.length c4) (.slice a5 ss.length c5) (.slice a6 es.length c6) (.slice a7 la.length c7) x6)) := hide ⟨(Below.refl _ _).alloc (Nat.le_refl _) _, ra_new w _ rfl _⟩
  have HR1 := hide hr1
  clear hr1
  have HR2 := hide hr2
  clear hr2
  have HR3 := hide hr3
  clear hr3
  have HR4 := hide hr4
  clear hr4
  have HR5 := hide hr5
  clear hr5
  have HR6 := hide hr6
  clear hr6
  have HR7 := hide hr7
  clear hr7
  have KG := hide (fun W => Gr.l11Graph x1 a1 ls c1 a5 ss c5 a6 es c6 x5 W hc)
  generalize Gr.graph x1 ls es x5 = G at *
  have KR := hide (fun W a c => Wd.l11List a G c x1 W hg hf)
  clear hc hg hf
  go_enter Tryz.func121, Tryz.ntmps121
  go_wp2_with fail
  generalize hW0 : w.alloc (.cells #[.int .i64 x1, .int .i64 x2, .int .i64 x3, .int .i64 x4, .int .i64 x5, .slice a1 ls.length c1, .slice a2 tw.length c2, .slice a3 se.length c3, .slice a4 du.length c4, .slice a5 ss.length c5, .slice a6 es.length c6, .slice a7 la.length c7, .int .i64 x6] 83) = W0 at *
  clear hW0
  refine wp_region_noPanic ?_
  refine wp_region_held_drew (S := fun w' => RA w' w.heap.size (rC x1 x2 x3 x4 x5 (.slice a1 ls.length c1) (.slice a2 tw.length c2) (.slice a3 se.length c3) (.slice a4 du.length c4) (.slice a5 ss.length c5) (.slice a6 es.length c6) (.slice a7 la.length c7) x6) ∧ w'.cell? ⟨w.heap.size, 0, none⟩ = some (.int .i64 x1) ∧ w'.cell? ⟨w.heap.size, 4, none⟩ = some (.int .i64 x5) ∧ w'.cell? ⟨w.heap.size, 5, none⟩ = some (.slice a1 ls.length c1) ∧ w'.cell? ⟨w.heap.size, 9, none⟩ = some (.slice a5 ss.length c5) ∧ w'.cell? ⟨w.heap.size, 10, none⟩ = some (.slice a6 es.length c6)) (by kernel_rfl) (sRR (unhide HAL).2.drew) (fun hHeld => ?_)
  refine Rg.t 0 3 ?_
  refine Rg.t 1 4 ?_
  refine Rg.t 2 5 ?_
  refine Rg.t 3 6 ?_
  refine Rg.t 4 7 ?_
  refine Rg.t 5 8 ?_
  refine Rg.t 6 9 ?_
  refine Rg.t 7 10 ?_
  refine Rg.t 9 12 ?_
  refine Rg.t 10 13 ?_
  (refine Rg.o 8 (fun K hK => ?_); go_simp)
  refine (unhide KG _ ((unhide HR1).below (unhide HAL).1.drew) ((unhide HR6).below (unhide HAL).1.drew)).mono ?_
  rintro e V2 ⟨v2, rfl, b__, lv⟩
  have b_ : Below W0.heap.size W0 V2 := (Below.refl _ _).drew.trans b__
  replace HAL := hide (al_below (unhide HAL) b_)
  obtain ⟨ga, gc, rfl, gl⟩ := lv
  have HG := hide gl.rm
  clear b_ b__ gl hHeld
  refine hK.out _ _ (sRR (unhide HAL).2) (fun hHeld => ?_)
  clear hK K
  (try simp only [Act.put, List.setIfInBounds_toArray, List.set_cons_zero, List.set_cons_succ])
  (refine Rg.o 11 (fun K hK => ?_); go_simp)
  refine (unhide KR _ _ _ (unhide HG)).mono ?_
  rintro e V3 ⟨v3, rfl, b_, lv⟩
  have HL := hide (lv.mono (unhide HAL).1.size (Nat.le_refl _))
  replace HAL := hide (al_below (unhide HAL) b_)
  clear b_ lv hHeld
  refine hK.out _ _ (sRR (unhide HAL).2) (fun hHeld => ?_)
  clear hK K
  (try simp only [Act.put, List.setIfInBounds_toArray, List.set_cons_zero, List.set_cons_succ])
  refine Rg.t 12 2 ?_
  refine wpAnyH_done (by kernel_rfl) (NoPanic.normal ?_) _
  clear hHeld
  go_wp2_with fail
  go_ret
  exact ⟨_, rfl, (unhide HAL).1, unhide HL⟩
end Rt
end Go.Proofs.YtfooahhdikobeaaGreat
namespace Go.Proofs.YtfooahhdikobeaaGreat
open Go.ChangeShapes Go.WideShapes Go.ChangeAt Go.RowKit
set_option linter.unusedVariables false
set_option linter.unusedSimpArgs false
set_option maxRecDepth 100000
attribute [local go_sem ↓] Go.wp_at_zero Go.wp_at_succ
namespace Nt
open W1 Rt
theorem inB_out {x a b : Int} (h : inB x a b = true) : a ≤ x ∧ x ≤ b := by simpa [inB] using h
/-- The ways that a router has, and whether they are as good as those of the true graph. -/
noncomputable def hasR (m : Rm) : List Ro.R := Wd.rouL (Gr.graph m.x1 m.ls m.es m.x5) m.x1
theorem netB_r {ms : List Rm} {cs : List Int} {fs : List Fm.R} {t : Int} (h : netB ms cs fs t = true) : ∀ i, i < ms.length → okM (ms.getD i Rm.zero) = true ∧ (ms.getD i Rm.zero).x1 = (i : Int) + 1 := by
  intro i hi
  unfold netB rtsB at h
  simp only [Bool.and_eq_true] at h
  have h1 := allI_at h.2.2.1 hi
  unfold rok at h1
  simp only [Bool.and_eq_true, beq_iff_eq] at h1
  exact ⟨h1.1, h1.2.1⟩
end Nt
end Go.Proofs.YtfooahhdikobeaaGreat
namespace Go.Proofs.YtfooahhdikobeaaGreat
set_option linter.unusedVariables false
set_option linter.unusedSimpArgs false
namespace Wd
open W1 Ro Rw Tw
theorem fin_end {g : List Tu.R} (hg : graphB g = true) {f : Int} {bs : List R} {ds : List Bool} (h : StM g f bs ds) (h0 : pk bs ds 8 = 0) :
    Good g f (best g f) ∧ ∀ a : Nat, 1 ≤ a → a ≤ 8 → ∀ x, best g f (a : Int) = some x → okN 8 x := by
  obtain ⟨e, hG⟩ := stm_done hg h h0
  refine ⟨hG, fun a h1 h8 x hx => ?_⟩
  have ea : at' bs a = x := by rw [e, mdl_at g f (by omega), if_neg (by omega), hx]; rfl
  have hc := (hG.too _ x hx).2.1
  have := h.ok a h1 h8 (by rw [ea]; exact hc)
  rw [ea] at this
  exact okN_mono (cnt_le _) this
theorem fin_good {g : List Tu.R} (hg : graphB g = true) {f : Nat} (hf : 1 ≤ f ∧ f ≤ 8) :
    Good g (f : Int) (best g (f : Int)) ∧ ∀ a : Nat, 1 ≤ a → a ≤ 8 → ∀ x, best g (f : Int) (a : Int) = some x → okN 8 x := by
  have key : ∀ (n : Nat) (bs : List R) (ds : List Bool), 8 - cntW (WM bs ds) ≤ n → StM g (f : Int) bs ds → (Good g (f : Int) (best g (f : Int)) ∧ ∀ a : Nat, 1 ≤ a → a ≤ 8 → ∀ x, best g (f : Int) (a : Int) = some x → okN 8 x) := by
    intro n
    induction n with
    | zero =>
      intro bs ds hc hs
      by_cases h0 : pk bs ds 8 = 0
      · exact fin_end hg hs h0
      · obtain ⟨_, h2⟩ := stm_step hg hs rfl h0
        have := cnt_le (WM (rl g (at' bs (pk bs ds 8)) (ds.set (pk bs ds 8) true) bs g.length) (ds.set (pk bs ds 8) true))
        omega
    | succ n ih =>
      intro bs ds hc hs
      by_cases h0 : pk bs ds 8 = 0
      · exact fin_end hg hs h0
      · obtain ⟨h1, h2⟩ := stm_step hg hs rfl h0
        exact ih _ _ (by omega) h1
  exact key 8 _ _ (by omega) (stm_start hf)
end Wd
end Go.Proofs.YtfooahhdikobeaaGreat
