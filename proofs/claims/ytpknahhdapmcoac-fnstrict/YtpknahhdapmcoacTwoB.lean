/-
  What FnStrict asks; tuples and links whose fields are written in place.
-/
import Derived.Test.YtpknahhdapmcoacTwoN
import Derived.Test.YtpknahhdapmcoacTwoD
import Derived.Test.YtpknahhdapmcoacLnkDs
import Derived.Test.YtpknahhdapmcoacLnkA
namespace Go.Proofs.Ytpknahhdapmcoac
open Go.ChangeShapes Go.WideShapes Go.ChangeAt Go.RowKit
set_option linter.unusedVariables false
namespace Ln
open W1 Lk
theorem ln_own {ms : List R} (h : linksB ms = true) {i : Nat} (hi : i < ms.length) : ms.find? (isAd (ms.getD i R.zero).ad) = some (ms.getD i R.zero) :=
  Ri.find_at (z := R.zero) _ ms i hi (fun j hj => by have := Ri.rises h i j hj hi; unfold isAd; rw [beq_eq_false_iff_ne]; omega) (by unfold isAd; simp)
theorem ln_found {ms : List R} (h : linksB ms = true) {k : Int} {z : R} (hf : ms.find? (isAd k) = some z) : lkA ms k = z ∧ lkE ms k = 0 := by
  unfold lkA lkE lkF
  rw [code_zero h, if_pos rfl, if_pos rfl, hf]; exact ⟨rfl, rfl⟩
end Ln
namespace Tw
open W1 Tu St
theorem set_get {α : Type} {ms : List α} {z m : α} {p i : Nat} (hp : p < ms.length) : (ms.set p m).getD i z = if i = p then m else ms.getD i z := by
  rw [List.getD_eq_getElem?_getD, List.getElem?_set, List.getD_eq_getElem?_getD]
  by_cases e : p = i
  · subst e; rw [if_pos rfl, if_pos hp, if_pos rfl]; rfl
  · rw [if_neg e, if_neg (fun h => e h.symm)]
theorem cell_far {w : World} {g p q : Nat} {v : Value} (h : p ≠ q) : (w.setCell ⟨g, p, none⟩ v).cell? ⟨g, q, none⟩ = w.cell? ⟨g, q, none⟩ := World.cell?_setCell_other _ _ _ _ (by intro e; cases e; exact h rfl)
theorem cell_same {w : World} {g p : Nat} {v u : Value} (h : w.cell? ⟨g, p, none⟩ = some u) : (w.setCell ⟨g, p, none⟩ v).cell? ⟨g, p, none⟩ = some v := World.cell?_setCell_same _ _ _ h
theorem some_set {w : World} {g p q : Nat} {v : Value} (h : (w.cell? ⟨g, q, none⟩).isSome = true) : ((w.setCell ⟨g, p, none⟩ v).cell? ⟨g, q, none⟩).isSome = true := by
  obtain ⟨u, hu⟩ := Option.isSome_iff_exists.1 h
  obtain ⟨u', hu'⟩ := cell?_setCell_some (p := ⟨g, p, none⟩) (x := v) hu
  rw [hu']; rfl
theorem tu_til {w : World} {g n p : Nat} {ms : List R} (t : Int) (h : Upto w g n n ms) (hn : n = ms.length) (hp : p < n) :
    Upto (w.setCell ⟨g, p * 3 + 1, none⟩ (.int .i64 t)) g n n (ms.set p ⟨(ms.getD p R.zero).key, t, (ms.getD p R.zero).val⟩) := by
  refine ⟨fun i hi => ?_, fun i hi => ⟨some_set (h.2 i hi).1, by rw [World.frozen?_setCell]; exact (h.2 i hi).2⟩⟩
  obtain ⟨h0, h1, h2⟩ := h.1 i hi
  rw [set_get (by omega)]
  by_cases e : i = p
  · subst e
    rw [if_pos rfl]
    exact ⟨(cell_far (by omega)).trans h0, cell_same h1, (cell_far (by omega)).trans h2⟩
  · rw [if_neg e]
    exact ⟨(cell_far (by omega)).trans h0, (cell_far (by omega)).trans h1, (cell_far (by omega)).trans h2⟩
theorem lk_hd {w : World} {g n p : Nat} {ls : List Lk.R} (t : Int) (h : Lk.Upto w g n n ls) (hn : n = ls.length) (hp : p < n) :
    Lk.Upto (w.setCell ⟨g, p * 6 + 1, none⟩ (.int .i64 t)) g n n (ls.set p { ls.getD p Lk.R.zero with hd := t }) := by
  refine ⟨fun i hi => ?_, fun i hi => ⟨some_set (h.2 i hi).1, by rw [World.frozen?_setCell]; exact (h.2 i hi).2⟩⟩
  obtain ⟨h0, h1, h2, h3, h4, h5⟩ := h.1 i hi
  rw [set_get (by omega)]
  by_cases e : i = p
  · subst e
    rw [if_pos rfl]
    exact ⟨(cell_far (by omega)).trans h0, cell_same h1, (cell_far (by omega)).trans h2, (cell_far (by omega)).trans h3, (cell_far (by omega)).trans h4, (cell_far (by omega)).trans h5⟩
  · rw [if_neg e]
    exact ⟨(cell_far (by omega)).trans h0, (cell_far (by omega)).trans h1, (cell_far (by omega)).trans h2, (cell_far (by omega)).trans h3, (cell_far (by omega)).trans h4, (cell_far (by omega)).trans h5⟩
theorem lk_sy {w : World} {g n p : Nat} {ls : List Lk.R} (t : Int) (h : Lk.Upto w g n n ls) (hn : n = ls.length) (hp : p < n) :
    Lk.Upto (w.setCell ⟨g, p * 6 + 2, none⟩ (.int .i64 t)) g n n (ls.set p { ls.getD p Lk.R.zero with sy := t }) := by
  refine ⟨fun i hi => ?_, fun i hi => ⟨some_set (h.2 i hi).1, by rw [World.frozen?_setCell]; exact (h.2 i hi).2⟩⟩
  obtain ⟨h0, h1, h2, h3, h4, h5⟩ := h.1 i hi
  rw [set_get (by omega)]
  by_cases e : i = p
  · subst e
    rw [if_pos rfl]
    exact ⟨(cell_far (by omega)).trans h0, (cell_far (by omega)).trans h1, cell_same h2, (cell_far (by omega)).trans h3, (cell_far (by omega)).trans h4, (cell_far (by omega)).trans h5⟩
  · rw [if_neg e]
    exact ⟨(cell_far (by omega)).trans h0, (cell_far (by omega)).trans h1, (cell_far (by omega)).trans h2, (cell_far (by omega)).trans h3, (cell_far (by omega)).trans h4, (cell_far (by omega)).trans h5⟩
theorem lk_wl {w : World} {g n p : Nat} {ls : List Lk.R} (t : Int) (h : Lk.Upto w g n n ls) (hn : n = ls.length) (hp : p < n) :
    Lk.Upto (w.setCell ⟨g, p * 6 + 5, none⟩ (.int .i64 t)) g n n (ls.set p { ls.getD p Lk.R.zero with wl := t }) := by
  refine ⟨fun i hi => ?_, fun i hi => ⟨some_set (h.2 i hi).1, by rw [World.frozen?_setCell]; exact (h.2 i hi).2⟩⟩
  obtain ⟨h0, h1, h2, h3, h4, h5⟩ := h.1 i hi
  rw [set_get (by omega)]
  by_cases e : i = p
  · subst e
    rw [if_pos rfl]
    exact ⟨(cell_far (by omega)).trans h0, (cell_far (by omega)).trans h1, (cell_far (by omega)).trans h2, (cell_far (by omega)).trans h3, (cell_far (by omega)).trans h4, cell_same h5⟩
  · rw [if_neg e]
    exact ⟨(cell_far (by omega)).trans h0, (cell_far (by omega)).trans h1, (cell_far (by omega)).trans h2, (cell_far (by omega)).trans h3, (cell_far (by omega)).trans h4, (cell_far (by omega)).trans h5⟩
theorem links_set {ls : List Lk.R} {p : Nat} {m : Lk.R} (h : Ln.linksB ls = true) (hp : p < ls.length) (hm : Ln.okL m = true) (ha' : m.ad = (ls.getD p Lk.R.zero).ad) : Ln.linksB (ls.set p m) = true := by
  unfold Ln.linksB Ln.allL Ri.all at *
  rw [List.length_set, List.all_eq_true] at *
  intro i hi
  have hs := h i hi
  have hk : ∀ k, ((ls.set p m).getD k Lk.R.zero).ad = (ls.getD k Lk.R.zero).ad := fun k => by
    rw [set_get hp]; by_cases e : k = p
    · subst e; rw [if_pos rfl]; exact ha'
    · rw [if_neg e]
  unfold Ri.step at *
  rw [hk, hk, Bool.and_eq_true] at *
  refine ⟨?_, hs.2⟩
  rw [set_get hp]; by_cases e : i = p
  · rw [if_pos e]; exact hm
  · rw [if_neg e]; exact hs.1
theorem set_set {ms : List R} {p : Nat} {m : R} (h : setB ms = true) (hp : p < ms.length) (hm : okR m = true) (ha' : m.key = (ms.getD p R.zero).key) : setB (ms.set p m) = true := by
  have hl := setB_len h
  refine setB_all (by rw [List.length_set]; exact hl) ?_
  unfold allB
  rw [List.length_set, List.all_eq_true]
  intro i hi
  have hs := setB_step h (List.mem_range.1 hi)
  have hk : ∀ k, ((ms.set p m).getD k R.zero).key = (ms.getD k R.zero).key := fun k => by
    rw [set_get hp]; by_cases e : k = p
    · subst e; rw [if_pos rfl]; exact ha'
    · rw [if_neg e]
  unfold stepB at *
  rw [hk, hk, Bool.and_eq_true] at *
  refine ⟨?_, hs.2⟩
  rw [set_get hp]; by_cases e : i = p
  · rw [if_pos e]; exact hm
  · rw [if_neg e]; exact hs.1
theorem two_sets {ms : List R} {p : Nat} {m : R} (h : twoB ms = true) (hp : p < ms.length) (hm : okR m = true) (ha' : m.key = (ms.getD p R.zero).key) : twoB (ms.set p m) = true := by
  refine two_of (set_set (two_set h) hp hm ha') (fun x hx => ?_)
  rcases List.mem_or_eq_of_mem_set hx with hx | rfl
  · exact two_ok h x hx
  · have := two_ok h _ (getD_mem hp)
    unfold okK hv ha at *
    rw [ha']; exact this
/-- Tuples of which those from the j-th on have small times. -/
def SmJ (ms : List R) (j : Nat) : Prop := twoB ms = true ∧ ∀ i, j ≤ i → i < ms.length → 0 ≤ (ms.getD i R.zero).til ∧ (ms.getD i R.zero).til < 30
theorem smj_zero {ms : List R} (h : Sm ms) : SmJ ms 0 := ⟨h.1, fun i _ hi => h.2 _ (getD_mem hi)⟩
theorem smj_step {ms : List R} {j : Nat} (h : SmJ ms j) (hj : j < ms.length) : SmJ (ms.set j ⟨(ms.getD j R.zero).key, (ms.getD j R.zero).til + 20, (ms.getD j R.zero).val⟩) (j + 1) := by
  have ht := h.2 j (Nat.le_refl _) hj
  have hb := ok_bounds (setB_ok (two_set h.1) hj)
  refine ⟨two_sets h.1 hj ?_ rfl, fun i hi hl => ?_⟩
  · clear h
    generalize ms.getD j R.zero = q at *
    unfold okR inB; dsimp only; simp; omega
  · rw [List.length_set] at hl
    rw [set_get hj, if_neg (by omega)]; exact h.2 i (by omega) hl
/-- Links of which those from the j-th on have small times. -/
def LsJ (ls : List Lk.R) (j : Nat) : Prop := Ln.linksB ls = true ∧ ∀ i, j ≤ i → i < ls.length → 0 ≤ (ls.getD i Lk.R.zero).hd ∧ (ls.getD i Lk.R.zero).hd < 20 ∧ 0 ≤ (ls.getD i Lk.R.zero).sy ∧ (ls.getD i Lk.R.zero).sy < 20
theorem lsj_zero {ls : List Lk.R} (h : Ln.linksB ls = true) (hs : Ln.Sml ls) : LsJ ls 0 := ⟨h, fun i _ hi => hs _ (Lk.getD_mem hi)⟩
theorem lsj_step {ls : List Lk.R} {j : Nat} (h : LsJ ls j) (hj : j < ls.length) {m : Lk.R} (h1 : m.ad = (ls.getD j Lk.R.zero).ad) (h2 : 0 ≤ m.hd ∧ m.hd < 50) (h3 : 0 ≤ m.sy ∧ m.sy < 50) (h4 : m.ci = (ls.getD j Lk.R.zero).ci) (h5 : m.co = (ls.getD j Lk.R.zero).co) (h6 : 0 ≤ m.wl ∧ m.wl ≤ 7) : LsJ (ls.set j m) (j + 1) := by
  have hok := Ri.all_ok h.1 hj
  have a1 := Ln.ok_ad hok
  have a2 := Ln.ok_ci hok
  have a3 := Ln.ok_co hok
  refine ⟨links_set h.1 hj ?_ h1, fun i hi hl => ?_⟩
  · clear h hok
    generalize ls.getD j Lk.R.zero = q at *
    unfold Ln.okL inB; rw [h1, h4, h5]; simp; omega
  · rw [List.length_set] at hl
    rw [set_get hj, if_neg (by omega)]; exact h.2 i (by omega) hl
theorem str_mem {c : Int → Bool} {n : Nat} {z : Int} (h : z ∈ strN c n) : c z = true ∧ 1 ≤ z ∧ z ≤ n := by
  unfold strN at h
  obtain ⟨t, ht, rfl⟩ := List.mem_map.1 h
  obtain ⟨h1, h2⟩ := List.mem_filter.1 ht
  have := List.mem_range.1 h1
  exact ⟨h2, by omega, by omega⟩
theorem zs_mem {zs : List Int} {i : Nat} (h : i < zs.length) : zs.getD i 0 ∈ zs := by rw [List.getD_eq_getElem?_getD, List.getElem?_eq_getElem h]; exact List.getElem_mem h
/-- What a strict two-hop neighbor is. -/
theorem strict_ok {ms : List R} {ls : List Lk.R} {me now z : Int} (h : z ∈ strN (condS ms ls me now) 8) :
    (1 ≤ z ∧ z ≤ 8) ∧ z ≠ me ∧ (∀ y ∈ Ln.symN now ls ls.length, y ≠ z) ∧ 0 < (viaL (findT ms) ls z now ls.length).length := by
  obtain ⟨h1, h2, h3⟩ := str_mem h
  unfold condS at h1
  rw [Bool.and_eq_true, Bool.and_eq_true] at h1
  obtain ⟨q1, q2, q3⟩ := h1
  refine ⟨⟨h2, by simpa using h3⟩, by simpa [bne] using q1, fun y hy e => ?_, of_decide_eq_true q3⟩
  subst e
  simp at q2
  exact q2 hy
theorem via_ok {f : Int → Int → Option R} {ls : List Lk.R} (hl : Ln.linksB ls = true) {addr now v : Int} (h : v ∈ viaL f ls addr now ls.length) :
    (1 ≤ v ∧ v ≤ 8) ∧ Ln.lkE ls v = 0 ∧ 0 < (Ln.lkA ls v).wl ∧ Ln.statusV (Ln.lkA ls v) now = 2 := by
  unfold viaL at h
  rw [List.take_length] at h
  obtain ⟨m, hm, rfl⟩ := List.mem_map.1 h
  obtain ⟨h1, h2⟩ := List.mem_filter.1 hm
  obtain ⟨i, hi, rfl⟩ := List.getElem_of_mem h1
  have hg : ls.getD i Lk.R.zero = ls[i] := by rw [List.getD_eq_getElem?_getD, List.getElem?_eq_getElem hi]; rfl
  have hf := Ln.ln_own hl hi
  have had := Ln.ok_ad (Ri.all_ok hl hi)
  rw [hg] at hf had
  obtain ⟨e1, e2⟩ := Ln.ln_found hl hf
  unfold viaOk at h2
  rw [Bool.and_eq_true, Bool.and_eq_true] at h2
  rw [e1]
  exact ⟨had, e2, of_decide_eq_true h2.2.1, by simpa using h2.1⟩
/-- Both lists, in memory of their own that may be written. -/
structure St2 (w0 w1 w2 : World) (g gl : Nat) (wr : World) (ms : List R) (ls : List Lk.R) : Prop where
  two : Lst wr (some ⟨g, 0, none⟩) ms w0.heap.size w1.heap.size
  lks : Lk.Lst wr (some ⟨gl, 0, none⟩) ls w1.heap.size w2.heap.size
  bel : Below w0.heap.size w0 wr
  le1 : w0.heap.size ≤ w1.heap.size
  le2 : w1.heap.size ≤ w2.heap.size
theorem below_dn {B : Nat} {w0 w : World} (h : Below B w0 w) (q : Nat) : Below B w0 (w.drewN q) := ⟨h.os, h.tape, h.output, h.size, h.block⟩
theorem St2.below {w0 w1 w2 : World} {g gl : Nat} {wr wr' : World} {ms : List R} {ls : List Lk.R} (h : St2 w0 w1 w2 g gl wr ms ls) (hb : Below wr.heap.size wr wr') : St2 w0 w1 w2 g gl wr' ms ls :=
  ⟨h.two.below hb, h.lks.below hb, h.bel.trans (hb.mono h.bel.size), h.le1, h.le2⟩
theorem St2.cellT {w0 w1 w2 : World} {g gl : Nat} {wr : World} {ms : List R} {ls : List Lk.R} (h : St2 w0 w1 w2 g gl wr ms ls) {j : Nat} (hj : j < ms.length) :
    wr.cell? ⟨g, j * 3 + 1, none⟩ = some (.int .i64 (ms.getD j R.zero).til) ∧ wr.frozen? ⟨g, j * 3 + 1, none⟩ = false := by
  rcases h.two with e | ⟨g', e, h1, h2, h3, hU⟩
  · rw [e] at hj; simp at hj
  · cases e; exact ⟨(hU.1 j hj).2.1, (hU.2 (j * 3 + 1) (by omega)).2⟩
theorem St2.cellL {w0 w1 w2 : World} {g gl : Nat} {wr : World} {ms : List R} {ls : List Lk.R} (h : St2 w0 w1 w2 g gl wr ms ls) {j : Nat} (hj : j < ls.length) :
    Lk.At wr gl (j * 6) (ls.getD j Lk.R.zero) ∧ ∀ k, k < 6 → wr.frozen? ⟨gl, j * 6 + k, none⟩ = false := by
  rcases h.lks with e | ⟨g', e, h1, h2, h3, hU⟩
  · rw [e] at hj; simp at hj
  · cases e; exact ⟨hU.1 j hj, fun k hk => (hU.2 (j * 6 + k) (by omega)).2⟩
theorem St2.til {w0 w1 w2 : World} {g gl : Nat} {wr : World} {ms : List R} {ls : List Lk.R} (h : St2 w0 w1 w2 g gl wr ms ls) {j : Nat} (hj : j < ms.length) (t : Int) :
    St2 w0 w1 w2 g gl (wr.setCell ⟨g, j * 3 + 1, none⟩ (.int .i64 t)) (ms.set j ⟨(ms.getD j R.zero).key, t, (ms.getD j R.zero).val⟩) ls := by
  rcases h.two with e | ⟨g', e, h1, h2, h3, hU⟩
  · rw [e] at hj; simp at hj
  · cases e
    refine ⟨.inr ⟨g, rfl, h1, h2, by simpa [World.setCell] using h3, ?_⟩, ?_, h.bel.setCell (p := ⟨g, j * 3 + 1, none⟩) h1 _, h.le1, h.le2⟩
    · rw [List.length_set]; exact tu_til t hU rfl hj
    · exact h.lks.but (p := fun k => k ≠ g) (by simp [World.setCell]) (fun k hk hne => Below.heap_setCell _ _ _ _ hne) (fun k h4 _ => by omega)
theorem lks_set {w0 w1 w2 : World} {g gl : Nat} {wr : World} {ms : List R} {ls ls' : List Lk.R} (h : St2 w0 w1 w2 g gl wr ms ls) {j o : Nat} (hj : j < ls.length) (v : Value) (hl : ls'.length = ls.length)
    (hU' : Lk.Upto wr gl ls.length ls.length ls → Lk.Upto (wr.setCell ⟨gl, o, none⟩ v) gl ls.length ls.length ls') : St2 w0 w1 w2 g gl (wr.setCell ⟨gl, o, none⟩ v) ms ls' := by
  rcases h.lks with e | ⟨g', e, h1, h2, h3, hU⟩
  · rw [e] at hj; simp at hj
  · cases e
    have hle := h.le1
    refine ⟨?_, .inr ⟨gl, rfl, h1, h2, by simpa [World.setCell] using h3, by rw [hl]; exact hU' hU⟩, h.bel.setCell (p := ⟨gl, o, none⟩) (by show w0.heap.size ≤ gl; omega) _, h.le1, h.le2⟩
    exact h.two.but (p := fun k => k ≠ gl) (by simp [World.setCell]) (fun k hk hne => Below.heap_setCell _ _ _ _ hne) (fun k _ h5 => by omega)
theorem St2.hd {w0 w1 w2 : World} {g gl : Nat} {wr : World} {ms : List R} {ls : List Lk.R} (h : St2 w0 w1 w2 g gl wr ms ls) {j : Nat} (hj : j < ls.length) (t : Int) :
    St2 w0 w1 w2 g gl (wr.setCell ⟨gl, j * 6 + 1, none⟩ (.int .i64 t)) ms (ls.set j { ls.getD j Lk.R.zero with hd := t }) := lks_set h hj _ (List.length_set) (fun hU => lk_hd t hU rfl hj)
theorem St2.sy {w0 w1 w2 : World} {g gl : Nat} {wr : World} {ms : List R} {ls : List Lk.R} (h : St2 w0 w1 w2 g gl wr ms ls) {j : Nat} (hj : j < ls.length) (t : Int) :
    St2 w0 w1 w2 g gl (wr.setCell ⟨gl, j * 6 + 2, none⟩ (.int .i64 t)) ms (ls.set j { ls.getD j Lk.R.zero with sy := t }) := lks_set h hj _ (List.length_set) (fun hU => lk_sy t hU rfl hj)
theorem St2.wl {w0 w1 w2 : World} {g gl : Nat} {wr : World} {ms : List R} {ls : List Lk.R} (h : St2 w0 w1 w2 g gl wr ms ls) {j : Nat} (hj : j < ls.length) (t : Int) :
    St2 w0 w1 w2 g gl (wr.setCell ⟨gl, j * 6 + 5, none⟩ (.int .i64 t)) ms (ls.set j { ls.getD j Lk.R.zero with wl := t }) := lks_set h hj _ (List.length_set) (fun hU => lk_wl t hU rfl hj)
/-- The same entry, written three times. -/
theorem set3 {ls : List Lk.R} {j : Nat} (hj : j < ls.length) {x y z : Lk.R} : ((ls.set j x).set j y).set j z = ls.set j z := by rw [List.set_set, List.set_set]
theorem St2.hd' {w0 w1 w2 : World} {g gl : Nat} {wr : World} {ms : List R} {ls : List Lk.R} {j : Nat} {ad hd sy ci co wl : Int} (h : St2 w0 w1 w2 g gl wr ms ls) (hj : j < ls.length) (hm : ls.getD j Lk.R.zero = ⟨ad, hd, sy, ci, co, wl⟩) (t : Int) :
    St2 w0 w1 w2 g gl (wr.setCell ⟨gl, j * 6 + 1, none⟩ (.int .i64 t)) ms (ls.set j ⟨ad, t, sy, ci, co, wl⟩) := by
  have := h.hd hj t; rw [hm] at this; exact this
theorem St2.cell' {w0 w1 w2 : World} {g gl : Nat} {wr : World} {ms : List R} {ls : List Lk.R} {j : Nat} {ad hd sy ci co wl : Int} (h : St2 w0 w1 w2 g gl wr ms (ls.set j ⟨ad, hd, sy, ci, co, wl⟩)) (hj : j < ls.length) :
    Lk.At wr gl (j * 6) ⟨ad, hd, sy, ci, co, wl⟩ ∧ ∀ k, k < 6 → wr.frozen? ⟨gl, j * 6 + k, none⟩ = false := by
  have := h.cellL (j := j) (by rw [List.length_set]; exact hj)
  rw [set_get hj, if_pos rfl] at this; exact this
theorem St2.sy' {w0 w1 w2 : World} {g gl : Nat} {wr : World} {ms : List R} {ls : List Lk.R} {j : Nat} {ad hd sy ci co wl : Int} (h : St2 w0 w1 w2 g gl wr ms (ls.set j ⟨ad, hd, sy, ci, co, wl⟩)) (hj : j < ls.length) (t : Int) :
    St2 w0 w1 w2 g gl (wr.setCell ⟨gl, j * 6 + 2, none⟩ (.int .i64 t)) ms (ls.set j ⟨ad, hd, t, ci, co, wl⟩) := by
  have := h.sy (j := j) (by rw [List.length_set]; exact hj) t
  rw [set_get hj, if_pos rfl, List.set_set] at this; exact this
theorem St2.wl' {w0 w1 w2 : World} {g gl : Nat} {wr : World} {ms : List R} {ls : List Lk.R} {j : Nat} {ad hd sy ci co wl : Int} (h : St2 w0 w1 w2 g gl wr ms (ls.set j ⟨ad, hd, sy, ci, co, wl⟩)) (hj : j < ls.length) (t : Int) :
    St2 w0 w1 w2 g gl (wr.setCell ⟨gl, j * 6 + 5, none⟩ (.int .i64 t)) ms (ls.set j ⟨ad, hd, sy, ci, co, t⟩) := by
  have := h.wl (j := j) (by rw [List.length_set]; exact hj) t
  rw [set_get hj, if_pos rfl, List.set_set] at this; exact this
theorem St2.drew {w0 w1 w2 : World} {g gl : Nat} {wr : World} {ms : List R} {ls : List Lk.R} (h : St2 w0 w1 w2 g gl wr ms ls) : St2 w0 w1 w2 g gl wr.drew ms ls := h.below (Below.refl _ _).drew
end Tw
end Go.Proofs.Ytpknahhdapmcoac
