/-
  Mathematics of GraphOf: our symmetric links outward, then what others advertise, put edge by edge.
-/
import Derived.Test.YtilphgfjgeoiaaaTopM
import Derived.Test.YtilphgfjgeoiaaaLnkM
namespace Go.Proofs.Ytilphgfjgeoiaaa
set_option linter.unusedVariables false
set_option linter.unusedSimpArgs false
namespace Gr
open W1 Tu St Tw
def lkOn (me now : Int) (x : Lk.R) : Bool := (x.ad != me) && (decide (0 < x.co) && (Ln.statusV x now == 2))
def lkT (me : Int) (x : Lk.R) : R := ⟨100 * me + x.ad, 0, x.co⟩
def grL (me now : Int) (ls : List Lk.R) (j : Nat) : List R := (ls.take j).foldl (fun L x => if lkOn me now x = true then putL L (lkT me x) else L) []
def edOn (me now : Int) (e : R) : Bool := decide (now < e.til) && ((hv e != me) && (ha e != me))
def edT (e : R) : R := ⟨e.key, 0, e.val⟩
def grE (me now : Int) (L es : List R) (j : Nat) : List R := (es.take j).foldl (fun L e => if edOn me now e = true then putL L (edT e) else L) L
def graph (me : Int) (ls : List Lk.R) (es : List R) (now : Int) : List R := grE me now (grL me now ls ls.length) es es.length
def graB (me : Int) (ls : List Lk.R) (ss : List So.R) (es : List R) : Bool := Ln.linksB ls && (inB me 1 8 && Tp.topB ss es)
def graC (me : Int) (ls : List Lk.R) (ss : List So.R) (es : List R) : Int := if 4096 < ls.length then 2 else if graB me ls ss es = true then 0 else 1
def graA (me : Int) (ls : List Lk.R) (ss : List So.R) (es : List R) (now : Int) : List R := if graC me ls ss es = 0 then graph me ls es now else []
theorem lk_take {ls : List Lk.R} {j : Nat} (h : j < ls.length) : ls.take (j + 1) = ls.take j ++ [ls.getD j Lk.R.zero] := by
  rw [List.take_add_one, List.getElem?_eq_getElem h, List.getD_eq_getElem?_getD, List.getElem?_eq_getElem h]; rfl
theorem grL_yes {me now : Int} {ls : List Lk.R} {j : Nat} (hj : j < ls.length) (h : lkOn me now (ls.getD j Lk.R.zero) = true) : grL me now ls (j + 1) = putL (grL me now ls j) (lkT me (ls.getD j Lk.R.zero)) := by
  unfold grL; rw [lk_take hj, List.foldl_append, List.foldl_cons, List.foldl_nil, if_pos h]
theorem grL_no {me now : Int} {ls : List Lk.R} {j : Nat} (hj : j < ls.length) (h : lkOn me now (ls.getD j Lk.R.zero) = false) : grL me now ls (j + 1) = grL me now ls j := by
  unfold grL; rw [lk_take hj, List.foldl_append, List.foldl_cons, List.foldl_nil, if_neg (by rw [h]; simp)]
theorem grE_yes {me now : Int} {L es : List R} {j : Nat} (hj : j < es.length) (h : edOn me now (es.getD j R.zero) = true) : grE me now L es (j + 1) = putL (grE me now L es j) (edT (es.getD j R.zero)) := by
  unfold grE; rw [take_one hj, List.foldl_append, List.foldl_cons, List.foldl_nil, if_pos h]
theorem grE_no {me now : Int} {L es : List R} {j : Nat} (hj : j < es.length) (h : edOn me now (es.getD j R.zero) = false) : grE me now L es (j + 1) = grE me now L es j := by
  unfold grE; rw [take_one hj, List.foldl_append, List.foldl_cons, List.foldl_nil, if_neg (by rw [h]; simp)]
theorem lkT_ok {me now : Int} {x : Lk.R} (hm : 1 ≤ me ∧ me ≤ 8) (ho : Ln.okL x = true) (h : lkOn me now x = true) :
    okR (lkT me x) = true ∧ okK (lkT me x) = true ∧ hv (lkT me x) = me ∧ ha (lkT me x) = x.ad := by
  have had := Ln.ok_ad ho
  have hco := Ln.ok_co ho
  have hne : x.ad ≠ me := by unfold lkOn at h; simp at h; exact h.1
  obtain ⟨e1, e2⟩ := hop_mk (v := me) (a := x.ad) (t := 0) (u := x.co) (by omega) (by omega) (by omega)
  refine ⟨?_, ?_, e1, e2⟩
  · unfold okR lkT inB; simp; omega
  · unfold okK lkT; rw [e1, e2]; unfold inB; simp; omega
theorem edT_ok {e : R} (ho : okR e = true) (hk : okK e = true) : okR (edT e) = true ∧ okK (edT e) = true ∧ hv (edT e) = hv e ∧ ha (edT e) = ha e := by
  have h := ok_bounds ho
  refine ⟨?_, hk, rfl, rfl⟩
  unfold okR edT inB; simp; omega
theorem two_nil : twoB [] = true := rfl
theorem grL_two {me now : Int} {ls : List Lk.R} (hm : 1 ≤ me ∧ me ≤ 8) (ho : Ln.linksB ls = true) : ∀ j, j ≤ ls.length → twoB (grL me now ls j) = true
  | 0, _ => two_nil
  | j + 1, hj => by
    have ih := grL_two hm ho (now := now) j (by omega)
    cases h : lkOn me now (ls.getD j Lk.R.zero)
    · rw [grL_no (by omega) h]; exact ih
    · obtain ⟨q1, q2, _⟩ := lkT_ok hm (Ri.all_ok ho (by omega)) h
      rw [grL_yes (by omega) h]; exact two_put ih q1 q2
theorem grE_two {me now : Int} {L es : List R} (hL : twoB L = true) (ho : twoB es = true) : ∀ j, j ≤ es.length → twoB (grE me now L es j) = true
  | 0, _ => hL
  | j + 1, hj => by
    have ih := grE_two hL ho (me := me) (now := now) j (by omega)
    cases h : edOn me now (es.getD j R.zero)
    · rw [grE_no (by omega) h]; exact ih
    · obtain ⟨q1, q2, _⟩ := edT_ok (setB_ok (two_set ho) (by omega)) (two_ok ho _ (Tu.getD_mem (show j < es.length by omega)))
      rw [grE_yes (by omega) h]; exact two_put ih q1 q2
theorem gra_zero {me : Int} {ls : List Lk.R} {ss : List So.R} {es : List R} (h : graC me ls ss es = 0) : Ln.linksB ls = true ∧ (1 ≤ me ∧ me ≤ 8) ∧ Tp.topB ss es = true := by
  unfold graC at h
  split at h
  · cases h
  · split at h
    · rename_i _ hb
      unfold graB inB at hb
      simp at hb
      exact ⟨hb.1, hb.2.1, hb.2.2⟩
    · cases h
theorem graph_two {me now : Int} {ls : List Lk.R} {ss : List So.R} {es : List R} (h : graC me ls ss es = 0) : twoB (graph me ls es now) = true := by
  obtain ⟨h1, h2, h3⟩ := gra_zero h
  exact grE_two (grL_two h2 h1 _ (Nat.le_refl _)) (Tp.top_two h3) _ (Nat.le_refl _)
theorem gra_two (me : Int) (ls : List Lk.R) (ss : List So.R) (es : List R) (now : Int) : twoB (graA me ls ss es now) = true := by
  unfold graA; split
  · exact graph_two (ss := ss) (by assumption)
  · rfl
theorem gra_len (me : Int) (ls : List Lk.R) (ss : List So.R) (es : List R) (now : Int) : (graA me ls ss es now).length ≤ 62 := two_len (gra_two me ls ss es now)
/-- The three ways to the code. -/
theorem gra_long {me : Int} {ls : List Lk.R} {ss : List So.R} {es : List R} (h : 4096 < ls.length) : graC me ls ss es = 2 := by unfold graC; rw [if_pos h]
theorem gra_bad {me : Int} {ls : List Lk.R} {ss : List So.R} {es : List R} (h : ¬ 4096 < ls.length) (hb : Ln.linksB ls = false ∨ inB me 1 8 = false ∨ Tp.topB ss es = false) : graC me ls ss es = 1 := by
  unfold graC graB; rw [if_neg h]
  rcases hb with hb | hb | hb <;> (rw [hb]; simp)
theorem gra_ok {me : Int} {ls : List Lk.R} {ss : List So.R} {es : List R} (h1 : Ln.linksB ls = true) (h2 : inB me 1 8 = true) (h3 : Tp.topB ss es = true) : graC me ls ss es = 0 := by
  have := Ln.links_len h1
  unfold graC graB; rw [if_neg (by omega), h1, h2, h3]; rfl
theorem gra_none {me : Int} {ls : List Lk.R} {ss : List So.R} {es : List R} {now : Int} (h : graC me ls ss es ≠ 0) : graA me ls ss es now = [] := by unfold graA; rw [if_neg h]
theorem gra_yes {me : Int} {ls : List Lk.R} {ss : List So.R} {es : List R} {now : Int} (h : graC me ls ss es = 0) : graA me ls ss es now = graph me ls es now := by unfold graA; rw [if_pos h]
end Gr
end Go.Proofs.Ytilphgfjgeoiaaa
