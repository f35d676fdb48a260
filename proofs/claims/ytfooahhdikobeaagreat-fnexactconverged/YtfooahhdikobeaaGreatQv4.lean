/-
  Of the texts GraM, TopC, LnkC, SetG, SetP, SetK, SetX, SetY, SetGc, SetYc, GraS, LnkI, Nums: what this claim needs of them. (put together by mkprune.py)
-/
import Derived.Test.YtfooahhdikobeaaGreatQv3
import Derived.Deep.DeepCutAuto
import Derived.Lib.AppendZeros
import Derived.Laws.NewBlocks
import Derived.Test.YtfooahhdikobeaaGreatShelf
import Derived.Lib.ItoaNum
import Derived.Laws.BitsAllLaws
import Derived.Laws.Shifts
namespace Go.Proofs.YtfooahhdikobeaaGreat
set_option linter.unusedVariables false
set_option linter.unusedSimpArgs false
namespace Gr
open W1 Tu St Tw
def lkOn (me now : Int) (x : Lk.R) : Bool := (x.ad != me) && (decide (0 < x.co) && (Ln.statusV x now == 2))
def lkT (me : Int) (x : Lk.R) : R := ⟨100 * me + x.ad, 0, x.co⟩
def grL (me now : Int) (ls : List Lk.R) (j : Nat) : List R := (ls.take j).foldl (fun L x => if lkOn me now x = true then putL L (lkT me x) else L) []
def edOn (me now : Int) (e : R) : Bool := decide (now < e.til) && ((hv e != me) && (ha e != me))
def edT (e : R) : R := ⟨e.key, 0, e.val⟩
def grE (me now : Int) (L es : List R) (j : Nat) : List R := (es.take j).foldl (fun L e => if edOn me now e = true then putL L (edT e) else L) L
def graph (me : Int) (ls : List Lk.R) (es : List R) (now : Int) : List R := grE me now (grL me now ls ls.length) es es.length
def graB (me : Int) (ls : List Lk.R) (ss : List So.R) (es : List R) : Bool := Ln.linksB ls && (inB me 1 8 && Tp.topB ss es)
def graC (me : Int) (ls : List Lk.R) (ss : List So.R) (es : List R) : Int := if 4096 < ls.length then 2 else if graB me ls ss es = true then 0 else 1
def graA (me : Int) (ls : List Lk.R) (ss : List So.R) (es : List R) (now : Int) : List R := if graC me ls ss es = 0 then graph me ls es now else []
theorem lk_take {ls : List Lk.R} {j : Nat} (h : j < ls.length) : ls.take (j + 1) = ls.take j ++ [ls.getD j Lk.R.zero] := by
  rw [List.take_add_one, List.getElem?_eq_getElem h, List.getD_eq_getElem?_getD, List.getElem?_eq_getElem h]; rfl
theorem grL_yes {me now : Int} {ls : List Lk.R} {j : Nat} (hj : j < ls.length) (h : lkOn me now (ls.getD j Lk.R.zero) = true) : grL me now ls (j + 1) = putL (grL me now ls j) (lkT me (ls.getD j Lk.R.zero)) := by
  unfold grL; rw [lk_take hj, List.foldl_append, List.foldl_cons, List.foldl_nil, if_pos h]
theorem grL_no {me now : Int} {ls : List Lk.R} {j : Nat} (hj : j < ls.length) (h : lkOn me now (ls.getD j Lk.R.zero) = false) : grL me now ls (j + 1) = grL me now ls j := by
  unfold grL; rw [lk_take hj, List.foldl_append, List.foldl_cons, List.foldl_nil, if_neg (by rw [h]; simp)]
theorem grE_yes {me now : Int} {L es : List R} {j : Nat} (hj : j < es.length) (h : edOn me now (es.getD j R.zero) = true) : grE me now L es (j + 1) = putL (grE me now L es j) (edT (es.getD j R.zero)) := by
  unfold grE; rw [take_one hj, List.foldl_append, List.foldl_cons, List.foldl_nil, if_pos h]
theorem grE_no {me now : Int} {L es : List R} {j : Nat} (hj : j < es.length) (h : edOn me now (es.getD j R.zero) = false) : grE me now L es (j + 1) = grE me now L es j := by
  unfold grE; rw [take_one hj, List.foldl_append, List.foldl_cons, List.foldl_nil, if_neg (by rw [h]; simp)]
theorem lkT_ok {me now : Int} {x : Lk.R} (hm : 1 ≤ me ∧ me ≤ 8) (ho : Ln.okL x = true) (h : lkOn me now x = true) :
    okR (lkT me x) = true ∧ okK (lkT me x) = true ∧ hv (lkT me x) = me ∧ ha (lkT me x) = x.ad := by
  have had := Ln.ok_ad ho
  have hco := Ln.ok_co ho
  have hne : x.ad ≠ me := by unfold lkOn at h; simp at h; exact h.1
  obtain ⟨e1, e2⟩ := hop_mk (v := me) (a := x.ad) (t := 0) (u := x.co) (by omega) (by omega) (by omega)
  refine ⟨?_, ?_, e1, e2⟩
  · unfold okR lkT inB; simp; omega
  · unfold okK lkT; rw [e1, e2]; unfold inB; simp; omega
theorem edT_ok {e : R} (ho : okR e = true) (hk : okK e = true) : okR (edT e) = true ∧ okK (edT e) = true ∧ hv (edT e) = hv e ∧ ha (edT e) = ha e := by
  have h := ok_bounds ho
  refine ⟨?_, hk, rfl, rfl⟩
  unfold okR edT inB; simp; omega
theorem two_nil : twoB [] = true := rfl
theorem grL_two {me now : Int} {ls : List Lk.R} (hm : 1 ≤ me ∧ me ≤ 8) (ho : Ln.linksB ls = true) : ∀ j, j ≤ ls.length → twoB (grL me now ls j) = true
  | 0, _ => two_nil
  | j + 1, hj => by
    have ih := grL_two hm ho (now := now) j (by omega)
    cases h : lkOn me now (ls.getD j Lk.R.zero)
    · rw [grL_no (by omega) h]; exact ih
    · obtain ⟨q1, q2, _⟩ := lkT_ok hm (Ri.all_ok ho (by omega)) h
      rw [grL_yes (by omega) h]; exact two_put ih q1 q2
theorem grE_two {me now : Int} {L es : List R} (hL : twoB L = true) (ho : twoB es = true) : ∀ j, j ≤ es.length → twoB (grE me now L es j) = true
  | 0, _ => hL
  | j + 1, hj => by
    have ih := grE_two hL ho (me := me) (now := now) j (by omega)
    cases h : edOn me now (es.getD j R.zero)
    · rw [grE_no (by omega) h]; exact ih
    · obtain ⟨q1, q2, _⟩ := edT_ok (setB_ok (two_set ho) (by omega)) (two_ok ho _ (Tu.getD_mem (show j < es.length by omega)))
      rw [grE_yes (by omega) h]; exact two_put ih q1 q2
theorem gra_zero {me : Int} {ls : List Lk.R} {ss : List So.R} {es : List R} (h : graC me ls ss es = 0) : Ln.linksB ls = true ∧ (1 ≤ me ∧ me ≤ 8) ∧ Tp.topB ss es = true := by
  unfold graC at h
  split at h
  · cases h
  · split at h
    · rename_i _ hb
      unfold graB inB at hb
      simp at hb
      exact ⟨hb.1, hb.2.1, hb.2.2⟩
    · cases h
theorem graph_two {me now : Int} {ls : List Lk.R} {ss : List So.R} {es : List R} (h : graC me ls ss es = 0) : twoB (graph me ls es now) = true := by
  obtain ⟨h1, h2, h3⟩ := gra_zero h
  exact grE_two (grL_two h2 h1 _ (Nat.le_refl _)) (Tp.top_two h3) _ (Nat.le_refl _)
theorem gra_bad {me : Int} {ls : List Lk.R} {ss : List So.R} {es : List R} (h : ¬ 4096 < ls.length) (hb : Ln.linksB ls = false ∨ inB me 1 8 = false ∨ Tp.topB ss es = false) : graC me ls ss es = 1 := by
  unfold graC graB; rw [if_neg h]
  rcases hb with hb | hb | hb <;> (rw [hb]; simp)
theorem gra_ok {me : Int} {ls : List Lk.R} {ss : List So.R} {es : List R} (h1 : Ln.linksB ls = true) (h2 : inB me 1 8 = true) (h3 : Tp.topB ss es = true) : graC me ls ss es = 0 := by
  have := Ln.links_len h1
  unfold graC graB; rw [if_neg (by omega), h1, h2, h3]; rfl
theorem gra_none {me : Int} {ls : List Lk.R} {ss : List So.R} {es : List R} {now : Int} (h : graC me ls ss es ≠ 0) : graA me ls ss es now = [] := by unfold graA; rw [if_neg h]
theorem gra_yes {me : Int} {ls : List Lk.R} {ss : List So.R} {es : List R} {now : Int} (h : graC me ls ss es = 0) : graA me ls ss es now = graph me ls es now := by unfold graA; rw [if_pos h]
end Gr
end Go.Proofs.YtfooahhdikobeaaGreat
namespace Go.Proofs.YtfooahhdikobeaaGreat
open Go.ChangeShapes Go.WideShapes Go.ChangeAt Go.RowKit
set_option linter.unusedVariables false
set_option linter.unusedSimpArgs false
set_option maxRecDepth 100000
attribute [local go_sem ↓] Go.wp_at_zero Go.wp_at_succ
namespace Tp
open W1 Tu St Tw
theorem sS1 {w : World} {g o B : Nat} {ad an til : Int} {x y : Value} (h : So.At w g o ⟨ad, an, til⟩) (hB : Bx2 w B x y) : (So.At w g o ⟨ad, an, til⟩ ∧ Bx2 w B x y) ∧ w.cell? ⟨g, o, none⟩ = some (.int .i64 ad) ∧ w.cell? ⟨g, o + 1, none⟩ = some (.int .i64 an) ∧ w.cell? ⟨g, o + 2, none⟩ = some (.int .i64 til) ∧ w.cell? ⟨B, 0, none⟩ = some x := ⟨⟨h, hB⟩, h.1, h.2.1, h.2.2, hB.1⟩
theorem sS2 {w : World} {g o p B : Nat} {ad an til : Int} {m : So.R} {x y : Value} (h : So.At w g o ⟨ad, an, til⟩) (h' : So.At w g p m) (hB : Bx2 w B x y) : ((So.At w g o ⟨ad, an, til⟩ ∧ So.At w g p m) ∧ Bx2 w B x y) ∧ w.cell? ⟨g, o, none⟩ = some (.int .i64 ad) ∧ w.cell? ⟨g, o + 1, none⟩ = some (.int .i64 an) ∧ w.cell? ⟨g, o + 2, none⟩ = some (.int .i64 til) ∧ w.cell? ⟨g, p, none⟩ = some (.int .i64 m.ad) ∧ w.cell? ⟨B, 0, none⟩ = some x := ⟨⟨⟨h, h'⟩, hB⟩, h.1, h.2.1, h.2.2, h'.1, hB.1⟩
theorem sE1 {w : World} {g o B : Nat} {m : R} {x y : Value} (h : Tu.At w g o m) (hB : Bx2 w B x y) : (Tu.At w g o m ∧ Bx2 w B x y) ∧ w.cell? ⟨g, o, none⟩ = some (.int .i64 m.key) ∧ w.cell? ⟨B, 0, none⟩ = some x ∧ w.cell? ⟨B, 1, none⟩ = some y := ⟨⟨h, hB⟩, h.1, hB.1, hB.2⟩
set_option maxHeartbeats 8000000 in
theorem specOK (a : Option Addr) (ss : List So.R) (ca : Nat) (b : Option Addr) (es : List R) (cb : Nat) (w : World) (hm : ss.length ≤ 1048576) (hl : es.length ≤ 1048576) (hr : So.RM w a ss) (hr' : RM w b es) :
    Calls Tryz.prog 137 #[.agg #[.slice a ss.length ca, .slice b es.length cb]] w fun e w' => e = .returned (.bool (topB ss es)) ∧ Below w.heap.size w w' := by
  obtain ⟨A, hA⟩ : ∃ A, topB ss es = A := ⟨_, rfl⟩
  have HTA := hide hA
  rw [hA]
  clear hA
  obtain ⟨n, hN⟩ : ∃ n, es.length = n := ⟨_, rfl⟩
  have HN := hide hN
  obtain ⟨k, hK⟩ : ∃ k, ss.length = k := ⟨_, rfl⟩
  have HK := hide hK
  rw [hN, hK]
  rw [hN] at hl
  rw [hK] at hm
  clear hN hK
  have HA : Hid (Below w.heap.size w (w.alloc (.cells #[.slice a k ca, .slice b n cb] 80))) := hide ((Below.refl _ _).alloc (Nat.le_refl _) _)
  have HX : Hid (Bx2 (w.alloc (.cells #[.slice a k ca, .slice b n cb] 80)) w.heap.size (.slice a k ca) (.slice b n cb)) := hide (bx2_new w _ _ _)
  have HR := hide (hr.below (unhide HA))
  have HE := hide (hr'.below (unhide HA))
  have hxw : w.heap.size < (w.alloc (.cells #[.slice a k ca, .slice b n cb] 80)).heap.size := by simp
  clear hr hr'
  go_enter Tryz.func137, Tryz.ntmps137
  go_wp2_with fail
  generalize hW : w.alloc (.cells #[.slice a k ca, .slice b n cb] 80) = W0 at *
  clear hW
  go_loopw [3] (fun i wr => ∃ j : Nat, j ≤ k ∧ i = .int .i64 j ∧ Hid (allS ss j = true) ∧ Hid (Below W0.heap.size W0 wr)) (fun i _ => k - (intOf i).toNat)
  case atStart => exact ⟨0, by omega, rfl, hide Ri.all_zero, hide (Below.refl _ _)⟩
  case round =>
    obtain ⟨j, hj, rfl, hrl, hbl⟩ := hrel
    have HXr := hide ((unhide HX).below (unhide hbl))
    obtain ⟨z0, z1⟩ := unhide HXr
    by_cases hlt : (j : Int) < (k : Int)
    · have k0 : (0 : Int) ≤ (j : Int) := by omega
      have hlen : j < ss.length := by rw [unhide HK]; omega
      obtain ⟨g, off, rfl⟩ := (unhide HR).form (by omega)
      have hc := fun i (hi : i < ss.length) => ((unhide HR).below (unhide hbl)).at hi
      have HL := hide hlen
      have hA := hc j hlen
      cases hk : okS (ss.getD j So.R.zero)
      · clear hc
        have HST : Hid (A = false) := hide (by rw [← unhide HTA]; exact top_nosrc (Ri.all_no hlen (Ri.step_bad (key := So.R.ad) hk)))
        have HKK := hide hk
        clear hk
        generalize ss.getD j So.R.zero = m at *
        obtain ⟨ad, an, til⟩ := m
        go_wp2_with fail
        refine wp_region_noPanic ?_
        refine wp_region_held_drew (S := fun w' => (So.At w' g (off + j * 3) ⟨ad, an, til⟩ ∧ Bx2 w' w.heap.size (.slice (some ⟨g, off, none⟩) k ca) (.slice b n cb)) ∧ w'.cell? ⟨g, off + j * 3, none⟩ = some (.int .i64 ad) ∧ w'.cell? ⟨g, off + j * 3 + 1, none⟩ = some (.int .i64 an) ∧ w'.cell? ⟨g, off + j * 3 + 2, none⟩ = some (.int .i64 til) ∧ w'.cell? ⟨w.heap.size, 0, none⟩ = some (.slice (some ⟨g, off, none⟩) k ca)) (by kernel_rfl) (sS1 (hA.drew) ((unhide HXr).drew)) (fun hHeld => ?_)
        refine Rg.t 0 14 ?_
        refine Rg.t 1 15 ?_
        refine Rg.t 2 16 ?_
        refine Rg.t 3 17 ?_
        refine Rg.t 4 18 ?_
        (refine Rg.o 5 (fun K hK => ?_); go_simp)
        refine (l09Source ad an til _).mono ?_
        rintro e w4 ⟨rfl, b4⟩
        rw [unhide HKK]
        refine hK.out _ _ (sS1 (hA.drew.below b4) ((unhide HXr).drew.below b4)) (fun hHeld => ?_)
        clear hK K
        (try simp only [Act.put, List.setIfInBounds_toArray, List.set_cons_zero, List.set_cons_succ])
        refine Rg.t 6 20 ?_
        refine Rg.t 7 21 ?_
        refine Rg.s 8 22 ?_
        refine Rg.s 9 23 ?_
        refine Rg.s 10 24 ?_
        refine Rg.s 11 25 ?_
        refine Rg.s 12 26 ?_
        refine Rg.s 13 27 ?_
        refine Rg.s 14 28 ?_
        refine Rg.s 15 29 ?_
        refine Rg.s 16 30 ?_
        refine Rg.s 17 31 ?_
        refine Rg.s 18 32 ?_
        refine Rg.s 19 33 ?_
        refine Rg.s 20 34 ?_
        refine Rg.s 21 35 ?_
        refine Rg.s 22 36 ?_
        refine Rg.s 23 37 ?_
        refine Rg.s 24 38 ?_
        refine Rg.s 25 39 ?_
        refine Rg.t 26 40 ?_
        refine wpAnyH_done (by kernel_rfl) (NoPanic.normal ?_) _
        have hb4 := hide ((unhide hbl).drew.trans (b4.mono (by show W0.heap.size ≤ wr.heap.size; exact (unhide hbl).size)))
        clear b4 hHeld
        obtain ⟨z0, z1⟩ := (unhide HX).below (unhide hb4)
        go_wp2_with fail
        go_ret
        exact ⟨ret_bool (unhide HST).symm, (unhide HA).trans ((unhide hb4).mono (unhide HA).size)⟩
      have HKK := hide hk
      clear hk
      by_cases hj0 : j = 0
      · subst hj0
        clear hc
        rw [Nat.zero_mul, Nat.add_zero] at hA
        have HST := hide (Ri.all_succ (unhide hrl) (Ri.step_zero (key := So.R.ad) (unhide HKK)))
        generalize ss.getD 0 So.R.zero = m at *
        obtain ⟨ad, an, til⟩ := m
        go_wp2_with fail
        refine wp_region_noPanic ?_
        refine wp_region_held_drew (S := fun w' => (So.At w' g off ⟨ad, an, til⟩ ∧ Bx2 w' w.heap.size (.slice (some ⟨g, off, none⟩) k ca) (.slice b n cb)) ∧ w'.cell? ⟨g, off, none⟩ = some (.int .i64 ad) ∧ w'.cell? ⟨g, off + 1, none⟩ = some (.int .i64 an) ∧ w'.cell? ⟨g, off + 2, none⟩ = some (.int .i64 til) ∧ w'.cell? ⟨w.heap.size, 0, none⟩ = some (.slice (some ⟨g, off, none⟩) k ca)) (by kernel_rfl) (sS1 (hA.drew) ((unhide HXr).drew)) (fun hHeld => ?_)
        refine Rg.t 0 14 ?_
        refine Rg.t 1 15 ?_
        refine Rg.t 2 16 ?_
        refine Rg.t 3 17 ?_
        refine Rg.t 4 18 ?_
        (refine Rg.o 5 (fun K hK => ?_); go_simp)
        refine (l09Source ad an til _).mono ?_
        rintro e w4 ⟨rfl, b4⟩
        rw [unhide HKK]
        refine hK.out _ _ (sS1 (hA.drew.below b4) ((unhide HXr).drew.below b4)) (fun hHeld => ?_)
        clear hK K
        (try simp only [Act.put, List.setIfInBounds_toArray, List.set_cons_zero, List.set_cons_succ])
        refine Rg.t 6 20 ?_
        refine Rg.t 7 21 ?_
        refine Rg.t 8 22 ?_
        refine Rg.t 9 23 ?_
        refine Rg.t 10 24 ?_
        refine Rg.s 11 25 ?_
        refine Rg.s 12 26 ?_
        refine Rg.s 13 27 ?_
        refine Rg.s 14 28 ?_
        refine Rg.s 15 29 ?_
        refine Rg.s 16 30 ?_
        refine Rg.s 17 31 ?_
        refine Rg.s 18 32 ?_
        refine Rg.s 19 33 ?_
        refine Rg.s 20 34 ?_
        refine Rg.s 21 35 ?_
        refine Rg.s 22 36 ?_
        refine Rg.s 23 37 ?_
        refine Rg.s 24 38 ?_
        refine Rg.t 25 39 ?_
        refine Rg.t 26 40 ?_
        refine wpAnyH_done (by kernel_rfl) (NoPanic.normal ?_) _
        have hb4 := hide ((unhide hbl).drew.trans (b4.mono (by show W0.heap.size ≤ wr.heap.size; exact (unhide hbl).size)))
        clear b4 hHeld
        obtain ⟨z0, z1⟩ := (unhide HX).below (unhide hb4)
        go_wp2_with fail
        go_roundw
        case rel => exact ⟨0 + 1, by omega, by go_num, HST, hb4⟩
        case measure => simp [intOf]; omega
      · obtain ⟨i, hji⟩ : ∃ i, j = i + 1 := ⟨j - 1, by omega⟩
        have HJ := hide hji
        have e1 : (j : Int) - 1 = (i : Int) := by omega
        have i0 : (0 : Int) ≤ (i : Int) := by omega
        have wi : IntKind.i64.wrap (i : Int) = (i : Int) := by rw [IntKind.wrap_i64]; omega
        have i1 : (i : Int) < (k : Int) := by omega
        have j1 : (0 : Int) < (j : Int) := by omega
        have j2 : 0 < j := by omega
        have hP := hc i (by have := unhide HL; omega)
        have EJ : ss.getD j So.R.zero = ss.getD (i + 1) So.R.zero := by rw [hji]
        clear hc hji
        by_cases hk : (ss.getD i So.R.zero).ad < (ss.getD j So.R.zero).ad
        · have HST : Hid (allS ss (j + 1) = true) := hide (Ri.all_succ (unhide hrl) (by rw [unhide HJ]; exact Ri.step_lt (by rw [← EJ]; exact unhide HKK) (by rw [← EJ]; exact hk)))
          clear EJ
          generalize ss.getD j So.R.zero = m at *
          generalize ss.getD i So.R.zero = m0 at *
          obtain ⟨ad, an, til⟩ := m
          obtain ⟨ad0, an0, til0⟩ := m0
          dsimp only at hk
          go_wp2_with fail
          refine wp_region_noPanic ?_
          refine wp_region_held_drew (S := fun w' => ((So.At w' g (off + j * 3) ⟨ad, an, til⟩ ∧ So.At w' g (off + i * 3) ⟨ad0, an0, til0⟩) ∧ Bx2 w' w.heap.size (.slice (some ⟨g, off, none⟩) k ca) (.slice b n cb)) ∧ w'.cell? ⟨g, off + j * 3, none⟩ = some (.int .i64 ad) ∧ w'.cell? ⟨g, off + j * 3 + 1, none⟩ = some (.int .i64 an) ∧ w'.cell? ⟨g, off + j * 3 + 2, none⟩ = some (.int .i64 til) ∧ w'.cell? ⟨g, off + i * 3, none⟩ = some (.int .i64 ad0) ∧ w'.cell? ⟨w.heap.size, 0, none⟩ = some (.slice (some ⟨g, off, none⟩) k ca)) (by kernel_rfl) (sS2 (hA.drew) (hP.drew) ((unhide HXr).drew)) (fun hHeld => ?_)
          refine Rg.t 0 14 ?_
          refine Rg.t 1 15 ?_
          refine Rg.t 2 16 ?_
          refine Rg.t 3 17 ?_
          refine Rg.t 4 18 ?_
          (refine Rg.o 5 (fun K hK => ?_); go_simp)
          refine (l09Source ad an til _).mono ?_
          rintro e w4 ⟨rfl, b4⟩
          rw [unhide HKK]
          refine hK.out _ _ (sS2 (hA.drew.below b4) (hP.drew.below b4) ((unhide HXr).drew.below b4)) (fun hHeld => ?_)
          clear hK K
          (try simp only [Act.put, List.setIfInBounds_toArray, List.set_cons_zero, List.set_cons_succ])
          refine Rg.t 6 20 ?_
          refine Rg.t 7 21 ?_
          refine Rg.t 8 22 ?_
          refine Rg.t 9 23 ?_
          refine Rg.t 10 24 ?_
          refine Rg.t 11 25 ?_
          refine Rg.t 12 26 ?_
          refine Rg.t 13 27 ?_
          refine Rg.t 14 28 ?_
          refine Rg.t 15 29 ?_
          refine Rg.t 16 30 ?_
          refine Rg.t 17 31 ?_
          refine Rg.t 18 32 ?_
          refine Rg.t 19 33 ?_
          refine Rg.t 20 34 ?_
          refine Rg.t 21 35 ?_
          refine Rg.t 22 36 ?_
          refine Rg.t 23 37 ?_
          refine Rg.t 24 38 ?_
          refine Rg.t 25 39 ?_
          refine Rg.t 26 40 ?_
          refine wpAnyH_done (by kernel_rfl) (NoPanic.normal ?_) _
          have hb4 := hide ((unhide hbl).drew.trans (b4.mono (by show W0.heap.size ≤ wr.heap.size; exact (unhide hbl).size)))
          clear b4 hHeld
          obtain ⟨z0, z1⟩ := (unhide HX).below (unhide hb4)
          go_wp2_with fail
          go_roundw
          case rel => exact ⟨j + 1, by omega, by go_num, HST, hb4⟩
          case measure => simp [intOf]; omega
        · have HST : Hid (A = false) := hide (by rw [← unhide HTA]; exact top_nosrc (Ri.all_no (unhide HL) (show Ri.step So.R.zero okS So.R.ad ss j = false by rw [unhide HJ]; exact Ri.step_ge (by rw [← EJ]; omega))))
          clear EJ
          generalize ss.getD j So.R.zero = m at *
          generalize ss.getD i So.R.zero = m0 at *
          obtain ⟨ad, an, til⟩ := m
          obtain ⟨ad0, an0, til0⟩ := m0
          dsimp only at hk
          go_wp2_with fail
          refine wp_region_noPanic ?_
          refine wp_region_held_drew (S := fun w' => ((So.At w' g (off + j * 3) ⟨ad, an, til⟩ ∧ So.At w' g (off + i * 3) ⟨ad0, an0, til0⟩) ∧ Bx2 w' w.heap.size (.slice (some ⟨g, off, none⟩) k ca) (.slice b n cb)) ∧ w'.cell? ⟨g, off + j * 3, none⟩ = some (.int .i64 ad) ∧ w'.cell? ⟨g, off + j * 3 + 1, none⟩ = some (.int .i64 an) ∧ w'.cell? ⟨g, off + j * 3 + 2, none⟩ = some (.int .i64 til) ∧ w'.cell? ⟨g, off + i * 3, none⟩ = some (.int .i64 ad0) ∧ w'.cell? ⟨w.heap.size, 0, none⟩ = some (.slice (some ⟨g, off, none⟩) k ca)) (by kernel_rfl) (sS2 (hA.drew) (hP.drew) ((unhide HXr).drew)) (fun hHeld => ?_)
          refine Rg.t 0 14 ?_
          refine Rg.t 1 15 ?_
          refine Rg.t 2 16 ?_
          refine Rg.t 3 17 ?_
          refine Rg.t 4 18 ?_
          (refine Rg.o 5 (fun K hK => ?_); go_simp)
          refine (l09Source ad an til _).mono ?_
          rintro e w4 ⟨rfl, b4⟩
          rw [unhide HKK]
          refine hK.out _ _ (sS2 (hA.drew.below b4) (hP.drew.below b4) ((unhide HXr).drew.below b4)) (fun hHeld => ?_)
          clear hK K
          (try simp only [Act.put, List.setIfInBounds_toArray, List.set_cons_zero, List.set_cons_succ])
          refine Rg.t 6 20 ?_
          refine Rg.t 7 21 ?_
          refine Rg.t 8 22 ?_
          refine Rg.t 9 23 ?_
          refine Rg.t 10 24 ?_
          refine Rg.t 11 25 ?_
          refine Rg.t 12 26 ?_
          refine Rg.t 13 27 ?_
          refine Rg.t 14 28 ?_
          refine Rg.t 15 29 ?_
          refine Rg.t 16 30 ?_
          refine Rg.t 17 31 ?_
          refine Rg.t 18 32 ?_
          refine Rg.t 19 33 ?_
          refine Rg.t 20 34 ?_
          refine Rg.t 21 35 ?_
          refine Rg.t 22 36 ?_
          refine Rg.t 23 37 ?_
          refine Rg.t 24 38 ?_
          refine Rg.t 25 39 ?_
          refine Rg.t 26 40 ?_
          refine wpAnyH_done (by kernel_rfl) (NoPanic.normal ?_) _
          have hb4 := hide ((unhide hbl).drew.trans (b4.mono (by show W0.heap.size ≤ wr.heap.size; exact (unhide hbl).size)))
          clear b4 hHeld
          obtain ⟨z0, z1⟩ := (unhide HX).below (unhide hb4)
          go_wp2_with fail
          go_ret
          exact ⟨ret_bool (unhide HST).symm, (unhide HA).trans ((unhide hb4).mono (unhide HA).size)⟩
    · obtain rfl : j = k := by omega
      have hok : srcB ss = true := by unfold srcB; rw [unhide HK]; exact unhide hrl
      have h8 := src_len hok
      have h8' : (j : Int) ≤ 8 := by have := unhide HK; omega
      have HS := hide hok
      clear hok h8 hrl
      have HBX := hide ((unhide HA).trans ((unhide hbl).mono (unhide HA).size))
      have HR1 := hide ((unhide HR).below (unhide hbl))
      have HE1 := hide ((unhide HE).below (unhide hbl))
      clear HR HE HX HA hbl
      generalize hwq : wr = wq at *
      clear hwq
      go_wp2_with fail
      clear z0 z1
      go_loopw [4] (fun i wr => ∃ t : Nat, t ≤ n ∧ i = .int .i64 t ∧ Hid (edgB ss es t = true ∨ twoB es = false) ∧ Hid (Below wq.heap.size wq wr)) (fun i _ => n - (intOf i).toNat)
      case atStart => exact ⟨0, by omega, rfl, hide (.inl (edg_zero ss es)), hide (Below.refl _ _)⟩
      case round =>
        obtain ⟨t, ht, rfl, hed, hbl⟩ := hrel
        have HXr2 := hide ((unhide HXr).below (unhide hbl))
        obtain ⟨z0, z1⟩ := unhide HXr2
        have HBW := hide ((unhide HBX).trans ((unhide hbl).mono (unhide HBX).size))
        by_cases hlt : (t : Int) < (n : Int)
        · have k0 : (0 : Int) ≤ (t : Int) := by omega
          have hlen : t < es.length := by rw [unhide HN]; omega
          obtain ⟨g, off, rfl⟩ := (unhide HE1).form (by omega)
          have hA := ((unhide HE1).below (unhide hbl)).at hlen
          have HAt := hide hA
          have HR2 := hide ((unhide HR1).below (unhide hbl))
          obtain ⟨v, hv'⟩ : ∃ v, IntKind.i64.wrap ((es.getD t R.zero).key.tdiv 100) = v := ⟨_, rfl⟩
          obtain ⟨HF, HC⟩ := edge_check (ss := ss) hlen hv' (unhide hed)
          rw [unhide HTA] at HF
          have HF := hide HF
          have HC := hide HC
          generalize es.getD t R.zero = m at *
          obtain ⟨key, til, val⟩ := m
          obtain ⟨c0, c1, c2⟩ := hA
          dsimp only at c0 c1 c2 hv' HF HC
          obtain ⟨E, hE⟩ : ∃ E, hasS ss v = E := ⟨_, rfl⟩
          have HE2 := hide hE
          rw [hE] at HF HC
          clear hE
          obtain ⟨qa, qn, qt, hq⟩ : ∃ qa qn qt, fS ss v = ⟨qa, qn, qt⟩ := ⟨_, _, _, rfl⟩
          have HQV : Hid ((fS ss v).value = .agg #[.int .i64 qa, .int .i64 qn, .int .i64 qt]) := hide (by rw [hq]; rfl)
          clear hq
          go_wp2_with fail
          go_cut [6] (fun q wx => q = .bool E ∧ Hid (Below wr.heap.size wr wx))
          case first =>
            refine wp_region_noPanic ?_
            refine wp_region_held_drew (S := fun w' => (Tu.At w' g (off + t * 3) ⟨key, til, val⟩ ∧ Bx2 w' w.heap.size (.slice a j ca) (.slice (some ⟨g, off, none⟩) n cb)) ∧ w'.cell? ⟨g, off + t * 3, none⟩ = some (.int .i64 key) ∧ w'.cell? ⟨w.heap.size, 0, none⟩ = some (.slice a j ca) ∧ w'.cell? ⟨w.heap.size, 1, none⟩ = some (.slice (some ⟨g, off, none⟩) n cb)) (by kernel_rfl) (sE1 (unhide HAt).drew (unhide HXr2).drew) (fun hHeld => ?_)
            refine Rg.t 0 49 ?_
            refine Rg.t 1 50 ?_
            refine Rg.t 2 51 ?_
            refine Rg.t 3 52 ?_
            refine Rg.t 4 53 ?_
            refine Rg.t 5 54 ?_
            refine Rg.t 6 55 ?_
            refine Rg.t (v := .int .i64 v) 7 56 ?_
            (refine wpAnyH_ready (rs := [8, 12]) (by kernel_rfl) (by simp) ?_; refine AllReadyH.cons (o := _) rfl (fun K hK => ?_) (AllReadyH.cons (o := _) rfl (fun K hK => ?_) AllReadyH.nil))
            · go_simp
              refine (l09FindL _ ss j ca _ v _ (unhide HK) (by omega) (unhide HR2).drew).mono ?_
              rintro e w4 ⟨rfl, b4_⟩
              rw [unhide HE2, unhide HQV]
              have b4 : Below wr.heap.size wr w4 := (Below.refl _ _).drew.trans b4_
              clear b4_ hHeld
              refine hK.out _ _ (sE1 ((unhide HAt).below b4) ((unhide HXr2).below b4)) (fun hHeld => ?_)
              clear hK K
              (try simp only [Act.put, List.setIfInBounds_toArray, List.set_cons_zero, List.set_cons_succ])
              refine Rg.t 9 48 ?_
              refine Rg.t 10 58 ?_
              refine Rg.t 11 59 ?_
              (refine Rg.o 12 (fun K hK => ?_); go_simp)
              have b5 := b4.alloc b4.size (.cells #[.int .i64 0, .int .i64 0, .int .i64 0] 170)
              clear hHeld
              refine hK.out _ _ (sE1 ((unhide HAt).below b5) ((unhide HXr2).below b5)) (fun hHeld => ?_)
              clear hK K
              (try simp only [Act.put, List.setIfInBounds_toArray, List.set_cons_zero, List.set_cons_succ])
              (refine Rg.o 13 (fun K hK => ?_); go_simp)
              have b6 := b4.alloc b4.size (.cells #[.int .i64 qa, .int .i64 qn, .int .i64 qt] 170)
              clear hHeld
              refine hK.out _ _ (sE1 ((unhide HAt).below b6) ((unhide HXr2).below b6)) (fun hHeld => ?_)
              clear hK K
              (try simp only [Act.put, List.setIfInBounds_toArray, List.set_cons_zero, List.set_cons_succ])
              refine Rg.t 14 6 ?_
              refine wpAnyH_done (by kernel_rfl) (NoPanic.normal ?_) _
              clear hHeld
              go_wp2_with fail
              go_meet
              case rel => exact ⟨rfl, hide b6⟩
            · go_simp
              have b4 : Below wr.heap.size wr (wr.drew.alloc (.cells #[.int .i64 0, .int .i64 0, .int .i64 0] 170)) := (Below.refl _ _).drew.alloc (Nat.le_refl _) _
              have HV4 : Hid (SV (wr.drew.alloc (.cells #[.int .i64 0, .int .i64 0, .int .i64 0] 170)) wr.heap.size So.R.zero) := hide (sv_new wr.drew So.R.zero)
              clear hHeld
              refine hK.out _ _ (sE1 ((unhide HAt).below b4) ((unhide HXr2).below b4)) (fun hHeld => ?_)
              clear hK K
              (try simp only [Act.put, List.setIfInBounds_toArray, List.set_cons_zero, List.set_cons_succ])
              (refine Rg.o 8 (fun K hK => ?_); go_simp)
              refine (l09FindL _ ss j ca _ v _ (unhide HK) (by omega) ((unhide HR2).below b4)).mono ?_
              rintro e w5 ⟨rfl, b5_⟩
              rw [unhide HE2, unhide HQV]
              have b5 := b4.trans (b5_.mono b4.size)
              have HV5 := hide ((unhide HV4).below b5_)
              clear b5_ hHeld
              refine hK.out _ _ (sE1 ((unhide HAt).below b5) ((unhide HXr2).below b5)) (fun hHeld => ?_)
              clear hK K
              (try simp only [Act.put, List.setIfInBounds_toArray, List.set_cons_zero, List.set_cons_succ])
              refine Rg.t 9 48 ?_
              refine Rg.t 10 58 ?_
              refine Rg.t 11 59 ?_
              obtain ⟨x0, x1, x2⟩ := (unhide HV5).cells
              simp only [Nat.zero_add] at x1 x2
              have y0 := (unhide HV5).free 0
              have y1 := (unhide HV5).free 1
              have y2 := (unhide HV5).free 2
              unfold So.R.zero at x0 x1 x2
              dsimp only at x0 x1 x2
              (refine Rg.o 13 (fun K hK => ?_); go_simp)
              have b6 := ((b5.setCell (p := ⟨wr.heap.size, 0, none⟩) (Nat.le_refl _) (.int .i64 qa)).setCell (p := ⟨wr.heap.size, 1, none⟩) (Nat.le_refl _) (.int .i64 qn)).setCell (p := ⟨wr.heap.size, 2, none⟩) (Nat.le_refl _) (.int .i64 qt)
              clear hHeld
              refine hK.out _ _ (sE1 ((unhide HAt).below b6) ((unhide HXr2).below b6)) (fun hHeld => ?_)
              clear hK K
              (try simp only [Act.put, List.setIfInBounds_toArray, List.set_cons_zero, List.set_cons_succ])
              refine Rg.t 14 6 ?_
              refine wpAnyH_done (by kernel_rfl) (NoPanic.normal ?_) _
              clear hHeld x0 x1 x2 y0 y1 y2
              go_wp2_with fail
              go_meet
              case rel => exact ⟨rfl, hide b6⟩
          case rest =>
            obtain ⟨rfl, hbx⟩ := hcut
            rename World => wx
            have HXx := hide ((unhide HXr2).below (unhide hbx))
            obtain ⟨z0, z1⟩ := unhide HXx
            obtain ⟨c0, c1, c2⟩ := (unhide HAt).below (unhide hbx)
            dsimp only at c0 c1 c2
            have HBx := hide ((unhide HBW).trans ((unhide hbx).mono (unhide HBW).size))
            have HBq := hide ((unhide hbl).trans ((unhide hbx).mono (unhide hbl).size))
            cases E
            · have HF0 := hide (unhide HF rfl)
              go_wp2_with fail
              go_ret
              exact ⟨ret_bool (unhide HF0).symm, unhide HBx⟩
            · by_cases hv1 : val < 1
              · have HF0 := hide (unhide HF (by rw [decide_eq_false (by omega)]; rfl))
                go_wp2_with fail
                go_ret
                exact ⟨ret_bool (unhide HF0).symm, unhide HBx⟩
              · have HC0 := hide (unhide HC (by rw [decide_eq_true (by omega)]; rfl))
                go_wp2_with fail
                go_roundw
                case rel => exact ⟨t + 1, by omega, by go_num, HC0, HBq⟩
                case measure => simp [intOf]; omega
        · obtain rfl : t = n := by omega
          have HF : Hid (twoB es = A) := hide (by
            rw [← unhide HTA]
            rcases unhide hed with h | h
            · exact (edg_all (unhide HS) (by rw [unhide HN]; exact h)).symm
            · rw [h, top_notwo h])
          have HE3 := hide ((unhide HE1).below (unhide hbl))
          go_wp2_with fail
          rw [← unhide HN]
          refine (l07OK _ es cb _ (by rw [unhide HN]; omega) (unhide HE3)).mono ?_
          rintro e w4 ⟨rfl, b4⟩
          rw [unhide HF]
          have HB4 := hide ((unhide HBW).trans (b4.mono (unhide HBW).size))
          clear b4
          go_wp2_with fail
          go_ret
          exact ⟨rfl, unhide HB4⟩
end Tp
end Go.Proofs.YtfooahhdikobeaaGreat
namespace Go.Proofs.YtfooahhdikobeaaGreat
open Go.ChangeShapes Go.WideShapes Go.ChangeAt Go.RowKit
set_option linter.unusedVariables false
set_option linter.unusedSimpArgs false
attribute [local go_sem ↓] Go.wp_at_zero Go.wp_at_succ
namespace Ln
open W1 Lk
theorem sOne {w : World} {g o : Nat} {ad hd sy ci co wl : Int} (h : At w g o ⟨ad, hd, sy, ci, co, wl⟩) : At w g o ⟨ad, hd, sy, ci, co, wl⟩ ∧ w.cell? ⟨g, o, none⟩ = some (.int .i64 ad) ∧ w.cell? ⟨g, o + 1, none⟩ = some (.int .i64 hd) ∧ w.cell? ⟨g, o + 2, none⟩ = some (.int .i64 sy) ∧ w.cell? ⟨g, o + 3, none⟩ = some (.int .i64 ci) ∧ w.cell? ⟨g, o + 4, none⟩ = some (.int .i64 co) ∧ w.cell? ⟨g, o + 5, none⟩ = some (.int .i64 wl) := ⟨h, h⟩
theorem sTwo {w : World} {g o p : Nat} {m : R} {ad hd sy ci co wl : Int} (h : At w g o ⟨ad, hd, sy, ci, co, wl⟩) (h' : At w g p m) :
    (At w g o ⟨ad, hd, sy, ci, co, wl⟩ ∧ At w g p m) ∧ w.cell? ⟨g, o, none⟩ = some (.int .i64 ad) ∧ w.cell? ⟨g, o + 1, none⟩ = some (.int .i64 hd) ∧ w.cell? ⟨g, o + 2, none⟩ = some (.int .i64 sy) ∧ w.cell? ⟨g, o + 3, none⟩ = some (.int .i64 ci) ∧ w.cell? ⟨g, o + 4, none⟩ = some (.int .i64 co) ∧ w.cell? ⟨g, o + 5, none⟩ = some (.int .i64 wl) ∧ w.cell? ⟨g, p, none⟩ = some (.int .i64 m.ad) := ⟨⟨h, h'⟩, h.1, h.2.1, h.2.2.1, h.2.2.2.1, h.2.2.2.2.1, h.2.2.2.2.2, h'.1⟩
set_option maxRecDepth 100000 in
set_option maxHeartbeats 4000000 in
theorem specOK (a : Option Addr) (ms : List R) (cap : Nat) (w : World) (hm : ms.length ≤ 1048576) (hr : RM w a ms) :
    Calls Tryz.prog 134 #[.slice a ms.length cap] w fun e w' => e = .returned (.bool (linksB ms)) ∧ Below w.heap.size w w' := by
  by_cases hbig : (4096 : Int) < ms.length
  · have hf : Hid (linksB ms = false) := hide (by cases hh : linksB ms; rfl; have := links_len hh; omega)
    go_enter Tryz.func134, Tryz.ntmps134
    go_wp2
    go_ret
    exact ⟨ret_bool (unhide hf).symm, Below.refl _ _⟩
  have HR := hide hr
  clear hr
  generalize hN : ms.length = n at *
  have HN := hide hN
  clear hN
  go_enter Tryz.func134, Tryz.ntmps134
  go_wp2
  go_loopw [3] (fun i wr => ∃ j : Nat, j ≤ n ∧ i = .int .i64 j ∧ Hid (allL ms j = true) ∧ Hid (Below w.heap.size w wr)) (fun i _ => n - (intOf i).toNat)
  case atStart => exact ⟨0, by omega, rfl, hide (Ri.all_zero), hide (Below.refl _ _)⟩
  case round =>
    obtain ⟨j, hj, rfl, hrl, hbl⟩ := hrel
    by_cases hlt : (j : Int) < (n : Int)
    · have k0 : (0 : Int) ≤ (j : Int) := by omega
      have hlen : j < ms.length := by rw [unhide HN]; omega
      rcases (unhide HR).below (by exact (unhide hbl)) with e0 | ⟨g, off, rfl, hc⟩
      · exfalso; rw [e0] at hlen; simp at hlen
      have HL := hide hlen
      have hA := hc j hlen
      cases hk : okL (ms.getD j R.zero)
      · clear hc
        have HST := hide (Ri.all_no hlen (Ri.step_bad (key := R.ad) hk))
        have HK := hide hk
        clear hk
        generalize ms.getD j R.zero = m at *
        obtain ⟨ad, hd, sy, ci, co, wl⟩ := m
        go_wp2_with fail
        refine wp_region_noPanic ?_
        refine wp_region_held_drew (S := fun w' => At w' g (off + j * 6) ⟨ad, hd, sy, ci, co, wl⟩ ∧ w'.cell? ⟨g, off + j * 6, none⟩ = some (.int .i64 ad) ∧ w'.cell? ⟨g, off + j * 6 + 1, none⟩ = some (.int .i64 hd) ∧ w'.cell? ⟨g, off + j * 6 + 2, none⟩ = some (.int .i64 sy) ∧ w'.cell? ⟨g, off + j * 6 + 3, none⟩ = some (.int .i64 ci) ∧ w'.cell? ⟨g, off + j * 6 + 4, none⟩ = some (.int .i64 co) ∧ w'.cell? ⟨g, off + j * 6 + 5, none⟩ = some (.int .i64 wl)) (by kernel_rfl) (sOne hA.drew) (fun hHeld => ?_)
        refine Rg.t 0 13 ?_
        refine Rg.t 1 14 ?_
        refine Rg.t 2 15 ?_
        refine Rg.t 3 16 ?_
        (refine Rg.o 4 (fun K hK => ?_); go_simp)
        refine (l06Link ad hd sy ci co wl _).mono ?_
        rintro e w1 ⟨rfl, b1⟩
        rw [unhide HK]
        refine hK.out _ _ (sOne (hA.drew.below b1)) (fun hHeld => ?_)
        clear hK K
        (try simp only [Act.put, List.setIfInBounds_toArray, List.set_cons_zero, List.set_cons_succ])
        refine Rg.t 5 18 ?_
        refine Rg.t 6 19 ?_
        refine Rg.s 7 20 ?_
        refine Rg.s 8 21 ?_
        refine Rg.s 9 22 ?_
        refine Rg.s 10 23 ?_
        refine Rg.s 11 24 ?_
        refine Rg.s 12 25 ?_
        refine Rg.s 13 26 ?_
        refine Rg.s 14 27 ?_
        refine Rg.s 15 28 ?_
        refine Rg.s 16 29 ?_
        refine Rg.s 17 30 ?_
        refine Rg.s 18 31 ?_
        refine Rg.s 19 32 ?_
        refine Rg.s 20 33 ?_
        refine Rg.s 21 34 ?_
        refine Rg.s 22 35 ?_
        refine Rg.t 23 36 ?_
        refine wpAnyH_done (by kernel_rfl) (NoPanic.normal ?_) _
        have hb1 := hide ((unhide hbl).drew.trans (b1.mono (by show w.heap.size ≤ wr.heap.size; exact (unhide hbl).size)))
        go_wp2_with fail
        go_ret
        exact ⟨ret_bool (unhide HST).symm, unhide hb1⟩
      have HK := hide hk
      clear hk
      by_cases hj0 : j = 0
      · subst hj0
        clear hc
        rw [Nat.zero_mul, Nat.add_zero] at hA
        have HST := hide (Ri.all_succ (unhide hrl) (Ri.step_zero (key := R.ad) (unhide HK)))
        generalize ms.getD 0 R.zero = m at *
        obtain ⟨ad, hd, sy, ci, co, wl⟩ := m
        go_wp2_with fail
        refine wp_region_noPanic ?_
        refine wp_region_held_drew (S := fun w' => At w' g off ⟨ad, hd, sy, ci, co, wl⟩ ∧ w'.cell? ⟨g, off, none⟩ = some (.int .i64 ad) ∧ w'.cell? ⟨g, off + 1, none⟩ = some (.int .i64 hd) ∧ w'.cell? ⟨g, off + 2, none⟩ = some (.int .i64 sy) ∧ w'.cell? ⟨g, off + 3, none⟩ = some (.int .i64 ci) ∧ w'.cell? ⟨g, off + 4, none⟩ = some (.int .i64 co) ∧ w'.cell? ⟨g, off + 5, none⟩ = some (.int .i64 wl)) (by kernel_rfl) (sOne hA.drew) (fun hHeld => ?_)
        refine Rg.t 0 13 ?_
        refine Rg.t 1 14 ?_
        refine Rg.t 2 15 ?_
        refine Rg.t 3 16 ?_
        (refine Rg.o 4 (fun K hK => ?_); go_simp)
        refine (l06Link ad hd sy ci co wl _).mono ?_
        rintro e w1 ⟨rfl, b1⟩
        rw [unhide HK]
        refine hK.out _ _ (sOne (hA.drew.below b1)) (fun hHeld => ?_)
        clear hK K
        (try simp only [Act.put, List.setIfInBounds_toArray, List.set_cons_zero, List.set_cons_succ])
        refine Rg.t 5 18 ?_
        refine Rg.t 6 19 ?_
        refine Rg.t 7 20 ?_
        refine Rg.t 8 21 ?_
        refine Rg.t 9 22 ?_
        refine Rg.s 10 23 ?_
        refine Rg.s 11 24 ?_
        refine Rg.s 12 25 ?_
        refine Rg.s 13 26 ?_
        refine Rg.s 14 27 ?_
        refine Rg.s 15 28 ?_
        refine Rg.s 16 29 ?_
        refine Rg.s 17 30 ?_
        refine Rg.s 18 31 ?_
        refine Rg.s 19 32 ?_
        refine Rg.s 20 33 ?_
        refine Rg.s 21 34 ?_
        refine Rg.t 22 35 ?_
        refine Rg.t 23 36 ?_
        refine wpAnyH_done (by kernel_rfl) (NoPanic.normal ?_) _
        have hb1 := hide ((unhide hbl).drew.trans (b1.mono (by show w.heap.size ≤ wr.heap.size; exact (unhide hbl).size)))
        go_wp2_with fail
        go_roundw
        case rel => exact ⟨0 + 1, by omega, by go_num, HST, hb1⟩
        case measure => simp [intOf]; omega
      · obtain ⟨i, hji⟩ : ∃ i, j = i + 1 := ⟨j - 1, by omega⟩
        have HJ := hide hji
        have e1 : (j : Int) - 1 = (i : Int) := by omega
        have i0 : (0 : Int) ≤ (i : Int) := by omega
        have wi : IntKind.i64.wrap (i : Int) = (i : Int) := by rw [IntKind.wrap_i64]; omega
        have i1 : (i : Int) < (n : Int) := by omega
        have j1 : (0 : Int) < (j : Int) := by omega
        have j2 : 0 < j := by omega
        have hP := hc i (by omega)
        have EJ : ms.getD j R.zero = ms.getD (i + 1) R.zero := by rw [hji]
        clear hc hji
        by_cases hk : (ms.getD i R.zero).ad < (ms.getD j R.zero).ad
        · have HST : Hid (allL ms (j + 1) = true) := hide (Ri.all_succ (unhide hrl) (by rw [unhide HJ]; exact Ri.step_lt (by rw [← EJ]; exact unhide HK) (by rw [← EJ]; exact hk)))
          clear EJ
          generalize ms.getD j R.zero = m at *
          generalize ms.getD i R.zero = m0 at *
          obtain ⟨ad, hd, sy, ci, co, wl⟩ := m
          obtain ⟨ad0, hd0, sy0, ci0, co0, wl0⟩ := m0
          dsimp only at hk
          go_wp2_with fail
          refine wp_region_noPanic ?_
          refine wp_region_held_drew (S := fun w' => (At w' g (off + j * 6) ⟨ad, hd, sy, ci, co, wl⟩ ∧ At w' g (off + i * 6) ⟨ad0, hd0, sy0, ci0, co0, wl0⟩) ∧ w'.cell? ⟨g, off + j * 6, none⟩ = some (.int .i64 ad) ∧ w'.cell? ⟨g, off + j * 6 + 1, none⟩ = some (.int .i64 hd) ∧ w'.cell? ⟨g, off + j * 6 + 2, none⟩ = some (.int .i64 sy) ∧ w'.cell? ⟨g, off + j * 6 + 3, none⟩ = some (.int .i64 ci) ∧ w'.cell? ⟨g, off + j * 6 + 4, none⟩ = some (.int .i64 co) ∧ w'.cell? ⟨g, off + j * 6 + 5, none⟩ = some (.int .i64 wl) ∧ w'.cell? ⟨g, off + i * 6, none⟩ = some (.int .i64 ad0)) (by kernel_rfl) (sTwo hA.drew hP.drew) (fun hHeld => ?_)
          refine Rg.t 0 13 ?_
          refine Rg.t 1 14 ?_
          refine Rg.t 2 15 ?_
          refine Rg.t 3 16 ?_
          (refine Rg.o 4 (fun K hK => ?_); go_simp)
          refine (l06Link ad hd sy ci co wl _).mono ?_
          rintro e w1 ⟨rfl, b1⟩
          rw [unhide HK]
          refine hK.out _ _ (sTwo (hA.drew.below b1) (hP.drew.below b1)) (fun hHeld => ?_)
          clear hK K
          (try simp only [Act.put, List.setIfInBounds_toArray, List.set_cons_zero, List.set_cons_succ])
          refine Rg.t 5 18 ?_
          refine Rg.t 6 19 ?_
          refine Rg.t 7 20 ?_
          refine Rg.t 8 21 ?_
          refine Rg.t 9 22 ?_
          refine Rg.t 10 23 ?_
          refine Rg.t 11 24 ?_
          refine Rg.t 12 25 ?_
          refine Rg.t 13 26 ?_
          refine Rg.t 14 27 ?_
          refine Rg.t 15 28 ?_
          refine Rg.t 16 29 ?_
          refine Rg.t 17 30 ?_
          refine Rg.t 18 31 ?_
          refine Rg.t 19 32 ?_
          refine Rg.t 20 33 ?_
          refine Rg.t 21 34 ?_
          refine Rg.t 22 35 ?_
          refine Rg.t 23 36 ?_
          refine wpAnyH_done (by kernel_rfl) (NoPanic.normal ?_) _
          have hb1 := hide ((unhide hbl).drew.trans (b1.mono (by show w.heap.size ≤ wr.heap.size; exact (unhide hbl).size)))
          go_wp2_with fail
          go_roundw
          case rel => exact ⟨j + 1, by omega, by go_num, HST, hb1⟩
          case measure => simp [intOf]; omega
        · have HST : Hid (linksB ms = false) := hide (Ri.all_no (unhide HL) (show Ri.step R.zero okL R.ad ms j = false by rw [unhide HJ]; exact Ri.step_ge (by rw [← EJ]; omega)))
          clear EJ
          generalize ms.getD j R.zero = m at *
          generalize ms.getD i R.zero = m0 at *
          obtain ⟨ad, hd, sy, ci, co, wl⟩ := m
          obtain ⟨ad0, hd0, sy0, ci0, co0, wl0⟩ := m0
          dsimp only at hk
          go_wp2_with fail
          refine wp_region_noPanic ?_
          refine wp_region_held_drew (S := fun w' => (At w' g (off + j * 6) ⟨ad, hd, sy, ci, co, wl⟩ ∧ At w' g (off + i * 6) ⟨ad0, hd0, sy0, ci0, co0, wl0⟩) ∧ w'.cell? ⟨g, off + j * 6, none⟩ = some (.int .i64 ad) ∧ w'.cell? ⟨g, off + j * 6 + 1, none⟩ = some (.int .i64 hd) ∧ w'.cell? ⟨g, off + j * 6 + 2, none⟩ = some (.int .i64 sy) ∧ w'.cell? ⟨g, off + j * 6 + 3, none⟩ = some (.int .i64 ci) ∧ w'.cell? ⟨g, off + j * 6 + 4, none⟩ = some (.int .i64 co) ∧ w'.cell? ⟨g, off + j * 6 + 5, none⟩ = some (.int .i64 wl) ∧ w'.cell? ⟨g, off + i * 6, none⟩ = some (.int .i64 ad0)) (by kernel_rfl) (sTwo hA.drew hP.drew) (fun hHeld => ?_)
          refine Rg.t 0 13 ?_
          refine Rg.t 1 14 ?_
          refine Rg.t 2 15 ?_
          refine Rg.t 3 16 ?_
          (refine Rg.o 4 (fun K hK => ?_); go_simp)
          refine (l06Link ad hd sy ci co wl _).mono ?_
          rintro e w1 ⟨rfl, b1⟩
          rw [unhide HK]
          refine hK.out _ _ (sTwo (hA.drew.below b1) (hP.drew.below b1)) (fun hHeld => ?_)
          clear hK K
          (try simp only [Act.put, List.setIfInBounds_toArray, List.set_cons_zero, List.set_cons_succ])
          refine Rg.t 5 18 ?_
          refine Rg.t 6 19 ?_
          refine Rg.t 7 20 ?_
          refine Rg.t 8 21 ?_
          refine Rg.t 9 22 ?_
          refine Rg.t 10 23 ?_
          refine Rg.t 11 24 ?_
          refine Rg.t 12 25 ?_
          refine Rg.t 13 26 ?_
          refine Rg.t 14 27 ?_
          refine Rg.t 15 28 ?_
          refine Rg.t 16 29 ?_
          refine Rg.t 17 30 ?_
          refine Rg.t 18 31 ?_
          refine Rg.t 19 32 ?_
          refine Rg.t 20 33 ?_
          refine Rg.t 21 34 ?_
          refine Rg.t 22 35 ?_
          refine Rg.t 23 36 ?_
          refine wpAnyH_done (by kernel_rfl) (NoPanic.normal ?_) _
          have hb1 := hide ((unhide hbl).drew.trans (b1.mono (by show w.heap.size ≤ wr.heap.size; exact (unhide hbl).size)))
          go_wp2_with fail
          go_ret
          exact ⟨ret_bool (unhide HST).symm, unhide hb1⟩
    · obtain rfl : j = n := by omega
      have hok : linksB ms = true := by unfold linksB; rw [unhide HN]; exact unhide hrl
      have h8 := links_len hok
      have h8' : (j : Int) ≤ 8 := by have := unhide HN; omega
      have HO := hide hok
      clear hok h8
      go_wp2
      go_ret
      exact ⟨ret_bool (unhide HO).symm, unhide hbl⟩
end Ln
end Go.Proofs.YtfooahhdikobeaaGreat
namespace Go.Proofs.YtfooahhdikobeaaGreat
open Go.ChangeShapes Go.WideShapes Go.ChangeAt Go.RowKit
set_option linter.unusedVariables false
set_option linter.unusedSimpArgs false
attribute [local go_sem ↓] Go.wp_at_zero Go.wp_at_succ
namespace St
open W1 Tu
end St
end Go.Proofs.YtfooahhdikobeaaGreat
namespace Go.Proofs.YtfooahhdikobeaaGreat
open Go.ChangeShapes Go.WideShapes Go.ChangeAt Go.RowKit
set_option linter.unusedVariables false
set_option linter.unusedSimpArgs false
attribute [local go_sem ↓] Go.wp_at_zero Go.wp_at_succ
namespace St
open W1 Tu
theorem up_at {ms : List R} (h : setB ms = true) (k : Int) : ∀ i j, i < j → j < ms.length → atKey k (ms.getD i R.zero) = true → atKey k (ms.getD j R.zero) = true := by
  intro i j hij hj hi
  have := rises h j i hij hj
  unfold atKey at *
  exact decide_eq_true (by have := of_decide_eq_true hi; omega)
end St
end Go.Proofs.YtfooahhdikobeaaGreat
namespace Go.Proofs.YtfooahhdikobeaaGreat
open Go.ChangeShapes Go.WideShapes Go.ChangeAt Go.RowKit
set_option linter.unusedVariables false
set_option linter.unusedSimpArgs false
attribute [local go_sem ↓] Go.wp_at_zero Go.wp_at_succ
namespace St
open W1 Tu
theorem there_no {ms : List R} {k : Int} {p : Nat} (e : place ms k = p) (h : ms.length ≤ p) : thereB ms k = false := by unfold thereB; rw [e, decide_eq_false (by omega)]; rfl
theorem there_ne {ms : List R} {k : Int} {p : Nat} (e : place ms k = p) (h : ¬ (ms.getD p R.zero).key = k) : thereB ms k = false := by unfold thereB; rw [e, decide_eq_false h, Bool.and_false]
theorem there_yes {ms : List R} {k : Int} {p : Nat} (e : place ms k = p) (hl : p < ms.length) (h : (ms.getD p R.zero).key = k) : thereB ms k = true := by unfold thereB; rw [e, decide_eq_true hl, decide_eq_true h]; rfl
end St
end Go.Proofs.YtfooahhdikobeaaGreat
namespace Go.Proofs.YtfooahhdikobeaaGreat
open Go.ChangeShapes Go.WideShapes Go.ChangeAt Go.RowKit
set_option linter.unusedVariables false
set_option linter.unusedSimpArgs false
attribute [local go_sem ↓] Go.wp_at_zero Go.wp_at_succ
namespace St
open W1 Tu
theorem take_zero_off {w : World} {g off : Nat} {ms : List R} (h : RM w (some ⟨g, off, none⟩) ms) (n : Nat) : RM w (some ⟨g, off, none⟩) (ms.take n) := by
  have := h.part 0 n
  rw [List.drop_zero, Nat.zero_mul, Nat.add_zero] at this; exact this
theorem drop_off {w : World} {g off : Nat} {ms : List R} (h : RM w (some ⟨g, off, none⟩) ms) (i : Nat) : RM w (some ⟨g, off + i * 3, none⟩) (ms.drop i) := by
  have := h.part i ms.length
  rw [List.take_of_length_le (by simp)] at this; exact this
end St
end Go.Proofs.YtfooahhdikobeaaGreat
namespace Go.Proofs.YtfooahhdikobeaaGreat
open Go.ChangeShapes Go.WideShapes Go.ChangeAt Go.RowKit
set_option linter.unusedVariables false
set_option linter.unusedSimpArgs false
attribute [local go_sem ↓] Go.wp_at_zero Go.wp_at_succ
namespace St
open W1 Tu
theorem Upto.set {w : World} {g n p : Nat} {ms : List R} (x : R) (h : Upto w g n n ms) (hn : n = ms.length) (hp : p < n) : Upto (put w g (p * 3) x) g n n (ms.set p x) := by
  refine ⟨fun i hi => ?_, fun i hi => ⟨put_some _ _ _ _ _ _ (h.2 i hi).1, by rw [put_frozen]; exact (h.2 i hi).2⟩⟩
  by_cases e : i = p
  · subst e
    have : (ms.set i x).getD i R.zero = x := by rw [List.getD_eq_getElem?_getD, List.getElem?_set_self (by omega)]; rfl
    rw [this]
    exact put_at _ _ _ _ (fun k hk => (h.2 _ (by omega)).1)
  · have : (ms.set p x).getD i R.zero = ms.getD i R.zero := by rw [List.getD_eq_getElem?_getD, List.getD_eq_getElem?_getD, List.getElem?_set_ne (by omega)]
    rw [this]
    obtain ⟨h0, h1, h2⟩ := h.1 i (by omega)
    exact ⟨(put_far _ _ _ _ (by omega)).trans h0, (put_far _ _ _ _ (by omega)).trans h1, (put_far _ _ _ _ (by omega)).trans h2⟩
theorem set_parts (ms : List R) (p : Nat) (x : R) (h : p < ms.length) : ms.set p x = ms.take p ++ [x] ++ ms.drop (p + 1) := by
  rw [List.set_eq_take_append_cons_drop, if_pos h, List.append_assoc]; rfl
/-- The model's own copy, in a row that is there even if it is empty. -/
theorem l03OwnG (g off : Nat) (ms : List R) (cap n : Nat) (w : World) (hn : ms.length = n) (hm : ms.length ≤ 4096) (hr : RM w (some ⟨g, off, none⟩) ms) :
    Calls Tryz.prog 143 #[.slice (some ⟨g, off, none⟩) n cap] w fun e w' => ∃ b c, e = .returned (.slice (some ⟨b, 0, none⟩) n c) ∧ Below w.heap.size w w' ∧ w.heap.size ≤ b ∧ b < w'.heap.size ∧ n ≤ c ∧ c ≤ maxLen ∧ Upto w' b n n ms := by
  have HR := hide (hr.below ((Below.refl _ _).alloc (Nat.le_refl _) (.cells #[] 99)))
  have O0 := hide (own_empty w w.heap.size (Nat.le_refl _))
  have HN := hide hn
  clear hr hn
  obtain ⟨i0, hi, hz0, hz1, hz2⟩ := infoR
  have hm' : n ≤ 4096 := by rw [← unhide HN]; exact hm
  go_enter Tryz.func143, Tryz.ntmps143
  go_wp2_with (at_builtin; refine wpList_append_own _ rfl _ _ _ rfl w.heap.size 99 i0 _ 3 24 Tryz.underlying77 hi hz0 hz1 hz2 rfl (by decide) _ 0 (flat []) rfl (unhide O0) ⟨g, off, none⟩ n cap (flat ms) rfl (by rw [flat_len, unhide HN]) (unhide HR).cells (fun u hu => flat_one_cell hu) (by unfold maxLen; omega) (by omega) (by simp) ?_; intro v' w' ho hg hiff; have HO := hide ho; have HB := hide (below_own ((Below.refl _ _).alloc (Nat.le_refl _) _) (unhide O0) hg (Nat.le_refl _) (by simp)); have HI := hide hiff; clear ho hg hiff)
  go_ret
  have ho := unhide HO
  rw [Nat.zero_add, show flat [] ++ flat ms = flat ms from rfl] at ho
  obtain ⟨hl, ⟨e0, _⟩ | ⟨b, c, cur, e0, h1, h2, h3, h4, _, _⟩⟩ := (⟨ho.1, ho.2⟩ : _ ∧ _)
  · exact absurd ((unhide HI).1 e0).1 (fun h => by cases h)
  · subst e0
    have hlt : b < w'.heap.size := by
      rcases Nat.lt_or_ge b w'.heap.size with h | h
      · exact h
      · rw [Array.getElem?_eq_none h] at h2; cases h2
    exact ⟨_, _, rfl, unhide HB, h1, hlt, h3, h4, upto_own (unhide HN).symm ho⟩
theorem rm_grown {w w' : World} {b : Nat} {row : Option Nat} {ms : List R} (h : RM w (some ⟨b, 0, none⟩) ms) (hg : w.grownBy w' row) (hne : some b ≠ row) : RM w' (some ⟨b, 0, none⟩) ms := by
  rcases h with h | ⟨g, off, e, hc⟩
  · exact .inl h
  · cases e
    refine .inr ⟨_, _, rfl, fun i hi => ?_⟩
    obtain ⟨h0, h1, h2⟩ := hc i hi
    exact ⟨hg.cell h0 hne, hg.cell h1 hne, hg.cell h2 hne⟩
theorem sPut {w : World} {b : Nat} {key til val : Int} {g o : Nat} {m : R} (h : Bx w b ⟨key, til, val⟩) (h' : At w g o m) : Bx w b ⟨key, til, val⟩ ∧ w.cell? ⟨b, 0, none⟩ = some (.int .i64 key) ∧ w.cell? ⟨g, o, none⟩ = some (.int .i64 m.key) := ⟨h, h.1, h'.1⟩
end St
end Go.Proofs.YtfooahhdikobeaaGreat
namespace Go.Proofs.YtfooahhdikobeaaGreat
open Go.ChangeShapes Go.WideShapes Go.ChangeAt Go.RowKit
set_option linter.unusedVariables false
set_option linter.unusedSimpArgs false
attribute [local go_sem ↓] Go.wp_at_zero Go.wp_at_succ
namespace St
open W1 Tu
/-- What a slice of one's own looks like: its capacity, and where it lies. -/
def Shp (v : Value) : Prop := ∃ a n c, v = .slice a n c ∧ n ≤ c ∧ c ≤ maxLen ∧ (a = none ∨ ∃ g, a = some ⟨g, 0, none⟩)
theorem shp_nil : Shp (.slice none 0 0) := ⟨none, 0, 0, rfl, Nat.le_refl _, Nat.zero_le _, .inl rfl⟩
theorem shp_own {w : World} {base e size n : Nat} {v : Value} {xs : List Value} (h : w.ownsRow base e size v n xs) : Shp v := by
  obtain ⟨_, ⟨rfl, _⟩ | ⟨g, cap, cur, rfl, _, _, h1, h2, _, _⟩⟩ := h
  · exact shp_nil
  · exact ⟨_, _, _, rfl, h1, h2, .inr ⟨g, rfl⟩⟩
theorem Shp.at {a : Option Addr} {n c : Nat} (h : Shp (.slice a n c)) : n ≤ c ∧ c ≤ maxLen ∧ (a = none ∨ ∃ g, a = some ⟨g, 0, none⟩) := by
  obtain ⟨a', n', c', e, h⟩ := h
  cases e
  exact h
end St
end Go.Proofs.YtfooahhdikobeaaGreat
namespace Go.Proofs.YtfooahhdikobeaaGreat
open Go.ChangeShapes Go.WideShapes Go.ChangeAt Go.RowKit
set_option linter.unusedVariables false
set_option linter.unusedSimpArgs false
attribute [local go_sem ↓] Go.wp_at_zero Go.wp_at_succ
namespace St
open W1 Tu
set_option maxRecDepth 100000 in
set_option maxHeartbeats 8000000 in
theorem l03PutC (g off : Nat) (ms : List R) (cap : Nat) (key til val : Int) (w : World) (hm : ms.length ≤ 64) (hr : RM w (some ⟨g, off, none⟩) ms) :
    Calls Tryz.prog 114 #[.slice (some ⟨g, off, none⟩) ms.length cap, .agg #[.int .i64 key, .int .i64 til, .int .i64 val]] w fun e w' => ∃ v, e = .returned (.tuple #[v, .int .i64 (putC ms ⟨key, til, val⟩)]) ∧ Below w.heap.size w w' ∧ LstV w' v (putL ms ⟨key, til, val⟩) w.heap.size w'.heap.size ∧ Shp v := by
  have HR := hide hr
  have hl := placeP_le (atKey key) ms
  clear hr
  have HBA : Hid (Below w.heap.size w (w.alloc (.cells #[.int .i64 key, .int .i64 til, .int .i64 val] 99))) := hide ((Below.refl _ _).alloc (Nat.le_refl _) _)
  have X : Hid (Bx (w.alloc (.cells #[.int .i64 key, .int .i64 til, .int .i64 val] 99)) w.heap.size ⟨key, til, val⟩) := hide (by refine ⟨?_, ?_, ?_⟩ <;> simp [World.cell?_alloc_new])
  obtain ⟨p, hp⟩ : ∃ p, place ms key = p := ⟨_, rfl⟩
  have HP := hide hp
  rw [show placeP (atKey key) ms = p from hp] at hl
  clear hp
  obtain ⟨L, hL⟩ : ∃ L, putL ms ⟨key, til, val⟩ = L := ⟨_, rfl⟩
  obtain ⟨C, hC⟩ : ∃ C, putC ms ⟨key, til, val⟩ = C := ⟨_, rfl⟩
  have HLL := hide hL
  have HCC := hide hC
  rw [hL, hC]
  clear hL hC
  obtain ⟨n, hn⟩ : ∃ n, ms.length = n := ⟨_, rfl⟩
  have HN := hide hn
  rw [hn] at hl hm ⊢
  clear hn
  have k0 : (0 : Int) ≤ (p : Int) := by omega
  go_enter Tryz.func114, Tryz.ntmps114
  go_wp2_with fail
  refine (by have := l03Place (some ⟨g, off, none⟩) ms cap key _ (by rw [unhide HN]; omega) ((unhide HR).below (unhide HBA)); rw [unhide HN, unhide HP] at this; exact this : Calls Tryz.prog 125 #[.slice (some ⟨g, off, none⟩) n cap, .int .i64 key] _ _).mono ?_
  rintro e w1 ⟨rfl, hw1⟩
  have HW1 := hide hw1
  have X1 : Hid (Bx w1 w.heap.size ⟨key, til, val⟩) := hide (by rw [hw1]; exact unhide X)
  have HB1 : Hid (Below w.heap.size w w1) := hide (by rw [hw1]; exact unhide HBA)
  have hs1 : w.heap.size < w1.heap.size := by rw [hw1]; simp
  clear hw1 X HBA HW1
  go_wp2_with fail
  refine (l03OwnG g off ms cap n _ (unhide HN) (by rw [unhide HN]; omega) ((unhide HR).below (unhide HB1))).mono ?_
  rintro e w2 ⟨b, c, rfl, b2, hb1, hb2, hc1, hc2, u2⟩
  have HSC : Hid (Shp (.slice (some ⟨b, 0, none⟩) n c)) := hide ⟨_, _, _, rfl, hc1, hc2, .inr ⟨b, rfl⟩⟩
  have X2 := hide ((unhide X1).below b2)
  have U2 := hide u2
  have HB2 := hide ((unhide HB1).trans (b2.mono (unhide HB1).size))
  have hs2 := b2.size
  unfold maxLen at hc2
  clear u2 b2 X1 HB1
  by_cases hlt : (p : Int) < (n : Int)
  · have hlen : p < n := by omega
    have hA := (unhide U2).1 p hlen
    cases ht : thereB ms key
    · have hk : ¬ (ms.getD p R.zero).key = key := by
        intro e
        have := there_yes (unhide HP) (by rw [unhide HN]; exact hlen) e
        rw [ht] at this; cases this
      have HT := hide ht
      clear ht
      obtain ⟨z0, z1, z2⟩ := unhide X2
      dsimp only at z0 z1 z2
      generalize ms.getD p R.zero = m at *
      have hkb : (m.key == key) = false := by simpa using hk
      go_wp2_with fail
      refine wp_region_noPanic ?_
      refine wp_region_held_drew (S := fun w' => Bx w' w.heap.size ⟨key, til, val⟩ ∧ w'.cell? ⟨w.heap.size, 0, none⟩ = some (.int .i64 key) ∧ w'.cell? ⟨b, p * 3, none⟩ = some (.int .i64 m.key)) (by kernel_rfl) (sPut (unhide X2).drew hA.drew) (fun hHeld => ?_)
      refine Rg.t 0 14 ?_
      refine Rg.t 1 15 ?_
      refine Rg.t 2 16 ?_
      refine Rg.t 3 17 ?_
      refine Rg.t 4 18 ?_
      refine Rg.t 5 19 ?_
      refine Rg.t 6 20 ?_
      refine Rg.t 7 21 ?_
      refine Rg.t 8 22 ?_
      refine Rg.t 9 23 ?_
      refine Rg.t 10 24 ?_
      refine Rg.t 11 25 ?_
      refine Rg.t 12 26 ?_
      refine Rg.t 13 27 ?_
      refine wpAnyH_done (by kernel_rfl) (NoPanic.normal ?_) _
      clear hHeld hA hk hkb
      by_cases h64 : n = 64
      · have HE1 : Hid (L = ms) := hide (by rw [← unhide HLL]; unfold putL; rw [if_neg (by rw [unhide HT]; simp), if_pos (by rw [unhide HN]; exact h64)])
        have HE2 : Hid (C = 7) := hide (by rw [← unhide HCC]; unfold putC; rw [if_neg (by rw [unhide HT]; simp), if_pos (by rw [unhide HN]; exact h64)])
        have HLst : Hid (LstV w2.drew (.slice (some ⟨b, 0, none⟩) n c) ms w.heap.size w2.drew.heap.size) := hide ⟨_, c, by rw [unhide HN], .inr ⟨b, rfl, by omega, hb2, hb2, by rw [unhide HN]; exact unhide U2⟩⟩
        have hnb : ((n : Int) == 64) = true := by simp; omega
        subst h64
        go_wp2_with fail
        go_ret2
        rw [unhide HE1, unhide HE2]
        exact ⟨_, rfl, (unhide HB2).drew, unhide HLst, unhide HSC⟩
      · have HE1 : Hid (L = (([] ++ ms.take p) ++ [⟨key, til, val⟩]) ++ ms.drop p) := hide (by rw [← unhide HLL]; unfold putL; rw [if_neg (by rw [unhide HT]; simp), if_neg (by rw [unhide HN]; exact h64), unhide HP, List.nil_append])
        have HE2 : Hid (C = 0) := hide (by rw [← unhide HCC]; unfold putC; rw [if_neg (by rw [unhide HT]; simp), if_neg (by rw [unhide HN]; exact h64)])
        have hnb : ((n : Int) == 64) = false := by simp; omega
        have hn64 : ¬ (n : Int) = 64 := by omega
        have p1 : (p : Int) ≤ (c : Int) := by omega
        have p2 : (p : Int) ≤ (n : Int) := by omega
        have c1 : (n : Int) ≤ (c : Int) := by omega
        have lt1 : Hid ((ms.take p).length = p) := hide (by rw [List.length_take, unhide HN]; omega)
        have ld1 : Hid ((ms.drop p).length = n - p) := hide (by rw [List.length_drop, unhide HN])
        have HD : Hid (∀ W, RM W (some ⟨b, 0, none⟩) ms → RM W (some ⟨b, if c = p then 0 else p * 3, none⟩) (ms.drop p)) := hide (fun W h => by
          split
          · exact .inl (List.drop_eq_nil_of_le (by rw [unhide HN]; omega))
          · have := drop_off h p; rw [Nat.zero_add] at this; exact this)
        have RO : Hid (RM w2 (some ⟨b, 0, none⟩) ms) := hide (rm_of (n := n) (by rw [unhide HN]; exact unhide U2))
        have HV : Hid (Below w2.heap.size w2 w2.drew.drew) := hide ((Below.refl _ _).drew.drew)
        have hcp : ¬ c = p := by omega
        rw [if_neg hcp] at HD
        go_wp2_with fail
        refine wp_region_noPanic ?_
        refine wp_region_held_drew (S := fun w' => Bx w' w.heap.size ⟨key, til, val⟩ ∧ w'.cell? ⟨w.heap.size, 0, none⟩ = some (.int .i64 key) ∧ w'.cell? ⟨w.heap.size, 1, none⟩ = some (.int .i64 til) ∧ w'.cell? ⟨w.heap.size, 2, none⟩ = some (.int .i64 val)) (by kernel_rfl) (sBox (unhide X2).drew) (fun hHeld => ?_)
        refine Rg.t 1 38 ?_
        refine Rg.t 2 39 ?_
        refine Rg.t 3 40 ?_
        refine Rg.t 5 42 ?_
        refine Rg.t 8 45 ?_
        refine Rg.t 9 46 ?_
        refine Rg.t 10 47 ?_
        generalize hV : w2.drew.drew = V at *
        clear hV
        have XV := hide ((unhide X2).below (unhide HV))
        have hVs := (unhide HV).size
        (refine wpAnyH_ready (rs := [0, 6]) (by kernel_rfl) (by simp) ?_; refine AllReadyH.cons (o := _) rfl (fun K hK => ?_) (AllReadyH.cons (o := _) rfl (fun K hK => ?_) AllReadyH.nil))
        · go_simp
          have HV1 := hide ((unhide HV).alloc (unhide HV).size (.cells #[] 99))
          have O0 := hide (own_empty V w2.heap.size hVs)
          have X1 := hide ((unhide X2).below (unhide HV1))
          refine hK.out _ _ (sBox (unhide X1)) (fun hHeld => ?_)
          clear hK K
          (try simp only [Act.put, List.setIfInBounds_toArray, List.set_cons_zero, List.set_cons_succ])
          (refine wpAnyH_ready (rs := [4, 6]) (by kernel_rfl) (by simp) ?_; refine AllReadyH.cons (o := _) rfl (fun K hK => ?_) (AllReadyH.cons (o := _) rfl (fun K hK => ?_) AllReadyH.nil))
          · rw [if_pos (by rfl)]
            refine wp_apS (unhide O0) b 0 p c (ms.take p) (unhide lt1) (take_zero_off ((unhide RO).below (unhide HV1)) p) (by rw [unhide lt1]; simp; omega) (unhide HV1).size _ _ rfl rfl rfl rfl ?_
            intro v4 w4 o4 g4
            have O4 := hide o4
            have HV4 := hide (below_own (unhide HV1) (unhide O0) g4 (Nat.le_refl _) (unhide HV1).size)
            have X4 := hide ((unhide X2).below (unhide HV4))
            clear o4 g4
            refine hK.out _ _ (sBox (unhide X4)) (fun hHeld => ?_)
            clear hK K
            (try simp only [Act.put, List.setIfInBounds_toArray, List.set_cons_zero, List.set_cons_succ])
            (refine Rg.o 6 (fun K hK => ?_); go_simp)
            have HV6 := hide ((unhide HV4).alloc (unhide HV4).size (.cells #[.int .i64 key, .int .i64 til, .int .i64 val] 99))
            have O6 := hide ((unhide O4).alloc (.cells #[.int .i64 key, .int .i64 til, .int .i64 val] 99))
            have RX := hide (rm_new w4 ⟨key, til, val⟩)
            have X6 := hide ((unhide X2).below (unhide HV6))
            refine hK.out _ _ (sBox (unhide X6)) (fun hHeld => ?_)
            clear hK K
            (try simp only [Act.put, List.setIfInBounds_toArray, List.set_cons_zero, List.set_cons_succ])
            (refine Rg.o 7 (fun K hK => ?_); rw [if_pos (by rfl)])
            refine wp_apS (unhide O6) _ 0 1 1 [⟨key, til, val⟩] rfl (unhide RX) (by simp only [List.nil_append, List.length_cons, List.length_nil]; rw [unhide lt1]; omega) (unhide HV6).size _ _ rfl rfl rfl rfl ?_
            intro v7 w7 o7 g7
            have O7 := hide o7
            have HV7 := hide (below_own (unhide HV6) (unhide O6) g7 (Nat.le_refl _) (unhide HV6).size)
            have X7 := hide ((unhide X2).below (unhide HV7))
            clear o7 g7
            refine hK.out _ _ (sBox (unhide X7)) (fun hHeld => ?_)
            clear hK K
            (try simp only [Act.put, List.setIfInBounds_toArray, List.set_cons_zero, List.set_cons_succ])
            (refine Rg.o 11 (fun K hK => ?_); rw [if_pos (by rfl)])
            refine wp_apS (unhide O7) b _ _ _ (ms.drop _) (unhide ld1) (unhide HD _ ((unhide RO).below (unhide HV7))) (by simp only [List.nil_append, List.length_append, List.length_cons, List.length_nil]; rw [unhide ld1, unhide lt1]; omega) (unhide HV7).size _ _ rfl rfl rfl rfl ?_
            intro v8 w8 o8 g8
            have HV8 := hide (below_own (unhide HV7) (unhide O7) g8 (Nat.le_refl _) (unhide HV7).size)
            have X8 := hide ((unhide X2).below (unhide HV8))
            have l8 := (lst_own rfl o8).mono (lo' := w.heap.size) (hi' := w8.heap.size) (by omega) (Nat.le_refl _)
            have HSH := hide (shp_own o8)
            rw [← unhide HE1] at l8
            have HL8 := hide l8
            clear o8 g8 l8
            refine hK.out _ _ (sBox (unhide X8)) (fun hHeld => ?_)
            clear hK K
            (try simp only [Act.put, List.setIfInBounds_toArray, List.set_cons_zero, List.set_cons_succ])
            refine Rg.t 12 4 ?_
            refine Rg.t 13 5 ?_
            refine wpAnyH_done (by kernel_rfl) (NoPanic.normal ?_) _
            have HBF := hide ((unhide HB2).trans ((unhide HV8).mono (unhide HB2).size))
            clear hHeld
            go_wp2_with fail
            go_ret2
            rw [unhide HE2]
            exact ⟨_, rfl, unhide HBF, unhide HL8, unhide HSH⟩
          · go_simp
            have HV5 := hide ((unhide HV1).alloc (unhide HV1).size (.cells #[.int .i64 key, .int .i64 til, .int .i64 val] 99))
            have O5 := hide ((unhide O0).alloc (.cells #[.int .i64 key, .int .i64 til, .int .i64 val] 99))
            have RX0 := rm_new (V.alloc (.cells #[] 99)) ⟨key, til, val⟩
            simp only [World.size_alloc] at RX0
            have X5 := hide ((unhide X2).below (unhide HV5))
            have RX5 := hide RX0
            clear RX0
            refine hK.out _ _ (sBox (unhide X5)) (fun hHeld => ?_)
            clear hK K
            (try simp only [Act.put, List.setIfInBounds_toArray, List.set_cons_zero, List.set_cons_succ])
            (refine Rg.o 4 (fun K hK => ?_); rw [if_pos (by rfl)])
            refine wp_apS (unhide O5) b 0 p c (ms.take p) (unhide lt1) (take_zero_off ((unhide RO).below (unhide HV5)) p) (by rw [unhide lt1]; simp; omega) (unhide HV5).size _ _ rfl rfl rfl rfl ?_
            intro v4 w4 o4 g4
            have O6 := hide o4
            have HV6 := hide (below_own (unhide HV5) (unhide O5) g4 (Nat.le_refl _) (unhide HV5).size)
            have RX := hide (rm_grown (unhide RX5) g4 (by simp [Value.ownBlock]))
            have X6 := hide ((unhide X2).below (unhide HV6))
            clear o4 g4
            refine hK.out _ _ (sBox (unhide X6)) (fun hHeld => ?_)
            clear hK K
            (try simp only [Act.put, List.setIfInBounds_toArray, List.set_cons_zero, List.set_cons_succ])
            (refine Rg.o 7 (fun K hK => ?_); rw [if_pos (by rfl)])
            refine wp_apS (unhide O6) _ 0 1 1 [⟨key, til, val⟩] rfl (unhide RX) (by simp only [List.nil_append, List.length_cons, List.length_nil]; rw [unhide lt1]; omega) (unhide HV6).size _ _ rfl rfl rfl rfl ?_
            intro v7 w7 o7 g7
            have O7 := hide o7
            have HV7 := hide (below_own (unhide HV6) (unhide O6) g7 (Nat.le_refl _) (unhide HV6).size)
            have X7 := hide ((unhide X2).below (unhide HV7))
            clear o7 g7
            refine hK.out _ _ (sBox (unhide X7)) (fun hHeld => ?_)
            clear hK K
            (try simp only [Act.put, List.setIfInBounds_toArray, List.set_cons_zero, List.set_cons_succ])
            (refine Rg.o 11 (fun K hK => ?_); rw [if_pos (by rfl)])
            refine wp_apS (unhide O7) b _ _ _ (ms.drop _) (unhide ld1) (unhide HD _ ((unhide RO).below (unhide HV7))) (by simp only [List.nil_append, List.length_append, List.length_cons, List.length_nil]; rw [unhide ld1, unhide lt1]; omega) (unhide HV7).size _ _ rfl rfl rfl rfl ?_
            intro v8 w8 o8 g8
            have HV8 := hide (below_own (unhide HV7) (unhide O7) g8 (Nat.le_refl _) (unhide HV7).size)
            have X8 := hide ((unhide X2).below (unhide HV8))
            have l8 := (lst_own rfl o8).mono (lo' := w.heap.size) (hi' := w8.heap.size) (by omega) (Nat.le_refl _)
            have HSH := hide (shp_own o8)
            rw [← unhide HE1] at l8
            have HL8 := hide l8
            clear o8 g8 l8
            refine hK.out _ _ (sBox (unhide X8)) (fun hHeld => ?_)
            clear hK K
            (try simp only [Act.put, List.setIfInBounds_toArray, List.set_cons_zero, List.set_cons_succ])
            refine Rg.t 12 4 ?_
            refine Rg.t 13 5 ?_
            refine wpAnyH_done (by kernel_rfl) (NoPanic.normal ?_) _
            have HBF := hide ((unhide HB2).trans ((unhide HV8).mono (unhide HB2).size))
            clear hHeld
            go_wp2_with fail
            go_ret2
            rw [unhide HE2]
            exact ⟨_, rfl, unhide HBF, unhide HL8, unhide HSH⟩
        · go_simp
          have HV1 := hide ((unhide HV).alloc (unhide HV).size (.cells #[.int .i64 key, .int .i64 til, .int .i64 val] 99))
          have RX1 := hide (rm_new V ⟨key, til, val⟩)
          have X1 := hide ((unhide X2).below (unhide HV1))
          refine hK.out _ _ (sBox (unhide X1)) (fun hHeld => ?_)
          clear hK K
          (try simp only [Act.put, List.setIfInBounds_toArray, List.set_cons_zero, List.set_cons_succ])
          (refine Rg.o 0 (fun K hK => ?_); go_simp)
          have HV5 := hide ((unhide HV1).alloc (unhide HV1).size (.cells #[] 99))
          have O50 := own_empty (V.alloc (.cells #[.int .i64 key, .int .i64 til, .int .i64 val] 99)) w2.heap.size (unhide HV1).size
          simp only [World.size_alloc] at O50
          have O5 := hide O50
          clear O50
          have X5 := hide ((unhide X2).below (unhide HV5))
          have RX5 := hide ((unhide RX1).below ((Below.refl _ _).alloc (Nat.le_refl _) (.cells #[] 99)))
          refine hK.out _ _ (sBox (unhide X5)) (fun hHeld => ?_)
          clear hK K
          (try simp only [Act.put, List.setIfInBounds_toArray, List.set_cons_zero, List.set_cons_succ])
          (refine Rg.o 4 (fun K hK => ?_); rw [if_pos (by rfl)])
          refine wp_apS (unhide O5) b 0 p c (ms.take p) (unhide lt1) (take_zero_off ((unhide RO).below (unhide HV5)) p) (by rw [unhide lt1]; simp; omega) (unhide HV5).size _ _ rfl rfl rfl rfl ?_
          intro v4 w4 o4 g4
          have O6 := hide o4
          have HV6 := hide (below_own (unhide HV5) (unhide O5) g4 (Nat.le_refl _) (unhide HV5).size)
          have RX := hide (rm_grown (unhide RX5) g4 (by simp [Value.ownBlock]))
          have X6 := hide ((unhide X2).below (unhide HV6))
          clear o4 g4
          refine hK.out _ _ (sBox (unhide X6)) (fun hHeld => ?_)
          clear hK K
          (try simp only [Act.put, List.setIfInBounds_toArray, List.set_cons_zero, List.set_cons_succ])
          (refine Rg.o 7 (fun K hK => ?_); rw [if_pos (by rfl)])
          refine wp_apS (unhide O6) _ 0 1 1 [⟨key, til, val⟩] rfl (unhide RX) (by simp only [List.nil_append, List.length_cons, List.length_nil]; rw [unhide lt1]; omega) (unhide HV6).size _ _ rfl rfl rfl rfl ?_
          intro v7 w7 o7 g7
          have O7 := hide o7
          have HV7 := hide (below_own (unhide HV6) (unhide O6) g7 (Nat.le_refl _) (unhide HV6).size)
          have X7 := hide ((unhide X2).below (unhide HV7))
          clear o7 g7
          refine hK.out _ _ (sBox (unhide X7)) (fun hHeld => ?_)
          clear hK K
          (try simp only [Act.put, List.setIfInBounds_toArray, List.set_cons_zero, List.set_cons_succ])
          (refine Rg.o 11 (fun K hK => ?_); rw [if_pos (by rfl)])
          refine wp_apS (unhide O7) b _ _ _ (ms.drop _) (unhide ld1) (unhide HD _ ((unhide RO).below (unhide HV7))) (by simp only [List.nil_append, List.length_append, List.length_cons, List.length_nil]; rw [unhide ld1, unhide lt1]; omega) (unhide HV7).size _ _ rfl rfl rfl rfl ?_
          intro v8 w8 o8 g8
          have HV8 := hide (below_own (unhide HV7) (unhide O7) g8 (Nat.le_refl _) (unhide HV7).size)
          have X8 := hide ((unhide X2).below (unhide HV8))
          have l8 := (lst_own rfl o8).mono (lo' := w.heap.size) (hi' := w8.heap.size) (by omega) (Nat.le_refl _)
          have HSH := hide (shp_own o8)
          rw [← unhide HE1] at l8
          have HL8 := hide l8
          clear o8 g8 l8
          refine hK.out _ _ (sBox (unhide X8)) (fun hHeld => ?_)
          clear hK K
          (try simp only [Act.put, List.setIfInBounds_toArray, List.set_cons_zero, List.set_cons_succ])
          refine Rg.t 12 4 ?_
          refine Rg.t 13 5 ?_
          refine wpAnyH_done (by kernel_rfl) (NoPanic.normal ?_) _
          have HBF := hide ((unhide HB2).trans ((unhide HV8).mono (unhide HB2).size))
          clear hHeld
          go_wp2_with fail
          go_ret2
          rw [unhide HE2]
          exact ⟨_, rfl, unhide HBF, unhide HL8, unhide HSH⟩
    · have hk : (ms.getD p R.zero).key = key := by
        have h := ht
        unfold thereB at h; rw [unhide HP] at h
        rw [Bool.and_eq_true] at h
        exact of_decide_eq_true h.2
      have HE1 : Hid (L = ms.set p ⟨key, til, val⟩) := hide (by rw [← unhide HLL, set_parts _ _ _ (by rw [unhide HN]; exact hlen)]; unfold putL; rw [if_pos ht, unhide HP])
      have HE2 : Hid (C = 0) := hide (by rw [← unhide HCC]; unfold putC; rw [if_pos ht])
      have US := Upto.set (w := w2.drew) ⟨key, til, val⟩ (unhide U2) (unhide HN).symm hlen
      have hps : (put w2.drew b (p * 3) ⟨key, til, val⟩).heap.size = w2.heap.size := put_size _ _ _ _
      have HLst : Hid (LstV (put w2.drew b (p * 3) ⟨key, til, val⟩) (.slice (some ⟨b, 0, none⟩) n c) (ms.set p ⟨key, til, val⟩) w.heap.size (put w2.drew b (p * 3) ⟨key, til, val⟩).heap.size) := hide ⟨_, c, by rw [List.length_set, unhide HN], .inr ⟨b, rfl, by omega, by rw [hps]; exact hb2, by rw [hps]; exact hb2, by rw [List.length_set, unhide HN]; exact US⟩⟩
      have HBP : Hid (Below w.heap.size w (put w2.drew b (p * 3) ⟨key, til, val⟩)) := hide (put_below (unhide HB2).drew (by omega))
      obtain ⟨v0, x0⟩ := Option.isSome_iff_exists.1 ((unhide U2).2 (p * 3) (by omega)).1
      obtain ⟨v1, x1⟩ := Option.isSome_iff_exists.1 ((unhide U2).2 (p * 3 + 1) (by omega)).1
      obtain ⟨v2, x2⟩ := Option.isSome_iff_exists.1 ((unhide U2).2 (p * 3 + 2) (by omega)).1
      have y0 := ((unhide U2).2 (p * 3) (by omega)).2
      have y1 := ((unhide U2).2 (p * 3 + 1) (by omega)).2
      have y2 := ((unhide U2).2 (p * 3 + 2) (by omega)).2
      obtain ⟨z0, z1, z2⟩ := unhide X2
      dsimp only at z0 z1 z2
      generalize ms.getD p R.zero = m at *
      obtain ⟨mk, mt, mv⟩ := m
      dsimp only at hk
      subst hk
      clear US hps
      go_wp2_with fail
      refine wp_region_noPanic ?_
      refine wp_region_held_drew (S := fun w' => Bx w' w.heap.size ⟨mk, til, val⟩ ∧ w'.cell? ⟨w.heap.size, 0, none⟩ = some (.int .i64 mk) ∧ w'.cell? ⟨b, p * 3, none⟩ = some (.int .i64 mk)) (by kernel_rfl) (sPut (unhide X2).drew hA.drew) (fun hHeld => ?_)
      refine Rg.t 0 14 ?_
      refine Rg.t 1 15 ?_
      refine Rg.t 2 16 ?_
      refine Rg.t 3 17 ?_
      refine Rg.t 4 18 ?_
      refine Rg.t 5 19 ?_
      refine Rg.t 6 20 ?_
      refine Rg.t 7 21 ?_
      refine Rg.t 8 22 ?_
      refine Rg.t 9 23 ?_
      refine Rg.t 10 24 ?_
      refine Rg.t 11 25 ?_
      refine Rg.t 12 26 ?_
      refine Rg.t 13 27 ?_
      refine wpAnyH_done (by kernel_rfl) (NoPanic.normal ?_) _
      clear hHeld hA
      go_wp2_with fail
      go_ret2
      rw [unhide HE1, unhide HE2]
      exact ⟨_, rfl, unhide HBP, unhide HLst, unhide HSC⟩
  · obtain rfl : n = p := by omega
    have HT := hide (there_no (unhide HP) (by rw [unhide HN]; exact Nat.le_refl _))
    obtain ⟨z0, z1, z2⟩ := unhide X2
    dsimp only at z0 z1 z2
    go_wp2_with fail
    refine wp_region_noPanic ?_
    refine wp_region_held_drew (S := fun w' => True) (by kernel_rfl) trivial (fun hHeld => ?_)
    refine Rg.t 0 14 ?_
    refine Rg.t 1 15 ?_
    refine Rg.t 2 16 ?_
    refine Rg.t 3 17 ?_
    refine Rg.t 4 18 ?_
    refine Rg.s 5 19 ?_
    refine Rg.s 6 20 ?_
    refine Rg.s 7 21 ?_
    refine Rg.s 8 22 ?_
    refine Rg.s 9 23 ?_
    refine Rg.s 10 24 ?_
    refine Rg.s 11 25 ?_
    refine Rg.s 12 26 ?_
    refine Rg.t 13 27 ?_
    refine wpAnyH_done (by kernel_rfl) (NoPanic.normal ?_) _
    clear hHeld
    by_cases h64 : n = 64
    · have HE1 : Hid (L = ms) := hide (by rw [← unhide HLL]; unfold putL; rw [if_neg (by rw [unhide HT]; simp), if_pos (by rw [unhide HN]; exact h64)])
      have HE2 : Hid (C = 7) := hide (by rw [← unhide HCC]; unfold putC; rw [if_neg (by rw [unhide HT]; simp), if_pos (by rw [unhide HN]; exact h64)])
      have HLst : Hid (LstV w2.drew (.slice (some ⟨b, 0, none⟩) n c) ms w.heap.size w2.drew.heap.size) := hide ⟨_, c, by rw [unhide HN], .inr ⟨b, rfl, by omega, hb2, hb2, by rw [unhide HN]; exact unhide U2⟩⟩
      have hnb : ((n : Int) == 64) = true := by simp; omega
      subst h64
      go_wp2_with fail
      go_ret2
      rw [unhide HE1, unhide HE2]
      exact ⟨_, rfl, (unhide HB2).drew, unhide HLst, unhide HSC⟩
    · have HE1 : Hid (L = (([] ++ ms.take n) ++ [⟨key, til, val⟩]) ++ ms.drop n) := hide (by rw [← unhide HLL]; unfold putL; rw [if_neg (by rw [unhide HT]; simp), if_neg (by rw [unhide HN]; exact h64), unhide HP, List.nil_append])
      have HE2 : Hid (C = 0) := hide (by rw [← unhide HCC]; unfold putC; rw [if_neg (by rw [unhide HT]; simp), if_neg (by rw [unhide HN]; exact h64)])
      have hnb : ((n : Int) == 64) = false := by simp; omega
      have hn64 : ¬ (n : Int) = 64 := by omega
      have p1 : (n : Int) ≤ (c : Int) := by omega
      have p2 : (n : Int) ≤ (n : Int) := by omega
      have c1 : (n : Int) ≤ (c : Int) := by omega
      have lt1 : Hid ((ms.take n).length = n) := hide (by rw [List.length_take, unhide HN]; omega)
      have ld1 : Hid ((ms.drop n).length = n - n) := hide (by rw [List.length_drop, unhide HN])
      have HD : Hid (∀ W, RM W (some ⟨b, 0, none⟩) ms → RM W (some ⟨b, if c = n then 0 else n * 3, none⟩) (ms.drop n)) := hide (fun W h => by
        split
        · exact .inl (List.drop_eq_nil_of_le (by rw [unhide HN]; omega))
        · have := drop_off h n; rw [Nat.zero_add] at this; exact this)
      have RO : Hid (RM w2 (some ⟨b, 0, none⟩) ms) := hide (rm_of (n := n) (by rw [unhide HN]; exact unhide U2))
      have HV : Hid (Below w2.heap.size w2 w2.drew.drew) := hide ((Below.refl _ _).drew.drew)
      by_cases hcp : c = n
      · rw [if_pos hcp] at HD
        simp only [Nat.sub_self] at ld1
        subst hcp
        go_wp2_with fail
        refine wp_region_noPanic ?_
        refine wp_region_held_drew (S := fun w' => Bx w' w.heap.size ⟨key, til, val⟩ ∧ w'.cell? ⟨w.heap.size, 0, none⟩ = some (.int .i64 key) ∧ w'.cell? ⟨w.heap.size, 1, none⟩ = some (.int .i64 til) ∧ w'.cell? ⟨w.heap.size, 2, none⟩ = some (.int .i64 val)) (by kernel_rfl) (sBox (unhide X2).drew) (fun hHeld => ?_)
        refine Rg.t 1 38 ?_
        refine Rg.t 2 39 ?_
        refine Rg.t 3 40 ?_
        refine Rg.t 5 42 ?_
        refine Rg.t 8 45 ?_
        refine Rg.t 9 46 ?_
        refine Rg.t 10 47 ?_
        generalize hV : w2.drew.drew = V at *
        clear hV
        have XV := hide ((unhide X2).below (unhide HV))
        have hVs := (unhide HV).size
        (refine wpAnyH_ready (rs := [0, 6]) (by kernel_rfl) (by simp) ?_; refine AllReadyH.cons (o := _) rfl (fun K hK => ?_) (AllReadyH.cons (o := _) rfl (fun K hK => ?_) AllReadyH.nil))
        · go_simp
          have HV1 := hide ((unhide HV).alloc (unhide HV).size (.cells #[] 99))
          have O0 := hide (own_empty V w2.heap.size hVs)
          have X1 := hide ((unhide X2).below (unhide HV1))
          refine hK.out _ _ (sBox (unhide X1)) (fun hHeld => ?_)
          clear hK K
          (try simp only [Act.put, List.setIfInBounds_toArray, List.set_cons_zero, List.set_cons_succ])
          (refine wpAnyH_ready (rs := [4, 6]) (by kernel_rfl) (by simp) ?_; refine AllReadyH.cons (o := _) rfl (fun K hK => ?_) (AllReadyH.cons (o := _) rfl (fun K hK => ?_) AllReadyH.nil))
          · rw [if_pos (by rfl)]
            refine wp_apS (unhide O0) b 0 c c (ms.take c) (unhide lt1) (take_zero_off ((unhide RO).below (unhide HV1)) c) (by rw [unhide lt1]; simp; omega) (unhide HV1).size _ _ rfl rfl rfl rfl ?_
            intro v4 w4 o4 g4
            have O4 := hide o4
            have HV4 := hide (below_own (unhide HV1) (unhide O0) g4 (Nat.le_refl _) (unhide HV1).size)
            have X4 := hide ((unhide X2).below (unhide HV4))
            clear o4 g4
            refine hK.out _ _ (sBox (unhide X4)) (fun hHeld => ?_)
            clear hK K
            (try simp only [Act.put, List.setIfInBounds_toArray, List.set_cons_zero, List.set_cons_succ])
            (refine Rg.o 6 (fun K hK => ?_); go_simp)
            have HV6 := hide ((unhide HV4).alloc (unhide HV4).size (.cells #[.int .i64 key, .int .i64 til, .int .i64 val] 99))
            have O6 := hide ((unhide O4).alloc (.cells #[.int .i64 key, .int .i64 til, .int .i64 val] 99))
            have RX := hide (rm_new w4 ⟨key, til, val⟩)
            have X6 := hide ((unhide X2).below (unhide HV6))
            refine hK.out _ _ (sBox (unhide X6)) (fun hHeld => ?_)
            clear hK K
            (try simp only [Act.put, List.setIfInBounds_toArray, List.set_cons_zero, List.set_cons_succ])
            (refine Rg.o 7 (fun K hK => ?_); rw [if_pos (by rfl)])
            refine wp_apS (unhide O6) _ 0 1 1 [⟨key, til, val⟩] rfl (unhide RX) (by simp only [List.nil_append, List.length_cons, List.length_nil]; rw [unhide lt1]; omega) (unhide HV6).size _ _ rfl rfl rfl rfl ?_
            intro v7 w7 o7 g7
            have O7 := hide o7
            have HV7 := hide (below_own (unhide HV6) (unhide O6) g7 (Nat.le_refl _) (unhide HV6).size)
            have X7 := hide ((unhide X2).below (unhide HV7))
            clear o7 g7
            refine hK.out _ _ (sBox (unhide X7)) (fun hHeld => ?_)
            clear hK K
            (try simp only [Act.put, List.setIfInBounds_toArray, List.set_cons_zero, List.set_cons_succ])
            (refine Rg.o 11 (fun K hK => ?_); rw [if_pos (by rfl)])
            refine wp_apS (unhide O7) b _ _ _ (ms.drop _) (unhide ld1) (unhide HD _ ((unhide RO).below (unhide HV7))) (by simp only [List.nil_append, List.length_append, List.length_cons, List.length_nil]; rw [unhide ld1, unhide lt1]; omega) (unhide HV7).size _ _ rfl rfl rfl rfl ?_
            intro v8 w8 o8 g8
            have HV8 := hide (below_own (unhide HV7) (unhide O7) g8 (Nat.le_refl _) (unhide HV7).size)
            have X8 := hide ((unhide X2).below (unhide HV8))
            have l8 := (lst_own rfl o8).mono (lo' := w.heap.size) (hi' := w8.heap.size) (by omega) (Nat.le_refl _)
            have HSH := hide (shp_own o8)
            rw [← unhide HE1] at l8
            have HL8 := hide l8
            clear o8 g8 l8
            refine hK.out _ _ (sBox (unhide X8)) (fun hHeld => ?_)
            clear hK K
            (try simp only [Act.put, List.setIfInBounds_toArray, List.set_cons_zero, List.set_cons_succ])
            refine Rg.t 12 4 ?_
            refine Rg.t 13 5 ?_
            refine wpAnyH_done (by kernel_rfl) (NoPanic.normal ?_) _
            have HBF := hide ((unhide HB2).trans ((unhide HV8).mono (unhide HB2).size))
            clear hHeld
            go_wp2_with fail
            go_ret2
            rw [unhide HE2]
            exact ⟨_, rfl, unhide HBF, unhide HL8, unhide HSH⟩
          · go_simp
            have HV5 := hide ((unhide HV1).alloc (unhide HV1).size (.cells #[.int .i64 key, .int .i64 til, .int .i64 val] 99))
            have O5 := hide ((unhide O0).alloc (.cells #[.int .i64 key, .int .i64 til, .int .i64 val] 99))
            have RX0 := rm_new (V.alloc (.cells #[] 99)) ⟨key, til, val⟩
            simp only [World.size_alloc] at RX0
            have X5 := hide ((unhide X2).below (unhide HV5))
            have RX5 := hide RX0
            clear RX0
            refine hK.out _ _ (sBox (unhide X5)) (fun hHeld => ?_)
            clear hK K
            (try simp only [Act.put, List.setIfInBounds_toArray, List.set_cons_zero, List.set_cons_succ])
            (refine Rg.o 4 (fun K hK => ?_); rw [if_pos (by rfl)])
            refine wp_apS (unhide O5) b 0 c c (ms.take c) (unhide lt1) (take_zero_off ((unhide RO).below (unhide HV5)) c) (by rw [unhide lt1]; simp; omega) (unhide HV5).size _ _ rfl rfl rfl rfl ?_
            intro v4 w4 o4 g4
            have O6 := hide o4
            have HV6 := hide (below_own (unhide HV5) (unhide O5) g4 (Nat.le_refl _) (unhide HV5).size)
            have RX := hide (rm_grown (unhide RX5) g4 (by simp [Value.ownBlock]))
            have X6 := hide ((unhide X2).below (unhide HV6))
            clear o4 g4
            refine hK.out _ _ (sBox (unhide X6)) (fun hHeld => ?_)
            clear hK K
            (try simp only [Act.put, List.setIfInBounds_toArray, List.set_cons_zero, List.set_cons_succ])
            (refine Rg.o 7 (fun K hK => ?_); rw [if_pos (by rfl)])
            refine wp_apS (unhide O6) _ 0 1 1 [⟨key, til, val⟩] rfl (unhide RX) (by simp only [List.nil_append, List.length_cons, List.length_nil]; rw [unhide lt1]; omega) (unhide HV6).size _ _ rfl rfl rfl rfl ?_
            intro v7 w7 o7 g7
            have O7 := hide o7
            have HV7 := hide (below_own (unhide HV6) (unhide O6) g7 (Nat.le_refl _) (unhide HV6).size)
            have X7 := hide ((unhide X2).below (unhide HV7))
            clear o7 g7
            refine hK.out _ _ (sBox (unhide X7)) (fun hHeld => ?_)
            clear hK K
            (try simp only [Act.put, List.setIfInBounds_toArray, List.set_cons_zero, List.set_cons_succ])
            (refine Rg.o 11 (fun K hK => ?_); rw [if_pos (by rfl)])
            refine wp_apS (unhide O7) b _ _ _ (ms.drop _) (unhide ld1) (unhide HD _ ((unhide RO).below (unhide HV7))) (by simp only [List.nil_append, List.length_append, List.length_cons, List.length_nil]; rw [unhide ld1, unhide lt1]; omega) (unhide HV7).size _ _ rfl rfl rfl rfl ?_
            intro v8 w8 o8 g8
            have HV8 := hide (below_own (unhide HV7) (unhide O7) g8 (Nat.le_refl _) (unhide HV7).size)
            have X8 := hide ((unhide X2).below (unhide HV8))
            have l8 := (lst_own rfl o8).mono (lo' := w.heap.size) (hi' := w8.heap.size) (by omega) (Nat.le_refl _)
            have HSH := hide (shp_own o8)
            rw [← unhide HE1] at l8
            have HL8 := hide l8
            clear o8 g8 l8
            refine hK.out _ _ (sBox (unhide X8)) (fun hHeld => ?_)
            clear hK K
            (try simp only [Act.put, List.setIfInBounds_toArray, List.set_cons_zero, List.set_cons_succ])
            refine Rg.t 12 4 ?_
            refine Rg.t 13 5 ?_
            refine wpAnyH_done (by kernel_rfl) (NoPanic.normal ?_) _
            have HBF := hide ((unhide HB2).trans ((unhide HV8).mono (unhide HB2).size))
            clear hHeld
            go_wp2_with fail
            go_ret2
            rw [unhide HE2]
            exact ⟨_, rfl, unhide HBF, unhide HL8, unhide HSH⟩
        · go_simp
          have HV1 := hide ((unhide HV).alloc (unhide HV).size (.cells #[.int .i64 key, .int .i64 til, .int .i64 val] 99))
          have RX1 := hide (rm_new V ⟨key, til, val⟩)
          have X1 := hide ((unhide X2).below (unhide HV1))
          refine hK.out _ _ (sBox (unhide X1)) (fun hHeld => ?_)
          clear hK K
          (try simp only [Act.put, List.setIfInBounds_toArray, List.set_cons_zero, List.set_cons_succ])
          (refine Rg.o 0 (fun K hK => ?_); go_simp)
          have HV5 := hide ((unhide HV1).alloc (unhide HV1).size (.cells #[] 99))
          have O50 := own_empty (V.alloc (.cells #[.int .i64 key, .int .i64 til, .int .i64 val] 99)) w2.heap.size (unhide HV1).size
          simp only [World.size_alloc] at O50
          have O5 := hide O50
          clear O50
          have X5 := hide ((unhide X2).below (unhide HV5))
          have RX5 := hide ((unhide RX1).below ((Below.refl _ _).alloc (Nat.le_refl _) (.cells #[] 99)))
          refine hK.out _ _ (sBox (unhide X5)) (fun hHeld => ?_)
          clear hK K
          (try simp only [Act.put, List.setIfInBounds_toArray, List.set_cons_zero, List.set_cons_succ])
          (refine Rg.o 4 (fun K hK => ?_); rw [if_pos (by rfl)])
          refine wp_apS (unhide O5) b 0 c c (ms.take c) (unhide lt1) (take_zero_off ((unhide RO).below (unhide HV5)) c) (by rw [unhide lt1]; simp; omega) (unhide HV5).size _ _ rfl rfl rfl rfl ?_
          intro v4 w4 o4 g4
          have O6 := hide o4
          have HV6 := hide (below_own (unhide HV5) (unhide O5) g4 (Nat.le_refl _) (unhide HV5).size)
          have RX := hide (rm_grown (unhide RX5) g4 (by simp [Value.ownBlock]))
          have X6 := hide ((unhide X2).below (unhide HV6))
          clear o4 g4
          refine hK.out _ _ (sBox (unhide X6)) (fun hHeld => ?_)
          clear hK K
          (try simp only [Act.put, List.setIfInBounds_toArray, List.set_cons_zero, List.set_cons_succ])
          (refine Rg.o 7 (fun K hK => ?_); rw [if_pos (by rfl)])
          refine wp_apS (unhide O6) _ 0 1 1 [⟨key, til, val⟩] rfl (unhide RX) (by simp only [List.nil_append, List.length_cons, List.length_nil]; rw [unhide lt1]; omega) (unhide HV6).size _ _ rfl rfl rfl rfl ?_
          intro v7 w7 o7 g7
          have O7 := hide o7
          have HV7 := hide (below_own (unhide HV6) (unhide O6) g7 (Nat.le_refl _) (unhide HV6).size)
          have X7 := hide ((unhide X2).below (unhide HV7))
          clear o7 g7
          refine hK.out _ _ (sBox (unhide X7)) (fun hHeld => ?_)
          clear hK K
          (try simp only [Act.put, List.setIfInBounds_toArray, List.set_cons_zero, List.set_cons_succ])
          (refine Rg.o 11 (fun K hK => ?_); rw [if_pos (by rfl)])
          refine wp_apS (unhide O7) b _ _ _ (ms.drop _) (unhide ld1) (unhide HD _ ((unhide RO).below (unhide HV7))) (by simp only [List.nil_append, List.length_append, List.length_cons, List.length_nil]; rw [unhide ld1, unhide lt1]; omega) (unhide HV7).size _ _ rfl rfl rfl rfl ?_
          intro v8 w8 o8 g8
          have HV8 := hide (below_own (unhide HV7) (unhide O7) g8 (Nat.le_refl _) (unhide HV7).size)
          have X8 := hide ((unhide X2).below (unhide HV8))
          have l8 := (lst_own rfl o8).mono (lo' := w.heap.size) (hi' := w8.heap.size) (by omega) (Nat.le_refl _)
          have HSH := hide (shp_own o8)
          rw [← unhide HE1] at l8
          have HL8 := hide l8
          clear o8 g8 l8
          refine hK.out _ _ (sBox (unhide X8)) (fun hHeld => ?_)
          clear hK K
          (try simp only [Act.put, List.setIfInBounds_toArray, List.set_cons_zero, List.set_cons_succ])
          refine Rg.t 12 4 ?_
          refine Rg.t 13 5 ?_
          refine wpAnyH_done (by kernel_rfl) (NoPanic.normal ?_) _
          have HBF := hide ((unhide HB2).trans ((unhide HV8).mono (unhide HB2).size))
          clear hHeld
          go_wp2_with fail
          go_ret2
          rw [unhide HE2]
          exact ⟨_, rfl, unhide HBF, unhide HL8, unhide HSH⟩
      · rw [if_neg hcp] at HD
        simp only [Nat.sub_self] at ld1
        go_wp2_with fail
        refine wp_region_noPanic ?_
        refine wp_region_held_drew (S := fun w' => Bx w' w.heap.size ⟨key, til, val⟩ ∧ w'.cell? ⟨w.heap.size, 0, none⟩ = some (.int .i64 key) ∧ w'.cell? ⟨w.heap.size, 1, none⟩ = some (.int .i64 til) ∧ w'.cell? ⟨w.heap.size, 2, none⟩ = some (.int .i64 val)) (by kernel_rfl) (sBox (unhide X2).drew) (fun hHeld => ?_)
        refine Rg.t 1 38 ?_
        refine Rg.t 2 39 ?_
        refine Rg.t 3 40 ?_
        refine Rg.t 5 42 ?_
        refine Rg.t 8 45 ?_
        refine Rg.t 9 46 ?_
        refine Rg.t 10 47 ?_
        generalize hV : w2.drew.drew = V at *
        clear hV
        have XV := hide ((unhide X2).below (unhide HV))
        have hVs := (unhide HV).size
        (refine wpAnyH_ready (rs := [0, 6]) (by kernel_rfl) (by simp) ?_; refine AllReadyH.cons (o := _) rfl (fun K hK => ?_) (AllReadyH.cons (o := _) rfl (fun K hK => ?_) AllReadyH.nil))
        · go_simp
          have HV1 := hide ((unhide HV).alloc (unhide HV).size (.cells #[] 99))
          have O0 := hide (own_empty V w2.heap.size hVs)
          have X1 := hide ((unhide X2).below (unhide HV1))
          refine hK.out _ _ (sBox (unhide X1)) (fun hHeld => ?_)
          clear hK K
          (try simp only [Act.put, List.setIfInBounds_toArray, List.set_cons_zero, List.set_cons_succ])
          (refine wpAnyH_ready (rs := [4, 6]) (by kernel_rfl) (by simp) ?_; refine AllReadyH.cons (o := _) rfl (fun K hK => ?_) (AllReadyH.cons (o := _) rfl (fun K hK => ?_) AllReadyH.nil))
          · rw [if_pos (by rfl)]
            refine wp_apS (unhide O0) b 0 n c (ms.take n) (unhide lt1) (take_zero_off ((unhide RO).below (unhide HV1)) n) (by rw [unhide lt1]; simp; omega) (unhide HV1).size _ _ rfl rfl rfl rfl ?_
            intro v4 w4 o4 g4
            have O4 := hide o4
            have HV4 := hide (below_own (unhide HV1) (unhide O0) g4 (Nat.le_refl _) (unhide HV1).size)
            have X4 := hide ((unhide X2).below (unhide HV4))
            clear o4 g4
            refine hK.out _ _ (sBox (unhide X4)) (fun hHeld => ?_)
            clear hK K
            (try simp only [Act.put, List.setIfInBounds_toArray, List.set_cons_zero, List.set_cons_succ])
            (refine Rg.o 6 (fun K hK => ?_); go_simp)
            have HV6 := hide ((unhide HV4).alloc (unhide HV4).size (.cells #[.int .i64 key, .int .i64 til, .int .i64 val] 99))
            have O6 := hide ((unhide O4).alloc (.cells #[.int .i64 key, .int .i64 til, .int .i64 val] 99))
            have RX := hide (rm_new w4 ⟨key, til, val⟩)
            have X6 := hide ((unhide X2).below (unhide HV6))
            refine hK.out _ _ (sBox (unhide X6)) (fun hHeld => ?_)
            clear hK K
            (try simp only [Act.put, List.setIfInBounds_toArray, List.set_cons_zero, List.set_cons_succ])
            (refine Rg.o 7 (fun K hK => ?_); rw [if_pos (by rfl)])
            refine wp_apS (unhide O6) _ 0 1 1 [⟨key, til, val⟩] rfl (unhide RX) (by simp only [List.nil_append, List.length_cons, List.length_nil]; rw [unhide lt1]; omega) (unhide HV6).size _ _ rfl rfl rfl rfl ?_
            intro v7 w7 o7 g7
            have O7 := hide o7
            have HV7 := hide (below_own (unhide HV6) (unhide O6) g7 (Nat.le_refl _) (unhide HV6).size)
            have X7 := hide ((unhide X2).below (unhide HV7))
            clear o7 g7
            refine hK.out _ _ (sBox (unhide X7)) (fun hHeld => ?_)
            clear hK K
            (try simp only [Act.put, List.setIfInBounds_toArray, List.set_cons_zero, List.set_cons_succ])
            (refine Rg.o 11 (fun K hK => ?_); rw [if_pos (by rfl)])
            refine wp_apS (unhide O7) b _ _ _ (ms.drop _) (unhide ld1) (unhide HD _ ((unhide RO).below (unhide HV7))) (by simp only [List.nil_append, List.length_append, List.length_cons, List.length_nil]; rw [unhide ld1, unhide lt1]; omega) (unhide HV7).size _ _ rfl rfl rfl rfl ?_
            intro v8 w8 o8 g8
            have HV8 := hide (below_own (unhide HV7) (unhide O7) g8 (Nat.le_refl _) (unhide HV7).size)
            have X8 := hide ((unhide X2).below (unhide HV8))
            have l8 := (lst_own rfl o8).mono (lo' := w.heap.size) (hi' := w8.heap.size) (by omega) (Nat.le_refl _)
            have HSH := hide (shp_own o8)
            rw [← unhide HE1] at l8
            have HL8 := hide l8
            clear o8 g8 l8
            refine hK.out _ _ (sBox (unhide X8)) (fun hHeld => ?_)
            clear hK K
            (try simp only [Act.put, List.setIfInBounds_toArray, List.set_cons_zero, List.set_cons_succ])
            refine Rg.t 12 4 ?_
            refine Rg.t 13 5 ?_
            refine wpAnyH_done (by kernel_rfl) (NoPanic.normal ?_) _
            have HBF := hide ((unhide HB2).trans ((unhide HV8).mono (unhide HB2).size))
            clear hHeld
            go_wp2_with fail
            go_ret2
            rw [unhide HE2]
            exact ⟨_, rfl, unhide HBF, unhide HL8, unhide HSH⟩
          · go_simp
            have HV5 := hide ((unhide HV1).alloc (unhide HV1).size (.cells #[.int .i64 key, .int .i64 til, .int .i64 val] 99))
            have O5 := hide ((unhide O0).alloc (.cells #[.int .i64 key, .int .i64 til, .int .i64 val] 99))
            have RX0 := rm_new (V.alloc (.cells #[] 99)) ⟨key, til, val⟩
            simp only [World.size_alloc] at RX0
            have X5 := hide ((unhide X2).below (unhide HV5))
            have RX5 := hide RX0
            clear RX0
            refine hK.out _ _ (sBox (unhide X5)) (fun hHeld => ?_)
            clear hK K
            (try simp only [Act.put, List.setIfInBounds_toArray, List.set_cons_zero, List.set_cons_succ])
            (refine Rg.o 4 (fun K hK => ?_); rw [if_pos (by rfl)])
            refine wp_apS (unhide O5) b 0 n c (ms.take n) (unhide lt1) (take_zero_off ((unhide RO).below (unhide HV5)) n) (by rw [unhide lt1]; simp; omega) (unhide HV5).size _ _ rfl rfl rfl rfl ?_
            intro v4 w4 o4 g4
            have O6 := hide o4
            have HV6 := hide (below_own (unhide HV5) (unhide O5) g4 (Nat.le_refl _) (unhide HV5).size)
            have RX := hide (rm_grown (unhide RX5) g4 (by simp [Value.ownBlock]))
            have X6 := hide ((unhide X2).below (unhide HV6))
            clear o4 g4
            refine hK.out _ _ (sBox (unhide X6)) (fun hHeld => ?_)
            clear hK K
            (try simp only [Act.put, List.setIfInBounds_toArray, List.set_cons_zero, List.set_cons_succ])
            (refine Rg.o 7 (fun K hK => ?_); rw [if_pos (by rfl)])
            refine wp_apS (unhide O6) _ 0 1 1 [⟨key, til, val⟩] rfl (unhide RX) (by simp only [List.nil_append, List.length_cons, List.length_nil]; rw [unhide lt1]; omega) (unhide HV6).size _ _ rfl rfl rfl rfl ?_
            intro v7 w7 o7 g7
            have O7 := hide o7
            have HV7 := hide (below_own (unhide HV6) (unhide O6) g7 (Nat.le_refl _) (unhide HV6).size)
            have X7 := hide ((unhide X2).below (unhide HV7))
            clear o7 g7
            refine hK.out _ _ (sBox (unhide X7)) (fun hHeld => ?_)
            clear hK K
            (try simp only [Act.put, List.setIfInBounds_toArray, List.set_cons_zero, List.set_cons_succ])
            (refine Rg.o 11 (fun K hK => ?_); rw [if_pos (by rfl)])
            refine wp_apS (unhide O7) b _ _ _ (ms.drop _) (unhide ld1) (unhide HD _ ((unhide RO).below (unhide HV7))) (by simp only [List.nil_append, List.length_append, List.length_cons, List.length_nil]; rw [unhide ld1, unhide lt1]; omega) (unhide HV7).size _ _ rfl rfl rfl rfl ?_
            intro v8 w8 o8 g8
            have HV8 := hide (below_own (unhide HV7) (unhide O7) g8 (Nat.le_refl _) (unhide HV7).size)
            have X8 := hide ((unhide X2).below (unhide HV8))
            have l8 := (lst_own rfl o8).mono (lo' := w.heap.size) (hi' := w8.heap.size) (by omega) (Nat.le_refl _)
            have HSH := hide (shp_own o8)
            rw [← unhide HE1] at l8
            have HL8 := hide l8
            clear o8 g8 l8
            refine hK.out _ _ (sBox (unhide X8)) (fun hHeld => ?_)
            clear hK K
            (try simp only [Act.put, List.setIfInBounds_toArray, List.set_cons_zero, List.set_cons_succ])
            refine Rg.t 12 4 ?_
            refine Rg.t 13 5 ?_
            refine wpAnyH_done (by kernel_rfl) (NoPanic.normal ?_) _
            have HBF := hide ((unhide HB2).trans ((unhide HV8).mono (unhide HB2).size))
            clear hHeld
            go_wp2_with fail
            go_ret2
            rw [unhide HE2]
            exact ⟨_, rfl, unhide HBF, unhide HL8, unhide HSH⟩
        · go_simp
          have HV1 := hide ((unhide HV).alloc (unhide HV).size (.cells #[.int .i64 key, .int .i64 til, .int .i64 val] 99))
          have RX1 := hide (rm_new V ⟨key, til, val⟩)
          have X1 := hide ((unhide X2).below (unhide HV1))
          refine hK.out _ _ (sBox (unhide X1)) (fun hHeld => ?_)
          clear hK K
          (try simp only [Act.put, List.setIfInBounds_toArray, List.set_cons_zero, List.set_cons_succ])
          (refine Rg.o 0 (fun K hK => ?_); go_simp)
          have HV5 := hide ((unhide HV1).alloc (unhide HV1).size (.cells #[] 99))
          have O50 := own_empty (V.alloc (.cells #[.int .i64 key, .int .i64 til, .int .i64 val] 99)) w2.heap.size (unhide HV1).size
          simp only [World.size_alloc] at O50
          have O5 := hide O50
          clear O50
          have X5 := hide ((unhide X2).below (unhide HV5))
          have RX5 := hide ((unhide RX1).below ((Below.refl _ _).alloc (Nat.le_refl _) (.cells #[] 99)))
          refine hK.out _ _ (sBox (unhide X5)) (fun hHeld => ?_)
          clear hK K
          (try simp only [Act.put, List.setIfInBounds_toArray, List.set_cons_zero, List.set_cons_succ])
          (refine Rg.o 4 (fun K hK => ?_); rw [if_pos (by rfl)])
          refine wp_apS (unhide O5) b 0 n c (ms.take n) (unhide lt1) (take_zero_off ((unhide RO).below (unhide HV5)) n) (by rw [unhide lt1]; simp; omega) (unhide HV5).size _ _ rfl rfl rfl rfl ?_
          intro v4 w4 o4 g4
          have O6 := hide o4
          have HV6 := hide (below_own (unhide HV5) (unhide O5) g4 (Nat.le_refl _) (unhide HV5).size)
          have RX := hide (rm_grown (unhide RX5) g4 (by simp [Value.ownBlock]))
          have X6 := hide ((unhide X2).below (unhide HV6))
          clear o4 g4
          refine hK.out _ _ (sBox (unhide X6)) (fun hHeld => ?_)
          clear hK K
          (try simp only [Act.put, List.setIfInBounds_toArray, List.set_cons_zero, List.set_cons_succ])
          (refine Rg.o 7 (fun K hK => ?_); rw [if_pos (by rfl)])
          refine wp_apS (unhide O6) _ 0 1 1 [⟨key, til, val⟩] rfl (unhide RX) (by simp only [List.nil_append, List.length_cons, List.length_nil]; rw [unhide lt1]; omega) (unhide HV6).size _ _ rfl rfl rfl rfl ?_
          intro v7 w7 o7 g7
          have O7 := hide o7
          have HV7 := hide (below_own (unhide HV6) (unhide O6) g7 (Nat.le_refl _) (unhide HV6).size)
          have X7 := hide ((unhide X2).below (unhide HV7))
          clear o7 g7
          refine hK.out _ _ (sBox (unhide X7)) (fun hHeld => ?_)
          clear hK K
          (try simp only [Act.put, List.setIfInBounds_toArray, List.set_cons_zero, List.set_cons_succ])
          (refine Rg.o 11 (fun K hK => ?_); rw [if_pos (by rfl)])
          refine wp_apS (unhide O7) b _ _ _ (ms.drop _) (unhide ld1) (unhide HD _ ((unhide RO).below (unhide HV7))) (by simp only [List.nil_append, List.length_append, List.length_cons, List.length_nil]; rw [unhide ld1, unhide lt1]; omega) (unhide HV7).size _ _ rfl rfl rfl rfl ?_
          intro v8 w8 o8 g8
          have HV8 := hide (below_own (unhide HV7) (unhide O7) g8 (Nat.le_refl _) (unhide HV7).size)
          have X8 := hide ((unhide X2).below (unhide HV8))
          have l8 := (lst_own rfl o8).mono (lo' := w.heap.size) (hi' := w8.heap.size) (by omega) (Nat.le_refl _)
          have HSH := hide (shp_own o8)
          rw [← unhide HE1] at l8
          have HL8 := hide l8
          clear o8 g8 l8
          refine hK.out _ _ (sBox (unhide X8)) (fun hHeld => ?_)
          clear hK K
          (try simp only [Act.put, List.setIfInBounds_toArray, List.set_cons_zero, List.set_cons_succ])
          refine Rg.t 12 4 ?_
          refine Rg.t 13 5 ?_
          refine wpAnyH_done (by kernel_rfl) (NoPanic.normal ?_) _
          have HBF := hide ((unhide HB2).trans ((unhide HV8).mono (unhide HB2).size))
          clear hHeld
          go_wp2_with fail
          go_ret2
          rw [unhide HE2]
          exact ⟨_, rfl, unhide HBF, unhide HL8, unhide HSH⟩
end St
end Go.Proofs.YtfooahhdikobeaaGreat
namespace Go.Proofs.YtfooahhdikobeaaGreat
open Go.ChangeShapes Go.WideShapes Go.ChangeAt Go.RowKit
set_option linter.unusedVariables false
set_option linter.unusedSimpArgs false
set_option maxRecDepth 100000
attribute [local go_sem ↓] Go.wp_at_zero Go.wp_at_succ
namespace Gr
open W1 Tu St Tw
/-- A slice that lies somewhere. -/
def Fm (v : Value) (n : Nat) : Prop := ∃ g c, v = .slice (some ⟨g, 0, none⟩) n c
theorem fm_lst {w : World} {v : Value} {ms : List R} {lo hi : Nat} (h : LstV w v ms lo hi) (h0 : 0 < ms.length) : Fm v ms.length := by
  obtain ⟨a, c, rfl, h⟩ := h
  rcases h with e | ⟨g, rfl, _⟩
  · rw [e] at h0; simp at h0
  · exact ⟨g, c, rfl⟩
theorem fm_lt {w : World} {v : Value} {ms : List R} {lo hi : Nat} (h : LstV w v ms lo hi) : RM w (match v with | .slice a _ _ => a | _ => none) ms := by
  obtain ⟨a, c, rfl, h⟩ := h
  exact h.rm
theorem l07KeyG (v a : Int) (w : World) (h0 : 0 ≤ v) (h1 : v ≤ 1000000) (h2 : 0 ≤ a) (h3 : a ≤ 1000000) : Calls Tryz.prog 115 #[.int .i64 v, .int .i64 a] w fun e w' => e = .returned (.int .i64 (100 * v + a)) ∧ w' = w := by
  go_enter Tryz.func115, Tryz.ntmps115
  go_wp2
  go_ret
  exact ⟨rfl, rfl⟩
theorem sLk {w : World} {B : Nat} {ad hd sy ci co wl : Int} (h : Lk.At w B 0 ⟨ad, hd, sy, ci, co, wl⟩) : Lk.At w B 0 ⟨ad, hd, sy, ci, co, wl⟩ ∧ w.cell? ⟨B, 0, none⟩ = some (.int .i64 ad) ∧ w.cell? ⟨B, 4, none⟩ = some (.int .i64 co) := by
  refine ⟨h, h.1, ?_⟩
  have := h.2.2.2.2.1
  simpa using this
theorem lk_new (w : World) (ad hd sy ci co wl : Int) : Lk.At (w.alloc (.cells #[.int .i64 ad, .int .i64 hd, .int .i64 sy, .int .i64 ci, .int .i64 co, .int .i64 wl] 166)) w.heap.size 0 ⟨ad, hd, sy, ci, co, wl⟩ := by
  refine ⟨?_, ?_, ?_, ?_, ?_, ?_⟩ <;> simp [World.cell?_alloc_new]
theorem lk_drew {w : World} {B o : Nat} {m : Lk.R} (h : Lk.At w B o m) : Lk.At w.drew B o m := h
/-- The reasons why a link is none of the graph's. -/
theorem lk_off {me now ad hd sy ci co wl st : Int} (hst : Ln.statusV ⟨ad, hd, sy, ci, co, wl⟩ now = st) (h : lkOn me now ⟨ad, hd, sy, ci, co, wl⟩ = false) :
    (st == 2) = false ∨ (st == 2) = true ∧ ((ad != me) = false ∨ (ad != me) = true ∧ ¬ 0 < co) := by
  unfold lkOn at h
  dsimp only at h
  rw [hst] at h
  cases e1 : (st == 2)
  · exact .inl rfl
  · right; refine ⟨rfl, ?_⟩
    cases e2 : (ad != me)
    · exact .inl rfl
    · right; refine ⟨rfl, ?_⟩
      rw [e1, e2] at h
      simpa using h
theorem lk_on {me now ad hd sy ci co wl st : Int} (hst : Ln.statusV ⟨ad, hd, sy, ci, co, wl⟩ now = st) (h : lkOn me now ⟨ad, hd, sy, ci, co, wl⟩ = true) :
    (st == 2) = true ∧ (ad != me) = true ∧ 0 < co := by
  unfold lkOn at h
  dsimp only at h
  rw [hst, Bool.and_eq_true, Bool.and_eq_true, decide_eq_true_eq] at h
  exact ⟨h.2.2, h.1, h.2.1⟩
theorem ed_off {me now key til val : Int} (h : edOn me now ⟨key, til, val⟩ = false) (h0 : 0 ≤ key) : ¬ now < til ∨ now < til ∧ ((key / 100 != me) = false ∨ (key / 100 != me) = true ∧ (key % 100 != me) = false) := by
  unfold edOn hv ha at h
  dsimp only at h
  rw [Int.tdiv_eq_ediv_of_nonneg h0, Int.tmod_eq_emod_of_nonneg h0] at h
  by_cases e1 : now < til
  · right; refine ⟨e1, ?_⟩
    rw [decide_eq_true e1, Bool.true_and] at h
    cases e2 : (key / 100 != me)
    · exact .inl rfl
    · right; refine ⟨rfl, ?_⟩
      rw [e2, Bool.true_and] at h; exact h
  · exact .inl e1
theorem ed_on {me now key til val : Int} (h : edOn me now ⟨key, til, val⟩ = true) (h0 : 0 ≤ key) : now < til ∧ (key / 100 != me) = true ∧ (key % 100 != me) = true := by
  unfold edOn hv ha at h
  dsimp only at h
  rw [Int.tdiv_eq_ediv_of_nonneg h0, Int.tmod_eq_emod_of_nonneg h0, Bool.and_eq_true, Bool.and_eq_true, decide_eq_true_eq] at h
  exact h
set_option maxHeartbeats 8000000 in
theorem l11Graph (me : Int) (a : Option Addr) (ls : List Lk.R) (ca : Nat) (b : Option Addr) (ss : List So.R) (cb : Nat) (c : Option Addr) (es : List R) (cc : Nat) (now : Int) (w : World) (hc : graC me ls ss es = 0) (hr : Lk.RM w a ls) (hr' : RM w c es) :
    Calls Tryz.prog 164 #[.int .i64 me, .slice a ls.length ca, .agg #[.slice b ss.length cb, .slice c es.length cc], .int .i64 now] w fun e w' => ∃ v, e = .returned v ∧ Below w.heap.size w w' ∧ LstV w' v (graph me ls es now) w.heap.size w'.heap.size := by
  obtain ⟨hlb, hme, htop⟩ := gra_zero hc
  have h8 := Ln.links_len hlb
  have h62 := two_len (Tp.top_two htop)
  have HLB := hide hlb
  have HTE := hide (Tp.top_two htop)
  have HT1 := hide (grL_two (now := now) hme hlb)
  have HT2 := hide (grE_two (me := me) (now := now) (unhide HT1 _ (Nat.le_refl _)) (unhide HTE))
  have HGR : Hid (graph me ls es now = grE me now (grL me now ls ls.length) es es.length) := hide rfl
  rw [unhide HGR]
  clear hc hlb htop HGR
  have P0 : Hid (Below w.heap.size w (w.alloc (.cells #[.slice b ss.length cb, .slice c es.length cc] 80))) := hide ((Below.refl _ _).alloc (Nat.le_refl _) _)
  have X0 : Hid (Tp.Bx2 (w.alloc (.cells #[.slice b ss.length cb, .slice c es.length cc] 80)) w.heap.size (.slice b ss.length cb) (.slice c es.length cc)) := hide (Tp.bx2_new w _ _ _)
  have R0 := hide (hr.below (unhide P0))
  have Q0 := hide (hr'.below (unhide P0))
  have E0 : Hid ((w.alloc (.cells #[.slice b ss.length cb, .slice c es.length cc] 80)).heap.size = w.heap.size + 1) := hide (by simp)
  have L0 : Hid (LstV ((w.alloc (.cells #[.slice b ss.length cb, .slice c es.length cc] 80)).alloc (.cells #[] 99)) (.slice (some ⟨w.heap.size + 1, 0, none⟩) 0 0) (grL me now ls 0) (w.alloc (.cells #[.slice b ss.length cb, .slice c es.length cc] 80)).heap.size ((w.alloc (.cells #[.slice b ss.length cb, .slice c es.length cc] 80)).alloc (.cells #[] 99)).heap.size) := hide (by have := lst_own (ms := ([] : List R)) rfl (own_empty (w.alloc (.cells #[.slice b ss.length cb, .slice c es.length cc] 80)) (w.alloc (.cells #[.slice b ss.length cb, .slice c es.length cc] 80)).heap.size (Nat.le_refl _)); rw [unhide E0] at this ⊢; exact this)
  have F0 : Hid (Fm (.slice (some ⟨w.heap.size + 1, 0, none⟩) 0 0) (grL me now ls 0).length) := hide ⟨_, _, rfl⟩
  have P1 : Hid (Below (w.alloc (.cells #[.slice b ss.length cb, .slice c es.length cc] 80)).heap.size (w.alloc (.cells #[.slice b ss.length cb, .slice c es.length cc] 80)) ((w.alloc (.cells #[.slice b ss.length cb, .slice c es.length cc] 80)).alloc (.cells #[] 99))) := hide ((Below.refl _ _).alloc (Nat.le_refl _) _)
  clear hr hr'
  generalize hN : ls.length = N at *
  have HN := hide hN
  clear hN
  generalize hM : es.length = M at *
  have HM := hide hM
  clear hM
  go_enter Tryz.func164, Tryz.ntmps164
  go_wp2_with fail
  generalize hW : w.alloc (.cells #[.slice b ss.length cb, .slice c M cc] 80) = W1 at *
  clear hW
  go_loopw [9, 10] (fun v i wr => ∃ j : Nat, j ≤ N ∧ i = .int .i64 j ∧ Hid (LstV wr v (grL me now ls j) W1.heap.size wr.heap.size) ∧ Hid (Fm v (grL me now ls j).length) ∧ Hid (Below W1.heap.size W1 wr)) (fun _ i _ => N - (intOf i).toNat)
  case atStart => exact ⟨0, by omega, rfl, L0, F0, P1⟩
  case round =>
    obtain ⟨j, hj, rfl, hls, hfm, hbl⟩ := hrel
    have hbs := (unhide hbl).size
    by_cases hlt : (j : Int) < (N : Int)
    · have k0 : (0 : Int) ≤ (j : Int) := by omega
      have hlen : j < ls.length := by rw [unhide HN]; omega
      obtain ⟨g, off, rfl⟩ := (unhide R0).form (by omega)
      have hA := ((unhide R0).below (unhide hbl)).at hlen
      have HY : Hid (lkOn me now (ls.getD j Lk.R.zero) = true → grL me now ls (j + 1) = putL (grL me now ls j) (lkT me (ls.getD j Lk.R.zero))) := hide (fun h => grL_yes hlen h)
      have HZ : Hid (lkOn me now (ls.getD j Lk.R.zero) = false → grL me now ls (j + 1) = grL me now ls j) := hide (fun h => grL_no hlen h)
      have had := Ln.ok_ad (Ri.all_ok (unhide HLB) hlen)
      have HTJ := hide (unhide HT1 j (by omega))
      generalize ls.getD j Lk.R.zero = m at *
      obtain ⟨ad, hd, sy, ci, co, wl⟩ := m
      obtain ⟨c0, c1, c2, c3, c4, c5⟩ := hA
      dsimp only at c0 c1 c2 c3 c4 c5 had
      have HX := hide (lk_new wr ad hd sy ci co wl)
      have B1 : Hid (Below wr.heap.size wr (wr.alloc (.cells #[.int .i64 ad, .int .i64 hd, .int .i64 sy, .int .i64 ci, .int .i64 co, .int .i64 wl] 166))) := hide ((Below.refl _ _).alloc (Nat.le_refl _) _)
      have HL1 := hide ((unhide hls).below (unhide B1))
      have HB1 := hide ((unhide hbl).trans ((unhide B1).mono (unhide hbl).size))
      have hs1 := (unhide B1).size
      have KS := hide (Ln.l06Status ad hd sy ci co wl now)
      obtain ⟨st, hst⟩ : ∃ st, Ln.statusV ⟨ad, hd, sy, ci, co, wl⟩ now = st := ⟨_, rfl⟩
      rw [hst] at KS
      have HST := hide hst
      clear hst B1
      go_wp2_with fail
      generalize hW0 : wr.alloc (.cells #[.int .i64 ad, .int .i64 hd, .int .i64 sy, .int .i64 ci, .int .i64 co, .int .i64 wl] 166) = W0 at *
      clear hW0 c0 c1 c2 c3 c4 c5
      refine (unhide KS _).mono ?_
      rintro e w2 ⟨rfl, b2⟩
      have HX2 := hide ((unhide HX).below b2)
      have HL2 := hide ((unhide HL1).below b2)
      have HB2 := hide ((unhide HB1).trans (b2.mono (unhide HB1).size))
      have hs2 : W0.heap.size ≤ w2.heap.size := b2.size
      clear b2 HX HL1 HB1
      obtain ⟨x0, x4⟩ := (sLk (unhide HX2)).2
      cases hon : lkOn me now ⟨ad, hd, sy, ci, co, wl⟩
      · have E1 := unhide HZ hon
        have HL3 : Hid (LstV w2 u9 (grL me now ls (j + 1)) W1.heap.size w2.heap.size) := hide (by rw [E1]; exact (unhide HL2).mono (Nat.le_refl _) (by omega))
        have HF3 : Hid (Fm u9 (grL me now ls (j + 1)).length) := hide (by rw [E1]; exact unhide hfm)
        have hcs := lk_off (unhide HST) hon
        clear E1 HY HZ hon
        rcases hcs with q1 | ⟨q1, q2 | ⟨q2, q3⟩⟩
        all_goals
          go_wp2_with fail
          go_roundw
          case rel => exact ⟨j + 1, by omega, by go_num, HL3, HF3, HB2⟩
          case measure => simp [intOf]; omega
      · have HE1 := hide (unhide HY hon)
        obtain ⟨q1, q2, q3⟩ := lk_on (unhide HST) hon
        clear HY HZ hon
        have hl1 := two_len (unhide HTJ)
        obtain ⟨L, hL⟩ : ∃ L, grL me now ls j = L := ⟨_, rfl⟩
        rw [hL] at HE1 HTJ HL2 hfm hl1
        clear hL hls
        obtain ⟨gv, cv, ev⟩ := unhide hfm
        subst ev
        have HRL : Hid (RM w2 (some ⟨gv, 0, none⟩) L) := hide (fm_lt (unhide HL2))
        have HNE := hide (put_ne L (lkT me ⟨ad, hd, sy, ci, co, wl⟩))
        go_wp2_with fail
        clear x0 x4
        refine wp_region_noPanic ?_
        refine wp_region_held_drew (S := fun w' => Lk.At w' wr.heap.size 0 ⟨ad, hd, sy, ci, co, wl⟩ ∧ w'.cell? ⟨wr.heap.size, 0, none⟩ = some (.int .i64 ad) ∧ w'.cell? ⟨wr.heap.size, 4, none⟩ = some (.int .i64 co)) (by kernel_rfl) (sLk (lk_drew (unhide HX2))) (fun hHeld => ?_)
        refine Rg.t 0 41 ?_
        refine Rg.t 1 42 ?_
        refine Rg.t 2 43 ?_
        refine Rg.t 3 44 ?_
        refine Rg.t 5 46 ?_
        refine Rg.t 6 47 ?_
        (refine Rg.o 4 (fun K hK => ?_); go_simp)
        refine (l07KeyG me ad _ (by omega) (by omega) (by omega) (by omega)).mono ?_
        rintro e w3 ⟨rfl, hw3⟩
        have b3 : Below w2.heap.size w2 w3 := by rw [hw3]; exact (Below.refl _ _).drew
        have HX3 := hide ((unhide HX2).below b3)
        have HR3 := hide ((unhide HRL).below b3)
        have HB3 := hide ((unhide HB2).trans (b3.mono (unhide HB2).size))
        clear b3 hw3 hHeld
        refine hK.out _ _ (sLk (unhide HX3)) (fun hHeld => ?_)
        clear hK K
        (try simp only [Act.put, List.setIfInBounds_toArray, List.set_cons_zero, List.set_cons_succ])
        refine Rg.t 7 48 ?_
        (refine Rg.o 8 (fun K hK => ?_); go_simp)
        refine (l03PutC gv 0 L cv (100 * me + ad) 0 co _ (by omega) (unhide HR3)).mono ?_
        rintro e w4 ⟨v4, rfl, b4, hl4, hs4⟩
        have HX4 := hide ((unhide HX3).below b4)
        have HB4 := hide ((unhide HB3).trans (b4.mono (unhide HB3).size))
        have HL4 : Hid (LstV w4 v4 (grL me now ls (j + 1)) W1.heap.size w4.heap.size) := hide (by rw [unhide HE1]; exact hl4.mono (unhide HB3).size (Nat.le_refl _))
        have HF4 : Hid (Fm v4 (grL me now ls (j + 1)).length) := hide (fm_lst (unhide HL4) (by rw [unhide HE1]; exact unhide HNE))
        clear b4 hl4 hs4 hHeld
        generalize putC L ⟨100 * me + ad, 0, co⟩ = pc
        refine hK.out _ _ (sLk (unhide HX4)) (fun hHeld => ?_)
        clear hK K
        (try simp only [Act.put, List.setIfInBounds_toArray, List.set_cons_zero, List.set_cons_succ])
        refine Rg.t 9 40 ?_
        refine Rg.t 10 50 ?_
        refine Rg.t 11 51 ?_
        refine Rg.t 12 9 ?_
        refine wpAnyH_done (by kernel_rfl) (NoPanic.normal ?_) _
        clear hHeld
        go_wp2_with fail
        go_roundw
        case rel => exact ⟨j + 1, by omega, by go_num, HL4, HF4, HB4⟩
        case measure => simp [intOf]; omega
    · obtain rfl : j = N := by omega
      have L1 : Hid (LstV wr u9 (grE me now (grL me now ls j) es 0) W1.heap.size wr.heap.size) := hls
      have F1 : Hid (Fm u9 (grE me now (grL me now ls j) es 0).length) := hfm
      clear hls hfm
      obtain ⟨z0, z1⟩ := (unhide X0).below (unhide hbl)
      go_wp2_with fail
      clear z0 z1
      go_loopw [9, 12] (fun v i wr => ∃ k : Nat, k ≤ M ∧ i = .int .i64 k ∧ Hid (LstV wr v (grE me now (grL me now ls j) es k) W1.heap.size wr.heap.size) ∧ Hid (Fm v (grE me now (grL me now ls j) es k).length) ∧ Hid (Below W1.heap.size W1 wr)) (fun _ i _ => M - (intOf i).toNat)
      case atStart => exact ⟨0, by omega, rfl, L1, F1, hbl⟩
      case round =>
        obtain ⟨k, hk, rfl, hls, hfm, hbl⟩ := hrel
        have hbs := (unhide hbl).size
        obtain ⟨z0, z1⟩ := (unhide X0).below (unhide hbl)
        by_cases hlt2 : (k : Int) < (M : Int)
        · have k0 : (0 : Int) ≤ (k : Int) := by omega
          have hlen : k < es.length := by rw [unhide HM]; omega
          obtain ⟨g, off, rfl⟩ := (unhide Q0).form (by omega)
          have hA := ((unhide Q0).below (unhide hbl)).at hlen
          have HY : Hid (edOn me now (es.getD k R.zero) = true → grE me now (grL me now ls j) es (k + 1) = putL (grE me now (grL me now ls j) es k) (edT (es.getD k R.zero))) := hide (fun h => grE_yes hlen h)
          have HZ : Hid (edOn me now (es.getD k R.zero) = false → grE me now (grL me now ls j) es (k + 1) = grE me now (grL me now ls j) es k) := hide (fun h => grE_no hlen h)
          have hbd := ok_bounds (setB_ok (two_set (unhide HTE)) hlen)
          have HTJ := hide (unhide HT2 k (by omega))
          generalize es.getD k R.zero = m at *
          obtain ⟨key, til, val⟩ := m
          obtain ⟨c0, c1, c2⟩ := hA
          dsimp only at c0 c1 c2 hbd
          obtain ⟨hb0, hb1, _⟩ := hbd
          have B1 : Hid (Below wr.heap.size wr (wr.alloc (.cells #[.int .i64 key, .int .i64 til, .int .i64 val] 99))) := hide ((Below.refl _ _).alloc (Nat.le_refl _) _)
          have HL1 := hide ((unhide hls).below (unhide B1))
          have HB1 := hide ((unhide hbl).trans ((unhide B1).mono (unhide hbl).size))
          have hs1 := (unhide B1).size
          clear B1
          cases hon : edOn me now ⟨key, til, val⟩
          · have E1 := unhide HZ hon
            have HL3 : Hid (LstV (wr.alloc (.cells #[.int .i64 key, .int .i64 til, .int .i64 val] 99)) u9 (grE me now (grL me now ls j) es (k + 1)) W1.heap.size (wr.alloc (.cells #[.int .i64 key, .int .i64 til, .int .i64 val] 99)).heap.size) := hide (by rw [E1]; exact (unhide HL1).mono (Nat.le_refl _) (by omega))
            have HF3 : Hid (Fm u9 (grE me now (grL me now ls j) es (k + 1)).length) := hide (by rw [E1]; exact unhide hfm)
            have hcs := ed_off hon hb0
            clear E1 HY HZ hon
            rcases hcs with q1 | ⟨q1, q2 | ⟨q2, q3⟩⟩
            all_goals
              go_wp2_with fail
              go_roundw
              case rel => exact ⟨k + 1, by omega, by go_num, HL3, HF3, HB1⟩
              case measure => simp [intOf]; omega
          · have HE1 := hide (unhide HY hon)
            obtain ⟨q1, q2, q3⟩ := ed_on hon hb0
            clear HY HZ hon
            have hl1 := two_len (unhide HTJ)
            obtain ⟨L, hL⟩ : ∃ L, grE me now (grL me now ls j) es k = L := ⟨_, rfl⟩
            rw [hL] at HE1 HTJ HL1 hfm hl1
            clear hL hls
            obtain ⟨gv, cv, ev⟩ := unhide hfm
            subst ev
            have HRL : Hid (RM (wr.alloc (.cells #[.int .i64 key, .int .i64 til, .int .i64 val] 99)) (some ⟨gv, 0, none⟩) L) := hide (fm_lt (unhide HL1))
            have HNE := hide (put_ne L (edT ⟨key, til, val⟩))
            go_wp2_with fail
            generalize hW0 : wr.alloc (.cells #[.int .i64 key, .int .i64 til, .int .i64 val] 99) = W0 at *
            clear hW0 c0 c1 c2 z0 z1
            refine (l03PutC gv 0 L cv key 0 val _ (by omega) (unhide HRL)).mono ?_
            rintro e w4 ⟨v4, rfl, b4, hl4, hs4⟩
            have HB4 := hide ((unhide HB1).trans (b4.mono (unhide HB1).size))
            have HL4 : Hid (LstV w4 v4 (grE me now (grL me now ls j) es (k + 1)) W1.heap.size w4.heap.size) := hide (by rw [unhide HE1]; exact hl4.mono (unhide HB1).size (Nat.le_refl _))
            have HF4 : Hid (Fm v4 (grE me now (grL me now ls j) es (k + 1)).length) := hide (fm_lst (unhide HL4) (by rw [unhide HE1]; exact unhide HNE))
            clear b4 hl4 hs4
            generalize putC L ⟨key, 0, val⟩ = pc
            go_wp2_with fail
            go_roundw
            case rel => exact ⟨k + 1, by omega, by go_num, HL4, HF4, HB4⟩
            case measure => simp [intOf]; omega
        · obtain rfl : k = M := by omega
          have HBw := hide ((unhide P0).trans ((unhide hbl).mono (unhide P0).size))
          have HL := hide ((unhide hls).mono (lo' := w.heap.size) (unhide P0).size (Nat.le_refl _))
          go_wp2_with fail
          go_ret
          exact ⟨_, rfl, unhide HBw, unhide HL⟩
theorem lstV_nil (W : World) (a : Option Addr) (c lo hi : Nat) : LstV W (.slice a 0 c) [] lo hi := ⟨a, c, rfl, .inl rfl⟩
end Gr
end Go.Proofs.YtfooahhdikobeaaGreat
namespace Go.Proofs.YtfooahhdikobeaaGreat
open Go.ChangeShapes Go.WideShapes Go.ChangeAt Go.RowKit
set_option linter.unusedVariables false
set_option linter.unusedSimpArgs false
attribute [local go_sem ↓] Go.wp_at_zero Go.wp_at_succ
namespace Ln
open W1 Lk
/-- A link in a variable's block. -/
def Bx (w : World) (b : Nat) (m : R) : Prop := w.cell? ⟨b, 0, none⟩ = some (.int .i64 m.ad) ∧ w.cell? ⟨b, 1, none⟩ = some (.int .i64 m.hd) ∧ w.cell? ⟨b, 2, none⟩ = some (.int .i64 m.sy) ∧ w.cell? ⟨b, 3, none⟩ = some (.int .i64 m.ci) ∧ w.cell? ⟨b, 4, none⟩ = some (.int .i64 m.co) ∧ w.cell? ⟨b, 5, none⟩ = some (.int .i64 m.wl)
theorem Bx.below {w w' : World} {b : Nat} {m : R} (h : Bx w b m) (hb : Below w.heap.size w w') : Bx w' b m := by
  have hg : b < w.heap.size := World.block_lt_of_cell? _ _ h.1
  obtain ⟨h0, h1, h2, h3, h4, h5⟩ := h
  refine ⟨?_, ?_, ?_, ?_, ?_, ?_⟩ <;> (rw [hb.cell hg]; assumption)
theorem Bx.lt {w : World} {b : Nat} {m : R} (h : Bx w b m) : b < w.heap.size := World.block_lt_of_cell? _ _ h.1
theorem Bx.drew {w : World} {b : Nat} {m : R} (h : Bx w b m) : Bx w.drew b m := h
theorem bx_new (w : World) (m : R) (t : Nat) : Bx (w.alloc (.cells #[.int .i64 m.ad, .int .i64 m.hd, .int .i64 m.sy, .int .i64 m.ci, .int .i64 m.co, .int .i64 m.wl] t)) w.heap.size m := by
  refine ⟨?_, ?_, ?_, ?_, ?_, ?_⟩ <;> simp [World.cell?_alloc_new]
theorem sBox {w : World} {b : Nat} {ad hd sy ci co wl : Int} (h : Bx w b ⟨ad, hd, sy, ci, co, wl⟩) : Bx w b ⟨ad, hd, sy, ci, co, wl⟩ ∧ w.cell? ⟨b, 0, none⟩ = some (.int .i64 ad) ∧ w.cell? ⟨b, 1, none⟩ = some (.int .i64 hd) ∧ w.cell? ⟨b, 2, none⟩ = some (.int .i64 sy) ∧ w.cell? ⟨b, 3, none⟩ = some (.int .i64 ci) ∧ w.cell? ⟨b, 4, none⟩ = some (.int .i64 co) ∧ w.cell? ⟨b, 5, none⟩ = some (.int .i64 wl) := ⟨h, h⟩
theorem sBox2 {w : World} {b g p : Nat} {m : R} {ad hd sy ci co wl : Int} (h : Bx w b ⟨ad, hd, sy, ci, co, wl⟩) (h' : At w g p m) :
    (Bx w b ⟨ad, hd, sy, ci, co, wl⟩ ∧ At w g p m) ∧ w.cell? ⟨b, 0, none⟩ = some (.int .i64 ad) ∧ w.cell? ⟨b, 1, none⟩ = some (.int .i64 hd) ∧ w.cell? ⟨b, 2, none⟩ = some (.int .i64 sy) ∧ w.cell? ⟨b, 3, none⟩ = some (.int .i64 ci) ∧ w.cell? ⟨b, 4, none⟩ = some (.int .i64 co) ∧ w.cell? ⟨b, 5, none⟩ = some (.int .i64 wl) ∧ w.cell? ⟨g, p, none⟩ = some (.int .i64 m.ad) := ⟨⟨h, h'⟩, h.1, h.2.1, h.2.2.1, h.2.2.2.1, h.2.2.2.2.1, h.2.2.2.2.2, h'.1⟩
set_option maxRecDepth 100000 in
set_option maxHeartbeats 4000000 in
theorem implOK (a : Option Addr) (ms : List R) (cap : Nat) (w : World) (hm : ms.length ≤ 1048576) (hr : RM w a ms) :
    Calls Tryz.prog 197 #[.slice a ms.length cap] w fun e w' => e = .returned (.bool (linksB ms)) ∧ Below w.heap.size w w' := by
  have HR := hide hr
  clear hr
  generalize hN : ms.length = n at *
  have HN := hide hN
  clear hN
  go_enter Tryz.func197, Tryz.ntmps197
  go_wp2
  go_loopw [7] (fun i wr => ∃ j : Nat, j ≤ n ∧ i = .int .i64 j ∧ Hid (allL ms j = true) ∧ Hid (Below w.heap.size w wr)) (fun i _ => n - (intOf i).toNat)
  case atStart => exact ⟨0, by omega, rfl, hide Ri.all_zero, hide (Below.refl _ _)⟩
  case round =>
    obtain ⟨j, hj, rfl, hrl, hbl⟩ := hrel
    by_cases hlt : (j : Int) < (n : Int)
    · have k0 : (0 : Int) ≤ (j : Int) := by omega
      have hlen : j < ms.length := by rw [unhide HN]; omega
      rcases (unhide HR).below (by exact (unhide hbl)) with e0 | ⟨g, off, rfl, hc⟩
      · exfalso; rw [e0] at hlen; simp at hlen
      have HL := hide hlen
      have hA := hc j hlen
      have hsz := (unhide hbl).size
      have HBX := hide (bx_new wr (ms.getD j R.zero) 166)
      have HBL := hide ((unhide hbl).alloc hsz (.cells #[.int .i64 (ms.getD j R.zero).ad, .int .i64 (ms.getD j R.zero).hd, .int .i64 (ms.getD j R.zero).sy, .int .i64 (ms.getD j R.zero).ci, .int .i64 (ms.getD j R.zero).co, .int .i64 (ms.getD j R.zero).wl] 166))
      cases hk : okL (ms.getD j R.zero)
      · clear hc
        have HST := hide (Ri.all_no hlen (Ri.step_bad (key := R.ad) hk))
        have HK := hide hk
        clear hk
        generalize ms.getD j R.zero = m at *
        obtain ⟨ad, hd, sy, ci, co, wl⟩ := m
        obtain ⟨c0, c1, c2, c3, c4, c5⟩ := hA
        dsimp only at c0 c1 c2 c3 c4 c5
        go_wp2_with fail
        generalize hW : wr.alloc (.cells #[.int .i64 ad, .int .i64 hd, .int .i64 sy, .int .i64 ci, .int .i64 co, .int .i64 wl] 166) = W0 at *
        clear hW
        refine wp_region_noPanic ?_
        refine wp_region_held_drew (S := fun w' => Bx w' wr.heap.size ⟨ad, hd, sy, ci, co, wl⟩ ∧ w'.cell? ⟨wr.heap.size, 0, none⟩ = some (.int .i64 ad) ∧ w'.cell? ⟨wr.heap.size, 1, none⟩ = some (.int .i64 hd) ∧ w'.cell? ⟨wr.heap.size, 2, none⟩ = some (.int .i64 sy) ∧ w'.cell? ⟨wr.heap.size, 3, none⟩ = some (.int .i64 ci) ∧ w'.cell? ⟨wr.heap.size, 4, none⟩ = some (.int .i64 co) ∧ w'.cell? ⟨wr.heap.size, 5, none⟩ = some (.int .i64 wl)) (by kernel_rfl) (sBox (unhide HBX).drew) (fun hHeld => ?_)
        refine Rg.t 0 12 ?_
        (refine Rg.o 1 (fun K hK => ?_); go_simp)
        refine (isLink ad hd sy ci co wl _).mono ?_
        rintro e w2 ⟨rfl, b2⟩
        rw [unhide HK]
        refine hK.out _ _ (sBox ((unhide HBX).drew.below b2)) (fun hHeld => ?_)
        clear hK K
        (try simp only [Act.put, List.setIfInBounds_toArray, List.set_cons_zero, List.set_cons_succ])
        refine Rg.t 2 14 ?_
        refine Rg.t 3 15 ?_
        refine Rg.s 4 16 ?_
        refine Rg.s 5 17 ?_
        refine Rg.s 6 18 ?_
        refine Rg.s 7 19 ?_
        refine Rg.s 8 20 ?_
        refine Rg.s 9 21 ?_
        refine Rg.s 10 22 ?_
        refine Rg.s 11 23 ?_
        refine Rg.s 12 24 ?_
        refine Rg.s 13 25 ?_
        refine Rg.s 14 26 ?_
        refine Rg.s 15 27 ?_
        refine Rg.s 16 28 ?_
        refine Rg.t 17 29 ?_
        refine wpAnyH_done (by kernel_rfl) (NoPanic.normal ?_) _
        have hb1 := hide ((unhide HBL).drew.trans (b2.mono (by show w.heap.size ≤ W0.heap.size; exact (unhide HBL).size)))
        go_wp2_with fail
        go_ret
        exact ⟨ret_bool (unhide HST).symm, unhide hb1⟩
      have HK := hide hk
      clear hk
      by_cases hj0 : j = 0
      · subst hj0
        clear hc
        rw [Nat.zero_mul, Nat.add_zero] at hA
        have HST := hide (Ri.all_succ (unhide hrl) (Ri.step_zero (key := R.ad) (unhide HK)))
        generalize ms.getD 0 R.zero = m at *
        obtain ⟨ad, hd, sy, ci, co, wl⟩ := m
        obtain ⟨c0, c1, c2, c3, c4, c5⟩ := hA
        dsimp only at c0 c1 c2 c3 c4 c5
        go_wp2_with fail
        generalize hW : wr.alloc (.cells #[.int .i64 ad, .int .i64 hd, .int .i64 sy, .int .i64 ci, .int .i64 co, .int .i64 wl] 166) = W0 at *
        clear hW
        refine wp_region_noPanic ?_
        refine wp_region_held_drew (S := fun w' => Bx w' wr.heap.size ⟨ad, hd, sy, ci, co, wl⟩ ∧ w'.cell? ⟨wr.heap.size, 0, none⟩ = some (.int .i64 ad) ∧ w'.cell? ⟨wr.heap.size, 1, none⟩ = some (.int .i64 hd) ∧ w'.cell? ⟨wr.heap.size, 2, none⟩ = some (.int .i64 sy) ∧ w'.cell? ⟨wr.heap.size, 3, none⟩ = some (.int .i64 ci) ∧ w'.cell? ⟨wr.heap.size, 4, none⟩ = some (.int .i64 co) ∧ w'.cell? ⟨wr.heap.size, 5, none⟩ = some (.int .i64 wl)) (by kernel_rfl) (sBox (unhide HBX).drew) (fun hHeld => ?_)
        refine Rg.t 0 12 ?_
        (refine Rg.o 1 (fun K hK => ?_); go_simp)
        refine (isLink ad hd sy ci co wl _).mono ?_
        rintro e w2 ⟨rfl, b2⟩
        rw [unhide HK]
        refine hK.out _ _ (sBox ((unhide HBX).drew.below b2)) (fun hHeld => ?_)
        clear hK K
        (try simp only [Act.put, List.setIfInBounds_toArray, List.set_cons_zero, List.set_cons_succ])
        refine Rg.t 2 14 ?_
        refine Rg.t 3 15 ?_
        refine Rg.t 4 16 ?_
        refine Rg.t 5 17 ?_
        refine Rg.t 6 18 ?_
        refine Rg.s 7 19 ?_
        refine Rg.s 8 20 ?_
        refine Rg.s 9 21 ?_
        refine Rg.s 10 22 ?_
        refine Rg.s 11 23 ?_
        refine Rg.s 12 24 ?_
        refine Rg.s 13 25 ?_
        refine Rg.s 14 26 ?_
        refine Rg.s 15 27 ?_
        refine Rg.t 16 28 ?_
        refine Rg.t 17 29 ?_
        refine wpAnyH_done (by kernel_rfl) (NoPanic.normal ?_) _
        have hb1 := hide ((unhide HBL).drew.trans (b2.mono (by show w.heap.size ≤ W0.heap.size; exact (unhide HBL).size)))
        go_wp2_with fail
        go_roundw
        case rel => exact ⟨0 + 1, by omega, by go_num, HST, hb1⟩
        case measure => simp [intOf]; omega
      · obtain ⟨i, hji⟩ : ∃ i, j = i + 1 := ⟨j - 1, by omega⟩
        have HJ := hide hji
        have e1 : (j : Int) - 1 = (i : Int) := by omega
        have i0 : (0 : Int) ≤ (i : Int) := by omega
        have wi : IntKind.i64.wrap (i : Int) = (i : Int) := by rw [IntKind.wrap_i64]; omega
        have i1 : (i : Int) < (n : Int) := by omega
        have j1 : (0 : Int) < (j : Int) := by omega
        have j2 : 0 < j := by omega
        have hP := hide ((hc i (by omega)).below ((Below.refl _ _).alloc (Nat.le_refl _) (.cells #[.int .i64 (ms.getD j R.zero).ad, .int .i64 (ms.getD j R.zero).hd, .int .i64 (ms.getD j R.zero).sy, .int .i64 (ms.getD j R.zero).ci, .int .i64 (ms.getD j R.zero).co, .int .i64 (ms.getD j R.zero).wl] 166)))
        have EJ : ms.getD j R.zero = ms.getD (i + 1) R.zero := by rw [hji]
        clear hc hji
        by_cases hk : (ms.getD i R.zero).ad < (ms.getD j R.zero).ad
        · have HST : Hid (allL ms (j + 1) = true) := hide (Ri.all_succ (unhide hrl) (by rw [unhide HJ]; exact Ri.step_lt (by rw [← EJ]; exact unhide HK) (by rw [← EJ]; exact hk)))
          clear EJ
          generalize ms.getD i R.zero = m0 at *
          obtain ⟨ad0, hd0, sy0, ci0, co0, wl0⟩ := m0
          dsimp only at hk
          generalize ms.getD j R.zero = m at *
          obtain ⟨ad, hd, sy, ci, co, wl⟩ := m
          obtain ⟨c0, c1, c2, c3, c4, c5⟩ := hA
          dsimp only at hk c0 c1 c2 c3 c4 c5
          go_wp2_with fail
          generalize hW : wr.alloc (.cells #[.int .i64 ad, .int .i64 hd, .int .i64 sy, .int .i64 ci, .int .i64 co, .int .i64 wl] 166) = W0 at *
          clear hW
          refine wp_region_noPanic ?_
          refine wp_region_held_drew (S := fun w' => (Bx w' wr.heap.size ⟨ad, hd, sy, ci, co, wl⟩ ∧ At w' g (off + i * 6) ⟨ad0, hd0, sy0, ci0, co0, wl0⟩) ∧ w'.cell? ⟨wr.heap.size, 0, none⟩ = some (.int .i64 ad) ∧ w'.cell? ⟨wr.heap.size, 1, none⟩ = some (.int .i64 hd) ∧ w'.cell? ⟨wr.heap.size, 2, none⟩ = some (.int .i64 sy) ∧ w'.cell? ⟨wr.heap.size, 3, none⟩ = some (.int .i64 ci) ∧ w'.cell? ⟨wr.heap.size, 4, none⟩ = some (.int .i64 co) ∧ w'.cell? ⟨wr.heap.size, 5, none⟩ = some (.int .i64 wl) ∧ w'.cell? ⟨g, off + i * 6, none⟩ = some (.int .i64 ad0)) (by kernel_rfl) (sBox2 (unhide HBX).drew (unhide hP).drew) (fun hHeld => ?_)
          refine Rg.t 0 12 ?_
          (refine Rg.o 1 (fun K hK => ?_); go_simp)
          refine (isLink ad hd sy ci co wl _).mono ?_
          rintro e w2 ⟨rfl, b2⟩
          rw [unhide HK]
          refine hK.out _ _ (sBox2 ((unhide HBX).drew.below b2) ((unhide hP).drew.below b2)) (fun hHeld => ?_)
          clear hK K
          (try simp only [Act.put, List.setIfInBounds_toArray, List.set_cons_zero, List.set_cons_succ])
          refine Rg.t 2 14 ?_
          refine Rg.t 3 15 ?_
          refine Rg.t 4 16 ?_
          refine Rg.t 5 17 ?_
          refine Rg.t 6 18 ?_
          refine Rg.t 7 19 ?_
          refine Rg.t 8 20 ?_
          refine Rg.t 9 21 ?_
          refine Rg.t 10 22 ?_
          refine Rg.t 11 23 ?_
          refine Rg.t 12 24 ?_
          refine Rg.t 13 25 ?_
          refine Rg.t 14 26 ?_
          refine Rg.t 15 27 ?_
          refine Rg.t 16 28 ?_
          refine Rg.t 17 29 ?_
          refine wpAnyH_done (by kernel_rfl) (NoPanic.normal ?_) _
          have hb1 := hide ((unhide HBL).drew.trans (b2.mono (by show w.heap.size ≤ W0.heap.size; exact (unhide HBL).size)))
          go_wp2_with fail
          go_roundw
          case rel => exact ⟨j + 1, by omega, by go_num, HST, hb1⟩
          case measure => simp [intOf]; omega
        · have HST : Hid (linksB ms = false) := hide (Ri.all_no (unhide HL) (show Ri.step R.zero okL R.ad ms j = false by rw [unhide HJ]; exact Ri.step_ge (by rw [← EJ]; omega)))
          clear EJ
          generalize ms.getD i R.zero = m0 at *
          obtain ⟨ad0, hd0, sy0, ci0, co0, wl0⟩ := m0
          dsimp only at hk
          generalize ms.getD j R.zero = m at *
          obtain ⟨ad, hd, sy, ci, co, wl⟩ := m
          obtain ⟨c0, c1, c2, c3, c4, c5⟩ := hA
          dsimp only at hk c0 c1 c2 c3 c4 c5
          go_wp2_with fail
          generalize hW : wr.alloc (.cells #[.int .i64 ad, .int .i64 hd, .int .i64 sy, .int .i64 ci, .int .i64 co, .int .i64 wl] 166) = W0 at *
          clear hW
          refine wp_region_noPanic ?_
          refine wp_region_held_drew (S := fun w' => (Bx w' wr.heap.size ⟨ad, hd, sy, ci, co, wl⟩ ∧ At w' g (off + i * 6) ⟨ad0, hd0, sy0, ci0, co0, wl0⟩) ∧ w'.cell? ⟨wr.heap.size, 0, none⟩ = some (.int .i64 ad) ∧ w'.cell? ⟨wr.heap.size, 1, none⟩ = some (.int .i64 hd) ∧ w'.cell? ⟨wr.heap.size, 2, none⟩ = some (.int .i64 sy) ∧ w'.cell? ⟨wr.heap.size, 3, none⟩ = some (.int .i64 ci) ∧ w'.cell? ⟨wr.heap.size, 4, none⟩ = some (.int .i64 co) ∧ w'.cell? ⟨wr.heap.size, 5, none⟩ = some (.int .i64 wl) ∧ w'.cell? ⟨g, off + i * 6, none⟩ = some (.int .i64 ad0)) (by kernel_rfl) (sBox2 (unhide HBX).drew (unhide hP).drew) (fun hHeld => ?_)
          refine Rg.t 0 12 ?_
          (refine Rg.o 1 (fun K hK => ?_); go_simp)
          refine (isLink ad hd sy ci co wl _).mono ?_
          rintro e w2 ⟨rfl, b2⟩
          rw [unhide HK]
          refine hK.out _ _ (sBox2 ((unhide HBX).drew.below b2) ((unhide hP).drew.below b2)) (fun hHeld => ?_)
          clear hK K
          (try simp only [Act.put, List.setIfInBounds_toArray, List.set_cons_zero, List.set_cons_succ])
          refine Rg.t 2 14 ?_
          refine Rg.t 3 15 ?_
          refine Rg.t 4 16 ?_
          refine Rg.t 5 17 ?_
          refine Rg.t 6 18 ?_
          refine Rg.t 7 19 ?_
          refine Rg.t 8 20 ?_
          refine Rg.t 9 21 ?_
          refine Rg.t 10 22 ?_
          refine Rg.t 11 23 ?_
          refine Rg.t 12 24 ?_
          refine Rg.t 13 25 ?_
          refine Rg.t 14 26 ?_
          refine Rg.t 15 27 ?_
          refine Rg.t 16 28 ?_
          refine Rg.t 17 29 ?_
          refine wpAnyH_done (by kernel_rfl) (NoPanic.normal ?_) _
          have hb1 := hide ((unhide HBL).drew.trans (b2.mono (by show w.heap.size ≤ W0.heap.size; exact (unhide HBL).size)))
          go_wp2_with fail
          go_ret
          exact ⟨ret_bool (unhide HST).symm, unhide hb1⟩
    · obtain rfl : j = n := by omega
      have HO : Hid (linksB ms = true) := hide (by unfold linksB; rw [unhide HN]; exact unhide hrl)
      go_wp2
      go_ret
      exact ⟨ret_bool (unhide HO).symm, unhide hbl⟩
set_option maxHeartbeats 1000000 in
theorem linksCode (a : Option Addr) (ms : List R) (cap : Nat) (w : World) (hm : ms.length ≤ 1048576) (hr : RM w a ms) :
    Calls Tryz.prog 204 #[.slice a ms.length cap] w fun e w' => e = .returned (.int .i64 (codeL ms)) ∧ Below w.heap.size w w' := by
  have HR := hide hr
  clear hr
  by_cases hbig : (4096 : Int) < ms.length
  · rw [code_long (ms := ms) (by omega)]
    go_enter Tryz.func204, Tryz.ntmps204
    go_wp2
    go_ret
    exact ⟨rfl, Below.refl _ _⟩
  cases hs : linksB ms
  · rw [code_bad (by omega) hs]
    have HS := hide hs
    clear hs
    go_enter Tryz.func204, Tryz.ntmps204
    go_wp2_with fail
    refine (implOK _ ms cap _ hm (unhide HR)).mono ?_
    rintro e w1 ⟨rfl, b1⟩
    rw [unhide HS]
    have HB := hide b1
    clear b1
    go_wp2_with fail
    go_ret
    exact ⟨rfl, unhide HB⟩
  rw [code_zero hs]
  have HS := hide hs
  clear hs
  go_enter Tryz.func204, Tryz.ntmps204
  go_wp2_with fail
  refine (implOK _ ms cap _ hm (unhide HR)).mono ?_
  rintro e w1 ⟨rfl, b1⟩
  rw [unhide HS]
  have HB := hide b1
  clear b1
  go_wp2_with fail
  go_ret
  exact ⟨rfl, unhide HB⟩
end Ln
end Go.Proofs.YtfooahhdikobeaaGreat
namespace Go.Proofs.YtfooahhdikobeaaGreat
open Go.ChangeShapes Go.WideShapes Go.ChangeAt Go.RowKit
set_option linter.unusedVariables false
namespace Mtr
open W1
def met (c : Nat) : Int := (257 + (c % 256 : Nat)) * 2 ^ (c / 256) - 256
theorem met_step (c : Nat) : met c < met (c + 1) := by
  unfold met
  have hp : (0 : Int) < 2 ^ (c / 256) := Int.pow_pos (by decide)
  by_cases h : c % 256 = 255
  · have h1 : (c + 1) % 256 = 0 := by omega
    have h2 : (c + 1) / 256 = c / 256 + 1 := by omega
    rw [h, h1, h2, Int.pow_succ]
    generalize (2 : Int) ^ (c / 256) = p at *
    omega
  · have h1 : (c + 1) % 256 = c % 256 + 1 := by omega
    have h2 : (c + 1) / 256 = c / 256 := by omega
    rw [h1, h2]
    have := Int.mul_lt_mul_of_pos_right (show (257 + ((c % 256 : Nat) : Int)) < 257 + ((c % 256 + 1 : Nat) : Int) by omega) hp
    omega
theorem met_mono {a b : Nat} (h : a ≤ b) : met a ≤ met b := by
  induction h with
  | refl => exact Int.le_refl _
  | step _ ih => exact Int.le_trans ih (Int.le_of_lt (met_step _))
theorem met_lo (a : Nat) : 1 ≤ met a := by
  have h0 : met 0 = 1 := by decide
  have := met_mono (Nat.zero_le a)
  omega
theorem met_hi {a : Nat} (h : a ≤ 4095) : met a ≤ 16776960 := by
  have h0 : met 4095 = 16776960 := by decide
  have := met_mono h
  omega
/-- k is the least code whose metric is n or more. -/
def IsCode (n : Int) (k : Nat) : Prop := k ≤ 4095 ∧ n ≤ met k ∧ (k = 0 ∨ met (k - 1) < n)
theorem arith1 (c : Nat) : ((c + 1) * 256 + 256 - 256 - 1) % 256 = 255 ∧ ((c + 1) * 256 + 256 - 256 - 1) / 256 = c := by omega
theorem arith2 {b q : Nat} (h : 257 ≤ q) (h' : q < 512) : (b * 256 + q - 256 - 1) % 256 = q - 257 ∧ (b * 256 + q - 256 - 1) / 256 = b := by omega
/-- The least code whose metric is n or more. -/
def mcode (n : Int) : Nat := cnt met 4096 n
theorem mcode_of {n : Int} {k : Nat} (h : IsCode n k) : mcode n = k :=
  cnt_of _ _ _ _ (by have := h.1; omega) (fun c hc => by
    rcases h.2.2 with e | e
    · omega
    · have := met_mono (show c ≤ k - 1 by omega); omega) (fun c hc _ => by have := met_mono hc; have := h.2.1; omega)
/-- The program's way to the code. -/
theorem fast {n : Nat} (h1 : 1 ≤ n) (h2 : n ≤ 16776960) :
    9 ≤ Lib.bitLen (n + 255) ∧ Lib.bitLen (n + 255) ≤ 24 ∧ 256 ≤ (n + 255) / 2 ^ (Lib.bitLen (n + 255) - 9) ∧ (n + 255) / 2 ^ (Lib.bitLen (n + 255) - 9) ≤ 511 ∧
    IsCode n ((Lib.bitLen (n + 255) - 9) * 256 + (n + 255) / 2 ^ (Lib.bitLen (n + 255) - 9) - 256) ∧ (n ≤ 256 → met ((Lib.bitLen (n + 255) - 9) * 256 + (n + 255) / 2 ^ (Lib.bitLen (n + 255) - 9) - 256) = n) := by
  obtain ⟨l1, l2, l3⟩ := Lib.bitLenAux_bounds 64 (n + 255) (by omega) (by omega)
  have hb : Lib.bitLen (n + 255) = Lib.bitLenAux 64 (n + 255) := by rw [Lib.bitLen]
  rw [← hb] at l1 l2 l3
  clear hb
  generalize Lib.bitLen (n + 255) = L at *
  have a1 : 9 ≤ L := by
    rcases Nat.lt_or_ge L 9 with h | h
    · have := Nat.pow_le_pow_right (n := 2) (by decide) (show L ≤ 8 by omega); omega
    · exact h
  have a2 : L ≤ 24 := by
    rcases Nat.lt_or_ge 24 L with h | h
    · have := Nat.pow_le_pow_right (n := 2) (by decide) (show 24 ≤ L - 1 by omega); omega
    · exact h
  obtain ⟨b, rfl⟩ : ∃ b, L = b + 9 := ⟨L - 9, by omega⟩
  have e1 : b + 9 - 1 = b + 8 := by omega
  have e2 : b + 9 - 9 = b := by omega
  rw [e1, Nat.pow_add] at l2
  rw [Nat.pow_add] at l3
  rw [e2]
  have hp : 0 < 2 ^ b := Nat.two_pow_pos _
  have q1 : 256 ≤ (n + 255) / 2 ^ b := (Nat.le_div_iff_mul_le hp).2 (by omega)
  have q2 : (n + 255) / 2 ^ b < 512 := (Nat.div_lt_iff_lt_mul hp).2 (by omega)
  have dm := Nat.div_add_mod (n + 255) (2 ^ b)
  have ml := Nat.mod_lt (n + 255) hp
  generalize hq : (n + 255) / 2 ^ b = q at *
  refine ⟨a1, a2, q1, by omega, ?_⟩
  have k1 : (b * 256 + q - 256) % 256 = q - 256 := by omega
  have k2 : (b * 256 + q - 256) / 256 = b := by omega
  have hme : met (b * 256 + q - 256) = ((2 ^ b * q + 2 ^ b : Nat) : Int) - 256 := by
    unfold met
    rw [k1, k2]
    have : (257 + ((q - 256 : Nat) : Int)) = (q : Int) + 1 := by omega
    rw [this, Int.add_mul]
    simp [Int.mul_comm]
  refine ⟨⟨by omega, by rw [hme]; omega, ?_⟩, ?_⟩
  · by_cases hz : b * 256 + q - 256 = 0
    · exact .inl hz
    · right
      have hm2 : met (b * 256 + q - 256 - 1) = ((2 ^ b * q : Nat) : Int) - 256 := by
        unfold met
        by_cases hq0 : q = 256
        · subst hq0
          obtain ⟨c, rfl⟩ : ∃ c, b = c + 1 := ⟨b - 1, by omega⟩
          obtain ⟨k3, k4⟩ := arith1 c
          rw [k3, k4, Nat.pow_succ]
          simp
          generalize (2 : Int) ^ c = p
          omega
        · obtain ⟨k3, k4⟩ := arith2 (b := b) (show 257 ≤ q by omega) q2
          rw [k3, k4]
          have : (257 + ((q - 257 : Nat) : Int)) = (q : Int) := by omega
          rw [this]
          simp [Int.mul_comm]
      rw [hm2]
      generalize 2 ^ b * q = pq at *
      omega
  · intro hn
    have hb : b = 0 := by
      rcases Nat.eq_zero_or_pos b with h | h
      · exact h
      · have : 2 ^ 1 ≤ 2 ^ b := Nat.pow_le_pow_right (by decide) h
        omega
    subst hb
    rw [hme]
    simp at *
    omega
theorem mcode_is {n : Int} (h0 : 1 ≤ n) (h1 : n ≤ 16776960) : IsCode n (mcode n) := by
  obtain ⟨c, rfl⟩ := Int.eq_ofNat_of_zero_le (show 0 ≤ n by omega)
  obtain ⟨_, _, _, _, hc, _⟩ := fast (n := c) (by omega) (by omega)
  rw [mcode_of hc]; exact hc
theorem and_mask (j : Nat) (hj : j ≤ 16) (x m : Int) (hm : m = ((2 ^ j - 1 : Nat) : Int)) : bits BinOp.and IntKind.i64 x m = x % ((2 ^ j : Nat) : Int) := by
  subst hm
  have hp : 2 ^ j ≤ 2 ^ 16 := Nat.pow_le_pow_right (by decide) hj
  have hp1 : 0 < 2 ^ j := Nat.two_pow_pos j
  have hd : 2 ^ j ∣ 2 ^ 64 := Nat.pow_dvd_pow 2 (by omega)
  show IntKind.i64.wrap ((BitVec.ofInt 64 x &&& BitVec.ofInt 64 ((2 ^ j - 1 : Nat) : Int)).toNat : Int) = _
  rw [BitVec.toNat_and, ofInt_u64 (2 ^ j - 1) (by omega), Nat.and_two_pow_sub_one_eq_mod, BitVec.toNat_ofInt, IntWalk.i64_left]
  have h1 : (((x % ((2 ^ 64 : Nat) : Int)).toNat % 2 ^ j : Nat) : Int) = x % ((2 ^ j : Nat) : Int) := by
    rw [Int.natCast_emod, Int.toNat_of_nonneg (Int.emod_nonneg _ (by decide)), Int.emod_emod_of_dvd _ (Int.natCast_dvd_natCast.2 hd)]
  rw [h1]
  have h2 := Int.emod_nonneg x (show ((2 ^ j : Nat) : Int) ≠ 0 by omega)
  have h3 := Int.emod_lt_of_pos x (show (0 : Int) < ((2 ^ j : Nat) : Int) by omega)
  unfold wrap64
  generalize x % ((2 ^ j : Nat) : Int) = y at *
  omega
theorem and_255 (x : Int) : bits BinOp.and IntKind.i64 x 255 = x % 256 := and_mask 8 (by decide) x 255 rfl
theorem met_wrap {c : Nat} (hc : c ≤ 4095) : wrap64 (wrap64 ((257 + (c : Int) % 256) * 2 ^ (c / 256)) - 256) = met c := by
  have h0 := met_lo c
  have h1 := met_hi hc
  have e : (257 + (c : Int) % 256) * 2 ^ (c / 256) = met c + 256 := by unfold met; simp
  rw [e]
  unfold wrap64
  omega
set_option maxHeartbeats 400000 in
theorem metricAt (c : Nat) (hc : c ≤ 4095) (w : World) : Calls Tryz.prog 220 #[.int .i64 c] w fun e w' => e = .returned (.int .i64 (met c)) ∧ w' = w := by
  go_enter Tryz.func220, Tryz.ntmps220
  go_wp2
  go_ret
  exact ⟨ret_int (met_wrap hc), rfl⟩
theorem met_wrap2 {c : Nat} (hc : c ≤ 4095) : wrap64 (wrap64 (wrap64 (257 + bits BinOp.and IntKind.i64 c 255) * 2 ^ (c / 256)) - 256) = met c := by
  have e : wrap64 (257 + bits BinOp.and IntKind.i64 c 255) = 257 + (c : Int) % 256 := by rw [and_255]; unfold wrap64; omega
  rw [e]; exact met_wrap hc
set_option maxHeartbeats 400000 in
theorem l02Metric (c : Nat) (hc : c ≤ 4095) (w : World) : Calls Tryz.prog 180 #[.int .i64 c] w fun e w' => e = .returned (.int .i64 (met c)) ∧ w' = w := by
  go_enter Tryz.func180, Tryz.ntmps180
  go_wp2
  go_ret
  exact ⟨ret_int (met_wrap2 hc), rfl⟩
set_option maxHeartbeats 400000 in
theorem leastMetric (n : Int) (h0 : 1 ≤ n) (h1 : n ≤ 16776960) (w : World) : Calls Tryz.prog 221 #[.int .i64 n] w fun e w' => e = .returned (.int .i64 (mcode n)) ∧ w' = w := by
  obtain ⟨c, rfl⟩ := Int.eq_ofNat_of_zero_le (show 0 ≤ n by omega)
  obtain ⟨l1, l2, q1, q2, hc, hx⟩ := fast (n := c) (by omega) (by omega)
  obtain ⟨b, hb⟩ : ∃ b, Lib.bitLen (c + 255) = b + 9 := ⟨_, (Nat.sub_add_cancel l1).symm⟩
  have hL : ((Lib.bitLen ((c : Int) + 256 - 1).toNat : Nat) : Int) = (b : Int) + 9 := by
    rw [show ((c : Int) + 256 - 1).toNat = c + 255 by omega, hb]; rfl
  rw [hb, Nat.add_sub_cancel] at hc q1 q2
  rw [hb] at l2
  clear hb l1 hx
  have HC := hide (mcode_of hc)
  clear hc
  have hd : ((c : Int) + 256 - 1) / 2 ^ b = (((c + 255) / 2 ^ b : Nat) : Int) := by
    rw [show (c : Int) + 256 - 1 = ((c + 255 : Nat) : Int) by omega]; simp
  generalize (c + 255) / 2 ^ b = q at *
  go_enter Tryz.func221, Tryz.ntmps221
  go_wp2_with (go_at_call 224; refine (Tryz.bits_Len ((c : Int) + 256 - 1) _ (by omega) (by omega)).mono ?_; rintro e w' ⟨rfl, rfl⟩; rw [hL])
  go_ret
  exact ⟨ret_int (by rw [unhide HC]; omega), rfl⟩
set_option maxHeartbeats 400000 in
theorem l02MetricCode (n : Int) (h0 : 1 ≤ n) (h1 : n ≤ 16776960) (w : World) : Calls Tryz.prog 181 #[.int .i64 n] w fun e w' => (∃ k : Nat, e = .returned (.int .i64 k) ∧ IsCode n k) ∧ w' = w := by
  go_enter Tryz.func181, Tryz.ntmps181
  go_wp2
  go_loop [3, 4] (fun l h => ∃ a b : Nat, l = .int .i64 a ∧ h = .int .i64 b ∧ a ≤ b ∧ b ≤ 4095 ∧ n ≤ met b ∧ (a = 0 ∨ met (a - 1) < n)) (fun l h => (intOf h - intOf l).toNat)
  case atStart => exact ⟨0, 4095, rfl, rfl, by omega, by omega, by rw [show met 4095 = 16776960 by decide]; exact h1, .inl rfl⟩
  case round =>
    obtain ⟨a, b, rfl, rfl, hab, hb, hm, ha⟩ := hrel
    have HM := hide hm
    have HA := hide ha
    clear hm ha
    by_cases hlt : a < b
    · obtain ⟨m, hm1, hm2⟩ : ∃ m : Nat, a ≤ m ∧ m < b ∧ Hid (((a : Int) + b) / 2 = m) := ⟨(a + b) / 2, by omega, by omega, hide (by omega)⟩
      obtain ⟨hm2, HQ⟩ := hm2
      by_cases hge : n ≤ met m
      · go_wp2_with (go_at_call 180; rw [unhide HQ]; refine (l02Metric m (by omega) _).mono ?_; rintro e w' ⟨rfl, rfl⟩)
        go_round
        case rel => exact ⟨a, m, rfl, rfl, by omega, by omega, hge, unhide HA⟩
        case measure => simp [intOf]; omega
      · go_wp2_with (go_at_call 180; rw [unhide HQ]; refine (l02Metric m (by omega) _).mono ?_; rintro e w' ⟨rfl, rfl⟩)
        go_round
        case rel => exact ⟨m + 1, b, by rfl, rfl, by omega, by omega, unhide HM, .inr (by rw [Nat.add_sub_cancel]; exact hge)⟩
        case measure => simp [intOf]; omega
    · have hab' : a = b := by omega
      subst hab'
      go_wp2
      go_ret
      exact ⟨⟨a, rfl, by omega, unhide HM, unhide HA⟩, rfl⟩
theorem l02MetricCodeE (n : Int) (h0 : 1 ≤ n) (h1 : n ≤ 16776960) (w : World) : Calls Tryz.prog 181 #[.int .i64 n] w fun e w' => e = .returned (.int .i64 (mcode n)) ∧ w' = w :=
  (l02MetricCode n h0 h1 w).mono fun e w' ⟨⟨k, he, hk⟩, hw⟩ => ⟨by rw [mcode_of hk]; exact he, hw⟩
end Mtr
end Go.Proofs.YtfooahhdikobeaaGreat
