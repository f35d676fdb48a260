/-
  Of the texts RtrQ, RtrA, RtrB, RtrK, StrHello: what this claim needs of them. (put together by mkprune.py)
-/
import Derived.Test.YtiipppfkpgbpeaaGreatQb9
import Derived.Deep.QuietTactic
import Derived.BigQuiet
namespace Go.Proofs.YtiipppfkpgbpeaaGreat
open Go.ChangeShapes Go.WideShapes Go.ChangeAt Go.RowKit
set_option linter.unusedVariables false
set_option linter.unusedSimpArgs false
set_option maxRecDepth 100000
attribute [local go_sem ↓] Go.wp_at_zero Go.wp_at_succ
namespace Rt
open W1
/-- The code of a call with a router: right or not. -/
def rtrC (b : Bool) : Int := if b = true then 0 else 1
set_option maxHeartbeats 400000 in
theorem l04ExM (n : Int) (h0 : 1 ≤ n) (h1 : n ≤ 16776960) (w : World) : Calls Tryz.prog 83 #[.int .i64 n] w fun e w' => e = .returned (.bool (Av.exM n)) ∧ w' = w := by
  have hk := (Mtr.mcode_is (n := n) (by omega) (by omega)).1
  have E : Hid (Av.exM n = (Mtr.met (Mtr.mcode n) == n)) := hide rfl
  generalize hq : Mtr.mcode n = k at *
  have HQ := hide hq
  clear hq
  cases hx : Mtr.met k == n
  all_goals
    go_enter Tryz.func83, Tryz.ntmps83
    go_wp2_with (first | (go_at_call 148; refine (Mtr.l02MetricCodeE n (by omega) (by omega) _).mono ?_; rintro e w' ⟨rfl, rfl⟩; rw [unhide HQ]) | (go_at_call 147; refine (Mtr.l02Metric k hk _).mono ?_; rintro e w' ⟨rfl, rfl⟩))
    go_ret
    exact ⟨ret_bool (by rw [unhide E, hx]), rfl⟩
def obB (x : Lk.R) : Bool := outB x.co x.sy
theorem lks_found {me : Int} {ls : List Lk.R} (h : (ls.find? (Ln.isAd me)).isSome = true) : lksB me ls = false := by
  obtain ⟨x, hx⟩ := Option.isSome_iff_exists.1 h
  have h1 := List.mem_of_find?_eq_some hx
  have h2 := List.find?_some hx
  unfold lksB
  have : ls.all (lkB me) = false := by
    rw [List.all_eq_false]
    refine ⟨x, h1, ?_⟩
    unfold Ln.isAd at h2
    unfold lkB; rw [h2]; simp
  rw [this, Bool.and_false]
theorem lks_all {me : Int} {ls : List Lk.R} (hl : Ln.linksB ls = true) (h : (ls.find? (Ln.isAd me)).isSome = false) : lksB me ls = ls.all obB := by
  have hn : ∀ x ∈ ls, (x.ad == me) = false := by
    intro x hx
    have h' : ls.find? (Ln.isAd me) = none := by cases e : ls.find? (Ln.isAd me) <;> simp_all
    have := List.find?_eq_none.1 h' x hx
    unfold Ln.isAd at this
    simpa using this
  unfold lksB; rw [hl, Bool.true_and]
  cases e : ls.all obB
  · rw [List.all_eq_false] at e ⊢
    obtain ⟨x, hx, hb⟩ := e
    exact ⟨x, hx, by unfold lkB; unfold obB at hb; rw [hn x hx]; simpa using hb⟩
  · rw [List.all_eq_true] at e ⊢
    intro x hx
    have := e x hx
    unfold obB at this
    unfold lkB; rw [hn x hx, this]; rfl
theorem bel_drewN (w : World) (n : Nat) : Below w.heap.size w (w.drewN n) := by
  have h := Below.refl w.heap.size w
  exact ⟨h.os, h.tape, h.output, h.size, h.block⟩
/-- The ways of a link's numbers. -/
theorem ob_ways {co sy : Int} (h0 : 0 ≤ co) (h1 : co ≤ 16744448) (hs : 0 ≤ sy) :
    (co = 0 ∧ sy = 0 ∧ outB co sy = true) ∨ (co = 0 ∧ 0 < sy ∧ outB co sy = false) ∨ (0 < co ∧ Av.exM co = false ∧ outB co sy = false) ∨ (0 < co ∧ Av.exM co = true ∧ 16744192 < co ∧ outB co sy = false) ∨ (0 < co ∧ Av.exM co = true ∧ ¬ 16744192 < co ∧ outB co sy = true) := by
  by_cases e : co = 0
  · subst e
    by_cases e2 : sy = 0
    · subst e2; exact .inl ⟨rfl, rfl, rfl⟩
    · exact .inr (.inl ⟨rfl, by omega, by unfold outB; simp [e2]⟩)
  · have hc : (co == 0) = false := by simpa using e
    cases ex : Av.exM co
    · exact .inr (.inr (.inl ⟨by omega, rfl, by unfold outB Av.toldB; rw [hc, ex]; simp⟩))
    · by_cases e3 : 16744192 < co
      · exact .inr (.inr (.inr (.inl ⟨by omega, rfl, e3, by unfold outB Av.toldB inB; rw [hc, ex]; simp; omega⟩)))
      · exact .inr (.inr (.inr (.inr ⟨by omega, rfl, e3, by unfold outB Av.toldB inB; rw [hc, ex]; simp; omega⟩)))
set_option maxHeartbeats 32000000 in
theorem specRtr (x1 x2 x3 x4 x5 x6 : Int) (a1 a2 a3 a4 a5 a6 a7 : Option Addr) (c1 c2 c3 c4 c5 c6 c7 : Nat) (ls : List Lk.R) (tw : List Tu.R) (se : List Tu.R) (du : List Tu.R) (ss : List So.R) (es : List Tu.R) (la : List Ed.R) (w : World) (hm1 : ls.length ≤ 1048576) (hm2 : tw.length ≤ 1048576) (hm3 : se.length ≤ 1048576) (hm4 : du.length ≤ 1048576) (hm5 : ss.length ≤ 1048576) (hm6 : es.length ≤ 1048576) (hm7 : la.length ≤ 1048576) (hr1 : Lk.RM w a1 ls) (hr2 : Tu.RM w a2 tw) (hr3 : Tu.RM w a3 se) (hr4 : Tu.RM w a4 du) (hr5 : So.RM w a5 ss) (hr6 : Tu.RM w a6 es) (hr7 : Ed.RM w a7 la) :
    Calls Tryz.prog 34 #[.agg #[.int .i64 x1, .int .i64 x2, .int .i64 x3, .int .i64 x4, .int .i64 x5, .slice a1 ls.length c1, .slice a2 tw.length c2, .slice a3 se.length c3, .slice a4 du.length c4, .slice a5 ss.length c5, .slice a6 es.length c6, .slice a7 la.length c7, .int .i64 x6]] w fun e w' => e = .returned (.bool (rtrB x1 x2 x3 x4 x5 x6 ls tw se du ss es la)) ∧ Below w.heap.size w w' := by
  have HAL : Hid (Al w (w.alloc (.cells #[.int .i64 x1, .int .i64 x2, .int .i64 x3, .int .i64 x4, .int .i64 x5, .slice a1 ls.length c1, .slice a2 tw.length c2, .slice a3 se.length c3, .slice a4 du.length c4, .slice a5 ss.length c5, .slice a6 es.length c6, .slice a7 la.length c7, .int .i64 x6] 38)) (rC x1 x2 x3 x4 x5 (.slice a1 ls.length c1) (.slice a2 tw.length c2) (.slice a3 se.length c3) (.slice a4 du.length c4) (.slice a5 ss.length c5) (.slice a6 es.length c6) (.slice a7 la.length c7) x6)) := hide ⟨(Below.refl _ _).alloc (Nat.le_refl _) _, ra_new w _ rfl _⟩
  have HR1 := hide hr1
  clear hr1
  have HR2 := hide hr2
  clear hr2
  have HR3 := hide hr3
  clear hr3
  have HR4 := hide hr4
  clear hr4
  have HR5 := hide hr5
  clear hr5
  have HR6 := hide hr6
  clear hr6
  have HR7 := hide hr7
  clear hr7
  have K7 := hide (fun W => Ln.specOK a1 ls c1 W hm1)
  have K8 := hide (fun W => Tw.l07OK a2 tw c2 W hm2)
  have K9 := hide (fun W => St.specOK a3 se c3 W hm3)
  have K10 := hide (fun W => St.specOK a4 du c4 W hm4)
  have K11 := hide (fun W => Tp.specOK a5 ss c5 a6 es c6 W hm5 hm6)
  have K12 := hide (fun W => Av.l05Edges a7 la c7 W hm7)
  have K13 := hide (fun W => Ln.l06Find a1 ls c1 x1 W hm1)
  have K14 := hide (fun W => Tp.l09Find a5 ss c5 (.slice a6 es.length c6) x1 W hm5)
  obtain ⟨y1, y2, y3, y4, y5, y6, hy⟩ : ∃ y1 y2 y3 y4 y5 y6, Ln.lkF ls x1 = ⟨y1, y2, y3, y4, y5, y6⟩ := ⟨_, _, _, _, _, _, rfl⟩
  obtain ⟨v1, v2, v3, hu⟩ : ∃ v1 v2 v3, Tp.fS ss x1 = ⟨v1, v2, v3⟩ := ⟨_, _, _, rfl⟩
  rw [hy] at K13
  rw [hu] at K14
  dsimp only [Lk.R.value] at K13
  dsimp only [So.R.value] at K14
  clear hy hu
  cases h1 : inB x1 1 8
  · have hv : rtrB x1 x2 x3 x4 x5 x6 ls tw se du ss es la = false := by unfold rtrB; rw [h1]; rfl
    rw [hv]
    clear hv
    go_enter Tryz.func34, Tryz.ntmps34
    go_wp2_with (first | (go_at_call 63; refine (l01Addr _ _).mono ?_; rintro e w_ ⟨rfl, rfl⟩) | (go_at_call 64; refine (l01In _ _ _ _).mono ?_; rintro e w_ ⟨rfl, rfl⟩))
    go_ret
    exact ⟨rfl, (unhide HAL).1⟩
  cases h2 : inB x2 0 7
  · have hv : rtrB x1 x2 x3 x4 x5 x6 ls tw se du ss es la = false := by unfold rtrB; rw [h1, h2]; rfl
    rw [hv]
    clear hv
    go_enter Tryz.func34, Tryz.ntmps34
    go_wp2_with (first | (go_at_call 63; refine (l01Addr _ _).mono ?_; rintro e w_ ⟨rfl, rfl⟩) | (go_at_call 64; refine (l01In _ _ _ _).mono ?_; rintro e w_ ⟨rfl, rfl⟩))
    go_ret
    exact ⟨rfl, (unhide HAL).1⟩
  cases h3 : inB x3 0 65535
  · have hv : rtrB x1 x2 x3 x4 x5 x6 ls tw se du ss es la = false := by unfold rtrB; rw [h1, h2, h3]; rfl
    rw [hv]
    clear hv
    go_enter Tryz.func34, Tryz.ntmps34
    go_wp2_with (first | (go_at_call 63; refine (l01Addr _ _).mono ?_; rintro e w_ ⟨rfl, rfl⟩) | (go_at_call 64; refine (l01In _ _ _ _).mono ?_; rintro e w_ ⟨rfl, rfl⟩))
    go_ret
    exact ⟨rfl, (unhide HAL).1⟩
  cases h4 : inB x4 0 65535
  · have hv : rtrB x1 x2 x3 x4 x5 x6 ls tw se du ss es la = false := by unfold rtrB; rw [h1, h2, h3, h4]; rfl
    rw [hv]
    clear hv
    go_enter Tryz.func34, Tryz.ntmps34
    go_wp2_with (first | (go_at_call 63; refine (l01Addr _ _).mono ?_; rintro e w_ ⟨rfl, rfl⟩) | (go_at_call 64; refine (l01In _ _ _ _).mono ?_; rintro e w_ ⟨rfl, rfl⟩))
    go_ret
    exact ⟨rfl, (unhide HAL).1⟩
  cases h5 : inB x5 0 100000
  · have hv : rtrB x1 x2 x3 x4 x5 x6 ls tw se du ss es la = false := by unfold rtrB; rw [h1, h2, h3, h4, h5]; rfl
    rw [hv]
    clear hv
    go_enter Tryz.func34, Tryz.ntmps34
    go_wp2_with (first | (go_at_call 63; refine (l01Addr _ _).mono ?_; rintro e w_ ⟨rfl, rfl⟩) | (go_at_call 64; refine (l01In _ _ _ _).mono ?_; rintro e w_ ⟨rfl, rfl⟩))
    go_ret
    exact ⟨rfl, (unhide HAL).1⟩
  cases h6 : inB x6 0 1000000
  · have hv : rtrB x1 x2 x3 x4 x5 x6 ls tw se du ss es la = false := by unfold rtrB; rw [h1, h2, h3, h4, h5, h6]; rfl
    rw [hv]
    clear hv
    go_enter Tryz.func34, Tryz.ntmps34
    go_wp2_with (first | (go_at_call 63; refine (l01Addr _ _).mono ?_; rintro e w_ ⟨rfl, rfl⟩) | (go_at_call 64; refine (l01In _ _ _ _).mono ?_; rintro e w_ ⟨rfl, rfl⟩))
    go_ret
    exact ⟨rfl, (unhide HAL).1⟩
  cases h7 : Ln.linksB ls
  · have e7 : lksB x1 ls = false := by unfold lksB; rw [h7]; rfl
    have hv : rtrB x1 x2 x3 x4 x5 x6 ls tw se du ss es la = false := by unfold rtrB; rw [e7]; simp
    clear e7
    rw [hv]
    clear hv
    rw [h7] at K7
    clear h7
    go_enter Tryz.func34, Tryz.ntmps34
    go_wp2_with (first | (go_at_call 63; refine (l01Addr _ _).mono ?_; rintro e w_ ⟨rfl, rfl⟩) | (go_at_call 64; refine (l01In _ _ _ _).mono ?_; rintro e w_ ⟨rfl, rfl⟩))
    clear h1 h2 h3 h4 h5 h6
    generalize hW0 : w.alloc (.cells #[.int .i64 x1, .int .i64 x2, .int .i64 x3, .int .i64 x4, .int .i64 x5, .slice a1 ls.length c1, .slice a2 tw.length c2, .slice a3 se.length c3, .slice a4 du.length c4, .slice a5 ss.length c5, .slice a6 es.length c6, .slice a7 la.length c7, .int .i64 x6] 38) = W0 at *
    clear hW0
    refine (unhide K7 _ ((unhide HR1).below (unhide HAL).1)).mono ?_
    rintro e V7 ⟨rfl, b_⟩
    replace HAL := hide (al_below (unhide HAL) b_)
    clear b_
    go_wp2_with fail
    go_ret
    exact ⟨rfl, (unhide HAL).1⟩
  cases h8 : Tw.twoB tw
  · have e8 : twoOf x1 tw = false := by unfold twoOf; rw [h8]; rfl
    have hv : rtrB x1 x2 x3 x4 x5 x6 ls tw se du ss es la = false := by unfold rtrB; rw [e8]; simp
    clear e8
    rw [hv]
    clear hv
    rw [h7] at K7
    rw [h8] at K8
    clear h7 h8
    go_enter Tryz.func34, Tryz.ntmps34
    go_wp2_with (first | (go_at_call 63; refine (l01Addr _ _).mono ?_; rintro e w_ ⟨rfl, rfl⟩) | (go_at_call 64; refine (l01In _ _ _ _).mono ?_; rintro e w_ ⟨rfl, rfl⟩))
    clear h1 h2 h3 h4 h5 h6
    generalize hW0 : w.alloc (.cells #[.int .i64 x1, .int .i64 x2, .int .i64 x3, .int .i64 x4, .int .i64 x5, .slice a1 ls.length c1, .slice a2 tw.length c2, .slice a3 se.length c3, .slice a4 du.length c4, .slice a5 ss.length c5, .slice a6 es.length c6, .slice a7 la.length c7, .int .i64 x6] 38) = W0 at *
    clear hW0
    refine (unhide K7 _ ((unhide HR1).below (unhide HAL).1)).mono ?_
    rintro e V7 ⟨rfl, b_⟩
    replace HAL := hide (al_below (unhide HAL) b_)
    clear b_
    have z6 := (unhide HAL).2.at (i := 6) rfl
    go_wp2_with fail
    clear z6
    refine (unhide K8 _ ((unhide HR2).below (unhide HAL).1)).mono ?_
    rintro e V8 ⟨rfl, b_⟩
    replace HAL := hide (al_below (unhide HAL) b_)
    clear b_
    go_wp2_with fail
    go_ret
    exact ⟨rfl, (unhide HAL).1⟩
  cases h9 : St.setB se
  · have hv : rtrB x1 x2 x3 x4 x5 x6 ls tw se du ss es la = false := by unfold rtrB; rw [h9]; simp
    rw [hv]
    clear hv
    rw [h7] at K7
    rw [h8] at K8
    rw [h9] at K9
    clear h7 h8 h9
    go_enter Tryz.func34, Tryz.ntmps34
    go_wp2_with (first | (go_at_call 63; refine (l01Addr _ _).mono ?_; rintro e w_ ⟨rfl, rfl⟩) | (go_at_call 64; refine (l01In _ _ _ _).mono ?_; rintro e w_ ⟨rfl, rfl⟩))
    clear h1 h2 h3 h4 h5 h6
    generalize hW0 : w.alloc (.cells #[.int .i64 x1, .int .i64 x2, .int .i64 x3, .int .i64 x4, .int .i64 x5, .slice a1 ls.length c1, .slice a2 tw.length c2, .slice a3 se.length c3, .slice a4 du.length c4, .slice a5 ss.length c5, .slice a6 es.length c6, .slice a7 la.length c7, .int .i64 x6] 38) = W0 at *
    clear hW0
    refine (unhide K7 _ ((unhide HR1).below (unhide HAL).1)).mono ?_
    rintro e V7 ⟨rfl, b_⟩
    replace HAL := hide (al_below (unhide HAL) b_)
    clear b_
    have z6 := (unhide HAL).2.at (i := 6) rfl
    go_wp2_with fail
    clear z6
    refine (unhide K8 _ ((unhide HR2).below (unhide HAL).1)).mono ?_
    rintro e V8 ⟨rfl, b_⟩
    replace HAL := hide (al_below (unhide HAL) b_)
    clear b_
    have z7 := (unhide HAL).2.at (i := 7) rfl
    go_wp2_with fail
    clear z7
    refine (unhide K9 _ ((unhide HR3).below (unhide HAL).1)).mono ?_
    rintro e V9 ⟨rfl, b_⟩
    replace HAL := hide (al_below (unhide HAL) b_)
    clear b_
    go_wp2_with fail
    go_ret
    exact ⟨rfl, (unhide HAL).1⟩
  cases h10 : St.setB du
  · have hv : rtrB x1 x2 x3 x4 x5 x6 ls tw se du ss es la = false := by unfold rtrB; rw [h10]; simp
    rw [hv]
    clear hv
    rw [h7] at K7
    rw [h8] at K8
    rw [h9] at K9
    rw [h10] at K10
    clear h7 h8 h9 h10
    go_enter Tryz.func34, Tryz.ntmps34
    go_wp2_with (first | (go_at_call 63; refine (l01Addr _ _).mono ?_; rintro e w_ ⟨rfl, rfl⟩) | (go_at_call 64; refine (l01In _ _ _ _).mono ?_; rintro e w_ ⟨rfl, rfl⟩))
    clear h1 h2 h3 h4 h5 h6
    generalize hW0 : w.alloc (.cells #[.int .i64 x1, .int .i64 x2, .int .i64 x3, .int .i64 x4, .int .i64 x5, .slice a1 ls.length c1, .slice a2 tw.length c2, .slice a3 se.length c3, .slice a4 du.length c4, .slice a5 ss.length c5, .slice a6 es.length c6, .slice a7 la.length c7, .int .i64 x6] 38) = W0 at *
    clear hW0
    refine (unhide K7 _ ((unhide HR1).below (unhide HAL).1)).mono ?_
    rintro e V7 ⟨rfl, b_⟩
    replace HAL := hide (al_below (unhide HAL) b_)
    clear b_
    have z6 := (unhide HAL).2.at (i := 6) rfl
    go_wp2_with fail
    clear z6
    refine (unhide K8 _ ((unhide HR2).below (unhide HAL).1)).mono ?_
    rintro e V8 ⟨rfl, b_⟩
    replace HAL := hide (al_below (unhide HAL) b_)
    clear b_
    have z7 := (unhide HAL).2.at (i := 7) rfl
    go_wp2_with fail
    clear z7
    refine (unhide K9 _ ((unhide HR3).below (unhide HAL).1)).mono ?_
    rintro e V9 ⟨rfl, b_⟩
    replace HAL := hide (al_below (unhide HAL) b_)
    clear b_
    have z8 := (unhide HAL).2.at (i := 8) rfl
    go_wp2_with fail
    clear z8
    refine (unhide K10 _ ((unhide HR4).below (unhide HAL).1)).mono ?_
    rintro e V10 ⟨rfl, b_⟩
    replace HAL := hide (al_below (unhide HAL) b_)
    clear b_
    go_wp2_with fail
    go_ret
    exact ⟨rfl, (unhide HAL).1⟩
  cases h11 : Tp.topB ss es
  · have hv : rtrB x1 x2 x3 x4 x5 x6 ls tw se du ss es la = false := by unfold rtrB; rw [h11]; simp
    rw [hv]
    clear hv
    rw [h7] at K7
    rw [h8] at K8
    rw [h9] at K9
    rw [h10] at K10
    rw [h11] at K11
    clear h7 h8 h9 h10 h11
    go_enter Tryz.func34, Tryz.ntmps34
    go_wp2_with (first | (go_at_call 63; refine (l01Addr _ _).mono ?_; rintro e w_ ⟨rfl, rfl⟩) | (go_at_call 64; refine (l01In _ _ _ _).mono ?_; rintro e w_ ⟨rfl, rfl⟩))
    clear h1 h2 h3 h4 h5 h6
    generalize hW0 : w.alloc (.cells #[.int .i64 x1, .int .i64 x2, .int .i64 x3, .int .i64 x4, .int .i64 x5, .slice a1 ls.length c1, .slice a2 tw.length c2, .slice a3 se.length c3, .slice a4 du.length c4, .slice a5 ss.length c5, .slice a6 es.length c6, .slice a7 la.length c7, .int .i64 x6] 38) = W0 at *
    clear hW0
    refine (unhide K7 _ ((unhide HR1).below (unhide HAL).1)).mono ?_
    rintro e V7 ⟨rfl, b_⟩
    replace HAL := hide (al_below (unhide HAL) b_)
    clear b_
    have z6 := (unhide HAL).2.at (i := 6) rfl
    go_wp2_with fail
    clear z6
    refine (unhide K8 _ ((unhide HR2).below (unhide HAL).1)).mono ?_
    rintro e V8 ⟨rfl, b_⟩
    replace HAL := hide (al_below (unhide HAL) b_)
    clear b_
    have z7 := (unhide HAL).2.at (i := 7) rfl
    go_wp2_with fail
    clear z7
    refine (unhide K9 _ ((unhide HR3).below (unhide HAL).1)).mono ?_
    rintro e V9 ⟨rfl, b_⟩
    replace HAL := hide (al_below (unhide HAL) b_)
    clear b_
    have z8 := (unhide HAL).2.at (i := 8) rfl
    go_wp2_with fail
    clear z8
    refine (unhide K10 _ ((unhide HR4).below (unhide HAL).1)).mono ?_
    rintro e V10 ⟨rfl, b_⟩
    replace HAL := hide (al_below (unhide HAL) b_)
    clear b_
    have z9 := (unhide HAL).2.at (i := 9) rfl
    have z10 := (unhide HAL).2.at (i := 10) rfl
    go_wp2_with fail
    clear z9 z10
    refine (unhide K11 _ ((unhide HR5).below (unhide HAL).1) ((unhide HR6).below (unhide HAL).1)).mono ?_
    rintro e V11 ⟨rfl, b_⟩
    replace HAL := hide (al_below (unhide HAL) b_)
    clear b_
    go_wp2_with fail
    go_ret
    exact ⟨rfl, (unhide HAL).1⟩
  cases h12 : Av.allN la la.length
  · have hv : rtrB x1 x2 x3 x4 x5 x6 ls tw se du ss es la = false := by unfold rtrB; rw [h12]; simp
    rw [hv]
    clear hv
    rw [h7] at K7
    rw [h8] at K8
    rw [h9] at K9
    rw [h10] at K10
    rw [h11] at K11
    rw [h12] at K12
    clear h7 h8 h9 h10 h11 h12
    go_enter Tryz.func34, Tryz.ntmps34
    go_wp2_with (first | (go_at_call 63; refine (l01Addr _ _).mono ?_; rintro e w_ ⟨rfl, rfl⟩) | (go_at_call 64; refine (l01In _ _ _ _).mono ?_; rintro e w_ ⟨rfl, rfl⟩))
    clear h1 h2 h3 h4 h5 h6
    generalize hW0 : w.alloc (.cells #[.int .i64 x1, .int .i64 x2, .int .i64 x3, .int .i64 x4, .int .i64 x5, .slice a1 ls.length c1, .slice a2 tw.length c2, .slice a3 se.length c3, .slice a4 du.length c4, .slice a5 ss.length c5, .slice a6 es.length c6, .slice a7 la.length c7, .int .i64 x6] 38) = W0 at *
    clear hW0
    refine (unhide K7 _ ((unhide HR1).below (unhide HAL).1)).mono ?_
    rintro e V7 ⟨rfl, b_⟩
    replace HAL := hide (al_below (unhide HAL) b_)
    clear b_
    have z6 := (unhide HAL).2.at (i := 6) rfl
    go_wp2_with fail
    clear z6
    refine (unhide K8 _ ((unhide HR2).below (unhide HAL).1)).mono ?_
    rintro e V8 ⟨rfl, b_⟩
    replace HAL := hide (al_below (unhide HAL) b_)
    clear b_
    have z7 := (unhide HAL).2.at (i := 7) rfl
    go_wp2_with fail
    clear z7
    refine (unhide K9 _ ((unhide HR3).below (unhide HAL).1)).mono ?_
    rintro e V9 ⟨rfl, b_⟩
    replace HAL := hide (al_below (unhide HAL) b_)
    clear b_
    have z8 := (unhide HAL).2.at (i := 8) rfl
    go_wp2_with fail
    clear z8
    refine (unhide K10 _ ((unhide HR4).below (unhide HAL).1)).mono ?_
    rintro e V10 ⟨rfl, b_⟩
    replace HAL := hide (al_below (unhide HAL) b_)
    clear b_
    have z9 := (unhide HAL).2.at (i := 9) rfl
    have z10 := (unhide HAL).2.at (i := 10) rfl
    go_wp2_with fail
    clear z9 z10
    refine (unhide K11 _ ((unhide HR5).below (unhide HAL).1) ((unhide HR6).below (unhide HAL).1)).mono ?_
    rintro e V11 ⟨rfl, b_⟩
    replace HAL := hide (al_below (unhide HAL) b_)
    clear b_
    have z11 := (unhide HAL).2.at (i := 11) rfl
    go_wp2_with fail
    clear z11
    refine (unhide K12 _ ((unhide HR7).below (unhide HAL).1)).mono ?_
    rintro e V12 ⟨rfl, q_, hq_⟩
    have b_ : Below V11.heap.size V11 V12 := by rw [hq_]; exact bel_drewN _ _
    replace HAL := hide (al_below (unhide HAL) b_)
    clear hq_ q_ b_
    go_wp2_with fail
    go_ret
    exact ⟨rfl, (unhide HAL).1⟩
  cases h13 : (ls.find? (Ln.isAd x1)).isSome
  rotate_left
  · have e7 : lksB x1 ls = false := by exact lks_found h13
    have hv : rtrB x1 x2 x3 x4 x5 x6 ls tw se du ss es la = false := by unfold rtrB; rw [e7]; simp
    clear e7
    rw [hv]
    clear hv
    rw [h7] at K7
    rw [h8] at K8
    rw [h9] at K9
    rw [h10] at K10
    rw [h11] at K11
    rw [h12] at K12
    rw [h13] at K13
    clear h7 h8 h9 h10 h11 h12 h13
    go_enter Tryz.func34, Tryz.ntmps34
    go_wp2_with (first | (go_at_call 63; refine (l01Addr _ _).mono ?_; rintro e w_ ⟨rfl, rfl⟩) | (go_at_call 64; refine (l01In _ _ _ _).mono ?_; rintro e w_ ⟨rfl, rfl⟩))
    clear h1 h2 h3 h4 h5 h6
    generalize hW0 : w.alloc (.cells #[.int .i64 x1, .int .i64 x2, .int .i64 x3, .int .i64 x4, .int .i64 x5, .slice a1 ls.length c1, .slice a2 tw.length c2, .slice a3 se.length c3, .slice a4 du.length c4, .slice a5 ss.length c5, .slice a6 es.length c6, .slice a7 la.length c7, .int .i64 x6] 38) = W0 at *
    clear hW0
    refine (unhide K7 _ ((unhide HR1).below (unhide HAL).1)).mono ?_
    rintro e V7 ⟨rfl, b_⟩
    replace HAL := hide (al_below (unhide HAL) b_)
    clear b_
    have z6 := (unhide HAL).2.at (i := 6) rfl
    go_wp2_with fail
    clear z6
    refine (unhide K8 _ ((unhide HR2).below (unhide HAL).1)).mono ?_
    rintro e V8 ⟨rfl, b_⟩
    replace HAL := hide (al_below (unhide HAL) b_)
    clear b_
    have z7 := (unhide HAL).2.at (i := 7) rfl
    go_wp2_with fail
    clear z7
    refine (unhide K9 _ ((unhide HR3).below (unhide HAL).1)).mono ?_
    rintro e V9 ⟨rfl, b_⟩
    replace HAL := hide (al_below (unhide HAL) b_)
    clear b_
    have z8 := (unhide HAL).2.at (i := 8) rfl
    go_wp2_with fail
    clear z8
    refine (unhide K10 _ ((unhide HR4).below (unhide HAL).1)).mono ?_
    rintro e V10 ⟨rfl, b_⟩
    replace HAL := hide (al_below (unhide HAL) b_)
    clear b_
    have z9 := (unhide HAL).2.at (i := 9) rfl
    have z10 := (unhide HAL).2.at (i := 10) rfl
    go_wp2_with fail
    clear z9 z10
    refine (unhide K11 _ ((unhide HR5).below (unhide HAL).1) ((unhide HR6).below (unhide HAL).1)).mono ?_
    rintro e V11 ⟨rfl, b_⟩
    replace HAL := hide (al_below (unhide HAL) b_)
    clear b_
    have z11 := (unhide HAL).2.at (i := 11) rfl
    go_wp2_with fail
    clear z11
    refine (unhide K12 _ ((unhide HR7).below (unhide HAL).1)).mono ?_
    rintro e V12 ⟨rfl, q_, hq_⟩
    have b_ : Below V11.heap.size V11 V12 := by rw [hq_]; exact bel_drewN _ _
    replace HAL := hide (al_below (unhide HAL) b_)
    clear hq_ q_ b_
    have z5 := (unhide HAL).2.at (i := 5) rfl
    have z0 := (unhide HAL).2.at (i := 0) rfl
    go_wp2_with fail
    clear z5 z0
    refine (unhide K13 _ ((unhide HR1).below (unhide HAL).1)).mono ?_
    rintro e V13 ⟨rfl, b_⟩
    replace HAL := hide (al_below (unhide HAL) b_)
    clear b_
    have HAL2 := hide (al_below (unhide HAL) ((Below.refl _ _).alloc (Nat.le_refl _) (.cells #[.int .i64 y1, .int .i64 y2, .int .i64 y3, .int .i64 y4, .int .i64 y5, .int .i64 y6] 118)))
    go_wp2_with fail
    go_ret
    exact ⟨rfl, (unhide HAL2).1⟩
  cases h14 : Tp.hasS ss x1
  rotate_left
  · have hv : rtrB x1 x2 x3 x4 x5 x6 ls tw se du ss es la = false := by unfold rtrB; rw [h14]; simp
    rw [hv]
    clear hv
    rw [h7] at K7
    rw [h8] at K8
    rw [h9] at K9
    rw [h10] at K10
    rw [h11] at K11
    rw [h12] at K12
    rw [h13] at K13
    rw [h14] at K14
    clear h7 h8 h9 h10 h11 h12 h13 h14
    go_enter Tryz.func34, Tryz.ntmps34
    go_wp2_with (first | (go_at_call 63; refine (l01Addr _ _).mono ?_; rintro e w_ ⟨rfl, rfl⟩) | (go_at_call 64; refine (l01In _ _ _ _).mono ?_; rintro e w_ ⟨rfl, rfl⟩))
    clear h1 h2 h3 h4 h5 h6
    generalize hW0 : w.alloc (.cells #[.int .i64 x1, .int .i64 x2, .int .i64 x3, .int .i64 x4, .int .i64 x5, .slice a1 ls.length c1, .slice a2 tw.length c2, .slice a3 se.length c3, .slice a4 du.length c4, .slice a5 ss.length c5, .slice a6 es.length c6, .slice a7 la.length c7, .int .i64 x6] 38) = W0 at *
    clear hW0
    refine (unhide K7 _ ((unhide HR1).below (unhide HAL).1)).mono ?_
    rintro e V7 ⟨rfl, b_⟩
    replace HAL := hide (al_below (unhide HAL) b_)
    clear b_
    have z6 := (unhide HAL).2.at (i := 6) rfl
    go_wp2_with fail
    clear z6
    refine (unhide K8 _ ((unhide HR2).below (unhide HAL).1)).mono ?_
    rintro e V8 ⟨rfl, b_⟩
    replace HAL := hide (al_below (unhide HAL) b_)
    clear b_
    have z7 := (unhide HAL).2.at (i := 7) rfl
    go_wp2_with fail
    clear z7
    refine (unhide K9 _ ((unhide HR3).below (unhide HAL).1)).mono ?_
    rintro e V9 ⟨rfl, b_⟩
    replace HAL := hide (al_below (unhide HAL) b_)
    clear b_
    have z8 := (unhide HAL).2.at (i := 8) rfl
    go_wp2_with fail
    clear z8
    refine (unhide K10 _ ((unhide HR4).below (unhide HAL).1)).mono ?_
    rintro e V10 ⟨rfl, b_⟩
    replace HAL := hide (al_below (unhide HAL) b_)
    clear b_
    have z9 := (unhide HAL).2.at (i := 9) rfl
    have z10 := (unhide HAL).2.at (i := 10) rfl
    go_wp2_with fail
    clear z9 z10
    refine (unhide K11 _ ((unhide HR5).below (unhide HAL).1) ((unhide HR6).below (unhide HAL).1)).mono ?_
    rintro e V11 ⟨rfl, b_⟩
    replace HAL := hide (al_below (unhide HAL) b_)
    clear b_
    have z11 := (unhide HAL).2.at (i := 11) rfl
    go_wp2_with fail
    clear z11
    refine (unhide K12 _ ((unhide HR7).below (unhide HAL).1)).mono ?_
    rintro e V12 ⟨rfl, q_, hq_⟩
    have b_ : Below V11.heap.size V11 V12 := by rw [hq_]; exact bel_drewN _ _
    replace HAL := hide (al_below (unhide HAL) b_)
    clear hq_ q_ b_
    have z5 := (unhide HAL).2.at (i := 5) rfl
    have z0 := (unhide HAL).2.at (i := 0) rfl
    go_wp2_with fail
    clear z5 z0
    refine (unhide K13 _ ((unhide HR1).below (unhide HAL).1)).mono ?_
    rintro e V13 ⟨rfl, b_⟩
    replace HAL := hide (al_below (unhide HAL) b_)
    clear b_
    have HAL2 := hide (al_below (unhide HAL) ((Below.refl _ _).alloc (Nat.le_refl _) (.cells #[.int .i64 y1, .int .i64 y2, .int .i64 y3, .int .i64 y4, .int .i64 y5, .int .i64 y6] 118)))
    skip
    have z9 := (unhide HAL2).2.at (i := 9) rfl
    have z10 := (unhide HAL2).2.at (i := 10) rfl
    have z0 := (unhide HAL2).2.at (i := 0) rfl
    go_wp2_with fail
    clear z9 z10 z0
    generalize hW13 : V13.alloc (.cells #[.int .i64 y1, .int .i64 y2, .int .i64 y3, .int .i64 y4, .int .i64 y5, .int .i64 y6] 118) = W13 at *
    clear hW13
    replace HAL := HAL2
    clear HAL2
    refine (unhide K14 _ ((unhide HR5).below (unhide HAL).1)).mono ?_
    rintro e V14 ⟨rfl, b_⟩
    replace HAL := hide (al_below (unhide HAL) b_)
    clear b_
    have HAL2 := hide (al_below (unhide HAL) ((Below.refl _ _).alloc (Nat.le_refl _) (.cells #[.int .i64 v1, .int .i64 v2, .int .i64 v3] 122)))
    go_wp2_with fail
    go_ret
    exact ⟨rfl, (unhide HAL2).1⟩
  have HE : Hid (rtrB x1 x2 x3 x4 x5 x6 ls tw se du ss es la = (tw.all (twB x1) && ls.all obB)) := hide (by
    have e8 : twoOf x1 tw = tw.all (twB x1) := by unfold twoOf; rw [h8]; rfl
    unfold rtrB; rw [h1, h2, h3, h4, h5, h6, lks_all h7 h13, e8, h9, h10, h11, h14, h12]; simp [Bool.and_comm])
  obtain ⟨A, hA⟩ : ∃ A, rtrB x1 x2 x3 x4 x5 x6 ls tw se du ss es la = A := ⟨_, rfl⟩
  rw [hA] at HE ⊢
  clear hA
  have hl8 := Ln.links_len h7
  have hl62 := Tw.two_len h8
  have HLB := hide h7
  have HTW := hide h8
  rw [h7] at K7
  rw [h8] at K8
  rw [h9] at K9
  rw [h10] at K10
  rw [h11] at K11
  rw [h12] at K12
  rw [h13] at K13
  rw [h14] at K14
  clear h7 h8 h9 h10 h11 h12 h13 h14
  go_enter Tryz.func34, Tryz.ntmps34
  go_wp2_with (first | (go_at_call 63; refine (l01Addr _ _).mono ?_; rintro e w_ ⟨rfl, rfl⟩) | (go_at_call 64; refine (l01In _ _ _ _).mono ?_; rintro e w_ ⟨rfl, rfl⟩))
  clear h1 h2 h3 h4 h5 h6
  generalize hW0 : w.alloc (.cells #[.int .i64 x1, .int .i64 x2, .int .i64 x3, .int .i64 x4, .int .i64 x5, .slice a1 ls.length c1, .slice a2 tw.length c2, .slice a3 se.length c3, .slice a4 du.length c4, .slice a5 ss.length c5, .slice a6 es.length c6, .slice a7 la.length c7, .int .i64 x6] 38) = W0 at *
  clear hW0
  refine (unhide K7 _ ((unhide HR1).below (unhide HAL).1)).mono ?_
  rintro e V7 ⟨rfl, b_⟩
  replace HAL := hide (al_below (unhide HAL) b_)
  clear b_
  have z6 := (unhide HAL).2.at (i := 6) rfl
  go_wp2_with fail
  clear z6
  refine (unhide K8 _ ((unhide HR2).below (unhide HAL).1)).mono ?_
  rintro e V8 ⟨rfl, b_⟩
  replace HAL := hide (al_below (unhide HAL) b_)
  clear b_
  have z7 := (unhide HAL).2.at (i := 7) rfl
  go_wp2_with fail
  clear z7
  refine (unhide K9 _ ((unhide HR3).below (unhide HAL).1)).mono ?_
  rintro e V9 ⟨rfl, b_⟩
  replace HAL := hide (al_below (unhide HAL) b_)
  clear b_
  have z8 := (unhide HAL).2.at (i := 8) rfl
  go_wp2_with fail
  clear z8
  refine (unhide K10 _ ((unhide HR4).below (unhide HAL).1)).mono ?_
  rintro e V10 ⟨rfl, b_⟩
  replace HAL := hide (al_below (unhide HAL) b_)
  clear b_
  have z9 := (unhide HAL).2.at (i := 9) rfl
  have z10 := (unhide HAL).2.at (i := 10) rfl
  go_wp2_with fail
  clear z9 z10
  refine (unhide K11 _ ((unhide HR5).below (unhide HAL).1) ((unhide HR6).below (unhide HAL).1)).mono ?_
  rintro e V11 ⟨rfl, b_⟩
  replace HAL := hide (al_below (unhide HAL) b_)
  clear b_
  have z11 := (unhide HAL).2.at (i := 11) rfl
  go_wp2_with fail
  clear z11
  refine (unhide K12 _ ((unhide HR7).below (unhide HAL).1)).mono ?_
  rintro e V12 ⟨rfl, q_, hq_⟩
  have b_ : Below V11.heap.size V11 V12 := by rw [hq_]; exact bel_drewN _ _
  replace HAL := hide (al_below (unhide HAL) b_)
  clear hq_ q_ b_
  have z5 := (unhide HAL).2.at (i := 5) rfl
  have z0 := (unhide HAL).2.at (i := 0) rfl
  go_wp2_with fail
  clear z5 z0
  refine (unhide K13 _ ((unhide HR1).below (unhide HAL).1)).mono ?_
  rintro e V13 ⟨rfl, b_⟩
  replace HAL := hide (al_below (unhide HAL) b_)
  clear b_
  have HAL2 := hide (al_below (unhide HAL) ((Below.refl _ _).alloc (Nat.le_refl _) (.cells #[.int .i64 y1, .int .i64 y2, .int .i64 y3, .int .i64 y4, .int .i64 y5, .int .i64 y6] 118)))
  skip
  have z9 := (unhide HAL2).2.at (i := 9) rfl
  have z10 := (unhide HAL2).2.at (i := 10) rfl
  have z0 := (unhide HAL2).2.at (i := 0) rfl
  go_wp2_with fail
  clear z9 z10 z0
  generalize hW13 : V13.alloc (.cells #[.int .i64 y1, .int .i64 y2, .int .i64 y3, .int .i64 y4, .int .i64 y5, .int .i64 y6] 118) = W13 at *
  clear hW13
  replace HAL := HAL2
  clear HAL2
  refine (unhide K14 _ ((unhide HR5).below (unhide HAL).1)).mono ?_
  rintro e V14 ⟨rfl, b_⟩
  replace HAL := hide (al_below (unhide HAL) b_)
  clear b_
  have HAL2 := hide (al_below (unhide HAL) ((Below.refl _ _).alloc (Nat.le_refl _) (.cells #[.int .i64 v1, .int .i64 v2, .int .i64 v3] 122)))
  skip
  have z6 := (unhide HAL2).2.at (i := 6) rfl
  go_wp2_with fail
  clear z6
  generalize hW14 : V14.alloc (.cells #[.int .i64 v1, .int .i64 v2, .int .i64 v3] 122) = W14 at *
  clear hW14
  replace HAL := HAL2
  clear HAL2
  go_loopw [7] (fun i wr => ∃ j : Nat, j ≤ tw.length ∧ i = .int .i64 j ∧ Hid ((tw.take j).all (twB x1) = true) ∧ Hid (Al w wr (rC x1 x2 x3 x4 x5 (.slice a1 ls.length c1) (.slice a2 tw.length c2) (.slice a3 se.length c3) (.slice a4 du.length c4) (.slice a5 ss.length c5) (.slice a6 es.length c6) (.slice a7 la.length c7) x6))) (fun i _ => tw.length - (intOf i).toNat)
  case atStart => exact ⟨0, by omega, rfl, hide rfl, HAL⟩
  case round =>
    obtain ⟨j, hj, rfl, hal, hAl⟩ := hrel
    have z6 := (unhide hAl).2.at (i := 6) rfl
    have z0 := (unhide hAl).2.at (i := 0) rfl
    by_cases hlt : (j : Int) < (tw.length : Int)
    · have k0 : (0 : Int) ≤ (j : Int) := by omega
      have hlen : j < tw.length := by omega
      obtain ⟨g, off, ha2⟩ := (unhide HR2).form (by omega)
      have HC := (unhide HR2).below (unhide hAl).1
      rw [ha2] at HC z6
      have hA := HC.at hlen
      have HY : Hid (twB x1 (tw.getD j Tu.R.zero) = true → (tw.take (j + 1)).all (twB x1) = true) := hide (fun h => all_step hlen (unhide hal) h)
      have HZ : Hid (twB x1 (tw.getD j Tu.R.zero) = false → A = false) := hide (fun h => by rw [unhide HE, all_no hlen h]; rfl)
      have hbd := St.ok_bounds (St.setB_ok (Tw.two_set (unhide HTW)) hlen)
      generalize tw.getD j Tu.R.zero = m at *
      obtain ⟨key, til, val⟩ := m
      obtain ⟨t0, t1, t2⟩ := hA
      dsimp only at t0 t1 t2 hbd
      obtain ⟨hb0, hb1, _⟩ := hbd
      have EK : Hid (twB x1 ⟨key, til, val⟩ = (!(key / 100 == x1) && !(key % 100 == x1))) := hide (by unfold twB Tw.hv Tw.ha; dsimp only; rw [Int.tdiv_eq_ediv_of_nonneg hb0, Int.tmod_eq_emod_of_nonneg hb0])
      have HAD : Hid (∀ n, Al w (wr.drewN n) (rC x1 x2 x3 x4 x5 (.slice a1 ls.length c1) (.slice a2 tw.length c2) (.slice a3 se.length c3) (.slice a4 du.length c4) (.slice a5 ss.length c5) (.slice a6 es.length c6) (.slice a7 la.length c7) x6)) := hide (fun n => al_below (unhide hAl) (bel_drewN _ _))
      clear HC
      cases q1 : (key / 100 == x1)
      · cases q2 : (key % 100 == x1)
        · have hy := hide (unhide HY (by rw [unhide EK, q1, q2]; rfl))
          clear HY HZ EK
          go_wp2_with fail
          go_quiet (fail)
          go_wp2_with fail
          go_roundw
          case rel => exact ⟨j + 1, by omega, by go_num, hy, hide (unhide HAD _)⟩
          case measure => simp [intOf]; omega
        · have hf := hide (unhide HZ (by rw [unhide EK, q1, q2]; rfl))
          clear HY HZ EK
          go_wp2_with fail
          go_quiet (fail)
          go_wp2_with fail
          go_ret
          exact ⟨ret_bool (unhide hf).symm, (unhide HAD _).1⟩
      · have hf := hide (unhide HZ (by rw [unhide EK, q1]; rfl))
        clear HY HZ EK
        go_wp2_with fail
        go_quiet (fail)
        go_wp2_with fail
        go_ret
        exact ⟨ret_bool (unhide hf).symm, (unhide HAD _).1⟩
    · obtain rfl : j = tw.length := by omega
      have HE2 : Hid (A = ls.all obB) := hide (by have e := unhide hal; rw [List.take_length] at e; rw [unhide HE, e]; rfl)
      have z5 := (unhide hAl).2.at (i := 5) rfl
      go_wp2_with fail
      clear z5 z6 z0
      go_loopw [8] (fun i wr => ∃ j : Nat, j ≤ ls.length ∧ i = .int .i64 j ∧ Hid ((ls.take j).all obB = true) ∧ Hid (Al w wr (rC x1 x2 x3 x4 x5 (.slice a1 ls.length c1) (.slice a2 tw.length c2) (.slice a3 se.length c3) (.slice a4 du.length c4) (.slice a5 ss.length c5) (.slice a6 es.length c6) (.slice a7 la.length c7) x6))) (fun i _ => ls.length - (intOf i).toNat)
      case atStart => exact ⟨0, by omega, rfl, hide rfl, hAl⟩
      case round =>
        obtain ⟨k, hk, rfl, hal2, hAl2⟩ := hrel
        have z5 := (unhide hAl2).2.at (i := 5) rfl
        by_cases hlt2 : (k : Int) < (ls.length : Int)
        · have k0 : (0 : Int) ≤ (k : Int) := by omega
          have hlen : k < ls.length := by omega
          obtain ⟨g, off, ha1⟩ := (unhide HR1).form (by omega)
          have HC := (unhide HR1).below (unhide hAl2).1
          rw [ha1] at HC z5
          have hA := HC.at hlen
          clear ha1
          have HY : Hid (obB (ls.getD k Lk.R.zero) = true → (ls.take (k + 1)).all obB = true) := hide (fun h => all_step hlen (unhide hal2) h)
          have HZ : Hid (obB (ls.getD k Lk.R.zero) = false → A = false) := hide (fun h => by rw [unhide HE2]; exact all_no hlen h)
          have hco := Ln.ok_co (Ri.all_ok (unhide HLB) hlen)
          have hsy := Ln.ok_sy (Ri.all_ok (unhide HLB) hlen)
          generalize ls.getD k Lk.R.zero = m at *
          obtain ⟨ad, hd, sy, ci, co, wl⟩ := m
          obtain ⟨t0, t1, t2, t3, t4, t5⟩ := hA
          dsimp only at t0 t1 t2 t3 t4 t5 hco hsy
          have hw := ob_ways hco.1 hco.2 hsy.1
          have EK : Hid (obB ⟨ad, hd, sy, ci, co, wl⟩ = outB co sy) := hide rfl
          have HA3 := hide (al_below (unhide hAl2) ((Below.refl _ _).alloc (Nat.le_refl _) (.cells #[.int .i64 ad, .int .i64 hd, .int .i64 sy, .int .i64 ci, .int .i64 co, .int .i64 wl] 118)))
          clear HC
          rcases hw with ⟨rfl, rfl, e⟩ | ⟨rfl, q2, e⟩ | ⟨q1, q2, e⟩ | ⟨q1, q2, q3, e⟩ | ⟨q1, q2, q3, e⟩
          · have hy := hide (unhide HY ((unhide EK).trans e))
            clear HY HZ EK e
            go_wp2_with fail
            go_roundw
            case rel => exact ⟨k + 1, by omega, by go_num, hy, HA3⟩
            case measure => simp [intOf]; omega
          · have hf := hide (unhide HZ ((unhide EK).trans e))
            clear HY HZ EK e
            go_wp2_with fail
            go_ret
            exact ⟨ret_bool (unhide hf).symm, (unhide HA3).1⟩
          · have hf := hide (unhide HZ ((unhide EK).trans e))
            clear HY HZ EK e
            go_wp2_with (go_at_call 83; refine (l04ExM co (by omega) (by omega) _).mono ?_; rintro e w_ ⟨rfl, rfl⟩)
            go_ret
            exact ⟨ret_bool (unhide hf).symm, (unhide HA3).1⟩
          · have hf := hide (unhide HZ ((unhide EK).trans e))
            clear HY HZ EK e
            go_wp2_with (go_at_call 83; refine (l04ExM co (by omega) (by omega) _).mono ?_; rintro e w_ ⟨rfl, rfl⟩)
            go_ret
            exact ⟨ret_bool (unhide hf).symm, (unhide HA3).1⟩
          · have hy := hide (unhide HY ((unhide EK).trans e))
            have q4 : (co == 0) = false := by simp; omega
            clear HY HZ EK e
            go_wp2_with (go_at_call 83; refine (l04ExM co (by omega) (by omega) _).mono ?_; rintro e w_ ⟨rfl, rfl⟩)
            go_roundw
            case rel => exact ⟨k + 1, by omega, by go_num, hy, HA3⟩
            case measure => simp [intOf]; omega
        · obtain rfl : k = ls.length := by omega
          have hf := hide (show A = true by have e := unhide hal2; rw [List.take_length] at e; rw [unhide HE2, e])
          go_wp2_with fail
          go_ret
          exact ⟨ret_bool (unhide hf).symm, (unhide hAl2).1⟩
end Rt
end Go.Proofs.YtiipppfkpgbpeaaGreat
namespace Go.Proofs.YtiipppfkpgbpeaaGreat
open Go.ChangeShapes Go.WideShapes Go.ChangeAt Go.RowKit
set_option linter.unusedVariables false
set_option linter.unusedSimpArgs false
attribute [local go_sem ↓] Go.wp_at_zero Go.wp_at_succ
namespace Rt
open W1
def okN (x y z : Int) : Bool := inB x 1 8 && (inB y 0 7 && inB z 0 65535)
end Rt
end Go.Proofs.YtiipppfkpgbpeaaGreat
namespace Go.Proofs.YtiipppfkpgbpeaaGreat
open Go.ChangeShapes Go.WideShapes Go.ChangeAt Go.RowKit
set_option linter.unusedVariables false
set_option linter.unusedSimpArgs false
set_option maxRecDepth 100000
attribute [local go_sem ↓] Go.wp_at_zero Go.wp_at_succ
namespace Rt
open W1
theorem RA.alloc {w : World} {b : Nat} {cs : List Value} (h : RA w b cs) (ob : Obj) : RA (w.alloc ob) b cs := h.below ((Below.refl _ _).alloc (Nat.le_refl _) ob)
theorem bel_alloc {w w' : World} (h : Below w.heap.size w w') (ob : Obj) : Below w.heap.size w (w'.alloc ob) := h.alloc h.size ob
end Rt
end Go.Proofs.YtiipppfkpgbpeaaGreat
namespace Go.Proofs.YtiipppfkpgbpeaaGreat
open Go.ChangeShapes Go.WideShapes Go.ChangeAt Go.RowKit
set_option linter.unusedVariables false
set_option linter.unusedSimpArgs false
set_option maxRecDepth 100000
attribute [local go_sem ↓] Go.wp_at_zero Go.wp_at_succ
namespace Rt
open W1
theorem rtr_all {x1 x2 x3 x4 x5 x6 : Int} {ls : List Lk.R} {tw : List Tu.R} {se : List Tu.R} {du : List Tu.R} {ss : List So.R} {es : List Tu.R} {la : List Ed.R} (h : rtrB x1 x2 x3 x4 x5 x6 ls tw se du ss es la = true) : inB x1 1 8 = true ∧ inB x2 0 7 = true ∧ inB x3 0 65535 = true ∧ inB x4 0 65535 = true ∧ inB x5 0 100000 = true ∧ inB x6 0 1000000 = true ∧ lksB x1 ls = true ∧ twoOf x1 tw = true ∧ St.setB se = true ∧ St.setB du = true ∧ Tp.topB ss es = true ∧ Tp.hasS ss x1 = false ∧ Av.allN la la.length = true := by
  unfold rtrB at h
  simp only [Bool.and_eq_true, Bool.not_eq_true'] at h
  obtain ⟨h1, h2, h3, h4, h5, h6, h7, h8, h9, h10, h11, h12, h13⟩ := h
  exact ⟨h1, h2, h3, h4, h5, h6, h7, h8, h9, h10, h11, h12, h13⟩
theorem rtr_lens {x1 x2 x3 x4 x5 x6 : Int} {ls : List Lk.R} {tw : List Tu.R} {se : List Tu.R} {du : List Tu.R} {ss : List So.R} {es : List Tu.R} {la : List Ed.R} (h : rtrB x1 x2 x3 x4 x5 x6 ls tw se du ss es la = true) : ls.length ≤ 8 ∧ tw.length ≤ 64 ∧ se.length ≤ 64 ∧ du.length ≤ 64 ∧ ss.length ≤ 64 ∧ es.length ≤ 64 ∧ la.length ≤ 8 := by
  obtain ⟨h1, h2, h3, h4, h5, h6, h7, h8, h9, h10, h11, h12, h13⟩ := rtr_all h
  unfold lksB at h7
  unfold twoOf at h8
  unfold Tp.topB at h11
  simp only [Bool.and_eq_true] at h7 h8 h11
  have := Tw.two_len h8.1
  have := Tw.two_len h11.2.1
  exact ⟨Ln.links_len h7.1, by omega, St.setB_len h9, St.setB_len h10, Nat.le_trans (Tp.src_len h11.1) (by omega), by omega, Av.all_len h13⟩
theorem rtr_codeTL {x1 x2 x3 x4 x5 x6 : Int} {ls : List Lk.R} {tw : List Tu.R} {se : List Tu.R} {du : List Tu.R} {ss : List So.R} {es : List Tu.R} {la : List Ed.R} (h : rtrB x1 x2 x3 x4 x5 x6 ls tw se du ss es la = true) : Ln.linksB ls = true ∧ Tw.codeTL tw ls = 0 := by
  obtain ⟨h1, h2, h3, h4, h5, h6, h7, h8, h9, h10, h11, h12, h13⟩ := rtr_all h
  have hl := rtr_lens h
  unfold lksB at h7
  unfold twoOf at h8
  simp only [Bool.and_eq_true] at h7 h8
  exact ⟨h7.1, Tw.codeTL_zero (by omega) (by omega) (by rw [h8.1, h7.1]; rfl)⟩
/-- What HelloNow tells. -/
def hnW (b : Bool) (x2 : Int) : Int := if b = true then x2 else 0
def hnV (b : Bool) : Int := if b = true then 6 else 0
noncomputable def hnL (b : Bool) (tw : List Tu.R) (ls : List Lk.R) (me now : Int) : List Nb.R := if b = true then helL tw ls me now else []
theorem hn_len (b : Bool) (tw : List Tu.R) (ls : List Lk.R) (me now : Int) : (hnL b tw ls me now).length ≤ ls.length := by
  unfold hnL; split
  · rw [hel_len]; exact Nat.le_refl _
  · simp
set_option maxHeartbeats 16000000 in
theorem implHN (x1 x2 x3 x4 x5 x6 : Int) (h1 h2 h3 h4 h5 h6 h7 : Nat) (c1 c2 c3 c4 c5 c6 c7 : Nat) (ls : List Lk.R) (tw : List Tu.R) (se : List Tu.R) (du : List Tu.R) (ss : List So.R) (es : List Tu.R) (la : List Ed.R) (w : World) (hm1 : ls.length ≤ 1048576) (hm2 : tw.length ≤ 1048576) (hm3 : se.length ≤ 1048576) (hm4 : du.length ≤ 1048576) (hm5 : ss.length ≤ 1048576) (hm6 : es.length ≤ 1048576) (hm7 : la.length ≤ 1048576) (hr1 : Lk.RM w (some ⟨h1, 0, none⟩) ls) (hr2 : Tu.RM w (some ⟨h2, 0, none⟩) tw) (hr3 : Tu.RM w (some ⟨h3, 0, none⟩) se) (hr4 : Tu.RM w (some ⟨h4, 0, none⟩) du) (hr5 : So.RM w (some ⟨h5, 0, none⟩) ss) (hr6 : Tu.RM w (some ⟨h6, 0, none⟩) es) (hr7 : Ed.RM w (some ⟨h7, 0, none⟩) la) :
    Calls Tryz.prog 21 #[.agg #[.int .i64 x1, .int .i64 x2, .int .i64 x3, .int .i64 x4, .int .i64 x5, .slice (some ⟨h1, 0, none⟩) ls.length c1, .slice (some ⟨h2, 0, none⟩) tw.length c2, .slice (some ⟨h3, 0, none⟩) se.length c3, .slice (some ⟨h4, 0, none⟩) du.length c4, .slice (some ⟨h5, 0, none⟩) ss.length c5, .slice (some ⟨h6, 0, none⟩) es.length c6, .slice (some ⟨h7, 0, none⟩) la.length c7, .int .i64 x6]] w fun e w' => ∃ v, e = .returned (.tuple #[.agg #[.int .i64 (hnW (rtrB x1 x2 x3 x4 x5 x6 ls tw se du ss es la) x2), .int .i64 (hnV (rtrB x1 x2 x3 x4 x5 x6 ls tw se du ss es la)), v], .int .i64 (rtrC (rtrB x1 x2 x3 x4 x5 x6 ls tw se du ss es la))]) ∧ Below w.heap.size w w' ∧ Nb.LstV w' v (hnL (rtrB x1 x2 x3 x4 x5 x6 ls tw se du ss es la) tw ls x1 x5) w.heap.size w'.heap.size := by
  have HAL : Hid (Al w ((w.alloc (.cells #[.int .i64 x1, .int .i64 x2, .int .i64 x3, .int .i64 x4, .int .i64 x5, .slice (some ⟨h1, 0, none⟩) ls.length c1, .slice (some ⟨h2, 0, none⟩) tw.length c2, .slice (some ⟨h3, 0, none⟩) se.length c3, .slice (some ⟨h4, 0, none⟩) du.length c4, .slice (some ⟨h5, 0, none⟩) ss.length c5, .slice (some ⟨h6, 0, none⟩) es.length c6, .slice (some ⟨h7, 0, none⟩) la.length c7, .int .i64 x6] 38)).alloc (.cells #[.int .i64 0, .int .i64 0, .slice none 0 0] 53)) (rC x1 x2 x3 x4 x5 (.slice (some ⟨h1, 0, none⟩) ls.length c1) (.slice (some ⟨h2, 0, none⟩) tw.length c2) (.slice (some ⟨h3, 0, none⟩) se.length c3) (.slice (some ⟨h4, 0, none⟩) du.length c4) (.slice (some ⟨h5, 0, none⟩) ss.length c5) (.slice (some ⟨h6, 0, none⟩) es.length c6) (.slice (some ⟨h7, 0, none⟩) la.length c7) x6)) := hide ⟨((Below.refl _ _).alloc (Nat.le_refl _) _).alloc (by simp) _, (ra_new w _ rfl _).below ((Below.refl _ _).alloc (Nat.le_refl _) _)⟩
  have HT : Hid (Hl.HV ((w.alloc (.cells #[.int .i64 x1, .int .i64 x2, .int .i64 x3, .int .i64 x4, .int .i64 x5, .slice (some ⟨h1, 0, none⟩) ls.length c1, .slice (some ⟨h2, 0, none⟩) tw.length c2, .slice (some ⟨h3, 0, none⟩) se.length c3, .slice (some ⟨h4, 0, none⟩) du.length c4, .slice (some ⟨h5, 0, none⟩) ss.length c5, .slice (some ⟨h6, 0, none⟩) es.length c6, .slice (some ⟨h7, 0, none⟩) la.length c7, .int .i64 x6] 38)).alloc (.cells #[.int .i64 0, .int .i64 0, .slice none 0 0] 53)) (w.heap.size + 1) 0 0 (.slice none 0 0)) := hide (by have h := Hl.hv_new (w.alloc (.cells #[.int .i64 x1, .int .i64 x2, .int .i64 x3, .int .i64 x4, .int .i64 x5, .slice (some ⟨h1, 0, none⟩) ls.length c1, .slice (some ⟨h2, 0, none⟩) tw.length c2, .slice (some ⟨h3, 0, none⟩) se.length c3, .slice (some ⟨h4, 0, none⟩) du.length c4, .slice (some ⟨h5, 0, none⟩) ss.length c5, .slice (some ⟨h6, 0, none⟩) es.length c6, .slice (some ⟨h7, 0, none⟩) la.length c7, .int .i64 x6] 38)) 0 0 (.slice none 0 0); rw [show (w.alloc (.cells #[.int .i64 x1, .int .i64 x2, .int .i64 x3, .int .i64 x4, .int .i64 x5, .slice (some ⟨h1, 0, none⟩) ls.length c1, .slice (some ⟨h2, 0, none⟩) tw.length c2, .slice (some ⟨h3, 0, none⟩) se.length c3, .slice (some ⟨h4, 0, none⟩) du.length c4, .slice (some ⟨h5, 0, none⟩) ss.length c5, .slice (some ⟨h6, 0, none⟩) es.length c6, .slice (some ⟨h7, 0, none⟩) la.length c7, .int .i64 x6] 38)).heap.size = w.heap.size + 1 by simp] at h; exact h)
  have hz0 : ((w.alloc (.cells #[.int .i64 x1, .int .i64 x2, .int .i64 x3, .int .i64 x4, .int .i64 x5, .slice (some ⟨h1, 0, none⟩) ls.length c1, .slice (some ⟨h2, 0, none⟩) tw.length c2, .slice (some ⟨h3, 0, none⟩) se.length c3, .slice (some ⟨h4, 0, none⟩) du.length c4, .slice (some ⟨h5, 0, none⟩) ss.length c5, .slice (some ⟨h6, 0, none⟩) es.length c6, .slice (some ⟨h7, 0, none⟩) la.length c7, .int .i64 x6] 38)).alloc (.cells #[.int .i64 0, .int .i64 0, .slice none 0 0] 53)).heap.size = w.heap.size + 2 := by simp
  have HR1 := hide hr1
  clear hr1
  have HR2 := hide hr2
  clear hr2
  have HR3 := hide hr3
  clear hr3
  have HR4 := hide hr4
  clear hr4
  have HR5 := hide hr5
  clear hr5
  have HR6 := hide hr6
  clear hr6
  have HR7 := hide hr7
  clear hr7
  have KO := hide (fun W => implRtr x1 x2 x3 x4 x5 x6 (some ⟨h1, 0, none⟩) (some ⟨h2, 0, none⟩) (some ⟨h3, 0, none⟩) (some ⟨h4, 0, none⟩) (some ⟨h5, 0, none⟩) (some ⟨h6, 0, none⟩) (some ⟨h7, 0, none⟩) c1 c2 c3 c4 c5 c6 c7 ls tw se du ss es la W hm1 hm2 hm3 hm4 hm5 hm6 hm7)
  cases hB : rtrB x1 x2 x3 x4 x5 x6 ls tw se du ss es la
  · rw [hB] at KO
    rw [show rtrC false = 1 from rfl, show hnL false tw ls x1 x5 = [] from rfl, show hnW false x2 = 0 from rfl, show hnV false = 0 from rfl]
    clear hB
    go_enter Tryz.func21, Tryz.ntmps21
    go_wp2_with (refine wpList_loadR _ rfl rfl rfl (unhide HAL).2 ?_)
    generalize hW0 : (w.alloc (.cells #[.int .i64 x1, .int .i64 x2, .int .i64 x3, .int .i64 x4, .int .i64 x5, .slice (some ⟨h1, 0, none⟩) ls.length c1, .slice (some ⟨h2, 0, none⟩) tw.length c2, .slice (some ⟨h3, 0, none⟩) se.length c3, .slice (some ⟨h4, 0, none⟩) du.length c4, .slice (some ⟨h5, 0, none⟩) ss.length c5, .slice (some ⟨h6, 0, none⟩) es.length c6, .slice (some ⟨h7, 0, none⟩) la.length c7, .int .i64 x6] 38)).alloc (.cells #[.int .i64 0, .int .i64 0, .slice none 0 0] 53) = W0 at *
    clear hW0
    refine (unhide KO _ ((unhide HR1).below (unhide HAL).1) ((unhide HR2).below (unhide HAL).1) ((unhide HR3).below (unhide HAL).1) ((unhide HR4).below (unhide HAL).1) ((unhide HR5).below (unhide HAL).1) ((unhide HR6).below (unhide HAL).1) ((unhide HR7).below (unhide HAL).1)).mono ?_
    rintro e V1 ⟨rfl, b_⟩
    replace HAL := hide (al_below (unhide HAL) b_)
    replace HT := hide ((unhide HT).below b_)
    have hz1 := b_.size
    clear b_
    obtain ⟨q0, q1, q2⟩ := (unhide HT).bx
    have r0 := (unhide HT).free 0
    have r1 := (unhide HT).free 1
    have r2 := (unhide HT).free 2
    have hlw := (unhide HT).lt
    go_wp2_with fail
    refine bodyPost_ret (v := .tuple #[.agg #[.int .i64 0, .int .i64 0, .slice none 0 0], .int .i64 1]) (by simp [results, Tryz.results21, go_sem, q0, q1, q2, hlw]) rfl ?_
    refine ⟨_, rfl, ?_, Nb.lstV_nil _ _ _ _ _⟩
    · exact (((unhide HAL).1.setCell (p := ⟨w.heap.size + 1, 0, none⟩) (Nat.le_succ _) _).setCell (p := ⟨w.heap.size + 1, 1, none⟩) (Nat.le_succ _) _).setCell (p := ⟨w.heap.size + 1, 2, none⟩) (Nat.le_succ _) _
  · obtain ⟨hl, hc⟩ := rtr_codeTL hB
    obtain ⟨m1, m2, m3, m4, m5, m6, m7⟩ := rtr_lens hB
    rw [show rtrC true = 0 from rfl, show hnL true tw ls x1 x5 = helL tw ls x1 x5 from rfl, show hnW true x2 = x2 from rfl, show hnV true = 6 from rfl]
    rw [hB] at KO
    have KC := hide (fun W => coreOf x1 x2 x3 x4 x5 x6 h1 h2 h3 h4 h5 h6 h7 c1 c2 c3 c4 c5 c6 c7 ls tw se du ss es la W (by omega) (by omega) (by omega) (by omega) (by omega) (by omega) (by omega))
    have KH := hide (fun p a1 a2 d1 d2 v3 v4 v5 v6 v7 v8 W => coreHello x1 x2 x3 x4 x5 x6 a1 a2 d1 d2 v3 v4 v5 v6 v7 v8 ls tw p W (by omega) hl hc)
    generalize helL tw ls x1 x5 = G at *
    clear hB hl hc m1 m2 m3 m4 m5 m6 m7
    go_enter Tryz.func21, Tryz.ntmps21
    go_wp2_with (refine wpList_loadR _ rfl rfl rfl (unhide HAL).2 ?_)
    generalize hW0 : (w.alloc (.cells #[.int .i64 x1, .int .i64 x2, .int .i64 x3, .int .i64 x4, .int .i64 x5, .slice (some ⟨h1, 0, none⟩) ls.length c1, .slice (some ⟨h2, 0, none⟩) tw.length c2, .slice (some ⟨h3, 0, none⟩) se.length c3, .slice (some ⟨h4, 0, none⟩) du.length c4, .slice (some ⟨h5, 0, none⟩) ss.length c5, .slice (some ⟨h6, 0, none⟩) es.length c6, .slice (some ⟨h7, 0, none⟩) la.length c7, .int .i64 x6] 38)).alloc (.cells #[.int .i64 0, .int .i64 0, .slice none 0 0] 53) = W0 at *
    clear hW0
    refine (unhide KO _ ((unhide HR1).below (unhide HAL).1) ((unhide HR2).below (unhide HAL).1) ((unhide HR3).below (unhide HAL).1) ((unhide HR4).below (unhide HAL).1) ((unhide HR5).below (unhide HAL).1) ((unhide HR6).below (unhide HAL).1) ((unhide HR7).below (unhide HAL).1)).mono ?_
    rintro e V1 ⟨rfl, b_⟩
    replace HAL := hide (al_below (unhide HAL) b_)
    replace HT := hide ((unhide HT).below b_)
    have hz1 := b_.size
    clear b_
    go_wp2_with (refine wpList_loadR _ rfl rfl rfl (unhide HAL).2 ?_)
    refine (unhide KC _ ((unhide HR1).below (unhide HAL).1) ((unhide HR2).below (unhide HAL).1) ((unhide HR3).below (unhide HAL).1) ((unhide HR4).below (unhide HAL).1) ((unhide HR5).below (unhide HAL).1) ((unhide HR6).below (unhide HAL).1) ((unhide HR7).below (unhide HAL).1)).mono ?_
    rintro e V2 ⟨a1, a2, a3, a4, a5, a6, a7, d1, d2, d3, d4, d5, d6, d7, rfl, b_, L_⟩
    replace HAL := hide (al_below (unhide HAL) b_)
    replace HT := hide ((unhide HT).below b_)
    have HL2 := hide L_
    have hb2 := b_.size
    clear b_ L_
    go_wp2_with (refine wpList_storeC _ _ rfl rfl (cC x1 x2 x3 x4 x5 (.slice a1 ls.length d1) (.slice a2 tw.length d2) (.slice a3 se.length d3) (.slice a4 du.length d4) (.slice a5 ss.length d5) (.slice a6 es.length d6) (.slice a7 la.length d7) x6 (.slice none 0 0)) (cC_ones rfl rfl rfl rfl rfl rfl rfl rfl) rfl rfl (ca_new V2 (cC 0 0 0 0 0 (.slice none 0 0) (.slice none 0 0) (.slice none 0 0) (.slice none 0 0) (.slice none 0 0) (.slice none 0 0) (.slice none 0 0) 0 (.slice none 0 0)) rfl 78).2.1 ?_; intro V3 ra bb hs; have HC3 := hide ra; have b3 : Below V2.heap.size V2 V3 := bb _ _ (bel_alloc (Below.refl V2.heap.size V2) (.cells (cC 0 0 0 0 0 (.slice none 0 0) (.slice none 0 0) (.slice none 0 0) (.slice none 0 0) (.slice none 0 0) (.slice none 0 0) (.slice none 0 0) 0 (.slice none 0 0)).toArray 78)) (Nat.le_refl _); have hs3 : V3.heap.size = V2.heap.size + 1 := (by rw [hs]; simp); replace HAL := hide (al_below (unhide HAL) b3); replace HT := hide ((unhide HT).below b3); have HL3 := hide ((unhide HL2).below b3); clear ra bb hs b3)
    clear HL2
    refine (unhide KH _ _ _ _ _ _ _ _ _ _ _ _ (unhide HC3) (unhide HL3).r1 (unhide HL3).r2).mono ?_
    rintro e V4 ⟨v4, rfl, b_, lv⟩
    obtain ⟨va, vc, rfl, LF⟩ := lv
    have HLF := hide LF
    replace HAL := hide (al_below (unhide HAL) b_)
    replace HT := hide ((unhide HT).below b_)
    have hz4 := b_.size
    clear b_ LF
    obtain ⟨q0, q1, q2⟩ := (unhide HT).bx
    have r0 := (unhide HT).free 0
    have r1 := (unhide HT).free 1
    have r2 := (unhide HT).free 2
    have hlw := (unhide HT).lt
    go_wp2_with fail
    refine bodyPost_ret (v := .tuple #[.agg #[.int .i64 x2, .int .i64 6, .slice va G.length vc], .int .i64 0]) (by simp [results, Tryz.results21, go_sem, q0, q1, q2, hlw]) rfl ?_
    refine ⟨_, rfl, ?_, va, vc, rfl, ?_⟩
    · exact (((unhide HAL).1.setCell (p := ⟨w.heap.size + 1, 0, none⟩) (Nat.le_succ _) _).setCell (p := ⟨w.heap.size + 1, 1, none⟩) (Nat.le_succ _) _).setCell (p := ⟨w.heap.size + 1, 2, none⟩) (Nat.le_succ _) _
    · refine ((unhide HLF).but (p := fun k => k ≠ w.heap.size + 1) (by simp [World.setCell]) (fun k hk hp => ?_) (fun k h1 h2 => ?_)).mono (by omega) (by simp [World.setCell])
      · rw [Below.heap_setCell _ _ _ _ hp, Below.heap_setCell _ _ _ _ hp, Below.heap_setCell _ _ _ _ hp]
      · show k ≠ w.heap.size + 1
        omega
set_option maxHeartbeats 16000000 in
theorem specHN (x1 x2 x3 x4 x5 x6 : Int) (h1 h2 h3 h4 h5 h6 h7 : Nat) (c1 c2 c3 c4 c5 c6 c7 : Nat) (ls : List Lk.R) (tw : List Tu.R) (se : List Tu.R) (du : List Tu.R) (ss : List So.R) (es : List Tu.R) (la : List Ed.R) (w : World) (hm1 : ls.length ≤ 1048576) (hm2 : tw.length ≤ 1048576) (hm3 : se.length ≤ 1048576) (hm4 : du.length ≤ 1048576) (hm5 : ss.length ≤ 1048576) (hm6 : es.length ≤ 1048576) (hm7 : la.length ≤ 1048576) (hr1 : Lk.RM w (some ⟨h1, 0, none⟩) ls) (hr2 : Tu.RM w (some ⟨h2, 0, none⟩) tw) (hr3 : Tu.RM w (some ⟨h3, 0, none⟩) se) (hr4 : Tu.RM w (some ⟨h4, 0, none⟩) du) (hr5 : So.RM w (some ⟨h5, 0, none⟩) ss) (hr6 : Tu.RM w (some ⟨h6, 0, none⟩) es) (hr7 : Ed.RM w (some ⟨h7, 0, none⟩) la) :
    Calls Tryz.prog 20 #[.agg #[.int .i64 x1, .int .i64 x2, .int .i64 x3, .int .i64 x4, .int .i64 x5, .slice (some ⟨h1, 0, none⟩) ls.length c1, .slice (some ⟨h2, 0, none⟩) tw.length c2, .slice (some ⟨h3, 0, none⟩) se.length c3, .slice (some ⟨h4, 0, none⟩) du.length c4, .slice (some ⟨h5, 0, none⟩) ss.length c5, .slice (some ⟨h6, 0, none⟩) es.length c6, .slice (some ⟨h7, 0, none⟩) la.length c7, .int .i64 x6]] w fun e w' => ∃ v, e = .returned (.tuple #[.agg #[.int .i64 (hnW (rtrB x1 x2 x3 x4 x5 x6 ls tw se du ss es la) x2), .int .i64 (hnV (rtrB x1 x2 x3 x4 x5 x6 ls tw se du ss es la)), v], .int .i64 (rtrC (rtrB x1 x2 x3 x4 x5 x6 ls tw se du ss es la))]) ∧ Below w.heap.size w w' ∧ Nb.LstV w' v (hnL (rtrB x1 x2 x3 x4 x5 x6 ls tw se du ss es la) tw ls x1 x5) w.heap.size w'.heap.size := by
  have HAL : Hid (Al w ((w.alloc (.cells #[.int .i64 x1, .int .i64 x2, .int .i64 x3, .int .i64 x4, .int .i64 x5, .slice (some ⟨h1, 0, none⟩) ls.length c1, .slice (some ⟨h2, 0, none⟩) tw.length c2, .slice (some ⟨h3, 0, none⟩) se.length c3, .slice (some ⟨h4, 0, none⟩) du.length c4, .slice (some ⟨h5, 0, none⟩) ss.length c5, .slice (some ⟨h6, 0, none⟩) es.length c6, .slice (some ⟨h7, 0, none⟩) la.length c7, .int .i64 x6] 38)).alloc (.cells #[.int .i64 0, .int .i64 0, .slice none 0 0] 53)) (rC x1 x2 x3 x4 x5 (.slice (some ⟨h1, 0, none⟩) ls.length c1) (.slice (some ⟨h2, 0, none⟩) tw.length c2) (.slice (some ⟨h3, 0, none⟩) se.length c3) (.slice (some ⟨h4, 0, none⟩) du.length c4) (.slice (some ⟨h5, 0, none⟩) ss.length c5) (.slice (some ⟨h6, 0, none⟩) es.length c6) (.slice (some ⟨h7, 0, none⟩) la.length c7) x6)) := hide ⟨((Below.refl _ _).alloc (Nat.le_refl _) _).alloc (by simp) _, (ra_new w _ rfl _).below ((Below.refl _ _).alloc (Nat.le_refl _) _)⟩
  have HT : Hid (Hl.HV ((w.alloc (.cells #[.int .i64 x1, .int .i64 x2, .int .i64 x3, .int .i64 x4, .int .i64 x5, .slice (some ⟨h1, 0, none⟩) ls.length c1, .slice (some ⟨h2, 0, none⟩) tw.length c2, .slice (some ⟨h3, 0, none⟩) se.length c3, .slice (some ⟨h4, 0, none⟩) du.length c4, .slice (some ⟨h5, 0, none⟩) ss.length c5, .slice (some ⟨h6, 0, none⟩) es.length c6, .slice (some ⟨h7, 0, none⟩) la.length c7, .int .i64 x6] 38)).alloc (.cells #[.int .i64 0, .int .i64 0, .slice none 0 0] 53)) (w.heap.size + 1) 0 0 (.slice none 0 0)) := hide (by have h := Hl.hv_new (w.alloc (.cells #[.int .i64 x1, .int .i64 x2, .int .i64 x3, .int .i64 x4, .int .i64 x5, .slice (some ⟨h1, 0, none⟩) ls.length c1, .slice (some ⟨h2, 0, none⟩) tw.length c2, .slice (some ⟨h3, 0, none⟩) se.length c3, .slice (some ⟨h4, 0, none⟩) du.length c4, .slice (some ⟨h5, 0, none⟩) ss.length c5, .slice (some ⟨h6, 0, none⟩) es.length c6, .slice (some ⟨h7, 0, none⟩) la.length c7, .int .i64 x6] 38)) 0 0 (.slice none 0 0); rw [show (w.alloc (.cells #[.int .i64 x1, .int .i64 x2, .int .i64 x3, .int .i64 x4, .int .i64 x5, .slice (some ⟨h1, 0, none⟩) ls.length c1, .slice (some ⟨h2, 0, none⟩) tw.length c2, .slice (some ⟨h3, 0, none⟩) se.length c3, .slice (some ⟨h4, 0, none⟩) du.length c4, .slice (some ⟨h5, 0, none⟩) ss.length c5, .slice (some ⟨h6, 0, none⟩) es.length c6, .slice (some ⟨h7, 0, none⟩) la.length c7, .int .i64 x6] 38)).heap.size = w.heap.size + 1 by simp] at h; exact h)
  have hz0 : ((w.alloc (.cells #[.int .i64 x1, .int .i64 x2, .int .i64 x3, .int .i64 x4, .int .i64 x5, .slice (some ⟨h1, 0, none⟩) ls.length c1, .slice (some ⟨h2, 0, none⟩) tw.length c2, .slice (some ⟨h3, 0, none⟩) se.length c3, .slice (some ⟨h4, 0, none⟩) du.length c4, .slice (some ⟨h5, 0, none⟩) ss.length c5, .slice (some ⟨h6, 0, none⟩) es.length c6, .slice (some ⟨h7, 0, none⟩) la.length c7, .int .i64 x6] 38)).alloc (.cells #[.int .i64 0, .int .i64 0, .slice none 0 0] 53)).heap.size = w.heap.size + 2 := by simp
  have HR1 := hide hr1
  clear hr1
  have HR2 := hide hr2
  clear hr2
  have HR3 := hide hr3
  clear hr3
  have HR4 := hide hr4
  clear hr4
  have HR5 := hide hr5
  clear hr5
  have HR6 := hide hr6
  clear hr6
  have HR7 := hide hr7
  clear hr7
  have KO := hide (fun W => specRtr x1 x2 x3 x4 x5 x6 (some ⟨h1, 0, none⟩) (some ⟨h2, 0, none⟩) (some ⟨h3, 0, none⟩) (some ⟨h4, 0, none⟩) (some ⟨h5, 0, none⟩) (some ⟨h6, 0, none⟩) (some ⟨h7, 0, none⟩) c1 c2 c3 c4 c5 c6 c7 ls tw se du ss es la W hm1 hm2 hm3 hm4 hm5 hm6 hm7)
  cases hB : rtrB x1 x2 x3 x4 x5 x6 ls tw se du ss es la
  · rw [hB] at KO
    rw [show rtrC false = 1 from rfl, show hnL false tw ls x1 x5 = [] from rfl, show hnW false x2 = 0 from rfl, show hnV false = 0 from rfl]
    clear hB
    go_enter Tryz.func20, Tryz.ntmps20
    go_wp2_with (refine wpList_loadR _ rfl rfl rfl (unhide HAL).2 ?_)
    generalize hW0 : (w.alloc (.cells #[.int .i64 x1, .int .i64 x2, .int .i64 x3, .int .i64 x4, .int .i64 x5, .slice (some ⟨h1, 0, none⟩) ls.length c1, .slice (some ⟨h2, 0, none⟩) tw.length c2, .slice (some ⟨h3, 0, none⟩) se.length c3, .slice (some ⟨h4, 0, none⟩) du.length c4, .slice (some ⟨h5, 0, none⟩) ss.length c5, .slice (some ⟨h6, 0, none⟩) es.length c6, .slice (some ⟨h7, 0, none⟩) la.length c7, .int .i64 x6] 38)).alloc (.cells #[.int .i64 0, .int .i64 0, .slice none 0 0] 53) = W0 at *
    clear hW0
    refine (unhide KO _ ((unhide HR1).below (unhide HAL).1) ((unhide HR2).below (unhide HAL).1) ((unhide HR3).below (unhide HAL).1) ((unhide HR4).below (unhide HAL).1) ((unhide HR5).below (unhide HAL).1) ((unhide HR6).below (unhide HAL).1) ((unhide HR7).below (unhide HAL).1)).mono ?_
    rintro e V1 ⟨rfl, b_⟩
    replace HAL := hide (al_below (unhide HAL) b_)
    replace HT := hide ((unhide HT).below b_)
    have hz1 := b_.size
    clear b_
    obtain ⟨q0, q1, q2⟩ := (unhide HT).bx
    have r0 := (unhide HT).free 0
    have r1 := (unhide HT).free 1
    have r2 := (unhide HT).free 2
    have hlw := (unhide HT).lt
    go_wp2_with fail
    refine bodyPost_ret (v := .tuple #[.agg #[.int .i64 0, .int .i64 0, .slice none 0 0], .int .i64 1]) (by simp [results, Tryz.results20, go_sem, q0, q1, q2, hlw]) rfl ?_
    refine ⟨_, rfl, ?_, Nb.lstV_nil _ _ _ _ _⟩
    · exact (((unhide HAL).1.setCell (p := ⟨w.heap.size + 1, 0, none⟩) (Nat.le_succ _) _).setCell (p := ⟨w.heap.size + 1, 1, none⟩) (Nat.le_succ _) _).setCell (p := ⟨w.heap.size + 1, 2, none⟩) (Nat.le_succ _) _
  · obtain ⟨hl, hc⟩ := rtr_codeTL hB
    rw [show rtrC true = 0 from rfl, show hnL true tw ls x1 x5 = helL tw ls x1 x5 from rfl, show hnW true x2 = x2 from rfl, show hnV true = 6 from rfl]
    rw [hB] at KO
    have KH := hide (fun W => l12Hello x1 x2 x3 x4 x5 x6 (some ⟨h1, 0, none⟩) (some ⟨h3, 0, none⟩) (some ⟨h4, 0, none⟩) (some ⟨h5, 0, none⟩) (some ⟨h6, 0, none⟩) (some ⟨h7, 0, none⟩) h2 c1 c2 c3 c4 c5 c6 c7 ls tw se du ss es la W hl hc)
    generalize helL tw ls x1 x5 = G at *
    clear hB hl hc
    go_enter Tryz.func20, Tryz.ntmps20
    go_wp2_with (refine wpList_loadR _ rfl rfl rfl (unhide HAL).2 ?_)
    generalize hW0 : (w.alloc (.cells #[.int .i64 x1, .int .i64 x2, .int .i64 x3, .int .i64 x4, .int .i64 x5, .slice (some ⟨h1, 0, none⟩) ls.length c1, .slice (some ⟨h2, 0, none⟩) tw.length c2, .slice (some ⟨h3, 0, none⟩) se.length c3, .slice (some ⟨h4, 0, none⟩) du.length c4, .slice (some ⟨h5, 0, none⟩) ss.length c5, .slice (some ⟨h6, 0, none⟩) es.length c6, .slice (some ⟨h7, 0, none⟩) la.length c7, .int .i64 x6] 38)).alloc (.cells #[.int .i64 0, .int .i64 0, .slice none 0 0] 53) = W0 at *
    clear hW0
    refine (unhide KO _ ((unhide HR1).below (unhide HAL).1) ((unhide HR2).below (unhide HAL).1) ((unhide HR3).below (unhide HAL).1) ((unhide HR4).below (unhide HAL).1) ((unhide HR5).below (unhide HAL).1) ((unhide HR6).below (unhide HAL).1) ((unhide HR7).below (unhide HAL).1)).mono ?_
    rintro e V1 ⟨rfl, b_⟩
    replace HAL := hide (al_below (unhide HAL) b_)
    replace HT := hide ((unhide HT).below b_)
    have hz1 := b_.size
    clear b_
    go_wp2_with (refine wpList_loadR _ rfl rfl rfl (unhide HAL).2 ?_)
    refine (unhide KH _ ((unhide HR1).below (unhide HAL).1) ((unhide HR2).below (unhide HAL).1)).mono ?_
    rintro e V4 ⟨v4, rfl, b_, lv⟩
    obtain ⟨va, vc, rfl, LF⟩ := lv
    have HLF := hide LF
    replace HAL := hide (al_below (unhide HAL) b_)
    replace HT := hide ((unhide HT).below b_)
    have hz4 := b_.size
    clear b_ LF
    obtain ⟨q0, q1, q2⟩ := (unhide HT).bx
    have r0 := (unhide HT).free 0
    have r1 := (unhide HT).free 1
    have r2 := (unhide HT).free 2
    have hlw := (unhide HT).lt
    go_wp2_with fail
    refine bodyPost_ret (v := .tuple #[.agg #[.int .i64 x2, .int .i64 6, .slice va G.length vc], .int .i64 0]) (by simp [results, Tryz.results20, go_sem, q0, q1, q2, hlw]) rfl ?_
    refine ⟨_, rfl, ?_, va, vc, rfl, ?_⟩
    · exact (((unhide HAL).1.setCell (p := ⟨w.heap.size + 1, 0, none⟩) (Nat.le_succ _) _).setCell (p := ⟨w.heap.size + 1, 1, none⟩) (Nat.le_succ _) _).setCell (p := ⟨w.heap.size + 1, 2, none⟩) (Nat.le_succ _) _
    · refine ((unhide HLF).but (p := fun k => k ≠ w.heap.size + 1) (by simp [World.setCell]) (fun k hk hp => ?_) (fun k h1 h2 => ?_)).mono (by omega) (by simp [World.setCell])
      · rw [Below.heap_setCell _ _ _ _ hp, Below.heap_setCell _ _ _ _ hp, Below.heap_setCell _ _ _ _ hp]
      · show k ≠ w.heap.size + 1
        omega
end Rt
namespace Hl
theorem HV.but {w w' : World} {b : Nat} {x y : Int} {v : Value} (h : HV w b x y v) (hb : w'.heap[b]? = w.heap[b]?) : HV w' b x y v := hb.trans h
end Hl
namespace Rt
end Rt
end Go.Proofs.YtiipppfkpgbpeaaGreat
namespace Go.Proofs.YtiipppfkpgbpeaaGreat
open Go.ChangeShapes Go.WideShapes Go.ChangeAt Go.RowKit
set_option linter.unusedVariables false
set_option maxRecDepth 100000
set_option linter.unusedSimpArgs false
attribute [local go_sem ↓] Go.wp_at_zero Go.wp_at_succ
namespace Hs
open W1
set_option maxHeartbeats 1000000 in
theorem eq (x y : Int) (a b : Option Addr) (ms : List Nb.R) (ca cb : Nat) (w : World) (hm : ms.length ≤ 1048576) (hr : Nb.RM w a ms) (hr' : Nb.RM w b ms) :
    Calls Tryz.prog 22 #[.agg #[.int .i64 x, .int .i64 y, .slice a ms.length ca], .agg #[.int .i64 x, .int .i64 y, .slice b ms.length cb]] w fun e w' => e = .returned (.bool true) ∧ Below w.heap.size w w' := by
  have HR := hide hr
  have HR' := hide hr'
  clear hr hr'
  go_enter Tryz.func22, Tryz.ntmps22
  go_wp2_with fail
  refine (Nb.eqS a b ms ca cb _ hm ((unhide HR).below (by repeat (first | exact Below.refl _ _ | refine Below.alloc ?_ (by simp <;> omega) _))) ((unhide HR').below (by repeat (first | exact Below.refl _ _ | refine Below.alloc ?_ (by simp <;> omega) _)))).mono ?_
  rintro e w1 ⟨rfl, b1⟩
  have B1 : Hid (Below w.heap.size w w1) := hide ((by repeat (first | exact Below.refl _ _ | refine Below.alloc ?_ (by simp <;> omega) _) : Below w.heap.size w _).trans (b1.mono (by simp <;> omega)))
  clear b1
  go_wp2_with fail
  go_ret
  exact ⟨rfl, unhide B1⟩
set_option maxHeartbeats 1000000 in
theorem mark (x y : Int) (a : Option Addr) (c lo hi : Nat) (K : Int) (ms : List Nb.R) (w : World) (hK : 0 ≤ K) (hK1 : K ≤ 1073741824) (hn : ms.length ≤ 1048576) (h : Nb.Lst w a ms lo hi) :
    Calls Tryz.prog 23 #[.agg #[.int .i64 x, .int .i64 y, .slice a ms.length c], .int .i64 K] w fun e w' => e = .returned (.int .i64 (K + 4 * (ms.length : Int))) ∧ w.heap.size ≤ w'.heap.size ∧ Below (min lo w.heap.size) w w' ∧ Nb.Lst w' a (Nb.marks K ms.length) lo hi ∧ ∀ k, k < w.heap.size → (k < lo ∨ hi ≤ k) → w'.heap[k]? = w.heap[k]? := by
  have HL := hide h
  clear h
  go_enter Tryz.func23, Tryz.ntmps23
  go_wp2_with fail
  refine (Nb.markF a c lo hi K ms _ hK hK1 hn ((unhide HL).below ((Below.refl _ _).alloc (Nat.le_refl _) _))).mono ?_
  rintro e w1 ⟨rfl, hz, b1, f1, k1⟩
  have HZ := hide hz
  have B1 := hide b1
  have F1 := hide f1
  have K1 := hide k1
  clear hz b1 f1 k1
  go_wp2_with fail
  go_ret
  refine ⟨rfl, ?_, ?_, unhide F1, fun k hk hor => ?_⟩
  · have := unhide HZ; simp at this; omega
  · exact ((Below.refl _ _).alloc (Nat.min_le_right _ _) _).trans ((unhide B1).mono (by simp; omega))
  · exact (unhide K1 k (by simp; omega) hor).trans (((Below.refl w.heap.size w).alloc (Nat.le_refl _) _).block k hk)
set_option maxHeartbeats 1000000 in
theorem held (x y : Int) (a : Option Addr) (c n lo hi : Nat) (K : Int) (w : World) (hK : 0 ≤ K) (hK1 : K ≤ 1073741824) (hn : n ≤ 1048576) (h : Nb.Lst w a (Nb.marks K n) lo hi) :
    Calls Tryz.prog 24 #[.agg #[.int .i64 x, .int .i64 y, .slice a n c], .int .i64 K] w fun e w' => e = .returned (.int .i64 (K + 4 * (n : Int))) ∧ Below w.heap.size w w' := by
  have HL := hide h
  clear h
  go_enter Tryz.func24, Tryz.ntmps24
  go_wp2_with fail
  refine (Nb.heldF a c n lo hi K _ hK hK1 hn ((unhide HL).below ((Below.refl _ _).alloc (Nat.le_refl _) _))).mono ?_
  rintro e w1 ⟨rfl, rfl⟩
  have hnn : ¬ (K + 4 * (n : Int)) < 0 := by omega
  go_wp2_with fail
  go_ret
  exact ⟨rfl, (Below.refl _ _).alloc (Nat.le_refl _) _⟩
end Hs
end Go.Proofs.YtiipppfkpgbpeaaGreat
