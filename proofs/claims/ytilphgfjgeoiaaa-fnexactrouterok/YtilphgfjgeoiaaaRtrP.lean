/-
  Whether a router is right: mathematics, the whole of it. (written by mkrto.py)
-/
import Derived.Test.YtilphgfjgeoiaaaRtrO
import Derived.Test.YtilphgfjgeoiaaaGraS
import Derived.Test.YtilphgfjgeoiaaaLnkI
import Derived.Test.YtilphgfjgeoiaaaTopB
import Derived.Test.YtilphgfjgeoiaaaAdvC
namespace Go.Proofs.Ytilphgfjgeoiaaa
open Go.ChangeShapes Go.WideShapes Go.ChangeAt Go.RowKit
set_option linter.unusedVariables false
set_option linter.unusedSimpArgs false
set_option maxRecDepth 100000
attribute [local go_sem ↓] Go.wp_at_zero Go.wp_at_succ
namespace Rt
open W1
theorem tc_all (la : List Ed.R) : Av.tcB 0 15 la = Av.allN la la.length := by
  have h : Tim.valB 15 = true := by decide
  unfold Av.tcB; rw [h]; rfl
def Al (w W : World) (cs : List Value) : Prop := Below w.heap.size w W ∧ RA W w.heap.size cs
theorem al_below {w W W' : World} {cs : List Value} (h : Al w W cs) (hb : Below W.heap.size W W') : Al w W' cs := ⟨h.1.trans (hb.mono h.1.size), h.2.below hb⟩
set_option maxHeartbeats 32000000 in
theorem implRtr (x1 x2 x3 x4 x5 x6 : Int) (a1 a2 a3 a4 a5 a6 a7 : Option Addr) (c1 c2 c3 c4 c5 c6 c7 : Nat) (ls : List Lk.R) (tw : List Tu.R) (se : List Tu.R) (du : List Tu.R) (ss : List So.R) (es : List Tu.R) (la : List Ed.R) (w : World) (hm1 : ls.length ≤ 1048576) (hm2 : tw.length ≤ 1048576) (hm3 : se.length ≤ 1048576) (hm4 : du.length ≤ 1048576) (hm5 : ss.length ≤ 1048576) (hm6 : es.length ≤ 1048576) (hm7 : la.length ≤ 1048576) (hr1 : Lk.RM w a1 ls) (hr2 : Tu.RM w a2 tw) (hr3 : Tu.RM w a3 se) (hr4 : Tu.RM w a4 du) (hr5 : So.RM w a5 ss) (hr6 : Tu.RM w a6 es) (hr7 : Ed.RM w a7 la) :
    Calls Try.prog 19 #[.agg #[.int .i64 x1, .int .i64 x2, .int .i64 x3, .int .i64 x4, .int .i64 x5, .slice a1 ls.length c1, .slice a2 tw.length c2, .slice a3 se.length c3, .slice a4 du.length c4, .slice a5 ss.length c5, .slice a6 es.length c6, .slice a7 la.length c7, .int .i64 x6]] w fun e w' => e = .returned (.bool (rtrB x1 x2 x3 x4 x5 x6 ls tw se du ss es la)) ∧ Below w.heap.size w w' := by
  have HAL : Hid (Al w (w.alloc (.cells #[.int .i64 x1, .int .i64 x2, .int .i64 x3, .int .i64 x4, .int .i64 x5, .slice a1 ls.length c1, .slice a2 tw.length c2, .slice a3 se.length c3, .slice a4 du.length c4, .slice a5 ss.length c5, .slice a6 es.length c6, .slice a7 la.length c7, .int .i64 x6] 61)) (rC x1 x2 x3 x4 x5 (.slice a1 ls.length c1) (.slice a2 tw.length c2) (.slice a3 se.length c3) (.slice a4 du.length c4) (.slice a5 ss.length c5) (.slice a6 es.length c6) (.slice a7 la.length c7) x6)) := hide ⟨(Below.refl _ _).alloc (Nat.le_refl _) _, ra_new w _ rfl _⟩
  have HR1 := hide hr1
  clear hr1
  have HR2 := hide hr2
  clear hr2
  have HR3 := hide hr3
  clear hr3
  have HR4 := hide hr4
  clear hr4
  have HR5 := hide hr5
  clear hr5
  have HR6 := hide hr6
  clear hr6
  have HR7 := hide hr7
  clear hr7
  have K7 := hide (fun W => areLinksOf x1 a1 ls c1 W hm1)
  have K8 := hide (fun W => areTwoOf x1 a2 tw c2 W hm2)
  have K9 := hide (fun W => St.implOK a3 se c3 W hm3)
  have K10 := hide (fun W => St.implOK a4 du c4 W hm4)
  have K11 := hide (fun W => Tp.implOK a5 ss c5 a6 es c6 W hm5 hm6)
  have K13 := hide (fun W => Av.implOK 0 15 a7 la c7 W hm7)
  rw [tc_all] at K13
  cases h1 : inB x1 1 8
  · have hv : rtrB x1 x2 x3 x4 x5 x6 ls tw se du ss es la = false := by unfold rtrB; rw [h1]; rfl
    rw [hv]
    clear hv
    skip
    go_enter Try.func19, Try.ntmps19
    go_wp2_with (first | (go_at_call 62; refine (isAddress _ _).mono ?_; rintro e w_ ⟨rfl, rfl⟩) | (go_at_call 63; refine (Ln.isWill _ _).mono ?_; rintro e w_ ⟨rfl, rfl⟩) | (go_at_call 45; refine (isSeq _ _).mono ?_; rintro e w_ ⟨rfl, rfl⟩) | (go_at_call 46; refine (within _ _ _ _).mono ?_; rintro e w_ ⟨rfl, rfl⟩))
    go_ret
    exact ⟨rfl, (unhide HAL).1⟩
  cases h2 : inB x2 0 7
  · have hv : rtrB x1 x2 x3 x4 x5 x6 ls tw se du ss es la = false := by unfold rtrB; rw [h1, h2]; rfl
    rw [hv]
    clear hv
    skip
    go_enter Try.func19, Try.ntmps19
    go_wp2_with (first | (go_at_call 62; refine (isAddress _ _).mono ?_; rintro e w_ ⟨rfl, rfl⟩) | (go_at_call 63; refine (Ln.isWill _ _).mono ?_; rintro e w_ ⟨rfl, rfl⟩) | (go_at_call 45; refine (isSeq _ _).mono ?_; rintro e w_ ⟨rfl, rfl⟩) | (go_at_call 46; refine (within _ _ _ _).mono ?_; rintro e w_ ⟨rfl, rfl⟩))
    go_ret
    exact ⟨rfl, (unhide HAL).1⟩
  cases h3 : inB x3 0 65535
  · have hv : rtrB x1 x2 x3 x4 x5 x6 ls tw se du ss es la = false := by unfold rtrB; rw [h1, h2, h3]; rfl
    rw [hv]
    clear hv
    skip
    go_enter Try.func19, Try.ntmps19
    go_wp2_with (first | (go_at_call 62; refine (isAddress _ _).mono ?_; rintro e w_ ⟨rfl, rfl⟩) | (go_at_call 63; refine (Ln.isWill _ _).mono ?_; rintro e w_ ⟨rfl, rfl⟩) | (go_at_call 45; refine (isSeq _ _).mono ?_; rintro e w_ ⟨rfl, rfl⟩) | (go_at_call 46; refine (within _ _ _ _).mono ?_; rintro e w_ ⟨rfl, rfl⟩))
    go_ret
    exact ⟨rfl, (unhide HAL).1⟩
  cases h4 : inB x4 0 65535
  · have hv : rtrB x1 x2 x3 x4 x5 x6 ls tw se du ss es la = false := by unfold rtrB; rw [h1, h2, h3, h4]; rfl
    rw [hv]
    clear hv
    skip
    go_enter Try.func19, Try.ntmps19
    go_wp2_with (first | (go_at_call 62; refine (isAddress _ _).mono ?_; rintro e w_ ⟨rfl, rfl⟩) | (go_at_call 63; refine (Ln.isWill _ _).mono ?_; rintro e w_ ⟨rfl, rfl⟩) | (go_at_call 45; refine (isSeq _ _).mono ?_; rintro e w_ ⟨rfl, rfl⟩) | (go_at_call 46; refine (within _ _ _ _).mono ?_; rintro e w_ ⟨rfl, rfl⟩))
    go_ret
    exact ⟨rfl, (unhide HAL).1⟩
  cases h5 : inB x5 0 100000
  · have hv : rtrB x1 x2 x3 x4 x5 x6 ls tw se du ss es la = false := by unfold rtrB; rw [h1, h2, h3, h4, h5]; rfl
    rw [hv]
    clear hv
    skip
    go_enter Try.func19, Try.ntmps19
    go_wp2_with (first | (go_at_call 62; refine (isAddress _ _).mono ?_; rintro e w_ ⟨rfl, rfl⟩) | (go_at_call 63; refine (Ln.isWill _ _).mono ?_; rintro e w_ ⟨rfl, rfl⟩) | (go_at_call 45; refine (isSeq _ _).mono ?_; rintro e w_ ⟨rfl, rfl⟩) | (go_at_call 46; refine (within _ _ _ _).mono ?_; rintro e w_ ⟨rfl, rfl⟩))
    go_ret
    exact ⟨rfl, (unhide HAL).1⟩
  cases h6 : inB x6 0 1000000
  · have hv : rtrB x1 x2 x3 x4 x5 x6 ls tw se du ss es la = false := by unfold rtrB; rw [h1, h2, h3, h4, h5, h6]; rfl
    rw [hv]
    clear hv
    skip
    go_enter Try.func19, Try.ntmps19
    go_wp2_with (first | (go_at_call 62; refine (isAddress _ _).mono ?_; rintro e w_ ⟨rfl, rfl⟩) | (go_at_call 63; refine (Ln.isWill _ _).mono ?_; rintro e w_ ⟨rfl, rfl⟩) | (go_at_call 45; refine (isSeq _ _).mono ?_; rintro e w_ ⟨rfl, rfl⟩) | (go_at_call 46; refine (within _ _ _ _).mono ?_; rintro e w_ ⟨rfl, rfl⟩))
    go_ret
    exact ⟨rfl, (unhide HAL).1⟩
  cases h7 : lksB x1 ls
  · have hv : rtrB x1 x2 x3 x4 x5 x6 ls tw se du ss es la = false := by unfold rtrB; rw [h1, h2, h3, h4, h5, h6, h7]; rfl
    rw [hv]
    clear hv
    rw [h7] at K7
    clear h7
    go_enter Try.func19, Try.ntmps19
    go_wp2_with (first | (go_at_call 62; refine (isAddress _ _).mono ?_; rintro e w_ ⟨rfl, rfl⟩) | (go_at_call 63; refine (Ln.isWill _ _).mono ?_; rintro e w_ ⟨rfl, rfl⟩) | (go_at_call 45; refine (isSeq _ _).mono ?_; rintro e w_ ⟨rfl, rfl⟩) | (go_at_call 46; refine (within _ _ _ _).mono ?_; rintro e w_ ⟨rfl, rfl⟩))
    clear h1 h2 h3 h4 h5 h6
    generalize hW0 : w.alloc (.cells #[.int .i64 x1, .int .i64 x2, .int .i64 x3, .int .i64 x4, .int .i64 x5, .slice a1 ls.length c1, .slice a2 tw.length c2, .slice a3 se.length c3, .slice a4 du.length c4, .slice a5 ss.length c5, .slice a6 es.length c6, .slice a7 la.length c7, .int .i64 x6] 61) = W0 at *
    clear hW0
    refine (unhide K7 _ ((unhide HR1).below (unhide HAL).1)).mono ?_
    rintro e V7 ⟨rfl, b_⟩
    replace HAL := hide (al_below (unhide HAL) b_)
    clear b_
    go_wp2_with fail
    go_ret
    exact ⟨rfl, (unhide HAL).1⟩
  cases h8 : twoOf x1 tw
  · have hv : rtrB x1 x2 x3 x4 x5 x6 ls tw se du ss es la = false := by unfold rtrB; rw [h1, h2, h3, h4, h5, h6, h7, h8]; rfl
    rw [hv]
    clear hv
    rw [h7] at K7
    rw [h8] at K8
    clear h7 h8
    go_enter Try.func19, Try.ntmps19
    go_wp2_with (first | (go_at_call 62; refine (isAddress _ _).mono ?_; rintro e w_ ⟨rfl, rfl⟩) | (go_at_call 63; refine (Ln.isWill _ _).mono ?_; rintro e w_ ⟨rfl, rfl⟩) | (go_at_call 45; refine (isSeq _ _).mono ?_; rintro e w_ ⟨rfl, rfl⟩) | (go_at_call 46; refine (within _ _ _ _).mono ?_; rintro e w_ ⟨rfl, rfl⟩))
    clear h1 h2 h3 h4 h5 h6
    generalize hW0 : w.alloc (.cells #[.int .i64 x1, .int .i64 x2, .int .i64 x3, .int .i64 x4, .int .i64 x5, .slice a1 ls.length c1, .slice a2 tw.length c2, .slice a3 se.length c3, .slice a4 du.length c4, .slice a5 ss.length c5, .slice a6 es.length c6, .slice a7 la.length c7, .int .i64 x6] 61) = W0 at *
    clear hW0
    refine (unhide K7 _ ((unhide HR1).below (unhide HAL).1)).mono ?_
    rintro e V7 ⟨rfl, b_⟩
    replace HAL := hide (al_below (unhide HAL) b_)
    clear b_
    have z0 := (unhide HAL).2.at (i := 0) rfl
    have z6 := (unhide HAL).2.at (i := 6) rfl
    go_wp2_with fail
    clear z0 z6
    refine (unhide K8 _ ((unhide HR2).below (unhide HAL).1)).mono ?_
    rintro e V8 ⟨rfl, b_⟩
    replace HAL := hide (al_below (unhide HAL) b_)
    clear b_
    go_wp2_with fail
    go_ret
    exact ⟨rfl, (unhide HAL).1⟩
  cases h9 : St.setB se
  · have hv : rtrB x1 x2 x3 x4 x5 x6 ls tw se du ss es la = false := by unfold rtrB; rw [h1, h2, h3, h4, h5, h6, h7, h8, h9]; rfl
    rw [hv]
    clear hv
    rw [h7] at K7
    rw [h8] at K8
    rw [h9] at K9
    clear h7 h8 h9
    go_enter Try.func19, Try.ntmps19
    go_wp2_with (first | (go_at_call 62; refine (isAddress _ _).mono ?_; rintro e w_ ⟨rfl, rfl⟩) | (go_at_call 63; refine (Ln.isWill _ _).mono ?_; rintro e w_ ⟨rfl, rfl⟩) | (go_at_call 45; refine (isSeq _ _).mono ?_; rintro e w_ ⟨rfl, rfl⟩) | (go_at_call 46; refine (within _ _ _ _).mono ?_; rintro e w_ ⟨rfl, rfl⟩))
    clear h1 h2 h3 h4 h5 h6
    generalize hW0 : w.alloc (.cells #[.int .i64 x1, .int .i64 x2, .int .i64 x3, .int .i64 x4, .int .i64 x5, .slice a1 ls.length c1, .slice a2 tw.length c2, .slice a3 se.length c3, .slice a4 du.length c4, .slice a5 ss.length c5, .slice a6 es.length c6, .slice a7 la.length c7, .int .i64 x6] 61) = W0 at *
    clear hW0
    refine (unhide K7 _ ((unhide HR1).below (unhide HAL).1)).mono ?_
    rintro e V7 ⟨rfl, b_⟩
    replace HAL := hide (al_below (unhide HAL) b_)
    clear b_
    have z0 := (unhide HAL).2.at (i := 0) rfl
    have z6 := (unhide HAL).2.at (i := 6) rfl
    go_wp2_with fail
    clear z0 z6
    refine (unhide K8 _ ((unhide HR2).below (unhide HAL).1)).mono ?_
    rintro e V8 ⟨rfl, b_⟩
    replace HAL := hide (al_below (unhide HAL) b_)
    clear b_
    have z7 := (unhide HAL).2.at (i := 7) rfl
    go_wp2_with fail
    clear z7
    refine (unhide K9 _ ((unhide HR3).below (unhide HAL).1)).mono ?_
    rintro e V9 ⟨rfl, b_⟩
    replace HAL := hide (al_below (unhide HAL) b_)
    clear b_
    go_wp2_with fail
    go_ret
    exact ⟨rfl, (unhide HAL).1⟩
  cases h10 : St.setB du
  · have hv : rtrB x1 x2 x3 x4 x5 x6 ls tw se du ss es la = false := by unfold rtrB; rw [h1, h2, h3, h4, h5, h6, h7, h8, h9, h10]; rfl
    rw [hv]
    clear hv
    rw [h7] at K7
    rw [h8] at K8
    rw [h9] at K9
    rw [h10] at K10
    clear h7 h8 h9 h10
    go_enter Try.func19, Try.ntmps19
    go_wp2_with (first | (go_at_call 62; refine (isAddress _ _).mono ?_; rintro e w_ ⟨rfl, rfl⟩) | (go_at_call 63; refine (Ln.isWill _ _).mono ?_; rintro e w_ ⟨rfl, rfl⟩) | (go_at_call 45; refine (isSeq _ _).mono ?_; rintro e w_ ⟨rfl, rfl⟩) | (go_at_call 46; refine (within _ _ _ _).mono ?_; rintro e w_ ⟨rfl, rfl⟩))
    clear h1 h2 h3 h4 h5 h6
    generalize hW0 : w.alloc (.cells #[.int .i64 x1, .int .i64 x2, .int .i64 x3, .int .i64 x4, .int .i64 x5, .slice a1 ls.length c1, .slice a2 tw.length c2, .slice a3 se.length c3, .slice a4 du.length c4, .slice a5 ss.length c5, .slice a6 es.length c6, .slice a7 la.length c7, .int .i64 x6] 61) = W0 at *
    clear hW0
    refine (unhide K7 _ ((unhide HR1).below (unhide HAL).1)).mono ?_
    rintro e V7 ⟨rfl, b_⟩
    replace HAL := hide (al_below (unhide HAL) b_)
    clear b_
    have z0 := (unhide HAL).2.at (i := 0) rfl
    have z6 := (unhide HAL).2.at (i := 6) rfl
    go_wp2_with fail
    clear z0 z6
    refine (unhide K8 _ ((unhide HR2).below (unhide HAL).1)).mono ?_
    rintro e V8 ⟨rfl, b_⟩
    replace HAL := hide (al_below (unhide HAL) b_)
    clear b_
    have z7 := (unhide HAL).2.at (i := 7) rfl
    go_wp2_with fail
    clear z7
    refine (unhide K9 _ ((unhide HR3).below (unhide HAL).1)).mono ?_
    rintro e V9 ⟨rfl, b_⟩
    replace HAL := hide (al_below (unhide HAL) b_)
    clear b_
    have z8 := (unhide HAL).2.at (i := 8) rfl
    go_wp2_with fail
    clear z8
    refine (unhide K10 _ ((unhide HR4).below (unhide HAL).1)).mono ?_
    rintro e V10 ⟨rfl, b_⟩
    replace HAL := hide (al_below (unhide HAL) b_)
    clear b_
    go_wp2_with fail
    go_ret
    exact ⟨rfl, (unhide HAL).1⟩
  cases h11 : Tp.topB ss es
  · have hv : rtrB x1 x2 x3 x4 x5 x6 ls tw se du ss es la = false := by unfold rtrB; rw [h1, h2, h3, h4, h5, h6, h7, h8, h9, h10, h11]; rfl
    rw [hv]
    clear hv
    rw [h7] at K7
    rw [h8] at K8
    rw [h9] at K9
    rw [h10] at K10
    rw [h11] at K11
    clear h7 h8 h9 h10 h11
    go_enter Try.func19, Try.ntmps19
    go_wp2_with (first | (go_at_call 62; refine (isAddress _ _).mono ?_; rintro e w_ ⟨rfl, rfl⟩) | (go_at_call 63; refine (Ln.isWill _ _).mono ?_; rintro e w_ ⟨rfl, rfl⟩) | (go_at_call 45; refine (isSeq _ _).mono ?_; rintro e w_ ⟨rfl, rfl⟩) | (go_at_call 46; refine (within _ _ _ _).mono ?_; rintro e w_ ⟨rfl, rfl⟩))
    clear h1 h2 h3 h4 h5 h6
    generalize hW0 : w.alloc (.cells #[.int .i64 x1, .int .i64 x2, .int .i64 x3, .int .i64 x4, .int .i64 x5, .slice a1 ls.length c1, .slice a2 tw.length c2, .slice a3 se.length c3, .slice a4 du.length c4, .slice a5 ss.length c5, .slice a6 es.length c6, .slice a7 la.length c7, .int .i64 x6] 61) = W0 at *
    clear hW0
    refine (unhide K7 _ ((unhide HR1).below (unhide HAL).1)).mono ?_
    rintro e V7 ⟨rfl, b_⟩
    replace HAL := hide (al_below (unhide HAL) b_)
    clear b_
    have z0 := (unhide HAL).2.at (i := 0) rfl
    have z6 := (unhide HAL).2.at (i := 6) rfl
    go_wp2_with fail
    clear z0 z6
    refine (unhide K8 _ ((unhide HR2).below (unhide HAL).1)).mono ?_
    rintro e V8 ⟨rfl, b_⟩
    replace HAL := hide (al_below (unhide HAL) b_)
    clear b_
    have z7 := (unhide HAL).2.at (i := 7) rfl
    go_wp2_with fail
    clear z7
    refine (unhide K9 _ ((unhide HR3).below (unhide HAL).1)).mono ?_
    rintro e V9 ⟨rfl, b_⟩
    replace HAL := hide (al_below (unhide HAL) b_)
    clear b_
    have z8 := (unhide HAL).2.at (i := 8) rfl
    go_wp2_with fail
    clear z8
    refine (unhide K10 _ ((unhide HR4).below (unhide HAL).1)).mono ?_
    rintro e V10 ⟨rfl, b_⟩
    replace HAL := hide (al_below (unhide HAL) b_)
    clear b_
    have z9 := (unhide HAL).2.at (i := 9) rfl
    have z10 := (unhide HAL).2.at (i := 10) rfl
    go_wp2_with fail
    clear z9 z10
    refine (unhide K11 _ ((unhide HR5).below (unhide HAL).1) ((unhide HR6).below (unhide HAL).1)).mono ?_
    rintro e V11 ⟨rfl, b_⟩
    replace HAL := hide (al_below (unhide HAL) b_)
    clear b_
    go_wp2_with fail
    go_ret
    exact ⟨rfl, (unhide HAL).1⟩
  have K12 := hide (fun W h => Tp.hasSource a5 ss c5 x1 W h (Tp.up_src (Tp.top_src h11)) (by have := Tp.src_len (Tp.top_src h11); omega))
  cases h12 : Tp.hasS ss x1
  rotate_left
  · have hv : rtrB x1 x2 x3 x4 x5 x6 ls tw se du ss es la = false := by unfold rtrB; rw [h1, h2, h3, h4, h5, h6, h7, h8, h9, h10, h11, h12]; rfl
    rw [hv]
    clear hv
    rw [h7] at K7
    rw [h8] at K8
    rw [h9] at K9
    rw [h10] at K10
    rw [h11] at K11
    rw [h12] at K12
    clear h7 h8 h9 h10 h11 h12
    go_enter Try.func19, Try.ntmps19
    go_wp2_with (first | (go_at_call 62; refine (isAddress _ _).mono ?_; rintro e w_ ⟨rfl, rfl⟩) | (go_at_call 63; refine (Ln.isWill _ _).mono ?_; rintro e w_ ⟨rfl, rfl⟩) | (go_at_call 45; refine (isSeq _ _).mono ?_; rintro e w_ ⟨rfl, rfl⟩) | (go_at_call 46; refine (within _ _ _ _).mono ?_; rintro e w_ ⟨rfl, rfl⟩))
    clear h1 h2 h3 h4 h5 h6
    generalize hW0 : w.alloc (.cells #[.int .i64 x1, .int .i64 x2, .int .i64 x3, .int .i64 x4, .int .i64 x5, .slice a1 ls.length c1, .slice a2 tw.length c2, .slice a3 se.length c3, .slice a4 du.length c4, .slice a5 ss.length c5, .slice a6 es.length c6, .slice a7 la.length c7, .int .i64 x6] 61) = W0 at *
    clear hW0
    refine (unhide K7 _ ((unhide HR1).below (unhide HAL).1)).mono ?_
    rintro e V7 ⟨rfl, b_⟩
    replace HAL := hide (al_below (unhide HAL) b_)
    clear b_
    have z0 := (unhide HAL).2.at (i := 0) rfl
    have z6 := (unhide HAL).2.at (i := 6) rfl
    go_wp2_with fail
    clear z0 z6
    refine (unhide K8 _ ((unhide HR2).below (unhide HAL).1)).mono ?_
    rintro e V8 ⟨rfl, b_⟩
    replace HAL := hide (al_below (unhide HAL) b_)
    clear b_
    have z7 := (unhide HAL).2.at (i := 7) rfl
    go_wp2_with fail
    clear z7
    refine (unhide K9 _ ((unhide HR3).below (unhide HAL).1)).mono ?_
    rintro e V9 ⟨rfl, b_⟩
    replace HAL := hide (al_below (unhide HAL) b_)
    clear b_
    have z8 := (unhide HAL).2.at (i := 8) rfl
    go_wp2_with fail
    clear z8
    refine (unhide K10 _ ((unhide HR4).below (unhide HAL).1)).mono ?_
    rintro e V10 ⟨rfl, b_⟩
    replace HAL := hide (al_below (unhide HAL) b_)
    clear b_
    have z9 := (unhide HAL).2.at (i := 9) rfl
    have z10 := (unhide HAL).2.at (i := 10) rfl
    go_wp2_with fail
    clear z9 z10
    refine (unhide K11 _ ((unhide HR5).below (unhide HAL).1) ((unhide HR6).below (unhide HAL).1)).mono ?_
    rintro e V11 ⟨rfl, b_⟩
    replace HAL := hide (al_below (unhide HAL) b_)
    clear b_
    have z9 := (unhide HAL).2.at (i := 9) rfl
    have z0 := (unhide HAL).2.at (i := 0) rfl
    go_wp2_with fail
    clear z9 z0
    refine (unhide K12 _ ((unhide HR5).below (unhide HAL).1)).mono ?_
    rintro e V12 ⟨rfl, b_⟩
    replace HAL := hide (al_below (unhide HAL) b_)
    clear b_
    go_wp2_with fail
    go_ret
    exact ⟨rfl, (unhide HAL).1⟩
  cases h13 : Av.allN la la.length
  · have hv : rtrB x1 x2 x3 x4 x5 x6 ls tw se du ss es la = false := by unfold rtrB; rw [h1, h2, h3, h4, h5, h6, h7, h8, h9, h10, h11, h12, h13]; rfl
    rw [hv]
    clear hv
    rw [h7] at K7
    rw [h8] at K8
    rw [h9] at K9
    rw [h10] at K10
    rw [h11] at K11
    rw [h12] at K12
    rw [h13] at K13
    clear h7 h8 h9 h10 h11 h12 h13
    go_enter Try.func19, Try.ntmps19
    go_wp2_with (first | (go_at_call 62; refine (isAddress _ _).mono ?_; rintro e w_ ⟨rfl, rfl⟩) | (go_at_call 63; refine (Ln.isWill _ _).mono ?_; rintro e w_ ⟨rfl, rfl⟩) | (go_at_call 45; refine (isSeq _ _).mono ?_; rintro e w_ ⟨rfl, rfl⟩) | (go_at_call 46; refine (within _ _ _ _).mono ?_; rintro e w_ ⟨rfl, rfl⟩))
    clear h1 h2 h3 h4 h5 h6
    generalize hW0 : w.alloc (.cells #[.int .i64 x1, .int .i64 x2, .int .i64 x3, .int .i64 x4, .int .i64 x5, .slice a1 ls.length c1, .slice a2 tw.length c2, .slice a3 se.length c3, .slice a4 du.length c4, .slice a5 ss.length c5, .slice a6 es.length c6, .slice a7 la.length c7, .int .i64 x6] 61) = W0 at *
    clear hW0
    refine (unhide K7 _ ((unhide HR1).below (unhide HAL).1)).mono ?_
    rintro e V7 ⟨rfl, b_⟩
    replace HAL := hide (al_below (unhide HAL) b_)
    clear b_
    have z0 := (unhide HAL).2.at (i := 0) rfl
    have z6 := (unhide HAL).2.at (i := 6) rfl
    go_wp2_with fail
    clear z0 z6
    refine (unhide K8 _ ((unhide HR2).below (unhide HAL).1)).mono ?_
    rintro e V8 ⟨rfl, b_⟩
    replace HAL := hide (al_below (unhide HAL) b_)
    clear b_
    have z7 := (unhide HAL).2.at (i := 7) rfl
    go_wp2_with fail
    clear z7
    refine (unhide K9 _ ((unhide HR3).below (unhide HAL).1)).mono ?_
    rintro e V9 ⟨rfl, b_⟩
    replace HAL := hide (al_below (unhide HAL) b_)
    clear b_
    have z8 := (unhide HAL).2.at (i := 8) rfl
    go_wp2_with fail
    clear z8
    refine (unhide K10 _ ((unhide HR4).below (unhide HAL).1)).mono ?_
    rintro e V10 ⟨rfl, b_⟩
    replace HAL := hide (al_below (unhide HAL) b_)
    clear b_
    have z9 := (unhide HAL).2.at (i := 9) rfl
    have z10 := (unhide HAL).2.at (i := 10) rfl
    go_wp2_with fail
    clear z9 z10
    refine (unhide K11 _ ((unhide HR5).below (unhide HAL).1) ((unhide HR6).below (unhide HAL).1)).mono ?_
    rintro e V11 ⟨rfl, b_⟩
    replace HAL := hide (al_below (unhide HAL) b_)
    clear b_
    have z9 := (unhide HAL).2.at (i := 9) rfl
    have z0 := (unhide HAL).2.at (i := 0) rfl
    go_wp2_with fail
    clear z9 z0
    refine (unhide K12 _ ((unhide HR5).below (unhide HAL).1)).mono ?_
    rintro e V12 ⟨rfl, b_⟩
    replace HAL := hide (al_below (unhide HAL) b_)
    clear b_
    have z11 := (unhide HAL).2.at (i := 11) rfl
    go_wp2_with fail
    clear z11
    refine (unhide K13 _ ((unhide HR7).below (unhide HAL).1)).mono ?_
    rintro e V13 ⟨rfl, b_⟩
    replace HAL := hide (al_below (unhide HAL) b_)
    clear b_
    go_wp2_with fail
    go_ret
    exact ⟨rfl, (unhide HAL).1⟩
  have hv : rtrB x1 x2 x3 x4 x5 x6 ls tw se du ss es la = true := by unfold rtrB; rw [h1, h2, h3, h4, h5, h6, h7, h8, h9, h10, h11, h12, h13]; rfl
  rw [hv]
  clear hv
  rw [h7] at K7
  rw [h8] at K8
  rw [h9] at K9
  rw [h10] at K10
  rw [h11] at K11
  rw [h12] at K12
  rw [h13] at K13
  clear h7 h8 h9 h10 h11 h12 h13
  go_enter Try.func19, Try.ntmps19
  go_wp2_with (first | (go_at_call 62; refine (isAddress _ _).mono ?_; rintro e w_ ⟨rfl, rfl⟩) | (go_at_call 63; refine (Ln.isWill _ _).mono ?_; rintro e w_ ⟨rfl, rfl⟩) | (go_at_call 45; refine (isSeq _ _).mono ?_; rintro e w_ ⟨rfl, rfl⟩) | (go_at_call 46; refine (within _ _ _ _).mono ?_; rintro e w_ ⟨rfl, rfl⟩))
  clear h1 h2 h3 h4 h5 h6
  generalize hW0 : w.alloc (.cells #[.int .i64 x1, .int .i64 x2, .int .i64 x3, .int .i64 x4, .int .i64 x5, .slice a1 ls.length c1, .slice a2 tw.length c2, .slice a3 se.length c3, .slice a4 du.length c4, .slice a5 ss.length c5, .slice a6 es.length c6, .slice a7 la.length c7, .int .i64 x6] 61) = W0 at *
  clear hW0
  refine (unhide K7 _ ((unhide HR1).below (unhide HAL).1)).mono ?_
  rintro e V7 ⟨rfl, b_⟩
  replace HAL := hide (al_below (unhide HAL) b_)
  clear b_
  have z0 := (unhide HAL).2.at (i := 0) rfl
  have z6 := (unhide HAL).2.at (i := 6) rfl
  go_wp2_with fail
  clear z0 z6
  refine (unhide K8 _ ((unhide HR2).below (unhide HAL).1)).mono ?_
  rintro e V8 ⟨rfl, b_⟩
  replace HAL := hide (al_below (unhide HAL) b_)
  clear b_
  have z7 := (unhide HAL).2.at (i := 7) rfl
  go_wp2_with fail
  clear z7
  refine (unhide K9 _ ((unhide HR3).below (unhide HAL).1)).mono ?_
  rintro e V9 ⟨rfl, b_⟩
  replace HAL := hide (al_below (unhide HAL) b_)
  clear b_
  have z8 := (unhide HAL).2.at (i := 8) rfl
  go_wp2_with fail
  clear z8
  refine (unhide K10 _ ((unhide HR4).below (unhide HAL).1)).mono ?_
  rintro e V10 ⟨rfl, b_⟩
  replace HAL := hide (al_below (unhide HAL) b_)
  clear b_
  have z9 := (unhide HAL).2.at (i := 9) rfl
  have z10 := (unhide HAL).2.at (i := 10) rfl
  go_wp2_with fail
  clear z9 z10
  refine (unhide K11 _ ((unhide HR5).below (unhide HAL).1) ((unhide HR6).below (unhide HAL).1)).mono ?_
  rintro e V11 ⟨rfl, b_⟩
  replace HAL := hide (al_below (unhide HAL) b_)
  clear b_
  have z9 := (unhide HAL).2.at (i := 9) rfl
  have z0 := (unhide HAL).2.at (i := 0) rfl
  go_wp2_with fail
  clear z9 z0
  refine (unhide K12 _ ((unhide HR5).below (unhide HAL).1)).mono ?_
  rintro e V12 ⟨rfl, b_⟩
  replace HAL := hide (al_below (unhide HAL) b_)
  clear b_
  have z11 := (unhide HAL).2.at (i := 11) rfl
  go_wp2_with fail
  clear z11
  refine (unhide K13 _ ((unhide HR7).below (unhide HAL).1)).mono ?_
  rintro e V13 ⟨rfl, b_⟩
  replace HAL := hide (al_below (unhide HAL) b_)
  clear b_
  go_wp2_with fail
  go_ret
  exact ⟨rfl, (unhide HAL).1⟩
end Rt
end Go.Proofs.Ytilphgfjgeoiaaa
