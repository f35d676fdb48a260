/-
  Of the texts RtrK, StrHello, ExHelloNowW: what this claim needs of them. (put together by mkprune.py)
-/
import Derived.Test.YtffclijcfngeeaaGreatQe6
import Derived.Deep.DeepHandedRow
namespace Go.Proofs.YtffclijcfngeeaaGreat
open Go.ChangeShapes Go.WideShapes Go.ChangeAt Go.RowKit
set_option linter.unusedVariables false
set_option linter.unusedSimpArgs false
set_option maxRecDepth 100000
attribute [local go_sem ↓] Go.wp_at_zero Go.wp_at_succ
namespace Rt
open W1
theorem rtr_all {x1 x2 x3 x4 x5 x6 : Int} {ls : List Lk.R} {tw : List Tu.R} {se : List Tu.R} {du : List Tu.R} {ss : List So.R} {es : List Tu.R} {la : List Ed.R} (h : rtrB x1 x2 x3 x4 x5 x6 ls tw se du ss es la = true) : inB x1 1 8 = true ∧ inB x2 0 7 = true ∧ inB x3 0 65535 = true ∧ inB x4 0 65535 = true ∧ inB x5 0 100000 = true ∧ inB x6 0 1000000 = true ∧ lksB x1 ls = true ∧ twoOf x1 tw = true ∧ St.setB se = true ∧ St.setB du = true ∧ Tp.topB ss es = true ∧ Tp.hasS ss x1 = false ∧ Av.allN la la.length = true := by
  unfold rtrB at h
  simp only [Bool.and_eq_true, Bool.not_eq_true'] at h
  obtain ⟨h1, h2, h3, h4, h5, h6, h7, h8, h9, h10, h11, h12, h13⟩ := h
  exact ⟨h1, h2, h3, h4, h5, h6, h7, h8, h9, h10, h11, h12, h13⟩
theorem rtr_lens {x1 x2 x3 x4 x5 x6 : Int} {ls : List Lk.R} {tw : List Tu.R} {se : List Tu.R} {du : List Tu.R} {ss : List So.R} {es : List Tu.R} {la : List Ed.R} (h : rtrB x1 x2 x3 x4 x5 x6 ls tw se du ss es la = true) : ls.length ≤ 8 ∧ tw.length ≤ 64 ∧ se.length ≤ 64 ∧ du.length ≤ 64 ∧ ss.length ≤ 64 ∧ es.length ≤ 64 ∧ la.length ≤ 8 := by
  obtain ⟨h1, h2, h3, h4, h5, h6, h7, h8, h9, h10, h11, h12, h13⟩ := rtr_all h
  unfold lksB at h7
  unfold twoOf at h8
  unfold Tp.topB at h11
  simp only [Bool.and_eq_true] at h7 h8 h11
  have := Tw.two_len h8.1
  have := Tw.two_len h11.2.1
  exact ⟨Ln.links_len h7.1, by omega, St.setB_len h9, St.setB_len h10, Nat.le_trans (Tp.src_len h11.1) (by omega), by omega, Av.all_len h13⟩
theorem rtr_codeTL {x1 x2 x3 x4 x5 x6 : Int} {ls : List Lk.R} {tw : List Tu.R} {se : List Tu.R} {du : List Tu.R} {ss : List So.R} {es : List Tu.R} {la : List Ed.R} (h : rtrB x1 x2 x3 x4 x5 x6 ls tw se du ss es la = true) : Ln.linksB ls = true ∧ Tw.codeTL tw ls = 0 := by
  obtain ⟨h1, h2, h3, h4, h5, h6, h7, h8, h9, h10, h11, h12, h13⟩ := rtr_all h
  have hl := rtr_lens h
  unfold lksB at h7
  unfold twoOf at h8
  simp only [Bool.and_eq_true] at h7 h8
  exact ⟨h7.1, Tw.codeTL_zero (by omega) (by omega) (by rw [h8.1, h7.1]; rfl)⟩
/-- What HelloNow tells. -/
def hnW (b : Bool) (x2 : Int) : Int := if b = true then x2 else 0
def hnV (b : Bool) : Int := if b = true then 6 else 0
noncomputable def hnL (b : Bool) (tw : List Tu.R) (ls : List Lk.R) (me now : Int) : List Nb.R := if b = true then helL tw ls me now else []
theorem hn_len (b : Bool) (tw : List Tu.R) (ls : List Lk.R) (me now : Int) : (hnL b tw ls me now).length ≤ ls.length := by
  unfold hnL; split
  · rw [hel_len]; exact Nat.le_refl _
  · simp
set_option maxHeartbeats 16000000 in
theorem implHN (x1 x2 x3 x4 x5 x6 : Int) (h1 h2 h3 h4 h5 h6 h7 : Nat) (c1 c2 c3 c4 c5 c6 c7 : Nat) (ls : List Lk.R) (tw : List Tu.R) (se : List Tu.R) (du : List Tu.R) (ss : List So.R) (es : List Tu.R) (la : List Ed.R) (w : World) (hm1 : ls.length ≤ 1048576) (hm2 : tw.length ≤ 1048576) (hm3 : se.length ≤ 1048576) (hm4 : du.length ≤ 1048576) (hm5 : ss.length ≤ 1048576) (hm6 : es.length ≤ 1048576) (hm7 : la.length ≤ 1048576) (hr1 : Lk.RM w (some ⟨h1, 0, none⟩) ls) (hr2 : Tu.RM w (some ⟨h2, 0, none⟩) tw) (hr3 : Tu.RM w (some ⟨h3, 0, none⟩) se) (hr4 : Tu.RM w (some ⟨h4, 0, none⟩) du) (hr5 : So.RM w (some ⟨h5, 0, none⟩) ss) (hr6 : Tu.RM w (some ⟨h6, 0, none⟩) es) (hr7 : Ed.RM w (some ⟨h7, 0, none⟩) la) :
    Calls Tryz.prog 21 #[.agg #[.int .i64 x1, .int .i64 x2, .int .i64 x3, .int .i64 x4, .int .i64 x5, .slice (some ⟨h1, 0, none⟩) ls.length c1, .slice (some ⟨h2, 0, none⟩) tw.length c2, .slice (some ⟨h3, 0, none⟩) se.length c3, .slice (some ⟨h4, 0, none⟩) du.length c4, .slice (some ⟨h5, 0, none⟩) ss.length c5, .slice (some ⟨h6, 0, none⟩) es.length c6, .slice (some ⟨h7, 0, none⟩) la.length c7, .int .i64 x6]] w fun e w' => ∃ v, e = .returned (.tuple #[.agg #[.int .i64 (hnW (rtrB x1 x2 x3 x4 x5 x6 ls tw se du ss es la) x2), .int .i64 (hnV (rtrB x1 x2 x3 x4 x5 x6 ls tw se du ss es la)), v], .int .i64 (rtrC (rtrB x1 x2 x3 x4 x5 x6 ls tw se du ss es la))]) ∧ Below w.heap.size w w' ∧ Nb.LstV w' v (hnL (rtrB x1 x2 x3 x4 x5 x6 ls tw se du ss es la) tw ls x1 x5) w.heap.size w'.heap.size := by
  have HAL : Hid (Al w ((w.alloc (.cells #[.int .i64 x1, .int .i64 x2, .int .i64 x3, .int .i64 x4, .int .i64 x5, .slice (some ⟨h1, 0, none⟩) ls.length c1, .slice (some ⟨h2, 0, none⟩) tw.length c2, .slice (some ⟨h3, 0, none⟩) se.length c3, .slice (some ⟨h4, 0, none⟩) du.length c4, .slice (some ⟨h5, 0, none⟩) ss.length c5, .slice (some ⟨h6, 0, none⟩) es.length c6, .slice (some ⟨h7, 0, none⟩) la.length c7, .int .i64 x6] 38)).alloc (.cells #[.int .i64 0, .int .i64 0, .slice none 0 0] 53)) (rC x1 x2 x3 x4 x5 (.slice (some ⟨h1, 0, none⟩) ls.length c1) (.slice (some ⟨h2, 0, none⟩) tw.length c2) (.slice (some ⟨h3, 0, none⟩) se.length c3) (.slice (some ⟨h4, 0, none⟩) du.length c4) (.slice (some ⟨h5, 0, none⟩) ss.length c5) (.slice (some ⟨h6, 0, none⟩) es.length c6) (.slice (some ⟨h7, 0, none⟩) la.length c7) x6)) := hide ⟨((Below.refl _ _).alloc (Nat.le_refl _) _).alloc (by simp) _, (ra_new w _ rfl _).below ((Below.refl _ _).alloc (Nat.le_refl _) _)⟩
  have HT : Hid (Hl.HV ((w.alloc (.cells #[.int .i64 x1, .int .i64 x2, .int .i64 x3, .int .i64 x4, .int .i64 x5, .slice (some ⟨h1, 0, none⟩) ls.length c1, .slice (some ⟨h2, 0, none⟩) tw.length c2, .slice (some ⟨h3, 0, none⟩) se.length c3, .slice (some ⟨h4, 0, none⟩) du.length c4, .slice (some ⟨h5, 0, none⟩) ss.length c5, .slice (some ⟨h6, 0, none⟩) es.length c6, .slice (some ⟨h7, 0, none⟩) la.length c7, .int .i64 x6] 38)).alloc (.cells #[.int .i64 0, .int .i64 0, .slice none 0 0] 53)) (w.heap.size + 1) 0 0 (.slice none 0 0)) := hide (by have h := Hl.hv_new (w.alloc (.cells #[.int .i64 x1, .int .i64 x2, .int .i64 x3, .int .i64 x4, .int .i64 x5, .slice (some ⟨h1, 0, none⟩) ls.length c1, .slice (some ⟨h2, 0, none⟩) tw.length c2, .slice (some ⟨h3, 0, none⟩) se.length c3, .slice (some ⟨h4, 0, none⟩) du.length c4, .slice (some ⟨h5, 0, none⟩) ss.length c5, .slice (some ⟨h6, 0, none⟩) es.length c6, .slice (some ⟨h7, 0, none⟩) la.length c7, .int .i64 x6] 38)) 0 0 (.slice none 0 0); rw [show (w.alloc (.cells #[.int .i64 x1, .int .i64 x2, .int .i64 x3, .int .i64 x4, .int .i64 x5, .slice (some ⟨h1, 0, none⟩) ls.length c1, .slice (some ⟨h2, 0, none⟩) tw.length c2, .slice (some ⟨h3, 0, none⟩) se.length c3, .slice (some ⟨h4, 0, none⟩) du.length c4, .slice (some ⟨h5, 0, none⟩) ss.length c5, .slice (some ⟨h6, 0, none⟩) es.length c6, .slice (some ⟨h7, 0, none⟩) la.length c7, .int .i64 x6] 38)).heap.size = w.heap.size + 1 by simp] at h; exact h)
  have hz0 : ((w.alloc (.cells #[.int .i64 x1, .int .i64 x2, .int .i64 x3, .int .i64 x4, .int .i64 x5, .slice (some ⟨h1, 0, none⟩) ls.length c1, .slice (some ⟨h2, 0, none⟩) tw.length c2, .slice (some ⟨h3, 0, none⟩) se.length c3, .slice (some ⟨h4, 0, none⟩) du.length c4, .slice (some ⟨h5, 0, none⟩) ss.length c5, .slice (some ⟨h6, 0, none⟩) es.length c6, .slice (some ⟨h7, 0, none⟩) la.length c7, .int .i64 x6] 38)).alloc (.cells #[.int .i64 0, .int .i64 0, .slice none 0 0] 53)).heap.size = w.heap.size + 2 := by simp
  have HR1 := hide hr1
  clear hr1
  have HR2 := hide hr2
  clear hr2
  have HR3 := hide hr3
  clear hr3
  have HR4 := hide hr4
  clear hr4
  have HR5 := hide hr5
  clear hr5
  have HR6 := hide hr6
  clear hr6
  have HR7 := hide hr7
  clear hr7
  have KO := hide (fun W => implRtr x1 x2 x3 x4 x5 x6 (some ⟨h1, 0, none⟩) (some ⟨h2, 0, none⟩) (some ⟨h3, 0, none⟩) (some ⟨h4, 0, none⟩) (some ⟨h5, 0, none⟩) (some ⟨h6, 0, none⟩) (some ⟨h7, 0, none⟩) c1 c2 c3 c4 c5 c6 c7 ls tw se du ss es la W hm1 hm2 hm3 hm4 hm5 hm6 hm7)
  cases hB : rtrB x1 x2 x3 x4 x5 x6 ls tw se du ss es la
  · rw [hB] at KO
    rw [show rtrC false = 1 from rfl, show hnL false tw ls x1 x5 = [] from rfl, show hnW false x2 = 0 from rfl, show hnV false = 0 from rfl]
    clear hB
    go_enter Tryz.func21, Tryz.ntmps21
    go_wp2_with (refine wpList_loadR _ rfl rfl rfl (unhide HAL).2 ?_)
    generalize hW0 : (w.alloc (.cells #[.int .i64 x1, .int .i64 x2, .int .i64 x3, .int .i64 x4, .int .i64 x5, .slice (some ⟨h1, 0, none⟩) ls.length c1, .slice (some ⟨h2, 0, none⟩) tw.length c2, .slice (some ⟨h3, 0, none⟩) se.length c3, .slice (some ⟨h4, 0, none⟩) du.length c4, .slice (some ⟨h5, 0, none⟩) ss.length c5, .slice (some ⟨h6, 0, none⟩) es.length c6, .slice (some ⟨h7, 0, none⟩) la.length c7, .int .i64 x6] 38)).alloc (.cells #[.int .i64 0, .int .i64 0, .slice none 0 0] 53) = W0 at *
    clear hW0
    refine (unhide KO _ ((unhide HR1).below (unhide HAL).1) ((unhide HR2).below (unhide HAL).1) ((unhide HR3).below (unhide HAL).1) ((unhide HR4).below (unhide HAL).1) ((unhide HR5).below (unhide HAL).1) ((unhide HR6).below (unhide HAL).1) ((unhide HR7).below (unhide HAL).1)).mono ?_
    rintro e V1 ⟨rfl, b_⟩
    replace HAL := hide (al_below (unhide HAL) b_)
    replace HT := hide ((unhide HT).below b_)
    have hz1 := b_.size
    clear b_
    obtain ⟨q0, q1, q2⟩ := (unhide HT).bx
    have r0 := (unhide HT).free 0
    have r1 := (unhide HT).free 1
    have r2 := (unhide HT).free 2
    have hlw := (unhide HT).lt
    go_wp2_with fail
    refine bodyPost_ret (v := .tuple #[.agg #[.int .i64 0, .int .i64 0, .slice none 0 0], .int .i64 1]) (by simp [results, Tryz.results21, go_sem, q0, q1, q2, hlw]) rfl ?_
    refine ⟨_, rfl, ?_, Nb.lstV_nil _ _ _ _ _⟩
    · exact (((unhide HAL).1.setCell (p := ⟨w.heap.size + 1, 0, none⟩) (Nat.le_succ _) _).setCell (p := ⟨w.heap.size + 1, 1, none⟩) (Nat.le_succ _) _).setCell (p := ⟨w.heap.size + 1, 2, none⟩) (Nat.le_succ _) _
  · obtain ⟨hl, hc⟩ := rtr_codeTL hB
    obtain ⟨m1, m2, m3, m4, m5, m6, m7⟩ := rtr_lens hB
    rw [show rtrC true = 0 from rfl, show hnL true tw ls x1 x5 = helL tw ls x1 x5 from rfl, show hnW true x2 = x2 from rfl, show hnV true = 6 from rfl]
    rw [hB] at KO
    have KC := hide (fun W => coreOf x1 x2 x3 x4 x5 x6 h1 h2 h3 h4 h5 h6 h7 c1 c2 c3 c4 c5 c6 c7 ls tw se du ss es la W (by omega) (by omega) (by omega) (by omega) (by omega) (by omega) (by omega))
    have KH := hide (fun p a1 a2 d1 d2 v3 v4 v5 v6 v7 v8 W => coreHello x1 x2 x3 x4 x5 x6 a1 a2 d1 d2 v3 v4 v5 v6 v7 v8 ls tw p W (by omega) hl hc)
    generalize helL tw ls x1 x5 = G at *
    clear hB hl hc m1 m2 m3 m4 m5 m6 m7
    go_enter Tryz.func21, Tryz.ntmps21
    go_wp2_with (refine wpList_loadR _ rfl rfl rfl (unhide HAL).2 ?_)
    generalize hW0 : (w.alloc (.cells #[.int .i64 x1, .int .i64 x2, .int .i64 x3, .int .i64 x4, .int .i64 x5, .slice (some ⟨h1, 0, none⟩) ls.length c1, .slice (some ⟨h2, 0, none⟩) tw.length c2, .slice (some ⟨h3, 0, none⟩) se.length c3, .slice (some ⟨h4, 0, none⟩) du.length c4, .slice (some ⟨h5, 0, none⟩) ss.length c5, .slice (some ⟨h6, 0, none⟩) es.length c6, .slice (some ⟨h7, 0, none⟩) la.length c7, .int .i64 x6] 38)).alloc (.cells #[.int .i64 0, .int .i64 0, .slice none 0 0] 53) = W0 at *
    clear hW0
    refine (unhide KO _ ((unhide HR1).below (unhide HAL).1) ((unhide HR2).below (unhide HAL).1) ((unhide HR3).below (unhide HAL).1) ((unhide HR4).below (unhide HAL).1) ((unhide HR5).below (unhide HAL).1) ((unhide HR6).below (unhide HAL).1) ((unhide HR7).below (unhide HAL).1)).mono ?_
    rintro e V1 ⟨rfl, b_⟩
    replace HAL := hide (al_below (unhide HAL) b_)
    replace HT := hide ((unhide HT).below b_)
    have hz1 := b_.size
    clear b_
    go_wp2_with (refine wpList_loadR _ rfl rfl rfl (unhide HAL).2 ?_)
    refine (unhide KC _ ((unhide HR1).below (unhide HAL).1) ((unhide HR2).below (unhide HAL).1) ((unhide HR3).below (unhide HAL).1) ((unhide HR4).below (unhide HAL).1) ((unhide HR5).below (unhide HAL).1) ((unhide HR6).below (unhide HAL).1) ((unhide HR7).below (unhide HAL).1)).mono ?_
    rintro e V2 ⟨a1, a2, a3, a4, a5, a6, a7, d1, d2, d3, d4, d5, d6, d7, rfl, b_, L_⟩
    replace HAL := hide (al_below (unhide HAL) b_)
    replace HT := hide ((unhide HT).below b_)
    have HL2 := hide L_
    have hb2 := b_.size
    clear b_ L_
    go_wp2_with (refine wpList_storeC _ _ rfl rfl (cC x1 x2 x3 x4 x5 (.slice a1 ls.length d1) (.slice a2 tw.length d2) (.slice a3 se.length d3) (.slice a4 du.length d4) (.slice a5 ss.length d5) (.slice a6 es.length d6) (.slice a7 la.length d7) x6 (.slice none 0 0)) (cC_ones rfl rfl rfl rfl rfl rfl rfl rfl) rfl rfl (ca_new V2 (cC 0 0 0 0 0 (.slice none 0 0) (.slice none 0 0) (.slice none 0 0) (.slice none 0 0) (.slice none 0 0) (.slice none 0 0) (.slice none 0 0) 0 (.slice none 0 0)) rfl 86).2.1 ?_; intro V3 ra bb hs; have HC3 := hide ra; have b3 : Below V2.heap.size V2 V3 := bb _ _ (bel_alloc (Below.refl V2.heap.size V2) (.cells (cC 0 0 0 0 0 (.slice none 0 0) (.slice none 0 0) (.slice none 0 0) (.slice none 0 0) (.slice none 0 0) (.slice none 0 0) (.slice none 0 0) 0 (.slice none 0 0)).toArray 86)) (Nat.le_refl _); have hs3 : V3.heap.size = V2.heap.size + 1 := (by rw [hs]; simp); replace HAL := hide (al_below (unhide HAL) b3); replace HT := hide ((unhide HT).below b3); have HL3 := hide ((unhide HL2).below b3); clear ra bb hs b3)
    clear HL2
    refine (unhide KH _ _ _ _ _ _ _ _ _ _ _ _ (unhide HC3) (unhide HL3).r1 (unhide HL3).r2).mono ?_
    rintro e V4 ⟨v4, rfl, b_, lv⟩
    obtain ⟨va, vc, rfl, LF⟩ := lv
    have HLF := hide LF
    replace HAL := hide (al_below (unhide HAL) b_)
    replace HT := hide ((unhide HT).below b_)
    have hz4 := b_.size
    clear b_ LF
    obtain ⟨q0, q1, q2⟩ := (unhide HT).bx
    have r0 := (unhide HT).free 0
    have r1 := (unhide HT).free 1
    have r2 := (unhide HT).free 2
    have hlw := (unhide HT).lt
    go_wp2_with fail
    refine bodyPost_ret (v := .tuple #[.agg #[.int .i64 x2, .int .i64 6, .slice va G.length vc], .int .i64 0]) (by simp [results, Tryz.results21, go_sem, q0, q1, q2, hlw]) rfl ?_
    refine ⟨_, rfl, ?_, va, vc, rfl, ?_⟩
    · exact (((unhide HAL).1.setCell (p := ⟨w.heap.size + 1, 0, none⟩) (Nat.le_succ _) _).setCell (p := ⟨w.heap.size + 1, 1, none⟩) (Nat.le_succ _) _).setCell (p := ⟨w.heap.size + 1, 2, none⟩) (Nat.le_succ _) _
    · refine ((unhide HLF).but (p := fun k => k ≠ w.heap.size + 1) (by simp [World.setCell]) (fun k hk hp => ?_) (fun k h1 h2 => ?_)).mono (by omega) (by simp [World.setCell])
      · rw [Below.heap_setCell _ _ _ _ hp, Below.heap_setCell _ _ _ _ hp, Below.heap_setCell _ _ _ _ hp]
      · show k ≠ w.heap.size + 1
        omega
set_option maxHeartbeats 16000000 in
theorem specHN (x1 x2 x3 x4 x5 x6 : Int) (h1 h2 h3 h4 h5 h6 h7 : Nat) (c1 c2 c3 c4 c5 c6 c7 : Nat) (ls : List Lk.R) (tw : List Tu.R) (se : List Tu.R) (du : List Tu.R) (ss : List So.R) (es : List Tu.R) (la : List Ed.R) (w : World) (hm1 : ls.length ≤ 1048576) (hm2 : tw.length ≤ 1048576) (hm3 : se.length ≤ 1048576) (hm4 : du.length ≤ 1048576) (hm5 : ss.length ≤ 1048576) (hm6 : es.length ≤ 1048576) (hm7 : la.length ≤ 1048576) (hr1 : Lk.RM w (some ⟨h1, 0, none⟩) ls) (hr2 : Tu.RM w (some ⟨h2, 0, none⟩) tw) (hr3 : Tu.RM w (some ⟨h3, 0, none⟩) se) (hr4 : Tu.RM w (some ⟨h4, 0, none⟩) du) (hr5 : So.RM w (some ⟨h5, 0, none⟩) ss) (hr6 : Tu.RM w (some ⟨h6, 0, none⟩) es) (hr7 : Ed.RM w (some ⟨h7, 0, none⟩) la) :
    Calls Tryz.prog 20 #[.agg #[.int .i64 x1, .int .i64 x2, .int .i64 x3, .int .i64 x4, .int .i64 x5, .slice (some ⟨h1, 0, none⟩) ls.length c1, .slice (some ⟨h2, 0, none⟩) tw.length c2, .slice (some ⟨h3, 0, none⟩) se.length c3, .slice (some ⟨h4, 0, none⟩) du.length c4, .slice (some ⟨h5, 0, none⟩) ss.length c5, .slice (some ⟨h6, 0, none⟩) es.length c6, .slice (some ⟨h7, 0, none⟩) la.length c7, .int .i64 x6]] w fun e w' => ∃ v, e = .returned (.tuple #[.agg #[.int .i64 (hnW (rtrB x1 x2 x3 x4 x5 x6 ls tw se du ss es la) x2), .int .i64 (hnV (rtrB x1 x2 x3 x4 x5 x6 ls tw se du ss es la)), v], .int .i64 (rtrC (rtrB x1 x2 x3 x4 x5 x6 ls tw se du ss es la))]) ∧ Below w.heap.size w w' ∧ Nb.LstV w' v (hnL (rtrB x1 x2 x3 x4 x5 x6 ls tw se du ss es la) tw ls x1 x5) w.heap.size w'.heap.size := by
  have HAL : Hid (Al w ((w.alloc (.cells #[.int .i64 x1, .int .i64 x2, .int .i64 x3, .int .i64 x4, .int .i64 x5, .slice (some ⟨h1, 0, none⟩) ls.length c1, .slice (some ⟨h2, 0, none⟩) tw.length c2, .slice (some ⟨h3, 0, none⟩) se.length c3, .slice (some ⟨h4, 0, none⟩) du.length c4, .slice (some ⟨h5, 0, none⟩) ss.length c5, .slice (some ⟨h6, 0, none⟩) es.length c6, .slice (some ⟨h7, 0, none⟩) la.length c7, .int .i64 x6] 38)).alloc (.cells #[.int .i64 0, .int .i64 0, .slice none 0 0] 53)) (rC x1 x2 x3 x4 x5 (.slice (some ⟨h1, 0, none⟩) ls.length c1) (.slice (some ⟨h2, 0, none⟩) tw.length c2) (.slice (some ⟨h3, 0, none⟩) se.length c3) (.slice (some ⟨h4, 0, none⟩) du.length c4) (.slice (some ⟨h5, 0, none⟩) ss.length c5) (.slice (some ⟨h6, 0, none⟩) es.length c6) (.slice (some ⟨h7, 0, none⟩) la.length c7) x6)) := hide ⟨((Below.refl _ _).alloc (Nat.le_refl _) _).alloc (by simp) _, (ra_new w _ rfl _).below ((Below.refl _ _).alloc (Nat.le_refl _) _)⟩
  have HT : Hid (Hl.HV ((w.alloc (.cells #[.int .i64 x1, .int .i64 x2, .int .i64 x3, .int .i64 x4, .int .i64 x5, .slice (some ⟨h1, 0, none⟩) ls.length c1, .slice (some ⟨h2, 0, none⟩) tw.length c2, .slice (some ⟨h3, 0, none⟩) se.length c3, .slice (some ⟨h4, 0, none⟩) du.length c4, .slice (some ⟨h5, 0, none⟩) ss.length c5, .slice (some ⟨h6, 0, none⟩) es.length c6, .slice (some ⟨h7, 0, none⟩) la.length c7, .int .i64 x6] 38)).alloc (.cells #[.int .i64 0, .int .i64 0, .slice none 0 0] 53)) (w.heap.size + 1) 0 0 (.slice none 0 0)) := hide (by have h := Hl.hv_new (w.alloc (.cells #[.int .i64 x1, .int .i64 x2, .int .i64 x3, .int .i64 x4, .int .i64 x5, .slice (some ⟨h1, 0, none⟩) ls.length c1, .slice (some ⟨h2, 0, none⟩) tw.length c2, .slice (some ⟨h3, 0, none⟩) se.length c3, .slice (some ⟨h4, 0, none⟩) du.length c4, .slice (some ⟨h5, 0, none⟩) ss.length c5, .slice (some ⟨h6, 0, none⟩) es.length c6, .slice (some ⟨h7, 0, none⟩) la.length c7, .int .i64 x6] 38)) 0 0 (.slice none 0 0); rw [show (w.alloc (.cells #[.int .i64 x1, .int .i64 x2, .int .i64 x3, .int .i64 x4, .int .i64 x5, .slice (some ⟨h1, 0, none⟩) ls.length c1, .slice (some ⟨h2, 0, none⟩) tw.length c2, .slice (some ⟨h3, 0, none⟩) se.length c3, .slice (some ⟨h4, 0, none⟩) du.length c4, .slice (some ⟨h5, 0, none⟩) ss.length c5, .slice (some ⟨h6, 0, none⟩) es.length c6, .slice (some ⟨h7, 0, none⟩) la.length c7, .int .i64 x6] 38)).heap.size = w.heap.size + 1 by simp] at h; exact h)
  have hz0 : ((w.alloc (.cells #[.int .i64 x1, .int .i64 x2, .int .i64 x3, .int .i64 x4, .int .i64 x5, .slice (some ⟨h1, 0, none⟩) ls.length c1, .slice (some ⟨h2, 0, none⟩) tw.length c2, .slice (some ⟨h3, 0, none⟩) se.length c3, .slice (some ⟨h4, 0, none⟩) du.length c4, .slice (some ⟨h5, 0, none⟩) ss.length c5, .slice (some ⟨h6, 0, none⟩) es.length c6, .slice (some ⟨h7, 0, none⟩) la.length c7, .int .i64 x6] 38)).alloc (.cells #[.int .i64 0, .int .i64 0, .slice none 0 0] 53)).heap.size = w.heap.size + 2 := by simp
  have HR1 := hide hr1
  clear hr1
  have HR2 := hide hr2
  clear hr2
  have HR3 := hide hr3
  clear hr3
  have HR4 := hide hr4
  clear hr4
  have HR5 := hide hr5
  clear hr5
  have HR6 := hide hr6
  clear hr6
  have HR7 := hide hr7
  clear hr7
  have KO := hide (fun W => specRtr x1 x2 x3 x4 x5 x6 (some ⟨h1, 0, none⟩) (some ⟨h2, 0, none⟩) (some ⟨h3, 0, none⟩) (some ⟨h4, 0, none⟩) (some ⟨h5, 0, none⟩) (some ⟨h6, 0, none⟩) (some ⟨h7, 0, none⟩) c1 c2 c3 c4 c5 c6 c7 ls tw se du ss es la W hm1 hm2 hm3 hm4 hm5 hm6 hm7)
  cases hB : rtrB x1 x2 x3 x4 x5 x6 ls tw se du ss es la
  · rw [hB] at KO
    rw [show rtrC false = 1 from rfl, show hnL false tw ls x1 x5 = [] from rfl, show hnW false x2 = 0 from rfl, show hnV false = 0 from rfl]
    clear hB
    go_enter Tryz.func20, Tryz.ntmps20
    go_wp2_with (refine wpList_loadR _ rfl rfl rfl (unhide HAL).2 ?_)
    generalize hW0 : (w.alloc (.cells #[.int .i64 x1, .int .i64 x2, .int .i64 x3, .int .i64 x4, .int .i64 x5, .slice (some ⟨h1, 0, none⟩) ls.length c1, .slice (some ⟨h2, 0, none⟩) tw.length c2, .slice (some ⟨h3, 0, none⟩) se.length c3, .slice (some ⟨h4, 0, none⟩) du.length c4, .slice (some ⟨h5, 0, none⟩) ss.length c5, .slice (some ⟨h6, 0, none⟩) es.length c6, .slice (some ⟨h7, 0, none⟩) la.length c7, .int .i64 x6] 38)).alloc (.cells #[.int .i64 0, .int .i64 0, .slice none 0 0] 53) = W0 at *
    clear hW0
    refine (unhide KO _ ((unhide HR1).below (unhide HAL).1) ((unhide HR2).below (unhide HAL).1) ((unhide HR3).below (unhide HAL).1) ((unhide HR4).below (unhide HAL).1) ((unhide HR5).below (unhide HAL).1) ((unhide HR6).below (unhide HAL).1) ((unhide HR7).below (unhide HAL).1)).mono ?_
    rintro e V1 ⟨rfl, b_⟩
    replace HAL := hide (al_below (unhide HAL) b_)
    replace HT := hide ((unhide HT).below b_)
    have hz1 := b_.size
    clear b_
    obtain ⟨q0, q1, q2⟩ := (unhide HT).bx
    have r0 := (unhide HT).free 0
    have r1 := (unhide HT).free 1
    have r2 := (unhide HT).free 2
    have hlw := (unhide HT).lt
    go_wp2_with fail
    refine bodyPost_ret (v := .tuple #[.agg #[.int .i64 0, .int .i64 0, .slice none 0 0], .int .i64 1]) (by simp [results, Tryz.results20, go_sem, q0, q1, q2, hlw]) rfl ?_
    refine ⟨_, rfl, ?_, Nb.lstV_nil _ _ _ _ _⟩
    · exact (((unhide HAL).1.setCell (p := ⟨w.heap.size + 1, 0, none⟩) (Nat.le_succ _) _).setCell (p := ⟨w.heap.size + 1, 1, none⟩) (Nat.le_succ _) _).setCell (p := ⟨w.heap.size + 1, 2, none⟩) (Nat.le_succ _) _
  · obtain ⟨hl, hc⟩ := rtr_codeTL hB
    rw [show rtrC true = 0 from rfl, show hnL true tw ls x1 x5 = helL tw ls x1 x5 from rfl, show hnW true x2 = x2 from rfl, show hnV true = 6 from rfl]
    rw [hB] at KO
    have KH := hide (fun W => l12Hello x1 x2 x3 x4 x5 x6 (some ⟨h1, 0, none⟩) (some ⟨h3, 0, none⟩) (some ⟨h4, 0, none⟩) (some ⟨h5, 0, none⟩) (some ⟨h6, 0, none⟩) (some ⟨h7, 0, none⟩) h2 c1 c2 c3 c4 c5 c6 c7 ls tw se du ss es la W hl hc)
    generalize helL tw ls x1 x5 = G at *
    clear hB hl hc
    go_enter Tryz.func20, Tryz.ntmps20
    go_wp2_with (refine wpList_loadR _ rfl rfl rfl (unhide HAL).2 ?_)
    generalize hW0 : (w.alloc (.cells #[.int .i64 x1, .int .i64 x2, .int .i64 x3, .int .i64 x4, .int .i64 x5, .slice (some ⟨h1, 0, none⟩) ls.length c1, .slice (some ⟨h2, 0, none⟩) tw.length c2, .slice (some ⟨h3, 0, none⟩) se.length c3, .slice (some ⟨h4, 0, none⟩) du.length c4, .slice (some ⟨h5, 0, none⟩) ss.length c5, .slice (some ⟨h6, 0, none⟩) es.length c6, .slice (some ⟨h7, 0, none⟩) la.length c7, .int .i64 x6] 38)).alloc (.cells #[.int .i64 0, .int .i64 0, .slice none 0 0] 53) = W0 at *
    clear hW0
    refine (unhide KO _ ((unhide HR1).below (unhide HAL).1) ((unhide HR2).below (unhide HAL).1) ((unhide HR3).below (unhide HAL).1) ((unhide HR4).below (unhide HAL).1) ((unhide HR5).below (unhide HAL).1) ((unhide HR6).below (unhide HAL).1) ((unhide HR7).below (unhide HAL).1)).mono ?_
    rintro e V1 ⟨rfl, b_⟩
    replace HAL := hide (al_below (unhide HAL) b_)
    replace HT := hide ((unhide HT).below b_)
    have hz1 := b_.size
    clear b_
    go_wp2_with (refine wpList_loadR _ rfl rfl rfl (unhide HAL).2 ?_)
    refine (unhide KH _ ((unhide HR1).below (unhide HAL).1) ((unhide HR2).below (unhide HAL).1)).mono ?_
    rintro e V4 ⟨v4, rfl, b_, lv⟩
    obtain ⟨va, vc, rfl, LF⟩ := lv
    have HLF := hide LF
    replace HAL := hide (al_below (unhide HAL) b_)
    replace HT := hide ((unhide HT).below b_)
    have hz4 := b_.size
    clear b_ LF
    obtain ⟨q0, q1, q2⟩ := (unhide HT).bx
    have r0 := (unhide HT).free 0
    have r1 := (unhide HT).free 1
    have r2 := (unhide HT).free 2
    have hlw := (unhide HT).lt
    go_wp2_with fail
    refine bodyPost_ret (v := .tuple #[.agg #[.int .i64 x2, .int .i64 6, .slice va G.length vc], .int .i64 0]) (by simp [results, Tryz.results20, go_sem, q0, q1, q2, hlw]) rfl ?_
    refine ⟨_, rfl, ?_, va, vc, rfl, ?_⟩
    · exact (((unhide HAL).1.setCell (p := ⟨w.heap.size + 1, 0, none⟩) (Nat.le_succ _) _).setCell (p := ⟨w.heap.size + 1, 1, none⟩) (Nat.le_succ _) _).setCell (p := ⟨w.heap.size + 1, 2, none⟩) (Nat.le_succ _) _
    · refine ((unhide HLF).but (p := fun k => k ≠ w.heap.size + 1) (by simp [World.setCell]) (fun k hk hp => ?_) (fun k h1 h2 => ?_)).mono (by omega) (by simp [World.setCell])
      · rw [Below.heap_setCell _ _ _ _ hp, Below.heap_setCell _ _ _ _ hp, Below.heap_setCell _ _ _ _ hp]
      · show k ≠ w.heap.size + 1
        omega
end Rt
namespace Hl
theorem HV.but {w w' : World} {b : Nat} {x y : Int} {v : Value} (h : HV w b x y v) (hb : w'.heap[b]? = w.heap[b]?) : HV w' b x y v := hb.trans h
end Hl
namespace Rt
end Rt
end Go.Proofs.YtffclijcfngeeaaGreat
namespace Go.Proofs.YtffclijcfngeeaaGreat
open Go.ChangeShapes Go.WideShapes Go.ChangeAt Go.RowKit
set_option linter.unusedVariables false
set_option maxRecDepth 100000
set_option linter.unusedSimpArgs false
attribute [local go_sem ↓] Go.wp_at_zero Go.wp_at_succ
namespace Hs
open W1
set_option maxHeartbeats 1000000 in
theorem eq (x y : Int) (a b : Option Addr) (ms : List Nb.R) (ca cb : Nat) (w : World) (hm : ms.length ≤ 1048576) (hr : Nb.RM w a ms) (hr' : Nb.RM w b ms) :
    Calls Tryz.prog 22 #[.agg #[.int .i64 x, .int .i64 y, .slice a ms.length ca], .agg #[.int .i64 x, .int .i64 y, .slice b ms.length cb]] w fun e w' => e = .returned (.bool true) ∧ Below w.heap.size w w' := by
  have HR := hide hr
  have HR' := hide hr'
  clear hr hr'
  go_enter Tryz.func22, Tryz.ntmps22
  go_wp2_with fail
  refine (Nb.eqS a b ms ca cb _ hm ((unhide HR).below (by repeat (first | exact Below.refl _ _ | refine Below.alloc ?_ (by simp <;> omega) _))) ((unhide HR').below (by repeat (first | exact Below.refl _ _ | refine Below.alloc ?_ (by simp <;> omega) _)))).mono ?_
  rintro e w1 ⟨rfl, b1⟩
  have B1 : Hid (Below w.heap.size w w1) := hide ((by repeat (first | exact Below.refl _ _ | refine Below.alloc ?_ (by simp <;> omega) _) : Below w.heap.size w _).trans (b1.mono (by simp <;> omega)))
  clear b1
  go_wp2_with fail
  go_ret
  exact ⟨rfl, unhide B1⟩
set_option maxHeartbeats 1000000 in
theorem mark (x y : Int) (a : Option Addr) (c lo hi : Nat) (K : Int) (ms : List Nb.R) (w : World) (hK : 0 ≤ K) (hK1 : K ≤ 1073741824) (hn : ms.length ≤ 1048576) (h : Nb.Lst w a ms lo hi) :
    Calls Tryz.prog 23 #[.agg #[.int .i64 x, .int .i64 y, .slice a ms.length c], .int .i64 K] w fun e w' => e = .returned (.int .i64 (K + 4 * (ms.length : Int))) ∧ w.heap.size ≤ w'.heap.size ∧ Below (min lo w.heap.size) w w' ∧ Nb.Lst w' a (Nb.marks K ms.length) lo hi ∧ ∀ k, k < w.heap.size → (k < lo ∨ hi ≤ k) → w'.heap[k]? = w.heap[k]? := by
  have HL := hide h
  clear h
  go_enter Tryz.func23, Tryz.ntmps23
  go_wp2_with fail
  refine (Nb.markF a c lo hi K ms _ hK hK1 hn ((unhide HL).below ((Below.refl _ _).alloc (Nat.le_refl _) _))).mono ?_
  rintro e w1 ⟨rfl, hz, b1, f1, k1⟩
  have HZ := hide hz
  have B1 := hide b1
  have F1 := hide f1
  have K1 := hide k1
  clear hz b1 f1 k1
  go_wp2_with fail
  go_ret
  refine ⟨rfl, ?_, ?_, unhide F1, fun k hk hor => ?_⟩
  · have := unhide HZ; simp at this; omega
  · exact ((Below.refl _ _).alloc (Nat.min_le_right _ _) _).trans ((unhide B1).mono (by simp; omega))
  · exact (unhide K1 k (by simp; omega) hor).trans (((Below.refl w.heap.size w).alloc (Nat.le_refl _) _).block k hk)
set_option maxHeartbeats 1000000 in
theorem held (x y : Int) (a : Option Addr) (c n lo hi : Nat) (K : Int) (w : World) (hK : 0 ≤ K) (hK1 : K ≤ 1073741824) (hn : n ≤ 1048576) (h : Nb.Lst w a (Nb.marks K n) lo hi) :
    Calls Tryz.prog 24 #[.agg #[.int .i64 x, .int .i64 y, .slice a n c], .int .i64 K] w fun e w' => e = .returned (.int .i64 (K + 4 * (n : Int))) ∧ Below w.heap.size w w' := by
  have HL := hide h
  clear h
  go_enter Tryz.func24, Tryz.ntmps24
  go_wp2_with fail
  refine (Nb.heldF a c n lo hi K _ hK hK1 hn ((unhide HL).below ((Below.refl _ _).alloc (Nat.le_refl _) _))).mono ?_
  rintro e w1 ⟨rfl, rfl⟩
  have hnn : ¬ (K + 4 * (n : Int)) < 0 := by omega
  go_wp2_with fail
  go_ret
  exact ⟨rfl, (Below.refl _ _).alloc (Nat.le_refl _) _⟩
end Hs
end Go.Proofs.YtffclijcfngeeaaGreat
namespace Go.Proofs.YtffclijcfngeeaaGreat.fnExactHelloNow
open Go.ChangeShapes Go.WideShapes Go.ChangeAt Go.RowKit
open W1 Rt
set_option linter.unusedVariables false
set_option linter.unusedSimpArgs false
theorem own : ownKnob Tryz.prog.godebug = none := by kernel_rfl
theorem laidOut : laidOutB Tryz.prog = true := by kernel_rfl
set_option maxRecDepth 100000 in
set_option maxHeartbeats 32000000 in
theorem walk (x1 x2 x3 x4 x5 x6 : Int) (a1 a2 a3 a4 a5 a6 a7 : Option Addr) (c1 c2 c3 c4 c5 c6 c7 : Nat) (ls : List Lk.R) (tw : List Tu.R) (se : List Tu.R) (du : List Tu.R) (ss : List So.R) (es : List Tu.R) (la : List Ed.R) (hx1 : ls.length ≤ maxLen) (hx2 : tw.length ≤ maxLen) (hx3 : se.length ≤ maxLen) (hx4 : du.length ≤ maxLen) (hx5 : ss.length ≤ maxLen) (hx6 : es.length ≤ maxLen) (hx7 : la.length ≤ maxLen) (w : World) (hr1 : Lk.RM w a1 ls) (hr2 : Tu.RM w a2 tw) (hr3 : Tu.RM w a3 se) (hr4 : Tu.RM w a4 du) (hr5 : So.RM w a5 ss) (hr6 : Tu.RM w a6 es) (hr7 : Ed.RM w a7 la) :
    Calls Tryz.prog 5 #[.agg #[.int .i64 x1, .int .i64 x2, .int .i64 x3, .int .i64 x4, .int .i64 x5, .slice a1 ls.length c1, .slice a2 tw.length c2, .slice a3 se.length c3, .slice a4 du.length c4, .slice a5 ss.length c5, .slice a6 es.length c6, .slice a7 la.length c7, .int .i64 x6]] w fun e w' => e = .returned (.bool true) ∧ Below w.heap.size w w' := by
  have HR1 := hide hr1
  clear hr1
  have HR2 := hide hr2
  clear hr2
  have HR3 := hide hr3
  clear hr3
  have HR4 := hide hr4
  clear hr4
  have HR5 := hide hr5
  clear hr5
  have HR6 := hide hr6
  clear hr6
  have HR7 := hide hr7
  clear hr7
  have Q0 : Hid (RA (w.alloc (.cells #[.int .i64 x1, .int .i64 x2, .int .i64 x3, .int .i64 x4, .int .i64 x5, .slice a1 ls.length c1, .slice a2 tw.length c2, .slice a3 se.length c3, .slice a4 du.length c4, .slice a5 ss.length c5, .slice a6 es.length c6, .slice a7 la.length c7, .int .i64 x6] 29)) w.heap.size (rC x1 x2 x3 x4 x5 (.slice a1 ls.length c1) (.slice a2 tw.length c2) (.slice a3 se.length c3) (.slice a4 du.length c4) (.slice a5 ss.length c5) (.slice a6 es.length c6) (.slice a7 la.length c7) x6)) := hide (ra_new w _ rfl _)
  obtain ⟨w1, hw1⟩ : ∃ w1, w.alloc (.cells #[.int .i64 x1, .int .i64 x2, .int .i64 x3, .int .i64 x4, .int .i64 x5, .slice a1 ls.length c1, .slice a2 tw.length c2, .slice a3 se.length c3, .slice a4 du.length c4, .slice a5 ss.length c5, .slice a6 es.length c6, .slice a7 la.length c7, .int .i64 x6] 29) = w1 := ⟨_, rfl⟩
  have B1 : Below w.heap.size w w1 := by rw [← hw1]; exact (Below.refl _ _).alloc (Nat.le_refl _) _
  have Q1 : Hid (RA w1 w.heap.size (rC x1 x2 x3 x4 x5 (.slice a1 ls.length c1) (.slice a2 tw.length c2) (.slice a3 se.length c3) (.slice a4 du.length c4) (.slice a5 ss.length c5) (.slice a6 es.length c6) (.slice a7 la.length c7) x6)) := hide (by rw [← hw1]; exact unhide Q0)
  have hq1 : w.heap.size < w1.heap.size := (unhide Q1).lt
  have HW1 := hide hw1
  clear hw1
  go_enter Tryz.func5, Tryz.ntmps5
  go_wp2_with (refine wpList_loadL _ rfl rfl rfl (unhide Q0) ?_)
  rw [unhide HW1]
  clear Q0
  refine (szR x1 x2 x3 x4 x5 x6 a1 a2 a3 a4 a5 a6 a7 ls.length tw.length se.length du.length ss.length es.length la.length c1 c2 c3 c4 c5 c6 c7 1048576 _ (by omega) (by omega) hx1 hx2 hx3 hx4 hx5 hx6 hx7).mono ?_
  rintro e w2 ⟨r2, rfl, b2, hr01⟩
  have B2 := B1.trans (b2.mono B1.size)
  have sz2 : w1.heap.size ≤ w2.heap.size := b2.size
  have Q2 := hide ((unhide Q1).below b2)
  clear Q1
  rcases hr01 with hr0 | ⟨hr0, hr1⟩
  · go_wp2_with fail
    go_ret
    exact ⟨rfl, B2⟩
  have hnn : ¬ r2 < 0 := by omega
  have hml1 : ls.length ≤ 1048576 := by omega
  have hml2 : tw.length ≤ 1048576 := by omega
  have hml3 : se.length ≤ 1048576 := by omega
  have hml4 : du.length ≤ 1048576 := by omega
  have hml5 : ss.length ≤ 1048576 := by omega
  have hml6 : es.length ≤ 1048576 := by omega
  have hml7 : la.length ≤ 1048576 := by omega
  clear hr1 hr0 hx1 hx2 hx3 hx4 hx5 hx6 hx7
  obtain ⟨bb, hbb⟩ : ∃ bb, rtrB x1 x2 x3 x4 x5 x6 ls tw se du ss es la = bb := ⟨_, rfl⟩
  have HBB := hide hbb
  have hol := hn_len bb tw ls x1 x5
  obtain ⟨RR, hRR⟩ : ∃ RR, hnL bb tw ls x1 x5 = RR := ⟨_, rfl⟩
  rw [hRR] at hol
  have HRR := hide hRR
  obtain ⟨cd, hcd⟩ : ∃ cd, rtrC bb = cd := ⟨_, rfl⟩
  have HCD := hide hcd
  obtain ⟨hw, hhw⟩ : ∃ hw, hnW bb x2 = hw := ⟨_, rfl⟩
  have HHW := hide hhw
  obtain ⟨hv, hhv⟩ : ∃ hv, hnV bb = hv := ⟨_, rfl⟩
  have HHV := hide hhv
  have hne : (cd != cd) = false := by simp
  have hol8 : RR.length ≤ 1048576 := by omega
  clear hbb hRR hcd hhw hhv
  go_wp2_with (refine wpList_loadL _ rfl rfl rfl (unhide Q2) ?_)
  refine (toRL x1 x2 x3 x4 x5 x6 a1 a2 a3 a4 a5 a6 a7 c1 c2 c3 c4 c5 c6 c7 ls tw se du ss es la _ hml1 hml2 hml3 hml4 hml5 hml6 hml7 ((unhide HR1).below B2) ((unhide HR2).below B2) ((unhide HR3).below B2) ((unhide HR4).below B2) ((unhide HR5).below B2) ((unhide HR6).below B2) ((unhide HR7).below B2)).mono ?_
  rintro e w3 ⟨g1_3, g2_3, g3_3, g4_3, g5_3, g6_3, g7_3, rfl, b3, l3⟩
  have B3 := B2.trans (b3.mono B2.size)
  have sz3 : w2.heap.size ≤ w3.heap.size := b3.size
  have Q3 := hide ((unhide Q2).below b3)
  clear Q2
  have S3 := hide l3
  clear l3
  go_wp2_with fail
  refine (specHN x1 x2 x3 x4 x5 x6 _ _ _ _ _ _ _ _ _ _ _ _ _ _ ls tw se du ss es la _ hml1 hml2 hml3 hml4 hml5 hml6 hml7 (unhide S3).r1 (unhide S3).r2 (unhide S3).r3 (unhide S3).r4 (unhide S3).r5 (unhide S3).r6 (unhide S3).r7).mono ?_
  rintro e w4 ⟨v4, rfl, b4, l4⟩
  have B4 := B3.trans (b4.mono B3.size)
  have sz4 : w3.heap.size ≤ w4.heap.size := b4.size
  have Q4 := hide ((unhide Q3).below b4)
  have S4 := hide ((unhide S3).below b4)
  clear Q3 S3
  rw [unhide HBB, unhide HRR] at l4
  rw [unhide HBB, unhide HCD, unhide HHW, unhide HHV]
  obtain ⟨ra4, rc4, rfl, L4⟩ := l4
  have W4 := hide L4
  clear L4
  clear S4
  have b5 : Below w4.heap.size w4 (w4.alloc (.cells #[.int .i64 hw, .int .i64 hv, .slice ra4 RR.length rc4] 53)) := (Below.refl _ _).alloc (Nat.le_refl _) _
  have B5 := B4.trans (b5.mono B4.size)
  have sz5 : w4.heap.size ≤ (w4.alloc (.cells #[.int .i64 hw, .int .i64 hv, .slice ra4 RR.length rc4] 53)).heap.size := b5.size
  have sy5 : (w4.alloc (.cells #[.int .i64 hw, .int .i64 hv, .slice ra4 RR.length rc4] 53)).heap.size = w4.heap.size + 1 := by simp
  have Q5 := hide ((unhide Q4).below b5)
  have W5 := hide ((unhide W4).below b5)
  clear Q4 W4
  have WB5 : Hid (Hl.HV (w4.alloc (.cells #[.int .i64 hw, .int .i64 hv, .slice ra4 RR.length rc4] 53)) w4.heap.size hw hv (.slice ra4 RR.length rc4)) := hide (Hl.hv_new _ _ _ _)
  go_wp2_with (refine wpList_loadL _ rfl rfl rfl (unhide Q5) ?_)
  generalize hW_ : (w4.alloc (.cells #[.int .i64 hw, .int .i64 hv, .slice ra4 RR.length rc4] 53)) = w5 at *
  clear hW_
  refine (toRL x1 x2 x3 x4 x5 x6 a1 a2 a3 a4 a5 a6 a7 c1 c2 c3 c4 c5 c6 c7 ls tw se du ss es la _ hml1 hml2 hml3 hml4 hml5 hml6 hml7 ((unhide HR1).below B5) ((unhide HR2).below B5) ((unhide HR3).below B5) ((unhide HR4).below B5) ((unhide HR5).below B5) ((unhide HR6).below B5) ((unhide HR7).below B5)).mono ?_
  rintro e w6 ⟨g1_6, g2_6, g3_6, g4_6, g5_6, g6_6, g7_6, rfl, b6, l6⟩
  have B6 := B5.trans (b6.mono B5.size)
  have sz6 : w5.heap.size ≤ w6.heap.size := b6.size
  have Q6 := hide ((unhide Q5).below b6)
  have W6 := hide ((unhide W5).below b6)
  have WB6 := hide ((unhide WB5).below b6)
  clear Q5 W5 WB5
  have X6 := hide l6
  clear l6
  go_wp2_with (first | (refine wpList_storeR _ _ rfl rfl (rC x1 x2 x3 x4 x5 (.slice (some ⟨g1_6, 0, none⟩) ls.length ls.length) (.slice (some ⟨g2_6, 0, none⟩) tw.length tw.length) (.slice (some ⟨g3_6, 0, none⟩) se.length se.length) (.slice (some ⟨g4_6, 0, none⟩) du.length du.length) (.slice (some ⟨g5_6, 0, none⟩) ss.length ss.length) (.slice (some ⟨g6_6, 0, none⟩) es.length es.length) (.slice (some ⟨g7_6, 0, none⟩) la.length la.length) x6) (rC_ones rfl rfl rfl rfl rfl rfl rfl) rfl rfl (ra_new w6 (rC 0 0 0 0 0 (.slice none 0 0) (.slice none 0 0) (.slice none 0 0) (.slice none 0 0) (.slice none 0 0) (.slice none 0 0) (.slice none 0 0) 0) rfl 38).2.1 ?_; intro w7 ra bb hs; have V7 := hide ra; have b7 : Below w6.heap.size w6 w7 := bb _ _ (bel_alloc (Below.refl w6.heap.size w6) (.cells (rC 0 0 0 0 0 (.slice none 0 0) (.slice none 0 0) (.slice none 0 0) (.slice none 0 0) (.slice none 0 0) (.slice none 0 0) (.slice none 0 0) 0).toArray 38)) (Nat.le_refl _); have B7 := B6.trans (b7.mono B6.size); have sz7 : w6.heap.size ≤ w7.heap.size := b7.size; have sy7 : w7.heap.size = w6.heap.size + 1 := (by rw [hs]; simp); have Q7 := hide ((unhide Q6).below b7); have W7 := hide ((unhide W6).below b7); have WB7 := hide ((unhide WB6).below b7); have X7 := hide ((unhide X6).below b7); clear ra bb hs) | (refine wpList_loadR _ rfl rfl rfl (unhide V7) ?_))
  clear Q6 W6 WB6 X6
  refine (implHN x1 x2 x3 x4 x5 x6 _ _ _ _ _ _ _ _ _ _ _ _ _ _ ls tw se du ss es la _ hml1 hml2 hml3 hml4 hml5 hml6 hml7 (unhide X7).r1 (unhide X7).r2 (unhide X7).r3 (unhide X7).r4 (unhide X7).r5 (unhide X7).r6 (unhide X7).r7).mono ?_
  rintro e w8 ⟨v8, rfl, b8, l8⟩
  have B8 := B7.trans (b8.mono B7.size)
  have sz8 : w7.heap.size ≤ w8.heap.size := b8.size
  have Q8 := hide ((unhide Q7).below b8)
  have W8 := hide ((unhide W7).below b8)
  have WB8 := hide ((unhide WB7).below b8)
  have X8 := hide ((unhide X7).below b8)
  have V8 := hide ((unhide V7).below b8)
  clear Q7 W7 WB7 X7 V7
  rw [unhide HBB, unhide HRR] at l8
  rw [unhide HBB, unhide HCD, unhide HHW, unhide HHV]
  obtain ⟨ra8, rc8, rfl, L8⟩ := l8
  have G8 := hide L8
  clear L8
  have b9 : Below w8.heap.size w8 (w8.alloc (.cells #[.int .i64 hw, .int .i64 hv, .slice ra8 RR.length rc8] 53)) := (Below.refl _ _).alloc (Nat.le_refl _) _
  have B9 := B8.trans (b9.mono B8.size)
  have sz9 : w8.heap.size ≤ (w8.alloc (.cells #[.int .i64 hw, .int .i64 hv, .slice ra8 RR.length rc8] 53)).heap.size := b9.size
  have sy9 : (w8.alloc (.cells #[.int .i64 hw, .int .i64 hv, .slice ra8 RR.length rc8] 53)).heap.size = w8.heap.size + 1 := by simp
  have Q9 := hide ((unhide Q8).below b9)
  have W9 := hide ((unhide W8).below b9)
  have WB9 := hide ((unhide WB8).below b9)
  have X9 := hide ((unhide X8).below b9)
  have V9 := hide ((unhide V8).below b9)
  have G9 := hide ((unhide G8).below b9)
  clear Q8 W8 WB8 X8 V8 G8
  have GB9 : Hid (Hl.HV (w8.alloc (.cells #[.int .i64 hw, .int .i64 hv, .slice ra8 RR.length rc8] 53)) w8.heap.size hw hv (.slice ra8 RR.length rc8)) := hide (Hl.hv_new _ _ _ _)
  obtain ⟨k0_0, k0_1, k0_2⟩ := (unhide GB9).bx
  obtain ⟨k1_0, k1_1, k1_2⟩ := (unhide WB9).bx
  go_wp2_with fail
  clear k0_0 k0_1 k0_2 k1_0 k1_1 k1_2
  generalize hW_ : (w8.alloc (.cells #[.int .i64 hw, .int .i64 hv, .slice ra8 RR.length rc8] 53)) = w9 at *
  clear hW_
  refine (Hs.eq hw hv _ _ RR _ _ _ hol8 (unhide G9).rm (unhide W9).rm).mono ?_
  rintro e w10 ⟨rfl, b10⟩
  have B10 := B9.trans (b10.mono B9.size)
  have sz10 : w9.heap.size ≤ w10.heap.size := b10.size
  have Q10 := hide ((unhide Q9).below b10)
  have W10 := hide ((unhide W9).below b10)
  have WB10 := hide ((unhide WB9).below b10)
  have X10 := hide ((unhide X9).below b10)
  have V10 := hide ((unhide V9).below b10)
  have G10 := hide ((unhide G9).below b10)
  have GB10 := hide ((unhide GB9).below b10)
  clear Q9 W9 WB9 X9 V9 G9 GB9
  go_wp2_with fail
  refine wp_region_noPanic ?_
  refine wp_region_held_drew (S := fun w' => RA w' w6.heap.size (rC x1 x2 x3 x4 x5 (.slice (some ⟨g1_6, 0, none⟩) ls.length ls.length) (.slice (some ⟨g2_6, 0, none⟩) tw.length tw.length) (.slice (some ⟨g3_6, 0, none⟩) se.length se.length) (.slice (some ⟨g4_6, 0, none⟩) du.length du.length) (.slice (some ⟨g5_6, 0, none⟩) ss.length ss.length) (.slice (some ⟨g6_6, 0, none⟩) es.length es.length) (.slice (some ⟨g7_6, 0, none⟩) la.length la.length) x6) ∧ RA w' w.heap.size (rC x1 x2 x3 x4 x5 (.slice a1 ls.length c1) (.slice a2 tw.length c2) (.slice a3 se.length c3) (.slice a4 du.length c4) (.slice a5 ss.length c5) (.slice a6 es.length c6) (.slice a7 la.length c7) x6)) (by kernel_rfl) (⟨(unhide V10).drew, (unhide Q10).drew⟩) (fun hHeld => ?_)
  refine Rg.t (v := .agg (rC x1 x2 x3 x4 x5 (.slice (some ⟨g1_6, 0, none⟩) ls.length ls.length) (.slice (some ⟨g2_6, 0, none⟩) tw.length tw.length) (.slice (some ⟨g3_6, 0, none⟩) se.length se.length) (.slice (some ⟨g4_6, 0, none⟩) du.length du.length) (.slice (some ⟨g5_6, 0, none⟩) ss.length ss.length) (.slice (some ⟨g6_6, 0, none⟩) es.length es.length) (.slice (some ⟨g7_6, 0, none⟩) la.length la.length) x6).toArray) 0 41 ?_ (hv := fun w0 hSw => run_execR _ rfl rfl hSw.1)
  refine Rg.t (v := .agg (rC x1 x2 x3 x4 x5 (.slice a1 ls.length c1) (.slice a2 tw.length c2) (.slice a3 se.length c3) (.slice a4 du.length c4) (.slice a5 ss.length c5) (.slice a6 es.length c6) (.slice a7 la.length c7) x6).toArray) 1 42 ?_ (hv := fun w0 hSw => run_execL _ rfl rfl hSw.2)
  (refine Rg.o 2 (fun K hK => ?_); go_simp)
  refine (toRL x1 x2 x3 x4 x5 x6 a1 a2 a3 a4 a5 a6 a7 c1 c2 c3 c4 c5 c6 c7 ls tw se du ss es la _ hml1 hml2 hml3 hml4 hml5 hml6 hml7 ((unhide HR1).below B10.drew) ((unhide HR2).below B10.drew) ((unhide HR3).below B10.drew) ((unhide HR4).below B10.drew) ((unhide HR5).below B10.drew) ((unhide HR6).below B10.drew) ((unhide HR7).below B10.drew)).mono ?_
  rintro e w11 ⟨g1_11, g2_11, g3_11, g4_11, g5_11, g6_11, g7_11, rfl, b11_, l11⟩
  have b11 : Below w10.heap.size w10 w11 := (Below.refl _ _).drew.trans b11_
  clear b11_
  have B11 := B10.trans (b11.mono B10.size)
  have sz11 : w10.heap.size ≤ w11.heap.size := b11.size
  have Q11 := hide ((unhide Q10).below b11)
  have W11 := hide ((unhide W10).below b11)
  have WB11 := hide ((unhide WB10).below b11)
  have X11 := hide ((unhide X10).below b11)
  have V11 := hide ((unhide V10).below b11)
  have G11 := hide ((unhide G10).below b11)
  have GB11 := hide ((unhide GB10).below b11)
  clear Q10 W10 WB10 X10 V10 G10 GB10
  clear hHeld
  have Y11 := hide l11
  clear l11
  refine hK.out _ _ (⟨unhide V11, unhide Q11⟩) (fun hHeld => ?_)
  clear hK K
  (try simp only [Act.put, List.setIfInBounds_toArray, List.set_cons_zero, List.set_cons_succ])
  (refine Rg.o 3 (fun K hK => ?_); go_simp)
  refine (eqR x1 x2 x3 x4 x5 x6 _ _ _ _ _ _ _  _ _ _ _ _ _ _  _ _ _ _ _ _ _  _ _ _ _ _ _ _  ls tw se du ss es la _ hml1 hml2 hml3 hml4 hml5 hml6 hml7 (unhide X11).r1 (unhide X11).r2 (unhide X11).r3 (unhide X11).r4 (unhide X11).r5 (unhide X11).r6 (unhide X11).r7 (unhide Y11).r1 (unhide Y11).r2 (unhide Y11).r3 (unhide Y11).r4 (unhide Y11).r5 (unhide Y11).r6 (unhide Y11).r7).mono ?_
  rintro e w12 ⟨rfl, b12⟩
  have B12 := B11.trans (b12.mono B11.size)
  have sz12 : w11.heap.size ≤ w12.heap.size := b12.size
  have Q12 := hide ((unhide Q11).below b12)
  have W12 := hide ((unhide W11).below b12)
  have WB12 := hide ((unhide WB11).below b12)
  have X12 := hide ((unhide X11).below b12)
  have V12 := hide ((unhide V11).below b12)
  have G12 := hide ((unhide G11).below b12)
  have GB12 := hide ((unhide GB11).below b12)
  have Y12 := hide ((unhide Y11).below b12)
  clear Q11 W11 WB11 X11 V11 G11 GB11 Y11
  clear hHeld
  clear Y12
  refine hK.out _ _ (⟨unhide V12, unhide Q12⟩) (fun hHeld => ?_)
  clear hK K
  (try simp only [Act.put, List.setIfInBounds_toArray, List.set_cons_zero, List.set_cons_succ])
  refine Rg.t 4 45 ?_
  refine wpAnyH_done (by kernel_rfl) (NoPanic.normal ?_) _
  clear hHeld
  go_wp2_with (refine wpList_loadR _ rfl rfl rfl (unhide V12) ?_)
  refine (markRL x1 x2 x3 x4 x5 x6 _ _ _ _ _ _ _  _ _ _ _ _ _ _  (w5.heap.size) (w6.heap.size) 1 ls tw se du ss es la _ (by omega) (by omega) hml1 hml2 hml3 hml4 hml5 hml6 hml7 (by omega) (unhide X12)).mono ?_
  rintro e w13 ⟨kk13, rfl, hkk13, sz13, b13, k13⟩
  have sB13 := B12.size
  have B13 := B12.trans (b13.mono (by omega))
  have hpk13 : ¬ kk13 < 0 := by have := unhide hkk13; omega
  have Q13 := hide ((unhide Q12).but (k13 _ (unhide Q12).lt (by omega)))
  have W13 := hide ((unhide W12).but (p := fun k => k < w5.heap.size ∨ w6.heap.size ≤ k) sz13 (fun k hk h => k13 k hk h) (fun k h1 h2 => by omega))
  have WB13 := hide ((unhide WB12).but (k13 _ (unhide WB12).lt (by omega)))
  have V13 := hide ((unhide V12).but (k13 _ (unhide V12).lt (by omega)))
  have G13 := hide ((unhide G12).but (p := fun k => k < w5.heap.size ∨ w6.heap.size ≤ k) sz13 (fun k hk h => k13 k hk h) (fun k h1 h2 => by omega))
  have GB13 := hide ((unhide GB12).but (k13 _ (unhide GB12).lt (by omega)))
  clear Q12 W12 WB12 X12 V12 G12 GB12 k13 b13 hkk13
  clear V13
  obtain ⟨k0_0, k0_1, k0_2⟩ := (unhide GB13).bx
  obtain ⟨k1_0, k1_1, k1_2⟩ := (unhide WB13).bx
  go_wp2_with fail
  clear k0_0 k0_1 k0_2 k1_0 k1_1 k1_2
  refine (Hs.eq hw hv _ _ RR _ _ _ hol8 (unhide G13).rm (unhide W13).rm).mono ?_
  rintro e w14 ⟨rfl, b14⟩
  have B14 := B13.trans (b14.mono B13.size)
  have sz14 : w13.heap.size ≤ w14.heap.size := b14.size
  have Q14 := hide ((unhide Q13).below b14)
  have W14 := hide ((unhide W13).below b14)
  have WB14 := hide ((unhide WB13).below b14)
  have G14 := hide ((unhide G13).below b14)
  have GB14 := hide ((unhide GB13).below b14)
  clear Q13 W13 WB13 G13 GB13
  obtain ⟨k0_0, k0_1, k0_2⟩ := (unhide GB14).bx
  go_wp2_with fail
  clear k0_0 k0_1 k0_2
  refine (Hs.mark hw hv _ _ _ _ 1 RR _ (by omega) (by omega) hol8 (unhide G14)).mono ?_
  rintro e w15 ⟨rfl, sz15, b15, f15, k15⟩
  have sB15 := B14.size
  have B15 := B14.trans (b15.mono (by omega))
  have Q15 := hide ((unhide Q14).but (k15 _ (unhide Q14).lt (by omega)))
  have W15 := hide ((unhide W14).but (p := fun k => k < w7.heap.size ∨ w8.heap.size ≤ k) sz15 (fun k hk h => k15 k hk h) (fun k h1 h2 => by omega))
  have WB15 := hide ((unhide WB14).but (k15 _ (unhide WB14).lt (by omega)))
  have GB15 := hide ((unhide GB14).but (k15 _ (unhide GB14).lt (by omega)))
  have M15 := hide f15
  clear Q14 W14 WB14 G14 GB14 f15 k15 b15
  have hpm : ¬ (1 + 4 * (RR.length : Int) < 0) := by omega
  obtain ⟨k0_0, k0_1, k0_2⟩ := (unhide GB15).bx
  go_wp2_with fail
  clear k0_0 k0_1 k0_2
  refine (Hs.held hw hv _ _ RR.length _ _ 1 _ (by omega) (by omega) hol8 (unhide M15)).mono ?_
  rintro e w16 ⟨rfl, b16⟩
  have B16 := B15.trans (b16.mono B15.size)
  have sz16 : w15.heap.size ≤ w16.heap.size := b16.size
  have Q16 := hide ((unhide Q15).below b16)
  have W16 := hide ((unhide W15).below b16)
  have WB16 := hide ((unhide WB15).below b16)
  have GB16 := hide ((unhide GB15).below b16)
  have M16 := hide ((unhide M15).below b16)
  clear Q15 W15 WB15 GB15 M15
  go_wp2_with (refine wpList_loadL _ rfl rfl rfl (unhide Q16) ?_)
  refine (toRL x1 x2 x3 x4 x5 x6 a1 a2 a3 a4 a5 a6 a7 c1 c2 c3 c4 c5 c6 c7 ls tw se du ss es la _ hml1 hml2 hml3 hml4 hml5 hml6 hml7 ((unhide HR1).below B16) ((unhide HR2).below B16) ((unhide HR3).below B16) ((unhide HR4).below B16) ((unhide HR5).below B16) ((unhide HR6).below B16) ((unhide HR7).below B16)).mono ?_
  rintro e w17 ⟨g1_17, g2_17, g3_17, g4_17, g5_17, g6_17, g7_17, rfl, b17, l17⟩
  have B17 := B16.trans (b17.mono B16.size)
  have sz17 : w16.heap.size ≤ w17.heap.size := b17.size
  have Q17 := hide ((unhide Q16).below b17)
  have W17 := hide ((unhide W16).below b17)
  have WB17 := hide ((unhide WB16).below b17)
  have GB17 := hide ((unhide GB16).below b17)
  have M17 := hide ((unhide M16).below b17)
  clear Q16 W16 WB16 GB16 M16
  have Z17 := hide l17
  clear l17
  go_wp2_with fail
  refine (implHN x1 x2 x3 x4 x5 x6 _ _ _ _ _ _ _ _ _ _ _ _ _ _ ls tw se du ss es la _ hml1 hml2 hml3 hml4 hml5 hml6 hml7 (unhide Z17).r1 (unhide Z17).r2 (unhide Z17).r3 (unhide Z17).r4 (unhide Z17).r5 (unhide Z17).r6 (unhide Z17).r7).mono ?_
  rintro e w18 ⟨v18, rfl, b18, l18⟩
  have B18 := B17.trans (b18.mono B17.size)
  have sz18 : w17.heap.size ≤ w18.heap.size := b18.size
  have Q18 := hide ((unhide Q17).below b18)
  have W18 := hide ((unhide W17).below b18)
  have WB18 := hide ((unhide WB17).below b18)
  have GB18 := hide ((unhide GB17).below b18)
  have M18 := hide ((unhide M17).below b18)
  have Z18 := hide ((unhide Z17).below b18)
  clear Q17 W17 WB17 GB17 M17 Z17
  rw [unhide HBB, unhide HRR] at l18
  rw [unhide HBB, unhide HCD, unhide HHW, unhide HHV]
  obtain ⟨ra18, rc18, rfl, L18⟩ := l18
  have H18 := hide L18
  clear L18
  have b19 : Below w18.heap.size w18 (w18.alloc (.cells #[.int .i64 hw, .int .i64 hv, .slice ra18 RR.length rc18] 53)) := (Below.refl _ _).alloc (Nat.le_refl _) _
  have B19 := B18.trans (b19.mono B18.size)
  have sz19 : w18.heap.size ≤ (w18.alloc (.cells #[.int .i64 hw, .int .i64 hv, .slice ra18 RR.length rc18] 53)).heap.size := b19.size
  have sy19 : (w18.alloc (.cells #[.int .i64 hw, .int .i64 hv, .slice ra18 RR.length rc18] 53)).heap.size = w18.heap.size + 1 := by simp
  have Q19 := hide ((unhide Q18).below b19)
  have W19 := hide ((unhide W18).below b19)
  have WB19 := hide ((unhide WB18).below b19)
  have GB19 := hide ((unhide GB18).below b19)
  have M19 := hide ((unhide M18).below b19)
  have Z19 := hide ((unhide Z18).below b19)
  have H19 := hide ((unhide H18).below b19)
  clear Q18 W18 WB18 GB18 M18 Z18 H18
  have HB19 : Hid (Hl.HV (w18.alloc (.cells #[.int .i64 hw, .int .i64 hv, .slice ra18 RR.length rc18] 53)) w18.heap.size hw hv (.slice ra18 RR.length rc18)) := hide (Hl.hv_new _ _ _ _)
  obtain ⟨k0_0, k0_1, k0_2⟩ := (unhide HB19).bx
  obtain ⟨k1_0, k1_1, k1_2⟩ := (unhide WB19).bx
  go_wp2_with fail
  clear k0_0 k0_1 k0_2 k1_0 k1_1 k1_2
  generalize hW_ : (w18.alloc (.cells #[.int .i64 hw, .int .i64 hv, .slice ra18 RR.length rc18] 53)) = w19 at *
  clear hW_
  refine (Hs.eq hw hv _ _ RR _ _ _ hol8 (unhide H19).rm (unhide W19).rm).mono ?_
  rintro e w20 ⟨rfl, b20⟩
  have B20 := B19.trans (b20.mono B19.size)
  have sz20 : w19.heap.size ≤ w20.heap.size := b20.size
  have Q20 := hide ((unhide Q19).below b20)
  have W20 := hide ((unhide W19).below b20)
  have WB20 := hide ((unhide WB19).below b20)
  have GB20 := hide ((unhide GB19).below b20)
  have M20 := hide ((unhide M19).below b20)
  have Z20 := hide ((unhide Z19).below b20)
  have H20 := hide ((unhide H19).below b20)
  have HB20 := hide ((unhide HB19).below b20)
  clear Q19 W19 WB19 GB19 M19 Z19 H19 HB19
  obtain ⟨k0_0, k0_1, k0_2⟩ := (unhide GB20).bx
  go_wp2_with fail
  clear k0_0 k0_1 k0_2
  refine (Hs.held hw hv _ _ RR.length _ _ 1 _ (by omega) (by omega) hol8 (unhide M20)).mono ?_
  rintro e w21 ⟨rfl, b21⟩
  have B21 := B20.trans (b21.mono B20.size)
  have sz21 : w20.heap.size ≤ w21.heap.size := b21.size
  have Q21 := hide ((unhide Q20).below b21)
  have W21 := hide ((unhide W20).below b21)
  have WB21 := hide ((unhide WB20).below b21)
  have GB21 := hide ((unhide GB20).below b21)
  have M21 := hide ((unhide M20).below b21)
  have Z21 := hide ((unhide Z20).below b21)
  have H21 := hide ((unhide H20).below b21)
  have HB21 := hide ((unhide HB20).below b21)
  clear Q20 W20 WB20 GB20 M20 Z20 H20 HB20
  have HF := hide B21
  go_wp2_with fail
  go_ret
  exact ⟨rfl, unhide HF⟩

end Go.Proofs.YtffclijcfngeeaaGreat.fnExactHelloNow
