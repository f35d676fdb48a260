/-
  Of the texts NetRs, NetO, NetE, NetHc, ExRestartW: what this claim needs of them. (put together by mkprune.py)
-/
import Derived.Test.YtfooahhdikobeaaGreatQz8
import Derived.Deep.Cut
import Derived.Deep.DeepHandedRow
namespace Go.Proofs.YtfooahhdikobeaaGreat
open Go.ChangeShapes Go.WideShapes Go.ChangeAt Go.RowKit
set_option linter.unusedVariables false
set_option linter.unusedSimpArgs false
set_option maxRecDepth 100000
attribute [local go_sem ↓] Go.wp_at_zero Go.wp_at_succ
namespace Nt
open W1 Rt Na
/-- What Restart answers. -/
def rsB (ok : Bool) (n : Nat) (x z : Int) : Bool := ok && (inB x 1 n && inB z 0 65535)
def rsM (q : Bool) (ms : List Rm) (p : Nat) (x z : Int) : List Rm := if q = true then ms.set p (newM x (ms.getD p Rm.zero).x2 z z (ms.getD p Rm.zero).x5) else []
def rsC (q : Bool) (cs : List Int) : List Int := if q = true then cs else []
theorem rs_small {ms : List Rm} {cs : List Int} {fs : List Fm.R} {t x z : Int} : smN (rsM (rsB (netB ms cs fs t) ms.length x z) ms (x - 1).toNat x z) (rsC (rsB (netB ms cs fs t) ms.length x z) cs) (scF (rsB (netB ms cs fs t) ms.length x z) fs) := by
  cases e : rsB (netB ms cs fs t) ms.length x z
  · exact smN_nil
  · have h : netB ms cs fs t = true := by unfold rsB at e; simp only [Bool.and_eq_true] at e; exact e.1
    obtain ⟨h1, h2, h3, h4⟩ := netB_sm h
    have hx : (x - 1).toNat < ms.length := by unfold rsB inB at e; simp at e; omega
    refine ⟨by show (ms.set _ _).length ≤ 6; rw [List.length_set]; exact h1, fun i hi => ?_, h3, h4⟩
    have hi' : i < ms.length := by have : (ms.set (x - 1).toNat (newM x (ms.getD (x - 1).toNat Rm.zero).x2 z z (ms.getD (x - 1).toNat Rm.zero).x5)).length = ms.length := List.length_set; exact this ▸ hi
    show r64 ((ms.set _ _).getD i Rm.zero)
    rw [ms_set hx]
    split
    · exact newM_64
    · exact h2 i hi'
theorem netB_will {ms : List Rm} {cs : List Int} {fs : List Fm.R} {t : Int} (h : netB ms cs fs t = true) : ∀ i, i < ms.length → inB (ms.getD i Rm.zero).x2 0 7 = true := by
  intro i hi
  unfold netB rtsB at h
  simp only [Bool.and_eq_true] at h
  have h1 := allI_at h.2.2.1 hi
  unfold rok okM at h1
  simp only [Bool.and_eq_true] at h1
  exact (Na.rtr_all h1.1).2.1
set_option maxHeartbeats 32000000 in
theorem implRS (a b d : Option Addr) (ca cb cd : Nat) (t : Int) (ms : List Rm) (ps : List Pl) (cs : List Int) (fs : List Fm.R) (x z : Int) (w : World) (hm : ms.length ≤ 1048576) (hc : cs.length ≤ 1048576) (hf : fs.length ≤ 1048576) (hs : ∀ i, i < ms.length → Sm (ms.getD i Rm.zero)) (hg : ∀ i, i < fs.length → (fs.getD i Fm.R.zero).bs.size ≤ maxLen) (hr : NR w a ms ps) (hi : In.RM w b cs) (hz : Fm.RM w d fs) :
    Calls Tryz.prog 24 #[.agg #[.slice a ms.length ca, .slice b cs.length cb, .slice d fs.length cd, .int .i64 t], .int .i64 x, .int .i64 z] w fun e w' => ∃ v, e = .returned (.tuple #[v, .int .i64 (scE (netB ms cs fs t) (rsB (netB ms cs fs t) ms.length x z))]) ∧ Below w.heap.size w w' ∧ Na.GotM v w w' (rsM (rsB (netB ms cs fs t) ms.length x z) ms (x - 1).toNat x z) (rsC (rsB (netB ms cs fs t) ms.length x z) cs) (scF (rsB (netB ms cs fs t) ms.length x z) fs) (scT (rsB (netB ms cs fs t) ms.length x z) t) := by
  obtain ⟨bp, hbp⟩ : ∃ q, inB x 1 ms.length = q := ⟨_, rfl⟩
  obtain ⟨bz, hbz⟩ : ∃ q, inB z 0 65535 = q := ⟨_, rfl⟩
  have HAP := hide (fun (n : Nat) (e : ms.length = n) => (by rw [← e]; exact hbp : inB x 1 n = bp))
  have HBZ := hide hbz
  obtain ⟨pp, hpp⟩ : ∃ q, (x - 1).toNat = q := ⟨_, rfl⟩
  rw [hpp]
  obtain ⟨Ms, hMs⟩ : ∃ M, rsM (rsB (netB ms cs fs t) ms.length x z) ms pp x z = M := ⟨_, rfl⟩
  obtain ⟨Cs, hCs⟩ : ∃ M, rsC (rsB (netB ms cs fs t) ms.length x z) cs = M := ⟨_, rfl⟩
  obtain ⟨Fs, hFs⟩ : ∃ M, scF (rsB (netB ms cs fs t) ms.length x z) fs = M := ⟨_, rfl⟩
  obtain ⟨T, hT⟩ : ∃ M, scT (rsB (netB ms cs fs t) ms.length x z) t = M := ⟨_, rfl⟩
  obtain ⟨E, hE⟩ : ∃ M, scE (netB ms cs fs t) (rsB (netB ms cs fs t) ms.length x z) = M := ⟨_, rfl⟩
  rw [hMs, hCs, hFs, hT, hE]
  obtain ⟨wl, hwl⟩ : ∃ q, (ms.getD pp Rm.zero).x2 = q := ⟨_, rfl⟩
  obtain ⟨nw, hnw⟩ : ∃ q, (ms.getD pp Rm.zero).x5 = q := ⟨_, rfl⟩
  have HWL := hide hwl
  have HNW := hide hnw
  have HNO : Hid ((rsB (netB ms cs fs t) ms.length x z) = false → Ms = [] ∧ Cs = [] ∧ Fs = [] ∧ T = 0) := hide (fun h => by rw [← hMs, ← hCs, ← hFs, ← hT, h]; exact ⟨rfl, rfl, rfl, rfl⟩)
  have HYES : Hid ((rsB (netB ms cs fs t) ms.length x z) = true → Ms = ms.set pp (newM x wl z z nw) ∧ Cs = cs ∧ Fs = fs ∧ T = t) := hide (fun h => by rw [← hMs, ← hCs, ← hFs, ← hT, ← hwl, ← hnw, h]; exact ⟨rfl, rfl, rfl, rfl⟩)
  have HE := hide hE
  have HSC : Hid ((rsB (netB ms cs fs t) ms.length x z) = (netB ms cs fs t && (bp && bz))) := hide (by unfold rsB; rw [hbp, hbz])
  have HXY : Hid (bp = true → x - 1 = (pp : Int) ∧ x = (pp : Int) + 1 ∧ pp < ms.length) := hide (fun h => by rw [← hbp] at h; unfold inB at h; simp at h; omega)
  have HW7 := hide (fun (h : netB ms cs fs t = true) (hp : pp < ms.length) => (by have := netB_will h pp hp; rw [hwl] at this; exact this : inB wl 0 7 = true))
  clear hbp hbz hpp hMs hCs hFs hT hE hwl hnw
  have KN0 := hide (fun W (b0 : Below w.heap.size w W) => implNet a b d ca cb cd t ms ps cs fs W hm hc hf hs hg (hr.below b0) (hi.below b0) (hz.below b0))
  have HSN := hide (fun h => netB_sm (ms := ms) (cs := cs) (fs := fs) (t := t) h)
  have HN6 := hide (fun h => netB_n (ms := ms) (cs := cs) (fs := fs) (t := t) h)
  have HR := hide hr
  have HI := hide hi
  have HF := hide hz
  clear hr hi hz hs hg
  generalize netB ms cs fs t = ok at *
  obtain ⟨n, hN⟩ : ∃ n, ms.length = n := ⟨_, rfl⟩
  have HN := hide hN
  rw [hN] at KN0 HN6 ⊢
  clear hN
  have z1 : (w.alloc (.cells #[.slice a n ca, .slice b cs.length cb, .slice d fs.length cd, .int .i64 t] 31)).heap.size = w.heap.size + 1 := by simp
  have hq0 : w.heap.size + 2 ≤ ((w.alloc (.cells #[.slice a n ca, .slice b cs.length cb, .slice d fs.length cd, .int .i64 t] 31)).alloc (.cells #[.slice none 0 0, .slice none 0 0, .slice none 0 0, .int .i64 0] 31)).heap.size := by simp
  have HB0 : Hid (Below w.heap.size w ((w.alloc (.cells #[.slice a n ca, .slice b cs.length cb, .slice d fs.length cd, .int .i64 t] 31)).alloc (.cells #[.slice none 0 0, .slice none 0 0, .slice none 0 0, .int .i64 0] 31))) := hide (((Below.refl _ _).alloc (Nat.le_refl _) _).alloc (by simp) _)
  have c1 : Below (w.alloc (.cells #[.slice a n ca, .slice b cs.length cb, .slice d fs.length cd, .int .i64 t] 31)).heap.size (w.alloc (.cells #[.slice a n ca, .slice b cs.length cb, .slice d fs.length cd, .int .i64 t] 31)) ((w.alloc (.cells #[.slice a n ca, .slice b cs.length cb, .slice d fs.length cd, .int .i64 t] 31)).alloc (.cells #[.slice none 0 0, .slice none 0 0, .slice none 0 0, .int .i64 0] 31)) := bel_new _ _
  have HX0 := hide ((nb_new w (.slice a n ca) (.slice b cs.length cb) (.slice d fs.length cd) t 31).below c1)
  have TX0 : Hid (((w.alloc (.cells #[.slice a n ca, .slice b cs.length cb, .slice d fs.length cd, .int .i64 t] 31)).alloc (.cells #[.slice none 0 0, .slice none 0 0, .slice none 0 0, .int .i64 0] 31)).there w.heap.size 0 4) := hide (there_under (there_new4 w _ _ _ _ _) c1 (by rw [z1]; omega))
  have TZ0 : Hid (((w.alloc (.cells #[.slice a n ca, .slice b cs.length cb, .slice d fs.length cd, .int .i64 t] 31)).alloc (.cells #[.slice none 0 0, .slice none 0 0, .slice none 0 0, .int .i64 0] 31)).there (w.heap.size + 1) 0 4) := hide (by have h := there_new4 (w.alloc (.cells #[.slice a n ca, .slice b cs.length cb, .slice d fs.length cd, .int .i64 t] 31)) (.slice none 0 0) (.slice none 0 0) (.slice none 0 0) (.int .i64 0) 31; rw [z1] at h; exact h)
  have NZ0 : Hid (NB ((w.alloc (.cells #[.slice a n ca, .slice b cs.length cb, .slice d fs.length cd, .int .i64 t] 31)).alloc (.cells #[.slice none 0 0, .slice none 0 0, .slice none 0 0, .int .i64 0] 31)) (w.heap.size + 1) (.slice none 0 0) (.slice none 0 0) (.slice none 0 0) 0) := hide (by have h := nb_new (w.alloc (.cells #[.slice a n ca, .slice b cs.length cb, .slice d fs.length cd, .int .i64 t] 31)) (.slice none 0 0) (.slice none 0 0) (.slice none 0 0) 0 31; rw [z1] at h; exact h)
  clear z1 c1
  go_enter Tryz.func24, Tryz.ntmps24
  obtain ⟨V0, hV0⟩ : ∃ V, ((w.alloc (.cells #[.slice a n ca, .slice b cs.length cb, .slice d fs.length cd, .int .i64 t] 31)).alloc (.cells #[.slice none 0 0, .slice none 0 0, .slice none 0 0, .int .i64 0] 31)) = V := ⟨_, rfl⟩
  rw [hV0] at hq0 HB0 HX0 TX0 TZ0 NZ0
  obtain ⟨p0, p1, p2, p3⟩ := unhide HX0
  go_wp2_with fail
  clear p0 p1 p2 p3
  try clear hV0
  refine (unhide KN0 _ (unhide HB0)).mono ?_
  rintro e V1 ⟨rfl, b1⟩
  have HB1 := hide ((unhide HB0).trans (b1.mono (unhide HB0).size))
  have HX1 := hide ((unhide HX0).below b1)
  have TX1 := hide (there_under (unhide TX0) b1 (unhide HX0).lt)
  have TZ1 := hide (there_under (unhide TZ0) b1 (unhide NZ0).lt)
  have NZ1 := hide ((unhide NZ0).below b1)
  have hq1 := b1.size
  clear HB0 HX0 TX0 TZ0 NZ0  b1
  cases ok
  · obtain ⟨rfl, rfl, rfl, rfl⟩ := unhide HNO (by rw [unhide HSC]; rfl)
    obtain rfl : E = 1 := by rw [← unhide HE, unhide HSC]; rfl
    go_wp2_with (refine storeNB _ _ rfl rfl rfl rfl rfl (unhide TZ1) rfl rfl ?_; intro V9 n9 t9 bb9 s9 k9)
    (try rw [Exit.noGoto_ret])
    have hlt_ : w.heap.size ≤ V9.heap.size := (bb9 _ _ (unhide HB1) (Nat.le_succ _)).size
    refine bodyPost_ret (v := .tuple #[.agg #[.slice none 0 0, .slice none 0 0, .slice none 0 0, .int .i64 0], .int .i64 1]) (Na.resultsNC rfl _ _ rfl n9 rfl) rfl ⟨_, rfl, bb9 _ _ (unhide HB1) (Nat.le_succ _), Na.gotM_nil hlt_⟩
  obtain ⟨h1, h6, hC, _, _⟩ := unhide HN6 (by trivial)
  have HH1 := hide h1
  have HH6 := hide h6
  have HHC := hide hC
  clear h1 h6 hC
  obtain ⟨p0, p1, p2, p3⟩ := unhide HX1
  go_wp2_with fail
  clear p0 p1 p2 p3
  refine (isRouter a b d n cs.length fs.length ca cb cd t x _).mono ?_
  rintro e V2 ⟨rfl, b2⟩
  rw [unhide HAP n (unhide HN)]
  have HB2 := hide ((unhide HB1).trans (b2.mono (unhide HB1).size))
  have HX2 := hide ((unhide HX1).below b2)
  have TX2 := hide (there_under (unhide TX1) b2 (unhide HX1).lt)
  have TZ2 := hide (there_under (unhide TZ1) b2 (unhide NZ1).lt)
  have NZ2 := hide ((unhide NZ1).below b2)
  have hq2 := b2.size
  clear HB1 HX1 TX1 TZ1 NZ1  b2
  cases bp
  · obtain ⟨rfl, rfl, rfl, rfl⟩ := unhide HNO (by rw [unhide HSC]; rfl)
    obtain rfl : E = 4 := by rw [← unhide HE, unhide HSC]; rfl
    go_wp2_with (refine storeNB _ _ rfl rfl rfl rfl rfl (unhide TZ2) rfl rfl ?_; intro V9 n9 t9 bb9 s9 k9)
    (try rw [Exit.noGoto_ret])
    have hlt_ : w.heap.size ≤ V9.heap.size := (bb9 _ _ (unhide HB2) (Nat.le_succ _)).size
    refine bodyPost_ret (v := .tuple #[.agg #[.slice none 0 0, .slice none 0 0, .slice none 0 0, .int .i64 0], .int .i64 4]) (Na.resultsNC rfl _ _ rfl n9 rfl) rfl ⟨_, rfl, bb9 _ _ (unhide HB2) (Nat.le_succ _), Na.gotM_nil hlt_⟩
  obtain ⟨p0, p1, p2, p3⟩ := unhide HX2
  have HSB := hide (fun k (h : k < n) => r64_ok ((unhide HSN (by trivial)).2.1 k (by rw [unhide HN]; exact h)))
  have hcl := (unhide HSN (by trivial)).2.2.1
  have hfl := (unhide HSN (by trivial)).2.2.2
  go_wp2_with fail
  clear p0 p1 p2 p3
  refine (netOf a b d ca cb cd n t ms ps cs fs _ (unhide HN) (by have := unhide HH1; omega) (by have := unhide HH6; omega) (by omega) (by omega) (unhide HSB) ((unhide HR).below (unhide HB2)) ((unhide HI).below (unhide HB2)) ((unhide HF).below (unhide HB2))).mono ?_
  rintro e V3 ⟨A3, b', D3, cA, cB, cD, qs, rfl, b3, mt_⟩
  have MT3 := hide mt_
  clear mt_
  have HB3 := hide ((unhide HB2).trans (b3.mono (unhide HB2).size))
  have HX3 := hide ((unhide HX2).below b3)
  have TX3 := hide (there_under (unhide TX2) b3 (unhide HX2).lt)
  have TZ3 := hide (there_under (unhide TZ2) b3 (unhide NZ2).lt)
  have NZ3 := hide ((unhide NZ2).below b3)
  have hq3 := b3.size
  clear HB2 HX2 TX2 TZ2 NZ2  b3
  obtain ⟨p0, p1, p2, p3⟩ := unhide HX3
  go_upto_region 6 with (refine storeNB _ _ rfl rfl rfl rfl rfl (unhide TX3) rfl rfl ?_; intro V4 n_ t_ bb_ s_ k_)
  clear p0 p1 p2 p3
  have HX4 := hide n_
  have TX4 := hide t_
  have HB4 := hide (bb_ _ _ (unhide HB3) (Nat.le_refl _))
  have hx_ := (unhide HX3).lt
  have TZ4 := hide (there_blk (unhide TZ3) (k_ _ (by omega)))
  have NZ4 := hide ((unhide NZ3).but (k_ _ (by omega)))
  have hq4 := Nat.le_of_eq s_
  have hr4 := Nat.le_of_eq s_.symm
  have MT4 := hide ((unhide MT3).but (L := w.heap.size) (H := w.heap.size + 1) (by omega) (fun k _ h => k_ k (by omega)) (.inr (by omega)))
  clear HB3 HX3 TX3 TZ3 NZ3 MT3 n_ t_ bb_ s_ k_
  obtain ⟨hx1, hx2, hpn⟩ := unhide HXY (by trivial)
  rw [unhide HN] at hpn
  have HX2_ := hide hx2
  have hw7 := unhide HW7 (by trivial) (by rw [unhide HN]; exact hpn)
  obtain ⟨g, rfl, lg1, lg2, lg3, hth, hrow⟩ := (unhide MT4).row (by rw [unhide HN]; omega)
  have HA := hide (hrow pp (by rw [unhide HN]; exact hpn))
  clear hth hrow hx2
  generalize hmj : ms.getD pp Rm.zero = m at HA HWL HNW
  clear hmj
  generalize qs.getD pp Pl.zero = q0 at HA
  have n0 : (0 : Int) ≤ (pp : Int) := by omega
  have n1 : (pp : Int) < (n : Int) := by omega
  have n2 : (pp : Int) ≤ 36 := by have := unhide HH6; omega
  obtain ⟨p0, p1, p2, p3⟩ := unhide HX4
  go_upto_region 7 with (first | (refine loadI _ rfl rfl (unhide HA) rfl ?_) | (refine wpList_storeR _ _ rfl rfl (cl m q0) (cl_ones m q0) rfl rfl (ra_new V4 (rC 0 0 0 0 0 (.slice none 0 0) (.slice none 0 0) (.slice none 0 0) (.slice none 0 0) (.slice none 0 0) (.slice none 0 0) (.slice none 0 0) 0) rfl 83).2.1 ?_; intro V5 ra bb hs5))
  clear p0 p1 p2 p3
  have b5 : Below V4.heap.size V4 V5 := bb _ _ ((Below.refl _ _).alloc (Nat.le_refl _) _) (Nat.le_refl _)
  have hs5' : V4.heap.size < V5.heap.size := by rw [hs5]; simp
  obtain ⟨v8, hv8⟩ : ∃ v, V4.heap.size = v := ⟨_, rfl⟩
  have HR8 := hide ra
  have hv8l : V3.heap.size ≤ v8 := by omega
  have hv8g : g < v8 := by omega
  have HB5 := hide ((unhide HB4).trans (b5.mono (unhide HB4).size))
  have HX5 := hide ((unhide HX4).below b5)
  have TX5 := hide (there_under (unhide TX4) b5 (unhide HX4).lt)
  have TZ5 := hide (there_under (unhide TZ4) b5 (unhide NZ4).lt)
  have NZ5 := hide ((unhide NZ4).below b5)
  have hq5 := b5.size
  have MT5 := hide ((unhide MT4).below b5)
  clear HB4 HX4 TX4 TZ4 NZ4 MT4 b5
  rw [hv8] at HR8 hs5' ⊢
  clear ra bb hs5 HA hv8
  have e1 := (unhide HR8).at (i := 1) (v := .int .i64 wl) (by rw [← unhide HWL]; rfl)
  go_wp2_with fail
  clear e1
  refine (implNew x wl z _).mono ?_
  rintro e V6 ⟨v, rfl, ev, b6⟩
  have HCN : Hid (codeN x wl z = if bz = true then 0 else 4) := hide (by
    have hi8 : inB x 1 8 = true := by have := unhide HX2_; have := unhide HH6; unfold inB; simp; omega
    unfold codeN okN; rw [hi8, hw7, unhide HBZ]; cases bz <;> rfl)
  have HPK : Hid (bz = true → ∀ v, pickN x wl z v = v) := hide (fun h v => by
    have hi8 : inB x 1 8 = true := by have := unhide HX2_; have := unhide HH6; unfold inB; simp; omega
    unfold pickN okN; rw [hi8, hw7, unhide HBZ, h]; rfl)
  obtain ⟨a1, a2, a3, a4, a5, a6, a7, rfl⟩ := ev
  rw [unhide HCN]
  have HRB6 := hide ((unhide HR8).below b6)
  have HB6 := hide ((unhide HB5).trans (b6.mono (unhide HB5).size))
  have HX6 := hide ((unhide HX5).below b6)
  have TX6 := hide (there_under (unhide TX5) b6 (unhide HX5).lt)
  have TZ6 := hide (there_under (unhide TZ5) b6 (unhide NZ5).lt)
  have NZ6 := hide ((unhide NZ5).below b6)
  have hq6 := b6.size
  have MT6 := hide ((unhide MT5).below b6)
  clear HB5 HX5 TX5 TZ5 NZ5 MT5 b6
  clear HR8 HCN
  cases bz
  · obtain ⟨rfl, rfl, rfl, rfl⟩ := unhide HNO (by rw [unhide HSC]; rfl)
    obtain rfl : E = 4 := by rw [← unhide HE, unhide HSC]; rfl
    rw [if_neg (by simp)]
    generalize pickN x wl z x = y1 at *
    generalize pickN x wl z wl = y2 at *
    generalize pickN x wl z z = y3 at *
    go_upto_region 8 with (refine wpList_storeR _ _ rfl rfl (rC y1 y2 y3 0 0 (.slice a1 0 0) (.slice a2 0 0) (.slice a3 0 0) (.slice a4 0 0) (.slice a5 0 0) (.slice a6 0 0) (.slice a7 0 0) 0) (rC_ones rfl rfl rfl rfl rfl rfl rfl) rfl rfl (ra_new V6 (rC 0 0 0 0 0 (.slice none 0 0) (.slice none 0 0) (.slice none 0 0) (.slice none 0 0) (.slice none 0 0) (.slice none 0 0) (.slice none 0 0) 0) rfl 83).2.1 ?_; intro V7 ra bb hs7)
    have b7 : Below V6.heap.size V6 V7 := bb _ _ ((Below.refl _ _).alloc (Nat.le_refl _) _) (Nat.le_refl _)
    have HB7 := hide ((unhide HB6).trans (b7.mono (unhide HB6).size))
    have HX7 := hide ((unhide HX6).below b7)
    have TX7 := hide (there_under (unhide TX6) b7 (unhide HX6).lt)
    have TZ7 := hide (there_under (unhide TZ6) b7 (unhide NZ6).lt)
    have NZ7 := hide ((unhide NZ6).below b7)
    have hq7 := b7.size
    clear HB6 HX6 TX6 TZ6 NZ6  b7
    clear ra bb hs7
    go_wp2_with (refine storeNB _ _ rfl rfl rfl rfl rfl (unhide TZ7) rfl rfl ?_; intro V9 n9 t9 bb9 s9 k9)
    (try rw [Exit.noGoto_ret])
    have hlt_ : w.heap.size ≤ V9.heap.size := (bb9 _ _ (unhide HB7) (Nat.le_succ _)).size
    refine bodyPost_ret (v := .tuple #[.agg #[.slice none 0 0, .slice none 0 0, .slice none 0 0, .int .i64 0], .int .i64 4]) (Na.resultsNC rfl _ _ rfl n9 rfl) rfl ⟨_, rfl, bb9 _ _ (unhide HB7) (Nat.le_succ _), Na.gotM_nil hlt_⟩
  obtain ⟨e1, e2, e3, e4⟩ := unhide HYES (by rw [unhide HSC]; rfl)
  obtain rfl := e1.symm
  obtain rfl := e2.symm
  obtain rfl := e3.symm
  obtain rfl := e4.symm
  clear e1 e2 e3 e4 HYES HNO
  obtain rfl : E = 0 := by rw [← unhide HE, unhide HSC]; rfl
  rw [if_pos rfl, unhide HPK rfl, unhide HPK rfl, unhide HPK rfl]
  clear HPK
  obtain ⟨qn, hqn⟩ : ∃ q : Pl, (⟨a1, a2, a3, a4, a5, a6, a7, 0, 0, 0, 0, 0, 0, 0⟩ : Pl) = q := ⟨_, rfl⟩
  rw [show (rC x wl z 0 0 (.slice a1 0 0) (.slice a2 0 0) (.slice a3 0 0) (.slice a4 0 0) (.slice a5 0 0) (.slice a6 0 0) (.slice a7 0 0) 0) = cl (newM x wl z 0 0) qn from by rw [← hqn]; rfl]
  clear hqn
  go_upto_region 8 with (refine wpList_storeR _ _ rfl rfl (cl (newM x wl z 0 0) qn) (cl_ones (newM x wl z 0 0) qn) rfl rfl (ra_new V6 (rC 0 0 0 0 0 (.slice none 0 0) (.slice none 0 0) (.slice none 0 0) (.slice none 0 0) (.slice none 0 0) (.slice none 0 0) (.slice none 0 0) 0) rfl 83).2.1 ?_; intro V7 ra bb hs7)
  have b7 : Below V6.heap.size V6 V7 := bb _ _ ((Below.refl _ _).alloc (Nat.le_refl _) _) (Nat.le_refl _)
  have hs7' : V6.heap.size < V7.heap.size := by rw [hs7]; simp
  obtain ⟨v9, hv9⟩ : ∃ v, V6.heap.size = v := ⟨_, rfl⟩
  have RN7 := hide ra
  have HRB7 := hide ((unhide HRB6).below b7)
  have hv9l : v8 < v9 := by omega
  have HB7 := hide ((unhide HB6).trans (b7.mono (unhide HB6).size))
  have HX7 := hide ((unhide HX6).below b7)
  have TX7 := hide (there_under (unhide TX6) b7 (unhide HX6).lt)
  have TZ7 := hide (there_under (unhide TZ6) b7 (unhide NZ6).lt)
  have NZ7 := hide ((unhide NZ6).below b7)
  have hq7 := b7.size
  have MT7 := hide ((unhide MT6).below b7)
  clear HB6 HX6 TX6 TZ6 NZ6 MT6 b7
  rw [hv9] at RN7 hs7' ⊢
  clear ra bb hs7 hv9 HRB6
  have HE8 := hide ((unhide HRB7).at (i := 4) (v := .int .i64 nw) (by rw [← unhide HNW]; rfl))
  clear HRB7
  go_wp2_with fail
  refine wp_region_noPanic ?_
  refine wp_region_held_drew (S := fun w' => w'.cell? ⟨v8, 4, none⟩ = some (.int .i64 nw)) (by kernel_rfl) (unhide HE8) (fun hHeld => ?_)
  refine Rg.t 0 42 ?_
  refine Rg.t 1 43 ?_
  refine Rg.t 2 44 ?_
  refine Rg.t 3 45 ?_
  have RN7 := hide (show RA V7.drew v9 (cl (newM x wl z 0 0) qn) from unhide RN7)
  have HB7 := hide (unhide HB7).drew
  have HX7 := hide (unhide HX7).drew
  have TZ7 := hide (show V7.drew.there (w.heap.size + 1) 0 4 from unhide TZ7)
  have MT7 := hide (show MT V7.drew V2.heap.size V3.heap.size (some ⟨g, 0, none⟩) b' D3 ms qs cs fs from unhide MT7)
  have HE8 := hide (show V7.drew.cell? ⟨v8, 4, none⟩ = some (.int .i64 nw) from unhide HE8)
  obtain ⟨Vd, hVd⟩ : ∃ V, V7.drew = V := ⟨_, rfl⟩
  have hsd : Vd.heap.size = V7.heap.size := by rw [← hVd]; rfl
  rw [hVd] at RN7 HB7 HX7 TZ7 MT7 HE8 ⊢
  clear hVd
  rw [← hsd] at hs7'
  clear hsd
  rename World => V7_
  have g3 := (unhide RN7).at (i := 3) (v := .int .i64 0) rfl
  have g4 := (unhide RN7).at (i := 4) (v := .int .i64 0) rfl
  have f3 := (unhide RN7).free (i := 3) (by omega)
  have f4 := (unhide RN7).free (i := 4) (by omega)
  (refine Rg.o 4 (fun K hK => ?_); go_simp)
  clear g3 g4 f3 f4
  have RQ := hide (RA.set (unhide RN7) (k := 3) (by omega) (.int .i64 z))
  have hE8 : (V7_.setCell ⟨v9, 3, none⟩ (.int .i64 z)).cell? ⟨v8, 4, none⟩ = some (.int .i64 nw) := by
    rw [World.cell?_setCell_other _ _ _ _ (by intro h; injection h with h1 _ _; omega)]; exact unhide HE8
  refine hK.out _ _ hE8 (fun hHeld => ?_)
  clear hK K hE8
  (try simp only [Act.put, List.setIfInBounds_toArray, List.set_cons_zero, List.set_cons_succ])
  refine Rg.t 5 46 ?_
  have g4 := (unhide RQ).at (i := 4) (v := .int .i64 0) rfl
  have f4 := (unhide RQ).free (i := 4) (by omega)
  (refine Rg.o 6 (fun K hK => ?_); go_simp)
  clear g4 f4
  have RN8 : Hid (RA ((V7_.setCell ⟨v9, 3, none⟩ (.int .i64 z)).setCell ⟨v9, 4, none⟩ (.int .i64 nw)) v9 (cl (newM x wl z z nw) qn)) := hide (RA.set (unhide RQ) (k := 4) (by omega) (.int .i64 nw))
  have ho8 : ∀ x, x ≠ v9 → ((V7_.setCell ⟨v9, 3, none⟩ (.int .i64 z)).setCell ⟨v9, 4, none⟩ (.int .i64 nw)).heap[x]? = V7_.heap[x]? := fun x hx => (Below.heap_setCell _ _ _ _ hx).trans (Below.heap_setCell _ _ _ _ hx)
  have hs8 : ((V7_.setCell ⟨v9, 3, none⟩ (.int .i64 z)).setCell ⟨v9, 4, none⟩ (.int .i64 nw)).heap.size = V7_.heap.size := by simp [World.setCell]
  have HB8 := hide (((unhide HB7).setCell (p := ⟨v9, 3, none⟩) (by show w.heap.size ≤ v9; omega) (.int .i64 z)).setCell (p := ⟨v9, 4, none⟩) (by show w.heap.size ≤ v9; omega) (.int .i64 nw))
  obtain ⟨V8, hV8⟩ : ∃ V, ((V7_.setCell ⟨v9, 3, none⟩ (.int .i64 z)).setCell ⟨v9, 4, none⟩ (.int .i64 nw)) = V := ⟨_, rfl⟩
  rw [hV8] at RN8 ho8 hs8 HB8 ⊢
  clear hV8 RQ
  have HX8 := hide ((unhide HX7).but (ho8 _ (by omega)))
  have TZ8 := hide (there_blk (unhide TZ7) (ho8 _ (by omega)))
  have MT8 := hide ((unhide MT7).but (L := v9) (H := v9 + 1) (by omega) (fun k _ h => ho8 k (by omega)) (.inl (by omega)))
  have HE8' : Hid (V8.cell? ⟨v8, 4, none⟩ = some (.int .i64 nw)) := hide (by rw [World.cell?_of_block (a := ⟨v8, 4, none⟩) (by exact ho8 v8 (by omega))]; exact unhide HE8)
  have HT8 : Hid (V8.there g (pp * 13) 13) := hide (by
    obtain ⟨g', e, _, _, _, h1, _⟩ := (unhide MT8).row (by rw [unhide HN]; omega)
    cases e
    exact there_part h1 (by rw [unhide HN]; omega))
  clear HX7 TZ7 MT7 HB7 RN7 HE8 ho8 hHeld
  refine hK.out _ _ (unhide HE8') (fun hHeld => ?_)
  clear hK K HE8'
  (try simp only [Act.put, List.setIfInBounds_toArray, List.set_cons_zero, List.set_cons_succ])
  refine wpAnyH_done (by kernel_rfl) (NoPanic.normal ?_) _
  clear hHeld
  obtain ⟨p0, p1, p2, p3⟩ := unhide HX8
  go_upto_region 12 with (first | (refine wpList_loadR (cs := cl (newM x wl z z nw) qn) _ rfl rfl rfl (unhide RN8) ?_) | (refine storeN (m := (newM x wl z z nw)) (p := qn) _ _ rfl rfl (unhide HT8) rfl rfl ?_; intro VA hwA))
  clear p0 p1 p2 p3
  have hoA : ∀ x, x ≠ g → VA.heap[x]? = V8.heap[x]? := fun x hx => by rw [hwA]; exact heap_cells hx _ _ _
  have hsA : VA.heap.size = V8.heap.size := by rw [hwA]; exact size_cells _ _ _
  have HBA : Hid (Below w.heap.size w VA) := hide (by rw [hwA]; exact below_cells (b := g) (by omega) (cl (newM x wl z z nw) qn) (pp * 13) V8 (unhide HB8))
  have HXA := hide ((unhide HX8).but (hoA _ (by omega)))
  have TZA := hide (there_blk (unhide TZ8) (hoA _ (by omega)))
  have MTA : Hid (MT VA V2.heap.size V3.heap.size (some ⟨g, 0, none⟩) b' D3 (ms.set pp (newM x wl z z nw)) (psS qs ms.length pp qn) cs fs) := hide (by rw [hwA]; exact (unhide MT8).setR (by rw [unhide HN]; exact hpn))
  clear HB8 HX8 TZ8 MT8 RN8 HT8 hoA hwA
  obtain ⟨p0, p1, p2, p3⟩ := unhide HXA
  go_wp2_with (refine storeNB _ _ rfl rfl rfl rfl rfl (unhide TZA) rfl rfl ?_; intro V9 n9 t9 bb9 s9 k9)
  clear p0 p1 p2 p3
  (try rw [Exit.noGoto_ret])
  have hlt_ := (bb9 _ _ (unhide HBA) (Nat.le_succ _)).size
  have hrw := unhide HN
  refine bodyPost_ret (v := .tuple #[.agg #[.slice (some ⟨g, 0, none⟩) n cA, .slice b' cs.length cB, .slice D3 fs.length cD, .int .i64 t], .int .i64 0]) (Na.resultsNC rfl _ _ rfl n9 rfl) rfl ⟨_, rfl, bb9 _ _ (unhide HBA) (Nat.le_succ _), some ⟨g, 0, none⟩, b', D3, cA, cB, cD, psS qs ms.length pp qn, by rw [List.length_set, hrw], ?_⟩
  exact ((unhide MTA).but (L := w.heap.size + 1) (H := w.heap.size + 2) (by omega) (fun k _ h => k9 k (by omega)) (.inr (by omega))).mono (by omega) (by omega)
set_option maxHeartbeats 32000000 in
theorem l13Restart (a b d : Option Addr) (ca cb cd n pp : Nat) (t : Int) (ms : List Rm) (ps : List Pl) (cs : List Int) (fs : List Fm.R) (x z wl nw : Int) (w : World) (hn : ms.length = n) (hpn : pp < n) (hm : n ≤ 64) (hx1 : x - 1 = (pp : Int)) (hx2 : x = (pp : Int) + 1) (hwl : (ms.getD pp Rm.zero).x2 = wl) (hnw : (ms.getD pp Rm.zero).x5 = nw) (had : ∀ i, i < n → Ad (ps.getD i Pl.zero)) (hr : NR w a ms ps) :
    Calls Tryz.prog 61 #[.agg #[.slice a n ca, .slice b cs.length cb, .slice d fs.length cd, .int .i64 t], .int .i64 x, .int .i64 z] w fun e w' => ∃ g c qs, e = .returned (.agg #[.slice (some ⟨g, 0, none⟩) n c, .slice b cs.length cb, .slice d fs.length cd, .int .i64 t]) ∧ Below w.heap.size w w' ∧ Hid (NR w' (some ⟨g, 0, none⟩) (ms.set pp (newM x wl z z nw)) qs) ∧ Hid (∀ i, i < n → Ad (qs.getD i Pl.zero)) := by
  have z1 : (w.alloc (.cells #[.slice a n ca, .slice b cs.length cb, .slice d fs.length cd, .int .i64 t] 31)).heap.size = w.heap.size + 1 := by simp
  have hq0 : w.heap.size + 2 ≤ ((w.alloc (.cells #[.slice a n ca, .slice b cs.length cb, .slice d fs.length cd, .int .i64 t] 31)).alloc (.cells #[.slice none 0 0, .slice none 0 0, .slice none 0 0, .int .i64 0] 31)).heap.size := by simp
  have HB0 : Hid (Below w.heap.size w ((w.alloc (.cells #[.slice a n ca, .slice b cs.length cb, .slice d fs.length cd, .int .i64 t] 31)).alloc (.cells #[.slice none 0 0, .slice none 0 0, .slice none 0 0, .int .i64 0] 31))) := hide (((Below.refl _ _).alloc (Nat.le_refl _) _).alloc (by simp) _)
  have c1 : Below (w.alloc (.cells #[.slice a n ca, .slice b cs.length cb, .slice d fs.length cd, .int .i64 t] 31)).heap.size (w.alloc (.cells #[.slice a n ca, .slice b cs.length cb, .slice d fs.length cd, .int .i64 t] 31)) ((w.alloc (.cells #[.slice a n ca, .slice b cs.length cb, .slice d fs.length cd, .int .i64 t] 31)).alloc (.cells #[.slice none 0 0, .slice none 0 0, .slice none 0 0, .int .i64 0] 31)) := bel_new _ _
  have HX0 := hide ((nb_new w (.slice a n ca) (.slice b cs.length cb) (.slice d fs.length cd) t 31).below c1)
  have TX0 : Hid (((w.alloc (.cells #[.slice a n ca, .slice b cs.length cb, .slice d fs.length cd, .int .i64 t] 31)).alloc (.cells #[.slice none 0 0, .slice none 0 0, .slice none 0 0, .int .i64 0] 31)).there w.heap.size 0 4) := hide (there_under (there_new4 w _ _ _ _ _) c1 (by rw [z1]; omega))
  have TZ0 : Hid (((w.alloc (.cells #[.slice a n ca, .slice b cs.length cb, .slice d fs.length cd, .int .i64 t] 31)).alloc (.cells #[.slice none 0 0, .slice none 0 0, .slice none 0 0, .int .i64 0] 31)).there (w.heap.size + 1) 0 4) := hide (by have h := there_new4 (w.alloc (.cells #[.slice a n ca, .slice b cs.length cb, .slice d fs.length cd, .int .i64 t] 31)) (.slice none 0 0) (.slice none 0 0) (.slice none 0 0) (.int .i64 0) 31; rw [z1] at h; exact h)
  have NZ0 : Hid (NB ((w.alloc (.cells #[.slice a n ca, .slice b cs.length cb, .slice d fs.length cd, .int .i64 t] 31)).alloc (.cells #[.slice none 0 0, .slice none 0 0, .slice none 0 0, .int .i64 0] 31)) (w.heap.size + 1) (.slice none 0 0) (.slice none 0 0) (.slice none 0 0) 0) := hide (by have h := nb_new (w.alloc (.cells #[.slice a n ca, .slice b cs.length cb, .slice d fs.length cd, .int .i64 t] 31)) (.slice none 0 0) (.slice none 0 0) (.slice none 0 0) 0 31; rw [z1] at h; exact h)
  clear z1 c1
  have HR := hide hr
  have HN := hide hn
  have HAD := hide had
  have HX2_ := hide hx2
  obtain ⟨ga, off, ea, hA, hD⟩ := (hr.below (unhide HB0)).at (i := pp) (by omega)
  have HEA := hide ea
  have HE1 := hide (hA 1 (.int .i64 wl) (by rw [← hwl]; rfl))
  have HE4 := hide (hA 4 (.int .i64 nw) (by rw [← hnw]; rfl))
  have n0 : (0 : Int) ≤ (pp : Int) := by omega
  have n1 : (pp : Int) < (n : Int) := by omega
  have n2 : (pp : Int) ≤ 64 := by omega
  clear hA hD hr hn had hx2 hwl hnw
  go_enter Tryz.func61, Tryz.ntmps61
  obtain ⟨V0, hV0⟩ : ∃ V, ((w.alloc (.cells #[.slice a n ca, .slice b cs.length cb, .slice d fs.length cd, .int .i64 t] 31)).alloc (.cells #[.slice none 0 0, .slice none 0 0, .slice none 0 0, .int .i64 0] 31)) = V := ⟨_, rfl⟩
  rw [hV0] at hq0 HB0 HX0 TX0 TZ0 NZ0 HE1 HE4
  obtain ⟨p0, p1, p2, p3⟩ := unhide HX0
  have e1 := unhide HE1
  rw [ea] at p0
  clear ea
  go_wp2_with fail
  clear p0 p1 p2 p3 e1
  try clear hV0
  refine (l12NewA x wl z _).mono ?_
  rintro e V1 ⟨qn, rfl, b1, hadq⟩
  have HE4_1 : Hid (V1.cell? ⟨ga, off + pp * 13 + 4, none⟩ = some (.int .i64 nw)) := hide ((b1.cell (World.block_lt_of_cell? _ _ (unhide HE4))).trans (unhide HE4))
  have HB1 := hide ((unhide HB0).trans (b1.mono (unhide HB0).size))
  have HX1 := hide ((unhide HX0).below b1)
  have TX1 := hide (there_under (unhide TX0) b1 (unhide HX0).lt)
  have TZ1 := hide (there_under (unhide TZ0) b1 (unhide NZ0).lt)
  have NZ1 := hide ((unhide NZ0).below b1)
  have hq1 := b1.size
  clear HB0 HX0 TX0 TZ0 NZ0  b1
  clear HE1 HE4
  go_upto_region 2 with (refine wpList_storeR _ _ rfl rfl (cl (newM x wl z 0 0) qn) (cl_ones (newM x wl z 0 0) qn) rfl rfl (ra_new V1 (rC 0 0 0 0 0 (.slice none 0 0) (.slice none 0 0) (.slice none 0 0) (.slice none 0 0) (.slice none 0 0) (.slice none 0 0) (.slice none 0 0) 0) rfl 83).2.1 ?_; intro V2 ra bb hs2)
  have b2 : Below V1.heap.size V1 V2 := bb _ _ ((Below.refl _ _).alloc (Nat.le_refl _) _) (Nat.le_refl _)
  have hs2' : V1.heap.size < V2.heap.size := by rw [hs2]; simp
  obtain ⟨v7, hv7⟩ : ∃ v, V1.heap.size = v := ⟨_, rfl⟩
  have RN2 := hide ra
  have HE4_2 : Hid (V2.cell? ⟨ga, off + pp * 13 + 4, none⟩ = some (.int .i64 nw)) := hide ((b2.cell (World.block_lt_of_cell? _ _ (unhide HE4_1))).trans (unhide HE4_1))
  have hv7l : w.heap.size + 2 ≤ v7 := by omega
  have hga : ga < v7 := by rw [← hv7]; exact World.block_lt_of_cell? _ _ (unhide HE4_1)
  have HB2 := hide ((unhide HB1).trans (b2.mono (unhide HB1).size))
  have HX2 := hide ((unhide HX1).below b2)
  have TX2 := hide (there_under (unhide TX1) b2 (unhide HX1).lt)
  have TZ2 := hide (there_under (unhide TZ1) b2 (unhide NZ1).lt)
  have NZ2 := hide ((unhide NZ1).below b2)
  have hq2 := b2.size
  clear HB1 HX1 TX1 TZ1 NZ1  b2
  rw [hv7] at RN2 hs2' ⊢
  clear ra bb hs2 hv7 HE4_1
  obtain ⟨p0, p1, p2, p3⟩ := unhide HX2
  rw [unhide HEA] at p0
  have e4 := unhide HE4_2
  have g4 := (unhide RN2).at (i := 4) (v := .int .i64 0) rfl
  have f4 := (unhide RN2).free (i := 4) (by omega)
  have hv7w : ¬ w.heap.size = v7 := by omega
  go_upto_region 3 with fail
  clear p0 p1 p2 p3 e4 g4 f4 hv7w
  have RQ := hide (RA.set (unhide RN2) (k := 4) (by omega) (.int .i64 nw))
  have g3 := (unhide RQ).at (i := 3) (v := .int .i64 0) rfl
  have f3 := (unhide RQ).free (i := 3) (by omega)
  go_upto_region 4 with fail
  clear g3 f3
  have RN3 : Hid (RA ((V2.setCell ⟨v7, 4, none⟩ (.int .i64 nw)).setCell ⟨v7, 3, none⟩ (.int .i64 z)) v7 (cl (newM x wl z z nw) qn)) := hide (RA.set (unhide RQ) (k := 3) (by omega) (.int .i64 z))
  have ho3 : ∀ x, x ≠ v7 → ((V2.setCell ⟨v7, 4, none⟩ (.int .i64 nw)).setCell ⟨v7, 3, none⟩ (.int .i64 z)).heap[x]? = V2.heap[x]? := fun x hx => (Below.heap_setCell _ _ _ _ hx).trans (Below.heap_setCell _ _ _ _ hx)
  have HB3 := hide (((unhide HB2).setCell (p := ⟨v7, 4, none⟩) (by show w.heap.size ≤ v7; omega) (.int .i64 nw)).setCell (p := ⟨v7, 3, none⟩) (by show w.heap.size ≤ v7; omega) (.int .i64 z))
  have hs3 : ((V2.setCell ⟨v7, 4, none⟩ (.int .i64 nw)).setCell ⟨v7, 3, none⟩ (.int .i64 z)).heap.size = V2.heap.size := by simp [World.setCell]
  obtain ⟨V3, hV3⟩ : ∃ V, (V2.setCell ⟨v7, 4, none⟩ (.int .i64 nw)).setCell ⟨v7, 3, none⟩ (.int .i64 z) = V := ⟨_, rfl⟩
  rw [hV3] at RN3 ho3 HB3 hs3 ⊢
  clear hV3 RQ RN2
  have HX3 := hide ((unhide HX2).but (ho3 _ (by omega)))
  have TZ3 := hide (there_blk (unhide TZ2) (ho3 _ (by omega)))
  have TX3 := hide (there_blk (unhide TX2) (ho3 _ (by omega)))
  have NZ3 := hide ((unhide NZ2).but (ho3 _ (by omega)))
  clear HX2 TZ2 TX2 NZ2 HB2 ho3 HE4_2
  obtain ⟨p0, p1, p2, p3⟩ := unhide HX3
  go_wp2_with (refine wpList_loadR (cs := cl (newM x wl z z nw) qn) _ rfl rfl rfl (unhide RN3) ?_)
  clear p0 p1 p2 p3
  refine (l13Put a b d ca cb cd n pp t ms ps cs fs (newM x wl z z nw) qn V3 (unhide HN) hpn (by omega) (unhide HX2_) ((unhide HR).below (unhide HB3))).mono ?_
  rintro e V4 ⟨g, c, rfl, b4, lg1, lg2, th4, rg4⟩
  have HB4 := hide ((unhide HB3).trans (b4.mono (unhide HB3).size))
  have HX4 := hide ((unhide HX3).below b4)
  have TX4 := hide (there_under (unhide TX3) b4 (unhide HX3).lt)
  have TZ4 := hide (there_under (unhide TZ3) b4 (unhide NZ3).lt)
  have NZ4 := hide ((unhide NZ3).below b4)
  have hq4 := b4.size
  clear HB3 HX3 TX3 TZ3 NZ3  b4
  go_wp2_with (refine storeNB _ _ rfl rfl rfl rfl rfl (unhide TZ4) rfl rfl ?_; intro V9 n9 t9 bb9 s9 k9)
  refine bodyPost_ret (v := .agg #[.slice (some ⟨g, 0, none⟩) n c, .slice b cs.length cb, .slice d fs.length cd, .int .i64 t]) (resultsN rfl _ _ rfl n9) rfl ⟨g, c, psS ps n pp qn, rfl, bb9 _ _ (unhide HB4) (Nat.le_succ _), hide ?_, hide ?_⟩
  · have hbw := bb9 _ _ (unhide HB4) (Nat.le_succ _)
    refine .inr ⟨g, 0, rfl, fun i hi => ?_⟩
    have hin : i < n := by rw [List.length_set, unhide HN] at hi; exact hi
    rw [ms_set (by rw [unhide HN]; exact hpn), psS_get hin, Nat.zero_add]
    refine ⟨rng_blk (unhide rg4 i hin) (k9 g (by omega)), ?_⟩
    by_cases e : i = pp
    · rw [if_pos e, if_pos e]; exact newM_rd
    · rw [if_neg e, if_neg e]
      obtain ⟨_, _, _, _, hd⟩ := (unhide HR).at (i := i) (by rw [unhide HN]; exact hin)
      exact hd.below hbw
  · intro i hi
    rw [psS_get hi]
    split
    · exact unhide hadq
    · exact unhide HAD i hi
set_option maxHeartbeats 32000000 in
theorem specRS (a b d : Option Addr) (ca cb cd : Nat) (t : Int) (ms : List Rm) (ps : List Pl) (cs : List Int) (fs : List Fm.R) (x z : Int) (w : World) (hm : ms.length ≤ 1048576) (hc : cs.length ≤ 1048576) (hf : fs.length ≤ 1048576) (hs : ∀ i, i < ms.length → Sm (ms.getD i Rm.zero)) (hg : ∀ i, i < fs.length → (fs.getD i Fm.R.zero).bs.size ≤ maxLen) (hr : NR w a ms ps) (hi : In.RM w b cs) (hz : Fm.RM w d fs) (had : ∀ i, i < ms.length → Ad (ps.getD i Pl.zero)) :
    Calls Tryz.prog 23 #[.agg #[.slice a ms.length ca, .slice b cs.length cb, .slice d fs.length cd, .int .i64 t], .int .i64 x, .int .i64 z] w fun e w' => ∃ v, e = .returned (.tuple #[v, .int .i64 (scE (netB ms cs fs t) (rsB (netB ms cs fs t) ms.length x z))]) ∧ Below w.heap.size w w' ∧ Na.GotR v w w' (rsM (rsB (netB ms cs fs t) ms.length x z) ms (x - 1).toNat x z) (rsC (rsB (netB ms cs fs t) ms.length x z) cs) (scF (rsB (netB ms cs fs t) ms.length x z) fs) (scT (rsB (netB ms cs fs t) ms.length x z) t) := by
  have HAD := hide had
  clear had
  obtain ⟨bp, hbp⟩ : ∃ q, inB x 1 ms.length = q := ⟨_, rfl⟩
  obtain ⟨bz, hbz⟩ : ∃ q, inB z 0 65535 = q := ⟨_, rfl⟩
  have HAP := hide (fun (n : Nat) (e : ms.length = n) => (by rw [← e]; exact hbp : inB x 1 n = bp))
  have HBZ := hide hbz
  obtain ⟨pp, hpp⟩ : ∃ q, (x - 1).toNat = q := ⟨_, rfl⟩
  rw [hpp]
  obtain ⟨Ms, hMs⟩ : ∃ M, rsM (rsB (netB ms cs fs t) ms.length x z) ms pp x z = M := ⟨_, rfl⟩
  obtain ⟨Cs, hCs⟩ : ∃ M, rsC (rsB (netB ms cs fs t) ms.length x z) cs = M := ⟨_, rfl⟩
  obtain ⟨Fs, hFs⟩ : ∃ M, scF (rsB (netB ms cs fs t) ms.length x z) fs = M := ⟨_, rfl⟩
  obtain ⟨T, hT⟩ : ∃ M, scT (rsB (netB ms cs fs t) ms.length x z) t = M := ⟨_, rfl⟩
  obtain ⟨E, hE⟩ : ∃ M, scE (netB ms cs fs t) (rsB (netB ms cs fs t) ms.length x z) = M := ⟨_, rfl⟩
  rw [hMs, hCs, hFs, hT, hE]
  obtain ⟨wl, hwl⟩ : ∃ q, (ms.getD pp Rm.zero).x2 = q := ⟨_, rfl⟩
  obtain ⟨nw, hnw⟩ : ∃ q, (ms.getD pp Rm.zero).x5 = q := ⟨_, rfl⟩
  have HWL := hide hwl
  have HNW := hide hnw
  have HNO : Hid ((rsB (netB ms cs fs t) ms.length x z) = false → Ms = [] ∧ Cs = [] ∧ Fs = [] ∧ T = 0) := hide (fun h => by rw [← hMs, ← hCs, ← hFs, ← hT, h]; exact ⟨rfl, rfl, rfl, rfl⟩)
  have HYES : Hid ((rsB (netB ms cs fs t) ms.length x z) = true → Ms = ms.set pp (newM x wl z z nw) ∧ Cs = cs ∧ Fs = fs ∧ T = t) := hide (fun h => by rw [← hMs, ← hCs, ← hFs, ← hT, ← hwl, ← hnw, h]; exact ⟨rfl, rfl, rfl, rfl⟩)
  have HE := hide hE
  have HSC : Hid ((rsB (netB ms cs fs t) ms.length x z) = (netB ms cs fs t && (bp && bz))) := hide (by unfold rsB; rw [hbp, hbz])
  have HXY : Hid (bp = true → x - 1 = (pp : Int) ∧ x = (pp : Int) + 1 ∧ pp < ms.length) := hide (fun h => by rw [← hbp] at h; unfold inB at h; simp at h; omega)
  have HW7 := hide (fun (h : netB ms cs fs t = true) (hp : pp < ms.length) => (by have := netB_will h pp hp; rw [hwl] at this; exact this : inB wl 0 7 = true))
  clear hbp hbz hpp hMs hCs hFs hT hE hwl hnw
  have KN0 := hide (fun W (b0 : Below w.heap.size w W) => specNet a b d ca cb cd t ms ps cs fs W hm hc hf hs hg (hr.below b0) (hi.below b0) (hz.below b0))
  have HSN := hide (fun h => netB_sm (ms := ms) (cs := cs) (fs := fs) (t := t) h)
  have HN6 := hide (fun h => netB_n (ms := ms) (cs := cs) (fs := fs) (t := t) h)
  have HR := hide hr
  have HI := hide hi
  have HF := hide hz
  clear hr hi hz hs hg
  generalize netB ms cs fs t = ok at *
  obtain ⟨n, hN⟩ : ∃ n, ms.length = n := ⟨_, rfl⟩
  have HN := hide hN
  rw [hN] at KN0 HN6 ⊢
  clear hN
  have z1 : (w.alloc (.cells #[.slice a n ca, .slice b cs.length cb, .slice d fs.length cd, .int .i64 t] 31)).heap.size = w.heap.size + 1 := by simp
  have hq0 : w.heap.size + 2 ≤ ((w.alloc (.cells #[.slice a n ca, .slice b cs.length cb, .slice d fs.length cd, .int .i64 t] 31)).alloc (.cells #[.slice none 0 0, .slice none 0 0, .slice none 0 0, .int .i64 0] 31)).heap.size := by simp
  have HB0 : Hid (Below w.heap.size w ((w.alloc (.cells #[.slice a n ca, .slice b cs.length cb, .slice d fs.length cd, .int .i64 t] 31)).alloc (.cells #[.slice none 0 0, .slice none 0 0, .slice none 0 0, .int .i64 0] 31))) := hide (((Below.refl _ _).alloc (Nat.le_refl _) _).alloc (by simp) _)
  have c1 : Below (w.alloc (.cells #[.slice a n ca, .slice b cs.length cb, .slice d fs.length cd, .int .i64 t] 31)).heap.size (w.alloc (.cells #[.slice a n ca, .slice b cs.length cb, .slice d fs.length cd, .int .i64 t] 31)) ((w.alloc (.cells #[.slice a n ca, .slice b cs.length cb, .slice d fs.length cd, .int .i64 t] 31)).alloc (.cells #[.slice none 0 0, .slice none 0 0, .slice none 0 0, .int .i64 0] 31)) := bel_new _ _
  have HX0 := hide ((nb_new w (.slice a n ca) (.slice b cs.length cb) (.slice d fs.length cd) t 31).below c1)
  have TX0 : Hid (((w.alloc (.cells #[.slice a n ca, .slice b cs.length cb, .slice d fs.length cd, .int .i64 t] 31)).alloc (.cells #[.slice none 0 0, .slice none 0 0, .slice none 0 0, .int .i64 0] 31)).there w.heap.size 0 4) := hide (there_under (there_new4 w _ _ _ _ _) c1 (by rw [z1]; omega))
  have TZ0 : Hid (((w.alloc (.cells #[.slice a n ca, .slice b cs.length cb, .slice d fs.length cd, .int .i64 t] 31)).alloc (.cells #[.slice none 0 0, .slice none 0 0, .slice none 0 0, .int .i64 0] 31)).there (w.heap.size + 1) 0 4) := hide (by have h := there_new4 (w.alloc (.cells #[.slice a n ca, .slice b cs.length cb, .slice d fs.length cd, .int .i64 t] 31)) (.slice none 0 0) (.slice none 0 0) (.slice none 0 0) (.int .i64 0) 31; rw [z1] at h; exact h)
  have NZ0 : Hid (NB ((w.alloc (.cells #[.slice a n ca, .slice b cs.length cb, .slice d fs.length cd, .int .i64 t] 31)).alloc (.cells #[.slice none 0 0, .slice none 0 0, .slice none 0 0, .int .i64 0] 31)) (w.heap.size + 1) (.slice none 0 0) (.slice none 0 0) (.slice none 0 0) 0) := hide (by have h := nb_new (w.alloc (.cells #[.slice a n ca, .slice b cs.length cb, .slice d fs.length cd, .int .i64 t] 31)) (.slice none 0 0) (.slice none 0 0) (.slice none 0 0) 0 31; rw [z1] at h; exact h)
  clear z1 c1
  go_enter Tryz.func23, Tryz.ntmps23
  obtain ⟨V0, hV0⟩ : ∃ V, ((w.alloc (.cells #[.slice a n ca, .slice b cs.length cb, .slice d fs.length cd, .int .i64 t] 31)).alloc (.cells #[.slice none 0 0, .slice none 0 0, .slice none 0 0, .int .i64 0] 31)) = V := ⟨_, rfl⟩
  rw [hV0] at hq0 HB0 HX0 TX0 TZ0 NZ0
  obtain ⟨p0, p1, p2, p3⟩ := unhide HX0
  go_wp2_with fail
  clear p0 p1 p2 p3
  try clear hV0
  refine (unhide KN0 _ (unhide HB0)).mono ?_
  rintro e V1 ⟨rfl, b1⟩
  have HB1 := hide ((unhide HB0).trans (b1.mono (unhide HB0).size))
  have HX1 := hide ((unhide HX0).below b1)
  have TX1 := hide (there_under (unhide TX0) b1 (unhide HX0).lt)
  have TZ1 := hide (there_under (unhide TZ0) b1 (unhide NZ0).lt)
  have NZ1 := hide ((unhide NZ0).below b1)
  have hq1 := b1.size
  clear HB0 HX0 TX0 TZ0 NZ0  b1
  cases ok
  · obtain ⟨rfl, rfl, rfl, rfl⟩ := unhide HNO (by rw [unhide HSC]; rfl)
    obtain rfl : E = 1 := by rw [← unhide HE, unhide HSC]; rfl
    go_wp2_with (refine storeNB _ _ rfl rfl rfl rfl rfl (unhide TZ1) rfl rfl ?_; intro V9 n9 t9 bb9 s9 k9)
    (try rw [Exit.noGoto_ret])
    have hlt_ : w.heap.size ≤ V9.heap.size := (bb9 _ _ (unhide HB1) (Nat.le_succ _)).size
    refine bodyPost_ret (v := .tuple #[.agg #[.slice none 0 0, .slice none 0 0, .slice none 0 0, .int .i64 0], .int .i64 1]) (Na.resultsNC rfl _ _ rfl n9 rfl) rfl ⟨_, rfl, bb9 _ _ (unhide HB1) (Nat.le_succ _), Na.gotR_nil _ _⟩
  obtain ⟨h1, h6, hC, _, _⟩ := unhide HN6 (by trivial)
  have HH1 := hide h1
  have HH6 := hide h6
  have HHC := hide hC
  clear h1 h6 hC
  obtain ⟨p0, p1, p2, p3⟩ := unhide HX1
  go_wp2_with fail
  clear p0 p1 p2 p3
  refine (l13Addr a b d n cs.length fs.length ca cb cd t x _).mono ?_
  rintro e V2 ⟨rfl, b2⟩
  rw [unhide HAP n (unhide HN)]
  have HB2 := hide ((unhide HB1).trans (b2.mono (unhide HB1).size))
  have HX2 := hide ((unhide HX1).below b2)
  have TX2 := hide (there_under (unhide TX1) b2 (unhide HX1).lt)
  have TZ2 := hide (there_under (unhide TZ1) b2 (unhide NZ1).lt)
  have NZ2 := hide ((unhide NZ1).below b2)
  have hq2 := b2.size
  clear HB1 HX1 TX1 TZ1 NZ1  b2
  cases bp
  · obtain ⟨rfl, rfl, rfl, rfl⟩ := unhide HNO (by rw [unhide HSC]; rfl)
    obtain rfl : E = 4 := by rw [← unhide HE, unhide HSC]; rfl
    go_wp2_with (refine storeNB _ _ rfl rfl rfl rfl rfl (unhide TZ2) rfl rfl ?_; intro V9 n9 t9 bb9 s9 k9)
    (try rw [Exit.noGoto_ret])
    have hlt_ : w.heap.size ≤ V9.heap.size := (bb9 _ _ (unhide HB2) (Nat.le_succ _)).size
    refine bodyPost_ret (v := .tuple #[.agg #[.slice none 0 0, .slice none 0 0, .slice none 0 0, .int .i64 0], .int .i64 4]) (Na.resultsNC rfl _ _ rfl n9 rfl) rfl ⟨_, rfl, bb9 _ _ (unhide HB2) (Nat.le_succ _), Na.gotR_nil _ _⟩
  go_wp2_with fail
  refine (l01In z 0 65535 _).mono ?_
  rintro e V3 ⟨rfl, hw_⟩
  subst V3
  rw [unhide HBZ]
  cases bz
  · obtain ⟨rfl, rfl, rfl, rfl⟩ := unhide HNO (by rw [unhide HSC]; rfl)
    obtain rfl : E = 4 := by rw [← unhide HE, unhide HSC]; rfl
    go_wp2_with (refine storeNB _ _ rfl rfl rfl rfl rfl (unhide TZ2) rfl rfl ?_; intro V9 n9 t9 bb9 s9 k9)
    (try rw [Exit.noGoto_ret])
    have hlt_ : w.heap.size ≤ V9.heap.size := (bb9 _ _ (unhide HB2) (Nat.le_succ _)).size
    refine bodyPost_ret (v := .tuple #[.agg #[.slice none 0 0, .slice none 0 0, .slice none 0 0, .int .i64 0], .int .i64 4]) (Na.resultsNC rfl _ _ rfl n9 rfl) rfl ⟨_, rfl, bb9 _ _ (unhide HB2) (Nat.le_succ _), Na.gotR_nil _ _⟩
  obtain ⟨e1, e2, e3, e4⟩ := unhide HYES (by rw [unhide HSC]; rfl)
  obtain rfl := e1.symm
  obtain rfl := e2.symm
  obtain rfl := e3.symm
  obtain rfl := e4.symm
  clear e1 e2 e3 e4 HYES HNO
  obtain rfl : E = 0 := by rw [← unhide HE, unhide HSC]; rfl
  obtain ⟨hx1, hx2, hpn⟩ := unhide HXY (by trivial)
  rw [unhide HN] at hpn
  have HSB := hide (fun k (h : k < n) => (unhide HSN (by trivial)).2.1 k (by rw [unhide HN]; exact h))
  have hcl := (unhide HSN (by trivial)).2.2.1
  have hfl := (unhide HSN (by trivial)).2.2.2
  have KR := hide (l13Restart a b d ca cb cd n pp t ms ps cs fs x z wl nw V2 (unhide HN) hpn (by have := unhide HH6; omega) hx1 hx2 (unhide HWL) (unhide HNW) (fun i hi => unhide HAD i (by rw [unhide HN]; exact hi)) ((unhide HR).below (unhide HB2)))
  clear hx1 hx2
  obtain ⟨p0, p1, p2, p3⟩ := unhide HX2
  go_wp2_with fail
  clear p0 p1 p2 p3
  refine (unhide KR).mono ?_
  rintro e V3 ⟨g, c, qs1, rfl, b3, hnr, hadn⟩
  have HB3 := hide ((unhide HB2).trans (b3.mono (unhide HB2).size))
  have HX3 := hide ((unhide HX2).below b3)
  have TX3 := hide (there_under (unhide TX2) b3 (unhide HX2).lt)
  have TZ3 := hide (there_under (unhide TZ2) b3 (unhide NZ2).lt)
  have NZ3 := hide ((unhide NZ2).below b3)
  have hq3 := b3.size
  clear HB2 HX2 TX2 TZ2 NZ2  b3
  have hls : Hid ((ms.set pp (newM x wl z z nw)).length = n) := hide (by rw [List.length_set, unhide HN])
  go_wp2_with fail
  have HSB2 := hide (fun k (h : k < n) => (by rw [ms_set (by rw [unhide HN]; exact hpn)]; split; exact r64_ok newM_64; exact r64_ok (unhide HSB k h) : okL ((ms.set pp (newM x wl z z nw)).getD k Rm.zero)))
  refine (l13Own (some ⟨g, 0, none⟩) b d c cb cd n t (ms.set pp (newM x wl z z nw)) qs1 cs fs V3 (unhide hls) (by have := unhide HH1; omega) (by have := unhide HH6; omega) (by omega) (by omega) (unhide HSB2) (unhide hadn) (unhide hnr) ((unhide HI).below (unhide HB3)) ((unhide HF).below (unhide HB3))).mono ?_
  rintro e V4 ⟨a4, b4', d4, c4a, c4b, c4c, qs, rfl, b4, rt⟩
  have RT4 := hide rt
  clear rt
  have HB4 := hide ((unhide HB3).trans (b4.mono (unhide HB3).size))
  have HX4 := hide ((unhide HX3).below b4)
  have TX4 := hide (there_under (unhide TX3) b4 (unhide HX3).lt)
  have TZ4 := hide (there_under (unhide TZ3) b4 (unhide NZ3).lt)
  have NZ4 := hide ((unhide NZ3).below b4)
  have hq4 := b4.size
  clear HB3 HX3 TX3 TZ3 NZ3  b4
  go_wp2_with (refine storeNB _ _ rfl rfl rfl rfl rfl (unhide TZ4) rfl rfl ?_; intro V9 n9 t9 bb9 s9 k9)
  (try rw [Exit.noGoto_ret])
  have hlt_ := (bb9 _ _ (unhide HB4) (Nat.le_succ _)).size
  refine bodyPost_ret (v := .tuple #[.agg #[.slice a4 n c4a, .slice b4' cs.length c4b, .slice d4 fs.length c4c, .int .i64 t], .int .i64 0]) (Na.resultsNC rfl _ _ rfl n9 rfl) rfl ⟨_, rfl, bb9 _ _ (unhide HB4) (Nat.le_succ _), a4, b4', d4, c4a, c4b, c4c, qs, by rw [unhide hls], ?_⟩
  exact ((unhide RT4).but (L := w.heap.size + 1) (H := w.heap.size + 2) (by omega) (fun k _ h => k9 k (by omega)) (.inr (by omega))).mono (by omega) (by omega)
end Nt
end Go.Proofs.YtfooahhdikobeaaGreat
namespace Go.Proofs.YtfooahhdikobeaaGreat
open Go.ChangeShapes Go.WideShapes Go.ChangeAt Go.RowKit
set_option linter.unusedVariables false
set_option linter.unusedSimpArgs false
set_option maxRecDepth 100000
attribute [local go_sem ↓] Go.wp_at_zero Go.wp_at_succ
namespace Nt
open W1 Rt
set_option maxHeartbeats 4000000 in
/-- The cells that read as a router. -/
theorem open_one {H : Type} {enc : TypeId × Value → H} {W : World} {fuel : Nat} {c : List Value} {y : DataW H × List MemPlace} (hl : c.length = 13)
    (hf : DataW.trod enc Tryz.prog W 0 (fun _ => true) true fuel 114 c = some y) : ∃ (m : Rm) (p : Pl), c = cl m p ∧ Sx m ∧ Rd W m p := by
  obtain ⟨c0, c1, c2, c3, c4, c5, c6, c7, c8, c9, c10, c11, c12, rfl⟩ := list13 hl
  obtain ⟨xs, n, _, _, _, hlen, hf⟩ := DataW.trod_struct Tryz.underlying114 hf
  obtain ⟨x0, x1, x2, x3, x4, x5, x6, x7, x8, x9, x10, x11, rfl⟩ := list12 hlen
  have k0 := hf 0 _ rfl
  have k1 := hf 1 _ rfl
  have k2 := hf 2 _ rfl
  have k3 := hf 3 _ rfl
  have k4 := hf 4 _ rfl
  have k5 := hf 5 _ rfl
  have k6 := hf 6 _ rfl
  have k7 := hf 7 _ rfl
  have k8 := hf 8 _ rfl
  have k9 := hf 9 _ rfl
  have k10 := hf 10 _ rfl
  have k11 := hf 11 _ rfl
  clear hf hlen
  simp [cells_int, cells_lk, cells_tu, cells_ed, cells_top] at k0 k1 k2 k3 k4 k5 k6 k7 k8 k9 k10 k11
  obtain ⟨a0, e0, _, _⟩ := DataW.trod_int Tryz.underlying3 k0
  obtain ⟨a1, e1, _, _⟩ := DataW.trod_int Tryz.underlying3 k1
  obtain ⟨a2, e2, _, _⟩ := DataW.trod_int Tryz.underlying3 k2
  obtain ⟨a3, e3, _, _⟩ := DataW.trod_int Tryz.underlying3 k3
  obtain ⟨a4, e4, _, _⟩ := DataW.trod_int Tryz.underlying3 k4
  obtain ⟨a11, e11, _, _⟩ := DataW.trod_int Tryz.underlying3 k11
  simp at e0 e1 e2 e3 e4 e11
  subst e0 e1 e2 e3 e4 e11
  obtain ⟨ys, n', _, _, _, hlen', hg⟩ := DataW.trod_struct Tryz.underlying111 k9
  obtain ⟨y0, y1, rfl⟩ := Tq.listR hlen'
  have t0 := hg 0 _ rfl
  have t1 := hg 1 _ rfl
  simp [cells_so, cells_tu] at t0 t1
  obtain ⟨g1, l1, p1, m1, rfl, h1, j1, r1⟩ := Lk.open_cell k5
  obtain ⟨g2, l2, p2, m2, rfl, h2, j2, r2⟩ := Tq.open_cellT k6
  obtain ⟨g3, l3, p3, m3, rfl, h3, j3, r3⟩ := Tq.open_cellT k7
  obtain ⟨g4, l4, p4, m4, rfl, h4, j4, r4⟩ := Tq.open_cellT k8
  obtain ⟨g5, l5, p5, m5, rfl, h5, j5, r5⟩ := So.open_cell t0
  obtain ⟨g6, l6, p6, m6, rfl, h6, j6, r6⟩ := Tq.open_cellT t1
  obtain ⟨g7, l7, p7, m7, rfl, h7, j7, r7⟩ := Ed.open_cell k10
  subst h1 h2 h3 h4 h5 h6 h7
  exact ⟨⟨a0, a1, a2, a3, a4, a11, m1, m2, m3, m4, m5, m6, m7⟩, ⟨g1, g2, g3, g4, g5, g6, g7, p1, p2, p3, p4, p5, p6, p7⟩, rfl, ⟨j1, j2, j3, j4, j5, j6, j7⟩, r1, r2, r3, r4, r5, r6, r7⟩
theorem plain_add (b off k : Nat) : (⟨b, off, none⟩ : Addr).add k = ⟨b, off + k, none⟩ := by unfold Addr.add; split <;> simp_all
/-- A row of routers that came in. -/
theorem open_row {H : Type} {enc : TypeId × Value → H} {W : World} {v : Value} {fuel : Nat} {y : DataW H × List MemPlace}
    (hf : DataW.trod enc Tryz.prog W 0 (fun _ => true) true fuel 22 [v] = some y) : ∃ a len cap, ∃ (ms : List Rm) (ps : List Pl), v = .slice a len cap ∧ ms.length = len ∧ len ≤ maxLen ∧ (∀ i, i < ms.length → Sx (ms.getD i Rm.zero)) ∧ NR W a ms ps := by
  rcases Deep.open_slice Tryz.underlying22 hf with ⟨hcs, _⟩ | ⟨x, len, cap, m, n, D, Pc, hcs, _, hl, hm, hmm, _, hx⟩
  · simp only [List.cons.injEq, and_true] at hcs
    subst hcs
    exact ⟨none, 0, 0, [], [], rfl, rfl, Nat.zero_le _, fun i hi => absurd hi (Nat.not_lt_zero i), .inl rfl⟩
  · simp only [List.cons.injEq, and_true] at hcs
    subst hcs
    simp at hmm
    subst hmm
    rw [cells13] at hx
    by_cases h0 : len = 0
    · subst h0; exact ⟨_, _, _, [], [], rfl, rfl, Nat.zero_le _, fun i hi => absurd hi (Nat.not_lt_zero i), .inl rfl⟩
    obtain ⟨b, off, spot⟩ := x
    have hsp : spot = none := by
      obtain ⟨cs', h1, _⟩ := hx 0 (by omega)
      obtain ⟨_, hlen, hc⟩ := World.cells?_some h1
      have h2 := hc 0 (by omega)
      rw [List.getElem?_eq_getElem (by omega)] at h2
      simpa [Addr.add] using World.cell?_spot h2
    subst hsp
    have hex : ∀ i, i < len → ∃ mp : Rm × Pl, W.rangeAt b (off + i * 13) (cl mp.1 mp.2) ∧ Sx mp.1 ∧ Rd W mp.1 mp.2 := by
      intro i hi
      obtain ⟨cs', h1, h2⟩ := hx i (by omega)
      obtain ⟨_, hlen, hc⟩ := World.cells?_some h1
      obtain ⟨m, p, rfl, hs, hr⟩ := open_one hlen h2
      refine ⟨(m, p), fun j u hu => ?_, hs, hr⟩
      have hj : j < 13 := by
        rcases Nat.lt_or_ge j 13 with h | h
        · exact h
        · rw [List.getElem?_eq_none (by rw [cl_len]; exact h)] at hu; cases hu
      have q := hc j hj
      rw [plain_add, plain_add] at q
      rw [q]; exact hu
    have hin : Inhabited (Rm × Pl) := ⟨(Rm.zero, Pl.zero)⟩
    obtain ⟨V, hV⟩ := Deep.choose_lt hex
    have e1 : ∀ i, i < len → ((List.range len).map fun i => (V i).1).getD i Rm.zero = (V i).1 := fun i hi => by
      rw [List.getD_eq_getElem?_getD, List.getElem?_map, List.getElem?_range hi]; rfl
    have e2 : ∀ i, i < len → ((List.range len).map fun i => (V i).2).getD i Pl.zero = (V i).2 := fun i hi => by
      rw [List.getD_eq_getElem?_getD, List.getElem?_map, List.getElem?_range hi]; rfl
    refine ⟨_, _, _, (List.range len).map fun i => (V i).1, (List.range len).map fun i => (V i).2, rfl, by simp, Nat.le_trans hl hm, fun i hi => ?_, .inr ⟨b, off, rfl, fun i hi => ?_⟩⟩
    all_goals have hi' : i < len := by simpa using hi
    · rw [e1 i hi']; exact (hV i hi').2.1
    · rw [e1 i hi', e2 i hi']; exact ⟨(hV i hi').1, (hV i hi').2.2⟩
theorem cellsNet : Tryz.prog.cellsOf 26 = 4 := by kernel_rfl
theorem cells_ro : Tryz.prog.cellsOf 22 = 1 := by kernel_rfl
theorem cells_in : Tryz.prog.cellsOf 23 = 1 := by kernel_rfl
theorem cells_fr : Tryz.prog.cellsOf 24 = 1 := by kernel_rfl
theorem cells_i : Tryz.prog.cellsOf 3 = 1 := by kernel_rfl
theorem list4 {α : Type} {l : List α} (h : l.length = 4) : ∃ c0 c1 c2 c3, l = [c0, c1, c2, c3] := by
  match l, h with
  | [c0, c1, c2, c3], _ => exact ⟨c0, c1, c2, c3, rfl⟩
/-- A list of ints within a struct that came in. -/
theorem open_ints_cell {H : Type} {enc : TypeId × Value → H} {W : World} {v : Value} {fuel : Nat} {y : DataW H × List MemPlace}
    (hf : DataW.trod enc Tryz.prog W 0 (fun _ => true) true fuel 23 [v] = some y) : ∃ a len cap, ∃ zs : List Int, v = .slice a len cap ∧ zs.length = len ∧ len ≤ maxLen ∧ In.RM W a zs := by
  obtain ⟨a, len, cap, hv⟩ : ∃ a len cap, v = .slice a len cap := by
    rcases open_ints Tryz.underlying23 Tryz.underlying3 (by kernel_rfl) hf with ⟨hcs, _⟩ | ⟨x, l, c, zs, hcs, _⟩
    · simp at hcs; exact ⟨_, _, _, hcs⟩
    · simp at hcs; exact ⟨_, _, _, hcs⟩
  subst hv
  obtain ⟨zs, h1, h2, h3⟩ := In.open_list (a := a) (len := len) (cap := cap) (d := y.1) (p := y.2) ⟨fuel, hf⟩
  exact ⟨a, len, cap, zs, rfl, h1, h2, h3⟩
set_option maxHeartbeats 4000000 in
/-- A net that came in by value. -/
theorem open_net {H : Type} {enc : TypeId × Value → H} {W : World} {r : Reach} {b0 : Nat} {v : Value} {d : DataW H} {p : List MemPlace}
    (hv : Value.okWide Tryz.prog W r b0 26 v) (h : DataW.Trod enc Tryz.prog W 0 (fun _ => true) true 26 v d p) :
    ∃ a b d ca cb cd t, ∃ (ms : List Rm) (ps : List Pl) (cs : List Int) (fs : List Fm.R), v = .agg #[.slice a ms.length ca, .slice b cs.length cb, .slice d fs.length cd, .int .i64 t] ∧ (ms.length ≤ maxLen ∧ cs.length ≤ maxLen ∧ fs.length ≤ maxLen ∧ (∀ i, i < ms.length → Sx (ms.getD i Rm.zero)) ∧ ∀ i, i < fs.length → (fs.getD i Fm.R.zero).bs.size ≤ maxLen) ∧ NR W a ms ps ∧ In.RM W b cs ∧ Fm.RM W d fs := by
  obtain ⟨cs, rfl, hsz⟩ := okWide_struct Tryz.underlying26 hv
  obtain ⟨l⟩ := cs
  obtain ⟨c0, c1, c2, c3, rfl⟩ := list4 (hsz.trans cellsNet)
  obtain ⟨fuel, hf⟩ := h
  obtain ⟨xs, n, _, _, _, hlen, hf⟩ := DataW.trod_struct Tryz.underlying26 hf
  obtain ⟨x0, x1, x2, x3, rfl⟩ := list4 hlen
  have k0 := hf 0 _ rfl
  have k1 := hf 1 _ rfl
  have k2 := hf 2 _ rfl
  have k3 := hf 3 _ rfl
  clear hf hsz hv hlen
  simp [Value.cells, cells_ro, cells_in, cells_fr, cells_i] at k0 k1 k2 k3
  obtain ⟨t, e3, _, _⟩ := DataW.trod_int Tryz.underlying3 k3
  simp at e3
  subst e3
  obtain ⟨a, l0, ca, ms, ps, rfl, h0, j0, s0, r0⟩ := open_row k0
  obtain ⟨b, l1, cb, zs, rfl, h1, j1, r1⟩ := open_ints_cell k1
  obtain ⟨d, l2, cd, fs, rfl, h2, j2, r2, s2⟩ := Fm.open_cell k2
  subst h0 h1 h2
  exact ⟨a, b, d, ca, cb, cd, t, ms, ps, zs, fs, rfl, ⟨j0, j1, j2, s0, s2⟩, r0, r1, r2⟩
end Nt
end Go.Proofs.YtfooahhdikobeaaGreat
namespace Go.Proofs.YtfooahhdikobeaaGreat
open Go.ChangeShapes Go.WideShapes Go.ChangeAt Go.RowKit
set_option linter.unusedVariables false
set_option linter.unusedSimpArgs false
set_option maxRecDepth 100000
attribute [local go_sem ↓] Go.wp_at_zero Go.wp_at_succ
namespace Nt
open W1 Rt
set_option maxHeartbeats 8000000 in
theorem eqNS (a b : Option Addr) (ms : List Rm) (ps qs : List Pl) (ca cb : Nat) (w : World) (hm : ms.length ≤ 1048576) (hs : ∀ i, i < ms.length → Sm (ms.getD i Rm.zero)) (hr : NR w a ms ps) (hr' : NR w b ms qs) :
    Calls Tryz.prog 54 #[.slice a ms.length ca, .slice b ms.length cb] w fun e w' => e = .returned (.bool true) ∧ Below w.heap.size w w' := by
  have HR := hide hr
  have HR' := hide hr'
  have HS := hide hs
  clear hr hr' hs
  generalize hN : ms.length = n at *
  have HN := hide hN
  clear hN
  go_enter Tryz.func54, Tryz.ntmps54
  go_wp2
  go_loopw [5] (fun i wr => ∃ j : Nat, j ≤ n ∧ i = .int .i64 j ∧ Hid (Below w.heap.size w wr)) (fun i _ => n - (intOf i).toNat)
  case atStart => exact ⟨0, by omega, rfl, hide (Below.refl _ _)⟩
  case round =>
    obtain ⟨j, hj, rfl, hbl⟩ := hrel
    by_cases hlt : (j : Int) < (n : Int)
    · have k0 : (0 : Int) ≤ (j : Int) := by omega
      have hlen : j < ms.length := by rw [unhide HN]; omega
      obtain ⟨g, off, rfl, hA, hD⟩ := ((unhide HR).below (unhide hbl)).at hlen
      obtain ⟨g', off', rfl, hA', hD'⟩ := ((unhide HR').below (unhide hbl)).at hlen
      have HM := hide ((unhide HS) j (by omega))
      have HA := hide hA
      have HA' := hide hA'
      have HD := hide hD
      have HD' := hide hD'
      clear hlen hA hA' hD hD'
      generalize ms.getD j Rm.zero = m at *
      generalize ps.getD j Pl.zero = p at *
      generalize qs.getD j Pl.zero = q at *
      go_wp2_with fail
      refine wp_region_noPanic ?_
      refine wp_region_held_drew (S := fun w' => w'.rangeAt g (off + j * 13) (cl m p) ∧ w'.rangeAt g' (off' + j * 13) (cl m q)) (by kernel_rfl) (⟨unhide HA, unhide HA'⟩) (fun hHeld => ?_)
      refine Rg.t 0 17 ?_
      refine Rg.t 1 18 ?_
      refine Rg.t 2 19 ?_
      refine Rg.t (v := .agg (cl m p).toArray) 3 20 ?_ (hv := fun w0 hSw => execI _ rfl rfl hSw.1)
      refine Rg.t 4 21 ?_
      refine Rg.t 5 22 ?_
      refine Rg.t 6 23 ?_
      refine Rg.t (v := .agg (cl m q).toArray) 7 24 ?_ (hv := fun w0 hSw => execI _ rfl rfl hSw.2)
      (refine Rg.o 8 (fun K hK => ?_); go_simp)
      refine (eqN m p q wr.drew (unhide HM) (unhide HD).drew (unhide HD').drew).mono ?_
      rintro e w1 ⟨rfl, b1⟩
      refine hK.out _ _ ⟨rng_below (w := wr.drew) (unhide HA) b1, rng_below (w := wr.drew) (unhide HA') b1⟩ (fun hHeld => ?_)
      clear hK K
      (try simp only [Act.put, List.setIfInBounds_toArray, List.set_cons_zero, List.set_cons_succ])
      refine Rg.t 9 26 ?_
      refine wpAnyH_done (by kernel_rfl) (NoPanic.normal ?_) _
      have hb1 := hide ((unhide hbl).drew.trans (b1.mono (by show w.heap.size ≤ wr.heap.size; exact (unhide hbl).size)))
      clear hHeld b1 HA HA' HD HD'
      go_wp2_with fail
      go_roundw
      case rel => exact ⟨j + 1, by omega, by go_num, hb1⟩
      case measure => simp [intOf]; omega
    · go_wp2
      go_ret
      exact ⟨rfl, unhide hbl⟩
set_option maxHeartbeats 8000000 in
theorem eqNt (a b d a' b' d' : Option Addr) (ca cb cd ca' cb' cd' : Nat) (t : Int) (ms : List Rm) (ps qs : List Pl) (cs : List Int) (fs : List Fm.R) (w : World) (hm : ms.length ≤ 1048576) (hc : cs.length ≤ 1048576) (hf : fs.length ≤ 1048576) (hs : ∀ i, i < ms.length → Sm (ms.getD i Rm.zero)) (hr : NR w a ms ps) (hr' : NR w a' ms qs) (hi : In.RM w b cs) (hi' : In.RM w b' cs) (hz : Fm.RM w d fs) (hz' : Fm.RM w d' fs) :
    Calls Tryz.prog 15 #[.agg #[.slice a ms.length ca, .slice b cs.length cb, .slice d fs.length cd, .int .i64 t], .agg #[.slice a' ms.length ca', .slice b' cs.length cb', .slice d' fs.length cd', .int .i64 t]] w fun e w' => e = .returned (.bool true) ∧ Below w.heap.size w w' := by
  have b0 : Below w.heap.size w ((w.alloc (.cells #[.slice a ms.length ca, .slice b cs.length cb, .slice d fs.length cd, .int .i64 t] 31)).alloc (.cells #[.slice a' ms.length ca', .slice b' cs.length cb', .slice d' fs.length cd', .int .i64 t] 31)) := ((Below.refl _ _).alloc (Nat.le_refl _) _).alloc (by simp) _
  have HX0 : Hid (NB _ w.heap.size _ _ _ _) := hide ((nb_new w (.slice a ms.length ca) (.slice b cs.length cb) (.slice d fs.length cd) t 31).below (bel_new _ (.cells #[.slice a' ms.length ca', .slice b' cs.length cb', .slice d' fs.length cd', .int .i64 t] 31)))
  have HY0 : Hid (NB _ (w.heap.size + 1) _ _ _ _) := hide (by have := nb_new (w.alloc (.cells #[.slice a ms.length ca, .slice b cs.length cb, .slice d fs.length cd, .int .i64 t] 31)) (.slice a' ms.length ca') (.slice b' cs.length cb') (.slice d' fs.length cd') t 31; simpa using this)
  have HB0 := hide b0
  have HR := hide (hr.below b0)
  have HR' := hide (hr'.below b0)
  have HI := hide (hi.below b0)
  have HI' := hide (hi'.below b0)
  have HZ := hide (hz.below b0)
  have HZ' := hide (hz'.below b0)
  have HS := hide hs
  have hne : (t != t) = false := by simp
  clear hr hr' hi hi' hz hz' hs b0
  go_enter Tryz.func15, Tryz.ntmps15
  go_wp2_with fail
  generalize (w.alloc (.cells #[.slice a ms.length ca, .slice b cs.length cb, .slice d fs.length cd, .int .i64 t] 31)).alloc (.cells #[.slice a' ms.length ca', .slice b' cs.length cb', .slice d' fs.length cd', .int .i64 t] 31) = w0 at *
  refine (eqNS _ _ ms ps qs _ _ _ hm (unhide HS) (unhide HR) (unhide HR')).mono ?_
  rintro e w1 ⟨rfl, b1⟩
  have HX1 := hide ((unhide HX0).below b1)
  have HY1 := hide ((unhide HY0).below b1)
  have HB1 := hide ((unhide HB0).trans (b1.mono (unhide HB0).size))
  have HI1 := hide ((unhide HI).below b1)
  have HI1' := hide ((unhide HI').below b1)
  have HZ1 := hide ((unhide HZ).below b1)
  have HZ1' := hide ((unhide HZ').below b1)
  clear HX0 HY0 HB0 HI HI' HZ HZ' HR HR' b1
  obtain ⟨p0, p1, p2, p3⟩ := unhide HX1
  obtain ⟨q0, q1, q2, q3⟩ := unhide HY1
  go_wp2_with fail
  clear p0 p1 p2 p3 q0 q1 q2 q3
  refine (In.eqS _ _ cs _ _ _ hc (unhide HI1) (unhide HI1')).mono ?_
  rintro e w2 ⟨rfl, b2⟩
  have HX2 := hide ((unhide HX1).below b2)
  have HY2 := hide ((unhide HY1).below b2)
  have HB2 := hide ((unhide HB1).trans (b2.mono (unhide HB1).size))
  have HZ2 := hide ((unhide HZ1).below b2)
  have HZ2' := hide ((unhide HZ1').below b2)
  clear HX1 HY1 HB1 HI1 HI1' HZ1 HZ1' b2
  obtain ⟨p0, p1, p2, p3⟩ := unhide HX2
  obtain ⟨q0, q1, q2, q3⟩ := unhide HY2
  go_wp2_with fail
  clear p0 p1 p2 p3 q0 q1 q2 q3
  refine (Fm.eqS _ _ fs _ _ _ hf (unhide HZ2) (unhide HZ2')).mono ?_
  rintro e w3 ⟨rfl, b3⟩
  have HX3 := hide ((unhide HX2).below b3)
  have HY3 := hide ((unhide HY2).below b3)
  have HB3 := hide ((unhide HB2).trans (b3.mono (unhide HB2).size))
  clear HX2 HY2 HB2 HZ2 HZ2' b3
  obtain ⟨p0, p1, p2, p3⟩ := unhide HX3
  obtain ⟨q0, q1, q2, q3⟩ := unhide HY3
  go_wp2_with fail
  go_ret
  exact ⟨rfl, unhide HB3⟩
end Nt
end Go.Proofs.YtfooahhdikobeaaGreat
namespace Go.Proofs.YtfooahhdikobeaaGreat
open Go.ChangeShapes Go.WideShapes Go.ChangeAt Go.RowKit
set_option linter.unusedVariables false
set_option linter.unusedSimpArgs false
set_option maxRecDepth 100000
attribute [local go_sem ↓] Go.wp_at_zero Go.wp_at_succ
namespace Nt
open W1 Rt
set_option maxHeartbeats 8000000 in
theorem heldNt (a b d : Option Addr) (ca cb cd : Nat) (t : Int) (K : Int) (lo hi : Nat) (ms : List Rm) (qs : List Pl) (cs : List Int) (fs : List Fm.R) (w : World) (hm : ms.length ≤ 1048576) (hc : cs.length ≤ 1048576) (hf : fs.length ≤ 1048576) (hK : 0 ≤ K) (hK1 : K + totK ms cs fs ≤ 99999990) (hs : ∀ i, i < ms.length → Sm (ms.getD i Rm.zero)) (h : MM w a b d K ms qs cs fs lo hi) :
    Calls Tryz.prog 17 #[.agg #[.slice a ms.length ca, .slice b cs.length cb, .slice d fs.length cd, .int .i64 t], .int .i64 K] w fun e w' => e = .returned (.int .i64 (K + totK ms cs fs)) ∧ Below w.heap.size w w' := by
  have b0 := bel_new w (.cells #[.slice a ms.length ca, .slice b cs.length cb, .slice d fs.length cd, .int .i64 t] 31)
  have HX0 := hide (nb_new w (.slice a ms.length ca) (.slice b cs.length cb) (.slice d fs.length cd) t 31)
  have HB0 := hide b0
  obtain ⟨f, p1, q1, p2, q2, p3, q3, _, h1, h2, h3⟩ := h.below b0
  obtain ⟨r, hr⟩ : ∃ r, K + sumK ms ms.length = r := ⟨_, rfl⟩
  have hsp := sumK_pos ms ms.length
  have hr0 : 0 ≤ r := by omega
  have hr1 : r + cs.length + 4 * fs.length ≤ 99999990 := by unfold totK at hK1; omega
  have HTK : Hid (r + (cs.length : Int) + 4 * (fs.length : Int) = K + totK ms cs fs) := hide (by unfold totK; omega)
  rw [hr] at h2 h3
  have C1 := hide (heldNF a ca p1 q1 ms.length f K ms (fun i => qs.getD i Pl.zero) _ rfl hm hK (by omega) hs h1)
  have C2 := hide (In.heldF b cb cs.length p2 q2 r _ hr0 (by omega) hc h2)
  have C3 := hide (Fm.hdFF d cd fs.length p3 q3 (r + (cs.length : Int)) _ (by omega) (by omega) hf h3)
  rw [hr] at C1
  have n1 : ¬ r < 0 := by omega
  have n2 : ¬ (r + (cs.length : Int)) < 0 := by omega
  have n3 : ¬ (r + (cs.length : Int) + 4 * (fs.length : Int)) < 0 := by omega
  clear h h1 h2 h3 b0 hK1 hs hsp hr
  go_enter Tryz.func17, Tryz.ntmps17
  obtain ⟨x0, x1, x2, x3⟩ := unhide HX0
  go_wp2_with fail
  generalize w.alloc (.cells #[.slice a ms.length ca, .slice b cs.length cb, .slice d fs.length cd, .int .i64 t] 31) = w0 at *
  refine (unhide C1).mono ?_
  rintro e w1 ⟨rfl, hw_⟩
  rw [hw_]
  clear hw_
  go_wp2_with fail
  refine (unhide C2).mono ?_
  rintro e w2 ⟨rfl, hw_⟩
  rw [hw_]
  clear hw_
  go_wp2_with fail
  refine (unhide C3).mono ?_
  rintro e w3 ⟨rfl, b3⟩
  have HB3 := hide ((unhide HB0).trans (b3.mono (unhide HB0).size))
  clear b3 x0 x1 x2 x3
  go_wp2_with fail
  go_ret
  exact ⟨by rw [unhide HTK]; rfl, unhide HB3⟩
end Nt
end Go.Proofs.YtfooahhdikobeaaGreat
namespace Go.Proofs.YtfooahhdikobeaaGreat.fnExactRestart
open Go.ChangeShapes Go.WideShapes Go.ChangeAt Go.RowKit
open W1 Rt Nt Na
set_option linter.unusedVariables false
set_option linter.unusedSimpArgs false
theorem own : ownKnob Tryz.prog.godebug = none := by kernel_rfl
theorem laidOut : laidOutB Tryz.prog = true := by kernel_rfl
set_option maxRecDepth 100000 in
set_option maxHeartbeats 32000000 in
theorem walk (a b d : Option Addr) (ca cb cd : Nat) (t : Int) (ms : List Rm) (ps : List Pl) (cs : List Int) (fs : List Fm.R) (hx1 : ms.length ≤ maxLen) (hx2 : cs.length ≤ maxLen) (hx3 : fs.length ≤ maxLen) (hx4 : ∀ i, i < ms.length → Sx (ms.getD i Rm.zero)) (hx5 : ∀ i, i < fs.length → (fs.getD i Fm.R.zero).bs.size ≤ maxLen) (x : Int) (wx : (Lit.int .i64 x).wf = true) (z : Int) (wz : (Lit.int .i64 z).wf = true) (w : World) (hr : NR w a ms ps) (hi : In.RM w b cs) (hz : Fm.RM w d fs) :
    Calls Tryz.prog 5 #[.agg #[.slice a ms.length ca, .slice b cs.length cb, .slice d fs.length cd, .int .i64 t], .int .i64 x, .int .i64 z] w fun e w' => e = .returned (.bool true) ∧ Below w.heap.size w w' := by
  have Q0 := hide (nb_new w (.slice a ms.length ca) (.slice b cs.length cb) (.slice d fs.length cd) t 26)
  have B0 := bel_new w (.cells #[.slice a ms.length ca, .slice b cs.length cb, .slice d fs.length cd, .int .i64 t] 26)
  have HR0 := hide (hr.below B0)
  have HI0 := hide (hi.below B0)
  have HZ0 := hide (hz.below B0)
  have HRW := hide hr
  have HIW := hide hi
  have HZW := hide hz
  have hq0 : (w.alloc (.cells #[.slice a ms.length ca, .slice b cs.length cb, .slice d fs.length cd, .int .i64 t] 26)).heap.size = w.heap.size + 1 := by simp
  clear hr hi hz
  go_enter Tryz.func5, Tryz.ntmps5
  obtain ⟨k0_0, k0_1, k0_2, k0_3⟩ := unhide Q0
  go_wp2_with fail
  clear k0_0 k0_1 k0_2 k0_3
  generalize hW_ : w.alloc (.cells #[.slice a ms.length ca, .slice b cs.length cb, .slice d fs.length cd, .int .i64 t] 26) = w0 at *
  clear hW_
  refine (szNt a b d ca cb cd t ms ps cs fs 1048576 _ (by omega) (by omega) hx1 hx2 hx3 hx4 hx5 (unhide HR0) (unhide HZ0)).mono ?_
  rintro e w1 ⟨r1, rfl, b1, hs_⟩
  have B1 := B0.trans (b1.mono B0.size)
  have sz1 : w0.heap.size ≤ w1.heap.size := b1.size
  have Q1 := hide ((unhide Q0).below b1)
  have HR1 := hide ((unhide HR0).below b1)
  have HI1 := hide ((unhide HI0).below b1)
  have HZ1 := hide ((unhide HZ0).below b1)
  clear Q0 HR0 HI0 HZ0
  rcases hs_ with hs_ | ⟨hs0, hs1⟩
  · go_wp2_with fail
    go_ret
    exact ⟨rfl, B1⟩
  have hnn : ¬ r1 < 0 := by omega
  have t0_ := tot_nonneg ms
  have t1_ := totF_nonneg fs
  have hm1 : ms.length ≤ 1048576 := by omega
  have hm2 : cs.length ≤ 1048576 := by omega
  have hm3 : fs.length ≤ 1048576 := by omega
  have HSM := hide (fun i (hi : i < ms.length) => sm_of (m := ms.getD i Rm.zero) (by have := cnt_le hi; omega))
  have HTB := hide (show (ms.length : Int) + tot ms + cs.length + fs.length + totF fs ≤ 1048576 by omega)
  have HGZ := hide hx5
  clear hs0 hs1 t0_ t1_ hx1 hx2 hx3 hx4 hx5
  have HTP := hide (totK_pos ms cs fs)
  have HTK := hide (totK_le (ms := ms) (cs := cs) (fs := fs) (unhide HTB))
  have HSL := hide (rs_small (x := x) (z := z) (ms := ms) (cs := cs) (fs := fs) (t := t))
  obtain ⟨Ms, hMs_⟩ : ∃ Ms, rsM (rsB (netB ms cs fs t) ms.length x z) ms (x - 1).toNat x z = Ms := ⟨_, rfl⟩
  have HMs := hide hMs_
  clear hMs_
  obtain ⟨Cs, hCs_⟩ : ∃ Cs, rsC (rsB (netB ms cs fs t) ms.length x z) cs = Cs := ⟨_, rfl⟩
  have HCs := hide hCs_
  clear hCs_
  obtain ⟨Fs, hFs_⟩ : ∃ Fs, scF (rsB (netB ms cs fs t) ms.length x z) fs = Fs := ⟨_, rfl⟩
  have HFs := hide hFs_
  clear hFs_
  obtain ⟨T, hT_⟩ : ∃ T, scT (rsB (netB ms cs fs t) ms.length x z) t = T := ⟨_, rfl⟩
  have HT := hide hT_
  clear hT_
  obtain ⟨E, hE_⟩ : ∃ E, scE (netB ms cs fs t) (rsB (netB ms cs fs t) ms.length x z) = E := ⟨_, rfl⟩
  have HE := hide hE_
  clear hE_
  have nE : (E != E) = false := by simp
  rw [unhide HMs, unhide HCs, unhide HFs] at HSL
  have ho1 : Ms.length ≤ 1048576 := by have := (unhide HSL).1; omega
  have ho2 : Cs.length ≤ 1048576 := by have := (unhide HSL).2.2.1; omega
  have ho3 : Fs.length ≤ 1048576 := by have := (unhide HSL).2.2.2; omega
  have HOS := hide (fun i (h : i < Ms.length) => r64_sm ((unhide HSL).2.1 i h))
  have HOK := hide (Int.le_trans (smN_k (unhide HSL)) (by decide : (99990 : Int) ≤ 99999990))
  have HOP := hide (totK_pos Ms Cs Fs)
  obtain ⟨k0_0, k0_1, k0_2, k0_3⟩ := unhide Q1
  go_wp2_with fail
  clear k0_0 k0_1 k0_2 k0_3
  refine (toNt a b d ca cb cd t ms ps cs fs _ hm1 hm2 hm3 (unhide HSM) (unhide HR1) ((unhide HI1)) (unhide HZ1)).mono ?_
  rintro e w2 ⟨s1, s2, s3, sq, rfl, b2, o_⟩
  have B2 := B1.trans (b2.mono B1.size)
  have sz2 : w1.heap.size ≤ w2.heap.size := b2.size
  have Q2 := hide ((unhide Q1).below b2)
  have HR2 := hide ((unhide HR1).below b2)
  have HI2 := hide ((unhide HI1).below b2)
  have HZ2 := hide ((unhide HZ1).below b2)
  clear Q1 HR1 HI1 HZ1
  have S2 := hide o_
  clear o_
  go_wp2_with fail
  refine (specRS _ _ _ _ _ _ t ms _ cs fs x z _ hm1 hm2 hm3 (unhide HSM) (unhide HGZ) (unhide S2).nr (unhide S2).ri (unhide S2).rf (unhide S2).ad).mono ?_
  rintro e w3 ⟨v_, rfl, b3, got_⟩
  have B3 := B2.trans (b3.mono B2.size)
  have sz3 : w2.heap.size ≤ w3.heap.size := b3.size
  have Q3 := hide ((unhide Q2).below b3)
  have HR3 := hide ((unhide HR2).below b3)
  have HI3 := hide ((unhide HI2).below b3)
  have HZ3 := hide ((unhide HZ2).below b3)
  have S3 := hide ((unhide S2).below b3)
  clear Q2 HR2 HI2 HZ2 S2
  rw [unhide HMs, unhide HCs, unhide HFs, unhide HT] at got_
  obtain ⟨aW, bW, dW, pW, qW, rW, sW, rfl, L_⟩ := got_
  have W3 := hide L_
  clear L_
  rw [unhide HE]
  clear S3
  have b4 := bel_new w3 (.cells #[.slice aW Ms.length pW, .slice bW Cs.length qW, .slice dW Fs.length rW, .int .i64 T] 31)
  have B4 := B3.trans (b4.mono B3.size)
  have sx4 : w3.heap.size < (w3.alloc (.cells #[.slice aW Ms.length pW, .slice bW Cs.length qW, .slice dW Fs.length rW, .int .i64 T] 31)).heap.size := by simp
  have sz4 : w3.heap.size ≤ (w3.alloc (.cells #[.slice aW Ms.length pW, .slice bW Cs.length qW, .slice dW Fs.length rW, .int .i64 T] 31)).heap.size := b4.size
  have Q4 := hide ((unhide Q3).below b4)
  have HR4 := hide ((unhide HR3).below b4)
  have HI4 := hide ((unhide HI3).below b4)
  have HZ4 := hide ((unhide HZ3).below b4)
  have W4 := hide ((unhide W3).below b4)
  clear Q3 HR3 HI3 HZ3 W3
  have VW4 := hide (nb_new w3 (.slice aW Ms.length pW) (.slice bW Cs.length qW) (.slice dW Fs.length rW) T 31)
  obtain ⟨k0_0, k0_1, k0_2, k0_3⟩ := unhide Q4
  go_wp2_with fail
  clear k0_0 k0_1 k0_2 k0_3
  generalize hW_ : (w3.alloc (.cells #[.slice aW Ms.length pW, .slice bW Cs.length qW, .slice dW Fs.length rW, .int .i64 T] 31)) = w4 at *
  clear hW_
  refine (toNt a b d ca cb cd t ms ps cs fs _ hm1 hm2 hm3 (unhide HSM) (unhide HR4) ((unhide HI4)) (unhide HZ4)).mono ?_
  rintro e w5 ⟨x1, x2, x3, xq, rfl, b5, o_⟩
  have B5 := B4.trans (b5.mono B4.size)
  have sz5 : w4.heap.size ≤ w5.heap.size := b5.size
  have Q5 := hide ((unhide Q4).below b5)
  have HR5 := hide ((unhide HR4).below b5)
  have HI5 := hide ((unhide HI4).below b5)
  have HZ5 := hide ((unhide HZ4).below b5)
  have W5 := hide ((unhide W4).below b5)
  have VW5 := hide ((unhide VW4).below b5)
  clear Q4 HR4 HI4 HZ4 W4 VW4
  have X5 := hide o_
  clear o_
  have b6 := bel_new w5 (.cells #[.slice (some ⟨x1, 0, none⟩) ms.length ms.length, .slice (some ⟨x2, 0, none⟩) cs.length cs.length, .slice (some ⟨x3, 0, none⟩) fs.length fs.length, .int .i64 t] 31)
  have B6 := B5.trans (b6.mono B5.size)
  have sz6 : w5.heap.size ≤ (w5.alloc (.cells #[.slice (some ⟨x1, 0, none⟩) ms.length ms.length, .slice (some ⟨x2, 0, none⟩) cs.length cs.length, .slice (some ⟨x3, 0, none⟩) fs.length fs.length, .int .i64 t] 31)).heap.size := b6.size
  have Q6 := hide ((unhide Q5).below b6)
  have HR6 := hide ((unhide HR5).below b6)
  have HI6 := hide ((unhide HI5).below b6)
  have HZ6 := hide ((unhide HZ5).below b6)
  have W6 := hide ((unhide W5).below b6)
  have VW6 := hide ((unhide VW5).below b6)
  have X6 := hide ((unhide X5).below b6)
  clear Q5 HR5 HI5 HZ5 W5 VW5 X5
  have V6 := hide (nb_new w5 (.slice (some ⟨x1, 0, none⟩) ms.length ms.length) (.slice (some ⟨x2, 0, none⟩) cs.length cs.length) (.slice (some ⟨x3, 0, none⟩) fs.length fs.length) t 31)
  have sx6 : w5.heap.size < (w5.alloc (.cells #[.slice (some ⟨x1, 0, none⟩) ms.length ms.length, .slice (some ⟨x2, 0, none⟩) cs.length cs.length, .slice (some ⟨x3, 0, none⟩) fs.length fs.length, .int .i64 t] 31)).heap.size := by simp
  obtain ⟨k0_0, k0_1, k0_2, k0_3⟩ := unhide V6
  go_wp2_with fail
  clear k0_0 k0_1 k0_2 k0_3
  generalize hW_ : (w5.alloc (.cells #[.slice (some ⟨x1, 0, none⟩) ms.length ms.length, .slice (some ⟨x2, 0, none⟩) cs.length cs.length, .slice (some ⟨x3, 0, none⟩) fs.length fs.length, .int .i64 t] 31)) = w6 at *
  clear hW_
  refine (implRS _ _ _ _ _ _ t ms _ cs fs x z _ hm1 hm2 hm3 (unhide HSM) (unhide HGZ) (unhide X6).nr (unhide X6).ri (unhide X6).rf).mono ?_
  rintro e w7 ⟨v_, rfl, b7, got_⟩
  have B7 := B6.trans (b7.mono B6.size)
  have sz7 : w6.heap.size ≤ w7.heap.size := b7.size
  have Q7 := hide ((unhide Q6).below b7)
  have HR7 := hide ((unhide HR6).below b7)
  have HI7 := hide ((unhide HI6).below b7)
  have HZ7 := hide ((unhide HZ6).below b7)
  have W7 := hide ((unhide W6).below b7)
  have VW7 := hide ((unhide VW6).below b7)
  have X7 := hide ((unhide X6).below b7)
  have V7 := hide ((unhide V6).below b7)
  clear Q6 HR6 HI6 HZ6 W6 VW6 X6 V6
  rw [unhide HMs, unhide HCs, unhide HFs, unhide HT] at got_
  obtain ⟨aG, bG, dG, pG, qG, rG, sG, rfl, L_⟩ := got_
  have G7 := hide L_
  clear L_
  rw [unhide HE]
  have b8 := bel_new w7 (.cells #[.slice aG Ms.length pG, .slice bG Cs.length qG, .slice dG Fs.length rG, .int .i64 T] 31)
  have B8 := B7.trans (b8.mono B7.size)
  have sx8 : w7.heap.size < (w7.alloc (.cells #[.slice aG Ms.length pG, .slice bG Cs.length qG, .slice dG Fs.length rG, .int .i64 T] 31)).heap.size := by simp
  have sz8 : w7.heap.size ≤ (w7.alloc (.cells #[.slice aG Ms.length pG, .slice bG Cs.length qG, .slice dG Fs.length rG, .int .i64 T] 31)).heap.size := b8.size
  have Q8 := hide ((unhide Q7).below b8)
  have HR8 := hide ((unhide HR7).below b8)
  have HI8 := hide ((unhide HI7).below b8)
  have HZ8 := hide ((unhide HZ7).below b8)
  have W8 := hide ((unhide W7).below b8)
  have VW8 := hide ((unhide VW7).below b8)
  have X8 := hide ((unhide X7).below b8)
  have V8 := hide ((unhide V7).below b8)
  have G8 := hide ((unhide G7).below b8)
  clear Q7 HR7 HI7 HZ7 W7 VW7 X7 V7 G7
  have VG8 := hide (nb_new w7 (.slice aG Ms.length pG) (.slice bG Cs.length qG) (.slice dG Fs.length rG) T 31)
  obtain ⟨k0_0, k0_1, k0_2, k0_3⟩ := unhide VG8
  obtain ⟨k1_0, k1_1, k1_2, k1_3⟩ := unhide VW8
  go_wp2_with fail
  clear k0_0 k0_1 k0_2 k0_3 k1_0 k1_1 k1_2 k1_3
  generalize hW_ : (w7.alloc (.cells #[.slice aG Ms.length pG, .slice bG Cs.length qG, .slice dG Fs.length rG, .int .i64 T] 31)) = w8 at *
  clear hW_
  refine (eqNt _ _ _ _ _ _ _ _ _ _ _ _ T Ms _ _ Cs Fs _ ho1 ho2 ho3 (unhide HOS) (unhide G8).nr (unhide W8).nr (unhide G8).ri (unhide W8).ri (unhide G8).rf (unhide W8).rf).mono ?_
  rintro e w9 ⟨rfl, b9⟩
  have B9 := B8.trans (b9.mono B8.size)
  have sz9 : w8.heap.size ≤ w9.heap.size := b9.size
  have Q9 := hide ((unhide Q8).below b9)
  have HR9 := hide ((unhide HR8).below b9)
  have HI9 := hide ((unhide HI8).below b9)
  have HZ9 := hide ((unhide HZ8).below b9)
  have W9 := hide ((unhide W8).below b9)
  have VW9 := hide ((unhide VW8).below b9)
  have X9 := hide ((unhide X8).below b9)
  have V9 := hide ((unhide V8).below b9)
  have G9 := hide ((unhide G8).below b9)
  have VG9 := hide ((unhide VG8).below b9)
  clear Q8 HR8 HI8 HZ8 W8 VW8 X8 V8 G8 VG8
  obtain ⟨k0_0, k0_1, k0_2, k0_3⟩ := unhide V9
  obtain ⟨k1_0, k1_1, k1_2, k1_3⟩ := unhide Q9
  go_wp2_with fail
  clear k0_0 k0_1 k0_2 k0_3 k1_0 k1_1 k1_2 k1_3
  refine wp_region_noPanic ?_
  refine wp_region_held_drew (S := fun w' => (w'.cell? ⟨w5.heap.size, 0, none⟩ = some (.slice (some ⟨x1, 0, none⟩) ms.length ms.length) ∧ w'.cell? ⟨w5.heap.size, 1, none⟩ = some (.slice (some ⟨x2, 0, none⟩) cs.length cs.length) ∧ w'.cell? ⟨w5.heap.size, 2, none⟩ = some (.slice (some ⟨x3, 0, none⟩) fs.length fs.length) ∧ w'.cell? ⟨w5.heap.size, 3, none⟩ = some (.int .i64 t)) ∧ (w'.cell? ⟨w.heap.size, 0, none⟩ = some (.slice a ms.length ca) ∧ w'.cell? ⟨w.heap.size, 1, none⟩ = some (.slice b cs.length cb) ∧ w'.cell? ⟨w.heap.size, 2, none⟩ = some (.slice d fs.length cd) ∧ w'.cell? ⟨w.heap.size, 3, none⟩ = some (.int .i64 t))) (by kernel_rfl) (⟨unhide V9, unhide Q9⟩) (fun hHeld => ?_)
  refine Rg.t (v := .agg #[.slice (some ⟨x1, 0, none⟩) ms.length ms.length, .slice (some ⟨x2, 0, none⟩) cs.length cs.length, .slice (some ⟨x3, 0, none⟩) fs.length fs.length, .int .i64 t]) 0 49 ?_ (hv := fun w0 hSw => execNB _ rfl rfl hSw.1)
  refine Rg.t (v := .agg #[.slice a ms.length ca, .slice b cs.length cb, .slice d fs.length cd, .int .i64 t]) 1 50 ?_ (hv := fun w0 hSw => execNW _ rfl rfl hSw.2)
  (refine Rg.o 2 (fun K hK => ?_); go_simp)
  refine (toNt a b d ca cb cd t ms ps cs fs _ hm1 hm2 hm3 (unhide HSM) (unhide HR9).drew (drewI (unhide HI9)) (unhide HZ9).drew).mono ?_
  rintro e w10 ⟨y1, y2, y3, yq, rfl, b10_, o_⟩
  have b10 : Below w9.heap.size w9 w10 := (Below.refl _ _).drew.trans b10_
  have B10 := B9.trans (b10.mono B9.size)
  have sz10 : w9.heap.size ≤ w10.heap.size := b10.size
  have Q10 := hide ((unhide Q9).below b10)
  have HR10 := hide ((unhide HR9).below b10)
  have HI10 := hide ((unhide HI9).below b10)
  have HZ10 := hide ((unhide HZ9).below b10)
  have W10 := hide ((unhide W9).below b10)
  have VW10 := hide ((unhide VW9).below b10)
  have X10 := hide ((unhide X9).below b10)
  have V10 := hide ((unhide V9).below b10)
  have G10 := hide ((unhide G9).below b10)
  have VG10 := hide ((unhide VG9).below b10)
  clear Q9 HR9 HI9 HZ9 W9 VW9 X9 V9 G9 VG9
  have Y10 := hide o_
  clear o_
  refine hK.out _ _ (⟨unhide V10, unhide Q10⟩) (fun hHeld => ?_)
  clear hK K
  (try simp only [Act.put, List.setIfInBounds_toArray, List.set_cons_zero, List.set_cons_succ])
  (refine Rg.o 3 (fun K hK => ?_); go_simp)
  refine (eqNt _ _ _ _ _ _ _ _ _ _ _ _ t ms _ _ cs fs _ hm1 hm2 hm3 (unhide HSM) (unhide X10).nr (unhide Y10).nr (unhide X10).ri (unhide Y10).ri (unhide X10).rf (unhide Y10).rf).mono ?_
  rintro e w11 ⟨rfl, b11⟩
  have B11 := B10.trans (b11.mono B10.size)
  have sz11 : w10.heap.size ≤ w11.heap.size := b11.size
  have Q11 := hide ((unhide Q10).below b11)
  have HR11 := hide ((unhide HR10).below b11)
  have HI11 := hide ((unhide HI10).below b11)
  have HZ11 := hide ((unhide HZ10).below b11)
  have W11 := hide ((unhide W10).below b11)
  have VW11 := hide ((unhide VW10).below b11)
  have X11 := hide ((unhide X10).below b11)
  have V11 := hide ((unhide V10).below b11)
  have G11 := hide ((unhide G10).below b11)
  have VG11 := hide ((unhide VG10).below b11)
  have Y11 := hide ((unhide Y10).below b11)
  clear Q10 HR10 HI10 HZ10 W10 VW10 X10 V10 G10 VG10 Y10
  clear Y11
  refine hK.out _ _ (⟨unhide V11, unhide Q11⟩) (fun hHeld => ?_)
  clear hK K
  (try simp only [Act.put, List.setIfInBounds_toArray, List.set_cons_zero, List.set_cons_succ])
  refine Rg.t 4 53 ?_
  refine wpAnyH_done (by kernel_rfl) (NoPanic.normal ?_) _
  clear hHeld
  obtain ⟨k0_0, k0_1, k0_2, k0_3⟩ := unhide V11
  go_wp2_with fail
  clear k0_0 k0_1 k0_2 k0_3
  refine (markNt _ _ _ _ _ _ t 1 w4.heap.size w5.heap.size ms _ cs fs _ hm1 hm2 hm3 (by omega) (unhide HTK) (unhide HSM) (by omega) (by omega) (unhide X11).mt).mono ?_
  rintro e w12 ⟨rfl, hz_, b_, _, k_⟩
  have sz12 := hz_
  have B12 := B11.trans (b_.mono (by omega))
  clear b_
  have Q12 := hide ((unhide Q11).but (k_ w.heap.size (by omega) (.inl (by omega))))
  have HR12 := hide ((unhide HRW).below B12)
  have HI12 := hide ((unhide HIW).below B12)
  have HZ12 := hide ((unhide HZW).below B12)
  have VW12 := hide ((unhide VW11).but (k_ w3.heap.size (unhide VW11).lt (by omega)))
  have VG12 := hide ((unhide VG11).but (k_ w7.heap.size (unhide VG11).lt (by omega)))
  have W12 := hide ((unhide W11).but (L := w4.heap.size) (H := w5.heap.size) hz_ (fun k hk h => k_ k hk h) (by omega))
  have G12 := hide ((unhide G11).but (L := w4.heap.size) (H := w5.heap.size) hz_ (fun k hk h => k_ k hk h) (by omega))
  clear Q11 HR11 HI11 HZ11 VW11 VG11 W11 G11
  clear V11 X11 k_ hz_
  have hpk : ¬ (1 + totK ms cs fs < 0) := by have := unhide HTP; omega
  obtain ⟨k0_0, k0_1, k0_2, k0_3⟩ := unhide VG12
  obtain ⟨k1_0, k1_1, k1_2, k1_3⟩ := unhide VW12
  go_wp2_with fail
  clear k0_0 k0_1 k0_2 k0_3 k1_0 k1_1 k1_2 k1_3
  refine (eqNt _ _ _ _ _ _ _ _ _ _ _ _ T Ms _ _ Cs Fs _ ho1 ho2 ho3 (unhide HOS) (unhide G12).nr (unhide W12).nr (unhide G12).ri (unhide W12).ri (unhide G12).rf (unhide W12).rf).mono ?_
  rintro e w13 ⟨rfl, b13⟩
  have B13 := B12.trans (b13.mono B12.size)
  have sz13 : w12.heap.size ≤ w13.heap.size := b13.size
  have Q13 := hide ((unhide Q12).below b13)
  have HR13 := hide ((unhide HR12).below b13)
  have HI13 := hide ((unhide HI12).below b13)
  have HZ13 := hide ((unhide HZ12).below b13)
  have W13 := hide ((unhide W12).below b13)
  have VW13 := hide ((unhide VW12).below b13)
  have G13 := hide ((unhide G12).below b13)
  have VG13 := hide ((unhide VG12).below b13)
  clear Q12 HR12 HI12 HZ12 W12 VW12 G12 VG12
  obtain ⟨k0_0, k0_1, k0_2, k0_3⟩ := unhide VG13
  go_wp2_with fail
  clear k0_0 k0_1 k0_2 k0_3
  refine (markNt _ _ _ _ _ _ T 1 w6.heap.size w7.heap.size Ms _ Cs Fs _ ho1 ho2 ho3 (by omega) (unhide HOK) (unhide HOS) (by omega) (by omega) (unhide G13)).mono ?_
  rintro e w14 ⟨rfl, hz_, b_, m_, k_⟩
  have sz14 := hz_
  have B14 := B13.trans (b_.mono (by omega))
  have M14 := hide m_
  clear b_ m_
  have Q14 := hide ((unhide Q13).but (k_ w.heap.size (by omega) (.inl (by omega))))
  have HR14 := hide ((unhide HRW).below B14)
  have HI14 := hide ((unhide HIW).below B14)
  have HZ14 := hide ((unhide HZW).below B14)
  have VW14 := hide ((unhide VW13).but (k_ w3.heap.size (unhide VW13).lt (by omega)))
  have VG14 := hide ((unhide VG13).but (k_ w7.heap.size (unhide VG13).lt (by omega)))
  have W14 := hide ((unhide W13).but (L := w6.heap.size) (H := w7.heap.size) hz_ (fun k hk h => k_ k hk h) (by omega))
  clear Q13 HR13 HI13 HZ13 VW13 VG13 W13
  clear G13 k_ hz_
  have hpm : ¬ (1 + totK Ms Cs Fs < 0) := by have := unhide HOP; omega
  obtain ⟨k0_0, k0_1, k0_2, k0_3⟩ := unhide VG14
  go_wp2_with fail
  clear k0_0 k0_1 k0_2 k0_3
  refine (heldNt _ _ _ _ _ _ T 1 w6.heap.size w7.heap.size Ms _ Cs Fs _ ho1 ho2 ho3 (by omega) (unhide HOK) (unhide HOS) (unhide M14)).mono ?_
  rintro e w15 ⟨rfl, b15⟩
  have B15 := B14.trans (b15.mono B14.size)
  have sz15 : w14.heap.size ≤ w15.heap.size := b15.size
  have Q15 := hide ((unhide Q14).below b15)
  have HR15 := hide ((unhide HR14).below b15)
  have HI15 := hide ((unhide HI14).below b15)
  have HZ15 := hide ((unhide HZ14).below b15)
  have W15 := hide ((unhide W14).below b15)
  have VW15 := hide ((unhide VW14).below b15)
  have VG15 := hide ((unhide VG14).below b15)
  have M15 := hide ((unhide M14).below b15)
  clear Q14 HR14 HI14 HZ14 W14 VW14 VG14 M14
  obtain ⟨k0_0, k0_1, k0_2, k0_3⟩ := unhide Q15
  go_wp2_with fail
  clear k0_0 k0_1 k0_2 k0_3
  refine (toNt a b d ca cb cd t ms ps cs fs _ hm1 hm2 hm3 (unhide HSM) (unhide HR15) ((unhide HI15)) (unhide HZ15)).mono ?_
  rintro e w16 ⟨z1, z2, z3, zq, rfl, b16, o_⟩
  have B16 := B15.trans (b16.mono B15.size)
  have sz16 : w15.heap.size ≤ w16.heap.size := b16.size
  have Q16 := hide ((unhide Q15).below b16)
  have HR16 := hide ((unhide HR15).below b16)
  have HI16 := hide ((unhide HI15).below b16)
  have HZ16 := hide ((unhide HZ15).below b16)
  have W16 := hide ((unhide W15).below b16)
  have VW16 := hide ((unhide VW15).below b16)
  have VG16 := hide ((unhide VG15).below b16)
  have M16 := hide ((unhide M15).below b16)
  clear Q15 HR15 HI15 HZ15 W15 VW15 VG15 M15
  have Z16 := hide o_
  clear o_
  go_wp2_with fail
  refine (implRS _ _ _ _ _ _ t ms _ cs fs x z _ hm1 hm2 hm3 (unhide HSM) (unhide HGZ) (unhide Z16).nr (unhide Z16).ri (unhide Z16).rf).mono ?_
  rintro e w17 ⟨v_, rfl, b17, got_⟩
  have B17 := B16.trans (b17.mono B16.size)
  have sz17 : w16.heap.size ≤ w17.heap.size := b17.size
  have Q17 := hide ((unhide Q16).below b17)
  have HR17 := hide ((unhide HR16).below b17)
  have HI17 := hide ((unhide HI16).below b17)
  have HZ17 := hide ((unhide HZ16).below b17)
  have W17 := hide ((unhide W16).below b17)
  have VW17 := hide ((unhide VW16).below b17)
  have VG17 := hide ((unhide VG16).below b17)
  have M17 := hide ((unhide M16).below b17)
  have Z17 := hide ((unhide Z16).below b17)
  clear Q16 HR16 HI16 HZ16 W16 VW16 VG16 M16 Z16
  rw [unhide HMs, unhide HCs, unhide HFs, unhide HT] at got_
  obtain ⟨aH, bH, dH, pH, qH, rH, sH, rfl, L_⟩ := got_
  have H17 := hide L_
  clear L_
  rw [unhide HE]
  clear Z17
  have b18 := bel_new w17 (.cells #[.slice aH Ms.length pH, .slice bH Cs.length qH, .slice dH Fs.length rH, .int .i64 T] 31)
  have B18 := B17.trans (b18.mono B17.size)
  have sx18 : w17.heap.size < (w17.alloc (.cells #[.slice aH Ms.length pH, .slice bH Cs.length qH, .slice dH Fs.length rH, .int .i64 T] 31)).heap.size := by simp
  have sz18 : w17.heap.size ≤ (w17.alloc (.cells #[.slice aH Ms.length pH, .slice bH Cs.length qH, .slice dH Fs.length rH, .int .i64 T] 31)).heap.size := b18.size
  have Q18 := hide ((unhide Q17).below b18)
  have HR18 := hide ((unhide HR17).below b18)
  have HI18 := hide ((unhide HI17).below b18)
  have HZ18 := hide ((unhide HZ17).below b18)
  have W18 := hide ((unhide W17).below b18)
  have VW18 := hide ((unhide VW17).below b18)
  have VG18 := hide ((unhide VG17).below b18)
  have M18 := hide ((unhide M17).below b18)
  have H18 := hide ((unhide H17).below b18)
  clear Q17 HR17 HI17 HZ17 W17 VW17 VG17 M17 H17
  have VH18 := hide (nb_new w17 (.slice aH Ms.length pH) (.slice bH Cs.length qH) (.slice dH Fs.length rH) T 31)
  obtain ⟨k0_0, k0_1, k0_2, k0_3⟩ := unhide VH18
  obtain ⟨k1_0, k1_1, k1_2, k1_3⟩ := unhide VW18
  go_wp2_with fail
  clear k0_0 k0_1 k0_2 k0_3 k1_0 k1_1 k1_2 k1_3
  generalize hW_ : (w17.alloc (.cells #[.slice aH Ms.length pH, .slice bH Cs.length qH, .slice dH Fs.length rH, .int .i64 T] 31)) = w18 at *
  clear hW_
  refine (eqNt _ _ _ _ _ _ _ _ _ _ _ _ T Ms _ _ Cs Fs _ ho1 ho2 ho3 (unhide HOS) (unhide H18).nr (unhide W18).nr (unhide H18).ri (unhide W18).ri (unhide H18).rf (unhide W18).rf).mono ?_
  rintro e w19 ⟨rfl, b19⟩
  have B19 := B18.trans (b19.mono B18.size)
  have sz19 : w18.heap.size ≤ w19.heap.size := b19.size
  have Q19 := hide ((unhide Q18).below b19)
  have HR19 := hide ((unhide HR18).below b19)
  have HI19 := hide ((unhide HI18).below b19)
  have HZ19 := hide ((unhide HZ18).below b19)
  have W19 := hide ((unhide W18).below b19)
  have VW19 := hide ((unhide VW18).below b19)
  have VG19 := hide ((unhide VG18).below b19)
  have M19 := hide ((unhide M18).below b19)
  have H19 := hide ((unhide H18).below b19)
  have VH19 := hide ((unhide VH18).below b19)
  clear Q18 HR18 HI18 HZ18 W18 VW18 VG18 M18 H18 VH18
  obtain ⟨k0_0, k0_1, k0_2, k0_3⟩ := unhide VG19
  go_wp2_with fail
  clear k0_0 k0_1 k0_2 k0_3
  refine (heldNt _ _ _ _ _ _ T 1 w6.heap.size w7.heap.size Ms _ Cs Fs _ ho1 ho2 ho3 (by omega) (unhide HOK) (unhide HOS) (unhide M19)).mono ?_
  rintro e w20 ⟨rfl, b20⟩
  have B20 := B19.trans (b20.mono B19.size)
  have sz20 : w19.heap.size ≤ w20.heap.size := b20.size
  have Q20 := hide ((unhide Q19).below b20)
  have HR20 := hide ((unhide HR19).below b20)
  have HI20 := hide ((unhide HI19).below b20)
  have HZ20 := hide ((unhide HZ19).below b20)
  have W20 := hide ((unhide W19).below b20)
  have VW20 := hide ((unhide VW19).below b20)
  have VG20 := hide ((unhide VG19).below b20)
  have M20 := hide ((unhide M19).below b20)
  have H20 := hide ((unhide H19).below b20)
  have VH20 := hide ((unhide VH19).below b20)
  clear Q19 HR19 HI19 HZ19 W19 VW19 VG19 M19 H19 VH19
  have HF := hide B20
  go_wp2_with fail
  go_ret
  exact ⟨rfl, unhide HF⟩

end Go.Proofs.YtfooahhdikobeaaGreat.fnExactRestart
