/-
  Of the texts NetIj, NetO, NetE, NetHc, At, ExInjectW: what this claim needs of them. (put together by mkprune.py)
-/
import Derived.Test.YthfcigfgpimimaaGreatQb8
import Derived.Deep.Cut
import Derived.Deep.DeepHandedRow
namespace Go.Proofs.YthfcigfgpimimaaGreat
open Go.ChangeShapes Go.WideShapes Go.ChangeAt Go.RowKit
set_option linter.unusedVariables false
set_option linter.unusedSimpArgs false
set_option maxRecDepth 100000
attribute [local go_sem ↓] Go.wp_at_zero Go.wp_at_succ
namespace Nt
open W1 Rt Na
/-- What Inject answers. -/
def ijE (ok ap : Bool) (bl fl : Nat) : Int := if 65536 < bl then 2 else if ok = true then (if (ap && decide (bl ≤ 900)) = true then (if fl = 200 then 7 else 0) else 4) else 1
/-- What stands within acts, too: of any bytes. -/
def injE (ap : Bool) (bl fl : Nat) : Int := if (ap && decide (bl ≤ 900)) = true then (if fl = 200 then 7 else 0) else 4
theorem ijE_inj {ap : Bool} {bl fl : Nat} (h : ¬ 65536 < bl) : ijE true ap bl fl = injE ap bl fl := by unfold ijE injE; rw [if_neg h, if_pos rfl]
def ijM (e : Int) (ms : List Rm) : List Rm := if e = 0 ∨ e = 7 then ms else []
def ijC (e : Int) (cs : List Int) : List Int := if e = 0 ∨ e = 7 then cs else []
def ijF (e : Int) (fs : List Fm.R) (f : Fm.R) : List Fm.R := if e = 0 then fs ++ [f] else if e = 7 then fs else []
def ijT (e t : Int) : Int := if e = 0 ∨ e = 7 then t else 0
theorem ij_no (e : Int) (h0 : e ≠ 0) (h7 : e ≠ 7) (ms : List Rm) (cs : List Int) (fs : List Fm.R) (f : Fm.R) (t : Int) : ijM e ms = [] ∧ ijC e cs = [] ∧ ijF e fs f = [] ∧ ijT e t = 0 := by
  unfold ijM ijC ijF ijT
  rw [if_neg (by omega), if_neg (by omega), if_neg h0, if_neg h7, if_neg (by omega)]; exact ⟨rfl, rfl, rfl, rfl⟩
def strB (bs : List UInt8) : ByteArray := ⟨bs.toArray⟩
theorem ijE_ok {ok ap : Bool} {bl fl : Nat} (h : ijE ok ap bl fl = 0 ∨ ijE ok ap bl fl = 7) : ok = true ∧ (ijE ok ap bl fl = 0 → fl ≠ 200) := by
  unfold ijE at h ⊢
  split at h
  · omega
  · split at h
    · rename_i h1 h2
      refine ⟨h2, fun e => ?_⟩
      rw [if_neg h1, if_pos h2] at e
      split at e
      · split at e <;> omega
      · omega
    · omega
theorem ij_small {ms : List Rm} {cs : List Int} {fs : List Fm.R} {t : Int} {ap : Bool} {bl : Nat} {f : Fm.R} : smN (ijM (ijE (netB ms cs fs t) ap bl fs.length) ms) (ijC (ijE (netB ms cs fs t) ap bl fs.length) cs) (ijF (ijE (netB ms cs fs t) ap bl fs.length) fs f) := by
  obtain ⟨e, he⟩ : ∃ e, ijE (netB ms cs fs t) ap bl fs.length = e := ⟨_, rfl⟩
  by_cases h : e = 0 ∨ e = 7
  · have h1 := ijE_ok (ok := netB ms cs fs t) (ap := ap) (bl := bl) (fl := fs.length) (by rw [he]; exact h)
    rw [he] at h1 ⊢
    obtain ⟨h2, h3, h4, h5⟩ := netB_sm h1.1
    unfold ijM ijC ijF
    rw [if_pos h, if_pos h]
    refine ⟨h2, h3, h4, ?_⟩
    split
    · rename_i e0
      have := h1.2 e0
      rw [List.length_append]; simp; omega
    · split
      · exact h5
      · simp
  · rw [he]
    unfold ijM ijC ijF
    rw [if_neg h, if_neg h, if_neg (fun e => h (.inl e)), if_neg (fun e => h (.inr e))]
    exact smN_nil
theorem reads_bel {w w' : World} {a : Option Addr} {bs : List UInt8} (h : By.Reads w a bs) (hb : Below w.heap.size w w') : By.Reads w' a bs := by
  rcases h with h | ⟨g, off, rfl, hc⟩
  · exact .inl h
  · exact .inr ⟨g, off, rfl, fun i hi => (hb.cell (World.block_lt_of_cell? _ _ (hc i hi))).trans (hc i hi)⟩
/-- Routers and costs, and frames behind them. -/
theorem MT.join {W : World} {lo mid hi : Nat} {a b d : Option Addr} {ms : List Rm} {qs : List Pl} {cs : List Int} {fs : List Fm.R} (h : MT W lo mid a b none ms qs cs []) (hf : Fm.Lst W d fs mid hi) (h0 : lo ≤ mid) (h1 : mid ≤ hi) : MT W lo hi a b d ms qs cs fs := by
  obtain ⟨f, p1, q1, p2, q2, p3, q3, e1, e2, e3, e4, e5, e6, g1, g2, g3⟩ := h
  exact ⟨f, p1, q1, p2, q2, mid, hi, by omega, by omega, by omega, e4, .inl (by omega), .inl (by omega), g1, g2, hf⟩
theorem RT.join {W : World} {lo mid hi : Nat} {a b d : Option Addr} {ms : List Rm} {qs : List Pl} {cs : List Int} {fs : List Fm.R} (h : RT W lo mid a b none ms qs cs []) (hf : Fm.Lst W d fs mid hi) (h0 : lo ≤ mid) (h1 : mid ≤ hi) : RT W lo hi a b d ms qs cs fs := by
  obtain ⟨r1, r2, _⟩ := h.mono (Nat.le_refl _) h1
  exact ⟨r1, r2, hf.mono h0 (Nat.le_refl _)⟩
set_option maxHeartbeats 32000000 in
theorem implInjd (a b d : Option Addr) (ca cb cd : Nat) (t : Int) (ms : List Rm) (ps : List Pl) (cs : List Int) (fs : List Fm.R) (x y : Int) (sb : ByteArray) (w : World) (hm : ms.length ≤ 1048576) (hc : cs.length ≤ 1048576) (hf : fs.length ≤ 1048576) (hs : ∀ i, i < ms.length → Sm (ms.getD i Rm.zero)) (hg : ∀ i, i < fs.length → (fs.getD i Fm.R.zero).bs.size ≤ maxLen) (hr : NR w a ms ps) (hi : In.RM w b cs) (hz : Fm.RM w d fs) (hok : netB ms cs fs t = true) :
    Calls Tryz.prog 24 #[.agg #[.slice a ms.length ca, .slice b cs.length cb, .slice d fs.length cd, .int .i64 t], .int .i64 x, .int .i64 y, .string sb] w fun e w' => ∃ v, e = .returned (.tuple #[v, .int .i64 (injE (apB x y ms.length) sb.size fs.length)]) ∧ Below w.heap.size w w' ∧ Na.GotM v w w' (ijM (injE (apB x y ms.length) sb.size fs.length) ms) (ijC (injE (apB x y ms.length) sb.size fs.length) cs) (ijF (injE (apB x y ms.length) sb.size fs.length) fs ⟨x, y, t + 1, sb⟩) (ijT (injE (apB x y ms.length) sb.size fs.length) t) := by
  obtain ⟨bp, hbp⟩ : ∃ q, apB x y ms.length = q := ⟨_, rfl⟩
  rw [hbp]
  have HAP := hide (fun (n : Nat) (e : ms.length = n) => (by rw [← e]; exact hbp : apB x y n = bp))
  clear hbp
  obtain ⟨E, hE⟩ : ∃ M, injE bp sb.size fs.length = M := ⟨_, rfl⟩
  rw [hE]
  obtain ⟨Ms, hMs⟩ : ∃ M, ijM E ms = M := ⟨_, rfl⟩
  obtain ⟨Cs, hCs⟩ : ∃ M, ijC E cs = M := ⟨_, rfl⟩
  obtain ⟨Fs, hFs⟩ : ∃ M, ijF E fs ⟨x, y, t + 1, sb⟩ = M := ⟨_, rfl⟩
  obtain ⟨T, hT⟩ : ∃ M, ijT E t = M := ⟨_, rfl⟩
  rw [hMs, hCs, hFs, hT]
  have HNO : Hid (∀ e, e ≠ 0 → e ≠ 7 → E = e → Ms = [] ∧ Cs = [] ∧ Fs = [] ∧ T = 0) := hide (fun e h0 h7 h => by
    rw [← hMs, ← hCs, ← hFs, ← hT, h]; unfold ijM ijC ijF ijT
    rw [if_neg (by omega), if_neg (by omega), if_neg h0, if_neg h7, if_neg (by omega)]; exact ⟨rfl, rfl, rfl, rfl⟩)
  have HFU : Hid (E = 7 → Ms = ms ∧ Cs = cs ∧ Fs = fs ∧ T = t) := hide (fun h => by rw [← hMs, ← hCs, ← hFs, ← hT, h]; exact ⟨rfl, rfl, rfl, rfl⟩)
  have HYES : Hid (E = 0 → Ms = ms ∧ Cs = cs ∧ Fs = fs ++ [⟨x, y, t + 1, sb⟩] ∧ T = t) := hide (fun h => by rw [← hMs, ← hCs, ← hFs, ← hT, h]; exact ⟨rfl, rfl, rfl, rfl⟩)
  have HE := hide hE
  clear hMs hCs hFs hT hE
  obtain ⟨fl, hfl2⟩ : ∃ n, fs.length = n := ⟨_, rfl⟩
  have HFL := hide hfl2
  rw [hfl2] at HE
  clear hfl2
  have KN0 := hide (fun W (b0 : Below w.heap.size w W) => implNet a b d ca cb cd t ms ps cs fs W hm hc hf hs hg (hr.below b0) (hi.below b0) (hz.below b0))
  have HSN := hide (fun h => netB_sm (ms := ms) (cs := cs) (fs := fs) (t := t) h)
  have HN6 := hide (fun h => netB_n (ms := ms) (cs := cs) (fs := fs) (t := t) h)
  have HR := hide hr
  have HI := hide hi
  have HF := hide hz
  clear hr hi hz hs hg
  generalize netB ms cs fs t = ok at *
  clear KN0
  obtain ⟨n, hN⟩ : ∃ n, ms.length = n := ⟨_, rfl⟩
  have HN := hide hN
  rw [hN] at HN6 ⊢
  clear hN
  have z1 : (w.alloc (.cells #[.slice a n ca, .slice b cs.length cb, .slice d fs.length cd, .int .i64 t] 32)).heap.size = w.heap.size + 1 := by simp
  have hq0 : w.heap.size + 2 ≤ ((w.alloc (.cells #[.slice a n ca, .slice b cs.length cb, .slice d fs.length cd, .int .i64 t] 32)).alloc (.cells #[.slice none 0 0, .slice none 0 0, .slice none 0 0, .int .i64 0] 32)).heap.size := by simp
  have HB0 : Hid (Below w.heap.size w ((w.alloc (.cells #[.slice a n ca, .slice b cs.length cb, .slice d fs.length cd, .int .i64 t] 32)).alloc (.cells #[.slice none 0 0, .slice none 0 0, .slice none 0 0, .int .i64 0] 32))) := hide (((Below.refl _ _).alloc (Nat.le_refl _) _).alloc (by simp) _)
  have c1 : Below (w.alloc (.cells #[.slice a n ca, .slice b cs.length cb, .slice d fs.length cd, .int .i64 t] 32)).heap.size (w.alloc (.cells #[.slice a n ca, .slice b cs.length cb, .slice d fs.length cd, .int .i64 t] 32)) ((w.alloc (.cells #[.slice a n ca, .slice b cs.length cb, .slice d fs.length cd, .int .i64 t] 32)).alloc (.cells #[.slice none 0 0, .slice none 0 0, .slice none 0 0, .int .i64 0] 32)) := bel_new _ _
  have HX0 := hide ((nb_new w (.slice a n ca) (.slice b cs.length cb) (.slice d fs.length cd) t 32).below c1)
  have TX0 : Hid (((w.alloc (.cells #[.slice a n ca, .slice b cs.length cb, .slice d fs.length cd, .int .i64 t] 32)).alloc (.cells #[.slice none 0 0, .slice none 0 0, .slice none 0 0, .int .i64 0] 32)).there w.heap.size 0 4) := hide (there_under (there_new4 w _ _ _ _ _) c1 (by rw [z1]; omega))
  have TZ0 : Hid (((w.alloc (.cells #[.slice a n ca, .slice b cs.length cb, .slice d fs.length cd, .int .i64 t] 32)).alloc (.cells #[.slice none 0 0, .slice none 0 0, .slice none 0 0, .int .i64 0] 32)).there (w.heap.size + 1) 0 4) := hide (by have h := there_new4 (w.alloc (.cells #[.slice a n ca, .slice b cs.length cb, .slice d fs.length cd, .int .i64 t] 32)) (.slice none 0 0) (.slice none 0 0) (.slice none 0 0) (.int .i64 0) 32; rw [z1] at h; exact h)
  have NZ0 : Hid (NB ((w.alloc (.cells #[.slice a n ca, .slice b cs.length cb, .slice d fs.length cd, .int .i64 t] 32)).alloc (.cells #[.slice none 0 0, .slice none 0 0, .slice none 0 0, .int .i64 0] 32)) (w.heap.size + 1) (.slice none 0 0) (.slice none 0 0) (.slice none 0 0) 0) := hide (by have h := nb_new (w.alloc (.cells #[.slice a n ca, .slice b cs.length cb, .slice d fs.length cd, .int .i64 t] 32)) (.slice none 0 0) (.slice none 0 0) (.slice none 0 0) 0 32; rw [z1] at h; exact h)
  clear z1 c1
  subst hok
  go_enter Tryz.func24, Tryz.ntmps24
  obtain ⟨V1, hV1⟩ : ∃ V, ((w.alloc (.cells #[.slice a n ca, .slice b cs.length cb, .slice d fs.length cd, .int .i64 t] 32)).alloc (.cells #[.slice none 0 0, .slice none 0 0, .slice none 0 0, .int .i64 0] 32)) = V := ⟨_, rfl⟩
  rw [hV1] at hq0 HB0 HX0 TX0 TZ0 NZ0
  have HB1 := HB0
  have HX1 := HX0
  have TX1 := TX0
  have TZ1 := TZ0
  have NZ1 := NZ0
  clear HB0 HX0 TX0 TZ0 NZ0
  obtain ⟨h1, h6, hC, ht0, ht1⟩ := unhide HN6 (by trivial)
  have HH1 := hide h1
  have HH6 := hide h6
  have HHC := hide hC
  clear h1 h6 hC
  have hf200 := (unhide HSN (by trivial)).2.2.2
  rw [unhide HFL] at hf200
  obtain ⟨p0, p1, p2, p3⟩ := unhide HX1
  go_wp2_with fail
  clear p0 p1 p2 p3
  try clear hV1
  refine (areApart a b d n cs.length fs.length ca cb cd t x y _).mono ?_
  rintro e V2 ⟨rfl, b2⟩
  rw [unhide HAP n (unhide HN)]
  have HB2 := hide ((unhide HB1).trans (b2.mono (unhide HB1).size))
  have HX2 := hide ((unhide HX1).below b2)
  have TX2 := hide (there_under (unhide TX1) b2 (unhide HX1).lt)
  have TZ2 := hide (there_under (unhide TZ1) b2 (unhide NZ1).lt)
  have NZ2 := hide ((unhide NZ1).below b2)
  have hq2 := b2.size
  clear HB1 HX1 TX1 TZ1 NZ1  b2
  cases bp
  ·
    have hEe : E = 4 := by rw [← unhide HE]; unfold injE; rw [if_neg (by simp)]
    obtain ⟨rfl, rfl, rfl, rfl⟩ := unhide HNO 4 (by decide) (by decide) hEe
    subst hEe
    go_wp2_with (refine storeNB _ _ rfl rfl rfl rfl rfl (unhide TZ2) rfl rfl ?_; intro V9 n9 t9 bb9 s9 k9)
    (try rw [Exit.noGoto_ret])
    have hlt_ : w.heap.size ≤ V9.heap.size := (bb9 _ _ (unhide HB2) (Nat.le_succ _)).size
    refine bodyPost_ret (v := .tuple #[.agg #[.slice none 0 0, .slice none 0 0, .slice none 0 0, .int .i64 0], .int .i64 4]) (Na.resultsNC rfl _ _ rfl n9 rfl) rfl ⟨_, rfl, bb9 _ _ (unhide HB2) (Nat.le_succ _), Na.gotM_nil hlt_⟩
  by_cases h900 : (900 : Int) < (sb.size : Int)
  ·
    have hEe : E = 4 := by rw [← unhide HE]; unfold injE; rw [if_neg (by simp; omega)]
    obtain ⟨rfl, rfl, rfl, rfl⟩ := unhide HNO 4 (by decide) (by decide) hEe
    subst hEe
    go_wp2_with (refine storeNB _ _ rfl rfl rfl rfl rfl (unhide TZ2) rfl rfl ?_; intro V9 n9 t9 bb9 s9 k9)
    (try rw [Exit.noGoto_ret])
    have hlt_ : w.heap.size ≤ V9.heap.size := (bb9 _ _ (unhide HB2) (Nat.le_succ _)).size
    refine bodyPost_ret (v := .tuple #[.agg #[.slice none 0 0, .slice none 0 0, .slice none 0 0, .int .i64 0], .int .i64 4]) (Na.resultsNC rfl _ _ rfl n9 rfl) rfl ⟨_, rfl, bb9 _ _ (unhide HB2) (Nat.le_succ _), Na.gotM_nil hlt_⟩
  have h9 : sb.size ≤ 900 := by omega
  by_cases h200 : (fl : Int) = 200
  · have hEe : E = 7 := by rw [← unhide HE]; unfold injE; rw [if_pos (by simp; omega), if_pos (by omega)]
    obtain ⟨e1, e2, e3, e4⟩ := unhide HFU hEe
    obtain rfl := e1.symm
    obtain rfl := e2.symm
    obtain rfl := e3.symm
    obtain rfl := e4.symm
    clear e1 e2 e3 e4 HYES HNO HFU
    subst hEe
    have hf200q : ((fs.length : Int) == 200) = true := by rw [unhide HFL]; simpa using h200
    obtain ⟨p0, p1, p2, p3⟩ := unhide HX2
    have HSB := hide (fun k (h : k < n) => r64_ok ((unhide HSN (by trivial)).2.1 k (by rw [unhide HN]; exact h)))
    have hcl := (unhide HSN (by trivial)).2.2.1
    have hfl := (unhide HSN (by trivial)).2.2.2
    go_wp2_with fail
    clear p0 p1 p2 p3
    refine (netOf a b d ca cb cd n t ms ps cs fs _ (unhide HN) (by have := unhide HH1; omega) (by have := unhide HH6; omega) (by omega) (by omega) (unhide HSB) ((unhide HR).below (unhide HB2)) ((unhide HI).below (unhide HB2)) ((unhide HF).below (unhide HB2))).mono ?_
    rintro e V3 ⟨a3, b3', d3, c3a, c3b, c3c, qs, rfl, b3, rt, _⟩
    have RT3 := hide rt
    clear rt
    have HB3 := hide ((unhide HB2).trans (b3.mono (unhide HB2).size))
    have HX3 := hide ((unhide HX2).below b3)
    have TX3 := hide (there_under (unhide TX2) b3 (unhide HX2).lt)
    have TZ3 := hide (there_under (unhide TZ2) b3 (unhide NZ2).lt)
    have NZ3 := hide ((unhide NZ2).below b3)
    have hq3 := b3.size
    clear HB2 HX2 TX2 TZ2 NZ2  b3
    go_wp2_with (refine storeNB _ _ rfl rfl rfl rfl rfl (unhide TZ3) rfl rfl ?_; intro V9 n9 t9 bb9 s9 k9)
    (try rw [Exit.noGoto_ret])
    have hlt_ := (bb9 _ _ (unhide HB3) (Nat.le_succ _)).size
    have hrw := unhide HN
    refine bodyPost_ret (v := .tuple #[.agg #[.slice a3 n c3a, .slice b3' cs.length c3b, .slice d3 fs.length c3c, .int .i64 t], .int .i64 7]) (Na.resultsNC rfl _ _ rfl n9 rfl) rfl ⟨_, rfl, bb9 _ _ (unhide HB3) (Nat.le_succ _), a3, b3', d3, c3a, c3b, c3c, qs, by rw [hrw], ?_⟩
    exact ((unhide RT3).but (L := w.heap.size + 1) (H := w.heap.size + 2) (by omega) (fun k _ h => k9 k (by omega)) (.inr (by omega))).mono (by omega) (by omega)
  have hEe : E = 0 := by rw [← unhide HE]; unfold injE; rw [if_pos (by simp; omega), if_neg (by omega)]
  obtain ⟨e1, e2, e3, e4⟩ := unhide HYES hEe
  obtain rfl := e1.symm
  obtain rfl := e2.symm
  obtain rfl := e3.symm
  obtain rfl := e4.symm
  clear e1 e2 e3 e4 HYES HNO HFU
  subst hEe
  have hf200q : ((fs.length : Int) == 200) = false := by rw [unhide HFL]; simpa using h200
  obtain ⟨p0, p1, p2, p3⟩ := unhide HX2
  have HSB := hide (fun k (h : k < n) => r64_ok ((unhide HSN (by trivial)).2.1 k (by rw [unhide HN]; exact h)))
  have hcl := (unhide HSN (by trivial)).2.2.1
  have hfl := (unhide HSN (by trivial)).2.2.2
  go_wp2_with fail
  clear p0 p1 p2 p3
  refine (netOf a b d ca cb cd n t ms ps cs fs _ (unhide HN) (by have := unhide HH1; omega) (by have := unhide HH6; omega) (by omega) (by omega) (unhide HSB) ((unhide HR).below (unhide HB2)) ((unhide HI).below (unhide HB2)) ((unhide HF).below (unhide HB2))).mono ?_
  rintro e V3 ⟨A3, b', D3, cA, cB, cD, qs, rfl, b3, mt_, of_⟩
  have MT3 := hide mt_
  clear mt_
  have HB3 := hide ((unhide HB2).trans (b3.mono (unhide HB2).size))
  have HX3 := hide ((unhide HX2).below b3)
  have TX3 := hide (there_under (unhide TX2) b3 (unhide HX2).lt)
  have TZ3 := hide (there_under (unhide TZ2) b3 (unhide NZ2).lt)
  have NZ3 := hide ((unhide NZ2).below b3)
  have hq3 := b3.size
  clear HB2 HX2 TX2 TZ2 NZ2  b3
  obtain ⟨p0, p1, p2, p3⟩ := unhide HX3
  go_upto_region 6 with (refine storeNB _ _ rfl rfl rfl rfl rfl (unhide TX3) rfl rfl ?_; intro V4 n_ t_ bb_ s_ k_)
  clear p0 p1 p2 p3
  have HX4 := hide n_
  have TX4 := hide t_
  have HB4 := hide (bb_ _ _ (unhide HB3) (Nat.le_refl _))
  have hx_ := (unhide HX3).lt
  have TZ4 := hide (there_blk (unhide TZ3) (k_ _ (by omega)))
  have NZ4 := hide ((unhide NZ3).but (k_ _ (by omega)))
  have hq4 := Nat.le_of_eq s_
  have hr4 := Nat.le_of_eq s_.symm
  have MT4 := hide ((unhide MT3).but (L := w.heap.size) (H := w.heap.size + 1) (by omega) (fun k _ h => k_ k (by omega)) (.inr (by omega)))
  obtain ⟨mid, hmid, hmid2, mtm, ofm⟩ := unhide of_
  have hof_ := ofm.lt
  have OF4 := hide (own_blk ofm (fun g e => k_ g (by have := hof_ g e; omega)))
  have MF4 := hide (mtm.but (L := w.heap.size) (H := w.heap.size + 1) (by omega) (fun k _ h => k_ k (by omega)) (.inr (by omega)))
  clear mtm ofm
  clear HB3 HX3 TX3 TZ3 NZ3 MT3 n_ t_ bb_ s_ k_ of_
  have KE : Hid (V4.heap.size = V4.heap.size) := hide rfl
  have hnl : fs.length ≤ 200 := by rw [unhide HFL]; exact hf200
  have hf1 := free_at (unhide TX4) (k := 2) (by omega)
  have HOB := hide (unhide OF4).lt
  obtain ⟨p0, p1, p2, p3⟩ := unhide HX4
  have FRM : Hid (Fm.RM (V4.alloc (.cells #[.int .i64 x, .int .i64 y, .int .i64 (t + 1), .string (sb)] 49)) (some ⟨V4.heap.size, 0, none⟩) [⟨x, y, t + 1, sb⟩]) := hide (Fm.rm_new V4 ⟨x, y, t + 1, sb⟩)
  go_upto_region 7 with (at_builtin; refine Fm.wpList_apS ((unhide OF4).alloc _) V4.heap.size 0 1 1 [⟨x, y, t + 1, sb⟩] rfl (unhide FRM) (by simp only [List.length_cons, List.length_nil]; omega) (by simp; omega) rfl _ _ rfl rfl rfl ?_; intro v_ V5 ho hg; have hkp : ∀ k, k < V4.heap.size → k < mid → V5.heap[k]? = V4.heap[k]? := (fun k hk hm => (hg.block k (by simp; omega) (fun e => by have := (unhide HOB) k e.symm; omega)).trans ((bel_new V4 _).block k hk)); have hz5 : V4.heap.size < V5.heap.size := Nat.lt_of_lt_of_le (by simp) hg.size; have hBE : Below w.heap.size w V5 := Fm.below_own ((unhide HB4).alloc (unhide HB4).size _) ((unhide OF4).alloc _) hg (by omega) (by simp; have := (unhide HB4).size; omega); have hLS := Fm.lst_own rfl ho; obtain ⟨d5, c5, rfl, l5⟩ := hLS; have hwl := (unhide HX4).lt; have f2 := free_at (there_blk (unhide TX4) (hkp w.heap.size hwl (by omega))) (k := 2) (by omega); obtain ⟨y0, y1, y2, y3⟩ := (unhide HX4).but (hkp w.heap.size hwl (by omega)); clear ho hg)
  clear p0 p1 p2 p3 f2 y0 y1 y2 y3 hf1
  have hwl := (unhide HX4).lt
  have hz2 := (unhide NZ4).lt
  have HX5 := hide ((unhide HX4).but (hkp w.heap.size hwl (by omega)))
  have TX5 := hide (there_blk (unhide TX4) (hkp w.heap.size hwl (by omega)))
  have TZ5 := hide (there_blk (unhide TZ4) (hkp (w.heap.size + 1) hz2 (by omega)))
  have MF5 := hide ((unhide MF4).but (L := mid) (H := V4.heap.size) (by omega) (fun k hk h => hkp k hk (by omega)) (.inl (Nat.le_refl _)))
  have HB5 := hide hBE
  have HL5 := hide l5
  clear HX4 TX4 TZ4 NZ4 MF4 HB4 hBE l5 hkp MT4 OF4
  have hln : (fs ++ [(⟨x, y, t + 1, sb⟩ : Fm.R)]).length = fs.length + 1 := by simp
  have HX6 := hide ((unhide HX5).set2 (.slice d5 (fs.length + 1) c5))
  have TZ6 := hide (there_at (p := ⟨w.heap.size, 2, none⟩) (v := .slice d5 (fs.length + 1) c5) (unhide TZ5))
  have HB6 := hide ((unhide HB5).setCell (p := ⟨w.heap.size, 2, none⟩) (Nat.le_refl _) (.slice d5 (fs.length + 1) c5))
  have ho6 : ∀ x, x ≠ w.heap.size → (V5.setCell ⟨w.heap.size, 2, none⟩ (.slice d5 (fs.length + 1) c5)).heap[x]? = V5.heap[x]? := fun x hx => Below.heap_setCell _ _ _ _ hx
  have hq6 : (V5.setCell ⟨w.heap.size, 2, none⟩ (.slice d5 (fs.length + 1) c5)).heap.size = V5.heap.size := by simp [World.setCell]
  obtain ⟨V6, hV6⟩ : ∃ V, V5.setCell ⟨w.heap.size, 2, none⟩ (.slice d5 (fs.length + 1) c5) = V := ⟨_, rfl⟩
  rw [hV6] at HX6 TZ6 HB6 ho6 hq6 ⊢
  clear hV6
  have MF6 := hide ((unhide MF5).but (L := w.heap.size) (H := w.heap.size + 1) (by omega) (fun k _ h => ho6 k (by omega)) (.inr (by omega)))
  have HL6 := hide ((unhide HL5).but (p := fun k => k ≠ w.heap.size) (by omega) (fun k _ h => ho6 k h) (fun k h1 h2 => by omega))
  clear HX5 TX5 TZ5 MF5 HB5 HL5 ho6
  obtain ⟨p0, p1, p2, p3⟩ := unhide HX6
  go_wp2_with (refine storeNB _ _ rfl rfl rfl rfl rfl (unhide TZ6) rfl rfl ?_; intro V9 n9 t9 bb9 s9 k9)
  clear p0 p1 p2 p3
  (try rw [Exit.noGoto_ret])
  have hlt_ := (bb9 _ _ (unhide HB6) (Nat.le_succ _)).size
  have hrw := unhide HN
  have m9 := (unhide MF6).but (L := w.heap.size + 1) (H := w.heap.size + 2) (by omega) (fun k _ h => k9 k (by omega)) (.inr (by omega))
  have l9 := (unhide HL6).but (p := fun k => k ≠ w.heap.size + 1) (by omega) (fun k _ h => k9 k h) (fun k h1 h2 => by omega)
  refine bodyPost_ret (v := .tuple #[.agg #[.slice A3 n cA, .slice b' cs.length cB, .slice d5 (fs.length + 1) c5, .int .i64 t], .int .i64 0]) (Na.resultsNC rfl _ _ rfl n9 rfl) rfl ⟨_, rfl, bb9 _ _ (unhide HB6) (Nat.le_succ _), A3, b', d5, cA, cB, c5, qs, by rw [hrw, hln], ?_⟩
  exact (MT.join m9 l9 (by omega) (by omega)).mono (by omega) (by omega)
set_option maxHeartbeats 32000000 in
theorem implIJ (a b d : Option Addr) (ca cb cd : Nat) (t : Int) (ms : List Rm) (ps : List Pl) (cs : List Int) (fs : List Fm.R) (x y : Int) (ge oe ce : Nat) (bs : List UInt8) (w : World) (hm : ms.length ≤ 1048576) (hc : cs.length ≤ 1048576) (hf : fs.length ≤ 1048576) (hs : ∀ i, i < ms.length → Sm (ms.getD i Rm.zero)) (hg : ∀ i, i < fs.length → (fs.getD i Fm.R.zero).bs.size ≤ maxLen) (hr : NR w a ms ps) (hi : In.RM w b cs) (hz : Fm.RM w d fs) (hbl : bs.length ≤ 1048576) (hrb : By.Reads w (some ⟨ge, oe, none⟩) bs) :
    Calls Tryz.prog 8 #[.agg #[.slice a ms.length ca, .slice b cs.length cb, .slice d fs.length cd, .int .i64 t], .int .i64 x, .int .i64 y, .slice (some ⟨ge, oe, none⟩) bs.length ce] w fun e w' => ∃ v, e = .returned (.tuple #[v, .int .i64 (ijE (netB ms cs fs t) (apB x y ms.length) bs.length fs.length)]) ∧ Below w.heap.size w w' ∧ Na.GotM v w w' (ijM (ijE (netB ms cs fs t) (apB x y ms.length) bs.length fs.length) ms) (ijC (ijE (netB ms cs fs t) (apB x y ms.length) bs.length fs.length) cs) (ijF (ijE (netB ms cs fs t) (apB x y ms.length) bs.length fs.length) fs ⟨x, y, t + 1, strB bs⟩) (ijT (ijE (netB ms cs fs t) (apB x y ms.length) bs.length fs.length) t) := by
  have KN := hide (fun W (b0 : Below w.heap.size w W) => implNet a b d ca cb cd t ms ps cs fs W hm hc hf hs hg (hr.below b0) (hi.below b0) (hz.below b0))
  have KJ := hide (fun W (b0 : Below w.heap.size w W) => implInjd a b d ca cb cd t ms ps cs fs x y (strB bs) W hm hc hf hs hg (hr.below b0) (hi.below b0) (hz.below b0))
  have HRB := hide hrb
  have hsz : (strB bs).size = bs.length := by unfold strB; simp [ByteArray.size]
  have HSZ := hide hsz
  clear hr hi hz hs hg hrb hsz
  obtain ⟨n, hN⟩ : ∃ n, ms.length = n := ⟨_, rfl⟩
  have HN := hide hN
  have z1 : (w.alloc (.cells #[.slice a n ca, .slice b cs.length cb, .slice d fs.length cd, .int .i64 t] 32)).heap.size = w.heap.size + 1 := by simp
  have hq0 : w.heap.size + 2 ≤ ((w.alloc (.cells #[.slice a n ca, .slice b cs.length cb, .slice d fs.length cd, .int .i64 t] 32)).alloc (.cells #[.slice none 0 0, .slice none 0 0, .slice none 0 0, .int .i64 0] 32)).heap.size := by simp
  have HB0 : Hid (Below w.heap.size w ((w.alloc (.cells #[.slice a n ca, .slice b cs.length cb, .slice d fs.length cd, .int .i64 t] 32)).alloc (.cells #[.slice none 0 0, .slice none 0 0, .slice none 0 0, .int .i64 0] 32))) := hide (((Below.refl _ _).alloc (Nat.le_refl _) _).alloc (by simp) _)
  have c1 : Below (w.alloc (.cells #[.slice a n ca, .slice b cs.length cb, .slice d fs.length cd, .int .i64 t] 32)).heap.size (w.alloc (.cells #[.slice a n ca, .slice b cs.length cb, .slice d fs.length cd, .int .i64 t] 32)) ((w.alloc (.cells #[.slice a n ca, .slice b cs.length cb, .slice d fs.length cd, .int .i64 t] 32)).alloc (.cells #[.slice none 0 0, .slice none 0 0, .slice none 0 0, .int .i64 0] 32)) := bel_new _ _
  have HX0 := hide ((nb_new w (.slice a n ca) (.slice b cs.length cb) (.slice d fs.length cd) t 32).below c1)
  have TZ0 : Hid (((w.alloc (.cells #[.slice a n ca, .slice b cs.length cb, .slice d fs.length cd, .int .i64 t] 32)).alloc (.cells #[.slice none 0 0, .slice none 0 0, .slice none 0 0, .int .i64 0] 32)).there (w.heap.size + 1) 0 4) := hide (by have h := there_new4 (w.alloc (.cells #[.slice a n ca, .slice b cs.length cb, .slice d fs.length cd, .int .i64 t] 32)) (.slice none 0 0) (.slice none 0 0) (.slice none 0 0) (.int .i64 0) 32; rw [z1] at h; exact h)
  clear z1 c1
  by_cases hbig : 65536 < bs.length
  · have hE : (ijE (netB ms cs fs t) (apB x y ms.length) bs.length fs.length) = 2 := by unfold ijE; rw [if_pos hbig]
    rw [hE]
    have k1 : (65536 : Int) < (bs.length : Int) := by omega
    clear hE hbig KN KJ
    obtain ⟨q1, q2, q3, q4⟩ := ij_no 2 (by decide) (by decide) ms cs fs ⟨x, y, t + 1, strB bs⟩ t
    rw [q1, q2, q3, q4]
    clear q1 q2 q3 q4
    rw [hN]
    skip
    clear hN
    go_enter Tryz.func8, Tryz.ntmps8
    obtain ⟨V0, hV0⟩ : ∃ V, ((w.alloc (.cells #[.slice a n ca, .slice b cs.length cb, .slice d fs.length cd, .int .i64 t] 32)).alloc (.cells #[.slice none 0 0, .slice none 0 0, .slice none 0 0, .int .i64 0] 32)) = V := ⟨_, rfl⟩
    rw [hV0] at HB0 TZ0 HX0 hq0
    obtain ⟨p0, p1, p2, p3⟩ := unhide HX0
    go_wp2_with (refine storeNB _ _ rfl rfl rfl rfl rfl (unhide TZ0) rfl rfl ?_; intro V9 n9 t9 bb9 s9 k9)
    (try rw [Exit.noGoto_ret])
    have hlt_ : w.heap.size ≤ V9.heap.size := (bb9 _ _ (unhide HB0) (Nat.le_succ _)).size
    refine bodyPost_ret (v := .tuple #[.agg #[.slice none 0 0, .slice none 0 0, .slice none 0 0, .int .i64 0], .int .i64 2]) (Na.resultsNC rfl _ _ rfl n9 rfl) rfl ⟨_, rfl, bb9 _ _ (unhide HB0) (Nat.le_succ _), Na.gotM_nil hlt_⟩
  have k1 : ¬ (65536 : Int) < (bs.length : Int) := by omega
  cases hok : netB ms cs fs t
  · have hE : ijE false (apB x y ms.length) bs.length fs.length = 1 := by unfold ijE; rw [if_neg hbig]; rfl
    rw [hE]
    rw [hok] at KN
    clear hE KJ hbig hok
    obtain ⟨q1, q2, q3, q4⟩ := ij_no 1 (by decide) (by decide) ms cs fs ⟨x, y, t + 1, strB bs⟩ t
    rw [q1, q2, q3, q4]
    clear q1 q2 q3 q4
    rw [hN]
    rw [hN] at KN
    clear hN
    go_enter Tryz.func8, Tryz.ntmps8
    obtain ⟨V0, hV0⟩ : ∃ V, ((w.alloc (.cells #[.slice a n ca, .slice b cs.length cb, .slice d fs.length cd, .int .i64 t] 32)).alloc (.cells #[.slice none 0 0, .slice none 0 0, .slice none 0 0, .int .i64 0] 32)) = V := ⟨_, rfl⟩
    rw [hV0] at HB0 TZ0 HX0 hq0
    obtain ⟨p0, p1, p2, p3⟩ := unhide HX0
    go_wp2_with fail
    clear p0 p1 p2 p3
    try clear hV0
    refine (unhide KN _ (unhide HB0)).mono ?_
    rintro e V1 ⟨rfl, b1⟩
    have HB1 := hide ((unhide HB0).trans (b1.mono (unhide HB0).size))
    have TZ1 := hide (there_under (unhide TZ0) b1 (by omega))
    have HX1 := hide ((unhide HX0).below b1)
    have hq1 := b1.size
    clear b1 HB0 TZ0 HX0
    obtain ⟨p0, p1, p2, p3⟩ := unhide HX1
    go_wp2_with (refine storeNB _ _ rfl rfl rfl rfl rfl (unhide TZ1) rfl rfl ?_; intro V9 n9 t9 bb9 s9 k9)
    (try rw [Exit.noGoto_ret])
    have hlt_ : w.heap.size ≤ V9.heap.size := (bb9 _ _ (unhide HB1) (Nat.le_succ _)).size
    refine bodyPost_ret (v := .tuple #[.agg #[.slice none 0 0, .slice none 0 0, .slice none 0 0, .int .i64 0], .int .i64 1]) (Na.resultsNC rfl _ _ rfl n9 rfl) rfl ⟨_, rfl, bb9 _ _ (unhide HB1) (Nat.le_succ _), Na.gotM_nil hlt_⟩
  rw [ijE_inj hbig]
  rw [hok] at KN
  have KJ2 := hide (fun W (b0 : Below w.heap.size w W) => by have h := unhide KJ W b0 hok; rw [unhide HSZ] at h; exact h)
  clear KJ hbig hok HSZ
  rw [hN] at KJ2 KN ⊢
  generalize injE (apB x y n) bs.length fs.length = E at *
  generalize ijM E ms = Ms at *
  generalize ijC E cs = Cs at *
  generalize ijF E fs ⟨x, y, t + 1, strB bs⟩ = Fs at *
  generalize ijT E t = T at *
  clear hN
  go_enter Tryz.func8, Tryz.ntmps8
  obtain ⟨V0, hV0⟩ : ∃ V, ((w.alloc (.cells #[.slice a n ca, .slice b cs.length cb, .slice d fs.length cd, .int .i64 t] 32)).alloc (.cells #[.slice none 0 0, .slice none 0 0, .slice none 0 0, .int .i64 0] 32)) = V := ⟨_, rfl⟩
  rw [hV0] at HB0 TZ0 HX0 hq0
  obtain ⟨p0, p1, p2, p3⟩ := unhide HX0
  go_wp2_with fail
  clear p0 p1 p2 p3
  try clear hV0
  refine (unhide KN _ (unhide HB0)).mono ?_
  rintro e V1 ⟨rfl, b1⟩
  have HB1 := hide ((unhide HB0).trans (b1.mono (unhide HB0).size))
  have TZ1 := hide (there_under (unhide TZ0) b1 (by omega))
  have HX1 := hide ((unhide HX0).below b1)
  have hq1 := b1.size
  clear b1 HB0 TZ0 HX0
  have hcv := De.conv_all (cap := ce) (reads_bel (unhide HRB) (unhide HB1))
  obtain ⟨p0, p1, p2, p3⟩ := unhide HX1
  go_wp2_with fail
  clear hcv p0 p1 p2 p3
  refine (unhide KJ2 _ (unhide HB1)).mono ?_
  rintro e V2 ⟨v, rfl, b2, got⟩
  have HB2 := hide ((unhide HB1).trans (b2.mono (unhide HB1).size))
  have hx1 := (unhide HX1).lt
  have TZ2 := hide (there_under (unhide TZ1) b2 (by omega))
  have hq2 := b2.size
  obtain ⟨A, B, D, cA, cB, cD, qs, rfl, mt⟩ := got
  have MT2 := hide mt
  clear b2 mt HB1 TZ1 HX1
  go_wp2_with (refine storeNB _ _ rfl rfl rfl rfl rfl (unhide TZ2) rfl rfl ?_; intro V9 n9 t9 bb9 s9 k9)
  (try rw [Exit.noGoto_ret])
  have hlt_ := (bb9 _ _ (unhide HB2) (Nat.le_succ _)).size
  refine bodyPost_ret (v := .tuple #[.agg #[.slice A Ms.length cA, .slice B Cs.length cB, .slice D Fs.length cD, .int .i64 T], .int .i64 E]) (Na.resultsNC rfl _ _ rfl n9 rfl) rfl ⟨_, rfl, bb9 _ _ (unhide HB2) (Nat.le_succ _), A, B, D, cA, cB, cD, qs, rfl, ?_⟩
  exact ((unhide MT2).but (L := w.heap.size + 1) (H := w.heap.size + 2) (by omega) (fun k _ h => k9 k (by omega)) (.inr (by omega))).mono (by omega) (by omega)
set_option maxHeartbeats 32000000 in
theorem specIJ (a b d : Option Addr) (ca cb cd : Nat) (t : Int) (ms : List Rm) (ps : List Pl) (cs : List Int) (fs : List Fm.R) (x y : Int) (ge oe ce : Nat) (bs : List UInt8) (w : World) (hm : ms.length ≤ 1048576) (hc : cs.length ≤ 1048576) (hf : fs.length ≤ 1048576) (hs : ∀ i, i < ms.length → Sm (ms.getD i Rm.zero)) (hg : ∀ i, i < fs.length → (fs.getD i Fm.R.zero).bs.size ≤ maxLen) (hr : NR w a ms ps) (hi : In.RM w b cs) (hz : Fm.RM w d fs) (hbl : bs.length ≤ 1048576) (hrb : By.Reads w (some ⟨ge, oe, none⟩) bs) (had : ∀ i, i < ms.length → Ad (ps.getD i Pl.zero)) :
    Calls Tryz.prog 5 #[.agg #[.slice a ms.length ca, .slice b cs.length cb, .slice d fs.length cd, .int .i64 t], .int .i64 x, .int .i64 y, .slice (some ⟨ge, oe, none⟩) bs.length ce] w fun e w' => ∃ v, e = .returned (.tuple #[v, .int .i64 (ijE (netB ms cs fs t) (apB x y ms.length) bs.length fs.length)]) ∧ Below w.heap.size w w' ∧ Na.GotR v w w' (ijM (ijE (netB ms cs fs t) (apB x y ms.length) bs.length fs.length) ms) (ijC (ijE (netB ms cs fs t) (apB x y ms.length) bs.length fs.length) cs) (ijF (ijE (netB ms cs fs t) (apB x y ms.length) bs.length fs.length) fs ⟨x, y, t + 1, strB bs⟩) (ijT (ijE (netB ms cs fs t) (apB x y ms.length) bs.length fs.length) t) := by
  have HAD := hide had
  clear had
  obtain ⟨bp, hbp⟩ : ∃ q, apB x y ms.length = q := ⟨_, rfl⟩
  rw [hbp]
  have HAP := hide (fun (n : Nat) (e : ms.length = n) => (by rw [← e]; exact hbp : apB x y n = bp))
  clear hbp
  obtain ⟨E, hE⟩ : ∃ M, ijE (netB ms cs fs t) bp bs.length fs.length = M := ⟨_, rfl⟩
  rw [hE]
  obtain ⟨Ms, hMs⟩ : ∃ M, ijM E ms = M := ⟨_, rfl⟩
  obtain ⟨Cs, hCs⟩ : ∃ M, ijC E cs = M := ⟨_, rfl⟩
  obtain ⟨Fs, hFs⟩ : ∃ M, ijF E fs ⟨x, y, t + 1, strB bs⟩ = M := ⟨_, rfl⟩
  obtain ⟨T, hT⟩ : ∃ M, ijT E t = M := ⟨_, rfl⟩
  rw [hMs, hCs, hFs, hT]
  have HNO : Hid (∀ e, e ≠ 0 → e ≠ 7 → E = e → Ms = [] ∧ Cs = [] ∧ Fs = [] ∧ T = 0) := hide (fun e h0 h7 h => by
    rw [← hMs, ← hCs, ← hFs, ← hT, h]; unfold ijM ijC ijF ijT
    rw [if_neg (by omega), if_neg (by omega), if_neg h0, if_neg h7, if_neg (by omega)]; exact ⟨rfl, rfl, rfl, rfl⟩)
  have HFU : Hid (E = 7 → Ms = ms ∧ Cs = cs ∧ Fs = fs ∧ T = t) := hide (fun h => by rw [← hMs, ← hCs, ← hFs, ← hT, h]; exact ⟨rfl, rfl, rfl, rfl⟩)
  have HYES : Hid (E = 0 → Ms = ms ∧ Cs = cs ∧ Fs = fs ++ [⟨x, y, t + 1, strB bs⟩] ∧ T = t) := hide (fun h => by rw [← hMs, ← hCs, ← hFs, ← hT, h]; exact ⟨rfl, rfl, rfl, rfl⟩)
  have HE := hide hE
  have HRB := hide hrb
  clear hMs hCs hFs hT hE hrb
  obtain ⟨bl, hbl2⟩ : ∃ n, bs.length = n := ⟨_, rfl⟩
  have HBL := hide hbl2
  rw [hbl2] at hbl HE ⊢
  clear hbl2
  obtain ⟨fl, hfl2⟩ : ∃ n, fs.length = n := ⟨_, rfl⟩
  have HFL := hide hfl2
  rw [hfl2] at HE
  clear hfl2
  have KN0 := hide (fun W (b0 : Below w.heap.size w W) => specNet a b d ca cb cd t ms ps cs fs W hm hc hf hs hg (hr.below b0) (hi.below b0) (hz.below b0))
  have HSN := hide (fun h => netB_sm (ms := ms) (cs := cs) (fs := fs) (t := t) h)
  have HN6 := hide (fun h => netB_n (ms := ms) (cs := cs) (fs := fs) (t := t) h)
  have HR := hide hr
  have HI := hide hi
  have HF := hide hz
  clear hr hi hz hs hg
  generalize netB ms cs fs t = ok at *
  obtain ⟨n, hN⟩ : ∃ n, ms.length = n := ⟨_, rfl⟩
  have HN := hide hN
  rw [hN] at KN0 HN6 ⊢
  clear hN
  have z1 : (w.alloc (.cells #[.slice a n ca, .slice b cs.length cb, .slice d fs.length cd, .int .i64 t] 32)).heap.size = w.heap.size + 1 := by simp
  have hq0 : w.heap.size + 2 ≤ ((w.alloc (.cells #[.slice a n ca, .slice b cs.length cb, .slice d fs.length cd, .int .i64 t] 32)).alloc (.cells #[.slice none 0 0, .slice none 0 0, .slice none 0 0, .int .i64 0] 32)).heap.size := by simp
  have HB0 : Hid (Below w.heap.size w ((w.alloc (.cells #[.slice a n ca, .slice b cs.length cb, .slice d fs.length cd, .int .i64 t] 32)).alloc (.cells #[.slice none 0 0, .slice none 0 0, .slice none 0 0, .int .i64 0] 32))) := hide (((Below.refl _ _).alloc (Nat.le_refl _) _).alloc (by simp) _)
  have c1 : Below (w.alloc (.cells #[.slice a n ca, .slice b cs.length cb, .slice d fs.length cd, .int .i64 t] 32)).heap.size (w.alloc (.cells #[.slice a n ca, .slice b cs.length cb, .slice d fs.length cd, .int .i64 t] 32)) ((w.alloc (.cells #[.slice a n ca, .slice b cs.length cb, .slice d fs.length cd, .int .i64 t] 32)).alloc (.cells #[.slice none 0 0, .slice none 0 0, .slice none 0 0, .int .i64 0] 32)) := bel_new _ _
  have HX0 := hide ((nb_new w (.slice a n ca) (.slice b cs.length cb) (.slice d fs.length cd) t 32).below c1)
  have TX0 : Hid (((w.alloc (.cells #[.slice a n ca, .slice b cs.length cb, .slice d fs.length cd, .int .i64 t] 32)).alloc (.cells #[.slice none 0 0, .slice none 0 0, .slice none 0 0, .int .i64 0] 32)).there w.heap.size 0 4) := hide (there_under (there_new4 w _ _ _ _ _) c1 (by rw [z1]; omega))
  have TZ0 : Hid (((w.alloc (.cells #[.slice a n ca, .slice b cs.length cb, .slice d fs.length cd, .int .i64 t] 32)).alloc (.cells #[.slice none 0 0, .slice none 0 0, .slice none 0 0, .int .i64 0] 32)).there (w.heap.size + 1) 0 4) := hide (by have h := there_new4 (w.alloc (.cells #[.slice a n ca, .slice b cs.length cb, .slice d fs.length cd, .int .i64 t] 32)) (.slice none 0 0) (.slice none 0 0) (.slice none 0 0) (.int .i64 0) 32; rw [z1] at h; exact h)
  have NZ0 : Hid (NB ((w.alloc (.cells #[.slice a n ca, .slice b cs.length cb, .slice d fs.length cd, .int .i64 t] 32)).alloc (.cells #[.slice none 0 0, .slice none 0 0, .slice none 0 0, .int .i64 0] 32)) (w.heap.size + 1) (.slice none 0 0) (.slice none 0 0) (.slice none 0 0) 0) := hide (by have h := nb_new (w.alloc (.cells #[.slice a n ca, .slice b cs.length cb, .slice d fs.length cd, .int .i64 t] 32)) (.slice none 0 0) (.slice none 0 0) (.slice none 0 0) 0 32; rw [z1] at h; exact h)
  clear z1 c1
  go_enter Tryz.func5, Tryz.ntmps5
  obtain ⟨V0, hV0⟩ : ∃ V, ((w.alloc (.cells #[.slice a n ca, .slice b cs.length cb, .slice d fs.length cd, .int .i64 t] 32)).alloc (.cells #[.slice none 0 0, .slice none 0 0, .slice none 0 0, .int .i64 0] 32)) = V := ⟨_, rfl⟩
  rw [hV0] at hq0 HB0 HX0 TX0 TZ0 NZ0
  by_cases hbig : (65536 : Int) < (bl : Int)
  · clear KN0
    have hEe : E = 2 := by rw [← unhide HE]; unfold ijE; rw [if_pos (by omega)]
    obtain ⟨rfl, rfl, rfl, rfl⟩ := unhide HNO 2 (by decide) (by decide) hEe
    subst hEe
    go_wp2_with (refine storeNB _ _ rfl rfl rfl rfl rfl (unhide TZ0) rfl rfl ?_; intro V9 n9 t9 bb9 s9 k9)
    (try rw [Exit.noGoto_ret])
    have hlt_ : w.heap.size ≤ V9.heap.size := (bb9 _ _ (unhide HB0) (Nat.le_succ _)).size
    refine bodyPost_ret (v := .tuple #[.agg #[.slice none 0 0, .slice none 0 0, .slice none 0 0, .int .i64 0], .int .i64 2]) (Na.resultsNC rfl _ _ rfl n9 rfl) rfl ⟨_, rfl, bb9 _ _ (unhide HB0) (Nat.le_succ _), Na.gotR_nil _ _⟩
  have hsm : ¬ 65536 < bl := by omega
  obtain ⟨p0, p1, p2, p3⟩ := unhide HX0
  go_wp2_with fail
  clear p0 p1 p2 p3
  try clear hV0
  refine (unhide KN0 _ (unhide HB0)).mono ?_
  rintro e V1 ⟨rfl, b1⟩
  have HB1 := hide ((unhide HB0).trans (b1.mono (unhide HB0).size))
  have HX1 := hide ((unhide HX0).below b1)
  have TX1 := hide (there_under (unhide TX0) b1 (unhide HX0).lt)
  have TZ1 := hide (there_under (unhide TZ0) b1 (unhide NZ0).lt)
  have NZ1 := hide ((unhide NZ0).below b1)
  have hq1 := b1.size
  clear HB0 HX0 TX0 TZ0 NZ0  b1
  cases ok
  ·
    have hEe : E = 1 := by rw [← unhide HE]; unfold ijE; rw [if_neg hsm, if_neg (by simp)]
    obtain ⟨rfl, rfl, rfl, rfl⟩ := unhide HNO 1 (by decide) (by decide) hEe
    subst hEe
    go_wp2_with (refine storeNB _ _ rfl rfl rfl rfl rfl (unhide TZ1) rfl rfl ?_; intro V9 n9 t9 bb9 s9 k9)
    (try rw [Exit.noGoto_ret])
    have hlt_ : w.heap.size ≤ V9.heap.size := (bb9 _ _ (unhide HB1) (Nat.le_succ _)).size
    refine bodyPost_ret (v := .tuple #[.agg #[.slice none 0 0, .slice none 0 0, .slice none 0 0, .int .i64 0], .int .i64 1]) (Na.resultsNC rfl _ _ rfl n9 rfl) rfl ⟨_, rfl, bb9 _ _ (unhide HB1) (Nat.le_succ _), Na.gotR_nil _ _⟩
  obtain ⟨h1, h6, hC, ht0, ht1⟩ := unhide HN6 (by trivial)
  have HH1 := hide h1
  have HH6 := hide h6
  have HHC := hide hC
  clear h1 h6 hC
  have hf200 := (unhide HSN (by trivial)).2.2.2
  rw [unhide HFL] at hf200
  obtain ⟨p0, p1, p2, p3⟩ := unhide HX1
  go_wp2_with fail
  clear p0 p1 p2 p3
  refine (l13Pair a b d n cs.length fs.length ca cb cd t x y _).mono ?_
  rintro e V2 ⟨rfl, b2⟩
  rw [unhide HAP n (unhide HN)]
  have HB2 := hide ((unhide HB1).trans (b2.mono (unhide HB1).size))
  have HX2 := hide ((unhide HX1).below b2)
  have TX2 := hide (there_under (unhide TX1) b2 (unhide HX1).lt)
  have TZ2 := hide (there_under (unhide TZ1) b2 (unhide NZ1).lt)
  have NZ2 := hide ((unhide NZ1).below b2)
  have hq2 := b2.size
  clear HB1 HX1 TX1 TZ1 NZ1  b2
  cases bp
  ·
    have hEe : E = 4 := by rw [← unhide HE]; unfold ijE; rw [if_neg hsm, if_pos rfl, if_neg (by simp)]
    obtain ⟨rfl, rfl, rfl, rfl⟩ := unhide HNO 4 (by decide) (by decide) hEe
    subst hEe
    go_wp2_with (refine storeNB _ _ rfl rfl rfl rfl rfl (unhide TZ2) rfl rfl ?_; intro V9 n9 t9 bb9 s9 k9)
    (try rw [Exit.noGoto_ret])
    have hlt_ : w.heap.size ≤ V9.heap.size := (bb9 _ _ (unhide HB2) (Nat.le_succ _)).size
    refine bodyPost_ret (v := .tuple #[.agg #[.slice none 0 0, .slice none 0 0, .slice none 0 0, .int .i64 0], .int .i64 4]) (Na.resultsNC rfl _ _ rfl n9 rfl) rfl ⟨_, rfl, bb9 _ _ (unhide HB2) (Nat.le_succ _), Na.gotR_nil _ _⟩
  by_cases h900 : (900 : Int) < (bl : Int)
  ·
    have hEe : E = 4 := by rw [← unhide HE]; unfold ijE; rw [if_neg hsm, if_pos rfl, if_neg (by simp; omega)]
    obtain ⟨rfl, rfl, rfl, rfl⟩ := unhide HNO 4 (by decide) (by decide) hEe
    subst hEe
    go_wp2_with (refine storeNB _ _ rfl rfl rfl rfl rfl (unhide TZ2) rfl rfl ?_; intro V9 n9 t9 bb9 s9 k9)
    (try rw [Exit.noGoto_ret])
    have hlt_ : w.heap.size ≤ V9.heap.size := (bb9 _ _ (unhide HB2) (Nat.le_succ _)).size
    refine bodyPost_ret (v := .tuple #[.agg #[.slice none 0 0, .slice none 0 0, .slice none 0 0, .int .i64 0], .int .i64 4]) (Na.resultsNC rfl _ _ rfl n9 rfl) rfl ⟨_, rfl, bb9 _ _ (unhide HB2) (Nat.le_succ _), Na.gotR_nil _ _⟩
  have h9 : bl ≤ 900 := by omega
  by_cases h200 : (fl : Int) = 200
  · have hEe : E = 7 := by rw [← unhide HE]; unfold ijE; rw [if_neg hsm, if_pos rfl, if_pos (by simp; omega), if_pos (by omega)]
    obtain ⟨e1, e2, e3, e4⟩ := unhide HFU hEe
    obtain rfl := e1.symm
    obtain rfl := e2.symm
    obtain rfl := e3.symm
    obtain rfl := e4.symm
    clear e1 e2 e3 e4 HYES HNO HFU
    subst hEe
    have hf200q : ((fs.length : Int) == 200) = true := by rw [unhide HFL]; simpa using h200
    obtain ⟨p0, p1, p2, p3⟩ := unhide HX2
    have HSB := hide (fun k (h : k < n) => r64_ok ((unhide HSN (by trivial)).2.1 k (by rw [unhide HN]; exact h)))
    have hcl := (unhide HSN (by trivial)).2.2.1
    have hfl := (unhide HSN (by trivial)).2.2.2
    go_wp2_with fail
    clear p0 p1 p2 p3
    refine (l13Own a b d ca cb cd n t ms ps cs fs _ (unhide HN) (by have := unhide HH1; omega) (by have := unhide HH6; omega) (by omega) (by omega) (unhide HSB) (fun i hi => unhide HAD i (by rw [unhide HN]; exact hi)) ((unhide HR).below (unhide HB2)) ((unhide HI).below (unhide HB2)) ((unhide HF).below (unhide HB2))).mono ?_
    rintro e V3 ⟨a3, b3', d3, c3a, c3b, c3c, qs, rfl, b3, rt, _⟩
    have RT3 := hide rt
    clear rt
    have HB3 := hide ((unhide HB2).trans (b3.mono (unhide HB2).size))
    have HX3 := hide ((unhide HX2).below b3)
    have TX3 := hide (there_under (unhide TX2) b3 (unhide HX2).lt)
    have TZ3 := hide (there_under (unhide TZ2) b3 (unhide NZ2).lt)
    have NZ3 := hide ((unhide NZ2).below b3)
    have hq3 := b3.size
    clear HB2 HX2 TX2 TZ2 NZ2  b3
    go_wp2_with (refine storeNB _ _ rfl rfl rfl rfl rfl (unhide TZ3) rfl rfl ?_; intro V9 n9 t9 bb9 s9 k9)
    (try rw [Exit.noGoto_ret])
    have hlt_ := (bb9 _ _ (unhide HB3) (Nat.le_succ _)).size
    have hrw := unhide HN
    refine bodyPost_ret (v := .tuple #[.agg #[.slice a3 n c3a, .slice b3' cs.length c3b, .slice d3 fs.length c3c, .int .i64 t], .int .i64 7]) (Na.resultsNC rfl _ _ rfl n9 rfl) rfl ⟨_, rfl, bb9 _ _ (unhide HB3) (Nat.le_succ _), a3, b3', d3, c3a, c3b, c3c, qs, by rw [hrw], ?_⟩
    exact ((unhide RT3).but (L := w.heap.size + 1) (H := w.heap.size + 2) (by omega) (fun k _ h => k9 k (by omega)) (.inr (by omega))).mono (by omega) (by omega)
  have hEe : E = 0 := by rw [← unhide HE]; unfold ijE; rw [if_neg hsm, if_pos rfl, if_pos (by simp; omega), if_neg (by omega)]
  obtain ⟨e1, e2, e3, e4⟩ := unhide HYES hEe
  obtain rfl := e1.symm
  obtain rfl := e2.symm
  obtain rfl := e3.symm
  obtain rfl := e4.symm
  clear e1 e2 e3 e4 HYES HNO HFU
  subst hEe
  have hf200q : ((fs.length : Int) == 200) = false := by rw [unhide HFL]; simpa using h200
  obtain ⟨p0, p1, p2, p3⟩ := unhide HX2
  have HSB := hide (fun k (h : k < n) => r64_ok ((unhide HSN (by trivial)).2.1 k (by rw [unhide HN]; exact h)))
  have hcl := (unhide HSN (by trivial)).2.2.1
  have hfl := (unhide HSN (by trivial)).2.2.2
  go_wp2_with fail
  clear p0 p1 p2 p3
  refine (l13Own a b d ca cb cd n t ms ps cs fs _ (unhide HN) (by have := unhide HH1; omega) (by have := unhide HH6; omega) (by omega) (by omega) (unhide HSB) (fun i hi => unhide HAD i (by rw [unhide HN]; exact hi)) ((unhide HR).below (unhide HB2)) ((unhide HI).below (unhide HB2)) ((unhide HF).below (unhide HB2))).mono ?_
  rintro e V3 ⟨A3, b', D3, cA, cB, cD, qs, rfl, b3, mt_, of_⟩
  have MT3 := hide mt_
  clear mt_
  have HB3 := hide ((unhide HB2).trans (b3.mono (unhide HB2).size))
  have HX3 := hide ((unhide HX2).below b3)
  have TX3 := hide (there_under (unhide TX2) b3 (unhide HX2).lt)
  have TZ3 := hide (there_under (unhide TZ2) b3 (unhide NZ2).lt)
  have NZ3 := hide ((unhide NZ2).below b3)
  have hq3 := b3.size
  clear HB2 HX2 TX2 TZ2 NZ2  b3
  obtain ⟨p0, p1, p2, p3⟩ := unhide HX3
  go_upto_region 10 with (refine storeNB _ _ rfl rfl rfl rfl rfl (unhide TX3) rfl rfl ?_; intro V4 n_ t_ bb_ s_ k_)
  clear p0 p1 p2 p3
  have HX4 := hide n_
  have TX4 := hide t_
  have HB4 := hide (bb_ _ _ (unhide HB3) (Nat.le_refl _))
  have hx_ := (unhide HX3).lt
  have TZ4 := hide (there_blk (unhide TZ3) (k_ _ (by omega)))
  have NZ4 := hide ((unhide NZ3).but (k_ _ (by omega)))
  have hq4 := Nat.le_of_eq s_
  have hr4 := Nat.le_of_eq s_.symm
  have MT4 := hide ((unhide MT3).but (L := w.heap.size) (H := w.heap.size + 1) (by omega) (fun k _ h => k_ k (by omega)) (.inr (by omega)))
  obtain ⟨mid, hmid, hmid2, mtm, ofm⟩ := unhide of_
  have hof_ := ofm.lt
  have OF4 := hide (own_blk ofm (fun g e => k_ g (by have := hof_ g e; omega)))
  have MF4 := hide (mtm.but (L := w.heap.size) (H := w.heap.size + 1) (by omega) (fun k _ h => k_ k (by omega)) (.inr (by omega)))
  clear mtm ofm
  clear HB3 HX3 TX3 TZ3 NZ3 MT3 n_ t_ bb_ s_ k_ of_
  have hcv := De.conv_all (cap := ce) (reads_bel (unhide HRB) (unhide HB4))
  rw [unhide HBL] at hcv
  have KE : Hid (V4.heap.size = V4.heap.size) := hide rfl
  have hnl : fs.length ≤ 200 := by rw [unhide HFL]; exact hf200
  have hf1 := free_at (unhide TX4) (k := 2) (by omega)
  have HOB := hide (unhide OF4).lt
  obtain ⟨p0, p1, p2, p3⟩ := unhide HX4
  have FRM : Hid (Fm.RM (V4.alloc (.cells #[.int .i64 x, .int .i64 y, .int .i64 (t + 1), .string (strB bs)] 49)) (some ⟨V4.heap.size, 0, none⟩) [⟨x, y, t + 1, strB bs⟩]) := hide (Fm.rm_new V4 ⟨x, y, t + 1, strB bs⟩)
  go_upto_region 11 with (at_builtin; refine Fm.wpList_apS ((unhide OF4).alloc _) V4.heap.size 0 1 1 [⟨x, y, t + 1, strB bs⟩] rfl (unhide FRM) (by simp only [List.length_cons, List.length_nil]; omega) (by simp; omega) rfl _ _ rfl rfl rfl ?_; intro v_ V5 ho hg; have hkp : ∀ k, k < V4.heap.size → k < mid → V5.heap[k]? = V4.heap[k]? := (fun k hk hm => (hg.block k (by simp; omega) (fun e => by have := (unhide HOB) k e.symm; omega)).trans ((bel_new V4 _).block k hk)); have hz5 : V4.heap.size < V5.heap.size := Nat.lt_of_lt_of_le (by simp) hg.size; have hBE : Below w.heap.size w V5 := Fm.below_own ((unhide HB4).alloc (unhide HB4).size _) ((unhide OF4).alloc _) hg (by omega) (by simp; have := (unhide HB4).size; omega); have hLS := Fm.lst_own rfl ho; obtain ⟨d5, c5, rfl, l5⟩ := hLS; have hwl := (unhide HX4).lt; have f2 := free_at (there_blk (unhide TX4) (hkp w.heap.size hwl (by omega))) (k := 2) (by omega); obtain ⟨y0, y1, y2, y3⟩ := (unhide HX4).but (hkp w.heap.size hwl (by omega)); clear ho hg)
  clear p0 p1 p2 p3 f2 y0 y1 y2 y3 hcv hf1
  have hwl := (unhide HX4).lt
  have hz2 := (unhide NZ4).lt
  have HX5 := hide ((unhide HX4).but (hkp w.heap.size hwl (by omega)))
  have TX5 := hide (there_blk (unhide TX4) (hkp w.heap.size hwl (by omega)))
  have TZ5 := hide (there_blk (unhide TZ4) (hkp (w.heap.size + 1) hz2 (by omega)))
  have MF5 := hide ((unhide MF4).but (L := mid) (H := V4.heap.size) (by omega) (fun k hk h => hkp k hk (by omega)) (.inl (Nat.le_refl _)))
  have HB5 := hide hBE
  have HL5 := hide l5
  clear HX4 TX4 TZ4 NZ4 MF4 HB4 hBE l5 hkp MT4 OF4
  have hln : (fs ++ [(⟨x, y, t + 1, strB bs⟩ : Fm.R)]).length = fs.length + 1 := by simp
  have HX6 := hide ((unhide HX5).set2 (.slice d5 (fs.length + 1) c5))
  have TZ6 := hide (there_at (p := ⟨w.heap.size, 2, none⟩) (v := .slice d5 (fs.length + 1) c5) (unhide TZ5))
  have HB6 := hide ((unhide HB5).setCell (p := ⟨w.heap.size, 2, none⟩) (Nat.le_refl _) (.slice d5 (fs.length + 1) c5))
  have ho6 : ∀ x, x ≠ w.heap.size → (V5.setCell ⟨w.heap.size, 2, none⟩ (.slice d5 (fs.length + 1) c5)).heap[x]? = V5.heap[x]? := fun x hx => Below.heap_setCell _ _ _ _ hx
  have hq6 : (V5.setCell ⟨w.heap.size, 2, none⟩ (.slice d5 (fs.length + 1) c5)).heap.size = V5.heap.size := by simp [World.setCell]
  obtain ⟨V6, hV6⟩ : ∃ V, V5.setCell ⟨w.heap.size, 2, none⟩ (.slice d5 (fs.length + 1) c5) = V := ⟨_, rfl⟩
  rw [hV6] at HX6 TZ6 HB6 ho6 hq6 ⊢
  clear hV6
  have MF6 := hide ((unhide MF5).but (L := w.heap.size) (H := w.heap.size + 1) (by omega) (fun k _ h => ho6 k (by omega)) (.inr (by omega)))
  have HL6 := hide ((unhide HL5).but (p := fun k => k ≠ w.heap.size) (by omega) (fun k _ h => ho6 k h) (fun k h1 h2 => by omega))
  clear HX5 TX5 TZ5 MF5 HB5 HL5 ho6
  obtain ⟨p0, p1, p2, p3⟩ := unhide HX6
  go_wp2_with (refine storeNB _ _ rfl rfl rfl rfl rfl (unhide TZ6) rfl rfl ?_; intro V9 n9 t9 bb9 s9 k9)
  clear p0 p1 p2 p3
  (try rw [Exit.noGoto_ret])
  have hlt_ := (bb9 _ _ (unhide HB6) (Nat.le_succ _)).size
  have hrw := unhide HN
  have m9 := (unhide MF6).but (L := w.heap.size + 1) (H := w.heap.size + 2) (by omega) (fun k _ h => k9 k (by omega)) (.inr (by omega))
  have l9 := (unhide HL6).but (p := fun k => k ≠ w.heap.size + 1) (by omega) (fun k _ h => k9 k h) (fun k h1 h2 => by omega)
  refine bodyPost_ret (v := .tuple #[.agg #[.slice A3 n cA, .slice b' cs.length cB, .slice d5 (fs.length + 1) c5, .int .i64 t], .int .i64 0]) (Na.resultsNC rfl _ _ rfl n9 rfl) rfl ⟨_, rfl, bb9 _ _ (unhide HB6) (Nat.le_succ _), A3, b', d5, cA, cB, c5, qs, by rw [hrw, hln], ?_⟩
  exact (RT.join m9 l9 (by omega) (by omega)).mono (by omega) (by omega)
end Nt
namespace By
open W1
theorem Reads.below {w w' : World} {a : Option Addr} {bs : List UInt8} (h : Reads w a bs) (hb : Below w.heap.size w w') : Reads w' a bs := Nt.reads_bel h hb
theorem Reads.drew {w : World} {a : Option Addr} {bs : List UInt8} (h : Reads w a bs) : Reads w.drew a bs := h
theorem Opn.but {w w' : World} {a : Option Addr} {g n : Nat} (h : Opn w a g n) (hb : w'.heap[g]? = w.heap[g]?) : Opn w' a g n := by
  rcases h with h | ⟨off, rfl, hc⟩
  · exact .inl h
  · exact .inr ⟨off, rfl, fun i hi => ⟨by rw [World.cell?_of_block (a := ⟨g, off + i, none⟩) hb]; exact (hc i hi).1, by rw [World.frozen?_of_block (a := ⟨g, off + i, none⟩) hb]; exact (hc i hi).2⟩⟩
theorem Opn.drew {w : World} {a : Option Addr} {g n : Nat} (h : Opn w a g n) : Opn w.drew a g n := h
theorem Opn.below {w w' : World} {a : Option Addr} {g n : Nat} (h : Opn w a g n) (hb : Below w.heap.size w w') : Opn w' a g n := by
  rcases h with h | ⟨off, rfl, hc⟩
  · exact .inl h
  · rcases Nat.eq_zero_or_pos n with e | e
    · exact .inl e
    · obtain ⟨v, hv⟩ := Option.isSome_iff_exists.1 (hc 0 e).1
      exact Opn.but (.inr ⟨off, rfl, hc⟩) (hb.block g (World.block_lt_of_cell? _ _ hv))
end By
namespace Nt
theorem bel_drewQ (w : World) (n : Nat) : Below w.heap.size w (w.drewN n) := ⟨rfl, rfl, rfl, Nat.le_refl _, fun _ _ => rfl⟩
end Nt
end Go.Proofs.YthfcigfgpimimaaGreat
namespace Go.Proofs.YthfcigfgpimimaaGreat
open Go.ChangeShapes Go.WideShapes Go.ChangeAt Go.RowKit
set_option linter.unusedVariables false
set_option linter.unusedSimpArgs false
set_option maxRecDepth 100000
attribute [local go_sem ↓] Go.wp_at_zero Go.wp_at_succ
namespace Nt
open W1 Rt
set_option maxHeartbeats 4000000 in
/-- The cells that read as a router. -/
theorem open_one {H : Type} {enc : TypeId × Value → H} {W : World} {fuel : Nat} {c : List Value} {y : DataW H × List MemPlace} (hl : c.length = 13)
    (hf : DataW.trod enc Tryz.prog W 0 (fun _ => true) true fuel 67 c = some y) : ∃ (m : Rm) (p : Pl), c = cl m p ∧ Sx m ∧ Rd W m p := by
  obtain ⟨c0, c1, c2, c3, c4, c5, c6, c7, c8, c9, c10, c11, c12, rfl⟩ := list13 hl
  obtain ⟨xs, n, _, _, _, hlen, hf⟩ := DataW.trod_struct Tryz.underlying67 hf
  obtain ⟨x0, x1, x2, x3, x4, x5, x6, x7, x8, x9, x10, x11, rfl⟩ := list12 hlen
  have k0 := hf 0 _ rfl
  have k1 := hf 1 _ rfl
  have k2 := hf 2 _ rfl
  have k3 := hf 3 _ rfl
  have k4 := hf 4 _ rfl
  have k5 := hf 5 _ rfl
  have k6 := hf 6 _ rfl
  have k7 := hf 7 _ rfl
  have k8 := hf 8 _ rfl
  have k9 := hf 9 _ rfl
  have k10 := hf 10 _ rfl
  have k11 := hf 11 _ rfl
  clear hf hlen
  simp [cells_int, cells_lk, cells_tu, cells_ed, cells_top] at k0 k1 k2 k3 k4 k5 k6 k7 k8 k9 k10 k11
  obtain ⟨a0, e0, _, _⟩ := DataW.trod_int Tryz.underlying3 k0
  obtain ⟨a1, e1, _, _⟩ := DataW.trod_int Tryz.underlying3 k1
  obtain ⟨a2, e2, _, _⟩ := DataW.trod_int Tryz.underlying3 k2
  obtain ⟨a3, e3, _, _⟩ := DataW.trod_int Tryz.underlying3 k3
  obtain ⟨a4, e4, _, _⟩ := DataW.trod_int Tryz.underlying3 k4
  obtain ⟨a11, e11, _, _⟩ := DataW.trod_int Tryz.underlying3 k11
  simp at e0 e1 e2 e3 e4 e11
  subst e0 e1 e2 e3 e4 e11
  obtain ⟨ys, n', _, _, _, hlen', hg⟩ := DataW.trod_struct Tryz.underlying64 k9
  obtain ⟨y0, y1, rfl⟩ := Tq.listR hlen'
  have t0 := hg 0 _ rfl
  have t1 := hg 1 _ rfl
  simp [cells_so, cells_tu] at t0 t1
  obtain ⟨g1, l1, p1, m1, rfl, h1, j1, r1⟩ := Lk.open_cell k5
  obtain ⟨g2, l2, p2, m2, rfl, h2, j2, r2⟩ := Tq.open_cellT k6
  obtain ⟨g3, l3, p3, m3, rfl, h3, j3, r3⟩ := Tq.open_cellT k7
  obtain ⟨g4, l4, p4, m4, rfl, h4, j4, r4⟩ := Tq.open_cellT k8
  obtain ⟨g5, l5, p5, m5, rfl, h5, j5, r5⟩ := So.open_cell t0
  obtain ⟨g6, l6, p6, m6, rfl, h6, j6, r6⟩ := Tq.open_cellT t1
  obtain ⟨g7, l7, p7, m7, rfl, h7, j7, r7⟩ := Ed.open_cell k10
  subst h1 h2 h3 h4 h5 h6 h7
  exact ⟨⟨a0, a1, a2, a3, a4, a11, m1, m2, m3, m4, m5, m6, m7⟩, ⟨g1, g2, g3, g4, g5, g6, g7, p1, p2, p3, p4, p5, p6, p7⟩, rfl, ⟨j1, j2, j3, j4, j5, j6, j7⟩, r1, r2, r3, r4, r5, r6, r7⟩
theorem plain_add (b off k : Nat) : (⟨b, off, none⟩ : Addr).add k = ⟨b, off + k, none⟩ := by unfold Addr.add; split <;> simp_all
/-- A row of routers that came in. -/
theorem open_row {H : Type} {enc : TypeId × Value → H} {W : World} {v : Value} {fuel : Nat} {y : DataW H × List MemPlace}
    (hf : DataW.trod enc Tryz.prog W 0 (fun _ => true) true fuel 22 [v] = some y) : ∃ a len cap, ∃ (ms : List Rm) (ps : List Pl), v = .slice a len cap ∧ ms.length = len ∧ len ≤ maxLen ∧ (∀ i, i < ms.length → Sx (ms.getD i Rm.zero)) ∧ NR W a ms ps := by
  rcases Deep.open_slice Tryz.underlying22 hf with ⟨hcs, _⟩ | ⟨x, len, cap, m, n, D, Pc, hcs, _, hl, hm, hmm, _, hx⟩
  · simp only [List.cons.injEq, and_true] at hcs
    subst hcs
    exact ⟨none, 0, 0, [], [], rfl, rfl, Nat.zero_le _, fun i hi => absurd hi (Nat.not_lt_zero i), .inl rfl⟩
  · simp only [List.cons.injEq, and_true] at hcs
    subst hcs
    simp at hmm
    subst hmm
    rw [cells13] at hx
    by_cases h0 : len = 0
    · subst h0; exact ⟨_, _, _, [], [], rfl, rfl, Nat.zero_le _, fun i hi => absurd hi (Nat.not_lt_zero i), .inl rfl⟩
    obtain ⟨b, off, spot⟩ := x
    have hsp : spot = none := by
      obtain ⟨cs', h1, _⟩ := hx 0 (by omega)
      obtain ⟨_, hlen, hc⟩ := World.cells?_some h1
      have h2 := hc 0 (by omega)
      rw [List.getElem?_eq_getElem (by omega)] at h2
      simpa [Addr.add] using World.cell?_spot h2
    subst hsp
    have hex : ∀ i, i < len → ∃ mp : Rm × Pl, W.rangeAt b (off + i * 13) (cl mp.1 mp.2) ∧ Sx mp.1 ∧ Rd W mp.1 mp.2 := by
      intro i hi
      obtain ⟨cs', h1, h2⟩ := hx i (by omega)
      obtain ⟨_, hlen, hc⟩ := World.cells?_some h1
      obtain ⟨m, p, rfl, hs, hr⟩ := open_one hlen h2
      refine ⟨(m, p), fun j u hu => ?_, hs, hr⟩
      have hj : j < 13 := by
        rcases Nat.lt_or_ge j 13 with h | h
        · exact h
        · rw [List.getElem?_eq_none (by rw [cl_len]; exact h)] at hu; cases hu
      have q := hc j hj
      rw [plain_add, plain_add] at q
      rw [q]; exact hu
    have hin : Inhabited (Rm × Pl) := ⟨(Rm.zero, Pl.zero)⟩
    obtain ⟨V, hV⟩ := Deep.choose_lt hex
    have e1 : ∀ i, i < len → ((List.range len).map fun i => (V i).1).getD i Rm.zero = (V i).1 := fun i hi => by
      rw [List.getD_eq_getElem?_getD, List.getElem?_map, List.getElem?_range hi]; rfl
    have e2 : ∀ i, i < len → ((List.range len).map fun i => (V i).2).getD i Pl.zero = (V i).2 := fun i hi => by
      rw [List.getD_eq_getElem?_getD, List.getElem?_map, List.getElem?_range hi]; rfl
    refine ⟨_, _, _, (List.range len).map fun i => (V i).1, (List.range len).map fun i => (V i).2, rfl, by simp, Nat.le_trans hl hm, fun i hi => ?_, .inr ⟨b, off, rfl, fun i hi => ?_⟩⟩
    all_goals have hi' : i < len := by simpa using hi
    · rw [e1 i hi']; exact (hV i hi').2.1
    · rw [e1 i hi', e2 i hi']; exact ⟨(hV i hi').1, (hV i hi').2.2⟩
theorem cellsNet : Tryz.prog.cellsOf 26 = 4 := by kernel_rfl
theorem cells_ro : Tryz.prog.cellsOf 22 = 1 := by kernel_rfl
theorem cells_in : Tryz.prog.cellsOf 23 = 1 := by kernel_rfl
theorem cells_fr : Tryz.prog.cellsOf 24 = 1 := by kernel_rfl
theorem cells_i : Tryz.prog.cellsOf 3 = 1 := by kernel_rfl
theorem list4 {α : Type} {l : List α} (h : l.length = 4) : ∃ c0 c1 c2 c3, l = [c0, c1, c2, c3] := by
  match l, h with
  | [c0, c1, c2, c3], _ => exact ⟨c0, c1, c2, c3, rfl⟩
/-- A list of ints within a struct that came in. -/
theorem open_ints_cell {H : Type} {enc : TypeId × Value → H} {W : World} {v : Value} {fuel : Nat} {y : DataW H × List MemPlace}
    (hf : DataW.trod enc Tryz.prog W 0 (fun _ => true) true fuel 23 [v] = some y) : ∃ a len cap, ∃ zs : List Int, v = .slice a len cap ∧ zs.length = len ∧ len ≤ maxLen ∧ In.RM W a zs := by
  obtain ⟨a, len, cap, hv⟩ : ∃ a len cap, v = .slice a len cap := by
    rcases open_ints Tryz.underlying23 Tryz.underlying3 (by kernel_rfl) hf with ⟨hcs, _⟩ | ⟨x, l, c, zs, hcs, _⟩
    · simp at hcs; exact ⟨_, _, _, hcs⟩
    · simp at hcs; exact ⟨_, _, _, hcs⟩
  subst hv
  obtain ⟨zs, h1, h2, h3⟩ := In.open_list (a := a) (len := len) (cap := cap) (d := y.1) (p := y.2) ⟨fuel, hf⟩
  exact ⟨a, len, cap, zs, rfl, h1, h2, h3⟩
set_option maxHeartbeats 4000000 in
/-- A net that came in by value. -/
theorem open_net {H : Type} {enc : TypeId × Value → H} {W : World} {r : Reach} {b0 : Nat} {v : Value} {d : DataW H} {p : List MemPlace}
    (hv : Value.okWide Tryz.prog W r b0 26 v) (h : DataW.Trod enc Tryz.prog W 0 (fun _ => true) true 26 v d p) :
    ∃ a b d ca cb cd t, ∃ (ms : List Rm) (ps : List Pl) (cs : List Int) (fs : List Fm.R), v = .agg #[.slice a ms.length ca, .slice b cs.length cb, .slice d fs.length cd, .int .i64 t] ∧ (ms.length ≤ maxLen ∧ cs.length ≤ maxLen ∧ fs.length ≤ maxLen ∧ (∀ i, i < ms.length → Sx (ms.getD i Rm.zero)) ∧ ∀ i, i < fs.length → (fs.getD i Fm.R.zero).bs.size ≤ maxLen) ∧ NR W a ms ps ∧ In.RM W b cs ∧ Fm.RM W d fs := by
  obtain ⟨cs, rfl, hsz⟩ := okWide_struct Tryz.underlying26 hv
  obtain ⟨l⟩ := cs
  obtain ⟨c0, c1, c2, c3, rfl⟩ := list4 (hsz.trans cellsNet)
  obtain ⟨fuel, hf⟩ := h
  obtain ⟨xs, n, _, _, _, hlen, hf⟩ := DataW.trod_struct Tryz.underlying26 hf
  obtain ⟨x0, x1, x2, x3, rfl⟩ := list4 hlen
  have k0 := hf 0 _ rfl
  have k1 := hf 1 _ rfl
  have k2 := hf 2 _ rfl
  have k3 := hf 3 _ rfl
  clear hf hsz hv hlen
  simp [Value.cells, cells_ro, cells_in, cells_fr, cells_i] at k0 k1 k2 k3
  obtain ⟨t, e3, _, _⟩ := DataW.trod_int Tryz.underlying3 k3
  simp at e3
  subst e3
  obtain ⟨a, l0, ca, ms, ps, rfl, h0, j0, s0, r0⟩ := open_row k0
  obtain ⟨b, l1, cb, zs, rfl, h1, j1, r1⟩ := open_ints_cell k1
  obtain ⟨d, l2, cd, fs, rfl, h2, j2, r2, s2⟩ := Fm.open_cell k2
  subst h0 h1 h2
  exact ⟨a, b, d, ca, cb, cd, t, ms, ps, zs, fs, rfl, ⟨j0, j1, j2, s0, s2⟩, r0, r1, r2⟩
end Nt
end Go.Proofs.YthfcigfgpimimaaGreat
namespace Go.Proofs.YthfcigfgpimimaaGreat
open Go.ChangeShapes Go.WideShapes Go.ChangeAt Go.RowKit
set_option linter.unusedVariables false
set_option linter.unusedSimpArgs false
set_option maxRecDepth 100000
attribute [local go_sem ↓] Go.wp_at_zero Go.wp_at_succ
namespace Nt
open W1 Rt
set_option maxHeartbeats 8000000 in
theorem eqNS (a b : Option Addr) (ms : List Rm) (ps qs : List Pl) (ca cb : Nat) (w : World) (hm : ms.length ≤ 1048576) (hs : ∀ i, i < ms.length → Sm (ms.getD i Rm.zero)) (hr : NR w a ms ps) (hr' : NR w b ms qs) :
    Calls Tryz.prog 25 #[.slice a ms.length ca, .slice b ms.length cb] w fun e w' => e = .returned (.bool true) ∧ Below w.heap.size w w' := by
  have HR := hide hr
  have HR' := hide hr'
  have HS := hide hs
  clear hr hr' hs
  generalize hN : ms.length = n at *
  have HN := hide hN
  clear hN
  go_enter Tryz.func25, Tryz.ntmps25
  go_wp2
  go_loopw [5] (fun i wr => ∃ j : Nat, j ≤ n ∧ i = .int .i64 j ∧ Hid (Below w.heap.size w wr)) (fun i _ => n - (intOf i).toNat)
  case atStart => exact ⟨0, by omega, rfl, hide (Below.refl _ _)⟩
  case round =>
    obtain ⟨j, hj, rfl, hbl⟩ := hrel
    by_cases hlt : (j : Int) < (n : Int)
    · have k0 : (0 : Int) ≤ (j : Int) := by omega
      have hlen : j < ms.length := by rw [unhide HN]; omega
      obtain ⟨g, off, rfl, hA, hD⟩ := ((unhide HR).below (unhide hbl)).at hlen
      obtain ⟨g', off', rfl, hA', hD'⟩ := ((unhide HR').below (unhide hbl)).at hlen
      have HM := hide ((unhide HS) j (by omega))
      have HA := hide hA
      have HA' := hide hA'
      have HD := hide hD
      have HD' := hide hD'
      clear hlen hA hA' hD hD'
      generalize ms.getD j Rm.zero = m at *
      generalize ps.getD j Pl.zero = p at *
      generalize qs.getD j Pl.zero = q at *
      go_wp2_with fail
      refine wp_region_noPanic ?_
      refine wp_region_held_drew (S := fun w' => w'.rangeAt g (off + j * 13) (cl m p) ∧ w'.rangeAt g' (off' + j * 13) (cl m q)) (by kernel_rfl) (⟨unhide HA, unhide HA'⟩) (fun hHeld => ?_)
      refine Rg.t 0 17 ?_
      refine Rg.t 1 18 ?_
      refine Rg.t 2 19 ?_
      refine Rg.t (v := .agg (cl m p).toArray) 3 20 ?_ (hv := fun w0 hSw => execI _ rfl rfl hSw.1)
      refine Rg.t 4 21 ?_
      refine Rg.t 5 22 ?_
      refine Rg.t 6 23 ?_
      refine Rg.t (v := .agg (cl m q).toArray) 7 24 ?_ (hv := fun w0 hSw => execI _ rfl rfl hSw.2)
      (refine Rg.o 8 (fun K hK => ?_); go_simp)
      refine (eqN m p q wr.drew (unhide HM) (unhide HD).drew (unhide HD').drew).mono ?_
      rintro e w1 ⟨rfl, b1⟩
      refine hK.out _ _ ⟨rng_below (w := wr.drew) (unhide HA) b1, rng_below (w := wr.drew) (unhide HA') b1⟩ (fun hHeld => ?_)
      clear hK K
      (try simp only [Act.put, List.setIfInBounds_toArray, List.set_cons_zero, List.set_cons_succ])
      refine Rg.t 9 26 ?_
      refine wpAnyH_done (by kernel_rfl) (NoPanic.normal ?_) _
      have hb1 := hide ((unhide hbl).drew.trans (b1.mono (by show w.heap.size ≤ wr.heap.size; exact (unhide hbl).size)))
      clear hHeld b1 HA HA' HD HD'
      go_wp2_with fail
      go_roundw
      case rel => exact ⟨j + 1, by omega, by go_num, hb1⟩
      case measure => simp [intOf]; omega
    · go_wp2
      go_ret
      exact ⟨rfl, unhide hbl⟩
set_option maxHeartbeats 8000000 in
theorem eqNt (a b d a' b' d' : Option Addr) (ca cb cd ca' cb' cd' : Nat) (t : Int) (ms : List Rm) (ps qs : List Pl) (cs : List Int) (fs : List Fm.R) (w : World) (hm : ms.length ≤ 1048576) (hc : cs.length ≤ 1048576) (hf : fs.length ≤ 1048576) (hs : ∀ i, i < ms.length → Sm (ms.getD i Rm.zero)) (hr : NR w a ms ps) (hr' : NR w a' ms qs) (hi : In.RM w b cs) (hi' : In.RM w b' cs) (hz : Fm.RM w d fs) (hz' : Fm.RM w d' fs) :
    Calls Tryz.prog 9 #[.agg #[.slice a ms.length ca, .slice b cs.length cb, .slice d fs.length cd, .int .i64 t], .agg #[.slice a' ms.length ca', .slice b' cs.length cb', .slice d' fs.length cd', .int .i64 t]] w fun e w' => e = .returned (.bool true) ∧ Below w.heap.size w w' := by
  have b0 : Below w.heap.size w ((w.alloc (.cells #[.slice a ms.length ca, .slice b cs.length cb, .slice d fs.length cd, .int .i64 t] 32)).alloc (.cells #[.slice a' ms.length ca', .slice b' cs.length cb', .slice d' fs.length cd', .int .i64 t] 32)) := ((Below.refl _ _).alloc (Nat.le_refl _) _).alloc (by simp) _
  have HX0 : Hid (NB _ w.heap.size _ _ _ _) := hide ((nb_new w (.slice a ms.length ca) (.slice b cs.length cb) (.slice d fs.length cd) t 32).below (bel_new _ (.cells #[.slice a' ms.length ca', .slice b' cs.length cb', .slice d' fs.length cd', .int .i64 t] 32)))
  have HY0 : Hid (NB _ (w.heap.size + 1) _ _ _ _) := hide (by have := nb_new (w.alloc (.cells #[.slice a ms.length ca, .slice b cs.length cb, .slice d fs.length cd, .int .i64 t] 32)) (.slice a' ms.length ca') (.slice b' cs.length cb') (.slice d' fs.length cd') t 32; simpa using this)
  have HB0 := hide b0
  have HR := hide (hr.below b0)
  have HR' := hide (hr'.below b0)
  have HI := hide (hi.below b0)
  have HI' := hide (hi'.below b0)
  have HZ := hide (hz.below b0)
  have HZ' := hide (hz'.below b0)
  have HS := hide hs
  have hne : (t != t) = false := by simp
  clear hr hr' hi hi' hz hz' hs b0
  go_enter Tryz.func9, Tryz.ntmps9
  go_wp2_with fail
  generalize (w.alloc (.cells #[.slice a ms.length ca, .slice b cs.length cb, .slice d fs.length cd, .int .i64 t] 32)).alloc (.cells #[.slice a' ms.length ca', .slice b' cs.length cb', .slice d' fs.length cd', .int .i64 t] 32) = w0 at *
  refine (eqNS _ _ ms ps qs _ _ _ hm (unhide HS) (unhide HR) (unhide HR')).mono ?_
  rintro e w1 ⟨rfl, b1⟩
  have HX1 := hide ((unhide HX0).below b1)
  have HY1 := hide ((unhide HY0).below b1)
  have HB1 := hide ((unhide HB0).trans (b1.mono (unhide HB0).size))
  have HI1 := hide ((unhide HI).below b1)
  have HI1' := hide ((unhide HI').below b1)
  have HZ1 := hide ((unhide HZ).below b1)
  have HZ1' := hide ((unhide HZ').below b1)
  clear HX0 HY0 HB0 HI HI' HZ HZ' HR HR' b1
  obtain ⟨p0, p1, p2, p3⟩ := unhide HX1
  obtain ⟨q0, q1, q2, q3⟩ := unhide HY1
  go_wp2_with fail
  clear p0 p1 p2 p3 q0 q1 q2 q3
  refine (In.eqS _ _ cs _ _ _ hc (unhide HI1) (unhide HI1')).mono ?_
  rintro e w2 ⟨rfl, b2⟩
  have HX2 := hide ((unhide HX1).below b2)
  have HY2 := hide ((unhide HY1).below b2)
  have HB2 := hide ((unhide HB1).trans (b2.mono (unhide HB1).size))
  have HZ2 := hide ((unhide HZ1).below b2)
  have HZ2' := hide ((unhide HZ1').below b2)
  clear HX1 HY1 HB1 HI1 HI1' HZ1 HZ1' b2
  obtain ⟨p0, p1, p2, p3⟩ := unhide HX2
  obtain ⟨q0, q1, q2, q3⟩ := unhide HY2
  go_wp2_with fail
  clear p0 p1 p2 p3 q0 q1 q2 q3
  refine (Fm.eqS _ _ fs _ _ _ hf (unhide HZ2) (unhide HZ2')).mono ?_
  rintro e w3 ⟨rfl, b3⟩
  have HX3 := hide ((unhide HX2).below b3)
  have HY3 := hide ((unhide HY2).below b3)
  have HB3 := hide ((unhide HB2).trans (b3.mono (unhide HB2).size))
  clear HX2 HY2 HB2 HZ2 HZ2' b3
  obtain ⟨p0, p1, p2, p3⟩ := unhide HX3
  obtain ⟨q0, q1, q2, q3⟩ := unhide HY3
  go_wp2_with fail
  go_ret
  exact ⟨rfl, unhide HB3⟩
end Nt
end Go.Proofs.YthfcigfgpimimaaGreat
namespace Go.Proofs.YthfcigfgpimimaaGreat
open Go.ChangeShapes Go.WideShapes Go.ChangeAt Go.RowKit
set_option linter.unusedVariables false
set_option linter.unusedSimpArgs false
set_option maxRecDepth 100000
attribute [local go_sem ↓] Go.wp_at_zero Go.wp_at_succ
namespace Nt
open W1 Rt
set_option maxHeartbeats 8000000 in
theorem heldNt (a b d : Option Addr) (ca cb cd : Nat) (t : Int) (K : Int) (lo hi : Nat) (ms : List Rm) (qs : List Pl) (cs : List Int) (fs : List Fm.R) (w : World) (hm : ms.length ≤ 1048576) (hc : cs.length ≤ 1048576) (hf : fs.length ≤ 1048576) (hK : 0 ≤ K) (hK1 : K + totK ms cs fs ≤ 99999990) (hs : ∀ i, i < ms.length → Sm (ms.getD i Rm.zero)) (h : MM w a b d K ms qs cs fs lo hi) :
    Calls Tryz.prog 13 #[.agg #[.slice a ms.length ca, .slice b cs.length cb, .slice d fs.length cd, .int .i64 t], .int .i64 K] w fun e w' => e = .returned (.int .i64 (K + totK ms cs fs)) ∧ Below w.heap.size w w' := by
  have b0 := bel_new w (.cells #[.slice a ms.length ca, .slice b cs.length cb, .slice d fs.length cd, .int .i64 t] 32)
  have HX0 := hide (nb_new w (.slice a ms.length ca) (.slice b cs.length cb) (.slice d fs.length cd) t 32)
  have HB0 := hide b0
  obtain ⟨f, p1, q1, p2, q2, p3, q3, _, h1, h2, h3⟩ := h.below b0
  obtain ⟨r, hr⟩ : ∃ r, K + sumK ms ms.length = r := ⟨_, rfl⟩
  have hsp := sumK_pos ms ms.length
  have hr0 : 0 ≤ r := by omega
  have hr1 : r + cs.length + 4 * fs.length ≤ 99999990 := by unfold totK at hK1; omega
  have HTK : Hid (r + (cs.length : Int) + 4 * (fs.length : Int) = K + totK ms cs fs) := hide (by unfold totK; omega)
  rw [hr] at h2 h3
  have C1 := hide (heldNF a ca p1 q1 ms.length f K ms (fun i => qs.getD i Pl.zero) _ rfl hm hK (by omega) hs h1)
  have C2 := hide (In.heldF b cb cs.length p2 q2 r _ hr0 (by omega) hc h2)
  have C3 := hide (Fm.hdFF d cd fs.length p3 q3 (r + (cs.length : Int)) _ (by omega) (by omega) hf h3)
  rw [hr] at C1
  have n1 : ¬ r < 0 := by omega
  have n2 : ¬ (r + (cs.length : Int)) < 0 := by omega
  have n3 : ¬ (r + (cs.length : Int) + 4 * (fs.length : Int)) < 0 := by omega
  clear h h1 h2 h3 b0 hK1 hs hsp hr
  go_enter Tryz.func13, Tryz.ntmps13
  obtain ⟨x0, x1, x2, x3⟩ := unhide HX0
  go_wp2_with fail
  generalize w.alloc (.cells #[.slice a ms.length ca, .slice b cs.length cb, .slice d fs.length cd, .int .i64 t] 32) = w0 at *
  refine (unhide C1).mono ?_
  rintro e w1 ⟨rfl, hw_⟩
  rw [hw_]
  clear hw_
  go_wp2_with fail
  refine (unhide C2).mono ?_
  rintro e w2 ⟨rfl, hw_⟩
  rw [hw_]
  clear hw_
  go_wp2_with fail
  refine (unhide C3).mono ?_
  rintro e w3 ⟨rfl, b3⟩
  have HB3 := hide ((unhide HB0).trans (b3.mono (unhide HB0).size))
  clear b3 x0 x1 x2 x3
  go_wp2_with fail
  go_ret
  exact ⟨by rw [unhide HTK]; rfl, unhide HB3⟩
end Nt
end Go.Proofs.YthfcigfgpimimaaGreat
namespace Go.Proofs.YthfcigfgpimimaaGreat
open Go.ChangeShapes Go.WideShapes Go.ChangeAt Go.RowKit
set_option linter.unusedVariables false
namespace At
open W1 By
end At
namespace Op
open W1 By
/-- A slice of bytes that came in: what it reads as. -/
theorem open_bytes {H : Type} {enc : TypeId × Value → H} {W : World} {a : Option Addr} {len cap : Nat} {d : DataW H} {p : List MemPlace}
    (h : DataW.Trod enc Tryz.prog W 0 (fun _ => true) true 27 (.slice a len cap) d p) : ∃ bs : List UInt8, bs.length = len ∧ len ≤ maxLen ∧ Reads W a bs := by
  obtain ⟨fuel, hf⟩ := h
  rcases open_ints Tryz.underlying27 Tryz.underlying5 (by kernel_rfl) hf with ⟨hcs, _⟩ | ⟨x, l, c, zs, hcs, _, hl, hm, hz, _, hcell, hwz⟩
  · simp [Value.cells] at hcs
    obtain ⟨rfl, rfl, rfl⟩ := hcs
    exact ⟨[], rfl, Nat.zero_le _, .inl rfl⟩
  · simp [Value.cells] at hcs
    obtain ⟨rfl, rfl, rfl⟩ := hcs
    have hz' : zs.length = cap := by simpa using hz
    refine ⟨(zs.take len).map fun z => UInt8.ofNat z.toNat, by simp; omega, Nat.le_trans hl hm, ?_⟩
    by_cases h0 : len = 0
    · subst h0; exact .inl (by simp)
    obtain ⟨b, off, spot⟩ := x
    have hc0 := hcell 0 (by omega)
    have hspot : spot = none := by simpa [Addr.add] using World.cell?_spot hc0
    subst hspot
    refine .inr ⟨b, off, rfl, fun i hi => ?_⟩
    have hi' : i < len := by simp at hi; omega
    have hc := hcell i (by omega)
    have e1 : (⟨b, off, none⟩ : Addr).add i = ⟨b, off + i, none⟩ := by simp [Addr.add]
    rw [e1] at hc
    rw [hc]
    have hzi : i < zs.length := by omega
    have hw := hwz _ (List.getElem_mem hzi)
    have hb : 0 ≤ zs[i] ∧ zs[i] ≤ 255 := by simpa [Lit.wf, IntKind.min, IntKind.max, IntKind.signed, IntKind.bits] using hw
    have e2 : zs.getD i 0 = zs[i] := by rw [List.getD_eq_getElem?_getD, List.getElem?_eq_getElem hzi]; rfl
    have e3 : ((zs.take len).map fun z => UInt8.ofNat z.toNat).getD i 0 = UInt8.ofNat zs[i].toNat := by
      rw [List.getD_eq_getElem?_getD, List.getElem?_map, List.getElem?_take_of_lt hi', List.getElem?_eq_getElem hzi]; rfl
    rw [e2, e3]
    congr 2
    rw [UInt8.toNat_ofNat']
    omega
end Op
end Go.Proofs.YthfcigfgpimimaaGreat
namespace Go.Proofs.YthfcigfgpimimaaGreat.fnExactInject
open Go.ChangeShapes Go.WideShapes Go.ChangeAt Go.RowKit
open W1 Rt Nt Na
set_option linter.unusedVariables false
set_option linter.unusedSimpArgs false
theorem own : ownKnob Tryz.prog.godebug = none := by kernel_rfl
theorem laidOut : laidOutB Tryz.prog = true := by kernel_rfl
set_option maxRecDepth 100000 in
set_option maxHeartbeats 32000000 in
theorem walk (a b d : Option Addr) (ca cb cd : Nat) (t : Int) (ms : List Rm) (ps : List Pl) (cs : List Int) (fs : List Fm.R) (hx1 : ms.length ≤ maxLen) (hx2 : cs.length ≤ maxLen) (hx3 : fs.length ≤ maxLen) (hx4 : ∀ i, i < ms.length → Sx (ms.getD i Rm.zero)) (hx5 : ∀ i, i < fs.length → (fs.getD i Fm.R.zero).bs.size ≤ maxLen) (x : Int) (wx : (Lit.int .i64 x).wf = true) (y : Int) (wy : (Lit.int .i64 y).wf = true) (eb : Option Addr) (bs : List UInt8) (ce : Nat) (hbx : bs.length ≤ maxLen) (w : World) (hr : NR w a ms ps) (hi : In.RM w b cs) (hz : Fm.RM w d fs) (hrb : By.Reads w eb bs) :
    Calls Tryz.prog 3 #[.agg #[.slice a ms.length ca, .slice b cs.length cb, .slice d fs.length cd, .int .i64 t], .int .i64 x, .int .i64 y, .slice eb bs.length ce] w fun e w' => e = .returned (.bool true) ∧ Below w.heap.size w w' := by
  have Q0 := hide (nb_new w (.slice a ms.length ca) (.slice b cs.length cb) (.slice d fs.length cd) t 26)
  have B0 := bel_new w (.cells #[.slice a ms.length ca, .slice b cs.length cb, .slice d fs.length cd, .int .i64 t] 26)
  have HR0 := hide (hr.below B0)
  have HI0 := hide (hi.below B0)
  have HZ0 := hide (hz.below B0)
  have HRW := hide hr
  have HIW := hide hi
  have HZW := hide hz
  have hq0 : (w.alloc (.cells #[.slice a ms.length ca, .slice b cs.length cb, .slice d fs.length cd, .int .i64 t] 26)).heap.size = w.heap.size + 1 := by simp
  clear hr hi hz
  have RD0 := hide (hrb.below B0)
  have hrbW := hrb
  clear hrb
  unfold maxLen at hbx
  go_enter Tryz.func3, Tryz.ntmps3
  by_cases hbig : (1048576 : Int) < (bs.length : Int)
  · go_wp2_with fail
    go_ret
    exact ⟨rfl, B0⟩
  have hbl : bs.length ≤ 1048576 := by omega
  obtain ⟨k0_0, k0_1, k0_2, k0_3⟩ := unhide Q0
  go_wp2_with fail
  clear k0_0 k0_1 k0_2 k0_3
  generalize hW_ : w.alloc (.cells #[.slice a ms.length ca, .slice b cs.length cb, .slice d fs.length cd, .int .i64 t] 26) = w0 at *
  clear hW_
  refine (szNt a b d ca cb cd t ms ps cs fs 1048576 _ (by omega) (by omega) hx1 hx2 hx3 hx4 hx5 (unhide HR0) (unhide HZ0)).mono ?_
  rintro e w1 ⟨r1, rfl, b1, hs_⟩
  have B1 := B0.trans (b1.mono B0.size)
  have sz1 : w0.heap.size ≤ w1.heap.size := b1.size
  have Q1 := hide ((unhide Q0).below b1)
  have HR1 := hide ((unhide HR0).below b1)
  have HI1 := hide ((unhide HI0).below b1)
  have HZ1 := hide ((unhide HZ0).below b1)
  have RD1 := hide ((unhide RD0).below b1)
  clear Q0 HR0 HI0 HZ0 RD0
  rcases hs_ with hs_ | ⟨hs0, hs1⟩
  · go_wp2_with fail
    go_ret
    exact ⟨rfl, B1⟩
  have hnn : ¬ r1 < 0 := by omega
  have t0_ := tot_nonneg ms
  have t1_ := totF_nonneg fs
  have hm1 : ms.length ≤ 1048576 := by omega
  have hm2 : cs.length ≤ 1048576 := by omega
  have hm3 : fs.length ≤ 1048576 := by omega
  have HSM := hide (fun i (hi : i < ms.length) => sm_of (m := ms.getD i Rm.zero) (by have := cnt_le hi; omega))
  have HTB := hide (show (ms.length : Int) + tot ms + cs.length + fs.length + totF fs ≤ 1048576 by omega)
  have HGZ := hide hx5
  clear hs0 hs1 t0_ t1_ hx1 hx2 hx3 hx4 hx5
  have HTP := hide (totK_pos ms cs fs)
  have HTK := hide (totK_le (ms := ms) (cs := cs) (fs := fs) (unhide HTB))
  have HSL := hide (ij_small (ms := ms) (cs := cs) (fs := fs) (t := t) (ap := apB x y ms.length) (bl := bs.length) (f := ⟨x, y, t + 1, strB bs⟩))
  obtain ⟨Ms, hMs_⟩ : ∃ Ms, ijM (ijE (netB ms cs fs t) (apB x y ms.length) bs.length fs.length) ms = Ms := ⟨_, rfl⟩
  have HMs := hide hMs_
  clear hMs_
  obtain ⟨Cs, hCs_⟩ : ∃ Cs, ijC (ijE (netB ms cs fs t) (apB x y ms.length) bs.length fs.length) cs = Cs := ⟨_, rfl⟩
  have HCs := hide hCs_
  clear hCs_
  obtain ⟨Fs, hFs_⟩ : ∃ Fs, ijF (ijE (netB ms cs fs t) (apB x y ms.length) bs.length fs.length) fs ⟨x, y, t + 1, strB bs⟩ = Fs := ⟨_, rfl⟩
  have HFs := hide hFs_
  clear hFs_
  obtain ⟨T, hT_⟩ : ∃ T, ijT (ijE (netB ms cs fs t) (apB x y ms.length) bs.length fs.length) t = T := ⟨_, rfl⟩
  have HT := hide hT_
  clear hT_
  obtain ⟨E, hE_⟩ : ∃ E, (ijE (netB ms cs fs t) (apB x y ms.length) bs.length fs.length) = E := ⟨_, rfl⟩
  have HE := hide hE_
  clear hE_
  have nE : (E != E) = false := by simp
  rw [unhide HMs, unhide HCs, unhide HFs] at HSL
  have ho1 : Ms.length ≤ 1048576 := by have := (unhide HSL).1; omega
  have ho2 : Cs.length ≤ 1048576 := by have := (unhide HSL).2.2.1; omega
  have ho3 : Fs.length ≤ 1048576 := by have := (unhide HSL).2.2.2; omega
  have HOS := hide (fun i (h : i < Ms.length) => r64_sm ((unhide HSL).2.1 i h))
  have HOK := hide (Int.le_trans (smN_k (unhide HSL)) (by decide : (99990 : Int) ≤ 99999990))
  have HOP := hide (totK_pos Ms Cs Fs)
  obtain ⟨k0_0, k0_1, k0_2, k0_3⟩ := unhide Q1
  go_wp2_with fail
  clear k0_0 k0_1 k0_2 k0_3
  refine (toNt a b d ca cb cd t ms ps cs fs _ hm1 hm2 hm3 (unhide HSM) (unhide HR1) ((unhide HI1)) (unhide HZ1)).mono ?_
  rintro e w2 ⟨s1, s2, s3, sq, rfl, b2, o_⟩
  have B2 := B1.trans (b2.mono B1.size)
  have sz2 : w1.heap.size ≤ w2.heap.size := b2.size
  have Q2 := hide ((unhide Q1).below b2)
  have HR2 := hide ((unhide HR1).below b2)
  have HI2 := hide ((unhide HI1).below b2)
  have HZ2 := hide ((unhide HZ1).below b2)
  have RD2 := hide ((unhide RD1).below b2)
  clear Q1 HR1 HI1 HZ1 RD1
  have S2 := hide o_
  clear o_
  go_wp2_with fail
  refine (De.toByteS eb bs ce _ hbl (unhide RD2)).mono ?_
  rintro e w3 ⟨gS, rfl, b3, hge_, r_, op_⟩
  have B3 := B2.trans (b3.mono B2.size)
  have sz3 : w2.heap.size ≤ w3.heap.size := b3.size
  have Q3 := hide ((unhide Q2).below b3)
  have HR3 := hide ((unhide HR2).below b3)
  have HI3 := hide ((unhide HI2).below b3)
  have HZ3 := hide ((unhide HZ2).below b3)
  have RD3 := hide ((unhide RD2).below b3)
  have S3 := hide ((unhide S2).below b3)
  clear Q2 HR2 HI2 HZ2 RD2 S2
  have RS3 := hide r_
  clear r_ hge_ op_
  go_wp2_with fail
  refine (specIJ _ _ _ _ _ _ t ms _ cs fs x y gS 0 bs.length bs _ hm1 hm2 hm3 (unhide HSM) (unhide HGZ) (unhide S3).nr (unhide S3).ri (unhide S3).rf hbl (unhide RS3) (unhide S3).ad).mono ?_
  rintro e w4 ⟨v_, rfl, b4, got_⟩
  have B4 := B3.trans (b4.mono B3.size)
  have sz4 : w3.heap.size ≤ w4.heap.size := b4.size
  have Q4 := hide ((unhide Q3).below b4)
  have HR4 := hide ((unhide HR3).below b4)
  have HI4 := hide ((unhide HI3).below b4)
  have HZ4 := hide ((unhide HZ3).below b4)
  have RD4 := hide ((unhide RD3).below b4)
  have S4 := hide ((unhide S3).below b4)
  have RS4 := hide ((unhide RS3).below b4)
  clear Q3 HR3 HI3 HZ3 RD3 S3 RS3
  rw [unhide HMs, unhide HCs, unhide HFs, unhide HT] at got_
  obtain ⟨aW, bW, dW, pW, qW, rW, sW, rfl, L_⟩ := got_
  have W4 := hide L_
  clear L_
  rw [unhide HE]
  clear S4
  clear RS4
  have b5 := bel_new w4 (.cells #[.slice aW Ms.length pW, .slice bW Cs.length qW, .slice dW Fs.length rW, .int .i64 T] 32)
  have B5 := B4.trans (b5.mono B4.size)
  have sx5 : w4.heap.size < (w4.alloc (.cells #[.slice aW Ms.length pW, .slice bW Cs.length qW, .slice dW Fs.length rW, .int .i64 T] 32)).heap.size := by simp
  have sz5 : w4.heap.size ≤ (w4.alloc (.cells #[.slice aW Ms.length pW, .slice bW Cs.length qW, .slice dW Fs.length rW, .int .i64 T] 32)).heap.size := b5.size
  have Q5 := hide ((unhide Q4).below b5)
  have HR5 := hide ((unhide HR4).below b5)
  have HI5 := hide ((unhide HI4).below b5)
  have HZ5 := hide ((unhide HZ4).below b5)
  have RD5 := hide ((unhide RD4).below b5)
  have W5 := hide ((unhide W4).below b5)
  clear Q4 HR4 HI4 HZ4 RD4 W4
  have VW5 := hide (nb_new w4 (.slice aW Ms.length pW) (.slice bW Cs.length qW) (.slice dW Fs.length rW) T 32)
  obtain ⟨k0_0, k0_1, k0_2, k0_3⟩ := unhide Q5
  go_wp2_with fail
  clear k0_0 k0_1 k0_2 k0_3
  generalize hW_ : (w4.alloc (.cells #[.slice aW Ms.length pW, .slice bW Cs.length qW, .slice dW Fs.length rW, .int .i64 T] 32)) = w5 at *
  clear hW_
  refine (toNt a b d ca cb cd t ms ps cs fs _ hm1 hm2 hm3 (unhide HSM) (unhide HR5) ((unhide HI5)) (unhide HZ5)).mono ?_
  rintro e w6 ⟨x1, x2, x3, xq, rfl, b6, o_⟩
  have B6 := B5.trans (b6.mono B5.size)
  have sz6 : w5.heap.size ≤ w6.heap.size := b6.size
  have Q6 := hide ((unhide Q5).below b6)
  have HR6 := hide ((unhide HR5).below b6)
  have HI6 := hide ((unhide HI5).below b6)
  have HZ6 := hide ((unhide HZ5).below b6)
  have RD6 := hide ((unhide RD5).below b6)
  have W6 := hide ((unhide W5).below b6)
  have VW6 := hide ((unhide VW5).below b6)
  clear Q5 HR5 HI5 HZ5 RD5 W5 VW5
  have X6 := hide o_
  clear o_
  have b7 := bel_new w6 (.cells #[.slice (some ⟨x1, 0, none⟩) ms.length ms.length, .slice (some ⟨x2, 0, none⟩) cs.length cs.length, .slice (some ⟨x3, 0, none⟩) fs.length fs.length, .int .i64 t] 32)
  have B7 := B6.trans (b7.mono B6.size)
  have sz7 : w6.heap.size ≤ (w6.alloc (.cells #[.slice (some ⟨x1, 0, none⟩) ms.length ms.length, .slice (some ⟨x2, 0, none⟩) cs.length cs.length, .slice (some ⟨x3, 0, none⟩) fs.length fs.length, .int .i64 t] 32)).heap.size := b7.size
  have Q7 := hide ((unhide Q6).below b7)
  have HR7 := hide ((unhide HR6).below b7)
  have HI7 := hide ((unhide HI6).below b7)
  have HZ7 := hide ((unhide HZ6).below b7)
  have RD7 := hide ((unhide RD6).below b7)
  have W7 := hide ((unhide W6).below b7)
  have VW7 := hide ((unhide VW6).below b7)
  have X7 := hide ((unhide X6).below b7)
  clear Q6 HR6 HI6 HZ6 RD6 W6 VW6 X6
  have V7 := hide (nb_new w6 (.slice (some ⟨x1, 0, none⟩) ms.length ms.length) (.slice (some ⟨x2, 0, none⟩) cs.length cs.length) (.slice (some ⟨x3, 0, none⟩) fs.length fs.length) t 32)
  have sx7 : w6.heap.size < (w6.alloc (.cells #[.slice (some ⟨x1, 0, none⟩) ms.length ms.length, .slice (some ⟨x2, 0, none⟩) cs.length cs.length, .slice (some ⟨x3, 0, none⟩) fs.length fs.length, .int .i64 t] 32)).heap.size := by simp
  go_wp2_with fail
  generalize hW_ : (w6.alloc (.cells #[.slice (some ⟨x1, 0, none⟩) ms.length ms.length, .slice (some ⟨x2, 0, none⟩) cs.length cs.length, .slice (some ⟨x3, 0, none⟩) fs.length fs.length, .int .i64 t] 32)) = w7 at *
  clear hW_
  refine (De.toByteS eb bs ce _ hbl (unhide RD7)).mono ?_
  rintro e w8 ⟨gX, rfl, b8, hge_, r_, op_⟩
  have B8 := B7.trans (b8.mono B7.size)
  have sz8 : w7.heap.size ≤ w8.heap.size := b8.size
  have Q8 := hide ((unhide Q7).below b8)
  have HR8 := hide ((unhide HR7).below b8)
  have HI8 := hide ((unhide HI7).below b8)
  have HZ8 := hide ((unhide HZ7).below b8)
  have RD8 := hide ((unhide RD7).below b8)
  have W8 := hide ((unhide W7).below b8)
  have VW8 := hide ((unhide VW7).below b8)
  have X8 := hide ((unhide X7).below b8)
  have V8 := hide ((unhide V7).below b8)
  clear Q7 HR7 HI7 HZ7 RD7 W7 VW7 X7 V7
  have RX8 := hide r_
  clear r_
  obtain ⟨gm, og_, hgm1, hgm2⟩ : ∃ gm, By.Opn w8 (some ⟨gX, 0, none⟩) gm bs.length ∧ w6.heap.size ≤ gm ∧ gm < w8.heap.size := by
    by_cases h0 : bs.length = 0
    · exact ⟨w6.heap.size, .inl h0, Nat.le_refl _, by omega⟩
    · refine ⟨gX, op_, by omega, ?_⟩
      rcases unhide RX8 with e | ⟨g, off, e, hc⟩
      · rw [e] at h0; simp at h0
      · cases e; exact World.block_lt_of_cell? _ _ (hc 0 (by omega))
  have OX8 := hide og_
  clear og_ op_ hge_
  obtain ⟨k0_0, k0_1, k0_2, k0_3⟩ := unhide V8
  go_wp2_with fail
  clear k0_0 k0_1 k0_2 k0_3
  refine (implIJ _ _ _ _ _ _ t ms _ cs fs x y gX 0 bs.length bs _ hm1 hm2 hm3 (unhide HSM) (unhide HGZ) (unhide X8).nr (unhide X8).ri (unhide X8).rf hbl (unhide RX8)).mono ?_
  rintro e w9 ⟨v_, rfl, b9, got_⟩
  have B9 := B8.trans (b9.mono B8.size)
  have sz9 : w8.heap.size ≤ w9.heap.size := b9.size
  have Q9 := hide ((unhide Q8).below b9)
  have HR9 := hide ((unhide HR8).below b9)
  have HI9 := hide ((unhide HI8).below b9)
  have HZ9 := hide ((unhide HZ8).below b9)
  have RD9 := hide ((unhide RD8).below b9)
  have W9 := hide ((unhide W8).below b9)
  have VW9 := hide ((unhide VW8).below b9)
  have X9 := hide ((unhide X8).below b9)
  have V9 := hide ((unhide V8).below b9)
  have RX9 := hide ((unhide RX8).below b9)
  have OX9 := hide ((unhide OX8).below b9)
  clear Q8 HR8 HI8 HZ8 RD8 W8 VW8 X8 V8 RX8 OX8
  rw [unhide HMs, unhide HCs, unhide HFs, unhide HT] at got_
  obtain ⟨aG, bG, dG, pG, qG, rG, sG, rfl, L_⟩ := got_
  have G9 := hide L_
  clear L_
  rw [unhide HE]
  have b10 := bel_new w9 (.cells #[.slice aG Ms.length pG, .slice bG Cs.length qG, .slice dG Fs.length rG, .int .i64 T] 32)
  have B10 := B9.trans (b10.mono B9.size)
  have sx10 : w9.heap.size < (w9.alloc (.cells #[.slice aG Ms.length pG, .slice bG Cs.length qG, .slice dG Fs.length rG, .int .i64 T] 32)).heap.size := by simp
  have sz10 : w9.heap.size ≤ (w9.alloc (.cells #[.slice aG Ms.length pG, .slice bG Cs.length qG, .slice dG Fs.length rG, .int .i64 T] 32)).heap.size := b10.size
  have Q10 := hide ((unhide Q9).below b10)
  have HR10 := hide ((unhide HR9).below b10)
  have HI10 := hide ((unhide HI9).below b10)
  have HZ10 := hide ((unhide HZ9).below b10)
  have RD10 := hide ((unhide RD9).below b10)
  have W10 := hide ((unhide W9).below b10)
  have VW10 := hide ((unhide VW9).below b10)
  have X10 := hide ((unhide X9).below b10)
  have V10 := hide ((unhide V9).below b10)
  have RX10 := hide ((unhide RX9).below b10)
  have OX10 := hide ((unhide OX9).below b10)
  have G10 := hide ((unhide G9).below b10)
  clear Q9 HR9 HI9 HZ9 RD9 W9 VW9 X9 V9 RX9 OX9 G9
  have VG10 := hide (nb_new w9 (.slice aG Ms.length pG) (.slice bG Cs.length qG) (.slice dG Fs.length rG) T 32)
  obtain ⟨k0_0, k0_1, k0_2, k0_3⟩ := unhide VG10
  obtain ⟨k1_0, k1_1, k1_2, k1_3⟩ := unhide VW10
  go_wp2_with fail
  clear k0_0 k0_1 k0_2 k0_3 k1_0 k1_1 k1_2 k1_3
  generalize hW_ : (w9.alloc (.cells #[.slice aG Ms.length pG, .slice bG Cs.length qG, .slice dG Fs.length rG, .int .i64 T] 32)) = w10 at *
  clear hW_
  refine (eqNt _ _ _ _ _ _ _ _ _ _ _ _ T Ms _ _ Cs Fs _ ho1 ho2 ho3 (unhide HOS) (unhide G10).nr (unhide W10).nr (unhide G10).ri (unhide W10).ri (unhide G10).rf (unhide W10).rf).mono ?_
  rintro e w11 ⟨rfl, b11⟩
  have B11 := B10.trans (b11.mono B10.size)
  have sz11 : w10.heap.size ≤ w11.heap.size := b11.size
  have Q11 := hide ((unhide Q10).below b11)
  have HR11 := hide ((unhide HR10).below b11)
  have HI11 := hide ((unhide HI10).below b11)
  have HZ11 := hide ((unhide HZ10).below b11)
  have RD11 := hide ((unhide RD10).below b11)
  have W11 := hide ((unhide W10).below b11)
  have VW11 := hide ((unhide VW10).below b11)
  have X11 := hide ((unhide X10).below b11)
  have V11 := hide ((unhide V10).below b11)
  have RX11 := hide ((unhide RX10).below b11)
  have OX11 := hide ((unhide OX10).below b11)
  have G11 := hide ((unhide G10).below b11)
  have VG11 := hide ((unhide VG10).below b11)
  clear Q10 HR10 HI10 HZ10 RD10 W10 VW10 X10 V10 RX10 OX10 G10 VG10
  obtain ⟨k0_0, k0_1, k0_2, k0_3⟩ := unhide V11
  obtain ⟨k1_0, k1_1, k1_2, k1_3⟩ := unhide Q11
  go_wp2_with fail
  clear k0_0 k0_1 k0_2 k0_3 k1_0 k1_1 k1_2 k1_3
  refine wp_region_noPanic ?_
  refine wp_region_held_drew (S := fun w' => (w'.cell? ⟨w6.heap.size, 0, none⟩ = some (.slice (some ⟨x1, 0, none⟩) ms.length ms.length) ∧ w'.cell? ⟨w6.heap.size, 1, none⟩ = some (.slice (some ⟨x2, 0, none⟩) cs.length cs.length) ∧ w'.cell? ⟨w6.heap.size, 2, none⟩ = some (.slice (some ⟨x3, 0, none⟩) fs.length fs.length) ∧ w'.cell? ⟨w6.heap.size, 3, none⟩ = some (.int .i64 t)) ∧ (w'.cell? ⟨w.heap.size, 0, none⟩ = some (.slice a ms.length ca) ∧ w'.cell? ⟨w.heap.size, 1, none⟩ = some (.slice b cs.length cb) ∧ w'.cell? ⟨w.heap.size, 2, none⟩ = some (.slice d fs.length cd) ∧ w'.cell? ⟨w.heap.size, 3, none⟩ = some (.int .i64 t))) (by kernel_rfl) (⟨unhide V11, unhide Q11⟩) (fun hHeld => ?_)
  refine Rg.t (v := .agg #[.slice (some ⟨x1, 0, none⟩) ms.length ms.length, .slice (some ⟨x2, 0, none⟩) cs.length cs.length, .slice (some ⟨x3, 0, none⟩) fs.length fs.length, .int .i64 t]) 0 60 ?_ (hv := fun w0 hSw => execNB _ rfl rfl hSw.1)
  refine Rg.t (v := .agg #[.slice a ms.length ca, .slice b cs.length cb, .slice d fs.length cd, .int .i64 t]) 1 61 ?_ (hv := fun w0 hSw => execNW _ rfl rfl hSw.2)
  (refine Rg.o 2 (fun K hK => ?_); go_simp)
  refine (toNt a b d ca cb cd t ms ps cs fs _ hm1 hm2 hm3 (unhide HSM) (unhide HR11).drew (drewI (unhide HI11)) (unhide HZ11).drew).mono ?_
  rintro e w12 ⟨y1, y2, y3, yq, rfl, b12_, o_⟩
  have b12 : Below w11.heap.size w11 w12 := (Below.refl _ _).drew.trans b12_
  have B12 := B11.trans (b12.mono B11.size)
  have sz12 : w11.heap.size ≤ w12.heap.size := b12.size
  have Q12 := hide ((unhide Q11).below b12)
  have HR12 := hide ((unhide HR11).below b12)
  have HI12 := hide ((unhide HI11).below b12)
  have HZ12 := hide ((unhide HZ11).below b12)
  have RD12 := hide ((unhide RD11).below b12)
  have W12 := hide ((unhide W11).below b12)
  have VW12 := hide ((unhide VW11).below b12)
  have X12 := hide ((unhide X11).below b12)
  have V12 := hide ((unhide V11).below b12)
  have RX12 := hide ((unhide RX11).below b12)
  have OX12 := hide ((unhide OX11).below b12)
  have G12 := hide ((unhide G11).below b12)
  have VG12 := hide ((unhide VG11).below b12)
  clear Q11 HR11 HI11 HZ11 RD11 W11 VW11 X11 V11 RX11 OX11 G11 VG11
  have Y12 := hide o_
  clear o_
  refine hK.out _ _ (⟨unhide V12, unhide Q12⟩) (fun hHeld => ?_)
  clear hK K
  (try simp only [Act.put, List.setIfInBounds_toArray, List.set_cons_zero, List.set_cons_succ])
  (refine Rg.o 3 (fun K hK => ?_); go_simp)
  refine (eqNt _ _ _ _ _ _ _ _ _ _ _ _ t ms _ _ cs fs _ hm1 hm2 hm3 (unhide HSM) (unhide X12).nr (unhide Y12).nr (unhide X12).ri (unhide Y12).ri (unhide X12).rf (unhide Y12).rf).mono ?_
  rintro e w13 ⟨rfl, b13⟩
  have B13 := B12.trans (b13.mono B12.size)
  have sz13 : w12.heap.size ≤ w13.heap.size := b13.size
  have Q13 := hide ((unhide Q12).below b13)
  have HR13 := hide ((unhide HR12).below b13)
  have HI13 := hide ((unhide HI12).below b13)
  have HZ13 := hide ((unhide HZ12).below b13)
  have RD13 := hide ((unhide RD12).below b13)
  have W13 := hide ((unhide W12).below b13)
  have VW13 := hide ((unhide VW12).below b13)
  have X13 := hide ((unhide X12).below b13)
  have V13 := hide ((unhide V12).below b13)
  have RX13 := hide ((unhide RX12).below b13)
  have OX13 := hide ((unhide OX12).below b13)
  have G13 := hide ((unhide G12).below b13)
  have VG13 := hide ((unhide VG12).below b13)
  have Y13 := hide ((unhide Y12).below b13)
  clear Q12 HR12 HI12 HZ12 RD12 W12 VW12 X12 V12 RX12 OX12 G12 VG12 Y12
  clear Y13
  refine hK.out _ _ (⟨unhide V13, unhide Q13⟩) (fun hHeld => ?_)
  clear hK K
  (try simp only [Act.put, List.setIfInBounds_toArray, List.set_cons_zero, List.set_cons_succ])
  refine Rg.t 4 64 ?_
  refine wpAnyH_done (by kernel_rfl) (NoPanic.normal ?_) _
  clear hHeld
  go_wp2_with fail
  refine (De.toByteS eb bs ce _ hbl (unhide RD13)).mono ?_
  rintro e w14 ⟨gY, rfl, b14, hge_, r_, op_⟩
  have B14 := B13.trans (b14.mono B13.size)
  have sz14 : w13.heap.size ≤ w14.heap.size := b14.size
  have Q14 := hide ((unhide Q13).below b14)
  have HR14 := hide ((unhide HR13).below b14)
  have HI14 := hide ((unhide HI13).below b14)
  have HZ14 := hide ((unhide HZ13).below b14)
  have RD14 := hide ((unhide RD13).below b14)
  have W14 := hide ((unhide W13).below b14)
  have VW14 := hide ((unhide VW13).below b14)
  have X14 := hide ((unhide X13).below b14)
  have V14 := hide ((unhide V13).below b14)
  have RX14 := hide ((unhide RX13).below b14)
  have OX14 := hide ((unhide OX13).below b14)
  have G14 := hide ((unhide G13).below b14)
  have VG14 := hide ((unhide VG13).below b14)
  clear Q13 HR13 HI13 HZ13 RD13 W13 VW13 X13 V13 RX13 OX13 G13 VG13
  have RY14 := hide r_
  clear r_ hge_ op_
  go_wp2_with fail
  refine (By.eqSame _ _ _ _ bs _ (unhide RX14) (unhide RY14) (by unfold maxLen; omega)).mono ?_
  rintro e w15 ⟨rfl, dq_, hd_⟩
  have b15 : Below w14.heap.size w14 w15 := by rw [hd_]; exact bel_drewQ _ _
  clear hd_
  have B15 := B14.trans (b15.mono B14.size)
  have sz15 : w14.heap.size ≤ w15.heap.size := b15.size
  have Q15 := hide ((unhide Q14).below b15)
  have HR15 := hide ((unhide HR14).below b15)
  have HI15 := hide ((unhide HI14).below b15)
  have HZ15 := hide ((unhide HZ14).below b15)
  have RD15 := hide ((unhide RD14).below b15)
  have W15 := hide ((unhide W14).below b15)
  have VW15 := hide ((unhide VW14).below b15)
  have X15 := hide ((unhide X14).below b15)
  have V15 := hide ((unhide V14).below b15)
  have RX15 := hide ((unhide RX14).below b15)
  have OX15 := hide ((unhide OX14).below b15)
  have G15 := hide ((unhide G14).below b15)
  have VG15 := hide ((unhide VG14).below b15)
  have RY15 := hide ((unhide RY14).below b15)
  clear Q14 HR14 HI14 HZ14 RD14 W14 VW14 X14 V14 RX14 OX14 G14 VG14 RY14
  clear RY15
  obtain ⟨k0_0, k0_1, k0_2, k0_3⟩ := unhide V15
  go_wp2_with fail
  clear k0_0 k0_1 k0_2 k0_3
  refine (markNt _ _ _ _ _ _ t 1 w5.heap.size w6.heap.size ms _ cs fs _ hm1 hm2 hm3 (by omega) (unhide HTK) (unhide HSM) (by omega) (by omega) (unhide X15).mt).mono ?_
  rintro e w16 ⟨rfl, hz_, b_, _, k_⟩
  have sz16 := hz_
  have B16 := B15.trans (b_.mono (by omega))
  clear b_
  have Q16 := hide ((unhide Q15).but (k_ w.heap.size (by omega) (.inl (by omega))))
  have HR16 := hide ((unhide HRW).below B16)
  have HI16 := hide ((unhide HIW).below B16)
  have HZ16 := hide ((unhide HZW).below B16)
  have VW16 := hide ((unhide VW15).but (k_ w4.heap.size (unhide VW15).lt (by omega)))
  have VG16 := hide ((unhide VG15).but (k_ w9.heap.size (unhide VG15).lt (by omega)))
  have W16 := hide ((unhide W15).but (L := w5.heap.size) (H := w6.heap.size) hz_ (fun k hk h => k_ k hk h) (by omega))
  have G16 := hide ((unhide G15).but (L := w5.heap.size) (H := w6.heap.size) hz_ (fun k hk h => k_ k hk h) (by omega))
  clear Q15 HR15 HI15 HZ15 VW15 VG15 W15 G15
  have RD16 := hide (hrbW.below B16)
  have OX16 := hide (By.Opn.but (unhide OX15) (k_ gm (by omega) (by omega)))
  clear RD15 OX15 RX15
  clear V15 X15 k_ hz_
  have hpk : ¬ (1 + totK ms cs fs < 0) := by have := unhide HTP; omega
  go_wp2_with fail
  have htkq := unhide HTK
  refine (By.mark (some ⟨gX, 0, none⟩) bs.length bs.length gm (1 + totK ms cs fs) (by omega) (by omega) w16 (by omega) (unhide OX16)).mono ?_
  rintro e w17 ⟨rfl, wr_, _⟩
  clear htkq
  have k_ : ∀ k, k < w16.heap.size → (k < gm ∨ gm + 1 ≤ k) → w17.heap[k]? = w16.heap[k]? := fun k _ h => wr_.block k (by omega)
  have hz_ : w16.heap.size ≤ w17.heap.size := Nat.le_of_eq wr_.size.symm
  have sz17 := hz_
  have B17 := B16.trans ((wr_.below (B := gm) (Nat.le_refl _)).mono (by omega))
  have Q17 := hide ((unhide Q16).but (k_ w.heap.size (by omega) (.inl (by omega))))
  have HR17 := hide ((unhide HRW).below B17)
  have HI17 := hide ((unhide HIW).below B17)
  have HZ17 := hide ((unhide HZW).below B17)
  have VW17 := hide ((unhide VW16).but (k_ w4.heap.size (unhide VW16).lt (by omega)))
  have VG17 := hide ((unhide VG16).but (k_ w9.heap.size (unhide VG16).lt (by omega)))
  have W17 := hide ((unhide W16).but (L := gm) (H := gm + 1) hz_ (fun k hk h => k_ k hk h) (by omega))
  have G17 := hide ((unhide G16).but (L := gm) (H := gm + 1) hz_ (fun k hk h => k_ k hk h) (by omega))
  clear Q16 HR16 HI16 HZ16 VW16 VG16 W16 G16
  have RD17 := hide (hrbW.below B17)
  clear RD16 OX16 k_ hz_ wr_
  have hpk2 : ¬ (1 + totK ms cs fs + (bs.length : Int) < 0) := by have := unhide HTP; omega
  obtain ⟨k0_0, k0_1, k0_2, k0_3⟩ := unhide VG17
  obtain ⟨k1_0, k1_1, k1_2, k1_3⟩ := unhide VW17
  go_wp2_with fail
  clear k0_0 k0_1 k0_2 k0_3 k1_0 k1_1 k1_2 k1_3
  refine (eqNt _ _ _ _ _ _ _ _ _ _ _ _ T Ms _ _ Cs Fs _ ho1 ho2 ho3 (unhide HOS) (unhide G17).nr (unhide W17).nr (unhide G17).ri (unhide W17).ri (unhide G17).rf (unhide W17).rf).mono ?_
  rintro e w18 ⟨rfl, b18⟩
  have B18 := B17.trans (b18.mono B17.size)
  have sz18 : w17.heap.size ≤ w18.heap.size := b18.size
  have Q18 := hide ((unhide Q17).below b18)
  have HR18 := hide ((unhide HR17).below b18)
  have HI18 := hide ((unhide HI17).below b18)
  have HZ18 := hide ((unhide HZ17).below b18)
  have RD18 := hide ((unhide RD17).below b18)
  have W18 := hide ((unhide W17).below b18)
  have VW18 := hide ((unhide VW17).below b18)
  have G18 := hide ((unhide G17).below b18)
  have VG18 := hide ((unhide VG17).below b18)
  clear Q17 HR17 HI17 HZ17 RD17 W17 VW17 G17 VG17
  obtain ⟨k0_0, k0_1, k0_2, k0_3⟩ := unhide VG18
  go_wp2_with fail
  clear k0_0 k0_1 k0_2 k0_3
  refine (markNt _ _ _ _ _ _ T 1 w8.heap.size w9.heap.size Ms _ Cs Fs _ ho1 ho2 ho3 (by omega) (unhide HOK) (unhide HOS) (by omega) (by omega) (unhide G18)).mono ?_
  rintro e w19 ⟨rfl, hz_, b_, m_, k_⟩
  have sz19 := hz_
  have B19 := B18.trans (b_.mono (by omega))
  have M19 := hide m_
  clear b_ m_
  have Q19 := hide ((unhide Q18).but (k_ w.heap.size (by omega) (.inl (by omega))))
  have HR19 := hide ((unhide HRW).below B19)
  have HI19 := hide ((unhide HIW).below B19)
  have HZ19 := hide ((unhide HZW).below B19)
  have VW19 := hide ((unhide VW18).but (k_ w4.heap.size (unhide VW18).lt (by omega)))
  have VG19 := hide ((unhide VG18).but (k_ w9.heap.size (unhide VG18).lt (by omega)))
  have W19 := hide ((unhide W18).but (L := w8.heap.size) (H := w9.heap.size) hz_ (fun k hk h => k_ k hk h) (by omega))
  clear Q18 HR18 HI18 HZ18 VW18 VG18 W18
  have RD19 := hide (hrbW.below B19)
  clear RD18
  clear G18 k_ hz_
  have hpm : ¬ (1 + totK Ms Cs Fs < 0) := by have := unhide HOP; omega
  obtain ⟨k0_0, k0_1, k0_2, k0_3⟩ := unhide VG19
  go_wp2_with fail
  clear k0_0 k0_1 k0_2 k0_3
  refine (heldNt _ _ _ _ _ _ T 1 w8.heap.size w9.heap.size Ms _ Cs Fs _ ho1 ho2 ho3 (by omega) (unhide HOK) (unhide HOS) (unhide M19)).mono ?_
  rintro e w20 ⟨rfl, b20⟩
  have B20 := B19.trans (b20.mono B19.size)
  have sz20 : w19.heap.size ≤ w20.heap.size := b20.size
  have Q20 := hide ((unhide Q19).below b20)
  have HR20 := hide ((unhide HR19).below b20)
  have HI20 := hide ((unhide HI19).below b20)
  have HZ20 := hide ((unhide HZ19).below b20)
  have RD20 := hide ((unhide RD19).below b20)
  have W20 := hide ((unhide W19).below b20)
  have VW20 := hide ((unhide VW19).below b20)
  have VG20 := hide ((unhide VG19).below b20)
  have M20 := hide ((unhide M19).below b20)
  clear Q19 HR19 HI19 HZ19 RD19 W19 VW19 VG19 M19
  obtain ⟨k0_0, k0_1, k0_2, k0_3⟩ := unhide Q20
  go_wp2_with fail
  clear k0_0 k0_1 k0_2 k0_3
  refine (toNt a b d ca cb cd t ms ps cs fs _ hm1 hm2 hm3 (unhide HSM) (unhide HR20) ((unhide HI20)) (unhide HZ20)).mono ?_
  rintro e w21 ⟨z1, z2, z3, zq, rfl, b21, o_⟩
  have B21 := B20.trans (b21.mono B20.size)
  have sz21 : w20.heap.size ≤ w21.heap.size := b21.size
  have Q21 := hide ((unhide Q20).below b21)
  have HR21 := hide ((unhide HR20).below b21)
  have HI21 := hide ((unhide HI20).below b21)
  have HZ21 := hide ((unhide HZ20).below b21)
  have RD21 := hide ((unhide RD20).below b21)
  have W21 := hide ((unhide W20).below b21)
  have VW21 := hide ((unhide VW20).below b21)
  have VG21 := hide ((unhide VG20).below b21)
  have M21 := hide ((unhide M20).below b21)
  clear Q20 HR20 HI20 HZ20 RD20 W20 VW20 VG20 M20
  have Z21 := hide o_
  clear o_
  go_wp2_with fail
  refine (De.toByteS eb bs ce _ hbl (unhide RD21)).mono ?_
  rintro e w22 ⟨gZ, rfl, b22, hge_, r_, op_⟩
  have B22 := B21.trans (b22.mono B21.size)
  have sz22 : w21.heap.size ≤ w22.heap.size := b22.size
  have Q22 := hide ((unhide Q21).below b22)
  have HR22 := hide ((unhide HR21).below b22)
  have HI22 := hide ((unhide HI21).below b22)
  have HZ22 := hide ((unhide HZ21).below b22)
  have RD22 := hide ((unhide RD21).below b22)
  have W22 := hide ((unhide W21).below b22)
  have VW22 := hide ((unhide VW21).below b22)
  have VG22 := hide ((unhide VG21).below b22)
  have M22 := hide ((unhide M21).below b22)
  have Z22 := hide ((unhide Z21).below b22)
  clear Q21 HR21 HI21 HZ21 RD21 W21 VW21 VG21 M21 Z21
  have RZ22 := hide r_
  clear r_ hge_ op_
  go_wp2_with fail
  refine (implIJ _ _ _ _ _ _ t ms _ cs fs x y gZ 0 bs.length bs _ hm1 hm2 hm3 (unhide HSM) (unhide HGZ) (unhide Z22).nr (unhide Z22).ri (unhide Z22).rf hbl (unhide RZ22)).mono ?_
  rintro e w23 ⟨v_, rfl, b23, got_⟩
  have B23 := B22.trans (b23.mono B22.size)
  have sz23 : w22.heap.size ≤ w23.heap.size := b23.size
  have Q23 := hide ((unhide Q22).below b23)
  have HR23 := hide ((unhide HR22).below b23)
  have HI23 := hide ((unhide HI22).below b23)
  have HZ23 := hide ((unhide HZ22).below b23)
  have RD23 := hide ((unhide RD22).below b23)
  have W23 := hide ((unhide W22).below b23)
  have VW23 := hide ((unhide VW22).below b23)
  have VG23 := hide ((unhide VG22).below b23)
  have M23 := hide ((unhide M22).below b23)
  have Z23 := hide ((unhide Z22).below b23)
  have RZ23 := hide ((unhide RZ22).below b23)
  clear Q22 HR22 HI22 HZ22 RD22 W22 VW22 VG22 M22 Z22 RZ22
  rw [unhide HMs, unhide HCs, unhide HFs, unhide HT] at got_
  obtain ⟨aH, bH, dH, pH, qH, rH, sH, rfl, L_⟩ := got_
  have H23 := hide L_
  clear L_
  rw [unhide HE]
  clear Z23
  clear RZ23
  have b24 := bel_new w23 (.cells #[.slice aH Ms.length pH, .slice bH Cs.length qH, .slice dH Fs.length rH, .int .i64 T] 32)
  have B24 := B23.trans (b24.mono B23.size)
  have sx24 : w23.heap.size < (w23.alloc (.cells #[.slice aH Ms.length pH, .slice bH Cs.length qH, .slice dH Fs.length rH, .int .i64 T] 32)).heap.size := by simp
  have sz24 : w23.heap.size ≤ (w23.alloc (.cells #[.slice aH Ms.length pH, .slice bH Cs.length qH, .slice dH Fs.length rH, .int .i64 T] 32)).heap.size := b24.size
  have Q24 := hide ((unhide Q23).below b24)
  have HR24 := hide ((unhide HR23).below b24)
  have HI24 := hide ((unhide HI23).below b24)
  have HZ24 := hide ((unhide HZ23).below b24)
  have RD24 := hide ((unhide RD23).below b24)
  have W24 := hide ((unhide W23).below b24)
  have VW24 := hide ((unhide VW23).below b24)
  have VG24 := hide ((unhide VG23).below b24)
  have M24 := hide ((unhide M23).below b24)
  have H24 := hide ((unhide H23).below b24)
  clear Q23 HR23 HI23 HZ23 RD23 W23 VW23 VG23 M23 H23
  have VH24 := hide (nb_new w23 (.slice aH Ms.length pH) (.slice bH Cs.length qH) (.slice dH Fs.length rH) T 32)
  obtain ⟨k0_0, k0_1, k0_2, k0_3⟩ := unhide VH24
  obtain ⟨k1_0, k1_1, k1_2, k1_3⟩ := unhide VW24
  go_wp2_with fail
  clear k0_0 k0_1 k0_2 k0_3 k1_0 k1_1 k1_2 k1_3
  generalize hW_ : (w23.alloc (.cells #[.slice aH Ms.length pH, .slice bH Cs.length qH, .slice dH Fs.length rH, .int .i64 T] 32)) = w24 at *
  clear hW_
  refine (eqNt _ _ _ _ _ _ _ _ _ _ _ _ T Ms _ _ Cs Fs _ ho1 ho2 ho3 (unhide HOS) (unhide H24).nr (unhide W24).nr (unhide H24).ri (unhide W24).ri (unhide H24).rf (unhide W24).rf).mono ?_
  rintro e w25 ⟨rfl, b25⟩
  have B25 := B24.trans (b25.mono B24.size)
  have sz25 : w24.heap.size ≤ w25.heap.size := b25.size
  have Q25 := hide ((unhide Q24).below b25)
  have HR25 := hide ((unhide HR24).below b25)
  have HI25 := hide ((unhide HI24).below b25)
  have HZ25 := hide ((unhide HZ24).below b25)
  have RD25 := hide ((unhide RD24).below b25)
  have W25 := hide ((unhide W24).below b25)
  have VW25 := hide ((unhide VW24).below b25)
  have VG25 := hide ((unhide VG24).below b25)
  have M25 := hide ((unhide M24).below b25)
  have H25 := hide ((unhide H24).below b25)
  have VH25 := hide ((unhide VH24).below b25)
  clear Q24 HR24 HI24 HZ24 RD24 W24 VW24 VG24 M24 H24 VH24
  obtain ⟨k0_0, k0_1, k0_2, k0_3⟩ := unhide VG25
  go_wp2_with fail
  clear k0_0 k0_1 k0_2 k0_3
  refine (heldNt _ _ _ _ _ _ T 1 w8.heap.size w9.heap.size Ms _ Cs Fs _ ho1 ho2 ho3 (by omega) (unhide HOK) (unhide HOS) (unhide M25)).mono ?_
  rintro e w26 ⟨rfl, b26⟩
  have B26 := B25.trans (b26.mono B25.size)
  have sz26 : w25.heap.size ≤ w26.heap.size := b26.size
  have Q26 := hide ((unhide Q25).below b26)
  have HR26 := hide ((unhide HR25).below b26)
  have HI26 := hide ((unhide HI25).below b26)
  have HZ26 := hide ((unhide HZ25).below b26)
  have RD26 := hide ((unhide RD25).below b26)
  have W26 := hide ((unhide W25).below b26)
  have VW26 := hide ((unhide VW25).below b26)
  have VG26 := hide ((unhide VG25).below b26)
  have M26 := hide ((unhide M25).below b26)
  have H26 := hide ((unhide H25).below b26)
  have VH26 := hide ((unhide VH25).below b26)
  clear Q25 HR25 HI25 HZ25 RD25 W25 VW25 VG25 M25 H25 VH25
  have HF := hide B26
  go_wp2_with fail
  go_ret
  exact ⟨rfl, unhide HF⟩

end Go.Proofs.YthfcigfgpimimaaGreat.fnExactInject
