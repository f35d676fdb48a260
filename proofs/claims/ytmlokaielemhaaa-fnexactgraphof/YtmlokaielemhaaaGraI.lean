/-
  The program's GraphOf. (written by mkgrai.py)
-/
import Derived.Test.YtmlokaielemhaaaGraS
import Derived.Test.YtmlokaielemhaaaTopE
import Derived.Test.YtmlokaielemhaaaLnkI
namespace Go.Proofs.Ytmlokaielemhaaa
open Go.ChangeShapes Go.WideShapes Go.ChangeAt Go.RowKit
set_option linter.unusedVariables false
set_option linter.unusedSimpArgs false
set_option maxRecDepth 100000
attribute [local go_sem ↓] Go.wp_at_zero Go.wp_at_succ
namespace Gr
open W1 Tu St Tw Me
theorem lk_ne {w : World} {b n : Nat} {f : Int → Int → Option R} (h : OM w b n f) {g o : Nat} {m : Lk.R} (ha : Lk.At w g o m) : g ≠ b := by
  intro e; subst e; have := Tp.om_none h o; rw [ha.1] at this; cases this
theorem lk_lt {w : World} {g o : Nat} {m : Lk.R} (h : Lk.At w g o m) : g < w.heap.size := World.block_lt_of_cell? _ _ h.1
theorem lk_but {w w' : World} {g o : Nat} {m : Lk.R} (h : Lk.At w g o m) (hb : w'.heap[g]? = w.heap[g]?) : Lk.At w' g o m := by
  obtain ⟨h0, h1, h2, h3, h4, h5⟩ := h
  exact ⟨(World.cell?_of_block (a := ⟨g, o, none⟩) hb).trans h0, (World.cell?_of_block (a := ⟨g, o + 1, none⟩) hb).trans h1, (World.cell?_of_block (a := ⟨g, o + 2, none⟩) hb).trans h2, (World.cell?_of_block (a := ⟨g, o + 3, none⟩) hb).trans h3, (World.cell?_of_block (a := ⟨g, o + 4, none⟩) hb).trans h4, (World.cell?_of_block (a := ⟨g, o + 5, none⟩) hb).trans h5⟩
theorem rm_under {B : Nat} {w w' : World} {a : Option Addr} {ls : List Lk.R} (h : Lk.RM w a ls) (hb : Below w.heap.size w w') : Lk.RM w' a ls := h.below hb
theorem lk_offI {me now ad hd sy ci co wl st : Int} (hst : Ln.statusV ⟨ad, hd, sy, ci, co, wl⟩ now = st) (h : lkOn me now ⟨ad, hd, sy, ci, co, wl⟩ = false) :
    (ad != me) = false ∨ (ad != me) = true ∧ (¬ 0 < co ∨ 0 < co ∧ (st == 2) = false) := by
  unfold lkOn at h
  dsimp only at h
  rw [hst] at h
  cases e1 : (ad != me)
  · exact .inl rfl
  · right; refine ⟨rfl, ?_⟩
    by_cases e2 : 0 < co
    · right; refine ⟨e2, ?_⟩
      rw [e1, decide_eq_true e2] at h
      simpa using h
    · exact .inl e2
theorem ed_offI {me now key til val : Int} (h : edOn me now ⟨key, til, val⟩ = false) : ¬ now < til ∨ now < til ∧ ((key.tdiv 100 != me) = false ∨ (key.tdiv 100 != me) = true ∧ (key.tmod 100 != me) = false) := by
  unfold edOn hv ha at h
  dsimp only at h
  by_cases e1 : now < til
  · right; refine ⟨e1, ?_⟩
    rw [decide_eq_true e1, Bool.true_and] at h
    cases e2 : (key.tdiv 100 != me)
    · exact .inl rfl
    · right; refine ⟨rfl, ?_⟩
      rw [e2, Bool.true_and] at h; exact h
  · exact .inl e1
theorem ed_onI {me now key til val : Int} (h : edOn me now ⟨key, til, val⟩ = true) : now < til ∧ (key.tdiv 100 != me) = true ∧ (key.tmod 100 != me) = true := by
  unfold edOn hv ha at h
  dsimp only at h
  rw [Bool.and_eq_true, Bool.and_eq_true, decide_eq_true_eq] at h
  exact h
theorem run_make0 (w : World) : (Instr.makeMap 90 none).run Try.prog w = .ok (.map (some w.heap.size)) (w.alloc (.map #[] 0)) := by kernel_rfl
set_option maxHeartbeats 8000000 in
theorem graphOfCode (me : Int) (a : Option Addr) (ls : List Lk.R) (ca : Nat) (b : Option Addr) (ss : List So.R) (cb : Nat) (c : Option Addr) (es : List R) (cc : Nat) (w : World) (hm : ls.length ≤ 1048576) (hs : ss.length ≤ 1048576) (hl : es.length ≤ 1048576) (hr : Lk.RM w a ls) (hr1 : So.RM w b ss) (hr' : RM w c es) :
    Calls Try.prog 73 #[.int .i64 me, .slice a ls.length ca, .agg #[.slice b ss.length cb, .slice c es.length cc]] w fun e w' => e = .returned (.int .i64 (graC me ls ss es)) ∧ Below w.heap.size w w' := by
  have HB : Hid (Below w.heap.size w (w.alloc (.cells #[.slice b ss.length cb, .slice c es.length cc] 26))) := hide ((Below.refl _ _).alloc (Nat.le_refl _) _)
  have HX : Hid (Tp.Bx2 (w.alloc (.cells #[.slice b ss.length cb, .slice c es.length cc] 26)) w.heap.size (.slice b ss.length cb) (.slice c es.length cc)) := hide (Tp.bx2_new w _ _ _)
  have HR := hide hr
  have HS := hide hr1
  have HE := hide hr'
  clear hr hr1 hr'
  obtain ⟨W0, hW0⟩ : ∃ W0, w.alloc (.cells #[.slice b ss.length cb, .slice c es.length cc] 26) = W0 := ⟨_, rfl⟩
  rw [hW0] at HB HX
  have HW0 := hide hW0
  clear hW0
  have KL := hide (fun W => Ln.linksCode a ls ca W hm)
  by_cases hc0 : Ln.codeL ls = 0
  rotate_left
  · have hc : graC me ls ss es = Ln.codeL ls := by
      unfold graC Ln.codeL
      unfold Ln.codeL at hc0
      split
      · rfl
      · rename_i hb
        rw [if_neg hb] at hc0
        cases e1 : Ln.linksB ls
        · unfold graB; rw [e1]; simp
        · rw [e1] at hc0; simp at hc0
    rw [hc]
    generalize Ln.codeL ls = cd at *
    have q1 : (cd != 0) = true := by simpa using hc0
    clear hc hc0
    go_enter Try.func73, Try.ntmps73
    go_wp2_with fail
    rw [unhide HW0]
    refine (unhide KL _ ((unhide HR).below (unhide HB))).mono ?_
    rintro e w1 ⟨rfl, b1⟩
    have HB1 := hide ((unhide HB).trans (b1.mono (unhide HB).size))
    clear b1
    go_wp2_with fail
    go_ret
    exact ⟨rfl, unhide HB1⟩
  have hlb : Ln.linksB ls = true := by
    cases hh : Ln.linksB ls
    · unfold Ln.codeL at hc0; rw [hh] at hc0; split at hc0 <;> simp at hc0
    · rfl
  have h8 := Ln.links_len hlb
  rw [hc0] at KL
  have KA := hide (fun W => isAddress me W)
  have HLB := hide hlb
  clear hlb hc0
  cases e3 : inB me 1 8
  · have hc := gra_bad (ls := ls) (ss := ss) (es := es) (by omega) (.inr (.inl e3))
    rw [hc]
    rw [e3] at KA
    clear hc e3
    go_enter Try.func73, Try.ntmps73
    go_wp2_with fail
    rw [unhide HW0]
    refine (unhide KL _ ((unhide HR).below (unhide HB))).mono ?_
    rintro e w1 ⟨rfl, b1⟩
    have HB1 := hide ((unhide HB).trans (b1.mono (unhide HB).size))
    clear b1
    go_wp2_with fail
    refine (unhide KA _).mono ?_
    rintro e w2 ⟨rfl, rfl⟩
    go_wp2_with fail
    go_ret
    exact ⟨rfl, unhide HB1⟩
  rw [e3] at KA
  have HME := hide e3
  clear e3
  obtain ⟨T, hT⟩ : ∃ T, Tp.topB ss es = T := ⟨_, rfl⟩
  have HT := hide hT
  have hc : graC me ls ss es = if T = true then 0 else 1 := by
    cases T
    · exact gra_bad (ls := ls) (by omega) (.inr (.inr hT))
    · exact gra_ok (unhide HLB) (unhide HME) hT
  rw [hc]
  clear hc hT
  cases T
  all_goals
    go_enter Try.func73, Try.ntmps73
    go_wp2_with fail
    rw [unhide HW0]
    refine (unhide KL _ ((unhide HR).below (unhide HB))).mono ?_
    rintro e w1 ⟨rfl, b1⟩
    have HB1 := hide ((unhide HB).trans (b1.mono (unhide HB).size))
    have HX1 := hide ((unhide HX).below b1)
    clear b1
    go_wp2_with fail
    refine (unhide KA _).mono ?_
    rintro e w2 ⟨rfl, rfl⟩
    obtain ⟨z0, z1⟩ := unhide HX1
    go_wp2_with fail
    clear z0 z1
    refine (Tp.implOK b ss cb c es cc _ hs hl ((unhide HS).below (unhide HB1)) ((unhide HE).below (unhide HB1))).mono ?_
    rintro e w3 ⟨rfl, b3⟩
    rw [unhide HT]
    have HB3 := hide ((unhide HB1).trans (b3.mono (unhide HB1).size))
    clear b3
    go_wp2_with fail
    go_ret
    exact ⟨rfl, unhide HB3⟩
set_option maxHeartbeats 16000000 in
theorem implGraph (me : Int) (a : Option Addr) (ls : List Lk.R) (ca : Nat) (b : Option Addr) (ss : List So.R) (cb : Nat) (c : Option Addr) (es : List R) (cc : Nat) (now : Int) (w : World) (hm : ls.length ≤ 1048576) (hs : ss.length ≤ 1048576) (hl : es.length ≤ 1048576) (hr : Lk.RM w a ls) (hr1 : So.RM w b ss) (hr' : RM w c es) :
    Calls Try.prog 23 #[.int .i64 me, .slice a ls.length ca, .agg #[.slice b ss.length cb, .slice c es.length cc], .int .i64 now] w fun e w' => ∃ v, e = .returned (.tuple #[v, .int .i64 (graC me ls ss es)]) ∧ Below w.heap.size w w' ∧ LstV w' v (graA me ls ss es now) w.heap.size w'.heap.size := by
  have HB : Hid (Below w.heap.size w (w.alloc (.cells #[.slice b ss.length cb, .slice c es.length cc] 26))) := hide ((Below.refl _ _).alloc (Nat.le_refl _) _)
  have HX : Hid (Tp.Bx2 (w.alloc (.cells #[.slice b ss.length cb, .slice c es.length cc] 26)) w.heap.size (.slice b ss.length cb) (.slice c es.length cc)) := hide (Tp.bx2_new w _ _ _)
  have HR := hide (hr.below (unhide HB))
  have HS := hide (hr1.below (unhide HB))
  have HE := hide (hr'.below (unhide HB))
  clear hr hr1 hr'
  obtain ⟨W0, hW0⟩ : ∃ W0, w.alloc (.cells #[.slice b ss.length cb, .slice c es.length cc] 26) = W0 := ⟨_, rfl⟩
  rw [hW0] at HB HX HR HS HE
  have HW0 := hide hW0
  clear hW0
  have KC := hide (fun W => graphOfCode me a ls ca b ss cb c es cc W hm hs hl)
  by_cases hc : graC me ls ss es = 0
  rotate_left
  · rw [gra_none hc]
    generalize graC me ls ss es = cd at *
    have q1 : (cd != 0) = true := by simpa using hc
    clear hc
    obtain ⟨z0, z1⟩ := unhide HX
    rw [← unhide HW0] at z0 z1
    go_enter Try.func23, Try.ntmps23
    go_wp2_with fail
    clear z0 z1
    rw [unhide HW0]
    refine (unhide KC _ (unhide HR) (unhide HS) (unhide HE)).mono ?_
    rintro e w1 ⟨rfl, b1⟩
    have HB1 := hide ((unhide HB).trans (b1.mono (unhide HB).size))
    clear b1
    go_wp2_with fail
    go_ret2
    exact ⟨_, rfl, unhide HB1, lstV_nil _ _ _ _ _⟩
  rw [gra_yes hc]
  obtain ⟨hlb, hme, htop⟩ := gra_zero hc
  have h8 := Ln.links_len hlb
  have h62 := two_len (Tp.top_two htop)
  have HLB := hide hlb
  have HTE := hide (Tp.top_two htop)
  have HT1 := hide (grL_two (now := now) hme hlb)
  have HT2 := hide (grE_two (me := me) (now := now) (unhide HT1 _ (Nat.le_refl _)) (unhide HTE))
  have HGR : Hid (ordT (findT (grE me now (grL me now ls ls.length) es es.length)) 64 = graph me ls es now) := hide (ord_all (unhide HT2 _ (Nat.le_refl _)))
  rw [hc] at KC ⊢
  clear hc hlb htop hm hs hl
  obtain ⟨GG, hGG⟩ : ∃ GG, graph me ls es now = GG := ⟨_, rfl⟩
  rw [hGG] at HGR ⊢
  clear hGG
  generalize hN : ls.length = N at *
  have HN := hide hN
  clear hN
  generalize hM : es.length = M at *
  have HM := hide hM
  clear hM
  obtain ⟨z0, z1⟩ := unhide HX
  rw [← unhide HW0] at z0 z1
  go_enter Try.func23, Try.ntmps23
  go_wp2_with fail
  clear z0 z1
  rw [unhide HW0]
  refine (unhide KC _ (unhide HR) (unhide HS) (unhide HE)).mono ?_
  rintro e w1 ⟨rfl, b1⟩
  have HB1 := hide ((unhide HB).trans (b1.mono (unhide HB).size))
  have HX1 := hide ((unhide HX).below b1)
  have HR1 := hide ((unhide HR).below b1)
  have HE1 := hide ((unhide HE).below b1)
  have hwx : w.heap.size < w1.heap.size := (unhide HX1).lt
  clear b1 HB HX HR HS HE
  have O0 : Hid (OM (w1.alloc (.map #[] 0)) w1.heap.size 0 (findT (grL me now ls 0))) := hide (om_made w1)
  have P0 := hide ((Below.refl w1.heap.size w1).alloc (Nat.le_refl _) (.map #[] 0))
  have hmk := run_make0 w1
  go_wp2_with fail
  clear hmk
  go_loopw [27] (fun i wr => ∃ j : Nat, j ≤ N ∧ i = .int .i64 j ∧ Hid (OM wr w1.heap.size j (findT (grL me now ls j))) ∧ Hid (Below w1.heap.size w1 wr)) (fun i _ => N - (intOf i).toNat)
  case atStart => exact ⟨0, by omega, rfl, O0, P0⟩
  case round =>
    obtain ⟨j, hj, rfl, hom, hbl⟩ := hrel
    have hbs := (unhide hbl).size
    have hlm := (unhide hom).lt
    by_cases hlt : (j : Int) < (N : Int)
    · have k0 : (0 : Int) ≤ (j : Int) := by omega
      have hlen : j < ls.length := by rw [unhide HN]; omega
      obtain ⟨g, off, rfl⟩ := (unhide HR1).form (by omega)
      have hA := ((unhide HR1).below (unhide hbl)).at hlen
      have HY : Hid (lkOn me now (ls.getD j Lk.R.zero) = true → findT (grL me now ls (j + 1)) = updT (findT (grL me now ls j)) me (ls.getD j Lk.R.zero).ad (lkT me (ls.getD j Lk.R.zero))) := hide (fun h => by
        have hl := two_len (unhide HT1 j (by omega))
        obtain ⟨_, _, t3, t4⟩ := lkT_ok hme (Ri.all_ok (unhide HLB) hlen) h
        rw [grL_yes hlen h, find_put (two_set (unhide HT1 j (by omega))) (by omega), t3, t4])
      have HZ : Hid (lkOn me now (ls.getD j Lk.R.zero) = false → grL me now ls (j + 1) = grL me now ls j) := hide (fun h => grL_no hlen h)
      have had := Ln.ok_ad (Ri.all_ok (unhide HLB) hlen)
      generalize ls.getD j Lk.R.zero = m at *
      obtain ⟨ad, hd, sy, ci, co, wl⟩ := m
      obtain ⟨c0, c1, c2, c3, c4, c5⟩ := hA
      dsimp only at c0 c1 c2 c3 c4 c5 had
      have HXL := hide (lk_new wr ad hd sy ci co wl)
      have B1 : Hid (Below wr.heap.size wr (wr.alloc (.cells #[.int .i64 ad, .int .i64 hd, .int .i64 sy, .int .i64 ci, .int .i64 co, .int .i64 wl] 113))) := hide ((Below.refl _ _).alloc (Nat.le_refl _) _)
      have HO1 := hide ((unhide hom).below (unhide B1))
      have HBL1 := hide ((unhide hbl).trans ((unhide B1).mono (unhide hbl).size))
      have KS := hide (Ln.implStatus ad hd sy ci co wl now)
      obtain ⟨st, hst⟩ : ∃ st, Ln.statusV ⟨ad, hd, sy, ci, co, wl⟩ now = st := ⟨_, rfl⟩
      rw [hst] at KS
      have HST := hide hst
      clear hst B1
      cases hon : lkOn me now ⟨ad, hd, sy, ci, co, wl⟩
      · have E1 := unhide HZ hon
        have HO2 : Hid (∀ W, OM W w1.heap.size j (findT (grL me now ls j)) → OM W w1.heap.size (j + 1) (findT (grL me now ls (j + 1)))) := hide (fun W h => by rw [E1]; exact h.mono (by omega))
        have hcs := lk_offI (unhide HST) hon
        clear E1 HY HZ hon
        rcases hcs with q1 | ⟨q1, q2 | ⟨q2, q3⟩⟩
        · go_wp2_with fail
          go_roundw
          case rel => exact ⟨j + 1, by omega, by go_num, hide (unhide HO2 _ (unhide HO1)), HBL1⟩
          case measure => simp [intOf]; omega
        · go_wp2_with fail
          go_roundw
          case rel => exact ⟨j + 1, by omega, by go_num, hide (unhide HO2 _ (unhide HO1)), HBL1⟩
          case measure => simp [intOf]; omega
        · go_wp2_with fail
          generalize hWW : wr.alloc (.cells #[.int .i64 ad, .int .i64 hd, .int .i64 sy, .int .i64 ci, .int .i64 co, .int .i64 wl] 113) = WW at *
          clear hWW c0 c1 c2 c3 c4 c5
          refine (unhide KS _).mono ?_
          rintro e w2 ⟨rfl, b2⟩
          have HO3 := hide (unhide HO2 _ ((unhide HO1).below b2))
          have HB3 := hide ((unhide HBL1).trans (b2.mono (unhide HBL1).size))
          clear b2
          go_wp2_with fail
          go_roundw
          case rel => exact ⟨j + 1, by omega, by go_num, HO3, HB3⟩
          case measure => simp [intOf]; omega
      · have HPF := hide (unhide HY hon)
        obtain ⟨q3, q1, q2⟩ := lk_on (unhide HST) hon
        clear HY HZ hon
        go_wp2_with fail
        generalize hWW : wr.alloc (.cells #[.int .i64 ad, .int .i64 hd, .int .i64 sy, .int .i64 ci, .int .i64 co, .int .i64 wl] 113) = WW at *
        clear hWW c0 c1 c2 c3 c4 c5
        refine (unhide KS _).mono ?_
        rintro e w2 ⟨rfl, b2⟩
        have HO2 := hide ((unhide HO1).below b2)
        have HB2 := hide ((unhide HBL1).trans (b2.mono (unhide HBL1).size))
        have HX2 := hide ((unhide HXL).below b2)
        clear b2 HO1 HBL1 HXL
        go_wp2_with fail
        refine wp_region_noPanic ?_
        refine wp_region_held_drew (S := fun w' => Lk.At w' wr.heap.size 0 ⟨ad, hd, sy, ci, co, wl⟩ ∧ w'.cell? ⟨wr.heap.size, 0, none⟩ = some (.int .i64 ad) ∧ w'.cell? ⟨wr.heap.size, 4, none⟩ = some (.int .i64 co)) (by kernel_rfl) (sLk (lk_drew (unhide HX2))) (fun hHeld => ?_)
        (refine Rg.tk (i := 0) (d := 46) (v := ?_) rfl rfl (by kernel_rfl) (by kernel_rfl) (by kernel_rfl) (fun _ _ _ h => h) (by rfl) ?_ (by assumption) ?_; rotate_left; (focus (intro w0 hSw; (try dsimp only at hSw); go_simp; (try with_reducible rfl))); (try simp only [Act.put, List.setIfInBounds_toArray, List.set_cons_zero, List.set_cons_succ]))
        (refine Rg.tk (i := 1) (d := 47) (v := ?_) rfl rfl (by kernel_rfl) (by kernel_rfl) (by kernel_rfl) (fun _ _ _ h => h) (by rfl) ?_ (by assumption) ?_; rotate_left; (focus (intro w0 hSw; (try dsimp only at hSw); go_simp; (try with_reducible rfl))); (try simp only [Act.put, List.setIfInBounds_toArray, List.set_cons_zero, List.set_cons_succ]))
        (refine Rg.tk (i := 2) (d := 48) (v := ?_) rfl rfl (by kernel_rfl) (by kernel_rfl) (by kernel_rfl) (fun _ _ _ h => h) (by rfl) ?_ (by assumption) ?_; rotate_left; (focus (intro w0 hSw; (try dsimp only at hSw); go_simp; (try with_reducible rfl))); (try simp only [Act.put, List.setIfInBounds_toArray, List.set_cons_zero, List.set_cons_succ]))
        (refine Rg.tk (i := 3) (d := 49) (v := ?_) rfl rfl (by kernel_rfl) (by kernel_rfl) (by kernel_rfl) (fun _ _ _ h => h) (by rfl) ?_ (by assumption) ?_; rotate_left; (focus (intro w0 hSw; (try dsimp only at hSw); go_simp; (try with_reducible rfl))); (try simp only [Act.put, List.setIfInBounds_toArray, List.set_cons_zero, List.set_cons_succ]))
        (refine Rg.tk (i := 4) (d := 50) (v := ?_) rfl rfl (by kernel_rfl) (by kernel_rfl) (by kernel_rfl) (fun _ _ _ h => h) (by rfl) ?_ (by assumption) ?_; rotate_left; (focus (intro w0 hSw; (try dsimp only at hSw); go_simp; (try with_reducible rfl))); (try simp only [Act.put, List.setIfInBounds_toArray, List.set_cons_zero, List.set_cons_succ]))
        (refine Rg.tk (i := 5) (d := 51) (v := ?_) rfl rfl (by kernel_rfl) (by kernel_rfl) (by kernel_rfl) (fun _ _ _ h => h) (by rfl) ?_ (by assumption) ?_; rotate_left; (focus (intro w0 hSw; (try dsimp only at hSw); go_simp; (try with_reducible rfl))); (try simp only [Act.put, List.setIfInBounds_toArray, List.set_cons_zero, List.set_cons_succ]))
        (refine Rg.tk (i := 6) (d := 52) (v := ?_) rfl rfl (by kernel_rfl) (by kernel_rfl) (by kernel_rfl) (fun _ _ _ h => h) (by rfl) ?_ (by assumption) ?_; rotate_left; (focus (intro w0 hSw; (try dsimp only at hSw); go_simp; (try with_reducible rfl))); (try simp only [Act.put, List.setIfInBounds_toArray, List.set_cons_zero, List.set_cons_succ]))
        (refine Rg.tk (i := 7) (d := 53) (v := ?_) rfl rfl (by kernel_rfl) (by kernel_rfl) (by kernel_rfl) (fun _ _ _ h => h) (by rfl) ?_ (by assumption) ?_; rotate_left; (focus (intro w0 hSw; (try dsimp only at hSw); go_simp; (try with_reducible rfl))); (try simp only [Act.put, List.setIfInBounds_toArray, List.set_cons_zero, List.set_cons_succ]))
        (refine Rg.tk (i := 8) (d := 54) (v := ?_) rfl rfl (by kernel_rfl) (by kernel_rfl) (by kernel_rfl) (fun _ _ _ h => h) (by rfl) ?_ (by assumption) ?_; rotate_left; (focus (intro w0 hSw; (try dsimp only at hSw); go_simp; (try with_reducible rfl))); (try simp only [Act.put, List.setIfInBounds_toArray, List.set_cons_zero, List.set_cons_succ]))
        (refine Rg.tk (i := 10) (d := 56) (v := ?_) rfl rfl (by kernel_rfl) (by kernel_rfl) (by kernel_rfl) (fun _ _ _ h => h) (by rfl) ?_ (by assumption) ?_; rotate_left; (focus (intro w0 hSw; (try dsimp only at hSw); go_simp; (try with_reducible rfl))); (try simp only [Act.put, List.setIfInBounds_toArray, List.set_cons_zero, List.set_cons_succ]))
        (refine Rg.tk (i := 11) (d := 57) (v := ?_) rfl rfl (by kernel_rfl) (by kernel_rfl) (by kernel_rfl) (fun _ _ _ h => h) (by rfl) ?_ (by assumption) ?_; rotate_left; (focus (intro w0 hSw; (try dsimp only at hSw); go_simp; (try with_reducible rfl))); (try simp only [Act.put, List.setIfInBounds_toArray, List.set_cons_zero, List.set_cons_succ]))
        (refine wpAnyH_ready (rs := [9]) (by kernel_rfl) (by simp) ?_; refine AllReadyH.cons (o := _) rfl (fun K hK => ?_) AllReadyH.nil; go_simp)
        refine (Tw.keyOfHop me ad _ (by omega) (by omega) (by omega) (by omega)).mono ?_
        rintro e w3 ⟨rfl, b3_⟩
        have b3 : Below w2.heap.size w2 w3 := (Below.refl _ _).drew.trans b3_
        have HX3 := hide ((unhide HX2).below b3)
        have HO3 := hide ((unhide HO2).below b3)
        have HB3 := hide ((unhide HB2).trans (b3.mono (unhide HB2).size))
        clear b3 b3_ hHeld
        refine hK.out _ _ (sLk (unhide HX3)) (fun hHeld => ?_)
        clear hK K
        (try simp only [Act.put, List.setIfInBounds_toArray, List.set_cons_zero, List.set_cons_succ])
        (refine Rg.tk (i := 12) (d := 58) (v := ?_) rfl rfl (by kernel_rfl) (by kernel_rfl) (by kernel_rfl) (fun _ _ _ h => h) (by rfl) ?_ (by assumption) ?_; rotate_left; (focus (intro w0 hSw; (try dsimp only at hSw); go_simp; (try with_reducible rfl))); (try simp only [Act.put, List.setIfInBounds_toArray, List.set_cons_zero, List.set_cons_succ]))
        (refine wpAnyH_ready (rs := [13]) (by kernel_rfl) (by simp) ?_; refine AllReadyH.cons (o := _) rfl (fun K hK => ?_) AllReadyH.nil; rw [if_pos (by rfl)])
        refine wp_put _ _ _ _ rfl rfl w1.heap.size j _ rfl (unhide HO3) (by unfold maxLen; omega) me ad (WalkArith.wf_i64 ⟨by omega, by omega⟩) (WalkArith.wf_i64 ⟨by omega, by omega⟩) ⟨100 * me + ad, 0, co⟩ rfl rfl ?_
        intro w6 om6 g6
        have HO6 : Hid (OM w6 w1.heap.size (j + 1) (findT (grL me now ls (j + 1)))) := hide ((unhide HPF) ▸ om6)
        have HX6 := hide (lk_but (unhide HX3) (g6.block wr.heap.size (lk_lt (unhide HX3)) (by intro e; have := Option.some.inj e; omega)))
        have HB6 := hide (om_grown (unhide HB3) (Nat.le_refl _) (Nat.le_refl _) g6)
        clear om6 g6 hHeld
        refine hK.out _ _ (sLk (unhide HX6)) (fun hHeld => ?_)
        clear hK K hHeld
        (try simp only [Act.put, List.setIfInBounds_toArray, List.set_cons_zero, List.set_cons_succ])
        refine wpAnyH_done (by kernel_rfl) (NoPanic.normal ?_) _
        go_wp2_with fail
        go_roundw
        case rel => exact ⟨j + 1, by omega, by go_num, HO6, HB6⟩
        case measure => simp [intOf]; omega
    · obtain rfl : j = N := by omega
      have O1 : Hid (OM wr w1.heap.size (j + 0) (findT (grE me now (grL me now ls j) es 0))) := hom
      have hX2 := (unhide HX1).below (unhide hbl)
      obtain ⟨z0, z1⟩ := hX2
      clear hom
      go_wp2_with fail
      clear z0 z1
      go_loopw [63] (fun i wr => ∃ k : Nat, k ≤ M ∧ i = .int .i64 k ∧ Hid (OM wr w1.heap.size (j + k) (findT (grE me now (grL me now ls j) es k))) ∧ Hid (Below w1.heap.size w1 wr)) (fun i _ => M - (intOf i).toNat)
      case atStart => exact ⟨0, by omega, rfl, O1, hbl⟩
      case round =>
        obtain ⟨k, hk, rfl, hom, hbl⟩ := hrel
        have hbs := (unhide hbl).size
        have hlm := (unhide hom).lt
        by_cases hlt2 : (k : Int) < (M : Int)
        · have k0 : (0 : Int) ≤ (k : Int) := by omega
          have hlen : k < es.length := by rw [unhide HM]; omega
          obtain ⟨g, off, rfl⟩ := (unhide HE1).form (by omega)
          have hA := ((unhide HE1).below (unhide hbl)).at hlen
          have HY : Hid (edOn me now (es.getD k R.zero) = true → findT (grE me now (grL me now ls j) es (k + 1)) = updT (findT (grE me now (grL me now ls j) es k)) (hv (es.getD k R.zero)) (ha (es.getD k R.zero)) (edT (es.getD k R.zero))) := hide (fun h => by
            have hl := two_len (unhide HT2 k (by omega))
            rw [grE_yes hlen h, find_put (two_set (unhide HT2 k (by omega))) (by omega)]; rfl)
          have HZ : Hid (edOn me now (es.getD k R.zero) = false → grE me now (grL me now ls j) es (k + 1) = grE me now (grL me now ls j) es k) := hide (fun h => grE_no hlen h)
          have hbd := ok_bounds (setB_ok (two_set (unhide HTE)) hlen)
          have hbk := ok_k (two_ok (unhide HTE) _ (Tu.getD_mem hlen))
          generalize es.getD k R.zero = m at *
          obtain ⟨key, til, val⟩ := m
          obtain ⟨c0, c1, c2⟩ := hA
          unfold hv ha at hbk HY
          dsimp only at c0 c1 c2 hbd hbk HY
          have KE := hide (fun W => Tp.endsOfKey key W (by omega) (by omega))
          have HCF := hide (ed_offI (me := me) (now := now) (key := key) (til := til) (val := val))
          have HCT := hide (ed_onI (me := me) (now := now) (key := key) (til := til) (val := val))
          obtain ⟨kd, hkd⟩ : ∃ kd, key.tdiv 100 = kd := ⟨_, rfl⟩
          obtain ⟨km, hkm⟩ : ∃ km, key.tmod 100 = km := ⟨_, rfl⟩
          rw [hkd, hkm] at KE HCF HCT hbk HY
          clear hkd hkm
          have HXT : Hid (St.Bx (wr.alloc (.cells #[.int .i64 key, .int .i64 til, .int .i64 val] 89)) wr.heap.size ⟨key, til, val⟩) := hide (Tw.bx_new wr ⟨key, til, val⟩ _)
          have B1 : Hid (Below wr.heap.size wr (wr.alloc (.cells #[.int .i64 key, .int .i64 til, .int .i64 val] 89))) := hide ((Below.refl _ _).alloc (Nat.le_refl _) _)
          have HO1 := hide ((unhide hom).below (unhide B1))
          have HBL1 := hide ((unhide hbl).trans ((unhide B1).mono (unhide hbl).size))
          have hlw : wr.heap.size < (wr.alloc (.cells #[.int .i64 key, .int .i64 til, .int .i64 val] 89)).heap.size := by simp
          clear B1
          go_wp2_with fail
          generalize hWW : wr.alloc (.cells #[.int .i64 key, .int .i64 til, .int .i64 val] 89) = WW at *
          clear hWW c0 c1 c2
          refine (unhide KE _).mono ?_
          rintro e w2 ⟨rfl, b2⟩
          have HO2 := hide (((unhide HO1).below b2).below ((Below.refl _ _).alloc (Nat.le_refl _) (.cells #[.int .i64 kd, .int .i64 km] 103)))
          have HB2 := hide (((unhide HBL1).trans (b2.mono (unhide HBL1).size)).alloc (Nat.le_trans (unhide HBL1).size b2.size) (.cells #[.int .i64 kd, .int .i64 km] 103))
          obtain ⟨x0, x1, x2⟩ := (unhide HXT).below b2
          obtain ⟨y0, y1, y2⟩ := ((unhide HXT).below b2).below ((Below.refl _ _).alloc (Nat.le_refl _) (.cells #[.int .i64 kd, .int .i64 km] 103))
          dsimp only at x0 x1 x2 y0 y1 y2
          have hws : wr.heap.size < w2.heap.size := Nat.lt_of_lt_of_le hlw b2.size
          clear b2 HO1 HBL1 HXT
          cases hon : edOn me now ⟨key, til, val⟩
          · have E1 := unhide HZ hon
            have HO3 : Hid (OM (w2.alloc (.cells #[.int .i64 kd, .int .i64 km] 103)) w1.heap.size (j + (k + 1)) (findT (grE me now (grL me now ls j) es (k + 1)))) := hide (by rw [E1]; exact (unhide HO2).mono (by omega))
            have hcs := unhide HCF hon
            clear E1 HY HZ hon
            rcases hcs with q1 | ⟨q1, q2 | ⟨q2, q3⟩⟩
            all_goals
              go_wp2_with fail
              go_roundw
              case rel => exact ⟨k + 1, by omega, by go_num, HO3, HB2⟩
              case measure => simp [intOf]; omega
          · have HPF := hide (unhide HY hon)
            obtain ⟨q1, q2, q3⟩ := unhide HCT hon
            clear HY HZ hon
            go_wp2_with (refine wpList_put _ rfl _ _ _ rfl w1.heap.size (j + k) _ rfl (unhide HO2) (by unfold maxLen; omega) kd km (WalkArith.wf_i64 ⟨by omega, by omega⟩) (WalkArith.wf_i64 ⟨by omega, by omega⟩) ⟨key, 0, val⟩ rfl rfl ?_; intro w6 om6 g6; have HO6 : Hid (OM w6 w1.heap.size (j + (k + 1)) (findT (grE me now (grL me now ls j) es (k + 1)))) := hide ((unhide HPF) ▸ om6); have HB6 := hide (om_grown (unhide HB2) (Nat.le_refl _) (Nat.le_refl _) g6); clear om6 g6)
            go_roundw
            case rel => exact ⟨k + 1, by omega, by go_num, HO6, HB6⟩
            case measure => simp [intOf]; omega
        · obtain rfl : k = M := by omega
          have HBw := hide ((unhide HB1).trans ((unhide hbl).mono (unhide HB1).size))
          go_wp2_with fail
          refine (Tp.edgesInOrder w1.heap.size (j + k) _ _ (by omega) (unhide hom)).mono ?_
          rintro e w6 ⟨ve, rfl, b6, l6⟩
          rw [unhide HGR] at l6
          have HB6 := hide ((unhide HBw).trans (b6.mono (unhide HBw).size))
          have HL6 := hide (l6.mono (lo' := w.heap.size) (unhide HBw).size (Nat.le_refl _))
          clear b6 l6
          go_wp2_with fail
          go_ret2
          exact ⟨_, rfl, unhide HB6, unhide HL6⟩
end Gr
end Go.Proofs.Ytmlokaielemhaaa
