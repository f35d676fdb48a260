/-
  Of the texts GraI, RouM, RouA, HepA, HepB, Rl, HepC, HepD, HepE, WysN, EndK: what this claim needs of them. (put together by mkprune.py)
-/
import Derived.Test.YtfooahhdikobeaaGreatQv7
import Derived.Laws.NewBlocks
import Derived.BigRegion
import Derived.OrdersHeld
import Derived.Deep.AppendLies
namespace Go.Proofs.YtfooahhdikobeaaGreat
open Go.ChangeShapes Go.WideShapes Go.ChangeAt Go.RowKit
set_option linter.unusedVariables false
set_option linter.unusedSimpArgs false
set_option maxRecDepth 100000
attribute [local go_sem ↓] Go.wp_at_zero Go.wp_at_succ
namespace Gr
open W1 Tu St Tw Me
theorem lk_lt {w : World} {g o : Nat} {m : Lk.R} (h : Lk.At w g o m) : g < w.heap.size := World.block_lt_of_cell? _ _ h.1
theorem lk_but {w w' : World} {g o : Nat} {m : Lk.R} (h : Lk.At w g o m) (hb : w'.heap[g]? = w.heap[g]?) : Lk.At w' g o m := by
  obtain ⟨h0, h1, h2, h3, h4, h5⟩ := h
  exact ⟨(World.cell?_of_block (a := ⟨g, o, none⟩) hb).trans h0, (World.cell?_of_block (a := ⟨g, o + 1, none⟩) hb).trans h1, (World.cell?_of_block (a := ⟨g, o + 2, none⟩) hb).trans h2, (World.cell?_of_block (a := ⟨g, o + 3, none⟩) hb).trans h3, (World.cell?_of_block (a := ⟨g, o + 4, none⟩) hb).trans h4, (World.cell?_of_block (a := ⟨g, o + 5, none⟩) hb).trans h5⟩
theorem lk_offI {me now ad hd sy ci co wl st : Int} (hst : Ln.statusV ⟨ad, hd, sy, ci, co, wl⟩ now = st) (h : lkOn me now ⟨ad, hd, sy, ci, co, wl⟩ = false) :
    (ad != me) = false ∨ (ad != me) = true ∧ (¬ 0 < co ∨ 0 < co ∧ (st == 2) = false) := by
  unfold lkOn at h
  dsimp only at h
  rw [hst] at h
  cases e1 : (ad != me)
  · exact .inl rfl
  · right; refine ⟨rfl, ?_⟩
    by_cases e2 : 0 < co
    · right; refine ⟨e2, ?_⟩
      rw [e1, decide_eq_true e2] at h
      simpa using h
    · exact .inl e2
theorem ed_offI {me now key til val : Int} (h : edOn me now ⟨key, til, val⟩ = false) : ¬ now < til ∨ now < til ∧ ((key.tdiv 100 != me) = false ∨ (key.tdiv 100 != me) = true ∧ (key.tmod 100 != me) = false) := by
  unfold edOn hv ha at h
  dsimp only at h
  by_cases e1 : now < til
  · right; refine ⟨e1, ?_⟩
    rw [decide_eq_true e1, Bool.true_and] at h
    cases e2 : (key.tdiv 100 != me)
    · exact .inl rfl
    · right; refine ⟨rfl, ?_⟩
      rw [e2, Bool.true_and] at h; exact h
  · exact .inl e1
theorem ed_onI {me now key til val : Int} (h : edOn me now ⟨key, til, val⟩ = true) : now < til ∧ (key.tdiv 100 != me) = true ∧ (key.tmod 100 != me) = true := by
  unfold edOn hv ha at h
  dsimp only at h
  rw [Bool.and_eq_true, Bool.and_eq_true, decide_eq_true_eq] at h
  exact h
theorem run_make0 (w : World) : (Instr.makeMap 205 none).run Tryz.prog w = .ok (.map (some w.heap.size)) (w.alloc (.map #[] 0)) := by kernel_rfl
set_option maxHeartbeats 8000000 in
theorem graphOfCode (me : Int) (a : Option Addr) (ls : List Lk.R) (ca : Nat) (b : Option Addr) (ss : List So.R) (cb : Nat) (c : Option Addr) (es : List R) (cc : Nat) (w : World) (hm : ls.length ≤ 1048576) (hs : ss.length ≤ 1048576) (hl : es.length ≤ 1048576) (hr : Lk.RM w a ls) (hr1 : So.RM w b ss) (hr' : RM w c es) :
    Calls Tryz.prog 171 #[.int .i64 me, .slice a ls.length ca, .agg #[.slice b ss.length cb, .slice c es.length cc]] w fun e w' => e = .returned (.int .i64 (graC me ls ss es)) ∧ Below w.heap.size w w' := by
  have HB : Hid (Below w.heap.size w (w.alloc (.cells #[.slice b ss.length cb, .slice c es.length cc] 80))) := hide ((Below.refl _ _).alloc (Nat.le_refl _) _)
  have HX : Hid (Tp.Bx2 (w.alloc (.cells #[.slice b ss.length cb, .slice c es.length cc] 80)) w.heap.size (.slice b ss.length cb) (.slice c es.length cc)) := hide (Tp.bx2_new w _ _ _)
  have HR := hide hr
  have HS := hide hr1
  have HE := hide hr'
  clear hr hr1 hr'
  obtain ⟨W0, hW0⟩ : ∃ W0, w.alloc (.cells #[.slice b ss.length cb, .slice c es.length cc] 80) = W0 := ⟨_, rfl⟩
  rw [hW0] at HB HX
  have HW0 := hide hW0
  clear hW0
  have KL := hide (fun W => Ln.linksCode a ls ca W hm)
  by_cases hc0 : Ln.codeL ls = 0
  rotate_left
  · have hc : graC me ls ss es = Ln.codeL ls := by
      unfold graC Ln.codeL
      unfold Ln.codeL at hc0
      split
      · rfl
      · rename_i hb
        rw [if_neg hb] at hc0
        cases e1 : Ln.linksB ls
        · unfold graB; rw [e1]; simp
        · rw [e1] at hc0; simp at hc0
    rw [hc]
    generalize Ln.codeL ls = cd at *
    have q1 : (cd != 0) = true := by simpa using hc0
    clear hc hc0
    go_enter Tryz.func171, Tryz.ntmps171
    go_wp2_with fail
    rw [unhide HW0]
    refine (unhide KL _ ((unhide HR).below (unhide HB))).mono ?_
    rintro e w1 ⟨rfl, b1⟩
    have HB1 := hide ((unhide HB).trans (b1.mono (unhide HB).size))
    clear b1
    go_wp2_with fail
    go_ret
    exact ⟨rfl, unhide HB1⟩
  have hlb : Ln.linksB ls = true := by
    cases hh : Ln.linksB ls
    · unfold Ln.codeL at hc0; rw [hh] at hc0; split at hc0 <;> simp at hc0
    · rfl
  have h8 := Ln.links_len hlb
  rw [hc0] at KL
  have KA := hide (fun W => isAddress me W)
  have HLB := hide hlb
  clear hlb hc0
  cases e3 : inB me 1 8
  · have hc := gra_bad (ls := ls) (ss := ss) (es := es) (by omega) (.inr (.inl e3))
    rw [hc]
    rw [e3] at KA
    clear hc e3
    go_enter Tryz.func171, Tryz.ntmps171
    go_wp2_with fail
    rw [unhide HW0]
    refine (unhide KL _ ((unhide HR).below (unhide HB))).mono ?_
    rintro e w1 ⟨rfl, b1⟩
    have HB1 := hide ((unhide HB).trans (b1.mono (unhide HB).size))
    clear b1
    go_wp2_with fail
    refine (unhide KA _).mono ?_
    rintro e w2 ⟨rfl, rfl⟩
    go_wp2_with fail
    go_ret
    exact ⟨rfl, unhide HB1⟩
  rw [e3] at KA
  have HME := hide e3
  clear e3
  obtain ⟨T, hT⟩ : ∃ T, Tp.topB ss es = T := ⟨_, rfl⟩
  have HT := hide hT
  have hc : graC me ls ss es = if T = true then 0 else 1 := by
    cases T
    · exact gra_bad (ls := ls) (by omega) (.inr (.inr hT))
    · exact gra_ok (unhide HLB) (unhide HME) hT
  rw [hc]
  clear hc hT
  cases T
  all_goals
    go_enter Tryz.func171, Tryz.ntmps171
    go_wp2_with fail
    rw [unhide HW0]
    refine (unhide KL _ ((unhide HR).below (unhide HB))).mono ?_
    rintro e w1 ⟨rfl, b1⟩
    have HB1 := hide ((unhide HB).trans (b1.mono (unhide HB).size))
    have HX1 := hide ((unhide HX).below b1)
    clear b1
    go_wp2_with fail
    refine (unhide KA _).mono ?_
    rintro e w2 ⟨rfl, rfl⟩
    obtain ⟨z0, z1⟩ := unhide HX1
    go_wp2_with fail
    clear z0 z1
    refine (Tp.implOK b ss cb c es cc _ hs hl ((unhide HS).below (unhide HB1)) ((unhide HE).below (unhide HB1))).mono ?_
    rintro e w3 ⟨rfl, b3⟩
    rw [unhide HT]
    have HB3 := hide ((unhide HB1).trans (b3.mono (unhide HB1).size))
    clear b3
    go_wp2_with fail
    go_ret
    exact ⟨rfl, unhide HB3⟩
set_option maxHeartbeats 16000000 in
theorem implGraph (me : Int) (a : Option Addr) (ls : List Lk.R) (ca : Nat) (b : Option Addr) (ss : List So.R) (cb : Nat) (c : Option Addr) (es : List R) (cc : Nat) (now : Int) (w : World) (hm : ls.length ≤ 1048576) (hs : ss.length ≤ 1048576) (hl : es.length ≤ 1048576) (hr : Lk.RM w a ls) (hr1 : So.RM w b ss) (hr' : RM w c es) :
    Calls Tryz.prog 123 #[.int .i64 me, .slice a ls.length ca, .agg #[.slice b ss.length cb, .slice c es.length cc], .int .i64 now] w fun e w' => ∃ v, e = .returned (.tuple #[v, .int .i64 (graC me ls ss es)]) ∧ Below w.heap.size w w' ∧ LstV w' v (graA me ls ss es now) w.heap.size w'.heap.size := by
  have HB : Hid (Below w.heap.size w (w.alloc (.cells #[.slice b ss.length cb, .slice c es.length cc] 80))) := hide ((Below.refl _ _).alloc (Nat.le_refl _) _)
  have HX : Hid (Tp.Bx2 (w.alloc (.cells #[.slice b ss.length cb, .slice c es.length cc] 80)) w.heap.size (.slice b ss.length cb) (.slice c es.length cc)) := hide (Tp.bx2_new w _ _ _)
  have HR := hide (hr.below (unhide HB))
  have HS := hide (hr1.below (unhide HB))
  have HE := hide (hr'.below (unhide HB))
  clear hr hr1 hr'
  obtain ⟨W0, hW0⟩ : ∃ W0, w.alloc (.cells #[.slice b ss.length cb, .slice c es.length cc] 80) = W0 := ⟨_, rfl⟩
  rw [hW0] at HB HX HR HS HE
  have HW0 := hide hW0
  clear hW0
  have KC := hide (fun W => graphOfCode me a ls ca b ss cb c es cc W hm hs hl)
  by_cases hc : graC me ls ss es = 0
  rotate_left
  · rw [gra_none hc]
    generalize graC me ls ss es = cd at *
    have q1 : (cd != 0) = true := by simpa using hc
    clear hc
    obtain ⟨z0, z1⟩ := unhide HX
    rw [← unhide HW0] at z0 z1
    go_enter Tryz.func123, Tryz.ntmps123
    go_wp2_with fail
    clear z0 z1
    rw [unhide HW0]
    refine (unhide KC _ (unhide HR) (unhide HS) (unhide HE)).mono ?_
    rintro e w1 ⟨rfl, b1⟩
    have HB1 := hide ((unhide HB).trans (b1.mono (unhide HB).size))
    clear b1
    go_wp2_with fail
    go_ret2
    exact ⟨_, rfl, unhide HB1, lstV_nil _ _ _ _ _⟩
  rw [gra_yes hc]
  obtain ⟨hlb, hme, htop⟩ := gra_zero hc
  have h8 := Ln.links_len hlb
  have h62 := two_len (Tp.top_two htop)
  have HLB := hide hlb
  have HTE := hide (Tp.top_two htop)
  have HT1 := hide (grL_two (now := now) hme hlb)
  have HT2 := hide (grE_two (me := me) (now := now) (unhide HT1 _ (Nat.le_refl _)) (unhide HTE))
  have HGR : Hid (ordT (findT (grE me now (grL me now ls ls.length) es es.length)) 64 = graph me ls es now) := hide (ord_all (unhide HT2 _ (Nat.le_refl _)))
  rw [hc] at KC ⊢
  clear hc hlb htop hm hs hl
  obtain ⟨GG, hGG⟩ : ∃ GG, graph me ls es now = GG := ⟨_, rfl⟩
  rw [hGG] at HGR ⊢
  clear hGG
  generalize hN : ls.length = N at *
  have HN := hide hN
  clear hN
  generalize hM : es.length = M at *
  have HM := hide hM
  clear hM
  obtain ⟨z0, z1⟩ := unhide HX
  rw [← unhide HW0] at z0 z1
  go_enter Tryz.func123, Tryz.ntmps123
  go_wp2_with fail
  clear z0 z1
  rw [unhide HW0]
  refine (unhide KC _ (unhide HR) (unhide HS) (unhide HE)).mono ?_
  rintro e w1 ⟨rfl, b1⟩
  have HB1 := hide ((unhide HB).trans (b1.mono (unhide HB).size))
  have HX1 := hide ((unhide HX).below b1)
  have HR1 := hide ((unhide HR).below b1)
  have HE1 := hide ((unhide HE).below b1)
  have hwx : w.heap.size < w1.heap.size := (unhide HX1).lt
  clear b1 HB HX HR HS HE
  have O0 : Hid (OM (w1.alloc (.map #[] 0)) w1.heap.size 0 (findT (grL me now ls 0))) := hide (om_made w1)
  have P0 := hide ((Below.refl w1.heap.size w1).alloc (Nat.le_refl _) (.map #[] 0))
  have hmk := run_make0 w1
  go_wp2_with fail
  clear hmk
  go_loopw [27] (fun i wr => ∃ j : Nat, j ≤ N ∧ i = .int .i64 j ∧ Hid (OM wr w1.heap.size j (findT (grL me now ls j))) ∧ Hid (Below w1.heap.size w1 wr)) (fun i _ => N - (intOf i).toNat)
  case atStart => exact ⟨0, by omega, rfl, O0, P0⟩
  case round =>
    obtain ⟨j, hj, rfl, hom, hbl⟩ := hrel
    have hbs := (unhide hbl).size
    have hlm := (unhide hom).lt
    by_cases hlt : (j : Int) < (N : Int)
    · have k0 : (0 : Int) ≤ (j : Int) := by omega
      have hlen : j < ls.length := by rw [unhide HN]; omega
      obtain ⟨g, off, rfl⟩ := (unhide HR1).form (by omega)
      have hA := ((unhide HR1).below (unhide hbl)).at hlen
      have HY : Hid (lkOn me now (ls.getD j Lk.R.zero) = true → findT (grL me now ls (j + 1)) = updT (findT (grL me now ls j)) me (ls.getD j Lk.R.zero).ad (lkT me (ls.getD j Lk.R.zero))) := hide (fun h => by
        have hl := two_len (unhide HT1 j (by omega))
        obtain ⟨_, _, t3, t4⟩ := lkT_ok hme (Ri.all_ok (unhide HLB) hlen) h
        rw [grL_yes hlen h, find_put (two_set (unhide HT1 j (by omega))) (by omega), t3, t4])
      have HZ : Hid (lkOn me now (ls.getD j Lk.R.zero) = false → grL me now ls (j + 1) = grL me now ls j) := hide (fun h => grL_no hlen h)
      have had := Ln.ok_ad (Ri.all_ok (unhide HLB) hlen)
      generalize ls.getD j Lk.R.zero = m at *
      obtain ⟨ad, hd, sy, ci, co, wl⟩ := m
      obtain ⟨c0, c1, c2, c3, c4, c5⟩ := hA
      dsimp only at c0 c1 c2 c3 c4 c5 had
      have HXL := hide (lk_new wr ad hd sy ci co wl)
      have B1 : Hid (Below wr.heap.size wr (wr.alloc (.cells #[.int .i64 ad, .int .i64 hd, .int .i64 sy, .int .i64 ci, .int .i64 co, .int .i64 wl] 166))) := hide ((Below.refl _ _).alloc (Nat.le_refl _) _)
      have HO1 := hide ((unhide hom).below (unhide B1))
      have HBL1 := hide ((unhide hbl).trans ((unhide B1).mono (unhide hbl).size))
      have KS := hide (Ln.implStatus ad hd sy ci co wl now)
      obtain ⟨st, hst⟩ : ∃ st, Ln.statusV ⟨ad, hd, sy, ci, co, wl⟩ now = st := ⟨_, rfl⟩
      rw [hst] at KS
      have HST := hide hst
      clear hst B1
      cases hon : lkOn me now ⟨ad, hd, sy, ci, co, wl⟩
      · have E1 := unhide HZ hon
        have HO2 : Hid (∀ W, OM W w1.heap.size j (findT (grL me now ls j)) → OM W w1.heap.size (j + 1) (findT (grL me now ls (j + 1)))) := hide (fun W h => by rw [E1]; exact h.mono (by omega))
        have hcs := lk_offI (unhide HST) hon
        clear E1 HY HZ hon
        rcases hcs with q1 | ⟨q1, q2 | ⟨q2, q3⟩⟩
        · go_wp2_with fail
          go_roundw
          case rel => exact ⟨j + 1, by omega, by go_num, hide (unhide HO2 _ (unhide HO1)), HBL1⟩
          case measure => simp [intOf]; omega
        · go_wp2_with fail
          go_roundw
          case rel => exact ⟨j + 1, by omega, by go_num, hide (unhide HO2 _ (unhide HO1)), HBL1⟩
          case measure => simp [intOf]; omega
        · go_wp2_with fail
          generalize hWW : wr.alloc (.cells #[.int .i64 ad, .int .i64 hd, .int .i64 sy, .int .i64 ci, .int .i64 co, .int .i64 wl] 166) = WW at *
          clear hWW c0 c1 c2 c3 c4 c5
          refine (unhide KS _).mono ?_
          rintro e w2 ⟨rfl, b2⟩
          have HO3 := hide (unhide HO2 _ ((unhide HO1).below b2))
          have HB3 := hide ((unhide HBL1).trans (b2.mono (unhide HBL1).size))
          clear b2
          go_wp2_with fail
          go_roundw
          case rel => exact ⟨j + 1, by omega, by go_num, HO3, HB3⟩
          case measure => simp [intOf]; omega
      · have HPF := hide (unhide HY hon)
        obtain ⟨q3, q1, q2⟩ := lk_on (unhide HST) hon
        clear HY HZ hon
        go_wp2_with fail
        generalize hWW : wr.alloc (.cells #[.int .i64 ad, .int .i64 hd, .int .i64 sy, .int .i64 ci, .int .i64 co, .int .i64 wl] 166) = WW at *
        clear hWW c0 c1 c2 c3 c4 c5
        refine (unhide KS _).mono ?_
        rintro e w2 ⟨rfl, b2⟩
        have HO2 := hide ((unhide HO1).below b2)
        have HB2 := hide ((unhide HBL1).trans (b2.mono (unhide HBL1).size))
        have HX2 := hide ((unhide HXL).below b2)
        clear b2 HO1 HBL1 HXL
        go_wp2_with fail
        refine wp_region_noPanic ?_
        refine wp_region_held_drew (S := fun w' => Lk.At w' wr.heap.size 0 ⟨ad, hd, sy, ci, co, wl⟩ ∧ w'.cell? ⟨wr.heap.size, 0, none⟩ = some (.int .i64 ad) ∧ w'.cell? ⟨wr.heap.size, 4, none⟩ = some (.int .i64 co)) (by kernel_rfl) (sLk (lk_drew (unhide HX2))) (fun hHeld => ?_)
        refine Rg.t 0 46 ?_
        refine Rg.t 1 47 ?_
        refine Rg.t 2 48 ?_
        refine Rg.t 3 49 ?_
        refine Rg.t 4 50 ?_
        refine Rg.t 5 51 ?_
        refine Rg.t 6 52 ?_
        refine Rg.t 7 53 ?_
        refine Rg.t 8 54 ?_
        refine Rg.t 10 56 ?_
        refine Rg.t 11 57 ?_
        (refine Rg.o 9 (fun K hK => ?_); go_simp)
        refine (Tw.keyOfHop me ad _ (by omega) (by omega) (by omega) (by omega)).mono ?_
        rintro e w3 ⟨rfl, b3_⟩
        have b3 : Below w2.heap.size w2 w3 := (Below.refl _ _).drew.trans b3_
        have HX3 := hide ((unhide HX2).below b3)
        have HO3 := hide ((unhide HO2).below b3)
        have HB3 := hide ((unhide HB2).trans (b3.mono (unhide HB2).size))
        clear b3 b3_ hHeld
        refine hK.out _ _ (sLk (unhide HX3)) (fun hHeld => ?_)
        clear hK K
        (try simp only [Act.put, List.setIfInBounds_toArray, List.set_cons_zero, List.set_cons_succ])
        refine Rg.t 12 58 ?_
        (refine Rg.o 13 (fun K hK => ?_); rw [if_pos (by rfl)])
        refine wp_put _ _ _ _ rfl rfl w1.heap.size j _ rfl (unhide HO3) (by unfold maxLen; omega) me ad (WalkArith.wf_i64 ⟨by omega, by omega⟩) (WalkArith.wf_i64 ⟨by omega, by omega⟩) ⟨100 * me + ad, 0, co⟩ rfl rfl ?_
        intro w6 om6 g6
        have HO6 : Hid (OM w6 w1.heap.size (j + 1) (findT (grL me now ls (j + 1)))) := hide ((unhide HPF) ▸ om6)
        have HX6 := hide (lk_but (unhide HX3) (g6.block wr.heap.size (lk_lt (unhide HX3)) (by intro e; have := Option.some.inj e; omega)))
        have HB6 := hide (om_grown (unhide HB3) (Nat.le_refl _) (Nat.le_refl _) g6)
        clear om6 g6 hHeld
        refine hK.out _ _ (sLk (unhide HX6)) (fun hHeld => ?_)
        clear hK K hHeld
        (try simp only [Act.put, List.setIfInBounds_toArray, List.set_cons_zero, List.set_cons_succ])
        refine wpAnyH_done (by kernel_rfl) (NoPanic.normal ?_) _
        go_wp2_with fail
        go_roundw
        case rel => exact ⟨j + 1, by omega, by go_num, HO6, HB6⟩
        case measure => simp [intOf]; omega
    · obtain rfl : j = N := by omega
      have O1 : Hid (OM wr w1.heap.size (j + 0) (findT (grE me now (grL me now ls j) es 0))) := hom
      have hX2 := (unhide HX1).below (unhide hbl)
      obtain ⟨z0, z1⟩ := hX2
      clear hom
      go_wp2_with fail
      clear z0 z1
      go_loopw [63] (fun i wr => ∃ k : Nat, k ≤ M ∧ i = .int .i64 k ∧ Hid (OM wr w1.heap.size (j + k) (findT (grE me now (grL me now ls j) es k))) ∧ Hid (Below w1.heap.size w1 wr)) (fun i _ => M - (intOf i).toNat)
      case atStart => exact ⟨0, by omega, rfl, O1, hbl⟩
      case round =>
        obtain ⟨k, hk, rfl, hom, hbl⟩ := hrel
        have hbs := (unhide hbl).size
        have hlm := (unhide hom).lt
        by_cases hlt2 : (k : Int) < (M : Int)
        · have k0 : (0 : Int) ≤ (k : Int) := by omega
          have hlen : k < es.length := by rw [unhide HM]; omega
          obtain ⟨g, off, rfl⟩ := (unhide HE1).form (by omega)
          have hA := ((unhide HE1).below (unhide hbl)).at hlen
          have HY : Hid (edOn me now (es.getD k R.zero) = true → findT (grE me now (grL me now ls j) es (k + 1)) = updT (findT (grE me now (grL me now ls j) es k)) (hv (es.getD k R.zero)) (ha (es.getD k R.zero)) (edT (es.getD k R.zero))) := hide (fun h => by
            have hl := two_len (unhide HT2 k (by omega))
            rw [grE_yes hlen h, find_put (two_set (unhide HT2 k (by omega))) (by omega)]; rfl)
          have HZ : Hid (edOn me now (es.getD k R.zero) = false → grE me now (grL me now ls j) es (k + 1) = grE me now (grL me now ls j) es k) := hide (fun h => grE_no hlen h)
          have hbd := ok_bounds (setB_ok (two_set (unhide HTE)) hlen)
          have hbk := ok_k (two_ok (unhide HTE) _ (Tu.getD_mem hlen))
          generalize es.getD k R.zero = m at *
          obtain ⟨key, til, val⟩ := m
          obtain ⟨c0, c1, c2⟩ := hA
          unfold hv ha at hbk HY
          dsimp only at c0 c1 c2 hbd hbk HY
          have KE := hide (fun W => Tp.endsOfKey key W (by omega) (by omega))
          have HCF := hide (ed_offI (me := me) (now := now) (key := key) (til := til) (val := val))
          have HCT := hide (ed_onI (me := me) (now := now) (key := key) (til := til) (val := val))
          obtain ⟨kd, hkd⟩ : ∃ kd, key.tdiv 100 = kd := ⟨_, rfl⟩
          obtain ⟨km, hkm⟩ : ∃ km, key.tmod 100 = km := ⟨_, rfl⟩
          rw [hkd, hkm] at KE HCF HCT hbk HY
          clear hkd hkm
          have HXT : Hid (St.Bx (wr.alloc (.cells #[.int .i64 key, .int .i64 til, .int .i64 val] 99)) wr.heap.size ⟨key, til, val⟩) := hide (Tw.bx_new wr ⟨key, til, val⟩ _)
          have B1 : Hid (Below wr.heap.size wr (wr.alloc (.cells #[.int .i64 key, .int .i64 til, .int .i64 val] 99))) := hide ((Below.refl _ _).alloc (Nat.le_refl _) _)
          have HO1 := hide ((unhide hom).below (unhide B1))
          have HBL1 := hide ((unhide hbl).trans ((unhide B1).mono (unhide hbl).size))
          have hlw : wr.heap.size < (wr.alloc (.cells #[.int .i64 key, .int .i64 til, .int .i64 val] 99)).heap.size := by simp
          clear B1
          go_wp2_with fail
          generalize hWW : wr.alloc (.cells #[.int .i64 key, .int .i64 til, .int .i64 val] 99) = WW at *
          clear hWW c0 c1 c2
          refine (unhide KE _).mono ?_
          rintro e w2 ⟨rfl, b2⟩
          have HO2 := hide (((unhide HO1).below b2).below ((Below.refl _ _).alloc (Nat.le_refl _) (.cells #[.int .i64 kd, .int .i64 km] 194)))
          have HB2 := hide (((unhide HBL1).trans (b2.mono (unhide HBL1).size)).alloc (Nat.le_trans (unhide HBL1).size b2.size) (.cells #[.int .i64 kd, .int .i64 km] 194))
          obtain ⟨x0, x1, x2⟩ := (unhide HXT).below b2
          obtain ⟨y0, y1, y2⟩ := ((unhide HXT).below b2).below ((Below.refl _ _).alloc (Nat.le_refl _) (.cells #[.int .i64 kd, .int .i64 km] 194))
          dsimp only at x0 x1 x2 y0 y1 y2
          have hws : wr.heap.size < w2.heap.size := Nat.lt_of_lt_of_le hlw b2.size
          clear b2 HO1 HBL1 HXT
          cases hon : edOn me now ⟨key, til, val⟩
          · have E1 := unhide HZ hon
            have HO3 : Hid (OM (w2.alloc (.cells #[.int .i64 kd, .int .i64 km] 194)) w1.heap.size (j + (k + 1)) (findT (grE me now (grL me now ls j) es (k + 1)))) := hide (by rw [E1]; exact (unhide HO2).mono (by omega))
            have hcs := unhide HCF hon
            clear E1 HY HZ hon
            rcases hcs with q1 | ⟨q1, q2 | ⟨q2, q3⟩⟩
            all_goals
              go_wp2_with fail
              go_roundw
              case rel => exact ⟨k + 1, by omega, by go_num, HO3, HB2⟩
              case measure => simp [intOf]; omega
          · have HPF := hide (unhide HY hon)
            obtain ⟨q1, q2, q3⟩ := unhide HCT hon
            clear HY HZ hon
            go_wp2_with (refine wpList_put _ rfl _ _ _ rfl w1.heap.size (j + k) _ rfl (unhide HO2) (by unfold maxLen; omega) kd km (WalkArith.wf_i64 ⟨by omega, by omega⟩) (WalkArith.wf_i64 ⟨by omega, by omega⟩) ⟨key, 0, val⟩ rfl rfl ?_; intro w6 om6 g6; have HO6 : Hid (OM w6 w1.heap.size (j + (k + 1)) (findT (grE me now (grL me now ls j) es (k + 1)))) := hide ((unhide HPF) ▸ om6); have HB6 := hide (om_grown (unhide HB2) (Nat.le_refl _) (Nat.le_refl _) g6); clear om6 g6)
            go_roundw
            case rel => exact ⟨k + 1, by omega, by go_num, HO6, HB6⟩
            case measure => simp [intOf]; omega
        · obtain rfl : k = M := by omega
          have HBw := hide ((unhide HB1).trans ((unhide hbl).mono (unhide HB1).size))
          go_wp2_with fail
          refine (Tp.edgesInOrder w1.heap.size (j + k) _ _ (by omega) (unhide hom)).mono ?_
          rintro e w6 ⟨ve, rfl, b6, l6⟩
          rw [unhide HGR] at l6
          have HB6 := hide ((unhide HBw).trans (b6.mono (unhide HBw).size))
          have HL6 := hide (l6.mono (lo' := w.heap.size) (unhide HBw).size (Nat.le_refl _))
          clear b6 l6
          go_wp2_with fail
          go_ret2
          exact ⟨_, rfl, unhide HB6, unhide HL6⟩
end Gr
end Go.Proofs.YtfooahhdikobeaaGreat
namespace Go.Proofs.YtfooahhdikobeaaGreat
set_option linter.unusedVariables false
set_option linter.unusedSimpArgs false
namespace Pq
variable {α : Type}
/-- The first place at which something holds, or the list's length. -/
def place (p : α → Bool) (ms : List α) : Nat := (ms.takeWhile fun m => !p m).length
theorem place_of (z : α) (p : α → Bool) : ∀ (ms : List α) (j : Nat), j ≤ ms.length → (∀ i, i < j → p (ms.getD i z) = false) → (j < ms.length → p (ms.getD j z) = true) → place p ms = j
  | [], j, hj, _, _ => by simp at hj; subst hj; rfl
  | m :: t, 0, _, _, h2 => by
    have h := h2 (by simp)
    simp at h
    unfold place
    rw [List.takeWhile_cons_of_neg (by simp [h])]; rfl
  | m :: t, j + 1, hj, h1, h2 => by
    have h := h1 0 (by omega)
    simp at h
    have ih := place_of z p t j (by simpa using hj) (fun i hi => by have := h1 (i + 1) (by omega); simpa using this) (fun hl => by have := h2 (by simp; omega); simpa using this)
    unfold place at *
    rw [List.takeWhile_cons_of_pos (by simp [h]), List.length_cons, ih]
theorem place_le (p : α → Bool) (ms : List α) : place p ms ≤ ms.length := (List.takeWhile_sublist (p := fun m => !p m) (l := ms)).length_le
theorem place_cons_yes {p : α → Bool} {m : α} {t : List α} (h : p m = true) : place p (m :: t) = 0 := by unfold place; rw [List.takeWhile_cons_of_neg (by simp [h])]; rfl
theorem place_cons_no {p : α → Bool} {m : α} {t : List α} (h : p m = false) : place p (m :: t) = place p t + 1 := by unfold place; rw [List.takeWhile_cons_of_pos (by simp [h]), List.length_cons]
end Pq
namespace Rw
open W1 Ro
/-- Whether a route is right; whether routes are, the first j of them. -/
def okT (r : R) : Bool := inB r.ds 1 8 && (inB r.nx 1 8 && (inB r.co 1 1099511627776 && inB r.hp 1 8))
abbrev allT (ss : List R) (j : Nat) : Bool := Ri.all R.zero okT R.ds ss j
def rouB (ss : List R) : Bool := allT ss ss.length
def isT (a : Int) (s : R) : Bool := s.ds == a
def hasT (ss : List R) (a : Int) : Bool := (ss.find? (isT a)).isSome
theorem ok_ad {s : R} (h : okT s = true) : 1 ≤ s.ds ∧ s.ds ≤ 8 := by unfold okT inB at h; simp at h; exact h.1
theorem ok_co {s : R} (h : okT s = true) : 1 ≤ s.co ∧ s.co ≤ 1099511627776 := by unfold okT inB at h; simp at h; exact h.2.2.1
theorem rou_len {ss : List R} (h : rouB ss = true) : ss.length ≤ 8 := by
  have := Ri.all_long (lo := 1) (hi := 8) (fun m hm => ok_ad hm) h; omega
theorem isT_iff {a : Int} {s : R} : isT a s = true ↔ s.ds = a := by unfold isT; simp
/-- Addresses that rise. -/
abbrev UpT (ss : List R) : Prop := ss.Pairwise (fun a b => a.ds < b.ds)
theorem getD_get {ss : List R} {i : Nat} (h : i < ss.length) : ss.getD i R.zero = ss[i] := by rw [List.getD_eq_getElem?_getD, List.getElem?_eq_getElem h]; rfl
/-- Where an address stands, or would; whether it is there. -/
def atT (a : Int) (s : R) : Bool := decide (a ≤ s.ds)
def placeT (ss : List R) (a : Int) : Nat := Pq.place (atT a) ss
def thereT (ss : List R) (a : Int) : Bool := decide (placeT ss a < ss.length) && decide ((ss.getD (placeT ss a) R.zero).ds = a)
theorem place_le (ss : List R) (a : Int) : placeT ss a ≤ ss.length := Pq.place_le _ _
theorem place_lt {s : R} {t : List R} {a : Int} (h : s.ds < a) : placeT (s :: t) a = placeT t a + 1 := Pq.place_cons_no (by unfold atT; exact decide_eq_false (by omega))
theorem place_ge {s : R} {t : List R} {a : Int} (h : a ≤ s.ds) : placeT (s :: t) a = 0 := Pq.place_cons_yes (by unfold atT; exact decide_eq_true h)
theorem there_lt {s : R} {t : List R} {a : Int} (h : s.ds < a) : thereT (s :: t) a = thereT t a := by
  unfold thereT; rw [place_lt h]; simp
theorem there_ge {s : R} {t : List R} {a : Int} (h : a ≤ s.ds) : thereT (s :: t) a = decide (s.ds = a) := by
  unfold thereT; rw [place_ge h]; simp
theorem find_there : ∀ {ss : List R}, UpT ss → ∀ a, ss.find? (isT a) = if thereT ss a = true then some (ss.getD (placeT ss a) R.zero) else none
  | [], _, a => rfl
  | s :: t, h, a => by
    obtain ⟨h1, h2⟩ := List.pairwise_cons.1 h
    rcases Int.lt_trichotomy s.ds a with hk | hk | hk
    · rw [List.find?_cons_of_neg (by rw [isT_iff]; omega), there_lt hk, place_lt hk, find_there h2 a]; simp
    · rw [List.find?_cons_of_pos (by rw [isT_iff]; exact hk), there_ge (by omega), place_ge (by omega), decide_eq_true hk]; simp
    · rw [there_ge (by omega), decide_eq_false (by omega)]
      simp only [Bool.false_eq_true, if_false]
      rw [List.find?_eq_none]
      intro x hx
      rw [isT_iff]
      rcases List.mem_cons.1 hx with rfl | hx
      · omega
      · have := h1 x hx; omega
theorem has_there {ss : List R} (h : UpT ss) (a : Int) : hasT ss a = thereT ss a := by
  unfold hasT; rw [find_there h a]; cases thereT ss a <;> rfl
/-- The code of a list, of two lists; what RouteTo answers. -/
def codeR (l : List R) : Int := if 4096 < (l.length : Int) then 2 else if rouB l = true then 0 else 1
theorem code_long {l : List R} (h : 4096 < (l.length : Int)) : codeR l = 2 := by unfold codeR; rw [if_pos h]
theorem code_bad {l : List R} (h : ¬ 4096 < (l.length : Int)) (hb : rouB l = false) : codeR l = 1 := by unfold codeR; rw [if_neg h, if_neg (by rw [hb]; simp)]
theorem code_zero {l : List R} (hb : rouB l = true) : codeR l = 0 := by have := rou_len hb; unfold codeR; rw [if_neg (by omega), if_pos hb]
end Rw
end Go.Proofs.YtfooahhdikobeaaGreat
namespace Go.Proofs.YtfooahhdikobeaaGreat
open Go.ChangeShapes Go.WideShapes Go.ChangeAt Go.RowKit
set_option linter.unusedVariables false
set_option linter.unusedSimpArgs false
set_option maxRecDepth 100000
attribute [local go_sem ↓] Go.wp_at_zero Go.wp_at_succ
namespace Rw
open W1 Ro
/-- A route in a variable's block. -/
def Bx (w : World) (b : Nat) (m : R) : Prop := w.cell? ⟨b, 0, none⟩ = some (.int .i64 m.ds) ∧ w.cell? ⟨b, 1, none⟩ = some (.int .i64 m.nx) ∧ w.cell? ⟨b, 2, none⟩ = some (.int .i64 m.co) ∧ w.cell? ⟨b, 3, none⟩ = some (.int .i64 m.hp)
theorem Bx.below {w w' : World} {b : Nat} {m : R} (h : Bx w b m) (hb : Below w.heap.size w w') : Bx w' b m := by
  have hg : b < w.heap.size := World.block_lt_of_cell? _ _ h.1
  obtain ⟨h0, h1, h2, h3⟩ := h
  refine ⟨?_, ?_, ?_, ?_⟩ <;> (rw [hb.cell hg]; assumption)
theorem Bx.lt {w : World} {b : Nat} {m : R} (h : Bx w b m) : b < w.heap.size := World.block_lt_of_cell? _ _ h.1
theorem Bx.drew {w : World} {b : Nat} {m : R} (h : Bx w b m) : Bx w.drew b m := h
theorem bx_new (w : World) (m : R) (t : Nat) : Bx (w.alloc (.cells #[.int .i64 m.ds, .int .i64 m.nx, .int .i64 m.co, .int .i64 m.hp] t)) w.heap.size m := by
  refine ⟨?_, ?_, ?_, ?_⟩ <;> simp [World.cell?_alloc_new]
theorem sBox {w : World} {b : Nat} {ds nx co hp : Int} (h : Bx w b ⟨ds, nx, co, hp⟩) : Bx w b ⟨ds, nx, co, hp⟩ ∧ w.cell? ⟨b, 0, none⟩ = some (.int .i64 ds) ∧ w.cell? ⟨b, 1, none⟩ = some (.int .i64 nx) ∧ w.cell? ⟨b, 2, none⟩ = some (.int .i64 co) ∧ w.cell? ⟨b, 3, none⟩ = some (.int .i64 hp) := ⟨h, h⟩
theorem sBox2 {w : World} {b g p : Nat} {m : R} {ds nx co hp : Int} (h : Bx w b ⟨ds, nx, co, hp⟩) (h' : At w g p m) :
    (Bx w b ⟨ds, nx, co, hp⟩ ∧ At w g p m) ∧ w.cell? ⟨b, 0, none⟩ = some (.int .i64 ds) ∧ w.cell? ⟨b, 1, none⟩ = some (.int .i64 nx) ∧ w.cell? ⟨b, 2, none⟩ = some (.int .i64 co) ∧ w.cell? ⟨b, 3, none⟩ = some (.int .i64 hp) ∧ w.cell? ⟨g, p, none⟩ = some (.int .i64 m.ds) := ⟨⟨h, h'⟩, h.1, h.2.1, h.2.2.1, h.2.2.2, h'.1⟩
theorem up_at {ms : List R} (h : UpT ms) (k : Int) : ∀ i j, i < j → j < ms.length → atT k (ms.getD i R.zero) = true → atT k (ms.getD j R.zero) = true := by
  intro i j hij hj hi
  have := (List.pairwise_iff_getElem.1 h) i j (by omega) hj hij
  rw [← getD_get (by omega), ← getD_get hj] at this
  unfold atT at *
  exact decide_eq_true (by have := of_decide_eq_true hi; omega)
theorem cloAt (ds nx co hp k : Int) (b : Nat) (w : World) (hc : w.cell? ⟨b, 0, none⟩ = some (.int .i64 k)) :
    Calls Tryz.prog 207 #[.agg #[.int .i64 ds, .int .i64 nx, .int .i64 co, .int .i64 hp], .pointer (some ⟨b, 0, none⟩)] w fun e w' => e = .returned (.bool (atT k ⟨ds, nx, co, hp⟩)) ∧ Below w.heap.size w w' := by
  have hlt : b < w.heap.size := World.block_lt_of_cell? _ _ hc
  have hne : ¬ b = w.heap.size := by omega
  by_cases h : k ≤ ds
  all_goals
    go_enter Tryz.func207, Tryz.ntmps207
    go_wp2
    go_ret
    exact ⟨ret_bool (by unfold atT; simp [h]), (Below.refl _ _).alloc (Nat.le_refl _) _⟩
set_option maxHeartbeats 2000000 in
theorem firstAt (b : Nat) (a : Option Addr) (k : Int) (ms : List R) (cap : Nat) (w : World) (hr : RM w a ms) (hs : UpT ms) (hm : ms.length ≤ 4096) (hb : w.cell? ⟨b, 0, none⟩ = some (.int .i64 k)) :
    Calls Tryz.prog 206 #[.slice a ms.length cap, .func (.func 207) #[] #[.pointer (some ⟨b, 0, none⟩)]] w fun e w' => e = .returned (.int .i64 (Pq.place (atT k) ms)) ∧ Below w.heap.size w w' := by
  have HR := hide hr
  have HB := hide hb
  have HUP := hide (up_at hs k)
  have hblt := World.block_lt_of_cell? _ _ hb
  clear hr hs hb
  generalize hN : ms.length = n at *
  have HN := hide hN
  clear hN
  go_enter Tryz.func206, Tryz.ntmps206
  go_wp2
  go_loopw [5, 6] (fun lo hi wr => ∃ low high : Nat, low ≤ high ∧ high ≤ n ∧ lo = .int .i64 low ∧ hi = .int .i64 high ∧ Hid (∀ i, i < low → atT k (ms.getD i R.zero) = false) ∧ Hid (∀ i, high ≤ i → i < n → atT k (ms.getD i R.zero) = true) ∧ Hid (Below w.heap.size w wr)) (fun lo hi _ => (intOf hi - intOf lo).toNat)
  case atStart => exact ⟨0, n, by omega, by omega, rfl, rfl, hide (fun i hi => by omega), hide (fun i hi h2 => by omega), hide (Below.refl _ _)⟩
  case round =>
    obtain ⟨low, high, hlh, hhn, rfl, rfl, h1, h2, hbl⟩ := hrel
    by_cases hlt : (low : Int) < (high : Int)
    · obtain ⟨mid, hmid⟩ : ∃ mid : Nat, mid = low + (high - low) / 2 := ⟨_, rfl⟩
      have hm1 : low ≤ mid := by omega
      have hm2 : mid < high := by omega
      have em : (low : Int) + ((high : Int) - (low : Int)) / 2 = (mid : Int) := by omega
      have et : ((high : Int) - (low : Int)).tdiv 2 = ((high : Int) - (low : Int)) / 2 := Int.tdiv_eq_ediv_of_nonneg (by omega)
      have k0 : (0 : Int) ≤ (mid : Int) := by omega
      have k1 : (mid : Int) < (n : Int) := by omega
      obtain ⟨g, off, rfl⟩ := (unhide HR).form (by rw [unhide HN]; omega)
      have hA := ((unhide HR).below (unhide hbl)).at (i := mid) (by rw [unhide HN]; omega)
      have HC := hide ((unhide hbl).cell (p := ⟨b, 0, none⟩) hblt)
      have HP : Hid (atT k (ms.getD mid R.zero) = true → ∀ i, mid ≤ i → i < n → atT k (ms.getD i R.zero) = true) := hide (fun h i hi hn => by
        by_cases e : mid = i
        · subst e; exact h
        · exact unhide HUP mid i (by omega) hn h)
      have HQ : Hid (atT k (ms.getD mid R.zero) = false → ∀ i, i < mid + 1 → atT k (ms.getD i R.zero) = false) := hide (fun h i hi => by
        by_cases e : mid = i
        · subst e; exact h
        · cases hb : atT k (ms.getD i R.zero)
          · rfl
          · rw [unhide HUP i mid (by omega) (by omega) hb] at h; cases h)
      clear hmid
      generalize ms.getD mid R.zero = m at *
      obtain ⟨ds, nx, co, hp⟩ := m
      obtain ⟨c0, c1, c2, c3⟩ := hA
      dsimp only at c0 c1 c2 c3
      go_wp2_with fail
      refine (cloAt ds nx co hp k b _ ((unhide HC).trans (unhide HB))).mono ?_
      rintro e w1 ⟨rfl, b1⟩
      have hb1 := hide ((unhide hbl).trans (b1.mono (unhide hbl).size))
      clear c0 c1 c2 c3 b1
      cases hp : atT k ⟨ds, nx, co, hp⟩
      · have HST := hide (unhide HQ hp)
        go_wp2_with fail
        exact ⟨⟨mid + 1, high, by omega, by omega, by go_num, rfl, HST, h2, hb1⟩, by simp [intOf]; omega⟩
      · have HST := hide (unhide HP hp)
        go_wp2_with fail
        exact ⟨⟨low, mid, by omega, by omega, rfl, rfl, h1, HST, hb1⟩, by simp [intOf]; omega⟩
    · obtain rfl : low = high := by omega
      have HST : Hid (Pq.place (atT k) ms = low) := hide (Pq.place_of R.zero _ ms low (by rw [unhide HN]; omega) (unhide h1) (fun h => unhide h2 low (Nat.le_refl _) (by rw [unhide HN] at h; exact h)))
      go_wp2_with fail
      go_ret
      exact ⟨ret_int (by rw [unhide HST]), unhide hbl⟩
theorem there_no {ms : List R} {k : Int} {p : Nat} (e : placeT ms k = p) (h : ms.length ≤ p) : thereT ms k = false := by unfold thereT; rw [e, decide_eq_false (by omega)]; rfl
theorem there_ne {ms : List R} {k : Int} {p : Nat} (e : placeT ms k = p) (h : ¬ (ms.getD p R.zero).ds = k) : thereT ms k = false := by unfold thereT; rw [e, decide_eq_false h, Bool.and_false]
theorem there_yes {ms : List R} {k : Int} {p : Nat} (e : placeT ms k = p) (hl : p < ms.length) (h : (ms.getD p R.zero).ds = k) : thereT ms k = true := by unfold thereT; rw [e, decide_eq_true hl, decide_eq_true h]; rfl
theorem sKey {w : World} {b g o : Nat} {k : Int} {m : R} (h : w.cell? ⟨b, 0, none⟩ = some (.int .i64 k)) (h' : At w g o m) : w.cell? ⟨b, 0, none⟩ = some (.int .i64 k) ∧ w.cell? ⟨g, o, none⟩ = some (.int .i64 m.ds) := ⟨h, h'.1⟩
theorem lt_block {w : World} {b : Nat} {c : Obj} (h : w.heap[b]? = some c) : b < w.heap.size := by
  rcases Nat.lt_or_ge b w.heap.size with hlt | hge
  · exact hlt
  · rw [Array.getElem?_eq_none hge] at h; cases h
theorem heap_set {w : World} {b i : Nat} {c : Array Value} {t : TypeId} {fr : Nat × Nat} (u : Value) (h : w.heap[b]? = some (.cells c t fr)) : (w.setCell ⟨b, i, none⟩ u).heap[b]? = some (.cells (c.setIfInBounds i u) t fr) := by
  have hlt := lt_block h
  have h' : w.heap[b] = .cells c t fr := by simpa [Array.getElem?_eq_getElem hlt] using h
  show (w.heap.modify b _)[b]? = _
  rw [Array.getElem?_eq_getElem (by simpa using hlt), Array.getElem_modify_self, h']
  rfl
/-- A route's block that may be written. -/
def RV (w : World) (b : Nat) (m : R) : Prop := w.heap[b]? = some (.cells #[.int .i64 m.ds, .int .i64 m.nx, .int .i64 m.co, .int .i64 m.hp] 87 (0, 0))
theorem RV.cells {w : World} {b : Nat} {m : R} (h : RV w b m) : Bx w b m := by
  unfold RV at h; refine ⟨?_, ?_, ?_, ?_⟩ <;> simp [World.cell?, h]
theorem RV.free {w : World} {b : Nat} {m : R} (h : RV w b m) (i : Nat) : w.frozen? ⟨b, i, none⟩ = false := by unfold RV at h; simp [World.frozen?, h]
theorem RV.lt {w : World} {b : Nat} {m : R} (h : RV w b m) : b < w.heap.size := lt_block h
theorem RV.drew {w : World} {b : Nat} {m : R} (h : RV w b m) : RV w.drew b m := h
theorem RV.below {w w' : World} {b : Nat} {m : R} (h : RV w b m) (hb : Below w.heap.size w w') : RV w' b m := (hb.block b h.lt).trans h
theorem RV.under {w w' : World} {B b : Nat} {m : R} (h : RV w b m) (hb : Below B w w') (hl : b < B) : RV w' b m := (hb.block b hl).trans h
theorem rv_new (w : World) (m : R) : RV (w.alloc (.cells #[.int .i64 m.ds, .int .i64 m.nx, .int .i64 m.co, .int .i64 m.hp] 87)) w.heap.size m := heap_alloc_new w _
theorem rv_put {w : World} {b : Nat} {m : R} (h : RV w b m) (x y z u : Int) : RV ((((w.setCell ⟨b, 0, none⟩ (.int .i64 x)).setCell ⟨b, 1, none⟩ (.int .i64 y)).setCell ⟨b, 2, none⟩ (.int .i64 z)).setCell ⟨b, 3, none⟩ (.int .i64 u)) b ⟨x, y, z, u⟩ := by
  have h1 := heap_set (i := 0) (.int .i64 x) h
  have h2 := heap_set (i := 1) (.int .i64 y) h1
  have h3 := heap_set (i := 2) (.int .i64 z) h2
  exact heap_set (i := 3) (.int .i64 u) h3
end Rw
end Go.Proofs.YtfooahhdikobeaaGreat
namespace Go.Proofs.YtfooahhdikobeaaGreat
open Go.ChangeShapes Go.WideShapes Go.ChangeAt Go.RowKit
set_option linter.unusedVariables false
set_option linter.unusedSimpArgs false
set_option maxRecDepth 100000
attribute [local go_sem ↓] Go.wp_at_zero Go.wp_at_succ
namespace Wd
open W1 Ro Rw
/-- How two numbers compare; the first of several that is not 0. -/
def cmpV (x y : Int) : Int := if x < y then -1 else if y < x then 1 else 0
def orV : List Int → Int
  | [] => 0
  | x :: t => if x = 0 then orV t else x
theorem cmp_zero {x y : Int} : cmpV x y = 0 ↔ x = y := by
  unfold cmpV
  split
  · constructor <;> intro h <;> omega
  · split <;> constructor <;> intro h <;> omega
theorem cmp_neg {x y : Int} : cmpV x y < 0 ↔ x < y := by
  unfold cmpV
  split
  · constructor <;> intro h <;> omega
  · split <;> constructor <;> intro h <;> omega
theorem bt_cmp (x y : R) : decide (orV [cmpV x.co y.co, cmpV x.hp y.hp, cmpV x.nx y.nx] < 0) = btB x y := by
  simp only [orV, cmp_zero]
  rw [Bool.eq_iff_iff, decide_eq_true_eq, btB_iff]
  unfold Bt
  by_cases h1 : x.co = y.co
  · rw [if_pos h1]
    by_cases h2 : x.hp = y.hp
    · rw [if_pos h2]
      by_cases h3 : x.nx = y.nx
      · rw [if_pos h3]; omega
      · rw [if_neg h3, cmp_neg]; omega
    · rw [if_neg h2, cmp_neg]; omega
  · rw [if_neg h1, cmp_neg]; omega
set_option maxHeartbeats 1000000 in
theorem compare (x y : Int) (w : World) : Calls Tryz.prog 192 #[.int .i64 x, .int .i64 y] w fun e w' => e = .returned (.int .i64 (cmpV x y)) ∧ w' = w := by
  by_cases h1 : x < y
  · rw [show cmpV x y = -1 by unfold cmpV; rw [if_pos h1]]
    go_enter Tryz.func192, Tryz.ntmps192
    go_wp2
    go_ret
    exact ⟨rfl, rfl⟩
  by_cases h2 : y < x
  · rw [show cmpV x y = 1 by unfold cmpV; rw [if_neg h1, if_pos h2]]
    go_enter Tryz.func192, Tryz.ntmps192
    go_wp2
    go_ret
    exact ⟨rfl, rfl⟩
  · rw [show cmpV x y = 0 by unfold cmpV; rw [if_neg h1, if_neg h2]]
    go_enter Tryz.func192, Tryz.ntmps192
    go_wp2
    go_ret
    exact ⟨rfl, rfl⟩
theorem or_drop {zs : List Int} {j : Nat} (h : j < zs.length) : orV (zs.drop j) = if zs.getD j 0 = 0 then orV (zs.drop (j + 1)) else zs.getD j 0 := by
  rw [List.drop_eq_getElem_cons h, List.getD_eq_getElem?_getD, List.getElem?_eq_getElem h]; rfl
set_option maxHeartbeats 2000000 in
theorem cmpOr (a : Option Addr) (zs : List Int) (cap : Nat) (w : World) (hm : zs.length ≤ 64) (hr : In.RM w a zs) :
    Calls Tryz.prog 191 #[.slice a zs.length cap] w fun e w' => e = .returned (.int .i64 (orV zs)) ∧ w' = w := by
  have HR := hide hr
  clear hr
  generalize hN : zs.length = n at *
  have HN := hide hN
  clear hN
  go_enter Tryz.func191, Tryz.ntmps191
  go_wp2_with fail
  go_loopw [8] (fun i wr => w = wr ∧ ∃ j : Nat, j ≤ n ∧ i = .int .i64 j ∧ Hid (orV zs = orV (zs.drop j))) (fun i _ => n - (intOf i).toNat)
  case atStart => exact ⟨rfl, 0, by omega, rfl, hide rfl⟩
  case round =>
    obtain ⟨rfl, j, hj, rfl, ho⟩ := hrel
    by_cases hlt : (j : Int) < (n : Int)
    · have k0 : (0 : Int) ≤ (j : Int) := by omega
      have hlen : j < zs.length := by rw [unhide HN]; omega
      rcases unhide HR with e0 | ⟨g, off, rfl, hc⟩
      · exfalso; rw [e0] at hlen; simp at hlen
      have c0 := hc j hlen
      clear hc
      have HT := hide (or_drop hlen)
      generalize zs.getD j 0 = y at *
      by_cases hy : y = 0
      · have HE : Hid (orV zs = orV (zs.drop (j + 1))) := hide (by rw [unhide ho, unhide HT, if_pos hy])
        subst hy
        go_wp2_with fail
        go_roundw
        case rel => exact ⟨by first | trivial | rfl, j + 1, by omega, by go_num, HE⟩
        case measure => simp [intOf]; omega
      · have HE : Hid (y = orV zs) := hide (by rw [unhide ho, unhide HT, if_neg hy])
        have hy2 : (y != 0) = true := by simpa using hy
        go_wp2_with fail
        go_ret
        exact ⟨ret_int (unhide HE), rfl⟩
    · obtain rfl : j = n := by omega
      have HE : Hid (0 = orV zs) := hide (by have := unhide ho; rw [← unhide HN, List.drop_length] at this; exact this.symm)
      go_wp2_with fail
      go_ret
      exact ⟨ret_int (unhide HE), rfl⟩
theorem rm_new3 (w : World) (a b c : Int) : In.RM (w.alloc (.cells #[.int .i64 a, .int .i64 b, .int .i64 c] 3)) (some ⟨w.heap.size, 0, none⟩) [a, b, c] := by
  refine .inr ⟨_, _, rfl, fun i hi => ?_⟩
  rw [World.cell?_alloc_new]
  match i, hi with
  | 0, _ | 1, _ | 2, _ => rfl
  | n + 3, h => simp at h; omega
set_option maxRecDepth 100000 in
set_option maxHeartbeats 8000000 in
theorem isBetter (x y : R) (w : World) : Calls Tryz.prog 158 #[x.value, y.value] w fun e w' => e = .returned (.bool (btB x y)) ∧ Below w.heap.size w w' := by
  have HE := hide (bt_cmp x y)
  obtain ⟨xa, xn, xc, xh⟩ := x
  obtain ⟨ya, yn, yc, yh⟩ := y
  dsimp only at HE ⊢
  show Calls Tryz.prog 158 #[.agg #[.int .i64 xa, .int .i64 xn, .int .i64 xc, .int .i64 xh], .agg #[.int .i64 ya, .int .i64 yn, .int .i64 yc, .int .i64 yh]] w _
  have HBx := hide (bx_new w ⟨xa, xn, xc, xh⟩ 87)
  have HBy := hide (bx_new (w.alloc (.cells #[.int .i64 xa, .int .i64 xn, .int .i64 xc, .int .i64 xh] 87)) ⟨ya, yn, yc, yh⟩ 87)
  have P1 := hide ((Below.refl w.heap.size w).alloc (Nat.le_refl _) (.cells #[.int .i64 xa, .int .i64 xn, .int .i64 xc, .int .i64 xh] 87))
  have P2 := hide ((unhide P1).alloc (unhide P1).size (.cells #[.int .i64 ya, .int .i64 yn, .int .i64 yc, .int .i64 yh] 87))
  go_enter Tryz.func158, Tryz.ntmps158
  go_wp2_with fail
  have HX2 := hide ((unhide HBx).below ((Below.refl _ _).alloc (Nat.le_refl _) (.cells #[.int .i64 ya, .int .i64 yn, .int .i64 yc, .int .i64 yh] 87)))
  rw [World.size_alloc] at HBy
  generalize hw2 : (w.alloc (.cells #[.int .i64 xa, .int .i64 xn, .int .i64 xc, .int .i64 xh] 87)).alloc (.cells #[.int .i64 ya, .int .i64 yn, .int .i64 yc, .int .i64 yh] 87) = w2 at *
  clear hw2 P1 HBx
  have HS : Hid (∀ w', Below w2.heap.size w2 w' → w'.cell? ⟨w.heap.size, 1, none⟩ = some (.int .i64 xn) ∧ w'.cell? ⟨w.heap.size, 2, none⟩ = some (.int .i64 xc) ∧ w'.cell? ⟨w.heap.size, 3, none⟩ = some (.int .i64 xh) ∧ w'.cell? ⟨w.heap.size + 1, 1, none⟩ = some (.int .i64 yn) ∧ w'.cell? ⟨w.heap.size + 1, 2, none⟩ = some (.int .i64 yc) ∧ w'.cell? ⟨w.heap.size + 1, 3, none⟩ = some (.int .i64 yh)) := hide (fun w' hb => by
    obtain ⟨x0, x1, x2, x3⟩ := (unhide HX2).below hb
    obtain ⟨y0, y1, y2, y3⟩ := (unhide HBy).below hb
    exact ⟨x1, x2, x3, y1, y2, y3⟩)
  clear HX2 HBy
  have B2 : Below w2.heap.size w2 w2.drew := (Below.refl _ _).drew
  refine wp_region_noPanic ?_
  refine wp_region_held_drew (S := fun w' => w'.cell? ⟨w.heap.size, 1, none⟩ = some (.int .i64 xn) ∧ w'.cell? ⟨w.heap.size, 2, none⟩ = some (.int .i64 xc) ∧ w'.cell? ⟨w.heap.size, 3, none⟩ = some (.int .i64 xh) ∧ w'.cell? ⟨w.heap.size + 1, 1, none⟩ = some (.int .i64 yn) ∧ w'.cell? ⟨w.heap.size + 1, 2, none⟩ = some (.int .i64 yc) ∧ w'.cell? ⟨w.heap.size + 1, 3, none⟩ = some (.int .i64 yh)) (by kernel_rfl) (unhide HS _ B2) (fun hHeld => ?_)
  refine Rg.t 0 5 ?_
  refine Rg.t 1 6 ?_
  refine Rg.t 2 7 ?_
  refine Rg.t 3 8 ?_
  refine Rg.t 5 10 ?_
  refine Rg.t 6 11 ?_
  refine Rg.t 7 12 ?_
  refine Rg.t 8 13 ?_
  refine Rg.t 10 15 ?_
  refine Rg.t 11 16 ?_
  refine Rg.t 12 17 ?_
  refine Rg.t 13 18 ?_
  (refine Rg.o 4 (fun K hK => ?_); go_simp)
  refine (compare _ _ _).mono ?_
  rintro e v3 ⟨rfl, hv3⟩
  have B3 : Below w2.heap.size w2 v3 := by rw [hv3]; exact B2
  clear hv3 hHeld
  refine hK.out _ _ (unhide HS _ B3) (fun hHeld => ?_)
  clear hK K
  (try simp only [Act.put, List.setIfInBounds_toArray, List.set_cons_zero, List.set_cons_succ])
  (refine Rg.o 9 (fun K hK => ?_); go_simp)
  refine (compare _ _ _).mono ?_
  rintro e v4 ⟨rfl, hv4⟩
  have B4 : Below w2.heap.size w2 v4 := by rw [hv4]; exact B3
  clear hv4 hHeld
  refine hK.out _ _ (unhide HS _ B4) (fun hHeld => ?_)
  clear hK K
  (try simp only [Act.put, List.setIfInBounds_toArray, List.set_cons_zero, List.set_cons_succ])
  (refine Rg.o 14 (fun K hK => ?_); go_simp)
  refine (compare _ _ _).mono ?_
  rintro e v5 ⟨rfl, hv5⟩
  have B5 : Below w2.heap.size w2 v5 := by rw [hv5]; exact B4
  clear hv5 hHeld
  refine hK.out _ _ (unhide HS _ B5) (fun hHeld => ?_)
  clear hK K
  (try simp only [Act.put, List.setIfInBounds_toArray, List.set_cons_zero, List.set_cons_succ])
  (refine Rg.o 15 (fun K hK => ?_); go_simp)
  have B6 := B5.alloc B5.size (.cells #[.int .i64 (cmpV xc yc), .int .i64 (cmpV xh yh), .int .i64 (cmpV xn yn)] 3)
  have HRN := hide (rm_new3 v5 (cmpV xc yc) (cmpV xh yh) (cmpV xn yn))
  clear hHeld
  refine hK.out _ _ (unhide HS _ B6) (fun hHeld => ?_)
  clear hK K
  (try simp only [Act.put, List.setIfInBounds_toArray, List.set_cons_zero, List.set_cons_succ])
  (refine Rg.o 16 (fun K hK => ?_); go_simp)
  refine (cmpOr _ [_, _, _] _ _ (by simp) (unhide HRN)).mono ?_
  rintro e v7 ⟨rfl, hv7⟩
  have B7 : Below w2.heap.size w2 v7 := by rw [hv7]; exact B6
  clear hv7 hHeld
  refine hK.out _ _ (unhide HS _ B7) (fun hHeld => ?_)
  clear hK K
  (try simp only [Act.put, List.setIfInBounds_toArray, List.set_cons_zero, List.set_cons_succ])
  refine Rg.t 17 22 ?_
  refine Rg.t 18 4 ?_
  refine wpAnyH_done (by kernel_rfl) (NoPanic.normal ?_) _
  clear hHeld
  have HBF := hide ((unhide P2).trans (B7.mono (unhide P2).size))
  go_wp2_with fail
  go_ret
  exact ⟨ret_bool (unhide HE), unhide HBF⟩
set_option maxHeartbeats 4000000 in
theorem longer (x : R) (v c : Int) (w : World) (hc : 0 ≤ x.co ∧ x.co ≤ 1099511627776) (hh : 0 ≤ x.hp ∧ x.hp ≤ 1000) (hv : 0 ≤ c ∧ c ≤ 1099511627776) :
    Calls Tryz.prog 163 #[x.value, .int .i64 v, .int .i64 c] w fun e w' => e = .returned (ext x v c).value ∧ Below w.heap.size w w' := by
  obtain ⟨xa, xn, xc, xh⟩ := x
  dsimp only at hc hh
  show Calls Tryz.prog 163 #[.agg #[.int .i64 xa, .int .i64 xn, .int .i64 xc, .int .i64 xh], .int .i64 v, .int .i64 c] w _
  by_cases h0 : xh = 0
  · have e : (ext ⟨xa, xn, xc, xh⟩ v c).value = .agg #[.int .i64 v, .int .i64 v, .int .i64 (xc + c), .int .i64 (xh + 1)] := by unfold ext R.value; dsimp only; rw [if_pos h0]
    rw [e]
    have h0' : (xh == 0) = true := by simpa using h0
    clear e h0
    go_enter Tryz.func163, Tryz.ntmps163
    go_wp2_with fail
    refine bodyPost_ret (v := .agg #[.int .i64 v, .int .i64 v, .int .i64 (xc + c), .int .i64 (xh + 1)]) (by simp [results, Tryz.results163, go_sem]) rfl ⟨rfl, ((Below.refl _ _).alloc (Nat.le_refl _) _).alloc (by simp) _⟩
  · have e : (ext ⟨xa, xn, xc, xh⟩ v c).value = .agg #[.int .i64 v, .int .i64 xn, .int .i64 (xc + c), .int .i64 (xh + 1)] := by unfold ext R.value; dsimp only; rw [if_neg h0]
    rw [e]
    have h0' : (xh == 0) = false := by simpa using h0
    clear e h0
    go_enter Tryz.func163, Tryz.ntmps163
    go_wp2_with fail
    refine bodyPost_ret (v := .agg #[.int .i64 v, .int .i64 xn, .int .i64 (xc + c), .int .i64 (xh + 1)]) (by simp [results, Tryz.results163, go_sem]) rfl ⟨rfl, ((Below.refl _ _).alloc (Nat.le_refl _) _).alloc (by simp) _⟩
end Wd
end Go.Proofs.YtfooahhdikobeaaGreat
namespace Go.Proofs.YtfooahhdikobeaaGreat
open Go.ChangeShapes Go.WideShapes Go.ChangeAt Go.RowKit
set_option linter.unusedVariables false
set_option linter.unusedSimpArgs false
set_option maxRecDepth 100000
attribute [local go_sem ↓] Go.wp_at_zero Go.wp_at_succ
namespace Wd
open W1 Ro Rw
theorem flat_set : ∀ (hs : List R) (i : Nat) (m : R), i < hs.length → flat (hs.set i m) = ((((flat hs).set (i * 4) (.int .i64 m.ds)).set (i * 4 + 1) (.int .i64 m.nx)).set (i * 4 + 2) (.int .i64 m.co)).set (i * 4 + 3) (.int .i64 m.hp)
  | [], i, m, h => by simp at h
  | x :: t, 0, m, _ => rfl
  | x :: t, i + 1, m, h => by
    have ih := flat_set t i m (by simpa using h)
    have e : flat (x :: t) = .int .i64 x.ds :: .int .i64 x.nx :: .int .i64 x.co :: .int .i64 x.hp :: flat t := rfl
    have e' : flat ((x :: t).set (i + 1) m) = .int .i64 x.ds :: .int .i64 x.nx :: .int .i64 x.co :: .int .i64 x.hp :: flat (t.set i m) := rfl
    rw [e', e, ih, show (i + 1) * 4 = i * 4 + 1 + 1 + 1 + 1 by omega]
    rw [show i * 4 + 1 + 1 + 1 + 1 + 1 = (i * 4 + 1) + 1 + 1 + 1 + 1 by omega, show i * 4 + 1 + 1 + 1 + 1 + 2 = (i * 4 + 2) + 1 + 1 + 1 + 1 by omega, show i * 4 + 1 + 1 + 1 + 1 + 3 = (i * 4 + 3) + 1 + 1 + 1 + 1 by omega]
    simp only [List.set_cons_succ]
/-- One of a row of one's own is written. -/
theorem own_put {w : World} {base g n cap : Nat} {hs : List R} (hn : n = hs.length) (h : w.ownsRow base 87 4 (.slice (some ⟨g, 0, none⟩) n cap) n (flat hs)) {i : Nat} (hi : i < hs.length) (m : R) :
    (put w g (i * 4) m).ownsRow base 87 4 (.slice (some ⟨g, 0, none⟩) n cap) n (flat (hs.set i m)) := by
  obtain ⟨hl, ⟨h1, _⟩ | ⟨g', cap', cur, e, hb, hg, hc1, hc2, hsz, ht⟩⟩ := h
  · cases h1
  · cases e
    refine ⟨by rw [flat_len, List.length_set, hn], .inr ⟨g, cap, (((cur.setIfInBounds (i * 4) (.int .i64 m.ds)).setIfInBounds (i * 4 + 1) (.int .i64 m.nx)).setIfInBounds (i * 4 + 2) (.int .i64 m.co)).setIfInBounds (i * 4 + 3) (.int .i64 m.hp), rfl, hb, ?_, hc1, hc2, ?_, ?_⟩⟩
    · unfold put; exact heap_set _ (heap_set _ (heap_set _ (heap_set _ hg)))
    · simpa using hsz
    · rw [flat_set hs i m hi, ← ht]
      simp only [Array.toList_setIfInBounds, List.take_set]
theorem own_cut {w : World} {base n cap : Nat} {a : Addr} {hs : List R} (hn : n = hs.length) (h : w.ownsRow base 87 4 (.slice (some a) n cap) n (flat hs)) {k : Nat} (hk : k ≤ n) :
    w.ownsRow base 87 4 (.slice (some a) k cap) k (flat (hs.take k)) := by
  obtain ⟨hl, ⟨h1, _⟩ | ⟨g', cap', cur, e, hb, hg, hc1, hc2, hsz, ht⟩⟩ := h
  · cases h1
  · cases e
    refine ⟨by rw [flat_len, List.length_take]; rw [Nat.min_eq_left (by omega)], .inr ⟨g', cap, cur, rfl, hb, hg, by omega, hc2, hsz, ?_⟩⟩
    have e2 : flat hs = flat (hs.take k) ++ flat (hs.drop k) := by rw [← flat_append, List.take_append_drop]
    have e3 : (flat (hs.take k)).length = k * 4 := by rw [flat_len, List.length_take, Nat.min_eq_left (by omega)]
    have : cur.toList.take (k * 4) = (cur.toList.take (n * 4)).take (k * 4) := by rw [List.take_take, Nat.min_eq_left (by omega)]
    rw [this, ht, e2, ← e3, List.take_left]
/-- A heap in block p: its items' slice v, whose row of its own stands above block p. -/
def HP (w : World) (p : Nat) (v : Value) (hs : List R) : Prop :=
  w.heap[p]? = some (.cells #[v, (Value.func (.func 158) #[] #[])] 189 (0, 0)) ∧ w.ownsRow (p + 1) 87 4 v hs.length (flat hs)
/-- Nothing is written but block p and the row of v, and what is new. -/
structure Frm (p : Nat) (v : Value) (w w' : World) : Prop where
  os : w'.os = w.os
  tape : w'.tape = w.tape
  output : w'.output = w.output
  size : w.heap.size ≤ w'.heap.size
  block : ∀ k, k < w.heap.size → k ≠ p → some k ≠ v.ownBlock → w'.heap[k]? = w.heap[k]?
/-- The slice has the row that it had, or one that is new. -/
def Nxt (w : World) (v v' : Value) : Prop := v'.ownBlock = v.ownBlock ∨ v'.ownBlock = none ∨ ∃ k, v'.ownBlock = some k ∧ w.heap.size ≤ k
theorem Frm.refl (p : Nat) (v : Value) (w : World) : Frm p v w w := ⟨rfl, rfl, rfl, Nat.le_refl _, fun _ _ _ _ => rfl⟩
theorem Frm.of_below {p : Nat} {v : Value} {w w' : World} (h : Below w.heap.size w w') : Frm p v w w' := ⟨h.os, h.tape, h.output, h.size, fun k hk _ _ => h.block k hk⟩
theorem Frm.trans {p : Nat} {v v' : Value} {a b c : World} (h : Frm p v a b) (k : Frm p v' b c) (hn : Nxt a v v') : Frm p v a c :=
  ⟨k.os.trans h.os, k.tape.trans h.tape, k.output.trans h.output, Nat.le_trans h.size k.size, fun i hi hp hv => (k.block i (Nat.lt_of_lt_of_le hi h.size) hp (by
    rcases hn with e | e | ⟨q, e, hq⟩
    · rw [e]; exact hv
    · rw [e]; simp
    · rw [e]; intro e'; cases e'; omega)).trans (h.block i hi hp hv)⟩
theorem Nxt.refl (w : World) (v : Value) : Nxt w v v := .inl rfl
theorem Nxt.trans {a b : World} {v v' v'' : Value} (h : Nxt a v v') (k : Nxt b v' v'') (hs : a.heap.size ≤ b.heap.size) : Nxt a v v'' := by
  rcases k with e | e | ⟨q, e, hq⟩
  · rcases h with f | f | f
    · exact .inl (e.trans f)
    · exact .inr (.inl (e.trans f))
    · obtain ⟨q, f, hq⟩ := f; exact .inr (.inr ⟨q, e.trans f, hq⟩)
  · exact .inr (.inl e)
  · exact .inr (.inr ⟨q, e, by omega⟩)
/-- What stands below block p is as it was. -/
theorem Frm.below {p : Nat} {v : Value} {w w' : World} {hs : List R} (h : Frm p v w w') (hp : HP w p v hs) : Below p w w' :=
  ⟨h.os, h.tape, h.output, h.size, fun k hk => h.block k (Nat.lt_trans hk (lt_block hp.1)) (by omega) (fun e => by have := hp.2.lt k e.symm; omega)⟩
theorem HP.lt {w : World} {p : Nat} {v : Value} {hs : List R} (h : HP w p v hs) : p < w.heap.size := lt_block h.1
theorem HP.below {w w' : World} {p : Nat} {v : Value} {hs : List R} (h : HP w p v hs) (hb : Below w.heap.size w w') : HP w' p v hs := by
  refine ⟨(hb.block p h.lt).trans h.1, ?_⟩
  exact h.2.kept (row := none) ⟨hb.os, hb.tape, hb.output, hb.size, fun k hk _ => hb.block k hk⟩ (by cases hv : v.ownBlock <;> simp)
theorem HP.c0 {w : World} {p : Nat} {v : Value} {hs : List R} (h : HP w p v hs) : w.cell? ⟨p, 0, none⟩ = some v := by simp [World.cell?, h.1]
theorem HP.c1 {w : World} {p : Nat} {v : Value} {hs : List R} (h : HP w p v hs) : w.cell? ⟨p, 1, none⟩ = some (Value.func (.func 158) #[] #[]) := by simp [World.cell?, h.1]
theorem HP.free {w : World} {p : Nat} {v : Value} {hs : List R} (h : HP w p v hs) (i : Nat) : w.frozen? ⟨p, i, none⟩ = false := by simp [World.frozen?, h.1]
theorem HP.form {w : World} {p : Nat} {v : Value} {hs : List R} (h : HP w p v hs) (h0 : 0 < hs.length) : ∃ g cap, v = .slice (some ⟨g, 0, none⟩) hs.length cap ∧ p < g ∧ g < w.heap.size ∧ hs.length ≤ cap ∧ cap ≤ maxLen := by
  obtain ⟨hl, ⟨e, h1⟩ | ⟨g, cap, cur, e, hb, hg, hc1, hc2, hsz, ht⟩⟩ := h.2
  · omega
  · exact ⟨g, cap, e, by omega, lt_block hg, hc1, hc2⟩
theorem HP.at {w : World} {p g cap : Nat} {hs : List R} (h : HP w p (.slice (some ⟨g, 0, none⟩) hs.length cap) hs) {i : Nat} (hi : i < hs.length) : At w g (i * 4) (at' hs i) := at_own rfl h.2 i hi
theorem HP.gfree {w : World} {p g n cap : Nat} {hs : List R} (h : HP w p (.slice (some ⟨g, 0, none⟩) n cap) hs) (i : Nat) : w.frozen? ⟨g, i, none⟩ = false := by
  obtain ⟨hl, ⟨e, h1⟩ | ⟨g', cap', cur, e, hb, hg, _⟩⟩ := h.2
  · cases e
  · cases e; simp [World.frozen?, hg]
theorem HP.slice {w : World} {p : Nat} {v : Value} {hs : List R} (h : HP w p v hs) : ∃ a cap, v = .slice a hs.length cap ∧ (hs.length ≤ cap) := by
  obtain ⟨hl, ⟨e, h1⟩ | ⟨g, cap, cur, e, hb, hg, hc1, hc2, hsz, ht⟩⟩ := h.2
  · exact ⟨none, 0, by rw [h1]; exact e, by omega⟩
  · exact ⟨_, cap, e, hc1⟩
theorem isEmpty (p : Nat) (v : Value) (hs : List R) (w : World) (h : HP w p v hs) :
    Calls Tryz.prog 160 #[.pointer (some ⟨p, 0, none⟩)] w fun e w' => e = .returned (.bool (decide (hs.length = 0))) ∧ w' = w := by
  have c0 := h.c0
  obtain ⟨a, cap, rfl, _⟩ := h.slice
  generalize hs.length = n at *
  by_cases hn : n = 0
  · have h1 : ((n : Int) == 0) = true := by simpa using hn
    rw [decide_eq_true hn]
    go_enter Tryz.func160, Tryz.ntmps160
    go_wp2_with fail
    go_ret
    exact ⟨rfl, rfl⟩
  · have h1 : ((n : Int) == 0) = false := by simpa using hn
    rw [decide_eq_false hn]
    go_enter Tryz.func160, Tryz.ntmps160
    go_wp2_with fail
    go_ret
    exact ⟨rfl, rfl⟩
set_option maxHeartbeats 8000000 in
theorem swap0 (p g cap n i j : Nat) (x y : R) (w : World) (hi : i < n) (hj : j < n) (c0 : w.cell? ⟨p, 0, none⟩ = some (.slice (some ⟨g, 0, none⟩) n cap)) (hpg : p ≠ g)
    (hx : At w g (i * 4) x) (hy : At w g (j * 4) y) (hf : ∀ k, w.frozen? ⟨g, k, none⟩ = false) (hne : i ≠ j) :
    Calls Tryz.prog 193 #[.pointer (some ⟨p, 0, none⟩), .int .i64 (i : Int), .int .i64 (j : Int)] w fun e w' => e = .returned (.tuple #[]) ∧ w' = (put (put w g (i * 4) y) g (j * 4) x).drew := by
  obtain ⟨xa, xn, xc, xh⟩ := x
  obtain ⟨ya, yn, yc, yh⟩ := y
  obtain ⟨x0, x1, x2, x3⟩ := hx
  obtain ⟨y0, y1, y2, y3⟩ := hy
  dsimp only at x0 x1 x2 x3 y0 y1 y2 y3
  have i0 : (0 : Int) ≤ (i : Int) := by omega
  have j0 : (0 : Int) ≤ (j : Int) := by omega
  have i1 : (i : Int) < (n : Int) := by omega
  have j1 : (j : Int) < (n : Int) := by omega
  unfold put
  dsimp only
  go_enter Tryz.func193, Tryz.ntmps193
  go_wp2_with fail
  go_region
  go_wp2_with fail
  refine bodyPost_end (v := .tuple #[]) (by simp [results, Tryz.results193, go_sem]) rfl ⟨rfl, ?_⟩
  rfl
set_option maxHeartbeats 8000000 in
theorem swap1 (p g cap n i : Nat) (x : R) (w : World) (hi : i < n) (c0 : w.cell? ⟨p, 0, none⟩ = some (.slice (some ⟨g, 0, none⟩) n cap)) (hpg : p ≠ g)
    (hx : At w g (i * 4) x) (hf : ∀ k, w.frozen? ⟨g, k, none⟩ = false) :
    Calls Tryz.prog 193 #[.pointer (some ⟨p, 0, none⟩), .int .i64 (i : Int), .int .i64 (i : Int)] w fun e w' => e = .returned (.tuple #[]) ∧ w' = (put (put w g (i * 4) x) g (i * 4) x).drew := by
  obtain ⟨xa, xn, xc, xh⟩ := x
  obtain ⟨x0, x1, x2, x3⟩ := hx
  dsimp only at x0 x1 x2 x3
  have i0 : (0 : Int) ≤ (i : Int) := by omega
  have i1 : (i : Int) < (n : Int) := by omega
  unfold put
  dsimp only
  go_enter Tryz.func193, Tryz.ntmps193
  go_wp2_with fail
  go_region
  go_wp2_with fail
  refine bodyPost_end (v := .tuple #[]) (by simp [results, Tryz.results193, go_sem]) rfl ⟨rfl, ?_⟩
  rfl
theorem put_other {w : World} {g o b : Nat} {m : R} (h : b ≠ g) : (put w g o m).heap[b]? = w.heap[b]? := by
  unfold put
  rw [Below.heap_setCell _ _ _ _ h, Below.heap_setCell _ _ _ _ h, Below.heap_setCell _ _ _ _ h, Below.heap_setCell _ _ _ _ h]
theorem HP.drew {w : World} {p : Nat} {v : Value} {hs : List R} (h : HP w p v hs) : HP w.drew p v hs := h
theorem Frm.drew {p : Nat} {v : Value} {w w' : World} (h : Frm p v w w') : Frm p v w w'.drew := ⟨h.os, h.tape, h.output, h.size, h.block⟩
theorem put_os (w : World) (g o : Nat) (m : R) : (put w g o m).os = w.os ∧ (put w g o m).tape = w.tape ∧ (put w g o m).output = w.output := by
  unfold put; exact ⟨rfl, rfl, rfl⟩
theorem put_hp {p g n cap : Nat} {hs : List R} {w : World} (hn : n = hs.length) (h : HP w p (.slice (some ⟨g, 0, none⟩) n cap) hs) {i : Nat} (hi : i < hs.length) (hne : p ≠ g) (m : R) : HP (put w g (i * 4) m) p (.slice (some ⟨g, 0, none⟩) n cap) (hs.set i m) := by
  refine ⟨(put_other hne).trans h.1, ?_⟩
  subst hn
  have := own_put rfl h.2 hi m
  rw [List.length_set]; exact this
theorem put_frm {p g n cap o : Nat} {w : World} {m : R} : Frm p (.slice (some ⟨g, 0, none⟩) n cap) w (put w g o m) := by
  obtain ⟨h1, h2, h3⟩ := put_os w g o m
  exact ⟨h1, h2, h3, by rw [put_size]; exact Nat.le_refl _, fun k hk hkp hkv => put_other (fun e => hkv (by rw [e]; rfl))⟩
theorem swap_ok (p g cap : Nat) (hs : List R) (i j : Nat) (w : World) (h : HP w p (.slice (some ⟨g, 0, none⟩) hs.length cap) hs) (hi : i < hs.length) (hj : j < hs.length) (hne : p ≠ g) :
    HP (put (put w g (i * 4) (at' hs j)) g (j * 4) (at' hs i)).drew p (.slice (some ⟨g, 0, none⟩) hs.length cap) (swp hs i j) ∧ Frm p (.slice (some ⟨g, 0, none⟩) hs.length cap) w (put (put w g (i * 4) (at' hs j)) g (j * 4) (at' hs i)).drew := by
  have h1 := put_hp rfl h hi hne (at' hs j)
  have h2 := put_hp (by simp) h1 (i := j) (by simpa using hj) hne (at' hs i)
  have f1 : Frm p (.slice (some ⟨g, 0, none⟩) hs.length cap) w (put w g (i * 4) (at' hs j)) := put_frm
  have f2 : Frm p (.slice (some ⟨g, 0, none⟩) hs.length cap) (put w g (i * 4) (at' hs j)) (put (put w g (i * 4) (at' hs j)) g (j * 4) (at' hs i)) := put_frm
  exact ⟨h2.drew, (f1.trans f2 (Nxt.refl _ _)).drew⟩
theorem swap (p : Nat) (v : Value) (hs : List R) (i j : Nat) (w : World) (h : HP w p v hs) (hi : i < hs.length) (hj : j < hs.length) :
    Calls Tryz.prog 193 #[.pointer (some ⟨p, 0, none⟩), .int .i64 (i : Int), .int .i64 (j : Int)] w fun e w' => e = .returned (.tuple #[]) ∧ HP w' p v (swp hs i j) ∧ Frm p v w w' := by
  obtain ⟨g, cap, rfl, hpg, hgl, hc1, hc2⟩ := h.form (by omega)
  have hne : p ≠ g := by omega
  have key : Calls Tryz.prog 193 #[.pointer (some ⟨p, 0, none⟩), .int .i64 (i : Int), .int .i64 (j : Int)] w fun e w' => e = .returned (.tuple #[]) ∧ w' = (put (put w g (i * 4) (at' hs j)) g (j * 4) (at' hs i)).drew := by
    by_cases hij : i = j
    · subst hij; exact swap1 p g cap hs.length i (at' hs i) w hi h.c0 hne (h.at hi) (fun k => h.gfree k)
    · exact swap0 p g cap hs.length i j (at' hs i) (at' hs j) w hi hj h.c0 hne (h.at hi) (h.at hj) (fun k => h.gfree k) hij
  have hw : ∀ w', w' = (put (put w g (i * 4) (at' hs j)) g (j * 4) (at' hs i)).drew → HP w' p (.slice (some ⟨g, 0, none⟩) hs.length cap) (swp hs i j) ∧ Frm p (.slice (some ⟨g, 0, none⟩) hs.length cap) w w' := by
    intro w' hw'
    subst hw'
    exact swap_ok p g cap hs i j w h hi hj hne
  refine key.mono ?_
  rintro e w' ⟨rfl, hw'⟩
  exact ⟨rfl, hw w' hw'⟩
end Wd
end Go.Proofs.YtfooahhdikobeaaGreat
namespace Go.Proofs.YtfooahhdikobeaaGreat
namespace Rl
variable {P : Program} {ops : Array Oper} {Q : Exit → Act → World → Prop} {md : Region.Mode} {S T : World → Prop} {k : Nat}
/-- Whatever order is picked from here on, S holds behind every operation that is carried out, and T as long as k has not come up. -/
def wpAnyL (P : Program) (md : Region.Mode) (ops : Array Oper) (Q : Exit → Act → World → Prop) (S T : World → Prop) (k : Nat) : Nat → Array Bool → Act → World → Prop
  | 0, listed, a, w => Region.ready md ops listed = [] ∧ Q .normal a w
  | fuel + 1, listed, a, w =>
    (Region.ready md ops listed = [] → Q .normal a w) ∧
    ∀ i ∈ Region.ready md ops listed, wpOp P ops Q i (fun a' w' => (S w' ∧ ((listed.setIfInBounds i true).getD k true = false → T w')) ∧ wpAnyL P md ops Q S T k fuel (listed.setIfInBounds i true) a' w') a w
theorem wpAny_of : ∀ (fuel : Nat) (listed : Array Bool) (a : Act) (w : World), wpAnyL P md ops Q S T k fuel listed a w → wpAny P md ops Q fuel listed a w
  | 0, _, _, _, h => h
  | fuel + 1, _, _, _, h => ⟨h.1, fun i hi => wpOp_mono (fun a' w' h' => wpAny_of fuel _ a' w' h'.2) (h.2 i hi)⟩
theorem first {i : Nat} {oi ok : Oper} {v : Value} (hi : ops[i]? = some oi) (hk : ops[k]? = some ok) (hki : k ≠ i) (hsel : ∀ (j : Nat) (o : Oper) cs b, ops[j]? = some o → o.op ≠ .select cs b)
    (hwait : ∃ e ∈ ok.after, Region.binds md e = true ∧ e.on = i)
    (hQ : ∀ c a w, Q (.panic c) (a.put oi.dst v) w → Q (.panic c) a w) :
    ∀ (fuel : Nat) (listed : Array Bool) (a : Act) (w : World),
      (∀ j oj, ops[j]? = some oj → j ≠ i → listed.getD j true = false → (∀ e ∈ oj.after, Region.binds md e = true → e.on ≠ i) → oi.apart ops oj = true) →
      i ∈ Region.ready md ops listed → YieldsIf P ops (fun w => S w ∧ T w) oi v a → listed.getD k true = false → S w ∧ T w →
      wpAnyL P md ops Q S T k fuel (listed.setIfInBounds i true) (a.put oi.dst v) w → wpAnyL P md ops Q S T k (fuel + 1) listed a w := by
  intro fuel
  induction fuel with
  | zero =>
    intro listed a w _ hr hy hlk hS H
    refine ⟨fun h => (by rw [h] at hr; cases hr), fun j hj => ?_⟩
    by_cases hji : j = i
    · subst hji; exact hy.wpOp hi hS ⟨⟨hS.1, fun _ => hS.2⟩, H⟩
    · have := ready_mono hj hji
      rw [H.1] at this
      cases this
  | succ fuel ih =>
    intro listed a w hfree hr hy hlk hS H
    refine ⟨fun h => (by rw [h] at hr; cases hr), fun j hj => ?_⟩
    by_cases hji : j = i
    · subst hji; exact hy.wpOp hi hS ⟨⟨hS.1, fun _ => hS.2⟩, H⟩
    · have h1 := H.2 j (ready_mono hj hji)
      obtain ⟨hjun, oj, hoj, hall⟩ := mem_ready.1 hj
      have hnot : ∀ e ∈ oj.after, Region.binds md e = true → e.on ≠ i := fun e he hb heq => by
        have h1 := hall e he hb
        have h0 := (mem_ready.1 hr).1
        rw [heq] at h1
        rcases Nat.lt_or_ge i listed.size with h' | h'
        · simp [h'] at h0 h1; rw [h0] at h1; cases h1
        · simp [Array.getElem?_eq_none h'] at h1
      have hjk : j ≠ k := fun e => by
        subst e
        rw [hk] at hoj; cases hoj
        obtain ⟨e, he, hb, hon⟩ := hwait
        exact hnot e he hb hon
      have hlj : (listed.setIfInBounds j true).getD k true = false := by rw [getD_set_ne true hjk]; exact hlk
      have hlij : ((listed.setIfInBounds i true).setIfInBounds j true).getD k true = false := by rw [getD_set_ne true hjk, getD_set_ne true (Ne.symm hki)]; exact hlk
      have h2 := wpOp_putIf hoj (hfree j oj hoj hji hjun hnot) (fun cs b => hsel i oi cs b hi) (fun cs b => hsel j oj cs b hoj) hQ hy h1
      have hfree' : ∀ k ok, ops[k]? = some ok → k ≠ i → (listed.setIfInBounds j true).getD k true = false →
          (∀ e ∈ ok.after, Region.binds md e = true → e.on ≠ i) → oi.apart ops ok = true := fun k ok hk hki hun hno => by
        refine hfree k ok hk hki ?_ hno
        by_cases hjk : j = k
        · subst hjk; exact hjun
        · rw [getD_set_ne true hjk] at hun; exact hun
      refine wpOp_mono (fun a' w' h3 => ⟨⟨h3.2.1.1, fun _ => h3.2.1.2 hlij⟩, ih (listed.setIfInBounds j true) a' w' hfree' (ready_mono hr (Ne.symm hji)) h3.1 hlj ⟨h3.2.1.1, h3.2.1.2 hlij⟩ ?_⟩) h2
      rw [Array.setIfInBounds_comm _ _ hji]
      exact h3.2.2
/-- Whether operation k waits for i. -/
def waits (md : Region.Mode) (ops : Array Oper) (k i : Nat) : Bool := match ops[k]? with | some ok => ok.after.any (fun e => Region.binds md e && e.on == i) | none => false
theorem waits_spec {i : Nat} (h : waits md ops k i = true) : ∃ ok, ops[k]? = some ok ∧ ∃ e ∈ ok.after, Region.binds md e = true ∧ e.on = i := by
  unfold waits at h
  split at h
  · rename_i ok ho
    obtain ⟨e, he, hh⟩ := Array.any_eq_true'.1 h
    rw [Bool.and_eq_true] at hh
    exact ⟨ok, ho, e, he, hh.1, by simpa using hh.2⟩
  · cases h
/-- Take number i first, into slot d. -/
theorem tk {i d : Nat} {oi : Oper} {v : Value} {fuel : Nat} {listed : Array Bool} {a : Act} {w : World} (hi : ops[i]? = some oi) (hd : oi.dst = some d)
    (hs : Region.noSelect ops = true) (hf : Region.free md ops listed i = true) (hr : (Region.ready md ops listed).contains i = true) (hw : waits md ops k i = true) (hki : (k == i) = false) (hlk : listed.getD k true = false)
    (hQ : ∀ c a w, Q (.panic c) (a.put oi.dst v) w → Q (.panic c) a w) (hy : Region.wanted oi (yielded ops a.tmps) = true) (hv : ∀ w, S w ∧ T w → (execOp a.eval oi).run P w = .ok (.value v) w) (hS : S w ∧ T w)
    (h : wpAnyL P md ops Q S T k fuel (listed.setIfInBounds i true) (a.put (some d) v) w) : wpAnyL P md ops Q S T k (fuel + 1) listed a w := by
  obtain ⟨ok, hok, hwt⟩ := waits_spec hw
  exact first hi hok (fun e => by subst e; simp at hki) (Region.noSelect_spec hs) hwt hQ fuel listed a w (Region.free_spec hi hf) (by simpa using hr) (.inl ⟨hy, hv⟩) hlk hS (by rw [hd]; exact h)
/-- What yields under S alone may be taken first whether k waits for it or not. -/
theorem firstS {i : Nat} {oi : Oper} {v : Value} (hi : ops[i]? = some oi) (hki : k ≠ i) (hsel : ∀ (j : Nat) (o : Oper) cs b, ops[j]? = some o → o.op ≠ .select cs b)
    (hQ : ∀ c a w, Q (.panic c) (a.put oi.dst v) w → Q (.panic c) a w) :
    ∀ (fuel : Nat) (listed : Array Bool) (a : Act) (w : World),
      (∀ j oj, ops[j]? = some oj → j ≠ i → listed.getD j true = false → (∀ e ∈ oj.after, Region.binds md e = true → e.on ≠ i) → oi.apart ops oj = true) →
      i ∈ Region.ready md ops listed → YieldsIf P ops S oi v a → S w ∧ (listed.getD k true = false → T w) →
      wpAnyL P md ops Q S T k fuel (listed.setIfInBounds i true) (a.put oi.dst v) w → wpAnyL P md ops Q S T k (fuel + 1) listed a w := by
  intro fuel
  induction fuel with
  | zero =>
    intro listed a w _ hr hy hS H
    refine ⟨fun h => (by rw [h] at hr; cases hr), fun j hj => ?_⟩
    by_cases hji : j = i
    · subst hji; exact hy.wpOp hi hS.1 ⟨⟨hS.1, fun h => hS.2 (by rw [getD_set_ne true (Ne.symm hki)] at h; exact h)⟩, H⟩
    · have := ready_mono hj hji
      rw [H.1] at this
      cases this
  | succ fuel ih =>
    intro listed a w hfree hr hy hS H
    refine ⟨fun h => (by rw [h] at hr; cases hr), fun j hj => ?_⟩
    by_cases hji : j = i
    · subst hji; exact hy.wpOp hi hS.1 ⟨⟨hS.1, fun h => hS.2 (by rw [getD_set_ne true (Ne.symm hki)] at h; exact h)⟩, H⟩
    · have h1 := H.2 j (ready_mono hj hji)
      obtain ⟨hjun, oj, hoj, hall⟩ := mem_ready.1 hj
      have hnot : ∀ e ∈ oj.after, Region.binds md e = true → e.on ≠ i := fun e he hb heq => by
        have h1 := hall e he hb
        have h0 := (mem_ready.1 hr).1
        rw [heq] at h1
        rcases Nat.lt_or_ge i listed.size with h' | h'
        · simp [h'] at h0 h1; rw [h0] at h1; cases h1
        · simp [Array.getElem?_eq_none h'] at h1
      have hsame : ((listed.setIfInBounds i true).setIfInBounds j true).getD k true = (listed.setIfInBounds j true).getD k true := by rw [Array.setIfInBounds_comm _ _ (Ne.symm hji), getD_set_ne true (Ne.symm hki)]
      have h2 := wpOp_putIf hoj (hfree j oj hoj hji hjun hnot) (fun cs b => hsel i oi cs b hi) (fun cs b => hsel j oj cs b hoj) hQ hy h1
      have hfree' : ∀ k ok, ops[k]? = some ok → k ≠ i → (listed.setIfInBounds j true).getD k true = false →
          (∀ e ∈ ok.after, Region.binds md e = true → e.on ≠ i) → oi.apart ops ok = true := fun k ok hk hki hun hno => by
        refine hfree k ok hk hki ?_ hno
        by_cases hjk : j = k
        · subst hjk; exact hjun
        · rw [getD_set_ne true hjk] at hun; exact hun
      refine wpOp_mono (fun a' w' h3 => ⟨⟨h3.2.1.1, fun h => h3.2.1.2 (hsame.trans h)⟩, ih (listed.setIfInBounds j true) a' w' hfree' (ready_mono hr (Ne.symm hji)) h3.1 ⟨h3.2.1.1, fun h => h3.2.1.2 (hsame.trans h)⟩ ?_⟩) h2
      rw [Array.setIfInBounds_comm _ _ hji]
      exact h3.2.2
theorem tkS {i d : Nat} {oi : Oper} {v : Value} {fuel : Nat} {listed : Array Bool} {a : Act} {w : World} (hi : ops[i]? = some oi) (hd : oi.dst = some d)
    (hs : Region.noSelect ops = true) (hf : Region.free md ops listed i = true) (hr : (Region.ready md ops listed).contains i = true) (hki : (k == i) = false)
    (hQ : ∀ c a w, Q (.panic c) (a.put oi.dst v) w → Q (.panic c) a w) (hy : Region.wanted oi (yielded ops a.tmps) = true) (hv : ∀ w, S w → (execOp a.eval oi).run P w = .ok (.value v) w) (hS : S w ∧ T w)
    (h : wpAnyL P md ops Q S T k fuel (listed.setIfInBounds i true) (a.put (some d) v) w) : wpAnyL P md ops Q S T k (fuel + 1) listed a w :=
  firstS hi (fun e => by subst e; simp at hki) (Region.noSelect_spec hs) hQ fuel listed a w (Region.free_spec hi hf) (by simpa using hr) (.inl ⟨hy, hv⟩) ⟨hS.1, fun _ => hS.2⟩ (by rw [hd]; exact h)
/-- Each of the operations rs comes up next. -/
def AllReadyL (P : Program) (md : Region.Mode) (ops : Array Oper) (Q : Exit → Act → World → Prop) (S T : World → Prop) (k : Nat) (fuel : Nat) (listed : Array Bool) (a : Act) (w : World) (rs : List Nat) : Prop :=
  ∀ i ∈ rs, wpOp P ops Q i (fun a' w' => (S w' ∧ ((listed.setIfInBounds i true).getD k true = false → T w')) ∧ wpAnyL P md ops Q S T k fuel (listed.setIfInBounds i true) a' w') a w
theorem AllReadyL.nil {fuel : Nat} {listed : Array Bool} {a : Act} {w : World} : AllReadyL P md ops Q S T k fuel listed a w [] := fun _ h => by cases h
theorem AllReadyL.cons {fuel : Nat} {listed : Array Bool} {a : Act} {w : World} {i : Nat} {o : Oper} {rs : List Nat} (ho : ops[i]? = some o) (hik : (i == k) = false)
    (h : ∀ K' : Act → World → Prop, Shut (∀ a w, S w ∧ T w → (S w ∧ T w → wpAnyL P md ops Q S T k fuel (listed.setIfInBounds i true) a w) → K' a w) → if Region.wanted o (yielded ops a.tmps) = true then Oper.wp P o a w K' Q else K' (a.put o.dst undef) w)
    (hs : AllReadyL P md ops Q S T k fuel listed a w rs) : AllReadyL P md ops Q S T k fuel listed a w (i :: rs) := fun j hj => by
  rcases List.mem_cons.1 hj with rfl | hj
  · exact wpOp_step ho (fun K' hK => h K' (fun a w hS hW => hK a w ⟨⟨hS.1, fun _ => hS.2⟩, hW hS⟩))
  · exact hs j hj
theorem AllReadyL.last {fuel : Nat} {listed : Array Bool} {a : Act} {w : World} {o : Oper} (ho : ops[k]? = some o) (hlk : (listed.setIfInBounds k true).getD k true = true)
    (h : ∀ K' : Act → World → Prop, Shut (∀ a w, S w → (S w → wpAnyL P md ops Q S T k fuel (listed.setIfInBounds k true) a w) → K' a w) → if Region.wanted o (yielded ops a.tmps) = true then Oper.wp P o a w K' Q else K' (a.put o.dst undef) w) :
    AllReadyL P md ops Q S T k fuel listed a w [k] := fun j hj => by
  rcases List.mem_cons.1 hj with rfl | hj
  · exact wpOp_step ho (fun K' hK => h K' (fun a w hS hW => hK a w ⟨⟨hS, fun e => by rw [hlk] at e; cases e⟩, hW hS⟩))
  · cases hj
theorem ready {rs : List Nat} {fuel : Nat} {listed : Array Bool} {a : Act} {w : World} (hr : Region.ready md ops listed = rs) (hne : rs ≠ [])
    (h : AllReadyL P md ops Q S T k fuel listed a w rs) : wpAnyL P md ops Q S T k (fuel + 1) listed a w :=
  ⟨fun h0 => absurd (hr ▸ h0) hne, hr ▸ h⟩
theorem done {listed : Array Bool} {a : Act} {w : World} (hr : Region.ready md ops listed = []) (h : Q .normal a w) : ∀ fuel, wpAnyL P md ops Q S T k fuel listed a w
  | 0 => ⟨hr, h⟩
  | _ + 1 => ⟨fun _ => h, by rw [hr]; simp⟩
/-- The beginning. -/
theorem drew {id : Nat} {a : Act} {w : World} (k : Nat) (hm : P.follows .mixedOrders = true) (hS : S w.drew ∧ T w.drew)
    (h : S w.drew ∧ T w.drew → wpAnyL P .any ops Q S T k ops.size (Array.replicate ops.size false) a w.drew) : (Code.region id ops true).wp P Q a w :=
  wp_region_any hm (wpAny_of _ _ _ _ (h hS))
end Rl
end Go.Proofs.YtfooahhdikobeaaGreat
namespace Go.Proofs.YtfooahhdikobeaaGreat
open Go.ChangeShapes Go.WideShapes Go.ChangeAt Go.RowKit
set_option linter.unusedVariables false
set_option linter.unusedSimpArgs false
set_option maxRecDepth 100000
attribute [local go_sem ↓] Go.wp_at_zero Go.wp_at_succ
namespace Wd
open W1 Ro Rw
/-- append of one to a row of one's own, inside a region that draws its order: where it lies. -/
theorem wp_apL {o : Oper} {a : Act} {K : Act → World → Prop} {Q : Exit → Act → World → Prop} {w : World} {base d : Nat} {v : Value} {xs : List R} (hown : w.ownsRow base 87 4 v xs.length (flat xs)) (g off c : Nat) (m : R) (hr : RM w (some ⟨g, off, none⟩) [m]) (hlen : xs.length ≤ 4194303) (hbase : base ≤ w.heap.size)
    (s x : Operand) (ho : o.op = .call { callee := .builtin .append, args := #[s, x], argTypes := #[88, 88] }) (hd : o.dst = some d) (hs : a.eval s = v) (hx : a.eval x = .slice (some ⟨g, off, none⟩) 1 c)
    (h : ∀ g' cap w', w'.ownsRow base 87 4 (.slice (some ⟨g', 0, none⟩) (xs.length + 1) cap) (xs ++ [m]).length (flat (xs ++ [m])) → w.grownBy w' v.ownBlock → (v.ownBlock = some g' ∨ g' = w.heap.size) → K (a.put (some d) (.slice (some ⟨g', 0, none⟩) (xs.length + 1) cap)) w') : o.wp Tryz.prog a w K Q := by
  obtain ⟨i0, hi, hz0, hz1, hz2⟩ := infoR
  refine wp_append_lies w s x _ ho base 87 i0 _ 4 32 Tryz.underlying88 hi hz0 hz1 hz2 rfl (by decide) v xs.length (flat xs) hs hown ⟨g, off, none⟩ 1 c (flat [m]) hx (flat_len [m]) hr.cells (fun u hu => flat_one_cell hu) (by omega) (by unfold maxLen; omega) (by omega) hbase _ rfl (fun g' cap w' h1 h2 h3 h4 => ?_)
  rw [hd]
  refine h g' cap w' ?_ h2 h3
  rw [List.length_append, flat_append]; exact h1
theorem sBx {w : World} {b : Nat} {x : R} (h : Bx w b x) : Bx w b x ∧ w.cell? ⟨b, 0, none⟩ = some (.int .i64 x.ds) ∧ w.cell? ⟨b, 1, none⟩ = some (.int .i64 x.nx) ∧ w.cell? ⟨b, 2, none⟩ = some (.int .i64 x.co) ∧ w.cell? ⟨b, 3, none⟩ = some (.int .i64 x.hp) := ⟨h, h⟩
/-- The slice of a heap is written anew. -/
theorem hp_set {w : World} {p : Nat} {v v' : Value} {hs hs' : List R} (h : w.heap[p]? = some (.cells #[v, (Value.func (.func 158) #[] #[])] 189 (0, 0))) (ho : w.ownsRow (p + 1) 87 4 v' hs'.length (flat hs')) : HP (w.setCell ⟨p, 0, none⟩ v') p v' hs' := by
  refine ⟨heap_set v' h, ?_⟩
  refine ho.kept (row := some p) ⟨rfl, rfl, rfl, by simp [World.setCell], fun k hk hne => Below.heap_setCell _ _ _ _ (by simpa using hne)⟩ ?_
  cases hv : v'.ownBlock with
  | none => exact .inl rfl
  | some k => right; intro e; cases e; have := ho.lt p hv; omega
def sHP (w : World) (p g cap n i j : Nat) (x y : R) : Prop := w.cell? ⟨p, 0, none⟩ = some (.slice (some ⟨g, 0, none⟩) n cap) ∧ w.cell? ⟨p, 1, none⟩ = some (Value.func (.func 158) #[] #[]) ∧ At w g (i * 4) x ∧ At w g (j * 4) y
theorem sHP_of {w : World} {p g cap n : Nat} {hs : List R} {i j : Nat} (hn : hs.length = n) (h : HP w p (.slice (some ⟨g, 0, none⟩) n cap) hs) (hi : i < n) (hj : j < n) : sHP w p g cap n i j (at' hs i) (at' hs j) := by subst hn; exact ⟨h.c0, h.c1, h.at hi, h.at hj⟩
theorem sHPc {w : World} {p g cap n i j : Nat} {xa xn xc xh ya yn yc yh : Int} (h : sHP w p g cap n i j ⟨xa, xn, xc, xh⟩ ⟨ya, yn, yc, yh⟩) :
    sHP w p g cap n i j ⟨xa, xn, xc, xh⟩ ⟨ya, yn, yc, yh⟩ ∧ w.cell? ⟨p, 0, none⟩ = some (.slice (some ⟨g, 0, none⟩) n cap) ∧ w.cell? ⟨p, 1, none⟩ = some (Value.func (.func 158) #[] #[]) ∧ w.cell? ⟨g, i * 4, none⟩ = some (.int .i64 xa) ∧ w.cell? ⟨g, i * 4 + 1, none⟩ = some (.int .i64 xn) ∧ w.cell? ⟨g, i * 4 + 2, none⟩ = some (.int .i64 xc) ∧ w.cell? ⟨g, i * 4 + 3, none⟩ = some (.int .i64 xh) ∧ w.cell? ⟨g, j * 4, none⟩ = some (.int .i64 ya) ∧ w.cell? ⟨g, j * 4 + 1, none⟩ = some (.int .i64 yn) ∧ w.cell? ⟨g, j * 4 + 2, none⟩ = some (.int .i64 yc) ∧ w.cell? ⟨g, j * 4 + 3, none⟩ = some (.int .i64 yh) :=
  ⟨h, h.1, h.2.1, h.2.2.1.1, h.2.2.1.2.1, h.2.2.1.2.2.1, h.2.2.1.2.2.2, h.2.2.2.1, h.2.2.2.2.1, h.2.2.2.2.2.1, h.2.2.2.2.2.2⟩
theorem sHP.below {w w' : World} {p g cap n i j : Nat} {x y : R} (h : sHP w p g cap n i j x y) (hb : Below w.heap.size w w') : sHP w' p g cap n i j x y := by
  obtain ⟨h0, h1, h2, h3⟩ := h
  have hp : p < w.heap.size := World.block_lt_of_cell? _ _ h0
  exact ⟨(hb.cell (p := ⟨p, 0, none⟩) hp).trans h0, (hb.cell (p := ⟨p, 1, none⟩) hp).trans h1, h2.below hb, h3.below hb⟩
set_option maxHeartbeats 16000000 in
theorem push (p : Nat) (v : Value) (hs : List R) (x : R) (w : World) (h : HP w p v hs) (hh : Heap hs) (hl : hs.length ≤ 4096) :
    Calls Tryz.prog 159 #[.pointer (some ⟨p, 0, none⟩), x.value] w fun e w' => e = .returned (.tuple #[]) ∧ ∃ v' hs', HP w' p v' hs' ∧ Heap hs' ∧ hs'.length = hs.length + 1 ∧ (∀ y, y ∈ hs' ↔ y ∈ hs ∨ y = x) ∧ Frm p v w w' ∧ Nxt w v v' := by
  have HUS := hide (up_start hh x)
  have HPA := hide (h.below ((Below.refl _ _).alloc (Nat.le_refl _) (.cells #[.int .i64 x.ds, .int .i64 x.nx, .int .i64 x.co, .int .i64 x.hp] 87)))
  have HBX := hide (bx_new w x 87)
  have HPL := h.lt
  have HF1 : Hid (Frm p v w (w.alloc (.cells #[.int .i64 x.ds, .int .i64 x.nx, .int .i64 x.co, .int .i64 x.hp] 87))) := hide (Frm.of_below ((Below.refl _ _).alloc (Nat.le_refl _) _))
  have hnv0 : ∀ k, v.ownBlock = some k → k < w.heap.size := fun k hk => (h.2.lt k hk).2
  obtain ⟨a, cap0, rfl, hcap⟩ := h.slice
  have hnv : ∀ e : Nat, some w.heap.size = (Value.slice a hs.length cap0).ownBlock → False := fun _ e => by have := hnv0 _ e.symm; omega
  clear hh h hcap
  show Calls Tryz.prog 159 #[.pointer (some ⟨p, 0, none⟩), .agg #[.int .i64 x.ds, .int .i64 x.nx, .int .i64 x.co, .int .i64 x.hp]] w _
  go_enter Tryz.func159, Tryz.ntmps159
  go_wp2_with fail
  generalize hW : w.alloc (.cells #[.int .i64 x.ds, .int .i64 x.nx, .int .i64 x.co, .int .i64 x.hp] 87) = W0 at *
  have hsz0 : W0.heap.size = w.heap.size + 1 := by rw [← hW]; simp
  clear hW
  refine wp_region_noPanic ?_
  refine Rl.drew (S := fun w' => Bx w' w.heap.size x ∧ w'.cell? ⟨w.heap.size, 0, none⟩ = some (.int .i64 x.ds) ∧ w'.cell? ⟨w.heap.size, 1, none⟩ = some (.int .i64 x.nx) ∧ w'.cell? ⟨w.heap.size, 2, none⟩ = some (.int .i64 x.co) ∧ w'.cell? ⟨w.heap.size, 3, none⟩ = some (.int .i64 x.hp)) (T := fun w' => w'.cell? ⟨p, 0, none⟩ = some (.slice a hs.length cap0)) 10 (by kernel_rfl) ⟨sBx (unhide HBX), (unhide HPA).c0⟩ (fun hHeld => ?_)

  (refine Rl.tkS (k := 10) (i := 0) (d := 5) (v := ?_) rfl rfl (by kernel_rfl) (by kernel_rfl) (by kernel_rfl) rfl (fun _ _ _ h => h) (by rfl) ?_ (by assumption) ?_; rotate_left; (focus (intro w0 hSw; (try dsimp only at hSw); go_simp; (try with_reducible rfl))); (try simp only [Act.put, List.setIfInBounds_toArray, List.set_cons_zero, List.set_cons_succ]))
  (refine Rl.tkS (k := 10) (i := 1) (d := 6) (v := ?_) rfl rfl (by kernel_rfl) (by kernel_rfl) (by kernel_rfl) rfl (fun _ _ _ h => h) (by rfl) ?_ (by assumption) ?_; rotate_left; (focus (intro w0 hSw; (try dsimp only at hSw); go_simp; (try with_reducible rfl))); (try simp only [Act.put, List.setIfInBounds_toArray, List.set_cons_zero, List.set_cons_succ]))
  (refine Rl.tkS (k := 10) (i := 2) (d := 7) (v := ?_) rfl rfl (by kernel_rfl) (by kernel_rfl) (by kernel_rfl) rfl (fun _ _ _ h => h) (by rfl) ?_ (by assumption) ?_; rotate_left; (focus (intro w0 hSw; (try dsimp only at hSw); go_simp; (try with_reducible rfl))); (try simp only [Act.put, List.setIfInBounds_toArray, List.set_cons_zero, List.set_cons_succ]))
  (refine Rl.tkS (k := 10) (i := 3) (d := 8) (v := ?_) rfl rfl (by kernel_rfl) (by kernel_rfl) (by kernel_rfl) rfl (fun _ _ _ h => h) (by rfl) ?_ (by assumption) ?_; rotate_left; (focus (intro w0 hSw; (try dsimp only at hSw); go_simp; (try with_reducible rfl))); (try simp only [Act.put, List.setIfInBounds_toArray, List.set_cons_zero, List.set_cons_succ]))
  (refine Rl.tk (k := 10) (i := 4) (d := 9) (v := ?_) rfl rfl (by kernel_rfl) (by kernel_rfl) (by kernel_rfl) (by kernel_rfl) rfl (by kernel_rfl) (fun _ _ _ h => h) (by rfl) ?_ (by assumption) ?_; rotate_left; (focus (intro w0 hSw; (try dsimp only at hSw); go_simp; (try with_reducible rfl))); (try simp only [Act.put, List.setIfInBounds_toArray, List.set_cons_zero, List.set_cons_succ]))
  (refine Rl.tkS (k := 10) (i := 5) (d := 10) (v := ?_) rfl rfl (by kernel_rfl) (by kernel_rfl) (by kernel_rfl) rfl (fun _ _ _ h => h) (by rfl) ?_ (by assumption) ?_; rotate_left; (focus (intro w0 hSw; (try dsimp only at hSw); go_simp; (try with_reducible rfl))); (try simp only [Act.put, List.setIfInBounds_toArray, List.set_cons_zero, List.set_cons_succ]))
  (refine Rl.ready (rs := [6]) (by kernel_rfl) (by simp) ?_; refine Rl.AllReadyL.cons (o := _) rfl rfl (fun K hK => ?_) Rl.AllReadyL.nil; go_simp)
  have HBX2 : Hid (Bx (W0.alloc (.cells #[.int .i64 x.ds, .int .i64 x.nx, .int .i64 x.co, .int .i64 x.hp] 87)).drew w.heap.size x) := hide ((unhide HBX).below (((Below.refl _ _).alloc (Nat.le_refl _) _).drew))
  have HPA2 : Hid (HP (W0.alloc (.cells #[.int .i64 x.ds, .int .i64 x.nx, .int .i64 x.co, .int .i64 x.hp] 87)).drew p (.slice a hs.length cap0) hs) := hide ((unhide HPA).below (((Below.refl _ _).alloc (Nat.le_refl _) _).drew))
  have HRN : Hid (RM (W0.alloc (.cells #[.int .i64 x.ds, .int .i64 x.nx, .int .i64 x.co, .int .i64 x.hp] 87)).drew (some ⟨W0.heap.size, 0, none⟩) [x]) := hide (rm_new W0 x).drew
  have HF2 : Hid (Frm p (.slice a hs.length cap0) w (W0.alloc (.cells #[.int .i64 x.ds, .int .i64 x.nx, .int .i64 x.co, .int .i64 x.hp] 87)).drew) := hide ((unhide HF1).trans (Frm.of_below (((Below.refl _ _).alloc (Nat.le_refl _) _).drew)) (Nxt.refl _ _))
  have hsz1 : (W0.alloc (.cells #[.int .i64 x.ds, .int .i64 x.nx, .int .i64 x.co, .int .i64 x.hp] 87)).drew.heap.size = w.heap.size + 2 := by show (W0.alloc (.cells #[.int .i64 x.ds, .int .i64 x.nx, .int .i64 x.co, .int .i64 x.hp] 87)).heap.size = _; rw [World.size_alloc]; omega
  rw [hsz0] at HRN
  clear hHeld HBX HPA HF1
  refine hK.out _ _ ⟨sBx (unhide HBX2), (unhide HPA2).c0⟩ (fun hHeld => ?_)
  clear hK K
  (try simp only [Act.put, List.setIfInBounds_toArray, List.set_cons_zero, List.set_cons_succ])
  generalize hW : (W0.alloc (.cells #[.int .i64 x.ds, .int .i64 x.nx, .int .i64 x.co, .int .i64 x.hp] 87)).drew = W1 at *
  clear hW
  (refine Rl.ready (rs := [7]) (by kernel_rfl) (by simp) ?_; refine Rl.AllReadyL.cons (o := _) rfl rfl (fun K hK => ?_) Rl.AllReadyL.nil; rw [if_pos (by rfl)])
  refine wp_apL (unhide HPA2).2 _ 0 1 x (unhide HRN) (by omega) (by omega) _ _ rfl rfl rfl rfl ?_
  intro g cap w3 ho hg hv
  have hb3 : w3.heap[p]? = some (.cells #[.slice a hs.length cap0, (Value.func (.func 158) #[] #[])] 189 (0, 0)) := (hg.block p (by omega) (fun e => by have := (unhide HPA2).2.lt p e.symm; omega)).trans (unhide HPA2).1
  have HBX3 : Hid (Bx w3 w.heap.size x) := hide (by
    obtain ⟨x0, x1, x2, x3⟩ := unhide HBX2
    have hne : some w.heap.size ≠ (Value.slice a hs.length cap0).ownBlock := fun e => hnv 0 e
    exact ⟨hg.cell x0 hne, hg.cell x1 hne, hg.cell x2 hne, hg.cell x3 hne⟩)
  have c3 : w3.cell? ⟨p, 0, none⟩ = some (.slice a hs.length cap0) := by simp [World.cell?, hb3]
  have f3 : w3.frozen? ⟨p, 0, none⟩ = false := by simp [World.frozen?, hb3]
  have HN : Hid (HP (w3.setCell ⟨p, 0, none⟩ (.slice (some ⟨g, 0, none⟩) (hs.length + 1) cap)) p (.slice (some ⟨g, 0, none⟩) (hs.length + 1) cap) (hs ++ [x])) := hide (hp_set (hs := hs) hb3 ho)
  have HX : Hid (Nxt w (.slice a hs.length cap0) (.slice (some ⟨g, 0, none⟩) (hs.length + 1) cap)) := hide (by
    rcases hv with e | e
    · exact .inl e.symm
    · exact .inr (.inr ⟨g, rfl, by omega⟩))
  have HF3 : Hid (Frm p (.slice a hs.length cap0) w (w3.setCell ⟨p, 0, none⟩ (.slice (some ⟨g, 0, none⟩) (hs.length + 1) cap))) := hide ((unhide HF2).trans (v' := .slice a hs.length cap0) ⟨hg.os, hg.tape, hg.output, by simpa [World.setCell] using hg.size, fun k hk hkp hkv => (Below.heap_setCell _ _ _ _ hkp).trans (hg.block k hk hkv)⟩ (Nxt.refl _ _))
  have HBX4 : Hid (Bx (w3.setCell ⟨p, 0, none⟩ (.slice (some ⟨g, 0, none⟩) (hs.length + 1) cap)) w.heap.size x) := hide (by
    obtain ⟨x0, x1, x2, x3⟩ := unhide HBX3
    refine ⟨?_, ?_, ?_, ?_⟩ <;> (rw [World.cell?_setCell_other _ _ _ _ (by intro e; have := congrArg Addr.block e; dsimp only at this; omega)]; assumption))
  clear hHeld ho hg hv HRN HPA2 HF2 hb3
  refine hK.out _ _ ⟨sBx (unhide HBX3), c3⟩ (fun hHeld => ?_)
  clear hK K
  (try simp only [Act.put, List.setIfInBounds_toArray, List.set_cons_zero, List.set_cons_succ])
  (refine Rl.tkS (k := 10) (i := 8) (d := 13) (v := ?_) rfl rfl (by kernel_rfl) (by kernel_rfl) (by kernel_rfl) rfl (fun _ _ _ h => h) (by rfl) ?_ (by assumption) ?_; rotate_left; (focus (intro w0 hSw; (try dsimp only at hSw); go_simp; (try with_reducible rfl))); (try simp only [Act.put, List.setIfInBounds_toArray, List.set_cons_zero, List.set_cons_succ]))
  (refine Rl.tkS (k := 10) (i := 9) (d := 14) (v := ?_) rfl rfl (by kernel_rfl) (by kernel_rfl) (by kernel_rfl) rfl (fun _ _ _ h => h) (by rfl) ?_ (by assumption) ?_; rotate_left; (focus (intro w0 hSw; (try dsimp only at hSw); go_simp; (try with_reducible rfl))); (try simp only [Act.put, List.setIfInBounds_toArray, List.set_cons_zero, List.set_cons_succ]))
  (refine Rl.ready (rs := [10]) (by kernel_rfl) (by simp) ?_; refine Rl.AllReadyL.last (o := _) rfl (by kernel_rfl) (fun K hK => ?_); go_simp)
  clear hHeld
  refine hK.out _ _ (sBx (unhide HBX4)) (fun hHeld => ?_)
  clear hK K
  (try simp only [Act.put, List.setIfInBounds_toArray, List.set_cons_zero, List.set_cons_succ])
  refine Rl.done (by kernel_rfl) (NoPanic.normal ?_) _
  clear hHeld HBX2 HBX3 HBX4
  generalize hW4 : w3.setCell ⟨p, 0, none⟩ (.slice (some ⟨g, 0, none⟩) (hs.length + 1) cap) = W4 at *
  clear hW4 c3 f3
  have c4 := (unhide HN).c0
  have HLN : Hid ((hs ++ [x]).length = hs.length + 1) := hide (by simp)
  have HME : Hid (∀ y, y ∈ hs ++ [x] ↔ y ∈ hs ∨ y = x) := hide (fun y => by simp)
  go_wp2_with fail
  clear c4
  generalize hN : hs.length + 1 = n at *
  have HNN := hide hN
  have hn1 : hs.length < n := by omega
  have hn2 : n ≤ 4097 := by omega
  clear hN
  go_loopw [4] (fun iv wr => ∃ (j : Nat) (L : List R), iv = .int .i64 (j : Int) ∧ j < n ∧ Hid (L.length = n) ∧ Hid (HP wr p (.slice (some ⟨g, 0, none⟩) n cap) L) ∧ Hid (UpI L j) ∧ Hid (∀ y, y ∈ L ↔ y ∈ hs ∨ y = x) ∧ Hid (Frm p (.slice a hs.length cap0) w wr)) (fun iv _ => (intOf iv).toNat)
  case atStart => exact ⟨hs.length, hs ++ [x], by go_num, hn1, HLN, HN, HUS, HME, HF3⟩
  case round =>
    obtain ⟨i, L, rfl, hin, hLn, hHP, hUP, hME, hFR⟩ := hrel
    by_cases hi0 : i = 0
    · subst hi0
      have HG : Hid (Heap L) := hide (up_done (unhide hUP) (.inl rfl))
      have hz : ¬ (0 : Int) < ((0 : Nat) : Int) := by simp
      go_wp2_with fail
      refine wp_region_noPanic ?_
      refine wp_region_held_drew (S := fun w' => True) (by kernel_rfl) trivial (fun hHeld => ?_)
      refine Rg.t 0 21 ?_
      refine Rg.t 1 22 ?_
      refine Rg.t 2 23 ?_
      refine Rg.s 3 24 ?_
      refine Rg.s 4 25 ?_
      refine Rg.s 5 26 ?_
      refine Rg.s 6 27 ?_
      refine Rg.s 7 28 ?_
      refine Rg.s 8 29 ?_
      refine Rg.s 9 30 ?_
      refine Rg.s 10 31 ?_
      refine Rg.s 11 32 ?_
      refine Rg.s 12 33 ?_
      refine Rg.s 13 34 ?_
      refine Rg.s 14 35 ?_
      refine Rg.s 15 36 ?_
      refine Rg.s 16 37 ?_
      refine Rg.s 17 38 ?_
      refine Rg.s 18 39 ?_
      refine Rg.s 19 40 ?_
      refine Rg.s 20 41 ?_
      refine Rg.s 21 42 ?_
      refine Rg.s 22 43 ?_
      refine Rg.s 23 44 ?_
      refine Rg.t 24 45 ?_
      refine wpAnyH_done (by kernel_rfl) (NoPanic.normal ?_) _
      clear hHeld
      go_wp2_with fail
      refine bodyPost_end (v := .tuple #[]) (by simp [results, Tryz.results159, go_sem]) rfl ⟨rfl, _, L, (unhide hHP).drew, unhide HG, by rw [unhide hLn, unhide HNN], unhide hME, (unhide hFR).drew, unhide HX⟩
    · obtain ⟨t, hit⟩ : ∃ t, i = t + 1 := ⟨i - 1, by omega⟩
      have e1 : (i : Int) - 1 = (t : Int) := by omega
      obtain ⟨q, hq⟩ : ∃ q, q = (i - 1) / 2 := ⟨_, rfl⟩
      have e2 : (t : Int).tdiv 2 = (q : Int) := by rw [Int.tdiv_eq_ediv_of_nonneg (by omega)]; omega
      have t0 : (0 : Int) ≤ (t : Int) := by omega
      have q0 : (0 : Int) ≤ (q : Int) := by omega
      have i0 : (0 : Int) ≤ (i : Int) := by omega
      have wt : IntKind.i64.wrap (t : Int) = (t : Int) := by rw [IntKind.wrap_i64]; omega
      have wq : IntKind.i64.wrap (q : Int) = (q : Int) := by rw [IntKind.wrap_i64]; omega
      have i1 : (0 : Int) < (i : Int) := by omega
      have i3 : 0 < i := by omega
      have i2 : (i : Int) < (n : Int) := by omega
      have q2 : (q : Int) < (n : Int) := by omega
      have hqn : q < n := by omega
      have hqi : q < i := by omega
      have HSP := hide (sHP_of (unhide hLn) (unhide hHP) hin hqn)
      have HDN : Hid (btB (at' L i) (at' L q) = false → Heap L) := hide (fun hb => up_done (unhide hUP) (.inr (by rw [← hq]; exact btB_no.1 hb)))
      have HST : Hid (btB (at' L i) (at' L q) = true → UpI (swp L i q) q) := hide (fun hb => by
        have := up_step (unhide hUP) (by omega) (by rw [unhide hLn]; exact hin) (by rw [← hq]; exact btB_iff.1 hb)
        rw [← hq] at this; exact this)
      clear hit hq
      obtain ⟨X, hX⟩ : ∃ X, at' L i = X := ⟨_, rfl⟩
      obtain ⟨Y, hY⟩ : ∃ Y, at' L q = Y := ⟨_, rfl⟩
      rw [hX, hY] at HSP HDN HST
      clear hX hY
      obtain ⟨B, hB⟩ : ∃ B, btB X Y = B := ⟨_, rfl⟩
      rw [hB] at HDN HST
      have HBT := hide hB
      clear hB
      obtain ⟨xa, xn, xc, xh⟩ := X
      obtain ⟨ya, yn, yc, yh⟩ := Y
      go_wp2_with fail
      refine wp_region_noPanic ?_
      refine wp_region_held_drew (S := fun w' => sHP w' p g cap n i q ⟨xa, xn, xc, xh⟩ ⟨ya, yn, yc, yh⟩ ∧ w'.cell? ⟨p, 0, none⟩ = some (.slice (some ⟨g, 0, none⟩) n cap) ∧ w'.cell? ⟨p, 1, none⟩ = some (Value.func (.func 158) #[] #[]) ∧ w'.cell? ⟨g, i * 4, none⟩ = some (.int .i64 xa) ∧ w'.cell? ⟨g, i * 4 + 1, none⟩ = some (.int .i64 xn) ∧ w'.cell? ⟨g, i * 4 + 2, none⟩ = some (.int .i64 xc) ∧ w'.cell? ⟨g, i * 4 + 3, none⟩ = some (.int .i64 xh) ∧ w'.cell? ⟨g, q * 4, none⟩ = some (.int .i64 ya) ∧ w'.cell? ⟨g, q * 4 + 1, none⟩ = some (.int .i64 yn) ∧ w'.cell? ⟨g, q * 4 + 2, none⟩ = some (.int .i64 yc) ∧ w'.cell? ⟨g, q * 4 + 3, none⟩ = some (.int .i64 yh)) (by kernel_rfl) (sHPc (unhide HSP)) (fun hHeld => ?_)
      refine Rg.t 0 21 ?_
      refine Rg.t 1 22 ?_
      refine Rg.t 2 23 ?_
      refine Rg.t 3 24 ?_
      refine Rg.t 4 25 ?_
      refine Rg.t 5 26 ?_
      refine Rg.t 6 27 ?_
      refine Rg.t 7 28 ?_
      refine Rg.t 8 29 ?_
      refine Rg.t 9 30 ?_
      refine Rg.t 10 31 ?_
      refine Rg.t 11 32 ?_
      refine Rg.t 12 33 ?_
      refine Rg.t 13 34 ?_
      refine Rg.t 14 35 ?_
      refine Rg.t 15 36 ?_
      refine Rg.t 16 37 ?_
      refine Rg.t 17 38 ?_
      refine Rg.t 18 39 ?_
      refine Rg.t 19 40 ?_
      refine Rg.t 20 41 ?_
      refine Rg.t 21 42 ?_
      refine Rg.t 22 43 ?_
      (refine Rg.o 23 (fun K hK => ?_); go_simp)
      refine (isBetter ⟨xa, xn, xc, xh⟩ ⟨ya, yn, yc, yh⟩ _).mono ?_
      rintro e w5 ⟨rfl, b5_⟩
      rw [unhide HBT]
      have b5 : Below wr.heap.size wr w5 := (Below.refl _ _).drew.trans b5_
      have HSP5 := hide ((unhide HSP).below b5)
      have HP5 := hide ((unhide hHP).below b5)
      have HF5 := hide ((unhide hFR).trans (Frm.of_below b5 (v := .slice (some ⟨g, 0, none⟩) n cap)) (unhide HX))
      clear b5 b5_ hHeld HSP hHP hFR
      refine hK.out _ _ (sHPc (unhide HSP5)) (fun hHeld => ?_)
      clear hK K
      (try simp only [Act.put, List.setIfInBounds_toArray, List.set_cons_zero, List.set_cons_succ])
      refine Rg.t 24 45 ?_
      refine wpAnyH_done (by kernel_rfl) (NoPanic.normal ?_) _
      clear hHeld
      cases B
      · have HG := hide (unhide HDN rfl)
        go_wp2_with fail
        refine bodyPost_end (v := .tuple #[]) (by simp [results, Tryz.results159, go_sem]) rfl ⟨rfl, _, L, unhide HP5, unhide HG, by rw [unhide hLn, unhide HNN], unhide hME, unhide HF5, unhide HX⟩
      · have HG := hide (unhide HST rfl)
        go_wp2_with fail
        refine (swap p _ L i q _ (unhide HP5) (by rw [unhide hLn]; exact hin) (by rw [unhide hLn]; exact hqn)).mono ?_
        rintro e w6 ⟨rfl, h6, f6⟩
        have HP6 := hide h6
        have HF6 := hide ((unhide HF5).trans f6 (unhide HX))
        have HL6 : Hid ((swp L i q).length = n) := hide (by rw [swp_len]; exact unhide hLn)
        have HM6 : Hid (∀ y, y ∈ swp L i q ↔ y ∈ hs ∨ y = x) := hide (fun y => by rw [swp_mem (by rw [unhide hLn]; exact hin) (by rw [unhide hLn]; exact hqn)]; exact unhide hME y)
        clear h6 f6
        go_wp2_with fail
        go_roundw
        case rel => exact ⟨q, swp L i q, rfl, hqn, HL6, HP6, HG, HM6, HF6⟩
        case measure => simp [intOf]; omega
end Wd
end Go.Proofs.YtfooahhdikobeaaGreat
namespace Go.Proofs.YtfooahhdikobeaaGreat
open Go.ChangeShapes Go.WideShapes Go.ChangeAt Go.RowKit
set_option linter.unusedVariables false
set_option linter.unusedSimpArgs false
set_option maxRecDepth 100000
attribute [local go_sem ↓] Go.wp_at_zero Go.wp_at_succ
namespace Wd
open W1 Ro Rw
theorem fst_far {hs : List R} {i b f : Nat} (h : ¬ b < hs.length) : fst1 hs i b f = f := by unfold fst1; rw [if_neg (fun e => h e.1)]
theorem fst_near {hs : List R} {i b f : Nat} (h : b < hs.length) : fst1 hs i b f = if btB (at' hs b) (at' hs f) = true then b else f := by unfold fst1; simp only [h, true_and]
/-- What firstOf has found behind k of the two. -/
def fstK (hs : List R) (i : Nat) : Nat → Nat
  | 0 => i
  | 1 => fst1 hs i (2 * i + 1) i
  | _ => fstOf hs i
set_option maxHeartbeats 16000000 in
theorem firstOf (p : Nat) (v : Value) (hs : List R) (i : Nat) (w : World) (h : HP w p v hs) (hi : i ≤ 4097) (hl : hs.length ≤ 4097) :
    Calls Tryz.prog 194 #[.pointer (some ⟨p, 0, none⟩), .int .i64 (i : Int)] w fun e w' => e = .returned (.int .i64 (fstOf hs i : Int)) ∧ Below w.heap.size w w' := by
  have HPP := hide h
  clear h
  have i0 : (0 : Int) ≤ (i : Int) := by omega
  obtain ⟨b1, hb1⟩ : ∃ b1 : Nat, b1 = 2 * i + 1 := ⟨_, rfl⟩
  obtain ⟨b2, hb2⟩ : ∃ b2 : Nat, b2 = 2 * i + 2 := ⟨_, rfl⟩
  have e1 : 2 * (i : Int) + 1 = (b1 : Int) := by omega
  have e2 : 2 * (i : Int) + 2 = (b2 : Int) := by omega
  have HB1 := hide hb1
  have HB2 := hide hb2
  have q1 : (0 : Int) ≤ (b1 : Int) := by omega
  have q2 : (0 : Int) ≤ (b2 : Int) := by omega
  have q3 : (b1 : Int) ≤ 10000 := by omega
  have q4 : (b2 : Int) ≤ 10000 := by omega
  have w1 : IntKind.i64.wrap (b1 : Int) = (b1 : Int) := by rw [IntKind.wrap_i64]; omega
  have w2 : IntKind.i64.wrap (b2 : Int) = (b2 : Int) := by rw [IntKind.wrap_i64]; omega
  clear hb1 hb2
  obtain ⟨a, cap, rfl, hcap⟩ := (unhide HPP).slice
  obtain ⟨n, hn⟩ : ∃ n, hs.length = n := ⟨_, rfl⟩
  have HNN := hide hn
  rw [hn] at HPP hl
  clear hn hcap
  have hx0 : ∀ W : World, (Instr.index 193 (.agg #[.int .i64 (b1 : Int), .int .i64 (b2 : Int)]) (.int .i64 0)).run Tryz.prog W = .ok (.int .i64 (b1 : Int)) W := fun W => by kernel_rfl
  have hx1 : ∀ W : World, (Instr.index 193 (.agg #[.int .i64 (b1 : Int), .int .i64 (b2 : Int)]) (.int .i64 1)).run Tryz.prog W = .ok (.int .i64 (b2 : Int)) W := fun W => by kernel_rfl
  go_enter Tryz.func194, Tryz.ntmps194
  go_wp2_with fail
  go_loopw [5, 16] (fun fv kv wr => ∃ k : Nat, k ≤ 2 ∧ kv = .int .i64 (k : Int) ∧ fv = .int .i64 (fstK hs i k : Int) ∧ Hid (Below w.heap.size w wr)) (fun _ kv _ => 2 - (intOf kv).toNat)
  case atStart => exact ⟨0, by omega, rfl, rfl, hide (Below.refl _ _)⟩
  case round =>
    obtain ⟨k, hk, rfl, rfl, hbl⟩ := hrel
    have hk3 : k = 0 ∨ k = 1 ∨ k = 2 := by omega
    rcases hk3 with rfl | rfl | rfl
    · obtain ⟨f, hf⟩ : ∃ f : Nat, fstK hs i 0 = f := ⟨_, rfl⟩
      have hfb : f < b1 := by
        rw [← hf, unhide HB1]
        show i < 2 * i + 1; omega
      have HS1 : Hid (∀ z, fst1 hs i b1 f = z → fstK hs i (0 + 1) = z) := hide (fun z hz => by rw [← hz, ← hf, unhide HB1]; rfl)
      rw [hf]
      have HFF := hide hf
      clear hf
      have b0 : (0 : Int) ≤ (b1 : Int) := by omega
      have f0 : (0 : Int) ≤ (f : Int) := by omega
      have HPr := hide ((unhide HPP).below (unhide hbl))
      by_cases hlt : (b1 : Int) < (n : Int)
      · obtain ⟨g, cap', hv', hpg, hgl, hc1, hc2⟩ := (unhide HPr).form (by rw [unhide HNN]; omega)
        rw [unhide HNN] at hv'
        obtain ⟨rfl, rfl⟩ : a = some ⟨g, 0, none⟩ ∧ cap = cap' := by cases hv'; exact ⟨rfl, rfl⟩
        have hfn : (f : Int) < (n : Int) := by omega
        have hltn : b1 < n := by omega
        have HSP := hide (sHP_of (unhide HNN) (unhide HPr) (i := b1) (j := f) (by omega) (by omega))
        have HT : Hid (fst1 hs i b1 f = if btB (at' hs b1) (at' hs f) = true then b1 else f) := hide (fst_near (by rw [unhide HNN]; omega))
        obtain ⟨X, hX⟩ : ∃ X, at' hs b1 = X := ⟨_, rfl⟩
        obtain ⟨Y, hY⟩ : ∃ Y, at' hs f = Y := ⟨_, rfl⟩
        rw [hX, hY] at HSP HT
        clear hX hY hv' hpg hgl hc1 hc2
        obtain ⟨B, hB⟩ : ∃ B, btB X Y = B := ⟨_, rfl⟩
        rw [hB] at HT
        have HBT := hide hB
        clear hB
        obtain ⟨xa, xn, xc, xh⟩ := X
        obtain ⟨ya, yn, yc, yh⟩ := Y
        go_wp2_with fail
        refine wp_region_noPanic ?_
        refine wp_region_held_drew (S := fun w' => sHP w' p g cap n b1 f ⟨xa, xn, xc, xh⟩ ⟨ya, yn, yc, yh⟩ ∧ w'.cell? ⟨p, 0, none⟩ = some (.slice (some ⟨g, 0, none⟩) n cap) ∧ w'.cell? ⟨p, 1, none⟩ = some (Value.func (.func 158) #[] #[]) ∧ w'.cell? ⟨g, b1 * 4, none⟩ = some (.int .i64 xa) ∧ w'.cell? ⟨g, b1 * 4 + 1, none⟩ = some (.int .i64 xn) ∧ w'.cell? ⟨g, b1 * 4 + 2, none⟩ = some (.int .i64 xc) ∧ w'.cell? ⟨g, b1 * 4 + 3, none⟩ = some (.int .i64 xh) ∧ w'.cell? ⟨g, f * 4, none⟩ = some (.int .i64 ya) ∧ w'.cell? ⟨g, f * 4 + 1, none⟩ = some (.int .i64 yn) ∧ w'.cell? ⟨g, f * 4 + 2, none⟩ = some (.int .i64 yc) ∧ w'.cell? ⟨g, f * 4 + 3, none⟩ = some (.int .i64 yh)) (by kernel_rfl) (sHPc (unhide HSP)) (fun hHeld => ?_)
        refine Rg.t 0 19 ?_
        refine Rg.t 1 20 ?_
        refine Rg.t 2 21 ?_
        refine Rg.t 3 22 ?_
        refine Rg.t 4 23 ?_
        refine Rg.t 5 24 ?_
        refine Rg.t 6 25 ?_
        refine Rg.t 7 26 ?_
        refine Rg.t 8 27 ?_
        refine Rg.t 9 28 ?_
        refine Rg.t 10 29 ?_
        refine Rg.t 11 30 ?_
        refine Rg.t 12 31 ?_
        refine Rg.t 13 32 ?_
        refine Rg.t 14 33 ?_
        refine Rg.t 15 34 ?_
        refine Rg.t 16 35 ?_
        refine Rg.t 17 36 ?_
        refine Rg.t 18 37 ?_
        refine Rg.t 19 38 ?_
        refine Rg.t 20 39 ?_
        refine Rg.t 21 40 ?_
        refine Rg.t 22 41 ?_
        refine Rg.t 23 42 ?_
        refine Rg.t 24 43 ?_
        refine Rg.t 25 44 ?_
        (refine Rg.o 26 (fun K hK => ?_); go_simp)
        refine (isBetter ⟨xa, xn, xc, xh⟩ ⟨ya, yn, yc, yh⟩ _).mono ?_
        rintro e w5 ⟨rfl, b5_⟩
        rw [unhide HBT]
        have b5 : Below wr.heap.size wr w5 := (Below.refl _ _).drew.trans b5_
        have HSP5 := hide ((unhide HSP).below b5)
        have HB5 := hide ((unhide hbl).trans (b5.mono (unhide hbl).size))
        clear b5 b5_ hHeld HSP
        refine hK.out _ _ (sHPc (unhide HSP5)) (fun hHeld => ?_)
        clear hK K
        (try simp only [Act.put, List.setIfInBounds_toArray, List.set_cons_zero, List.set_cons_succ])
        refine Rg.t 27 46 ?_
        refine wpAnyH_done (by kernel_rfl) (NoPanic.normal ?_) _
        clear hHeld
        cases B
        · have HZ := hide (unhide HS1 f (by rw [unhide HT]; rfl))
          go_wp2_with fail
          go_roundw
          case rel => exact ⟨0 + 1, by omega, by go_num, by rw [unhide HZ], HB5⟩
          case measure => simp [intOf]
        · have HZ := hide (unhide HS1 b1 (by rw [unhide HT]; rfl))
          go_wp2_with fail
          go_roundw
          case rel => exact ⟨0 + 1, by omega, by go_num, by rw [unhide HZ], HB5⟩
          case measure => simp [intOf]
      · have HZ := hide (unhide HS1 f (fst_far (by rw [unhide HNN]; omega)))
        have hltn : ¬ b1 < n := by omega
        have hltm : n ≤ b1 := by omega
        have c0 := (unhide HPr).c0
        go_wp2_with fail
        refine wp_region_noPanic ?_
        refine wp_region_held_drew (S := fun w' => w'.cell? ⟨p, 0, none⟩ = some (.slice a n cap)) (by kernel_rfl) c0 (fun hHeld => ?_)
        refine Rg.t 0 19 ?_
        refine Rg.t 1 20 ?_
        refine Rg.t 2 21 ?_
        refine Rg.t 3 22 ?_
        refine Rg.t 4 23 ?_
        refine Rg.t 5 24 ?_
        refine Rg.t 6 25 ?_
        refine Rg.t 7 26 ?_
        refine Rg.s 8 27 ?_
        refine Rg.s 9 28 ?_
        refine Rg.s 10 29 ?_
        refine Rg.s 11 30 ?_
        refine Rg.s 12 31 ?_
        refine Rg.s 13 32 ?_
        refine Rg.s 14 33 ?_
        refine Rg.s 15 34 ?_
        refine Rg.s 16 35 ?_
        refine Rg.s 17 36 ?_
        refine Rg.s 18 37 ?_
        refine Rg.s 19 38 ?_
        refine Rg.s 20 39 ?_
        refine Rg.s 21 40 ?_
        refine Rg.s 22 41 ?_
        refine Rg.s 23 42 ?_
        refine Rg.s 24 43 ?_
        refine Rg.s 25 44 ?_
        refine Rg.s 26 45 ?_
        refine Rg.t 27 46 ?_
        refine wpAnyH_done (by kernel_rfl) (NoPanic.normal ?_) _
        clear hHeld
        go_wp2_with fail
        go_roundw
        case rel => exact ⟨0 + 1, by omega, by go_num, by rw [unhide HZ], hide (unhide hbl).drew⟩
        case measure => simp [intOf]
    · obtain ⟨f, hf⟩ : ∃ f : Nat, fstK hs i 1 = f := ⟨_, rfl⟩
      have hfb : f < b2 := by
        rw [← hf, unhide HB2]
        show fst1 hs i (2 * i + 1) i < 2 * i + 2; unfold fst1; split <;> omega
      have HS1 : Hid (∀ z, fst1 hs i b2 f = z → fstK hs i (1 + 1) = z) := hide (fun z hz => by rw [← hz, ← hf, unhide HB2]; rfl)
      rw [hf]
      have HFF := hide hf
      clear hf
      have b0 : (0 : Int) ≤ (b2 : Int) := by omega
      have f0 : (0 : Int) ≤ (f : Int) := by omega
      have HPr := hide ((unhide HPP).below (unhide hbl))
      by_cases hlt : (b2 : Int) < (n : Int)
      · obtain ⟨g, cap', hv', hpg, hgl, hc1, hc2⟩ := (unhide HPr).form (by rw [unhide HNN]; omega)
        rw [unhide HNN] at hv'
        obtain ⟨rfl, rfl⟩ : a = some ⟨g, 0, none⟩ ∧ cap = cap' := by cases hv'; exact ⟨rfl, rfl⟩
        have hfn : (f : Int) < (n : Int) := by omega
        have hltn : b2 < n := by omega
        have HSP := hide (sHP_of (unhide HNN) (unhide HPr) (i := b2) (j := f) (by omega) (by omega))
        have HT : Hid (fst1 hs i b2 f = if btB (at' hs b2) (at' hs f) = true then b2 else f) := hide (fst_near (by rw [unhide HNN]; omega))
        obtain ⟨X, hX⟩ : ∃ X, at' hs b2 = X := ⟨_, rfl⟩
        obtain ⟨Y, hY⟩ : ∃ Y, at' hs f = Y := ⟨_, rfl⟩
        rw [hX, hY] at HSP HT
        clear hX hY hv' hpg hgl hc1 hc2
        obtain ⟨B, hB⟩ : ∃ B, btB X Y = B := ⟨_, rfl⟩
        rw [hB] at HT
        have HBT := hide hB
        clear hB
        obtain ⟨xa, xn, xc, xh⟩ := X
        obtain ⟨ya, yn, yc, yh⟩ := Y
        go_wp2_with fail
        refine wp_region_noPanic ?_
        refine wp_region_held_drew (S := fun w' => sHP w' p g cap n b2 f ⟨xa, xn, xc, xh⟩ ⟨ya, yn, yc, yh⟩ ∧ w'.cell? ⟨p, 0, none⟩ = some (.slice (some ⟨g, 0, none⟩) n cap) ∧ w'.cell? ⟨p, 1, none⟩ = some (Value.func (.func 158) #[] #[]) ∧ w'.cell? ⟨g, b2 * 4, none⟩ = some (.int .i64 xa) ∧ w'.cell? ⟨g, b2 * 4 + 1, none⟩ = some (.int .i64 xn) ∧ w'.cell? ⟨g, b2 * 4 + 2, none⟩ = some (.int .i64 xc) ∧ w'.cell? ⟨g, b2 * 4 + 3, none⟩ = some (.int .i64 xh) ∧ w'.cell? ⟨g, f * 4, none⟩ = some (.int .i64 ya) ∧ w'.cell? ⟨g, f * 4 + 1, none⟩ = some (.int .i64 yn) ∧ w'.cell? ⟨g, f * 4 + 2, none⟩ = some (.int .i64 yc) ∧ w'.cell? ⟨g, f * 4 + 3, none⟩ = some (.int .i64 yh)) (by kernel_rfl) (sHPc (unhide HSP)) (fun hHeld => ?_)
        refine Rg.t 0 19 ?_
        refine Rg.t 1 20 ?_
        refine Rg.t 2 21 ?_
        refine Rg.t 3 22 ?_
        refine Rg.t 4 23 ?_
        refine Rg.t 5 24 ?_
        refine Rg.t 6 25 ?_
        refine Rg.t 7 26 ?_
        refine Rg.t 8 27 ?_
        refine Rg.t 9 28 ?_
        refine Rg.t 10 29 ?_
        refine Rg.t 11 30 ?_
        refine Rg.t 12 31 ?_
        refine Rg.t 13 32 ?_
        refine Rg.t 14 33 ?_
        refine Rg.t 15 34 ?_
        refine Rg.t 16 35 ?_
        refine Rg.t 17 36 ?_
        refine Rg.t 18 37 ?_
        refine Rg.t 19 38 ?_
        refine Rg.t 20 39 ?_
        refine Rg.t 21 40 ?_
        refine Rg.t 22 41 ?_
        refine Rg.t 23 42 ?_
        refine Rg.t 24 43 ?_
        refine Rg.t 25 44 ?_
        (refine Rg.o 26 (fun K hK => ?_); go_simp)
        refine (isBetter ⟨xa, xn, xc, xh⟩ ⟨ya, yn, yc, yh⟩ _).mono ?_
        rintro e w5 ⟨rfl, b5_⟩
        rw [unhide HBT]
        have b5 : Below wr.heap.size wr w5 := (Below.refl _ _).drew.trans b5_
        have HSP5 := hide ((unhide HSP).below b5)
        have HB5 := hide ((unhide hbl).trans (b5.mono (unhide hbl).size))
        clear b5 b5_ hHeld HSP
        refine hK.out _ _ (sHPc (unhide HSP5)) (fun hHeld => ?_)
        clear hK K
        (try simp only [Act.put, List.setIfInBounds_toArray, List.set_cons_zero, List.set_cons_succ])
        refine Rg.t 27 46 ?_
        refine wpAnyH_done (by kernel_rfl) (NoPanic.normal ?_) _
        clear hHeld
        cases B
        · have HZ := hide (unhide HS1 f (by rw [unhide HT]; rfl))
          go_wp2_with fail
          go_roundw
          case rel => exact ⟨1 + 1, by omega, by go_num, by rw [unhide HZ], HB5⟩
          case measure => simp [intOf]
        · have HZ := hide (unhide HS1 b2 (by rw [unhide HT]; rfl))
          go_wp2_with fail
          go_roundw
          case rel => exact ⟨1 + 1, by omega, by go_num, by rw [unhide HZ], HB5⟩
          case measure => simp [intOf]
      · have HZ := hide (unhide HS1 f (fst_far (by rw [unhide HNN]; omega)))
        have hltn : ¬ b2 < n := by omega
        have hltm : n ≤ b2 := by omega
        have c0 := (unhide HPr).c0
        go_wp2_with fail
        refine wp_region_noPanic ?_
        refine wp_region_held_drew (S := fun w' => w'.cell? ⟨p, 0, none⟩ = some (.slice a n cap)) (by kernel_rfl) c0 (fun hHeld => ?_)
        refine Rg.t 0 19 ?_
        refine Rg.t 1 20 ?_
        refine Rg.t 2 21 ?_
        refine Rg.t 3 22 ?_
        refine Rg.t 4 23 ?_
        refine Rg.t 5 24 ?_
        refine Rg.t 6 25 ?_
        refine Rg.t 7 26 ?_
        refine Rg.s 8 27 ?_
        refine Rg.s 9 28 ?_
        refine Rg.s 10 29 ?_
        refine Rg.s 11 30 ?_
        refine Rg.s 12 31 ?_
        refine Rg.s 13 32 ?_
        refine Rg.s 14 33 ?_
        refine Rg.s 15 34 ?_
        refine Rg.s 16 35 ?_
        refine Rg.s 17 36 ?_
        refine Rg.s 18 37 ?_
        refine Rg.s 19 38 ?_
        refine Rg.s 20 39 ?_
        refine Rg.s 21 40 ?_
        refine Rg.s 22 41 ?_
        refine Rg.s 23 42 ?_
        refine Rg.s 24 43 ?_
        refine Rg.s 25 44 ?_
        refine Rg.s 26 45 ?_
        refine Rg.t 27 46 ?_
        refine wpAnyH_done (by kernel_rfl) (NoPanic.normal ?_) _
        clear hHeld
        go_wp2_with fail
        go_roundw
        case rel => exact ⟨1 + 1, by omega, by go_num, by rw [unhide HZ], hide (unhide hbl).drew⟩
        case measure => simp [intOf]
    · have HE : Hid (fstK hs i 2 = fstOf hs i) := hide rfl
      rw [unhide HE]
      go_wp2_with fail
      go_ret
      exact ⟨rfl, unhide hbl⟩
end Wd
end Go.Proofs.YtfooahhdikobeaaGreat
namespace Go.Proofs.YtfooahhdikobeaaGreat
open Go.ChangeShapes Go.WideShapes Go.ChangeAt Go.RowKit
set_option linter.unusedVariables false
set_option linter.unusedSimpArgs false
set_option maxRecDepth 100000
attribute [local go_sem ↓] Go.wp_at_zero Go.wp_at_succ
namespace Wd
open W1 Ro Rw
theorem rv_frm {w w' : World} {b p : Nat} {v : Value} {m : R} (h : RV w b m) (hf : Frm p v w w') (hp : b ≠ p) (hv : some b ≠ v.ownBlock) : RV w' b m := (hf.block b h.lt hp hv).trans h
theorem hp_other {w : World} {p b o : Nat} {v u : Value} {hs : List R} (h : HP w p v hs) (hb : b ≠ p) (hv : some b ≠ v.ownBlock) : HP (w.setCell ⟨b, o, none⟩ u) p v hs := by
  refine ⟨(Below.heap_setCell _ _ _ _ (show p ≠ b from fun e => hb e.symm)).trans h.1, ?_⟩
  refine h.2.kept (row := some b) ⟨rfl, rfl, rfl, by simp [World.setCell], fun k hk hne => Below.heap_setCell _ _ _ _ (by simpa using hne)⟩ ?_
  exact .inr (fun e => hv e.symm)
theorem frm_new {w w1 : World} {p b o : Nat} {v u : Value} (h : Frm p v w w1) (hb : w.heap.size ≤ b) : Frm p v w (w1.setCell ⟨b, o, none⟩ u) :=
  ⟨h.os, h.tape, h.output, by simpa [World.setCell] using h.size, fun k hk hp hv => (Below.heap_setCell _ _ _ _ (show k ≠ b by omega)).trans (h.block k hk hp hv)⟩
set_option maxHeartbeats 16000000 in
theorem pop (p : Nat) (v : Value) (hs : List R) (w : World) (h : HP w p v hs) (hh : Heap hs) (h0 : 0 < hs.length) (hl : hs.length ≤ 4097) :
    Calls Tryz.prog 161 #[.pointer (some ⟨p, 0, none⟩)] w fun e w' => e = .returned (at' hs 0).value ∧ ∃ v' hs', HP w' p v' hs' ∧ Heap hs' ∧ hs'.length + 1 = hs.length ∧ (∀ y ∈ hs, y = at' hs 0 ∨ y ∈ hs') ∧ (∀ y ∈ hs', y ∈ hs) ∧ Frm p v w w' ∧ Nxt w v v' := by
  obtain ⟨g, cap, rfl, hpg, hgl, hc1, hc2⟩ := h.form h0
  have HDN := hide (cut_dn hh)
  have HLN : Hid ((cutL hs).length = hs.length - 1) := hide cut_len
  have HMA : Hid (∀ y ∈ hs, y = at' hs 0 ∨ y ∈ cutL hs) := hide (fun y hy => mem_cut hy)
  have HMB : Hid (∀ y ∈ cutL hs, y ∈ hs) := hide (fun y hy => cut_mem hy)
  have HPP := hide h
  clear hh h
  obtain ⟨n, hn⟩ : ∃ n, hs.length = n := ⟨_, rfl⟩
  have HNN := hide hn
  rw [hn] at HPP HLN h0 hl hc1 ⊢
  clear hn
  obtain ⟨m, hm⟩ : ∃ m, n = m + 1 := ⟨n - 1, by omega⟩
  have HMN := hide hm
  have em : (n : Int) - 1 = (m : Int) := by omega
  have m0 : (0 : Int) ≤ (m : Int) := by omega
  have m1 : (m : Int) ≤ (n : Int) := by omega
  have m2 : (m : Int) ≤ (cap : Int) := by omega
  have wm : IntKind.i64.wrap (m : Int) = (m : Int) := by rw [IntKind.wrap_i64]; omega
  have n0 : (0 : Int) < (n : Int) := by omega
  obtain ⟨X, hX⟩ : ∃ X, at' hs 0 = X := ⟨_, rfl⟩
  have HX := hide hX
  have hA : At w g (0 * 4) X := by have := sHP_of (unhide HNN) (unhide HPP) (i := 0) (j := 0) (by omega) (by omega); rw [← hX]; exact this.2.2.1
  rw [Nat.zero_mul] at hA
  rw [hX] at HMA ⊢
  clear hX hm
  obtain ⟨xa, xn, xc, xh⟩ := X
  show Calls Tryz.prog 161 #[.pointer (some ⟨p, 0, none⟩)] w _
  have HB1 : Hid (Below w.heap.size w (w.alloc (.cells #[.int .i64 0, .int .i64 0, .int .i64 0, .int .i64 0] 87))) := hide ((Below.refl _ _).alloc (Nat.le_refl _) _)
  have HP1 := hide ((unhide HPP).below (unhide HB1))
  have HA1 := hide (hA.below (unhide HB1))
  have HZ1 : Hid (RV (w.alloc (.cells #[.int .i64 0, .int .i64 0, .int .i64 0, .int .i64 0] 87)) w.heap.size R.zero) := hide (rv_new w R.zero)
  go_enter Tryz.func161, Tryz.ntmps161
  go_wp2_with fail
  generalize hW : w.alloc (.cells #[.int .i64 0, .int .i64 0, .int .i64 0, .int .i64 0] 87) = W1 at *
  have hs1 : W1.heap.size = w.heap.size + 1 := by rw [← hW]; simp
  clear hW
  have c0 := (unhide HP1).c0
  have hp1 : p < W1.heap.size := by omega
  have hp2 : ¬ p = W1.heap.size := by omega
  have hg1 : g < W1.heap.size := by omega
  have hg2 : ¬ g = W1.heap.size := by omega
  obtain ⟨x0, x1, x2, x3⟩ := unhide HA1
  simp only [Nat.zero_add] at x1 x2 x3
  dsimp only at x0 x1 x2 x3
  have HBA : Hid (Below W1.heap.size W1 (W1.alloc (.cells #[.int .i64 0, .int .i64 0, .int .i64 0, .int .i64 0] 87))) := hide ((Below.refl _ _).alloc (Nat.le_refl _) _)
  have cA := ((unhide HP1).below (unhide HBA)).c0
  obtain ⟨y0, y1, y2, y3⟩ := (unhide HA1).below (unhide HBA)
  simp only [Nat.zero_add] at y1 y2 y3
  dsimp only at y0 y1 y2 y3
  have HBB : Hid (Below W1.heap.size W1 (W1.alloc (.cells #[.int .i64 xa, .int .i64 xn, .int .i64 xc, .int .i64 xh] 87))) := hide ((Below.refl _ _).alloc (Nat.le_refl _) _)
  have cB := ((unhide HP1).below (unhide HBB)).c0
  go_region
  have b12 : Below W1.heap.size W1 (W1.alloc (.cells #[.int .i64 xa, .int .i64 xn, .int .i64 xc, .int .i64 xh] 87)).drew := (unhide HBB).drew
  have HP2 := hide ((unhide HP1).below b12)
  have HZ2 := hide ((unhide HZ1).below b12)
  have HT2 : Hid (RV (W1.alloc (.cells #[.int .i64 xa, .int .i64 xn, .int .i64 xc, .int .i64 xh] 87)).drew (w.heap.size + 1) ⟨xa, xn, xc, xh⟩) := hide (by have := (rv_new W1 ⟨xa, xn, xc, xh⟩).drew; rw [hs1] at this; exact this)
  have HF2 : Hid (Frm p (.slice (some ⟨g, 0, none⟩) n cap) w (W1.alloc (.cells #[.int .i64 xa, .int .i64 xn, .int .i64 xc, .int .i64 xh] 87)).drew) := hide (Frm.of_below ((unhide HB1).trans (b12.mono (by omega))))
  have hs2 : (W1.alloc (.cells #[.int .i64 xa, .int .i64 xn, .int .i64 xc, .int .i64 xh] 87)).drew.heap.size = w.heap.size + 2 := by show (W1.alloc (.cells #[.int .i64 xa, .int .i64 xn, .int .i64 xc, .int .i64 xh] 87)).heap.size = _; rw [World.size_alloc]; omega
  clear b12 HBA HBB cA cB c0 x0 x1 x2 x3 y0 y1 y2 y3 HP1 HZ1 HA1 HB1
  generalize hW : (W1.alloc (.cells #[.int .i64 xa, .int .i64 xn, .int .i64 xc, .int .i64 xh] 87)).drew = W2 at *
  clear hW
  have hsw : ∀ W, HP W p (.slice (some ⟨g, 0, none⟩) n cap) hs → Calls Tryz.prog 193 #[.pointer (some ⟨p, 0, none⟩), .int .i64 0, .int .i64 (m : Int)] W fun e w' => e = .returned (.tuple #[]) ∧ HP w' p (.slice (some ⟨g, 0, none⟩) n cap) (swp hs 0 m) ∧ Frm p (.slice (some ⟨g, 0, none⟩) n cap) W w' := fun W hW => swap p _ hs 0 m W hW (by rw [unhide HNN]; omega) (by rw [unhide HNN]; have := unhide HMN; omega)
  have HSW := hide hsw
  clear hsw
  go_wp2_with fail
  refine (unhide HSW _ (unhide HP2)).mono ?_
  rintro e w3 ⟨rfl, h3, f3⟩
  have HZ3 := hide (rv_frm (unhide HZ2) f3 (by omega) (by simp [Value.ownBlock]; omega))
  have HT3 := hide (rv_frm (unhide HT2) f3 (by omega) (by simp [Value.ownBlock]; omega))
  have HF3 := hide ((unhide HF2).trans f3 (Nxt.refl _ _))
  have c3 := h3.c0
  have g3 := h3.free 0
  have HP4 : Hid (HP (w3.setCell ⟨p, 0, none⟩ (.slice (some ⟨g, 0, none⟩) m cap)) p (.slice (some ⟨g, 0, none⟩) m cap) (cutL hs)) := hide (by
    have hmn := unhide HMN
    have hnn := unhide HNN
    have hlm : (cutL hs).length = m := by rw [cut_len, hnn]; omega
    refine hp_set (hs := swp hs 0 m) h3.1 ?_
    rw [hlm]
    have hsl : (swp hs 0 m).length = n := by rw [swp_len]; exact hnn
    have ho := h3.2
    rw [hsl] at ho
    have := own_cut hsl.symm ho (k := m) (by omega)
    have e : cutL hs = (swp hs 0 m).take m := by unfold cutL; rw [hnn, show n - 1 = m by omega]
    rw [e]; exact this)
  have HZ4 : Hid (RV (w3.setCell ⟨p, 0, none⟩ (.slice (some ⟨g, 0, none⟩) m cap)) w.heap.size R.zero) := hide ((Below.heap_setCell _ _ _ _ (show w.heap.size ≠ p by omega)).trans (unhide HZ3))
  have HT4 : Hid (RV (w3.setCell ⟨p, 0, none⟩ (.slice (some ⟨g, 0, none⟩) m cap)) (w.heap.size + 1) ⟨xa, xn, xc, xh⟩) := hide ((Below.heap_setCell _ _ _ _ (show w.heap.size + 1 ≠ p by omega)).trans (unhide HT3))
  have HF4 : Hid (Frm p (.slice (some ⟨g, 0, none⟩) n cap) w (w3.setCell ⟨p, 0, none⟩ (.slice (some ⟨g, 0, none⟩) m cap))) := hide ((unhide HF3).trans (v' := .slice (some ⟨g, 0, none⟩) n cap) ⟨rfl, rfl, rfl, by simp [World.setCell], fun k hk hkp hkv => Below.heap_setCell _ _ _ _ hkp⟩ (Nxt.refl _ _))
  have hs4 : w.heap.size + 2 ≤ (w3.setCell ⟨p, 0, none⟩ (.slice (some ⟨g, 0, none⟩) m cap)).heap.size := by have := f3.size; simp [World.setCell]; omega
  clear h3 f3 HZ2 HT2 HF2 HP2 HZ3 HT3 HF3 HSW
  go_wp2_with fail
  clear c3 g3
  generalize hW4 : w3.setCell ⟨p, 0, none⟩ (.slice (some ⟨g, 0, none⟩) m cap) = W4 at *
  clear hW4
  have HLM : Hid ((cutL hs).length = m) := hide (by have := unhide HLN; have := unhide HMN; omega)
  have hm4 : m ≤ 4097 := by omega
  have HFO : Hid (∀ (L : List R) (i : Nat) W, L.length = m → i ≤ 4097 → HP W p (.slice (some ⟨g, 0, none⟩) m cap) L → Calls Tryz.prog 194 #[.pointer (some ⟨p, 0, none⟩), .int .i64 (i : Int)] W fun e w' => e = .returned (.int .i64 (fstOf L i : Int)) ∧ Below W.heap.size W w') := hide (fun L i W hLm hi hW => firstOf p _ L i W hW hi (by rw [hLm]; exact hm4))
  have HF0 : Hid (∀ (L : List R) W, L.length = m → HP W p (.slice (some ⟨g, 0, none⟩) m cap) L → Calls Tryz.prog 194 #[.pointer (some ⟨p, 0, none⟩), .int .i64 0] W fun e w' => e = .returned (.int .i64 (fstOf L 0 : Int)) ∧ Below W.heap.size W w') := hide (fun L W hLm hW => firstOf p _ L 0 W hW (by omega) (by rw [hLm]; exact hm4))
  refine (unhide HF0 _ _ (unhide HLM) (unhide HP4)).mono ?_
  rintro e w5 ⟨rfl, b5⟩
  have HP5 := hide ((unhide HP4).below b5)
  have HZ5 := hide ((unhide HZ4).below b5)
  have HT5 := hide ((unhide HT4).below b5)
  have HF5 := hide ((unhide HF4).trans (Frm.of_below b5 (v := .slice (some ⟨g, 0, none⟩) n cap)) (Nxt.refl _ _))
  have hs5 : w.heap.size + 2 ≤ w5.heap.size := by have := b5.size; omega
  have HVN : Hid (Nxt w (.slice (some ⟨g, 0, none⟩) n cap) (.slice (some ⟨g, 0, none⟩) m cap)) := hide (.inl rfl)
  clear b5 HP4 HZ4 HT4 HF4 HF0
  go_wp2_with fail
  go_loopw [5, 6] (fun iv fv wr => ∃ (i : Nat) (L : List R), iv = .int .i64 (i : Int) ∧ fv = .int .i64 (fstOf L i : Int) ∧ (i < m ∨ m = 0 ∧ i = 0) ∧ Hid (L.length = m) ∧ Hid (HP wr p (.slice (some ⟨g, 0, none⟩) m cap) L) ∧ Hid (DnI L i) ∧ Hid (∀ y, y ∈ L ↔ y ∈ cutL hs) ∧ Hid (RV wr w.heap.size R.zero) ∧ Hid (RV wr (w.heap.size + 1) ⟨xa, xn, xc, xh⟩) ∧ Hid (Frm p (.slice (some ⟨g, 0, none⟩) n cap) w wr)) (fun iv _ _ => m - (intOf iv).toNat)
  case atStart => exact ⟨0, cutL hs, rfl, rfl, by omega, HLM, HP5, HDN, hide (fun y => Iff.rfl), HZ5, HT5, HF5⟩
  case round =>
    obtain ⟨i, L, rfl, rfl, him, hLm, hHP, hDN, hME, hZ, hT, hFR⟩ := hrel
    have hlz := (unhide hZ).lt
    have hlt := (unhide hT).lt
    by_cases hk : fstOf L i = i
    · have HG : Hid (Heap L) := hide (by
        rcases him with h | ⟨h, _⟩
        · exact dn_done (unhide hDN) (by rw [unhide hLm]; exact h) hk
        · intro j h0 hj; rw [unhide hLm] at hj; omega)
      have hk' : ((fstOf L i : Int) != (i : Int)) = false := by rw [hk]; simp
      have HMA2 : Hid (∀ y ∈ hs, y = ⟨xa, xn, xc, xh⟩ ∨ y ∈ L) := hide (fun y hy => (unhide HMA y hy).imp id (fun h => (unhide hME y).2 h))
      have HMB2 : Hid (∀ y ∈ L, y ∈ hs) := hide (fun y hy => unhide HMB y ((unhide hME y).1 hy))
      have HLL : Hid (L.length + 1 = n) := hide (by have := unhide hLm; have := unhide HMN; omega)
      clear hk HMA HMB hME HFO him
      generalize fstOf L i = k at *
      obtain ⟨z0, z1, z2, z3⟩ := (unhide hZ).cells
      have y0 := (unhide hZ).free 0
      have y1 := (unhide hZ).free 1
      have y2 := (unhide hZ).free 2
      have y3 := (unhide hZ).free 3
      unfold R.zero at z0 z1 z2 z3
      dsimp only at z0 z1 z2 z3
      obtain ⟨x0, x1, x2, x3⟩ := (unhide hT).cells
      dsimp only at x0 x1 x2 x3
      have HFV : Hid (RV ((((wr.setCell ⟨w.heap.size, 0, none⟩ (.int .i64 xa)).setCell ⟨w.heap.size, 1, none⟩ (.int .i64 xn)).setCell ⟨w.heap.size, 2, none⟩ (.int .i64 xc)).setCell ⟨w.heap.size, 3, none⟩ (.int .i64 xh)) w.heap.size ⟨xa, xn, xc, xh⟩) := hide (rv_put (unhide hZ) xa xn xc xh)
      obtain ⟨v0, v1, v2, v3⟩ := (unhide HFV).cells
      dsimp only at v0 v1 v2 v3
      go_wp2_with fail
      have hne1 : some w.heap.size ≠ (Value.slice (some ⟨g, 0, none⟩) m cap).ownBlock := by simp [Value.ownBlock]; omega
      have hne2 : w.heap.size ≠ p := by omega
      refine bodyPost_ret (v := .agg #[.int .i64 xa, .int .i64 xn, .int .i64 xc, .int .i64 xh]) (by simp [results, Tryz.results161, go_sem, v0, v1, v2, v3]) rfl ⟨rfl, _, L, ?_, unhide HG, unhide HLL, unhide HMA2, unhide HMB2, ?_, unhide HVN⟩
      · exact hp_other (hp_other (hp_other (hp_other (unhide hHP) hne2 hne1) hne2 hne1) hne2 hne1) hne2 hne1
      · exact frm_new (frm_new (frm_new (frm_new (unhide hFR) (Nat.le_refl _)) (Nat.le_refl _)) (Nat.le_refl _)) (Nat.le_refl _)
    · have him' : i < m := by
        rcases him with h | ⟨h, h'⟩
        · exact h
        · exfalso; apply hk; subst h'; unfold fstOf fst1; rw [unhide hLm, h]; simp
      obtain ⟨k, hkk⟩ : ∃ k, fstOf L i = k := ⟨_, rfl⟩
      have HST := hide (dn_step (unhide hDN) (by rw [unhide hLm]; exact him') hkk (by rw [← hkk]; exact hk))
      have hik := (unhide HST).1
      have hkm : k < m := by have := (unhide HST).2.1; rw [unhide hLm] at this; exact this
      have hk' : ((k : Int) != (i : Int)) = true := by simp; omega
      rw [hkk]
      have HKK := hide hkk
      clear hk hkk him
      have HL6 : Hid ((swp L i k).length = m) := hide (by rw [swp_len]; exact unhide hLm)
      have HM6 : Hid (∀ y, y ∈ swp L i k ↔ y ∈ cutL hs) := hide (fun y => by rw [swp_mem (by rw [unhide hLm]; exact him') (by rw [unhide hLm]; exact hkm)]; exact unhide hME y)
      have hne1 : some w.heap.size ≠ (Value.slice (some ⟨g, 0, none⟩) m cap).ownBlock := by simp [Value.ownBlock]; omega
      have hne3 : some (w.heap.size + 1) ≠ (Value.slice (some ⟨g, 0, none⟩) m cap).ownBlock := by simp [Value.ownBlock]; omega
      go_wp2_with fail
      refine (swap p _ L i k _ (unhide hHP) (by rw [unhide hLm]; exact him') (by rw [unhide hLm]; exact hkm)).mono ?_
      rintro e w6 ⟨rfl, h6, f6⟩
      have HP6 := hide h6
      have HF6 := hide ((unhide hFR).trans f6 (unhide HVN))
      have HZ6 := hide (rv_frm (unhide hZ) f6 (by omega) hne1)
      have HT6 := hide (rv_frm (unhide hT) f6 (by omega) hne3)
      clear h6 f6 hHP hFR hZ hT hlz hlt
      go_wp2_with fail
      refine (unhide HFO (swp L i k) k _ (unhide HL6) (by omega) (unhide HP6)).mono ?_
      rintro e w7 ⟨rfl, b7⟩
      have HP7 := hide ((unhide HP6).below b7)
      have HZ7 := hide ((unhide HZ6).below b7)
      have HT7 := hide ((unhide HT6).below b7)
      have HF7 := hide ((unhide HF6).trans (Frm.of_below b7 (v := .slice (some ⟨g, 0, none⟩) n cap)) (Nxt.refl _ _))
      clear b7
      go_wp2_with fail
      go_roundw
      case rel => exact ⟨k, swp L i k, rfl, rfl, .inl hkm, HL6, HP7, hide (unhide HST).2.2, HM6, HZ7, HT7, HF7⟩
      case measure => simp [intOf]; omega
end Wd
end Go.Proofs.YtfooahhdikobeaaGreat
namespace Go.Proofs.YtfooahhdikobeaaGreat
set_option linter.unusedVariables false
set_option linter.unusedSimpArgs false
namespace Wd
open W1 Ro Tw
/-- What a list of eight tells: of an address its way, none where the route there is to nowhere. -/
def WL (ws : List R) (v : Int) : Option R := if 1 ≤ v ∧ v ≤ 8 then (if (at' ws (v - 1).toNat).ds = 0 then none else some (at' ws (v - 1).toNat)) else none
theorem wl_some {ws : List R} {v : Int} {x : R} (h : WL ws v = some x) : (1 ≤ v ∧ v ≤ 8) ∧ x = at' ws (v - 1).toNat ∧ x.ds ≠ 0 := by
  unfold WL at h
  split at h
  · split at h
    · cases h
    · cases h; exact ⟨by assumption, rfl, by assumption⟩
  · cases h
theorem wl_at {ws : List R} {v : Int} (hv : 1 ≤ v ∧ v ≤ 8) (h : (at' ws (v - 1).toNat).ds ≠ 0) : WL ws v = some (at' ws (v - 1).toNat) := by
  unfold WL; rw [if_pos hv, if_neg h]
theorem wl_none {ws : List R} {v : Int} (h : (at' ws (v - 1).toNat).ds = 0) : WL ws v = none := by
  unfold WL
  by_cases hv : 1 ≤ v ∧ v ≤ 8
  · rw [if_pos hv, if_pos h]
  · rw [if_neg hv]
theorem at_set {ws : List R} {i : Nat} {m : R} (h : i < ws.length) (k : Nat) : at' (ws.set i m) k = if k = i then m else at' ws k := by
  unfold at'
  simp only [List.getD_eq_getElem?_getD, List.getElem?_set]
  by_cases e : k = i
  · subst e; simp [h]
  · rw [if_neg (by omega), if_neg e]
theorem wl_set {ws : List R} (hl : ws.length = 8) {b : R} (hb : 1 ≤ b.ds ∧ b.ds ≤ 8) : WL (ws.set (b.ds - 1).toNat b) = upW (WL ws) b := by
  funext v
  unfold upW
  by_cases e : v = b.ds
  · rw [if_pos e]
    have h1 : at' (ws.set (b.ds - 1).toNat b) (v - 1).toNat = b := by rw [at_set (by omega), if_pos (by rw [e])]
    rw [wl_at (by omega) (by rw [h1]; omega), h1]
  · rw [if_neg e]
    unfold WL
    by_cases hv : 1 ≤ v ∧ v ≤ 8
    · have e1 : at' (ws.set (b.ds - 1).toNat b) (v - 1).toNat = at' ws (v - 1).toNat := by rw [at_set (by omega), if_neg (by omega)]
      rw [e1]
    · rw [if_neg hv, if_neg hv]
/-- The state of the search. -/
structure Sta (g : List Tu.R) (f : Int) (ws hs : List R) : Prop where
  len : ws.length = 8
  heap : Heap hs
  inv : Inv g f (WL ws) (fun x => x ∈ hs)
  okh : ∀ x ∈ hs, okN (cntW (WL ws)) x
  okw : ∀ v x, WL ws v = some x → okN (cntW (WL ws)) x
  size : hs.length ≤ 1 + 64 * cntW (WL ws)
  zero : ∀ i, i < 8 → (at' ws i).ds = 0 → at' ws i = R.zero
def zs8 : List R := [R.zero, R.zero, R.zero, R.zero, R.zero, R.zero, R.zero, R.zero]
theorem zs8_at (i : Nat) : at' zs8 i = R.zero := by
  unfold at' zs8
  match i with
  | 0 | 1 | 2 | 3 | 4 | 5 | 6 | 7 => rfl
  | n + 8 => simp
theorem zs8_wl (v : Int) : WL zs8 v = none := wl_none (by rw [zs8_at]; rfl)
theorem sta_start {g : List Tu.R} {f : Int} (hf : 1 ≤ f ∧ f ≤ 8) {hs : List R} (hh : Heap hs) (hl : hs.length = 1) (hm : ∀ y, y ∈ hs ↔ y = zl f) : Sta g f zs8 hs := by
  have hW : WL zs8 = fun _ => none := funext zs8_wl
  refine ⟨rfl, hh, ?_, fun x hx => ?_, fun v x h => ?_, by omega, fun i _ _ => zs8_at i⟩
  · rw [hW, show (fun x => x ∈ hs) = fun x => x = zl f from funext (fun x => propext (hm x))]
    exact inv_start g f
  · rw [(hm x).1 hx, cnt_none _ zs8_wl]; exact okN_zl hf
  · rw [zs8_wl] at h; cases h
theorem sta_top {g : List Tu.R} {f : Int} {ws hs : List R} (h : Sta g f ws hs) {b : R} (hb : b ∈ hs) : (1 ≤ b.ds ∧ b.ds ≤ 8) ∧ (0 ≤ b.co ∧ b.co ≤ 8589934592) ∧ (0 ≤ b.hp ∧ b.hp ≤ 8) := by
  have h1 := h.okh b hb
  have h2 := cnt_le (WL ws)
  unfold okN at h1
  refine ⟨by omega, by omega, by omega⟩
theorem sta_skip {g : List Tu.R} {f : Int} {ws hs hs' : List R} (h : Sta g f ws hs) {b : R} (hb : b ∈ hs) (hz : (at' ws (b.ds - 1).toNat).ds ≠ 0)
    (hh : Heap hs') (hl : hs'.length + 1 = hs.length) (h1 : ∀ y ∈ hs, y = b ∨ y ∈ hs') (h2 : ∀ y ∈ hs', y ∈ hs) : Sta g f ws hs' := by
  have hr := (sta_top h hb).1
  exact ⟨h.len, hh, inv_skip h.inv hb (wl_at hr hz) h1 h2, fun x hx => h.okh x (h2 x hx), h.okw, by have := h.size; omega, h.zero⟩
/-- What was pushed by the first j edges. -/
def psh (g : List Tu.R) (b : R) (j : Nat) (y : R) : Prop := ∃ m ∈ g.take j, hv m = b.ds ∧ y = ext b (ha m) m.val
theorem psh_zero (g : List Tu.R) (b y : R) : ¬ psh g b 0 y := by rintro ⟨m, hm, _⟩; simp at hm
theorem psh_yes {g : List Tu.R} {b : R} {j : Nat} (hj : j < g.length) (h : hv (g.getD j Tu.R.zero) = b.ds) (y : R) : psh g b (j + 1) y ↔ psh g b j y ∨ y = ext b (ha (g.getD j Tu.R.zero)) (g.getD j Tu.R.zero).val := by
  unfold psh
  rw [take_one hj]
  constructor
  · rintro ⟨m, hm, h1, h2⟩
    rcases List.mem_append.1 hm with hm | hm
    · exact .inl ⟨m, hm, h1, h2⟩
    · rw [List.mem_singleton] at hm; subst hm; exact .inr h2
  · rintro (⟨m, hm, h1, h2⟩ | e)
    · exact ⟨m, List.mem_append_left _ hm, h1, h2⟩
    · exact ⟨_, List.mem_append_right _ (List.mem_singleton.2 rfl), h, e⟩
theorem psh_no {g : List Tu.R} {b : R} {j : Nat} (hj : j < g.length) (h : hv (g.getD j Tu.R.zero) ≠ b.ds) (y : R) : psh g b (j + 1) y ↔ psh g b j y := by
  unfold psh
  rw [take_one hj]
  constructor
  · rintro ⟨m, hm, h1, h2⟩
    rcases List.mem_append.1 hm with hm | hm
    · exact ⟨m, hm, h1, h2⟩
    · rw [List.mem_singleton] at hm; subst hm; exact absurd h1 h
  · rintro ⟨m, hm, h1, h2⟩
    exact ⟨m, List.mem_append_left _ hm, h1, h2⟩
theorem psh_all {g : List Tu.R} {b y : R} : psh g b g.length y ↔ ∃ c, Ed g b.ds y.ds c ∧ y = ext b y.ds c := by
  unfold psh Ed
  rw [List.take_length]
  constructor
  · rintro ⟨m, hm, h1, h2⟩
    have e : y.ds = ha m := by rw [h2]; rfl
    exact ⟨m.val, ⟨m, hm, h1, e.symm, rfl⟩, by rw [e]; exact h2⟩
  · rintro ⟨c, ⟨m, hm, h1, h2, h3⟩, h4⟩
    exact ⟨m, hm, h1, by rw [h2, h3]; exact h4⟩
theorem sta_new {g : List Tu.R} (hg : graphB g = true) {f : Int} {ws hs hs' hs2 : List R} (h : Sta g f ws hs) {b : R} (hb : b ∈ hs) (hmin : ∀ y ∈ hs, ¬ Bt y b) (hz : (at' ws (b.ds - 1).toNat).ds = 0)
    (hl : hs'.length + 1 = hs.length) (h1 : ∀ y ∈ hs, y = b ∨ y ∈ hs') (h2 : ∀ y ∈ hs', y ∈ hs)
    (hh2 : Heap hs2) (hl2 : hs2.length ≤ hs'.length + g.length) (hm : ∀ y, y ∈ hs2 ↔ y ∈ hs' ∨ psh g b g.length y) : Sta g f (ws.set (b.ds - 1).toNat b) hs2 := by
  have hr := (sta_top h hb).1
  have hn : WL ws b.ds = none := wl_none hz
  have hp := graph_pos hg
  have ht := graph_two hg
  have hW := wl_set h.len hr
  have hc : cntW (WL (ws.set (b.ds - 1).toNat b)) = cntW (WL ws) + 1 := by rw [hW]; exact cnt_up hr.1 hr.2 hn
  have hob := h.okh b hb
  refine ⟨by rw [List.length_set]; exact h.len, hh2, ?_, fun x hx => ?_, fun v x hv => ?_, ?_, fun i hi h0 => ?_⟩
  · rw [hW]
    refine inv_new hp h.inv hb hn hmin (fun x hx => ?_) (fun x hx => ?_) (fun v c he => ?_)
    · rcases (hm x).1 hx with hx | hx
      · exact .inl (h2 x hx)
      · exact .inr (psh_all.1 hx)
    · rcases h1 x hx with e | hx'
      · exact .inl e
      · exact .inr (.inr ⟨x, (hm x).2 (.inl hx'), rfl, no_self _⟩)
    · refine .inl ⟨ext b v c, (hm _).2 (.inr (psh_all.2 ⟨c, he, rfl⟩)), rfl, no_self _⟩
  · rw [hc]
    rcases (hm x).1 hx with hx | hx
    · exact okN_mono (by omega) (h.okh x (h2 x hx))
    · obtain ⟨c, he, e⟩ := psh_all.1 hx
      have hrn := ed_rng ht he
      rw [e]
      exact okN_ext hob hrn.2.1 hrn.2.2.2
  · rw [hc]
    rw [hW] at hv
    unfold upW at hv
    split at hv
    · cases hv; exact okN_mono (by omega) hob
    · exact okN_mono (by omega) (h.okw v x hv)
  · rw [hc]
    have := two_len ht
    have := h.size
    omega
  · rw [at_set (by rw [h.len]; omega)] at h0 ⊢
    split at h0
    · omega
    · rename_i e; rw [if_neg e]; exact h.zero i hi h0
/-- The best ways as a list of eight. -/
noncomputable def waysL (g : List Tu.R) (f : Int) : List R := (List.range 8).map (fun i : Nat => (best g f ((i : Int) + 1)).getD R.zero)
theorem waysL_len (g : List Tu.R) (f : Int) : (waysL g f).length = 8 := by unfold waysL; simp
theorem waysL_at (g : List Tu.R) (f : Int) {i : Nat} (h : i < 8) : at' (waysL g f) i = (best g f ((i : Int) + 1)).getD R.zero := by
  unfold at' waysL
  rw [List.getD_eq_getElem?_getD, List.getElem?_map, List.getElem?_range h]; rfl
theorem ext_at {xs ys : List R} (hx : xs.length = 8) (hy : ys.length = 8) (h : ∀ i, i < 8 → at' xs i = at' ys i) : xs = ys := by
  apply List.ext_getElem (by rw [hx, hy])
  intro i h1 h2
  have := h i (by omega)
  unfold at' at this
  rw [List.getD_eq_getElem?_getD, List.getD_eq_getElem?_getD, List.getElem?_eq_getElem h1, List.getElem?_eq_getElem h2] at this
  exact this
theorem sta_good {g : List Tu.R} {f : Int} {ws : List R} (h : Sta g f ws []) : Good g f (WL ws) := inv_done h.inv (fun x hx => by cases hx)
theorem sta_done {g : List Tu.R} (hg : graphB g = true) {f : Int} {ws : List R} (h : Sta g f ws []) : ws = waysL g f ∧ Good g f (best g f) ∧ ∀ v x, best g f v = some x → (1 ≤ v ∧ v ≤ 8) ∧ okN 8 x := by
  have hG := sta_good h
  have e := best_is (graph_pos hg) hG
  refine ⟨ext_at h.len (waysL_len g f) (fun i hi => ?_), by rw [← e]; exact hG, fun v x hx => ?_⟩
  · rw [waysL_at g f hi, ← e]
    have hi' : ((i : Int) + 1 - 1).toNat = i := by omega
    by_cases h0 : (at' ws i).ds = 0
    · rw [wl_none (by rw [hi']; exact h0), h.zero i hi h0]; rfl
    · rw [wl_at (by omega) (by rw [hi']; exact h0), hi']; rfl
  · rw [← e] at hx
    exact ⟨(wl_some hx).1, okN_mono (cnt_le _) (h.okw v x hx)⟩
end Wd
end Go.Proofs.YtfooahhdikobeaaGreat
namespace Go.Proofs.YtfooahhdikobeaaGreat
open Go.ChangeShapes Go.WideShapes Go.ChangeAt Go.RowKit
set_option linter.unusedVariables false
set_option linter.unusedSimpArgs false
set_option maxRecDepth 100000
attribute [local go_sem ↓] Go.wp_at_zero Go.wp_at_succ
namespace Ek
open W1
set_option maxHeartbeats 1000000 in
theorem endsOfKey (k : Int) (w : World) (h0 : 0 ≤ k) (h1 : k ≤ 1000000) : Calls Tryz.prog 162 #[.int .i64 k] w fun e w' => e = .returned (.agg #[.int .i64 (k.tdiv 100), .int .i64 (k.tmod 100)]) ∧ Below w.heap.size w w' := by
  have HB : Hid (Below w.heap.size w (w.alloc (.cells #[.int .i64 0, .int .i64 0] 194))) := hide ((Below.refl _ _).alloc (Nat.le_refl _) _)
  obtain ⟨v, hv⟩ : ∃ v, k.tdiv 100 = v := ⟨_, rfl⟩
  obtain ⟨u, hu⟩ : ∃ u, k.tmod 100 = u := ⟨_, rfl⟩
  rw [hv, hu]
  have HV := hide hv
  have HU := hide hu
  clear hv hu
  go_enter Tryz.func162, Tryz.ntmps162
  go_wp2_with fail
  refine (Tw.hopOfKey k _ h0 h1).mono ?_
  rintro e w1 ⟨rfl, b1⟩
  rw [unhide HV, unhide HU]
  obtain ⟨hc, hf⟩ := bcell b1
  have hz1 := b1.size
  simp at hz1
  have hz2 : w.heap.size < w1.heap.size := by omega
  have hne : ¬ w.heap.size = w1.heap.size := by omega
  have HB1 := hide ((unhide HB).trans (b1.mono (unhide HB).size))
  clear b1
  go_wp2_with fail
  refine bodyPost_ret (v := .agg #[.int .i64 v, .int .i64 u]) (by simp [results, Tryz.results162, go_sem, hc, hz1, hz2, hne]) rfl ⟨rfl, ?_⟩
  have hB := unhide HB1
  (repeat (first | (with_reducible exact hB) | (with_reducible refine Below.drew ?_) | (with_reducible refine Below.setCell ?_ ?_ _; rotate_left; (first | exact Nat.le_refl _ | (simp; done) | (dsimp only; omega))) | (with_reducible refine Below.alloc ?_ ?_ _; rotate_left; (first | exact Nat.le_refl _ | omega | (simp [World.setCell]; omega)))))
end Ek
end Go.Proofs.YtfooahhdikobeaaGreat
