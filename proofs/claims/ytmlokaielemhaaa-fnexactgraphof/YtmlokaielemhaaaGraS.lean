/-
  The model's GraphOf. (written by mkgras.py)
-/
import Derived.Test.YtmlokaielemhaaaGraM
import Derived.Test.YtmlokaielemhaaaTopC
import Derived.Test.YtmlokaielemhaaaLnkC
import Derived.Test.YtmlokaielemhaaaSetYc
namespace Go.Proofs.Ytmlokaielemhaaa
open Go.ChangeShapes Go.WideShapes Go.ChangeAt Go.RowKit
set_option linter.unusedVariables false
set_option linter.unusedSimpArgs false
set_option maxRecDepth 100000
attribute [local go_sem ↓] Go.wp_at_zero Go.wp_at_succ
namespace Gr
open W1 Tu St Tw
/-- A slice that lies somewhere. -/
def Fm (v : Value) (n : Nat) : Prop := ∃ g c, v = .slice (some ⟨g, 0, none⟩) n c
theorem fm_lst {w : World} {v : Value} {ms : List R} {lo hi : Nat} (h : LstV w v ms lo hi) (h0 : 0 < ms.length) : Fm v ms.length := by
  obtain ⟨a, c, rfl, h⟩ := h
  rcases h with e | ⟨g, rfl, _⟩
  · rw [e] at h0; simp at h0
  · exact ⟨g, c, rfl⟩
theorem fm_lt {w : World} {v : Value} {ms : List R} {lo hi : Nat} (h : LstV w v ms lo hi) : RM w (match v with | .slice a _ _ => a | _ => none) ms := by
  obtain ⟨a, c, rfl, h⟩ := h
  exact h.rm
theorem l07KeyG (v a : Int) (w : World) (h0 : 0 ≤ v) (h1 : v ≤ 1000000) (h2 : 0 ≤ a) (h3 : a ≤ 1000000) : Calls Try.prog 114 #[.int .i64 v, .int .i64 a] w fun e w' => e = .returned (.int .i64 (100 * v + a)) ∧ w' = w := by
  go_enter Try.func114, Try.ntmps114
  go_wp2
  go_ret
  exact ⟨rfl, rfl⟩
theorem sLk {w : World} {B : Nat} {ad hd sy ci co wl : Int} (h : Lk.At w B 0 ⟨ad, hd, sy, ci, co, wl⟩) : Lk.At w B 0 ⟨ad, hd, sy, ci, co, wl⟩ ∧ w.cell? ⟨B, 0, none⟩ = some (.int .i64 ad) ∧ w.cell? ⟨B, 4, none⟩ = some (.int .i64 co) := by
  refine ⟨h, h.1, ?_⟩
  have := h.2.2.2.2.1
  simpa using this
theorem lk_new (w : World) (ad hd sy ci co wl : Int) : Lk.At (w.alloc (.cells #[.int .i64 ad, .int .i64 hd, .int .i64 sy, .int .i64 ci, .int .i64 co, .int .i64 wl] 113)) w.heap.size 0 ⟨ad, hd, sy, ci, co, wl⟩ := by
  refine ⟨?_, ?_, ?_, ?_, ?_, ?_⟩ <;> simp [World.cell?_alloc_new]
theorem lk_drew {w : World} {B o : Nat} {m : Lk.R} (h : Lk.At w B o m) : Lk.At w.drew B o m := h
/-- The reasons why a link is none of the graph's. -/
theorem lk_off {me now ad hd sy ci co wl st : Int} (hst : Ln.statusV ⟨ad, hd, sy, ci, co, wl⟩ now = st) (h : lkOn me now ⟨ad, hd, sy, ci, co, wl⟩ = false) :
    (st == 2) = false ∨ (st == 2) = true ∧ ((ad != me) = false ∨ (ad != me) = true ∧ ¬ 0 < co) := by
  unfold lkOn at h
  dsimp only at h
  rw [hst] at h
  cases e1 : (st == 2)
  · exact .inl rfl
  · right; refine ⟨rfl, ?_⟩
    cases e2 : (ad != me)
    · exact .inl rfl
    · right; refine ⟨rfl, ?_⟩
      rw [e1, e2] at h
      simpa using h
theorem lk_on {me now ad hd sy ci co wl st : Int} (hst : Ln.statusV ⟨ad, hd, sy, ci, co, wl⟩ now = st) (h : lkOn me now ⟨ad, hd, sy, ci, co, wl⟩ = true) :
    (st == 2) = true ∧ (ad != me) = true ∧ 0 < co := by
  unfold lkOn at h
  dsimp only at h
  rw [hst, Bool.and_eq_true, Bool.and_eq_true, decide_eq_true_eq] at h
  exact ⟨h.2.2, h.1, h.2.1⟩
theorem ed_off {me now key til val : Int} (h : edOn me now ⟨key, til, val⟩ = false) (h0 : 0 ≤ key) : ¬ now < til ∨ now < til ∧ ((key / 100 != me) = false ∨ (key / 100 != me) = true ∧ (key % 100 != me) = false) := by
  unfold edOn hv ha at h
  dsimp only at h
  rw [Int.tdiv_eq_ediv_of_nonneg h0, Int.tmod_eq_emod_of_nonneg h0] at h
  by_cases e1 : now < til
  · right; refine ⟨e1, ?_⟩
    rw [decide_eq_true e1, Bool.true_and] at h
    cases e2 : (key / 100 != me)
    · exact .inl rfl
    · right; refine ⟨rfl, ?_⟩
      rw [e2, Bool.true_and] at h; exact h
  · exact .inl e1
theorem ed_on {me now key til val : Int} (h : edOn me now ⟨key, til, val⟩ = true) (h0 : 0 ≤ key) : now < til ∧ (key / 100 != me) = true ∧ (key % 100 != me) = true := by
  unfold edOn hv ha at h
  dsimp only at h
  rw [Int.tdiv_eq_ediv_of_nonneg h0, Int.tmod_eq_emod_of_nonneg h0, Bool.and_eq_true, Bool.and_eq_true, decide_eq_true_eq] at h
  exact h
set_option maxHeartbeats 8000000 in
theorem l11Graph (me : Int) (a : Option Addr) (ls : List Lk.R) (ca : Nat) (b : Option Addr) (ss : List So.R) (cb : Nat) (c : Option Addr) (es : List R) (cc : Nat) (now : Int) (w : World) (hc : graC me ls ss es = 0) (hr : Lk.RM w a ls) (hr' : RM w c es) :
    Calls Try.prog 69 #[.int .i64 me, .slice a ls.length ca, .agg #[.slice b ss.length cb, .slice c es.length cc], .int .i64 now] w fun e w' => ∃ v, e = .returned v ∧ Below w.heap.size w w' ∧ LstV w' v (graph me ls es now) w.heap.size w'.heap.size := by
  obtain ⟨hlb, hme, htop⟩ := gra_zero hc
  have h8 := Ln.links_len hlb
  have h62 := two_len (Tp.top_two htop)
  have HLB := hide hlb
  have HTE := hide (Tp.top_two htop)
  have HT1 := hide (grL_two (now := now) hme hlb)
  have HT2 := hide (grE_two (me := me) (now := now) (unhide HT1 _ (Nat.le_refl _)) (unhide HTE))
  have HGR : Hid (graph me ls es now = grE me now (grL me now ls ls.length) es es.length) := hide rfl
  rw [unhide HGR]
  clear hc hlb htop HGR
  have P0 : Hid (Below w.heap.size w (w.alloc (.cells #[.slice b ss.length cb, .slice c es.length cc] 26))) := hide ((Below.refl _ _).alloc (Nat.le_refl _) _)
  have X0 : Hid (Tp.Bx2 (w.alloc (.cells #[.slice b ss.length cb, .slice c es.length cc] 26)) w.heap.size (.slice b ss.length cb) (.slice c es.length cc)) := hide (Tp.bx2_new w _ _ _)
  have R0 := hide (hr.below (unhide P0))
  have Q0 := hide (hr'.below (unhide P0))
  have E0 : Hid ((w.alloc (.cells #[.slice b ss.length cb, .slice c es.length cc] 26)).heap.size = w.heap.size + 1) := hide (by simp)
  have L0 : Hid (LstV ((w.alloc (.cells #[.slice b ss.length cb, .slice c es.length cc] 26)).alloc (.cells #[] 89)) (.slice (some ⟨w.heap.size + 1, 0, none⟩) 0 0) (grL me now ls 0) (w.alloc (.cells #[.slice b ss.length cb, .slice c es.length cc] 26)).heap.size ((w.alloc (.cells #[.slice b ss.length cb, .slice c es.length cc] 26)).alloc (.cells #[] 89)).heap.size) := hide (by have := lst_own (ms := ([] : List R)) rfl (own_empty (w.alloc (.cells #[.slice b ss.length cb, .slice c es.length cc] 26)) (w.alloc (.cells #[.slice b ss.length cb, .slice c es.length cc] 26)).heap.size (Nat.le_refl _)); rw [unhide E0] at this ⊢; exact this)
  have F0 : Hid (Fm (.slice (some ⟨w.heap.size + 1, 0, none⟩) 0 0) (grL me now ls 0).length) := hide ⟨_, _, rfl⟩
  have P1 : Hid (Below (w.alloc (.cells #[.slice b ss.length cb, .slice c es.length cc] 26)).heap.size (w.alloc (.cells #[.slice b ss.length cb, .slice c es.length cc] 26)) ((w.alloc (.cells #[.slice b ss.length cb, .slice c es.length cc] 26)).alloc (.cells #[] 89))) := hide ((Below.refl _ _).alloc (Nat.le_refl _) _)
  clear hr hr'
  generalize hN : ls.length = N at *
  have HN := hide hN
  clear hN
  generalize hM : es.length = M at *
  have HM := hide hM
  clear hM
  go_enter Try.func69, Try.ntmps69
  go_wp2_with fail
  generalize hW : w.alloc (.cells #[.slice b ss.length cb, .slice c M cc] 26) = W1 at *
  clear hW
  go_loopw [9, 10] (fun v i wr => ∃ j : Nat, j ≤ N ∧ i = .int .i64 j ∧ Hid (LstV wr v (grL me now ls j) W1.heap.size wr.heap.size) ∧ Hid (Fm v (grL me now ls j).length) ∧ Hid (Below W1.heap.size W1 wr)) (fun _ i _ => N - (intOf i).toNat)
  case atStart => exact ⟨0, by omega, rfl, L0, F0, P1⟩
  case round =>
    obtain ⟨j, hj, rfl, hls, hfm, hbl⟩ := hrel
    have hbs := (unhide hbl).size
    by_cases hlt : (j : Int) < (N : Int)
    · have k0 : (0 : Int) ≤ (j : Int) := by omega
      have hlen : j < ls.length := by rw [unhide HN]; omega
      obtain ⟨g, off, rfl⟩ := (unhide R0).form (by omega)
      have hA := ((unhide R0).below (unhide hbl)).at hlen
      have HY : Hid (lkOn me now (ls.getD j Lk.R.zero) = true → grL me now ls (j + 1) = putL (grL me now ls j) (lkT me (ls.getD j Lk.R.zero))) := hide (fun h => grL_yes hlen h)
      have HZ : Hid (lkOn me now (ls.getD j Lk.R.zero) = false → grL me now ls (j + 1) = grL me now ls j) := hide (fun h => grL_no hlen h)
      have had := Ln.ok_ad (Ri.all_ok (unhide HLB) hlen)
      have HTJ := hide (unhide HT1 j (by omega))
      generalize ls.getD j Lk.R.zero = m at *
      obtain ⟨ad, hd, sy, ci, co, wl⟩ := m
      obtain ⟨c0, c1, c2, c3, c4, c5⟩ := hA
      dsimp only at c0 c1 c2 c3 c4 c5 had
      have HX := hide (lk_new wr ad hd sy ci co wl)
      have B1 : Hid (Below wr.heap.size wr (wr.alloc (.cells #[.int .i64 ad, .int .i64 hd, .int .i64 sy, .int .i64 ci, .int .i64 co, .int .i64 wl] 113))) := hide ((Below.refl _ _).alloc (Nat.le_refl _) _)
      have HL1 := hide ((unhide hls).below (unhide B1))
      have HB1 := hide ((unhide hbl).trans ((unhide B1).mono (unhide hbl).size))
      have hs1 := (unhide B1).size
      have KS := hide (Ln.l06Status ad hd sy ci co wl now)
      obtain ⟨st, hst⟩ : ∃ st, Ln.statusV ⟨ad, hd, sy, ci, co, wl⟩ now = st := ⟨_, rfl⟩
      rw [hst] at KS
      have HST := hide hst
      clear hst B1
      go_wp2_with fail
      generalize hW0 : wr.alloc (.cells #[.int .i64 ad, .int .i64 hd, .int .i64 sy, .int .i64 ci, .int .i64 co, .int .i64 wl] 113) = W0 at *
      clear hW0 c0 c1 c2 c3 c4 c5
      refine (unhide KS _).mono ?_
      rintro e w2 ⟨rfl, b2⟩
      have HX2 := hide ((unhide HX).below b2)
      have HL2 := hide ((unhide HL1).below b2)
      have HB2 := hide ((unhide HB1).trans (b2.mono (unhide HB1).size))
      have hs2 : W0.heap.size ≤ w2.heap.size := b2.size
      clear b2 HX HL1 HB1
      obtain ⟨x0, x4⟩ := (sLk (unhide HX2)).2
      cases hon : lkOn me now ⟨ad, hd, sy, ci, co, wl⟩
      · have E1 := unhide HZ hon
        have HL3 : Hid (LstV w2 u9 (grL me now ls (j + 1)) W1.heap.size w2.heap.size) := hide (by rw [E1]; exact (unhide HL2).mono (Nat.le_refl _) (by omega))
        have HF3 : Hid (Fm u9 (grL me now ls (j + 1)).length) := hide (by rw [E1]; exact unhide hfm)
        have hcs := lk_off (unhide HST) hon
        clear E1 HY HZ hon
        rcases hcs with q1 | ⟨q1, q2 | ⟨q2, q3⟩⟩
        all_goals
          go_wp2_with fail
          go_roundw
          case rel => exact ⟨j + 1, by omega, by go_num, HL3, HF3, HB2⟩
          case measure => simp [intOf]; omega
      · have HE1 := hide (unhide HY hon)
        obtain ⟨q1, q2, q3⟩ := lk_on (unhide HST) hon
        clear HY HZ hon
        have hl1 := two_len (unhide HTJ)
        obtain ⟨L, hL⟩ : ∃ L, grL me now ls j = L := ⟨_, rfl⟩
        rw [hL] at HE1 HTJ HL2 hfm hl1
        clear hL hls
        obtain ⟨gv, cv, ev⟩ := unhide hfm
        subst ev
        have HRL : Hid (RM w2 (some ⟨gv, 0, none⟩) L) := hide (fm_lt (unhide HL2))
        have HNE := hide (put_ne L (lkT me ⟨ad, hd, sy, ci, co, wl⟩))
        go_wp2_with fail
        clear x0 x4
        refine wp_region_noPanic ?_
        refine wp_region_held_drew (S := fun w' => Lk.At w' wr.heap.size 0 ⟨ad, hd, sy, ci, co, wl⟩ ∧ w'.cell? ⟨wr.heap.size, 0, none⟩ = some (.int .i64 ad) ∧ w'.cell? ⟨wr.heap.size, 4, none⟩ = some (.int .i64 co)) (by kernel_rfl) (sLk (lk_drew (unhide HX2))) (fun hHeld => ?_)
        (refine Rg.tk (i := 0) (d := 41) (v := ?_) rfl rfl (by kernel_rfl) (by kernel_rfl) (by kernel_rfl) (fun _ _ _ h => h) (by rfl) ?_ (by assumption) ?_; rotate_left; (focus (intro w0 hSw; (try dsimp only at hSw); go_simp; (try with_reducible rfl))); (try simp only [Act.put, List.setIfInBounds_toArray, List.set_cons_zero, List.set_cons_succ]))
        (refine Rg.tk (i := 1) (d := 42) (v := ?_) rfl rfl (by kernel_rfl) (by kernel_rfl) (by kernel_rfl) (fun _ _ _ h => h) (by rfl) ?_ (by assumption) ?_; rotate_left; (focus (intro w0 hSw; (try dsimp only at hSw); go_simp; (try with_reducible rfl))); (try simp only [Act.put, List.setIfInBounds_toArray, List.set_cons_zero, List.set_cons_succ]))
        (refine Rg.tk (i := 2) (d := 43) (v := ?_) rfl rfl (by kernel_rfl) (by kernel_rfl) (by kernel_rfl) (fun _ _ _ h => h) (by rfl) ?_ (by assumption) ?_; rotate_left; (focus (intro w0 hSw; (try dsimp only at hSw); go_simp; (try with_reducible rfl))); (try simp only [Act.put, List.setIfInBounds_toArray, List.set_cons_zero, List.set_cons_succ]))
        (refine Rg.tk (i := 3) (d := 44) (v := ?_) rfl rfl (by kernel_rfl) (by kernel_rfl) (by kernel_rfl) (fun _ _ _ h => h) (by rfl) ?_ (by assumption) ?_; rotate_left; (focus (intro w0 hSw; (try dsimp only at hSw); go_simp; (try with_reducible rfl))); (try simp only [Act.put, List.setIfInBounds_toArray, List.set_cons_zero, List.set_cons_succ]))
        (refine Rg.tk (i := 5) (d := 46) (v := ?_) rfl rfl (by kernel_rfl) (by kernel_rfl) (by kernel_rfl) (fun _ _ _ h => h) (by rfl) ?_ (by assumption) ?_; rotate_left; (focus (intro w0 hSw; (try dsimp only at hSw); go_simp; (try with_reducible rfl))); (try simp only [Act.put, List.setIfInBounds_toArray, List.set_cons_zero, List.set_cons_succ]))
        (refine Rg.tk (i := 6) (d := 47) (v := ?_) rfl rfl (by kernel_rfl) (by kernel_rfl) (by kernel_rfl) (fun _ _ _ h => h) (by rfl) ?_ (by assumption) ?_; rotate_left; (focus (intro w0 hSw; (try dsimp only at hSw); go_simp; (try with_reducible rfl))); (try simp only [Act.put, List.setIfInBounds_toArray, List.set_cons_zero, List.set_cons_succ]))
        (refine wpAnyH_ready (rs := [4]) (by kernel_rfl) (by simp) ?_; refine AllReadyH.cons (o := _) rfl (fun K hK => ?_) AllReadyH.nil; go_simp)
        refine (l07KeyG me ad _ (by omega) (by omega) (by omega) (by omega)).mono ?_
        rintro e w3 ⟨rfl, hw3⟩
        have b3 : Below w2.heap.size w2 w3 := by rw [hw3]; exact (Below.refl _ _).drew
        have HX3 := hide ((unhide HX2).below b3)
        have HR3 := hide ((unhide HRL).below b3)
        have HB3 := hide ((unhide HB2).trans (b3.mono (unhide HB2).size))
        clear b3 hw3 hHeld
        refine hK.out _ _ (sLk (unhide HX3)) (fun hHeld => ?_)
        clear hK K
        (try simp only [Act.put, List.setIfInBounds_toArray, List.set_cons_zero, List.set_cons_succ])
        (refine Rg.tk (i := 7) (d := 48) (v := ?_) rfl rfl (by kernel_rfl) (by kernel_rfl) (by kernel_rfl) (fun _ _ _ h => h) (by rfl) ?_ (by assumption) ?_; rotate_left; (focus (intro w0 hSw; (try dsimp only at hSw); go_simp; (try with_reducible rfl))); (try simp only [Act.put, List.setIfInBounds_toArray, List.set_cons_zero, List.set_cons_succ]))
        (refine wpAnyH_ready (rs := [8]) (by kernel_rfl) (by simp) ?_; refine AllReadyH.cons (o := _) rfl (fun K hK => ?_) AllReadyH.nil; go_simp)
        refine (l03PutC gv 0 L cv (100 * me + ad) 0 co _ (by omega) (unhide HR3)).mono ?_
        rintro e w4 ⟨v4, rfl, b4, hl4, hs4⟩
        have HX4 := hide ((unhide HX3).below b4)
        have HB4 := hide ((unhide HB3).trans (b4.mono (unhide HB3).size))
        have HL4 : Hid (LstV w4 v4 (grL me now ls (j + 1)) W1.heap.size w4.heap.size) := hide (by rw [unhide HE1]; exact hl4.mono (unhide HB3).size (Nat.le_refl _))
        have HF4 : Hid (Fm v4 (grL me now ls (j + 1)).length) := hide (fm_lst (unhide HL4) (by rw [unhide HE1]; exact unhide HNE))
        clear b4 hl4 hs4 hHeld
        generalize putC L ⟨100 * me + ad, 0, co⟩ = pc
        refine hK.out _ _ (sLk (unhide HX4)) (fun hHeld => ?_)
        clear hK K
        (try simp only [Act.put, List.setIfInBounds_toArray, List.set_cons_zero, List.set_cons_succ])
        (refine Rg.tk (i := 9) (d := 40) (v := ?_) rfl rfl (by kernel_rfl) (by kernel_rfl) (by kernel_rfl) (fun _ _ _ h => h) (by rfl) ?_ (by assumption) ?_; rotate_left; (focus (intro w0 hSw; (try dsimp only at hSw); go_simp; (try with_reducible rfl))); (try simp only [Act.put, List.setIfInBounds_toArray, List.set_cons_zero, List.set_cons_succ]))
        (refine Rg.tk (i := 10) (d := 50) (v := ?_) rfl rfl (by kernel_rfl) (by kernel_rfl) (by kernel_rfl) (fun _ _ _ h => h) (by rfl) ?_ (by assumption) ?_; rotate_left; (focus (intro w0 hSw; (try dsimp only at hSw); go_simp; (try with_reducible rfl))); (try simp only [Act.put, List.setIfInBounds_toArray, List.set_cons_zero, List.set_cons_succ]))
        (refine Rg.tk (i := 11) (d := 51) (v := ?_) rfl rfl (by kernel_rfl) (by kernel_rfl) (by kernel_rfl) (fun _ _ _ h => h) (by rfl) ?_ (by assumption) ?_; rotate_left; (focus (intro w0 hSw; (try dsimp only at hSw); go_simp; (try with_reducible rfl))); (try simp only [Act.put, List.setIfInBounds_toArray, List.set_cons_zero, List.set_cons_succ]))
        (refine Rg.tk (i := 12) (d := 9) (v := ?_) rfl rfl (by kernel_rfl) (by kernel_rfl) (by kernel_rfl) (fun _ _ _ h => h) (by rfl) ?_ (by assumption) ?_; rotate_left; (focus (intro w0 hSw; (try dsimp only at hSw); go_simp; (try with_reducible rfl))); (try simp only [Act.put, List.setIfInBounds_toArray, List.set_cons_zero, List.set_cons_succ]))
        refine wpAnyH_done (by kernel_rfl) (NoPanic.normal ?_) _
        clear hHeld
        go_wp2_with fail
        go_roundw
        case rel => exact ⟨j + 1, by omega, by go_num, HL4, HF4, HB4⟩
        case measure => simp [intOf]; omega
    · obtain rfl : j = N := by omega
      have L1 : Hid (LstV wr u9 (grE me now (grL me now ls j) es 0) W1.heap.size wr.heap.size) := hls
      have F1 : Hid (Fm u9 (grE me now (grL me now ls j) es 0).length) := hfm
      clear hls hfm
      obtain ⟨z0, z1⟩ := (unhide X0).below (unhide hbl)
      go_wp2_with fail
      clear z0 z1
      go_loopw [9, 12] (fun v i wr => ∃ k : Nat, k ≤ M ∧ i = .int .i64 k ∧ Hid (LstV wr v (grE me now (grL me now ls j) es k) W1.heap.size wr.heap.size) ∧ Hid (Fm v (grE me now (grL me now ls j) es k).length) ∧ Hid (Below W1.heap.size W1 wr)) (fun _ i _ => M - (intOf i).toNat)
      case atStart => exact ⟨0, by omega, rfl, L1, F1, hbl⟩
      case round =>
        obtain ⟨k, hk, rfl, hls, hfm, hbl⟩ := hrel
        have hbs := (unhide hbl).size
        obtain ⟨z0, z1⟩ := (unhide X0).below (unhide hbl)
        by_cases hlt2 : (k : Int) < (M : Int)
        · have k0 : (0 : Int) ≤ (k : Int) := by omega
          have hlen : k < es.length := by rw [unhide HM]; omega
          obtain ⟨g, off, rfl⟩ := (unhide Q0).form (by omega)
          have hA := ((unhide Q0).below (unhide hbl)).at hlen
          have HY : Hid (edOn me now (es.getD k R.zero) = true → grE me now (grL me now ls j) es (k + 1) = putL (grE me now (grL me now ls j) es k) (edT (es.getD k R.zero))) := hide (fun h => grE_yes hlen h)
          have HZ : Hid (edOn me now (es.getD k R.zero) = false → grE me now (grL me now ls j) es (k + 1) = grE me now (grL me now ls j) es k) := hide (fun h => grE_no hlen h)
          have hbd := ok_bounds (setB_ok (two_set (unhide HTE)) hlen)
          have HTJ := hide (unhide HT2 k (by omega))
          generalize es.getD k R.zero = m at *
          obtain ⟨key, til, val⟩ := m
          obtain ⟨c0, c1, c2⟩ := hA
          dsimp only at c0 c1 c2 hbd
          obtain ⟨hb0, hb1, _⟩ := hbd
          have B1 : Hid (Below wr.heap.size wr (wr.alloc (.cells #[.int .i64 key, .int .i64 til, .int .i64 val] 89))) := hide ((Below.refl _ _).alloc (Nat.le_refl _) _)
          have HL1 := hide ((unhide hls).below (unhide B1))
          have HB1 := hide ((unhide hbl).trans ((unhide B1).mono (unhide hbl).size))
          have hs1 := (unhide B1).size
          clear B1
          cases hon : edOn me now ⟨key, til, val⟩
          · have E1 := unhide HZ hon
            have HL3 : Hid (LstV (wr.alloc (.cells #[.int .i64 key, .int .i64 til, .int .i64 val] 89)) u9 (grE me now (grL me now ls j) es (k + 1)) W1.heap.size (wr.alloc (.cells #[.int .i64 key, .int .i64 til, .int .i64 val] 89)).heap.size) := hide (by rw [E1]; exact (unhide HL1).mono (Nat.le_refl _) (by omega))
            have HF3 : Hid (Fm u9 (grE me now (grL me now ls j) es (k + 1)).length) := hide (by rw [E1]; exact unhide hfm)
            have hcs := ed_off hon hb0
            clear E1 HY HZ hon
            rcases hcs with q1 | ⟨q1, q2 | ⟨q2, q3⟩⟩
            all_goals
              go_wp2_with fail
              go_roundw
              case rel => exact ⟨k + 1, by omega, by go_num, HL3, HF3, HB1⟩
              case measure => simp [intOf]; omega
          · have HE1 := hide (unhide HY hon)
            obtain ⟨q1, q2, q3⟩ := ed_on hon hb0
            clear HY HZ hon
            have hl1 := two_len (unhide HTJ)
            obtain ⟨L, hL⟩ : ∃ L, grE me now (grL me now ls j) es k = L := ⟨_, rfl⟩
            rw [hL] at HE1 HTJ HL1 hfm hl1
            clear hL hls
            obtain ⟨gv, cv, ev⟩ := unhide hfm
            subst ev
            have HRL : Hid (RM (wr.alloc (.cells #[.int .i64 key, .int .i64 til, .int .i64 val] 89)) (some ⟨gv, 0, none⟩) L) := hide (fm_lt (unhide HL1))
            have HNE := hide (put_ne L (edT ⟨key, til, val⟩))
            go_wp2_with fail
            generalize hW0 : wr.alloc (.cells #[.int .i64 key, .int .i64 til, .int .i64 val] 89) = W0 at *
            clear hW0 c0 c1 c2 z0 z1
            refine (l03PutC gv 0 L cv key 0 val _ (by omega) (unhide HRL)).mono ?_
            rintro e w4 ⟨v4, rfl, b4, hl4, hs4⟩
            have HB4 := hide ((unhide HB1).trans (b4.mono (unhide HB1).size))
            have HL4 : Hid (LstV w4 v4 (grE me now (grL me now ls j) es (k + 1)) W1.heap.size w4.heap.size) := hide (by rw [unhide HE1]; exact hl4.mono (unhide HB1).size (Nat.le_refl _))
            have HF4 : Hid (Fm v4 (grE me now (grL me now ls j) es (k + 1)).length) := hide (fm_lst (unhide HL4) (by rw [unhide HE1]; exact unhide HNE))
            clear b4 hl4 hs4
            generalize putC L ⟨key, 0, val⟩ = pc
            go_wp2_with fail
            go_roundw
            case rel => exact ⟨k + 1, by omega, by go_num, HL4, HF4, HB4⟩
            case measure => simp [intOf]; omega
        · obtain rfl : k = M := by omega
          have HBw := hide ((unhide P0).trans ((unhide hbl).mono (unhide P0).size))
          have HL := hide ((unhide hls).mono (lo' := w.heap.size) (unhide P0).size (Nat.le_refl _))
          go_wp2_with fail
          go_ret
          exact ⟨_, rfl, unhide HBw, unhide HL⟩
theorem lstV_nil (W : World) (a : Option Addr) (c lo hi : Nat) : LstV W (.slice a 0 c) [] lo hi := ⟨a, c, rfl, .inl rfl⟩
set_option maxHeartbeats 8000000 in
theorem specGraph (me : Int) (a : Option Addr) (ls : List Lk.R) (ca : Nat) (b : Option Addr) (ss : List So.R) (cb : Nat) (c : Option Addr) (es : List R) (cc : Nat) (now : Int) (w : World) (hm : ls.length ≤ 1048576) (hs : ss.length ≤ 1048576) (hl : es.length ≤ 1048576) (hr : Lk.RM w a ls) (hr1 : So.RM w b ss) (hr' : RM w c es) :
    Calls Try.prog 20 #[.int .i64 me, .slice a ls.length ca, .agg #[.slice b ss.length cb, .slice c es.length cc], .int .i64 now] w fun e w' => ∃ v, e = .returned (.tuple #[v, .int .i64 (graC me ls ss es)]) ∧ Below w.heap.size w w' ∧ LstV w' v (graA me ls ss es now) w.heap.size w'.heap.size := by
  have HB : Hid (Below w.heap.size w (w.alloc (.cells #[.slice b ss.length cb, .slice c es.length cc] 26))) := hide ((Below.refl _ _).alloc (Nat.le_refl _) _)
  have HX : Hid (Tp.Bx2 (w.alloc (.cells #[.slice b ss.length cb, .slice c es.length cc] 26)) w.heap.size (.slice b ss.length cb) (.slice c es.length cc)) := hide (Tp.bx2_new w _ _ _)
  have HR := hide hr
  have HS := hide hr1
  have HE := hide hr'
  clear hr hr1 hr'
  by_cases hbig : (4096 : Int) < ls.length
  · have hc := gra_long (me := me) (ss := ss) (es := es) (ls := ls) (by omega)
    rw [gra_none (by rw [hc]; omega), hc]
    clear hc
    go_enter Try.func20, Try.ntmps20
    go_wp2_with fail
    go_ret2
    exact ⟨_, rfl, (unhide HB).alloc (unhide HB).size _, lstV_nil _ _ _ _ _⟩
  obtain ⟨W0, hW0⟩ : ∃ W0, w.alloc (.cells #[.slice b ss.length cb, .slice c es.length cc] 26) = W0 := ⟨_, rfl⟩
  rw [hW0] at HB HX
  have HW0 := hide hW0
  clear hW0
  cases e1 : Ln.linksB ls
  · have hc := gra_bad (me := me) (ss := ss) (es := es) (by omega) (.inl e1)
    rw [gra_none (by rw [hc]; omega), hc]
    have HLB := hide e1
    clear hc e1
    go_enter Try.func20, Try.ntmps20
    go_wp2_with fail
    rw [unhide HW0]
    refine (Ln.specOK a ls ca _ hm ((unhide HR).below (unhide HB))).mono ?_
    rintro e w1 ⟨rfl, b1⟩
    rw [unhide HLB]
    have HB1 := hide ((unhide HB).trans (b1.mono (unhide HB).size))
    have HX1 := hide ((unhide HX).below b1)
    clear b1
    go_wp2_with fail
    go_ret2
    exact ⟨_, rfl, (unhide HB1).alloc (unhide HB1).size _, lstV_nil _ _ _ _ _⟩
  cases e2 : Tp.topB ss es
  · have hc := gra_bad (me := me) (ls := ls) (by omega) (.inr (.inr e2))
    rw [gra_none (by rw [hc]; omega), hc]
    have HLB := hide e1
    have HTB := hide e2
    clear hc e1 e2
    go_enter Try.func20, Try.ntmps20
    go_wp2_with fail
    rw [unhide HW0]
    refine (Ln.specOK a ls ca _ hm ((unhide HR).below (unhide HB))).mono ?_
    rintro e w1 ⟨rfl, b1⟩
    rw [unhide HLB]
    have HB1 := hide ((unhide HB).trans (b1.mono (unhide HB).size))
    have HX1 := hide ((unhide HX).below b1)
    clear b1
    obtain ⟨z0, z1⟩ := unhide HX1
    go_wp2_with fail
    clear z0 z1
    refine (Tp.specOK b ss cb c es cc _ hs hl ((unhide HS).below (unhide HB1)) ((unhide HE).below (unhide HB1))).mono ?_
    rintro e w2 ⟨rfl, b2⟩
    rw [unhide HTB]
    have HB2 := hide ((unhide HB1).trans (b2.mono (unhide HB1).size))
    have HX2 := hide ((unhide HX1).below b2)
    clear b2
    go_wp2_with fail
    go_ret2
    exact ⟨_, rfl, (unhide HB2).alloc (unhide HB2).size _, lstV_nil _ _ _ _ _⟩
  have KA := hide (fun W => l01Addr me W)
  cases e3 : inB me 1 8
  · have hc := gra_bad (ls := ls) (ss := ss) (es := es) (by omega) (.inr (.inl e3))
    rw [gra_none (by rw [hc]; omega), hc]
    have HLB := hide e1
    have HTB := hide e2
    rw [e3] at KA
    clear hc e1 e2 e3
    go_enter Try.func20, Try.ntmps20
    go_wp2_with fail
    rw [unhide HW0]
    refine (Ln.specOK a ls ca _ hm ((unhide HR).below (unhide HB))).mono ?_
    rintro e w1 ⟨rfl, b1⟩
    rw [unhide HLB]
    have HB1 := hide ((unhide HB).trans (b1.mono (unhide HB).size))
    have HX1 := hide ((unhide HX).below b1)
    clear b1
    obtain ⟨z0, z1⟩ := unhide HX1
    go_wp2_with fail
    clear z0 z1
    refine (Tp.specOK b ss cb c es cc _ hs hl ((unhide HS).below (unhide HB1)) ((unhide HE).below (unhide HB1))).mono ?_
    rintro e w2 ⟨rfl, b2⟩
    rw [unhide HTB]
    have HB2 := hide ((unhide HB1).trans (b2.mono (unhide HB1).size))
    have HX2 := hide ((unhide HX1).below b2)
    clear b2
    go_wp2_with fail
    refine (unhide KA _).mono ?_
    rintro e w3 ⟨rfl, rfl⟩
    go_wp2_with fail
    go_ret2
    exact ⟨_, rfl, (unhide HB2).alloc (unhide HB2).size _, lstV_nil _ _ _ _ _⟩
  have hc := gra_ok e1 e3 e2
  rw [gra_yes hc, hc]
  have HLB := hide e1
  have HTB := hide e2
  have HCC := hide hc
  rw [e3] at KA
  clear hc e1 e2 e3
  go_enter Try.func20, Try.ntmps20
  go_wp2_with fail
  rw [unhide HW0]
  refine (Ln.specOK a ls ca _ hm ((unhide HR).below (unhide HB))).mono ?_
  rintro e w1 ⟨rfl, b1⟩
  rw [unhide HLB]
  have HB1 := hide ((unhide HB).trans (b1.mono (unhide HB).size))
  have HX1 := hide ((unhide HX).below b1)
  clear b1
  obtain ⟨z0, z1⟩ := unhide HX1
  go_wp2_with fail
  clear z0 z1
  refine (Tp.specOK b ss cb c es cc _ hs hl ((unhide HS).below (unhide HB1)) ((unhide HE).below (unhide HB1))).mono ?_
  rintro e w2 ⟨rfl, b2⟩
  rw [unhide HTB]
  have HB2 := hide ((unhide HB1).trans (b2.mono (unhide HB1).size))
  have HX2 := hide ((unhide HX1).below b2)
  clear b2
  go_wp2_with fail
  refine (unhide KA _).mono ?_
  rintro e w3 ⟨rfl, rfl⟩
  obtain ⟨z0, z1⟩ := unhide HX2
  go_wp2_with fail
  clear z0 z1
  refine (l11Graph me a ls ca b ss cb c es cc now _ (unhide HCC) ((unhide HR).below (unhide HB2)) ((unhide HE).below (unhide HB2))).mono ?_
  rintro e w4 ⟨v4, rfl, b4, l4⟩
  have HB4 := hide ((unhide HB2).trans (b4.mono (unhide HB2).size))
  have HL4 := hide (l4.mono (lo' := w.heap.size) (unhide HB2).size (Nat.le_refl _))
  clear b4 l4
  go_wp2_with fail
  go_ret2
  exact ⟨_, rfl, unhide HB4, unhide HL4⟩
end Gr
end Go.Proofs.Ytmlokaielemhaaa
