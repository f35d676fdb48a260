/-
  The model's contracts over links: a list of one's own, a link put. (written by mklnkh.py)
-/
import Derived.Test.YtmelbilepfnmjamLnkP
import Derived.Deep.QuietTactic
import Derived.BigQuiet
namespace Go.Proofs.Ytmelbilepfnmjam
open Go.ChangeShapes Go.WideShapes Go.ChangeAt Go.RowKit
set_option linter.unusedVariables false
set_option linter.unusedSimpArgs false
attribute [local go_sem ↓] Go.wp_at_zero Go.wp_at_succ
namespace Ln
open W1 Lk Mp
theorem below_drewN {B : Nat} {w w' : World} (h : Below B w w') (q : Nat) : Below B w (w'.drewN q) := ⟨h.os, h.tape, h.output, h.size, h.block⟩
theorem Bx.of_below {w w' : World} {B b : Nat} {m : R} (h : Bx w b m) (hb : Below B w w') (hg : b < B) : Bx w' b m := by
  obtain ⟨h0, h1, h2, h3, h4, h5⟩ := h
  refine ⟨?_, ?_, ?_, ?_, ?_, ?_⟩ <;> (rw [hb.cell hg]; assumption)
theorem l06Own (g off : Nat) (ms : List R) (cap n : Nat) (w : World) (hn : ms.length = n) (hm : ms.length ≤ 4096) (hr : RM w (some ⟨g, off, none⟩) ms) :
    Calls Try.prog 44 #[.slice (some ⟨g, off, none⟩) n cap] w fun e w' => ∃ v, e = .returned v ∧ Below w.heap.size w w' ∧ LstV w' v ms w.heap.size w'.heap.size := by
  have HR := hide (hr.below ((Below.refl _ _).alloc (Nat.le_refl _) (.cells #[] 32)))
  have O0 := hide (own_empty w w.heap.size (Nat.le_refl _))
  clear hr
  go_enter Try.func44, Try.ntmps44
  go_wp2_with (at_builtin; refine wpList_apS (unhide O0) g off n cap ms hn (unhide HR) (by simp; omega) (by simp) rfl _ _ rfl rfl rfl ?_; intro v' w' ho hg; have HL := hide (lst_own rfl ho); have HB := hide (below_own ((Below.refl _ _).alloc (Nat.le_refl _) _) (unhide O0) hg (Nat.le_refl _) (by simp)); clear ho hg)
  go_ret
  exact ⟨_, rfl, unhide HB, unhide HL⟩
theorem copied (g off : Nat) (ms : List R) (cap n : Nat) (w : World) (hn : ms.length = n) (hm : ms.length ≤ 4096) (hr : RM w (some ⟨g, off, none⟩) ms) :
    Calls Try.prog 49 #[.slice (some ⟨g, off, none⟩) n cap] w fun e w' => ∃ v, e = .returned v ∧ Below w.heap.size w w' ∧ LstV w' v ms w.heap.size w'.heap.size := by
  have HR := hide hr
  have O0 := hide (own_nil w w.heap.size)
  clear hr
  go_enter Try.func49, Try.ntmps49
  go_wp2_with (at_builtin; refine wpList_apS (unhide O0) g off n cap ms hn (unhide HR) (by simp; omega) (by simp) rfl _ _ rfl rfl rfl ?_; intro v' w' ho hg; have HL := hide (lst_own rfl ho); have HB := hide (below_own (Below.refl _ _) (unhide O0) hg (Nat.le_refl _) (Nat.le_refl _)); clear ho hg)
  go_ret
  exact ⟨_, rfl, unhide HB, unhide HL⟩
set_option maxRecDepth 100000 in
set_option maxHeartbeats 4000000 in
theorem l06Put (a : Option Addr) (ms : List R) (cap : Nat) (ad hd sy ci co wl : Int) (w : World) (hok : linksB ms = true) (hr : RM w a ms) :
    Calls Try.prog 65 #[.slice a ms.length cap, .agg #[.int .i64 ad, .int .i64 hd, .int .i64 sy, .int .i64 ci, .int .i64 co, .int .i64 wl]] w fun e w' => ∃ v, e = .returned v ∧ Below w.heap.size w w' ∧ LstV w' v (putL ms ⟨ad, hd, sy, ci, co, wl⟩) w.heap.size w'.heap.size := by
  have h8 := links_len hok
  have HU := hide (up_of hok)
  clear hok
  have HA : Hid (Below w.heap.size w ((w.alloc (.cells #[.int .i64 ad, .int .i64 hd, .int .i64 sy, .int .i64 ci, .int .i64 co, .int .i64 wl] 32)).alloc (.cells #[] 32))) := hide (((Below.refl _ _).alloc (Nat.le_refl _) _).alloc (by simp) _)
  have HX : Hid (Bx ((w.alloc (.cells #[.int .i64 ad, .int .i64 hd, .int .i64 sy, .int .i64 ci, .int .i64 co, .int .i64 wl] 32)).alloc (.cells #[] 32)) w.heap.size ⟨ad, hd, sy, ci, co, wl⟩) := hide ((bx_new w ⟨ad, hd, sy, ci, co, wl⟩ 32).below ((Below.refl _ _).alloc (Nat.le_refl _) _))
  have O0 : Hid (((w.alloc (.cells #[.int .i64 ad, .int .i64 hd, .int .i64 sy, .int .i64 ci, .int .i64 co, .int .i64 wl] 32)).alloc (.cells #[] 32)).ownsRow (w.heap.size + 1) 32 6 (.slice (some ⟨w.heap.size + 1, 0, none⟩) 0 0) ([] : List R).length (flat [])) := hide (by have := own_empty (w.alloc (.cells #[.int .i64 ad, .int .i64 hd, .int .i64 sy, .int .i64 ci, .int .i64 co, .int .i64 wl] 32)) (w.heap.size + 1) (by simp); simpa using this)
  have HR := hide hr
  clear hr
  generalize hN : ms.length = n at *
  have HN := hide hN
  clear hN
  go_enter Try.func65, Try.ntmps65
  go_wp2_with fail
  generalize hW : (w.alloc (.cells #[.int .i64 ad, .int .i64 hd, .int .i64 sy, .int .i64 ci, .int .i64 co, .int .i64 wl] 32)).alloc (.cells #[] 32) = W0 at *
  have hsz0 : w.heap.size + 2 ≤ W0.heap.size := by rw [← hW]; simp
  clear hW
  go_loopw [5, 6, 7] (fun v d i wr => ∃ j : Nat, j ≤ n ∧ i = .int .i64 j ∧ d = .bool (putD ms ⟨ad, hd, sy, ci, co, wl⟩ j) ∧ Hid (wr.ownsRow (w.heap.size + 1) 32 6 v (putN ms ⟨ad, hd, sy, ci, co, wl⟩ j).length (flat (putN ms ⟨ad, hd, sy, ci, co, wl⟩ j))) ∧ Hid (Below (w.heap.size + 1) W0 wr)) (fun _ _ i _ => n - (intOf i).toNat)
  case atStart => exact ⟨0, by omega, rfl, rfl, O0, hide (Below.refl _ _)⟩
  case round =>
    obtain ⟨j, hj, rfl, rfl, how, hbl⟩ := hrel
    have hbs := (unhide hbl).size
    have hbs1 : w.heap.size + 1 ≤ wr.heap.size := by omega
    have HOWN : Hid (∀ q, (wr.drewN q).ownsRow (w.heap.size + 1) 32 6 u5 (putN ms ⟨ad, hd, sy, ci, co, wl⟩ j).length (flat (putN ms ⟨ad, hd, sy, ci, co, wl⟩ j))) := hide (fun q => unhide how)
    have HBLN : Hid (∀ q, Below (w.heap.size + 1) W0 (wr.drewN q)) := hide (fun q => below_drewN (unhide hbl) q)
    have HBW : Hid (Below w.heap.size w wr) := hide ((unhide HA).trans ((unhide hbl).mono (by omega)))
    have hfl := putN_len ms ⟨ad, hd, sy, ci, co, wl⟩ j
    obtain ⟨x0, x1, x2, x3, x4, x5⟩ := (unhide HX).of_below (unhide hbl) (by omega)
    dsimp only at x0 x1 x2 x3 x4 x5
    by_cases hlt : (j : Int) < (n : Int)
    · have k0 : (0 : Int) ≤ (j : Int) := by omega
      have hlen : j < ms.length := by rw [unhide HN]; omega
      obtain ⟨g, off, rfl⟩ := (unhide HR).form (by omega)
      have HAT0 : Hid (∀ m, ms.getD j R.zero = m → ∀ w1, Below w.heap.size w w1 → At w1 g (off + j * 6) m) := hide (fun m e w1 b => e ▸ ((unhide HR).below b).at hlen)
      rcases Int.lt_trichotomy (ms.getD j R.zero).ad ad with hk | hk | hk
      · obtain ⟨p0, p1, p2⟩ := put_lt (unhide HU) (x := ⟨ad, hd, sy, ci, co, wl⟩) hlen hk
        rw [p0]
        have HD := hide p1
        have HTF := hide p2
        clear p0 p1 p2 hlen
        have HAT := hide (unhide HAT0 (ms.getD j R.zero) rfl)
        generalize ms.getD j R.zero = m at *
        obtain ⟨c0, c1, c2, c3, c4, c5⟩ := unhide HAT wr (unhide HBW)
        have hng : ¬ ad ≤ m.ad := by omega
        have hne : (m.ad != ad) = true := by rw [bne_iff_ne]; omega
        go_wp2_with fail
        go_quiet (fail)
        go_wp2_with fail
        go_quiet (fail)
        go_wp2_with (at_builtin; refine wpList_apS ((unhide HOWN _).alloc _) wr.heap.size 0 1 1 [m] rfl (rm_new (wr.drewN _) m) (by simp only [List.length_cons, List.length_nil]; omega) (by simp; omega) rfl _ _ rfl rfl rfl ?_; intro v' w' ho hg; have HO : Hid (w'.ownsRow (w.heap.size + 1) 32 6 v' (putN ms ⟨ad, hd, sy, ci, co, wl⟩ (j + 1)).length (flat (putN ms ⟨ad, hd, sy, ci, co, wl⟩ (j + 1)))) := hide (by rw [unhide HTF]; exact ho); have HB := hide (below_own ((unhide HBLN _).alloc (by (try simp); omega) _) ((unhide HOWN _).alloc _) hg (Nat.le_refl _) (by simp; omega)); clear ho hg)
        go_roundw
        case rel => exact ⟨j + 1, by omega, by go_num, by rw [unhide HD], HO, HB⟩
        case measure => simp [intOf]; omega
      · obtain ⟨p0, p1, p2⟩ := put_eq (unhide HU) (x := ⟨ad, hd, sy, ci, co, wl⟩) hlen hk
        rw [p0]
        have HD := hide p1
        have HTF := hide p2
        clear p0 p1 p2 hlen
        have HAT := hide (unhide HAT0 (ms.getD j R.zero) rfl)
        generalize ms.getD j R.zero = m at *
        obtain ⟨c0, c1, c2, c3, c4, c5⟩ := unhide HAT wr (unhide HBW)
        have hng : ad ≤ m.ad := by omega
        have hne : (m.ad != ad) = false := by rw [bne_eq_false_iff_eq]; omega
        clear hk
        go_wp2_with fail
        go_quiet (fail)
        go_wp2_with (at_builtin; refine wpList_apS ((unhide HOWN _).alloc _) wr.heap.size 0 1 1 [⟨ad, hd, sy, ci, co, wl⟩] rfl (rm_new (wr.drewN _) ⟨ad, hd, sy, ci, co, wl⟩) (by simp only [List.length_cons, List.length_nil]; omega) (by simp; omega) rfl _ _ rfl rfl rfl ?_; intro v' w' ho hg; have HO : Hid (w'.ownsRow (w.heap.size + 1) 32 6 v' (putN ms ⟨ad, hd, sy, ci, co, wl⟩ (j + 1)).length (flat (putN ms ⟨ad, hd, sy, ci, co, wl⟩ (j + 1)))) := hide (by rw [unhide HTF]; exact ho); have HB := hide (below_own ((unhide HBLN _).alloc (by (try simp); omega) _) ((unhide HOWN _).alloc _) hg (Nat.le_refl _) (by simp; omega)); clear ho hg)
        have HB1 : Hid (Below w.heap.size w w') := hide ((unhide HA).trans ((unhide HB).mono (by omega)))
        obtain ⟨d0, d1, d2, d3, d4, d5⟩ := unhide HAT w' (unhide HB1)
        obtain ⟨y0, y1, y2, y3, y4, y5⟩ := (unhide HX).of_below (unhide HB) (by omega)
        dsimp only at y0 y1 y2 y3 y4 y5
        have HBN : Hid (∀ q, Below (w.heap.size + 1) W0 (w'.drewN q)) := hide (fun q => below_drewN (unhide HB) q)
        have HON : Hid (∀ q, (w'.drewN q).ownsRow (w.heap.size + 1) 32 6 v' (putN ms ⟨ad, hd, sy, ci, co, wl⟩ (j + 1)).length (flat (putN ms ⟨ad, hd, sy, ci, co, wl⟩ (j + 1)))) := hide (fun q => unhide HO)
        go_quiet (fail)
        go_wp2_with fail
        go_roundw
        case rel => exact ⟨j + 1, by omega, by go_num, by rw [unhide HD], unhide HON _, unhide HBN _⟩
        case measure => simp [intOf]; omega
      · cases hpd : putD ms ⟨ad, hd, sy, ci, co, wl⟩ j
        · obtain ⟨p1, p2⟩ := put_gt (x := ⟨ad, hd, sy, ci, co, wl⟩) hlen hk hpd
          have HD := hide p1
          have HTF := hide p2
          clear p1 p2 hlen hpd
          have HAT := hide (unhide HAT0 (ms.getD j R.zero) rfl)
          generalize ms.getD j R.zero = m at *
          obtain ⟨c0, c1, c2, c3, c4, c5⟩ := unhide HAT wr (unhide HBW)
          have hng : ad ≤ m.ad := by omega
          have hne : (m.ad != ad) = true := by rw [bne_iff_ne]; omega
          go_wp2_with fail
          go_quiet (fail)
          go_wp2_with (at_builtin; refine wpList_apS ((unhide HOWN _).alloc _) wr.heap.size 0 1 1 [⟨ad, hd, sy, ci, co, wl⟩] rfl (rm_new (wr.drewN _) ⟨ad, hd, sy, ci, co, wl⟩) (by simp only [List.length_cons, List.length_nil]; omega) (by simp; omega) rfl _ _ rfl rfl rfl ?_; intro v' w' ho hg; have HO1 : Hid (w'.ownsRow (w.heap.size + 1) 32 6 v' (putN ms ⟨ad, hd, sy, ci, co, wl⟩ j ++ [(⟨ad, hd, sy, ci, co, wl⟩ : R)]).length (flat (putN ms ⟨ad, hd, sy, ci, co, wl⟩ j ++ [(⟨ad, hd, sy, ci, co, wl⟩ : R)]))) := hide (by exact ho); have HB1 := hide (below_own ((unhide HBLN _).alloc (by (try simp); omega) _) ((unhide HOWN _).alloc _) hg (Nat.le_refl _) (by simp; omega)); clear ho hg)
          have hbs2 := (unhide HB1).size
          have hbs3 : w.heap.size + 1 ≤ w'.heap.size := by omega
          have HBW1 : Hid (Below w.heap.size w w') := hide ((unhide HA).trans ((unhide HB1).mono (by omega)))
          obtain ⟨d0, d1, d2, d3, d4, d5⟩ := unhide HAT w' (unhide HBW1)
          obtain ⟨y0, y1, y2, y3, y4, y5⟩ := (unhide HX).of_below (unhide HB1) (by omega)
          dsimp only at y0 y1 y2 y3 y4 y5
          have HBN : Hid (∀ q, Below (w.heap.size + 1) W0 (w'.drewN q)) := hide (fun q => below_drewN (unhide HB1) q)
          have HON : Hid (∀ q, (w'.drewN q).ownsRow (w.heap.size + 1) 32 6 v' (putN ms ⟨ad, hd, sy, ci, co, wl⟩ j ++ [(⟨ad, hd, sy, ci, co, wl⟩ : R)]).length (flat (putN ms ⟨ad, hd, sy, ci, co, wl⟩ j ++ [(⟨ad, hd, sy, ci, co, wl⟩ : R)]))) := hide (fun q => unhide HO1)
          have hfl2 : (putN ms ⟨ad, hd, sy, ci, co, wl⟩ j ++ [(⟨ad, hd, sy, ci, co, wl⟩ : R)]).length ≤ j + 2 := by simp; omega
          generalize hW1 : w' = w1 at *
          generalize hV1 : v' = v1 at *
          clear hW1 hV1
          go_quiet (fail)
          go_wp2_with (at_builtin; refine wpList_apS ((unhide HON _).alloc _) w1.heap.size 0 1 1 [m] rfl (rm_new (w1.drewN _) m) (by simp only [List.length_cons, List.length_nil]; omega) (by simp; omega) rfl _ _ rfl rfl rfl ?_; intro v' w' ho hg; have HO : Hid (w'.ownsRow (w.heap.size + 1) 32 6 v' (putN ms ⟨ad, hd, sy, ci, co, wl⟩ (j + 1)).length (flat (putN ms ⟨ad, hd, sy, ci, co, wl⟩ (j + 1)))) := hide (by rw [unhide HTF]; exact ho); have HB := hide (below_own ((unhide HBN _).alloc (by (try simp); omega) _) ((unhide HON _).alloc _) hg (Nat.le_refl _) (by simp; omega)); clear ho hg)
          go_roundw
          case rel => exact ⟨j + 1, by omega, by go_num, by rw [unhide HD], HO, HB⟩
          case measure => simp [intOf]; omega
        · obtain ⟨p1, p2⟩ := put_on (x := ⟨ad, hd, sy, ci, co, wl⟩) hlen hk hpd
          have HD := hide p1
          have HTF := hide p2
          clear p1 p2 hlen hpd
          have HAT := hide (unhide HAT0 (ms.getD j R.zero) rfl)
          generalize ms.getD j R.zero = m at *
          obtain ⟨c0, c1, c2, c3, c4, c5⟩ := unhide HAT wr (unhide HBW)
          have hne : (m.ad != ad) = true := by rw [bne_iff_ne]; omega
          go_wp2_with fail
          go_quiet (fail)
          go_wp2_with fail
          go_quiet (fail)
          go_wp2_with (at_builtin; refine wpList_apS ((unhide HOWN _).alloc _) wr.heap.size 0 1 1 [m] rfl (rm_new (wr.drewN _) m) (by simp only [List.length_cons, List.length_nil]; omega) (by simp; omega) rfl _ _ rfl rfl rfl ?_; intro v' w' ho hg; have HO : Hid (w'.ownsRow (w.heap.size + 1) 32 6 v' (putN ms ⟨ad, hd, sy, ci, co, wl⟩ (j + 1)).length (flat (putN ms ⟨ad, hd, sy, ci, co, wl⟩ (j + 1)))) := hide (by rw [unhide HTF]; exact ho); have HB := hide (below_own ((unhide HBLN _).alloc (by (try simp); omega) _) ((unhide HOWN _).alloc _) hg (Nat.le_refl _) (by simp; omega)); clear ho hg)
          go_roundw
          case rel => exact ⟨j + 1, by omega, by go_num, by rw [unhide HD], HO, HB⟩
          case measure => simp [intOf]; omega
    · obtain rfl : j = n := by omega
      cases hpd : putD ms ⟨ad, hd, sy, ci, co, wl⟩ j
      · have HTF : Hid (putL ms ⟨ad, hd, sy, ci, co, wl⟩ = putN ms ⟨ad, hd, sy, ci, co, wl⟩ j ++ [(⟨ad, hd, sy, ci, co, wl⟩ : R)]) := hide (by have e := unhide HN; subst e; exact (put_end hpd).symm)
        clear hpd
        go_wp2_with (at_builtin; refine wpList_apS ((unhide how).alloc _) wr.heap.size 0 1 1 [⟨ad, hd, sy, ci, co, wl⟩] rfl (rm_new wr ⟨ad, hd, sy, ci, co, wl⟩) (by simp only [List.length_cons, List.length_nil]; omega) (by simp; omega) rfl _ _ rfl rfl rfl ?_; intro v' w' ho hg; have HO : Hid (w'.ownsRow (w.heap.size + 1) 32 6 v' (putL ms ⟨ad, hd, sy, ci, co, wl⟩).length (flat (putL ms ⟨ad, hd, sy, ci, co, wl⟩))) := hide (by rw [unhide HTF]; exact ho); have HB := hide (below_own ((unhide hbl).alloc (by (try simp); omega) _) ((unhide how).alloc _) hg (Nat.le_refl _) (by simp; omega)); clear ho hg)
        have HL := hide ((lst_own rfl (unhide HO)).mono (Nat.le_succ _) (Nat.le_refl _))
        have HBF : Hid (Below w.heap.size w w') := hide ((unhide HA).trans ((unhide HB).mono (by omega)))
        go_ret
        exact ⟨_, rfl, unhide HBF, unhide HL⟩
      · have e : putN ms ⟨ad, hd, sy, ci, co, wl⟩ j = putL ms ⟨ad, hd, sy, ci, co, wl⟩ := by have e := unhide HN; subst e; exact put_all hpd
        rw [e] at how
        have HL := hide ((lst_own rfl (unhide how)).mono (Nat.le_succ _) (Nat.le_refl _))
        clear hpd
        go_wp2_with fail
        go_ret
        exact ⟨_, rfl, unhide HBW, unhide HL⟩
end Ln
end Go.Proofs.Ytmelbilepfnmjam
