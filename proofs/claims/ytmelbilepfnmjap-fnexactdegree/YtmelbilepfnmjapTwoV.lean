/-
  The program's contracts: whether a list has a number (slices.Contains), ViaOf, StrictTwo.
-/
import Derived.Test.YtmelbilepfnmjapTwoN
import Derived.Test.YtmelbilepfnmjapTwoI
import Derived.Test.YtmelbilepfnmjapLnkV
namespace Go.Proofs.Ytmelbilepfnmjap
open Go.ChangeShapes Go.WideShapes Go.ChangeAt Go.RowKit
set_option linter.unusedVariables false
set_option linter.unusedSimpArgs false
attribute [local go_sem ↓] Go.wp_at_zero Go.wp_at_succ
namespace Tw
open W1 Tu St Mt
def IxOk (k : Int) (zs : List Int) (z : Int) : Prop := decide (0 ≤ k) = zs.contains z
set_option maxHeartbeats 2000000 in
theorem index (a : Option Addr) (zs : List Int) (cap : Nat) (z : Int) (w : World) (hm : zs.length ≤ 1048576) (hr : In.RM w a zs) :
    Calls Try.prog 141 #[.slice a zs.length cap, .int .i64 z] w fun e w' => ∃ k : Int, e = .returned (.int .i64 k) ∧ w' = w ∧ IxOk k zs z := by
  have HR := hide hr
  clear hr
  generalize hN : zs.length = n at *
  have HN := hide hN
  clear hN
  go_enter Try.func141, Try.ntmps141
  go_wp2_with fail
  go_loopw [8] (fun i wr => ∃ j : Nat, j ≤ n ∧ i = .int .i64 j ∧ Hid ((zs.take j).contains z = false) ∧ Hid (wr = w)) (fun i _ => n - (intOf i).toNat)
  case atStart => exact ⟨0, by omega, rfl, hide rfl, hide rfl⟩
  case round =>
    obtain ⟨j, hj, rfl, hno, hwr⟩ := hrel
    have HRr : Hid (In.RM wr a zs) := hide (by rw [unhide hwr]; exact unhide HR)
    by_cases hlt : (j : Int) < (n : Int)
    · have k0 : (0 : Int) ≤ (j : Int) := by omega
      have hlen : j < zs.length := by rw [unhide HN]; omega
      rcases unhide HRr with e0 | ⟨g, off, rfl, hc⟩
      · exfalso; rw [e0] at hlen; simp at hlen
      have c0 := hc j hlen
      clear hc
      have HY : Hid ((z == zs.getD j 0) = true → zs.contains z = true) := hide (fun h => has_yes hlen h)
      have HZ : Hid ((z == zs.getD j 0) = false → (zs.take (j + 1)).contains z = false) := hide (fun h => has_succ hlen (unhide hno) h)
      generalize zs.getD j 0 = y at *
      cases hk : (z == y)
      · have HT := hide (unhide HZ hk)
        go_wp2_with fail
        go_roundw
        case rel => exact ⟨j + 1, by omega, by go_num, HT, hwr⟩
        case measure => simp [intOf]; omega
      · have HT := hide (unhide HY hk)
        go_wp2_with fail
        go_ret
        exact ⟨_, rfl, unhide hwr, by unfold IxOk; rw [unhide HT]; simp⟩
    · obtain rfl : j = n := by omega
      have HT : Hid (zs.contains z = false) := hide (by have := unhide hno; rw [← unhide HN, List.take_length] at this; exact this)
      go_wp2_with fail
      go_ret
      exact ⟨_, rfl, unhide hwr, by unfold IxOk; rw [unhide HT]; rfl⟩
set_option maxHeartbeats 1000000 in
theorem contains (a : Option Addr) (zs : List Int) (cap : Nat) (z : Int) (w : World) (hm : zs.length ≤ 1048576) (hr : In.RM w a zs) :
    Calls Try.prog 125 #[.slice a zs.length cap, .int .i64 z] w fun e w' => e = .returned (.bool (zs.contains z)) ∧ w' = w := by
  go_enter Try.func125, Try.ntmps125
  go_wp2_with fail
  refine (index a zs cap z _ hm hr).mono ?_
  rintro e w1 ⟨k, rfl, rfl, hk⟩
  have HK : Hid (decide (0 ≤ k) = zs.contains z) := hide hk
  clear hk
  by_cases h0 : 0 ≤ k
  · have HT : Hid (zs.contains z = true) := hide (by rw [← unhide HK]; exact decide_eq_true h0)
    go_wp2_with fail
    go_ret
    exact ⟨ret_bool (by rw [unhide HT]), rfl⟩
  · have HT : Hid (zs.contains z = false) := hide (by rw [← unhide HK]; exact decide_eq_false h0)
    go_wp2_with fail
    go_ret
    exact ⟨ret_bool (by rw [unhide HT]; exact decide_eq_false (by omega)), rfl⟩
set_option maxRecDepth 100000 in
set_option maxHeartbeats 2000000 in
theorem isKept (b n : Nat) (f : Int → Int → Option R) (v u now : Int) (w : World) (hw1 : (Lit.int .i64 v).wf = true) (hw2 : (Lit.int .i64 u).wf = true) (hom : OM w b n f) :
    Calls Try.prog 127 #[.map (some b), .agg #[.int .i64 v, .int .i64 u], .int .i64 now] w fun e w' => e = .returned (.bool (keptB (f v u) now)) ∧ Below w.heap.size w w' := by
  have H1 := hide hw1
  have H2 := hide hw2
  have P0 : Hid (Below w.heap.size w (w.alloc (.cells #[.int .i64 v, .int .i64 u] 144))) := hide ((Below.refl _ _).alloc (Nat.le_refl _) _)
  have HM : Hid (OM (w.alloc (.cells #[.int .i64 v, .int .i64 u] 144)) b n f) := hide (hom.below (unhide P0))
  clear hw1 hw2 hom
  cases hf : f v u with
  | none =>
    have HA : Hid ((f v u).getD R.zero = ⟨0, 0, 0⟩) := hide (by rw [hf]; rfl)
    have HE : Hid ((f v u).isSome = false) := hide (by rw [hf]; rfl)
    clear hf
    have P1 := hide ((unhide P0).alloc (unhide P0).size (.cells #[.int .i64 0, .int .i64 0, .int .i64 0] 74))
    go_enter Try.func127, Try.ntmps127
    go_wp2_with (at_lookup; refine wpList_lookA _ rfl _ _ rfl b _ _ rfl (unhide HM) v u (unhide H1) (unhide H2) rfl 0 0 0 false (unhide HA) (unhide HE) ?_)
    go_ret
    exact ⟨rfl, unhide P1⟩
  | some m =>
    obtain ⟨ke, ti, va⟩ := m
    have HA : Hid ((f v u).getD R.zero = ⟨ke, ti, va⟩) := hide (by rw [hf]; rfl)
    have HE : Hid ((f v u).isSome = true) := hide (by rw [hf]; rfl)
    clear hf
    have P1 := hide ((unhide P0).alloc (unhide P0).size (.cells #[.int .i64 ke, .int .i64 ti, .int .i64 va] 74))
    by_cases hk : now < ti
    · have HT : Hid (keptB (some ⟨ke, ti, va⟩) now = true) := hide (decide_eq_true hk)
      go_enter Try.func127, Try.ntmps127
      go_wp2_with (at_lookup; refine wpList_lookA _ rfl _ _ rfl b _ _ rfl (unhide HM) v u (unhide H1) (unhide H2) rfl ke ti va true (unhide HA) (unhide HE) ?_)
      go_ret
      exact ⟨ret_bool (unhide HT).symm, unhide P1⟩
    · have HT : Hid (keptB (some ⟨ke, ti, va⟩) now = false) := hide (decide_eq_false hk)
      go_enter Try.func127, Try.ntmps127
      go_wp2_with (at_lookup; refine wpList_lookA _ rfl _ _ rfl b _ _ rfl (unhide HM) v u (unhide H1) (unhide H2) rfl ke ti va true (unhide HA) (unhide HE) ?_)
      go_ret
      exact ⟨ret_bool (unhide HT).symm, unhide P1⟩
set_option maxRecDepth 100000 in
set_option maxHeartbeats 4000000 in
theorem viasOf (bm q : Nat) (f : Int → Int → Option R) (a : Option Addr) (ls : List Lk.R) (cap : Nat) (addr now : Int) (w : World) (hwa : (Lit.int .i64 addr).wf = true) (hok : Ln.linksB ls = true) (hom : OM w bm q f) (hr : Lk.RM w a ls) :
    Calls Try.prog 93 #[.map (some bm), .slice a ls.length cap, .int .i64 addr, .int .i64 now] w fun e w' => ∃ v, e = .returned v ∧ Below w.heap.size w w' ∧ In.LstV w' v (viaL f ls addr now ls.length) w.heap.size w'.heap.size := by
  have HR := hide hr
  have HOM := hide hom
  have HWA := hide hwa
  have HOK := hide hok
  have h8 := Ln.links_len hok
  clear hr hom hwa hok
  have O0 : Hid (w.ownsRow w.heap.size 3 1 (.slice none 0 0) (viaL f ls addr now 0).length (In.flat (viaL f ls addr now 0))) := hide (In.own_nil w w.heap.size)
  generalize hN : ls.length = n at *
  have HN := hide hN
  clear hN
  go_enter Try.func93, Try.ntmps93
  go_wp2_with fail
  go_loopw [9, 14] (fun v i wr => ∃ j : Nat, j ≤ n ∧ i = .int .i64 j ∧ Hid (wr.ownsRow w.heap.size 3 1 v (viaL f ls addr now j).length (In.flat (viaL f ls addr now j))) ∧ Hid (Below w.heap.size w wr)) (fun _ i _ => n - (intOf i).toNat)
  case atStart => exact ⟨0, by omega, rfl, O0, hide (Below.refl _ _)⟩
  case round =>
    obtain ⟨j, hj, rfl, how, hbl⟩ := hrel
    by_cases hlt : (j : Int) < (n : Int)
    · have k0 : (0 : Int) ≤ (j : Int) := by omega
      have hlen : j < ls.length := by rw [unhide HN]; omega
      obtain ⟨g, off, rfl⟩ := (unhide HR).form (by omega)
      obtain ⟨c0, c1, c2, c3, c4, c5⟩ := ((unhide HR).below (unhide hbl)).at hlen
      have hbs := (unhide hbl).size
      have had := Ln.ok_ad (Ri.all_ok (unhide HOK) hlen)
      have HY := hide (fun (h : viaOk f addr now (ls.getD j Lk.R.zero) = true) => viaL_yes hlen h)
      have HZ := hide (fun (h : viaOk f addr now (ls.getD j Lk.R.zero) = false) => viaL_no hlen h)
      generalize ls.getD j Lk.R.zero = m at *
      have hfl := viaL_len f ls addr now j
      have HBA := hide ((unhide hbl).alloc hbs (.cells #[.int .i64 m.ad, .int .i64 m.hd, .int .i64 m.sy, .int .i64 m.ci, .int .i64 m.co, .int .i64 m.wl] 78))
      have HOA := hide ((unhide how).alloc (.cells #[.int .i64 m.ad, .int .i64 m.hd, .int .i64 m.sy, .int .i64 m.ci, .int .i64 m.co, .int .i64 m.wl] 78))
      have HMA := hide ((unhide HOM).below ((unhide hbl).alloc hbs (.cells #[.int .i64 m.ad, .int .i64 m.hd, .int .i64 m.sy, .int .i64 m.ci, .int .i64 m.co, .int .i64 m.wl] 78)))
      have HX := hide (Ln.bx_new wr m 78)
      have HWD : Hid ((Lit.int .i64 m.ad).wf = true) := hide (WalkArith.wf_i64 ⟨by omega, by omega⟩)
      have hvo : viaOk f addr now m = ((Ln.statusV m now == 2) && (decide (0 < m.wl) && keptB (f m.ad addr) now)) := rfl
      have HVO := hide hvo
      clear hvo
      go_wp2_with fail
      generalize hW : wr.alloc (.cells #[.int .i64 m.ad, .int .i64 m.hd, .int .i64 m.sy, .int .i64 m.ci, .int .i64 m.co, .int .i64 m.wl] 78) = W0 at *
      clear hW
      refine (Ln.implStatus _ _ _ _ _ _ now _).mono ?_
      rintro e w2 ⟨rfl, b2⟩
      have HBL := hide ((unhide HBA).trans (b2.mono (unhide HBA).size))
      have HOW := hide (Ln.own_belowI (unhide HOA) b2)
      have HM2 := hide ((unhide HMA).below b2)
      have HX2 := hide ((unhide HX).below b2)
      obtain ⟨d0, d1, d2, d3, d4, d5⟩ := unhide HX2
      clear b2 c0 c1 c2 c3 c4 c5
      have e2 : Ln.statusV ⟨m.ad, m.hd, m.sy, m.ci, m.co, m.wl⟩ now = Ln.statusV m now := rfl
      rw [e2]
      clear e2
      have hsw := (unhide HBL).size
      cases hs : (Ln.statusV m now == 2)
      · have HTF := hide (unhide HZ (by rw [unhide HVO, hs]; rfl))
        clear HY HZ HVO
        generalize Ln.statusV m now = sv at *
        have HOS : Hid (w2.ownsRow w.heap.size 3 1 u9 (viaL f ls addr now (j + 1)).length (In.flat (viaL f ls addr now (j + 1)))) := hide (by rw [unhide HTF]; exact unhide HOW)
        go_wp2_with fail
        go_roundw
        case rel => exact ⟨j + 1, by omega, by go_num, HOS, HBL⟩
        case measure => simp [intOf]; omega
      by_cases hwl : 0 < m.wl
      rotate_left
      · have HTF := hide (unhide HZ (by rw [unhide HVO, hs, decide_eq_false hwl]; rfl))
        clear HY HZ HVO
        generalize Ln.statusV m now = sv at *
        have HOS : Hid (w2.ownsRow w.heap.size 3 1 u9 (viaL f ls addr now (j + 1)).length (In.flat (viaL f ls addr now (j + 1)))) := hide (by rw [unhide HTF]; exact unhide HOW)
        go_wp2_with fail
        go_roundw
        case rel => exact ⟨j + 1, by omega, by go_num, HOS, HBL⟩
        case measure => simp [intOf]; omega
      obtain ⟨kb, hkb⟩ : ∃ kb, keptB (f m.ad addr) now = kb := ⟨_, rfl⟩
      have HKB := hide hkb
      have HTY : Hid (kb = true → viaL f ls addr now (j + 1) = viaL f ls addr now j ++ [m.ad]) := hide (fun h => unhide HY (by rw [unhide HVO, hs, decide_eq_true hwl, hkb, h]; rfl))
      have HTZ : Hid (kb = false → viaL f ls addr now (j + 1) = viaL f ls addr now j) := hide (fun h => unhide HZ (by rw [unhide HVO, hs, decide_eq_true hwl, hkb, h]; rfl))
      clear HY HZ HVO hkb
      generalize Ln.statusV m now = sv at *
      go_wp2_with fail
      refine (isKept bm q f m.ad addr now _ (unhide HWD) (unhide HWA) (unhide HM2)).mono ?_
      rintro e w3 ⟨rfl, b3⟩
      rw [unhide HKB]
      have HB3 := hide ((unhide HBL).trans (b3.mono (unhide HBL).size))
      have HO3 := hide (Ln.own_belowI (unhide HOW) b3)
      clear d0 d1 d2 d3 d4 d5
      obtain ⟨d0, d1, d2, d3, d4, d5⟩ := (unhide HX2).below b3
      have hs3 := (unhide HB3).size
      clear b3
      cases kb
      · have HTF := hide (unhide HTZ rfl)
        have HOS : Hid (w3.ownsRow w.heap.size 3 1 u9 (viaL f ls addr now (j + 1)).length (In.flat (viaL f ls addr now (j + 1)))) := hide (by rw [unhide HTF]; exact unhide HO3)
        go_wp2_with fail
        go_roundw
        case rel => exact ⟨j + 1, by omega, by go_num, HOS, HB3⟩
        case measure => simp [intOf]; omega
      · have HTF := hide (unhide HTY rfl)
        go_wp2_with (at_builtin; refine In.wpList_apS ((unhide HO3).alloc _) w3.heap.size 0 1 1 [m.ad] rfl (In.rm_new w3 m.ad) (by simp only [List.length_cons, List.length_nil]; omega) (by simp; omega) rfl _ _ rfl rfl rfl ?_; intro v' w' ho hg; have HO : Hid (w'.ownsRow w.heap.size 3 1 v' (viaL f ls addr now (j + 1)).length (In.flat (viaL f ls addr now (j + 1)))) := hide (by rw [unhide HTF]; exact ho); have HB := hide (In.below_own ((unhide HB3).alloc hs3 _) ((unhide HO3).alloc _) hg (Nat.le_refl _) (by simp; omega)); clear ho hg)
        go_roundw
        case rel => exact ⟨j + 1, by omega, by go_num, HO, HB⟩
        case measure => simp [intOf]; omega
    · obtain rfl : j = n := by omega
      have HL := hide (In.lst_own rfl (unhide how))
      go_wp2_with fail
      go_ret
      exact ⟨_, rfl, unhide hbl, unhide HL⟩
end Tw
end Go.Proofs.Ytmelbilepfnmjap
