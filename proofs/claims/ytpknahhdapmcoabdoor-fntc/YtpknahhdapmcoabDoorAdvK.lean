/-
  Contracts of the program's reader of a whole advertisement, and of DecodeTc.
-/
import Derived.Test.YtpknahhdapmcoabDoorAdvJ
import Derived.Test.YtpknahhdapmcoabDoorAdvH
namespace Go.Proofs.YtpknahhdapmcoabDoor
open Go.ChangeShapes Go.WideShapes Go.ChangeAt Go.RowKit
set_option linter.unusedVariables false
set_option linter.unusedSimpArgs false
attribute [local go_sem ↓] Go.wp_at_zero Go.wp_at_succ
namespace Av
open W1 Ed De
theorem spH_eq (bs : List UInt8) : (((false || decide (bs.length ≤ 0 + 1)) || decide (bs.length ≤ 0 + 2) || !timG bs (0 + 2)) || decide (bs.length ≤ 0 + 2 + 1)) = spH bs := by
  unfold spH
  simp [Bool.or_assoc]
set_option maxRecDepth 100000 in
set_option maxHeartbeats 2000000 in
theorem rtc (p : Nat) (bs : List UInt8) (w : World) (hm : bs.length ≤ 1048576) (h : Rd w p bs 0 false) :
    Calls Tryd.prog 53 #[.pointer (some ⟨p, 0, none⟩)] w fun e w' => ∃ (a : Option Addr) (c j : Nat), e = .returned (.agg #[.int .i64 (two bs 0), .int .i64 (timV bs 2), .slice a j c]) ∧ j ≤ nOf bs ∧ (j = nOf bs ∨ spN bs (spH bs) j = true) ∧ But p w w' ∧ Rd w' p bs (4 + 3 * j) (spN bs (spH bs) j) ∧ Ed.Lst w' a (egrps bs j) w.heap.size w'.heap.size := by
  have hplt := h.lt
  have R0 := hide (h.below ((Below.refl _ _).alloc (Nat.le_refl _) (.cells #[.int .i64 0, .int .i64 0, .slice none 0 0] 44)))
  have V0 : Hid (HV (w.alloc (.cells #[.int .i64 0, .int .i64 0, .slice none 0 0] 44)) w.heap.size 0 0 (.slice none 0 0)) := hide (hv_new _ _ _ _)
  have A0 : Hid (But p w (w.alloc (.cells #[.int .i64 0, .int .i64 0, .slice none 0 0] 44))) := hide ((But.refl _ _).alloc _)
  have hz : (w.alloc (.cells #[.int .i64 0, .int .i64 0, .slice none 0 0] 44)).heap.size = w.heap.size + 1 := by simp
  clear h
  go_enter Tryd.func53, Tryd.ntmps53
  go_wp2_with fail
  generalize hW : w.alloc (.cells #[.int .i64 0, .int .i64 0, .slice none 0 0] 44) = W0 at *
  clear hW
  refine (rtwo p bs 0 false _ hm (unhide R0)).mono ?_
  rintro e w1 ⟨rfl, b1, r1⟩
  have A1 := hide b1
  have R1 := hide r1
  clear b1 r1
  go_wp2_with fail
  refine (rtime p bs (0 + 2) _ _ hm (unhide R1)).mono ?_
  rintro e w2 ⟨rfl, b2, r2⟩
  have A2 := hide ((unhide A1).trans b2)
  have R2 := hide r2
  clear b2 r2
  go_wp2_with fail
  refine (one p bs (0 + 2 + 1) _ _ hm (unhide R2)).mono ?_
  rintro e w3 ⟨rfl, b3, r3⟩
  have A3 := hide ((unhide A2).trans b3)
  have R3 : Hid (Rd w3 p bs 4 (spH bs)) := hide (by rw [← spH_eq]; exact r3)
  rw [show (0 + 2 + 1 : Nat) = 3 by rfl, ← n_eq]
  have hs3 := (unhide A3).size
  clear b3 r3
  go_wp2_with fail
  refine (redges p bs (nOf bs) (spH bs) _ hm (n_le bs) (unhide R3)).mono ?_
  rintro e w4 ⟨v, j, rfl, hj, hor, b4, r4, l4⟩
  obtain ⟨a, c, rfl, hl⟩ := l4
  rw [egrps_len]
  have A4 := hide ((unhide A3).trans b4)
  have R4 := hide r4
  have L4 := hide hl
  have HOR := hide hor
  have T4 : Hid (HV w4 w.heap.size 0 0 (.slice none 0 0)) := hide (((unhide A4).block w.heap.size (by omega) (by omega)).trans (unhide V0))
  clear b4 r4 hl hor
  have hlw := (unhide T4).lt
  obtain ⟨x0, x1, x2⟩ := (unhide T4).bx
  have y0 := (unhide T4).free 0
  have y1 := (unhide T4).free 1
  have y2 := (unhide T4).free 2
  go_wp2_with fail
  refine bodyPost_ret (v := .agg #[.int .i64 (two bs 0), .int .i64 (timV bs 2), .slice a j c]) (by simp [results, Tryd.results53, go_sem, x0, x1, x2, hlw]) rfl ⟨a, c, j, rfl, hj, unhide HOR, ?_, ?_, ?_⟩
  · exact ((((unhide A0).trans (unhide A4)).setNew (Nat.le_refl _) 0 _).setNew (Nat.le_refl _) 1 _).setNew (Nat.le_refl _) 2 _
  · exact (((unhide R4).setOther (by omega)).setOther (by omega)).setOther (by omega)
  · refine ((unhide L4).but (p := fun k => k ≠ w.heap.size) (by simp [World.setCell]) (fun k hk hp => ?_) (fun k h1 h2 => by omega)).mono (by omega) (by simp [World.setCell])
    rw [Below.heap_setCell _ _ _ _ hp, Below.heap_setCell _ _ _ _ hp, Below.heap_setCell _ _ _ _ hp]
set_option maxRecDepth 100000 in
set_option maxHeartbeats 2000000 in
theorem implDecode (s : ByteArray) (w : World) (hm : s.size ≤ 1048576) :
    Calls Tryd.prog 20 #[.string s] w fun e w' => ∃ v, e = .returned (.tuple #[.agg #[.int .i64 (decX s.data.toList), .int .i64 (decY s.data.toList), v], .int .i64 (decE s.data.toList)]) ∧ Below w.heap.size w w' ∧ Ed.LstV w' v (decL s.data.toList) w.heap.size w'.heap.size := by
  have HDL : Hid (s.data.toList.length = s.size) := hide (by simp)
  have HD0 : Hid (s.data.toList = s.data.toList.drop 0) := hide (by simp)
  generalize hbs : s.data.toList = bs at *
  have HBS := hide hbs
  clear hbs
  by_cases hbig : (65536 : Int) < s.size
  · have hg : decG bs = false := dec_big (by have := unhide HDL; omega)
    have he : decE bs = 2 := by unfold decE; rw [if_pos (by have := unhide HDL; omega)]
    obtain ⟨e1, e2, e3⟩ := dec_no hg
    rw [e1, e2, e3, he]
    clear hg he e1 e2 e3
    go_enter Tryd.func20, Tryd.ntmps20
    go_wp2_with fail
    refine bodyPost_ret (v := .tuple #[.agg #[.int .i64 0, .int .i64 0, .slice none 0 0], .int .i64 2]) (by simp [results, Tryd.results20, go_sem]) rfl ⟨_, rfl, ?_, Ed.lstV_nil _ _ _ _ _⟩
    repeat (first | exact Below.refl _ _ | refine Below.setCell ?_ (by simp <;> omega) _ | refine Below.alloc ?_ (by simp <;> omega) _)
  have HE : Hid (decE bs = if decG bs = true then 0 else 3) := hide (by unfold decE; rw [if_neg (by have := unhide HDL; omega)])
  have hbm : bs.length ≤ 1048576 := by have := unhide HDL; omega
  have V0 : Hid (HV ((w.alloc (.cells #[.int .i64 0, .int .i64 0, .slice none 0 0] 44)).alloc (.cells #[.string s, .bool false] 85)) w.heap.size 0 0 (.slice none 0 0)) := hide ((hv_new _ _ _ _).below ((Below.refl _ _).alloc (Nat.le_refl _) _))
  have A0 : Hid (Below w.heap.size w ((w.alloc (.cells #[.int .i64 0, .int .i64 0, .slice none 0 0] 44)).alloc (.cells #[.string s, .bool false] 85))) := hide (((Below.refl _ _).alloc (Nat.le_refl _) _).alloc (by simp) _)
  have Z0 : ((w.alloc (.cells #[.int .i64 0, .int .i64 0, .slice none 0 0] 44)).alloc (.cells #[.string s, .bool false] 85)).heap.size = w.heap.size + 2 := by simp
  have R0 : Hid (Rd ((w.alloc (.cells #[.int .i64 0, .int .i64 0, .slice none 0 0] 44)).alloc (.cells #[.string s, .bool false] 85)) (w.heap.size + 1) bs 0 false) := hide ⟨s, (unhide HBS).trans (unhide HD0), by
    have h := heap_alloc_new (w.alloc (.cells #[.int .i64 0, .int .i64 0, .slice none 0 0] 44)) (.cells #[.string s, .bool false] 85)
    rw [World.size_alloc] at h; exact h⟩
  go_enter Tryd.func20, Tryd.ntmps20
  go_wp2_with fail
  generalize hW : (w.alloc (.cells #[.int .i64 0, .int .i64 0, .slice none 0 0] 44)).alloc (.cells #[.string s, .bool false] 85) = W0 at *
  clear hW
  refine (rtc (w.heap.size + 1) bs _ hbm (unhide R0)).mono ?_
  rintro e w1 ⟨a, c, j, rfl, hj, hor, b1, r1, l1⟩
  have HOR := hide hor
  have D1 : Hid (Below w.heap.size w w1) := hide ((unhide A0).trans (b1.below (by omega) (by omega)))
  have T1 : Hid (HV w1 w.heap.size 0 0 (.slice none 0 0)) := hide ((b1.block w.heap.size (by omega) (by omega)).trans (unhide V0))
  have R1 := hide r1
  have L1 := hide l1
  have hs1 : W0.heap.size ≤ w1.heap.size := b1.size
  clear b1 r1 l1 hor R0 V0 A0
  have R2 := hide ((unhide R1).below ((Below.refl _ _).alloc (Nat.le_refl _) (.cells #[.int .i64 (two bs 0), .int .i64 (timV bs 2), .slice a j c] 44)))
  have D2 := hide ((unhide D1).alloc (unhide D1).size (.cells #[.int .i64 (two bs 0), .int .i64 (timV bs 2), .slice a j c] 44))
  have T2 := hide ((unhide T1).below ((Below.refl _ _).alloc (Nat.le_refl _) (.cells #[.int .i64 (two bs 0), .int .i64 (timV bs 2), .slice a j c] 44)))
  have L2 := hide ((unhide L1).below ((Below.refl _ _).alloc (Nat.le_refl _) (.cells #[.int .i64 (two bs 0), .int .i64 (timV bs 2), .slice a j c] 44)))
  have H2 : Hid (HV (w1.alloc (.cells #[.int .i64 (two bs 0), .int .i64 (timV bs 2), .slice a j c] 44)) w1.heap.size (two bs 0) (timV bs 2) (.slice a j c)) := hide (hv_new _ _ _ _)
  have hz2 : (w1.alloc (.cells #[.int .i64 (two bs 0), .int .i64 (timV bs 2), .slice a j c] 44)).heap.size = w1.heap.size + 1 := by simp
  clear R1 D1 T1 L1
  go_wp2_with fail
  generalize hW : w1.alloc (.cells #[.int .i64 (two bs 0), .int .i64 (timV bs 2), .slice a j c] 44) = W2 at *
  clear hW
  refine (isDone (w.heap.size + 1) bs (4 + 3 * j) _ _ (unhide R2)).mono ?_
  rintro e w2 ⟨rfl, hw2⟩
  rw [hw2]
  clear hw2 w2
  have HN : Hid (decG bs = false → decX bs = 0 ∧ decY bs = 0 ∧ decL bs = [] ∧ decE bs = 3) := hide (fun h => by
    obtain ⟨e1, e2, e3⟩ := dec_no h
    have := unhide HE
    rw [h, if_neg (by simp)] at this
    exact ⟨e1, e2, e3, this⟩)
  cases hd : (!spN bs (spH bs) j && decide (bs.length ≤ 4 + 3 * j))
  · have HX := hide (unhide HN (done_no (unhide HOR) hj hd))
    clear hd
    have hlw := (unhide T2).lt
    obtain ⟨x0, x1, x2⟩ := (unhide T2).bx
    have y0 := (unhide T2).free 0
    have y1 := (unhide T2).free 1
    have y2 := (unhide T2).free 2
    go_wp2_with fail
    refine bodyPost_ret (v := .tuple #[.agg #[.int .i64 0, .int .i64 0, .slice none 0 0], .int .i64 3]) (by simp [results, Tryd.results20, go_sem, x0, x1, x2, hlw]) rfl ?_
    obtain ⟨e1, e2, e3, e4⟩ := unhide HX
    rw [e1, e2, e3, e4]
    refine ⟨_, rfl, ?_, Ed.lstV_nil _ _ _ _ _⟩
    have hBB := unhide D2
    repeat (first | exact hBB | refine Below.setCell ?_ (by simp <;> omega) _)
  · have hd' := hd
    rw [Bool.and_eq_true, Bool.not_eq_true'] at hd'
    obtain ⟨f1, f2, f3, f4⟩ := done_yes (unhide HOR) hd'.1 (of_decide_eq_true hd'.2)
    have hlen : (grps bs (nOf bs)).length = j := by rw [grps_len, f1]
    rw [f2] at L2
    rw [f3] at H2
    have FG := hide f4
    have hgl : (grps bs (nOf bs)).length ≤ 1048576 := by rw [grps_len]; have := n_le bs; omega
    have F3 := hide f3
    clear hd hd' f1 f2 f3 f4
    subst hlen
    obtain ⟨z0, z1, z2⟩ := (unhide H2).bx
    go_wp2_with fail
    clear z0 z1 z2
    refine (implOK (two bs 0) (timOf bs) a (grps bs (nOf bs)) c _ hgl (unhide L2).rm).mono ?_
    rintro e w3 ⟨rfl, b3⟩
    have D3 := hide ((unhide D2).trans (b3.mono (unhide D2).size))
    have T3 := hide ((unhide T2).below b3)
    have H3 := hide ((unhide H2).below b3)
    have L3 := hide ((unhide L2).below b3)
    have hs3 : W2.heap.size ≤ w3.heap.size := b3.size
    clear b3 D2 T2 H2 L2
    have hlw := (unhide T3).lt
    obtain ⟨x0, x1, x2⟩ := (unhide T3).bx
    have y0 := (unhide T3).free 0
    have y1 := (unhide T3).free 1
    have y2 := (unhide T3).free 2
    cases hg : tcB (two bs 0) (timOf bs) (grps bs (nOf bs))
    · have HX := hide (unhide HN ((unhide FG).trans hg))
      clear hg
      go_wp2_with fail
      refine bodyPost_ret (v := .tuple #[.agg #[.int .i64 0, .int .i64 0, .slice none 0 0], .int .i64 3]) (by simp [results, Tryd.results20, go_sem, x0, x1, x2, hlw]) rfl ?_
      obtain ⟨e1, e2, e3, e4⟩ := unhide HX
      rw [e1, e2, e3, e4]
      refine ⟨_, rfl, ?_, Ed.lstV_nil _ _ _ _ _⟩
      have hBB := unhide D3
      repeat (first | exact hBB | refine Below.setCell ?_ (by simp <;> omega) _)
    · have hG : decG bs = true := (unhide FG).trans hg
      obtain ⟨e1, e2, e3⟩ := dec_yes hG
      have e4 := unhide HE
      rw [hG, if_pos rfl] at e4
      have HX := hide (And.intro e1 (And.intro e2 (And.intro e3 e4)))
      clear e1 e2 e3 e4 hg hG
      obtain ⟨z0, z1, z2⟩ := (unhide H3).bx
      go_wp2_with fail
      refine bodyPost_ret (v := .tuple #[.agg #[.int .i64 (two bs 0), .int .i64 (timOf bs), .slice a (grps bs (nOf bs)).length c], .int .i64 0]) (by simp [results, Tryd.results20, go_sem, x0, x1, x2, hlw]) rfl ?_
      obtain ⟨e1, e2, e3, e4⟩ := unhide HX
      rw [e1, e2, e3, e4]
      refine ⟨_, rfl, ?_, a, c, rfl, ?_⟩
      · have hBB := unhide D3
        repeat (first | exact hBB | refine Below.setCell ?_ (by simp <;> omega) _)
      · refine ((unhide L3).but (p := fun k => k ≠ w.heap.size) (by simp [World.setCell]) (fun k hk hp => ?_) (fun k h1 h2 => by omega)).mono (by omega) (by simp [World.setCell]; omega)
        rw [Below.heap_setCell _ _ _ _ hp, Below.heap_setCell _ _ _ _ hp, Below.heap_setCell _ _ _ _ hp]
end Av
end Go.Proofs.YtpknahhdapmcoabDoor
