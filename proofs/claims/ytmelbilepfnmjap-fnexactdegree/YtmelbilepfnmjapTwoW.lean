/-
  The model's contracts: whether a list has a number, by whom an address is two hops off, StrictTwo.
-/
import Derived.Test.YtmelbilepfnmjapTwoX
import Derived.Test.YtmelbilepfnmjapTwoC
import Derived.Test.YtmelbilepfnmjapSetK
import Derived.Test.YtmelbilepfnmjapLnkC
namespace Go.Proofs.Ytmelbilepfnmjap
open Go.ChangeShapes Go.WideShapes Go.ChangeAt Go.RowKit
set_option linter.unusedVariables false
set_option linter.unusedSimpArgs false
attribute [local go_sem ↓] Go.wp_at_zero Go.wp_at_succ
namespace Tw
open W1 Tu St
set_option maxHeartbeats 400000 in
theorem l07KeyW (v a : Int) (w : World) (h0 : 0 ≤ v) (h1 : v ≤ 1000000) (h2 : 0 ≤ a) (h3 : a ≤ 1000000) : Calls Try.prog 109 #[.int .i64 v, .int .i64 a] w fun e w' => e = .returned (.int .i64 (100 * v + a)) ∧ w' = w := by
  go_enter Try.func109, Try.ntmps109
  go_wp2
  go_ret
  exact ⟨rfl, rfl⟩
theorem has_yes' {zs : List Int} {z : Int} {j : Nat} (hj : j < zs.length) (hk : (zs.getD j 0 == z) = true) : zs.contains z = true := has_yes hj (by simp at hk ⊢; exact hk.symm)
theorem has_succ' {zs : List Int} {z : Int} {j : Nat} (hj : j < zs.length) (h : (zs.take j).contains z = false) (hk : (zs.getD j 0 == z) = false) : (zs.take (j + 1)).contains z = false := has_succ hj h (by simp at hk ⊢; exact fun e => hk e.symm)
set_option maxHeartbeats 2000000 in
theorem l07Has (a : Option Addr) (zs : List Int) (cap : Nat) (z : Int) (w : World) (hm : zs.length ≤ 1048576) (hr : In.RM w a zs) :
    Calls Try.prog 88 #[.slice a zs.length cap, .int .i64 z] w fun e w' => e = .returned (.bool (zs.contains z)) ∧ w' = w := by
  have HR := hide hr
  clear hr
  obtain ⟨A, hA⟩ : ∃ A, zs.contains z = A := ⟨_, rfl⟩
  have HA := hide hA
  rw [hA]
  clear hA
  generalize hN : zs.length = n at *
  have HN := hide hN
  clear hN
  go_enter Try.func88, Try.ntmps88
  go_wp2_with fail
  go_loopw [5] (fun i wr => ∃ j : Nat, j ≤ n ∧ i = .int .i64 j ∧ Hid ((zs.take j).contains z = false) ∧ Hid (wr = w)) (fun i _ => n - (intOf i).toNat)
  case atStart => exact ⟨0, by omega, rfl, hide rfl, hide rfl⟩
  case round =>
    obtain ⟨j, hj, rfl, hno, hwr⟩ := hrel
    have HRr : Hid (In.RM wr a zs) := hide (by rw [unhide hwr]; exact unhide HR)
    by_cases hlt : (j : Int) < (n : Int)
    · have k0 : (0 : Int) ≤ (j : Int) := by omega
      have hlen : j < zs.length := by rw [unhide HN]; omega
      rcases unhide HRr with e0 | ⟨g, off, rfl, hc⟩
      · exfalso; rw [e0] at hlen; simp at hlen
      have c0 := hc j hlen
      clear hc
      have HY : Hid ((zs.getD j 0 == z) = true → A = true) := hide (fun h => by rw [← unhide HA]; exact has_yes' hlen h)
      have HZ : Hid ((zs.getD j 0 == z) = false → (zs.take (j + 1)).contains z = false) := hide (fun h => has_succ' hlen (unhide hno) h)
      generalize zs.getD j 0 = y at *
      cases hk : (y == z)
      · have HT := hide (unhide HZ hk)
        go_wp2_with fail
        go_roundw
        case rel => exact ⟨j + 1, by omega, by go_num, HT, hwr⟩
        case measure => simp [intOf]; omega
      · have HT := hide (unhide HY hk)
        go_wp2_with fail
        go_ret
        exact ⟨ret_bool (unhide HT).symm, unhide hwr⟩
    · obtain rfl : j = n := by omega
      have HT : Hid (A = false) := hide (by have := unhide hno; rw [← unhide HN, List.take_length, unhide HA] at this; exact this)
      go_wp2_with fail
      go_ret
      exact ⟨ret_bool (unhide HT).symm, unhide hwr⟩
/-- As the model asks: what is kept first. -/
theorem viaOk_m {ms : List R} (h : setB ms = true) {addr now : Int} {m : Lk.R} (ha1 : 0 ≤ addr) (ha2 : addr < 100) (hm : 1 ≤ m.ad) : viaOk (findT ms) addr now m = (keptM ms (100 * m.ad + addr) now && ((Ln.statusV m now == 2) && decide (0 < m.wl))) := by
  unfold viaOk
  rw [kept_eq h now (by omega) ha1 ha2]
  cases Ln.statusV m now == 2 <;> cases decide (0 < m.wl) <;> cases keptB (findT ms m.ad addr) now <;> rfl
set_option maxRecDepth 100000 in
set_option maxHeartbeats 4000000 in
theorem l07Via (g0 o0 : Nat) (ms : List R) (cap : Nat) (a : Option Addr) (ls : List Lk.R) (capl : Nat) (addr now : Int) (w : World) (ha1 : 1 ≤ addr) (ha2 : addr ≤ 8) (hs : setB ms = true) (hok : Ln.linksB ls = true) (hr0 : RM w (some ⟨g0, o0, none⟩) ms) (hr : Lk.RM w a ls) :
    Calls Try.prog 89 #[.slice (some ⟨g0, o0, none⟩) ms.length cap, .slice a ls.length capl, .int .i64 addr, .int .i64 now] w fun e w' => ∃ v, e = .returned v ∧ Below w.heap.size w w' ∧ In.LstV w' v (viaL (findT ms) ls addr now ls.length) w.heap.size w'.heap.size := by
  have HR := hide hr
  have HM := hide hr0
  have HS := hide hs
  have HOK := hide hok
  have h8 := Ln.links_len hok
  have hl64 := setB_len hs
  clear hr hr0 hs hok
  obtain ⟨f, hf⟩ : ∃ f, findT ms = f := ⟨_, rfl⟩
  have HF := hide hf
  rw [hf]
  clear hf
  have O0 := hide (In.own_empty w w.heap.size (Nat.le_refl _))
  have P0 := hide ((Below.refl w.heap.size w).alloc (Nat.le_refl _) (.cells #[] 3))
  have O1 : Hid ((w.alloc (.cells #[] 3)).ownsRow w.heap.size 3 1 (.slice (some ⟨w.heap.size, 0, none⟩) 0 0) (viaL f ls addr now 0).length (In.flat (viaL f ls addr now 0))) := O0
  clear O0
  generalize hN : ls.length = n at *
  have HN := hide hN
  clear hN
  go_enter Try.func89, Try.ntmps89
  go_wp2_with fail
  go_loopw [9, 10] (fun v i wr => ∃ j : Nat, j ≤ n ∧ i = .int .i64 j ∧ Hid (wr.ownsRow w.heap.size 3 1 v (viaL f ls addr now j).length (In.flat (viaL f ls addr now j))) ∧ Hid (Below w.heap.size w wr)) (fun _ i _ => n - (intOf i).toNat)
  case atStart => exact ⟨0, by omega, rfl, O1, P0⟩
  case round =>
    obtain ⟨j, hj, rfl, how, hbl⟩ := hrel
    by_cases hlt : (j : Int) < (n : Int)
    · have k0 : (0 : Int) ≤ (j : Int) := by omega
      have hlen : j < ls.length := by rw [unhide HN]; omega
      obtain ⟨g, off, rfl⟩ := (unhide HR).form (by omega)
      obtain ⟨c0, c1, c2, c3, c4, c5⟩ := ((unhide HR).below (unhide hbl)).at hlen
      have hbs := (unhide hbl).size
      have had := Ln.ok_ad (Ri.all_ok (unhide HOK) hlen)
      have HVO := hide (viaOk_m (now := now) (unhide HS) (addr := addr) (m := ls.getD j Lk.R.zero) (by omega) (by omega) had.1)
      rw [unhide HF] at HVO
      have HY := hide (fun (h : viaOk f addr now (ls.getD j Lk.R.zero) = true) => viaL_yes hlen h)
      have HZ := hide (fun (h : viaOk f addr now (ls.getD j Lk.R.zero) = false) => viaL_no hlen h)
      generalize ls.getD j Lk.R.zero = m at *
      have hfl := viaL_len f ls addr now j
      have HBA := hide ((unhide hbl).alloc hbs (.cells #[.int .i64 m.ad, .int .i64 m.hd, .int .i64 m.sy, .int .i64 m.ci, .int .i64 m.co, .int .i64 m.wl] 78))
      have HOA := hide ((unhide how).alloc (.cells #[.int .i64 m.ad, .int .i64 m.hd, .int .i64 m.sy, .int .i64 m.ci, .int .i64 m.co, .int .i64 m.wl] 78))
      have HMA := hide ((unhide HM).below ((unhide hbl).alloc hbs (.cells #[.int .i64 m.ad, .int .i64 m.hd, .int .i64 m.sy, .int .i64 m.ci, .int .i64 m.co, .int .i64 m.wl] 78)))
      have HX := hide (Ln.bx_new wr m 78)
      go_wp2_with fail
      generalize hW : wr.alloc (.cells #[.int .i64 m.ad, .int .i64 m.hd, .int .i64 m.sy, .int .i64 m.ci, .int .i64 m.co, .int .i64 m.wl] 78) = W0 at *
      clear hW
      refine (l07KeyW m.ad addr _ (by omega) (by omega) (by omega) (by omega)).mono ?_
      rintro e w1 ⟨rfl, hw1⟩
      rw [hw1]
      clear hw1 c0 c1 c2 c3 c4 c5
      go_wp2_with fail
      refine (l03Find g0 o0 ms cap (100 * m.ad + addr) _ (by omega) (unhide HMA)).mono ?_
      rintro e w2 ⟨rfl, b2⟩
      have HBL := hide ((unhide HBA).trans (b2.mono (unhide HBA).size))
      have HOW := hide (Ln.own_belowI (unhide HOA) b2)
      have HX2 := hide ((unhide HX).below b2)
      clear b2
      have hkm : keptM ms (100 * m.ad + addr) now = (thereB ms (100 * m.ad + addr) && decide (now < (if thereB ms (100 * m.ad + addr) = true then ms.getD (place ms (100 * m.ad + addr)) R.zero else R.zero).til)) := by
        unfold keptM
        cases thereB ms (100 * m.ad + addr) <;> rfl
      rw [hkm] at HVO
      clear hkm
      generalize thereB ms (100 * m.ad + addr) = tb at *
      generalize (if tb = true then ms.getD (place ms (100 * m.ad + addr)) R.zero else R.zero) = T at *
      obtain ⟨ke, ti, va⟩ := T
      unfold R.value
      dsimp only at HVO ⊢
      have hsw := (unhide HBL).size
      have HBT := hide ((unhide HBL).alloc hsw (.cells #[.int .i64 ke, .int .i64 ti, .int .i64 va] 74))
      have HOT := hide ((unhide HOW).alloc (.cells #[.int .i64 ke, .int .i64 ti, .int .i64 va] 74))
      have HXT := hide ((unhide HX2).below ((Below.refl _ _).alloc (Nat.le_refl _) (.cells #[.int .i64 ke, .int .i64 ti, .int .i64 va] 74)))
      have hst := (unhide HBT).size
      obtain ⟨d0, d1, d2, d3, d4, d5⟩ := unhide HXT
      have hno : viaOk f addr now m = false → Hid ((w2.alloc (.cells #[.int .i64 ke, .int .i64 ti, .int .i64 va] 74)).ownsRow w.heap.size 3 1 u9 (viaL f ls addr now (j + 1)).length (In.flat (viaL f ls addr now (j + 1)))) := fun h => hide (by rw [unhide HZ h]; exact unhide HOT)
      have HNO := hide hno
      clear hno
      cases tb
      · have HO := unhide HNO (by rw [unhide HVO]; rfl)
        go_wp2_with fail
        go_roundw
        case rel => exact ⟨j + 1, by omega, by go_num, HO, HBT⟩
        case measure => simp [intOf]; omega
      by_cases hti : now < ti
      rotate_left
      · have HO := unhide HNO (by rw [unhide HVO, decide_eq_false hti]; rfl)
        go_wp2_with fail
        go_roundw
        case rel => exact ⟨j + 1, by omega, by go_num, HO, HBT⟩
        case measure => simp [intOf]; omega
      go_wp2_with fail
      generalize hW : w2.alloc (.cells #[.int .i64 ke, .int .i64 ti, .int .i64 va] 74) = W2 at *
      clear hW
      refine (Ln.l06Status _ _ _ _ _ _ now _).mono ?_
      rintro e w3 ⟨rfl, b3⟩
      have HB3 := hide ((unhide HBT).trans (b3.mono (unhide HBT).size))
      have HO3 := hide (Ln.own_belowI (unhide HOT) b3)
      clear d0 d1 d2 d3 d4 d5
      obtain ⟨d0, d1, d2, d3, d4, d5⟩ := (unhide HXT).below b3
      have hs3 := (unhide HB3).size
      clear b3
      have e2 : Ln.statusV ⟨m.ad, m.hd, m.sy, m.ci, m.co, m.wl⟩ now = Ln.statusV m now := rfl
      rw [e2]
      clear e2
      have hno : viaOk f addr now m = false → Hid (w3.ownsRow w.heap.size 3 1 u9 (viaL f ls addr now (j + 1)).length (In.flat (viaL f ls addr now (j + 1)))) := fun h => hide (by rw [unhide HZ h]; exact unhide HO3)
      have HNO3 := hide hno
      clear hno HNO
      cases hsy : (Ln.statusV m now == 2)
      · have HO := unhide HNO3 (by rw [unhide HVO, hsy, decide_eq_true hti]; rfl)
        clear HVO HY HZ HNO3
        generalize Ln.statusV m now = sv at *
        go_wp2_with fail
        go_roundw
        case rel => exact ⟨j + 1, by omega, by go_num, HO, HB3⟩
        case measure => simp [intOf]; omega
      by_cases hwl : 0 < m.wl
      · have HTF := hide (unhide HY (by rw [unhide HVO, hsy, decide_eq_true hti, decide_eq_true hwl]; rfl))
        clear HVO HY HZ HNO3
        generalize Ln.statusV m now = sv at *
        go_wp2_with (at_builtin; refine In.wpList_apS ((unhide HO3).alloc _) w3.heap.size 0 1 1 [m.ad] rfl (In.rm_new w3 m.ad) (by simp only [List.length_cons, List.length_nil]; omega) (by simp; omega) rfl _ _ rfl rfl rfl ?_; intro v' w' ho hg; have HO : Hid (w'.ownsRow w.heap.size 3 1 v' (viaL f ls addr now (j + 1)).length (In.flat (viaL f ls addr now (j + 1)))) := hide (by rw [unhide HTF]; exact ho); have HB := hide (In.below_own ((unhide HB3).alloc hs3 _) ((unhide HO3).alloc _) hg (Nat.le_refl _) (by simp; omega)); clear ho hg)
        go_roundw
        case rel => exact ⟨j + 1, by omega, by go_num, HO, HB⟩
        case measure => simp [intOf]; omega
      · have HO := unhide HNO3 (by rw [unhide HVO, hsy, decide_eq_true hti, decide_eq_false hwl]; rfl)
        clear HVO HY HZ HNO3
        generalize Ln.statusV m now = sv at *
        go_wp2_with fail
        go_roundw
        case rel => exact ⟨j + 1, by omega, by go_num, HO, HB3⟩
        case measure => simp [intOf]; omega
    · obtain rfl : j = n := by omega
      have HL := hide (In.lst_own rfl (unhide how))
      go_wp2_with fail
      go_ret
      exact ⟨_, rfl, unhide hbl, unhide HL⟩
end Tw
end Go.Proofs.Ytmelbilepfnmjap
