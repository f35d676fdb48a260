/-
  RoutesText, the program's and the model's. (written by mkroux.py)
-/
import Derived.Test.YtmlokaielemhaaaDoorRouT
namespace Go.Proofs.YtmlokaielemhaaaDoor
open Go.ChangeShapes Go.WideShapes Go.ChangeAt Go.RowKit
set_option linter.unusedVariables false
set_option linter.unusedSimpArgs false
set_option maxRecDepth 100000
attribute [local go_sem ↓] Go.wp_at_zero Go.wp_at_succ
attribute [local go_sem] ByteArray.size_append
namespace Rw
open W1 Ro
set_option maxHeartbeats 4000000 in
theorem implText (a : Option Addr) (ms : List R) (cap : Nat) (w : World) (hm : ms.length ≤ 1048576) (hr : RM w a ms) (hp : TabP w) :
    Calls Tryd.prog 8 #[.slice a ms.length cap] w fun e w' => ∃ v, e = .returned (.tuple #[v, .int .i64 (codeR ms)]) ∧ Below w.heap.size w w' ∧ Ss.LstV w' v (txtA ms) w.heap.size w'.heap.size := by
  have HP := hide (Lib.tabBelow_of_tabIs hp)
  have HR := hide hr
  clear hr hp
  by_cases hc : codeR ms = 0
  rotate_left
  · have h1 : txtA ms = [] := by unfold txtA; rw [if_neg hc]
    rw [h1]
    clear h1
    generalize hcd : codeR ms = cd at *
    have HC := hide hcd
    clear hcd
    have q1 : (cd != 0) = true := by simpa using hc
    go_enter Tryd.func8, Tryd.ntmps8
    go_wp2_with fail
    refine (routesCode1 _ ms cap _ hm (unhide HR)).mono ?_
    rintro e w1 ⟨rfl, b1⟩
    rw [unhide HC]
    have HB1 := hide b1
    clear b1
    go_wp2_with fail
    go_ret2
    exact ⟨_, rfl, unhide HB1, Ss.lstV_nil _ _ _ _ _⟩
  have hok := code_ok hc
  have h8 := rou_len hok
  have h1 : txtA ms = txtL ms ms.length := by unfold txtA; rw [if_pos hc]
  rw [h1, hc]
  have HC := hide hc
  have HOK := hide hok
  clear h1 hc hok
  generalize hN : ms.length = n at *
  have HN := hide hN
  clear hN
  go_enter Tryd.func8, Tryd.ntmps8
  go_wp2_with fail
  rw [← unhide HN]
  refine (routesCode1 _ ms cap _ (by have := unhide HN; omega) (unhide HR)).mono ?_
  rintro e w1 ⟨rfl, b1⟩
  rw [unhide HC]
  have HB1 := hide b1
  have hb1 := b1.size
  clear b1
  obtain ⟨i0, hi, hz0, hz1, hz2⟩ := Ss.infoI
  obtain ⟨wm, hmk, hmown, hmgrow⟩ := run_make_own (P := Tryd.prog) w1 w.heap.size 24 9 i0 _ 1 Tryd.underlying24 hi hz0 hz1 .i64 .i64 n (by rw [hz2]; omega) (by unfold maxLen; omega) hb1
  have OW : Hid (wm.ownsRow w.heap.size 9 1 (.slice (some ⟨w1.heap.size, 0, none⟩) 0 n) (txtL ms 0).length (Ss.flat (txtL ms 0))) := hide hmown
  have DM : Hid (Below w.heap.size w wm) := hide ((unhide HB1).grown hmgrow hb1 (fun k hk => by cases hk))
  clear hi hz0 hz1 hz2 hmown hmgrow
  rw [unhide HN]
  go_wp2_with fail
  clear hmk
  go_loopw [5, 18] (fun v i wr => ∃ j : Nat, j ≤ n ∧ i = .int .i64 j ∧ Hid (wr.ownsRow w.heap.size 9 1 v (txtL ms j).length (Ss.flat (txtL ms j))) ∧ Hid (Below w.heap.size w wr)) (fun _ i _ => n - (intOf i).toNat)
  case atStart => exact ⟨0, by omega, rfl, OW, DM⟩
  case round =>
    obtain ⟨j, hj, rfl, how, hbl⟩ := hrel
    have hbs := (unhide hbl).size
    by_cases hlt : (j : Int) < (n : Int)
    · have k0 : (0 : Int) ≤ (j : Int) := by omega
      have hlen : j < ms.length := by rw [unhide HN]; omega
      obtain ⟨g, off, rfl⟩ := (unhide HR).form (by omega)
      have hA := ((unhide HR).below (unhide hbl)).at hlen
      have HOM := hide (rou_ok (unhide HOK) _ (Ro.getD_mem hlen))
      have HTF := hide (txtL_succ hlen)
      have hfl := txtL_len ms j
      generalize ms.getD j R.zero = m at *
      have HSZ := hide (ln_size (unhide HOM))
      obtain ⟨ds, nx, co, hp⟩ := m
      obtain ⟨c0, c1, c2, c3⟩ := hA
      dsimp only at c0 c1 c2 c3
      have KL := hide (implLine ⟨ds, nx, co, hp⟩)
      obtain ⟨LK, hLK⟩ : ∃ LK, lnT ⟨ds, nx, co, hp⟩ = LK := ⟨_, rfl⟩
      rw [hLK] at HTF KL HSZ
      clear hLK
      have HOA := hide ((unhide how).alloc (.cells #[.int .i64 ds, .int .i64 nx, .int .i64 co, .int .i64 hp] 39))
      have HBA := hide ((unhide hbl).alloc hbs (.cells #[.int .i64 ds, .int .i64 nx, .int .i64 co, .int .i64 hp] 39))
      go_wp2_with fail
      generalize hW0 : wr.alloc (.cells #[.int .i64 ds, .int .i64 nx, .int .i64 co, .int .i64 hp] 39) = W0 at *
      clear hW0 c0 c1 c2 c3
      refine (unhide KL _ (unhide HOM) (unhide HP _ (unhide HBA))).mono ?_
      rintro e w1 ⟨rfl, d1⟩
      have O1 := hide (Ss.own_below (unhide HOA) d1)
      have E1 := hide ((unhide HBA).trans (d1.mono (unhide HBA).size))
      have hs1 := (unhide E1).size
      clear d1 HOA HBA
      have O2 := hide ((unhide O1).alloc (.cells #[.string LK] 9))
      have E2 := hide ((unhide E1).alloc hs1 (.cells #[.string LK] 9))
      have hs2 := (unhide E2).size
      go_wp2_with (at_builtin; refine Ss.wpList_apS (unhide O2) w1.heap.size 0 1 1 [LK] rfl (Ss.rm_new w1 LK) (by simp only [List.length_cons, List.length_nil]; omega) hs2 rfl _ _ rfl rfl rfl ?_; intro v' w' ho hg; have HO : Hid (w'.ownsRow w.heap.size 9 1 v' (txtL ms (j + 1)).length (Ss.flat (txtL ms (j + 1)))) := hide (by rw [unhide HTF]; exact ho); have HBB := hide (Ss.below_own (unhide E2) (unhide O2) hg (Nat.le_refl _) hs2); clear ho hg)
      go_roundw
      case rel => exact ⟨j + 1, by omega, by go_num, HO, HBB⟩
      case measure => simp [intOf]; omega
    · obtain rfl : j = n := by omega
      have HL := hide (Ss.lst_own rfl (unhide how))
      go_wp2_with fail
      go_ret2
      exact ⟨_, rfl, unhide hbl, unhide HL⟩
set_option maxHeartbeats 4000000 in
theorem l11Text (a : Option Addr) (ms : List R) (cap : Nat) (w : World) (hok : rouB ms = true) (hr : RM w a ms) :
    Calls Tryd.prog 17 #[.slice a ms.length cap] w fun e w' => ∃ v, e = .returned v ∧ Below w.heap.size w w' ∧ Ss.LstV w' v (txtL ms ms.length) w.heap.size w'.heap.size := by
  have HR := hide hr
  have h8 := rou_len hok
  have HOK := hide hok
  have OW : Hid ((w.alloc (.cells #[] 9)).ownsRow w.heap.size 9 1 (.slice (some ⟨w.heap.size, 0, none⟩) 0 0) (txtL ms 0).length (Ss.flat (txtL ms 0))) := hide (Ss.own_empty w w.heap.size (Nat.le_refl _))
  have DM := hide ((Below.refl w.heap.size w).alloc (Nat.le_refl _) (.cells #[] 9))
  clear hr hok
  generalize hN : ms.length = n at *
  have HN := hide hN
  clear hN
  go_enter Tryd.func17, Tryd.ntmps17
  go_wp2_with fail
  go_loopw [3, 4] (fun v i wr => ∃ j : Nat, j ≤ n ∧ i = .int .i64 j ∧ Hid (wr.ownsRow w.heap.size 9 1 v (txtL ms j).length (Ss.flat (txtL ms j))) ∧ Hid (Below w.heap.size w wr)) (fun _ i _ => n - (intOf i).toNat)
  case atStart => exact ⟨0, by omega, rfl, OW, DM⟩
  case round =>
    obtain ⟨j, hj, rfl, how, hbl⟩ := hrel
    have hbs := (unhide hbl).size
    by_cases hlt : (j : Int) < (n : Int)
    · have k0 : (0 : Int) ≤ (j : Int) := by omega
      have hlen : j < ms.length := by rw [unhide HN]; omega
      obtain ⟨g, off, rfl⟩ := (unhide HR).form (by omega)
      have hA := ((unhide HR).below (unhide hbl)).at hlen
      have HOM := hide (rou_ok (unhide HOK) _ (Ro.getD_mem hlen))
      have HTF := hide (txtL_succ hlen)
      have hfl := txtL_len ms j
      generalize ms.getD j R.zero = m at *
      have HSZ := hide (ln_size (unhide HOM))
      obtain ⟨ds, nx, co, hp⟩ := m
      obtain ⟨c0, c1, c2, c3⟩ := hA
      dsimp only at c0 c1 c2 c3
      have KL := hide (specLine ⟨ds, nx, co, hp⟩)
      obtain ⟨LK, hLK⟩ : ∃ LK, lnT ⟨ds, nx, co, hp⟩ = LK := ⟨_, rfl⟩
      rw [hLK] at HTF KL HSZ
      clear hLK
      have HOA := how
      have HBA := hbl
      go_wp2_with fail
      clear c0 c1 c2 c3
      refine (unhide KL _ (unhide HOM)).mono ?_
      rintro e w1 ⟨rfl, d1⟩
      have O1 := hide (Ss.own_below (unhide HOA) d1)
      have E1 := hide ((unhide HBA).trans (d1.mono (unhide HBA).size))
      have hs1 := (unhide E1).size
      clear d1 HOA HBA
      have O2 := hide ((unhide O1).alloc (.cells #[.string LK] 9))
      have E2 := hide ((unhide E1).alloc hs1 (.cells #[.string LK] 9))
      have hs2 := (unhide E2).size
      go_wp2_with (at_builtin; refine Ss.wpList_apS (unhide O2) w1.heap.size 0 1 1 [LK] rfl (Ss.rm_new w1 LK) (by simp only [List.length_cons, List.length_nil]; omega) hs2 rfl _ _ rfl rfl rfl ?_; intro v' w' ho hg; have HO : Hid (w'.ownsRow w.heap.size 9 1 v' (txtL ms (j + 1)).length (Ss.flat (txtL ms (j + 1)))) := hide (by rw [unhide HTF]; exact ho); have HBB := hide (Ss.below_own (unhide E2) (unhide O2) hg (Nat.le_refl _) hs2); clear ho hg)
      go_roundw
      case rel => exact ⟨j + 1, by omega, by go_num, HO, HBB⟩
      case measure => simp [intOf]; omega
    · obtain rfl : j = n := by omega
      have HL := hide (Ss.lst_own rfl (unhide how))
      go_wp2_with fail
      go_ret
      exact ⟨_, rfl, unhide hbl, unhide HL⟩
set_option maxHeartbeats 2000000 in
theorem specText (a : Option Addr) (ms : List R) (cap : Nat) (w : World) (hm : ms.length ≤ 1048576) (hr : RM w a ms) :
    Calls Tryd.prog 6 #[.slice a ms.length cap] w fun e w' => ∃ v, e = .returned (.tuple #[v, .int .i64 (codeR ms)]) ∧ Below w.heap.size w w' ∧ Ss.LstV w' v (txtA ms) w.heap.size w'.heap.size := by
  have HR := hide hr
  clear hr
  by_cases hbig : (4096 : Int) < ms.length
  · have hc := code_long (l := ms) hbig
    have h1 : txtA ms = [] := by unfold txtA; rw [if_neg (by rw [hc]; omega)]
    rw [h1, hc]
    clear h1 hc
    go_enter Tryd.func6, Tryd.ntmps6
    go_wp2_with fail
    go_ret2
    exact ⟨_, rfl, (Below.refl _ _).alloc (Nat.le_refl _) _, Ss.lstV_nil _ _ _ _ _⟩
  cases hs : rouB ms
  · have hc := code_bad hbig hs
    have h1 : txtA ms = [] := by unfold txtA; rw [if_neg (by rw [hc]; omega)]
    rw [h1, hc]
    have HS := hide hs
    clear h1 hc hs
    go_enter Tryd.func6, Tryd.ntmps6
    go_wp2_with fail
    refine (l11OK _ ms cap _ hm (unhide HR)).mono ?_
    rintro e w1 ⟨rfl, b1⟩
    rw [unhide HS]
    have hb1 := hide b1
    clear b1
    go_wp2_with fail
    go_ret2
    exact ⟨_, rfl, (unhide hb1).alloc (unhide hb1).size _, Ss.lstV_nil _ _ _ _ _⟩
  have hc := code_zero hs
  have h1 : txtA ms = txtL ms ms.length := by unfold txtA; rw [if_pos hc]
  rw [h1, hc]
  have HS := hide hs
  clear h1 hc hs
  go_enter Tryd.func6, Tryd.ntmps6
  go_wp2_with fail
  refine (l11OK _ ms cap _ hm (unhide HR)).mono ?_
  rintro e w1 ⟨rfl, b1⟩
  rw [unhide HS]
  have hb1 := hide b1
  clear b1
  go_wp2_with fail
  refine (l11Text _ ms cap _ (unhide HS) ((unhide HR).below (unhide hb1))).mono ?_
  rintro e w2 ⟨v, rfl, b2, hl⟩
  have hb2 := hide ((unhide hb1).trans (b2.mono (unhide hb1).size))
  have HL := hide (hl.mono (lo' := w.heap.size) (unhide hb1).size (Nat.le_refl _))
  clear b2 hl
  go_wp2_with fail
  go_ret2
  exact ⟨_, rfl, unhide hb2, unhide HL⟩
end Rw
end Go.Proofs.YtmlokaielemhaaaDoor
