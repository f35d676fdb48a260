/-
  The program's contracts over links: LinksExpire, SymLinks. (written by mklnkv.py)
-/
import Derived.Test.YtmelbilepfnmjamLnkI
import Derived.Test.YtmelbilepfnmjamLnkE
import Derived.Test.YtmelbilepfnmjamLnkS
namespace Go.Proofs.Ytmelbilepfnmjam
open Go.ChangeShapes Go.WideShapes Go.ChangeAt Go.RowKit
set_option linter.unusedVariables false
set_option linter.unusedSimpArgs false
attribute [local go_sem ↓] Go.wp_at_zero Go.wp_at_succ
namespace Ln
open W1 Lk
theorem code_nine (ms : List R) (h : codeL ms = 0) : linksB ms = true := by
  cases hh : linksB ms
  · unfold codeL at h; rw [hh] at h; split at h <;> simp at h
  · rfl
set_option maxRecDepth 100000 in
set_option maxHeartbeats 4000000 in
theorem implExpire (a : Option Addr) (ms : List R) (cap : Nat) (now : Int) (w : World) (hm : ms.length ≤ 1048576) (hr : RM w a ms) :
    Calls Try.prog 29 #[.slice a ms.length cap, .int .i64 now] w fun e w' => ∃ v, e = .returned (.tuple #[v, .int .i64 (codeL ms)]) ∧ Below w.heap.size w w' ∧ LstV w' v (expireA ms now) w.heap.size w'.heap.size := by
  have HR := hide hr
  clear hr
  by_cases hc : codeL ms = 0
  rotate_left
  · have h1 : expireA ms now = [] := by unfold expireA; rw [if_neg hc]
    rw [h1]
    clear h1
    generalize hcd : codeL ms = cd at *
    have HC := hide hcd
    clear hcd
    have q1 : (cd != 0) = true := by simpa using hc
    go_enter Try.func29, Try.ntmps29
    go_wp2_with fail
    refine (linksCode _ ms cap _ hm (unhide HR)).mono ?_
    rintro e w1 ⟨rfl, b1⟩
    rw [unhide HC]
    have HB1 := hide b1
    clear b1
    go_wp2_with fail
    go_ret2
    exact ⟨_, rfl, unhide HB1, lstV_nil _ _ _ _ _⟩
  have hok := code_nine ms hc
  have h8 := links_len hok
  have h1 : expireA ms now = ms.filter (keepL now) := by unfold expireA; rw [if_pos hc]
  rw [h1, hc]
  have HC := hide hc
  have HOK := hide hok
  clear h1 hc hok
  generalize hN : ms.length = n at *
  have HN := hide hN
  clear hN
  go_enter Try.func29, Try.ntmps29
  go_wp2_with fail
  rw [← unhide HN]
  refine (linksCode _ ms cap _ (by have := unhide HN; omega) (unhide HR)).mono ?_
  rintro e w1 ⟨rfl, b1⟩
  rw [unhide HC]
  have HB1 := hide b1
  have HR1 := hide ((unhide HR).below b1)
  have O0 := hide (own_nil w1 w.heap.size)
  clear b1
  go_wp2_with fail
  rw [unhide HN]
  go_loopw [7, 17] (fun v i wr => ∃ j : Nat, j ≤ n ∧ i = .int .i64 j ∧ Hid (wr.ownsRow w.heap.size 32 6 v ((ms.take j).filter (keepL now)).length (flat ((ms.take j).filter (keepL now)))) ∧ Hid (Below w.heap.size w wr)) (fun _ i _ => n - (intOf i).toNat)
  case atStart => exact ⟨0, by omega, rfl, O0, HB1⟩
  case round =>
    obtain ⟨j, hj, rfl, how, hbl⟩ := hrel
    by_cases hlt : (j : Int) < (n : Int)
    · have k0 : (0 : Int) ≤ (j : Int) := by omega
      have hlen : j < ms.length := by rw [unhide HN]; omega
      obtain ⟨g, off, rfl⟩ := (unhide HR).form (by omega)
      obtain ⟨c0, c1, c2, c3, c4, c5⟩ := ((unhide HR).below (unhide hbl)).at hlen
      have hbs := (unhide hbl).size
      have HTF := hide (take_filter (keepL now) ms j hlen)
      have hfl := filter_le (keepL now) ms j
      have hh := ok_hd (Ri.all_ok (unhide HOK) hlen)
      generalize ms.getD j R.zero = m at *
      have hwr : IntKind.i64.wrap (m.hd + 6) = m.hd + 6 := by rw [IntKind.wrap_i64]; omega
      have HBA := hide ((unhide hbl).alloc hbs (.cells #[.int .i64 m.ad, .int .i64 m.hd, .int .i64 m.sy, .int .i64 m.ci, .int .i64 m.co, .int .i64 m.wl] 32))
      have HOA := hide ((unhide how).alloc (.cells #[.int .i64 m.ad, .int .i64 m.hd, .int .i64 m.sy, .int .i64 m.ci, .int .i64 m.co, .int .i64 m.wl] 32))
      have hs1 : w.heap.size ≤ (wr.alloc (.cells #[.int .i64 m.ad, .int .i64 m.hd, .int .i64 m.sy, .int .i64 m.ci, .int .i64 m.co, .int .i64 m.wl] 32)).heap.size := by simp; omega
      by_cases hk : now < m.hd + 6
      · have hkt : keepL now m = true := decide_eq_true hk
        rw [hkt, if_pos rfl] at HTF
        go_wp2_with (at_builtin; refine wpList_apS ((unhide HOA).alloc _) (wr.heap.size + 1) 0 1 1 [m] rfl (by have := rm_new (wr.alloc (.cells #[.int .i64 m.ad, .int .i64 m.hd, .int .i64 m.sy, .int .i64 m.ci, .int .i64 m.co, .int .i64 m.wl] 32)) m; simpa using this) (by simp only [List.length_cons, List.length_nil]; omega) (by simp; omega) rfl _ _ rfl rfl rfl ?_; intro v' w' ho hg; have HO : Hid (w'.ownsRow w.heap.size 32 6 v' ((ms.take (j + 1)).filter (keepL now)).length (flat ((ms.take (j + 1)).filter (keepL now)))) := hide (by rw [unhide HTF]; exact ho); have HB := hide (below_own ((unhide HBA).alloc hs1 _) ((unhide HOA).alloc _) hg (Nat.le_refl _) (by simp; omega)); clear ho hg)
        go_roundw
        case rel => exact ⟨j + 1, by omega, by go_num, HO, HB⟩
        case measure => simp [intOf]; omega
      · have hkt : keepL now m = false := decide_eq_false hk
        rw [hkt, if_neg (by simp), List.append_nil] at HTF
        have HO : Hid ((wr.alloc (.cells #[.int .i64 m.ad, .int .i64 m.hd, .int .i64 m.sy, .int .i64 m.ci, .int .i64 m.co, .int .i64 m.wl] 32)).ownsRow w.heap.size 32 6 u7 ((ms.take (j + 1)).filter (keepL now)).length (flat ((ms.take (j + 1)).filter (keepL now)))) := hide (by rw [unhide HTF]; exact unhide HOA)
        go_wp2_with fail
        go_roundw
        case rel => exact ⟨j + 1, by omega, by go_num, HO, HBA⟩
        case measure => simp [intOf]; omega
    · obtain rfl : j = n := by omega
      have hl := lst_own rfl (unhide how)
      have e : ms.take j = ms := List.take_of_length_le (by rw [unhide HN]; exact Nat.le_refl _)
      rw [e] at hl
      have HL := hide hl
      clear hl
      go_wp2_with fail
      go_ret2
      exact ⟨_, rfl, unhide hbl, unhide HL⟩
set_option maxRecDepth 100000 in
set_option maxHeartbeats 4000000 in
theorem implSym (a : Option Addr) (ms : List R) (cap : Nat) (now : Int) (w : World) (hm : ms.length ≤ 1048576) (hr : RM w a ms) :
    Calls Try.prog 31 #[.slice a ms.length cap, .int .i64 now] w fun e w' => ∃ v, e = .returned (.tuple #[v, .int .i64 (codeL ms)]) ∧ Below w.heap.size w w' ∧ In.LstV w' v (symA ms now) w.heap.size w'.heap.size := by
  have HR := hide hr
  clear hr
  by_cases hc : codeL ms = 0
  rotate_left
  · have h1 : symA ms now = [] := by unfold symA; rw [if_neg hc]
    rw [h1]
    clear h1
    generalize hcd : codeL ms = cd at *
    have HC := hide hcd
    clear hcd
    have q1 : (cd != 0) = true := by simpa using hc
    go_enter Try.func31, Try.ntmps31
    go_wp2_with fail
    refine (linksCode _ ms cap _ hm (unhide HR)).mono ?_
    rintro e w1 ⟨rfl, b1⟩
    rw [unhide HC]
    have HB1 := hide b1
    clear b1
    go_wp2_with fail
    go_ret2
    exact ⟨_, rfl, unhide HB1, In.lstV_nil _ _ _ _ _⟩
  have hok := code_nine ms hc
  have h8 := links_len hok
  have h1 : symA ms now = symN now ms ms.length := by unfold symA; rw [if_pos hc]
  rw [h1, hc]
  have HC := hide hc
  have HOK := hide hok
  clear h1 hc hok
  generalize hN : ms.length = n at *
  have HN := hide hN
  clear hN
  go_enter Try.func31, Try.ntmps31
  go_wp2_with fail
  rw [← unhide HN]
  refine (linksCode _ ms cap _ (by have := unhide HN; omega) (unhide HR)).mono ?_
  rintro e w1 ⟨rfl, b1⟩
  rw [unhide HC]
  have HB1 := hide b1
  have HR1 := hide ((unhide HR).below b1)
  have O0 := hide (In.own_nil w1 w.heap.size)
  clear b1
  go_wp2_with fail
  rw [unhide HN]
  go_loopw [7, 17] (fun v i wr => ∃ j : Nat, j ≤ n ∧ i = .int .i64 j ∧ Hid (wr.ownsRow w.heap.size 3 1 v (symN now ms j).length (In.flat (symN now ms j))) ∧ Hid (Below w.heap.size w wr)) (fun _ i _ => n - (intOf i).toNat)
  case atStart => exact ⟨0, by omega, rfl, O0, HB1⟩
  case round =>
    obtain ⟨j, hj, rfl, how, hbl⟩ := hrel
    by_cases hlt : (j : Int) < (n : Int)
    · have k0 : (0 : Int) ≤ (j : Int) := by omega
      have hlen : j < ms.length := by rw [unhide HN]; omega
      obtain ⟨g, off, rfl⟩ := (unhide HR).form (by omega)
      obtain ⟨c0, c1, c2, c3, c4, c5⟩ := ((unhide HR).below (unhide hbl)).at hlen
      have hbs := (unhide hbl).size
      have HY := hide (fun (h : isSym now (ms.getD j R.zero) = true) => symN_yes hlen h)
      have HZ := hide (fun (h : isSym now (ms.getD j R.zero) = false) => symN_no hlen h)
      generalize ms.getD j R.zero = m at *
      have hfl := symN_len now ms j
      have HBA := hide ((unhide hbl).alloc hbs (.cells #[.int .i64 m.ad, .int .i64 m.hd, .int .i64 m.sy, .int .i64 m.ci, .int .i64 m.co, .int .i64 m.wl] 32))
      have HOA := hide ((unhide how).alloc (.cells #[.int .i64 m.ad, .int .i64 m.hd, .int .i64 m.sy, .int .i64 m.ci, .int .i64 m.co, .int .i64 m.wl] 32))
      have HX := hide (bx_new wr m 32)
      go_wp2_with fail
      generalize hW : wr.alloc (.cells #[.int .i64 m.ad, .int .i64 m.hd, .int .i64 m.sy, .int .i64 m.ci, .int .i64 m.co, .int .i64 m.wl] 32) = W0 at *
      clear hW
      refine (implStatus _ _ _ _ _ _ now _).mono ?_
      rintro e w2 ⟨rfl, b2⟩
      have HBL := hide ((unhide HBA).trans (b2.mono (unhide HBA).size))
      have HOW := hide (own_belowI (unhide HOA) b2)
      have hsz := b2.size
      obtain ⟨d0, d1, d2, d3, d4, d5⟩ := (unhide HX).below b2
      clear b2 c0 c1 c2 c3 c4 c5
      have e2 : statusV ⟨m.ad, m.hd, m.sy, m.ci, m.co, m.wl⟩ now = statusV m now := rfl
      rw [e2]
      clear e2
      have hsw := (unhide HBL).size
      cases hs : isSym now m
      · have HTF := hide (unhide HZ hs)
        have hne : (statusV m now == 2) = false := hs
        clear hs
        clear HY HZ
        generalize statusV m now = sv at *
        have HOS : Hid (w2.ownsRow w.heap.size 3 1 u7 (symN now ms (j + 1)).length (In.flat (symN now ms (j + 1)))) := hide (by rw [unhide HTF]; exact unhide HOW)
        go_wp2_with fail
        go_roundw
        case rel => exact ⟨j + 1, by omega, by go_num, HOS, HBL⟩
        case measure => simp [intOf]; omega
      · have HTF := hide (unhide HY hs)
        have hne : (statusV m now == 2) = true := hs
        clear hs
        clear HY HZ
        generalize statusV m now = sv at *
        go_wp2_with (at_builtin; refine In.wpList_apS ((unhide HOW).alloc _) w2.heap.size 0 1 1 [m.ad] rfl (In.rm_new w2 m.ad) (by simp only [List.length_cons, List.length_nil]; omega) (by simp; omega) rfl _ _ rfl rfl rfl ?_; intro v' w' ho hg; have HO : Hid (w'.ownsRow w.heap.size 3 1 v' (symN now ms (j + 1)).length (In.flat (symN now ms (j + 1)))) := hide (by rw [unhide HTF]; exact ho); have HB := hide (In.below_own ((unhide HBL).alloc hsw _) ((unhide HOW).alloc _) hg (Nat.le_refl _) (by simp; omega)); clear ho hg)
        go_roundw
        case rel => exact ⟨j + 1, by omega, by go_num, HO, HB⟩
        case measure => simp [intOf]; omega
    · obtain rfl : j = n := by omega
      have hl := In.lst_own rfl (unhide how)
      have HL := hide hl
      clear hl
      go_wp2_with fail
      go_ret2
      exact ⟨_, rfl, unhide hbl, unhide HL⟩
end Ln
end Go.Proofs.Ytmelbilepfnmjam
