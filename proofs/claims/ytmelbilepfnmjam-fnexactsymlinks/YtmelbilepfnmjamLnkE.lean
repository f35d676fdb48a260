/-
  The model's contract over links: LinksExpire. (written by mklnk.py)
-/
import Derived.Test.YtmelbilepfnmjamLnkC
namespace Go.Proofs.Ytmelbilepfnmjam
open Go.ChangeShapes Go.WideShapes Go.ChangeAt Go.RowKit
set_option linter.unusedVariables false
set_option linter.unusedSimpArgs false
attribute [local go_sem ↓] Go.wp_at_zero Go.wp_at_succ
namespace Ln
open W1 Lk
def keepL (now : Int) (m : R) : Bool := decide (now < m.hd + 6)
def expireA (ms : List R) (now : Int) : List R := if codeL ms = 0 then ms.filter (keepL now) else []
theorem expire_len (ms : List R) (now : Int) : (expireA ms now).length ≤ ms.length := by
  unfold expireA; split
  · exact List.length_filter_le _ _
  · simp
theorem take_filter (p : R → Bool) (ms : List R) (j : Nat) (h : j < ms.length) : (ms.take (j + 1)).filter p = (ms.take j).filter p ++ (if p (ms.getD j R.zero) = true then [ms.getD j R.zero] else []) := by
  rw [List.take_add_one, List.getElem?_eq_getElem h, List.filter_append, List.getD_eq_getElem?_getD, List.getElem?_eq_getElem h]
  cases hp : p ms[j] <;> simp [hp]
theorem filter_le (p : R → Bool) (ms : List R) (j : Nat) : ((ms.take j).filter p).length ≤ j := by
  have := List.length_filter_le p (ms.take j)
  have := List.length_take_le j ms
  omega
set_option maxHeartbeats 2000000 in
theorem l06Expire (a : Option Addr) (ms : List R) (cap : Nat) (now : Int) (w : World) (hm : ms.length ≤ 4096) (hok : linksB ms = true) (hr : RM w a ms) :
    Calls Try.prog 54 #[.slice a ms.length cap, .int .i64 now] w fun e w' => ∃ v, e = .returned v ∧ Below w.heap.size w w' ∧ LstV w' v (ms.filter (keepL now)) w.heap.size w'.heap.size := by
  have HR := hide hr
  clear hr
  have O0 := hide (own_empty w w.heap.size (Nat.le_refl _))
  have HOK : Hid (∀ j, j < ms.length → okL (ms.getD j R.zero) = true) := hide (fun j hj => Ri.all_ok hok hj)
  clear hok
  generalize hN : ms.length = n at *
  have HN := hide hN
  clear hN
  go_enter Try.func54, Try.ntmps54
  go_wp2
  go_loopw [5, 6] (fun v i wr => ∃ j : Nat, j ≤ n ∧ i = .int .i64 j ∧ Hid (wr.ownsRow w.heap.size 32 6 v ((ms.take j).filter (keepL now)).length (flat ((ms.take j).filter (keepL now)))) ∧ Hid (Below w.heap.size w wr)) (fun _ i _ => n - (intOf i).toNat)
  case atStart => exact ⟨0, by omega, rfl, O0, hide ((Below.refl _ _).alloc (Nat.le_refl _) _)⟩
  case round =>
    obtain ⟨j, hj, rfl, how, hbl⟩ := hrel
    by_cases hlt : (j : Int) < (n : Int)
    · have k0 : (0 : Int) ≤ (j : Int) := by omega
      have hlen : j < ms.length := by rw [unhide HN]; omega
      obtain ⟨g, off, rfl⟩ := (unhide HR).form (by omega)
      obtain ⟨c0, c1, c2, c3, c4, c5⟩ := ((unhide HR).below (unhide hbl)).at hlen
      have HTF := hide (take_filter (keepL now) ms j hlen)
      have hfl := filter_le (keepL now) ms j
      have hbs := (unhide hbl).size
      have hh := ok_hd (unhide HOK j (by omega))
      generalize ms.getD j R.zero = m at *
      have hwr : IntKind.i64.wrap (m.hd + 6) = m.hd + 6 := by rw [IntKind.wrap_i64]; omega
      by_cases hk : now < m.hd + 6
      · have hkt : keepL now m = true := decide_eq_true hk
        rw [hkt, if_pos rfl] at HTF
        go_wp2_with (at_builtin; refine wpList_apS ((unhide how).alloc _) wr.heap.size 0 1 1 [m] rfl (rm_new wr m) (by simp only [List.length_cons, List.length_nil]; omega) (by simp; omega) rfl _ _ rfl rfl rfl ?_; intro v' w' ho hg; have HO : Hid (w'.ownsRow w.heap.size 32 6 v' ((ms.take (j + 1)).filter (keepL now)).length (flat ((ms.take (j + 1)).filter (keepL now)))) := hide (by rw [unhide HTF]; exact ho); have HB := hide (below_own ((unhide hbl).alloc hbs _) ((unhide how).alloc _) hg (Nat.le_refl _) (by simp; omega)); clear ho hg)
        go_roundw
        case rel => exact ⟨j + 1, by omega, by go_num, HO, HB⟩
        case measure => simp [intOf]; omega
      · have hkt : keepL now m = false := decide_eq_false hk
        rw [hkt, if_neg (by simp), List.append_nil] at HTF
        have HO : Hid (wr.ownsRow w.heap.size 32 6 u5 ((ms.take (j + 1)).filter (keepL now)).length (flat ((ms.take (j + 1)).filter (keepL now)))) := hide (by rw [unhide HTF]; exact unhide how)
        go_wp2_with fail
        go_roundw
        case rel => exact ⟨j + 1, by omega, by go_num, HO, hbl⟩
        case measure => simp [intOf]; omega
    · obtain rfl : j = n := by omega
      have hl := lst_own rfl (unhide how)
      have e : ms.take j = ms := List.take_of_length_le (by rw [unhide HN]; exact Nat.le_refl _)
      rw [e] at hl
      have HL := hide hl
      clear hl
      go_wp2_with fail
      go_ret
      exact ⟨_, rfl, unhide hbl, unhide HL⟩
set_option maxHeartbeats 2000000 in
theorem specExpire (g off : Nat) (ms : List R) (cap : Nat) (now : Int) (w : World) (hm : ms.length ≤ 1048576) (hr : RM w (some ⟨g, off, none⟩) ms) :
    Calls Try.prog 28 #[.slice (some ⟨g, off, none⟩) ms.length cap, .int .i64 now] w fun e w' => ∃ v, e = .returned (.tuple #[v, .int .i64 (codeL ms)]) ∧ Below w.heap.size w w' ∧ LstV w' v (expireA ms now) w.heap.size w'.heap.size := by
  have HR := hide hr
  clear hr
  by_cases hbig : (4096 : Int) < ms.length
  · have hc := code_long (ms := ms) (by omega)
    have h1 : expireA ms now = [] := by unfold expireA; rw [if_neg (by rw [hc]; omega)]
    rw [h1, hc]
    clear h1 hc
    go_enter Try.func28, Try.ntmps28
    go_wp2_with fail
    go_ret2
    exact ⟨_, rfl, (Below.refl _ _).alloc (Nat.le_refl _) _, lstV_nil _ _ _ _ _⟩
  have hsm : ms.length ≤ 4096 := by omega
  cases hs : linksB ms
  · have hc := code_bad (by omega) hs
    have h1 : expireA ms now = [] := by unfold expireA; rw [if_neg (by rw [hc]; omega)]
    rw [h1, hc]
    have HS := hide hs
    clear h1 hc hs
    go_enter Try.func28, Try.ntmps28
    go_wp2_with fail
    refine (specOK _ ms cap _ hm (unhide HR)).mono ?_
    rintro e w1 ⟨rfl, b1⟩
    rw [unhide HS]
    have hb1 := hide b1
    clear b1
    go_wp2_with fail
    go_ret2
    exact ⟨_, rfl, (unhide hb1).alloc (unhide hb1).size _, lstV_nil _ _ _ _ _⟩
  have hc := code_zero hs
  have h1 : expireA ms now = ms.filter (keepL now) := by unfold expireA; rw [if_pos hc]
  rw [h1, hc]
  have HS := hide hs
  clear h1 hc hs
  go_enter Try.func28, Try.ntmps28
  go_wp2_with fail
  refine (specOK _ ms cap _ hm (unhide HR)).mono ?_
  rintro e w1 ⟨rfl, b1⟩
  rw [unhide HS]
  have hb1 := hide b1
  clear b1
  go_wp2_with fail
  refine (l06Expire _ ms cap now _ hsm (unhide HS) ((unhide HR).below (unhide hb1))).mono ?_
  rintro e w2 ⟨v, rfl, b2, hl⟩
  have hb2 := hide ((unhide hb1).trans (b2.mono (unhide hb1).size))
  have HL := hide (hl.mono (unhide hb1).size (Nat.le_refl _))
  clear b2 hl
  go_wp2_with fail
  go_ret2
  exact ⟨_, rfl, unhide hb2, unhide HL⟩
end Ln
end Go.Proofs.Ytmelbilepfnmjam
