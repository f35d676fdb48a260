/-
  The model's contract over links: the addresses of those that are symmetric. (Written ahead of stage 6, at a trial seat.)
-/
import Derived.Test.YtmelbilepfnmjamLnkC
import Derived.Test.YtmelbilepfnmjamInts
namespace Go.Proofs.Ytmelbilepfnmjam
open Go.ChangeShapes Go.WideShapes Go.ChangeAt Go.RowKit
set_option linter.unusedVariables false
set_option linter.unusedSimpArgs false
attribute [local go_sem ↓] Go.wp_at_zero Go.wp_at_succ
namespace Ln
open W1 Lk
def isSym (now : Int) (m : R) : Bool := statusV m now == 2
def symN (now : Int) (ms : List R) (j : Nat) : List Int := ((ms.take j).filter (isSym now)).map (·.ad)
def symA (ms : List R) (now : Int) : List Int := if codeL ms = 0 then symN now ms ms.length else []
theorem symN_yes {now : Int} {ms : List R} {j : Nat} (h : j < ms.length) (hs : isSym now (ms.getD j R.zero) = true) : symN now ms (j + 1) = symN now ms j ++ [(ms.getD j R.zero).ad] := by
  unfold symN
  rw [List.getD_eq_getElem?_getD, List.getElem?_eq_getElem h] at hs ⊢
  rw [List.take_add_one, List.getElem?_eq_getElem h, List.filter_append, List.map_append]
  simp only [Option.toList_some, Option.getD_some] at hs ⊢
  rw [List.filter_cons_of_pos hs]; rfl
theorem symN_no {now : Int} {ms : List R} {j : Nat} (h : j < ms.length) (hs : isSym now (ms.getD j R.zero) = false) : symN now ms (j + 1) = symN now ms j := by
  unfold symN
  rw [List.getD_eq_getElem?_getD, List.getElem?_eq_getElem h] at hs
  rw [List.take_add_one, List.getElem?_eq_getElem h, List.filter_append, List.map_append]
  simp only [Option.toList_some, Option.getD_some] at hs ⊢
  rw [List.filter_cons_of_neg (by simp [hs])]; simp
theorem symN_len (now : Int) (ms : List R) (j : Nat) : (symN now ms j).length ≤ j := by
  unfold symN; rw [List.length_map]
  have := List.length_filter_le (isSym now) (ms.take j)
  rw [List.length_take] at this; omega
theorem sym_len (ms : List R) (now : Int) : (symA ms now).length ≤ ms.length := by
  unfold symA; split
  · exact symN_len _ _ _
  · exact Nat.zero_le _
theorem own_belowI {w w' : World} {base : Nat} {v : Value} {n : Nat} {xs : List Value} (h : w.ownsRow base 3 1 v n xs) (hb : Below w.heap.size w w') : w'.ownsRow base 3 1 v n xs := by
  refine h.kept (row := none) ⟨hb.os, hb.tape, hb.output, hb.size, fun k hk _ => hb.block k hk⟩ ?_
  cases v.ownBlock
  · exact .inl rfl
  · exact .inr (by simp)
set_option maxRecDepth 100000 in
set_option maxHeartbeats 4000000 in
theorem l06Sym (a : Option Addr) (ms : List R) (cap : Nat) (now : Int) (w : World) (hm : ms.length ≤ 4096) (hr : RM w a ms) :
    Calls Try.prog 55 #[.slice a ms.length cap, .int .i64 now] w fun e w' => ∃ v, e = .returned v ∧ Below w.heap.size w w' ∧ In.LstV w' v (symN now ms ms.length) w.heap.size w'.heap.size := by
  have HR1 := hide hr
  clear hr
  have O0 := hide (In.own_empty w w.heap.size (Nat.le_refl _))
  have P0 := hide ((Below.refl w.heap.size w).alloc (Nat.le_refl _) (.cells #[] 3))
  generalize hN : ms.length = n at *
  have HN := hide hN
  clear hN
  go_enter Try.func55, Try.ntmps55
  go_wp2_with fail
  go_loopw [5, 6] (fun v i wr => ∃ j : Nat, j ≤ n ∧ i = .int .i64 j ∧ Hid (wr.ownsRow w.heap.size 3 1 v (symN now ms j).length (In.flat (symN now ms j))) ∧ Hid (Below w.heap.size w wr)) (fun _ i _ => n - (intOf i).toNat)
  case atStart => exact ⟨0, by omega, rfl, O0, P0⟩
  case round =>
    obtain ⟨j, hj, rfl, how, hbl⟩ := hrel
    by_cases hlt : (j : Int) < (n : Int)
    · have k0 : (0 : Int) ≤ (j : Int) := by omega
      have hlen : j < ms.length := by rw [unhide HN]; omega
      obtain ⟨g, off, rfl⟩ := (unhide HR1).form (by omega)
      obtain ⟨c0, c1, c2, c3, c4, c5⟩ := ((unhide HR1).below (unhide hbl)).at hlen
      have HC := hide (fun (w2 : World) (b : Below wr.heap.size wr w2) => (((unhide HR1).below (unhide hbl)).below b).at hlen)
      have HY := hide (fun (h : isSym now (ms.getD j R.zero) = true) => symN_yes hlen h)
      have HZ := hide (fun (h : isSym now (ms.getD j R.zero) = false) => symN_no hlen h)
      generalize ms.getD j R.zero = m at *
      have hfl := symN_len now ms j
      have hbs := (unhide hbl).size
      go_wp2_with fail
      refine (l06Status _ _ _ _ _ _ now _).mono ?_
      rintro e w2 ⟨rfl, b2⟩
      have HBL := hide ((unhide hbl).trans (b2.mono hbs))
      have HOW := hide (own_belowI (unhide how) b2)
      have hsz := b2.size
      obtain ⟨d0, d1, d2, d3, d4, d5⟩ := unhide HC w2 b2
      clear b2 c0 c1 c2 c3 c4 c5
      have e2 : statusV ⟨m.ad, m.hd, m.sy, m.ci, m.co, m.wl⟩ now = statusV m now := rfl
      rw [e2]
      clear e2
      have hsw := (unhide HBL).size
      cases hs : isSym now m
      · have HTF := hide (unhide HZ hs)
        have hne : (statusV m now == 2) = false := hs
        clear hs
        clear HY HZ HC
        generalize statusV m now = sv at *
        have HOS : Hid (w2.ownsRow w.heap.size 3 1 u5 (symN now ms (j + 1)).length (In.flat (symN now ms (j + 1)))) := hide (by rw [unhide HTF]; exact unhide HOW)
        go_wp2_with fail
        go_roundw
        case rel => exact ⟨j + 1, by omega, by go_num, HOS, HBL⟩
        case measure => simp [intOf]; omega
      · have HTF := hide (unhide HY hs)
        have hne : (statusV m now == 2) = true := hs
        clear hs
        clear HY HZ HC
        generalize statusV m now = sv at *
        go_wp2_with (at_builtin; refine In.wpList_apS ((unhide HOW).alloc _) w2.heap.size 0 1 1 [m.ad] rfl (In.rm_new w2 m.ad) (by simp only [List.length_cons, List.length_nil]; omega) (by simp; omega) rfl _ _ rfl rfl rfl ?_; intro v' w' ho hg; have HO : Hid (w'.ownsRow w.heap.size 3 1 v' (symN now ms (j + 1)).length (In.flat (symN now ms (j + 1)))) := hide (by rw [unhide HTF]; exact ho); have HB := hide (In.below_own ((unhide HBL).alloc hsw _) ((unhide HOW).alloc _) hg (Nat.le_refl _) (by simp; omega)); clear ho hg)
        go_roundw
        case rel => exact ⟨j + 1, by omega, by go_num, HO, HB⟩
        case measure => simp [intOf]; omega
    · obtain rfl : j = n := by omega
      have hl := In.lst_own rfl (unhide how)
      have ej : symN now ms j = symN now ms ms.length := by rw [unhide HN]
      rw [ej, unhide HN] at hl
      have HL := hide hl
      clear hl ej
      go_wp2_with fail
      go_ret
      exact ⟨_, rfl, unhide hbl, unhide HL⟩
set_option maxHeartbeats 2000000 in
theorem specSym (g off : Nat) (ms : List R) (cap : Nat) (now : Int) (w : World) (hm : ms.length ≤ 1048576) (hr : RM w (some ⟨g, off, none⟩) ms) :
    Calls Try.prog 30 #[.slice (some ⟨g, off, none⟩) ms.length cap, .int .i64 now] w fun e w' => ∃ v, e = .returned (.tuple #[v, .int .i64 (codeL ms)]) ∧ Below w.heap.size w w' ∧ In.LstV w' v (symA ms now) w.heap.size w'.heap.size := by
  have HR := hide hr
  clear hr
  by_cases hbig : (4096 : Int) < ms.length
  · have hc := code_long (ms := ms) (by omega)
    have h1 : symA ms now = [] := by unfold symA; rw [if_neg (by rw [hc]; omega)]
    rw [h1, hc]
    clear h1 hc
    go_enter Try.func30, Try.ntmps30
    go_wp2_with fail
    go_ret2
    exact ⟨_, rfl, (Below.refl _ _).alloc (Nat.le_refl _) _, In.lstV_nil _ _ _ _ _⟩
  have hsm : ms.length ≤ 4096 := by omega
  cases hs : linksB ms
  · have hc := code_bad (by omega) hs
    have h1 : symA ms now = [] := by unfold symA; rw [if_neg (by rw [hc]; omega)]
    rw [h1, hc]
    have HS := hide hs
    clear h1 hc hs
    go_enter Try.func30, Try.ntmps30
    go_wp2_with fail
    refine (specOK _ ms cap _ hm (unhide HR)).mono ?_
    rintro e w1 ⟨rfl, b1⟩
    rw [unhide HS]
    have hb1 := hide b1
    clear b1
    go_wp2_with fail
    go_ret2
    exact ⟨_, rfl, (unhide hb1).alloc (unhide hb1).size _, In.lstV_nil _ _ _ _ _⟩
  have hc := code_zero hs
  have h1 : symA ms now = symN now ms ms.length := by unfold symA; rw [if_pos hc]
  rw [h1, hc]
  have HS := hide hs
  clear h1 hc hs
  go_enter Try.func30, Try.ntmps30
  go_wp2_with fail
  refine (specOK _ ms cap _ hm (unhide HR)).mono ?_
  rintro e w1 ⟨rfl, b1⟩
  rw [unhide HS]
  have hb1 := hide b1
  clear b1
  go_wp2_with fail
  refine (l06Sym _ ms cap now _ hsm ((unhide HR).below (unhide hb1))).mono ?_
  rintro e w2 ⟨v, rfl, b2, hl⟩
  have hb2 := hide ((unhide hb1).trans (b2.mono (unhide hb1).size))
  have HL := hide (hl.mono (unhide hb1).size (Nat.le_refl _))
  clear b2 hl
  go_wp2_with fail
  go_ret2
  exact ⟨_, rfl, unhide hb2, unhide HL⟩
end Ln
end Go.Proofs.Ytmelbilepfnmjam
