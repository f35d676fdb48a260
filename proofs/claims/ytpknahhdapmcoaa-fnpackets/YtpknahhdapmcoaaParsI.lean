/-
  Contract of the program's readMessages.
-/
import Derived.Test.YtpknahhdapmcoaaPars
namespace Go.Proofs.Ytpknahhdapmcoaa
open Go.ChangeShapes Go.WideShapes Go.ChangeAt Go.RowKit
set_option linter.unusedVariables false
set_option maxRecDepth 100000
set_option linter.unusedSimpArgs false
namespace Pa
open W1 By De Ml
theorem reads_below {w w' : World} {a : Option Addr} {bs : List UInt8} (h : Reads w a bs) (hb : Below w.heap.size w w') : Reads w' a bs := by
  rcases h with h | ⟨g, off, rfl, hc⟩
  · exact .inl h
  · refine .inr ⟨g, off, rfl, fun i hi => ?_⟩
    rw [hb.cell (World.block_lt_of_cell? _ _ (hc i hi))]; exact hc i hi
theorem reads_drop {w : World} {g off n : Nat} {bs : List UInt8} (h : Reads w (some ⟨g, off, none⟩) bs) (hn : n ≤ bs.length) : Reads w (some ⟨g, off + n, none⟩) (bs.drop n) := by
  refine .inr ⟨g, off + n, rfl, fun i hi => ?_⟩
  rw [List.length_drop] at hi
  have := reads_at (i := n + i) h (by omega)
  rw [show off + n + i = off + (n + i) by omega, this]
  unfold fld
  congr 3
  rw [List.getD_eq_getElem?_getD, List.getD_eq_getElem?_getD, List.getElem?_drop]
set_option maxRecDepth 100000 in
set_option maxHeartbeats 4000000 in
theorem readLoop (a : Option Addr) (bs : List UInt8) (cap : Nat) (K : Int) (w : World) (hm : bs.length ≤ 65536) (hcap : bs.length ≤ cap) (hcm : cap ≤ maxLen) (hk1 : 1 ≤ K) (hk6 : K ≤ 6) (hr : Reads w a bs) :
    Calls Try.prog 36 #[.slice a bs.length cap, .int .i64 K] w fun e w' => Below w.heap.size w w' ∧ ((∃ ms g cp, pars K.toNat bs [] = some ms ∧ e = .returned (.tuple #[.slice (some ⟨g, 0, none⟩) ms.length cp, .bool true]) ∧ w.heap.size ≤ g ∧ g < w'.heap.size ∧ Upto w' g ms.length ms.length ms) ∨
      (∃ v, pars K.toNat bs [] = none ∧ e = .returned (.tuple #[v, .bool false]))) := by
  obtain ⟨i0, hi, hz0, hz1, hz2⟩ := infoM
  have hin : inB K 1 6 = true := by unfold inB; simp; omega
  obtain ⟨wm, hmk, hmown, hmgrow⟩ := run_make_own (P := Try.prog) w w.heap.size 23 58 i0 _ 6 Try.underlying23 hi hz0 hz1 .i64 .i64 K.toNat (by rw [hz2]; omega) (by unfold maxLen; omega) (Nat.le_refl _)
  rw [show ((K.toNat : Nat) : Int) = K by omega] at hmk
  have HR := hide hr
  have HO := hide hmown
  have HG := hide hmgrow
  clear hr hmown hmgrow
  go_enter Try.func36, Try.ntmps36
  go_wp2_with (go_at_call 37; refine (within _ _ _ _).mono ?_; rintro e w ⟨rfl, rfl⟩)
  go_loopw [0, 6, 16] (fun t v i wr => ∃ (j : Nat) (b : Option Addr) (rs : List UInt8) (cp : Nat) (acc : List M), (j : Int) ≤ K ∧ i = .int .i64 j ∧ t = .slice b rs.length cp ∧ rs.length ≤ 65536 ∧ rs.length ≤ cp ∧ cp ≤ 9223372036854775807 ∧ Hid (Reads w b rs) ∧ Hid (pars K.toNat bs [] = pars (K.toNat - j) rs acc) ∧ Hid (acc.length = j) ∧ Hid (wr.ownsRow w.heap.size 58 6 v acc.length (mcs acc)) ∧ Hid (∃ a c, v = .slice a acc.length c) ∧ Hid (Below w.heap.size w wr)) (fun _ _ i _ => (K - intOf i).toNat)
  case atStart =>
    have hbm : Below w.heap.size w wm := (Below.refl _ _).grown (unhide HG) (Nat.le_refl _) (fun k hk => by cases hk)
    exact ⟨0, a, bs, cap, [], by omega, rfl, rfl, hm, hcap, by unfold maxLen at hcm; omega, HR, hide rfl, hide rfl, HO, hide ⟨_, _, rfl⟩, hide hbm⟩
  case round =>
    obtain ⟨j, b, rs, cp, acc, hj, rfl, rfl, hrl, hrc, hcx, hrd, hpr, hal, how, hsl, hbl⟩ := hrel
    clear hin hmk
    by_cases hlt : (j : Int) < K
    · go_wp2_with fail
      refine (readMessage b rs cp _ (by omega) hrc (by unfold maxLen; omega) (reads_below (unhide hrd) (unhide hbl))).mono ?_
      rintro e w1 ⟨rfl, b1⟩
      have hb1 := hide ((unhide hbl).trans (b1.mono (unhide hbl).size))
      have ho1 : Hid (w1.ownsRow w.heap.size 58 6 _ acc.length (mcs acc)) := hide ((unhide how).kept (row := none) ⟨b1.os, b1.tape, b1.output, b1.size, fun k hk _ => b1.block k hk⟩ (by cases h : Value.ownBlock _; exact .inl rfl; exact .inr (by simp)))
      have hsz1 : w.heap.size ≤ w1.heap.size := (unhide hb1).size
      obtain ⟨f, hf⟩ : ∃ f, K.toNat - j = f + 1 := ⟨K.toNat - j - 1, by omega⟩
      have hf2 : K.toNat - (j + 1) = f := by omega
      cases hd : decB rs
      · rw [nextV_no hd]
        have hfin : Hid (pars K.toNat bs [] = none) := hide ((unhide hpr).trans (by rw [hf]; exact pars_no f _ acc hd))
        clear hd b1
        go_wp2_with fail
        go_ret2
        exact ⟨(unhide hb1).alloc (unhide hb1).size _, .inr ⟨_, unhide hfin, rfl⟩⟩
      · rw [nextV_yes hd]
        obtain ⟨d8, dl⟩ := dec_len hd
        have d0 : (0 : Int) ≤ two rs 1 := by omega
        have hstep : Hid (pars K.toNat bs [] = pars f (rs.drop (two rs 1).toNat) (acc ++ [msgOf rs])) := hide ((unhide hpr).trans (by rw [hf]; exact pars_yes f _ acc hd))
        have hacc : acc.length ≤ 6 := by rw [unhide hal]; omega
        obtain ⟨gb, ob, rfl⟩ : ∃ gb ob, b = some ⟨gb, ob, none⟩ := by
          rcases unhide hrd with h | ⟨gb, ob, e, _⟩
          · subst h; simp at dl; omega
          · exact ⟨gb, ob, e⟩
        have hrdr := hide (reads_drop (n := (two rs 1).toNat) (unhide hrd) (by omega))
        have hdl : (rs.drop (two rs 1).toNat).length = rs.length - (two rs 1).toNat := List.length_drop
        generalize hrn : rs.drop (two rs 1).toNat = rs' at *
        clear hrn hd b1
        by_cases hcc : cp = (two rs 1).toNat
        · have hre : rs' = [] := List.eq_nil_of_length_eq_zero (by omega)
          go_wp2_with (first | (at_builtin; refine wpList_append_lies _ rfl _ _ 23 rfl w.heap.size 58 i0 _ 6 56 Try.underlying23 hi hz0 hz1 hz2 rfl (by decide) _ acc.length (mcs acc) rfl (((unhide ho1).alloc _).alloc _) ⟨w1.heap.size + 1, 0, none⟩ 1 1 (mc (msgOf rs)) rfl rfl (World.news_of_block (cs := (mc (msgOf rs)).toArray) (t := 58) (fr := (0, 0)) (heap_new_at _ _ _ (by simp))) (by simp [Value.oneCell', mc]) (by omega) (by unfold maxLen; omega) (by omega) (by simp; omega) (w1.heap.size + 2) (by simp) ?_; intro g2 cap2 w2 own2 grow2 hat2 hlt2) | fail)
          have hb2 := hide ((((unhide hb1).alloc (unhide hb1).size _).alloc (by simp; omega) _).grown grow2 (by simp; omega) (fun k hk => ((unhide ho1).lt k hk).1))
          refine ⟨⟨j + 1, _, rs', 0, acc ++ [msgOf rs], by omega, by go_num, by rw [hdl], by omega, by omega, by omega, hide (.inl hre), hide ?_, hide (by rw [List.length_append, unhide hal]; rfl), hide ?_, hide ⟨_, _, by rw [List.length_append]; rfl⟩, hb2⟩, by simp [intOf]; omega⟩
          · rw [hf2]; exact unhide hstep
          · rw [mcs_snoc, List.length_append]; exact own2
        · have hc1 : two rs 1 ≤ (cp : Int) := by omega
          go_wp2_with (first | (at_builtin; refine wpList_append_lies _ rfl _ _ 23 rfl w.heap.size 58 i0 _ 6 56 Try.underlying23 hi hz0 hz1 hz2 rfl (by decide) _ acc.length (mcs acc) rfl (((unhide ho1).alloc _).alloc _) ⟨w1.heap.size + 1, 0, none⟩ 1 1 (mc (msgOf rs)) rfl rfl (World.news_of_block (cs := (mc (msgOf rs)).toArray) (t := 58) (fr := (0, 0)) (heap_new_at _ _ _ (by simp))) (by simp [Value.oneCell', mc]) (by omega) (by unfold maxLen; omega) (by omega) (by simp; omega) (w1.heap.size + 2) (by simp) ?_; intro g2 cap2 w2 own2 grow2 hat2 hlt2) | fail)
          have hb2 := hide ((((unhide hb1).alloc (unhide hb1).size _).alloc (by simp; omega) _).grown grow2 (by simp; omega) (fun k hk => ((unhide ho1).lt k hk).1))
          refine ⟨⟨j + 1, _, rs', cp - (two rs 1).toNat, acc ++ [msgOf rs], by omega, by go_num, by rw [hdl], by omega, by omega, by omega, hrdr, hide ?_, hide (by rw [List.length_append, unhide hal]; rfl), hide ?_, hide ⟨_, _, by rw [List.length_append]; rfl⟩, hb2⟩, by simp [intOf]; omega⟩
          · rw [hf2]; exact unhide hstep
          · rw [mcs_snoc, List.length_append]; exact own2
    · obtain rfl : (j : Int) = K := by omega
      have hend : Hid (pars (j : Int).toNat bs [] = pars 0 rs acc) := hide ((unhide hpr).trans (by rw [show (j : Int).toNat - j = 0 by omega]))
      obtain ⟨av, cv, rfl⟩ := unhide hsl
      have hap : 0 < acc.length := by rw [unhide hal]; omega
      obtain ⟨g9, c9, e9, hg9, hl9⟩ := (unhide how).form hap
      cases e9
      have hup := hide (upto_of_own (unhide how))
      by_cases hT0 : rs = []
      · have hfin : Hid (pars j bs [] = some acc) := hide (by have h := unhide hend; rw [Int.toNat_natCast] at h; rw [h, hT0]; rfl)
        have hl0 : rs.length = 0 := by rw [hT0]; rfl
        go_wp2_with fail
        go_ret2
        exact ⟨unhide hbl, .inl ⟨acc, unhide hfin, g9, ⟨_, by simp [hl0]; rfl⟩, hg9, hl9, unhide hup⟩⟩
      · have hfin : Hid (pars j bs [] = none) := hide (by have h := unhide hend; rw [Int.toNat_natCast] at h; rw [h]; unfold pars; rw [if_neg hT0])
        have hl0 : ((rs.length : Int) == 0) = false := by simp; exact hT0
        go_wp2_with fail
        go_ret2
        exact ⟨unhide hbl, .inr ⟨unhide hfin, _, rfl⟩⟩
end Pa
end Go.Proofs.Ytpknahhdapmcoaa
