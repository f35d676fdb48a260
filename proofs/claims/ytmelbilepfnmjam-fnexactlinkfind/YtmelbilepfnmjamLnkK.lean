/-
  The program's map of links by their addresses: linksByKey. (written by mklnki.py)
-/
import Derived.Test.YtmelbilepfnmjamLnkI
import Derived.Test.YtmelbilepfnmjamMpl
import Derived.Test.YtmelbilepfnmjamLnkA
namespace Go.Proofs.Ytmelbilepfnmjam
open Go.ChangeShapes Go.WideShapes Go.ChangeAt Go.RowKit
set_option linter.unusedVariables false
set_option linter.unusedSimpArgs false
attribute [local go_sem ↓] Go.wp_at_zero Go.wp_at_succ
namespace Ln
open W1 Lk
open Mp
theorem find_snoc {ms : List R} (hok : linksB ms = true) {j : Nat} (hj : j < ms.length) : upd (fun a => (ms.take j).find? (isAd a)) (ms.getD j R.zero).ad (ms.getD j R.zero) = fun a => (ms.take (j + 1)).find? (isAd a) := by
  have e : ms.take (j + 1) = ms.take j ++ [ms.getD j R.zero] := by rw [List.take_add_one, List.getElem?_eq_getElem hj, List.getD_eq_getElem?_getD, List.getElem?_eq_getElem hj]; rfl
  funext a
  rw [e, List.find?_append]
  unfold upd
  by_cases h : a = (ms.getD j R.zero).ad
  · subst h
    have hn : (ms.take j).find? (isAd (ms.getD j R.zero).ad) = none := Ri.find_no (z := R.zero) _ _ (fun i hi => by
      have hij : i < j ∧ i < ms.length := by simp at hi; omega
      have hr := Ri.rises hok j i hij.1 hj
      have eg : (ms.take j).getD i R.zero = ms.getD i R.zero := by rw [List.getD_eq_getElem?_getD, List.getD_eq_getElem?_getD, List.getElem?_take_of_lt hij.1]
      rw [eg]; unfold isAd; rw [beq_eq_false_iff_ne]; omega)
    rw [hn, if_pos rfl]
    have : isAd (ms.getD j R.zero).ad (ms.getD j R.zero) = true := by unfold isAd; simp
    rw [List.find?_cons_of_pos this]; rfl
  · rw [if_neg h]
    have : isAd a (ms.getD j R.zero) = false := by unfold isAd; rw [beq_eq_false_iff_ne]; omega
    rw [List.find?_cons_of_neg (by rw [this]; simp)]; simp
theorem om_grown {w w' : World} {b : Nat} {B : Nat} {w0 : World} (hB : Below B w0 w) (hBw : B ≤ w0.heap.size) (hb : B ≤ b) (hg : w.grownBy w' (some b)) : Below B w0 w' :=
  ⟨hg.os.trans hB.os, hg.tape.trans hB.tape, hg.output.trans hB.output, Nat.le_trans hB.size hg.size, fun k hk => (hg.block k (Nat.lt_of_lt_of_le hk (Nat.le_trans hBw hB.size)) (by intro e; cases e; omega)).trans (hB.block k hk)⟩
set_option maxRecDepth 100000 in
set_option maxHeartbeats 2000000 in
theorem linksByKey (a : Option Addr) (ms : List R) (cap : Nat) (w : World) (hok : linksB ms = true) (hr : RM w a ms) :
    Calls Try.prog 40 #[.slice a ms.length cap] w fun e w' => ∃ b, e = .returned (.map (some b)) ∧ w.heap.size ≤ b ∧ OM w' b ms.length (fun k => ms.find? (isAd k)) ∧ Below w.heap.size w w' := by
  have HR := hide hr
  have HOK := hide hok
  have h8 := links_len hok
  clear hr hok
  have hmm := run_makeN ms.length
  have O0 := hide (om_made w)
  have P0 := hide ((Below.refl w.heap.size w).alloc (Nat.le_refl _) (.map #[] 0))
  generalize hN : ms.length = n at *
  have HN := hide hN
  clear hN
  go_enter Try.func40, Try.ntmps40
  go_wp2_with fail
  go_loopw [11] (fun i wr => ∃ j : Nat, j ≤ n ∧ i = .int .i64 j ∧ Hid (OM wr w.heap.size j (fun k => (ms.take j).find? (isAd k))) ∧ Hid (Below w.heap.size w wr)) (fun i _ => n - (intOf i).toNat)
  case atStart => exact ⟨0, by omega, rfl, O0, P0⟩
  case round =>
    obtain ⟨j, hj, rfl, hom, hbl⟩ := hrel
    by_cases hlt : (j : Int) < (n : Int)
    · have k0 : (0 : Int) ≤ (j : Int) := by omega
      have hlen : j < ms.length := by rw [unhide HN]; omega
      rcases (unhide HR).below (by exact (unhide hbl)) with e0 | ⟨g, off, rfl, hc⟩
      · exfalso; rw [e0] at hlen; simp at hlen
      obtain ⟨c0, c1, c2, c3, c4, c5⟩ := hc j hlen
      clear hc
      have HS := hide (find_snoc (unhide HOK) hlen)
      have had := ok_ad (Ri.all_ok (unhide HOK) hlen)
      have hsz := (unhide hbl).size
      have HOA := hide ((unhide hom).below ((Below.refl _ _).alloc (Nat.le_refl _) (.cells #[.int .i64 (ms.getD j R.zero).ad, .int .i64 (ms.getD j R.zero).hd, .int .i64 (ms.getD j R.zero).sy, .int .i64 (ms.getD j R.zero).ci, .int .i64 (ms.getD j R.zero).co, .int .i64 (ms.getD j R.zero).wl] 32)))
      have HBA := hide ((unhide hbl).alloc hsz (.cells #[.int .i64 (ms.getD j R.zero).ad, .int .i64 (ms.getD j R.zero).hd, .int .i64 (ms.getD j R.zero).sy, .int .i64 (ms.getD j R.zero).ci, .int .i64 (ms.getD j R.zero).co, .int .i64 (ms.getD j R.zero).wl] 32))
      generalize ms.getD j R.zero = m at *
      go_wp2_with (at_mapUpdate; refine wpList_put _ rfl _ _ _ rfl w.heap.size j _ rfl (unhide HOA) (by unfold maxLen; omega) m.ad (WalkArith.wf_i64 ⟨by omega, by omega⟩) m rfl rfl ?_; intro w' ho hg; have HO := hide ((unhide HS) ▸ ho); have HB := hide (om_grown (unhide HBA) (Nat.le_refl _) (Nat.le_refl _) hg); clear ho hg)
      go_roundw
      case rel => exact ⟨j + 1, by omega, by go_num, HO, HB⟩
      case measure => simp [intOf]; omega
    · obtain rfl : j = n := by omega
      have e : ms.take j = ms := List.take_of_length_le (by rw [unhide HN]; exact Nat.le_refl _)
      rw [e] at hom
      go_wp2_with fail
      go_ret
      exact ⟨_, rfl, Nat.le_refl _, unhide hom, unhide hbl⟩
end Ln
end Go.Proofs.Ytmelbilepfnmjam
