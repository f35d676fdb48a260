/-
  Contracts of the program's copied and slices.Concat, with what the answer's slice looks like (written by mkcap.py).
-/
import Derived.Test.YtpknahhdapmcoaaSetG
namespace Go.Proofs.Ytpknahhdapmcoaa
open Go.ChangeShapes Go.WideShapes Go.ChangeAt Go.RowKit
set_option linter.unusedVariables false
set_option linter.unusedSimpArgs false
attribute [local go_sem ↓] Go.wp_at_zero Go.wp_at_succ
namespace St
open W1 Tu
/-- What a slice of one's own looks like: its capacity, and where it lies. -/
def Shp (v : Value) : Prop := ∃ a n c, v = .slice a n c ∧ n ≤ c ∧ c ≤ maxLen ∧ (a = none ∨ ∃ g, a = some ⟨g, 0, none⟩)
theorem shp_nil : Shp (.slice none 0 0) := ⟨none, 0, 0, rfl, Nat.le_refl _, Nat.zero_le _, .inl rfl⟩
theorem shp_own {w : World} {base e size n : Nat} {v : Value} {xs : List Value} (h : w.ownsRow base e size v n xs) : Shp v := by
  obtain ⟨_, ⟨rfl, _⟩ | ⟨g, cap, cur, rfl, _, _, h1, h2, _, _⟩⟩ := h
  · exact shp_nil
  · exact ⟨_, _, _, rfl, h1, h2, .inr ⟨g, rfl⟩⟩
theorem Shp.at {a : Option Addr} {n c : Nat} (h : Shp (.slice a n c)) : n ≤ c ∧ c ≤ maxLen ∧ (a = none ∨ ∃ g, a = some ⟨g, 0, none⟩) := by
  obtain ⟨a', n', c', e, h⟩ := h
  cases e
  exact h
theorem copiedC (g off : Nat) (ms : List R) (cap n : Nat) (w : World) (hn : ms.length = n) (hm : ms.length ≤ 4096) (hr : RM w (some ⟨g, off, none⟩) ms) :
    Calls Try.prog 51 #[.slice (some ⟨g, off, none⟩) n cap] w fun e w' => ∃ v, e = .returned v ∧ Below w.heap.size w w' ∧ LstV w' v ms w.heap.size w'.heap.size ∧ Shp v := by
  have HR := hide hr
  have O0 := hide (own_nil w w.heap.size)
  clear hr
  go_enter Try.func51, Try.ntmps51
  go_wp2_with (at_builtin; refine wpList_apS (unhide O0) g off n cap ms hn (unhide HR) (by simp; omega) (by simp) rfl _ _ rfl rfl rfl ?_; intro v' w' ho hg; have HL := hide (lst_own rfl ho); have HSH := hide (shp_own ho); have HB := hide (below_own (Below.refl _ _) (unhide O0) hg (Nat.le_refl _) (Nat.le_refl _)); clear ho hg)
  go_ret
  exact ⟨_, rfl, unhide HB, unhide HL, unhide HSH⟩
set_option maxHeartbeats 4000000 in
theorem concatC (h m : Nat) (ss : List Seg) (w : World) (hm : ss.length = m) (hm8 : m ≤ 8) (hs : Segs w h ss) (hl : (cat ss).length ≤ 4096) :
    Calls Try.prog 52 #[.slice (some ⟨h, 0, none⟩) m m] w fun e w' => ∃ v, e = .returned v ∧ Below w.heap.size w w' ∧ LstV w' v (cat ss) w.heap.size w'.heap.size ∧ Shp v := by
  have HS := hide hs
  have HM := hide hm
  have HL := hide hl
  clear hs hm hl
  go_enter Try.func52, Try.ntmps52
  go_wp2
  go_loopw [3, 11] (fun z i wr => w = wr ∧ ∃ j : Nat, j ≤ m ∧ i = .int .i64 j ∧ ∃ q : Nat, z = .int .i64 q ∧ Hid (q = (cat (ss.take j)).length)) (fun _ i _ => m - (intOf i).toNat)
  case atStart => exact ⟨rfl, 0, by omega, rfl, 0, rfl, hide (by simp [cat])⟩
  case round =>
    obtain ⟨rfl, j, hj, rfl, q, rfl, hq⟩ := hrel
    have hql : q ≤ 4096 := by rw [unhide hq]; exact Nat.le_trans (cat_le ss j) (unhide HL)
    by_cases hlt : (j : Int) < (m : Int)
    · have k0 : (0 : Int) ≤ (j : Int) := by omega
      have hlen : j < ss.length := by rw [unhide HM]; omega
      have hc := (unhide HS j hlen).1
      have hsn := cat_succ ss j hlen
      have hnl := Nat.le_trans (cat_le ss (j + 1)) (unhide HL)
      rw [hsn, List.length_append] at hnl
      have HQ : Hid (q + (ss.getD j Seg.zero).ms.length = (cat (ss.take (j + 1))).length) := hide (by rw [hsn, List.length_append, unhide hq])
      have hq2 : q + (ss.getD j Seg.zero).ms.length ≤ 4096 := by rw [unhide hq]; exact hnl
      clear hsn hnl
      generalize ss.getD j Seg.zero = s at *
      have hnn : ¬ ((q : Int) + (s.ms.length : Int) < 0) := by omega
      go_wp2_with fail
      go_roundw
      case rel => exact ⟨by first | trivial | rfl, j + 1, by omega, by go_num, q + s.ms.length, by go_num, HQ⟩
      case measure => simp [intOf]; omega
    · obtain rfl : j = m := by omega
      go_wp2_with fail
      refine (growA q _ hql).mono ?_
      rintro e w1 ⟨v1, rfl, b1, o1⟩
      have B1 := hide b1
      have O1 := hide o1
      clear b1 o1
      go_wp2_with fail
      go_loopw [6, 27] (fun v i w2 => ∃ t : Nat, t ≤ j ∧ i = .int .i64 t ∧ Hid (w2.ownsRow w.heap.size 41 3 v (cat (ss.take t)).length (flat (cat (ss.take t)))) ∧ Hid (Below w.heap.size w w2)) (fun _ i _ => j - (intOf i).toNat)
      case atStart => exact ⟨0, by omega, rfl, O1, B1⟩
      case round =>
        obtain ⟨t, ht, rfl, how, hbl⟩ := hrel
        by_cases hlt2 : (t : Int) < (j : Int)
        · have k0 : (0 : Int) ≤ (t : Int) := by omega
          have hlen : t < ss.length := by rw [unhide HM]; omega
          obtain ⟨hc, hrm⟩ := (unhide HS).below (unhide hbl) t hlen
          have HRM := hide hrm
          have HSN := hide (cat_succ ss t hlen)
          have hnl := Nat.le_trans (cat_le ss (t + 1)) (unhide HL)
          rw [unhide HSN, List.length_append] at hnl
          clear hrm
          have hbs := (unhide hbl).size
          generalize ss.getD t Seg.zero = s at *
          go_wp2_with (at_builtin; refine wpList_apS (unhide how) s.g s.off s.ms.length s.cap s.ms rfl (unhide HRM) (by omega) hbs rfl _ _ rfl rfl rfl ?_; intro v' w' ho hg; have HO : Hid (w'.ownsRow w.heap.size 41 3 v' (cat (ss.take (t + 1))).length (flat (cat (ss.take (t + 1))))) := hide (by rw [unhide HSN]; exact ho); have HB := hide (below_own (unhide hbl) (unhide how) hg (Nat.le_refl _) hbs); clear ho hg)
          go_roundw
          case rel => exact ⟨t + 1, by omega, by go_num, HO, HB⟩
          case measure => simp [intOf]; omega
        · obtain rfl : t = j := by omega
          have hl := lst_own rfl (unhide how)
          have HSH := hide (shp_own (unhide how))
          rw [List.take_of_length_le (by rw [unhide HM]; exact Nat.le_refl _)] at hl
          have HLL := hide hl
          clear hl
          go_wp2_with fail
          go_ret
          exact ⟨_, rfl, unhide hbl, unhide HLL, unhide HSH⟩
end St
end Go.Proofs.Ytpknahhdapmcoaa
