/-
  Drawn selectors and drawn marks: right sets of a few tuples, whatever the source has.
-/
import Derived.Test.YtlcppgnnlgigmaaSrcT
import Derived.Test.YtlcppgnnlgigmaaDrw
import Derived.Test.YtlcppgnnlgigmaaDupP
namespace Go.Proofs.Ytlcppgnnlgigmaa
open Go.ChangeShapes Go.WideShapes Go.ChangeAt Go.RowKit
set_option linter.unusedVariables false
set_option linter.unusedSimpArgs false
set_option maxRecDepth 100000
attribute [local go_sem ↓] Go.wp_at_zero Go.wp_at_succ
namespace Du
open W1 By Tu St Sr
theorem sel_ok {k t : Nat} (h1 : k ≤ 8) (h2 : t < 20) : okR ⟨k, t, 0⟩ = true := by
  unfold okR inB
  dsimp only
  rw [decide_eq_true (by omega), decide_eq_true (by omega), decide_eq_true (by omega), decide_eq_true (by omega), decide_eq_true (by omega), decide_eq_true (by omega)]; rfl
theorem new_ok {og sq now : Int} {s : Bool} (h : askB og sq = true) (h0 : 0 ≤ now) (h1 : now ≤ 1000000) : okR (newD og sq now s) = true := by
  have hb := ask_bounds h
  have hs : bitD s = 0 ∨ bitD s = 1 := by cases s <;> simp [bitD]
  unfold okR inB newD keyD
  dsimp only
  rw [decide_eq_true (by omega), decide_eq_true (by omega), decide_eq_true (by omega), decide_eq_true (by omega), decide_eq_true (by omega), decide_eq_true (by omega)]; rfl
theorem ask_small {og sq : Nat} (h1 : 1 ≤ og) (h2 : og ≤ 8) (h3 : sq ≤ 65535) : askB og sq = true := by
  unfold askB inB
  rw [decide_eq_true (by omega), decide_eq_true (by omega), decide_eq_true (by omega), decide_eq_true (by omega)]; rfl
set_option maxHeartbeats 2000000 in
theorem selectors (p : Nat) (a : Option Addr) (bs : List UInt8) (cap n : Nat) (w : World) (hn : n ≤ 1099511600000) (hm : bs.length ≤ 1099511627776) (hs : Src w p a bs cap n) :
    Calls Try.prog 78 #[.pointer (some ⟨p, 0, none⟩)] w fun e w' => ∃ (v : Value) (ms : List R), e = .returned v ∧ IsSet w' v ms w.heap.size ∧ setB ms = true ∧ ms.length ≤ 10 ∧ w.grownBy w' (some p) ∧ Src w' p a bs cap (n + 99) := by
  have hp := hs.lt
  have HBA : Hid (Below w.heap.size w (w.alloc (.cells #[] 57))) := hide ((Below.refl _ _).alloc (Nat.le_refl _) _)
  have S0 := hide (hs.below (unhide HBA))
  have hz0 : w.heap.size < (w.alloc (.cells #[] 57)).heap.size := by simp
  clear hs
  go_enter Try.func78, Try.ntmps78
  go_wp2_with fail
  refine (next p a bs cap n 5 _ (by omega) (by omega) (by omega) hm (unhide S0)).mono ?_
  rintro e w1 ⟨t, rfl, ht, wr1, s1⟩
  have S1 := hide s1
  have G1 := hide (but_trans (but_below (p := p) (unhide HBA)) (but_wrote wr1))
  have hz1 : w.heap.size < w1.heap.size := by rw [wr1.size]; exact hz0
  clear s1 wr1 S0 HBA
  go_wp2_with fail
  go_loopw [3, 4] (fun v i wr => ∃ (j : Nat) (ms : List R) (g c : Nat), j ≤ t ∧ i = .int .i64 ((t - j : Nat) : Int) ∧ v = .slice (some ⟨g, 0, none⟩) ms.length c ∧ ms.length ≤ j ∧ w.heap.size ≤ g ∧ Hid (g < wr.heap.size) ∧ Hid (setB ms = true) ∧ Hid (RM wr (some ⟨g, 0, none⟩) ms) ∧ Hid (w.grownBy wr (some p)) ∧ Hid (Src wr p a bs cap (n + 3 + 9 * j))) (fun _ i _ => (intOf i).toNat)
  case atStart => exact ⟨0, [], w.heap.size, 0, by omega, by simp, rfl, by simp, Nat.le_refl _, hide hz1, hide rfl, hide (.inl rfl), G1, S1⟩
  case round =>
    obtain ⟨j, ms, g, c, hj, rfl, rfl, hl, hg, hgl, hset, hrm, hgr, hsr⟩ := hrel
    by_cases hlt : (0 : Int) < ((t - j : Nat) : Int)
    · go_wp2_with fail
      refine (Sr.addr p a bs cap (n + 3 + 9 * j) _ (by omega) hm (unhide hsr)).mono ?_
      rintro e w2 ⟨key, rfl, h1, h2, wr2, s2⟩
      have R2 := hide (rm_grown (unhide hrm) (but_wrote wr2) (by intro e; cases e; omega))
      have S2 := hide s2
      have G2 := hide (but_trans (unhide hgr) (but_wrote wr2))
      have hz2 : Hid (g < w2.heap.size) := hide (by rw [wr2.size]; exact unhide hgl)
      clear wr2 s2
      go_wp2_with fail
      refine (next p a bs cap (n + 3 + 9 * j + 3) 20 _ (by omega) (by omega) (by omega) hm (unhide S2)).mono ?_
      rintro e w3 ⟨til, rfl, h3, wr3, s3⟩
      have R3 := hide (rm_grown (unhide R2) (but_wrote wr3) (by intro e; cases e; omega))
      have S3 := hide s3
      have G3 := hide (but_trans (unhide G2) (but_wrote wr3))
      have hz3 : Hid (g < w3.heap.size) := hide (by rw [wr3.size]; exact unhide hz2)
      have HOK := hide (sel_ok (k := key) h2 h3)
      clear wr3 s3
      go_wp2_with fail
      refine (l03Put g 0 ms c key til 0 _ (by omega) (unhide R3)).mono ?_
      rintro e w4 ⟨v, rfl, b4, l4⟩
      have hps : Hid (setB (putL ms ⟨key, til, 0⟩) = true) := hide (put_set (unhide hset) (unhide HOK) (by omega))
      have hpl := put_le ms ⟨key, til, 0⟩
      have hpn := put_ne ms ⟨key, til, 0⟩
      obtain ⟨a4, c4, rfl, L4⟩ := l4
      rcases L4 with h0 | ⟨g4, rfl, h4, h5, h6, hu⟩
      · rw [h0] at hpn; simp at hpn
      have R4 := hide (rm_of hu)
      have S4 := hide ((unhide S3).below b4)
      have G4 := hide (but_trans (unhide G3) (but_below b4))
      have hz4 : Hid (g4 < w4.heap.size) := hide h6
      have hw3 := (unhide G3).size
      clear b4 hu
      generalize putL ms ⟨key, til, 0⟩ = ms' at *
      go_wp2_with fail
      go_roundw
      case rel => exact ⟨j + 1, ms', g4, c4, by omega, by first | go_num | (congr 1; omega), rfl, by omega, by omega, hz4, hps, R4, G4, hide ((unhide S4).mono (by omega))⟩
      case measure => simp [intOf]; omega
    · go_wp2_with fail
      go_ret
      exact ⟨_, rfl, ms, ⟨g, c, rfl, hg, unhide hgl, unhide hrm⟩, unhide hset, by omega, unhide hgr, (unhide hsr).mono (by omega)⟩
set_option maxHeartbeats 2000000 in
theorem dups (p : Nat) (a : Option Addr) (bs : List UInt8) (cap n : Nat) (w : World) (hn : n ≤ 1099511600000) (hm : bs.length ≤ 1099511627776) (hs : Src w p a bs cap n) :
    Calls Try.prog 63 #[.pointer (some ⟨p, 0, none⟩)] w fun e w' => ∃ (v : Value) (ms : List R), e = .returned v ∧ IsSet w' v ms w.heap.size ∧ setB ms = true ∧ ms.length ≤ 10 ∧ w.grownBy w' (some p) ∧ Src w' p a bs cap (n + 300) := by
  have hp := hs.lt
  have HBA : Hid (Below w.heap.size w (w.alloc (.cells #[] 57))) := hide ((Below.refl _ _).alloc (Nat.le_refl _) _)
  have S0 := hide (hs.below (unhide HBA))
  have hz0 : w.heap.size < (w.alloc (.cells #[] 57)).heap.size := by simp
  clear hs
  go_enter Try.func63, Try.ntmps63
  go_wp2_with fail
  refine (next p a bs cap n 9 _ (by omega) (by omega) (by omega) hm (unhide S0)).mono ?_
  rintro e w1 ⟨t, rfl, ht, wr1, s1⟩
  have S1 := hide s1
  have G1 := hide (but_trans (but_below (p := p) (unhide HBA)) (but_wrote wr1))
  have hz1 : w.heap.size < w1.heap.size := by rw [wr1.size]; exact hz0
  clear s1 wr1 S0 HBA
  go_wp2_with fail
  go_loopw [3, 4] (fun v i wr => ∃ (j : Nat) (ms : List R) (g c : Nat), j ≤ t ∧ i = .int .i64 ((t - j : Nat) : Int) ∧ v = .slice (some ⟨g, 0, none⟩) ms.length c ∧ ms.length ≤ j ∧ w.heap.size ≤ g ∧ Hid (g < wr.heap.size) ∧ Hid (setB ms = true) ∧ Hid (RM wr (some ⟨g, 0, none⟩) ms) ∧ Hid (w.grownBy wr (some p)) ∧ Hid (Src wr p a bs cap (n + 3 + 20 * j))) (fun _ i _ => (intOf i).toNat)
  case atStart => exact ⟨0, [], w.heap.size, 0, by omega, by simp, rfl, by simp, Nat.le_refl _, hide hz1, hide rfl, hide (.inl rfl), G1, S1⟩
  case round =>
    obtain ⟨j, ms, g, c, hj, rfl, rfl, hl, hg, hgl, hset, hrm, hgr, hsr⟩ := hrel
    by_cases hlt : (0 : Int) < ((t - j : Nat) : Int)
    · go_wp2_with fail
      refine (Sr.addr p a bs cap (n + 3 + 20 * j) _ (by omega) hm (unhide hsr)).mono ?_
      rintro e w2 ⟨og, rfl, h1, h2, wr2, s2⟩
      have R2 := hide (rm_grown (unhide hrm) (but_wrote wr2) (by intro e; cases e; omega))
      have S2 := hide s2
      have G2 := hide (but_trans (unhide hgr) (but_wrote wr2))
      clear wr2 s2
      go_wp2_with fail
      refine (next p a bs cap (n + 3 + 20 * j + 3) 5 _ (by omega) (by omega) (by omega) hm (unhide S2)).mono ?_
      rintro e w3 ⟨sq, rfl, h3, wr3, s3⟩
      have R3 := hide (rm_grown (unhide R2) (but_wrote wr3) (by intro e; cases e; omega))
      have S3 := hide s3
      have G3 := hide (but_trans (unhide G2) (but_wrote wr3))
      clear wr3 s3
      go_wp2_with fail
      refine (next p a bs cap (n + 3 + 20 * j + 3 + 3) 9 _ (by omega) (by omega) (by omega) hm (unhide S3)).mono ?_
      rintro e w4 ⟨now, rfl, h4, wr4, s4⟩
      have R4 := hide (rm_grown (unhide R3) (but_wrote wr4) (by intro e; cases e; omega))
      have S4 := hide s4
      have G4 := hide (but_trans (unhide G3) (but_wrote wr4))
      clear wr4 s4
      go_wp2_with fail
      refine (Dw.chance p a bs cap (n + 3 + 20 * j + 3 + 3 + 3) 2 _ (by omega) (by omega) (by omega) hm (unhide S4)).mono ?_
      rintro e w5 ⟨sn, rfl, wr5, s5⟩
      have R5 := hide (rm_grown (unhide R4) (but_wrote wr5) (by intro e; cases e; omega))
      have S5 := hide s5
      have G5 := hide (but_trans (unhide G4) (but_wrote wr5))
      have HA := hide (ask_small (og := og) (sq := sq) h1 h2 (by omega))
      have HOK := hide (new_ok (now := (now : Int)) (s := sn) (unhide HA) (by omega) (by omega))
      clear wr5 s5
      go_wp2_with fail
      refine (l10Mark g 0 ms c og sq now sn _ (unhide HA) (by omega) (by omega) (by omega) (unhide R5)).mono ?_
      rintro e w6 ⟨v, rfl, b6, l6⟩
      have hps : Hid (setB (putL ms (newD og sq now sn)) = true) := hide (put_set (unhide hset) (unhide HOK) (by omega))
      have hpl := put_le ms (newD og sq now sn)
      have hpn := put_ne ms (newD og sq now sn)
      obtain ⟨a6, c6, rfl, L6⟩ := l6
      rcases L6 with h0 | ⟨g6, rfl, h7, h8, h9, hu⟩
      · rw [h0] at hpn; simp at hpn
      have R6 := hide (rm_of hu)
      have S6 := hide ((unhide S5).below b6)
      have G6 := hide (but_trans (unhide G5) (but_below b6))
      have hz6 : Hid (g6 < w6.heap.size) := hide h9
      have hw3 := (unhide G5).size
      have hcode : putC ms (newD og sq now sn) = 0 := by unfold putC; split; rfl; rw [if_neg (by omega)]
      clear b6 hu
      generalize putC ms (newD og sq now sn) = Cc at *
      subst hcode
      generalize putL ms (newD og sq now sn) = ms' at *
      go_wp2_with fail
      go_roundw
      case rel => exact ⟨j + 1, ms', g6, c6, by omega, by first | go_num | (congr 1; omega), rfl, by omega, by omega, hz6, hps, R6, G6, hide ((unhide S6).mono (by omega))⟩
      case measure => simp [intOf]; omega
    · go_wp2_with fail
      go_ret
      exact ⟨_, rfl, ms, ⟨g, c, rfl, hg, unhide hgl, unhide hrm⟩, unhide hset, by omega, unhide hgr, (unhide hsr).mono (by omega)⟩
theorem selectorsOf (a : Option Addr) (bs : List UInt8) (cap : Nat) (w : World) (hm : bs.length ≤ 1048576) (hr : Reads w a bs) :
    Calls Try.prog 26 #[.slice a bs.length cap] w fun e w' => ∃ (v : Value) (ms : List R), e = .returned v ∧ IsSet w' v ms w.heap.size ∧ setB ms = true ∧ ms.length ≤ 10 ∧ Below w.heap.size w w' := by
  have HR := hide hr
  clear hr
  go_enter Try.func26, Try.ntmps26
  go_wp2_with fail
  refine (source a bs cap w hm (unhide HR)).mono ?_
  rintro e w1 ⟨p, rfl, hp, b1, s1⟩
  have B1 := hide b1
  have S1 := hide s1
  clear b1 s1
  go_wp2_with fail
  refine (selectors p a bs cap 0 w1 (by omega) (by omega) (unhide S1)).mono ?_
  rintro e w2 ⟨v, ms, rfl, hv, hset, hl, g2, s2⟩
  obtain ⟨g, c, rfl, h1, h2, h3⟩ := hv
  have hb := unhide B1
  have B2 : Hid (Below w.heap.size w w2) := hide (hb.grown g2 hb.size (fun k hk => by cases hk; exact hp))
  have HS := hide hset
  have HV : Hid (IsSet w2 (.slice (some ⟨g, 0, none⟩) ms.length c) ms w.heap.size) := hide ⟨g, c, rfl, Nat.le_trans hb.size h1, h2, h3⟩
  clear g2 s2 h3 hset hb
  go_wp2_with fail
  go_ret
  first | exact ⟨_, ms, rfl, unhide HV, unhide HS, hl, unhide B2⟩ | exact ⟨_, rfl, ms, unhide HV, unhide HS, hl, unhide B2⟩
theorem dupsOf (a : Option Addr) (bs : List UInt8) (cap : Nat) (w : World) (hm : bs.length ≤ 1048576) (hr : Reads w a bs) :
    Calls Try.prog 18 #[.slice a bs.length cap] w fun e w' => ∃ (v : Value) (ms : List R), e = .returned v ∧ IsSet w' v ms w.heap.size ∧ setB ms = true ∧ ms.length ≤ 10 ∧ Below w.heap.size w w' := by
  have HR := hide hr
  clear hr
  go_enter Try.func18, Try.ntmps18
  go_wp2_with fail
  refine (source a bs cap w hm (unhide HR)).mono ?_
  rintro e w1 ⟨p, rfl, hp, b1, s1⟩
  have B1 := hide b1
  have S1 := hide s1
  clear b1 s1
  go_wp2_with fail
  refine (dups p a bs cap 0 w1 (by omega) (by omega) (unhide S1)).mono ?_
  rintro e w2 ⟨v, ms, rfl, hv, hset, hl, g2, s2⟩
  obtain ⟨g, c, rfl, h1, h2, h3⟩ := hv
  have hb := unhide B1
  have B2 : Hid (Below w.heap.size w w2) := hide (hb.grown g2 hb.size (fun k hk => by cases hk; exact hp))
  have HS := hide hset
  have HV : Hid (IsSet w2 (.slice (some ⟨g, 0, none⟩) ms.length c) ms w.heap.size) := hide ⟨g, c, rfl, Nat.le_trans hb.size h1, h2, h3⟩
  clear g2 s2 h3 hset hb
  go_wp2_with fail
  go_ret
  first | exact ⟨_, ms, rfl, unhide HV, unhide HS, hl, unhide B2⟩ | exact ⟨_, rfl, ms, unhide HV, unhide HS, hl, unhide B2⟩
end Du
end Go.Proofs.Ytlcppgnnlgigmaa
