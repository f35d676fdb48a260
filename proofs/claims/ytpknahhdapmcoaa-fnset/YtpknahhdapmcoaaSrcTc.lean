/-
  Contracts of the drawn sets and tuples, with what the answer's slice looks like (written by mkcap.py).
-/
import Derived.Test.YtpknahhdapmcoaaSrcT
import Derived.Test.YtpknahhdapmcoaaSetYc
namespace Go.Proofs.Ytpknahhdapmcoaa
open Go.ChangeShapes Go.WideShapes Go.ChangeAt Go.RowKit
set_option linter.unusedVariables false
set_option linter.unusedSimpArgs false
attribute [local go_sem ↓] Go.wp_at_zero Go.wp_at_succ
namespace Sr
open W1 By Tu St
def IsSetC (W : World) (v : Value) (ms : List R) (lo : Nat) : Prop := ∃ g c, v = .slice (some ⟨g, 0, none⟩) ms.length c ∧ ms.length ≤ c ∧ c ≤ maxLen ∧ lo ≤ g ∧ g < W.heap.size ∧ RM W (some ⟨g, 0, none⟩) ms
set_option maxHeartbeats 2000000 in
theorem setC (p : Nat) (a : Option Addr) (bs : List UInt8) (cap n : Nat) (w : World) (hn : n ≤ 1099511600000) (hm : bs.length ≤ 1099511627776) (hs : Src w p a bs cap n) :
    Calls Try.prog 46 #[.pointer (some ⟨p, 0, none⟩)] w fun e w' => ∃ (v : Value) (ms : List R), e = .returned v ∧ IsSetC w' v ms w.heap.size ∧ setB ms = true ∧ ms.length ≤ 10 ∧ w.grownBy w' (some p) ∧ Src w' p a bs cap (n + 99) := by
  have hp := hs.lt
  have HBA : Hid (Below w.heap.size w (w.alloc (.cells #[] 41))) := hide ((Below.refl _ _).alloc (Nat.le_refl _) _)
  have S0 := hide (hs.below (unhide HBA))
  have hz0 : w.heap.size < (w.alloc (.cells #[] 41)).heap.size := by simp
  clear hs
  go_enter Try.func46, Try.ntmps46
  go_wp2_with fail
  refine (next p a bs cap n 10 _ (by omega) (by omega) (by omega) hm (unhide S0)).mono ?_
  rintro e w1 ⟨t, rfl, ht, wr1, s1⟩
  have S1 := hide s1
  have G1 := hide (but_trans (but_below (p := p) (unhide HBA)) (but_wrote wr1))
  have hz1 : w.heap.size < w1.heap.size := by rw [wr1.size]; exact hz0
  clear s1 wr1 S0 HBA
  go_wp2_with fail
  go_loopw [3, 4] (fun v i wr => ∃ (j : Nat) (ms : List R) (g c : Nat), j ≤ t ∧ i = .int .i64 ((t - j : Nat) : Int) ∧ v = .slice (some ⟨g, 0, none⟩) ms.length c ∧ ms.length ≤ j ∧ Hid (ms.length ≤ c ∧ c ≤ maxLen) ∧ w.heap.size ≤ g ∧ Hid (g < wr.heap.size) ∧ Hid (setB ms = true) ∧ Hid (RM wr (some ⟨g, 0, none⟩) ms) ∧ Hid (w.grownBy wr (some p)) ∧ Hid (Src wr p a bs cap (n + 3 + 9 * j))) (fun _ i _ => (intOf i).toNat)
  case atStart => exact ⟨0, [], w.heap.size, 0, by omega, by simp, rfl, by simp, hide ⟨by simp, Nat.zero_le _⟩, Nat.le_refl _, hide hz1, hide rfl, hide (.inl rfl), G1, S1⟩
  case round =>
    obtain ⟨j, ms, g, c, hj, rfl, rfl, hl, hcp, hg, hgl, hset, hrm, hgr, hsr⟩ := hrel
    by_cases hlt : (0 : Int) < ((t - j : Nat) : Int)
    · go_wp2_with fail
      refine (tuple p a bs cap (n + 3 + 9 * j) _ (by omega) hm (unhide hsr)).mono ?_
      rintro e w2 ⟨key, til, val, rfl, h1, h2, h3, g2, s2⟩
      have R2 := hide (rm_grown (unhide hrm) g2 (by intro e; cases e; omega))
      have S2 := hide s2
      have G2 := hide (but_trans (unhide hgr) g2)
      have hz2 : Hid (g < w2.heap.size) := hide (Nat.lt_of_lt_of_le (unhide hgl) g2.size)
      have HOK := hide (small_ok h1 h2 h3)
      clear g2 s2
      go_wp2_with fail
      refine (l03PutC g 0 ms c key til val _ (by omega) (unhide R2)).mono ?_
      rintro e w3 ⟨v, rfl, b3, l3, hshp⟩
      have hps : Hid (setB (putL ms ⟨key, til, val⟩) = true) := hide (put_set (unhide hset) (unhide HOK) (by omega))
      have hpl := put_le ms ⟨key, til, val⟩
      have hpn := put_ne ms ⟨key, til, val⟩
      obtain ⟨a3, c3, rfl, L3⟩ := l3
      have HCP := hide (show (putL ms ⟨key, til, val⟩).length ≤ c3 ∧ c3 ≤ maxLen from ⟨hshp.at.1, hshp.at.2.1⟩)
      clear hshp
      rcases L3 with h0 | ⟨g3, rfl, h4, h5, h6, hu⟩
      · rw [h0] at hpn; simp at hpn
      have R3 := hide (rm_of hu)
      have S3 := hide ((unhide S2).below b3)
      have G3 := hide (but_trans (unhide G2) (but_below b3))
      have hz3 : Hid (g3 < w3.heap.size) := hide h6
      have hw2 := (unhide G2).size
      clear b3 hu
      generalize putL ms ⟨key, til, val⟩ = ms' at *
      go_wp2_with fail
      go_roundw
      case rel => exact ⟨j + 1, ms', g3, c3, by omega, by first | go_num | (congr 1; omega), rfl, by omega, HCP, by omega, hz3, hps, R3, G3, by rw [show n + 3 + 9 * (j + 1) = n + 3 + 9 * j + 9 by omega]; exact S3⟩
      case measure => simp [intOf]; omega
    · go_wp2_with fail
      go_ret
      exact ⟨_, rfl, ms, ⟨g, c, rfl, (unhide hcp).1, (unhide hcp).2, hg, unhide hgl, unhide hrm⟩, unhide hset, by omega, unhide hgr, (unhide hsr).mono (by omega)⟩
theorem setOfC (a : Option Addr) (bs : List UInt8) (cap : Nat) (w : World) (hm : bs.length ≤ 1048576) (hr : Reads w a bs) :
    Calls Try.prog 21 #[.slice a bs.length cap] w fun e w' => ∃ (v : Value) (ms : List R), e = .returned v ∧ IsSetC w' v ms w.heap.size ∧ setB ms = true ∧ ms.length ≤ 10 ∧ Below w.heap.size w w' := by
  have HR := hide hr
  clear hr
  go_enter Try.func21, Try.ntmps21
  go_wp2_with fail
  refine (source a bs cap w hm (unhide HR)).mono ?_
  rintro e w1 ⟨p, rfl, hp, b1, s1⟩
  have B1 := hide b1
  have S1 := hide s1
  clear b1 s1
  go_wp2_with fail
  refine (setC p a bs cap 0 w1 (by omega) (by omega) (unhide S1)).mono ?_
  rintro e w2 ⟨v, ms, rfl, hv, hset, hl, g2, s2⟩
  obtain ⟨g, c, rfl, hc1, hc2, h1, h2, h3⟩ := hv
  have hb := unhide B1
  have B2 : Hid (Below w.heap.size w w2) := hide (hb.grown g2 hb.size (fun k hk => by cases hk; exact hp))
  have HS := hide hset
  have HV : Hid (IsSetC w2 (.slice (some ⟨g, 0, none⟩) ms.length c) ms w.heap.size) := hide ⟨g, c, rfl, hc1, hc2, Nat.le_trans hb.size h1, h2, h3⟩
  clear g2 s2 h3 hset hb
  go_wp2_with fail
  go_ret
  first | exact ⟨_, ms, rfl, unhide HV, unhide HS, hl, unhide B2⟩ | exact ⟨_, rfl, ms, unhide HV, unhide HS, hl, unhide B2⟩
theorem reads_under {w w' : World} {a : Option Addr} {bs : List UInt8} (h : Reads w a bs) (hb : Below w.heap.size w w') : Reads w' a bs := by
  rcases h with h | ⟨g, off, e, hc⟩
  · exact .inl h
  · exact .inr ⟨g, off, e, fun i hi => (hb.cell (p := ⟨g, off + i, none⟩) (World.block_lt_of_cell? _ _ (hc i hi))).trans (hc i hi)⟩
theorem tupleOf (a : Option Addr) (bs : List UInt8) (cap : Nat) (w : World) (hm : bs.length ≤ 1048576) (hr : Reads w a bs) :
    Calls Try.prog 22 #[.slice a bs.length cap] w fun e w' => ∃ key til val : Nat, e = .returned (.agg #[.int .i64 key, .int .i64 til, .int .i64 val]) ∧ key < 12 ∧ til < 30 ∧ val < 9 ∧ Below w.heap.size w w' := by
  have HBA : Hid (Below w.heap.size w (w.alloc (.cells #[.int .i64 0, .int .i64 0, .int .i64 0] 41))) := hide ((Below.refl _ _).alloc (Nat.le_refl _) _)
  have X : Hid (Bx (w.alloc (.cells #[.int .i64 0, .int .i64 0, .int .i64 0] 41)) w.heap.size R.zero) := hide (by refine ⟨?_, ?_, ?_⟩ <;> simp [World.cell?_alloc_new, R.zero])
  have F0 : Hid (∀ o, (w.alloc (.cells #[.int .i64 0, .int .i64 0, .int .i64 0] 41)).frozen? ⟨w.heap.size, o, none⟩ = false) := hide (fun o => by simp)
  have HSZ : Hid ((w.alloc (.cells #[.int .i64 0, .int .i64 0, .int .i64 0] 41)).heap.size = w.heap.size + 1) := hide (by simp)
  have HR := hide (reads_under hr (unhide HBA))
  clear hr
  go_enter Try.func22, Try.ntmps22
  go_wp2_with fail
  refine (source a bs cap _ hm (unhide HR)).mono ?_
  rintro e w1 ⟨p, rfl, hp, b1, s1⟩
  have B1 := hide b1
  have S1 := hide s1
  have hp1 : w.heap.size < p := by have := unhide HSZ; omega
  have hw1 : w.heap.size < w1.heap.size := by have := unhide HSZ; have := b1.size; omega
  clear b1 s1
  go_wp2_with fail
  refine (tuple p a bs cap 0 w1 (by omega) (by omega) (unhide S1)).mono ?_
  rintro e w2 ⟨key, til, val, rfl, h1, h2, h3, g2, s2⟩
  have hkb := (g2.block w.heap.size hw1 (by intro e; cases e; omega)).trans ((unhide B1).block w.heap.size (by have := unhide HSZ; omega))
  have x0 := (World.cell?_of_block (a := ⟨w.heap.size, 0, none⟩) hkb).trans (unhide X).1
  have x1 := (World.cell?_of_block (a := ⟨w.heap.size, 1, none⟩) hkb).trans (unhide X).2.1
  have x2 := (World.cell?_of_block (a := ⟨w.heap.size, 2, none⟩) hkb).trans (unhide X).2.2
  have y0 := (World.frozen?_of_block (a := ⟨w.heap.size, 0, none⟩) hkb).trans (unhide F0 0)
  have y1 := (World.frozen?_of_block (a := ⟨w.heap.size, 1, none⟩) hkb).trans (unhide F0 1)
  have y2 := (World.frozen?_of_block (a := ⟨w.heap.size, 2, none⟩) hkb).trans (unhide F0 2)
  have hb := (unhide HBA).trans ((unhide B1).mono (unhide HBA).size)
  have B2 : Hid (Below w.heap.size w w2) := hide (hb.grown g2 hb.size (fun k hk => by cases hk; omega))
  clear g2 s2 hb hkb
  go_wp2_with fail
  refine bodyPost_ret (v := .agg #[.int .i64 key, .int .i64 til, .int .i64 val]) (by simp [results, Try.results22, go_sem, x0, x1, x2]) rfl ⟨key, til, val, rfl, h1, h2, h3, ?_⟩
  have hB := unhide B2
  repeat (first | exact hB | refine Below.setCell ?_ (by simp <;> omega) _)
end Sr
end Go.Proofs.Ytpknahhdapmcoaa
