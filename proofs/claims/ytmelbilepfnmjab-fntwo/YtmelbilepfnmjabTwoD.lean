/-
  Drawn two-hop neighbors: right ones, whatever the source has.
-/
import Derived.Test.YtmelbilepfnmjabTwoM
import Derived.Test.YtmelbilepfnmjabSetYc
import Derived.Test.YtmelbilepfnmjabDrw
namespace Go.Proofs.Ytmelbilepfnmjab
open Go.ChangeShapes Go.WideShapes Go.ChangeAt Go.RowKit
set_option linter.unusedVariables false
set_option linter.unusedSimpArgs false
attribute [local go_sem ↓] Go.wp_at_zero Go.wp_at_succ
namespace Tw
open W1 Tu St By Sr Dw
theorem lst_src {w w' : World} {a : Option Addr} {ms : List R} {lo hi p : Nat} (h : Lst w a ms lo hi) (hg : w.grownBy w' (some p)) (hp : p < lo) : Lst w' a ms lo hi :=
  h.but (p := fun k => k ≠ p) hg.size (fun k hk hne => hg.block k hk (by intro e; cases e; exact hne rfl)) (fun k h1 _ => by omega)
/-- Right two-hop neighbors whose times are small. -/
def Sm (ms : List R) : Prop := twoB ms = true ∧ ∀ m ∈ ms, 0 ≤ m.til ∧ m.til < 30
theorem sm_nil : Sm [] := ⟨rfl, fun m hm => by cases hm⟩
theorem sm_put {ms : List R} (h : Sm ms) {v u t x : Nat} (h1 : 1 ≤ v) (h2 : v ≤ 8) (h3 : 1 ≤ u) (h4 : u ≤ 8) (hne : v ≠ u) (ht : t < 30) (hx : x < 10) : Sm (putL ms ⟨100 * (v : Int) + (u : Int), (t : Int), 1 + (x : Int)⟩) := by
  obtain ⟨e1, e2⟩ := hop_mk (v := (v : Int)) (a := (u : Int)) (t := (t : Int)) (u := 1 + (x : Int)) (by omega) (by omega) (by omega)
  refine ⟨two_put h.1 ?_ ?_, fun m hm => ?_⟩
  · unfold okR inB; simp; omega
  · unfold okK; rw [e1, e2]; unfold inB; simp; omega
  · rcases mem_put hm with rfl | hm
    · dsimp only; omega
    · exact h.2 m hm
theorem sm_len {ms : List R} (h : Sm ms) : ms.length ≤ 62 := two_len h.1
set_option maxHeartbeats 400000 in
theorem l07KeyD (v a : Int) (w : World) (h0 : 0 ≤ v) (h1 : v ≤ 1000000) (h2 : 0 ≤ a) (h3 : a ≤ 1000000) : Calls Try.prog 53 #[.int .i64 v, .int .i64 a] w fun e w' => e = .returned (.int .i64 (100 * v + a)) ∧ w' = w := by
  go_enter Try.func53, Try.ntmps53
  go_wp2
  go_ret
  exact ⟨rfl, rfl⟩
set_option maxRecDepth 100000 in
set_option maxHeartbeats 4000000 in
theorem drawTwo (p : Nat) (a : Option Addr) (bs : List UInt8) (cap n : Nat) (w : World) (hn : n ≤ 1099511600000) (hm : bs.length ≤ 1099511627776) (hs : Src w p a bs cap n) :
    Calls Try.prog 50 #[.pointer (some ⟨p, 0, none⟩)] w fun e w' => ∃ (g : Nat) (ms : List R) (c : Nat), e = .returned (.slice (some ⟨g, 0, none⟩) ms.length c) ∧ Sm ms ∧ Lst w' (some ⟨g, 0, none⟩) ms w.heap.size w'.heap.size ∧ w.grownBy w' (some p) ∧ Src w' p a bs cap (n + 200) := by
  have hp := src_lt hs
  have HBA : Hid (Below w.heap.size w (w.alloc (.cells #[] 32))) := hide ((Below.refl _ _).alloc (Nat.le_refl _) _)
  have S0 := hide (src_below hs (unhide HBA))
  clear hs
  go_enter Try.func50, Try.ntmps50
  go_wp2_with fail
  refine (next p a bs cap n 14 _ (by omega) (by omega) (by omega) hm (unhide S0)).mono ?_
  rintro e w1 ⟨t, rfl, ht, wr1, s1⟩
  have S1 := hide s1
  have G1 := hide (but_trans (but_below (p := p) (unhide HBA)) (but_wrote wr1))
  clear s1 wr1 S0 HBA
  go_wp2_with fail
  go_loopw [3, 4] (fun v i wr => ∃ (j : Nat) (ms : List R) (g c : Nat), j ≤ t ∧ i = .int .i64 ((t - j : Nat) : Int) ∧ v = .slice (some ⟨g, 0, none⟩) ms.length c ∧ Hid (Sm ms) ∧ Hid (Lst wr (some ⟨g, 0, none⟩) ms w.heap.size wr.heap.size) ∧ Hid (w.grownBy wr (some p)) ∧ Hid (Src wr p a bs cap (n + 3 + 12 * j))) (fun _ i _ => (intOf i).toNat)
  case atStart => exact ⟨0, [], w.heap.size, 0, by omega, by simp, rfl, hide sm_nil, hide (.inl rfl), G1, S1⟩
  case round =>
    obtain ⟨j, ms, g, c, hj, rfl, rfl, hsm, hls, hgr, hsr⟩ := hrel
    rcases hk : t - j with _ | k
    · go_wp2_with fail
      go_ret
      first | exact ⟨g, ms, c, rfl, unhide hsm, unhide hls, unhide hgr, (unhide hsr).mono (by omega)⟩ | exact ⟨g, ms, ⟨c, rfl⟩, unhide hsm, unhide hls, unhide hgr, (unhide hsr).mono (by omega)⟩
    · have hjt : j < t := by omega
      have hkj : k = t - (j + 1) := by omega
      have HK := hide hkj
      have hk13 : (k : Int) ≤ 13 := by omega
      clear hk hkj
      go_wp2_with fail
      refine (addr p a bs cap (n + 3 + 12 * j) _ (by omega) hm (unhide hsr)).mono ?_
      rintro e w2 ⟨v, rfl, v1, v2, wr2, s2⟩
      have G2 := hide (but_trans (unhide hgr) (but_wrote wr2))
      have L2 := hide (lst_src (unhide hls) (but_wrote wr2) hp)
      have S2 := hide s2
      have z2 := wr2.size
      clear s2 wr2
      go_wp2_with fail
      refine (addr p a bs cap (n + 3 + 12 * j + 3) _ (by omega) hm (unhide S2)).mono ?_
      rintro e w3 ⟨u, rfl, u1, u2, wr3, s3⟩
      have G3 := hide (but_trans (unhide G2) (but_wrote wr3))
      have L3 := hide (lst_src (unhide L2) (but_wrote wr3) hp)
      have S3 := hide s3
      have z3 := wr3.size
      clear s3 wr3
      by_cases huv : v = u
      · have hb : ((v : Int) != (u : Int)) = false := by simp [huv]
        have L4 : Hid (Lst w3 (some ⟨g, 0, none⟩) ms w.heap.size w3.heap.size) := hide ((unhide L3).mono (Nat.le_refl _) (by omega))
        clear huv
        go_wp2_with fail
        go_roundw
        case rel => exact ⟨j + 1, ms, g, c, by omega, by first | (rw [← unhide HK]; go_num) | (rw [unhide HK]; go_num) | (have := unhide HK; congr 1; omega), rfl, hsm, L4, G3, hide ((unhide S3).mono (by omega))⟩
        case measure => have := unhide HK; simp [intOf]
      · have hb : ((v : Int) != (u : Int)) = true := by simp [bne]; omega
        go_wp2_with fail
        refine (l07KeyD v u _ (by omega) (by omega) (by omega) (by omega)).mono ?_
        rintro e w4 ⟨rfl, hw4⟩
        rw [hw4]
        clear hw4
        go_wp2_with fail
        refine (next p a bs cap (n + 3 + 12 * j + 3 + 3) 20 _ (by omega) (by omega) (by omega) hm (unhide S3)).mono ?_
        rintro e w5 ⟨r, rfl, hr5, wr5, s5⟩
        have G5 := hide (but_trans (unhide G3) (but_wrote wr5))
        have L5 := hide (lst_src (unhide L3) (but_wrote wr5) hp)
        have S5 := hide s5
        have z5 := wr5.size
        clear s5 wr5
        go_wp2_with fail
        refine (next p a bs cap (n + 3 + 12 * j + 3 + 3 + 3) 9 _ (by omega) (by omega) (by omega) hm (unhide S5)).mono ?_
        rintro e w6 ⟨x, rfl, hx6, wr6, s6⟩
        have G6 := hide (but_trans (unhide G5) (but_wrote wr6))
        have L6 := hide (lst_src (unhide L5) (but_wrote wr6) hp)
        have S6 := hide s6
        have z6 := wr6.size
        have HL := sm_len (unhide hsm)
        clear s6 wr6
        have HSM : Hid (Sm (putL ms ⟨100 * (v : Int) + (u : Int), (r : Int), 1 + (x : Int)⟩)) := hide (sm_put (unhide hsm) v1 v2 u1 u2 huv (by omega) (by omega))
        go_wp2_with fail
        refine (l03PutC g 0 ms c (100 * (v : Int) + (u : Int)) (r : Int) (1 + (x : Int)) _ (by omega) (unhide L6).rm).mono ?_
        rintro e w7 ⟨v7, rfl, b7, l7, h7⟩
        have hpn := put_ne ms ⟨100 * (v : Int) + (u : Int), (r : Int), 1 + (x : Int)⟩
        obtain ⟨a7, c7, rfl, L7⟩ := l7
        rcases L7 with h0 | ⟨g7, rfl, h4, h5, h6, hu⟩
        · rw [h0] at hpn; simp at hpn
        have hg6 := (unhide G6).size
        have L8 : Hid (Lst w7 (some ⟨g7, 0, none⟩) (putL ms ⟨100 * (v : Int) + (u : Int), (r : Int), 1 + (x : Int)⟩) w.heap.size w7.heap.size) := hide (.inr ⟨g7, rfl, by omega, h5, h6, hu⟩)
        have S7 := hide (src_below (unhide S6) b7)
        have G7 := hide (but_trans (unhide G6) (but_below b7))
        clear b7 hu h4 h5 h6 h7 hpn
        generalize putC ms ⟨100 * (v : Int) + (u : Int), (r : Int), 1 + (x : Int)⟩ = pc
        generalize putL ms ⟨100 * (v : Int) + (u : Int), (r : Int), 1 + (x : Int)⟩ = ms' at *
        go_wp2_with fail
        go_roundw
        case rel => exact ⟨j + 1, ms', g7, c7, by omega, by first | (rw [← unhide HK]; go_num) | (rw [unhide HK]; go_num) | (have := unhide HK; congr 1; omega), rfl, HSM, L8, G7, hide ((unhide S7).mono (by omega))⟩
        case measure => have := unhide HK; simp [intOf]
set_option maxRecDepth 100000 in
set_option maxHeartbeats 4000000 in
theorem twoDrawn (a : Option Addr) (bs : List UInt8) (cap : Nat) (w : World) (hm : bs.length ≤ 1048576) (hr : Reads w a bs) :
    Calls Try.prog 21 #[.slice a bs.length cap] w fun e w' => ∃ (g : Nat) (ms : List R) (c : Nat), e = .returned (.slice (some ⟨g, 0, none⟩) ms.length c) ∧ Sm ms ∧ Lst w' (some ⟨g, 0, none⟩) ms w.heap.size w'.heap.size ∧ Below w.heap.size w w' := by
  have HR := hide hr
  clear hr
  go_enter Try.func21, Try.ntmps21
  go_wp2_with fail
  refine (source a bs cap w hm (unhide HR)).mono ?_
  rintro e w1 ⟨p, rfl, hp, b1, s1⟩
  have B1 := hide b1
  have S1 := hide s1
  have hpl := src_lt s1
  clear b1 s1
  go_wp2_with fail
  refine (drawTwo p a bs cap 0 w1 (by omega) (by omega) (unhide S1)).mono ?_
  rintro e w2 ⟨g2, ms2, c2, rfl, sm2, l2, gr2, s2⟩
  have SM2 := hide sm2
  have L2 := hide l2
  have GR2 := hide gr2
  have S2 := hide s2
  clear sm2 l2 gr2 s2
  go_wp2_with fail
  go_loopw [4, 5] (fun v i wr => ∃ (j : Nat) (ms : List R) (g c : Nat), j ≤ 8 ∧ i = .int .i64 (j : Int) ∧ v = .slice (some ⟨g, 0, none⟩) ms.length c ∧ Hid (Sm ms) ∧ Hid (Lst wr (some ⟨g, 0, none⟩) ms w1.heap.size wr.heap.size) ∧ Hid (w1.grownBy wr (some p)) ∧ Hid (Src wr p a bs cap (0 + 200 + 12 * j))) (fun _ i _ => 8 - (intOf i).toNat)
  case atStart => exact ⟨0, ms2, g2, c2, by omega, by simp, rfl, SM2, L2, GR2, S2⟩
  case round =>
    obtain ⟨j, ms, g, c, hj, rfl, rfl, hsm, hls, hgr, hsr⟩ := hrel
    by_cases hlt : (j : Int) < 8
    · go_wp2_with fail
      refine (addr p a bs cap (0 + 200 + 12 * j) _ (by omega) (by omega) (unhide hsr)).mono ?_
      rintro e w2 ⟨v, rfl, v1, v2, wr2, s2⟩
      have G2 := hide (but_trans (unhide hgr) (but_wrote wr2))
      have L2 := hide (lst_src (unhide hls) (but_wrote wr2) hpl)
      have S2 := hide s2
      have z2 := wr2.size
      clear s2 wr2
      go_wp2_with fail
      refine (addr p a bs cap (0 + 200 + 12 * j + 3) _ (by omega) (by omega) (unhide S2)).mono ?_
      rintro e w3 ⟨u, rfl, u1, u2, wr3, s3⟩
      have G3 := hide (but_trans (unhide G2) (but_wrote wr3))
      have L3 := hide (lst_src (unhide L2) (but_wrote wr3) hpl)
      have S3 := hide s3
      have z3 := wr3.size
      clear s3 wr3
      by_cases huv : v = u
      · have hb : ((v : Int) != (u : Int)) = false := by simp [huv]
        have L4 : Hid (Lst w3 (some ⟨g, 0, none⟩) ms w1.heap.size w3.heap.size) := hide ((unhide L3).mono (Nat.le_refl _) (by omega))
        clear huv
        go_wp2_with fail
        go_roundw
        case rel => exact ⟨j + 1, ms, g, c, by omega, by go_num, rfl, hsm, L4, G3, hide ((unhide S3).mono (by omega))⟩
        case measure => simp [intOf]; omega
      · have hb : ((v : Int) != (u : Int)) = true := by simp [bne]; omega
        go_wp2_with fail
        refine (l07KeyD v u _ (by omega) (by omega) (by omega) (by omega)).mono ?_
        rintro e w4 ⟨rfl, hw4⟩
        rw [hw4]
        clear hw4
        go_wp2_with fail
        refine (next p a bs cap (0 + 200 + 12 * j + 3 + 3) 20 _ (by omega) (by omega) (by omega) (by omega) (unhide S3)).mono ?_
        rintro e w5 ⟨r, rfl, hr5, wr5, s5⟩
        have G5 := hide (but_trans (unhide G3) (but_wrote wr5))
        have L5 := hide (lst_src (unhide L3) (but_wrote wr5) hpl)
        have S5 := hide s5
        have z5 := wr5.size
        clear s5 wr5
        go_wp2_with fail
        refine (next p a bs cap (0 + 200 + 12 * j + 3 + 3 + 3) 9 _ (by omega) (by omega) (by omega) (by omega) (unhide S5)).mono ?_
        rintro e w6 ⟨x, rfl, hx6, wr6, s6⟩
        have G6 := hide (but_trans (unhide G5) (but_wrote wr6))
        have L6 := hide (lst_src (unhide L5) (but_wrote wr6) hpl)
        have S6 := hide s6
        have z6 := wr6.size
        have HL := sm_len (unhide hsm)
        clear s6 wr6
        have HSM0 := sm_put (t := 10 + r) (unhide hsm) v1 v2 u1 u2 huv (by omega) (show x < 10 by omega)
        have e10 : ((10 + r : Nat) : Int) = 10 + (r : Int) := by omega
        rw [e10] at HSM0
        have HSM := hide HSM0
        clear HSM0 e10
        go_wp2_with fail
        refine (l03PutC g 0 ms c (100 * (v : Int) + (u : Int)) (10 + (r : Int)) (1 + (x : Int)) _ (by omega) (unhide L6).rm).mono ?_
        rintro e w7 ⟨v7, rfl, b7, l7, h7⟩
        have hpn := put_ne ms ⟨100 * (v : Int) + (u : Int), 10 + (r : Int), 1 + (x : Int)⟩
        obtain ⟨a7, c7, rfl, L7⟩ := l7
        rcases L7 with h0 | ⟨g7, rfl, h4, h5, h6, hu⟩
        · rw [h0] at hpn; simp at hpn
        have hg6 := (unhide G6).size
        have L8 : Hid (Lst w7 (some ⟨g7, 0, none⟩) (putL ms ⟨100 * (v : Int) + (u : Int), 10 + (r : Int), 1 + (x : Int)⟩) w1.heap.size w7.heap.size) := hide (.inr ⟨g7, rfl, by omega, h5, h6, hu⟩)
        have S7 := hide (src_below (unhide S6) b7)
        have G7 := hide (but_trans (unhide G6) (but_below b7))
        clear b7 hu h4 h5 h6 h7 hpn
        generalize putC ms ⟨100 * (v : Int) + (u : Int), 10 + (r : Int), 1 + (x : Int)⟩ = pc
        generalize putL ms ⟨100 * (v : Int) + (u : Int), 10 + (r : Int), 1 + (x : Int)⟩ = ms' at *
        go_wp2_with fail
        go_roundw
        case rel => exact ⟨j + 1, ms', g7, c7, by omega, by go_num, rfl, HSM, L8, G7, hide ((unhide S7).mono (by omega))⟩
        case measure => simp [intOf]; omega
    · have hb := unhide B1
      have B2 : Hid (Below w.heap.size w wr) := hide (hb.grown (unhide hgr) hb.size (fun k hk => by cases hk; exact hp))
      have HL : Hid (Lst wr (some ⟨g, 0, none⟩) ms w.heap.size wr.heap.size) := hide ((unhide hls).mono hb.size (Nat.le_refl _))
      clear hb
      go_wp2_with fail
      go_ret
      first | exact ⟨g, ms, c, rfl, unhide hsm, unhide HL, unhide B2⟩ | exact ⟨g, ms, ⟨c, rfl⟩, unhide hsm, unhide HL, unhide B2⟩
end Tw
end Go.Proofs.Ytmelbilepfnmjab
