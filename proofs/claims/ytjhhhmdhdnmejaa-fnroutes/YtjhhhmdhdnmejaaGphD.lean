/-
  A drawn graph: a right one, whatever the source has. (written out of TwoD)
-/
import Derived.Test.YtjhhhmdhdnmejaaTwoD
import Derived.Test.YtjhhhmdhdnmejaaGphA
namespace Go.Proofs.Ytjhhhmdhdnmejaa
open Go.ChangeShapes Go.WideShapes Go.ChangeAt Go.RowKit
set_option linter.unusedVariables false
set_option linter.unusedSimpArgs false
attribute [local go_sem ↓] Go.wp_at_zero Go.wp_at_succ
namespace Wd
open W1 Tu St By Sr Dw Tw
def Sg (ms : List R) : Prop := twoB ms = true ∧ ∀ m ∈ ms, 1 ≤ m.val
theorem sg_nil : Sg [] := ⟨rfl, fun m hm => by cases hm⟩
theorem sg_put {ms : List R} (h : Sg ms) {v u x : Nat} (h1 : 1 ≤ v) (h2 : v ≤ 8) (h3 : 1 ≤ u) (h4 : u ≤ 8) (hne : v ≠ u) (hx : x < 10) : Sg (putL ms ⟨100 * (v : Int) + (u : Int), 0, 1 + (x : Int)⟩) := by
  obtain ⟨e1, e2⟩ := hop_mk (v := (v : Int)) (a := (u : Int)) (t := 0) (u := 1 + (x : Int)) (by omega) (by omega) (by omega)
  refine ⟨two_put h.1 ?_ ?_, fun m hm => ?_⟩
  · unfold okR inB; simp; omega
  · unfold okK; rw [e1, e2]; unfold inB; simp; omega
  · rcases mem_put hm with rfl | hm
    · dsimp only; omega
    · exact h.2 m hm
theorem sg_len {ms : List R} (h : Sg ms) : ms.length ≤ 62 := two_len h.1
theorem sg_graph {ms : List R} (h : Sg ms) : graphB ms = true := by
  unfold graphB posJ
  rw [h.1, Bool.true_and, List.take_length, List.all_eq_true]
  intro m hm; exact decide_eq_true (h.2 m hm)
set_option maxRecDepth 100000 in
set_option maxHeartbeats 4000000 in
theorem drawGraph (p : Nat) (a : Option Addr) (bs : List UInt8) (cap n : Nat) (w : World) (hn : n ≤ 1099511600000) (hm : bs.length ≤ 1099511627776) (hs : Src w p a bs cap n) :
    Calls Try.prog 54 #[.pointer (some ⟨p, 0, none⟩)] w fun e w' => ∃ (g : Nat) (ms : List R) (c : Nat), e = .returned (.slice (some ⟨g, 0, none⟩) ms.length c) ∧ Sg ms ∧ Lst w' (some ⟨g, 0, none⟩) ms w.heap.size w'.heap.size ∧ w.grownBy w' (some p) ∧ Src w' p a bs cap (n + 300) := by
  have hp := src_lt hs
  have HBA : Hid (Below w.heap.size w (w.alloc (.cells #[] 56))) := hide ((Below.refl _ _).alloc (Nat.le_refl _) _)
  have S0 := hide (src_below hs (unhide HBA))
  clear hs
  go_enter Try.func54, Try.ntmps54
  go_wp2_with fail
  refine (next p a bs cap n 20 _ (by omega) (by omega) (by omega) hm (unhide S0)).mono ?_
  rintro e w1 ⟨t, rfl, ht, wr1, s1⟩
  have S1 := hide s1
  have G1 := hide (but_trans (but_below (p := p) (unhide HBA)) (but_wrote wr1))
  clear s1 wr1 S0 HBA
  go_wp2_with fail
  go_loopw [3, 4] (fun v i wr => ∃ (j : Nat) (ms : List R) (g c : Nat), j ≤ t ∧ i = .int .i64 ((t - j : Nat) : Int) ∧ v = .slice (some ⟨g, 0, none⟩) ms.length c ∧ Hid (Sg ms) ∧ Hid (Lst wr (some ⟨g, 0, none⟩) ms w.heap.size wr.heap.size) ∧ Hid (w.grownBy wr (some p)) ∧ Hid (Src wr p a bs cap (n + 3 + 12 * j))) (fun _ i _ => (intOf i).toNat)
  case atStart => exact ⟨0, [], w.heap.size, 0, by omega, by simp, rfl, hide sg_nil, hide (.inl rfl), G1, S1⟩
  case round =>
    obtain ⟨j, ms, g, c, hj, rfl, rfl, hsm, hls, hgr, hsr⟩ := hrel
    rcases hk : t - j with _ | k
    · go_wp2_with fail
      go_ret
      first | exact ⟨g, ms, c, rfl, unhide hsm, unhide hls, unhide hgr, (unhide hsr).mono (by omega)⟩ | exact ⟨g, ms, ⟨c, rfl⟩, unhide hsm, unhide hls, unhide hgr, (unhide hsr).mono (by omega)⟩
    · have hjt : j < t := by omega
      have hkj : k = t - (j + 1) := by omega
      have HK := hide hkj
      have hk13 : (k : Int) ≤ 19 := by omega
      clear hk hkj
      go_wp2_with fail
      refine (addr p a bs cap (n + 3 + 12 * j) _ (by omega) hm (unhide hsr)).mono ?_
      rintro e w2 ⟨v, rfl, v1, v2, wr2, s2⟩
      have G2 := hide (but_trans (unhide hgr) (but_wrote wr2))
      have L2 := hide (lst_src (unhide hls) (but_wrote wr2) hp)
      have S2 := hide s2
      have z2 := wr2.size
      clear s2 wr2
      go_wp2_with fail
      refine (addr p a bs cap (n + 3 + 12 * j + 3) _ (by omega) hm (unhide S2)).mono ?_
      rintro e w3 ⟨u, rfl, u1, u2, wr3, s3⟩
      have G3 := hide (but_trans (unhide G2) (but_wrote wr3))
      have L3 := hide (lst_src (unhide L2) (but_wrote wr3) hp)
      have S3 := hide s3
      have z3 := wr3.size
      clear s3 wr3
      by_cases huv : v = u
      · have hb : ((v : Int) != (u : Int)) = false := by simp [huv]
        have L4 : Hid (Lst w3 (some ⟨g, 0, none⟩) ms w.heap.size w3.heap.size) := hide ((unhide L3).mono (Nat.le_refl _) (by omega))
        clear huv
        go_wp2_with fail
        go_roundw
        case rel => exact ⟨j + 1, ms, g, c, by omega, by first | (rw [← unhide HK]; go_num) | (rw [unhide HK]; go_num) | (have := unhide HK; congr 1; omega), rfl, hsm, L4, G3, hide ((unhide S3).mono (by omega))⟩
        case measure => have := unhide HK; simp [intOf]
      · have hb : ((v : Int) != (u : Int)) = true := by simp [bne]; omega
        go_wp2_with fail
        refine (l07KeyD v u _ (by omega) (by omega) (by omega) (by omega)).mono ?_
        rintro e w4 ⟨rfl, hw4⟩
        rw [hw4]
        clear hw4
        go_wp2_with fail
        refine (next p a bs cap (n + 3 + 12 * j + 3 + 3) 9 _ (by omega) (by omega) (by omega) hm (unhide S3)).mono ?_
        rintro e w6 ⟨x, rfl, hx6, wr6, s6⟩
        have G6 := hide (but_trans (unhide G3) (but_wrote wr6))
        have L6 := hide (lst_src (unhide L3) (but_wrote wr6) hp)
        have S6 := hide s6
        have z6 := wr6.size
        have HL := sg_len (unhide hsm)
        clear s6 wr6
        have HSM : Hid (Sg (putL ms ⟨100 * (v : Int) + (u : Int), 0, 1 + (x : Int)⟩)) := hide (sg_put (unhide hsm) v1 v2 u1 u2 huv (by omega))
        go_wp2_with fail
        refine (l03PutC g 0 ms c (100 * (v : Int) + (u : Int)) 0 (1 + (x : Int)) _ (by omega) (unhide L6).rm).mono ?_
        rintro e w7 ⟨v7, rfl, b7, l7, h7⟩
        have hpn := put_ne ms ⟨100 * (v : Int) + (u : Int), 0, 1 + (x : Int)⟩
        obtain ⟨a7, c7, rfl, L7⟩ := l7
        rcases L7 with h0 | ⟨g7, rfl, h4, h5, h6, hu⟩
        · rw [h0] at hpn; simp at hpn
        have hg6 := (unhide G6).size
        have L8 : Hid (Lst w7 (some ⟨g7, 0, none⟩) (putL ms ⟨100 * (v : Int) + (u : Int), 0, 1 + (x : Int)⟩) w.heap.size w7.heap.size) := hide (.inr ⟨g7, rfl, by omega, h5, h6, hu⟩)
        have S7 := hide (src_below (unhide S6) b7)
        have G7 := hide (but_trans (unhide G6) (but_below b7))
        clear b7 hu h4 h5 h6 h7 hpn
        generalize putC ms ⟨100 * (v : Int) + (u : Int), 0, 1 + (x : Int)⟩ = pc
        generalize putL ms ⟨100 * (v : Int) + (u : Int), 0, 1 + (x : Int)⟩ = ms' at *
        go_wp2_with fail
        go_roundw
        case rel => exact ⟨j + 1, ms', g7, c7, by omega, by first | (rw [← unhide HK]; go_num) | (rw [unhide HK]; go_num) | (have := unhide HK; congr 1; omega), rfl, HSM, L8, G7, hide ((unhide S7).mono (by omega))⟩
        case measure => have := unhide HK; simp [intOf]
set_option maxRecDepth 100000 in
set_option maxHeartbeats 4000000 in
theorem graphDrawn (a : Option Addr) (bs : List UInt8) (cap : Nat) (w : World) (hm : bs.length ≤ 1048576) (hr : Reads w a bs) :
    Calls Try.prog 17 #[.slice a bs.length cap] w fun e w' => ∃ (x : Option Addr) (ms : List R) (c : Nat), e = .returned (.slice x ms.length c) ∧ graphB ms = true ∧ RM w' x ms ∧ Below w.heap.size w w' := by
  have HR := hide hr
  clear hr
  go_enter Try.func17, Try.ntmps17
  go_wp2_with fail
  refine (source a bs cap w hm (unhide HR)).mono ?_
  rintro e w1 ⟨p, rfl, hp, b1, s1⟩
  have B1 := hide b1
  have S1 := hide s1
  clear b1 s1
  go_wp2_with fail
  refine (drawGraph p a bs cap 0 w1 (by omega) (by omega) (unhide S1)).mono ?_
  rintro e w2 ⟨g2, ms2, c2, rfl, sm2, l2, gr2, s2⟩
  have B2 := hide ((unhide B1).grown gr2 (unhide B1).size (fun k hk => by cases hk; exact hp))
  have GB := hide (sg_graph sm2)
  have HL := hide l2.rm
  clear sm2 l2 gr2 s2
  go_wp2_with fail
  go_ret
  exact ⟨_, ms2, c2, rfl, unhide GB, unhide HL, unhide B2⟩
end Wd
end Go.Proofs.Ytjhhhmdhdnmejaa
