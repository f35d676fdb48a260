/-
  Proved here: for all slices of bytes, laws.FnTc returns true (an advertisement is read back from its bytes, cut it is none) and leaves the slices as they were. No condition but the tables that the card ties to the program's text.
-/
import Derived.Test.YtpknahhdapmcoabDoorAdvF
import Derived.Test.YtpknahhdapmcoabDoorAdvK
import Derived.Test.YtpknahhdapmcoabDoorAdvO
import Derived.Test.YtpknahhdapmcoabDoorAdvT
import Derived.Test.YtpknahhdapmcoabDoorAdvU
import Derived.Test.YtpknahhdapmcoabDoorAdvX
import Derived.Test.YtpknahhdapmcoabDoorAt
import Derived.Test.YtpknahhdapmcoabDoorCards
import Derived.Test.YtpknahhdapmcoabDoorTie
import Derived.OpenVars
import Derived.Deep.DeepHandedRow
import Derived.Lib.LaidTab
namespace Go.Proofs.YtpknahhdapmcoabDoor.fnTc
open Go.ChangeShapes Go.WideShapes Go.ChangeAt Go.RowKit
open W1 By Ed De Sr Av
set_option linter.unusedVariables false
set_option linter.unusedSimpArgs false
attribute [local go_sem ↓] Go.wp_at_zero Go.wp_at_succ
theorem own : ownKnob Tryd.prog.godebug = none := by kernel_rfl
theorem laidOut : laidOutB Tryd.prog = true := by kernel_rfl
theorem sXE {w : World} {b g o : Nat} {x y ad mt : Int} {v : Value} (h : Bx3 w b x y v) (hA : Ed.At w g o ⟨ad, mt⟩) : (Bx3 w b x y v ∧ Ed.At w g o ⟨ad, mt⟩) ∧ w.cell? ⟨b, 0, none⟩ = some (.int .i64 x) ∧ w.cell? ⟨b, 1, none⟩ = some (.int .i64 y) ∧ w.cell? ⟨b, 2, none⟩ = some v ∧ w.cell? ⟨g, o, none⟩ = some (.int .i64 ad) ∧ w.cell? ⟨g, o + 1, none⟩ = some (.int .i64 mt) := ⟨⟨h, hA⟩, h.1, h.2.1, h.2.2, hA.1, hA.2⟩
set_option maxRecDepth 100000 in
set_option maxHeartbeats 8000000 in
theorem walk (a : Option Addr) (bs : List UInt8) (cap : Nat) (hm0 : bs.length ≤ maxLen) (a' : Option Addr) (bs' : List UInt8) (cap' : Nat) (hm0' : bs'.length ≤ maxLen) (w : World) (hr : Reads w a bs) (hr' : Reads w a' bs') (hp : TabP w) :
    Calls Tryd.prog 4 #[.slice a bs.length cap, .slice a' bs'.length cap'] w fun e w' => e = .returned (.bool true) ∧ Below w.heap.size w w' := by
  unfold maxLen at hm0 hm0'
  by_cases hb : (1048576 : Int) < bs.length
  · go_enter Tryd.func4, Tryd.ntmps4
    go_wp2
    go_ret
    exact ⟨rfl, Below.refl _ _⟩
  by_cases hb' : (1048576 : Int) < bs'.length
  · go_enter Tryd.func4, Tryd.ntmps4
    go_wp2
    go_ret
    exact ⟨rfl, Below.refl _ _⟩
  have hbm : bs.length ≤ 1048576 := by omega
  have hbm' : bs'.length ≤ 1048576 := by omega
  have HTP := hide (Lib.tabBelow_of_tabIs hp)
  have HR := hide hr
  have HR' := hide hr'
  clear hr hr' hp
  go_enter Tryd.func4, Tryd.ntmps4
  go_wp2_with fail
  refine (tcOf a bs cap _ hbm (unhide HR)).mono ?_
  rintro e w1 ⟨x, y, g, ms, c, rfl, htc, hl, b1⟩
  have HTC := hide htc
  have h8 := tc_len htc
  have hml : ms.length ≤ 1048576 := by omega
  have B1 := hide b1
  have B2 := hide (b1.alloc b1.size (.cells #[.int .i64 x, .int .i64 y, .slice g ms.length c] 44))
  have T2 := hide (bx3_new w1 x y (.slice g ms.length c) 44)
  have L2 := hide (hl.below ((Below.refl _ _).alloc (Nat.le_refl _) (.cells #[.int .i64 x, .int .i64 y, .slice g ms.length c] 44)))
  have hlt1 : w.heap.size ≤ w1.heap.size := b1.size
  have HEN := hide (dec_enc htc)
  have HEL := hide (enc_len x y ms)
  have HLB := hide (lenB_enc htc)
  have HES : Hid (encS x y ms = strOfNums (tcNums x y ms ms.length)) := hide (by unfold encS; rw [if_pos htc])
  have HEE : Hid (encE x y ms = 0) := hide (by unfold encE; rw [if_pos htc])
  have HTE : Hid (txtE x y ms = 0) := hide (by unfold txtE; rw [if_pos htc])
  have HED : Hid (∀ k, k < ms.length → edA x y ms (ms.getD k R.zero).ad = (ms.getD k R.zero).mt ∧ edE x y ms (ms.getD k R.zero).ad = 0) := hide (fun k hk => ed_at htc hk (fun i hi => beq_eq_false_iff_ne.2 (edge_self htc hk i hi)) rfl)
  clear b1 hl htc
  generalize hsz : strOfNums (tcNums x y ms ms.length) = s at *
  have HBS : Hid (s.data.toList = encB x y ms) := hide (by unfold encB; rw [hsz])
  have hss : s.size = 4 + 3 * ms.length := by rw [← unhide HEL, ← unhide HBS]; simp
  clear hsz
  obtain ⟨z0, z1, z2⟩ := unhide T2
  go_wp2_with fail
  generalize hW : w1.alloc (.cells #[.int .i64 x, .int .i64 y, .slice g ms.length c] 44) = W2 at *
  clear hW
  refine (implEncode x y g ms c _ hml (unhide L2).rm).mono ?_
  rintro e w3 ⟨rfl, b3⟩
  rw [unhide HES, unhide HEE]
  have B3 := hide ((unhide B2).trans (b3.mono (unhide B2).size))
  have T3 := hide ((unhide T2).below b3)
  have L3 := hide ((unhide L2).below b3)
  clear b3 z0 z1 z2
  obtain ⟨z0, z1, z2⟩ := unhide T3
  go_wp2_with fail
  refine (specEncode x y g ms c _ hml (unhide L3).rm).mono ?_
  rintro e w4 ⟨rfl, b4⟩
  rw [unhide HES, unhide HEE]
  have B4 := hide ((unhide B3).trans (b4.mono (unhide B3).size))
  have T4 := hide ((unhide T3).below b4)
  have L4 := hide ((unhide L3).below b4)
  clear b4 z0 z1 z2
  go_wp2_with fail
  refine (implDecode s _ (by omega)).mono ?_
  rintro e w5 ⟨v, rfl, b5, l5⟩
  rw [unhide HBS, (unhide HEN).2.1, (unhide HEN).2.2.1, (unhide HEN).2.2.2.2]
  rw [unhide HBS, (unhide HEN).2.2.2.1] at l5
  obtain ⟨g2, c2, rfl, hl5⟩ := l5
  have B5 := hide ((unhide B4).trans (b5.mono (unhide B4).size))
  have B6 := hide ((unhide B5).alloc (unhide B5).size (.cells #[.int .i64 x, .int .i64 y, .slice g2 ms.length c2] 44))
  have T6 := hide (((unhide T4).below b5).below ((Below.refl _ _).alloc (Nat.le_refl _) (.cells #[.int .i64 x, .int .i64 y, .slice g2 ms.length c2] 44)))
  have L6 := hide (((unhide L4).below b5).below ((Below.refl _ _).alloc (Nat.le_refl _) (.cells #[.int .i64 x, .int .i64 y, .slice g2 ms.length c2] 44)))
  have M6 := hide (hl5.below ((Below.refl _ _).alloc (Nat.le_refl _) (.cells #[.int .i64 x, .int .i64 y, .slice g2 ms.length c2] 44)))
  have V6 := hide (bx3_new w5 x y (.slice g2 ms.length c2) 44)
  clear b5 hl5
  obtain ⟨z0, z1, z2⟩ := unhide T6
  obtain ⟨y0, y1, y2⟩ := unhide V6
  have h4 : ¬ ((s.size : Int) < 4) := by omega
  have hlt5 := (unhide T6).lt
  go_wp2_with fail
  generalize hW : w5.alloc (.cells #[.int .i64 x, .int .i64 y, .slice g2 ms.length c2] 44) = W6 at *
  clear hW
  refine (sameTc x y g2 g ms c2 c _ hml (unhide M6).rm (unhide L6).rm).mono ?_
  rintro e w7 ⟨rfl, b7⟩
  have B7 := hide ((unhide B6).trans (b7.mono (unhide B6).size))
  have T7 := hide ((unhide T6).below b7)
  have L7 := hide ((unhide L6).below b7)
  clear b7 z0 z1 z2 y0 y1 y2 hlt5
  obtain ⟨z0, z1, z2⟩ := unhide T7
  go_wp2_with fail
  refine (implOK x y g ms c _ hml (unhide L7).rm).mono ?_
  rintro e w8 ⟨rfl, b8⟩
  rw [unhide HTC]
  have B8 := hide ((unhide B7).trans (b8.mono (unhide B7).size))
  have T8 := hide ((unhide T7).below b8)
  have L8 := hide ((unhide L7).below b8)
  have R8 := hide (reads_under (unhide HR') (unhide B8))
  clear b8 z0 z1 z2
  go_wp2_with fail
  have hsn : (4 + 3 * (ms.length : Int)) = ((4 + 3 * ms.length : Nat) : Int) := by omega
  rw [hsn]
  refine (Go.Proofs.YtpknahhdapmcoabDoor.At.choice a' bs' cap' 0 (4 + 3 * ms.length) _ (by omega) (by omega) (by omega) hbm' (unhide R8)).mono ?_
  rintro e w9 ⟨k, rfl, hk, q, rfl⟩
  have bq : Below w8.heap.size w8 (w8.drewN q) := Tim.below_drewN (Below.refl _ _) _
  have B9 := hide ((unhide B8).trans (bq.mono (unhide B8).size))
  have T9 := hide ((unhide T8).below bq)
  have L9 := hide ((unhide L8).below bq)
  generalize w8.drewN q = w9 at *
  clear hsn bq B8 T8 L8 R8
  obtain ⟨t, ht⟩ : ∃ t, s.extract 0 k = t := ⟨_, rfl⟩
  have HT : Hid (t.data.toList = (encB x y ms).take k) := hide (by
    rw [← ht, ← unhide HBS, ByteArray.data_extract, Array.toList_extract]
    simp)
  have htz : t.size ≤ 1048576 := by
    have e : t.data.toList.length = t.size := by simp
    rw [← e, unhide HT, List.length_take, unhide HEL]; omega
  have hsl : ∀ W : World, (Instr.slice 9 (.string s) none (some (.int .i64 (k : Int))) none).run Tryd.prog W = .ok (.string t) W := fun W => by
    rw [run_slice_string_h (P := Tryd.prog) W 9 s Tryd.underlying9 .i64 (k : Int) (by omega) (by omega), ← ht]; simp
  have HCUT := hide (dec_cut (unhide HLB) (by rw [unhide HEL]; omega) (k := k) (by rw [unhide HEL]; exact hk))
  clear ht
  go_wp2_with fail
  refine (implDecode t _ htz).mono ?_
  rintro e w10 ⟨v, rfl, b10, l10⟩
  rw [unhide HT, (unhide HCUT).1, (unhide HCUT).2.1, (unhide HCUT).2.2.2]
  obtain ⟨g3, c3, rfl, _⟩ := l10
  have B10 := hide ((unhide B9).trans (b10.mono (unhide B9).size))
  have T10 := hide ((unhide T9).below b10)
  have L10 := hide ((unhide L9).below b10)
  rw [unhide HT, (unhide HCUT).2.2.1]
  have B11 := hide ((unhide B10).alloc (unhide B10).size (.cells #[.int .i64 0, .int .i64 0, .slice g3 ([] : List R).length c3] 44))
  have T11 := hide ((unhide T10).below ((Below.refl _ _).alloc (Nat.le_refl _) (.cells #[.int .i64 0, .int .i64 0, .slice g3 ([] : List R).length c3] 44)))
  have L11 := hide ((unhide L10).below ((Below.refl _ _).alloc (Nat.le_refl _) (.cells #[.int .i64 0, .int .i64 0, .slice g3 ([] : List R).length c3] 44)))
  clear b10 hsl B10 T10 L10
  obtain ⟨z0, z1, z2⟩ := unhide T11
  rw [List.length_nil] at z0 z1 z2 B11 T11 L11 ⊢
  go_wp2_with fail
  generalize hW : w10.alloc (.cells _ _) = W11 at *
  clear hW
  refine (implText x y g ms c _ hml (unhide L11).rm (unhide HTP _ (unhide B11))).mono ?_
  rintro e w12 ⟨rfl, b12⟩
  rw [unhide HTE]
  have B12 := hide ((unhide B11).trans (b12.mono (unhide B11).size))
  have T12 := hide ((unhide T11).below b12)
  have L12 := hide ((unhide L11).below b12)
  clear b12 z0 z1 z2
  obtain ⟨z0, z1, z2⟩ := unhide T12
  go_wp2_with fail
  refine (specText x y g ms c _ hml (unhide L12).rm).mono ?_
  rintro e w13 ⟨rfl, b13⟩
  rw [unhide HTE]
  have B13 := hide ((unhide B12).trans (b13.mono (unhide B12).size))
  have T13 := hide ((unhide T12).below b13)
  have L13 := hide ((unhide L12).below b13)
  clear b13 z0 z1 z2
  generalize txtS x y ms = tx at *
  generalize hN : ms.length = n at *
  have HN := hide hN
  clear hN
  go_wp2_with fail
  go_loopw [18] (fun i wr => ∃ j : Nat, j ≤ n ∧ i = .int .i64 j ∧ Hid (Below w13.heap.size w13 wr)) (fun i _ => n - (intOf i).toNat)
  case atStart => exact ⟨0, by omega, rfl, hide (Below.refl _ _)⟩
  case round =>
    obtain ⟨j, hj, rfl, hbl⟩ := hrel
    have TR := hide ((unhide T13).below (unhide hbl))
    have hbx := (unhide TR).2.2
    by_cases hlt : (j : Int) < (n : Int)
    · have k0 : (0 : Int) ≤ (j : Int) := by omega
      have hlen : j < ms.length := by rw [unhide HN]; omega
      have LR := hide ((unhide L13).below (unhide hbl))
      have RR := hide (unhide LR).rm
      rcases (unhide LR).rm with e0 | ⟨gg, off, rfl, hc⟩
      · exfalso; rw [e0] at hlen; simp at hlen
      have HA := hide (hc j hlen)
      have HE := hide (unhide HED j (by omega))
      clear hc
      generalize hm : ms.getD j R.zero = m at *
      clear hm
      obtain ⟨ad, mt⟩ := m
      dsimp only at HE
      have HCE : Hid (∀ W, RM W (some ⟨gg, off, none⟩) ms → Calls Tryd.prog 25 #[.agg #[.int .i64 x, .int .i64 y, .slice (some ⟨gg, off, none⟩) n c], .int .i64 ad] W fun e w' => e = .returned (.tuple #[.int .i64 mt, .int .i64 0]) ∧ Below W.heap.size W w') := hide (fun W h => by
        have h2 := implEdgeOf x y (some ⟨gg, off, none⟩) ms c ad W (by rw [unhide HN]; omega) h
        rw [(unhide HE).1, (unhide HE).2, unhide HN] at h2; exact h2)
      clear HE
      go_wp2_with fail
      clear hbx
      refine wp_region_noPanic ?_
      refine wp_region_held_drew (S := fun w' => (Bx3 w' w1.heap.size x y (.slice (some ⟨gg, off, none⟩) n c) ∧ Ed.At w' gg (off + j * 2) ⟨ad, mt⟩) ∧ w'.cell? ⟨w1.heap.size, 0, none⟩ = some (.int .i64 x) ∧ w'.cell? ⟨w1.heap.size, 1, none⟩ = some (.int .i64 y) ∧ w'.cell? ⟨w1.heap.size, 2, none⟩ = some (.slice (some ⟨gg, off, none⟩) n c) ∧ w'.cell? ⟨gg, off + j * 2, none⟩ = some (.int .i64 ad) ∧ w'.cell? ⟨gg, off + j * 2 + 1, none⟩ = some (.int .i64 mt)) (by kernel_rfl) (sXE (unhide TR).drew (unhide HA).drew) (fun hHeld => ?_)
      (refine Rg.tk (i := 0) (d := 101) (v := ?_) rfl rfl (by kernel_rfl) (by kernel_rfl) (by kernel_rfl) (fun _ _ _ h => h) (by rfl) ?_ (by assumption) ?_; rotate_left; (focus (intro w0 hSw; (try dsimp only at hSw); go_simp; (try with_reducible rfl))); (try simp only [Act.put, List.setIfInBounds_toArray, List.set_cons_zero, List.set_cons_succ]))
      (refine Rg.tk (i := 1) (d := 102) (v := ?_) rfl rfl (by kernel_rfl) (by kernel_rfl) (by kernel_rfl) (fun _ _ _ h => h) (by rfl) ?_ (by assumption) ?_; rotate_left; (focus (intro w0 hSw; (try dsimp only at hSw); go_simp; (try with_reducible rfl))); (try simp only [Act.put, List.setIfInBounds_toArray, List.set_cons_zero, List.set_cons_succ]))
      (refine Rg.tk (i := 2) (d := 103) (v := ?_) rfl rfl (by kernel_rfl) (by kernel_rfl) (by kernel_rfl) (fun _ _ _ h => h) (by rfl) ?_ (by assumption) ?_; rotate_left; (focus (intro w0 hSw; (try dsimp only at hSw); go_simp; (try with_reducible rfl))); (try simp only [Act.put, List.setIfInBounds_toArray, List.set_cons_zero, List.set_cons_succ]))
      (refine Rg.tk (i := 3) (d := 104) (v := ?_) rfl rfl (by kernel_rfl) (by kernel_rfl) (by kernel_rfl) (fun _ _ _ h => h) (by rfl) ?_ (by assumption) ?_; rotate_left; (focus (intro w0 hSw; (try dsimp only at hSw); go_simp; (try with_reducible rfl))); (try simp only [Act.put, List.setIfInBounds_toArray, List.set_cons_zero, List.set_cons_succ]))
      (refine Rg.tk (i := 4) (d := 105) (v := ?_) rfl rfl (by kernel_rfl) (by kernel_rfl) (by kernel_rfl) (fun _ _ _ h => h) (by rfl) ?_ (by assumption) ?_; rotate_left; (focus (intro w0 hSw; (try dsimp only at hSw); go_simp; (try with_reducible rfl))); (try simp only [Act.put, List.setIfInBounds_toArray, List.set_cons_zero, List.set_cons_succ]))
      (refine Rg.tk (i := 5) (d := 106) (v := ?_) rfl rfl (by kernel_rfl) (by kernel_rfl) (by kernel_rfl) (fun _ _ _ h => h) (by rfl) ?_ (by assumption) ?_; rotate_left; (focus (intro w0 hSw; (try dsimp only at hSw); go_simp; (try with_reducible rfl))); (try simp only [Act.put, List.setIfInBounds_toArray, List.set_cons_zero, List.set_cons_succ]))
      (refine Rg.tk (i := 6) (d := 107) (v := ?_) rfl rfl (by kernel_rfl) (by kernel_rfl) (by kernel_rfl) (fun _ _ _ h => h) (by rfl) ?_ (by assumption) ?_; rotate_left; (focus (intro w0 hSw; (try dsimp only at hSw); go_simp; (try with_reducible rfl))); (try simp only [Act.put, List.setIfInBounds_toArray, List.set_cons_zero, List.set_cons_succ]))
      (refine wpAnyH_ready (rs := [7]) (by kernel_rfl) (by simp) ?_; refine AllReadyH.cons (o := _) rfl (fun K hK => ?_) AllReadyH.nil; go_simp)
      refine (unhide HCE _ ((unhide RR).below (Below.refl _ _).drew)).mono ?_
      rintro e v1 ⟨rfl, d1⟩
      have T1 := hide ((unhide TR).drew.below d1)
      have A1 := hide ((unhide HA).drew.below d1)
      have D1 := hide ((unhide hbl).drew.trans (d1.mono (by show w13.heap.size ≤ wr.heap.size; exact (unhide hbl).size)))
      clear d1 hHeld
      refine hK.out _ _ (sXE (unhide T1) (unhide A1)) (fun hHeld => ?_)
      clear hK K
      (try simp only [Act.put, List.setIfInBounds_toArray, List.set_cons_zero, List.set_cons_succ])
      (refine Rg.tk (i := 8) (d := 100) (v := ?_) rfl rfl (by kernel_rfl) (by kernel_rfl) (by kernel_rfl) (fun _ _ _ h => h) (by rfl) ?_ (by assumption) ?_; rotate_left; (focus (intro w0 hSw; (try dsimp only at hSw); go_simp; (try with_reducible rfl))); (try simp only [Act.put, List.setIfInBounds_toArray, List.set_cons_zero, List.set_cons_succ]))
      (refine Rg.tk (i := 9) (d := 109) (v := ?_) rfl rfl (by kernel_rfl) (by kernel_rfl) (by kernel_rfl) (fun _ _ _ h => h) (by rfl) ?_ (by assumption) ?_; rotate_left; (focus (intro w0 hSw; (try dsimp only at hSw); go_simp; (try with_reducible rfl))); (try simp only [Act.put, List.setIfInBounds_toArray, List.set_cons_zero, List.set_cons_succ]))
      (refine Rg.tk (i := 10) (d := 110) (v := ?_) rfl rfl (by kernel_rfl) (by kernel_rfl) (by kernel_rfl) (fun _ _ _ h => h) (by rfl) ?_ (by assumption) ?_; rotate_left; (focus (intro w0 hSw; (try dsimp only at hSw); go_simp; (try with_reducible rfl))); (try simp only [Act.put, List.setIfInBounds_toArray, List.set_cons_zero, List.set_cons_succ]))
      (refine Rg.tk (i := 11) (d := 19) (v := ?_) rfl rfl (by kernel_rfl) (by kernel_rfl) (by kernel_rfl) (fun _ _ _ h => h) (by rfl) ?_ (by assumption) ?_; rotate_left; (focus (intro w0 hSw; (try dsimp only at hSw); go_simp; (try with_reducible rfl))); (try simp only [Act.put, List.setIfInBounds_toArray, List.set_cons_zero, List.set_cons_succ]))
      (refine Rg.tk (i := 12) (d := 20) (v := ?_) rfl rfl (by kernel_rfl) (by kernel_rfl) (by kernel_rfl) (fun _ _ _ h => h) (by rfl) ?_ (by assumption) ?_; rotate_left; (focus (intro w0 hSw; (try dsimp only at hSw); go_simp; (try with_reducible rfl))); (try simp only [Act.put, List.setIfInBounds_toArray, List.set_cons_zero, List.set_cons_succ]))
      refine wpAnyH_done (by kernel_rfl) (NoPanic.normal ?_) _
      clear hHeld
      obtain ⟨x0, x1, x2⟩ := unhide T1
      obtain ⟨f0, f1⟩ := unhide A1
      dsimp only at f0 f1
      go_wp2_with fail
      clear x0 x1 x2 f0 f1
      go_roundw
      case rel => exact ⟨j + 1, by omega, by go_num, D1⟩
      case measure => simp [intOf]; omega
    · obtain rfl : j = n := by omega
      have HF := hide ((unhide B13).trans ((unhide hbl).mono (unhide B13).size))
      go_wp2_with fail
      go_ret
      exact ⟨rfl, unhide HF⟩

set_option maxRecDepth 100000
theorem gTab : Tryd.prog.globalNamed "internal/strconv.uint64pow10" = some 1 := by kernel_rfl
theorem gType : (Tryd.prog.globals[1]?).map (·.type) = some 122 := by kernel_rfl
theorem cellsA : Tryd.prog.cellsOf 122 = 20 := by kernel_rfl
theorem cellsU : Tryd.prog.cellsOf 114 = 1 := by kernel_rfl
theorem table {W : World} (h : laidMetH Tryd.prog Rows.fnTcRow.laid W) : TabP W := by
  have h1 := h.filter (fun x => x.1 == "internal/strconv.uint64pow10")
  have e : (Rows.fnTcRow.laid.filter (fun x => x.1 == "internal/strconv.uint64pow10")) = [("internal/strconv.uint64pow10", Lib.tabData .u64 Lib.pow10Tab)] := by kernel_rfl
  rw [e] at h1
  exact Lib.tabIs_of_head gTab gType Tryd.underlying122 Tryd.underlying114 cellsU cellsA (laidMetH_iff.1 h1).1

/-- What the walk gives, for every argument and every world that holds the tables. -/
theorem contract (H : Type) (enc : TypeId × Value → H) (W : World) (base : Nat) (args : Array Value) (ds gs : List (DataW H)) (before : List MemPlace)
    (hval0 : ∀ (j : Nat) t v, Tryd.f4.params[j]? = some t → args[j]? = some v → Value.okWide Tryd.prog W .any base t v)
    (hW : DataW.Whole enc Tryd.prog Tryd.f4.params.toList Rows.fnTcSpec.vars false W args.toList ds gs before) (hL : laidMetH Tryd.prog Rows.fnTcRow.laid W) :
    Calls Tryd.prog 4 args W fun e W' => ∃ v, e = .returned v ∧ Rows.fnTcSpec.post enc Tryd.prog Tryd.f4 false true false false W args v W' := by
  have hval := hval0
  have hW' := hW
  obtain ⟨p, q, hA0, hV, rfl, hfz, hnd⟩ := hW
  have hA : DataW.TrodAll enc Tryd.prog W 0 (fun _ => true) true Tryd.f4.params.toList args.toList ds p := hA0
  rw [Tryd.params4] at hA hval
  obtain ⟨v0, vs0, d0, ds0, p0, q0, hargs0, rfl, rfl, h0, r0⟩ := trodAll_cons hA
  obtain ⟨v1, vs1, d1, ds1, p1, q1, hargs1, rfl, rfl, h1, r1⟩ := trodAll_cons r0
  obtain ⟨rfl, rfl, rfl⟩ := trodAll_nil r1
  obtain rfl : args = #[v0, v1] := by cases args; simp_all
  obtain ⟨rfl, rfl⟩ := trodVars_none hV
  have k0 := h0
  have lt0 : ∀ x ∈ p0, x.block < W.heap.size := by obtain ⟨m, hm⟩ := k0; exact DataW.trod_lt m _ _ _ hm
  have k1 := h1
  have lt1 : ∀ x ∈ p1, x.block < W.heap.size := by obtain ⟨m, hm⟩ := k1; exact DataW.trod_lt m _ _ _ hm
  obtain ⟨a0, len0, cap0, rfl⟩ := okWide_slice Tryd.underlying22 (hval 0 22 v0 rfl rfl)
  obtain ⟨bs0, hlen0, hmx0, hrd0⟩ := Op.open_bytes h0
  subst hlen0
  obtain ⟨a1, len1, cap1, rfl⟩ := okWide_slice Tryd.underlying22 (hval 1 22 v1 rfl rfl)
  obtain ⟨bs1, hlen1, hmx1, hrd1⟩ := Op.open_bytes h1
  subst hlen1
  clear hA0 hval0
  have hT := table hL
  refine (walk a0 bs0 cap0 hmx0 a1 bs1 cap1 hmx1 W hrd0 hrd1 hT).mono fun e W' ⟨he, bel⟩ => ?_
  subst he
  exact ⟨_, rfl, _, _, _, [], _, [], hW', trodAll_mk1 (shut_bool Tryd.underlying4 _), (trodAll_cons_mk (Below.trod laidOut (by kernel_rfl) (of_decide_eq_true (by kernel_rfl)) k0 bel lt0) (trodAll_cons_mk (Below.trod laidOut (by kernel_rfl) (of_decide_eq_true (by kernel_rfl)) k1 bel lt1) trodAll_mk0)), rfl, bel.frame _, fun h => by cases h⟩

def d32 : List Int := [0, 1, 28, 2, 29, 14, 24, 3, 30, 22, 20, 15, 25, 17, 4, 8, 31, 27, 13, 23, 21, 19, 16, 7, 26, 12, 18, 6, 11, 5, 10, 9]
def d64 : List Int := [0, 1, 56, 2, 57, 49, 28, 3, 61, 58, 42, 50, 38, 29, 17, 4, 62, 47, 59, 36, 45, 43, 51, 22, 53, 39, 33, 30, 24, 18, 12, 5, 63, 55, 48, 27, 60, 41, 37, 16, 46, 35, 44, 21, 52, 32, 23, 11, 54, 26, 40, 15, 34, 20, 31, 10, 25, 14, 19, 9, 13, 8, 7, 6]
/-- A block whose cells are these numbers. -/
def laidAs (k : IntKind) (zs : List Int) : Obj → Obj
  | .cells _ t frozen => .cells (zs.map fun z => Value.int k z).toArray t frozen
  | o => o
theorem laid_met (os : Os) : laidMet Tryd.prog Rows.fnTcRow.laid (({ World.holding Tryd.prog os ⟨#[], #[], []⟩ with heap := (((World.holding Tryd.prog os ⟨#[], #[], []⟩).heap.modify 1 (laidAs .u64 Lib.pow10Tab)).modify 2 (laidAs .u8 d32)).modify 3 (laidAs .u8 d64) } : World).forCall (fun _ _ => 0) ⟨#[], #[.slice none 0 0, .slice none 0 0], []⟩).memory :=
  laidMet_of_run' 8 (by kernel_rfl) (by kernel_rfl)
theorem whole_of_map {α β γ : Type} {o : Option (α × β × γ)} {a : α} {b : β} (h : o.map (fun x => (x.1, x.2.1)) = some (a, b)) : ∃ c, o = some (a, b, c) := by
  cases o with
  | none => cases h
  | some x => obtain ⟨x1, x2, x3⟩ := x; cases h; exact ⟨x3, rfl⟩
theorem reads (os : Os) {H : Type} (enc : TypeId × Value → H) : ∃ places, DataW.whole enc Tryd.prog (({ World.holding Tryd.prog os ⟨#[], #[], []⟩ with heap := (((World.holding Tryd.prog os ⟨#[], #[], []⟩).heap.modify 1 (laidAs .u64 Lib.pow10Tab)).modify 2 (laidAs .u8 d32)).modify 3 (laidAs .u8 d64) } : World).forCall (fun _ _ => 0) ⟨#[], #[.slice none 0 0, .slice none 0 0], []⟩).memory Tryd.f4.params.toList Rows.fnTcSpec.vars false #[.slice none 0 0, .slice none 0 0].toList 8 = some ([.nil, .nil], [], places) :=
  whole_of_map (by kernel_rfl)

set_option maxRecDepth 100000 in
theorem lifted (os : Os) (started : os.Started) (H : Type) (enc : TypeId × Value → H) (F : Stop.Interp) :
    ReturnsInHanded {} Tryd.checked os 4 .any ((OpenSpec.ofChange Rows.fnTcSpec).preRow enc Tryd.prog Tryd.f4 Rows.fnTcRow.domain false Rows.fnTcRow.laid) (((OpenSpec.ofChange Rows.fnTcSpec).at F).post enc Tryd.prog Tryd.f4 false true false false) := by
  obtain ⟨places, hx⟩ := reads os enc
  refine returnsInHanded_of_row (C := Tryd.checked) (s := OpenSpec.ofChange Rows.fnTcSpec) own started (by kernel_rfl) Tryd.func4
    (witness_row_at (enc := enc) (C := Tryd.checked) false ({ World.holding Tryd.prog os ⟨#[], #[], []⟩ with heap := (((World.holding Tryd.prog os ⟨#[], #[], []⟩).heap.modify 1 (laidAs .u64 Lib.pow10Tab)).modify 2 (laidAs .u8 d32)).modify 3 (laidAs .u8 d64) } : World) #[.slice none 0 0, .slice none 0 0] rfl (by kernel_rfl) (by kernel_rfl) (by kernel_rfl)
      (OpenSpec.preRow_of_cond 8 hx (by kernel_rfl) (fun k hk => by cases hk) (by kernel_rfl) (laid_met os))) ?_
  intro W base args ds gs before hval hW _ _ _ hL _ _
  exact contract H enc W base args ds gs before hval hW hL

theorem said : Rows.FnTcSaid :=
  OpenClaim.holds_of_cond 4 Tryd.f4 rfl rfl rfl rfl rfl rfl rfl ⟨rfl, rfl, rfl, rfl, rfl⟩ rfl rfl rfl rfl rfl (by kernel_rfl) Tryd.func4 (by kernel_rfl)
    (of_decide_eq_true (by kernel_rfl)) (by unfold Func.isWrapper; first | (rw [if_pos (by decide +kernel)]; kernel_rfl) | (rw [if_neg (by decide +kernel)]; exact ⟨rfl, rfl⟩))
    (fun os started H enc _ F => by rw [OpenClaim.pre_eq_preRow]; exact lifted os started H enc F)

theorem plain (f : FuncId) (fn : Func) (hf : Tryd.pinned.checked.prog.funcNamed "loop.example/g00419/laws.FnTc" = some f) (hfn : Tryd.pinned.checked.prog.funcs[f]? = some fn) :
    false = Tryd.pinned.checked.prog.looks [] ∧ ∀ (j : Nat) t, fn.params[j]? = some t → Tryd.pinned.checked.prog.wantsStandIn t = false := by
  obtain rfl : f = 4 := Option.some.inj ((show Tryd.prog.funcNamed "loop.example/g00419/laws.FnTc" = some 4 by kernel_rfl).symm.trans hf) |>.symm
  obtain rfl : fn = Tryd.f4 := (Option.some.inj (Tryd.func4.symm.trans hfn)).symm
  refine ⟨by kernel_rfl, fun j t ht => ?_⟩
  rw [Tryd.params4] at ht
  have e : t = 22 := by have := Array.mem_of_getElem? ht; simpa using this
  subst e
  exact (show Tryd.prog.wantsStandIn 22 = false by kernel_rfl)
end Go.Proofs.YtpknahhdapmcoabDoor.fnTc
namespace Go.Proofs.YtpknahhdapmcoabDoor
/-- The card: for all slices of bytes FnTc holds: an advertisement is read back from its bytes. -/
theorem fnTc_card : Rows.FnTcCardSaid :=
  Claim7.holds_tied_plain_at .later [] _ _ _ _ fnTc.said (fun _ h => by cases h) (by kernel_rfl) (fun _ h => by cases h) fnTc_row_tie rfl ⟨rfl, rfl⟩ (by kernel_rfl) rfl fnTc.plain (by kernel_rfl)
end Go.Proofs.YtpknahhdapmcoabDoor
