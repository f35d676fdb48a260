/-
  Proved here: for all slices of bytes, laws.FnPackets returns true (a packet is read back from its bytes; cut or drawn out it is none; what is read of any bytes is a packet of just these) and leaves the slices as they were. No condition. (The walk is written by mkfnpackets.py.)
-/
import Derived.Test.YtpknahhdapmcoaaFpk
import Derived.Test.YtpknahhdapmcoaaFhd
import Derived.Test.YtpknahhdapmcoaaFpx
import Derived.Test.YtpknahhdapmcoaaDecPc
import Derived.Test.YtpknahhdapmcoaaEncPc
import Derived.Test.YtpknahhdapmcoaaU8
import Derived.Test.YtpknahhdapmcoaaAt
namespace Go.Proofs.Ytpknahhdapmcoaa.fnPackets
open Go.ChangeShapes Go.WideShapes Go.ChangeAt Go.RowKit
open W1 By De Ml Ep Pa Fx
set_option linter.unusedVariables false
set_option linter.unusedSimpArgs false
attribute [local go_sem ↓] Go.wp_at_zero Go.wp_at_succ
theorem own : ownKnob Try.prog.godebug = none := by kernel_rfl
theorem laidOut : laidOutB Try.prog = true := by kernel_rfl
theorem below_dN {w : World} (q : Nat) : Below w.heap.size w (w.drewN q) := ⟨rfl, rfl, rfl, Nat.le_refl _, fun _ _ => rfl⟩
theorem reads_under {w w' : World} {a : Option Addr} {bs : List UInt8} (h : Reads w a bs) (hb : Below w.heap.size w w') : Reads w' a bs := by
  rcases h with h | ⟨g, off, e, hc⟩
  · exact .inl h
  · exact .inr ⟨g, off, e, fun i hi => (hb.cell (p := ⟨g, off + i, none⟩) (World.block_lt_of_cell? _ _ (hc i hi))).trans (hc i hi)⟩
theorem r8_of {w : World} {g : Nat} {bs : List UInt8} (h : Reads w (some ⟨g, 0, none⟩) bs) : U8.R8 w g 0 (bs.map fun b => (b.toNat : Int)) := by
  intro i hi
  rw [List.length_map] at hi
  rcases h with e | ⟨g', off', e, hc⟩
  · rw [e] at hi; simp at hi
  · cases e
    rw [hc i hi, List.getD_eq_getElem?_getD, List.getD_eq_getElem?_getD, List.getElem?_map, List.getElem?_eq_getElem hi]; rfl
theorem reads_take {w : World} {g : Nat} {bs : List UInt8} (h : Reads w (some ⟨g, 0, none⟩) bs) (k : Nat) : Reads w (some ⟨g, 0, none⟩) (bs.take k) := by
  rcases h with e | ⟨g', off', e, hc⟩
  · exact .inl (by rw [e]; simp)
  · refine .inr ⟨g', off', e, fun i hi => ?_⟩
    rw [List.length_take] at hi
    rw [hc i (by omega), List.getD_eq_getElem?_getD, List.getD_eq_getElem?_getD, List.getElem?_take_of_lt (by omega)]
theorem cap_of {w : World} {base g n cap : Nat} {xs : List Value} (h : w.ownsRow base 5 1 (.slice (some ⟨g, 0, none⟩) n cap) n xs) : n ≤ cap ∧ cap ≤ maxLen := by
  rcases h.2 with ⟨e, _⟩ | ⟨g', cap', cur, hv, _, _, h1, h2, _⟩
  · cases e
  · cases hv; exact ⟨h1, h2⟩
theorem fresh_rm {w w' : World} {a : Option Addr} {ms : List M} (h : Fresh w w' a ms) : RM w' a ms := by
  rcases h with h | ⟨g, rfl, _, _, h⟩
  · exact .inl h
  · exact rm_of h
theorem got {bs : List UInt8} {o : Option (List M)} (hl : bs.length ≤ 65536) (h : decP bs = o) : msP bs = msO o ∧ cdP bs = cdO o := by
  unfold msP cdP; rw [if_neg (by omega), if_neg (by omega), h]; exact ⟨rfl, rfl⟩
theorem helA_len (bs : List UInt8) (n : Nat) : ∀ j, (Fh.helA bs n j).1.length ≤ j
  | 0 => by show ([] : List Nb.R).length ≤ _; simp
  | j + 1 => by
    have h := helA_len bs n j
    rw [Fh.helA, Fh.hstep]
    split
    · split <;> (dsimp only; rw [List.length_append]; simp; omega)
    · dsimp only; omega
theorem tcA_len (bs : List UInt8) (n : Nat) : ∀ j, (Ft.tcA bs n j).1.length ≤ j
  | 0 => by show ([] : List Ed.R).length ≤ _; simp
  | j + 1 => by
    have h := tcA_len bs n j
    rw [Ft.tcA, Ft.tstep]
    split
    · dsimp only; rw [List.length_append]; simp; omega
    · dsimp only; omega
theorem heard_len (bs : List UInt8) : (Fd.heardB bs).length ≤ 65536 := by
  unfold Fd.heardB
  rw [List.length_map]
  unfold Fd.heardZ
  split
  · have h1 := tcA_len bs (Fh.helN bs (Fm.msgN bs 0)) 8
    have h2 := Av.tcNums_len (Ft.tcV bs (Fh.helN bs (Fm.msgN bs 0))).1 (Ft.tcV bs (Fh.helN bs (Fm.msgN bs 0))).2.1 (Ft.tcV bs (Fh.helN bs (Fm.msgN bs 0))).2.2 (Ft.tcV bs (Fh.helN bs (Fm.msgN bs 0))).2.2.length
    have h3 : (Ft.tcV bs (Fh.helN bs (Fm.msgN bs 0))).2.2.length ≤ 8 := h1
    refine Nat.le_trans (Fp.sp_len _ _ _) ?_
    rw [Fd.pN_len, strOfNums_size]
    omega
  · have h1 := helA_len bs (Fm.msgN bs 0) 8
    have h2 := Hl.helNums_len (Fh.helV bs (Fm.msgN bs 0)).1 (Fh.helV bs (Fm.msgN bs 0)).2.1 (Fh.helV bs (Fm.msgN bs 0)).2.2 (Fh.helV bs (Fm.msgN bs 0)).2.2.length
    have h3 : (Fh.helV bs (Fm.msgN bs 0)).2.2.length ≤ 8 := h1
    refine Nat.le_trans (Fp.sp_len _ _ _) ?_
    rw [Fd.pN_len, strOfNums_size]
    omega
set_option maxRecDepth 100000 in
set_option maxHeartbeats 8000000 in
theorem walk (a : Option Addr) (bs : List UInt8) (cap : Nat) (hm0 : bs.length ≤ maxLen) (a' : Option Addr) (bs' : List UInt8) (cap' : Nat) (hm0' : bs'.length ≤ maxLen) (w : World) (hr : Reads w a bs) (hr' : Reads w a' bs') :
    Calls Try.prog 3 #[.slice a bs.length cap, .slice a' bs'.length cap'] w fun e w' => e = .returned (.bool true) ∧ Below w.heap.size w w' := by
  unfold maxLen at hm0 hm0'
  by_cases hb : (1048576 : Int) < bs.length
  · go_enter Try.func3, Try.ntmps3
    go_wp2
    go_ret
    exact ⟨rfl, Below.refl _ _⟩
  by_cases hb' : (1048576 : Int) < bs'.length
  · go_enter Try.func3, Try.ntmps3
    go_wp2
    go_ret
    exact ⟨rfl, Below.refl _ _⟩
  have hbm : bs.length ≤ 1048576 := by omega
  have hbm' : bs'.length ≤ 1048576 := by omega
  have HR := hide hr
  have HR' := hide hr'
  clear hr hr'
  go_enter Try.func3, Try.ntmps3
  go_wp2_with fail
  refine (Fk.packetOf a bs cap _ hbm (unhide HR)).mono ?_
  rintro e w1 ⟨g, ms, c, rfl, hk, hrm, b1⟩
  have HK := hide hk
  have M1 := hide hrm
  have hl6 := (pkt_ok hk).2.1
  have hml : ms.length ≤ 1048576 := by omega
  have HEP : Hid (encP ms = pB ms ms.length) := hide (by unfold encP; rw [if_neg (by omega), if_pos hk])
  have HCP : Hid (codeP ms = 0) := hide (by unfold codeP; rw [if_neg (by omega), if_pos hk])
  have hEl : (pB ms ms.length).length ≤ 2 + ms.length * 128 := pB_le hk ms.length (Nat.le_refl _)
  have hE2 : 2 ≤ (pB ms ms.length).length := by rw [pB_all]; simp
  have HDB := hide (dec_back hk)
  have HDL := hide (dec_long hk)
  have HDS : Hid (∀ k, k < (pB ms ms.length).length → decP ((pB ms ms.length).take k) = none) := hide (fun k h => dec_short hk h)
  clear hk hrm
  have B1 := hide b1
  clear b1
  obtain ⟨E, hE⟩ : ∃ E, pB ms ms.length = E := ⟨_, rfl⟩
  have HEE := hide hE
  rw [hE] at HEP hEl hE2 HDB HDL HDS
  clear hE
  go_wp2_with fail
  refine (implEncPc _ ms c _ hml (unhide HK) (unhide M1)).mono ?_
  rintro e w2 ⟨cb, gb, rfl, b2, r2, c2a, c2b⟩
  rw [unhide HEE] at r2 c2a ⊢
  have R2 := hide r2
  clear r2
  have B2 := hide ((unhide B1).trans (b2.mono (unhide B1).size))
  have M2 := hide ((unhide M1).below b2)
  clear M1
  clear b2
  go_wp2_with fail
  refine (specEncP _ ms c _ hml (unhide M2)).mono ?_
  rintro e w3 ⟨aw, cw, rfl, b3, r3⟩
  rw [unhide HEP] at r3 ⊢
  rw [unhide HCP]
  have Q3 := hide r3
  clear r3
  have B3 := hide ((unhide B2).trans (b3.mono (unhide B2).size))
  have M3 := hide ((unhide M2).below b3)
  have R3 := hide (reads_under (unhide R2) b3)
  clear M2 R2
  clear b3
  have hE65 : E.length ≤ 65536 := by omega
  have hEm : E.length ≤ 1048576 := by omega
  have HG1 := hide (got hE65 (unhide HDB))
  go_wp2_with fail
  refine (implDecPc gb E cb _ hEm c2a c2b (unhide R3)).mono ?_
  rintro e w4 ⟨xa, xc, rfl, b4, fr4⟩
  rw [(unhide HG1).1] at fr4 ⊢
  rw [(unhide HG1).2]
  have X4 : Hid (RM w4 xa ms) := hide (fresh_rm fr4)
  clear fr4
  have B4 := hide ((unhide B3).trans (b4.mono (unhide B3).size))
  have M4 := hide ((unhide M3).below b4)
  have R4 := hide (reads_under (unhide R3) b4)
  have Q4 := hide (reads_under (unhide Q3) b4)
  clear M3 R3 Q3
  clear b4
  rw [show msO (some ms) = ms from rfl, cdO_some]
  go_wp2_with fail
  refine (Go.Proofs.Ytpknahhdapmcoaa.At.choice a' bs' cap' 0 E.length _ (by omega) (by omega) (by omega) hbm' (reads_under (unhide HR') (unhide B4))).mono ?_
  rintro e w5 ⟨k, rfl, hk, q5, hq5⟩
  have b5 : Below w4.heap.size w4 w5 := by rw [hq5]; exact below_dN _
  clear hq5
  have B5 := hide ((unhide B4).trans (b5.mono (unhide B4).size))
  have M5 := hide ((unhide M4).below b5)
  have R5 := hide (reads_under (unhide R4) b5)
  have Q5 := hide (reads_under (unhide Q4) b5)
  have X5 := hide ((unhide X4).below b5)
  clear M4 R4 Q4 X4
  clear b5
  have hck : ((k : Nat) : Int) ≤ (cb : Int) := by omega
  have htl : (E.take k).length = k := by rw [List.length_take]; omega
  have HG2 := hide (got (by rw [htl]; omega) (unhide HDS k hk))
  have HDC : Hid (Calls Try.prog 10 #[.slice (some ⟨gb, 0, none⟩) k cb] w5 fun e w' => ∃ a c, e = .returned (.tuple #[.slice a 0 c, .int .i64 3]) ∧ Below w5.heap.size w5 w') := hide (by
    have h := implDecPc gb (E.take k) cb w5 (by rw [htl]; omega) (by rw [htl]; omega) c2b (reads_take (unhide R5) k)
    rw [(unhide HG2).1, (unhide HG2).2, htl] at h
    refine h.mono ?_
    rintro e w' ⟨a9, c9, rfl, b9, _⟩
    exact ⟨a9, c9, rfl, b9⟩)
  clear htl HG2
  go_wp2_with fail
  refine (unhide HDC).mono ?_
  rintro e w6 ⟨da, dc, rfl, b6⟩
  have B6 := hide ((unhide B5).trans (b6.mono (unhide B5).size))
  have M6 := hide ((unhide M5).below b6)
  have R6 := hide (reads_under (unhide R5) b6)
  have Q6 := hide (reads_under (unhide Q5) b6)
  have X6 := hide ((unhide X5).below b6)
  clear M5 R5 Q5 X5
  clear b6
  clear HDC
  have hgb : gb < w6.heap.size := by
    rcases unhide R6 with e | ⟨g', o', e, hc⟩
    · rw [e] at hE2; simp at hE2
    · cases e; exact World.block_lt_of_cell? _ _ (hc 0 (by omega))
  have O5 : Hid ((w6.alloc (.cells #[] 5)).ownsRow w6.heap.size 5 1 (.slice (some ⟨w6.heap.size, 0, none⟩) 0 0) ([] : List Int).length (U8.fl [])) := hide (World.ownsRow_made w6 #[] 0 (Nat.le_refl _) (Nat.zero_le _) (by simp))
  have D5 : Hid (Below w6.heap.size w6 (w6.alloc (.cells #[] 5))) := hide ((Below.refl _ _).alloc (Nat.le_refl _) _)
  have Z5 := hide (r8_of (reads_under (unhide R6) (unhide D5)))
  have hE0 : 0 < E.length := by omega
  go_wp2_with (at_builtin; first | (refine U8.wpList_ap (unhide O7) u6.heap.size 0 1 1 [(0 : Int)] rfl (unhide R7_) (by simp; omega) (by exact (unhide D7).size) rfl _ _ rfl rfl rfl ?_; intro v8 u8 o8 g8; (obtain ⟨g8b, c8b, rfl, _, _⟩ := o8.form (by simp)); have O8 := hide o8; have D8 := hide (U8.below_own (unhide D7) (unhide O7) g8 (Nat.le_refl _) (unhide D7).size); clear o8 g8) | (refine U8.wpList_ap (unhide O5) gb 0 E.length cb (E.map fun b => (b.toNat : Int)) (by simp) (unhide Z5) (by simp; omega) (by simp) rfl _ _ rfl rfl rfl ?_; intro v6 u6 o6 g6; (obtain ⟨g6b, c6b, rfl, _, _⟩ := o6.form (by simp; omega)); have O6 : Hid (u6.ownsRow w6.heap.size 5 1 (.slice (some ⟨g6b, 0, none⟩) E.length c6b) (E.map fun b => (b.toNat : Int)).length (U8.fl (E.map fun b => (b.toNat : Int)))) := hide (by have h := o6; simp only [List.nil_append, List.length_map] at h ⊢; exact h); have D6 := hide (U8.below_own (unhide D5) (unhide O5) g6 (Nat.le_refl _) (unhide D5).size); have O7 := hide ((unhide O6).alloc (.cells #[.int .u8 0] 5)); have D7 := hide ((unhide D6).alloc (unhide D6).size (.cells #[.int .u8 0] 5)); have R7_ := hide (U8.r8_new u6 [(0 : Int)] #[.int .u8 0] rfl); clear o6 g6; (try simp only [List.nil_append, List.length_map])))
  have hl8 : (List.map (fun b : UInt8 => (b.toNat : Int)) E ++ [0]).length = E.length + 1 := by simp
  have O8' : Hid (u8.ownsRow w6.heap.size 5 1 (.slice (some ⟨g8b, 0, none⟩) (E.length + 1) c8b) (E.length + 1) ((E ++ [(0 : UInt8)]).map fun b : UInt8 => Value.int .u8 (b.toNat : Int))) := hide (by
    have h := unhide O8
    rw [hl8] at h
    have e : U8.fl (List.map (fun b : UInt8 => (b.toNat : Int)) E ++ [0]) = (E ++ [(0 : UInt8)]).map fun b : UInt8 => Value.int .u8 (b.toNat : Int) := by unfold U8.fl; simp
    rw [e] at h; exact h)
  have C8 := cap_of (unhide O8')
  have R8_ := hide (reads_of_own (bs := E ++ [(0 : UInt8)]) (by simp) (unhide O8')).1
  have HG3 := hide (got (by simp; omega) (unhide HDL))
  have HDC : Hid (Calls Try.prog 10 #[.slice (some ⟨g8b, 0, none⟩) (E.length + 1) c8b] u8 fun e w' => ∃ a c, e = .returned (.tuple #[.slice a 0 c, .int .i64 3]) ∧ Below u8.heap.size u8 w') := hide (by
    have h := implDecPc g8b (E ++ [0]) c8b u8 (by simp; omega) (by simpa using C8.1) C8.2 (unhide R8_)
    rw [(unhide HG3).1, (unhide HG3).2, show (E ++ [(0 : UInt8)]).length = E.length + 1 by simp] at h
    refine h.mono ?_
    rintro e w' ⟨a9, c9, rfl, b9, _⟩
    exact ⟨a9, c9, rfl, b9⟩)
  refine (unhide HDC).mono ?_
  rintro e w7 ⟨ea, ec, rfl, b9⟩
  have b7 : Below w6.heap.size w6 w7 := (unhide D8).trans (b9.mono (unhide D8).size)
  have B7 := hide ((unhide B6).trans (b7.mono (unhide B6).size))
  have M7 := hide ((unhide M6).below b7)
  have R7 := hide (reads_under (unhide R6) b7)
  have Q7 := hide (reads_under (unhide Q6) b7)
  have X7 := hide ((unhide X6).below b7)
  clear M6 R6 Q6 X6
  clear b9 b7 HDC R8_ O8' O8 D8 C8 hl8 O5 D5 Z5 O6 D6 O7 D7 R7_ HG3
  obtain ⟨gw, ow, rfl⟩ : ∃ gw ow, aw = some ⟨gw, ow, none⟩ := by
    rcases unhide Q7 with e | ⟨g', o', e, _⟩
    · rw [e] at hE0; simp at hE0
    · exact ⟨g', o', e⟩
  have hcv1 := conv_all (cap := cb) (unhide R7)
  have hcv2 := conv_all (cap := cw) (unhide Q7)
  go_wp2_with fail
  clear hcv1 hcv2
  refine (sameMsgs _ _ ms _ _ _ hml (unhide X7) (unhide M7)).mono ?_
  rintro e w8 ⟨rfl, b8⟩
  have B8 := hide ((unhide B7).trans (b8.mono (unhide B7).size))
  have M8 := hide ((unhide M7).below b8)
  have R8 := hide (reads_under (unhide R7) b8)
  have Q8 := hide (reads_under (unhide Q7) b8)
  have X8 := hide ((unhide X7).below b8)
  clear M7 R7 Q7 X7
  clear b8
  go_wp2_with fail
  refine (implPkt _ ms c _ hml (unhide M8)).mono ?_
  rintro e w9 ⟨rfl, b9⟩
  rw [unhide HK]
  have B9 := hide ((unhide B8).trans (b9.mono (unhide B8).size))
  have M9 := hide ((unhide M8).below b9)
  have R9 := hide (reads_under (unhide R8) b9)
  have Q9 := hide (reads_under (unhide Q8) b9)
  have X9 := hide ((unhide X8).below b9)
  clear M8 R8 Q8 X8
  clear b9
  clear M9 R9 Q9 X9
  go_wp2_with fail
  refine (Fd.heardOf a' bs' cap' _ hbm' (reads_under (unhide HR') (unhide B9))).mono ?_
  rintro e w10 ⟨gh, ch, rfl, rh, b10, h1a, h1b⟩
  have R10 := hide rh
  clear rh
  have B10 := hide ((unhide B9).trans (b10.mono (unhide B9).size))
  clear b10
  generalize hHB : Fd.heardB bs' = HB at *
  have HHB := hide hHB
  clear hHB
  have hH65 : HB.length ≤ 65536 := by rw [← unhide HHB]; exact heard_len bs'
  have hHm : HB.length ≤ 1048576 := by omega
  go_wp2_with fail
  refine (implDecPc gh HB ch _ hHm h1a h1b (unhide R10)).mono ?_
  rintro e w11 ⟨ya, yc, rfl, b11, fr11⟩
  have Y11 : Hid (RM w11 ya (msP HB)) := hide (fresh_rm fr11)
  clear fr11
  have B11 := hide ((unhide B10).trans (b11.mono (unhide B10).size))
  have R11 := hide (reads_under (unhide R10) b11)
  clear R10
  clear b11
  clear R11
  go_wp2_with fail
  refine (Fd.heardOf a' bs' cap' _ hbm' (reads_under (unhide HR') (unhide B11))).mono ?_
  rintro e w12 ⟨gi, ci, rfl, rh, b12, h2a, h2b⟩
  rw [unhide HHB] at rh h2a ⊢
  have R12 := hide rh
  clear rh
  have B12 := hide ((unhide B11).trans (b12.mono (unhide B11).size))
  have Y12 := hide ((unhide Y11).below b12)
  clear Y11
  clear b12
  go_wp2_with fail
  refine (specDecP gi HB ci _ hHm (unhide R12)).mono ?_
  rintro e w13 ⟨ta, tc, rfl, b13, fr13⟩
  have T13 : Hid (RM w13 ta (msP HB)) := hide (fresh_rm fr13)
  clear fr13
  have B13 := hide ((unhide B12).trans (b13.mono (unhide B12).size))
  have Y13 := hide ((unhide Y12).below b13)
  have R13 := hide (reads_under (unhide R12) b13)
  clear Y12 R12
  clear b13
  clear R13
  have hGD : (msP HB).length ≤ 1048576 ∧ (cdP HB = 0 → pktB (msP HB) = true ∧ pB (msP HB) (msP HB).length = HB) := by
    cases hd : decP HB with
    | none =>
      obtain ⟨e1, e2⟩ := got (by omega) hd
      rw [e1, e2]
      exact ⟨by show ([] : List M).length ≤ _; simp, fun h => by rw [cdO_none] at h; omega⟩
    | some T =>
      obtain ⟨e1, e2⟩ := got (by omega) hd
      have hp := dec_enc hd
      rw [e1]
      exact ⟨by show T.length ≤ _; have := (pkt_ok hp.1).2.1; omega, fun _ => hp⟩
  obtain ⟨hgl, hgp⟩ := hGD
  have HGP := hide hgp
  clear hgp
  obtain ⟨T, hT⟩ : ∃ T, msP HB = T := ⟨_, rfl⟩
  obtain ⟨cd, hcd⟩ : ∃ cd, cdP HB = cd := ⟨_, rfl⟩
  rw [hT] at Y13 T13 hgl HGP ⊢
  rw [hcd] at HGP ⊢
  clear hT hcd
  have hne : (cd != cd) = false := by simp
  go_wp2_with fail
  refine (sameMsgs _ _ T _ _ _ hgl (unhide Y13) (unhide T13)).mono ?_
  rintro e w14 ⟨rfl, b14⟩
  have B14 := hide ((unhide B13).trans (b14.mono (unhide B13).size))
  have Y14 := hide ((unhide Y13).below b14)
  have T14 := hide ((unhide T13).below b14)
  clear Y13 T13
  clear b14
  by_cases h0 : cd = 0
  rotate_left
  · have hq : (cd != 0) = true := by simpa using h0
    have HF := B14
    go_wp2_with fail
    go_ret
    exact ⟨rfl, unhide HF⟩
  subst h0
  obtain ⟨hpk, hpb⟩ := unhide HGP rfl
  have HPK := hide hpk
  have HPB := hide hpb
  clear hpk hpb HGP
  go_wp2_with fail
  refine (implEncPc _ T _ _ hgl (unhide HPK) (unhide Y14)).mono ?_
  rintro e w15 ⟨ck, gk, rfl, b15, rk, k1, k2⟩
  rw [unhide HPB] at rk k1 ⊢
  have R15 := hide rk
  clear rk
  have B15 := hide ((unhide B14).trans (b15.mono (unhide B14).size))
  have Y15 := hide ((unhide Y14).below b15)
  have T15 := hide ((unhide T14).below b15)
  clear Y14 T14
  clear b15
  clear Y15 T15
  obtain ⟨hnil, hHB2⟩ : HB ≠ [] ∧ 2 ≤ HB.length := by
    have := (pkt_ok (unhide HPK)).1
    rw [← unhide HPB, pB_all]
    exact ⟨by simp, by simp⟩
  go_wp2_with fail
  refine wp_region_noPanic ?_
  refine wp_region_held_drew (S := fun w' => Reads w' (some ⟨gk, 0, none⟩) HB) (by kernel_rfl) (reads_drew (unhide R15)) (fun hHeld => ?_)
  (refine Rg.tk (i := 0) (d := 126) (v := ?_) rfl rfl (by kernel_rfl) (by kernel_rfl) (by kernel_rfl) (fun _ _ _ h => h) (by rfl) ?_ (by assumption) ?_; rotate_left; (focus (intro w0 hSw; (try dsimp only at hSw); go_simp; (try with_reducible rfl))); (try simp only [Act.put, List.setIfInBounds_toArray, List.set_cons_zero, List.set_cons_succ]))
  (refine Rg.tk (i := 1) (d := 127) (v := ?_) rfl rfl (by kernel_rfl) (by kernel_rfl) (by kernel_rfl) (fun _ _ _ h => h) (by rfl) ?_ (by assumption) ?_; rotate_left; (focus (intro w0 hSw; (try dsimp only at hSw); go_simp; (try with_reducible rfl))); (try simp only [Act.put, List.setIfInBounds_toArray, List.set_cons_zero, List.set_cons_succ]))
  (refine Rg.tk (i := 2) (d := 128) (v := ?_) rfl rfl (by kernel_rfl) (by kernel_rfl) (by kernel_rfl) (fun _ _ _ h => h) (by rfl) ?_ (by assumption) ?_; rotate_left; (focus (intro w0 hSw; (try dsimp only at hSw); go_simp; (try with_reducible rfl))); (try simp only [Act.put, List.setIfInBounds_toArray, List.set_cons_zero, List.set_cons_succ]))
  (refine Rg.tk (i := 3) (d := 129) (v := ?_) rfl rfl (by kernel_rfl) (by kernel_rfl) (by kernel_rfl) (fun _ _ _ h => h) (by rfl) ?_ (by assumption) ?_; rotate_left; (focus (intro w0 hSw; (try dsimp only at hSw); go_simp; (try with_reducible rfl))); (try simp only [Act.put, List.setIfInBounds_toArray, List.set_cons_zero, List.set_cons_succ]))
  (refine Rg.tk (i := 5) (d := 131) (v := ?_) rfl rfl (by kernel_rfl) (by kernel_rfl) (by kernel_rfl) (fun _ _ _ h => h) (by rfl) ?_ (by assumption) ?_; rotate_left; (focus (intro w0 hSw; (try dsimp only at hSw); go_simp; (try with_reducible rfl))); (try simp only [Act.put, List.setIfInBounds_toArray, List.set_cons_zero, List.set_cons_succ]))
  (refine Rg.tk (i := 4) (d := 130) (v := .string ⟨HB.toArray⟩) rfl rfl (by kernel_rfl) (by kernel_rfl) (by kernel_rfl) (fun _ _ _ h => h) (by rfl) ?_ (by assumption) ?_; (focus (intro w0 hSw; have hcv := conv_all (cap := ck) hSw; go_simp)); (try simp only [Act.put, List.setIfInBounds_toArray, List.set_cons_zero, List.set_cons_succ]))
  (refine wpAnyH_ready (rs := [6]) (by kernel_rfl) (by simp) ?_; refine AllReadyH.cons (o := _) rfl (fun K hK => ?_) AllReadyH.nil; go_simp)
  refine (Fd.heardOf a' bs' cap' _ hbm' (reads_under (reads_under (unhide HR') (unhide B15)) (Below.refl _ _).drew)).mono ?_
  rintro e u1 ⟨gl, cl, rfl, rl, bl_, l1, l2⟩
  rw [unhide HHB] at rl l1 ⊢
  have bl : Below w15.heap.size w15 u1 := (Below.refl _ _).drew.trans bl_
  have HRK := hide (reads_under (unhide R15) bl)
  have HBF := hide ((unhide B15).trans (bl.mono (unhide B15).size))
  have hcv3 := conv_all (cap := cl) rl
  clear bl bl_ hHeld
  refine hK.out _ _ (unhide HRK) (fun hHeld => ?_)
  clear hK K
  (try simp only [Act.put, List.setIfInBounds_toArray, List.set_cons_zero, List.set_cons_succ])
  (refine wpAnyH_ready (rs := [7]) (by kernel_rfl) (by simp) ?_; refine AllReadyH.cons (o := _) rfl (fun K hK => ?_) AllReadyH.nil; go_simp)
  clear hHeld
  refine hK.out _ _ (unhide HRK) (fun hHeld => ?_)
  clear hK K
  (try simp only [Act.put, List.setIfInBounds_toArray, List.set_cons_zero, List.set_cons_succ])
  (refine Rg.tk (i := 8) (d := 134) (v := ?_) rfl rfl (by kernel_rfl) (by kernel_rfl) (by kernel_rfl) (fun _ _ _ h => h) (by rfl) ?_ (by assumption) ?_; rotate_left; (focus (intro w0 hSw; (try dsimp only at hSw); go_simp; (try with_reducible rfl))); (try simp only [Act.put, List.setIfInBounds_toArray, List.set_cons_zero, List.set_cons_succ]))
  (refine Rg.tk (i := 9) (d := 135) (v := ?_) rfl rfl (by kernel_rfl) (by kernel_rfl) (by kernel_rfl) (fun _ _ _ h => h) (by rfl) ?_ (by assumption) ?_; rotate_left; (focus (intro w0 hSw; (try dsimp only at hSw); go_simp; (try with_reducible rfl))); (try simp only [Act.put, List.setIfInBounds_toArray, List.set_cons_zero, List.set_cons_succ]))
  (refine Rg.tk (i := 10) (d := 4) (v := ?_) rfl rfl (by kernel_rfl) (by kernel_rfl) (by kernel_rfl) (fun _ _ _ h => h) (by rfl) ?_ (by assumption) ?_; rotate_left; (focus (intro w0 hSw; (try dsimp only at hSw); go_simp; (try with_reducible rfl))); (try simp only [Act.put, List.setIfInBounds_toArray, List.set_cons_zero, List.set_cons_succ]))
  refine wpAnyH_done (by kernel_rfl) (NoPanic.normal ?_) _
  clear hHeld hcv3
  go_wp2_with fail
  go_ret
  exact ⟨rfl, unhide HBF⟩

set_option maxRecDepth 100000 in
theorem lifted (os : Os) (started : os.Started) (H : Type) (enc : TypeId × Value → H) :
    ReturnsInHanded {} Try.checked os 3 .any (Rows.fnPacketsSpec.pre6 enc Try.prog Try.f3 Rows.fnPacketsRow.domain false) (Rows.fnPacketsSpec.post enc Try.prog Try.f3 false true false false) := by
  refine returnsInHanded_of_change (C := Try.checked) own started (by kernel_rfl) Try.func3
    (ChangeSpec.witness6 (enc := enc) (C := Try.checked) false ⟨#[], #[.slice none 0 0, .slice none 0 0], []⟩ 8 (by kernel_rfl) (by kernel_rfl) (by kernel_rfl) (by kernel_rfl)) ?_
  intro W base args ds gs before hval0 hW hcnd _
  have hval : ∀ (j : Nat) t v, Try.f3.params[j]? = some t → args[j]? = some v → Value.okWide Try.prog W .any base t v := hval0
  have hW' := hW
  obtain ⟨p, q, hA0, hV, rfl, hfz, hnd⟩ := hW
  have hA : DataW.TrodAll enc Try.prog W 0 (fun _ => true) true Try.f3.params.toList args.toList ds p := hA0
  rw [Try.params3] at hA hval
  obtain ⟨v0, vs0, d0, ds0, p0, q0, hargs0, rfl, rfl, h0, r0⟩ := trodAll_cons hA
  obtain ⟨v1, vs1, d1, ds1, p1, q1, hargs1, rfl, rfl, h1, r1⟩ := trodAll_cons r0
  obtain ⟨rfl, rfl, rfl⟩ := trodAll_nil r1
  obtain rfl : args = #[v0, v1] := by cases args; simp_all
  obtain ⟨rfl, rfl⟩ := trodVars_none hV
  have k0 := h0
  have lt0 : ∀ x ∈ p0, x.block < W.heap.size := by obtain ⟨m, hm⟩ := k0; exact DataW.trod_lt m _ _ _ hm
  have k1 := h1
  have lt1 : ∀ x ∈ p1, x.block < W.heap.size := by obtain ⟨m, hm⟩ := k1; exact DataW.trod_lt m _ _ _ hm
  obtain ⟨a0, len0, cap0, rfl⟩ := okWide_slice Try.underlying22 (hval 0 22 v0 rfl rfl)
  obtain ⟨bs0, hlen0, hmx0, hrd0⟩ := Op.open_bytes h0
  subst hlen0
  obtain ⟨a1, len1, cap1, rfl⟩ := okWide_slice Try.underlying22 (hval 1 22 v1 rfl rfl)
  obtain ⟨bs1, hlen1, hmx1, hrd1⟩ := Op.open_bytes h1
  subst hlen1
  clear hA0 hval0
  refine (walk a0 bs0 cap0 hmx0 a1 bs1 cap1 hmx1 W hrd0 hrd1).mono fun e W' ⟨he, bel⟩ => ?_
  subst he
  exact ⟨_, rfl, _, _, _, [], _, [], hW', trodAll_mk1 (shut_bool Try.underlying4 _), (trodAll_cons_mk (Below.trod laidOut (by kernel_rfl) (of_decide_eq_true (by kernel_rfl)) k0 bel lt0) (trodAll_cons_mk (Below.trod laidOut (by kernel_rfl) (of_decide_eq_true (by kernel_rfl)) k1 bel lt1) trodAll_mk0)), rfl, bel.frame _, fun h => by cases h⟩

theorem over : Rows.fnPacketsRow.holds Try.pinned (OpenSpec.ofChange Rows.fnPacketsSpec) :=
  OpenClaim.holds_of_wide 3 Try.f3 rfl rfl rfl rfl rfl rfl rfl ⟨rfl, rfl, rfl, rfl, rfl⟩ rfl rfl rfl rfl rfl (by kernel_rfl) Try.func3 (by kernel_rfl)
    (of_decide_eq_true (by kernel_rfl)) (by unfold Func.isWrapper; first | (rw [if_pos (by decide +kernel)]; kernel_rfl) | (rw [if_neg (by decide +kernel)]; exact ⟨rfl, rfl⟩))
    (fun os started H enc _ => lifted os started H enc)
end Go.Proofs.Ytpknahhdapmcoaa.fnPackets
namespace Go.Proofs.Ytpknahhdapmcoaa
/-- For all slices of bytes, laws.FnPackets returns true. -/
theorem fnPackets_holds : Rows.FnPacketsSaid := fnPackets.over
end Go.Proofs.Ytpknahhdapmcoaa
