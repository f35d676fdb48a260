/-
  Proved here: for all slices of bytes, laws.FnHello returns true (an hello is read back from its bytes, cut it is none; who is symmetric is told) and leaves the slices as they were. No condition but the tables that the card ties to the program's text.
-/
import Derived.Test.YtpknahhdapmcoabDoorHelF
import Derived.Test.YtpknahhdapmcoabDoorHelK
import Derived.Test.YtpknahhdapmcoabDoorHelT
import Derived.Test.YtpknahhdapmcoabDoorHelU
import Derived.Test.YtpknahhdapmcoabDoorHelX
import Derived.Test.YtpknahhdapmcoabDoorAt
import Derived.Test.YtpknahhdapmcoabDoorCards
import Derived.Test.YtpknahhdapmcoabDoorTie
import Derived.OpenVars
import Derived.Deep.DeepHandedRow
import Derived.Lib.LaidTab
namespace Go.Proofs.YtpknahhdapmcoabDoor.fnHello
open Go.ChangeShapes Go.WideShapes Go.ChangeAt Go.RowKit
open W1 By Nb De Sr Hl
set_option linter.unusedVariables false
set_option linter.unusedSimpArgs false
attribute [local go_sem ↓] Go.wp_at_zero Go.wp_at_succ
theorem own : ownKnob Tryd.prog.godebug = none := by kernel_rfl
theorem laidOut : laidOutB Tryd.prog = true := by kernel_rfl
set_option maxRecDepth 100000 in
set_option maxHeartbeats 8000000 in
theorem walk (a : Option Addr) (bs : List UInt8) (cap : Nat) (hm0 : bs.length ≤ maxLen) (a' : Option Addr) (bs' : List UInt8) (cap' : Nat) (hm0' : bs'.length ≤ maxLen) (w : World) (hr : Reads w a bs) (hr' : Reads w a' bs') (hp : TabP w) (ht : TabW w 0) :
    Calls Tryd.prog 3 #[.slice a bs.length cap, .slice a' bs'.length cap'] w fun e w' => e = .returned (.bool true) ∧ Below w.heap.size w w' := by
  unfold maxLen at hm0 hm0'
  by_cases hb : (1048576 : Int) < bs.length
  · go_enter Tryd.func3, Tryd.ntmps3
    go_wp2
    go_ret
    exact ⟨rfl, Below.refl _ _⟩
  by_cases hb' : (1048576 : Int) < bs'.length
  · go_enter Tryd.func3, Tryd.ntmps3
    go_wp2
    go_ret
    exact ⟨rfl, Below.refl _ _⟩
  have hbm : bs.length ≤ 1048576 := by omega
  have hbm' : bs'.length ≤ 1048576 := by omega
  have HTP := hide (Lib.tabBelow_of_tabIs hp)
  have HTW : Hid (∀ w', Below w.heap.size w w' → TabW w' 0) := hide (fun w' hb => ht.below hb)
  have HR := hide hr
  have HR' := hide hr'
  clear hr hr' hp ht
  go_enter Tryd.func3, Tryd.ntmps3
  go_wp2_with fail
  refine (helloOf a bs cap _ hbm (unhide HR)).mono ?_
  rintro e w1 ⟨x, y, g, ms, c, rfl, htc, hl, b1⟩
  have HTC := hide htc
  have h8 := hel_len htc
  have hml : ms.length ≤ 1048576 := by omega
  have B1 := hide b1
  have B2 := hide (b1.alloc b1.size (.cells #[.int .i64 x, .int .i64 y, .slice g ms.length c] 25))
  have T2 := hide (bx3_new w1 x y (.slice g ms.length c) 25)
  have L2 := hide (hl.below ((Below.refl _ _).alloc (Nat.le_refl _) (.cells #[.int .i64 x, .int .i64 y, .slice g ms.length c] 25)))
  have hlt1 : w.heap.size ≤ w1.heap.size := b1.size
  have HEN := hide (dec_enc htc)
  have HEL := hide (enc_len x y ms)
  have HLB := hide (lenB_enc htc)
  have HES : Hid (encS x y ms = strOfNums (helNums x y ms ms.length)) := hide (by unfold encS; rw [if_pos htc])
  have HEE : Hid (encE x y ms = 0) := hide (by unfold encE; rw [if_pos htc])
  have HTE : Hid (txtE x y ms = 0) := hide (by unfold txtE; rw [if_pos htc])
  have HSA : Hid (symA x y ms = symN ms ms.length) := hide (by unfold symA; rw [if_pos htc])
  have HSE : Hid (symE x y ms = 0) := hide (by unfold symE; rw [if_pos htc])
  have HNB := hide (sym_nb htc)
  have HPR := hide (sym_pair (hel_all htc))
  have HIN : Hid (∀ i, i ∈ symN ms ms.length → 1 ≤ i ∧ i ≤ 8) := hide (fun i hi => sym_in htc hi)
  clear b1 hl htc
  generalize hsz : strOfNums (helNums x y ms ms.length) = s at *
  have HBS : Hid (s.data.toList = encB x y ms) := hide (by unfold encB; rw [hsz])
  have hss : s.size = 3 + 4 * ms.length := by rw [← unhide HEL, ← unhide HBS]; simp
  clear hsz
  obtain ⟨z0, z1, z2⟩ := unhide T2
  go_wp2_with fail
  generalize hW : w1.alloc (.cells #[.int .i64 x, .int .i64 y, .slice g ms.length c] 25) = W2 at *
  clear hW
  refine (implEncode x y g ms c _ hml (unhide L2).rm).mono ?_
  rintro e w3 ⟨rfl, b3⟩
  rw [unhide HES, unhide HEE]
  have B3 := hide ((unhide B2).trans (b3.mono (unhide B2).size))
  have T3 := hide ((unhide T2).below b3)
  have L3 := hide ((unhide L2).below b3)
  clear b3 z0 z1 z2
  obtain ⟨z0, z1, z2⟩ := unhide T3
  go_wp2_with fail
  refine (specEncode x y g ms c _ hml (unhide L3).rm).mono ?_
  rintro e w4 ⟨rfl, b4⟩
  rw [unhide HES, unhide HEE]
  have B4 := hide ((unhide B3).trans (b4.mono (unhide B3).size))
  have T4 := hide ((unhide T3).below b4)
  have L4 := hide ((unhide L3).below b4)
  clear b4 z0 z1 z2
  go_wp2_with fail
  refine (implDecode s _ (by omega)).mono ?_
  rintro e w5 ⟨v, rfl, b5, l5⟩
  rw [unhide HBS, (unhide HEN).2.1, (unhide HEN).2.2.1, (unhide HEN).2.2.2.2]
  rw [unhide HBS, (unhide HEN).2.2.2.1] at l5
  obtain ⟨g2, c2, rfl, hl5⟩ := l5
  have B5 := hide ((unhide B4).trans (b5.mono (unhide B4).size))
  have B6 := hide ((unhide B5).alloc (unhide B5).size (.cells #[.int .i64 x, .int .i64 y, .slice g2 ms.length c2] 25))
  have T6 := hide (((unhide T4).below b5).below ((Below.refl _ _).alloc (Nat.le_refl _) (.cells #[.int .i64 x, .int .i64 y, .slice g2 ms.length c2] 25)))
  have L6 := hide (((unhide L4).below b5).below ((Below.refl _ _).alloc (Nat.le_refl _) (.cells #[.int .i64 x, .int .i64 y, .slice g2 ms.length c2] 25)))
  have M6 := hide (hl5.below ((Below.refl _ _).alloc (Nat.le_refl _) (.cells #[.int .i64 x, .int .i64 y, .slice g2 ms.length c2] 25)))
  have V6 := hide (bx3_new w5 x y (.slice g2 ms.length c2) 25)
  clear b5 hl5
  obtain ⟨z0, z1, z2⟩ := unhide T6
  obtain ⟨y0, y1, y2⟩ := unhide V6
  have h4 : ¬ ((s.size : Int) < 3) := by omega
  have hlt5 := (unhide T6).lt
  go_wp2_with fail
  generalize hW : w5.alloc (.cells #[.int .i64 x, .int .i64 y, .slice g2 ms.length c2] 25) = W6 at *
  clear hW
  refine (sameHello x y g2 g ms c2 c _ hml (unhide M6).rm (unhide L6).rm).mono ?_
  rintro e w7 ⟨rfl, b7⟩
  have B7 := hide ((unhide B6).trans (b7.mono (unhide B6).size))
  have T7 := hide ((unhide T6).below b7)
  have L7 := hide ((unhide L6).below b7)
  clear b7 z0 z1 z2 y0 y1 y2 hlt5
  obtain ⟨z0, z1, z2⟩ := unhide T7
  go_wp2_with fail
  refine (implOK x y g ms c _ hml (unhide L7).rm).mono ?_
  rintro e w8 ⟨rfl, b8⟩
  rw [unhide HTC]
  have B8 := hide ((unhide B7).trans (b8.mono (unhide B7).size))
  have T8 := hide ((unhide T7).below b8)
  have L8 := hide ((unhide L7).below b8)
  have R8 := hide (reads_under (unhide HR') (unhide B8))
  clear b8 z0 z1 z2
  go_wp2_with fail
  have hsn : (3 + 4 * (ms.length : Int)) = ((3 + 4 * ms.length : Nat) : Int) := by omega
  rw [hsn]
  refine (Go.Proofs.YtpknahhdapmcoabDoor.At.choice a' bs' cap' 0 (3 + 4 * ms.length) _ (by omega) (by omega) (by omega) hbm' (unhide R8)).mono ?_
  rintro e w9 ⟨k, rfl, hk, q, rfl⟩
  have bq : Below w8.heap.size w8 (w8.drewN q) := Tim.below_drewN (Below.refl _ _) _
  have B9 := hide ((unhide B8).trans (bq.mono (unhide B8).size))
  have T9 := hide ((unhide T8).below bq)
  have L9 := hide ((unhide L8).below bq)
  generalize w8.drewN q = w9 at *
  clear hsn bq B8 T8 L8 R8
  obtain ⟨t, ht⟩ : ∃ t, s.extract 0 k = t := ⟨_, rfl⟩
  have HT : Hid (t.data.toList = (encB x y ms).take k) := hide (by
    rw [← ht, ← unhide HBS, ByteArray.data_extract, Array.toList_extract]
    simp)
  have htz : t.size ≤ 1048576 := by
    have e : t.data.toList.length = t.size := by simp
    rw [← e, unhide HT, List.length_take, unhide HEL]; omega
  have hsl : ∀ W : World, (Instr.slice 9 (.string s) none (some (.int .i64 (k : Int))) none).run Tryd.prog W = .ok (.string t) W := fun W => by
    rw [run_slice_string_h (P := Tryd.prog) W 9 s Tryd.underlying9 .i64 (k : Int) (by omega) (by omega), ← ht]; simp
  have HCUT := hide (dec_cut (unhide HLB) (by rw [unhide HEL]; omega) (k := k) (by rw [unhide HEL]; exact hk))
  clear ht
  go_wp2_with fail
  refine (implDecode t _ htz).mono ?_
  rintro e w10 ⟨v, rfl, b10, l10⟩
  rw [unhide HT, (unhide HCUT).1, (unhide HCUT).2.1, (unhide HCUT).2.2.2]
  obtain ⟨g3, c3, rfl, _⟩ := l10
  have B10 := hide ((unhide B9).trans (b10.mono (unhide B9).size))
  have T10 := hide ((unhide T9).below b10)
  have L10 := hide ((unhide L9).below b10)
  rw [unhide HT, (unhide HCUT).2.2.1]
  have B11 := hide ((unhide B10).alloc (unhide B10).size (.cells #[.int .i64 0, .int .i64 0, .slice g3 ([] : List R).length c3] 25))
  have T11 := hide ((unhide T10).below ((Below.refl _ _).alloc (Nat.le_refl _) (.cells #[.int .i64 0, .int .i64 0, .slice g3 ([] : List R).length c3] 25)))
  have L11 := hide ((unhide L10).below ((Below.refl _ _).alloc (Nat.le_refl _) (.cells #[.int .i64 0, .int .i64 0, .slice g3 ([] : List R).length c3] 25)))
  clear b10 hsl B10 T10 L10
  obtain ⟨z0, z1, z2⟩ := unhide T11
  rw [List.length_nil] at z0 z1 z2 B11 T11 L11 ⊢
  go_wp2_with fail
  generalize hW : w10.alloc (.cells _ _) = W11 at *
  clear hW
  refine (implSymOf x y g ms c _ hml (unhide L11).rm).mono ?_
  rintro e wS ⟨v, rfl, bS, lS⟩
  rw [unhide HSE]
  rw [unhide HSA] at lS
  obtain ⟨gS, cS, rfl, hlS⟩ := lS
  have HLS := hide (symN_len ms ms.length)
  generalize hzs : symN ms ms.length = zs at *
  clear hzs
  have MS := hide hlS
  have BS := hide ((unhide B11).trans (bS.mono (unhide B11).size))
  have TS := hide ((unhide T11).below bS)
  have LS := hide ((unhide L11).below bS)
  clear bS hlS z0 z1 z2 B11 T11 L11
  obtain ⟨z0, z1, z2⟩ := unhide TS
  go_wp2_with fail
  refine (implText x y g ms c _ hml (unhide LS).rm (unhide HTP _ (unhide BS)) (unhide HTW _ (unhide BS))).mono ?_
  rintro e w12 ⟨rfl, b12⟩
  rw [unhide HTE]
  have B12 := hide ((unhide BS).trans (b12.mono (unhide BS).size))
  have T12 := hide ((unhide TS).below b12)
  have L12 := hide ((unhide LS).below b12)
  have M12 := hide ((unhide MS).below b12)
  clear b12 z0 z1 z2
  obtain ⟨z0, z1, z2⟩ := unhide T12
  go_wp2_with fail
  refine (specText x y g ms c _ hml (unhide L12).rm).mono ?_
  rintro e w13 ⟨rfl, b13⟩
  rw [unhide HTE]
  have B13 := hide ((unhide B12).trans (b13.mono (unhide B12).size))
  have T13 := hide ((unhide T12).below b13)
  have L13 := hide ((unhide L12).below b13)
  have M13 := hide ((unhide M12).below b13)
  clear b13 z0 z1 z2
  generalize txtS x y ms = tx at *
  generalize hQ : zs.length = q at *
  have HQ := hide hQ
  have hq8 : q ≤ 8 := by have := unhide HLS; omega
  clear hQ
  go_wp2_with fail
  go_loopw [20, 21] (fun n i wr => ∃ j : Nat, j ≤ 8 ∧ i = .int .i64 ((j : Int) + 1) ∧ n = .int .i64 (cntL zs ((j : Int) + 1) : Int) ∧ Hid (Below w13.heap.size w13 wr)) (fun _ i _ => (9 - intOf i).toNat)
  case atStart => exact ⟨0, by omega, rfl, congrArg (Value.int .i64) (by rw [cnt_none (fun z hz => by have := unhide HIN z hz; omega)]; rfl), hide (Below.refl _ _)⟩
  case round =>
    obtain ⟨j, hj, rfl, rfl, hbl⟩ := hrel
    have TR := hide ((unhide T13).below (unhide hbl))
    have LR := hide ((unhide L13).below (unhide hbl))
    have MR := hide ((unhide M13).below (unhide hbl)).rm
    by_cases hlt : j < 8
    · have hj1 : (j : Int) + 1 ≤ 8 := by omega
      obtain ⟨z0, z1, z2⟩ := unhide TR
      go_wp2_with fail
      refine (implNbOf x y g ms c ((j : Int) + 1) _ hml (unhide LR).rm).mono ?_
      rintro e w14 ⟨rfl, b14⟩
      have B14 := hide ((unhide hbl).trans (b14.mono (unhide hbl).size))
      have M14 := hide ((unhide MR).below b14)
      clear b14 z0 z1 z2
      have hnb := unhide HNB ((j : Int) + 1)
      generalize nbE x y ms ((j : Int) + 1) = E at *
      generalize nbA x y ms ((j : Int) + 1) = A at *
      obtain ⟨ad, st, mt, mp⟩ := A
      unfold R.value
      dsimp only at hnb ⊢
      have B15 := hide ((unhide B14).alloc (unhide B14).size (.cells #[.int .i64 ad, .int .i64 st, .int .i64 mt, .bool mp] 38))
      have M15 := hide ((unhide M14).below ((Below.refl _ _).alloc (Nat.le_refl _) (.cells #[.int .i64 ad, .int .i64 st, .int .i64 mt, .bool mp] 38)))
      rcases hnb with ⟨hE, hiff⟩ | ⟨hE, hno⟩
      · subst hE
        by_cases h2 : st = 2
        · have hin := hiff.2 h2
          have hat := cnt_at (unhide HPR) hin
          have hcn := hide (cnt_in (unhide HPR) hin)
          have hlt2 : cntL zs ((j : Int) + 1) < zs.length := (List.getElem?_eq_some_iff.1 hat).1
          have hcell : Hid (zs.getD (cntL zs ((j : Int) + 1)) 0 = (j : Int) + 1) := hide (by rw [List.getD_eq_getElem?_getD, hat]; rfl)
          rw [unhide HQ] at hlt2
          clear hin hat hiff
          have h2' : (st == 2) = true := by rw [h2]; rfl
          clear h2
          generalize cntL zs ((j : Int) + 1) = k at *
          rcases unhide M15 with e0 | ⟨gz, off, rfl, hc⟩
          · exfalso; have := unhide HQ; rw [e0] at this; simp at this; omega
          have hck := hc k (by rw [unhide HQ]; exact hlt2)
          rw [unhide hcell] at hck
          clear hc
          have k0 : (0 : Int) ≤ (k : Int) := by omega
          have k1 : (k : Int) < (q : Int) := by omega
          have k2 : ¬ ((q : Int) ≤ (k : Int)) := by omega
          go_wp2_with fail
          go_roundw
          case rel => exact ⟨j + 1, by omega, by go_num, congrArg (Value.int .i64) (by rw [show ((j + 1 : Nat) : Int) + 1 = (j : Int) + 1 + 1 by omega, unhide hcn]; omega), B15⟩
          case measure => simp [intOf]; omega
        · have hcn := hide (cnt_out (zs := zs) (i := (j : Int) + 1) (fun h => h2 (hiff.1 h)))
          have h2' : (st == 2) = false := beq_eq_false_iff_ne.2 h2
          clear hiff h2
          go_wp2_with fail
          go_roundw
          case rel => exact ⟨j + 1, by omega, by go_num, congrArg (Value.int .i64) (by rw [show ((j + 1 : Nat) : Int) + 1 = (j : Int) + 1 + 1 by omega, unhide hcn]), B15⟩
          case measure => simp [intOf]; omega
      · subst hE
        have hcn := hide (cnt_out (zs := zs) (i := (j : Int) + 1) hno)
        clear hno
        go_wp2_with fail
        go_roundw
        case rel => exact ⟨j + 1, by omega, by go_num, congrArg (Value.int .i64) (by rw [show ((j + 1 : Nat) : Int) + 1 = (j : Int) + 1 + 1 by omega, unhide hcn]), B15⟩
        case measure => simp [intOf]; omega
    · have hj9 : ¬ ((j : Int) + 1 ≤ 8) := by omega
      have HF := hide ((unhide B13).trans ((unhide hbl).mono (unhide B13).size))
      have hall : ((cntL zs ((j : Int) + 1) : Nat) : Int) = (q : Int) := by rw [cnt_all (fun z hz => by have := unhide HIN z hz; omega), unhide HQ]
      rw [hall]
      clear hall
      have hqq : ((q : Int) == (q : Int)) = true := by simp
      go_wp2_with fail
      go_ret
      exact ⟨rfl, unhide HF⟩

set_option maxRecDepth 100000
/-- An array of texts that reads as a list of texts holds them, cell for cell. -/
theorem cells_of_strs {H : Type} {enc : TypeId × Value → H} {P : Program} {w : World} {base : Nat} {sp : Nat → Bool} {held : Bool} {fuel : Nat} {t e : TypeId} {n : Nat} {cs : List Value} {bs : List (List UInt8)} {p : List MemPlace}
    (ht : P.underlying t = some (.array n e)) (he : P.underlying e = some .string) (hce : P.cellsOf e = 1) (hct : P.cellsOf t = n)
    (h : DataW.trod enc P w base sp held fuel t cs = some (.agg (bs.map fun b => .lit (.string b)), p)) : cs = bs.map fun b => Value.string ⟨b.toArray⟩ := by
  cases fuel with
  | zero => simp [DataW.trod] at h
  | succ fuel =>
    simp only [DataW.trod, ht, hce, hct, Nat.mul_one] at h
    split at h
    · rename_i hl
      obtain ⟨xs, hm, hx⟩ := Option.map_eq_some_iff.1 h
      have hxs : xs.map (·.1) = bs.map fun b => (DataW.lit (.string b) : DataW H) := by
        have := congrArg Prod.fst hx
        simpa using this
      have hxl : xs.length = n := by simpa using Lib.mapM_length hm
      have hzl : bs.length = n := by
        have := congrArg List.length hxs
        simp at this
        omega
      apply List.ext_getElem?
      intro i
      by_cases hi : i < n
      · obtain ⟨b, hb, hf⟩ := Lib.mapM_at hm i i (by simp [hi])
        obtain ⟨z, hc, rfl, _⟩ := DataW.trod_string he hf
        have h1 : cs[i]? = some (.string z) := by
          have := congrArg (·[0]?) hc
          simpa [List.getElem?_take, List.getElem?_drop] using this
        have h2 : (xs.map (·.1))[i]? = some (DataW.lit (.string z.data.toList) : DataW H) := by simp [hb]
        rw [hxs] at h2
        simp only [List.getElem?_map, Option.map_eq_some_iff, DataW.lit.injEq, Lit.string.injEq] at h2
        obtain ⟨z', hz', e2⟩ := h2
        have e3 : z = ⟨z'.toArray⟩ := by rw [e2]
        rw [h1, List.getElem?_map, hz', e3]; rfl
      · rw [List.getElem?_eq_none (by omega), List.getElem?_eq_none (by simp; omega)]
    · cases h
def words : List (List UInt8) := [[108, 111, 115, 116], [104, 101, 97, 114, 100], [115, 121, 109]]
theorem gTab : Tryd.prog.globalNamed "internal/strconv.uint64pow10" = some 1 := by kernel_rfl
theorem gType : (Tryd.prog.globals[1]?).map (·.type) = some 122 := by kernel_rfl
theorem cellsA : Tryd.prog.cellsOf 122 = 20 := by kernel_rfl
theorem cellsU : Tryd.prog.cellsOf 114 = 1 := by kernel_rfl
theorem gTabW : Tryd.prog.globalNamed "loop.example/g00419/impl.statusWords" = some 0 := by kernel_rfl
theorem gTypeW : (Tryd.prog.globals[0]?).map (·.type) = some 81 := by kernel_rfl
theorem cellsW : Tryd.prog.cellsOf 81 = 3 := by kernel_rfl
theorem cellsS : Tryd.prog.cellsOf 9 = 1 := by kernel_rfl
theorem table {W : World} (h : laidMetH Tryd.prog Rows.fnHelloRow.laid W) : TabP W := by
  have h1 := h.filter (fun x => x.1 == "internal/strconv.uint64pow10")
  have e : (Rows.fnHelloRow.laid.filter (fun x => x.1 == "internal/strconv.uint64pow10")) = [("internal/strconv.uint64pow10", Lib.tabData .u64 Lib.pow10Tab)] := by kernel_rfl
  rw [e] at h1
  exact Lib.tabIs_of_head gTab gType Tryd.underlying122 Tryd.underlying114 cellsU cellsA (laidMetH_iff.1 h1).1
theorem tableW {W : World} (h : laidMetH Tryd.prog Rows.fnHelloRow.laid W) : TabW W 0 := by
  have h1 := h.filter (fun x => x.1 == "loop.example/g00419/impl.statusWords")
  have e : (Rows.fnHelloRow.laid.filter (fun x => x.1 == "loop.example/g00419/impl.statusWords")) = [("loop.example/g00419/impl.statusWords", Rows.laid_loop_example_g00419_impl_statusWords)] := by kernel_rfl
  rw [e] at h1
  obtain ⟨⟨ps, ⟨g', t', cs, fuel, p, q, hg', ht', hvar, hd, _, _⟩, _⟩, _⟩ := laidMetH_iff.1 h1
  obtain rfl := Option.some.inj (gTabW.symm.trans hg')
  obtain rfl := Option.some.inj (gTypeW.symm.trans ht')
  have hc := cells_of_strs (bs := words) Tryd.underlying81 Tryd.underlying9 cellsS cellsW hd
  obtain ⟨cl⟩ := cs
  dsimp only at hc
  subst hc
  exact ⟨World.var?_cell gTabW hvar 0, World.var?_cell gTabW hvar 1, World.var?_cell gTabW hvar 2⟩

/-- What the walk gives, for every argument and every world that holds the tables. -/
theorem contract (H : Type) (enc : TypeId × Value → H) (W : World) (base : Nat) (args : Array Value) (ds gs : List (DataW H)) (before : List MemPlace)
    (hval0 : ∀ (j : Nat) t v, Tryd.f3.params[j]? = some t → args[j]? = some v → Value.okWide Tryd.prog W .any base t v)
    (hW : DataW.Whole enc Tryd.prog Tryd.f3.params.toList Rows.fnHelloSpec.vars false W args.toList ds gs before) (hL : laidMetH Tryd.prog Rows.fnHelloRow.laid W) :
    Calls Tryd.prog 3 args W fun e W' => ∃ v, e = .returned v ∧ Rows.fnHelloSpec.post enc Tryd.prog Tryd.f3 false true false false W args v W' := by
  have hval := hval0
  have hW' := hW
  obtain ⟨p, q, hA0, hV, rfl, hfz, hnd⟩ := hW
  have hA : DataW.TrodAll enc Tryd.prog W 0 (fun _ => true) true Tryd.f3.params.toList args.toList ds p := hA0
  rw [Tryd.params3] at hA hval
  obtain ⟨v0, vs0, d0, ds0, p0, q0, hargs0, rfl, rfl, h0, r0⟩ := trodAll_cons hA
  obtain ⟨v1, vs1, d1, ds1, p1, q1, hargs1, rfl, rfl, h1, r1⟩ := trodAll_cons r0
  obtain ⟨rfl, rfl, rfl⟩ := trodAll_nil r1
  obtain rfl : args = #[v0, v1] := by cases args; simp_all
  have k0 := h0
  have lt0 : ∀ x ∈ p0, x.block < W.heap.size := by obtain ⟨m, hm⟩ := k0; exact DataW.trod_lt m _ _ _ hm
  have k1 := h1
  have lt1 : ∀ x ∈ p1, x.block < W.heap.size := by obtain ⟨m, hm⟩ := k1; exact DataW.trod_lt m _ _ _ hm
  obtain ⟨a0, len0, cap0, rfl⟩ := okWide_slice Tryd.underlying22 (hval 0 22 v0 rfl rfl)
  obtain ⟨bs0, hlen0, hmx0, hrd0⟩ := Op.open_bytes h0
  subst hlen0
  obtain ⟨a1, len1, cap1, rfl⟩ := okWide_slice Tryd.underlying22 (hval 1 22 v1 rfl rfl)
  obtain ⟨bs1, hlen1, hmx1, hrd1⟩ := Op.open_bytes h1
  subst hlen1
  obtain ⟨g, rfl⟩ : ∃ g, gs = [g] := by
    cases gs with
    | nil => exact hV.elim
    | cons g r => cases r with
      | nil => exact ⟨g, rfl⟩
      | cons g' r' => obtain ⟨_, _, _, _, _, _, _, _, _, _, h, _⟩ := hV; exact h.elim
  clear hA0 hval0
  have hT := table hL
  have hTW := tableW hL
  refine (walk a0 bs0 cap0 hmx0 a1 bs1 cap1 hmx1 W hrd0 hrd1 hT hTW).mono fun e W' ⟨he, bel⟩ => ?_
  subst he
  exact ⟨_, rfl, _, _, _, [], _, _, hW', trodAll_mk1 (shut_bool Tryd.underlying4 _), (trodAll_cons_mk (Below.trod laidOut (by kernel_rfl) (of_decide_eq_true (by kernel_rfl)) k0 bel lt0) (trodAll_cons_mk (Below.trod laidOut (by kernel_rfl) (of_decide_eq_true (by kernel_rfl)) k1 bel lt1) trodAll_mk0)), bel.trodVars laidOut (by kernel_rfl) hV, bel.frame _, fun h => by cases h⟩

def d32 : List Int := [0, 1, 28, 2, 29, 14, 24, 3, 30, 22, 20, 15, 25, 17, 4, 8, 31, 27, 13, 23, 21, 19, 16, 7, 26, 12, 18, 6, 11, 5, 10, 9]
def d64 : List Int := [0, 1, 56, 2, 57, 49, 28, 3, 61, 58, 42, 50, 38, 29, 17, 4, 62, 47, 59, 36, 45, 43, 51, 22, 53, 39, 33, 30, 24, 18, 12, 5, 63, 55, 48, 27, 60, 41, 37, 16, 46, 35, 44, 21, 52, 32, 23, 11, 54, 26, 40, 15, 34, 20, 31, 10, 25, 14, 19, 9, 13, 8, 7, 6]
/-- A block whose cells are these numbers, these texts. -/
def laidAs (k : IntKind) (zs : List Int) : Obj → Obj
  | .cells _ t frozen => .cells (zs.map fun z => Value.int k z).toArray t frozen
  | o => o
def laidStr (bs : List (List UInt8)) : Obj → Obj
  | .cells _ t frozen => .cells (bs.map fun b => Value.string ⟨b.toArray⟩).toArray t frozen
  | o => o
theorem laid_met (os : Os) : laidMet Tryd.prog Rows.fnHelloRow.laid (({ World.holding Tryd.prog os ⟨#[], #[], []⟩ with heap := ((((World.holding Tryd.prog os ⟨#[], #[], []⟩).heap.modify 1 (laidAs .u64 Lib.pow10Tab)).modify 2 (laidAs .u8 d32)).modify 3 (laidAs .u8 d64)).modify 0 (laidStr words) } : World).forCall (fun _ _ => 0) ⟨#[], #[.slice none 0 0, .slice none 0 0], []⟩).memory :=
  laidMet_of_run' 8 (by kernel_rfl) (by kernel_rfl)
theorem whole_of_map {α β γ : Type} {o : Option (α × β × γ)} {a : α} {b : β} (h : o.map (fun x => (x.1, x.2.1)) = some (a, b)) : ∃ c, o = some (a, b, c) := by
  cases o with
  | none => cases h
  | some x => obtain ⟨x1, x2, x3⟩ := x; cases h; exact ⟨x3, rfl⟩
theorem reads (os : Os) {H : Type} (enc : TypeId × Value → H) : ∃ places, DataW.whole enc Tryd.prog (({ World.holding Tryd.prog os ⟨#[], #[], []⟩ with heap := ((((World.holding Tryd.prog os ⟨#[], #[], []⟩).heap.modify 1 (laidAs .u64 Lib.pow10Tab)).modify 2 (laidAs .u8 d32)).modify 3 (laidAs .u8 d64)).modify 0 (laidStr words) } : World).forCall (fun _ _ => 0) ⟨#[], #[.slice none 0 0, .slice none 0 0], []⟩).memory Tryd.f3.params.toList Rows.fnHelloSpec.vars false #[.slice none 0 0, .slice none 0 0].toList 8 = some ([.nil, .nil], [Rows.laid_loop_example_g00419_impl_statusWords], places) :=
  whole_of_map (by kernel_rfl)

set_option maxRecDepth 100000 in
theorem lifted (os : Os) (started : os.Started) (H : Type) (enc : TypeId × Value → H) (F : Stop.Interp) :
    ReturnsInHanded {} Tryd.checked os 3 .any ((OpenSpec.ofChange Rows.fnHelloSpec).preRow enc Tryd.prog Tryd.f3 Rows.fnHelloRow.domain false Rows.fnHelloRow.laid) (((OpenSpec.ofChange Rows.fnHelloSpec).at F).post enc Tryd.prog Tryd.f3 false true false false) := by
  obtain ⟨places, hx⟩ := reads os enc
  refine returnsInHanded_of_row (C := Tryd.checked) (s := OpenSpec.ofChange Rows.fnHelloSpec) own started (by kernel_rfl) Tryd.func3
    (witness_row_at (enc := enc) (C := Tryd.checked) false ({ World.holding Tryd.prog os ⟨#[], #[], []⟩ with heap := ((((World.holding Tryd.prog os ⟨#[], #[], []⟩).heap.modify 1 (laidAs .u64 Lib.pow10Tab)).modify 2 (laidAs .u8 d32)).modify 3 (laidAs .u8 d64)).modify 0 (laidStr words) } : World) #[.slice none 0 0, .slice none 0 0] rfl (by kernel_rfl) (by kernel_rfl) (by kernel_rfl)
      (OpenSpec.preRow_of_cond 8 hx (by kernel_rfl) (fun k hk => by cases hk) (by kernel_rfl) (laid_met os))) ?_
  intro W base args ds gs before hval hW _ _ _ hL _ _
  exact contract H enc W base args ds gs before hval hW hL

theorem said : Rows.FnHelloSaid :=
  OpenClaim.holds_of_cond 3 Tryd.f3 rfl rfl rfl rfl rfl rfl rfl ⟨rfl, rfl, rfl, rfl, rfl⟩ rfl rfl rfl rfl rfl (by kernel_rfl) Tryd.func3 (by kernel_rfl)
    (of_decide_eq_true (by kernel_rfl)) (by unfold Func.isWrapper; first | (rw [if_pos (by decide +kernel)]; kernel_rfl) | (rw [if_neg (by decide +kernel)]; exact ⟨rfl, rfl⟩))
    (fun os started H enc _ F => by rw [OpenClaim.pre_eq_preRow]; exact lifted os started H enc F)

theorem plain (f : FuncId) (fn : Func) (hf : Tryd.pinned.checked.prog.funcNamed "loop.example/g00419/laws.FnHello" = some f) (hfn : Tryd.pinned.checked.prog.funcs[f]? = some fn) :
    false = Tryd.pinned.checked.prog.looks [] ∧ ∀ (j : Nat) t, fn.params[j]? = some t → Tryd.pinned.checked.prog.wantsStandIn t = false := by
  obtain rfl : f = 3 := Option.some.inj ((show Tryd.prog.funcNamed "loop.example/g00419/laws.FnHello" = some 3 by kernel_rfl).symm.trans hf) |>.symm
  obtain rfl : fn = Tryd.f3 := (Option.some.inj (Tryd.func3.symm.trans hfn)).symm
  refine ⟨by kernel_rfl, fun j t ht => ?_⟩
  rw [Tryd.params3] at ht
  have e : t = 22 := by have := Array.mem_of_getElem? ht; simpa using this
  subst e
  exact (show Tryd.prog.wantsStandIn 22 = false by kernel_rfl)
end Go.Proofs.YtpknahhdapmcoabDoor.fnHello
namespace Go.Proofs.YtpknahhdapmcoabDoor
/-- The card: for all slices of bytes FnHello holds: a hello is read back from its bytes; who is symmetric is told. -/
theorem fnHello_card : Rows.FnHelloCardSaid :=
  Claim7.holds_tied_plain_at .later [] _ _ _ _ fnHello.said (fun _ h => by cases h) (by kernel_rfl) (fun _ h => by cases h) fnHello_row_tie rfl ⟨rfl, rfl⟩ (by kernel_rfl) rfl fnHello.plain (by kernel_rfl)
end Go.Proofs.YtpknahhdapmcoabDoor
