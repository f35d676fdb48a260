/-
  Proved here: for all slices of bytes, laws.FnForget returns true (links that were lost long enough are forgotten; who is symmetric is told) and leaves the slices as they were. No condition but the tables that the card ties to the program's text.
-/
import Derived.Test.YtpknahhdapmcoabDoorLnkV
import Derived.Test.YtpknahhdapmcoabDoorLnkW
import Derived.Test.YtpknahhdapmcoabDoorLnkD
import Derived.Test.YtpknahhdapmcoabDoorLnkY
import Derived.Test.YtpknahhdapmcoabDoorAt
import Derived.Test.YtpknahhdapmcoabDoorCards
import Derived.Test.YtpknahhdapmcoabDoorTie
import Derived.OpenVars
import Derived.Deep.DeepHandedRow
import Derived.Lib.LaidTab
namespace Go.Proofs.YtpknahhdapmcoabDoor.fnForget
open Go.ChangeShapes Go.WideShapes Go.ChangeAt Go.RowKit
open W1 By Sr Ln
set_option linter.unusedVariables false
set_option linter.unusedSimpArgs false
attribute [local go_sem ↓] Go.wp_at_zero Go.wp_at_succ
theorem own : ownKnob Tryd.prog.godebug = none := by kernel_rfl
theorem laidOut : laidOutB Tryd.prog = true := by kernel_rfl
theorem below_dN {w : World} (q : Nat) : Below w.heap.size w (w.drewN q) := ⟨rfl, rfl, rfl, Nat.le_refl _, fun _ _ => rfl⟩
theorem below_dr {B : Nat} {w w' : World} (h : Below B w w') (q : Nat) : Below B w (w'.drewN q) := ⟨h.os, h.tape, h.output, h.size, h.block⟩
theorem reads_und {w w' : World} {a : Option Addr} {bs : List UInt8} (h : Reads w a bs) (hb : Below w.heap.size w w') : Reads w' a bs := by
  rcases h with h | ⟨g, off, e, hc⟩
  · exact .inl h
  · exact .inr ⟨g, off, e, fun i hi => (hb.cell (p := ⟨g, off + i, none⟩) (World.block_lt_of_cell? _ _ (hc i hi))).trans (hc i hi)⟩
set_option maxRecDepth 100000 in
set_option maxHeartbeats 8000000 in
theorem walk (a : Option Addr) (bs : List UInt8) (cap : Nat) (hm0 : bs.length ≤ maxLen) (a' : Option Addr) (bs' : List UInt8) (cap' : Nat) (hm0' : bs'.length ≤ maxLen) (w : World) (hr : Reads w a bs) (hr' : Reads w a' bs') (hp : TabP w) (ht : TabW w 0) :
    Calls Tryd.prog 5 #[.slice a bs.length cap, .slice a' bs'.length cap'] w fun e w' => e = .returned (.bool true) ∧ Below w.heap.size w w' := by
  unfold maxLen at hm0 hm0'
  by_cases hb : (1048576 : Int) < bs.length
  · go_enter Tryd.func5, Tryd.ntmps5
    go_wp2
    go_ret
    exact ⟨rfl, Below.refl _ _⟩
  by_cases hb' : (1048576 : Int) < bs'.length
  · go_enter Tryd.func5, Tryd.ntmps5
    go_wp2
    go_ret
    exact ⟨rfl, Below.refl _ _⟩
  have hbm : bs.length ≤ 1048576 := by omega
  have hbm' : bs'.length ≤ 1048576 := by omega
  have HTP := hide (Lib.tabBelow_of_tabIs hp)
  have HTW : Hid (∀ w', Below w.heap.size w w' → TabW w' 0) := hide (fun w' hb => ht.below hb)
  have HR := hide hr
  have HR' := hide hr'
  clear hr hr' hp ht
  go_enter Tryd.func5, Tryd.ntmps5
  go_wp2_with fail
  refine (linksOf a bs cap _ hbm (unhide HR)).mono ?_
  rintro e w1 ⟨g, ms, c, rfl, hok, hl, b1⟩
  have HOK := hide hok
  have HCZ := hide (code_zero hok)
  have hl8 := links_len hok
  have hml : ms.length ≤ 1048576 := by omega
  have B1 := hide b1
  have L1 := hide hl
  clear hok hl b1
  go_wp2_with fail
  refine (Go.Proofs.YtpknahhdapmcoabDoor.At.choice a' bs' cap' 0 30 _ (by omega) (by omega) (by omega) hbm' (reads_und (unhide HR') (unhide B1))).mono ?_
  rintro e w2 ⟨kn, rfl, hkn, q2, hq2⟩
  have b2 : Below w1.heap.size w1 w2 := by rw [hq2]; exact below_dN _
  have B2 := hide ((unhide B1).trans (b2.mono (unhide B1).size))
  have L2 := hide ((unhide L1).below b2)
  clear L1 b2 hq2
  obtain ⟨now, hnow⟩ : ∃ now : Int, (kn : Int) = now := ⟨_, rfl⟩
  rw [hnow]
  have HXA : Hid (expireA ms now = ms.filter (keepL now)) := hide (by unfold expireA; rw [if_pos (unhide HCZ)])
  have HSA : Hid (symA ms now = symN now ms ms.length) := hide (by unfold symA; rw [if_pos (unhide HCZ)])
  have HFO := hide (links_filter (unhide HOK) (keepL now))
  have HCF := hide (code_zero (unhide HFO))
  have HSF : Hid (symA (ms.filter (keepL now)) now = symN now ms ms.length) := hide (by unfold symA; rw [if_pos (unhide HCF), sym_still])
  have hfl : (ms.filter (keepL now)).length ≤ 1048576 := Nat.le_trans (List.length_filter_le _ _) hml
  have hsl : (symN now ms ms.length).length ≤ 1048576 := Nat.le_trans (symN_len now ms ms.length) hml
  have htl : (txtA ms now).length ≤ 1048576 := Nat.le_trans (txt_len ms now) hml
  have HSH := hide (fun (j : Nat) (h : j < ms.length) (hs : isSym now (ms.getD j Lk.R.zero) = true) => sym_here h hs)
  have HSY := hide (fun (j : Nat) (h : j < ms.length) (hs : isSym now (ms.getD j Lk.R.zero) = true) => symN_yes h hs)
  have HSN := hide (fun (j : Nat) (h : j < ms.length) (hs : isSym now (ms.getD j Lk.R.zero) = false) => symN_no h hs)
  clear hnow
  go_wp2_with fail
  refine (implExpire _ ms _ now _ hml (unhide L2).rm).mono ?_
  rintro e w3 ⟨v, rfl, b3, lx⟩
  have B3 := hide ((unhide B2).trans (b3.mono (unhide B2).size))
  have L3 := hide ((unhide L2).below b3)
  clear L2
  clear b3
  rw [unhide HXA] at lx
  rw [unhide HCZ]
  obtain ⟨gX, cX, rfl, hlx⟩ := lx
  have X3 := hide hlx
  clear hlx
  go_wp2_with fail
  refine (specExpire _ _ ms _ now _ hml (unhide L3).rm).mono ?_
  rintro e w4 ⟨v, rfl, b4, lx⟩
  have B4 := hide ((unhide B3).trans (b4.mono (unhide B3).size))
  have L4 := hide ((unhide L3).below b4)
  have X4 := hide ((unhide X3).below b4)
  clear L3 X3
  clear b4
  rw [unhide HXA] at lx
  rw [unhide HCZ]
  obtain ⟨gY, cY, rfl, hlx⟩ := lx
  have Y4 := hide hlx
  clear hlx
  go_wp2_with fail
  refine (implSym _ ms _ now _ hml (unhide L4).rm).mono ?_
  rintro e w5 ⟨v, rfl, b5, lx⟩
  have B5 := hide ((unhide B4).trans (b5.mono (unhide B4).size))
  have L5 := hide ((unhide L4).below b5)
  have X5 := hide ((unhide X4).below b5)
  have Y5 := hide ((unhide Y4).below b5)
  clear L4 X4 Y4
  clear b5
  rw [unhide HSA] at lx
  rw [unhide HCZ]
  obtain ⟨gS, cS, rfl, hlx⟩ := lx
  have S5 := hide hlx
  clear hlx
  go_wp2_with fail
  refine (implSym _ (ms.filter (keepL now)) _ now _ hfl (unhide X5).rm).mono ?_
  rintro e w6 ⟨v, rfl, b6, lx⟩
  have B6 := hide ((unhide B5).trans (b6.mono (unhide B5).size))
  have L6 := hide ((unhide L5).below b6)
  have X6 := hide ((unhide X5).below b6)
  have Y6 := hide ((unhide Y5).below b6)
  have S6 := hide ((unhide S5).below b6)
  clear L5 X5 Y5 S5
  clear b6
  rw [unhide HSF] at lx
  rw [unhide HCF]
  obtain ⟨gU, cU, rfl, hlx⟩ := lx
  have U6 := hide hlx
  clear hlx
  go_wp2_with fail
  refine (implText _ ms _ now _ hml (unhide L6).rm (unhide HTP _ (unhide B6)) (unhide HTW _ (unhide B6))).mono ?_
  rintro e w7 ⟨v, rfl, b7, lx⟩
  have B7 := hide ((unhide B6).trans (b7.mono (unhide B6).size))
  have L7 := hide ((unhide L6).below b7)
  have X7 := hide ((unhide X6).below b7)
  have Y7 := hide ((unhide Y6).below b7)
  have S7 := hide ((unhide S6).below b7)
  have U7 := hide ((unhide U6).below b7)
  clear L6 X6 Y6 S6 U6
  clear b7
  rw [unhide HCZ]
  obtain ⟨gT, cT, rfl, hlx⟩ := lx
  have T7 := hide hlx
  clear hlx
  go_wp2_with fail
  refine (specText _ _ ms _ now _ hml (unhide L7).rm).mono ?_
  rintro e w8 ⟨v, rfl, b8, lx⟩
  have B8 := hide ((unhide B7).trans (b8.mono (unhide B7).size))
  have L8 := hide ((unhide L7).below b8)
  have X8 := hide ((unhide X7).below b8)
  have Y8 := hide ((unhide Y7).below b8)
  have S8 := hide ((unhide S7).below b8)
  have U8 := hide ((unhide U7).below b8)
  have T8 := hide ((unhide T7).below b8)
  clear L7 X7 Y7 S7 U7 T7
  clear b8
  rw [unhide HCZ]
  obtain ⟨gV, cV, rfl, hlx⟩ := lx
  have V8 := hide hlx
  clear hlx
  go_wp2_with fail
  refine (sameLinks _ _ (ms.filter (keepL now)) _ _ _ hfl (unhide X8).rm (unhide Y8).rm).mono ?_
  rintro e w9 ⟨rfl, b9⟩
  have B9 := hide ((unhide B8).trans (b9.mono (unhide B8).size))
  have L9 := hide ((unhide L8).below b9)
  have X9 := hide ((unhide X8).below b9)
  have Y9 := hide ((unhide Y8).below b9)
  have S9 := hide ((unhide S8).below b9)
  have U9 := hide ((unhide U8).below b9)
  have T9 := hide ((unhide T8).below b9)
  have V9 := hide ((unhide V8).below b9)
  clear L8 X8 Y8 S8 U8 T8 V8
  clear b9
  go_wp2_with fail
  refine (In.sameS _ _ (symN now ms ms.length) _ _ _ hsl (unhide S9).rm (unhide U9).rm).mono ?_
  rintro e w10 ⟨rfl, b10⟩
  have B10 := hide ((unhide B9).trans (b10.mono (unhide B9).size))
  have L10 := hide ((unhide L9).below b10)
  have X10 := hide ((unhide X9).below b10)
  have Y10 := hide ((unhide Y9).below b10)
  have S10 := hide ((unhide S9).below b10)
  have U10 := hide ((unhide U9).below b10)
  have T10 := hide ((unhide T9).below b10)
  have V10 := hide ((unhide V9).below b10)
  clear L9 X9 Y9 S9 U9 T9 V9
  clear b10
  go_wp2_with fail
  refine (Ss.sameS _ _ (txtA ms now) _ _ _ htl (unhide T10).rm (unhide V10).rm).mono ?_
  rintro e w11 ⟨rfl, b11⟩
  have B11 := hide ((unhide B10).trans (b11.mono (unhide B10).size))
  have L11 := hide ((unhide L10).below b11)
  have X11 := hide ((unhide X10).below b11)
  have Y11 := hide ((unhide Y10).below b11)
  have S11 := hide ((unhide S10).below b11)
  have U11 := hide ((unhide U10).below b11)
  have T11 := hide ((unhide T10).below b11)
  have V11 := hide ((unhide V10).below b11)
  clear L10 X10 Y10 S10 U10 T10 V10
  clear b11
  generalize hZS : symN now ms ms.length = zs at *
  have HZS := hide hZS
  clear hZS
  generalize hQ : zs.length = qn at *
  have HQ := hide hQ
  clear hQ
  generalize hN : ms.length = nn at *
  have HN := hide hN
  clear hN
  go_wp2_with fail
  go_loopw [19, 20] (fun m i wr => ∃ j : Nat, j ≤ nn ∧ i = .int .i64 j ∧ m = .int .i64 ((symN now ms j).length : Int) ∧ Hid (Below w11.heap.size w11 wr)) (fun _ i _ => nn - (intOf i).toNat)
  case atStart => exact ⟨0, by omega, rfl, rfl, hide (Below.refl _ _)⟩
  case round =>
    obtain ⟨j, hj, rfl, rfl, hbl⟩ := hrel
    by_cases hlt : (j : Int) < (nn : Int)
    · have k0 : (0 : Int) ≤ (j : Int) := by omega
      have hlen : j < ms.length := by rw [unhide HN]; omega
      have HA := hide (((unhide L11).below (unhide hbl)).rm.at hlen)
      have HSR := hide ((unhide S11).below (unhide hbl)).rm
      have hfj := symN_len now ms j
      cases hs : isSym now (ms.getD j Lk.R.zero)
      · have HE := hide (unhide HSN j (by have := unhide HN; omega) hs)
        have hst : (statusV (ms.getD j Lk.R.zero) now != 2) = true := by unfold isSym at hs; simpa using hs
        clear hs
        generalize ms.getD j Lk.R.zero = m at *
        obtain ⟨c0, c1, c2, c3, c4, c5⟩ := unhide HA
        simp only [Nat.zero_add] at c0 c1 c2 c3 c4 c5
        go_wp2_with fail
        clear c0 c1 c2 c3 c4 c5
        refine (implStatus _ _ _ _ _ _ now _).mono ?_
        rintro e wf ⟨rfl, bf⟩
        have HBF := hide ((unhide hbl).trans (bf.mono (unhide hbl).size))
        have e2 : statusV ⟨m.ad, m.hd, m.sy, m.ci, m.co, m.wl⟩ now = statusV m now := rfl
        rw [e2]
        clear e2 bf
        generalize statusV m now = sv at *
        go_wp2_with fail
        go_roundw
        case rel => exact ⟨j + 1, by omega, by go_num, by rw [unhide HE], HBF⟩
        case measure => simp [intOf]; omega
      · have HE := hide (unhide HSY j (by have := unhide HN; omega) hs)
        have hh := unhide HSH j (by have := unhide HN; omega) hs
        have hst : (statusV (ms.getD j Lk.R.zero) now != 2) = false := by unfold isSym at hs; simpa using hs
        clear hs
        have hcz := hide hh.2
        have hqk : (symN now ms j).length < qn := by have := hh.1; omega
        clear hh
        generalize hkk : (symN now ms j).length = kk at *
        generalize ms.getD j Lk.R.zero = m at *
        obtain ⟨c0, c1, c2, c3, c4, c5⟩ := unhide HA
        simp only [Nat.zero_add] at c0 c1 c2 c3 c4 c5
        go_wp2_with fail
        clear c0 c1 c2 c3 c4 c5
        refine (implStatus _ _ _ _ _ _ now _).mono ?_
        rintro e wf ⟨rfl, bf⟩
        have HBF := hide ((unhide hbl).trans (bf.mono (unhide hbl).size))
        have HAF := hide ((unhide HA).below bf)
        have HSF2 := hide ((unhide HSR).below bf)
        have e2 : statusV ⟨m.ad, m.hd, m.sy, m.ci, m.co, m.wl⟩ now = statusV m now := rfl
        rw [e2]
        clear e2 bf
        generalize statusV m now = sv at *
        rcases unhide HSF2 with e0 | ⟨gz, oz, rfl, hcc⟩
        · exfalso; have := unhide HQ; rw [e0] at this; simp at this; omega
        have hck := hcc kk (by rw [unhide HQ]; exact hqk)
        rw [unhide hcz] at hck
        clear hcc
        obtain ⟨c0, c1, c2, c3, c4, c5⟩ := unhide HAF
        simp only [Nat.zero_add] at c0 c1 c2 c3 c4 c5
        have hkk0 : (0 : Int) ≤ (kk : Int) := by omega
        have hkk1 : (kk : Int) < (qn : Int) := by omega
        have hkk2 : ¬ ((qn : Int) ≤ (kk : Int)) := by omega
        have hne : (m.ad != m.ad) = false := by simp
        go_wp2_with fail
        go_quiet (fail)
        go_wp2_with fail
        go_roundw
        case rel => exact ⟨j + 1, by omega, by go_num, by rw [unhide HE, List.length_append, List.length_singleton, hkk]; go_num, hide (below_dr (unhide HBF) _)⟩
        case measure => simp [intOf]; omega
    · have hjn : j = nn := by omega
      have HF := hide ((unhide B11).trans ((unhide hbl).mono (unhide B11).size))
      have hall : (symN now ms j).length = qn := by rw [hjn, unhide HZS, unhide HQ]
      rw [hall]
      have hqq : ((qn : Int) == (qn : Int)) = true := by simp
      go_wp2_with fail
      go_ret
      exact ⟨rfl, unhide HF⟩

set_option maxRecDepth 100000
/-- An array of texts that reads as a list of texts holds them, cell for cell. -/
theorem cells_of_strs {H : Type} {enc : TypeId × Value → H} {P : Program} {w : World} {base : Nat} {sp : Nat → Bool} {held : Bool} {fuel : Nat} {t e : TypeId} {n : Nat} {cs : List Value} {bs : List (List UInt8)} {p : List MemPlace}
    (ht : P.underlying t = some (.array n e)) (he : P.underlying e = some .string) (hce : P.cellsOf e = 1) (hct : P.cellsOf t = n)
    (h : DataW.trod enc P w base sp held fuel t cs = some (.agg (bs.map fun b => .lit (.string b)), p)) : cs = bs.map fun b => Value.string ⟨b.toArray⟩ := by
  cases fuel with
  | zero => simp [DataW.trod] at h
  | succ fuel =>
    simp only [DataW.trod, ht, hce, hct, Nat.mul_one] at h
    split at h
    · rename_i hl
      obtain ⟨xs, hm, hx⟩ := Option.map_eq_some_iff.1 h
      have hxs : xs.map (·.1) = bs.map fun b => (DataW.lit (.string b) : DataW H) := by
        have := congrArg Prod.fst hx
        simpa using this
      have hxl : xs.length = n := by simpa using Lib.mapM_length hm
      have hzl : bs.length = n := by
        have := congrArg List.length hxs
        simp at this
        omega
      apply List.ext_getElem?
      intro i
      by_cases hi : i < n
      · obtain ⟨b, hb, hf⟩ := Lib.mapM_at hm i i (by simp [hi])
        obtain ⟨z, hc, rfl, _⟩ := DataW.trod_string he hf
        have h1 : cs[i]? = some (.string z) := by
          have := congrArg (·[0]?) hc
          simpa [List.getElem?_take, List.getElem?_drop] using this
        have h2 : (xs.map (·.1))[i]? = some (DataW.lit (.string z.data.toList) : DataW H) := by simp [hb]
        rw [hxs] at h2
        simp only [List.getElem?_map, Option.map_eq_some_iff, DataW.lit.injEq, Lit.string.injEq] at h2
        obtain ⟨z', hz', e2⟩ := h2
        have e3 : z = ⟨z'.toArray⟩ := by rw [e2]
        rw [h1, List.getElem?_map, hz', e3]; rfl
      · rw [List.getElem?_eq_none (by omega), List.getElem?_eq_none (by simp; omega)]
    · cases h
def words : List (List UInt8) := [[108, 111, 115, 116], [104, 101, 97, 114, 100], [115, 121, 109]]
theorem gTab : Tryd.prog.globalNamed "internal/strconv.uint64pow10" = some 1 := by kernel_rfl
theorem gType : (Tryd.prog.globals[1]?).map (·.type) = some 122 := by kernel_rfl
theorem cellsA : Tryd.prog.cellsOf 122 = 20 := by kernel_rfl
theorem cellsU : Tryd.prog.cellsOf 114 = 1 := by kernel_rfl
theorem gTabW : Tryd.prog.globalNamed "loop.example/g00419/impl.statusWords" = some 0 := by kernel_rfl
theorem gTypeW : (Tryd.prog.globals[0]?).map (·.type) = some 81 := by kernel_rfl
theorem cellsW : Tryd.prog.cellsOf 81 = 3 := by kernel_rfl
theorem cellsS : Tryd.prog.cellsOf 9 = 1 := by kernel_rfl
theorem table {W : World} (h : laidMetH Tryd.prog Rows.fnForgetRow.laid W) : TabP W := by
  have h1 := h.filter (fun x => x.1 == "internal/strconv.uint64pow10")
  have e : (Rows.fnForgetRow.laid.filter (fun x => x.1 == "internal/strconv.uint64pow10")) = [("internal/strconv.uint64pow10", Lib.tabData .u64 Lib.pow10Tab)] := by kernel_rfl
  rw [e] at h1
  exact Lib.tabIs_of_head gTab gType Tryd.underlying122 Tryd.underlying114 cellsU cellsA (laidMetH_iff.1 h1).1
theorem tableW {W : World} (h : laidMetH Tryd.prog Rows.fnForgetRow.laid W) : TabW W 0 := by
  have h1 := h.filter (fun x => x.1 == "loop.example/g00419/impl.statusWords")
  have e : (Rows.fnForgetRow.laid.filter (fun x => x.1 == "loop.example/g00419/impl.statusWords")) = [("loop.example/g00419/impl.statusWords", Rows.laid_loop_example_g00419_impl_statusWords)] := by kernel_rfl
  rw [e] at h1
  obtain ⟨⟨ps, ⟨g', t', cs, fuel, p, q, hg', ht', hvar, hd, _, _⟩, _⟩, _⟩ := laidMetH_iff.1 h1
  obtain rfl := Option.some.inj (gTabW.symm.trans hg')
  obtain rfl := Option.some.inj (gTypeW.symm.trans ht')
  have hc := cells_of_strs (bs := words) Tryd.underlying81 Tryd.underlying9 cellsS cellsW hd
  obtain ⟨cl⟩ := cs
  dsimp only at hc
  subst hc
  exact ⟨World.var?_cell gTabW hvar 0, World.var?_cell gTabW hvar 1, World.var?_cell gTabW hvar 2⟩

/-- What the walk gives, for every argument and every world that holds the tables. -/
theorem contract (H : Type) (enc : TypeId × Value → H) (W : World) (base : Nat) (args : Array Value) (ds gs : List (DataW H)) (before : List MemPlace)
    (hval0 : ∀ (j : Nat) t v, Tryd.f5.params[j]? = some t → args[j]? = some v → Value.okWide Tryd.prog W .any base t v)
    (hW : DataW.Whole enc Tryd.prog Tryd.f5.params.toList Rows.fnForgetSpec.vars false W args.toList ds gs before) (hL : laidMetH Tryd.prog Rows.fnForgetRow.laid W) :
    Calls Tryd.prog 5 args W fun e W' => ∃ v, e = .returned v ∧ Rows.fnForgetSpec.post enc Tryd.prog Tryd.f5 false true false false W args v W' := by
  have hval := hval0
  have hW' := hW
  obtain ⟨p, q, hA0, hV, rfl, hfz, hnd⟩ := hW
  have hA : DataW.TrodAll enc Tryd.prog W 0 (fun _ => true) true Tryd.f5.params.toList args.toList ds p := hA0
  rw [Tryd.params5] at hA hval
  obtain ⟨v0, vs0, d0, ds0, p0, q0, hargs0, rfl, rfl, h0, r0⟩ := trodAll_cons hA
  obtain ⟨v1, vs1, d1, ds1, p1, q1, hargs1, rfl, rfl, h1, r1⟩ := trodAll_cons r0
  obtain ⟨rfl, rfl, rfl⟩ := trodAll_nil r1
  obtain rfl : args = #[v0, v1] := by cases args; simp_all
  have k0 := h0
  have lt0 : ∀ x ∈ p0, x.block < W.heap.size := by obtain ⟨m, hm⟩ := k0; exact DataW.trod_lt m _ _ _ hm
  have k1 := h1
  have lt1 : ∀ x ∈ p1, x.block < W.heap.size := by obtain ⟨m, hm⟩ := k1; exact DataW.trod_lt m _ _ _ hm
  obtain ⟨a0, len0, cap0, rfl⟩ := okWide_slice Tryd.underlying22 (hval 0 22 v0 rfl rfl)
  obtain ⟨bs0, hlen0, hmx0, hrd0⟩ := Op.open_bytes h0
  subst hlen0
  obtain ⟨a1, len1, cap1, rfl⟩ := okWide_slice Tryd.underlying22 (hval 1 22 v1 rfl rfl)
  obtain ⟨bs1, hlen1, hmx1, hrd1⟩ := Op.open_bytes h1
  subst hlen1
  obtain ⟨g, rfl⟩ : ∃ g, gs = [g] := by
    cases gs with
    | nil => exact hV.elim
    | cons g r => cases r with
      | nil => exact ⟨g, rfl⟩
      | cons g' r' => obtain ⟨_, _, _, _, _, _, _, _, _, _, h, _⟩ := hV; exact h.elim
  clear hA0 hval0
  have hT := table hL
  have hTW := tableW hL
  refine (walk a0 bs0 cap0 hmx0 a1 bs1 cap1 hmx1 W hrd0 hrd1 hT hTW).mono fun e W' ⟨he, bel⟩ => ?_
  subst he
  exact ⟨_, rfl, _, _, _, [], _, _, hW', trodAll_mk1 (shut_bool Tryd.underlying4 _), (trodAll_cons_mk (Below.trod laidOut (by kernel_rfl) (of_decide_eq_true (by kernel_rfl)) k0 bel lt0) (trodAll_cons_mk (Below.trod laidOut (by kernel_rfl) (of_decide_eq_true (by kernel_rfl)) k1 bel lt1) trodAll_mk0)), bel.trodVars laidOut (by kernel_rfl) hV, bel.frame _, fun h => by cases h⟩

def d32 : List Int := [0, 1, 28, 2, 29, 14, 24, 3, 30, 22, 20, 15, 25, 17, 4, 8, 31, 27, 13, 23, 21, 19, 16, 7, 26, 12, 18, 6, 11, 5, 10, 9]
def d64 : List Int := [0, 1, 56, 2, 57, 49, 28, 3, 61, 58, 42, 50, 38, 29, 17, 4, 62, 47, 59, 36, 45, 43, 51, 22, 53, 39, 33, 30, 24, 18, 12, 5, 63, 55, 48, 27, 60, 41, 37, 16, 46, 35, 44, 21, 52, 32, 23, 11, 54, 26, 40, 15, 34, 20, 31, 10, 25, 14, 19, 9, 13, 8, 7, 6]
/-- A block whose cells are these numbers, these texts. -/
def laidAs (k : IntKind) (zs : List Int) : Obj → Obj
  | .cells _ t frozen => .cells (zs.map fun z => Value.int k z).toArray t frozen
  | o => o
def laidStr (bs : List (List UInt8)) : Obj → Obj
  | .cells _ t frozen => .cells (bs.map fun b => Value.string ⟨b.toArray⟩).toArray t frozen
  | o => o
theorem laid_met (os : Os) : laidMet Tryd.prog Rows.fnForgetRow.laid (({ World.holding Tryd.prog os ⟨#[], #[], []⟩ with heap := ((((World.holding Tryd.prog os ⟨#[], #[], []⟩).heap.modify 1 (laidAs .u64 Lib.pow10Tab)).modify 2 (laidAs .u8 d32)).modify 3 (laidAs .u8 d64)).modify 0 (laidStr words) } : World).forCall (fun _ _ => 0) ⟨#[], #[.slice none 0 0, .slice none 0 0], []⟩).memory :=
  laidMet_of_run' 8 (by kernel_rfl) (by kernel_rfl)
theorem whole_of_map {α β γ : Type} {o : Option (α × β × γ)} {a : α} {b : β} (h : o.map (fun x => (x.1, x.2.1)) = some (a, b)) : ∃ c, o = some (a, b, c) := by
  cases o with
  | none => cases h
  | some x => obtain ⟨x1, x2, x3⟩ := x; cases h; exact ⟨x3, rfl⟩
theorem reads (os : Os) {H : Type} (enc : TypeId × Value → H) : ∃ places, DataW.whole enc Tryd.prog (({ World.holding Tryd.prog os ⟨#[], #[], []⟩ with heap := ((((World.holding Tryd.prog os ⟨#[], #[], []⟩).heap.modify 1 (laidAs .u64 Lib.pow10Tab)).modify 2 (laidAs .u8 d32)).modify 3 (laidAs .u8 d64)).modify 0 (laidStr words) } : World).forCall (fun _ _ => 0) ⟨#[], #[.slice none 0 0, .slice none 0 0], []⟩).memory Tryd.f5.params.toList Rows.fnForgetSpec.vars false #[.slice none 0 0, .slice none 0 0].toList 8 = some ([.nil, .nil], [Rows.laid_loop_example_g00419_impl_statusWords], places) :=
  whole_of_map (by kernel_rfl)

set_option maxRecDepth 100000 in
theorem lifted (os : Os) (started : os.Started) (H : Type) (enc : TypeId × Value → H) (F : Stop.Interp) :
    ReturnsInHanded {} Tryd.checked os 5 .any ((OpenSpec.ofChange Rows.fnForgetSpec).preRow enc Tryd.prog Tryd.f5 Rows.fnForgetRow.domain false Rows.fnForgetRow.laid) (((OpenSpec.ofChange Rows.fnForgetSpec).at F).post enc Tryd.prog Tryd.f5 false true false false) := by
  obtain ⟨places, hx⟩ := reads os enc
  refine returnsInHanded_of_row (C := Tryd.checked) (s := OpenSpec.ofChange Rows.fnForgetSpec) own started (by kernel_rfl) Tryd.func5
    (witness_row_at (enc := enc) (C := Tryd.checked) false ({ World.holding Tryd.prog os ⟨#[], #[], []⟩ with heap := ((((World.holding Tryd.prog os ⟨#[], #[], []⟩).heap.modify 1 (laidAs .u64 Lib.pow10Tab)).modify 2 (laidAs .u8 d32)).modify 3 (laidAs .u8 d64)).modify 0 (laidStr words) } : World) #[.slice none 0 0, .slice none 0 0] rfl (by kernel_rfl) (by kernel_rfl) (by kernel_rfl)
      (OpenSpec.preRow_of_cond 8 hx (by kernel_rfl) (fun k hk => by cases hk) (by kernel_rfl) (laid_met os))) ?_
  intro W base args ds gs before hval hW _ _ _ hL _ _
  exact contract H enc W base args ds gs before hval hW hL

theorem said : Rows.FnForgetSaid :=
  OpenClaim.holds_of_cond 5 Tryd.f5 rfl rfl rfl rfl rfl rfl rfl ⟨rfl, rfl, rfl, rfl, rfl⟩ rfl rfl rfl rfl rfl (by kernel_rfl) Tryd.func5 (by kernel_rfl)
    (of_decide_eq_true (by kernel_rfl)) (by unfold Func.isWrapper; first | (rw [if_pos (by decide +kernel)]; kernel_rfl) | (rw [if_neg (by decide +kernel)]; exact ⟨rfl, rfl⟩))
    (fun os started H enc _ F => by rw [OpenClaim.pre_eq_preRow]; exact lifted os started H enc F)

theorem plain (f : FuncId) (fn : Func) (hf : Tryd.pinned.checked.prog.funcNamed "loop.example/g00419/laws.FnForget" = some f) (hfn : Tryd.pinned.checked.prog.funcs[f]? = some fn) :
    false = Tryd.pinned.checked.prog.looks [] ∧ ∀ (j : Nat) t, fn.params[j]? = some t → Tryd.pinned.checked.prog.wantsStandIn t = false := by
  obtain rfl : f = 5 := Option.some.inj ((show Tryd.prog.funcNamed "loop.example/g00419/laws.FnForget" = some 5 by kernel_rfl).symm.trans hf) |>.symm
  obtain rfl : fn = Tryd.f5 := (Option.some.inj (Tryd.func5.symm.trans hfn)).symm
  refine ⟨by kernel_rfl, fun j t ht => ?_⟩
  rw [Tryd.params5] at ht
  have e : t = 22 := by have := Array.mem_of_getElem? ht; simpa using this
  subst e
  exact (show Tryd.prog.wantsStandIn 22 = false by kernel_rfl)
end Go.Proofs.YtpknahhdapmcoabDoor.fnForget
namespace Go.Proofs.YtpknahhdapmcoabDoor
/-- The card: for all slices of bytes, laws.FnForget returns true. -/
theorem fnForget_card : Rows.FnForgetCardSaid :=
  Claim7.holds_tied_plain_at .later [] _ _ _ _ fnForget.said (fun _ h => by cases h) (by kernel_rfl) (fun _ h => by cases h) fnForget_row_tie rfl ⟨rfl, rfl⟩ (by kernel_rfl) rfl fnForget.plain (by kernel_rfl)
end Go.Proofs.YtpknahhdapmcoabDoor
