/-
  Proved here: for every argument, laws.FnExactRouteDiff returns true (the program's RouteDiff answers as its model, leaves its arguments alone, and answers in memory of its own), and leaves what came in as it was. No condition. (The walk is written by mklaw.py.)
-/
import Derived.Test.YtmlokaielemhaaaDoorRouY
import Derived.Test.YtmlokaielemhaaaDoorCards
import Derived.Test.YtmlokaielemhaaaDoorTie
import Derived.OpenVars
import Derived.Deep.DeepHandedRow
import Derived.Lib.LaidTab
namespace Go.Proofs.YtmlokaielemhaaaDoor.fnExactRouteDiff
open Go.ChangeShapes Go.WideShapes Go.ChangeAt Go.RowKit
open W1 Rw
set_option linter.unusedVariables false
theorem own : ownKnob Tryd.prog.godebug = none := by kernel_rfl
theorem laidOut : laidOutB Tryd.prog = true := by kernel_rfl
theorem sH1 {w : World} {b : Nat} {x y : Int} {v : Value} (h : Bx3 w b x y v) : Bx3 w b x y v ∧ w.cell? ⟨b, 0, none⟩ = some (.int .i64 x) ∧ w.cell? ⟨b, 1, none⟩ = some (.int .i64 y) ∧ w.cell? ⟨b, 2, none⟩ = some v := ⟨h, h⟩
theorem sH2 {w : World} {b b' : Nat} {x y x' y' : Int} {v v' : Value} (h : Bx3 w b x y v) (h' : Bx3 w b' x' y' v') :
    (Bx3 w b x y v ∧ Bx3 w b' x' y' v') ∧ w.cell? ⟨b, 0, none⟩ = some (.int .i64 x) ∧ w.cell? ⟨b, 1, none⟩ = some (.int .i64 y) ∧ w.cell? ⟨b, 2, none⟩ = some v ∧ w.cell? ⟨b', 0, none⟩ = some (.int .i64 x') ∧ w.cell? ⟨b', 1, none⟩ = some (.int .i64 y') ∧ w.cell? ⟨b', 2, none⟩ = some v' := ⟨⟨h, h'⟩, h.1, h.2.1, h.2.2, h'.1, h'.2.1, h'.2.2⟩

set_option maxRecDepth 100000 in
set_option maxHeartbeats 8000000 in
theorem walk (a : Option Addr) (ms : List Ro.R) (cap : Nat) (hm_ms : ms.length ≤ maxLen) (b : Option Addr) (ns : List Ro.R) (capb : Nat) (hm_ns : ns.length ≤ maxLen) (w : World) (hr_ms : Ro.RM w a ms) (hr_ns : Ro.RM w b ns) (hp : TabP w) :
    Calls Tryd.prog 4 #[.slice a ms.length cap, .slice b ns.length capb] w fun e w' => e = .returned (.bool true) ∧ Below w.heap.size w w' := by
  have HTP := hide (Lib.tabBelow_of_tabIs hp)
  clear hp
  have HR_ms := hide hr_ms
  clear hr_ms
  have HR_ns := hide hr_ns
  clear hr_ns
  go_enter Tryd.func4, Tryd.ntmps4
  have B1 : Below w.heap.size w w := Below.refl _ _
  go_wp2_with fail
  refine (Ro.szS a ms.length cap 1048576 _ (by omega) (by omega) hm_ms).mono ?_
  rintro e w2 ⟨r2, rfl, hw2, hr01⟩
  have b2 : Below w.heap.size w w2 := by rw [hw2]; exact Below.refl _ _
  clear hw2
  have B2 : Below w.heap.size w w2 := b2
  have sz2 : w.heap.size ≤ w2.heap.size := b2.size
  rcases hr01 with hr0 | ⟨hr0, hr1⟩
  · go_wp2_with fail
    go_ret
    exact ⟨rfl, B2⟩
  have hnn2 : ¬ r2 < 0 := by omega
  have hml_ms : ms.length ≤ 1048576 := by omega
  have hrl2 : r2 ≤ 1048576 := by omega
  clear hr1 hm_ms
  go_wp2_with fail
  refine (Ro.szS b ns.length capb r2 _ (by omega) (by omega) hm_ns).mono ?_
  rintro e w3 ⟨r3, rfl, hw3, hr01⟩
  have b3 : Below w2.heap.size w2 w3 := by rw [hw3]; exact Below.refl _ _
  clear hw3
  have B3 := B2.trans (b3.mono B2.size)
  have sz3 : w2.heap.size ≤ w3.heap.size := b3.size
  rcases hr01 with hr0 | ⟨hr0, hr1⟩
  · go_wp2_with fail
    go_ret
    exact ⟨rfl, B3⟩
  have hnn3 : ¬ r3 < 0 := by omega
  have hml_ns : ns.length ≤ 1048576 := by omega
  have hrl3 : r3 ≤ 1048576 := by omega
  clear hr1 hm_ns
  have hol : (difA ms ns).length ≤ 1048576 := (Nat.le_trans (dif_len ms ns) (by omega))
  go_wp2_with fail
  refine (Ro.toS a ms cap _ hml_ms ((unhide HR_ms).below B3)).mono ?_
  rintro e w4 ⟨g4, rfl, b4, hg4, hz4, u4⟩
  have B4 := B3.trans (b4.mono B3.size)
  have sz4 : w3.heap.size ≤ w4.heap.size := b4.size
  have Sa4 : Hid (Ro.Lst w4 (some ⟨g4, 0, none⟩) ms w3.heap.size w4.heap.size) := hide (.inr ⟨g4, rfl, hg4, hz4, hz4, u4⟩)
  clear u4
  go_wp2_with fail
  refine (Ro.toS b ns capb _ hml_ns ((unhide HR_ns).below B4)).mono ?_
  rintro e w5 ⟨g5, rfl, b5, hg5, hz5, u5⟩
  have B5 := B4.trans (b5.mono B4.size)
  have sz5 : w4.heap.size ≤ w5.heap.size := b5.size
  have Sa5 := hide ((unhide Sa4).below b5)
  clear Sa4
  have Sb5 : Hid (Ro.Lst w5 (some ⟨g5, 0, none⟩) ns w4.heap.size w5.heap.size) := hide (.inr ⟨g5, rfl, hg5, hz5, hz5, u5⟩)
  clear u5
  go_wp2_with fail
  refine (specDiff _ ms _ _ ns _ _ hml_ms hml_ns (unhide Sa5).rm (unhide Sb5).rm).mono ?_
  rintro e w6 ⟨v6, rfl, b6, l6⟩
  have B6 := B5.trans (b6.mono B5.size)
  have sz6 : w5.heap.size ≤ w6.heap.size := b6.size
  have Sa6 := hide ((unhide Sa5).below b6)
  have Sb6 := hide ((unhide Sb5).below b6)
  clear Sa5 Sb5
  obtain ⟨a6, c6, rfl, L6⟩ := l6
  have W6 := hide L6
  clear L6
  obtain ⟨cd, hcd⟩ : ∃ cd, codeR2 ms ns = cd := ⟨_, rfl⟩
  have HC := hide hcd
  rw [hcd]
  clear hcd
  have hne : (cd != cd) = false := by simp
  clear Sa6
  clear Sb6
  go_wp2_with fail
  refine (Ro.toS a ms cap _ hml_ms ((unhide HR_ms).below B6)).mono ?_
  rintro e w7 ⟨g7, rfl, b7, hg7, hz7, u7⟩
  have B7 := B6.trans (b7.mono B6.size)
  have sz7 : w6.heap.size ≤ w7.heap.size := b7.size
  have W7 := hide ((unhide W6).below b7)
  clear W6
  have Xa7 : Hid (Ro.Lst w7 (some ⟨g7, 0, none⟩) ms w6.heap.size w7.heap.size) := hide (.inr ⟨g7, rfl, hg7, hz7, hz7, u7⟩)
  clear u7
  go_wp2_with fail
  refine (Ro.toS b ns capb _ hml_ns ((unhide HR_ns).below B7)).mono ?_
  rintro e w8 ⟨g8, rfl, b8, hg8, hz8, u8⟩
  have B8 := B7.trans (b8.mono B7.size)
  have sz8 : w7.heap.size ≤ w8.heap.size := b8.size
  have W8 := hide ((unhide W7).below b8)
  have Xa8 := hide ((unhide Xa7).below b8)
  clear W7 Xa7
  have Xb8 : Hid (Ro.Lst w8 (some ⟨g8, 0, none⟩) ns w7.heap.size w8.heap.size) := hide (.inr ⟨g8, rfl, hg8, hz8, hz8, u8⟩)
  clear u8
  go_wp2_with fail
  refine (implDiff _ ms _ _ ns _ _ hml_ms hml_ns (unhide Xa8).rm (unhide Xb8).rm (unhide HTP _ B8)).mono ?_
  rintro e w9 ⟨v9, rfl, b9, l9⟩
  have B9 := B8.trans (b9.mono B8.size)
  have sz9 : w8.heap.size ≤ w9.heap.size := b9.size
  have W9 := hide ((unhide W8).below b9)
  have Xa9 := hide ((unhide Xa8).below b9)
  have Xb9 := hide ((unhide Xb8).below b9)
  clear W8 Xa8 Xb8
  obtain ⟨a9, c9, rfl, L9⟩ := l9
  have G9 := hide L9
  clear L9
  rw [unhide HC]
  go_wp2_with fail
  refine (Ss.eqS _ _ (difA ms ns) _ _ _ hol (unhide G9).rm (unhide W9).rm).mono ?_
  rintro e w10 ⟨rfl, b10⟩
  have B10 := B9.trans (b10.mono B9.size)
  have sz10 : w9.heap.size ≤ w10.heap.size := b10.size
  have W10 := hide ((unhide W9).below b10)
  have Xa10 := hide ((unhide Xa9).below b10)
  have Xb10 := hide ((unhide Xb9).below b10)
  have G10 := hide ((unhide G9).below b10)
  clear W9 Xa9 Xb9 G9
  go_wp2_with fail
  refine (Ro.toS a ms cap _ hml_ms ((unhide HR_ms).below B10)).mono ?_
  rintro e w11 ⟨g11, rfl, b11, hg11, hz11, u11⟩
  have B11 := B10.trans (b11.mono B10.size)
  have sz11 : w10.heap.size ≤ w11.heap.size := b11.size
  have W11 := hide ((unhide W10).below b11)
  have Xa11 := hide ((unhide Xa10).below b11)
  have Xb11 := hide ((unhide Xb10).below b11)
  have G11 := hide ((unhide G10).below b11)
  clear W10 Xa10 Xb10 G10
  have Y11 : Hid (Ro.Lst w11 (some ⟨g11, 0, none⟩) ms w10.heap.size w11.heap.size) := hide (.inr ⟨g11, rfl, hg11, hz11, hz11, u11⟩)
  clear u11
  go_wp2_with fail
  refine (Ro.eqS _ _ ms _ _ _ hml_ms (unhide Xa11).rm (unhide Y11).rm).mono ?_
  rintro e w12 ⟨rfl, b12⟩
  have B12 := B11.trans (b12.mono B11.size)
  have sz12 : w11.heap.size ≤ w12.heap.size := b12.size
  have W12 := hide ((unhide W11).below b12)
  have Xa12 := hide ((unhide Xa11).below b12)
  have Xb12 := hide ((unhide Xb11).below b12)
  have G12 := hide ((unhide G11).below b12)
  have Y12 := hide ((unhide Y11).below b12)
  clear W11 Xa11 Xb11 G11 Y11
  clear Y12
  go_wp2_with fail
  refine (Ro.toS b ns capb _ hml_ns ((unhide HR_ns).below B12)).mono ?_
  rintro e w13 ⟨g13, rfl, b13, hg13, hz13, u13⟩
  have B13 := B12.trans (b13.mono B12.size)
  have sz13 : w12.heap.size ≤ w13.heap.size := b13.size
  have W13 := hide ((unhide W12).below b13)
  have Xa13 := hide ((unhide Xa12).below b13)
  have Xb13 := hide ((unhide Xb12).below b13)
  have G13 := hide ((unhide G12).below b13)
  clear W12 Xa12 Xb12 G12
  have Y13 : Hid (Ro.Lst w13 (some ⟨g13, 0, none⟩) ns w12.heap.size w13.heap.size) := hide (.inr ⟨g13, rfl, hg13, hz13, hz13, u13⟩)
  clear u13
  go_wp2_with fail
  refine (Ro.eqS _ _ ns _ _ _ hml_ns (unhide Xb13).rm (unhide Y13).rm).mono ?_
  rintro e w14 ⟨rfl, b14⟩
  have B14 := B13.trans (b14.mono B13.size)
  have sz14 : w13.heap.size ≤ w14.heap.size := b14.size
  have W14 := hide ((unhide W13).below b14)
  have Xa14 := hide ((unhide Xa13).below b14)
  have Xb14 := hide ((unhide Xb13).below b14)
  have G14 := hide ((unhide G13).below b14)
  have Y14 := hide ((unhide Y13).below b14)
  clear W13 Xa13 Xb13 G13 Y13
  clear Y14
  go_wp2_with fail
  refine (Ro.markF _ _ _ _ (1) ms _ (by omega) (by omega) hml_ms (unhide Xa14)).mono ?_
  rintro e w15 ⟨rfl, sz15, b15, f15, k15⟩
  have sB15 := B14.size
  have B15 := B14.trans (b15.mono (by omega))
  have W15 := hide ((unhide W14).but (p := fun k => k < w6.heap.size ∨ w7.heap.size ≤ k) sz15 (fun k hk h => k15 k hk h) (fun k h1 h2 => by omega))
  have Xb15 := hide ((unhide Xb14).but (p := fun k => k < w6.heap.size ∨ w7.heap.size ≤ k) sz15 (fun k hk h => k15 k hk h) (fun k h1 h2 => by omega))
  have G15 := hide ((unhide G14).but (p := fun k => k < w6.heap.size ∨ w7.heap.size ≤ k) sz15 (fun k hk h => k15 k hk h) (fun k h1 h2 => by omega))
  clear W14 Xa14 Xb14 G14 f15 k15 b15
  go_wp2_with fail
  refine (Ro.markF _ _ _ _ (1 + 4 * (ms.length : Int)) ns _ (by omega) (by omega) hml_ns (unhide Xb15)).mono ?_
  rintro e w16 ⟨rfl, sz16, b16, f16, k16⟩
  have sB16 := B15.size
  have B16 := B15.trans (b16.mono (by omega))
  have W16 := hide ((unhide W15).but (p := fun k => k < w7.heap.size ∨ w8.heap.size ≤ k) sz16 (fun k hk h => k16 k hk h) (fun k h1 h2 => by omega))
  have G16 := hide ((unhide G15).but (p := fun k => k < w7.heap.size ∨ w8.heap.size ≤ k) sz16 (fun k hk h => k16 k hk h) (fun k h1 h2 => by omega))
  clear W15 Xb15 G15 f16 k16 b16
  have hpk : ¬ (1 + 4 * (ms.length : Int) + 4 * (ns.length : Int) < 0) := by omega
  go_wp2_with fail
  refine (Ss.eqS _ _ (difA ms ns) _ _ _ hol (unhide G16).rm (unhide W16).rm).mono ?_
  rintro e w17 ⟨rfl, b17⟩
  have B17 := B16.trans (b17.mono B16.size)
  have sz17 : w16.heap.size ≤ w17.heap.size := b17.size
  have W17 := hide ((unhide W16).below b17)
  have G17 := hide ((unhide G16).below b17)
  clear W16 G16
  go_wp2_with fail
  refine (Ss.markF _ _ _ _ 1 (difA ms ns) _ (by omega) (by omega) hol (unhide G17)).mono ?_
  rintro e w18 ⟨rfl, sz18, b18, f18, k18⟩
  have sB18 := B17.size
  have B18 := B17.trans (b18.mono (by omega))
  have W18 := hide ((unhide W17).but (p := fun k => k < w8.heap.size ∨ w9.heap.size ≤ k) sz18 (fun k hk h => k18 k hk h) (fun k h1 h2 => by omega))
  have M18 := hide f18
  clear W17 G17 f18 k18 b18
  have hpm : ¬ (1 + 1 * ((difA ms ns).length : Int) < 0) := by omega
  go_wp2_with fail
  refine (Ss.heldF _ _ (difA ms ns).length _ _ 1 _ (by omega) (by omega) hol (unhide M18)).mono ?_
  rintro e w19 ⟨rfl, b19⟩
  have B19 := B18.trans (b19.mono B18.size)
  have sz19 : w18.heap.size ≤ w19.heap.size := b19.size
  have W19 := hide ((unhide W18).below b19)
  have M19 := hide ((unhide M18).below b19)
  clear W18 M18
  go_wp2_with fail
  refine (Ro.toS a ms cap _ hml_ms ((unhide HR_ms).below B19)).mono ?_
  rintro e w20 ⟨g20, rfl, b20, hg20, hz20, u20⟩
  have B20 := B19.trans (b20.mono B19.size)
  have sz20 : w19.heap.size ≤ w20.heap.size := b20.size
  have W20 := hide ((unhide W19).below b20)
  have M20 := hide ((unhide M19).below b20)
  clear W19 M19
  have Za20 : Hid (Ro.Lst w20 (some ⟨g20, 0, none⟩) ms w19.heap.size w20.heap.size) := hide (.inr ⟨g20, rfl, hg20, hz20, hz20, u20⟩)
  clear u20
  go_wp2_with fail
  refine (Ro.toS b ns capb _ hml_ns ((unhide HR_ns).below B20)).mono ?_
  rintro e w21 ⟨g21, rfl, b21, hg21, hz21, u21⟩
  have B21 := B20.trans (b21.mono B20.size)
  have sz21 : w20.heap.size ≤ w21.heap.size := b21.size
  have W21 := hide ((unhide W20).below b21)
  have M21 := hide ((unhide M20).below b21)
  have Za21 := hide ((unhide Za20).below b21)
  clear W20 M20 Za20
  have Zb21 : Hid (Ro.Lst w21 (some ⟨g21, 0, none⟩) ns w20.heap.size w21.heap.size) := hide (.inr ⟨g21, rfl, hg21, hz21, hz21, u21⟩)
  clear u21
  go_wp2_with fail
  refine (implDiff _ ms _ _ ns _ _ hml_ms hml_ns (unhide Za21).rm (unhide Zb21).rm (unhide HTP _ B21)).mono ?_
  rintro e w22 ⟨v22, rfl, b22, l22⟩
  have B22 := B21.trans (b22.mono B21.size)
  have sz22 : w21.heap.size ≤ w22.heap.size := b22.size
  have W22 := hide ((unhide W21).below b22)
  have M22 := hide ((unhide M21).below b22)
  have Za22 := hide ((unhide Za21).below b22)
  have Zb22 := hide ((unhide Zb21).below b22)
  clear W21 M21 Za21 Zb21
  obtain ⟨a22, c22, rfl, L22⟩ := l22
  have H22 := hide L22
  clear L22
  rw [unhide HC]
  go_wp2_with fail
  refine (Ss.eqS _ _ (difA ms ns) _ _ _ hol (unhide H22).rm (unhide W22).rm).mono ?_
  rintro e w23 ⟨rfl, b23⟩
  have B23 := B22.trans (b23.mono B22.size)
  have sz23 : w22.heap.size ≤ w23.heap.size := b23.size
  have W23 := hide ((unhide W22).below b23)
  have M23 := hide ((unhide M22).below b23)
  have Za23 := hide ((unhide Za22).below b23)
  have Zb23 := hide ((unhide Zb22).below b23)
  have H23 := hide ((unhide H22).below b23)
  clear W22 M22 Za22 Zb22 H22
  go_wp2_with fail
  refine (Ss.heldF _ _ (difA ms ns).length _ _ 1 _ (by omega) (by omega) hol (unhide M23)).mono ?_
  rintro e w24 ⟨rfl, b24⟩
  have B24 := B23.trans (b24.mono B23.size)
  have sz24 : w23.heap.size ≤ w24.heap.size := b24.size
  have W24 := hide ((unhide W23).below b24)
  have M24 := hide ((unhide M23).below b24)
  have Za24 := hide ((unhide Za23).below b24)
  have Zb24 := hide ((unhide Zb23).below b24)
  have H24 := hide ((unhide H23).below b24)
  clear W23 M23 Za23 Zb23 H23
  have HF := hide B24
  go_wp2_with fail
  go_ret
  exact ⟨rfl, unhide HF⟩

set_option maxRecDepth 100000
theorem gTab : Tryd.prog.globalNamed "internal/strconv.uint64pow10" = some 0 := by kernel_rfl
theorem gType : (Tryd.prog.globals[0]?).map (·.type) = some 63 := by kernel_rfl
theorem cellsA : Tryd.prog.cellsOf 63 = 20 := by kernel_rfl
theorem cellsU : Tryd.prog.cellsOf 56 = 1 := by kernel_rfl
theorem table {W : World} (h : laidMetH Tryd.prog Rows.fnExactRouteDiffRow.laid W) : TabP W := by
  have h1 := h.filter (fun x => x.1 == "internal/strconv.uint64pow10")
  have e : (Rows.fnExactRouteDiffRow.laid.filter (fun x => x.1 == "internal/strconv.uint64pow10")) = [("internal/strconv.uint64pow10", Lib.tabData .u64 Lib.pow10Tab)] := by kernel_rfl
  rw [e] at h1
  exact Lib.tabIs_of_head gTab gType Tryd.underlying63 Tryd.underlying56 cellsU cellsA (laidMetH_iff.1 h1).1

/-- What the walk gives, for every argument and every world that holds the tables. -/
theorem contract (H : Type) (enc : TypeId × Value → H) (W : World) (base : Nat) (args : Array Value) (ds gs : List (DataW H)) (before : List MemPlace)
    (hval0 : ∀ (j : Nat) t v, Tryd.f4.params[j]? = some t → args[j]? = some v → Value.okWide Tryd.prog W .any base t v)
    (hW : DataW.Whole enc Tryd.prog Tryd.f4.params.toList Rows.fnExactRouteDiffSpec.vars false W args.toList ds gs before) (hL : laidMetH Tryd.prog Rows.fnExactRouteDiffRow.laid W) :
    Calls Tryd.prog 4 args W fun e W' => ∃ v, e = .returned v ∧ Rows.fnExactRouteDiffSpec.post enc Tryd.prog Tryd.f4 false true false false W args v W' := by
  have hval := hval0
  have hW' := hW
  obtain ⟨p, q, hA0, hV, rfl, hfz, hnd⟩ := hW
  have hA : DataW.TrodAll enc Tryd.prog W 0 (fun _ => true) true Tryd.f4.params.toList args.toList ds p := hA0
  rw [Tryd.params4] at hA hval
  obtain ⟨v0, vs0, d0, ds0, p0, q0, hargs0, rfl, rfl, h0, r0⟩ := trodAll_cons hA
  obtain ⟨v1, vs1, d1, ds1, p1, q1, hargs1, rfl, rfl, h1, r1⟩ := trodAll_cons r0
  obtain ⟨rfl, rfl, rfl⟩ := trodAll_nil r1
  obtain rfl : args = #[v0, v1] := by cases args; simp_all
  obtain ⟨rfl, rfl⟩ := trodVars_none hV
  have k0 := h0
  have lt0 : ∀ x ∈ p0, x.block < W.heap.size := by obtain ⟨m, hm⟩ := k0; exact DataW.trod_lt m _ _ _ hm
  have k1 := h1
  have lt1 : ∀ x ∈ p1, x.block < W.heap.size := by obtain ⟨m, hm⟩ := k1; exact DataW.trod_lt m _ _ _ hm
  obtain ⟨a0, len0, cap0, rfl⟩ := okWide_slice Tryd.underlying22 (hval 0 22 v0 rfl rfl)
  obtain ⟨ms0, hlen0, hmx0, hrd0⟩ := Ro.open_list h0
  subst hlen0
  obtain ⟨a1, len1, cap1, rfl⟩ := okWide_slice Tryd.underlying22 (hval 1 22 v1 rfl rfl)
  obtain ⟨ms1, hlen1, hmx1, hrd1⟩ := Ro.open_list h1
  subst hlen1
  clear hA0 hval0
  have hT := table hL
  refine (walk a0 ms0 cap0 hmx0 a1 ms1 cap1 hmx1 W hrd0 hrd1 hT).mono fun e W' ⟨he, bel⟩ => ?_
  subst he
  exact ⟨_, rfl, _, _, _, [], _, [], hW', trodAll_mk1 (shut_bool Tryd.underlying4 _), (trodAll_cons_mk (Below.trod laidOut (by kernel_rfl) (of_decide_eq_true (by kernel_rfl)) k0 bel lt0) (trodAll_cons_mk (Below.trod laidOut (by kernel_rfl) (of_decide_eq_true (by kernel_rfl)) k1 bel lt1) trodAll_mk0)), rfl, bel.frame _, fun h => by cases h⟩

def d32 : List Int := [0, 1, 28, 2, 29, 14, 24, 3, 30, 22, 20, 15, 25, 17, 4, 8, 31, 27, 13, 23, 21, 19, 16, 7, 26, 12, 18, 6, 11, 5, 10, 9]
def d64 : List Int := [0, 1, 56, 2, 57, 49, 28, 3, 61, 58, 42, 50, 38, 29, 17, 4, 62, 47, 59, 36, 45, 43, 51, 22, 53, 39, 33, 30, 24, 18, 12, 5, 63, 55, 48, 27, 60, 41, 37, 16, 46, 35, 44, 21, 52, 32, 23, 11, 54, 26, 40, 15, 34, 20, 31, 10, 25, 14, 19, 9, 13, 8, 7, 6]
/-- A block whose cells are these numbers. -/
def laidAs (k : IntKind) (zs : List Int) : Obj → Obj
  | .cells _ t frozen => .cells (zs.map fun z => Value.int k z).toArray t frozen
  | o => o
theorem laid_met (os : Os) : laidMet Tryd.prog Rows.fnExactRouteDiffRow.laid (({ World.holding Tryd.prog os ⟨#[], #[], []⟩ with heap := (((World.holding Tryd.prog os ⟨#[], #[], []⟩).heap.modify 0 (laidAs .u64 Lib.pow10Tab)).modify 1 (laidAs .u8 d32)).modify 2 (laidAs .u8 d64) } : World).forCall (fun _ _ => 0) ⟨#[], #[.slice none 0 0, .slice none 0 0], []⟩).memory :=
  laidMet_of_run' 8 (by kernel_rfl) (by kernel_rfl)
theorem whole_of_map {α β γ : Type} {o : Option (α × β × γ)} {a : α} {b : β} (h : o.map (fun x => (x.1, x.2.1)) = some (a, b)) : ∃ c, o = some (a, b, c) := by
  cases o with
  | none => cases h
  | some x => obtain ⟨x1, x2, x3⟩ := x; cases h; exact ⟨x3, rfl⟩
theorem reads (os : Os) {H : Type} (enc : TypeId × Value → H) : ∃ places, DataW.whole enc Tryd.prog (({ World.holding Tryd.prog os ⟨#[], #[], []⟩ with heap := (((World.holding Tryd.prog os ⟨#[], #[], []⟩).heap.modify 0 (laidAs .u64 Lib.pow10Tab)).modify 1 (laidAs .u8 d32)).modify 2 (laidAs .u8 d64) } : World).forCall (fun _ _ => 0) ⟨#[], #[.slice none 0 0, .slice none 0 0], []⟩).memory Tryd.f4.params.toList Rows.fnExactRouteDiffSpec.vars false #[.slice none 0 0, .slice none 0 0].toList 8 = some ([.nil, .nil], [], places) :=
  whole_of_map (by kernel_rfl)

set_option maxRecDepth 100000 in
theorem lifted (os : Os) (started : os.Started) (H : Type) (enc : TypeId × Value → H) (F : Stop.Interp) :
    ReturnsInHanded {} Tryd.checked os 4 .any ((OpenSpec.ofChange Rows.fnExactRouteDiffSpec).preRow enc Tryd.prog Tryd.f4 Rows.fnExactRouteDiffRow.domain false Rows.fnExactRouteDiffRow.laid) (((OpenSpec.ofChange Rows.fnExactRouteDiffSpec).at F).post enc Tryd.prog Tryd.f4 false true false false) := by
  obtain ⟨places, hx⟩ := reads os enc
  refine returnsInHanded_of_row (C := Tryd.checked) (s := OpenSpec.ofChange Rows.fnExactRouteDiffSpec) own started (by kernel_rfl) Tryd.func4
    (witness_row_at (enc := enc) (C := Tryd.checked) false ({ World.holding Tryd.prog os ⟨#[], #[], []⟩ with heap := (((World.holding Tryd.prog os ⟨#[], #[], []⟩).heap.modify 0 (laidAs .u64 Lib.pow10Tab)).modify 1 (laidAs .u8 d32)).modify 2 (laidAs .u8 d64) } : World) #[.slice none 0 0, .slice none 0 0] rfl (by kernel_rfl) (by kernel_rfl) (by kernel_rfl)
      (OpenSpec.preRow_of_cond 8 hx (by kernel_rfl) (fun k hk => by cases hk) (by kernel_rfl) (laid_met os))) ?_
  intro W base args ds gs before hval hW _ _ _ hL _ _
  exact contract H enc W base args ds gs before hval hW hL

theorem said : Rows.FnExactRouteDiffSaid :=
  OpenClaim.holds_of_cond 4 Tryd.f4 rfl rfl rfl rfl rfl rfl rfl ⟨rfl, rfl, rfl, rfl, rfl⟩ rfl rfl rfl rfl rfl (by kernel_rfl) Tryd.func4 (by kernel_rfl)
    (of_decide_eq_true (by kernel_rfl)) (by unfold Func.isWrapper; first | (rw [if_pos (by decide +kernel)]; kernel_rfl) | (rw [if_neg (by decide +kernel)]; exact ⟨rfl, rfl⟩))
    (fun os started H enc _ F => by rw [OpenClaim.pre_eq_preRow]; exact lifted os started H enc F)

theorem plain (f : FuncId) (fn : Func) (hf : Tryd.pinned.checked.prog.funcNamed "loop.example/g00419/laws.FnExactRouteDiff" = some f) (hfn : Tryd.pinned.checked.prog.funcs[f]? = some fn) :
    false = Tryd.pinned.checked.prog.looks [] ∧ ∀ (j : Nat) t, fn.params[j]? = some t → Tryd.pinned.checked.prog.wantsStandIn t = false := by
  obtain rfl : f = 4 := Option.some.inj ((show Tryd.prog.funcNamed "loop.example/g00419/laws.FnExactRouteDiff" = some 4 by kernel_rfl).symm.trans hf) |>.symm
  obtain rfl : fn = Tryd.f4 := (Option.some.inj (Tryd.func4.symm.trans hfn)).symm
  refine ⟨by kernel_rfl, fun j t ht => ?_⟩
  rw [Tryd.params4] at ht
  have e := Array.mem_of_getElem? ht
  simp at e
  subst e
  exact (show Tryd.prog.wantsStandIn 22 = false by kernel_rfl)
end Go.Proofs.YtmlokaielemhaaaDoor.fnExactRouteDiff
namespace Go.Proofs.YtmlokaielemhaaaDoor
/-- The card: at every two lists the program's RouteDiff answers as its model. -/
theorem fnExactRouteDiff_card : Rows.FnExactRouteDiffCardSaid :=
  Claim7.holds_tied_plain_at .later [] _ _ _ _ fnExactRouteDiff.said (fun _ h => by cases h) (by kernel_rfl) (fun _ h => by cases h) fnExactRouteDiff_row_tie rfl ⟨rfl, rfl⟩ (by kernel_rfl) rfl fnExactRouteDiff.plain (by kernel_rfl)
end Go.Proofs.YtmlokaielemhaaaDoor
