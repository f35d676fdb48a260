/-
  Proved here: for every argument, laws.FnExactStrictTwo returns true (the program's StrictTwo answers as its model, leaves its arguments alone, and answers in memory of its own), and leaves what came in as it was. No condition. (The walk is written by mklaw.py.)
-/
import Derived.Test.YtpknahhdapmcoanTwoY
import Derived.Test.YtpknahhdapmcoanTwoX
namespace Go.Proofs.Ytpknahhdapmcoan.fnExactStrictTwo
open Go.ChangeShapes Go.WideShapes Go.ChangeAt Go.RowKit
open W1 Tw
set_option linter.unusedVariables false
theorem own : ownKnob Try.prog.godebug = none := by kernel_rfl
theorem laidOut : laidOutB Try.prog = true := by kernel_rfl
theorem sH1 {w : World} {b : Nat} {x y : Int} {v : Value} (h : Bx3 w b x y v) : Bx3 w b x y v ∧ w.cell? ⟨b, 0, none⟩ = some (.int .i64 x) ∧ w.cell? ⟨b, 1, none⟩ = some (.int .i64 y) ∧ w.cell? ⟨b, 2, none⟩ = some v := ⟨h, h⟩
theorem sH2 {w : World} {b b' : Nat} {x y x' y' : Int} {v v' : Value} (h : Bx3 w b x y v) (h' : Bx3 w b' x' y' v') :
    (Bx3 w b x y v ∧ Bx3 w b' x' y' v') ∧ w.cell? ⟨b, 0, none⟩ = some (.int .i64 x) ∧ w.cell? ⟨b, 1, none⟩ = some (.int .i64 y) ∧ w.cell? ⟨b, 2, none⟩ = some v ∧ w.cell? ⟨b', 0, none⟩ = some (.int .i64 x') ∧ w.cell? ⟨b', 1, none⟩ = some (.int .i64 y') ∧ w.cell? ⟨b', 2, none⟩ = some v' := ⟨⟨h, h'⟩, h.1, h.2.1, h.2.2, h'.1, h'.2.1, h'.2.2⟩

set_option maxRecDepth 100000 in
set_option maxHeartbeats 8000000 in
theorem walk (a : Option Addr) (ms : List Tu.R) (cap : Nat) (hm_ms : ms.length ≤ maxLen) (b : Option Addr) (ls : List Lk.R) (capl : Nat) (hm_ls : ls.length ≤ maxLen) (me : Int) (wf_me : (Lit.int .i64 me).wf = true) (now : Int) (wf_now : (Lit.int .i64 now).wf = true) (w : World) (hr_ms : Tu.RM w a ms) (hr_ls : Lk.RM w b ls) :
    Calls Try.prog 5 #[.slice a ms.length cap, .slice b ls.length capl, .int .i64 me, .int .i64 now] w fun e w' => e = .returned (.bool true) ∧ Below w.heap.size w w' := by
  have HR_ms := hide hr_ms
  clear hr_ms
  have HR_ls := hide hr_ls
  clear hr_ls
  go_enter Try.func5, Try.ntmps5
  have B1 : Below w.heap.size w w := Below.refl _ _
  go_wp2_with fail
  refine (Tu.szS a ms.length cap 1048576 _ (by omega) (by omega) hm_ms).mono ?_
  rintro e w2 ⟨r2, rfl, hw2, hr01⟩
  have b2 : Below w.heap.size w w2 := by rw [hw2]; exact Below.refl _ _
  clear hw2
  have B2 : Below w.heap.size w w2 := b2
  have sz2 : w.heap.size ≤ w2.heap.size := b2.size
  rcases hr01 with hr0 | ⟨hr0, hr1⟩
  · go_wp2_with fail
    go_ret
    exact ⟨rfl, B2⟩
  have hnn2 : ¬ r2 < 0 := by omega
  have hml_ms : ms.length ≤ 1048576 := by omega
  have hrl2 : r2 ≤ 1048576 := by omega
  clear hr1 hm_ms
  go_wp2_with fail
  refine (Lk.szS b ls.length capl r2 _ (by omega) (by omega) hm_ls).mono ?_
  rintro e w3 ⟨r3, rfl, hw3, hr01⟩
  have b3 : Below w2.heap.size w2 w3 := by rw [hw3]; exact Below.refl _ _
  clear hw3
  have B3 := B2.trans (b3.mono B2.size)
  have sz3 : w2.heap.size ≤ w3.heap.size := b3.size
  rcases hr01 with hr0 | ⟨hr0, hr1⟩
  · go_wp2_with fail
    go_ret
    exact ⟨rfl, B3⟩
  have hnn3 : ¬ r3 < 0 := by omega
  have hml_ls : ls.length ≤ 1048576 := by omega
  have hrl3 : r3 ≤ 1048576 := by omega
  clear hr1 hm_ls
  have hol : (strictA ms ls me now).length ≤ 1048576 := (Nat.le_trans (strict_len ms ls me now) (by omega))
  go_wp2_with fail
  refine (Tu.toS a ms cap _ hml_ms ((unhide HR_ms).below B3)).mono ?_
  rintro e w4 ⟨g4, rfl, b4, hg4, hz4, u4⟩
  have B4 := B3.trans (b4.mono B3.size)
  have sz4 : w3.heap.size ≤ w4.heap.size := b4.size
  have Sa4 : Hid (Tu.Lst w4 (some ⟨g4, 0, none⟩) ms w3.heap.size w4.heap.size) := hide (.inr ⟨g4, rfl, hg4, hz4, hz4, u4⟩)
  clear u4
  go_wp2_with fail
  refine (Lk.toS b ls capl _ hml_ls ((unhide HR_ls).below B4)).mono ?_
  rintro e w5 ⟨g5, rfl, b5, hg5, hz5, u5⟩
  have B5 := B4.trans (b5.mono B4.size)
  have sz5 : w4.heap.size ≤ w5.heap.size := b5.size
  have Sa5 := hide ((unhide Sa4).below b5)
  clear Sa4
  have Sb5 : Hid (Lk.Lst w5 (some ⟨g5, 0, none⟩) ls w4.heap.size w5.heap.size) := hide (.inr ⟨g5, rfl, hg5, hz5, hz5, u5⟩)
  clear u5
  go_wp2_with fail
  refine (specStrict _ _ ms _ _ ls _ me now _ hml_ms hml_ls (unhide Sa5).rm (unhide Sb5).rm).mono ?_
  rintro e w6 ⟨v6, rfl, b6, l6⟩
  have B6 := B5.trans (b6.mono B5.size)
  have sz6 : w5.heap.size ≤ w6.heap.size := b6.size
  have Sa6 := hide ((unhide Sa5).below b6)
  have Sb6 := hide ((unhide Sb5).below b6)
  clear Sa5 Sb5
  obtain ⟨a6, c6, rfl, L6⟩ := l6
  have W6 := hide L6
  clear L6
  obtain ⟨cd, hcd⟩ : ∃ cd, codeTL ms ls = cd := ⟨_, rfl⟩
  have HC := hide hcd
  rw [hcd]
  clear hcd
  have hne : (cd != cd) = false := by simp
  clear Sa6
  clear Sb6
  go_wp2_with fail
  refine (Tu.toS a ms cap _ hml_ms ((unhide HR_ms).below B6)).mono ?_
  rintro e w7 ⟨g7, rfl, b7, hg7, hz7, u7⟩
  have B7 := B6.trans (b7.mono B6.size)
  have sz7 : w6.heap.size ≤ w7.heap.size := b7.size
  have W7 := hide ((unhide W6).below b7)
  clear W6
  have Xa7 : Hid (Tu.Lst w7 (some ⟨g7, 0, none⟩) ms w6.heap.size w7.heap.size) := hide (.inr ⟨g7, rfl, hg7, hz7, hz7, u7⟩)
  clear u7
  go_wp2_with fail
  refine (Lk.toS b ls capl _ hml_ls ((unhide HR_ls).below B7)).mono ?_
  rintro e w8 ⟨g8, rfl, b8, hg8, hz8, u8⟩
  have B8 := B7.trans (b8.mono B7.size)
  have sz8 : w7.heap.size ≤ w8.heap.size := b8.size
  have W8 := hide ((unhide W7).below b8)
  have Xa8 := hide ((unhide Xa7).below b8)
  clear W7 Xa7
  have Xb8 : Hid (Lk.Lst w8 (some ⟨g8, 0, none⟩) ls w7.heap.size w8.heap.size) := hide (.inr ⟨g8, rfl, hg8, hz8, hz8, u8⟩)
  clear u8
  go_wp2_with fail
  refine (implStrict _ ms _ _ ls _ me now _ hml_ms hml_ls (unhide Xa8).rm (unhide Xb8).rm).mono ?_
  rintro e w9 ⟨v9, rfl, b9, l9⟩
  have B9 := B8.trans (b9.mono B8.size)
  have sz9 : w8.heap.size ≤ w9.heap.size := b9.size
  have W9 := hide ((unhide W8).below b9)
  have Xa9 := hide ((unhide Xa8).below b9)
  have Xb9 := hide ((unhide Xb8).below b9)
  clear W8 Xa8 Xb8
  obtain ⟨a9, c9, rfl, L9⟩ := l9
  have G9 := hide L9
  clear L9
  rw [unhide HC]
  go_wp2_with fail
  refine (In.eqS _ _ (strictA ms ls me now) _ _ _ hol (unhide G9).rm (unhide W9).rm).mono ?_
  rintro e w10 ⟨rfl, b10⟩
  have B10 := B9.trans (b10.mono B9.size)
  have sz10 : w9.heap.size ≤ w10.heap.size := b10.size
  have W10 := hide ((unhide W9).below b10)
  have Xa10 := hide ((unhide Xa9).below b10)
  have Xb10 := hide ((unhide Xb9).below b10)
  have G10 := hide ((unhide G9).below b10)
  clear W9 Xa9 Xb9 G9
  go_wp2_with fail
  refine (Tu.toS a ms cap _ hml_ms ((unhide HR_ms).below B10)).mono ?_
  rintro e w11 ⟨g11, rfl, b11, hg11, hz11, u11⟩
  have B11 := B10.trans (b11.mono B10.size)
  have sz11 : w10.heap.size ≤ w11.heap.size := b11.size
  have W11 := hide ((unhide W10).below b11)
  have Xa11 := hide ((unhide Xa10).below b11)
  have Xb11 := hide ((unhide Xb10).below b11)
  have G11 := hide ((unhide G10).below b11)
  clear W10 Xa10 Xb10 G10
  have Y11 : Hid (Tu.Lst w11 (some ⟨g11, 0, none⟩) ms w10.heap.size w11.heap.size) := hide (.inr ⟨g11, rfl, hg11, hz11, hz11, u11⟩)
  clear u11
  go_wp2_with fail
  refine (Tu.eqS _ _ ms _ _ _ hml_ms (unhide Xa11).rm (unhide Y11).rm).mono ?_
  rintro e w12 ⟨rfl, b12⟩
  have B12 := B11.trans (b12.mono B11.size)
  have sz12 : w11.heap.size ≤ w12.heap.size := b12.size
  have W12 := hide ((unhide W11).below b12)
  have Xa12 := hide ((unhide Xa11).below b12)
  have Xb12 := hide ((unhide Xb11).below b12)
  have G12 := hide ((unhide G11).below b12)
  have Y12 := hide ((unhide Y11).below b12)
  clear W11 Xa11 Xb11 G11 Y11
  clear Y12
  go_wp2_with fail
  refine (Lk.toS b ls capl _ hml_ls ((unhide HR_ls).below B12)).mono ?_
  rintro e w13 ⟨g13, rfl, b13, hg13, hz13, u13⟩
  have B13 := B12.trans (b13.mono B12.size)
  have sz13 : w12.heap.size ≤ w13.heap.size := b13.size
  have W13 := hide ((unhide W12).below b13)
  have Xa13 := hide ((unhide Xa12).below b13)
  have Xb13 := hide ((unhide Xb12).below b13)
  have G13 := hide ((unhide G12).below b13)
  clear W12 Xa12 Xb12 G12
  have Y13 : Hid (Lk.Lst w13 (some ⟨g13, 0, none⟩) ls w12.heap.size w13.heap.size) := hide (.inr ⟨g13, rfl, hg13, hz13, hz13, u13⟩)
  clear u13
  go_wp2_with fail
  refine (Lk.eqS _ _ ls _ _ _ hml_ls (unhide Xb13).rm (unhide Y13).rm).mono ?_
  rintro e w14 ⟨rfl, b14⟩
  have B14 := B13.trans (b14.mono B13.size)
  have sz14 : w13.heap.size ≤ w14.heap.size := b14.size
  have W14 := hide ((unhide W13).below b14)
  have Xa14 := hide ((unhide Xa13).below b14)
  have Xb14 := hide ((unhide Xb13).below b14)
  have G14 := hide ((unhide G13).below b14)
  have Y14 := hide ((unhide Y13).below b14)
  clear W13 Xa13 Xb13 G13 Y13
  clear Y14
  go_wp2_with fail
  refine (Tu.markF _ _ _ _ (1) ms _ (by omega) (by omega) hml_ms (unhide Xa14)).mono ?_
  rintro e w15 ⟨rfl, sz15, b15, f15, k15⟩
  have sB15 := B14.size
  have B15 := B14.trans (b15.mono (by omega))
  have W15 := hide ((unhide W14).but (p := fun k => k < w6.heap.size ∨ w7.heap.size ≤ k) sz15 (fun k hk h => k15 k hk h) (fun k h1 h2 => by omega))
  have Xb15 := hide ((unhide Xb14).but (p := fun k => k < w6.heap.size ∨ w7.heap.size ≤ k) sz15 (fun k hk h => k15 k hk h) (fun k h1 h2 => by omega))
  have G15 := hide ((unhide G14).but (p := fun k => k < w6.heap.size ∨ w7.heap.size ≤ k) sz15 (fun k hk h => k15 k hk h) (fun k h1 h2 => by omega))
  clear W14 Xa14 Xb14 G14 f15 k15 b15
  go_wp2_with fail
  refine (Lk.markF _ _ _ _ (1 + 3 * (ms.length : Int)) ls _ (by omega) (by omega) hml_ls (unhide Xb15)).mono ?_
  rintro e w16 ⟨rfl, sz16, b16, f16, k16⟩
  have sB16 := B15.size
  have B16 := B15.trans (b16.mono (by omega))
  have W16 := hide ((unhide W15).but (p := fun k => k < w7.heap.size ∨ w8.heap.size ≤ k) sz16 (fun k hk h => k16 k hk h) (fun k h1 h2 => by omega))
  have G16 := hide ((unhide G15).but (p := fun k => k < w7.heap.size ∨ w8.heap.size ≤ k) sz16 (fun k hk h => k16 k hk h) (fun k h1 h2 => by omega))
  clear W15 Xb15 G15 f16 k16 b16
  have hpk : ¬ (1 + 3 * (ms.length : Int) + 6 * (ls.length : Int) < 0) := by omega
  go_wp2_with fail
  refine (In.eqS _ _ (strictA ms ls me now) _ _ _ hol (unhide G16).rm (unhide W16).rm).mono ?_
  rintro e w17 ⟨rfl, b17⟩
  have B17 := B16.trans (b17.mono B16.size)
  have sz17 : w16.heap.size ≤ w17.heap.size := b17.size
  have W17 := hide ((unhide W16).below b17)
  have G17 := hide ((unhide G16).below b17)
  clear W16 G16
  go_wp2_with fail
  refine (In.markF _ _ _ _ 1 (strictA ms ls me now) _ (by omega) (by omega) hol (unhide G17)).mono ?_
  rintro e w18 ⟨rfl, sz18, b18, f18, k18⟩
  have sB18 := B17.size
  have B18 := B17.trans (b18.mono (by omega))
  have W18 := hide ((unhide W17).but (p := fun k => k < w8.heap.size ∨ w9.heap.size ≤ k) sz18 (fun k hk h => k18 k hk h) (fun k h1 h2 => by omega))
  have M18 := hide f18
  clear W17 G17 f18 k18 b18
  have hpm : ¬ (1 + 1 * ((strictA ms ls me now).length : Int) < 0) := by omega
  go_wp2_with fail
  refine (In.heldF _ _ (strictA ms ls me now).length _ _ 1 _ (by omega) (by omega) hol (unhide M18)).mono ?_
  rintro e wh ⟨rfl, hwh⟩
  rw [hwh]
  clear hwh wh
  go_wp2_with fail
  refine (Tu.toS a ms cap _ hml_ms ((unhide HR_ms).below B18)).mono ?_
  rintro e w19 ⟨g19, rfl, b19, hg19, hz19, u19⟩
  have B19 := B18.trans (b19.mono B18.size)
  have sz19 : w18.heap.size ≤ w19.heap.size := b19.size
  have W19 := hide ((unhide W18).below b19)
  have M19 := hide ((unhide M18).below b19)
  clear W18 M18
  have Za19 : Hid (Tu.Lst w19 (some ⟨g19, 0, none⟩) ms w18.heap.size w19.heap.size) := hide (.inr ⟨g19, rfl, hg19, hz19, hz19, u19⟩)
  clear u19
  go_wp2_with fail
  refine (Lk.toS b ls capl _ hml_ls ((unhide HR_ls).below B19)).mono ?_
  rintro e w20 ⟨g20, rfl, b20, hg20, hz20, u20⟩
  have B20 := B19.trans (b20.mono B19.size)
  have sz20 : w19.heap.size ≤ w20.heap.size := b20.size
  have W20 := hide ((unhide W19).below b20)
  have M20 := hide ((unhide M19).below b20)
  have Za20 := hide ((unhide Za19).below b20)
  clear W19 M19 Za19
  have Zb20 : Hid (Lk.Lst w20 (some ⟨g20, 0, none⟩) ls w19.heap.size w20.heap.size) := hide (.inr ⟨g20, rfl, hg20, hz20, hz20, u20⟩)
  clear u20
  go_wp2_with fail
  refine (implStrict _ ms _ _ ls _ me now _ hml_ms hml_ls (unhide Za20).rm (unhide Zb20).rm).mono ?_
  rintro e w21 ⟨v21, rfl, b21, l21⟩
  have B21 := B20.trans (b21.mono B20.size)
  have sz21 : w20.heap.size ≤ w21.heap.size := b21.size
  have W21 := hide ((unhide W20).below b21)
  have M21 := hide ((unhide M20).below b21)
  have Za21 := hide ((unhide Za20).below b21)
  have Zb21 := hide ((unhide Zb20).below b21)
  clear W20 M20 Za20 Zb20
  obtain ⟨a21, c21, rfl, L21⟩ := l21
  have H21 := hide L21
  clear L21
  rw [unhide HC]
  go_wp2_with fail
  refine (In.eqS _ _ (strictA ms ls me now) _ _ _ hol (unhide H21).rm (unhide W21).rm).mono ?_
  rintro e w22 ⟨rfl, b22⟩
  have B22 := B21.trans (b22.mono B21.size)
  have sz22 : w21.heap.size ≤ w22.heap.size := b22.size
  have W22 := hide ((unhide W21).below b22)
  have M22 := hide ((unhide M21).below b22)
  have Za22 := hide ((unhide Za21).below b22)
  have Zb22 := hide ((unhide Zb21).below b22)
  have H22 := hide ((unhide H21).below b22)
  clear W21 M21 Za21 Zb21 H21
  go_wp2_with fail
  refine (In.heldF _ _ (strictA ms ls me now).length _ _ 1 _ (by omega) (by omega) hol (unhide M22)).mono ?_
  rintro e wh ⟨rfl, hwh⟩
  rw [hwh]
  clear hwh wh
  have HF := hide B22
  go_wp2_with fail
  go_ret
  exact ⟨rfl, unhide HF⟩

set_option maxRecDepth 100000 in
theorem lifted (os : Os) (started : os.Started) (H : Type) (enc : TypeId × Value → H) :
    ReturnsInHanded {} Try.checked os 5 .any (Rows.fnExactStrictTwoSpec.pre6 enc Try.prog Try.f5 Rows.fnExactStrictTwoRow.domain false) (Rows.fnExactStrictTwoSpec.post enc Try.prog Try.f5 false true false false) := by
  refine returnsInHanded_of_change (C := Try.checked) own started (by kernel_rfl) Try.func5
    (ChangeSpec.witness6 (enc := enc) (C := Try.checked) false ⟨#[], #[.slice none 0 0, .slice none 0 0, .int .i64 0, .int .i64 0], []⟩ 8 (by kernel_rfl) (by kernel_rfl) (by kernel_rfl) (by kernel_rfl)) ?_
  intro W base args ds gs before hval0 hW hcnd _
  have hval : ∀ (j : Nat) t v, Try.f5.params[j]? = some t → args[j]? = some v → Value.okWide Try.prog W .any base t v := hval0
  have hW' := hW
  obtain ⟨p, q, hA0, hV, rfl, hfz, hnd⟩ := hW
  have hA : DataW.TrodAll enc Try.prog W 0 (fun _ => true) true Try.f5.params.toList args.toList ds p := hA0
  rw [Try.params5] at hA hval
  obtain ⟨v0, vs0, d0, ds0, p0, q0, hargs0, rfl, rfl, h0, r0⟩ := trodAll_cons hA
  obtain ⟨v1, vs1, d1, ds1, p1, q1, hargs1, rfl, rfl, h1, r1⟩ := trodAll_cons r0
  obtain ⟨v2, vs2, d2, ds2, p2, q2, hargs2, rfl, rfl, h2, r2⟩ := trodAll_cons r1
  obtain ⟨v3, vs3, d3, ds3, p3, q3, hargs3, rfl, rfl, h3, r3⟩ := trodAll_cons r2
  obtain ⟨rfl, rfl, rfl⟩ := trodAll_nil r3
  obtain rfl : args = #[v0, v1, v2, v3] := by cases args; simp_all
  obtain ⟨rfl, rfl⟩ := trodVars_none hV
  have k0 := h0
  have lt0 : ∀ x ∈ p0, x.block < W.heap.size := by obtain ⟨m, hm⟩ := k0; exact DataW.trod_lt m _ _ _ hm
  have k1 := h1
  have lt1 : ∀ x ∈ p1, x.block < W.heap.size := by obtain ⟨m, hm⟩ := k1; exact DataW.trod_lt m _ _ _ hm
  have k2 := h2
  have lt2 : ∀ x ∈ p2, x.block < W.heap.size := by obtain ⟨m, hm⟩ := k2; exact DataW.trod_lt m _ _ _ hm
  have k3 := h3
  have lt3 : ∀ x ∈ p3, x.block < W.heap.size := by obtain ⟨m, hm⟩ := k3; exact DataW.trod_lt m _ _ _ hm
  obtain ⟨a0, len0, cap0, rfl⟩ := okWide_slice Try.underlying22 (hval 0 22 v0 rfl rfl)
  obtain ⟨ms0, hlen0, hmx0, hrd0⟩ := Tu.open_list h0
  subst hlen0
  obtain ⟨a1, len1, cap1, rfl⟩ := okWide_slice Try.underlying47 (hval 1 47 v1 rfl rfl)
  obtain ⟨ms1, hlen1, hmx1, hrd1⟩ := Lk.open_list h1
  subst hlen1
  obtain ⟨n2, rfl, _, _, wf2⟩ := open_int Try.underlying3 (hval 2 3 v2 rfl rfl) h2
  obtain ⟨n3, rfl, _, _, wf3⟩ := open_int Try.underlying3 (hval 3 3 v3 rfl rfl) h3
  clear hA0 hval0
  refine (walk a0 ms0 cap0 hmx0 a1 ms1 cap1 hmx1 n2 wf2 n3 wf3 W hrd0 hrd1).mono fun e W' ⟨he, bel⟩ => ?_
  subst he
  exact ⟨_, rfl, _, _, _, [], _, [], hW', trodAll_mk1 (shut_bool Try.underlying4 _), (trodAll_cons_mk (Below.trod laidOut (by kernel_rfl) (of_decide_eq_true (by kernel_rfl)) k0 bel lt0) (trodAll_cons_mk (Below.trod laidOut (by kernel_rfl) (of_decide_eq_true (by kernel_rfl)) k1 bel lt1) (trodAll_cons_mk (Below.trod laidOut (by kernel_rfl) (of_decide_eq_true (by kernel_rfl)) k2 bel lt2) (trodAll_cons_mk (Below.trod laidOut (by kernel_rfl) (of_decide_eq_true (by kernel_rfl)) k3 bel lt3) trodAll_mk0)))), rfl, bel.frame _, fun h => by cases h⟩

theorem over : Rows.fnExactStrictTwoRow.holds Try.pinned (OpenSpec.ofChange Rows.fnExactStrictTwoSpec) :=
  OpenClaim.holds_of_wide 5 Try.f5 rfl rfl rfl rfl rfl rfl rfl ⟨rfl, rfl, rfl, rfl, rfl⟩ rfl rfl rfl rfl rfl (by kernel_rfl) Try.func5 (by kernel_rfl)
    (of_decide_eq_true (by kernel_rfl)) (by unfold Func.isWrapper; first | (rw [if_pos (by decide +kernel)]; kernel_rfl) | (rw [if_neg (by decide +kernel)]; exact ⟨rfl, rfl⟩))
    (fun os started H enc _ => lifted os started H enc)
end Go.Proofs.Ytpknahhdapmcoan.fnExactStrictTwo
namespace Go.Proofs.Ytpknahhdapmcoan
/-- At every argument the program's StrictTwo answers as its model. -/
theorem fnExactStrictTwo_holds : Rows.FnExactStrictTwoSaid := fnExactStrictTwo.over
end Go.Proofs.Ytpknahhdapmcoan
