/-
  Proved here: for every argument, laws.FnExactNeedless returns true (the program's Needless answers as its model, leaves its arguments alone, and answers in memory of its own), and leaves what came in as it was. No condition. (The walk is written by mklaw.py.)
-/
import Derived.Test.YtpknahhdapmcoaoGrpF
import Derived.Test.YtpknahhdapmcoaoIntsL
namespace Go.Proofs.Ytpknahhdapmcoao.fnExactNeedless
open Go.ChangeShapes Go.WideShapes Go.ChangeAt Go.RowKit
open W1 Tw Mr Gp
set_option linter.unusedVariables false
theorem own : ownKnob Try.prog.godebug = none := by kernel_rfl
theorem laidOut : laidOutB Try.prog = true := by kernel_rfl
theorem sH1 {w : World} {b : Nat} {x y : Int} {v : Value} (h : Bx3 w b x y v) : Bx3 w b x y v ∧ w.cell? ⟨b, 0, none⟩ = some (.int .i64 x) ∧ w.cell? ⟨b, 1, none⟩ = some (.int .i64 y) ∧ w.cell? ⟨b, 2, none⟩ = some v := ⟨h, h⟩
theorem sH2 {w : World} {b b' : Nat} {x y x' y' : Int} {v v' : Value} (h : Bx3 w b x y v) (h' : Bx3 w b' x' y' v') :
    (Bx3 w b x y v ∧ Bx3 w b' x' y' v') ∧ w.cell? ⟨b, 0, none⟩ = some (.int .i64 x) ∧ w.cell? ⟨b, 1, none⟩ = some (.int .i64 y) ∧ w.cell? ⟨b, 2, none⟩ = some v ∧ w.cell? ⟨b', 0, none⟩ = some (.int .i64 x') ∧ w.cell? ⟨b', 1, none⟩ = some (.int .i64 y') ∧ w.cell? ⟨b', 2, none⟩ = some v' := ⟨⟨h, h'⟩, h.1, h.2.1, h.2.2, h'.1, h'.2.1, h'.2.2⟩

set_option maxRecDepth 100000 in
set_option maxHeartbeats 8000000 in
theorem walk (a : Option Addr) (ms : List Tu.R) (cap : Nat) (hm_ms : ms.length ≤ maxLen) (b : Option Addr) (ls : List Lk.R) (capl : Nat) (hm_ls : ls.length ≤ maxLen) (me : Int) (wf_me : (Lit.int .i64 me).wf = true) (now : Int) (wf_now : (Lit.int .i64 now).wf = true) (ar : Option Addr) (rs : List Int) (capr : Nat) (hm_rs : rs.length ≤ maxLen) (w : World) (hr_ms : Tu.RM w a ms) (hr_ls : Lk.RM w b ls) (hr_rs : In.RM w ar rs) :
    Calls Try.prog 5 #[.slice a ms.length cap, .slice b ls.length capl, .int .i64 me, .int .i64 now, .slice ar rs.length capr] w fun e w' => e = .returned (.bool true) ∧ Below w.heap.size w w' := by
  have HR_ms := hide hr_ms
  clear hr_ms
  have HR_ls := hide hr_ls
  clear hr_ls
  have HR_rs := hide hr_rs
  clear hr_rs
  by_cases hbig_rs : (1048576 : Int) < rs.length
  · go_enter Try.func5, Try.ntmps5
    go_wp2_with fail
    go_ret
    exact ⟨rfl, Below.refl _ _⟩
  have hml_rs : rs.length ≤ 1048576 := by omega
  go_enter Try.func5, Try.ntmps5
  have B1 : Below w.heap.size w w := Below.refl _ _
  go_wp2_with fail
  clear hbig_rs
  refine (Tu.szS a ms.length cap 1048576 _ (by omega) (by omega) hm_ms).mono ?_
  rintro e w2 ⟨r2, rfl, hw2, hr01⟩
  have b2 : Below w.heap.size w w2 := by rw [hw2]; exact Below.refl _ _
  clear hw2
  have B2 : Below w.heap.size w w2 := b2
  have sz2 : w.heap.size ≤ w2.heap.size := b2.size
  rcases hr01 with hr0 | ⟨hr0, hr1⟩
  · go_wp2_with fail
    go_ret
    exact ⟨rfl, B2⟩
  have hnn2 : ¬ r2 < 0 := by omega
  have hml_ms : ms.length ≤ 1048576 := by omega
  have hrl2 : r2 ≤ 1048576 := by omega
  clear hr1 hm_ms
  go_wp2_with fail
  refine (Lk.szS b ls.length capl r2 _ (by omega) (by omega) hm_ls).mono ?_
  rintro e w3 ⟨r3, rfl, hw3, hr01⟩
  have b3 : Below w2.heap.size w2 w3 := by rw [hw3]; exact Below.refl _ _
  clear hw3
  have B3 := B2.trans (b3.mono B2.size)
  have sz3 : w2.heap.size ≤ w3.heap.size := b3.size
  rcases hr01 with hr0 | ⟨hr0, hr1⟩
  · go_wp2_with fail
    go_ret
    exact ⟨rfl, B3⟩
  have hnn3 : ¬ r3 < 0 := by omega
  have hml_ls : ls.length ≤ 1048576 := by omega
  have hrl3 : r3 ≤ 1048576 := by omega
  clear hr1 hm_ls
  have hol : (needA ms ls me now rs).length ≤ 1048576 := (Nat.le_trans (needA_len ms ls me now rs) hml_rs)
  go_wp2_with fail
  refine (Tu.toS a ms cap _ hml_ms ((unhide HR_ms).below B3)).mono ?_
  rintro e w4 ⟨g4, rfl, b4, hg4, hz4, u4⟩
  have B4 := B3.trans (b4.mono B3.size)
  have sz4 : w3.heap.size ≤ w4.heap.size := b4.size
  have Sa4 : Hid (Tu.Lst w4 (some ⟨g4, 0, none⟩) ms w3.heap.size w4.heap.size) := hide (.inr ⟨g4, rfl, hg4, hz4, hz4, u4⟩)
  clear u4
  go_wp2_with fail
  refine (Lk.toS b ls capl _ hml_ls ((unhide HR_ls).below B4)).mono ?_
  rintro e w5 ⟨g5, rfl, b5, hg5, hz5, u5⟩
  have B5 := B4.trans (b5.mono B4.size)
  have sz5 : w4.heap.size ≤ w5.heap.size := b5.size
  have Sa5 := hide ((unhide Sa4).below b5)
  clear Sa4
  have Sb5 : Hid (Lk.Lst w5 (some ⟨g5, 0, none⟩) ls w4.heap.size w5.heap.size) := hide (.inr ⟨g5, rfl, hg5, hz5, hz5, u5⟩)
  clear u5
  go_wp2_with fail
  refine (In.toS ar rs capr _ hml_rs ((unhide HR_rs).below B5)).mono ?_
  rintro e w6 ⟨g6, rfl, b6, hg6, hz6, u6⟩
  have B6 := B5.trans (b6.mono B5.size)
  have sz6 : w5.heap.size ≤ w6.heap.size := b6.size
  have Sa6 := hide ((unhide Sa5).below b6)
  have Sb6 := hide ((unhide Sb5).below b6)
  clear Sa5 Sb5
  have Sc6 : Hid (In.Lst w6 (some ⟨g6, 0, none⟩) rs w5.heap.size w6.heap.size) := hide (.inr ⟨g6, rfl, hg6, hz6, hz6, u6⟩)
  clear u6
  go_wp2_with fail
  refine (specNeedless _ _ ms _ _ ls _ me now _ rs _ _ hml_ms hml_ls hml_rs (Nat.le_refl _) hm_rs (unhide Sa6).rm (unhide Sb6).rm (unhide Sc6).rm).mono ?_
  rintro e w7 ⟨v7, rfl, b7, l7⟩
  have B7 := B6.trans (b7.mono B6.size)
  have sz7 : w6.heap.size ≤ w7.heap.size := b7.size
  have Sa7 := hide ((unhide Sa6).below b7)
  have Sb7 := hide ((unhide Sb6).below b7)
  have Sc7 := hide ((unhide Sc6).below b7)
  clear Sa6 Sb6 Sc6
  obtain ⟨a7, c7, rfl, L7⟩ := l7
  have W7 := hide L7
  clear L7
  obtain ⟨cd, hcd⟩ : ∃ cd, codeM ms ls rs = cd := ⟨_, rfl⟩
  have HC := hide hcd
  rw [hcd]
  clear hcd
  have hne : (cd != cd) = false := by simp
  clear Sa7
  clear Sb7
  clear Sc7
  go_wp2_with fail
  refine (Tu.toS a ms cap _ hml_ms ((unhide HR_ms).below B7)).mono ?_
  rintro e w8 ⟨g8, rfl, b8, hg8, hz8, u8⟩
  have B8 := B7.trans (b8.mono B7.size)
  have sz8 : w7.heap.size ≤ w8.heap.size := b8.size
  have W8 := hide ((unhide W7).below b8)
  clear W7
  have Xa8 : Hid (Tu.Lst w8 (some ⟨g8, 0, none⟩) ms w7.heap.size w8.heap.size) := hide (.inr ⟨g8, rfl, hg8, hz8, hz8, u8⟩)
  clear u8
  go_wp2_with fail
  refine (Lk.toS b ls capl _ hml_ls ((unhide HR_ls).below B8)).mono ?_
  rintro e w9 ⟨g9, rfl, b9, hg9, hz9, u9⟩
  have B9 := B8.trans (b9.mono B8.size)
  have sz9 : w8.heap.size ≤ w9.heap.size := b9.size
  have W9 := hide ((unhide W8).below b9)
  have Xa9 := hide ((unhide Xa8).below b9)
  clear W8 Xa8
  have Xb9 : Hid (Lk.Lst w9 (some ⟨g9, 0, none⟩) ls w8.heap.size w9.heap.size) := hide (.inr ⟨g9, rfl, hg9, hz9, hz9, u9⟩)
  clear u9
  go_wp2_with fail
  refine (In.toS ar rs capr _ hml_rs ((unhide HR_rs).below B9)).mono ?_
  rintro e w10 ⟨g10, rfl, b10, hg10, hz10, u10⟩
  have B10 := B9.trans (b10.mono B9.size)
  have sz10 : w9.heap.size ≤ w10.heap.size := b10.size
  have W10 := hide ((unhide W9).below b10)
  have Xa10 := hide ((unhide Xa9).below b10)
  have Xb10 := hide ((unhide Xb9).below b10)
  clear W9 Xa9 Xb9
  have Xc10 : Hid (In.Lst w10 (some ⟨g10, 0, none⟩) rs w9.heap.size w10.heap.size) := hide (.inr ⟨g10, rfl, hg10, hz10, hz10, u10⟩)
  clear u10
  go_wp2_with fail
  refine (implNeedless _ ms _ _ ls _ me now _ rs _ _ hml_ms hml_ls hml_rs (Nat.le_refl _) hm_rs (unhide Xa10).rm (unhide Xb10).rm (unhide Xc10).rm).mono ?_
  rintro e w11 ⟨v11, rfl, b11, l11⟩
  have B11 := B10.trans (b11.mono B10.size)
  have sz11 : w10.heap.size ≤ w11.heap.size := b11.size
  have W11 := hide ((unhide W10).below b11)
  have Xa11 := hide ((unhide Xa10).below b11)
  have Xb11 := hide ((unhide Xb10).below b11)
  have Xc11 := hide ((unhide Xc10).below b11)
  clear W10 Xa10 Xb10 Xc10
  obtain ⟨a11, c11, rfl, L11⟩ := l11
  have G11 := hide L11
  clear L11
  rw [unhide HC]
  go_wp2_with fail
  refine (In.eqS _ _ (needA ms ls me now rs) _ _ _ hol (unhide G11).rm (unhide W11).rm).mono ?_
  rintro e w12 ⟨rfl, b12⟩
  have B12 := B11.trans (b12.mono B11.size)
  have sz12 : w11.heap.size ≤ w12.heap.size := b12.size
  have W12 := hide ((unhide W11).below b12)
  have Xa12 := hide ((unhide Xa11).below b12)
  have Xb12 := hide ((unhide Xb11).below b12)
  have Xc12 := hide ((unhide Xc11).below b12)
  have G12 := hide ((unhide G11).below b12)
  clear W11 Xa11 Xb11 Xc11 G11
  go_wp2_with fail
  refine (Tu.toS a ms cap _ hml_ms ((unhide HR_ms).below B12)).mono ?_
  rintro e w13 ⟨g13, rfl, b13, hg13, hz13, u13⟩
  have B13 := B12.trans (b13.mono B12.size)
  have sz13 : w12.heap.size ≤ w13.heap.size := b13.size
  have W13 := hide ((unhide W12).below b13)
  have Xa13 := hide ((unhide Xa12).below b13)
  have Xb13 := hide ((unhide Xb12).below b13)
  have Xc13 := hide ((unhide Xc12).below b13)
  have G13 := hide ((unhide G12).below b13)
  clear W12 Xa12 Xb12 Xc12 G12
  have Y13 : Hid (Tu.Lst w13 (some ⟨g13, 0, none⟩) ms w12.heap.size w13.heap.size) := hide (.inr ⟨g13, rfl, hg13, hz13, hz13, u13⟩)
  clear u13
  go_wp2_with fail
  refine (Tu.eqS _ _ ms _ _ _ hml_ms (unhide Xa13).rm (unhide Y13).rm).mono ?_
  rintro e w14 ⟨rfl, b14⟩
  have B14 := B13.trans (b14.mono B13.size)
  have sz14 : w13.heap.size ≤ w14.heap.size := b14.size
  have W14 := hide ((unhide W13).below b14)
  have Xa14 := hide ((unhide Xa13).below b14)
  have Xb14 := hide ((unhide Xb13).below b14)
  have Xc14 := hide ((unhide Xc13).below b14)
  have G14 := hide ((unhide G13).below b14)
  have Y14 := hide ((unhide Y13).below b14)
  clear W13 Xa13 Xb13 Xc13 G13 Y13
  clear Y14
  go_wp2_with fail
  refine (Lk.toS b ls capl _ hml_ls ((unhide HR_ls).below B14)).mono ?_
  rintro e w15 ⟨g15, rfl, b15, hg15, hz15, u15⟩
  have B15 := B14.trans (b15.mono B14.size)
  have sz15 : w14.heap.size ≤ w15.heap.size := b15.size
  have W15 := hide ((unhide W14).below b15)
  have Xa15 := hide ((unhide Xa14).below b15)
  have Xb15 := hide ((unhide Xb14).below b15)
  have Xc15 := hide ((unhide Xc14).below b15)
  have G15 := hide ((unhide G14).below b15)
  clear W14 Xa14 Xb14 Xc14 G14
  have Y15 : Hid (Lk.Lst w15 (some ⟨g15, 0, none⟩) ls w14.heap.size w15.heap.size) := hide (.inr ⟨g15, rfl, hg15, hz15, hz15, u15⟩)
  clear u15
  go_wp2_with fail
  refine (Lk.eqS _ _ ls _ _ _ hml_ls (unhide Xb15).rm (unhide Y15).rm).mono ?_
  rintro e w16 ⟨rfl, b16⟩
  have B16 := B15.trans (b16.mono B15.size)
  have sz16 : w15.heap.size ≤ w16.heap.size := b16.size
  have W16 := hide ((unhide W15).below b16)
  have Xa16 := hide ((unhide Xa15).below b16)
  have Xb16 := hide ((unhide Xb15).below b16)
  have Xc16 := hide ((unhide Xc15).below b16)
  have G16 := hide ((unhide G15).below b16)
  have Y16 := hide ((unhide Y15).below b16)
  clear W15 Xa15 Xb15 Xc15 G15 Y15
  clear Y16
  go_wp2_with fail
  refine (In.toS ar rs capr _ hml_rs ((unhide HR_rs).below B16)).mono ?_
  rintro e w17 ⟨g17, rfl, b17, hg17, hz17, u17⟩
  have B17 := B16.trans (b17.mono B16.size)
  have sz17 : w16.heap.size ≤ w17.heap.size := b17.size
  have W17 := hide ((unhide W16).below b17)
  have Xa17 := hide ((unhide Xa16).below b17)
  have Xb17 := hide ((unhide Xb16).below b17)
  have Xc17 := hide ((unhide Xc16).below b17)
  have G17 := hide ((unhide G16).below b17)
  clear W16 Xa16 Xb16 Xc16 G16
  have Y17 : Hid (In.Lst w17 (some ⟨g17, 0, none⟩) rs w16.heap.size w17.heap.size) := hide (.inr ⟨g17, rfl, hg17, hz17, hz17, u17⟩)
  clear u17
  go_wp2_with fail
  refine (In.eqS _ _ rs _ _ _ hml_rs (unhide Xc17).rm (unhide Y17).rm).mono ?_
  rintro e w18 ⟨rfl, b18⟩
  have B18 := B17.trans (b18.mono B17.size)
  have sz18 : w17.heap.size ≤ w18.heap.size := b18.size
  have W18 := hide ((unhide W17).below b18)
  have Xa18 := hide ((unhide Xa17).below b18)
  have Xb18 := hide ((unhide Xb17).below b18)
  have Xc18 := hide ((unhide Xc17).below b18)
  have G18 := hide ((unhide G17).below b18)
  have Y18 := hide ((unhide Y17).below b18)
  clear W17 Xa17 Xb17 Xc17 G17 Y17
  clear Y18
  go_wp2_with fail
  refine (Tu.markF _ _ _ _ (1) ms _ (by omega) (by omega) hml_ms (unhide Xa18)).mono ?_
  rintro e w19 ⟨rfl, sz19, b19, f19, k19⟩
  have sB19 := B18.size
  have B19 := B18.trans (b19.mono (by omega))
  have W19 := hide ((unhide W18).but (p := fun k => k < w7.heap.size ∨ w8.heap.size ≤ k) sz19 (fun k hk h => k19 k hk h) (fun k h1 h2 => by omega))
  have Xb19 := hide ((unhide Xb18).but (p := fun k => k < w7.heap.size ∨ w8.heap.size ≤ k) sz19 (fun k hk h => k19 k hk h) (fun k h1 h2 => by omega))
  have Xc19 := hide ((unhide Xc18).but (p := fun k => k < w7.heap.size ∨ w8.heap.size ≤ k) sz19 (fun k hk h => k19 k hk h) (fun k h1 h2 => by omega))
  have G19 := hide ((unhide G18).but (p := fun k => k < w7.heap.size ∨ w8.heap.size ≤ k) sz19 (fun k hk h => k19 k hk h) (fun k h1 h2 => by omega))
  clear W18 Xa18 Xb18 Xc18 G18 f19 k19 b19
  go_wp2_with fail
  refine (Lk.markF _ _ _ _ (1 + 3 * (ms.length : Int)) ls _ (by omega) (by omega) hml_ls (unhide Xb19)).mono ?_
  rintro e w20 ⟨rfl, sz20, b20, f20, k20⟩
  have sB20 := B19.size
  have B20 := B19.trans (b20.mono (by omega))
  have W20 := hide ((unhide W19).but (p := fun k => k < w8.heap.size ∨ w9.heap.size ≤ k) sz20 (fun k hk h => k20 k hk h) (fun k h1 h2 => by omega))
  have Xc20 := hide ((unhide Xc19).but (p := fun k => k < w8.heap.size ∨ w9.heap.size ≤ k) sz20 (fun k hk h => k20 k hk h) (fun k h1 h2 => by omega))
  have G20 := hide ((unhide G19).but (p := fun k => k < w8.heap.size ∨ w9.heap.size ≤ k) sz20 (fun k hk h => k20 k hk h) (fun k h1 h2 => by omega))
  clear W19 Xb19 Xc19 G19 f20 k20 b20
  go_wp2_with fail
  refine (In.markF _ _ _ _ (1 + 3 * (ms.length : Int) + 6 * (ls.length : Int)) rs _ (by omega) (by omega) hml_rs (unhide Xc20)).mono ?_
  rintro e w21 ⟨rfl, sz21, b21, f21, k21⟩
  have sB21 := B20.size
  have B21 := B20.trans (b21.mono (by omega))
  have W21 := hide ((unhide W20).but (p := fun k => k < w9.heap.size ∨ w10.heap.size ≤ k) sz21 (fun k hk h => k21 k hk h) (fun k h1 h2 => by omega))
  have G21 := hide ((unhide G20).but (p := fun k => k < w9.heap.size ∨ w10.heap.size ≤ k) sz21 (fun k hk h => k21 k hk h) (fun k h1 h2 => by omega))
  clear W20 Xc20 G20 f21 k21 b21
  have hpk : ¬ (1 + 3 * (ms.length : Int) + 6 * (ls.length : Int) + 1 * (rs.length : Int) < 0) := by omega
  go_wp2_with fail
  refine (In.eqS _ _ (needA ms ls me now rs) _ _ _ hol (unhide G21).rm (unhide W21).rm).mono ?_
  rintro e w22 ⟨rfl, b22⟩
  have B22 := B21.trans (b22.mono B21.size)
  have sz22 : w21.heap.size ≤ w22.heap.size := b22.size
  have W22 := hide ((unhide W21).below b22)
  have G22 := hide ((unhide G21).below b22)
  clear W21 G21
  go_wp2_with fail
  refine (In.markF _ _ _ _ 1 (needA ms ls me now rs) _ (by omega) (by omega) hol (unhide G22)).mono ?_
  rintro e w23 ⟨rfl, sz23, b23, f23, k23⟩
  have sB23 := B22.size
  have B23 := B22.trans (b23.mono (by omega))
  have W23 := hide ((unhide W22).but (p := fun k => k < w10.heap.size ∨ w11.heap.size ≤ k) sz23 (fun k hk h => k23 k hk h) (fun k h1 h2 => by omega))
  have M23 := hide f23
  clear W22 G22 f23 k23 b23
  have hpm : ¬ (1 + 1 * ((needA ms ls me now rs).length : Int) < 0) := by omega
  go_wp2_with fail
  refine (In.heldF _ _ (needA ms ls me now rs).length _ _ 1 _ (by omega) (by omega) hol (unhide M23)).mono ?_
  rintro e wh ⟨rfl, hwh⟩
  rw [hwh]
  clear hwh wh
  go_wp2_with fail
  refine (Tu.toS a ms cap _ hml_ms ((unhide HR_ms).below B23)).mono ?_
  rintro e w24 ⟨g24, rfl, b24, hg24, hz24, u24⟩
  have B24 := B23.trans (b24.mono B23.size)
  have sz24 : w23.heap.size ≤ w24.heap.size := b24.size
  have W24 := hide ((unhide W23).below b24)
  have M24 := hide ((unhide M23).below b24)
  clear W23 M23
  have Za24 : Hid (Tu.Lst w24 (some ⟨g24, 0, none⟩) ms w23.heap.size w24.heap.size) := hide (.inr ⟨g24, rfl, hg24, hz24, hz24, u24⟩)
  clear u24
  go_wp2_with fail
  refine (Lk.toS b ls capl _ hml_ls ((unhide HR_ls).below B24)).mono ?_
  rintro e w25 ⟨g25, rfl, b25, hg25, hz25, u25⟩
  have B25 := B24.trans (b25.mono B24.size)
  have sz25 : w24.heap.size ≤ w25.heap.size := b25.size
  have W25 := hide ((unhide W24).below b25)
  have M25 := hide ((unhide M24).below b25)
  have Za25 := hide ((unhide Za24).below b25)
  clear W24 M24 Za24
  have Zb25 : Hid (Lk.Lst w25 (some ⟨g25, 0, none⟩) ls w24.heap.size w25.heap.size) := hide (.inr ⟨g25, rfl, hg25, hz25, hz25, u25⟩)
  clear u25
  go_wp2_with fail
  refine (In.toS ar rs capr _ hml_rs ((unhide HR_rs).below B25)).mono ?_
  rintro e w26 ⟨g26, rfl, b26, hg26, hz26, u26⟩
  have B26 := B25.trans (b26.mono B25.size)
  have sz26 : w25.heap.size ≤ w26.heap.size := b26.size
  have W26 := hide ((unhide W25).below b26)
  have M26 := hide ((unhide M25).below b26)
  have Za26 := hide ((unhide Za25).below b26)
  have Zb26 := hide ((unhide Zb25).below b26)
  clear W25 M25 Za25 Zb25
  have Zc26 : Hid (In.Lst w26 (some ⟨g26, 0, none⟩) rs w25.heap.size w26.heap.size) := hide (.inr ⟨g26, rfl, hg26, hz26, hz26, u26⟩)
  clear u26
  go_wp2_with fail
  refine (implNeedless _ ms _ _ ls _ me now _ rs _ _ hml_ms hml_ls hml_rs (Nat.le_refl _) hm_rs (unhide Za26).rm (unhide Zb26).rm (unhide Zc26).rm).mono ?_
  rintro e w27 ⟨v27, rfl, b27, l27⟩
  have B27 := B26.trans (b27.mono B26.size)
  have sz27 : w26.heap.size ≤ w27.heap.size := b27.size
  have W27 := hide ((unhide W26).below b27)
  have M27 := hide ((unhide M26).below b27)
  have Za27 := hide ((unhide Za26).below b27)
  have Zb27 := hide ((unhide Zb26).below b27)
  have Zc27 := hide ((unhide Zc26).below b27)
  clear W26 M26 Za26 Zb26 Zc26
  obtain ⟨a27, c27, rfl, L27⟩ := l27
  have H27 := hide L27
  clear L27
  rw [unhide HC]
  go_wp2_with fail
  refine (In.eqS _ _ (needA ms ls me now rs) _ _ _ hol (unhide H27).rm (unhide W27).rm).mono ?_
  rintro e w28 ⟨rfl, b28⟩
  have B28 := B27.trans (b28.mono B27.size)
  have sz28 : w27.heap.size ≤ w28.heap.size := b28.size
  have W28 := hide ((unhide W27).below b28)
  have M28 := hide ((unhide M27).below b28)
  have Za28 := hide ((unhide Za27).below b28)
  have Zb28 := hide ((unhide Zb27).below b28)
  have Zc28 := hide ((unhide Zc27).below b28)
  have H28 := hide ((unhide H27).below b28)
  clear W27 M27 Za27 Zb27 Zc27 H27
  go_wp2_with fail
  refine (In.heldF _ _ (needA ms ls me now rs).length _ _ 1 _ (by omega) (by omega) hol (unhide M28)).mono ?_
  rintro e wh ⟨rfl, hwh⟩
  rw [hwh]
  clear hwh wh
  have HF := hide B28
  go_wp2_with fail
  go_ret
  exact ⟨rfl, unhide HF⟩

set_option maxRecDepth 100000 in
theorem lifted (os : Os) (started : os.Started) (H : Type) (enc : TypeId × Value → H) :
    ReturnsInHanded {} Try.checked os 5 .any (Rows.fnExactNeedlessSpec.pre6 enc Try.prog Try.f5 Rows.fnExactNeedlessRow.domain false) (Rows.fnExactNeedlessSpec.post enc Try.prog Try.f5 false true false false) := by
  refine returnsInHanded_of_change (C := Try.checked) own started (by kernel_rfl) Try.func5
    (ChangeSpec.witness6 (enc := enc) (C := Try.checked) false ⟨#[], #[.slice none 0 0, .slice none 0 0, .int .i64 0, .int .i64 0, .slice none 0 0], []⟩ 8 (by kernel_rfl) (by kernel_rfl) (by kernel_rfl) (by kernel_rfl)) ?_
  intro W base args ds gs before hval0 hW hcnd _
  have hval : ∀ (j : Nat) t v, Try.f5.params[j]? = some t → args[j]? = some v → Value.okWide Try.prog W .any base t v := hval0
  have hW' := hW
  obtain ⟨p, q, hA0, hV, rfl, hfz, hnd⟩ := hW
  have hA : DataW.TrodAll enc Try.prog W 0 (fun _ => true) true Try.f5.params.toList args.toList ds p := hA0
  rw [Try.params5] at hA hval
  obtain ⟨v0, vs0, d0, ds0, p0, q0, hargs0, rfl, rfl, h0, r0⟩ := trodAll_cons hA
  obtain ⟨v1, vs1, d1, ds1, p1, q1, hargs1, rfl, rfl, h1, r1⟩ := trodAll_cons r0
  obtain ⟨v2, vs2, d2, ds2, p2, q2, hargs2, rfl, rfl, h2, r2⟩ := trodAll_cons r1
  obtain ⟨v3, vs3, d3, ds3, p3, q3, hargs3, rfl, rfl, h3, r3⟩ := trodAll_cons r2
  obtain ⟨v4, vs4, d4, ds4, p4, q4, hargs4, rfl, rfl, h4, r4⟩ := trodAll_cons r3
  obtain ⟨rfl, rfl, rfl⟩ := trodAll_nil r4
  obtain rfl : args = #[v0, v1, v2, v3, v4] := by cases args; simp_all
  obtain ⟨rfl, rfl⟩ := trodVars_none hV
  have k0 := h0
  have lt0 : ∀ x ∈ p0, x.block < W.heap.size := by obtain ⟨m, hm⟩ := k0; exact DataW.trod_lt m _ _ _ hm
  have k1 := h1
  have lt1 : ∀ x ∈ p1, x.block < W.heap.size := by obtain ⟨m, hm⟩ := k1; exact DataW.trod_lt m _ _ _ hm
  have k2 := h2
  have lt2 : ∀ x ∈ p2, x.block < W.heap.size := by obtain ⟨m, hm⟩ := k2; exact DataW.trod_lt m _ _ _ hm
  have k3 := h3
  have lt3 : ∀ x ∈ p3, x.block < W.heap.size := by obtain ⟨m, hm⟩ := k3; exact DataW.trod_lt m _ _ _ hm
  have k4 := h4
  have lt4 : ∀ x ∈ p4, x.block < W.heap.size := by obtain ⟨m, hm⟩ := k4; exact DataW.trod_lt m _ _ _ hm
  obtain ⟨a0, len0, cap0, rfl⟩ := okWide_slice Try.underlying22 (hval 0 22 v0 rfl rfl)
  obtain ⟨ms0, hlen0, hmx0, hrd0⟩ := Tu.open_list h0
  subst hlen0
  obtain ⟨a1, len1, cap1, rfl⟩ := okWide_slice Try.underlying23 (hval 1 23 v1 rfl rfl)
  obtain ⟨ms1, hlen1, hmx1, hrd1⟩ := Lk.open_list h1
  subst hlen1
  obtain ⟨n2, rfl, _, _, wf2⟩ := open_int Try.underlying3 (hval 2 3 v2 rfl rfl) h2
  obtain ⟨n3, rfl, _, _, wf3⟩ := open_int Try.underlying3 (hval 3 3 v3 rfl rfl) h3
  obtain ⟨a4, len4, cap4, rfl⟩ := okWide_slice Try.underlying26 (hval 4 26 v4 rfl rfl)
  obtain ⟨ms4, hlen4, hmx4, hrd4⟩ := In.open_list h4
  subst hlen4
  clear hA0 hval0
  refine (walk a0 ms0 cap0 hmx0 a1 ms1 cap1 hmx1 n2 wf2 n3 wf3 a4 ms4 cap4 hmx4 W hrd0 hrd1 hrd4).mono fun e W' ⟨he, bel⟩ => ?_
  subst he
  exact ⟨_, rfl, _, _, _, [], _, [], hW', trodAll_mk1 (shut_bool Try.underlying4 _), (trodAll_cons_mk (Below.trod laidOut (by kernel_rfl) (of_decide_eq_true (by kernel_rfl)) k0 bel lt0) (trodAll_cons_mk (Below.trod laidOut (by kernel_rfl) (of_decide_eq_true (by kernel_rfl)) k1 bel lt1) (trodAll_cons_mk (Below.trod laidOut (by kernel_rfl) (of_decide_eq_true (by kernel_rfl)) k2 bel lt2) (trodAll_cons_mk (Below.trod laidOut (by kernel_rfl) (of_decide_eq_true (by kernel_rfl)) k3 bel lt3) (trodAll_cons_mk (Below.trod laidOut (by kernel_rfl) (of_decide_eq_true (by kernel_rfl)) k4 bel lt4) trodAll_mk0))))), rfl, bel.frame _, fun h => by cases h⟩

theorem over : Rows.fnExactNeedlessRow.holds Try.pinned (OpenSpec.ofChange Rows.fnExactNeedlessSpec) :=
  OpenClaim.holds_of_wide 5 Try.f5 rfl rfl rfl rfl rfl rfl rfl ⟨rfl, rfl, rfl, rfl, rfl⟩ rfl rfl rfl rfl rfl (by kernel_rfl) Try.func5 (by kernel_rfl)
    (of_decide_eq_true (by kernel_rfl)) (by unfold Func.isWrapper; first | (rw [if_pos (by decide +kernel)]; kernel_rfl) | (rw [if_neg (by decide +kernel)]; exact ⟨rfl, rfl⟩))
    (fun os started H enc _ => lifted os started H enc)
end Go.Proofs.Ytpknahhdapmcoao.fnExactNeedless
namespace Go.Proofs.Ytpknahhdapmcoao
/-- At every argument the program's Needless answers as its model. -/
theorem fnExactNeedless_holds : Rows.FnExactNeedlessSaid := fnExactNeedless.over
end Go.Proofs.Ytpknahhdapmcoao
