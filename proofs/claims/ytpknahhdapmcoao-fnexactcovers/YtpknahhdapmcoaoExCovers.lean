/-
  Proved here: for every argument, laws.FnExactCovers returns true (the program's Covers answers as its model, leaves its arguments alone, and answers in memory of its own), and leaves what came in as it was. No condition. (The walk is written by mklaw.py.)
-/
import Derived.Test.YtpknahhdapmcoaoGrpD
import Derived.Test.YtpknahhdapmcoaoMprH
import Derived.Test.YtpknahhdapmcoaoIntsL
namespace Go.Proofs.Ytpknahhdapmcoao.fnExactCovers
open Go.ChangeShapes Go.WideShapes Go.ChangeAt Go.RowKit
open W1 Tw Mr Gp
set_option linter.unusedVariables false
theorem own : ownKnob Try.prog.godebug = none := by kernel_rfl
theorem laidOut : laidOutB Try.prog = true := by kernel_rfl
theorem sH1 {w : World} {b : Nat} {x y : Int} {v : Value} (h : Bx3 w b x y v) : Bx3 w b x y v ∧ w.cell? ⟨b, 0, none⟩ = some (.int .i64 x) ∧ w.cell? ⟨b, 1, none⟩ = some (.int .i64 y) ∧ w.cell? ⟨b, 2, none⟩ = some v := ⟨h, h⟩
theorem sH2 {w : World} {b b' : Nat} {x y x' y' : Int} {v v' : Value} (h : Bx3 w b x y v) (h' : Bx3 w b' x' y' v') :
    (Bx3 w b x y v ∧ Bx3 w b' x' y' v') ∧ w.cell? ⟨b, 0, none⟩ = some (.int .i64 x) ∧ w.cell? ⟨b, 1, none⟩ = some (.int .i64 y) ∧ w.cell? ⟨b, 2, none⟩ = some v ∧ w.cell? ⟨b', 0, none⟩ = some (.int .i64 x') ∧ w.cell? ⟨b', 1, none⟩ = some (.int .i64 y') ∧ w.cell? ⟨b', 2, none⟩ = some v' := ⟨⟨h, h'⟩, h.1, h.2.1, h.2.2, h'.1, h'.2.1, h'.2.2⟩

set_option maxRecDepth 100000 in
set_option maxHeartbeats 8000000 in
theorem walk (a : Option Addr) (ms : List Tu.R) (cap : Nat) (hm_ms : ms.length ≤ maxLen) (b : Option Addr) (ls : List Lk.R) (capl : Nat) (hm_ls : ls.length ≤ maxLen) (me : Int) (wf_me : (Lit.int .i64 me).wf = true) (now : Int) (wf_now : (Lit.int .i64 now).wf = true) (ar : Option Addr) (rs : List Int) (capr : Nat) (hm_rs : rs.length ≤ maxLen) (w : World) (hr_ms : Tu.RM w a ms) (hr_ls : Lk.RM w b ls) (hr_rs : In.RM w ar rs) :
    Calls Try.prog 4 #[.slice a ms.length cap, .slice b ls.length capl, .int .i64 me, .int .i64 now, .slice ar rs.length capr] w fun e w' => e = .returned (.bool true) ∧ Below w.heap.size w w' := by
  have HR_ms := hide hr_ms
  clear hr_ms
  have HR_ls := hide hr_ls
  clear hr_ls
  have HR_rs := hide hr_rs
  clear hr_rs
  by_cases hbig_rs : (1048576 : Int) < rs.length
  · go_enter Try.func4, Try.ntmps4
    go_wp2_with fail
    go_ret
    exact ⟨rfl, Below.refl _ _⟩
  have hml_rs : rs.length ≤ 1048576 := by omega
  go_enter Try.func4, Try.ntmps4
  have B1 : Below w.heap.size w w := Below.refl _ _
  go_wp2_with fail
  clear hbig_rs
  refine (Tu.szS a ms.length cap 1048576 _ (by omega) (by omega) hm_ms).mono ?_
  rintro e w2 ⟨r2, rfl, hw2, hr01⟩
  have b2 : Below w.heap.size w w2 := by rw [hw2]; exact Below.refl _ _
  clear hw2
  have B2 : Below w.heap.size w w2 := b2
  have sz2 : w.heap.size ≤ w2.heap.size := b2.size
  rcases hr01 with hr0 | ⟨hr0, hr1⟩
  · go_wp2_with fail
    go_ret
    exact ⟨rfl, B2⟩
  have hnn2 : ¬ r2 < 0 := by omega
  have hml_ms : ms.length ≤ 1048576 := by omega
  have hrl2 : r2 ≤ 1048576 := by omega
  clear hr1 hm_ms
  go_wp2_with fail
  refine (Lk.szS b ls.length capl r2 _ (by omega) (by omega) hm_ls).mono ?_
  rintro e w3 ⟨r3, rfl, hw3, hr01⟩
  have b3 : Below w2.heap.size w2 w3 := by rw [hw3]; exact Below.refl _ _
  clear hw3
  have B3 := B2.trans (b3.mono B2.size)
  have sz3 : w2.heap.size ≤ w3.heap.size := b3.size
  rcases hr01 with hr0 | ⟨hr0, hr1⟩
  · go_wp2_with fail
    go_ret
    exact ⟨rfl, B3⟩
  have hnn3 : ¬ r3 < 0 := by omega
  have hml_ls : ls.length ≤ 1048576 := by omega
  have hrl3 : r3 ≤ 1048576 := by omega
  clear hr1 hm_ls
  go_wp2_with fail
  refine (Tu.toS a ms cap _ hml_ms ((unhide HR_ms).below B3)).mono ?_
  rintro e w4 ⟨g4, rfl, b4, hg4, hz4, u4⟩
  have B4 := B3.trans (b4.mono B3.size)
  have sz4 : w3.heap.size ≤ w4.heap.size := b4.size
  have Sa4 : Hid (Tu.Lst w4 (some ⟨g4, 0, none⟩) ms w3.heap.size w4.heap.size) := hide (.inr ⟨g4, rfl, hg4, hz4, hz4, u4⟩)
  clear u4
  go_wp2_with fail
  refine (Lk.toS b ls capl _ hml_ls ((unhide HR_ls).below B4)).mono ?_
  rintro e w5 ⟨g5, rfl, b5, hg5, hz5, u5⟩
  have B5 := B4.trans (b5.mono B4.size)
  have sz5 : w4.heap.size ≤ w5.heap.size := b5.size
  have Sa5 := hide ((unhide Sa4).below b5)
  clear Sa4
  have Sb5 : Hid (Lk.Lst w5 (some ⟨g5, 0, none⟩) ls w4.heap.size w5.heap.size) := hide (.inr ⟨g5, rfl, hg5, hz5, hz5, u5⟩)
  clear u5
  go_wp2_with fail
  refine (In.toS ar rs capr _ hml_rs ((unhide HR_rs).below B5)).mono ?_
  rintro e w6 ⟨g6, rfl, b6, hg6, hz6, u6⟩
  have B6 := B5.trans (b6.mono B5.size)
  have sz6 : w5.heap.size ≤ w6.heap.size := b6.size
  have Sa6 := hide ((unhide Sa5).below b6)
  have Sb6 := hide ((unhide Sb5).below b6)
  clear Sa5 Sb5
  have Sc6 : Hid (In.Lst w6 (some ⟨g6, 0, none⟩) rs w5.heap.size w6.heap.size) := hide (.inr ⟨g6, rfl, hg6, hz6, hz6, u6⟩)
  clear u6
  go_wp2_with fail
  refine (specCovers _ _ ms _ _ ls _ me now _ rs _ _ hml_ms hml_ls hml_rs (unhide Sa6).rm (unhide Sb6).rm (unhide Sc6).rm).mono ?_
  rintro e w7 ⟨rfl, b7⟩
  have B7 := B6.trans (b7.mono B6.size)
  have sz7 : w6.heap.size ≤ w7.heap.size := b7.size
  have Sa7 := hide ((unhide Sa6).below b7)
  have Sb7 := hide ((unhide Sb6).below b7)
  have Sc7 := hide ((unhide Sc6).below b7)
  clear Sa6 Sb6 Sc6
  obtain ⟨vv, hvv⟩ : ∃ vv, covA ms ls me now rs = vv := ⟨_, rfl⟩
  have HVV := hide hvv
  rw [hvv]
  clear hvv
  have hnv : (vv != vv) = false := by simp
  obtain ⟨cd, hcd⟩ : ∃ cd, codeM ms ls rs = cd := ⟨_, rfl⟩
  have HC := hide hcd
  rw [hcd]
  clear hcd
  have hne : (cd != cd) = false := by simp
  clear Sa7
  clear Sb7
  clear Sc7
  go_wp2_with fail
  refine (Tu.toS a ms cap _ hml_ms ((unhide HR_ms).below B7)).mono ?_
  rintro e w8 ⟨g8, rfl, b8, hg8, hz8, u8⟩
  have B8 := B7.trans (b8.mono B7.size)
  have sz8 : w7.heap.size ≤ w8.heap.size := b8.size
  have Xa8 : Hid (Tu.Lst w8 (some ⟨g8, 0, none⟩) ms w7.heap.size w8.heap.size) := hide (.inr ⟨g8, rfl, hg8, hz8, hz8, u8⟩)
  clear u8
  go_wp2_with fail
  refine (Lk.toS b ls capl _ hml_ls ((unhide HR_ls).below B8)).mono ?_
  rintro e w9 ⟨g9, rfl, b9, hg9, hz9, u9⟩
  have B9 := B8.trans (b9.mono B8.size)
  have sz9 : w8.heap.size ≤ w9.heap.size := b9.size
  have Xa9 := hide ((unhide Xa8).below b9)
  clear Xa8
  have Xb9 : Hid (Lk.Lst w9 (some ⟨g9, 0, none⟩) ls w8.heap.size w9.heap.size) := hide (.inr ⟨g9, rfl, hg9, hz9, hz9, u9⟩)
  clear u9
  go_wp2_with fail
  refine (In.toS ar rs capr _ hml_rs ((unhide HR_rs).below B9)).mono ?_
  rintro e w10 ⟨g10, rfl, b10, hg10, hz10, u10⟩
  have B10 := B9.trans (b10.mono B9.size)
  have sz10 : w9.heap.size ≤ w10.heap.size := b10.size
  have Xa10 := hide ((unhide Xa9).below b10)
  have Xb10 := hide ((unhide Xb9).below b10)
  clear Xa9 Xb9
  have Xc10 : Hid (In.Lst w10 (some ⟨g10, 0, none⟩) rs w9.heap.size w10.heap.size) := hide (.inr ⟨g10, rfl, hg10, hz10, hz10, u10⟩)
  clear u10
  go_wp2_with fail
  refine (implCovers _ ms _ _ ls _ me now _ rs _ _ hml_ms hml_ls hml_rs (unhide Xa10).rm (unhide Xb10).rm (unhide Xc10).rm).mono ?_
  rintro e w11 ⟨rfl, b11⟩
  have B11 := B10.trans (b11.mono B10.size)
  have sz11 : w10.heap.size ≤ w11.heap.size := b11.size
  have Xa11 := hide ((unhide Xa10).below b11)
  have Xb11 := hide ((unhide Xb10).below b11)
  have Xc11 := hide ((unhide Xc10).below b11)
  clear Xa10 Xb10 Xc10
  rw [unhide HVV, unhide HC]
  go_wp2_with fail
  refine (Tu.toS a ms cap _ hml_ms ((unhide HR_ms).below B11)).mono ?_
  rintro e w12 ⟨g12, rfl, b12, hg12, hz12, u12⟩
  have B12 := B11.trans (b12.mono B11.size)
  have sz12 : w11.heap.size ≤ w12.heap.size := b12.size
  have Xa12 := hide ((unhide Xa11).below b12)
  have Xb12 := hide ((unhide Xb11).below b12)
  have Xc12 := hide ((unhide Xc11).below b12)
  clear Xa11 Xb11 Xc11
  have Y12 : Hid (Tu.Lst w12 (some ⟨g12, 0, none⟩) ms w11.heap.size w12.heap.size) := hide (.inr ⟨g12, rfl, hg12, hz12, hz12, u12⟩)
  clear u12
  go_wp2_with fail
  refine (Tu.eqS _ _ ms _ _ _ hml_ms (unhide Xa12).rm (unhide Y12).rm).mono ?_
  rintro e w13 ⟨rfl, b13⟩
  have B13 := B12.trans (b13.mono B12.size)
  have sz13 : w12.heap.size ≤ w13.heap.size := b13.size
  have Xa13 := hide ((unhide Xa12).below b13)
  have Xb13 := hide ((unhide Xb12).below b13)
  have Xc13 := hide ((unhide Xc12).below b13)
  have Y13 := hide ((unhide Y12).below b13)
  clear Xa12 Xb12 Xc12 Y12
  clear Y13
  go_wp2_with fail
  refine (Lk.toS b ls capl _ hml_ls ((unhide HR_ls).below B13)).mono ?_
  rintro e w14 ⟨g14, rfl, b14, hg14, hz14, u14⟩
  have B14 := B13.trans (b14.mono B13.size)
  have sz14 : w13.heap.size ≤ w14.heap.size := b14.size
  have Xa14 := hide ((unhide Xa13).below b14)
  have Xb14 := hide ((unhide Xb13).below b14)
  have Xc14 := hide ((unhide Xc13).below b14)
  clear Xa13 Xb13 Xc13
  have Y14 : Hid (Lk.Lst w14 (some ⟨g14, 0, none⟩) ls w13.heap.size w14.heap.size) := hide (.inr ⟨g14, rfl, hg14, hz14, hz14, u14⟩)
  clear u14
  go_wp2_with fail
  refine (Lk.eqS _ _ ls _ _ _ hml_ls (unhide Xb14).rm (unhide Y14).rm).mono ?_
  rintro e w15 ⟨rfl, b15⟩
  have B15 := B14.trans (b15.mono B14.size)
  have sz15 : w14.heap.size ≤ w15.heap.size := b15.size
  have Xa15 := hide ((unhide Xa14).below b15)
  have Xb15 := hide ((unhide Xb14).below b15)
  have Xc15 := hide ((unhide Xc14).below b15)
  have Y15 := hide ((unhide Y14).below b15)
  clear Xa14 Xb14 Xc14 Y14
  clear Y15
  go_wp2_with fail
  refine (In.toS ar rs capr _ hml_rs ((unhide HR_rs).below B15)).mono ?_
  rintro e w16 ⟨g16, rfl, b16, hg16, hz16, u16⟩
  have B16 := B15.trans (b16.mono B15.size)
  have sz16 : w15.heap.size ≤ w16.heap.size := b16.size
  have Xa16 := hide ((unhide Xa15).below b16)
  have Xb16 := hide ((unhide Xb15).below b16)
  have Xc16 := hide ((unhide Xc15).below b16)
  clear Xa15 Xb15 Xc15
  have Y16 : Hid (In.Lst w16 (some ⟨g16, 0, none⟩) rs w15.heap.size w16.heap.size) := hide (.inr ⟨g16, rfl, hg16, hz16, hz16, u16⟩)
  clear u16
  go_wp2_with fail
  refine (In.eqS _ _ rs _ _ _ hml_rs (unhide Xc16).rm (unhide Y16).rm).mono ?_
  rintro e w17 ⟨rfl, b17⟩
  have B17 := B16.trans (b17.mono B16.size)
  have sz17 : w16.heap.size ≤ w17.heap.size := b17.size
  have Xa17 := hide ((unhide Xa16).below b17)
  have Xb17 := hide ((unhide Xb16).below b17)
  have Xc17 := hide ((unhide Xc16).below b17)
  have Y17 := hide ((unhide Y16).below b17)
  clear Xa16 Xb16 Xc16 Y16
  clear Y17
  have HF := hide B17
  go_wp2_with fail
  go_ret
  exact ⟨rfl, unhide HF⟩

set_option maxRecDepth 100000 in
theorem lifted (os : Os) (started : os.Started) (H : Type) (enc : TypeId × Value → H) :
    ReturnsInHanded {} Try.checked os 4 .any (Rows.fnExactCoversSpec.pre6 enc Try.prog Try.f4 Rows.fnExactCoversRow.domain false) (Rows.fnExactCoversSpec.post enc Try.prog Try.f4 false true false false) := by
  refine returnsInHanded_of_change (C := Try.checked) own started (by kernel_rfl) Try.func4
    (ChangeSpec.witness6 (enc := enc) (C := Try.checked) false ⟨#[], #[.slice none 0 0, .slice none 0 0, .int .i64 0, .int .i64 0, .slice none 0 0], []⟩ 8 (by kernel_rfl) (by kernel_rfl) (by kernel_rfl) (by kernel_rfl)) ?_
  intro W base args ds gs before hval0 hW hcnd _
  have hval : ∀ (j : Nat) t v, Try.f4.params[j]? = some t → args[j]? = some v → Value.okWide Try.prog W .any base t v := hval0
  have hW' := hW
  obtain ⟨p, q, hA0, hV, rfl, hfz, hnd⟩ := hW
  have hA : DataW.TrodAll enc Try.prog W 0 (fun _ => true) true Try.f4.params.toList args.toList ds p := hA0
  rw [Try.params4] at hA hval
  obtain ⟨v0, vs0, d0, ds0, p0, q0, hargs0, rfl, rfl, h0, r0⟩ := trodAll_cons hA
  obtain ⟨v1, vs1, d1, ds1, p1, q1, hargs1, rfl, rfl, h1, r1⟩ := trodAll_cons r0
  obtain ⟨v2, vs2, d2, ds2, p2, q2, hargs2, rfl, rfl, h2, r2⟩ := trodAll_cons r1
  obtain ⟨v3, vs3, d3, ds3, p3, q3, hargs3, rfl, rfl, h3, r3⟩ := trodAll_cons r2
  obtain ⟨v4, vs4, d4, ds4, p4, q4, hargs4, rfl, rfl, h4, r4⟩ := trodAll_cons r3
  obtain ⟨rfl, rfl, rfl⟩ := trodAll_nil r4
  obtain rfl : args = #[v0, v1, v2, v3, v4] := by cases args; simp_all
  obtain ⟨rfl, rfl⟩ := trodVars_none hV
  have k0 := h0
  have lt0 : ∀ x ∈ p0, x.block < W.heap.size := by obtain ⟨m, hm⟩ := k0; exact DataW.trod_lt m _ _ _ hm
  have k1 := h1
  have lt1 : ∀ x ∈ p1, x.block < W.heap.size := by obtain ⟨m, hm⟩ := k1; exact DataW.trod_lt m _ _ _ hm
  have k2 := h2
  have lt2 : ∀ x ∈ p2, x.block < W.heap.size := by obtain ⟨m, hm⟩ := k2; exact DataW.trod_lt m _ _ _ hm
  have k3 := h3
  have lt3 : ∀ x ∈ p3, x.block < W.heap.size := by obtain ⟨m, hm⟩ := k3; exact DataW.trod_lt m _ _ _ hm
  have k4 := h4
  have lt4 : ∀ x ∈ p4, x.block < W.heap.size := by obtain ⟨m, hm⟩ := k4; exact DataW.trod_lt m _ _ _ hm
  obtain ⟨a0, len0, cap0, rfl⟩ := okWide_slice Try.underlying22 (hval 0 22 v0 rfl rfl)
  obtain ⟨ms0, hlen0, hmx0, hrd0⟩ := Tu.open_list h0
  subst hlen0
  obtain ⟨a1, len1, cap1, rfl⟩ := okWide_slice Try.underlying23 (hval 1 23 v1 rfl rfl)
  obtain ⟨ms1, hlen1, hmx1, hrd1⟩ := Lk.open_list h1
  subst hlen1
  obtain ⟨n2, rfl, _, _, wf2⟩ := open_int Try.underlying3 (hval 2 3 v2 rfl rfl) h2
  obtain ⟨n3, rfl, _, _, wf3⟩ := open_int Try.underlying3 (hval 3 3 v3 rfl rfl) h3
  obtain ⟨a4, len4, cap4, rfl⟩ := okWide_slice Try.underlying26 (hval 4 26 v4 rfl rfl)
  obtain ⟨ms4, hlen4, hmx4, hrd4⟩ := In.open_list h4
  subst hlen4
  clear hA0 hval0
  refine (walk a0 ms0 cap0 hmx0 a1 ms1 cap1 hmx1 n2 wf2 n3 wf3 a4 ms4 cap4 hmx4 W hrd0 hrd1 hrd4).mono fun e W' ⟨he, bel⟩ => ?_
  subst he
  exact ⟨_, rfl, _, _, _, [], _, [], hW', trodAll_mk1 (shut_bool Try.underlying4 _), (trodAll_cons_mk (Below.trod laidOut (by kernel_rfl) (of_decide_eq_true (by kernel_rfl)) k0 bel lt0) (trodAll_cons_mk (Below.trod laidOut (by kernel_rfl) (of_decide_eq_true (by kernel_rfl)) k1 bel lt1) (trodAll_cons_mk (Below.trod laidOut (by kernel_rfl) (of_decide_eq_true (by kernel_rfl)) k2 bel lt2) (trodAll_cons_mk (Below.trod laidOut (by kernel_rfl) (of_decide_eq_true (by kernel_rfl)) k3 bel lt3) (trodAll_cons_mk (Below.trod laidOut (by kernel_rfl) (of_decide_eq_true (by kernel_rfl)) k4 bel lt4) trodAll_mk0))))), rfl, bel.frame _, fun h => by cases h⟩

theorem over : Rows.fnExactCoversRow.holds Try.pinned (OpenSpec.ofChange Rows.fnExactCoversSpec) :=
  OpenClaim.holds_of_wide 4 Try.f4 rfl rfl rfl rfl rfl rfl rfl ⟨rfl, rfl, rfl, rfl, rfl⟩ rfl rfl rfl rfl rfl (by kernel_rfl) Try.func4 (by kernel_rfl)
    (of_decide_eq_true (by kernel_rfl)) (by unfold Func.isWrapper; first | (rw [if_pos (by decide +kernel)]; kernel_rfl) | (rw [if_neg (by decide +kernel)]; exact ⟨rfl, rfl⟩))
    (fun os started H enc _ => lifted os started H enc)
end Go.Proofs.Ytpknahhdapmcoao.fnExactCovers
namespace Go.Proofs.Ytpknahhdapmcoao
/-- At every argument the program's Covers answers as its model. -/
theorem fnExactCovers_holds : Rows.FnExactCoversSaid := fnExactCovers.over
end Go.Proofs.Ytpknahhdapmcoao
