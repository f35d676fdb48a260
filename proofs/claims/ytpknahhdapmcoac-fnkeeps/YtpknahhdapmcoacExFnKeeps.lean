/-
  Proved here: for all slices of bytes, laws.FnKeeps returns true (by relays for routes alone no way costs more, from any address but ours) and leaves the slices as they were. No condition. (The walk is written by a script.)
-/
import Derived.Test.YtpknahhdapmcoacMg9
import Derived.Test.YtpknahhdapmcoacTwoD
import Derived.Test.YtpknahhdapmcoacLnkD
import Derived.Test.YtpknahhdapmcoacAt
import Derived.Deep.QuietTactic
import Derived.BigQuiet
namespace Go.Proofs.Ytpknahhdapmcoac.fnKeeps
open Go.ChangeShapes Go.WideShapes Go.ChangeAt Go.RowKit
open W1 By Sr Mr
set_option linter.unusedVariables false
set_option linter.unusedSimpArgs false
attribute [local go_sem ↓] Go.wp_at_zero Go.wp_at_succ
theorem own : ownKnob Try.prog.godebug = none := by kernel_rfl
theorem laidOut : laidOutB Try.prog = true := by kernel_rfl
theorem Wa_mem {ls : List Lk.R} (hok : Ln.linksB ls = true) : ∀ m ∈ ls, 1 ≤ m.ad ∧ m.ad ≤ 8 := fun m hm => by
  obtain ⟨i, hi, rfl⟩ := List.getElem_of_mem hm
  have := Ln.ok_ad (Ri.all_ok hok hi)
  rw [List.getD_eq_getElem?_getD, List.getElem?_eq_getElem hi] at this; exact this
theorem below_dN {w : World} (q : Nat) : Below w.heap.size w (w.drewN q) := ⟨rfl, rfl, rfl, Nat.le_refl _, fun _ _ => rfl⟩
theorem reads_under {w w' : World} {a : Option Addr} {bs : List UInt8} (h : Reads w a bs) (hb : Below w.heap.size w w') : Reads w' a bs := by
  rcases h with h | ⟨g, off, e, hc⟩
  · exact .inl h
  · exact .inr ⟨g, off, e, fun i hi => (hb.cell (p := ⟨g, off + i, none⟩) (World.block_lt_of_cell? _ _ (hc i hi))).trans (hc i hi)⟩
set_option maxRecDepth 100000 in
set_option maxHeartbeats 16000000 in
theorem walk (a : Option Addr) (bs : List UInt8) (cap : Nat) (hm0 : bs.length ≤ maxLen) (a' : Option Addr) (bs' : List UInt8) (cap' : Nat) (hm0' : bs'.length ≤ maxLen) (w : World) (hr : Reads w a bs) (hr' : Reads w a' bs') :
    Calls Try.prog 6 #[.slice a bs.length cap, .slice a' bs'.length cap'] w fun e w' => e = .returned (.bool true) ∧ Below w.heap.size w w' := by
  unfold maxLen at hm0 hm0'
  by_cases hb : (1048576 : Int) < bs.length
  · go_enter Try.func6, Try.ntmps6
    go_wp2
    go_ret
    exact ⟨rfl, Below.refl _ _⟩
  by_cases hb' : (1048576 : Int) < bs'.length
  · go_enter Try.func6, Try.ntmps6
    go_wp2
    go_ret
    exact ⟨rfl, Below.refl _ _⟩
  have hbm : bs.length ≤ 1048576 := by omega
  have hbm' : bs'.length ≤ 1048576 := by omega
  have HR := hide hr
  have HR' := hide hr'
  clear hr hr'
  go_enter Try.func6, Try.ntmps6
  go_wp2_with fail
  clear hb hb'
  refine (Tw.twoDrawn a bs cap _ hbm (unhide HR)).mono ?_
  rintro e w1 ⟨g, ms, c, rfl, hsm, hl1, b1⟩
  have HTW := hide hsm.1
  have hl62 := Tw.two_len hsm.1
  have T1 := hide hl1.rm
  have B1 := hide b1
  clear hsm hl1 b1
  go_wp2_with fail
  refine (Ln.linksOf a' bs' cap' _ hbm' (reads_under (unhide HR') (unhide B1))).mono ?_
  rintro e w2 ⟨gl, ls, cl, rfl, hok, hl2, b2⟩
  have HLB := hide hok
  have hl8 := Ln.links_len hok
  have K2 := hide hl2.rm
  have T2 := hide ((unhide T1).below b2)
  have B2 := hide ((unhide B1).trans (b2.mono (unhide B1).size))
  clear hok hl2 b2 T1 B1
  go_wp2_with fail
  refine (Go.Proofs.Ytpknahhdapmcoac.At.choice a' bs' cap' 0 8 _ (by omega) (by omega) (by omega) hbm' (reads_under (unhide HR') (unhide B2))).mono ?_
  rintro e w3 ⟨km, rfl, hkm, q3, hq3⟩
  have b3 : Below w2.heap.size w2 w3 := by rw [hq3]; exact below_dN _
  have B3 := hide ((unhide B2).trans (b3.mono (unhide B2).size))
  have T3 := hide ((unhide T2).below b3)
  have K3 := hide ((unhide K2).below b3)
  clear b3 hq3 T2 K2 B2
  go_wp2_with fail
  refine (Go.Proofs.Ytpknahhdapmcoac.At.choice a' bs' cap' 1 12 _ (by omega) (by omega) (by omega) hbm' (reads_under (unhide HR') (unhide B3))).mono ?_
  rintro e w4 ⟨kn, rfl, hkn, q4, hq4⟩
  have b4 : Below w3.heap.size w3 w4 := by rw [hq4]; exact below_dN _
  have B4 := hide ((unhide B3).trans (b4.mono (unhide B3).size))
  have T4 := hide ((unhide T3).below b4)
  have K4 := hide ((unhide K3).below b4)
  clear b4 hq4 T3 K3 B3
  obtain ⟨me, hme⟩ : ∃ me : Int, 1 + (km : Int) = me := ⟨_, rfl⟩
  obtain ⟨now, hnow⟩ : ∃ now : Int, (kn : Int) = now := ⟨_, rfl⟩
  have m1 : 1 ≤ me ∧ me ≤ 8 := by omega
  have n1 : 0 ≤ now ∧ now ≤ 1000000 := by omega
  rw [hme, hnow]
  clear hme hnow hkm hkn
  have hml : ms.length ≤ 1048576 := by omega
  have hll : ls.length ≤ 1048576 := by omega
  have HCT : Hid (Tw.codeTL ms ls = 0) := hide (Tw.codeTL_zero (by omega) (by omega) (by rw [unhide HTW, unhide HLB]; rfl))
  go_wp2_with fail
  obtain ⟨hz8, hcm, hkp, hca, hco⟩ := Wa.route_keeps (me := me) (now := now) (unhide HCT)
  have HCM := hide hcm
  have HKP := hide hkp
  have HCA := hide hca
  have HCO := hide hco
  clear hcm hkp hca hco
  refine (Wa.implRoute _ ms c _ ls cl me now _ hml hll (unhide T4) (unhide K4)).mono ?_
  rintro e v3 ⟨v, rfl, b3, lx⟩
  rw [unhide HCT]
  obtain ⟨zs, hzs⟩ : ∃ zs, Wa.routA ms ls me now = zs := ⟨_, rfl⟩
  have HZS := hide hzs
  rw [hzs] at lx hz8 HCM HKP HCO
  clear hzs
  obtain ⟨xa, xc, rfl, hlx⟩ := lx
  have X3 := hide hlx.rm
  have T3 := hide ((unhide T4).below b3)
  have K3 := hide ((unhide K4).below b3)
  have B3 := hide ((unhide B4).trans (b3.mono (unhide B4).size))
  clear hlx b3 T4 K4 B4
  go_wp2_with fail
  refine (Wa.specRoute _ _ ms c _ ls cl me now _ hml hll (unhide T3) (unhide K3)).mono ?_
  rintro e v4 ⟨v, rfl, b4, lx⟩
  rw [unhide HCT]
  rw [unhide HZS] at lx
  obtain ⟨ya, yc, rfl, hlx⟩ := lx
  have Y4 := hide hlx.rm
  have X4 := hide ((unhide X3).below b4)
  have T4 := hide ((unhide T3).below b4)
  have K4 := hide ((unhide K3).below b4)
  have B4 := hide ((unhide B3).trans (b4.mono (unhide B3).size))
  clear hlx b4 T3 K3 B3 X3
  go_wp2_with fail
  refine (Wa.implKeeps _ ms c _ ls cl me now _ zs _ _ hml hll (by omega) (unhide T4) (unhide K4) (unhide X4)).mono ?_
  rintro e v5 ⟨rfl, b5⟩
  rw [unhide HKP, unhide HCM]
  have Y5 := hide ((unhide Y4).below b5)
  have X5 := hide ((unhide X4).below b5)
  have T5 := hide ((unhide T4).below b5)
  have K5 := hide ((unhide K4).below b5)
  have B5 := hide ((unhide B4).trans (b5.mono (unhide B4).size))
  clear b5 T4 K4 B4 X4 Y4
  go_wp2_with fail
  refine (In.sameS _ _ zs _ _ _ (by omega) (unhide X5) (unhide Y5)).mono ?_
  rintro e v6 ⟨rfl, b6⟩
  have X6 := hide ((unhide X5).below b6)
  have T6 := hide ((unhide T5).below b6)
  have K6 := hide ((unhide K5).below b6)
  have B6 := hide ((unhide B5).trans (b6.mono (unhide B5).size))
  clear b6 T5 K5 B5 X5 Y5 HTW HKP HZS
  have P0 := hide ((Below.refl v6.heap.size v6).alloc (Nat.le_refl _) (.cells #[] 3))
  have O1 : Hid ((v6.alloc (.cells #[] 3)).ownsRow v6.heap.size 3 1 (.slice (some ⟨v6.heap.size, 0, none⟩) 0 0) (allL ls 0).length (In.flat (allL ls 0))) := hide (In.own_empty v6 v6.heap.size (Nat.le_refl _))
  go_wp2_with fail
  go_loopw [15, 16] (fun v i wr => ∃ j : Nat, j ≤ ls.length ∧ i = .int .i64 j ∧ Hid (wr.ownsRow v6.heap.size 3 1 v (allL ls j).length (In.flat (allL ls j))) ∧ Hid (Below v6.heap.size v6 wr)) (fun _ i _ => ls.length - (intOf i).toNat)
  case atStart => exact ⟨0, by omega, rfl, O1, P0⟩
  case round =>
    rename World => wo
    obtain ⟨j, hj, rfl, how, hbl⟩ := hrel
    have hbs := (unhide hbl).size
    by_cases hlt : (j : Int) < (ls.length : Int)
    · have k0 : (0 : Int) ≤ (j : Int) := by omega
      have hlen : j < ls.length := by omega
      obtain ⟨c0, c1, c2, c3, c4, c5⟩ := ((unhide K6).below (unhide hbl)).at hlen
      have HTF := hide (allL_step hlen)
      have hfl := allL_len ls j
      generalize ls.getD j Lk.R.zero = m at *
      clear c1 c2 c3 c4 c5
      simp only [Nat.zero_add] at c0
      go_wp2_with (at_builtin; refine In.wpList_apS ((unhide how).alloc _) wo.heap.size 0 1 1 [m.ad] rfl (In.rm_new wo m.ad) (by simp only [List.length_cons, List.length_nil]; omega) (by simp; omega) rfl _ _ rfl rfl rfl ?_; intro v' w' ho hg; have HO : Hid (w'.ownsRow v6.heap.size 3 1 v' (allL ls (j + 1)).length (In.flat (allL ls (j + 1)))) := hide (by rw [unhide HTF]; exact ho); have HB := hide (In.below_own ((unhide hbl).alloc hbs _) ((unhide how).alloc _) hg (Nat.le_refl _) (by simp; omega)); clear ho hg)
      go_roundw
      case rel => exact ⟨j + 1, by omega, by go_num, HO, HB⟩
      case measure => simp [intOf]; omega
    · obtain rfl : j = ls.length := by omega
      obtain ⟨aa, ac, rfl, hla⟩ := In.lst_own rfl (unhide how)
      have A7 := hide hla.rm
      have X7 := hide ((unhide X6).below (unhide hbl))
      have T7 := hide ((unhide T6).below (unhide hbl))
      have K7 := hide ((unhide K6).below (unhide hbl))
      have B7 := hide ((unhide B6).trans ((unhide hbl).mono (unhide B6).size))
      have hal := allL_len ls ls.length
      clear hla how hbl X6 T6 K6 B6 O1 P0
      obtain ⟨al, hall⟩ : ∃ al, allL ls ls.length = al := ⟨_, rfl⟩
      rw [hall] at A7 HCA HCO hal ⊢
      clear hall
      go_wp2_with fail
      go_loopw [17] (fun i wq => ∃ t : Nat, t ≤ 8 ∧ i = .int .i64 ((t : Int) + 1) ∧ Hid (Below wo.heap.size wo wq)) (fun i _ => 9 - (intOf i).toNat)
      case atStart => exact ⟨0, by omega, rfl, hide (Below.refl _ _)⟩
      case round =>
        obtain ⟨t, ht, rfl, hb2⟩ := hrel
        have hbs2 := (unhide hb2).size
        by_cases hlt2 : (t : Int) + 1 ≤ 8
        · obtain ⟨x, hx⟩ : ∃ x : Int, (t : Int) + 1 = x := ⟨_, rfl⟩
          have hxr : 1 ≤ x ∧ x ≤ 8 := by omega
          have HX := hide hx
          rw [hx] at hlt2 ⊢
          clear hx
          have Tr := hide ((unhide T7).below (unhide hb2))
          have Kr := hide ((unhide K7).below (unhide hb2))
          have Xr := hide ((unhide X7).below (unhide hb2))
          have Ar := hide ((unhide A7).below (unhide hb2))
          obtain ⟨p1, hp1⟩ : ∃ p, Wa.tcV (costV (Tw.findT ms) ls x now zs ls.length) = p := ⟨_, rfl⟩
          obtain ⟨e1, he1⟩ : ∃ p, Wa.tcE (costV (Tw.findT ms) ls x now zs ls.length) = p := ⟨_, rfl⟩
          obtain ⟨p2, hp2⟩ : ∃ p, Wa.tcV (costV (Tw.findT ms) ls x now al ls.length) = p := ⟨_, rfl⟩
          obtain ⟨e2, he2⟩ : ∃ p, Wa.tcE (costV (Tw.findT ms) ls x now al ls.length) = p := ⟨_, rfl⟩
          have HEQ : Hid ((x == me) = false → p1 = p2 ∧ e1 = e2) := hide (fun h => by rw [← hp1, ← hp2, ← he1, ← he2, unhide HCO x hxr.1 hxr.2 h]; exact ⟨rfl, rfl⟩)
          have HP1 := hide hp1
          have HE1 := hide he1
          have HP2 := hide hp2
          have HE2 := hide he2
          clear hp1 he1 hp2 he2
          have q1 : (p2 != p2) = false := by simp
          have q2 : (e2 != e2) = false := by simp
          go_wp2_with fail
          refine (Wa.implTwoCost _ ms c _ ls cl x now _ zs _ _ hml hll (by omega) (unhide HCM) hxr (unhide Tr) (unhide Kr) (unhide Xr)).mono ?_
          rintro e u1 ⟨rfl, b1⟩
          rw [unhide HP1, unhide HE1]
          have Ts := hide ((unhide Tr).below b1)
          have Ks := hide ((unhide Kr).below b1)
          have As := hide ((unhide Ar).below b1)
          have Bs := hide ((unhide hb2).trans (b1.mono hbs2))
          clear b1 Tr Kr Xr Ar
          go_wp2_with fail
          refine (Wa.implTwoCost _ ms c _ ls cl x now _ al _ _ hml hll (by omega) (unhide HCA) hxr (unhide Ts) (unhide Ks) (unhide As)).mono ?_
          rintro e u2 ⟨rfl, b2⟩
          rw [unhide HP2, unhide HE2]
          have Tt := hide ((unhide Ts).below b2)
          have Kt := hide ((unhide Ks).below b2)
          have At := hide ((unhide As).below b2)
          have Bt := hide ((unhide Bs).trans (b2.mono (unhide Bs).size))
          clear b2 Ts Ks As Bs
          go_wp2_with fail
          refine (Wa.specTwoCost _ _ ms c _ ls cl x now _ al _ _ (by omega) (by omega) (by omega) (unhide HCA) hxr (unhide Tt) (unhide Kt) (unhide At)).mono ?_
          rintro e u3 ⟨rfl, b3⟩
          rw [unhide HP2, unhide HE2]
          have Bu := hide ((unhide Bt).trans (b3.mono (unhide Bt).size))
          clear b3 Tt Kt At Bt
          cases hne : (x != me)
          · go_wp2_with fail
            go_roundw
            case rel => exact ⟨t + 1, by have := unhide HX; omega, by rw [← unhide HX]; go_num, Bu⟩
            case measure => simp only [intOf]; omega
          · obtain ⟨h1, h2⟩ := unhide HEQ (by simpa using hne)
            have q3 : (p1 != p2) = false := by rw [h1]; exact q1
            have q4 : (e1 != e2) = false := by rw [h2]; exact q2
            clear h1 h2
            go_wp2_with fail
            go_roundw
            case rel => exact ⟨t + 1, by have := unhide HX; omega, by rw [← unhide HX]; go_num, Bu⟩
            case measure => simp only [intOf]; omega
        · obtain rfl : t = 8 := by omega
          have HBF := hide ((unhide B7).trans ((unhide hb2).mono (unhide B7).size))
          go_wp2_with fail
          go_ret
          exact ⟨rfl, unhide HBF⟩

set_option maxRecDepth 100000 in
theorem lifted (os : Os) (started : os.Started) (H : Type) (enc : TypeId × Value → H) :
    ReturnsInHanded {} Try.checked os 6 .any (Rows.fnKeepsSpec.pre6 enc Try.prog Try.f6 Rows.fnKeepsRow.domain false) (Rows.fnKeepsSpec.post enc Try.prog Try.f6 false true false false) := by
  refine returnsInHanded_of_change (C := Try.checked) own started (by kernel_rfl) Try.func6
    (ChangeSpec.witness6 (enc := enc) (C := Try.checked) false ⟨#[], #[.slice none 0 0, .slice none 0 0], []⟩ 8 (by kernel_rfl) (by kernel_rfl) (by kernel_rfl) (by kernel_rfl)) ?_
  intro W base args ds gs before hval0 hW hcnd _
  have hval : ∀ (j : Nat) t v, Try.f6.params[j]? = some t → args[j]? = some v → Value.okWide Try.prog W .any base t v := hval0
  have hW' := hW
  obtain ⟨p, q, hA0, hV, rfl, hfz, hnd⟩ := hW
  have hA : DataW.TrodAll enc Try.prog W 0 (fun _ => true) true Try.f6.params.toList args.toList ds p := hA0
  rw [Try.params6] at hA hval
  obtain ⟨v0, vs0, d0, ds0, p0, q0, hargs0, rfl, rfl, h0, r0⟩ := trodAll_cons hA
  obtain ⟨v1, vs1, d1, ds1, p1, q1, hargs1, rfl, rfl, h1, r1⟩ := trodAll_cons r0
  obtain ⟨rfl, rfl, rfl⟩ := trodAll_nil r1
  obtain rfl : args = #[v0, v1] := by cases args; simp_all
  obtain ⟨rfl, rfl⟩ := trodVars_none hV
  have k0 := h0
  have lt0 : ∀ x ∈ p0, x.block < W.heap.size := by obtain ⟨m, hm⟩ := k0; exact DataW.trod_lt m _ _ _ hm
  have k1 := h1
  have lt1 : ∀ x ∈ p1, x.block < W.heap.size := by obtain ⟨m, hm⟩ := k1; exact DataW.trod_lt m _ _ _ hm
  obtain ⟨a0, len0, cap0, rfl⟩ := okWide_slice Try.underlying22 (hval 0 22 v0 rfl rfl)
  obtain ⟨bs0, hlen0, hmx0, hrd0⟩ := Op.open_bytes h0
  subst hlen0
  obtain ⟨a1, len1, cap1, rfl⟩ := okWide_slice Try.underlying22 (hval 1 22 v1 rfl rfl)
  obtain ⟨bs1, hlen1, hmx1, hrd1⟩ := Op.open_bytes h1
  subst hlen1
  clear hA0 hval0
  refine (walk a0 bs0 cap0 hmx0 a1 bs1 cap1 hmx1 W hrd0 hrd1).mono fun e W' ⟨he, bel⟩ => ?_
  subst he
  exact ⟨_, rfl, _, _, _, [], _, [], hW', trodAll_mk1 (shut_bool Try.underlying4 _), (trodAll_cons_mk (Below.trod laidOut (by kernel_rfl) (of_decide_eq_true (by kernel_rfl)) k0 bel lt0) (trodAll_cons_mk (Below.trod laidOut (by kernel_rfl) (of_decide_eq_true (by kernel_rfl)) k1 bel lt1) trodAll_mk0)), rfl, bel.frame _, fun h => by cases h⟩

theorem over : Rows.fnKeepsRow.holds Try.pinned (OpenSpec.ofChange Rows.fnKeepsSpec) :=
  OpenClaim.holds_of_wide 6 Try.f6 rfl rfl rfl rfl rfl rfl rfl ⟨rfl, rfl, rfl, rfl, rfl⟩ rfl rfl rfl rfl rfl (by kernel_rfl) Try.func6 (by kernel_rfl)
    (of_decide_eq_true (by kernel_rfl)) (by unfold Func.isWrapper; first | (rw [if_pos (by decide +kernel)]; kernel_rfl) | (rw [if_neg (by decide +kernel)]; exact ⟨rfl, rfl⟩))
    (fun os started H enc _ => lifted os started H enc)
end Go.Proofs.Ytpknahhdapmcoac.fnKeeps
namespace Go.Proofs.Ytpknahhdapmcoac
/-- For all bytes the law FnKeeps returns true. -/
theorem fnKeeps_holds : Rows.FnKeepsSaid := fnKeeps.over
end Go.Proofs.Ytpknahhdapmcoac
