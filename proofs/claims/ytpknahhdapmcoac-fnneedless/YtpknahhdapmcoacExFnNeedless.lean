/-
  Proved here: for all slices of bytes, laws.FnNeedless returns true (without a relay that is said to be needless the others cover; without one that is not, they do not) and leaves the slices as they were. No condition. (The walk is written by a script.)
-/
import Derived.Test.YtpknahhdapmcoacNeeM
import Derived.Test.YtpknahhdapmcoacTwoD
import Derived.Test.YtpknahhdapmcoacLnkD
import Derived.Test.YtpknahhdapmcoacAt
import Derived.Deep.QuietTactic
import Derived.BigQuiet
namespace Go.Proofs.Ytpknahhdapmcoac.fnNeedless
open Go.ChangeShapes Go.WideShapes Go.ChangeAt Go.RowKit
open W1 By Sr Mr
set_option linter.unusedVariables false
set_option linter.unusedSimpArgs false
attribute [local go_sem ↓] Go.wp_at_zero Go.wp_at_succ
theorem own : ownKnob Try.prog.godebug = none := by kernel_rfl
theorem laidOut : laidOutB Try.prog = true := by kernel_rfl
theorem Wa_mem {ls : List Lk.R} (hok : Ln.linksB ls = true) : ∀ m ∈ ls, 1 ≤ m.ad ∧ m.ad ≤ 8 := fun m hm => by
  obtain ⟨i, hi, rfl⟩ := List.getElem_of_mem hm
  have := Ln.ok_ad (Ri.all_ok hok hi)
  rw [List.getD_eq_getElem?_getD, List.getElem?_eq_getElem hi] at this; exact this
theorem below_dN {w : World} (q : Nat) : Below w.heap.size w (w.drewN q) := ⟨rfl, rfl, rfl, Nat.le_refl _, fun _ _ => rfl⟩
theorem reads_under {w w' : World} {a : Option Addr} {bs : List UInt8} (h : Reads w a bs) (hb : Below w.heap.size w w') : Reads w' a bs := by
  rcases h with h | ⟨g, off, e, hc⟩
  · exact .inl h
  · exact .inr ⟨g, off, e, fun i hi => (hb.cell (p := ⟨g, off + i, none⟩) (World.block_lt_of_cell? _ _ (hc i hi))).trans (hc i hi)⟩
set_option maxRecDepth 100000 in
set_option maxHeartbeats 16000000 in
theorem walk (a : Option Addr) (bs : List UInt8) (cap : Nat) (hm0 : bs.length ≤ maxLen) (a' : Option Addr) (bs' : List UInt8) (cap' : Nat) (hm0' : bs'.length ≤ maxLen) (w : World) (hr : Reads w a bs) (hr' : Reads w a' bs') :
    Calls Try.prog 5 #[.slice a bs.length cap, .slice a' bs'.length cap'] w fun e w' => e = .returned (.bool true) ∧ Below w.heap.size w w' := by
  unfold maxLen at hm0 hm0'
  by_cases hb : (1048576 : Int) < bs.length
  · go_enter Try.func5, Try.ntmps5
    go_wp2
    go_ret
    exact ⟨rfl, Below.refl _ _⟩
  by_cases hb' : (1048576 : Int) < bs'.length
  · go_enter Try.func5, Try.ntmps5
    go_wp2
    go_ret
    exact ⟨rfl, Below.refl _ _⟩
  have hbm : bs.length ≤ 1048576 := by omega
  have hbm' : bs'.length ≤ 1048576 := by omega
  have HR := hide hr
  have HR' := hide hr'
  clear hr hr'
  go_enter Try.func5, Try.ntmps5
  go_wp2_with fail
  clear hb hb'
  refine (Tw.twoDrawn a bs cap _ hbm (unhide HR)).mono ?_
  rintro e w1 ⟨g, ms, c, rfl, hsm, hl1, b1⟩
  have HTW := hide hsm.1
  have hl62 := Tw.two_len hsm.1
  have T1 := hide hl1.rm
  have B1 := hide b1
  clear hsm hl1 b1
  go_wp2_with fail
  refine (Ln.linksOf a' bs' cap' _ hbm' (reads_under (unhide HR') (unhide B1))).mono ?_
  rintro e w2 ⟨gl, ls, cl, rfl, hok, hl2, b2⟩
  have HLB := hide hok
  have hl8 := Ln.links_len hok
  have K2 := hide hl2.rm
  have T2 := hide ((unhide T1).below b2)
  have B2 := hide ((unhide B1).trans (b2.mono (unhide B1).size))
  clear hok hl2 b2 T1 B1
  go_wp2_with fail
  refine (Go.Proofs.Ytpknahhdapmcoac.At.choice a' bs' cap' 0 8 _ (by omega) (by omega) (by omega) hbm' (reads_under (unhide HR') (unhide B2))).mono ?_
  rintro e w3 ⟨km, rfl, hkm, q3, hq3⟩
  have b3 : Below w2.heap.size w2 w3 := by rw [hq3]; exact below_dN _
  have B3 := hide ((unhide B2).trans (b3.mono (unhide B2).size))
  have T3 := hide ((unhide T2).below b3)
  have K3 := hide ((unhide K2).below b3)
  clear b3 hq3 T2 K2 B2
  go_wp2_with fail
  refine (Go.Proofs.Ytpknahhdapmcoac.At.choice a' bs' cap' 1 12 _ (by omega) (by omega) (by omega) hbm' (reads_under (unhide HR') (unhide B3))).mono ?_
  rintro e w4 ⟨kn, rfl, hkn, q4, hq4⟩
  have b4 : Below w3.heap.size w3 w4 := by rw [hq4]; exact below_dN _
  have B4 := hide ((unhide B3).trans (b4.mono (unhide B3).size))
  have T4 := hide ((unhide T3).below b4)
  have K4 := hide ((unhide K3).below b4)
  clear b4 hq4 T3 K3 B3
  obtain ⟨me, hme⟩ : ∃ me : Int, 1 + (km : Int) = me := ⟨_, rfl⟩
  obtain ⟨now, hnow⟩ : ∃ now : Int, (kn : Int) = now := ⟨_, rfl⟩
  have m1 : 1 ≤ me ∧ me ≤ 8 := by omega
  have n1 : 0 ≤ now ∧ now ≤ 1000000 := by omega
  rw [hme, hnow]
  clear hme hnow hkm hkn
  have hml : ms.length ≤ 1048576 := by omega
  have hll : ls.length ≤ 1048576 := by omega
  have HCT : Hid (Tw.codeTL ms ls = 0) := hide (Tw.codeTL_zero (by omega) (by omega) (by rw [unhide HTW, unhide HLB]; rfl))
  go_wp2_with fail
  obtain ⟨hz8, hup, _, _, _, hcm⟩ := Cv.flood_ok (me := me) (now := now) (unhide HCT)
  have HUP := hide hup
  have HCM := hide hcm
  clear hup hcm
  refine (Gp.implFloodC _ ms c _ ls cl me now _ hml hll (unhide T4) (unhide K4)).mono ?_
  rintro e v3 ⟨v, rfl, b3, lx, hcp⟩
  rw [unhide HCT]
  obtain ⟨zs, hzs⟩ : ∃ zs, fldA ms ls me now = zs := ⟨_, rfl⟩
  rw [hzs] at lx hz8 HUP HCM
  clear hzs
  obtain ⟨xa, xc, rfl, hlx⟩ := lx
  obtain ⟨_, _, _, e9, hxc, hxm⟩ := hcp
  injection e9 with e91 e92 e93
  subst e92 e93
  clear e91
  have HXM := hide hxm
  unfold maxLen at hxm
  have X3 := hide hlx.rm
  have T3 := hide ((unhide T4).below b3)
  have K3 := hide ((unhide K4).below b3)
  have B3 := hide ((unhide B4).trans (b3.mono (unhide B4).size))
  clear hlx b3 T4 K4 B4
  obtain ⟨hnA, hcA, hrA⟩ := Cv.need_facts (me := me) (now := now) (zs := zs) (unhide HCT) hz8
  have HNA := hide hnA
  have HCA := hide hcA
  have HRA := hide hrA
  clear hnA hcA hrA
  have HNH := hide (fun i (hi : i < zs.length) => Cv.need_has (via := viaF ms ls now) (S := strF ms ls me now) (unhide HUP) hi)
  go_wp2_with fail
  refine (Gp.implNeedless _ ms c _ ls cl me now _ zs _ _ hml hll (by omega) hxc (unhide HXM) (unhide T3) (unhide K3) (unhide X3)).mono ?_
  rintro e v4 ⟨v, rfl, b4, lx⟩
  rw [unhide HCM]
  rw [unhide HNA] at lx
  obtain ⟨na, nc, rfl, hlx⟩ := lx
  have N4 := hide hlx.rm
  have X4 := hide ((unhide X3).below b4)
  have T4 := hide ((unhide T3).below b4)
  have K4 := hide ((unhide K3).below b4)
  have B4 := hide ((unhide B3).trans (b4.mono (unhide B3).size))
  clear hlx b4 T3 K3 B3 X3
  have hnl := Gp.need_len (viaF ms ls now) (strF ms ls me now) zs zs.length
  obtain ⟨nd, hnd⟩ : ∃ nd, Gp.needN (viaF ms ls now) (strF ms ls me now) zs zs.length = nd := ⟨_, rfl⟩
  rw [hnd] at hnl N4 HNH ⊢
  clear hnd HNA
  have B4e := hide ((unhide B4).alloc (unhide B4).size (.cells #[] 3))
  have T4e := hide ((unhide T4).below ((Below.refl _ _).alloc (Nat.le_refl _) (.cells #[] 3)))
  have K4e := hide ((unhide K4).below ((Below.refl _ _).alloc (Nat.le_refl _) (.cells #[] 3)))
  have X4e := hide ((unhide X4).below ((Below.refl _ _).alloc (Nat.le_refl _) (.cells #[] 3)))
  have N4e := hide ((unhide N4).below ((Below.refl _ _).alloc (Nat.le_refl _) (.cells #[] 3)))
  clear T4 K4 B4 X4 N4
  go_wp2_with fail
  refine (Gp.implCovers _ ms c _ ls cl me now _ [] _ _ hml hll (by simp) (unhide T4e) (unhide K4e) (.inl rfl)).mono ?_
  rintro e v5 ⟨rfl, b5⟩
  rw [Gp.codeM_nil, unhide HCT, unhide HCA]
  have N5 := hide ((unhide N4e).below b5)
  have X5 := hide ((unhide X4e).below b5)
  have T5 := hide ((unhide T4e).below b5)
  have K5 := hide ((unhide K4e).below b5)
  have B5 := hide ((unhide B4e).trans (b5.mono (unhide B4e).size))
  clear b5 T4e K4e B4e X4e N4e
  go_wp2_with fail
  refine (Tw.implStrict _ ms c _ ls cl me now _ hml hll (unhide T5) (unhide K5)).mono ?_
  rintro e v6 ⟨v, rfl, b6, lx⟩
  rw [unhide HCT]
  obtain ⟨sa, sc, rfl, _⟩ := lx
  have N6 := hide ((unhide N5).below b6)
  have X6 := hide ((unhide X5).below b6)
  have T6 := hide ((unhide T5).below b6)
  have K6 := hide ((unhide K5).below b6)
  have B6 := hide ((unhide B5).trans (b6.mono (unhide B5).size))
  clear b6 T5 K5 B5 X5 N5 HCA
  obtain ⟨ns, hns⟩ : ∃ ns, (Tw.strictA ms ls me now).length = ns := ⟨_, rfl⟩
  rw [hns]
  clear hns
  have hsb : ((ns == 0) != ((ns : Int) == 0)) = false := by
    by_cases h : ns = 0
    · subst h; rfl
    · have h1 : (ns == 0) = false := by simpa using h
      have h2 : ((ns : Int) == 0) = false := by simp; omega
      rw [h1, h2]; rfl
  generalize hNZ : zs.length = nz at *
  have HNZ := hide hNZ
  generalize hNN : nd.length = nn at *
  have HNN := hide hNN
  clear hNZ hNN
  generalize hsq : (ns == 0) = sq at *
  clear hsq
  have hsc : (sq == ((ns : Int) == 0)) = true := by
    generalize ((ns : Int) == 0) = y at hsb
    cases sq <;> cases y <;> first | rfl | cases hsb
  have hsd : (!(sq == ((ns : Int) == 0))) = false := by rw [hsc]; rfl
  go_wp2_with fail
  clear hsb hsc hsd
  go_loopw [17] (fun i wo => ∃ t : Nat, t ≤ nz ∧ i = .int .i64 (t : Int) ∧ Hid (Below v6.heap.size v6 wo)) (fun i _ => nz - (intOf i).toNat)
  case atStart => exact ⟨0, by omega, rfl, hide (Below.refl _ _)⟩
  case round =>
    rename World => wo
    obtain ⟨t, ht, rfl, hbl⟩ := hrel
    have hbs := (unhide hbl).size
    by_cases hlt2 : (t : Int) < (nz : Int)
    · have k0 : (0 : Int) ≤ (t : Int) := by omega
      have k1 : (0 : Int) ≤ (t : Int) + 1 := by omega
      have k2 : (t : Int) ≤ (xc : Int) := by omega
      have k3 : (t : Int) + 1 ≤ (nz : Int) := by omega
      have k4 : (nz : Int) ≤ (xc : Int) := by omega
      have k5 : (t : Int) + 1 ≤ (xc : Int) := by omega
      have hlen : t < zs.length := by rw [unhide HNZ]; omega
      have Tr := hide ((unhide T6).below (unhide hbl))
      have Kr := hide ((unhide K6).below (unhide hbl))
      have Xr := hide ((unhide X6).below (unhide hbl))
      have Nr := hide ((unhide N6).below (unhide hbl))
      obtain ⟨gz, oz, rfl⟩ : ∃ gz oz, xa = some ⟨gz, oz, none⟩ := by
        rcases unhide X6 with e0 | ⟨gz, oz, e, _⟩
        · exfalso; rw [e0] at hlen; simp at hlen
        · exact ⟨gz, oz, e⟩
      obtain ⟨hcr, hcn, hr8⟩ := unhide HRA t (by omega)
      have HCR := hide hcn
      have HCN := hide hcr
      clear hcr hcn
      have HHS := hide (unhide HNH t (by omega))
      have lt1 : Hid ((zs.take t).length = t) := hide (by rw [List.length_take]; omega)
      have ld1 : Hid ((zs.drop (t + 1)).length = nz - (t + 1)) := hide (by rw [List.length_drop, unhide HNZ])
      have HRE : Hid (([] ++ zs.take t) ++ zs.drop (t + 1) = Gp.rest zs t) := hide rfl
      have HAZ : Hid (∀ W : World, In.RM W (some ⟨gz, oz, none⟩) zs → W.cell? ⟨gz, oz + t, none⟩ = some (.int .i64 (zs.getD t 0))) := hide (fun W h => h.at hlen)
      generalize zs.getD t 0 = z at *
      by_cases hcp : xc = t + 1
      · have hnj : nz - (t + 1) = 0 := by omega
        rw [hnj] at ld1
        have HD : Hid (∀ W : World, In.RM W (some ⟨gz, oz, none⟩) zs → In.RM W (some ⟨gz, oz, none⟩) (zs.drop (t + 1))) := hide (fun W h => .inl (List.eq_nil_of_length_eq_zero (unhide ld1)))
        subst hcp
        have p1 : (t : Int) ≤ (t : Int) + 1 := by omega
        have p2 : (nz : Int) ≤ (t : Int) + 1 := by omega
        go_wp2_with fail
        refine wp_region_noPanic ?_
        refine wp_region_held_drew (S := fun w' => True) (by kernel_rfl) trivial (fun hHeld => ?_)
        have HV : Hid (Below wo.heap.size wo wo.drew) := hide ((Below.refl _ _).drew)
        (refine Rg.tk (i := 1) (d := 106) (v := ?_) rfl rfl (by kernel_rfl) (by kernel_rfl) (by kernel_rfl) (fun _ _ _ h => h) (by rfl) ?_ (by assumption) ?_; rotate_left; (focus (intro w0 hSw; (try dsimp only at hSw); go_simp; (try with_reducible rfl))); (try simp only [Act.put, List.setIfInBounds_toArray, List.set_cons_zero, List.set_cons_succ]))
        (refine Rg.tk (i := 2) (d := 107) (v := ?_) rfl rfl (by kernel_rfl) (by kernel_rfl) (by kernel_rfl) (fun _ _ _ h => h) (by rfl) ?_ (by assumption) ?_; rotate_left; (focus (intro w0 hSw; (try dsimp only at hSw); go_simp; (try with_reducible rfl))); (try simp only [Act.put, List.setIfInBounds_toArray, List.set_cons_zero, List.set_cons_succ]))
        (refine Rg.tk (i := 3) (d := 108) (v := ?_) rfl rfl (by kernel_rfl) (by kernel_rfl) (by kernel_rfl) (fun _ _ _ h => h) (by rfl) ?_ (by assumption) ?_; rotate_left; (focus (intro w0 hSw; (try dsimp only at hSw); go_simp; (try with_reducible rfl))); (try simp only [Act.put, List.setIfInBounds_toArray, List.set_cons_zero, List.set_cons_succ]))
        (refine Rg.tk (i := 5) (d := 110) (v := ?_) rfl rfl (by kernel_rfl) (by kernel_rfl) (by kernel_rfl) (fun _ _ _ h => h) (by rfl) ?_ (by assumption) ?_; rotate_left; (focus (intro w0 hSw; (try dsimp only at hSw); go_simp; (try with_reducible rfl))); (try simp only [Act.put, List.setIfInBounds_toArray, List.set_cons_zero, List.set_cons_succ]))
        (refine Rg.tk (i := 6) (d := 111) (v := ?_) rfl rfl (by kernel_rfl) (by kernel_rfl) (by kernel_rfl) (fun _ _ _ h => h) (by rfl) ?_ (by assumption) ?_; rotate_left; (focus (intro w0 hSw; (try dsimp only at hSw); go_simp; (try with_reducible rfl))); (try simp only [Act.put, List.setIfInBounds_toArray, List.set_cons_zero, List.set_cons_succ]))
        (refine Rg.tk (i := 7) (d := 112) (v := .int .i64 ((t : Int) + 1)) rfl rfl (by kernel_rfl) (by kernel_rfl) (by kernel_rfl) (fun _ _ _ h => h) (by rfl) ?_ (by assumption) ?_; (focus (intro w0 hSw; (try dsimp only at hSw); go_simp)); (try simp only [Act.put, List.setIfInBounds_toArray, List.set_cons_zero, List.set_cons_succ]))
        · exact IntWalk.i64_in _ (by omega)
        (refine Rg.tk (i := 8) (d := 113) (v := ?_) rfl rfl (by kernel_rfl) (by kernel_rfl) (by kernel_rfl) (fun _ _ _ h => h) (by rfl) ?_ (by assumption) ?_; rotate_left; (focus (intro w0 hSw; (try dsimp only at hSw); go_simp; (try with_reducible rfl))); (try simp only [Act.put, List.setIfInBounds_toArray, List.set_cons_zero, List.set_cons_succ]))
        (refine wpAnyH_ready (rs := [0]) (by kernel_rfl) (by simp) ?_; refine AllReadyH.cons (o := _) rfl (fun K hK => ?_) AllReadyH.nil; go_simp)
        have HV1 := hide ((unhide HV).alloc (unhide HV).size (.cells #[] 3))
        have O0 := hide (In.own_empty wo.drew wo.heap.size (unhide HV).size)
        clear hHeld
        refine hK.out _ _ trivial (fun hHeld => ?_)
        clear hK K
        (try simp only [Act.put, List.setIfInBounds_toArray, List.set_cons_zero, List.set_cons_succ])
        (refine wpAnyH_ready (rs := [4]) (by kernel_rfl) (by simp) ?_; refine AllReadyH.cons (o := _) rfl (fun K hK => ?_) AllReadyH.nil; rw [if_pos (by rfl)])
        refine wp_apI (unhide O0) gz oz t _ (zs.take t) (unhide lt1) (rmI_take ((unhide Xr).below (unhide HV1)) t) (by rw [unhide lt1]; simp <;> omega) (unhide HV1).size _ _ rfl rfl rfl rfl ?_
        intro v4 w4 o4 g4
        have O4 := hide o4
        have HV4 := hide (In.below_own (unhide HV1) (unhide O0) g4 (Nat.le_refl _) (unhide HV1).size)
        clear o4 g4 hHeld
        refine hK.out _ _ trivial (fun hHeld => ?_)
        clear hK K
        (try simp only [Act.put, List.setIfInBounds_toArray, List.set_cons_zero, List.set_cons_succ])
        (refine wpAnyH_ready (rs := [9]) (by kernel_rfl) (by simp) ?_; refine AllReadyH.cons (o := _) rfl (fun K hK => ?_) AllReadyH.nil; rw [if_pos (by rfl)])
        refine wp_apI (unhide O4) gz _ _ _ (zs.drop (t + 1)) (unhide ld1) (unhide HD _ ((unhide Xr).below (unhide HV4))) (by simp only [List.nil_append]; rw [unhide ld1, unhide lt1]; omega) (unhide HV4).size _ _ rfl rfl rfl rfl ?_
        intro v5 w5 o5 g5
        have HV5 := hide (In.below_own (unhide HV4) (unhide O4) g5 (Nat.le_refl _) (unhide HV4).size)
        rw [unhide HRE] at o5
        obtain ⟨a5, c5, rfl, l5⟩ := In.lst_own rfl o5
        have R5 := hide l5.rm
        clear o5 g5 l5 hHeld O0 O4 HV1 HV4
        refine hK.out _ _ trivial (fun hHeld => ?_)
        clear hK K
        (try simp only [Act.put, List.setIfInBounds_toArray, List.set_cons_zero, List.set_cons_succ])
        (refine Rg.tk (i := 10) (d := 18) (v := ?_) rfl rfl (by kernel_rfl) (by kernel_rfl) (by kernel_rfl) (fun _ _ _ h => h) (by rfl) ?_ (by assumption) ?_; rotate_left; (focus (intro w0 hSw; (try dsimp only at hSw); go_simp; (try with_reducible rfl))); (try simp only [Act.put, List.setIfInBounds_toArray, List.set_cons_zero, List.set_cons_succ]))
        refine wpAnyH_done (by kernel_rfl) (NoPanic.normal ?_) _
        clear hHeld
        have T5 := hide ((unhide Tr).below (unhide HV5))
        have K5 := hide ((unhide Kr).below (unhide HV5))
        have X5 := hide ((unhide Xr).below (unhide HV5))
        have N5 := hide ((unhide Nr).below (unhide HV5))
        have B5 := hide ((unhide hbl).trans ((unhide HV5).mono hbs))
        clear HV HV5 HD
        go_wp2_with fail
        refine (Gp.implCovers _ ms c _ ls cl me now _ (Gp.rest zs t) _ _ hml hll (by omega) (unhide T5) (unhide K5) (unhide R5)).mono ?_
        rintro e w6 ⟨rfl, b6⟩
        rw [unhide HCR, unhide HCN]
        have T6 := hide ((unhide T5).below b6)
        have K6 := hide ((unhide K5).below b6)
        have X6 := hide ((unhide X5).below b6)
        have N6 := hide ((unhide N5).below b6)
        have B6 := hide ((unhide B5).trans (b6.mono (unhide B5).size))
        clear b6 T5 K5 X5 N5 B5 R5
        generalize hNB : Gp.needB (viaF ms ls now) (strF ms ls me now) zs t = nb at *
        clear hNB
        go_wp2_with fail
        go_loopw [21, 22] (fun s i wr => ∃ k : Nat, k ≤ nn ∧ (∃ sd : Bool, s = .bool sd ∧ Hid ((nd.take k).contains z = sd)) ∧ i = .int .i64 (k : Int) ∧ Hid (Below w6.heap.size w6 wr)) (fun _ i _ => nn - (intOf i).toNat)
        case atStart => exact ⟨0, by omega, ⟨false, rfl, hide rfl⟩, rfl, hide (Below.refl _ _)⟩
        case round =>
          obtain ⟨k, hk, ⟨sd, rfl, hsd⟩, rfl, hb3⟩ := hrel
          by_cases hlt4 : (k : Int) < (nn : Int)
          · have k2 : (0 : Int) ≤ (k : Int) := by omega
            have hlen3 : k < nd.length := by rw [unhide HNN]; omega
            have HST := hide (Cv.has_step (z := z) hlen3)
            rw [unhide hsd] at HST
            have cz := unhide HAZ _ ((unhide X6).below (unhide hb3))
            rcases (unhide N6).below (unhide hb3) with e0 | ⟨gn, on, rfl, hc⟩
            · exfalso; rw [e0] at hlen3; simp at hlen3
            have cn := hc k hlen3
            clear hc
            generalize nd.getD k 0 = y at *
            cases sd
            · obtain ⟨sd2, hsd2⟩ : ∃ sd2, (y == z) = sd2 := ⟨_, rfl⟩
              have HE : Hid ((nd.take (k + 1)).contains z = sd2) := hide (by rw [unhide HST, hsd2]; rfl)
              go_wp2_with fail
              go_quiet (fail)
              have BB3 := hide ((unhide hb3).trans ((below_dN nq).mono (unhide hb3).size))
              go_wp2_with fail
              go_roundw
              case rel => exact ⟨k + 1, by omega, ⟨sd2, by first | rfl | rw [hsd2] | simp [hsd2], HE⟩, by go_num, BB3⟩
              case measure => simp [intOf]; omega
            · have HE : Hid ((nd.take (k + 1)).contains z = true) := hide (by rw [unhide HST]; rfl)
              go_wp2_with fail
              go_quiet (fail)
              have BB3 := hide ((unhide hb3).trans ((below_dN nq).mono (unhide hb3).size))
              go_wp2_with fail
              go_roundw
              case rel => exact ⟨k + 1, by omega, ⟨true, rfl, HE⟩, by go_num, BB3⟩
              case measure => simp [intOf]; omega
          · obtain rfl : k = nn := by omega
            have hsn : sd = nb := by
              have h1 := unhide hsd
              rw [← unhide HNN, List.take_length, unhide HHS] at h1; exact h1.symm
            subst hsn
            have T7 := hide ((unhide T6).below (unhide hb3))
            have K7 := hide ((unhide K6).below (unhide hb3))
            have X7 := hide ((unhide X6).below (unhide hb3))
            have B7 := hide ((unhide B6).trans ((unhide hb3).mono (unhide B6).size))
            have cz := unhide HAZ _ (unhide X7)
            have hsf : (sd != sd) = false := by simp
            go_wp2_with fail
            refine (Gp.implDegree _ ms c _ ls cl me now z _ hml hll (unhide T7) (unhide K7)).mono ?_
            rintro e w8 ⟨rfl, b8⟩
            rw [unhide HCT]
            have T8 := hide ((unhide T7).below b8)
            have K8 := hide ((unhide K7).below b8)
            have X8 := hide ((unhide X7).below b8)
            have B8 := hide ((unhide B7).trans (b8.mono (unhide B7).size))
            clear b8 T7 K7 X7 B7 cz
            have cz := unhide HAZ _ (unhide X8)
            obtain ⟨dg, hdg⟩ : ∃ dg, degA ms ls me now z = dg := ⟨_, rfl⟩
            have HDG := hide hdg
            rw [hdg]
            clear hdg
            have hdf : (dg != dg) = false := by simp
            go_wp2_with fail
            refine (specDegree _ _ ms c _ ls cl me now z _ hml hll (unhide T8) (unhide K8)).mono ?_
            rintro e w9 ⟨rfl, b9⟩
            rw [unhide HCT, unhide HDG]
            have B9 := hide ((unhide B8).trans (b9.mono (unhide B8).size))
            clear b9 cz
            go_wp2_with fail
            go_roundw
            case rel => exact ⟨t + 1, by omega, by go_num, B9⟩
            case measure => simp [intOf]; omega
      · have HD : Hid (∀ W : World, In.RM W (some ⟨gz, oz, none⟩) zs → In.RM W (some ⟨gz, oz + (t + 1), none⟩) (zs.drop (t + 1))) := hide (fun W h => rmI_drop h (t + 1))
        go_wp2_with fail
        refine wp_region_noPanic ?_
        refine wp_region_held_drew (S := fun w' => True) (by kernel_rfl) trivial (fun hHeld => ?_)
        have HV : Hid (Below wo.heap.size wo wo.drew) := hide ((Below.refl _ _).drew)
        (refine Rg.tk (i := 1) (d := 106) (v := ?_) rfl rfl (by kernel_rfl) (by kernel_rfl) (by kernel_rfl) (fun _ _ _ h => h) (by rfl) ?_ (by assumption) ?_; rotate_left; (focus (intro w0 hSw; (try dsimp only at hSw); go_simp; (try with_reducible rfl))); (try simp only [Act.put, List.setIfInBounds_toArray, List.set_cons_zero, List.set_cons_succ]))
        (refine Rg.tk (i := 2) (d := 107) (v := ?_) rfl rfl (by kernel_rfl) (by kernel_rfl) (by kernel_rfl) (fun _ _ _ h => h) (by rfl) ?_ (by assumption) ?_; rotate_left; (focus (intro w0 hSw; (try dsimp only at hSw); go_simp; (try with_reducible rfl))); (try simp only [Act.put, List.setIfInBounds_toArray, List.set_cons_zero, List.set_cons_succ]))
        (refine Rg.tk (i := 3) (d := 108) (v := ?_) rfl rfl (by kernel_rfl) (by kernel_rfl) (by kernel_rfl) (fun _ _ _ h => h) (by rfl) ?_ (by assumption) ?_; rotate_left; (focus (intro w0 hSw; (try dsimp only at hSw); go_simp; (try with_reducible rfl))); (try simp only [Act.put, List.setIfInBounds_toArray, List.set_cons_zero, List.set_cons_succ]))
        (refine Rg.tk (i := 5) (d := 110) (v := ?_) rfl rfl (by kernel_rfl) (by kernel_rfl) (by kernel_rfl) (fun _ _ _ h => h) (by rfl) ?_ (by assumption) ?_; rotate_left; (focus (intro w0 hSw; (try dsimp only at hSw); go_simp; (try with_reducible rfl))); (try simp only [Act.put, List.setIfInBounds_toArray, List.set_cons_zero, List.set_cons_succ]))
        (refine Rg.tk (i := 6) (d := 111) (v := ?_) rfl rfl (by kernel_rfl) (by kernel_rfl) (by kernel_rfl) (fun _ _ _ h => h) (by rfl) ?_ (by assumption) ?_; rotate_left; (focus (intro w0 hSw; (try dsimp only at hSw); go_simp; (try with_reducible rfl))); (try simp only [Act.put, List.setIfInBounds_toArray, List.set_cons_zero, List.set_cons_succ]))
        (refine Rg.tk (i := 7) (d := 112) (v := .int .i64 ((t : Int) + 1)) rfl rfl (by kernel_rfl) (by kernel_rfl) (by kernel_rfl) (fun _ _ _ h => h) (by rfl) ?_ (by assumption) ?_; (focus (intro w0 hSw; (try dsimp only at hSw); go_simp)); (try simp only [Act.put, List.setIfInBounds_toArray, List.set_cons_zero, List.set_cons_succ]))
        · exact IntWalk.i64_in _ (by omega)
        (refine Rg.tk (i := 8) (d := 113) (v := ?_) rfl rfl (by kernel_rfl) (by kernel_rfl) (by kernel_rfl) (fun _ _ _ h => h) (by rfl) ?_ (by assumption) ?_; rotate_left; (focus (intro w0 hSw; (try dsimp only at hSw); go_simp; (try with_reducible rfl))); (try simp only [Act.put, List.setIfInBounds_toArray, List.set_cons_zero, List.set_cons_succ]))
        (refine wpAnyH_ready (rs := [0]) (by kernel_rfl) (by simp) ?_; refine AllReadyH.cons (o := _) rfl (fun K hK => ?_) AllReadyH.nil; go_simp)
        have HV1 := hide ((unhide HV).alloc (unhide HV).size (.cells #[] 3))
        have O0 := hide (In.own_empty wo.drew wo.heap.size (unhide HV).size)
        clear hHeld
        refine hK.out _ _ trivial (fun hHeld => ?_)
        clear hK K
        (try simp only [Act.put, List.setIfInBounds_toArray, List.set_cons_zero, List.set_cons_succ])
        (refine wpAnyH_ready (rs := [4]) (by kernel_rfl) (by simp) ?_; refine AllReadyH.cons (o := _) rfl (fun K hK => ?_) AllReadyH.nil; rw [if_pos (by rfl)])
        refine wp_apI (unhide O0) gz oz t _ (zs.take t) (unhide lt1) (rmI_take ((unhide Xr).below (unhide HV1)) t) (by rw [unhide lt1]; simp <;> omega) (unhide HV1).size _ _ rfl rfl rfl rfl ?_
        intro v4 w4 o4 g4
        have O4 := hide o4
        have HV4 := hide (In.below_own (unhide HV1) (unhide O0) g4 (Nat.le_refl _) (unhide HV1).size)
        clear o4 g4 hHeld
        refine hK.out _ _ trivial (fun hHeld => ?_)
        clear hK K
        (try simp only [Act.put, List.setIfInBounds_toArray, List.set_cons_zero, List.set_cons_succ])
        (refine wpAnyH_ready (rs := [9]) (by kernel_rfl) (by simp) ?_; refine AllReadyH.cons (o := _) rfl (fun K hK => ?_) AllReadyH.nil; rw [if_pos (by rfl)])
        refine wp_apI (unhide O4) gz _ _ _ (zs.drop (t + 1)) (unhide ld1) (unhide HD _ ((unhide Xr).below (unhide HV4))) (by simp only [List.nil_append]; rw [unhide ld1, unhide lt1]; omega) (unhide HV4).size _ _ rfl rfl rfl rfl ?_
        intro v5 w5 o5 g5
        have HV5 := hide (In.below_own (unhide HV4) (unhide O4) g5 (Nat.le_refl _) (unhide HV4).size)
        rw [unhide HRE] at o5
        obtain ⟨a5, c5, rfl, l5⟩ := In.lst_own rfl o5
        have R5 := hide l5.rm
        clear o5 g5 l5 hHeld O0 O4 HV1 HV4
        refine hK.out _ _ trivial (fun hHeld => ?_)
        clear hK K
        (try simp only [Act.put, List.setIfInBounds_toArray, List.set_cons_zero, List.set_cons_succ])
        (refine Rg.tk (i := 10) (d := 18) (v := ?_) rfl rfl (by kernel_rfl) (by kernel_rfl) (by kernel_rfl) (fun _ _ _ h => h) (by rfl) ?_ (by assumption) ?_; rotate_left; (focus (intro w0 hSw; (try dsimp only at hSw); go_simp; (try with_reducible rfl))); (try simp only [Act.put, List.setIfInBounds_toArray, List.set_cons_zero, List.set_cons_succ]))
        refine wpAnyH_done (by kernel_rfl) (NoPanic.normal ?_) _
        clear hHeld
        have T5 := hide ((unhide Tr).below (unhide HV5))
        have K5 := hide ((unhide Kr).below (unhide HV5))
        have X5 := hide ((unhide Xr).below (unhide HV5))
        have N5 := hide ((unhide Nr).below (unhide HV5))
        have B5 := hide ((unhide hbl).trans ((unhide HV5).mono hbs))
        clear HV HV5 HD
        go_wp2_with fail
        refine (Gp.implCovers _ ms c _ ls cl me now _ (Gp.rest zs t) _ _ hml hll (by omega) (unhide T5) (unhide K5) (unhide R5)).mono ?_
        rintro e w6 ⟨rfl, b6⟩
        rw [unhide HCR, unhide HCN]
        have T6 := hide ((unhide T5).below b6)
        have K6 := hide ((unhide K5).below b6)
        have X6 := hide ((unhide X5).below b6)
        have N6 := hide ((unhide N5).below b6)
        have B6 := hide ((unhide B5).trans (b6.mono (unhide B5).size))
        clear b6 T5 K5 X5 N5 B5 R5
        generalize hNB : Gp.needB (viaF ms ls now) (strF ms ls me now) zs t = nb at *
        clear hNB
        go_wp2_with fail
        go_loopw [21, 22] (fun s i wr => ∃ k : Nat, k ≤ nn ∧ (∃ sd : Bool, s = .bool sd ∧ Hid ((nd.take k).contains z = sd)) ∧ i = .int .i64 (k : Int) ∧ Hid (Below w6.heap.size w6 wr)) (fun _ i _ => nn - (intOf i).toNat)
        case atStart => exact ⟨0, by omega, ⟨false, rfl, hide rfl⟩, rfl, hide (Below.refl _ _)⟩
        case round =>
          obtain ⟨k, hk, ⟨sd, rfl, hsd⟩, rfl, hb3⟩ := hrel
          by_cases hlt4 : (k : Int) < (nn : Int)
          · have k2 : (0 : Int) ≤ (k : Int) := by omega
            have hlen3 : k < nd.length := by rw [unhide HNN]; omega
            have HST := hide (Cv.has_step (z := z) hlen3)
            rw [unhide hsd] at HST
            have cz := unhide HAZ _ ((unhide X6).below (unhide hb3))
            rcases (unhide N6).below (unhide hb3) with e0 | ⟨gn, on, rfl, hc⟩
            · exfalso; rw [e0] at hlen3; simp at hlen3
            have cn := hc k hlen3
            clear hc
            generalize nd.getD k 0 = y at *
            cases sd
            · obtain ⟨sd2, hsd2⟩ : ∃ sd2, (y == z) = sd2 := ⟨_, rfl⟩
              have HE : Hid ((nd.take (k + 1)).contains z = sd2) := hide (by rw [unhide HST, hsd2]; rfl)
              go_wp2_with fail
              go_quiet (fail)
              have BB3 := hide ((unhide hb3).trans ((below_dN nq).mono (unhide hb3).size))
              go_wp2_with fail
              go_roundw
              case rel => exact ⟨k + 1, by omega, ⟨sd2, by first | rfl | rw [hsd2] | simp [hsd2], HE⟩, by go_num, BB3⟩
              case measure => simp [intOf]; omega
            · have HE : Hid ((nd.take (k + 1)).contains z = true) := hide (by rw [unhide HST]; rfl)
              go_wp2_with fail
              go_quiet (fail)
              have BB3 := hide ((unhide hb3).trans ((below_dN nq).mono (unhide hb3).size))
              go_wp2_with fail
              go_roundw
              case rel => exact ⟨k + 1, by omega, ⟨true, rfl, HE⟩, by go_num, BB3⟩
              case measure => simp [intOf]; omega
          · obtain rfl : k = nn := by omega
            have hsn : sd = nb := by
              have h1 := unhide hsd
              rw [← unhide HNN, List.take_length, unhide HHS] at h1; exact h1.symm
            subst hsn
            have T7 := hide ((unhide T6).below (unhide hb3))
            have K7 := hide ((unhide K6).below (unhide hb3))
            have X7 := hide ((unhide X6).below (unhide hb3))
            have B7 := hide ((unhide B6).trans ((unhide hb3).mono (unhide B6).size))
            have cz := unhide HAZ _ (unhide X7)
            have hsf : (sd != sd) = false := by simp
            go_wp2_with fail
            refine (Gp.implDegree _ ms c _ ls cl me now z _ hml hll (unhide T7) (unhide K7)).mono ?_
            rintro e w8 ⟨rfl, b8⟩
            rw [unhide HCT]
            have T8 := hide ((unhide T7).below b8)
            have K8 := hide ((unhide K7).below b8)
            have X8 := hide ((unhide X7).below b8)
            have B8 := hide ((unhide B7).trans (b8.mono (unhide B7).size))
            clear b8 T7 K7 X7 B7 cz
            have cz := unhide HAZ _ (unhide X8)
            obtain ⟨dg, hdg⟩ : ∃ dg, degA ms ls me now z = dg := ⟨_, rfl⟩
            have HDG := hide hdg
            rw [hdg]
            clear hdg
            have hdf : (dg != dg) = false := by simp
            go_wp2_with fail
            refine (specDegree _ _ ms c _ ls cl me now z _ hml hll (unhide T8) (unhide K8)).mono ?_
            rintro e w9 ⟨rfl, b9⟩
            rw [unhide HCT, unhide HDG]
            have B9 := hide ((unhide B8).trans (b9.mono (unhide B8).size))
            clear b9 cz
            go_wp2_with fail
            go_roundw
            case rel => exact ⟨t + 1, by omega, by go_num, B9⟩
            case measure => simp [intOf]; omega
    · obtain rfl : t = nz := by omega
      have HBF := hide ((unhide B6).trans ((unhide hbl).mono (unhide B6).size))
      go_wp2_with fail
      go_ret
      exact ⟨rfl, unhide HBF⟩

set_option maxRecDepth 100000 in
theorem lifted (os : Os) (started : os.Started) (H : Type) (enc : TypeId × Value → H) :
    ReturnsInHanded {} Try.checked os 5 .any (Rows.fnNeedlessSpec.pre6 enc Try.prog Try.f5 Rows.fnNeedlessRow.domain false) (Rows.fnNeedlessSpec.post enc Try.prog Try.f5 false true false false) := by
  refine returnsInHanded_of_change (C := Try.checked) own started (by kernel_rfl) Try.func5
    (ChangeSpec.witness6 (enc := enc) (C := Try.checked) false ⟨#[], #[.slice none 0 0, .slice none 0 0], []⟩ 8 (by kernel_rfl) (by kernel_rfl) (by kernel_rfl) (by kernel_rfl)) ?_
  intro W base args ds gs before hval0 hW hcnd _
  have hval : ∀ (j : Nat) t v, Try.f5.params[j]? = some t → args[j]? = some v → Value.okWide Try.prog W .any base t v := hval0
  have hW' := hW
  obtain ⟨p, q, hA0, hV, rfl, hfz, hnd⟩ := hW
  have hA : DataW.TrodAll enc Try.prog W 0 (fun _ => true) true Try.f5.params.toList args.toList ds p := hA0
  rw [Try.params5] at hA hval
  obtain ⟨v0, vs0, d0, ds0, p0, q0, hargs0, rfl, rfl, h0, r0⟩ := trodAll_cons hA
  obtain ⟨v1, vs1, d1, ds1, p1, q1, hargs1, rfl, rfl, h1, r1⟩ := trodAll_cons r0
  obtain ⟨rfl, rfl, rfl⟩ := trodAll_nil r1
  obtain rfl : args = #[v0, v1] := by cases args; simp_all
  obtain ⟨rfl, rfl⟩ := trodVars_none hV
  have k0 := h0
  have lt0 : ∀ x ∈ p0, x.block < W.heap.size := by obtain ⟨m, hm⟩ := k0; exact DataW.trod_lt m _ _ _ hm
  have k1 := h1
  have lt1 : ∀ x ∈ p1, x.block < W.heap.size := by obtain ⟨m, hm⟩ := k1; exact DataW.trod_lt m _ _ _ hm
  obtain ⟨a0, len0, cap0, rfl⟩ := okWide_slice Try.underlying22 (hval 0 22 v0 rfl rfl)
  obtain ⟨bs0, hlen0, hmx0, hrd0⟩ := Op.open_bytes h0
  subst hlen0
  obtain ⟨a1, len1, cap1, rfl⟩ := okWide_slice Try.underlying22 (hval 1 22 v1 rfl rfl)
  obtain ⟨bs1, hlen1, hmx1, hrd1⟩ := Op.open_bytes h1
  subst hlen1
  clear hA0 hval0
  refine (walk a0 bs0 cap0 hmx0 a1 bs1 cap1 hmx1 W hrd0 hrd1).mono fun e W' ⟨he, bel⟩ => ?_
  subst he
  exact ⟨_, rfl, _, _, _, [], _, [], hW', trodAll_mk1 (shut_bool Try.underlying4 _), (trodAll_cons_mk (Below.trod laidOut (by kernel_rfl) (of_decide_eq_true (by kernel_rfl)) k0 bel lt0) (trodAll_cons_mk (Below.trod laidOut (by kernel_rfl) (of_decide_eq_true (by kernel_rfl)) k1 bel lt1) trodAll_mk0)), rfl, bel.frame _, fun h => by cases h⟩

theorem over : Rows.fnNeedlessRow.holds Try.pinned (OpenSpec.ofChange Rows.fnNeedlessSpec) :=
  OpenClaim.holds_of_wide 5 Try.f5 rfl rfl rfl rfl rfl rfl rfl ⟨rfl, rfl, rfl, rfl, rfl⟩ rfl rfl rfl rfl rfl (by kernel_rfl) Try.func5 (by kernel_rfl)
    (of_decide_eq_true (by kernel_rfl)) (by unfold Func.isWrapper; first | (rw [if_pos (by decide +kernel)]; kernel_rfl) | (rw [if_neg (by decide +kernel)]; exact ⟨rfl, rfl⟩))
    (fun os started H enc _ => lifted os started H enc)
end Go.Proofs.Ytpknahhdapmcoac.fnNeedless
namespace Go.Proofs.Ytpknahhdapmcoac
/-- For all bytes the law FnNeedless returns true. -/
theorem fnNeedless_holds : Rows.FnNeedlessSaid := fnNeedless.over
end Go.Proofs.Ytpknahhdapmcoac
