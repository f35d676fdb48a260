/-
  Proved here: for all slices of bytes, laws.FnCovers returns true (relays are willing symmetric neighbors, those that are always willing among them, and reach all strict two-hop neighbors) and leaves the slices as they were. No condition. (The walk is written by a script.)
-/
import Derived.Test.YtpknahhdapmcoacCovM
import Derived.Test.YtpknahhdapmcoacTwoD
import Derived.Test.YtpknahhdapmcoacLnkD
import Derived.Test.YtpknahhdapmcoacLnkJ
import Derived.Test.YtpknahhdapmcoacAt
import Derived.Deep.QuietTactic
import Derived.BigQuiet
namespace Go.Proofs.Ytpknahhdapmcoac.fnCovers
open Go.ChangeShapes Go.WideShapes Go.ChangeAt Go.RowKit
open W1 By Sr Mr
set_option linter.unusedVariables false
set_option linter.unusedSimpArgs false
attribute [local go_sem ↓] Go.wp_at_zero Go.wp_at_succ
theorem own : ownKnob Try.prog.godebug = none := by kernel_rfl
theorem laidOut : laidOutB Try.prog = true := by kernel_rfl
theorem Wa_mem {ls : List Lk.R} (hok : Ln.linksB ls = true) : ∀ m ∈ ls, 1 ≤ m.ad ∧ m.ad ≤ 8 := fun m hm => by
  obtain ⟨i, hi, rfl⟩ := List.getElem_of_mem hm
  have := Ln.ok_ad (Ri.all_ok hok hi)
  rw [List.getD_eq_getElem?_getD, List.getElem?_eq_getElem hi] at this; exact this
theorem below_dN {w : World} (q : Nat) : Below w.heap.size w (w.drewN q) := ⟨rfl, rfl, rfl, Nat.le_refl _, fun _ _ => rfl⟩
theorem reads_under {w w' : World} {a : Option Addr} {bs : List UInt8} (h : Reads w a bs) (hb : Below w.heap.size w w') : Reads w' a bs := by
  rcases h with h | ⟨g, off, e, hc⟩
  · exact .inl h
  · exact .inr ⟨g, off, e, fun i hi => (hb.cell (p := ⟨g, off + i, none⟩) (World.block_lt_of_cell? _ _ (hc i hi))).trans (hc i hi)⟩
set_option maxRecDepth 100000 in
set_option maxHeartbeats 16000000 in
theorem walk (a : Option Addr) (bs : List UInt8) (cap : Nat) (hm0 : bs.length ≤ maxLen) (a' : Option Addr) (bs' : List UInt8) (cap' : Nat) (hm0' : bs'.length ≤ maxLen) (w : World) (hr : Reads w a bs) (hr' : Reads w a' bs') :
    Calls Try.prog 4 #[.slice a bs.length cap, .slice a' bs'.length cap'] w fun e w' => e = .returned (.bool true) ∧ Below w.heap.size w w' := by
  unfold maxLen at hm0 hm0'
  by_cases hb : (1048576 : Int) < bs.length
  · go_enter Try.func4, Try.ntmps4
    go_wp2
    go_ret
    exact ⟨rfl, Below.refl _ _⟩
  by_cases hb' : (1048576 : Int) < bs'.length
  · go_enter Try.func4, Try.ntmps4
    go_wp2
    go_ret
    exact ⟨rfl, Below.refl _ _⟩
  have hbm : bs.length ≤ 1048576 := by omega
  have hbm' : bs'.length ≤ 1048576 := by omega
  have HR := hide hr
  have HR' := hide hr'
  clear hr hr'
  go_enter Try.func4, Try.ntmps4
  go_wp2_with fail
  clear hb hb'
  refine (Tw.twoDrawn a bs cap _ hbm (unhide HR)).mono ?_
  rintro e w1 ⟨g, ms, c, rfl, hsm, hl1, b1⟩
  have HTW := hide hsm.1
  have hl62 := Tw.two_len hsm.1
  have T1 := hide hl1.rm
  have B1 := hide b1
  clear hsm hl1 b1
  go_wp2_with fail
  refine (Ln.linksOf a' bs' cap' _ hbm' (reads_under (unhide HR') (unhide B1))).mono ?_
  rintro e w2 ⟨gl, ls, cl, rfl, hok, hl2, b2⟩
  have HLB := hide hok
  have hl8 := Ln.links_len hok
  have K2 := hide hl2.rm
  have T2 := hide ((unhide T1).below b2)
  have B2 := hide ((unhide B1).trans (b2.mono (unhide B1).size))
  clear hok hl2 b2 T1 B1
  go_wp2_with fail
  refine (Go.Proofs.Ytpknahhdapmcoac.At.choice a' bs' cap' 0 8 _ (by omega) (by omega) (by omega) hbm' (reads_under (unhide HR') (unhide B2))).mono ?_
  rintro e w3 ⟨km, rfl, hkm, q3, hq3⟩
  have b3 : Below w2.heap.size w2 w3 := by rw [hq3]; exact below_dN _
  have B3 := hide ((unhide B2).trans (b3.mono (unhide B2).size))
  have T3 := hide ((unhide T2).below b3)
  have K3 := hide ((unhide K2).below b3)
  clear b3 hq3 T2 K2 B2
  go_wp2_with fail
  refine (Go.Proofs.Ytpknahhdapmcoac.At.choice a' bs' cap' 1 12 _ (by omega) (by omega) (by omega) hbm' (reads_under (unhide HR') (unhide B3))).mono ?_
  rintro e w4 ⟨kn, rfl, hkn, q4, hq4⟩
  have b4 : Below w3.heap.size w3 w4 := by rw [hq4]; exact below_dN _
  have B4 := hide ((unhide B3).trans (b4.mono (unhide B3).size))
  have T4 := hide ((unhide T3).below b4)
  have K4 := hide ((unhide K3).below b4)
  clear b4 hq4 T3 K3 B3
  obtain ⟨me, hme⟩ : ∃ me : Int, 1 + (km : Int) = me := ⟨_, rfl⟩
  obtain ⟨now, hnow⟩ : ∃ now : Int, (kn : Int) = now := ⟨_, rfl⟩
  have m1 : 1 ≤ me ∧ me ≤ 8 := by omega
  have n1 : 0 ≤ now ∧ now ≤ 1000000 := by omega
  rw [hme, hnow]
  clear hme hnow hkm hkn
  have hml : ms.length ≤ 1048576 := by omega
  have hll : ls.length ≤ 1048576 := by omega
  have HCT : Hid (Tw.codeTL ms ls = 0) := hide (Tw.codeTL_zero (by omega) (by omega) (by rw [unhide HTW, unhide HLB]; rfl))
  go_wp2_with fail
  obtain ⟨hz8, hup, hgd, haw, hcv, hcm⟩ := Cv.flood_ok (me := me) (now := now) (unhide HCT)
  have HUP := hide hup
  have HGD := hide hgd
  have HAW := hide haw
  have HCV := hide hcv
  have HCM := hide hcm
  clear hup hgd haw hcv hcm
  refine (Gp.implFlood _ ms c _ ls cl me now _ hml hll (unhide T4) (unhide K4)).mono ?_
  rintro e v3 ⟨v, rfl, b3, lx⟩
  rw [unhide HCT]
  obtain ⟨zs, hzs⟩ : ∃ zs, fldA ms ls me now = zs := ⟨_, rfl⟩
  have HZS := hide hzs
  rw [hzs] at lx hz8 HUP HGD HAW HCV HCM
  clear hzs
  obtain ⟨xa, xc, rfl, hlx⟩ := lx
  have X3 := hide hlx.rm
  have T3 := hide ((unhide T4).below b3)
  have K3 := hide ((unhide K4).below b3)
  have B3 := hide ((unhide B4).trans (b3.mono (unhide B4).size))
  clear hlx b3 T4 K4 B4
  go_wp2_with fail
  refine (specFlood _ _ ms c _ ls cl me now _ hml hll (unhide T3) (unhide K3)).mono ?_
  rintro e v4 ⟨v, rfl, b4, lx⟩
  rw [unhide HCT]
  rw [unhide HZS] at lx
  obtain ⟨ya, yc, rfl, hlx⟩ := lx
  have Y4 := hide hlx.rm
  have X4 := hide ((unhide X3).below b4)
  have T4 := hide ((unhide T3).below b4)
  have K4 := hide ((unhide K3).below b4)
  have B4 := hide ((unhide B3).trans (b4.mono (unhide B3).size))
  clear hlx b4 T3 K3 B3 X3
  go_wp2_with fail
  refine (Gp.implCovers _ ms c _ ls cl me now _ zs _ _ hml hll (by omega) (unhide T4) (unhide K4) (unhide X4)).mono ?_
  rintro e v5 ⟨rfl, b5⟩
  rw [unhide HCV, unhide HCM]
  have Y5 := hide ((unhide Y4).below b5)
  have X5 := hide ((unhide X4).below b5)
  have K5 := hide ((unhide K4).below b5)
  have B5 := hide ((unhide B4).trans (b5.mono (unhide B4).size))
  clear b5 T4 K4 B4 X4 Y4
  go_wp2_with fail
  refine (In.sameS _ _ zs _ _ _ (by omega) (unhide X5) (unhide Y5)).mono ?_
  rintro e v6 ⟨rfl, b6⟩
  have X6 := hide ((unhide X5).below b6)
  have K6 := hide ((unhide K5).below b6)
  have B6 := hide ((unhide B5).trans (b6.mono (unhide B5).size))
  clear b6 K5 B5 X5 Y5 HTW HCV HCM HZS
  generalize hNZ : zs.length = nz at *
  have HNZ := hide hNZ
  generalize hNL : ls.length = nl at *
  have HNL := hide hNL
  clear hNZ hNL
  go_wp2_with fail
  go_loopw [15] (fun i wr => ∃ t : Nat, t ≤ nz ∧ i = .int .i64 (t : Int) ∧ Hid (Below v6.heap.size v6 wr)) (fun i _ => nz - (intOf i).toNat)
  case atStart => exact ⟨0, by omega, rfl, hide (Below.refl _ _)⟩
  case round =>
    obtain ⟨t, ht, rfl, hbl⟩ := hrel
    have hbs := (unhide hbl).size
    by_cases hlt2 : (t : Int) < (nz : Int)
    · have k0 : (0 : Int) ≤ (t : Int) := by omega
      have hlen : t < zs.length := by rw [unhide HNZ]; omega
      obtain ⟨gz, oz, rfl⟩ : ∃ gz oz, xa = some ⟨gz, oz, none⟩ := by
        rcases unhide X6 with e0 | ⟨gz, oz, e, _⟩
        · exfalso; rw [e0] at hlen; simp at hlen
        · exact ⟨gz, oz, e⟩
      have HAT : Hid (∀ w', Below v6.heap.size v6 w' → ∀ i, i < zs.length → w'.cell? ⟨gz, oz + i, none⟩ = some (.int .i64 (zs.getD i 0))) := hide (fun w' hb i hi => ((unhide X6).below hb).at hi)
      have c0 := unhide HAT _ (unhide hbl) t hlen
      obtain ⟨m, hmf, hwp, hst⟩ := unhide HGD _ (getD_mem hlen)
      have hlk := Cv.ln_found (unhide HLB) hmf
      have hzr : 1 ≤ zs.getD t 0 ∧ zs.getD t 0 ≤ 8 := by
        have h1 := List.find?_some hmf
        have h2 := Wa_mem (unhide HLB) m (List.mem_of_find?_eq_some hmf)
        have h4 : m.ad = zs.getD t 0 := by simpa [Ln.isAd] using h1
        omega
      have HUS : Hid (∀ i, i + 1 = t → zs.getD i 0 < zs.getD t 0) := hide (fun i hi => by
        have := (List.pairwise_iff_getElem.1 (unhide HUP)) i t (by omega) hlen (by omega)
        rw [List.getD_eq_getElem?_getD, List.getD_eq_getElem?_getD, List.getElem?_eq_getElem (by omega : i < zs.length), List.getElem?_eq_getElem hlen]; exact this)
      have HAZ : Hid (∀ w', Below v6.heap.size v6 w' → w'.cell? ⟨gz, oz + t, none⟩ = some (.int .i64 (zs.getD t 0))) := hide (fun w' hb => unhide HAT w' hb t hlen)
      have HAP : Hid (∀ i, i + 1 = t → ∀ w', Below v6.heap.size v6 w' → w'.cell? ⟨gz, oz + i, none⟩ = some (.int .i64 (zs.getD i 0))) := hide (fun i hi w' hb => unhide HAT w' hb i (by omega))
      clear hmf HAT
      generalize zs.getD t 0 = z at *
      have hwz : (Lit.int .i64 z).wf = true := WalkArith.wf_i64 ⟨by omega, by omega⟩
      have Kr := hide ((unhide K6).below (unhide hbl))
      have hnl0 : ls.length ≤ 1048576 := by rw [unhide HNL]; exact hll
      have HFI := hide (fun W h => Ln.implFind (some ⟨gl, 0, none⟩) ls cl z hwz W hnl0 h)
      rw [hlk.1, hlk.2, unhide HNL] at HFI
      obtain ⟨ma, mh, msy, mi, mo, mw⟩ := m
      have hmv : Lk.R.value ⟨ma, mh, msy, mi, mo, mw⟩ = .agg #[.int .i64 ma, .int .i64 mh, .int .i64 msy, .int .i64 mi, .int .i64 mo, .int .i64 mw] := rfl
      rw [hmv] at HFI
      clear hmv hlk
      dsimp only at hwp
      have hw0 : (mw == 0) = false := by simp; omega
      go_wp2_with fail
      refine (unhide HFI _ (unhide Kr)).mono ?_
      rintro e u1 ⟨rfl, bu1⟩
      have BB1 := hide ((unhide hbl).trans (bu1.mono hbs))
      clear bu1 c0
      have BB2 := hide ((unhide BB1).alloc (unhide BB1).size (.cells #[.int .i64 ma, .int .i64 mh, .int .i64 msy, .int .i64 mi, .int .i64 mo, .int .i64 mw] 30))
      have HX := hide (Ln.bx_new u1 ⟨ma, mh, msy, mi, mo, mw⟩ 30)
      go_wp2_with fail
      generalize hU : u1.alloc (.cells #[.int .i64 ma, .int .i64 mh, .int .i64 msy, .int .i64 mi, .int .i64 mo, .int .i64 mw] 30) = u2 at *
      clear hU
      have B2d : Below u2.heap.size u2 u2.drew := (Below.refl _ _).drew
      have hst2 : Ln.statusV ⟨ma, mh, msy, mi, mo, mw⟩ now = 2 := hst
      rcases t with _ | t
      · have HS : Hid (∀ w', Below u2.heap.size u2 w' → (fun w' => w'.cell? ⟨u1.heap.size, 0, none⟩ = some (.int .i64 ma) ∧ w'.cell? ⟨u1.heap.size, 1, none⟩ = some (.int .i64 mh) ∧ w'.cell? ⟨u1.heap.size, 2, none⟩ = some (.int .i64 msy) ∧ w'.cell? ⟨u1.heap.size, 3, none⟩ = some (.int .i64 mi) ∧ w'.cell? ⟨u1.heap.size, 4, none⟩ = some (.int .i64 mo) ∧ w'.cell? ⟨u1.heap.size, 5, none⟩ = some (.int .i64 mw)) w') := hide (fun w' hb => (unhide HX).below hb)
        refine wp_region_noPanic ?_
        refine wp_region_held_drew (S := fun w' => w'.cell? ⟨u1.heap.size, 0, none⟩ = some (.int .i64 ma) ∧ w'.cell? ⟨u1.heap.size, 1, none⟩ = some (.int .i64 mh) ∧ w'.cell? ⟨u1.heap.size, 2, none⟩ = some (.int .i64 msy) ∧ w'.cell? ⟨u1.heap.size, 3, none⟩ = some (.int .i64 mi) ∧ w'.cell? ⟨u1.heap.size, 4, none⟩ = some (.int .i64 mo) ∧ w'.cell? ⟨u1.heap.size, 5, none⟩ = some (.int .i64 mw)) (by kernel_rfl) (unhide HS _ B2d) (fun hHeld => ?_)
        (refine Rg.tk (i := 0) (d := 94) (v := ?_) rfl rfl (by kernel_rfl) (by kernel_rfl) (by kernel_rfl) (fun _ _ _ h => h) (by rfl) ?_ (by assumption) ?_; rotate_left; (focus (intro w0 hSw; (try dsimp only at hSw); go_simp; (try with_reducible rfl))); (try simp only [Act.put, List.setIfInBounds_toArray, List.set_cons_zero, List.set_cons_succ]))
        (refine Rg.tk (i := 1) (d := 95) (v := ?_) rfl rfl (by kernel_rfl) (by kernel_rfl) (by kernel_rfl) (fun _ _ _ h => h) (by rfl) ?_ (by assumption) ?_; rotate_left; (focus (intro w0 hSw; (try dsimp only at hSw); go_simp; (try with_reducible rfl))); (try simp only [Act.put, List.setIfInBounds_toArray, List.set_cons_zero, List.set_cons_succ]))
        (refine Rg.tk (i := 2) (d := 96) (v := ?_) rfl rfl (by kernel_rfl) (by kernel_rfl) (by kernel_rfl) (fun _ _ _ h => h) (by rfl) ?_ (by assumption) ?_; rotate_left; (focus (intro w0 hSw; (try dsimp only at hSw); go_simp; (try with_reducible rfl))); (try simp only [Act.put, List.setIfInBounds_toArray, List.set_cons_zero, List.set_cons_succ]))
        (refine Rg.tk (i := 3) (d := 97) (v := ?_) rfl rfl (by kernel_rfl) (by kernel_rfl) (by kernel_rfl) (fun _ _ _ h => h) (by rfl) ?_ (by assumption) ?_; rotate_left; (focus (intro w0 hSw; (try dsimp only at hSw); go_simp; (try with_reducible rfl))); (try simp only [Act.put, List.setIfInBounds_toArray, List.set_cons_zero, List.set_cons_succ]))
        (refine Rg.tk (i := 4) (d := 98) (v := ?_) rfl rfl (by kernel_rfl) (by kernel_rfl) (by kernel_rfl) (fun _ _ _ h => h) (by rfl) ?_ (by assumption) ?_; rotate_left; (focus (intro w0 hSw; (try dsimp only at hSw); go_simp; (try with_reducible rfl))); (try simp only [Act.put, List.setIfInBounds_toArray, List.set_cons_zero, List.set_cons_succ]))
        (refine Rg.tk (i := 5) (d := 99) (v := ?_) rfl rfl (by kernel_rfl) (by kernel_rfl) (by kernel_rfl) (fun _ _ _ h => h) (by rfl) ?_ (by assumption) ?_; rotate_left; (focus (intro w0 hSw; (try dsimp only at hSw); go_simp; (try with_reducible rfl))); (try simp only [Act.put, List.setIfInBounds_toArray, List.set_cons_zero, List.set_cons_succ]))
        (refine Rg.tk (i := 6) (d := 100) (v := ?_) rfl rfl (by kernel_rfl) (by kernel_rfl) (by kernel_rfl) (fun _ _ _ h => h) (by rfl) ?_ (by assumption) ?_; rotate_left; (focus (intro w0 hSw; (try dsimp only at hSw); go_simp; (try with_reducible rfl))); (try simp only [Act.put, List.setIfInBounds_toArray, List.set_cons_zero, List.set_cons_succ]))
        (refine Rg.tk (i := 7) (d := 101) (v := ?_) rfl rfl (by kernel_rfl) (by kernel_rfl) (by kernel_rfl) (fun _ _ _ h => h) (by rfl) ?_ (by assumption) ?_; rotate_left; (focus (intro w0 hSw; (try dsimp only at hSw); go_simp; (try with_reducible rfl))); (try simp only [Act.put, List.setIfInBounds_toArray, List.set_cons_zero, List.set_cons_succ]))
        (refine Rg.tk (i := 8) (d := 102) (v := ?_) rfl rfl (by kernel_rfl) (by kernel_rfl) (by kernel_rfl) (fun _ _ _ h => h) (by rfl) ?_ (by assumption) ?_; rotate_left; (focus (intro w0 hSw; (try dsimp only at hSw); go_simp; (try with_reducible rfl))); (try simp only [Act.put, List.setIfInBounds_toArray, List.set_cons_zero, List.set_cons_succ]))
        (refine Rg.tk (i := 9) (d := 103) (v := ?_) rfl rfl (by kernel_rfl) (by kernel_rfl) (by kernel_rfl) (fun _ _ _ h => h) (by rfl) ?_ (by assumption) ?_; rotate_left; (focus (intro w0 hSw; (try dsimp only at hSw); go_simp; (try with_reducible rfl))); (try simp only [Act.put, List.setIfInBounds_toArray, List.set_cons_zero, List.set_cons_succ]))
        (refine wpAnyH_ready (rs := [10]) (by kernel_rfl) (by simp) ?_; refine AllReadyH.cons (o := _) rfl (fun K hK => ?_) AllReadyH.nil; go_simp)
        refine (Ln.implStatus _ _ _ _ _ _ now _).mono ?_
        rintro e u3 ⟨rfl, b3⟩
        rw [hst2]
        have B3d := B2d.trans (b3.mono B2d.size)
        clear b3 hHeld
        refine hK.out _ _ (unhide HS _ B3d) (fun hHeld => ?_)
        clear hK K
        (try simp only [Act.put, List.setIfInBounds_toArray, List.set_cons_zero, List.set_cons_succ])
        (refine Rg.tk (i := 11) (d := 105) (v := ?_) rfl rfl (by kernel_rfl) (by kernel_rfl) (by kernel_rfl) (fun _ _ _ h => h) (by rfl) ?_ (by assumption) ?_; rotate_left; (focus (intro w0 hSw; (try dsimp only at hSw); go_simp; (try with_reducible rfl))); (try simp only [Act.put, List.setIfInBounds_toArray, List.set_cons_zero, List.set_cons_succ]))
        (refine Rg.tk (i := 12) (d := 106) (v := ?_) rfl rfl (by kernel_rfl) (by kernel_rfl) (by kernel_rfl) (fun _ _ _ h => h) (by rfl) ?_ (by assumption) ?_; rotate_left; (focus (intro w0 hSw; (try dsimp only at hSw); go_simp; (try with_reducible rfl))); (try simp only [Act.put, List.setIfInBounds_toArray, List.set_cons_zero, List.set_cons_succ]))
        (refine Rg.tk (i := 13) (d := 107) (v := ?_) rfl rfl (by kernel_rfl) (by kernel_rfl) (by kernel_rfl) (fun _ _ _ h => h) (by rfl) ?_ (by assumption) ?_; rotate_left; (focus (intro w0 hSw; (try dsimp only at hSw); go_simp; (try with_reducible rfl))); (try simp only [Act.put, List.setIfInBounds_toArray, List.set_cons_zero, List.set_cons_succ]))
        (refine Rg.tk (i := 14) (d := 108) (v := ?_) rfl rfl (by kernel_rfl) (by kernel_rfl) (by kernel_rfl) (fun _ _ _ h => h) (by rfl) ?_ (by assumption) ?_; rotate_left; (focus (intro w0 hSw; (try dsimp only at hSw); go_simp; (try with_reducible rfl))); (try simp only [Act.put, List.setIfInBounds_toArray, List.set_cons_zero, List.set_cons_succ]))
        (refine Rg.tk (i := 15) (d := 109) (v := ?_) rfl rfl (by kernel_rfl) (by kernel_rfl) (by kernel_rfl) (fun _ _ _ h => h) (by rfl) ?_ (by assumption) ?_; rotate_left; (focus (intro w0 hSw; (try dsimp only at hSw); go_simp; (try with_reducible rfl))); (try simp only [Act.put, List.setIfInBounds_toArray, List.set_cons_zero, List.set_cons_succ]))
        (refine Rg.tk (i := 16) (d := 110) (v := ?_) rfl rfl (by kernel_rfl) (by kernel_rfl) (by kernel_rfl) (fun _ _ _ h => h) (by rfl) ?_ (by assumption) ?_; rotate_left; (focus (intro w0 hSw; (try dsimp only at hSw); go_simp; (try with_reducible rfl))); (try simp only [Act.put, List.setIfInBounds_toArray, List.set_cons_zero, List.set_cons_succ]))
        (refine Rg.sk (i := 17) (d := 111) rfl rfl (by kernel_rfl) (by kernel_rfl) (by kernel_rfl) (fun _ _ _ h => h) (by first | kernel_rfl | rfl) (by assumption) ?_; (try simp only [Act.put, List.setIfInBounds_toArray, List.set_cons_zero, List.set_cons_succ]))
        (refine Rg.sk (i := 18) (d := 112) rfl rfl (by kernel_rfl) (by kernel_rfl) (by kernel_rfl) (fun _ _ _ h => h) (by first | kernel_rfl | rfl) (by assumption) ?_; (try simp only [Act.put, List.setIfInBounds_toArray, List.set_cons_zero, List.set_cons_succ]))
        (refine Rg.sk (i := 19) (d := 113) rfl rfl (by kernel_rfl) (by kernel_rfl) (by kernel_rfl) (fun _ _ _ h => h) (by first | kernel_rfl | rfl) (by assumption) ?_; (try simp only [Act.put, List.setIfInBounds_toArray, List.set_cons_zero, List.set_cons_succ]))
        (refine Rg.sk (i := 20) (d := 114) rfl rfl (by kernel_rfl) (by kernel_rfl) (by kernel_rfl) (fun _ _ _ h => h) (by first | kernel_rfl | rfl) (by assumption) ?_; (try simp only [Act.put, List.setIfInBounds_toArray, List.set_cons_zero, List.set_cons_succ]))
        (refine Rg.sk (i := 21) (d := 115) rfl rfl (by kernel_rfl) (by kernel_rfl) (by kernel_rfl) (fun _ _ _ h => h) (by first | kernel_rfl | rfl) (by assumption) ?_; (try simp only [Act.put, List.setIfInBounds_toArray, List.set_cons_zero, List.set_cons_succ]))
        (refine Rg.sk (i := 22) (d := 116) rfl rfl (by kernel_rfl) (by kernel_rfl) (by kernel_rfl) (fun _ _ _ h => h) (by first | kernel_rfl | rfl) (by assumption) ?_; (try simp only [Act.put, List.setIfInBounds_toArray, List.set_cons_zero, List.set_cons_succ]))
        (refine Rg.sk (i := 23) (d := 117) rfl rfl (by kernel_rfl) (by kernel_rfl) (by kernel_rfl) (fun _ _ _ h => h) (by first | kernel_rfl | rfl) (by assumption) ?_; (try simp only [Act.put, List.setIfInBounds_toArray, List.set_cons_zero, List.set_cons_succ]))
        (refine Rg.sk (i := 24) (d := 118) rfl rfl (by kernel_rfl) (by kernel_rfl) (by kernel_rfl) (fun _ _ _ h => h) (by first | kernel_rfl | rfl) (by assumption) ?_; (try simp only [Act.put, List.setIfInBounds_toArray, List.set_cons_zero, List.set_cons_succ]))
        (refine Rg.sk (i := 25) (d := 119) rfl rfl (by kernel_rfl) (by kernel_rfl) (by kernel_rfl) (fun _ _ _ h => h) (by first | kernel_rfl | rfl) (by assumption) ?_; (try simp only [Act.put, List.setIfInBounds_toArray, List.set_cons_zero, List.set_cons_succ]))
        (refine Rg.sk (i := 26) (d := 120) rfl rfl (by kernel_rfl) (by kernel_rfl) (by kernel_rfl) (fun _ _ _ h => h) (by first | kernel_rfl | rfl) (by assumption) ?_; (try simp only [Act.put, List.setIfInBounds_toArray, List.set_cons_zero, List.set_cons_succ]))
        (refine Rg.tk (i := 27) (d := 121) (v := ?_) rfl rfl (by kernel_rfl) (by kernel_rfl) (by kernel_rfl) (fun _ _ _ h => h) (by rfl) ?_ (by assumption) ?_; rotate_left; (focus (intro w0 hSw; (try dsimp only at hSw); go_simp; (try with_reducible rfl))); (try simp only [Act.put, List.setIfInBounds_toArray, List.set_cons_zero, List.set_cons_succ]))
        (refine Rg.tk (i := 28) (d := 122) (v := ?_) rfl rfl (by kernel_rfl) (by kernel_rfl) (by kernel_rfl) (fun _ _ _ h => h) (by rfl) ?_ (by assumption) ?_; rotate_left; (focus (intro w0 hSw; (try dsimp only at hSw); go_simp; (try with_reducible rfl))); (try simp only [Act.put, List.setIfInBounds_toArray, List.set_cons_zero, List.set_cons_succ]))
        refine wpAnyH_done (by kernel_rfl) (NoPanic.normal ?_) _
        clear hHeld
        have BB3 := hide ((unhide BB2).trans (B3d.mono (unhide BB2).size))
        go_wp2_with fail
        go_roundw
        case rel => exact ⟨0 + 1, by omega, by go_num, BB3⟩
        case measure => simp [intOf]; omega
      · have ec : ((t + 1 : Nat) : Int) = (t : Int) + 1 := by omega
        have HUt := unhide HUS t rfl
        have HAt := hide (unhide HAP t rfl)
        generalize zs.getD t 0 = zp at *
        clear HUS HAP
        have hge : decide (z ≤ zp) = false := decide_eq_false (by omega)
        have hge2 : ¬ z ≤ zp := by omega
        have t0 : (0 : Int) ≤ (t : Int) := by omega
        have t1 : (0 : Int) < (t : Int) + 1 := by omega
        have t2 : (t : Int) + 1 < (nz : Int) := by omega
        have t3 : (t : Int) < (nz : Int) := by omega
        rw [ec]
        rw [ec] at k0 hlt2
        have HS : Hid (∀ w', Below u2.heap.size u2 w' → (fun w' => (w'.cell? ⟨u1.heap.size, 0, none⟩ = some (.int .i64 ma) ∧ w'.cell? ⟨u1.heap.size, 1, none⟩ = some (.int .i64 mh) ∧ w'.cell? ⟨u1.heap.size, 2, none⟩ = some (.int .i64 msy) ∧ w'.cell? ⟨u1.heap.size, 3, none⟩ = some (.int .i64 mi) ∧ w'.cell? ⟨u1.heap.size, 4, none⟩ = some (.int .i64 mo) ∧ w'.cell? ⟨u1.heap.size, 5, none⟩ = some (.int .i64 mw)) ∧ w'.cell? ⟨gz, oz + (t + 1), none⟩ = some (.int .i64 z) ∧ w'.cell? ⟨gz, oz + t, none⟩ = some (.int .i64 zp)) w') := hide (fun w' hb => ⟨(unhide HX).below hb, unhide HAZ w' ((unhide BB2).trans (hb.mono (unhide BB2).size)), unhide HAt w' ((unhide BB2).trans (hb.mono (unhide BB2).size))⟩)
        refine wp_region_noPanic ?_
        refine wp_region_held_drew (S := fun w' => (w'.cell? ⟨u1.heap.size, 0, none⟩ = some (.int .i64 ma) ∧ w'.cell? ⟨u1.heap.size, 1, none⟩ = some (.int .i64 mh) ∧ w'.cell? ⟨u1.heap.size, 2, none⟩ = some (.int .i64 msy) ∧ w'.cell? ⟨u1.heap.size, 3, none⟩ = some (.int .i64 mi) ∧ w'.cell? ⟨u1.heap.size, 4, none⟩ = some (.int .i64 mo) ∧ w'.cell? ⟨u1.heap.size, 5, none⟩ = some (.int .i64 mw)) ∧ w'.cell? ⟨gz, oz + (t + 1), none⟩ = some (.int .i64 z) ∧ w'.cell? ⟨gz, oz + t, none⟩ = some (.int .i64 zp)) (by kernel_rfl) (unhide HS _ B2d) (fun hHeld => ?_)
        (refine Rg.tk (i := 0) (d := 94) (v := ?_) rfl rfl (by kernel_rfl) (by kernel_rfl) (by kernel_rfl) (fun _ _ _ h => h) (by rfl) ?_ (by assumption) ?_; rotate_left; (focus (intro w0 hSw; (try dsimp only at hSw); go_simp; (try with_reducible rfl))); (try simp only [Act.put, List.setIfInBounds_toArray, List.set_cons_zero, List.set_cons_succ]))
        (refine Rg.tk (i := 1) (d := 95) (v := ?_) rfl rfl (by kernel_rfl) (by kernel_rfl) (by kernel_rfl) (fun _ _ _ h => h) (by rfl) ?_ (by assumption) ?_; rotate_left; (focus (intro w0 hSw; (try dsimp only at hSw); go_simp; (try with_reducible rfl))); (try simp only [Act.put, List.setIfInBounds_toArray, List.set_cons_zero, List.set_cons_succ]))
        (refine Rg.tk (i := 2) (d := 96) (v := ?_) rfl rfl (by kernel_rfl) (by kernel_rfl) (by kernel_rfl) (fun _ _ _ h => h) (by rfl) ?_ (by assumption) ?_; rotate_left; (focus (intro w0 hSw; (try dsimp only at hSw); go_simp; (try with_reducible rfl))); (try simp only [Act.put, List.setIfInBounds_toArray, List.set_cons_zero, List.set_cons_succ]))
        (refine Rg.tk (i := 3) (d := 97) (v := ?_) rfl rfl (by kernel_rfl) (by kernel_rfl) (by kernel_rfl) (fun _ _ _ h => h) (by rfl) ?_ (by assumption) ?_; rotate_left; (focus (intro w0 hSw; (try dsimp only at hSw); go_simp; (try with_reducible rfl))); (try simp only [Act.put, List.setIfInBounds_toArray, List.set_cons_zero, List.set_cons_succ]))
        (refine Rg.tk (i := 4) (d := 98) (v := ?_) rfl rfl (by kernel_rfl) (by kernel_rfl) (by kernel_rfl) (fun _ _ _ h => h) (by rfl) ?_ (by assumption) ?_; rotate_left; (focus (intro w0 hSw; (try dsimp only at hSw); go_simp; (try with_reducible rfl))); (try simp only [Act.put, List.setIfInBounds_toArray, List.set_cons_zero, List.set_cons_succ]))
        (refine Rg.tk (i := 5) (d := 99) (v := ?_) rfl rfl (by kernel_rfl) (by kernel_rfl) (by kernel_rfl) (fun _ _ _ h => h) (by rfl) ?_ (by assumption) ?_; rotate_left; (focus (intro w0 hSw; (try dsimp only at hSw); go_simp; (try with_reducible rfl))); (try simp only [Act.put, List.setIfInBounds_toArray, List.set_cons_zero, List.set_cons_succ]))
        (refine Rg.tk (i := 6) (d := 100) (v := ?_) rfl rfl (by kernel_rfl) (by kernel_rfl) (by kernel_rfl) (fun _ _ _ h => h) (by rfl) ?_ (by assumption) ?_; rotate_left; (focus (intro w0 hSw; (try dsimp only at hSw); go_simp; (try with_reducible rfl))); (try simp only [Act.put, List.setIfInBounds_toArray, List.set_cons_zero, List.set_cons_succ]))
        (refine Rg.tk (i := 7) (d := 101) (v := ?_) rfl rfl (by kernel_rfl) (by kernel_rfl) (by kernel_rfl) (fun _ _ _ h => h) (by rfl) ?_ (by assumption) ?_; rotate_left; (focus (intro w0 hSw; (try dsimp only at hSw); go_simp; (try with_reducible rfl))); (try simp only [Act.put, List.setIfInBounds_toArray, List.set_cons_zero, List.set_cons_succ]))
        (refine Rg.tk (i := 8) (d := 102) (v := ?_) rfl rfl (by kernel_rfl) (by kernel_rfl) (by kernel_rfl) (fun _ _ _ h => h) (by rfl) ?_ (by assumption) ?_; rotate_left; (focus (intro w0 hSw; (try dsimp only at hSw); go_simp; (try with_reducible rfl))); (try simp only [Act.put, List.setIfInBounds_toArray, List.set_cons_zero, List.set_cons_succ]))
        (refine Rg.tk (i := 9) (d := 103) (v := ?_) rfl rfl (by kernel_rfl) (by kernel_rfl) (by kernel_rfl) (fun _ _ _ h => h) (by rfl) ?_ (by assumption) ?_; rotate_left; (focus (intro w0 hSw; (try dsimp only at hSw); go_simp; (try with_reducible rfl))); (try simp only [Act.put, List.setIfInBounds_toArray, List.set_cons_zero, List.set_cons_succ]))
        (refine wpAnyH_ready (rs := [10]) (by kernel_rfl) (by simp) ?_; refine AllReadyH.cons (o := _) rfl (fun K hK => ?_) AllReadyH.nil; go_simp)
        refine (Ln.implStatus _ _ _ _ _ _ now _).mono ?_
        rintro e u3 ⟨rfl, b3⟩
        rw [hst2]
        have B3d := B2d.trans (b3.mono B2d.size)
        clear b3 hHeld
        refine hK.out _ _ (unhide HS _ B3d) (fun hHeld => ?_)
        clear hK K
        (try simp only [Act.put, List.setIfInBounds_toArray, List.set_cons_zero, List.set_cons_succ])
        (refine Rg.tk (i := 11) (d := 105) (v := ?_) rfl rfl (by kernel_rfl) (by kernel_rfl) (by kernel_rfl) (fun _ _ _ h => h) (by rfl) ?_ (by assumption) ?_; rotate_left; (focus (intro w0 hSw; (try dsimp only at hSw); go_simp; (try with_reducible rfl))); (try simp only [Act.put, List.setIfInBounds_toArray, List.set_cons_zero, List.set_cons_succ]))
        (refine Rg.tk (i := 12) (d := 106) (v := ?_) rfl rfl (by kernel_rfl) (by kernel_rfl) (by kernel_rfl) (fun _ _ _ h => h) (by rfl) ?_ (by assumption) ?_; rotate_left; (focus (intro w0 hSw; (try dsimp only at hSw); go_simp; (try with_reducible rfl))); (try simp only [Act.put, List.setIfInBounds_toArray, List.set_cons_zero, List.set_cons_succ]))
        (refine Rg.tk (i := 13) (d := 107) (v := ?_) rfl rfl (by kernel_rfl) (by kernel_rfl) (by kernel_rfl) (fun _ _ _ h => h) (by rfl) ?_ (by assumption) ?_; rotate_left; (focus (intro w0 hSw; (try dsimp only at hSw); go_simp; (try with_reducible rfl))); (try simp only [Act.put, List.setIfInBounds_toArray, List.set_cons_zero, List.set_cons_succ]))
        (refine Rg.tk (i := 14) (d := 108) (v := ?_) rfl rfl (by kernel_rfl) (by kernel_rfl) (by kernel_rfl) (fun _ _ _ h => h) (by rfl) ?_ (by assumption) ?_; rotate_left; (focus (intro w0 hSw; (try dsimp only at hSw); go_simp; (try with_reducible rfl))); (try simp only [Act.put, List.setIfInBounds_toArray, List.set_cons_zero, List.set_cons_succ]))
        (refine Rg.tk (i := 15) (d := 109) (v := ?_) rfl rfl (by kernel_rfl) (by kernel_rfl) (by kernel_rfl) (fun _ _ _ h => h) (by rfl) ?_ (by assumption) ?_; rotate_left; (focus (intro w0 hSw; (try dsimp only at hSw); go_simp; (try with_reducible rfl))); (try simp only [Act.put, List.setIfInBounds_toArray, List.set_cons_zero, List.set_cons_succ]))
        (refine Rg.tk (i := 16) (d := 110) (v := ?_) rfl rfl (by kernel_rfl) (by kernel_rfl) (by kernel_rfl) (fun _ _ _ h => h) (by rfl) ?_ (by assumption) ?_; rotate_left; (focus (intro w0 hSw; (try dsimp only at hSw); go_simp; (try with_reducible rfl))); (try simp only [Act.put, List.setIfInBounds_toArray, List.set_cons_zero, List.set_cons_succ]))
        (refine Rg.tk (i := 17) (d := 111) (v := ?_) rfl rfl (by kernel_rfl) (by kernel_rfl) (by kernel_rfl) (fun _ _ _ h => h) (by rfl) ?_ (by assumption) ?_; rotate_left; (focus (intro w0 hSw; (try dsimp only at hSw); go_simp; (try with_reducible rfl))); (try simp only [Act.put, List.setIfInBounds_toArray, List.set_cons_zero, List.set_cons_succ]))
        (refine Rg.tk (i := 18) (d := 112) (v := ?_) rfl rfl (by kernel_rfl) (by kernel_rfl) (by kernel_rfl) (fun _ _ _ h => h) (by rfl) ?_ (by assumption) ?_; rotate_left; (focus (intro w0 hSw; (try dsimp only at hSw); go_simp; (try with_reducible rfl))); (try simp only [Act.put, List.setIfInBounds_toArray, List.set_cons_zero, List.set_cons_succ]))
        (refine Rg.tk (i := 19) (d := 113) (v := .int .i64 (t : Int)) rfl rfl (by kernel_rfl) (by kernel_rfl) (by kernel_rfl) (fun _ _ _ h => h) (by rfl) ?_ (by assumption) ?_; (focus (intro w0 hSw; (try dsimp only at hSw); go_simp)); (try simp only [Act.put, List.setIfInBounds_toArray, List.set_cons_zero, List.set_cons_succ]))
        · exact IntWalk.i64_in _ (by omega)
        (refine Rg.tk (i := 20) (d := 114) (v := ?_) rfl rfl (by kernel_rfl) (by kernel_rfl) (by kernel_rfl) (fun _ _ _ h => h) (by rfl) ?_ (by assumption) ?_; rotate_left; (focus (intro w0 hSw; (try dsimp only at hSw); go_simp; (try with_reducible rfl))); (try simp only [Act.put, List.setIfInBounds_toArray, List.set_cons_zero, List.set_cons_succ]))
        (refine Rg.tk (i := 21) (d := 115) (v := ?_) rfl rfl (by kernel_rfl) (by kernel_rfl) (by kernel_rfl) (fun _ _ _ h => h) (by rfl) ?_ (by assumption) ?_; rotate_left; (focus (intro w0 hSw; (try dsimp only at hSw); go_simp; (try with_reducible rfl))); (try simp only [Act.put, List.setIfInBounds_toArray, List.set_cons_zero, List.set_cons_succ]))
        (refine Rg.tk (i := 22) (d := 116) (v := ?_) rfl rfl (by kernel_rfl) (by kernel_rfl) (by kernel_rfl) (fun _ _ _ h => h) (by rfl) ?_ (by assumption) ?_; rotate_left; (focus (intro w0 hSw; (try dsimp only at hSw); go_simp; (try with_reducible rfl))); (try simp only [Act.put, List.setIfInBounds_toArray, List.set_cons_zero, List.set_cons_succ]))
        (refine Rg.tk (i := 23) (d := 117) (v := ?_) rfl rfl (by kernel_rfl) (by kernel_rfl) (by kernel_rfl) (fun _ _ _ h => h) (by rfl) ?_ (by assumption) ?_; rotate_left; (focus (intro w0 hSw; (try dsimp only at hSw); go_simp; (try with_reducible rfl))); (try simp only [Act.put, List.setIfInBounds_toArray, List.set_cons_zero, List.set_cons_succ]))
        (refine Rg.tk (i := 24) (d := 118) (v := ?_) rfl rfl (by kernel_rfl) (by kernel_rfl) (by kernel_rfl) (fun _ _ _ h => h) (by rfl) ?_ (by assumption) ?_; rotate_left; (focus (intro w0 hSw; (try dsimp only at hSw); go_simp; (try with_reducible rfl))); (try simp only [Act.put, List.setIfInBounds_toArray, List.set_cons_zero, List.set_cons_succ]))
        (refine Rg.tk (i := 25) (d := 119) (v := ?_) rfl rfl (by kernel_rfl) (by kernel_rfl) (by kernel_rfl) (fun _ _ _ h => h) (by rfl) ?_ (by assumption) ?_; rotate_left; (focus (intro w0 hSw; (try dsimp only at hSw); go_simp; (try with_reducible rfl))); (try simp only [Act.put, List.setIfInBounds_toArray, List.set_cons_zero, List.set_cons_succ]))
        (refine Rg.tk (i := 26) (d := 120) (v := ?_) rfl rfl (by kernel_rfl) (by kernel_rfl) (by kernel_rfl) (fun _ _ _ h => h) (by rfl) ?_ (by assumption) ?_; rotate_left; (focus (intro w0 hSw; (try dsimp only at hSw); go_simp; (try with_reducible rfl))); (try simp only [Act.put, List.setIfInBounds_toArray, List.set_cons_zero, List.set_cons_succ]))
        (refine Rg.tk (i := 27) (d := 121) (v := ?_) rfl rfl (by kernel_rfl) (by kernel_rfl) (by kernel_rfl) (fun _ _ _ h => h) (by rfl) ?_ (by assumption) ?_; rotate_left; (focus (intro w0 hSw; (try dsimp only at hSw); go_simp; (try with_reducible rfl))); (try simp only [Act.put, List.setIfInBounds_toArray, List.set_cons_zero, List.set_cons_succ]))
        (refine Rg.tk (i := 28) (d := 122) (v := ?_) rfl rfl (by kernel_rfl) (by kernel_rfl) (by kernel_rfl) (fun _ _ _ h => h) (by rfl) ?_ (by assumption) ?_; rotate_left; (focus (intro w0 hSw; (try dsimp only at hSw); go_simp; (try with_reducible rfl))); (try simp only [Act.put, List.setIfInBounds_toArray, List.set_cons_zero, List.set_cons_succ]))
        refine wpAnyH_done (by kernel_rfl) (NoPanic.normal ?_) _
        clear hHeld
        have BB3 := hide ((unhide BB2).trans (B3d.mono (unhide BB2).size))
        go_wp2_with fail
        go_roundw
        case rel => exact ⟨t + 1 + 1, by omega, by go_num, BB3⟩
        case measure => simp [intOf]; omega
    · obtain rfl : t = nz := by omega
      go_wp2_with fail
      go_loopw [18, 19] (fun n i wo => ∃ k : Nat, k ≤ nl ∧ n = .int .i64 0 ∧ i = .int .i64 (k : Int) ∧ Hid (Below v6.heap.size v6 wo)) (fun _ i _ => nl - (intOf i).toNat)
      case atStart => exact ⟨0, by omega, rfl, rfl, hbl⟩
      case round =>
        rename World => wo
        obtain ⟨k, hk, rfl, rfl, hb2⟩ := hrel
        have hbs2 := (unhide hb2).size
        by_cases hlt3 : (k : Int) < (nl : Int)
        · have k1 : (0 : Int) ≤ (k : Int) := by omega
          have hlen2 : k < ls.length := by rw [unhide HNL]; omega
          obtain ⟨c0, c1, c2, c3, c4, c5⟩ := ((unhide K6).below (unhide hb2)).at hlen2
          have HMA := hide (fun W (hb : Below v6.heap.size v6 W) => (((unhide K6).below hb).at hlen2).1)
          have HAM := hide (unhide HAW _ (Lk.getD_mem hlen2))
          rw [Nat.zero_add] at c0 c1 c2 c3 c4 c5 HMA
          generalize ls.getD k Lk.R.zero = m at *
          cases h7 : (m.wl != 7)
          rotate_left
          · clear HAM
            go_wp2_with fail
            go_roundw
            case rel => exact ⟨k + 1, by omega, rfl, by go_num, hb2⟩
            case measure => simp [intOf]; omega
          have H7 : Hid (m.wl = 7) := hide (by simpa using h7)
          go_wp2_with fail
          refine (Ln.implStatus _ _ _ _ _ _ now _).mono ?_
          rintro e u1 ⟨rfl, bu1⟩
          have e2 : Ln.statusV ⟨m.ad, m.hd, m.sy, m.ci, m.co, m.wl⟩ now = Ln.statusV m now := rfl
          rw [e2]
          clear e2
          have BB1 := hide ((unhide hb2).trans (bu1.mono hbs2))
          clear bu1 c0 c1 c2 c3 c4 c5
          cases hs : (Ln.statusV m now != 2)
          rotate_left
          · clear HAM
            generalize Ln.statusV m now = sv at *
            go_wp2_with fail
            go_roundw
            case rel => exact ⟨k + 1, by omega, rfl, by go_num, BB1⟩
            case measure => simp [intOf]; omega
          have hs' : Ln.statusV m now = 2 := by simpa using hs
          have hmz := unhide HAM (unhide H7) hs'
          have HO1 := hide (Cv.occ_one (unhide HUP) hmz)
          have HOS := hide (fun j (hj : j < zs.length) => Cv.occ_step (x := m.ad) hj)
          clear HAM hmz H7 hs'
          generalize Ln.statusV m now = sv at *
          go_wp2_with fail
          go_loopw [18, 20] (fun n i wr => ∃ j : Nat, j ≤ t ∧ (∃ q : Nat, n = .int .i64 (q : Int) ∧ q ≤ j ∧ Hid (Cv.occ zs m.ad j = q)) ∧ i = .int .i64 (j : Int) ∧ Hid (Below v6.heap.size v6 wr)) (fun _ i _ => t - (intOf i).toNat)
          case atStart => exact ⟨0, by omega, ⟨0, rfl, by omega, hide rfl⟩, rfl, BB1⟩
          case round =>
            obtain ⟨j, hj, ⟨q, rfl, hqj, hoc⟩, rfl, hb3⟩ := hrel
            by_cases hlt4 : (j : Int) < (t : Int)
            · have k2 : (0 : Int) ≤ (j : Int) := by omega
              have hlen3 : j < zs.length := by rw [unhide HNZ]; omega
              have HST := hide (unhide HOS j hlen3)
              rw [unhide hoc] at HST
              have cm := unhide HMA _ (unhide hb3)
              rcases (unhide X6).below (unhide hb3) with e0 | ⟨gz, oz, rfl, hc⟩
              · exfalso; rw [e0] at hlen3; simp at hlen3
              have cz := hc j hlen3
              clear hc
              generalize zs.getD j 0 = z at *
              cases he : (z == m.ad)
              · rw [he] at HST
                have HE : Hid (Cv.occ zs m.ad (j + 1) = q) := hide (unhide HST)
                go_wp2_with fail
                go_quiet (fail)
                have BB3 := hide ((unhide hb3).trans ((below_dN nq).mono (unhide hb3).size))
                go_wp2_with fail
                go_roundw
                case rel => exact ⟨j + 1, by omega, ⟨q, rfl, by omega, HE⟩, by go_num, BB3⟩
                case measure => simp [intOf]; omega
              · rw [he] at HST
                have HE : Hid (Cv.occ zs m.ad (j + 1) = q + 1) := hide (unhide HST)
                go_wp2_with fail
                go_quiet (fail)
                have BB3 := hide ((unhide hb3).trans ((below_dN nq).mono (unhide hb3).size))
                go_wp2_with fail
                go_roundw
                case rel => exact ⟨j + 1, by omega, ⟨q + 1, by go_num, by omega, HE⟩, by go_num, BB3⟩
                case measure => simp [intOf]; omega
            · obtain rfl : j = t := by omega
              have hq1 : q = 1 := by
                have h1 := unhide HO1
                rw [unhide HNZ, unhide hoc] at h1; exact h1
              subst hq1
              go_wp2_with fail
              go_roundw
              case rel => exact ⟨k + 1, by omega, rfl, by go_num, hb3⟩
              case measure => simp [intOf]; omega
        · obtain rfl : k = nl := by omega
          have HBF := hide ((unhide B6).trans ((unhide hb2).mono (unhide B6).size))
          go_wp2_with fail
          go_ret
          exact ⟨rfl, unhide HBF⟩

set_option maxRecDepth 100000 in
theorem lifted (os : Os) (started : os.Started) (H : Type) (enc : TypeId × Value → H) :
    ReturnsInHanded {} Try.checked os 4 .any (Rows.fnCoversSpec.pre6 enc Try.prog Try.f4 Rows.fnCoversRow.domain false) (Rows.fnCoversSpec.post enc Try.prog Try.f4 false true false false) := by
  refine returnsInHanded_of_change (C := Try.checked) own started (by kernel_rfl) Try.func4
    (ChangeSpec.witness6 (enc := enc) (C := Try.checked) false ⟨#[], #[.slice none 0 0, .slice none 0 0], []⟩ 8 (by kernel_rfl) (by kernel_rfl) (by kernel_rfl) (by kernel_rfl)) ?_
  intro W base args ds gs before hval0 hW hcnd _
  have hval : ∀ (j : Nat) t v, Try.f4.params[j]? = some t → args[j]? = some v → Value.okWide Try.prog W .any base t v := hval0
  have hW' := hW
  obtain ⟨p, q, hA0, hV, rfl, hfz, hnd⟩ := hW
  have hA : DataW.TrodAll enc Try.prog W 0 (fun _ => true) true Try.f4.params.toList args.toList ds p := hA0
  rw [Try.params4] at hA hval
  obtain ⟨v0, vs0, d0, ds0, p0, q0, hargs0, rfl, rfl, h0, r0⟩ := trodAll_cons hA
  obtain ⟨v1, vs1, d1, ds1, p1, q1, hargs1, rfl, rfl, h1, r1⟩ := trodAll_cons r0
  obtain ⟨rfl, rfl, rfl⟩ := trodAll_nil r1
  obtain rfl : args = #[v0, v1] := by cases args; simp_all
  obtain ⟨rfl, rfl⟩ := trodVars_none hV
  have k0 := h0
  have lt0 : ∀ x ∈ p0, x.block < W.heap.size := by obtain ⟨m, hm⟩ := k0; exact DataW.trod_lt m _ _ _ hm
  have k1 := h1
  have lt1 : ∀ x ∈ p1, x.block < W.heap.size := by obtain ⟨m, hm⟩ := k1; exact DataW.trod_lt m _ _ _ hm
  obtain ⟨a0, len0, cap0, rfl⟩ := okWide_slice Try.underlying22 (hval 0 22 v0 rfl rfl)
  obtain ⟨bs0, hlen0, hmx0, hrd0⟩ := Op.open_bytes h0
  subst hlen0
  obtain ⟨a1, len1, cap1, rfl⟩ := okWide_slice Try.underlying22 (hval 1 22 v1 rfl rfl)
  obtain ⟨bs1, hlen1, hmx1, hrd1⟩ := Op.open_bytes h1
  subst hlen1
  clear hA0 hval0
  refine (walk a0 bs0 cap0 hmx0 a1 bs1 cap1 hmx1 W hrd0 hrd1).mono fun e W' ⟨he, bel⟩ => ?_
  subst he
  exact ⟨_, rfl, _, _, _, [], _, [], hW', trodAll_mk1 (shut_bool Try.underlying4 _), (trodAll_cons_mk (Below.trod laidOut (by kernel_rfl) (of_decide_eq_true (by kernel_rfl)) k0 bel lt0) (trodAll_cons_mk (Below.trod laidOut (by kernel_rfl) (of_decide_eq_true (by kernel_rfl)) k1 bel lt1) trodAll_mk0)), rfl, bel.frame _, fun h => by cases h⟩

theorem over : Rows.fnCoversRow.holds Try.pinned (OpenSpec.ofChange Rows.fnCoversSpec) :=
  OpenClaim.holds_of_wide 4 Try.f4 rfl rfl rfl rfl rfl rfl rfl ⟨rfl, rfl, rfl, rfl, rfl⟩ rfl rfl rfl rfl rfl (by kernel_rfl) Try.func4 (by kernel_rfl)
    (of_decide_eq_true (by kernel_rfl)) (by unfold Func.isWrapper; first | (rw [if_pos (by decide +kernel)]; kernel_rfl) | (rw [if_neg (by decide +kernel)]; exact ⟨rfl, rfl⟩))
    (fun os started H enc _ => lifted os started H enc)
end Go.Proofs.Ytpknahhdapmcoac.fnCovers
namespace Go.Proofs.Ytpknahhdapmcoac
/-- For all bytes the law FnCovers returns true. -/
theorem fnCovers_holds : Rows.FnCoversSaid := fnCovers.over
end Go.Proofs.Ytpknahhdapmcoac
