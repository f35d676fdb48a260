/-
  The model's search of ways: l11Routes. (written by mkspb.py)
-/
import Derived.Test.YtjhhhmdhdnmejaaSpB0
import Derived.Deep.Cut
import Derived.BigRegion
import Derived.Deep.MidRow
namespace Go.Proofs.Ytjhhhmdhdnmejaa
open Go.ChangeShapes Go.WideShapes Go.ChangeAt Go.RowKit
set_option linter.unusedVariables false
set_option linter.unusedSimpArgs false
set_option maxRecDepth 100000
attribute [local go_sem ↓] Go.wp_at_zero Go.wp_at_succ
namespace Wd
open W1 Ro Rw Tw
set_option maxHeartbeats 32000000 in
theorem l11Routes (a : Option Addr) (g : List Tu.R) (cap : Nat) (f : Int) (w : World) (hg : graphB g = true) (hf : 1 ≤ f ∧ f ≤ 8) (hr : Tu.RM w a g) :
    Calls Try.prog 58 #[.slice a g.length cap, .int .i64 f] w fun e w' => ∃ b, e = .returned (.slice (some ⟨b, 0, none⟩) 9 9) ∧ Below w.heap.size w w' ∧ w.heap.size ≤ b ∧ BV w' b (mdl g f) ∧ Good g f (best g f) := by
  have HR := hide hr
  have HG := hide hg
  have h62 := two_len (graph_two hg)
  obtain ⟨q, rfl⟩ : ∃ q : Nat, f = (q : Int) := ⟨f.toNat, by omega⟩
  have hq1 : 1 ≤ q := by omega
  have hq8 : q ≤ 8 := by omega
  have q0 : (0 : Int) ≤ (q : Int) := by omega
  have q9 : (q : Int) < 9 := by omega
  have hmB := makeB w
  have hmD := makeD (w.alloc (.cells (flat (bs9 0)).toArray 62))
  rw [World.size_alloc] at hmD
  have HN0 := hide (nin_new w)
  have HB0 : Hid (Below w.heap.size w ((w.alloc (.cells (flat (bs9 0)).toArray 62)).alloc (.cells (fs9.map Value.bool).toArray 4))) := hide (((Below.refl _ _).alloc (Nat.le_refl _) _).alloc (by simp) _)
  clear hr hg hf
  obtain ⟨n, hn⟩ : ∃ n, g.length = n := ⟨_, rfl⟩
  have HN := hide hn
  rw [hn] at h62 ⊢
  clear hn
  go_enter Try.func58, Try.ntmps58
  go_wp2_with fail
  clear hmB hmD
  generalize hW0 : (w.alloc (.cells (flat (bs9 0)).toArray 62)).alloc (.cells (fs9.map Value.bool).toArray 4) = W0 at *
  clear hW0
  generalize hB : w.heap.size = B at *
  have HBB := hide hB
  clear hB
  generalize hD : B + 1 = D at *
  have hDB : D ≠ B := by omega
  have hDB2 : B < D := by omega
  clear hD
  go_loopw [7] (fun iv wr => ∃ j : Nat, j ≤ 9 ∧ iv = .int .i64 (j : Int) ∧ Hid (Nin wr B D (bs9 j) fs9) ∧ Hid (Below B w wr)) (fun iv _ => 9 - (intOf iv).toNat)
  case atStart => exact ⟨0, by omega, rfl, HN0, HB0⟩
  case round =>
    obtain ⟨j, hj, rfl, hN, hbl⟩ := hrel
    by_cases hlt : (j : Int) ≤ 8
    · have j0 : (0 : Int) ≤ (j : Int) := by omega
      have j9 : (j : Int) < 9 := by omega
      obtain ⟨a0, a1, a2, a3⟩ := (unhide hN).1.at (i := j) (by rw [bs9_len]; omega)
      have g0 := (unhide hN).1.free (j * 4)
      have g1 := (unhide hN).1.free (j * 4 + 1)
      have g2 := (unhide hN).1.free (j * 4 + 2)
      have g3 := (unhide hN).1.free (j * 4 + 3)
      have HN2 : Hid (Nin (put wr B (j * 4) (nul j)) B D (bs9 (j + 1)) fs9) := hide ⟨by rw [← bs9_step (by omega)]; exact (unhide hN).1.put (by rw [bs9_len]; omega) (nul j), (put_other hDB).trans (unhide hN).2⟩
      have HB2 := hide (put_below (g := B) (o := j * 4) (m := nul j) (unhide hbl) (Nat.le_refl _))
      have HPW : Hid (put wr B (j * 4) (nul j) = ((((wr.setCell ⟨B, j * 4, none⟩ (.int .i64 (j : Int))).setCell ⟨B, j * 4 + 1, none⟩ (.int .i64 0)).setCell ⟨B, j * 4 + 2, none⟩ (.int .i64 (-1))).setCell ⟨B, j * 4 + 3, none⟩ (.int .i64 0))) := hide rfl
      rw [unhide HPW] at HN2 HB2
      clear HPW
      go_wp2_with fail
      go_roundw
      case rel => exact ⟨j + 1, by omega, by go_num, HN2, HB2⟩
      case measure => simp [intOf]; omega
    · obtain rfl : j = 9 := by omega
      obtain ⟨a0, a1, a2, a3⟩ := (unhide hN).1.at (i := q) (by rw [bs9_len]; omega)
      have g2 := (unhide hN).1.free (q * 4 + 2)
      have HN2 : Hid (Nin (wr.setCell ⟨B, q * 4 + 2, none⟩ (.int .i64 0)) B D (bsF q) fs9) := hide ⟨by rw [← bsF_set (by omega)]; exact (unhide hN).1.co (by rw [bs9_len]; omega) 0, (Below.heap_setCell _ _ _ _ hDB).trans (unhide hN).2⟩
      have HB2 : Hid (Below B w (wr.setCell ⟨B, q * 4 + 2, none⟩ (.int .i64 0))) := hide ((unhide hbl).setCell (p := ⟨B, q * 4 + 2, none⟩) (Nat.le_refl _) _)
      have HST : Hid (StM g (q : Int) (bsF q) fs9) := hide (stm_start ⟨hq1, hq8⟩)
      have HKX : Hid (8 - cntW (WM (bsF q) fs9) ≤ 8) := hide (by omega)
      go_wp2_with fail
      clear a0 a1 a2 a3 g2
      go_loopg [] 8 (fun kx wr => ∃ (bs : List R) (ds : List Bool), Hid (Nin wr B D bs ds) ∧ Hid (StM g (q : Int) bs ds) ∧ Hid (Below B w wr) ∧ Hid (8 - cntW (WM bs ds) ≤ kx))
      case atStart => exact ⟨bsF q, fs9, HN2, HST, HB2, HKX⟩
      case round =>
        obtain ⟨bs, ds, hN, hST, hbl, hkx⟩ := hrel
        have HL9 := hide (unhide hST).len
        have HD9 := hide (unhide hST).len'
        go_wp2_with fail
        go_loopw [8, 9] (fun kv jv wr => ∃ j : Nat, 1 ≤ j ∧ j ≤ 9 ∧ jv = .int .i64 (j : Int) ∧ kv = .int .i64 (pk bs ds (j - 1) : Int) ∧ Hid (Nin wr B D bs ds) ∧ Hid (Below B w wr)) (fun _ jv _ => 9 - (intOf jv).toNat)
        case atStart => exact ⟨1, by omega, by omega, rfl, rfl, hN, hbl⟩
        case round =>
          rename World => wo
          obtain ⟨j, hj1, hj9, rfl, rfl, hN, hbl⟩ := hrel
          by_cases hlt : (j : Int) ≤ 8
          · have j0 : (0 : Int) ≤ (j : Int) := by omega
            have j9 : (j : Int) < 9 := by omega
            have hpl := pk_le bs ds (j - 1)
            have HPK : Hid (pk bs ds j = if canB bs ds (pk bs ds (j - 1)) j = true then j else pk bs ds (j - 1)) := hide (by
              obtain ⟨t, rfl⟩ : ∃ t, j = t + 1 := ⟨j - 1, by omega⟩
              rw [Nat.add_sub_cancel]; rfl)
            unfold canB at HPK
            generalize pk bs ds (j - 1) = k at *
            have k0 : (0 : Int) ≤ (k : Int) := by omega
            have k9 : (k : Int) < 9 := by omega
            have HSP := hide (sP_of (unhide hN) (unhide HL9) (unhide HD9) (j := j) (k := k) (by omega) (by omega))
            generalize dn ds j = dj at *
            generalize at' bs j = X at *
            generalize at' bs k = Y at *
            go_upto_region 12 with fail
            refine r12 _ _ _ _ _ _ _ _ _ _ _ _ _ _ _ _ _ _ _ _ _ _ _ _ _ _ _ _ _ _ _ _ _ _ _ _ _ _ _ _ _ _ _ _ _ _ _ _ _ _ _ _ _ _ _ _ _ _ _ _ _ _ _ _ _ _ _ _ _ _ _ _ _ _ _ _ _ _ _ _ _ _ _ _ _ _ _ _ _ _ _ _ _ _ _ _ _ _ _ _ _ _ _ _ _ _ _ _ _ _ _ _ _ _ _ _ _ _ _ _ _ _ _ _ _ _ _ _ _ _ _ _ _ _ _ _ _ _ _ B D j k dj X Y _ HSP j0 j9 k0 k9 ?_
            intro c hc r32 r33 r34 r35 r36 r37 r38 r39 r40 r41 r42 r43 r44 r45 r46 r47 r48 r49 r50 r51 r52 r53 r54 r55 r56 r57 r58 wz bz
            have HN5 := hide ((unhide hN).below bz)
            have HB5 := hide ((unhide hbl).trans (bz.mono (Nat.le_of_lt (unhide hN).1.lt)))
            have HPC : Hid (pk bs ds j = if c = true then j else k) := hide (by rw [hc]; exact unhide HPK)
            clear hc HPK bz HSP hN hbl
            cases c
            · have HPY : Hid (pk bs ds j = k) := hide (by rw [unhide HPC]; rfl)
              go_wp2_with fail
              go_roundw
              case rel => exact ⟨j + 1, by omega, by omega, by go_num, by rw [Nat.add_sub_cancel, unhide HPY], HN5, HB5⟩
              case measure => simp [intOf]; omega
            · have HPY : Hid (pk bs ds j = j) := hide (by rw [unhide HPC]; rfl)
              go_wp2_with fail
              go_roundw
              case rel => exact ⟨j + 1, by omega, by omega, by go_num, by rw [Nat.add_sub_cancel, unhide HPY], HN5, HB5⟩
              case measure => simp [intOf]; omega
          · obtain rfl : j = 9 := by omega
            by_cases hk0 : pk bs ds (9 - 1) = 0
            · have hd := stm_done (unhide HG) (unhide hST) hk0
              have hbs : bs = mdl g (q : Int) := hd.1
              have HGD := hide hd.2
              have HBV : Hid (BV wo B (mdl g (q : Int))) := hide (by rw [← hbs]; exact (unhide hN).1)
              have hk' : ((pk bs ds (9 - 1) : Int) == 0) = true := by rw [hk0]; rfl
              clear hd hbs
              generalize pk bs ds (9 - 1) = k at *
              go_wp2_with fail
              go_ret
              exact ⟨_, rfl, by rw [unhide HBB]; exact unhide hbl, by rw [unhide HBB]; exact Nat.le_refl _, unhide HBV, unhide HGD⟩
            · have hpk := stm_pick (unhide hST) hk0
              obtain ⟨k, hk⟩ : ∃ k, pk bs ds (9 - 1) = k := ⟨_, rfl⟩
              have hstep := stm_step (unhide HG) (unhide hST) hk (by rw [← hk]; exact hk0)
              rw [show pk bs ds 8 = k from hk] at hpk
              rw [hk] at hk0 ⊢
              obtain ⟨hk8, hdk, _, hok, hhq⟩ := hpk
              have HSTP := hide hstep
              have hk' : ((k : Int) == 0) = false := by simpa using hk0
              have k0 : (0 : Int) ≤ (k : Int) := by omega
              have k9 : (k : Int) < 9 := by omega
              have d0 := (unhide hN).2.at (i := k) (by rw [unhide HD9]; omega)
              have f0 := (unhide hN).2.free k
              obtain ⟨ds2, hds2⟩ : ∃ ds2, ds.set k true = ds2 := ⟨_, rfl⟩
              have HN2 : Hid (Nin (wo.setCell ⟨D, k, none⟩ (.bool true)) B D bs ds2) := hide ⟨(Below.heap_setCell _ _ _ _ (show B ≠ D by omega)).trans (unhide hN).1, by rw [← hds2]; exact (unhide hN).2.set k true⟩
              have HB2 : Hid (Below B w (wo.setCell ⟨D, k, none⟩ (.bool true))) := hide ((unhide hbl).setCell (p := ⟨D, k, none⟩) (show B ≤ D by omega) _)
              have HDK : Hid (dn ds2 k = true) := hide (by rw [← hds2, dn_set (by rw [unhide HD9]; omega), if_pos rfl])
              have HDL : Hid (ds2.length = 9) := hide (by rw [← hds2, List.length_set]; exact unhide HD9)
              have hbd : (at' bs k).ds = (k : Int) := (unhide hST).tag k hk8.2
              rw [hds2] at HSTP
              have HRI : Hid (∀ i, i ≤ g.length → RlI g (at' bs k) ds2 bs (rl g (at' bs k) ds2 bs i) i) := hide (fun i hi => rl_inv (unhide HG) (by unfold okN at hok; omega) (unhide HL9) i hi)
              have HBK : Hid (∀ i, i ≤ g.length → at' (rl g (at' bs k) ds2 bs i) k = at' bs k) := hide (fun i hi => by
                rcases (unhide HRI i hi).keep k hk8.2 with e | ⟨_, e, _⟩
                · exact e
                · rw [unhide HDK] at e; cases e)
              have HRS : Hid (∀ i, rl g (at' bs k) ds2 bs (i + 1) = rl1 (at' bs k) ds2 (rl g (at' bs k) ds2 bs i) (g.getD i Tu.R.zero)) := hide (fun i => rfl)
              have HR0 : Hid (Nin (wo.setCell ⟨D, k, none⟩ (.bool true)) B D (rl g (at' bs k) ds2 bs 0) ds2) := HN2
              have HRM : Hid (∀ W, Below B w W → Tu.RM W a g) := hide (fun W h => (unhide HR).below (by rw [unhide HBB]; exact h))
              clear hds2 hdk hk hk0 hstep hN hbl HN2
              generalize dn ds k = dk at *
              generalize at' bs k = b at *
              obtain ⟨bd, bn, bc, bh⟩ := b
              unfold okN at hok
              dsimp only at hok hhq hbd
              subst hbd
              go_wp2_with fail
              clear d0 f0
              generalize hW2 : wo.setCell ⟨D, k, none⟩ (.bool true) = W2 at *
              clear hW2
              go_loopw [10] (fun iv wr => ∃ i : Nat, i ≤ n ∧ iv = .int .i64 (i : Int) ∧ Hid (Nin wr B D (rl g ⟨(k : Int), bn, bc, bh⟩ ds2 bs i) ds2) ∧ Hid (Below B w wr)) (fun iv _ => n - (intOf iv).toNat)
              case atStart => exact ⟨0, by omega, rfl, HR0, HB2⟩
              case round =>
                obtain ⟨i, hi, rfl, hN, hbl⟩ := hrel
                by_cases hlt : (i : Int) < (n : Int)
                · have i0 : (0 : Int) ≤ (i : Int) := by omega
                  have hlen : i < g.length := by rw [unhide HN]; omega
                  have HRr := hide (unhide HRM _ (unhide hbl))
                  obtain ⟨ga, off, rfl⟩ := (unhide HRr).form (by omega)
                  have hA := (unhide HRr).at hlen
                  have hbd := St.ok_bounds (St.setB_ok (two_set (graph_two (unhide HG))) hlen)
                  have hbk := ok_k (two_ok (graph_two (unhide HG)) _ (Tu.getD_mem hlen))
                  have HRX := hide (unhide HRS i)
                  have HKB := hide (unhide HBK i (by omega))
                  have HLB := hide (unhide HRI i (by omega)).len
                  unfold rl1 at HRX
                  unfold hv ha at hbk HRX
                  generalize g.getD i Tu.R.zero = m at *
                  obtain ⟨key, til, val⟩ := m
                  dsimp only at hbd hbk HRX
                  rw [Int.tdiv_eq_ediv_of_nonneg hbd.1, Int.tmod_eq_emod_of_nonneg hbd.1] at hbk HRX
                  obtain ⟨c0, c1, c2⟩ := hA
                  dsimp only at c0 c1 c2
                  have hsl := (unhide hN).1.lt
                  generalize rl g ⟨(k : Int), bn, bc, bh⟩ ds2 bs i = Bi at *
                  generalize hrn : rl g ⟨(k : Int), bn, bc, bh⟩ ds2 bs (i + 1) = Bn at *
                  have HBN := hide hrn
                  clear hrn
                  by_cases hhk : key / 100 = (k : Int)
                  · have hh' : (key / 100 != (k : Int)) = false := by simpa using hhk
                    obtain ⟨t, ht⟩ : ∃ t : Nat, key % 100 = (t : Int) := ⟨(key % 100).toNat, by omega⟩
                    have ht8 : 1 ≤ t ∧ t ≤ 8 := by omega
                    have t0 : (0 : Int) ≤ (t : Int) := by omega
                    have t9 : (t : Int) < 9 := by omega
                    have HRX2 : Hid (Bn = if betB Bi ds2 (ext ⟨(k : Int), bn, bc, bh⟩ (t : Int) val) t = true then Bi.set t (ext ⟨(k : Int), bn, bc, bh⟩ (t : Int) val) else Bi) := hide (by
                      rw [unhide HRX, ht, Int.toNat_natCast]
                      simp only [hhk, true_and])
                    unfold betB at HRX2
                    have hbc : bc + val ≤ 9223372036854775807 := by omega
                    have HSP := hide (sP_of (unhide hN) (unhide HLB) (unhide HDL) (j := t) (k := k) (by omega) (by omega))
                    rw [unhide HKB] at HSP
                    have HTA := hide ht
                    clear HRX hhk
                    go_upto_region 22 with fail
                    refine r22 _ _ _ _ _ _ _ _ _ _ _ _ _ _ _ _ _ _ _ _ _ _ _ _ _ _ _ _ _ _ _ _ _ _ _ _ _ _ _ _ _ _ _ _ _ _ _ _ _ _ _ _ _ _ _ _ _ _ _ _ _ _ _ _ _ _ _ _ _ _ _ _ _ _ _ _ _ _ _ _ _ _ _ _ _ _ _ _ _ _ _ _ _ _ _ _ _ _ _ _ _ _ _ _ _ _ _ _ _ _ _ _ _ _ _ _ _ _ _ _ _ _ _ _ _ _ _ _ _ _ _ _ _ _ _ _ _ _ ga off n cap B k i (key % 100) (k : Int) bn bc bh val _ (hide (unhide HSP).2.2) c2 k0 k9 i0 hlt (by omega) (by omega) hbc (by omega) (by omega) ?_
                    intro r87 r88 r89 r90 r91 r92 r93 r94 r95 r96 r97 r98 r99 r100 r101 r102 r103 r104 r105 r106 r107 r108 r109 r110 wz hwz
                    subst hwz
                    rw [ht]
                    by_cases hkq : (k : Int) = (q : Int)
                    · have hkq' : ((k : Int) == (q : Int)) = true := by simpa using hkq
                      have HB00 : Hid (bh = 0) := hide (hhq.2 hkq)
                      have HEX : Hid (ext ⟨(k : Int), bn, bc, bh⟩ (t : Int) val = ⟨(t : Int), (t : Int), bc + val, bh + 1⟩) := hide (by unfold ext; dsimp only; rw [if_pos (unhide HB00)])
                      clear hkq hhq
                      have b1 : Below wr.heap.size wr (wr.alloc (.cells #[.int .i64 (t : Int), .int .i64 (t : Int), .int .i64 (bc + val), .int .i64 (bh + 1)] 62)).drew := ((Below.refl _ _).alloc (Nat.le_refl _) _).drew
                      have HN1 := hide ((unhide hN).below b1)
                      have HB1 := hide ((unhide hbl).trans (b1.mono (Nat.le_of_lt hsl)))
                      have HX1 : Hid (Bx (wr.alloc (.cells #[.int .i64 (t : Int), .int .i64 (t : Int), .int .i64 (bc + val), .int .i64 (bh + 1)] 62)).drew wr.heap.size ⟨(t : Int), (t : Int), bc + val, bh + 1⟩) := hide (bx_new wr ⟨(t : Int), (t : Int), bc + val, bh + 1⟩ 62).drew
                      have hXB : wr.heap.size ≠ B := by omega
                      have hXD : wr.heap.size ≠ D := by have := (unhide hN).2.lt; omega
                      go_upto_region 25 with fail
                      clear b1 c0 c1 c2 hN hbl ht HRr
                      generalize hW1 : (wr.alloc (.cells #[.int .i64 (t : Int), .int .i64 (t : Int), .int .i64 (bc + val), .int .i64 (bh + 1)] 62)).drew = W1 at *
                      clear hW1
                      generalize hX : wr.heap.size = X at *
                      clear hX
                      have HSQ := hide (sQ_of (unhide HN1) (unhide HLB) (unhide HDL) (j := t) (by omega) (unhide HX1))
                      have HFB : Hid (Bn = if (!dn ds2 t && (decide ((at' Bi t).co < 0) || btB (⟨(t : Int), (t : Int), bc + val, bh + 1⟩ : R) (at' Bi t))) = true then Bi.set t ⟨(t : Int), (t : Int), bc + val, bh + 1⟩ else Bi) := hide (by rw [unhide HRX2, unhide HEX])
                      clear HRX2 HSP
                      generalize hdj : dn ds2 t = dj at *
                      generalize hYY : at' Bi t = Y at *
                      clear hdj hYY
                      clear hbc
                      generalize hXC : bc + val = xc at *
                      generalize hXH : bh + 1 = xh at *
                      clear hXC hXH
                      have HN9 : Hid (∀ W, Nin W B D Bn ds2 → Nin W B D (rl g ⟨(k : Int), bn, bc, bh⟩ ds2 bs (i + 1)) ds2) := hide (fun W h => by rw [unhide HBN]; exact h)
                      refine r25 _ _ _ _ _ _ _ _ _ _ _ _ _ _ _ _ _ _ _ _ _ _ _ _ _ _ _ _ _ _ _ _ _ _ _ _ _ _ _ _ _ _ _ _ _ _ _ _ _ _ _ _ _ _ _ _ _ _ _ _ _ _ _ _ _ _ _ _ _ _ _ _ _ _ _ _ _ _ _ _ _ _ _ _ _ _ _ _ _ _ _ _ _ _ _ _ _ _ _ _ _ _ _ _ _ _ _ _ _ _ _ _ _ _ _ _ _ _ _ _ _ _ _ _ _ _ _ _ _ _ _ _ _ _ _ _ _ _ _ B D t X dj ⟨(t : Int), (t : Int), xc, xh⟩ Y _ HSQ t0 t9 ?_
                      intro c hc r116 r117 r118 r119 r120 r121 r122 r123 r124 r125 r126 r127 r128 r129 r130 r131 r132 r133 r134 r135 W3 bz
                      have HFC : Hid (Bn = if c = true then Bi.set t ⟨(t : Int), (t : Int), xc, xh⟩ else Bi) := hide (by rw [hc]; exact unhide HFB)
                      have HN3 := hide ((unhide HN1).below bz)
                      have HX3 := hide ((unhide HX1).below bz)
                      have HB3 := hide ((unhide HB1).trans (bz.mono (Nat.le_of_lt (unhide HN1).1.lt)))
                      clear bz hc HSQ HFB HN1 HX1 HB1
                      cases c
                      · have HE : Hid (Bn = Bi) := hide (by rw [unhide HFC]; rfl)
                        go_wp2_with fail
                        go_roundw
                        case rel => exact ⟨i + 1, by omega, by go_num, hide (unhide HN9 _ (by rw [unhide HE]; exact unhide HN3)), HB3⟩
                        case measure => simp [intOf]; omega
                      · have HE : Hid (Bn = Bi.set t ⟨(t : Int), (t : Int), xc, xh⟩) := hide (by rw [unhide HFC]; rfl)
                        have HTL : Hid (t < Bi.length) := hide (by rw [unhide HLB]; omega)
                        have HPN : Hid (Nin (put W3 B (t * 4) ⟨(t : Int), (t : Int), xc, xh⟩) B D Bn ds2) := hide ⟨by rw [unhide HE]; exact (unhide HN3).1.put (unhide HTL) _, (put_other hDB).trans (unhide HN3).2⟩
                        have HPB := hide (put_below (g := B) (o := t * 4) (m := ⟨(t : Int), (t : Int), xc, xh⟩) (unhide HB3) (Nat.le_refl _))
                        have HPN9 := hide (unhide HN9 _ (unhide HPN))
                        go_wp2_with (first | (refine wpList_loadR _ rfl rfl (m := ⟨(t : Int), (t : Int), xc, xh⟩) rfl (unhide HX3) ?_) | (refine wpList_storeR _ _ rfl rfl (t := t) (m := ⟨(t : Int), (t : Int), xc, xh⟩) rfl rfl (unhide HN3).1 (unhide HTL) ?_))
                        go_roundw
                        case rel => exact ⟨i + 1, by omega, by go_num, HPN9, HPB⟩
                        case measure => simp [intOf]; omega
                    · have hkq' : ((k : Int) == (q : Int)) = false := by simpa using hkq
                      have HB00 : Hid (¬ bh = 0) := hide (fun e => hkq (hhq.1 e))
                      have HEX : Hid (ext ⟨(k : Int), bn, bc, bh⟩ (t : Int) val = ⟨(t : Int), bn, bc + val, bh + 1⟩) := hide (by unfold ext; dsimp only; rw [if_neg (unhide HB00)])
                      clear hkq hhq
                      have b1 : Below wr.heap.size wr (wr.alloc (.cells #[.int .i64 (t : Int), .int .i64 bn, .int .i64 (bc + val), .int .i64 (bh + 1)] 62)).drew := ((Below.refl _ _).alloc (Nat.le_refl _) _).drew
                      have HN1 := hide ((unhide hN).below b1)
                      have HB1 := hide ((unhide hbl).trans (b1.mono (Nat.le_of_lt hsl)))
                      have HX1 : Hid (Bx (wr.alloc (.cells #[.int .i64 (t : Int), .int .i64 bn, .int .i64 (bc + val), .int .i64 (bh + 1)] 62)).drew wr.heap.size ⟨(t : Int), bn, bc + val, bh + 1⟩) := hide (bx_new wr ⟨(t : Int), bn, bc + val, bh + 1⟩ 62).drew
                      have hXB : wr.heap.size ≠ B := by omega
                      have hXD : wr.heap.size ≠ D := by have := (unhide hN).2.lt; omega
                      go_upto_region 25 with fail
                      clear b1 c0 c1 c2 hN hbl ht HRr
                      generalize hW1 : (wr.alloc (.cells #[.int .i64 (t : Int), .int .i64 bn, .int .i64 (bc + val), .int .i64 (bh + 1)] 62)).drew = W1 at *
                      clear hW1
                      generalize hX : wr.heap.size = X at *
                      clear hX
                      have HSQ := hide (sQ_of (unhide HN1) (unhide HLB) (unhide HDL) (j := t) (by omega) (unhide HX1))
                      have HFB : Hid (Bn = if (!dn ds2 t && (decide ((at' Bi t).co < 0) || btB (⟨(t : Int), bn, bc + val, bh + 1⟩ : R) (at' Bi t))) = true then Bi.set t ⟨(t : Int), bn, bc + val, bh + 1⟩ else Bi) := hide (by rw [unhide HRX2, unhide HEX])
                      clear HRX2 HSP
                      generalize hdj : dn ds2 t = dj at *
                      generalize hYY : at' Bi t = Y at *
                      clear hdj hYY
                      clear hbc
                      generalize hXC : bc + val = xc at *
                      generalize hXH : bh + 1 = xh at *
                      clear hXC hXH
                      have HN9 : Hid (∀ W, Nin W B D Bn ds2 → Nin W B D (rl g ⟨(k : Int), bn, bc, bh⟩ ds2 bs (i + 1)) ds2) := hide (fun W h => by rw [unhide HBN]; exact h)
                      refine r25 _ _ _ _ _ _ _ _ _ _ _ _ _ _ _ _ _ _ _ _ _ _ _ _ _ _ _ _ _ _ _ _ _ _ _ _ _ _ _ _ _ _ _ _ _ _ _ _ _ _ _ _ _ _ _ _ _ _ _ _ _ _ _ _ _ _ _ _ _ _ _ _ _ _ _ _ _ _ _ _ _ _ _ _ _ _ _ _ _ _ _ _ _ _ _ _ _ _ _ _ _ _ _ _ _ _ _ _ _ _ _ _ _ _ _ _ _ _ _ _ _ _ _ _ _ _ _ _ _ _ _ _ _ _ _ _ _ _ _ B D t X dj ⟨(t : Int), bn, xc, xh⟩ Y _ HSQ t0 t9 ?_
                      intro c hc r116 r117 r118 r119 r120 r121 r122 r123 r124 r125 r126 r127 r128 r129 r130 r131 r132 r133 r134 r135 W3 bz
                      have HFC : Hid (Bn = if c = true then Bi.set t ⟨(t : Int), bn, xc, xh⟩ else Bi) := hide (by rw [hc]; exact unhide HFB)
                      have HN3 := hide ((unhide HN1).below bz)
                      have HX3 := hide ((unhide HX1).below bz)
                      have HB3 := hide ((unhide HB1).trans (bz.mono (Nat.le_of_lt (unhide HN1).1.lt)))
                      clear bz hc HSQ HFB HN1 HX1 HB1
                      cases c
                      · have HE : Hid (Bn = Bi) := hide (by rw [unhide HFC]; rfl)
                        go_wp2_with fail
                        go_roundw
                        case rel => exact ⟨i + 1, by omega, by go_num, hide (unhide HN9 _ (by rw [unhide HE]; exact unhide HN3)), HB3⟩
                        case measure => simp [intOf]; omega
                      · have HE : Hid (Bn = Bi.set t ⟨(t : Int), bn, xc, xh⟩) := hide (by rw [unhide HFC]; rfl)
                        have HTL : Hid (t < Bi.length) := hide (by rw [unhide HLB]; omega)
                        have HPN : Hid (Nin (put W3 B (t * 4) ⟨(t : Int), bn, xc, xh⟩) B D Bn ds2) := hide ⟨by rw [unhide HE]; exact (unhide HN3).1.put (unhide HTL) _, (put_other hDB).trans (unhide HN3).2⟩
                        have HPB := hide (put_below (g := B) (o := t * 4) (m := ⟨(t : Int), bn, xc, xh⟩) (unhide HB3) (Nat.le_refl _))
                        have HPN9 := hide (unhide HN9 _ (unhide HPN))
                        go_wp2_with (first | (refine wpList_loadR _ rfl rfl (m := ⟨(t : Int), bn, xc, xh⟩) rfl (unhide HX3) ?_) | (refine wpList_storeR _ _ rfl rfl (t := t) (m := ⟨(t : Int), bn, xc, xh⟩) rfl rfl (unhide HN3).1 (unhide HTL) ?_))
                        go_roundw
                        case rel => exact ⟨i + 1, by omega, by go_num, HPN9, HPB⟩
                        case measure => simp [intOf]; omega
                  · have hh' : (key / 100 != (k : Int)) = true := by simpa using hhk
                    have HE : Hid (Bn = Bi) := hide (by rw [unhide HRX, if_neg (fun e => hhk e.1)])
                    have HN9 : Hid (Nin wr B D (rl g ⟨(k : Int), bn, bc, bh⟩ ds2 bs (i + 1)) ds2) := hide (by rw [unhide HBN, unhide HE]; exact unhide hN)
                    go_wp2_with fail
                    go_roundw
                    case rel => exact ⟨i + 1, by omega, by go_num, HN9, hbl⟩
                    case measure => simp [intOf]; omega
                · obtain rfl : i = n := by omega
                  obtain ⟨h1, h2⟩ := unhide HSTP
                  rw [unhide HN] at h1 h2
                  have HS9 := hide h1
                  have hm9 : 8 - cntW (WM (rl g ⟨(k : Int), bn, bc, bh⟩ ds2 bs i) ds2) < gk := by
                    have h3 := unhide hkx; have h4 := cnt_le (WM (rl g ⟨(k : Int), bn, bc, bh⟩ ds2 bs i) ds2); omega
                  clear h1 h2
                  go_wp2_with fail
                  go_roundg (8 - cntW (WM (rl g ⟨(k : Int), bn, bc, bh⟩ ds2 bs i) ds2))
                  case measure => exact hm9
                  case rel => exact ⟨_, ds2, hN, HS9, hbl, hide (Nat.le_refl _)⟩
end Wd
end Go.Proofs.Ytjhhhmdhdnmejaa
