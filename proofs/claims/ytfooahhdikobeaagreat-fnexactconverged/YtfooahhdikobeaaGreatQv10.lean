/-
  Of the texts SpcB, SpcC, RtrR, NetL, NetLi, NetLs, NetZ, NetO, NetE, ExConvergedW: what this claim needs of them. (put together by mkprune.py)
-/
import Derived.Test.YtfooahhdikobeaaGreatQv9
import Derived.Deep.Cut
import Derived.BigRegion
import Derived.Deep.MidRow
import Derived.Deep.DeepHandedRow
namespace Go.Proofs.YtfooahhdikobeaaGreat
open Go.ChangeShapes Go.WideShapes Go.ChangeAt Go.RowKit
set_option linter.unusedVariables false
set_option linter.unusedSimpArgs false
set_option maxRecDepth 100000
attribute [local go_sem ↓] Go.wp_at_zero Go.wp_at_succ
namespace Wd
open W1 Ro Rw Tw
set_option maxHeartbeats 32000000 in
theorem l11Routes (a : Option Addr) (g : List Tu.R) (cap : Nat) (f : Int) (w : World) (hg : graphB g = true) (hf : 1 ≤ f ∧ f ≤ 8) (hr : Tu.RM w a g) :
    Calls Tryz.prog 64 #[.slice a g.length cap, .int .i64 f] w fun e w' => ∃ b, e = .returned (.slice (some ⟨b, 0, none⟩) 9 9) ∧ Below w.heap.size w w' ∧ w.heap.size ≤ b ∧ BV w' b (mdl g f) ∧ Good g f (best g f) := by
  have HR := hide hr
  have HG := hide hg
  have h62 := two_len (graph_two hg)
  obtain ⟨q, rfl⟩ : ∃ q : Nat, f = (q : Int) := ⟨f.toNat, by omega⟩
  have hq1 : 1 ≤ q := by omega
  have hq8 : q ≤ 8 := by omega
  have q0 : (0 : Int) ≤ (q : Int) := by omega
  have q9 : (q : Int) < 9 := by omega
  have hmB := makeB w
  have hmD := makeD (w.alloc (.cells (flat (bs9 0)).toArray 87))
  rw [World.size_alloc] at hmD
  have HN0 := hide (nin_new w)
  have HB0 : Hid (Below w.heap.size w ((w.alloc (.cells (flat (bs9 0)).toArray 87)).alloc (.cells (fs9.map Value.bool).toArray 4))) := hide (((Below.refl _ _).alloc (Nat.le_refl _) _).alloc (by simp) _)
  clear hr hg hf
  obtain ⟨n, hn⟩ : ∃ n, g.length = n := ⟨_, rfl⟩
  have HN := hide hn
  rw [hn] at h62 ⊢
  clear hn
  go_enter Tryz.func64, Tryz.ntmps64
  go_wp2_with fail
  clear hmB hmD
  generalize hW0 : (w.alloc (.cells (flat (bs9 0)).toArray 87)).alloc (.cells (fs9.map Value.bool).toArray 4) = W0 at *
  clear hW0
  generalize hB : w.heap.size = B at *
  have HBB := hide hB
  clear hB
  generalize hD : B + 1 = D at *
  have hDB : D ≠ B := by omega
  have hDB2 : B < D := by omega
  clear hD
  go_loopw [7] (fun iv wr => ∃ j : Nat, j ≤ 9 ∧ iv = .int .i64 (j : Int) ∧ Hid (Nin wr B D (bs9 j) fs9) ∧ Hid (Below B w wr)) (fun iv _ => 9 - (intOf iv).toNat)
  case atStart => exact ⟨0, by omega, rfl, HN0, HB0⟩
  case round =>
    obtain ⟨j, hj, rfl, hN, hbl⟩ := hrel
    by_cases hlt : (j : Int) ≤ 8
    · have j0 : (0 : Int) ≤ (j : Int) := by omega
      have j9 : (j : Int) < 9 := by omega
      obtain ⟨a0, a1, a2, a3⟩ := (unhide hN).1.at (i := j) (by rw [bs9_len]; omega)
      have g0 := (unhide hN).1.free (j * 4)
      have g1 := (unhide hN).1.free (j * 4 + 1)
      have g2 := (unhide hN).1.free (j * 4 + 2)
      have g3 := (unhide hN).1.free (j * 4 + 3)
      have HN2 : Hid (Nin (put wr B (j * 4) (nul j)) B D (bs9 (j + 1)) fs9) := hide ⟨by rw [← bs9_step (by omega)]; exact (unhide hN).1.put (by rw [bs9_len]; omega) (nul j), (put_other hDB).trans (unhide hN).2⟩
      have HB2 := hide (put_below (g := B) (o := j * 4) (m := nul j) (unhide hbl) (Nat.le_refl _))
      have HPW : Hid (put wr B (j * 4) (nul j) = ((((wr.setCell ⟨B, j * 4, none⟩ (.int .i64 (j : Int))).setCell ⟨B, j * 4 + 1, none⟩ (.int .i64 0)).setCell ⟨B, j * 4 + 2, none⟩ (.int .i64 (-1))).setCell ⟨B, j * 4 + 3, none⟩ (.int .i64 0))) := hide rfl
      rw [unhide HPW] at HN2 HB2
      clear HPW
      go_wp2_with fail
      go_roundw
      case rel => exact ⟨j + 1, by omega, by go_num, HN2, HB2⟩
      case measure => simp [intOf]; omega
    · obtain rfl : j = 9 := by omega
      obtain ⟨a0, a1, a2, a3⟩ := (unhide hN).1.at (i := q) (by rw [bs9_len]; omega)
      have g2 := (unhide hN).1.free (q * 4 + 2)
      have HN2 : Hid (Nin (wr.setCell ⟨B, q * 4 + 2, none⟩ (.int .i64 0)) B D (bsF q) fs9) := hide ⟨by rw [← bsF_set (by omega)]; exact (unhide hN).1.co (by rw [bs9_len]; omega) 0, (Below.heap_setCell _ _ _ _ hDB).trans (unhide hN).2⟩
      have HB2 : Hid (Below B w (wr.setCell ⟨B, q * 4 + 2, none⟩ (.int .i64 0))) := hide ((unhide hbl).setCell (p := ⟨B, q * 4 + 2, none⟩) (Nat.le_refl _) _)
      have HST : Hid (StM g (q : Int) (bsF q) fs9) := hide (stm_start ⟨hq1, hq8⟩)
      have HKX : Hid (8 - cntW (WM (bsF q) fs9) ≤ 8) := hide (by omega)
      go_wp2_with fail
      clear a0 a1 a2 a3 g2
      go_loopg [] 8 (fun kx wr => ∃ (bs : List R) (ds : List Bool), Hid (Nin wr B D bs ds) ∧ Hid (StM g (q : Int) bs ds) ∧ Hid (Below B w wr) ∧ Hid (8 - cntW (WM bs ds) ≤ kx))
      case atStart => exact ⟨bsF q, fs9, HN2, HST, HB2, HKX⟩
      case round =>
        obtain ⟨bs, ds, hN, hST, hbl, hkx⟩ := hrel
        have HL9 := hide (unhide hST).len
        have HD9 := hide (unhide hST).len'
        go_wp2_with fail
        go_loopw [8, 9] (fun kv jv wr => ∃ j : Nat, 1 ≤ j ∧ j ≤ 9 ∧ jv = .int .i64 (j : Int) ∧ kv = .int .i64 (pk bs ds (j - 1) : Int) ∧ Hid (Nin wr B D bs ds) ∧ Hid (Below B w wr)) (fun _ jv _ => 9 - (intOf jv).toNat)
        case atStart => exact ⟨1, by omega, by omega, rfl, rfl, hN, hbl⟩
        case round =>
          rename World => wo
          obtain ⟨j, hj1, hj9, rfl, rfl, hN, hbl⟩ := hrel
          by_cases hlt : (j : Int) ≤ 8
          · have j0 : (0 : Int) ≤ (j : Int) := by omega
            have j9 : (j : Int) < 9 := by omega
            have hpl := pk_le bs ds (j - 1)
            have HPK : Hid (pk bs ds j = if canB bs ds (pk bs ds (j - 1)) j = true then j else pk bs ds (j - 1)) := hide (by
              obtain ⟨t, rfl⟩ : ∃ t, j = t + 1 := ⟨j - 1, by omega⟩
              rw [Nat.add_sub_cancel]; rfl)
            unfold canB at HPK
            generalize pk bs ds (j - 1) = k at *
            have k0 : (0 : Int) ≤ (k : Int) := by omega
            have k9 : (k : Int) < 9 := by omega
            have HSP := hide (sP_of (unhide hN) (unhide HL9) (unhide HD9) (j := j) (k := k) (by omega) (by omega))
            generalize dn ds j = dj at *
            generalize at' bs j = X at *
            generalize at' bs k = Y at *
            go_upto_region 12 with fail
            refine r12 _ _ _ _ _ _ _ _ _ _ _ _ _ _ _ _ _ _ _ _ _ _ _ _ _ _ _ _ _ _ _ _ _ _ _ _ _ _ _ _ _ _ _ _ _ _ _ _ _ _ _ _ _ _ _ _ _ _ _ _ _ _ _ _ _ _ _ _ _ _ _ _ _ _ _ _ _ _ _ _ _ _ _ _ _ _ _ _ _ _ _ _ _ _ _ _ _ _ _ _ _ _ _ _ _ _ _ _ _ _ _ _ _ _ _ _ _ _ _ _ _ _ _ _ _ _ _ _ _ _ _ _ _ _ _ _ _ _ _ B D j k dj X Y _ HSP j0 j9 k0 k9 ?_
            intro c hc r32 r33 r34 r35 r36 r37 r38 r39 r40 r41 r42 r43 r44 r45 r46 r47 r48 r49 r50 r51 r52 r53 r54 r55 r56 r57 r58 wz bz
            have HN5 := hide ((unhide hN).below bz)
            have HB5 := hide ((unhide hbl).trans (bz.mono (Nat.le_of_lt (unhide hN).1.lt)))
            have HPC : Hid (pk bs ds j = if c = true then j else k) := hide (by rw [hc]; exact unhide HPK)
            clear hc HPK bz HSP hN hbl
            cases c
            · have HPY : Hid (pk bs ds j = k) := hide (by rw [unhide HPC]; rfl)
              go_wp2_with fail
              go_roundw
              case rel => exact ⟨j + 1, by omega, by omega, by go_num, by rw [Nat.add_sub_cancel, unhide HPY], HN5, HB5⟩
              case measure => simp [intOf]; omega
            · have HPY : Hid (pk bs ds j = j) := hide (by rw [unhide HPC]; rfl)
              go_wp2_with fail
              go_roundw
              case rel => exact ⟨j + 1, by omega, by omega, by go_num, by rw [Nat.add_sub_cancel, unhide HPY], HN5, HB5⟩
              case measure => simp [intOf]; omega
          · obtain rfl : j = 9 := by omega
            by_cases hk0 : pk bs ds (9 - 1) = 0
            · have hd := stm_done (unhide HG) (unhide hST) hk0
              have hbs : bs = mdl g (q : Int) := hd.1
              have HGD := hide hd.2
              have HBV : Hid (BV wo B (mdl g (q : Int))) := hide (by rw [← hbs]; exact (unhide hN).1)
              have hk' : ((pk bs ds (9 - 1) : Int) == 0) = true := by rw [hk0]; rfl
              clear hd hbs
              generalize pk bs ds (9 - 1) = k at *
              go_wp2_with fail
              go_ret
              exact ⟨_, rfl, by rw [unhide HBB]; exact unhide hbl, by rw [unhide HBB]; exact Nat.le_refl _, unhide HBV, unhide HGD⟩
            · have hpk := stm_pick (unhide hST) hk0
              obtain ⟨k, hk⟩ : ∃ k, pk bs ds (9 - 1) = k := ⟨_, rfl⟩
              have hstep := stm_step (unhide HG) (unhide hST) hk (by rw [← hk]; exact hk0)
              rw [show pk bs ds 8 = k from hk] at hpk
              rw [hk] at hk0 ⊢
              obtain ⟨hk8, hdk, _, hok, hhq⟩ := hpk
              have HSTP := hide hstep
              have hk' : ((k : Int) == 0) = false := by simpa using hk0
              have k0 : (0 : Int) ≤ (k : Int) := by omega
              have k9 : (k : Int) < 9 := by omega
              have d0 := (unhide hN).2.at (i := k) (by rw [unhide HD9]; omega)
              have f0 := (unhide hN).2.free k
              obtain ⟨ds2, hds2⟩ : ∃ ds2, ds.set k true = ds2 := ⟨_, rfl⟩
              have HN2 : Hid (Nin (wo.setCell ⟨D, k, none⟩ (.bool true)) B D bs ds2) := hide ⟨(Below.heap_setCell _ _ _ _ (show B ≠ D by omega)).trans (unhide hN).1, by rw [← hds2]; exact (unhide hN).2.set k true⟩
              have HB2 : Hid (Below B w (wo.setCell ⟨D, k, none⟩ (.bool true))) := hide ((unhide hbl).setCell (p := ⟨D, k, none⟩) (show B ≤ D by omega) _)
              have HDK : Hid (dn ds2 k = true) := hide (by rw [← hds2, dn_set (by rw [unhide HD9]; omega), if_pos rfl])
              have HDL : Hid (ds2.length = 9) := hide (by rw [← hds2, List.length_set]; exact unhide HD9)
              have hbd : (at' bs k).ds = (k : Int) := (unhide hST).tag k hk8.2
              rw [hds2] at HSTP
              have HRI : Hid (∀ i, i ≤ g.length → RlI g (at' bs k) ds2 bs (rl g (at' bs k) ds2 bs i) i) := hide (fun i hi => rl_inv (unhide HG) (by unfold okN at hok; omega) (unhide HL9) i hi)
              have HBK : Hid (∀ i, i ≤ g.length → at' (rl g (at' bs k) ds2 bs i) k = at' bs k) := hide (fun i hi => by
                rcases (unhide HRI i hi).keep k hk8.2 with e | ⟨_, e, _⟩
                · exact e
                · rw [unhide HDK] at e; cases e)
              have HRS : Hid (∀ i, rl g (at' bs k) ds2 bs (i + 1) = rl1 (at' bs k) ds2 (rl g (at' bs k) ds2 bs i) (g.getD i Tu.R.zero)) := hide (fun i => rfl)
              have HR0 : Hid (Nin (wo.setCell ⟨D, k, none⟩ (.bool true)) B D (rl g (at' bs k) ds2 bs 0) ds2) := HN2
              have HRM : Hid (∀ W, Below B w W → Tu.RM W a g) := hide (fun W h => (unhide HR).below (by rw [unhide HBB]; exact h))
              clear hds2 hdk hk hk0 hstep hN hbl HN2
              generalize dn ds k = dk at *
              generalize at' bs k = b at *
              obtain ⟨bd, bn, bc, bh⟩ := b
              unfold okN at hok
              dsimp only at hok hhq hbd
              subst hbd
              go_wp2_with fail
              clear d0 f0
              generalize hW2 : wo.setCell ⟨D, k, none⟩ (.bool true) = W2 at *
              clear hW2
              go_loopw [10] (fun iv wr => ∃ i : Nat, i ≤ n ∧ iv = .int .i64 (i : Int) ∧ Hid (Nin wr B D (rl g ⟨(k : Int), bn, bc, bh⟩ ds2 bs i) ds2) ∧ Hid (Below B w wr)) (fun iv _ => n - (intOf iv).toNat)
              case atStart => exact ⟨0, by omega, rfl, HR0, HB2⟩
              case round =>
                obtain ⟨i, hi, rfl, hN, hbl⟩ := hrel
                by_cases hlt : (i : Int) < (n : Int)
                · have i0 : (0 : Int) ≤ (i : Int) := by omega
                  have hlen : i < g.length := by rw [unhide HN]; omega
                  have HRr := hide (unhide HRM _ (unhide hbl))
                  obtain ⟨ga, off, rfl⟩ := (unhide HRr).form (by omega)
                  have hA := (unhide HRr).at hlen
                  have hbd := St.ok_bounds (St.setB_ok (two_set (graph_two (unhide HG))) hlen)
                  have hbk := ok_k (two_ok (graph_two (unhide HG)) _ (Tu.getD_mem hlen))
                  have HRX := hide (unhide HRS i)
                  have HKB := hide (unhide HBK i (by omega))
                  have HLB := hide (unhide HRI i (by omega)).len
                  unfold rl1 at HRX
                  unfold hv ha at hbk HRX
                  generalize g.getD i Tu.R.zero = m at *
                  obtain ⟨key, til, val⟩ := m
                  dsimp only at hbd hbk HRX
                  rw [Int.tdiv_eq_ediv_of_nonneg hbd.1, Int.tmod_eq_emod_of_nonneg hbd.1] at hbk HRX
                  obtain ⟨c0, c1, c2⟩ := hA
                  dsimp only at c0 c1 c2
                  have hsl := (unhide hN).1.lt
                  generalize rl g ⟨(k : Int), bn, bc, bh⟩ ds2 bs i = Bi at *
                  generalize hrn : rl g ⟨(k : Int), bn, bc, bh⟩ ds2 bs (i + 1) = Bn at *
                  have HBN := hide hrn
                  clear hrn
                  by_cases hhk : key / 100 = (k : Int)
                  · have hh' : (key / 100 != (k : Int)) = false := by simpa using hhk
                    obtain ⟨t, ht⟩ : ∃ t : Nat, key % 100 = (t : Int) := ⟨(key % 100).toNat, by omega⟩
                    have ht8 : 1 ≤ t ∧ t ≤ 8 := by omega
                    have t0 : (0 : Int) ≤ (t : Int) := by omega
                    have t9 : (t : Int) < 9 := by omega
                    have HRX2 : Hid (Bn = if betB Bi ds2 (ext ⟨(k : Int), bn, bc, bh⟩ (t : Int) val) t = true then Bi.set t (ext ⟨(k : Int), bn, bc, bh⟩ (t : Int) val) else Bi) := hide (by
                      rw [unhide HRX, ht, Int.toNat_natCast]
                      simp only [hhk, true_and])
                    unfold betB at HRX2
                    have hbc : bc + val ≤ 9223372036854775807 := by omega
                    have HSP := hide (sP_of (unhide hN) (unhide HLB) (unhide HDL) (j := t) (k := k) (by omega) (by omega))
                    rw [unhide HKB] at HSP
                    have HTA := hide ht
                    clear HRX hhk
                    go_upto_region 22 with fail
                    refine r22 _ _ _ _ _ _ _ _ _ _ _ _ _ _ _ _ _ _ _ _ _ _ _ _ _ _ _ _ _ _ _ _ _ _ _ _ _ _ _ _ _ _ _ _ _ _ _ _ _ _ _ _ _ _ _ _ _ _ _ _ _ _ _ _ _ _ _ _ _ _ _ _ _ _ _ _ _ _ _ _ _ _ _ _ _ _ _ _ _ _ _ _ _ _ _ _ _ _ _ _ _ _ _ _ _ _ _ _ _ _ _ _ _ _ _ _ _ _ _ _ _ _ _ _ _ _ _ _ _ _ _ _ _ _ _ _ _ _ ga off n cap B k i (key % 100) (k : Int) bn bc bh val _ (hide (unhide HSP).2.2) c2 k0 k9 i0 hlt (by omega) (by omega) hbc (by omega) (by omega) ?_
                    intro r87 r88 r89 r90 r91 r92 r93 r94 r95 r96 r97 r98 r99 r100 r101 r102 r103 r104 r105 r106 r107 r108 r109 r110 wz hwz
                    subst hwz
                    rw [ht]
                    by_cases hkq : (k : Int) = (q : Int)
                    · have hkq' : ((k : Int) == (q : Int)) = true := by simpa using hkq
                      have HB00 : Hid (bh = 0) := hide (hhq.2 hkq)
                      have HEX : Hid (ext ⟨(k : Int), bn, bc, bh⟩ (t : Int) val = ⟨(t : Int), (t : Int), bc + val, bh + 1⟩) := hide (by unfold ext; dsimp only; rw [if_pos (unhide HB00)])
                      clear hkq hhq
                      have b1 : Below wr.heap.size wr (wr.alloc (.cells #[.int .i64 (t : Int), .int .i64 (t : Int), .int .i64 (bc + val), .int .i64 (bh + 1)] 87)).drew := ((Below.refl _ _).alloc (Nat.le_refl _) _).drew
                      have HN1 := hide ((unhide hN).below b1)
                      have HB1 := hide ((unhide hbl).trans (b1.mono (Nat.le_of_lt hsl)))
                      have HX1 : Hid (Bx (wr.alloc (.cells #[.int .i64 (t : Int), .int .i64 (t : Int), .int .i64 (bc + val), .int .i64 (bh + 1)] 87)).drew wr.heap.size ⟨(t : Int), (t : Int), bc + val, bh + 1⟩) := hide (bx_new wr ⟨(t : Int), (t : Int), bc + val, bh + 1⟩ 87).drew
                      have hXB : wr.heap.size ≠ B := by omega
                      have hXD : wr.heap.size ≠ D := by have := (unhide hN).2.lt; omega
                      go_upto_region 25 with fail
                      clear b1 c0 c1 c2 hN hbl ht HRr
                      generalize hW1 : (wr.alloc (.cells #[.int .i64 (t : Int), .int .i64 (t : Int), .int .i64 (bc + val), .int .i64 (bh + 1)] 87)).drew = W1 at *
                      clear hW1
                      generalize hX : wr.heap.size = X at *
                      clear hX
                      have HSQ := hide (sQ_of (unhide HN1) (unhide HLB) (unhide HDL) (j := t) (by omega) (unhide HX1))
                      have HFB : Hid (Bn = if (!dn ds2 t && (decide ((at' Bi t).co < 0) || btB (⟨(t : Int), (t : Int), bc + val, bh + 1⟩ : R) (at' Bi t))) = true then Bi.set t ⟨(t : Int), (t : Int), bc + val, bh + 1⟩ else Bi) := hide (by rw [unhide HRX2, unhide HEX])
                      clear HRX2 HSP
                      generalize hdj : dn ds2 t = dj at *
                      generalize hYY : at' Bi t = Y at *
                      clear hdj hYY
                      clear hbc
                      generalize hXC : bc + val = xc at *
                      generalize hXH : bh + 1 = xh at *
                      clear hXC hXH
                      have HN9 : Hid (∀ W, Nin W B D Bn ds2 → Nin W B D (rl g ⟨(k : Int), bn, bc, bh⟩ ds2 bs (i + 1)) ds2) := hide (fun W h => by rw [unhide HBN]; exact h)
                      refine r25 _ _ _ _ _ _ _ _ _ _ _ _ _ _ _ _ _ _ _ _ _ _ _ _ _ _ _ _ _ _ _ _ _ _ _ _ _ _ _ _ _ _ _ _ _ _ _ _ _ _ _ _ _ _ _ _ _ _ _ _ _ _ _ _ _ _ _ _ _ _ _ _ _ _ _ _ _ _ _ _ _ _ _ _ _ _ _ _ _ _ _ _ _ _ _ _ _ _ _ _ _ _ _ _ _ _ _ _ _ _ _ _ _ _ _ _ _ _ _ _ _ _ _ _ _ _ _ _ _ _ _ _ _ _ _ _ _ _ _ B D t X dj ⟨(t : Int), (t : Int), xc, xh⟩ Y _ HSQ t0 t9 ?_
                      intro c hc r116 r117 r118 r119 r120 r121 r122 r123 r124 r125 r126 r127 r128 r129 r130 r131 r132 r133 r134 r135 W3 bz
                      have HFC : Hid (Bn = if c = true then Bi.set t ⟨(t : Int), (t : Int), xc, xh⟩ else Bi) := hide (by rw [hc]; exact unhide HFB)
                      have HN3 := hide ((unhide HN1).below bz)
                      have HX3 := hide ((unhide HX1).below bz)
                      have HB3 := hide ((unhide HB1).trans (bz.mono (Nat.le_of_lt (unhide HN1).1.lt)))
                      clear bz hc HSQ HFB HN1 HX1 HB1
                      cases c
                      · have HE : Hid (Bn = Bi) := hide (by rw [unhide HFC]; rfl)
                        go_wp2_with fail
                        go_roundw
                        case rel => exact ⟨i + 1, by omega, by go_num, hide (unhide HN9 _ (by rw [unhide HE]; exact unhide HN3)), HB3⟩
                        case measure => simp [intOf]; omega
                      · have HE : Hid (Bn = Bi.set t ⟨(t : Int), (t : Int), xc, xh⟩) := hide (by rw [unhide HFC]; rfl)
                        have HTL : Hid (t < Bi.length) := hide (by rw [unhide HLB]; omega)
                        have HPN : Hid (Nin (put W3 B (t * 4) ⟨(t : Int), (t : Int), xc, xh⟩) B D Bn ds2) := hide ⟨by rw [unhide HE]; exact (unhide HN3).1.put (unhide HTL) _, (put_other hDB).trans (unhide HN3).2⟩
                        have HPB := hide (put_below (g := B) (o := t * 4) (m := ⟨(t : Int), (t : Int), xc, xh⟩) (unhide HB3) (Nat.le_refl _))
                        have HPN9 := hide (unhide HN9 _ (unhide HPN))
                        go_wp2_with (first | (refine wpList_loadR _ rfl rfl (m := ⟨(t : Int), (t : Int), xc, xh⟩) rfl (unhide HX3) ?_) | (refine wpList_storeR _ _ rfl rfl (t := t) (m := ⟨(t : Int), (t : Int), xc, xh⟩) rfl rfl (unhide HN3).1 (unhide HTL) ?_))
                        go_roundw
                        case rel => exact ⟨i + 1, by omega, by go_num, HPN9, HPB⟩
                        case measure => simp [intOf]; omega
                    · have hkq' : ((k : Int) == (q : Int)) = false := by simpa using hkq
                      have HB00 : Hid (¬ bh = 0) := hide (fun e => hkq (hhq.1 e))
                      have HEX : Hid (ext ⟨(k : Int), bn, bc, bh⟩ (t : Int) val = ⟨(t : Int), bn, bc + val, bh + 1⟩) := hide (by unfold ext; dsimp only; rw [if_neg (unhide HB00)])
                      clear hkq hhq
                      have b1 : Below wr.heap.size wr (wr.alloc (.cells #[.int .i64 (t : Int), .int .i64 bn, .int .i64 (bc + val), .int .i64 (bh + 1)] 87)).drew := ((Below.refl _ _).alloc (Nat.le_refl _) _).drew
                      have HN1 := hide ((unhide hN).below b1)
                      have HB1 := hide ((unhide hbl).trans (b1.mono (Nat.le_of_lt hsl)))
                      have HX1 : Hid (Bx (wr.alloc (.cells #[.int .i64 (t : Int), .int .i64 bn, .int .i64 (bc + val), .int .i64 (bh + 1)] 87)).drew wr.heap.size ⟨(t : Int), bn, bc + val, bh + 1⟩) := hide (bx_new wr ⟨(t : Int), bn, bc + val, bh + 1⟩ 87).drew
                      have hXB : wr.heap.size ≠ B := by omega
                      have hXD : wr.heap.size ≠ D := by have := (unhide hN).2.lt; omega
                      go_upto_region 25 with fail
                      clear b1 c0 c1 c2 hN hbl ht HRr
                      generalize hW1 : (wr.alloc (.cells #[.int .i64 (t : Int), .int .i64 bn, .int .i64 (bc + val), .int .i64 (bh + 1)] 87)).drew = W1 at *
                      clear hW1
                      generalize hX : wr.heap.size = X at *
                      clear hX
                      have HSQ := hide (sQ_of (unhide HN1) (unhide HLB) (unhide HDL) (j := t) (by omega) (unhide HX1))
                      have HFB : Hid (Bn = if (!dn ds2 t && (decide ((at' Bi t).co < 0) || btB (⟨(t : Int), bn, bc + val, bh + 1⟩ : R) (at' Bi t))) = true then Bi.set t ⟨(t : Int), bn, bc + val, bh + 1⟩ else Bi) := hide (by rw [unhide HRX2, unhide HEX])
                      clear HRX2 HSP
                      generalize hdj : dn ds2 t = dj at *
                      generalize hYY : at' Bi t = Y at *
                      clear hdj hYY
                      clear hbc
                      generalize hXC : bc + val = xc at *
                      generalize hXH : bh + 1 = xh at *
                      clear hXC hXH
                      have HN9 : Hid (∀ W, Nin W B D Bn ds2 → Nin W B D (rl g ⟨(k : Int), bn, bc, bh⟩ ds2 bs (i + 1)) ds2) := hide (fun W h => by rw [unhide HBN]; exact h)
                      refine r25 _ _ _ _ _ _ _ _ _ _ _ _ _ _ _ _ _ _ _ _ _ _ _ _ _ _ _ _ _ _ _ _ _ _ _ _ _ _ _ _ _ _ _ _ _ _ _ _ _ _ _ _ _ _ _ _ _ _ _ _ _ _ _ _ _ _ _ _ _ _ _ _ _ _ _ _ _ _ _ _ _ _ _ _ _ _ _ _ _ _ _ _ _ _ _ _ _ _ _ _ _ _ _ _ _ _ _ _ _ _ _ _ _ _ _ _ _ _ _ _ _ _ _ _ _ _ _ _ _ _ _ _ _ _ _ _ _ _ _ B D t X dj ⟨(t : Int), bn, xc, xh⟩ Y _ HSQ t0 t9 ?_
                      intro c hc r116 r117 r118 r119 r120 r121 r122 r123 r124 r125 r126 r127 r128 r129 r130 r131 r132 r133 r134 r135 W3 bz
                      have HFC : Hid (Bn = if c = true then Bi.set t ⟨(t : Int), bn, xc, xh⟩ else Bi) := hide (by rw [hc]; exact unhide HFB)
                      have HN3 := hide ((unhide HN1).below bz)
                      have HX3 := hide ((unhide HX1).below bz)
                      have HB3 := hide ((unhide HB1).trans (bz.mono (Nat.le_of_lt (unhide HN1).1.lt)))
                      clear bz hc HSQ HFB HN1 HX1 HB1
                      cases c
                      · have HE : Hid (Bn = Bi) := hide (by rw [unhide HFC]; rfl)
                        go_wp2_with fail
                        go_roundw
                        case rel => exact ⟨i + 1, by omega, by go_num, hide (unhide HN9 _ (by rw [unhide HE]; exact unhide HN3)), HB3⟩
                        case measure => simp [intOf]; omega
                      · have HE : Hid (Bn = Bi.set t ⟨(t : Int), bn, xc, xh⟩) := hide (by rw [unhide HFC]; rfl)
                        have HTL : Hid (t < Bi.length) := hide (by rw [unhide HLB]; omega)
                        have HPN : Hid (Nin (put W3 B (t * 4) ⟨(t : Int), bn, xc, xh⟩) B D Bn ds2) := hide ⟨by rw [unhide HE]; exact (unhide HN3).1.put (unhide HTL) _, (put_other hDB).trans (unhide HN3).2⟩
                        have HPB := hide (put_below (g := B) (o := t * 4) (m := ⟨(t : Int), bn, xc, xh⟩) (unhide HB3) (Nat.le_refl _))
                        have HPN9 := hide (unhide HN9 _ (unhide HPN))
                        go_wp2_with (first | (refine wpList_loadR _ rfl rfl (m := ⟨(t : Int), bn, xc, xh⟩) rfl (unhide HX3) ?_) | (refine wpList_storeR _ _ rfl rfl (t := t) (m := ⟨(t : Int), bn, xc, xh⟩) rfl rfl (unhide HN3).1 (unhide HTL) ?_))
                        go_roundw
                        case rel => exact ⟨i + 1, by omega, by go_num, HPN9, HPB⟩
                        case measure => simp [intOf]; omega
                  · have hh' : (key / 100 != (k : Int)) = true := by simpa using hhk
                    have HE : Hid (Bn = Bi) := hide (by rw [unhide HRX, if_neg (fun e => hhk e.1)])
                    have HN9 : Hid (Nin wr B D (rl g ⟨(k : Int), bn, bc, bh⟩ ds2 bs (i + 1)) ds2) := hide (by rw [unhide HBN, unhide HE]; exact unhide hN)
                    go_wp2_with fail
                    go_roundw
                    case rel => exact ⟨i + 1, by omega, by go_num, HN9, hbl⟩
                    case measure => simp [intOf]; omega
                · obtain rfl : i = n := by omega
                  obtain ⟨h1, h2⟩ := unhide HSTP
                  rw [unhide HN] at h1 h2
                  have HS9 := hide h1
                  have hm9 : 8 - cntW (WM (rl g ⟨(k : Int), bn, bc, bh⟩ ds2 bs i) ds2) < gk := by
                    have h3 := unhide hkx; have h4 := cnt_le (WM (rl g ⟨(k : Int), bn, bc, bh⟩ ds2 bs i) ds2); omega
                  clear h1 h2
                  go_wp2_with fail
                  go_roundg (8 - cntW (WM (rl g ⟨(k : Int), bn, bc, bh⟩ ds2 bs i) ds2))
                  case measure => exact hm9
                  case rel => exact ⟨_, ds2, hN, HS9, hbl, hide (Nat.le_refl _)⟩
end Wd
end Go.Proofs.YtfooahhdikobeaaGreat
namespace Go.Proofs.YtfooahhdikobeaaGreat
open Go.ChangeShapes Go.WideShapes Go.ChangeAt Go.RowKit
set_option linter.unusedVariables false
set_option linter.unusedSimpArgs false
set_option maxRecDepth 100000
attribute [local go_sem ↓] Go.wp_at_zero Go.wp_at_succ
namespace Wd
open W1 Ro Rw Tw
/-- What the model has of an address, and what the program has. -/
theorem mdl_ways {g : List Tu.R} {f : Int} (hG : Good g f (best g f)) {j : Nat} (hj : j < 8) :
    dstV (at' (waysL g f) j) = (at' (mdl g f) (j + 1)).co ∧ keptB f (at' (waysL g f) j) = (((j : Int) + 1 != f) && decide (0 ≤ (at' (mdl g f) (j + 1)).co)) ∧ (keptB f (at' (waysL g f) j) = true → at' (waysL g f) j = at' (mdl g f) (j + 1)) := by
  rw [waysL_at g f hj, mdl_at g f (by omega), if_neg (by omega)]
  have e : ((j + 1 : Nat) : Int) = (j : Int) + 1 := by omega
  rw [e]
  cases hb : best g f ((j : Int) + 1) with
  | none =>
    refine ⟨rfl, ?_, fun h => ?_⟩
    · show (false && _) = ((j : Int) + 1 != f && decide ((0 : Int) ≤ -1))
      simp
    · exfalso
      have : keptB f R.zero = false := rfl
      rw [show (none : Option R).getD R.zero = R.zero from rfl, this] at h; cases h
  | some x =>
    obtain ⟨h1, h2, _⟩ := hG.too _ x hb
    refine ⟨?_, ?_, fun _ => rfl⟩
    · show dstV x = x.co
      unfold dstV; rw [if_neg (by omega)]
    · show (x.ds != 0 && x.ds != f) = ((j : Int) + 1 != f && decide (0 ≤ x.co))
      rw [decide_eq_true h2, Bool.and_true, h1, show ((j : Int) + 1 != 0) = true by simp; omega, Bool.true_and]
theorem BV.rm {w : World} {b : Nat} {bs : List R} (h : BV w b bs) {i : Nat} (hi : i < bs.length) : At w b (i * 4) (at' bs i) := h.at hi
theorem BV.grown {w w' : World} {b : Nat} {bs : List R} {r : Option Nat} (h : BV w b bs) (hg : w.grownBy w' r) (hne : some b ≠ r) : BV w' b bs := (hg.block b h.lt hne).trans h
theorem wpList_apT {ops : Array Oper} {rest : List Oper} {o : Oper} {a : Act} {Q : Exit → Act → World → Prop} {w : World} {base : Nat} {v : Value} {xs : List R} (hown : w.ownsRow base 87 4 v xs.length (flat xs)) (g off m c : Nat) (zs : List R) (hm : zs.length = m) (hm0 : 0 < m) (hr : RM w (some ⟨g, off, none⟩) zs) (hlen : xs.length + zs.length ≤ 4194304) (hbase : base ≤ w.heap.size)
    (hgd : o.guard = none) (s x : Operand) (ho : o.op = .call { callee := .builtin .append, args := #[s, x], argTypes := #[88, 88] }) (hs : a.eval s = v) (hx : a.eval x = .slice (some ⟨g, off, none⟩) m c)
    (h : ∀ v' w', w'.ownsRow base 87 4 v' (xs ++ zs).length (flat (xs ++ zs)) → w.grownBy w' v.ownBlock → (v'.ownBlock = v.ownBlock ∨ v'.ownBlock = some w.heap.size) → wpList Tryz.prog ops Q rest (a.put o.dst v') w') : wpList Tryz.prog ops Q (o :: rest) a w := by
  subst hm
  obtain ⟨i0, hi, hz0, hz1, hz2⟩ := infoR
  refine wpList_append_lies w hgd s x _ ho base 87 i0 _ 4 32 Tryz.underlying88 hi hz0 hz1 hz2 rfl (by decide) v xs.length (flat xs) hs hown ⟨g, off, none⟩ zs.length c (flat zs) hx (flat_len zs) hr.cells (fun u hu => flat_one_cell hu) hm0 (by unfold maxLen; omega) (by omega) hbase _ rfl (fun g' cap w' h1 h2 h3 h4 => ?_)
  refine h _ w' ?_ h2 ?_
  · rw [List.length_append, flat_append]; exact h1
  · rcases h3 with h3 | h3
    · exact .inl h3.symm
    · exact .inr (by rw [h3]; rfl)
set_option maxHeartbeats 8000000 in
theorem l11List (a : Option Addr) (g : List Tu.R) (cap : Nat) (f : Int) (w : World) (hg : graphB g = true) (hf : 1 ≤ f ∧ f ≤ 8) (hr : Tu.RM w a g) :
    Calls Tryz.prog 120 #[.slice a g.length cap, .int .i64 f] w fun e w' => ∃ v, e = .returned v ∧ Below w.heap.size w w' ∧ LstV w' v (rouL g f) w.heap.size w'.heap.size := by
  have HR := hide hr
  have HLR : Hid (∀ W, Tu.RM W a g → Calls Tryz.prog 64 #[.slice a g.length cap, .int .i64 f] W fun e w' => ∃ b, e = .returned (.slice (some ⟨b, 0, none⟩) 9 9) ∧ Below W.heap.size W w' ∧ W.heap.size ≤ b ∧ BV w' b (mdl g f) ∧ Good g f (best g f)) := hide (fun W h => l11Routes a g cap f W hg hf h)
  have BE : Hid (Below w.heap.size w (w.alloc (.cells #[] 87))) := hide ((Below.refl _ _).alloc (Nat.le_refl _) _)
  clear hr hg hf
  go_enter Tryz.func120, Tryz.ntmps120
  go_wp2_with fail
  refine (unhide HLR _ ((unhide HR).below (unhide BE))).mono ?_
  rintro e w2 ⟨B, rfl, b2, hB, bv2, hG⟩
  have HB2 := hide ((unhide BE).trans (b2.mono (unhide BE).size))
  have OW2 : Hid (w2.ownsRow w.heap.size 87 4 (.slice (some ⟨w.heap.size, 0, none⟩) 0 0) (((waysL g f).take 0).filter (keptB f)).length (flat (((waysL g f).take 0).filter (keptB f)))) := hide ((World.ownsRow_made w #[] 0 (Nat.le_refl _) (Nat.zero_le _) rfl).kept (row := none) ⟨b2.os, b2.tape, b2.output, b2.size, fun k hk _ => b2.block k hk⟩ (by simp [Value.ownBlock]))
  have hs2 := b2.size
  simp only [World.size_alloc] at hs2 hB
  have HBV := hide bv2
  have HTY : Hid (∀ j : Nat, j < 8 → (((j : Int) + 1 != f) && decide (0 ≤ (at' (mdl g f) (j + 1)).co)) = true → ((waysL g f).take (j + 1)).filter (keptB f) = ((waysL g f).take j).filter (keptB f) ++ [at' (mdl g f) (j + 1)]) := hide (fun j hj hk => by
    have hk' : keptB f (at' (waysL g f) j) = true := by rw [(mdl_ways hG hj).2.1]; exact hk
    rw [tk1 R.zero (by rw [waysL_len]; exact hj), List.filter_append, show (waysL g f).getD j R.zero = at' (waysL g f) j from rfl, List.filter_cons_of_pos hk', (mdl_ways hG hj).2.2 hk']; rfl)
  have HTN : Hid (∀ j : Nat, j < 8 → (((j : Int) + 1 != f) && decide (0 ≤ (at' (mdl g f) (j + 1)).co)) = false → ((waysL g f).take (j + 1)).filter (keptB f) = ((waysL g f).take j).filter (keptB f)) := hide (fun j hj hk => by
    have hk' : keptB f (at' (waysL g f) j) = false := by rw [(mdl_ways hG hj).2.1]; exact hk
    rw [tk1 R.zero (by rw [waysL_len]; exact hj), List.filter_append, show (waysL g f).getD j R.zero = at' (waysL g f) j from rfl, List.filter_cons_of_neg (by rw [hk']; simp)]; simp)
  have HTL : Hid (∀ j, (((waysL g f).take j).filter (keptB f)).length ≤ 8) := hide (fun j => by have := List.length_filter_le (keptB f) ((waysL g f).take j); rw [List.length_take, waysL_len] at this; omega)
  have HFL : Hid (((waysL g f).take 8).filter (keptB f) = rouL g f) := hide (by rw [List.take_of_length_le (by rw [waysL_len]; exact Nat.le_refl _)]; rfl)
  have HML := hide (mdl_len g f)
  clear b2 bv2 hG HLR BE
  generalize mdl g f = ms at *
  generalize hWL : waysL g f = ws at *
  clear hWL
  go_wp2_with fail
  go_loopw [5, 7] (fun v iv wr => ∃ t : Nat, 1 ≤ t ∧ t ≤ 9 ∧ iv = .int .i64 (t : Int) ∧ Hid (wr.ownsRow w.heap.size 87 4 v ((ws.take (t - 1)).filter (keptB f)).length (flat ((ws.take (t - 1)).filter (keptB f)))) ∧ Hid (v.ownBlock ≠ some B) ∧ Hid (BV wr B ms) ∧ Hid (Below w.heap.size w wr)) (fun _ iv _ => 9 - (intOf iv).toNat)
  case atStart => exact ⟨1, by omega, by omega, rfl, OW2, hide (by simp [Value.ownBlock]; omega), HBV, HB2⟩
  case round =>
    obtain ⟨t, ht1, ht9, rfl, how, hvb, hbv, hbl⟩ := hrel
    have hbs := (unhide hbl).size
    by_cases hlt : (t : Int) ≤ 8
    · have t0 : (0 : Int) ≤ (t : Int) := by omega
      have t9 : (t : Int) < 9 := by omega
      have ej : ((t - 1 : Nat) : Int) + 1 = (t : Int) := by omega
      have HTy : Hid (((t : Int) != f && decide (0 ≤ (at' ms t).co)) = true → (ws.take t).filter (keptB f) = (ws.take (t - 1)).filter (keptB f) ++ [at' ms t]) := hide (by have := unhide HTY (t - 1) (by omega); rw [show t - 1 + 1 = t by omega, ej] at this; exact this)
      have HTn : Hid (((t : Int) != f && decide (0 ≤ (at' ms t).co)) = false → (ws.take t).filter (keptB f) = (ws.take (t - 1)).filter (keptB f)) := hide (by have := unhide HTN (t - 1) (by omega); rw [show t - 1 + 1 = t by omega, ej] at this; exact this)
      have HTJ := unhide HTL (t - 1)
      obtain ⟨c0, c1, c2, c3⟩ := (unhide hbv).at (i := t) (by rw [unhide HML]; omega)
      have hlB := (unhide hbv).lt
      clear ej
      generalize at' ms t = x at *
      generalize hDT : (ws.take (t - 1)).filter (keptB f) = D1 at *
      clear hDT
      obtain ⟨xa, xn, xc, xh⟩ := x
      dsimp only at c0 c1 c2 c3 HTy HTn
      cases hd : ((t : Int) != f)
      · have HTF := hide (unhide HTn (by rw [hd]; rfl))
        have HO : Hid (wr.ownsRow w.heap.size 87 4 u5 ((ws.take (t + 1 - 1)).filter (keptB f)).length (flat ((ws.take (t + 1 - 1)).filter (keptB f)))) := hide (by rw [Nat.add_sub_cancel, unhide HTF]; exact unhide how)
        clear HTy HTn
        go_wp2_with fail
        go_roundw
        case rel => exact ⟨t + 1, by omega, by omega, by go_num, HO, hvb, hbv, hbl⟩
        case measure => simp [intOf]; omega
      · by_cases hxc : 0 ≤ xc
        · have HTF := hide (unhide HTy (by rw [hd, decide_eq_true hxc]; rfl))
          clear HTy HTn
          go_wp2_with (at_builtin; refine wpList_apT ((unhide how).alloc _) wr.heap.size 0 1 1 [(⟨xa, xn, xc, xh⟩ : R)] rfl (by omega) (rm_new wr ⟨xa, xn, xc, xh⟩) (by simp only [List.length_cons, List.length_nil]; omega) (by simp; omega) rfl _ _ rfl rfl rfl ?_; intro v' w' ho hg hv; have HO : Hid (w'.ownsRow w.heap.size 87 4 v' ((ws.take (t + 1 - 1)).filter (keptB f)).length (flat ((ws.take (t + 1 - 1)).filter (keptB f)))) := hide (by rw [Nat.add_sub_cancel, unhide HTF]; exact ho); have HBB := hide (((unhide hbv).below ((Below.refl _ _).alloc (Nat.le_refl _) (.cells #[.int .i64 xa, .int .i64 xn, .int .i64 xc, .int .i64 xh] 87))).grown hg (fun e => unhide hvb e.symm)); have HVB : Hid (v'.ownBlock ≠ some B) := hide (by rcases hv with e | e; rw [e]; exact unhide hvb; rw [e]; simp; omega); have HB := hide (below_own ((unhide hbl).alloc hbs _) ((unhide how).alloc _) hg (Nat.le_refl _) (by simp; omega)); clear ho hg hv)
          go_roundw
          case rel => exact ⟨t + 1, by omega, by omega, by go_num, HO, HVB, HBB, HB⟩
          case measure => simp [intOf]; omega
        · have HTF := hide (unhide HTn (by rw [hd, decide_eq_false hxc]; rfl))
          have HO : Hid (wr.ownsRow w.heap.size 87 4 u5 ((ws.take (t + 1 - 1)).filter (keptB f)).length (flat ((ws.take (t + 1 - 1)).filter (keptB f)))) := hide (by rw [Nat.add_sub_cancel, unhide HTF]; exact unhide how)
          clear HTy HTn
          go_wp2_with fail
          go_roundw
          case rel => exact ⟨t + 1, by omega, by omega, by go_num, HO, hvb, hbv, hbl⟩
          case measure => simp [intOf]; omega
    · obtain rfl : t = 9 := by omega
      have HL : Hid (LstV wr u5 (rouL g f) w.heap.size wr.heap.size) := hide (by
        have := lst_own rfl (unhide how)
        rw [show 9 - 1 = 8 from rfl, unhide HFL] at this
        exact this)
      go_wp2_with fail
      go_ret
      exact ⟨_, rfl, unhide hbl, unhide HL⟩
end Wd
end Go.Proofs.YtfooahhdikobeaaGreat
namespace Go.Proofs.YtfooahhdikobeaaGreat
open Go.ChangeShapes Go.WideShapes Go.ChangeAt Go.RowKit
set_option linter.unusedVariables false
set_option linter.unusedSimpArgs false
set_option maxRecDepth 100000
attribute [local go_sem ↓] Go.wp_at_zero Go.wp_at_succ
namespace Rt
open W1
noncomputable def rrA (me now : Int) (ls : List Lk.R) (es : List Tu.R) (b : Bool) : List Ro.R := if b = true then Wd.rouL (Gr.graph me ls es now) me else []
theorem rtr_parts {x1 x2 x3 x4 x5 x6 : Int} {ls : List Lk.R} {tw : List Tu.R} {se : List Tu.R} {du : List Tu.R} {ss : List So.R} {es : List Tu.R} {la : List Ed.R} (h : rtrB x1 x2 x3 x4 x5 x6 ls tw se du ss es la = true) : inB x1 1 8 = true ∧ Ln.linksB ls = true ∧ Tp.topB ss es = true := by
  unfold rtrB lksB at h
  simp only [Bool.and_eq_true] at h
  obtain ⟨h1, h2, h3, h4, h5, h6, ⟨h7, _⟩, h8, h9, h10, h11, h12⟩ := h
  exact ⟨h1, h7, h11⟩
theorem pos_L {me now : Int} {ls : List Lk.R} : ∀ j, ∀ m ∈ Gr.grL me now ls j, 1 ≤ m.val := by
  intro j
  unfold Gr.grL
  generalize ls.take j = xs
  have : ∀ (xs : List Lk.R) (L : List Tu.R), (∀ m ∈ L, 1 ≤ m.val) → ∀ m ∈ xs.foldl (fun L x => if Gr.lkOn me now x = true then St.putL L (Gr.lkT me x) else L) L, 1 ≤ m.val := by
    intro xs
    induction xs with
    | nil => intro L h m hm; exact h m hm
    | cons x r ih =>
      intro L h
      rw [List.foldl_cons]
      refine ih _ ?_
      split
      · rename_i hx
        intro m hm
        rcases Tw.mem_put hm with rfl | hm
        · unfold Gr.lkOn at hx
          simp only [Bool.and_eq_true, decide_eq_true_eq] at hx
          unfold Gr.lkT; dsimp only; omega
        · exact h m hm
      · exact h
  exact this xs [] (by simp)
theorem pos_E {me now : Int} {L es : List Tu.R} (hL : ∀ m ∈ L, 1 ≤ m.val) (he : ∀ m ∈ es, 1 ≤ m.val) : ∀ m ∈ Gr.grE me now L es es.length, 1 ≤ m.val := by
  unfold Gr.grE
  rw [List.take_length]
  have : ∀ (xs L : List Tu.R), (∀ m ∈ xs, 1 ≤ m.val) → (∀ m ∈ L, 1 ≤ m.val) → ∀ m ∈ xs.foldl (fun L e => if Gr.edOn me now e = true then St.putL L (Gr.edT e) else L) L, 1 ≤ m.val := by
    intro xs
    induction xs with
    | nil => intro L _ h m hm; exact h m hm
    | cons x r ih =>
      intro L hx h
      rw [List.foldl_cons]
      refine ih _ (fun m hm => hx m (List.mem_cons_of_mem _ hm)) ?_
      split
      · intro m hm
        rcases Tw.mem_put hm with rfl | hm
        · exact hx x List.mem_cons_self
        · exact h m hm
      · exact h
  exact this es L he hL
theorem graph_right {me now : Int} {ls : List Lk.R} {ss : List So.R} {es : List Tu.R} (h1 : inB me 1 8 = true) (h2 : Ln.linksB ls = true) (h3 : Tp.topB ss es = true) : Wd.graphB (Gr.graph me ls es now) = true := by
  refine Wd.graph_of (Gr.graph_two (Gr.gra_ok h2 h1 h3)) ?_
  unfold Gr.graph
  refine pos_E (pos_L _) (fun m hm => ?_)
  have := Tp.top_edg h3 m hm
  unfold Tp.okE at this
  simp only [Bool.and_eq_true, decide_eq_true_eq] at this
  exact this.1
theorem sRR {w : World} {b : Nat} {x1 x2 x3 x4 x5 x6 : Int} {v1 v2 v3 v4 v5 v6 v7 : Value} (h : RA w b (rC x1 x2 x3 x4 x5 v1 v2 v3 v4 v5 v6 v7 x6)) :
    RA w b (rC x1 x2 x3 x4 x5 v1 v2 v3 v4 v5 v6 v7 x6) ∧ w.cell? ⟨b, 0, none⟩ = some (.int .i64 x1) ∧ w.cell? ⟨b, 4, none⟩ = some (.int .i64 x5) ∧ w.cell? ⟨b, 5, none⟩ = some v1 ∧ w.cell? ⟨b, 9, none⟩ = some v5 ∧ w.cell? ⟨b, 10, none⟩ = some v6 :=
  ⟨h, h.at (i := 0) rfl, h.at (i := 4) rfl, h.at (i := 5) rfl, h.at (i := 9) rfl, h.at (i := 10) rfl⟩
theorem rou_yes {g : List Tu.R} {f : Int} (h : Wd.codeG g f = 0) : Wd.rouA g f = Wd.rouL g f := by unfold Wd.rouA; rw [if_pos h]
set_option maxHeartbeats 8000000 in
theorem implRR (x1 x2 x3 x4 x5 x6 : Int) (a1 a2 a3 a4 a5 a6 a7 : Option Addr) (c1 c2 c3 c4 c5 c6 c7 : Nat) (ls : List Lk.R) (tw : List Tu.R) (se : List Tu.R) (du : List Tu.R) (ss : List So.R) (es : List Tu.R) (la : List Ed.R) (w : World) (hm1 : ls.length ≤ 1048576) (hm2 : tw.length ≤ 1048576) (hm3 : se.length ≤ 1048576) (hm4 : du.length ≤ 1048576) (hm5 : ss.length ≤ 1048576) (hm6 : es.length ≤ 1048576) (hm7 : la.length ≤ 1048576) (hr1 : Lk.RM w a1 ls) (hr2 : Tu.RM w a2 tw) (hr3 : Tu.RM w a3 se) (hr4 : Tu.RM w a4 du) (hr5 : So.RM w a5 ss) (hr6 : Tu.RM w a6 es) (hr7 : Ed.RM w a7 la) :
    Calls Tryz.prog 70 #[.agg #[.int .i64 x1, .int .i64 x2, .int .i64 x3, .int .i64 x4, .int .i64 x5, .slice a1 ls.length c1, .slice a2 tw.length c2, .slice a3 se.length c3, .slice a4 du.length c4, .slice a5 ss.length c5, .slice a6 es.length c6, .slice a7 la.length c7, .int .i64 x6]] w fun e w' => ∃ v, e = .returned (.tuple #[v, .int .i64 (rtrC (rtrB x1 x2 x3 x4 x5 x6 ls tw se du ss es la))]) ∧ Below w.heap.size w w' ∧ Ro.LstV w' v (rrA x1 x5 ls es (rtrB x1 x2 x3 x4 x5 x6 ls tw se du ss es la)) w.heap.size w'.heap.size := by
  have HAL : Hid (Al w (w.alloc (.cells #[.int .i64 x1, .int .i64 x2, .int .i64 x3, .int .i64 x4, .int .i64 x5, .slice a1 ls.length c1, .slice a2 tw.length c2, .slice a3 se.length c3, .slice a4 du.length c4, .slice a5 ss.length c5, .slice a6 es.length c6, .slice a7 la.length c7, .int .i64 x6] 83)) (rC x1 x2 x3 x4 x5 (.slice a1 ls.length c1) (.slice a2 tw.length c2) (.slice a3 se.length c3) (.slice a4 du.length c4) (.slice a5 ss.length c5) (.slice a6 es.length c6) (.slice a7 la.length c7) x6)) := hide ⟨(Below.refl _ _).alloc (Nat.le_refl _) _, ra_new w _ rfl _⟩
  have HR1 := hide hr1
  clear hr1
  have HR2 := hide hr2
  clear hr2
  have HR3 := hide hr3
  clear hr3
  have HR4 := hide hr4
  clear hr4
  have HR5 := hide hr5
  clear hr5
  have HR6 := hide hr6
  clear hr6
  have HR7 := hide hr7
  clear hr7
  have KO := hide (fun W => implRtr x1 x2 x3 x4 x5 x6 a1 a2 a3 a4 a5 a6 a7 c1 c2 c3 c4 c5 c6 c7 ls tw se du ss es la W hm1 hm2 hm3 hm4 hm5 hm6 hm7)
  have KG := hide (fun W => Gr.implGraph x1 a1 ls c1 a5 ss c5 a6 es c6 x5 W hm1 hm5 hm6)
  cases hB : rtrB x1 x2 x3 x4 x5 x6 ls tw se du ss es la
  · rw [hB] at KO
    rw [show rtrC false = 1 from rfl, show rrA x1 x5 ls es false = [] from rfl]
    clear hB
    go_enter Tryz.func70, Tryz.ntmps70
    go_wp2_with (refine wpList_loadR _ rfl rfl rfl (unhide HAL).2 ?_)
    generalize hW0 : w.alloc (.cells #[.int .i64 x1, .int .i64 x2, .int .i64 x3, .int .i64 x4, .int .i64 x5, .slice a1 ls.length c1, .slice a2 tw.length c2, .slice a3 se.length c3, .slice a4 du.length c4, .slice a5 ss.length c5, .slice a6 es.length c6, .slice a7 la.length c7, .int .i64 x6] 83) = W0 at *
    clear hW0
    refine (unhide KO _ ((unhide HR1).below (unhide HAL).1) ((unhide HR2).below (unhide HAL).1) ((unhide HR3).below (unhide HAL).1) ((unhide HR4).below (unhide HAL).1) ((unhide HR5).below (unhide HAL).1) ((unhide HR6).below (unhide HAL).1) ((unhide HR7).below (unhide HAL).1)).mono ?_
    rintro e V1 ⟨rfl, b_⟩
    replace HAL := hide (al_below (unhide HAL) b_)
    clear b_
    go_wp2_with fail
    go_ret2
    exact ⟨_, rfl, (unhide HAL).1, Ro.lstV_nil _ _ _ _ _⟩
  · obtain ⟨q1, q2, q3⟩ := rtr_parts hB
    have hg := graph_right (now := x5) q1 q2 q3
    have hc := Gr.gra_ok q2 q1 q3
    have hl := Tw.two_len (Gr.graph_two (now := x5) hc)
    rw [show rtrC true = 0 from rfl, show rrA x1 x5 ls es true = Wd.rouL (Gr.graph x1 ls es x5) x1 from rfl]
    rw [hB] at KO
    rw [hc, Gr.gra_yes hc] at KG
    generalize Gr.graph x1 ls es x5 = G at *
    have KR := hide (fun W a c => Wd.implRoutes a G c x1 W (by omega))
    rw [rou_yes (Wd.codeG_zero hg q1), Wd.codeG_zero hg q1] at KR
    clear hB hc hg q1 q2 q3
    go_enter Tryz.func70, Tryz.ntmps70
    go_wp2_with (refine wpList_loadR _ rfl rfl rfl (unhide HAL).2 ?_)
    generalize hW0 : w.alloc (.cells #[.int .i64 x1, .int .i64 x2, .int .i64 x3, .int .i64 x4, .int .i64 x5, .slice a1 ls.length c1, .slice a2 tw.length c2, .slice a3 se.length c3, .slice a4 du.length c4, .slice a5 ss.length c5, .slice a6 es.length c6, .slice a7 la.length c7, .int .i64 x6] 83) = W0 at *
    clear hW0
    refine (unhide KO _ ((unhide HR1).below (unhide HAL).1) ((unhide HR2).below (unhide HAL).1) ((unhide HR3).below (unhide HAL).1) ((unhide HR4).below (unhide HAL).1) ((unhide HR5).below (unhide HAL).1) ((unhide HR6).below (unhide HAL).1) ((unhide HR7).below (unhide HAL).1)).mono ?_
    rintro e V1 ⟨rfl, b_⟩
    replace HAL := hide (al_below (unhide HAL) b_)
    clear b_
    have z0 := (unhide HAL).2.at (i := 0) rfl
    have z5 := (unhide HAL).2.at (i := 5) rfl
    have z9 := (unhide HAL).2.at (i := 9) rfl
    have z10 := (unhide HAL).2.at (i := 10) rfl
    have z4 := (unhide HAL).2.at (i := 4) rfl
    go_wp2_with fail
    clear z0 z5 z9 z10 z4
    refine (unhide KG _ ((unhide HR1).below (unhide HAL).1) ((unhide HR5).below (unhide HAL).1) ((unhide HR6).below (unhide HAL).1)).mono ?_
    rintro e V2 ⟨v2, rfl, b_, lv⟩
    replace HAL := hide (al_below (unhide HAL) b_)
    obtain ⟨ga, gc, rfl, gl⟩ := lv
    have HG := hide gl.rm
    clear b_ gl
    have z0 := (unhide HAL).2.at (i := 0) rfl
    go_wp2_with fail
    clear z0
    refine (unhide KR _ _ _ (unhide HG)).mono ?_
    rintro e V3 ⟨v3, rfl, b_, lv⟩
    have HL := hide (lv.mono (unhide HAL).1.size (Nat.le_refl _))
    replace HAL := hide (al_below (unhide HAL) b_)
    clear b_ lv
    go_wp2_with fail
    go_ret2
    exact ⟨_, rfl, (unhide HAL).1, unhide HL⟩
set_option maxHeartbeats 8000000 in
theorem l12Routes (x1 x2 x3 x4 x5 x6 : Int) (a1 a2 a3 a4 a5 a6 a7 : Option Addr) (c1 c2 c3 c4 c5 c6 c7 : Nat) (ls : List Lk.R) (tw : List Tu.R) (se : List Tu.R) (du : List Tu.R) (ss : List So.R) (es : List Tu.R) (la : List Ed.R) (w : World) (hm1 : ls.length ≤ 1048576) (hm2 : tw.length ≤ 1048576) (hm3 : se.length ≤ 1048576) (hm4 : du.length ≤ 1048576) (hm5 : ss.length ≤ 1048576) (hm6 : es.length ≤ 1048576) (hm7 : la.length ≤ 1048576) (hr1 : Lk.RM w a1 ls) (hr2 : Tu.RM w a2 tw) (hr3 : Tu.RM w a3 se) (hr4 : Tu.RM w a4 du) (hr5 : So.RM w a5 ss) (hr6 : Tu.RM w a6 es) (hr7 : Ed.RM w a7 la) (hg : Wd.graphB (Gr.graph x1 ls es x5) = true) (hf : 1 ≤ x1 ∧ x1 ≤ 8) (hc : Gr.graC x1 ls ss es = 0) :
    Calls Tryz.prog 121 #[.agg #[.int .i64 x1, .int .i64 x2, .int .i64 x3, .int .i64 x4, .int .i64 x5, .slice a1 ls.length c1, .slice a2 tw.length c2, .slice a3 se.length c3, .slice a4 du.length c4, .slice a5 ss.length c5, .slice a6 es.length c6, .slice a7 la.length c7, .int .i64 x6]] w fun e w' => ∃ v, e = .returned v ∧ Below w.heap.size w w' ∧ Ro.LstV w' v (Wd.rouL (Gr.graph x1 ls es x5) x1) w.heap.size w'.heap.size := by
  have HAL : Hid (Al w (w.alloc (.cells #[.int .i64 x1, .int .i64 x2, .int .i64 x3, .int .i64 x4, .int .i64 x5, .slice a1 ls.length c1, .slice a2 tw.length c2, .slice a3 se.length c3, .slice a4 du.length c4, .slice a5 ss.length c5, .slice a6 es.length c6, .slice a7 la.length c7, .int .i64 x6] 83)) (rC x1 x2 x3 x4 x5 (.slice a1 ls.length c1) (.slice a2 tw.length c2) (.slice a3 se.length c3) (.slice a4 du.length c4) (.slice a5 ss.length c5) (.slice a6 es.length c6) (.slice a7 la.length c7) x6)) := hide ⟨(Below.refl _ _).alloc (Nat.le_refl _) _, ra_new w _ rfl _⟩
  have HR1 := hide hr1
  clear hr1
  have HR2 := hide hr2
  clear hr2
  have HR3 := hide hr3
  clear hr3
  have HR4 := hide hr4
  clear hr4
  have HR5 := hide hr5
  clear hr5
  have HR6 := hide hr6
  clear hr6
  have HR7 := hide hr7
  clear hr7
  have KG := hide (fun W => Gr.l11Graph x1 a1 ls c1 a5 ss c5 a6 es c6 x5 W hc)
  generalize Gr.graph x1 ls es x5 = G at *
  have KR := hide (fun W a c => Wd.l11List a G c x1 W hg hf)
  clear hc hg hf
  go_enter Tryz.func121, Tryz.ntmps121
  go_wp2_with fail
  generalize hW0 : w.alloc (.cells #[.int .i64 x1, .int .i64 x2, .int .i64 x3, .int .i64 x4, .int .i64 x5, .slice a1 ls.length c1, .slice a2 tw.length c2, .slice a3 se.length c3, .slice a4 du.length c4, .slice a5 ss.length c5, .slice a6 es.length c6, .slice a7 la.length c7, .int .i64 x6] 83) = W0 at *
  clear hW0
  refine wp_region_noPanic ?_
  refine wp_region_held_drew (S := fun w' => RA w' w.heap.size (rC x1 x2 x3 x4 x5 (.slice a1 ls.length c1) (.slice a2 tw.length c2) (.slice a3 se.length c3) (.slice a4 du.length c4) (.slice a5 ss.length c5) (.slice a6 es.length c6) (.slice a7 la.length c7) x6) ∧ w'.cell? ⟨w.heap.size, 0, none⟩ = some (.int .i64 x1) ∧ w'.cell? ⟨w.heap.size, 4, none⟩ = some (.int .i64 x5) ∧ w'.cell? ⟨w.heap.size, 5, none⟩ = some (.slice a1 ls.length c1) ∧ w'.cell? ⟨w.heap.size, 9, none⟩ = some (.slice a5 ss.length c5) ∧ w'.cell? ⟨w.heap.size, 10, none⟩ = some (.slice a6 es.length c6)) (by kernel_rfl) (sRR (unhide HAL).2.drew) (fun hHeld => ?_)
  refine Rg.t 0 3 ?_
  refine Rg.t 1 4 ?_
  refine Rg.t 2 5 ?_
  refine Rg.t 3 6 ?_
  refine Rg.t 4 7 ?_
  refine Rg.t 5 8 ?_
  refine Rg.t 6 9 ?_
  refine Rg.t 7 10 ?_
  refine Rg.t 9 12 ?_
  refine Rg.t 10 13 ?_
  (refine Rg.o 8 (fun K hK => ?_); go_simp)
  refine (unhide KG _ ((unhide HR1).below (unhide HAL).1.drew) ((unhide HR6).below (unhide HAL).1.drew)).mono ?_
  rintro e V2 ⟨v2, rfl, b__, lv⟩
  have b_ : Below W0.heap.size W0 V2 := (Below.refl _ _).drew.trans b__
  replace HAL := hide (al_below (unhide HAL) b_)
  obtain ⟨ga, gc, rfl, gl⟩ := lv
  have HG := hide gl.rm
  clear b_ b__ gl hHeld
  refine hK.out _ _ (sRR (unhide HAL).2) (fun hHeld => ?_)
  clear hK K
  (try simp only [Act.put, List.setIfInBounds_toArray, List.set_cons_zero, List.set_cons_succ])
  (refine Rg.o 11 (fun K hK => ?_); go_simp)
  refine (unhide KR _ _ _ (unhide HG)).mono ?_
  rintro e V3 ⟨v3, rfl, b_, lv⟩
  have HL := hide (lv.mono (unhide HAL).1.size (Nat.le_refl _))
  replace HAL := hide (al_below (unhide HAL) b_)
  clear b_ lv hHeld
  refine hK.out _ _ (sRR (unhide HAL).2) (fun hHeld => ?_)
  clear hK K
  (try simp only [Act.put, List.setIfInBounds_toArray, List.set_cons_zero, List.set_cons_succ])
  refine Rg.t 12 2 ?_
  refine wpAnyH_done (by kernel_rfl) (NoPanic.normal ?_) _
  clear hHeld
  go_wp2_with fail
  go_ret
  exact ⟨_, rfl, (unhide HAL).1, unhide HL⟩
end Rt
end Go.Proofs.YtfooahhdikobeaaGreat
namespace Go.Proofs.YtfooahhdikobeaaGreat
open Go.ChangeShapes Go.WideShapes Go.ChangeAt Go.RowKit
set_option linter.unusedVariables false
set_option linter.unusedSimpArgs false
set_option maxRecDepth 100000
attribute [local go_sem ↓] Go.wp_at_zero Go.wp_at_succ
namespace Nt
open W1 Rt
theorem inB_of {x a b : Int} (h1 : a ≤ x) (h2 : x ≤ b) : inB x a b = true := by simp [inB]; omega
theorem inB_out {x a b : Int} (h : inB x a b = true) : a ≤ x ∧ x ≤ b := by simpa [inB] using h
def gdB (x y : Ro.R) : Bool := x.ds == y.ds && x.co == y.co
def gdU (xs ys : List Ro.R) (j : Nat) : Bool := allI j fun i => gdB (xs.getD i Ro.R.zero) (ys.getD i Ro.R.zero)
def gdE (xs ys : List Ro.R) : Bool := decide (xs.length = ys.length) && gdU xs ys xs.length
theorem gdU_step (xs ys : List Ro.R) (j : Nat) : gdU xs ys (j + 1) = (gdU xs ys j && gdB (xs.getD j Ro.R.zero) (ys.getD j Ro.R.zero)) := by
  unfold gdU allI; rw [List.range_succ, List.all_append]; simp
theorem gdU_stop {xs ys : List Ro.R} {j n : Nat} (h : gdB (xs.getD j Ro.R.zero) (ys.getD j Ro.R.zero) = false) (hj : j < n) : gdU xs ys n = false := allI_no hj h
/-- The ways that a router has, and whether they are as good as those of the true graph. -/
noncomputable def hasR (m : Rm) : List Ro.R := Wd.rouL (Gr.graph m.x1 m.ls m.es m.x5) m.x1
noncomputable def cvB (ms : List Rm) (cs : List Int) (i : Nat) : Bool := gdE (hasR (ms.getD i Rm.zero)) (Wd.rouL (tgL cs ms.length (ms.length * ms.length)) ((i : Int) + 1))
theorem netB_c {ms : List Rm} {cs : List Int} {fs : List Fm.R} {t : Int} (h : netB ms cs fs t = true) : costB cs ms.length = true := by
  unfold netB rtsB at h
  simp only [Bool.and_eq_true] at h
  exact h.2.2.2.1
theorem netB_r {ms : List Rm} {cs : List Int} {fs : List Fm.R} {t : Int} (h : netB ms cs fs t = true) : ∀ i, i < ms.length → okM (ms.getD i Rm.zero) = true ∧ (ms.getD i Rm.zero).x1 = (i : Int) + 1 := by
  intro i hi
  unfold netB rtsB at h
  simp only [Bool.and_eq_true] at h
  have h1 := allI_at h.2.2.1 hi
  unfold rok at h1
  simp only [Bool.and_eq_true, beq_iff_eq] at h1
  exact ⟨h1.1, h1.2.1⟩
set_option maxHeartbeats 4000000 in
theorem isAsGood (xa xn xc xh ya yn yc yh : Int) (w : World) : Calls Tryz.prog 73 #[.agg #[.int .i64 xa, .int .i64 xn, .int .i64 xc, .int .i64 xh], .agg #[.int .i64 ya, .int .i64 yn, .int .i64 yc, .int .i64 yh]] w fun e w' => e = .returned (.bool (gdB ⟨xa, xn, xc, xh⟩ ⟨ya, yn, yc, yh⟩)) ∧ Below w.heap.size w w' := by
  have P1 : Below w.heap.size w (w.alloc (.cells #[.int .i64 xa, .int .i64 xn, .int .i64 xc, .int .i64 xh] 87)) := (Below.refl _ _).alloc (Nat.le_refl _) _
  have HP2 := hide (P1.alloc P1.size (.cells #[.int .i64 ya, .int .i64 yn, .int .i64 yc, .int .i64 yh] 87))
  have hx := (Rw.bx_new w ⟨xa, xn, xc, xh⟩ 87).below ((Below.refl _ _).alloc (Nat.le_refl _) (.cells #[.int .i64 ya, .int .i64 yn, .int .i64 yc, .int .i64 yh] 87))
  have hy := Rw.bx_new (w.alloc (.cells #[.int .i64 xa, .int .i64 xn, .int .i64 xc, .int .i64 xh] 87)) ⟨ya, yn, yc, yh⟩ 87
  rw [World.size_alloc] at hy
  have HX := hide hx
  have HY := hide hy
  obtain ⟨e1, he1⟩ : ∃ e1, (xa == ya) = e1 := ⟨_, rfl⟩
  obtain ⟨e2, he2⟩ : ∃ e2, (xc == yc) = e2 := ⟨_, rfl⟩
  have HE : Hid (gdB ⟨xa, xn, xc, xh⟩ ⟨ya, yn, yc, yh⟩ = (e1 && e2)) := hide (by rw [← he1, ← he2]; rfl)
  clear P1 hx hy
  go_enter Tryz.func73, Tryz.ntmps73
  obtain ⟨p0, p1, p2, p3⟩ := unhide HX
  obtain ⟨q0, q1, q2, q3⟩ := unhide HY
  dsimp only at p0 p1 p2 p3 q0 q1 q2 q3
  cases e1
  · go_wp2_with fail
    go_ret
    exact ⟨ret_bool (by rw [unhide HE]; rfl), unhide HP2⟩
  · go_wp2_with fail
    go_ret
    exact ⟨ret_bool (by rw [unhide HE]; rfl), unhide HP2⟩
set_option maxHeartbeats 8000000 in
theorem equalG (a b : Option Addr) (xs ys : List Ro.R) (ca cb : Nat) (w : World) (hm : xs.length ≤ 1048576) (hr : Ro.RM w a xs) (hr' : Ro.RM w b ys) :
    Calls Tryz.prog 72 #[.slice a xs.length ca, .slice b ys.length cb, (Value.func (.func 73) #[] #[])] w fun e w' => e = .returned (.bool (gdE xs ys)) ∧ Below w.heap.size w w' := by
  have HR := hide hr
  have HS := hide hr'
  clear hr hr'
  by_cases hl : xs.length = ys.length
  rotate_left
  · have hne : ((xs.length : Int) != (ys.length : Int)) = true := by simpa using (fun h => hl (by omega))
    have HE : Hid (gdE xs ys = false) := hide (by unfold gdE; rw [decide_eq_false hl]; rfl)
    clear hl
    go_enter Tryz.func72, Tryz.ntmps72
    go_wp2_with fail
    go_ret
    exact ⟨ret_bool (by rw [unhide HE]), Below.refl _ _⟩
  · have HE : Hid (gdE xs ys = gdU xs ys xs.length) := hide (by unfold gdE; rw [decide_eq_true hl]; rfl)
    have HL := hide hl
    rw [← hl]
    clear hl
    generalize hN : xs.length = n at *
    have HN := hide hN
    clear hN
    have hne : ((n : Int) != (n : Int)) = false := by simp
    go_enter Tryz.func72, Tryz.ntmps72
    go_wp2_with fail
    go_loopw [17] (fun i wr => ∃ j : Nat, j ≤ n ∧ i = .int .i64 j ∧ Hid (gdU xs ys j = true) ∧ Hid (Below w.heap.size w wr)) (fun i _ => n - (intOf i).toNat)
    case atStart => exact ⟨0, by omega, rfl, hide rfl, hide (Below.refl _ _)⟩
    case round =>
      obtain ⟨j, hj, rfl, hu, hbl⟩ := hrel
      by_cases hlt : (j : Int) < (n : Int)
      · have k0 : (0 : Int) ≤ (j : Int) := by omega
        have hlen : j < xs.length := by rw [unhide HN]; omega
        have hlen2 : j < ys.length := by rw [← unhide HL]; omega
        obtain ⟨g, o, rfl⟩ := (unhide HR).form (by omega)
        obtain ⟨g2, o2, rfl⟩ := (unhide HS).form (by omega)
        have A1 := ((unhide HR).below (unhide hbl)).at hlen
        have A2 := ((unhide HS).below (unhide hbl)).at hlen2
        have HST := hide (gdU_step xs ys j)
        have HSP := hide (fun h => gdU_stop (xs := xs) (ys := ys) (j := j) (n := n) h (by omega))
        generalize xs.getD j Ro.R.zero = m at *
        generalize ys.getD j Ro.R.zero = m2 at *
        obtain ⟨xa, xn, xc, xh⟩ := m
        obtain ⟨ya, yn, yc, yh⟩ := m2
        have hbs := (unhide hbl).size
        have P1 : Below wr.heap.size wr (wr.alloc (.cells #[.int .i64 xa, .int .i64 xn, .int .i64 xc, .int .i64 xh] 87)) := (Below.refl _ _).alloc (Nat.le_refl _) _
        have P2 := P1.alloc P1.size (.cells #[.int .i64 ya, .int .i64 yn, .int .i64 yc, .int .i64 yh] 87)
        have HB2 := hide ((unhide hbl).trans (P2.mono hbs))
        have hx := (Rw.bx_new wr ⟨xa, xn, xc, xh⟩ 87).below ((Below.refl _ _).alloc (Nat.le_refl _) (.cells #[.int .i64 ya, .int .i64 yn, .int .i64 yc, .int .i64 yh] 87))
        have hy := Rw.bx_new (wr.alloc (.cells #[.int .i64 xa, .int .i64 xn, .int .i64 xc, .int .i64 xh] 87)) ⟨ya, yn, yc, yh⟩ 87
        rw [World.size_alloc] at hy
        obtain ⟨c0, c1, c2, c3⟩ := A1
        have A3 := A2.below P1
        obtain ⟨d0, d1, d2, d3⟩ := A3
        obtain ⟨p0, p1, p2, p3⟩ := hx
        obtain ⟨q0, q1, q2, q3⟩ := hy
        dsimp only at c0 c1 c2 c3 d0 d1 d2 d3 p0 p1 p2 p3 q0 q1 q2 q3
        have HK := hide (fun W => isAsGood xa xn xc xh ya yn yc yh W)
        obtain ⟨bq, hbq⟩ : ∃ bq, gdB ⟨xa, xn, xc, xh⟩ ⟨ya, yn, yc, yh⟩ = bq := ⟨_, rfl⟩
        rw [hbq] at HST HSP HK
        clear hbq hlen hlen2 P1 P2 A2
        go_wp2_with fail
        clear c0 c1 c2 c3 d0 d1 d2 d3 p0 p1 p2 p3 q0 q1 q2 q3
        refine (unhide HK _).mono ?_
        rintro e w3 ⟨rfl, b3⟩
        have HB3 := hide ((unhide HB2).trans (b3.mono (unhide HB2).size))
        clear b3 HB2 HK
        cases bq
        · go_wp2_with fail
          go_ret
          exact ⟨ret_bool (by rw [unhide HE, unhide HSP (by first | rfl | trivial)]), unhide HB3⟩
        · go_wp2_with fail
          go_roundw
          case rel => exact ⟨j + 1, by omega, by go_num, hide (by rw [unhide HST, unhide hu]; rfl), HB3⟩
          case measure => simp [intOf]; omega
      · obtain rfl : j = n := by omega
        go_wp2_with fail
        go_ret
        exact ⟨ret_bool (by rw [unhide HE, unhide hu]), unhide hbl⟩
end Nt
end Go.Proofs.YtfooahhdikobeaaGreat
namespace Go.Proofs.YtfooahhdikobeaaGreat
open Go.ChangeShapes Go.WideShapes Go.ChangeAt Go.RowKit
set_option linter.unusedVariables false
set_option linter.unusedSimpArgs false
set_option maxRecDepth 100000
attribute [local go_sem ↓] Go.wp_at_zero Go.wp_at_succ
namespace Nt
open W1 Rt
set_option maxHeartbeats 16000000 in
theorem implCV (a b d : Option Addr) (ca cb cd : Nat) (t : Int) (ms : List Rm) (ps : List Pl) (cs : List Int) (fs : List Fm.R) (w : World) (hm : ms.length ≤ 1048576) (hc : cs.length ≤ 1048576) (hf : fs.length ≤ 1048576) (hs : ∀ i, i < ms.length → Sm (ms.getD i Rm.zero)) (hg : ∀ i, i < fs.length → (fs.getD i Fm.R.zero).bs.size ≤ maxLen) (hr : NR w a ms ps) (hi : In.RM w b cs) (hz : Fm.RM w d fs) :
    Calls Tryz.prog 28 #[.agg #[.slice a ms.length ca, .slice b cs.length cb, .slice d fs.length cd, .int .i64 t]] w fun e w' => e = .returned (.tuple #[.bool (netB ms cs fs t && allI ms.length (cvB ms cs)), .int .i64 (if netB ms cs fs t = true then 0 else 1)]) ∧ Below w.heap.size w w' := by
  have HX0 := hide (nb_new w (.slice a ms.length ca) (.slice b cs.length cb) (.slice d fs.length cd) t 31)
  have b0 := bel_new w (.cells #[.slice a ms.length ca, .slice b cs.length cb, .slice d fs.length cd, .int .i64 t] 31)
  have HB0 := hide b0
  have HR0 := hide (hr.below b0)
  have HI0 := hide (hi.below b0)
  have KN := hide (implNet a b d ca cb cd t ms ps cs fs _ hm hc hf hs hg (hr.below b0) (hi.below b0) (hz.below b0))
  have HRT := hide (fun h => netB_r (ms := ms) (cs := cs) (fs := fs) (t := t) h)
  have HN6 := hide (fun h => netB_n (ms := ms) (cs := cs) (fs := fs) (t := t) h)
  have HCO := hide (fun h => netB_c (ms := ms) (cs := cs) (fs := fs) (t := t) h)
  have HS := hide hs
  clear b0 hr hi hz hs hg
  generalize netB ms cs fs t = ok at *
  obtain ⟨Z, hZ⟩ : ∃ Z, allI ms.length (cvB ms cs) = Z := ⟨_, rfl⟩
  rw [hZ]
  have HZ := hide hZ
  clear hZ
  go_enter Tryz.func28, Tryz.ntmps28
  go_wp2_with fail
  generalize w.alloc (.cells #[.slice a ms.length ca, .slice b cs.length cb, .slice d fs.length cd, .int .i64 t] 31) = w0 at *
  refine (unhide KN).mono ?_
  rintro e w1 ⟨rfl, b1⟩
  have HX1 := hide ((unhide HX0).below b1)
  have HR1 := hide ((unhide HR0).below b1)
  have HI1 := hide ((unhide HI0).below b1)
  have HB1 := hide ((unhide HB0).trans (b1.mono (unhide HB0).size))
  clear HX0 HR0 HI0 HB0 KN b1
  cases ok
  · go_wp2_with fail
    go_ret2
    exact ⟨rfl, unhide HB1⟩
  obtain ⟨h1, h6, hC, _, _⟩ := unhide HN6 rfl
  have HOK := hide (unhide HRT rfl)
  have hcB := unhide HCO rfl
  have KT := hide (trueGraph a b d ms.length fs.length ca cb cd t cs w1 h1 h6 hC (unhide HI1))
  have HGB := hide (tg_graph (cs := cs) h1 h6 hcB)
  have HLG := hide (show (tgL cs ms.length (ms.length * ms.length)).length ≤ 1048576 by have := tg_short (cs := cs) h6 (Nat.le_refl (ms.length * ms.length)); omega)
  have HCVI : Hid (∀ j, cvB ms cs j = gdE (hasR (ms.getD j Rm.zero)) (Wd.rouL (tgL cs ms.length (ms.length * ms.length)) ((j : Int) + 1))) := hide (fun j => rfl)
  clear HN6 HRT HCO hcB hC HI1
  have hn6 := h6
  obtain ⟨n, hN⟩ : ∃ n, ms.length = n := ⟨_, rfl⟩
  have HN := hide hN
  generalize tgL cs ms.length (ms.length * ms.length) = G at *
  rw [hN] at HZ HX1 KT hn6 hm ⊢
  clear hN h1 h6
  have KS : Hid (∀ f : Int, 1 ≤ f → f ≤ 8 → ∀ A c W, Tu.RM W A G → Calls Tryz.prog 71 #[.slice A G.length c, .int .i64 f] W fun e w' => ∃ A' c', e = .returned (.tuple #[.slice A' (Wd.rouL G f).length c', .int .i64 0]) ∧ Below W.heap.size W w' ∧ Ro.RM w' A' (Wd.rouL G f)) := hide (fun f hf hf' A c W h => by
    refine (Wd.implRoutes A _ c f W (unhide HLG) h).mono ?_
    rintro e w' ⟨v, rfl, bb, lv⟩
    have e0 : Wd.codeG G f = 0 := Wd.codeG_zero (unhide HGB) (inB_of hf hf')
    unfold Wd.rouA at lv
    rw [if_pos e0] at lv
    obtain ⟨av, cv, rfl, lst⟩ := lv
    rw [e0]
    exact ⟨av, cv, rfl, bb, lst.rm⟩)
  clear HGB HLG
  obtain ⟨p0, p1, p2, p3⟩ := unhide HX1
  go_wp2_with fail
  clear p0 p1 p2 p3
  refine (unhide KT).mono ?_
  rintro e w2 ⟨v, rfl, b2, lv⟩
  obtain ⟨A, cA, rfl, lst⟩ := lv
  have HX2 := hide ((unhide HX1).below b2)
  have HR2 := hide ((unhide HR1).below b2)
  have HB2 := hide ((unhide HB1).trans (b2.mono (unhide HB1).size))
  have HG2 := hide lst.rm
  clear b2 lst HB1 HX1 HR1 KT
  obtain ⟨p0, p1, p2, p3⟩ := unhide HX2
  go_wp2_with fail
  clear p0 p1 p2 p3
  go_loopw [19] (fun i wr => ∃ j : Nat, j ≤ n ∧ i = .int .i64 j ∧ Hid (Below w.heap.size w wr) ∧ Hid (NR wr a ms ps) ∧ Hid (Tu.RM wr A G) ∧ Hid (∀ i, i < j → cvB ms cs i = true)) (fun i _ => n - (intOf i).toNat)
  case atStart => exact ⟨0, by omega, rfl, HB2, HR2, HG2, hide (fun i hi => absurd hi (Nat.not_lt_zero i))⟩
  case round =>
    clear HX2 HR2 HB2 HG2
    obtain ⟨j, hj, rfl, hbl, hnr, hgr, hal⟩ := hrel
    by_cases hlt : (j : Int) < (n : Int)
    · have k0 : (0 : Int) ≤ (j : Int) := by omega
      have hlen : j < ms.length := by rw [unhide HN]; omega
      obtain ⟨g, off, rfl, hA, hD⟩ := (unhide hnr).at hlen
      have HA := hide hA
      have HD := hide hD
      have HM := hide ((unhide HS) j hlen)
      obtain ⟨hok, hx1⟩ := (unhide HOK) j hlen
      have hcv := (unhide HCVI) j
      rw [← hx1] at hcv
      clear hA hD
      generalize hmj : ms.getD j Rm.zero = m at HA HD HM hok hx1 hcv
      clear hmj hlen
      generalize hpj : ps.getD j Pl.zero = p at HA HD
      clear hpj
      obtain ⟨y1, hy1⟩ : ∃ y, m.x1 = y := ⟨_, rfl⟩
      have HY1 := hide hy1
      rw [hy1] at hcv hx1
      have hy1' : 1 ≤ y1 ∧ y1 ≤ 8 := by omega
      have KS1 := hide (unhide KS y1 hy1'.1 hy1'.2)
      have KH : Hid (∀ W, Rd W m p → Calls Tryz.prog 70 #[.agg (cl m p).toArray] W fun e w' => ∃ A c, e = .returned (.tuple #[.slice A (hasR m).length c, .int .i64 0]) ∧ Below W.heap.size W w' ∧ Ro.RM w' A (hasR m)) := hide (fun W h => by
        obtain ⟨h1, h2, h3, h4, h5, h6, h7⟩ := h
        obtain ⟨s1, s2, s3, s4, s5, s6, s7⟩ := unhide HM
        refine (implRR m.x1 m.x2 m.x3 m.x4 m.x5 m.x6 p.a1 p.a2 p.a3 p.a4 p.a5 p.a6 p.a7 p.c1 p.c2 p.c3 p.c4 p.c5 p.c6 p.c7 m.ls m.tw m.se m.du m.ss m.es m.la W s1 s2 s3 s4 s5 s6 s7 h1 h2 h3 h4 h5 h6 h7).mono ?_
        rintro e w' ⟨v, rfl, bb, lv⟩
        unfold okM at hok
        rw [hok] at lv ⊢
        unfold rrA at lv
        rw [if_pos rfl] at lv
        obtain ⟨av, cv, rfl, lst⟩ := lv
        exact ⟨av, cv, rfl, bb, lst.rm⟩)
      have hh8 : (hasR m).length ≤ 1048576 := by have := Wd.rouL_len (Gr.graph m.x1 m.ls m.es m.x5) m.x1; unfold hasR; omega
      generalize hasR m = H at *
      generalize Wd.rouL G y1 = S at *
      have KE := hide (fun A2 A3 c2 c3 W h h' => equalG A2 A3 H S c2 c3 W hh8 h h')
      rw [← hcv] at KE
      obtain ⟨bq, hbq⟩ : ∃ bq, cvB ms cs j = bq := ⟨_, rfl⟩
      rw [hbq] at KE
      have HBQ := hide hbq
      have hsz := (unhide hbl).size
      clear hok hx1 hcv hy1 hy1' hh8 hbq
      go_upto_region 7 with (first | (refine loadI _ rfl rfl (unhide HA) rfl ?_) | (refine wpList_storeR _ _ rfl rfl (cl m p) (cl_ones m p) rfl rfl (ra_new wr (rC 0 0 0 0 0 (.slice none 0 0) (.slice none 0 0) (.slice none 0 0) (.slice none 0 0) (.slice none 0 0) (.slice none 0 0) (.slice none 0 0) 0) rfl 83).2.1 ?_; intro w1 ra bb hs1))
      have HB2 := hide (bb _ _ ((unhide hbl).alloc hsz _) hsz)
      have b2_ : Below wr.heap.size wr w1 := bb _ _ ((Below.refl _ _).alloc (Nat.le_refl _) _) (Nat.le_refl _)
      have HD2 := hide ((unhide HD).below b2_)
      have HN2 := hide ((unhide hnr).below b2_)
      have HG2 := hide ((unhide hgr).below b2_)
      have HRA := hide ra
      clear ra bb hs1 HA HD b2_ hbl hnr hgr hsz
      go_wp2_with (refine wpList_loadR _ rfl rfl rfl (unhide HRA) ?_)
      refine (unhide KH _ (unhide HD2)).mono ?_
      rintro e w3 ⟨A2, c2, rfl, b3, hm3⟩
      have HH3 := hide hm3
      have HRA3 := hide ((unhide HRA).below b3)
      have HN3 := hide ((unhide HN2).below b3)
      have HG3 := hide ((unhide HG2).below b3)
      have HB3 := hide ((unhide HB2).trans (b3.mono (unhide HB2).size))
      clear HRA HD2 HN2 HG2 HB2 b3 hm3 KH
      have e0 := (unhide HRA3).at (i := 0) (v := .int .i64 y1) (by rw [← unhide HY1]; rfl)
      go_wp2_with fail
      clear e0
      refine (unhide KS1 _ _ _ (unhide HG3)).mono ?_
      rintro e w4 ⟨A3, c3, rfl, b4, hm4⟩
      have HH4 := hide ((unhide HH3).below b4)
      have HS4 := hide hm4
      have HN4 := hide ((unhide HN3).below b4)
      have HG4 := hide ((unhide HG3).below b4)
      have HB4 := hide ((unhide HB3).trans (b4.mono (unhide HB3).size))
      clear HRA3 HN3 HG3 HB3 b4 hm4 HH3 KS1
      go_wp2_with fail
      refine (unhide KE A2 A3 c2 c3 _ (unhide HH4) (unhide HS4)).mono ?_
      rintro e w5 ⟨rfl, b5⟩
      have HN5 := hide ((unhide HN4).below b5)
      have HG5 := hide ((unhide HG4).below b5)
      have HB5 := hide ((unhide HB4).trans (b5.mono (unhide HB4).size))
      clear HN4 HG4 HB4 b5 HH4 HS4 KE
      cases bq
      · have hz : Z = false := by rw [← unhide HZ]; exact allI_no (j := j) (by omega) (unhide HBQ)
        subst hz
        go_wp2_with fail
        go_ret2
        exact ⟨rfl, unhide HB5⟩
      · go_wp2_with fail
        go_roundw
        case rel => exact ⟨j + 1, by omega, by go_num, HB5, HN5, HG5, hide (up_to (unhide hal) (unhide HBQ))⟩
        case measure => simp [intOf]; omega
    · obtain rfl : j = n := by omega
      have hz : Z = true := by rw [← unhide HZ]; exact allI_yes (unhide hal)
      subst hz
      go_wp2_with fail
      go_ret2
      exact ⟨rfl, unhide hbl⟩
end Nt
end Go.Proofs.YtfooahhdikobeaaGreat
namespace Go.Proofs.YtfooahhdikobeaaGreat
open Go.ChangeShapes Go.WideShapes Go.ChangeAt Go.RowKit
set_option linter.unusedVariables false
set_option linter.unusedSimpArgs false
set_option maxRecDepth 100000
attribute [local go_sem ↓] Go.wp_at_zero Go.wp_at_succ
namespace Nt
open W1 Rt
set_option maxHeartbeats 16000000 in
theorem l14Converged (a b d : Option Addr) (l ca cb cd : Nat) (t : Int) (ms : List Rm) (ps : List Pl) (cs : List Int) (w : World) (h1 : 1 ≤ ms.length) (h6 : ms.length ≤ 6) (hC : cs.length = ms.length * ms.length) (hcB : costB cs ms.length = true) (hrt : ∀ i, i < ms.length → okM (ms.getD i Rm.zero) = true ∧ (ms.getD i Rm.zero).x1 = (i : Int) + 1) (hs : ∀ i, i < ms.length → Sm (ms.getD i Rm.zero)) (hr : NR w a ms ps) (hi : In.RM w b cs) :
    Calls Tryz.prog 69 #[.agg #[.slice a ms.length ca, .slice b cs.length cb, .slice d l cd, .int .i64 t]] w fun e w' => e = .returned (.bool (allI ms.length (cvB ms cs))) ∧ Below w.heap.size w w' := by
  have HX0 := hide (nb_new w (.slice a ms.length ca) (.slice b cs.length cb) (.slice d l cd) t 31)
  have b0 := bel_new w (.cells #[.slice a ms.length ca, .slice b cs.length cb, .slice d l cd, .int .i64 t] 31)
  have HB0 := hide b0
  have HR0 := hide (hr.below b0)
  have KT := hide (l14True a b d ms.length l ca cb cd t cs _ h1 h6 hC hcB (hi.below b0))
  have HGB := hide (tg_graph (cs := cs) h1 h6 hcB)
  have HOK := hide hrt
  have HS := hide hs
  have HCVI : Hid (∀ j, cvB ms cs j = gdE (hasR (ms.getD j Rm.zero)) (Wd.rouL (tgL cs ms.length (ms.length * ms.length)) ((j : Int) + 1))) := hide (fun j => rfl)
  clear hrt hs hcB hC hr hi b0
  obtain ⟨Z, hZ⟩ : ∃ Z, allI ms.length (cvB ms cs) = Z := ⟨_, rfl⟩
  rw [hZ]
  have HZ := hide hZ
  clear hZ
  have hn6 := h6
  obtain ⟨n, hN⟩ : ∃ n, ms.length = n := ⟨_, rfl⟩
  have HN := hide hN
  generalize tgL cs ms.length (ms.length * ms.length) = G at *
  rw [hN] at HZ HX0 HB0 HR0 KT hn6 ⊢
  clear hN h1 h6
  have KS : Hid (∀ f : Int, 1 ≤ f → f ≤ 8 → ∀ A c W, Tu.RM W A G → Calls Tryz.prog 120 #[.slice A G.length c, .int .i64 f] W fun e w' => ∃ A' c', e = .returned (.slice A' (Wd.rouL G f).length c') ∧ Below W.heap.size W w' ∧ Ro.RM w' A' (Wd.rouL G f)) := hide (fun f hf hf' A c W h => by
    refine (Wd.l11List A _ c f W (unhide HGB) ⟨hf, hf'⟩ h).mono ?_
    rintro e w' ⟨v, rfl, bb, lv⟩
    obtain ⟨av, cv, rfl, lst⟩ := lv
    exact ⟨av, cv, rfl, bb, lst.rm⟩)
  clear HGB
  go_enter Tryz.func69, Tryz.ntmps69
  obtain ⟨p0, p1, p2, p3⟩ := unhide HX0
  go_wp2_with fail
  clear p0 p1 p2 p3
  generalize w.alloc (.cells #[.slice a n ca, .slice b cs.length cb, .slice d l cd, .int .i64 t] 31) = w0 at *
  refine (unhide KT).mono ?_
  rintro e w2 ⟨v, rfl, b2, lv⟩
  obtain ⟨A, cA, rfl, lst⟩ := lv
  have HX2 := hide ((unhide HX0).below b2)
  have HR2 := hide ((unhide HR0).below b2)
  have HB2 := hide ((unhide HB0).trans (b2.mono (unhide HB0).size))
  have HG2 := hide lst.rm
  clear b2 lst HB0 HX0 HR0 KT
  go_wp2_with fail
  go_loopw [4] (fun i wr => ∃ j : Nat, j ≤ n ∧ i = .int .i64 ((j : Int) + 1) ∧ Hid (Below w.heap.size w wr) ∧ Hid (NR wr a ms ps) ∧ Hid (NB wr w.heap.size (.slice a n ca) (.slice b cs.length cb) (.slice d l cd) t) ∧ Hid (Tu.RM wr A G) ∧ Hid (∀ i, i < j → cvB ms cs i = true)) (fun i _ => n + 1 - (intOf i).toNat)
  case atStart => exact ⟨0, by omega, by simp, HB2, HR2, HX2, HG2, hide (fun i hi => absurd hi (Nat.not_lt_zero i))⟩
  case round =>
    clear HX2 HR2 HB2 HG2
    obtain ⟨j, hj, rfl, hbl, hnr, hnb, hgr, hal⟩ := hrel
    obtain ⟨p0, p1, p2, p3⟩ := unhide hnb
    by_cases hlt : (j : Int) + 1 ≤ (n : Int)
    · have k0 : (0 : Int) ≤ (j : Int) := by omega
      have kn : (j : Int) < (n : Int) := by omega
      have kj : (j : Int) + 1 - 1 = (j : Int) := by omega
      have hlen : j < ms.length := by rw [unhide HN]; omega
      obtain ⟨g, off, rfl, hA, hD⟩ := (unhide hnr).at hlen
      have HM := hide ((unhide HS) j hlen)
      obtain ⟨hok, hx1⟩ := (unhide HOK) j hlen
      have hcv := (unhide HCVI) j
      have HNA := hide (fun W (h : NR W (some ⟨g, off, none⟩) ms ps) => (by
        rcases h with h | ⟨g', off', e, hc⟩
        · exfalso; rw [h] at hlen; simp at hlen
        · cases e; exact hc j hlen : W.rangeAt g (off + j * 13) (cl (ms.getD j Rm.zero) (ps.getD j Pl.zero)) ∧ Rd W (ms.getD j Rm.zero) (ps.getD j Pl.zero)))
      clear hA hD
      generalize hmj : ms.getD j Rm.zero = m at HM hok hx1 hcv HNA
      clear hmj hlen
      generalize hpj : ps.getD j Pl.zero = p at HNA
      clear hpj
      have KS1 := hide (unhide KS ((j : Int) + 1) (by omega) (by omega))
      have KH : Hid (∀ W, Rd W m p → Calls Tryz.prog 121 #[.agg (cl m p).toArray] W fun e w' => ∃ A c, e = .returned (.slice A (hasR m).length c) ∧ Below W.heap.size W w' ∧ Ro.RM w' A (hasR m)) := hide (fun W h => by
        obtain ⟨h1, h2, h3, h4, h5, h6, h7⟩ := h
        obtain ⟨s1, s2, s3, s4, s5, s6, s7⟩ := unhide HM
        unfold okM at hok
        obtain ⟨r1, r2, r3⟩ := rtr_parts hok
        refine (l12Routes m.x1 m.x2 m.x3 m.x4 m.x5 m.x6 p.a1 p.a2 p.a3 p.a4 p.a5 p.a6 p.a7 p.c1 p.c2 p.c3 p.c4 p.c5 p.c6 p.c7 m.ls m.tw m.se m.du m.ss m.es m.la W s1 s2 s3 s4 s5 s6 s7 h1 h2 h3 h4 h5 h6 h7 (graph_right r1 r2 r3) (inB_out r1) (Gr.gra_ok r2 r1 r3)).mono ?_
        rintro e w' ⟨v, rfl, bb, lv⟩
        obtain ⟨av, cv, rfl, lst⟩ := lv
        exact ⟨av, cv, rfl, bb, lst.rm⟩)
      have hh8 : (hasR m).length ≤ 8 := by unfold hasR; exact Wd.rouL_len _ _
      have hs8 : (Wd.rouL G ((j : Int) + 1)).length ≤ 8 := Wd.rouL_len _ _
      generalize hasR m = H at *
      generalize Wd.rouL G ((j : Int) + 1) = S at *
      have HCV := hide hcv
      clear hok hx1 hcv
      go_wp2_with fail
      clear p0 p1 p2 p3
      refine (unhide KS1 _ _ _ (unhide hgr)).mono ?_
      rintro e w3 ⟨A3, c3, rfl, b3, hm3⟩
      have HS3 := hide hm3
      have HX3 := hide ((unhide hnb).below b3)
      have HN3 := hide ((unhide hnr).below b3)
      have HG3 := hide ((unhide hgr).below b3)
      have HB3 := hide ((unhide hbl).trans (b3.mono (unhide hbl).size))
      clear hnb hnr hgr hbl b3 hm3 KS1
      obtain ⟨p0, p1, p2, p3⟩ := unhide HX3
      have HA := hide (unhide HNA _ (unhide HN3)).1
      have HD := hide (unhide HNA _ (unhide HN3)).2
      clear HNA
      go_wp2_with (refine loadI _ rfl rfl (unhide HA) rfl ?_)
      clear p0 p1 p2 p3
      refine (unhide KH _ (unhide HD)).mono ?_
      rintro e w4 ⟨A2, c2, rfl, b4, hm4⟩
      have HH4 := hide hm4
      have HS4 := hide ((unhide HS3).below b4)
      have HX4 := hide ((unhide HX3).below b4)
      have HN4 := hide ((unhide HN3).below b4)
      have HG4 := hide ((unhide HG3).below b4)
      have HB4 := hide ((unhide HB3).trans (b4.mono (unhide HB3).size))
      clear HA HD HS3 HX3 HN3 HG3 HB3 b4 hm4 KH
      by_cases hl : H.length = S.length
      rotate_left
      · have hne : ((S.length : Int) != (H.length : Int)) = true := by simpa using (fun h => hl (by omega))
        have hbq : cvB ms cs j = false := by rw [unhide HCV]; unfold gdE; rw [decide_eq_false hl]; rfl
        have hz : Z = false := by rw [← unhide HZ]; exact allI_no (j := j) (by omega) hbq
        subst hz
        clear hbq hl
        go_wp2_with fail
        go_ret
        exact ⟨rfl, unhide HB4⟩
      obtain ⟨q, hq⟩ : ∃ q, H.length = q := ⟨_, rfl⟩
      have hqS : S.length = q := by omega
      have HQS := hide hqS
      have HQ := hide hq
      have HCU : Hid (cvB ms cs j = gdU H S q) := hide (by rw [unhide HCV]; unfold gdE; rw [decide_eq_true hl, hq]; rfl)
      rw [hq] at hh8 ⊢
      rw [hqS] at hs8 ⊢
      clear hl hqS hq HCV
      have hne : ((q : Int) != (q : Int)) = false := by simp
      go_wp2_with fail
      go_loopw [7] (fun i w5 => ∃ r : Nat, r ≤ q ∧ i = .int .i64 r ∧ Hid (∀ i, i < r → gdB (H.getD i Ro.R.zero) (S.getD i Ro.R.zero) = true) ∧ Hid (Below w.heap.size w w5) ∧ Hid (NR w5 (some ⟨g, off, none⟩) ms ps) ∧ Hid (NB w5 w.heap.size (.slice (some ⟨g, off, none⟩) n ca) (.slice b cs.length cb) (.slice d l cd) t) ∧ Hid (Tu.RM w5 A G) ∧ Hid (Ro.RM w5 A2 H) ∧ Hid (Ro.RM w5 A3 S)) (fun i _ => q - (intOf i).toNat)
      case atStart => exact ⟨0, by omega, rfl, hide (fun i hi => absurd hi (Nat.not_lt_zero i)), HB4, HN4, HX4, HG4, HH4, HS4⟩
      case round =>
        clear HB4 HN4 HX4 HG4 HH4 HS4
        obtain ⟨r, hrq, rfl, hga, HB4, HN4, HX4, HG4, HH4, HS4⟩ := hrel
        by_cases hlr : (r : Int) < (q : Int)
        · have r0 : (0 : Int) ≤ (r : Int) := by omega
          have hlH : r < H.length := by rw [unhide HQ]; omega
          have hlS : r < S.length := by rw [unhide HQS]; omega
          obtain ⟨gh, oh, rfl⟩ := (unhide HH4).form (by omega)
          obtain ⟨gs, os, rfl⟩ := (unhide HS4).form (by omega)
          have A1 := (unhide HH4).at hlH
          have A2 := (unhide HS4).at hlS
          have HSP := hide (fun h => gdU_stop (xs := H) (ys := S) (j := r) (n := q) h (by omega))
          have HGA := hide (fun h => up_to (p := fun i => gdB (H.getD i Ro.R.zero) (S.getD i Ro.R.zero)) (unhide hga) h)
          try dsimp only at HGA
          generalize H.getD r Ro.R.zero = mh at *
          generalize S.getD r Ro.R.zero = m2 at *
          obtain ⟨xa, xn, xc, xh⟩ := mh
          obtain ⟨ya, yn, yc, yh⟩ := m2
          have HA1 := hide A1
          have HA2 := hide A2
          clear A1 A2 hlH hlS hga
          go_wp2_with fail
          refine wp_region_noPanic ?_
          refine wp_region_held_drew (S := fun w' => (Ro.At w' gh (oh + r * 4) ⟨xa, xn, xc, xh⟩ ∧ Ro.At w' gs (os + r * 4) ⟨ya, yn, yc, yh⟩) ∧ w'.cell? ⟨gh, oh + r * 4, none⟩ = some (.int .i64 xa) ∧ w'.cell? ⟨gh, oh + r * 4 + 2, none⟩ = some (.int .i64 xc) ∧ w'.cell? ⟨gs, os + r * 4, none⟩ = some (.int .i64 ya) ∧ w'.cell? ⟨gs, os + r * 4 + 2, none⟩ = some (.int .i64 yc)) (by kernel_rfl) ⟨⟨unhide HA1, unhide HA2⟩, (unhide HA1).1, (unhide HA1).2.2.1, (unhide HA2).1, (unhide HA2).2.2.1⟩ (fun hHeld => ?_)
          have HBd := hide (unhide HB4).drew
          by_cases ea : ya = xa
          rotate_left
          · have q1 : (ya != xa) = true := by simpa using ea
            have hbq : gdB ⟨xa, xn, xc, xh⟩ ⟨ya, yn, yc, yh⟩ = false := by unfold gdB; simp; intro h; exact absurd h.symm ea
            have hz : Z = false := by rw [← unhide HZ]; exact allI_no (j := j) (by omega) (by rw [unhide HCU]; exact unhide HSP hbq)
            subst hz
            clear hbq ea
            refine Rg.t 0 38 ?_
            refine Rg.t 1 39 ?_
            refine Rg.t 2 40 ?_
            refine Rg.t 3 41 ?_
            refine Rg.t 4 42 ?_
            refine Rg.t 5 43 ?_
            refine Rg.t 6 44 ?_
            refine Rg.t 7 45 ?_
            refine Rg.t 8 46 ?_
            refine Rg.t 9 47 ?_
            refine Rg.t 10 48 ?_
            refine Rg.t 11 49 ?_
            refine Rg.s 12 50 ?_
            refine Rg.s 13 51 ?_
            refine Rg.s 14 52 ?_
            refine Rg.s 15 53 ?_
            refine Rg.s 16 54 ?_
            refine Rg.s 17 55 ?_
            refine Rg.s 18 56 ?_
            refine Rg.s 19 57 ?_
            refine Rg.s 20 58 ?_
            refine Rg.s 21 59 ?_
            refine Rg.s 22 60 ?_
            refine Rg.t 23 61 ?_
            refine wpAnyH_done (by kernel_rfl) (NoPanic.normal ?_) _
            clear hHeld
            go_wp2_with fail
            go_ret
            exact ⟨rfl, unhide HBd⟩
          subst ea
          have q1 : (ya != ya) = false := by simp
          obtain ⟨bq, hbq⟩ : ∃ bq, (yc != xc) = bq := ⟨_, rfl⟩
          have HBQ := hide hbq
          refine Rg.t 0 38 ?_
          refine Rg.t 1 39 ?_
          refine Rg.t 2 40 ?_
          refine Rg.t 3 41 ?_
          refine Rg.t 4 42 ?_
          refine Rg.t 5 43 ?_
          refine Rg.t 6 44 ?_
          refine Rg.t 7 45 ?_
          refine Rg.t 8 46 ?_
          refine Rg.t 9 47 ?_
          refine Rg.t 10 48 ?_
          refine Rg.t 11 49 ?_
          refine Rg.t 12 50 ?_
          refine Rg.t 13 51 ?_
          refine Rg.t 14 52 ?_
          refine Rg.t 15 53 ?_
          refine Rg.t 16 54 ?_
          refine Rg.t 17 55 ?_
          refine Rg.t 18 56 ?_
          refine Rg.t 19 57 ?_
          refine Rg.t 20 58 ?_
          refine Rg.t 21 59 ?_
          refine Rg.t 22 60 ?_
          refine Rg.t 23 61 ?_
          refine wpAnyH_done (by kernel_rfl) (NoPanic.normal ?_) _
          clear hHeld
          cases bq
          · have hg1 : gdB ⟨ya, xn, xc, xh⟩ ⟨ya, yn, yc, yh⟩ = true := by unfold gdB; have := unhide HBQ; simp at this; simp [this]
            have HGA1 := hide (unhide HGA hg1)
            go_wp2_with fail
            go_roundw
            case rel => exact ⟨r + 1, by omega, by go_num, HGA1, HBd, HN4, HX4, HG4, HH4, HS4⟩
            case measure => simp [intOf]; omega
          · have hbf : gdB ⟨ya, xn, xc, xh⟩ ⟨ya, yn, yc, yh⟩ = false := by unfold gdB; have := unhide HBQ; simp at this; simp; exact fun h => this h.symm
            have hz : Z = false := by rw [← unhide HZ]; exact allI_no (j := j) (by omega) (by rw [unhide HCU]; exact unhide HSP hbf)
            subst hz
            clear hbf hbq
            go_wp2_with fail
            go_ret
            exact ⟨rfl, unhide HBd⟩
        · obtain rfl : r = q := by omega
          have hcj : cvB ms cs j = true := by rw [unhide HCU]; exact allI_yes (unhide hga)
          go_wp2_with fail
          go_roundw
          case rel => exact ⟨j + 1, by omega, by go_num, HB4, HN4, HX4, HG4, hide (up_to (unhide hal) hcj)⟩
          case measure => simp [intOf]; omega
    · obtain rfl : j = n := by omega
      have hz : Z = true := by rw [← unhide HZ]; exact allI_yes (unhide hal)
      subst hz
      go_wp2_with fail
      go_ret
      exact ⟨rfl, unhide hbl⟩
set_option maxHeartbeats 16000000 in
theorem specCV (a b d : Option Addr) (ca cb cd : Nat) (t : Int) (ms : List Rm) (ps : List Pl) (cs : List Int) (fs : List Fm.R) (w : World) (hm : ms.length ≤ 1048576) (hc : cs.length ≤ 1048576) (hf : fs.length ≤ 1048576) (hs : ∀ i, i < ms.length → Sm (ms.getD i Rm.zero)) (hg : ∀ i, i < fs.length → (fs.getD i Fm.R.zero).bs.size ≤ maxLen) (hr : NR w a ms ps) (hi : In.RM w b cs) (hz : Fm.RM w d fs) :
    Calls Tryz.prog 27 #[.agg #[.slice a ms.length ca, .slice b cs.length cb, .slice d fs.length cd, .int .i64 t]] w fun e w' => e = .returned (.tuple #[.bool (netB ms cs fs t && allI ms.length (cvB ms cs)), .int .i64 (if netB ms cs fs t = true then 0 else 1)]) ∧ Below w.heap.size w w' := by
  have HX0 := hide (nb_new w (.slice a ms.length ca) (.slice b cs.length cb) (.slice d fs.length cd) t 31)
  have b0 := bel_new w (.cells #[.slice a ms.length ca, .slice b cs.length cb, .slice d fs.length cd, .int .i64 t] 31)
  have HB0 := hide b0
  have HR0 := hide (hr.below b0)
  have HI0 := hide (hi.below b0)
  have KN := hide (specNet a b d ca cb cd t ms ps cs fs _ hm hc hf hs hg (hr.below b0) (hi.below b0) (hz.below b0))
  have HRT := hide (fun h => netB_r (ms := ms) (cs := cs) (fs := fs) (t := t) h)
  have HN6 := hide (fun h => netB_n (ms := ms) (cs := cs) (fs := fs) (t := t) h)
  have HCO := hide (fun h => netB_c (ms := ms) (cs := cs) (fs := fs) (t := t) h)
  have HS := hide hs
  clear b0 hr hi hz hs hg
  generalize netB ms cs fs t = ok at *
  obtain ⟨Z, hZ⟩ : ∃ Z, allI ms.length (cvB ms cs) = Z := ⟨_, rfl⟩
  rw [hZ]
  have HZ := hide hZ
  clear hZ
  go_enter Tryz.func27, Tryz.ntmps27
  go_wp2_with fail
  generalize w.alloc (.cells #[.slice a ms.length ca, .slice b cs.length cb, .slice d fs.length cd, .int .i64 t] 31) = w0 at *
  refine (unhide KN).mono ?_
  rintro e w1 ⟨rfl, b1⟩
  have HX1 := hide ((unhide HX0).below b1)
  have HR1 := hide ((unhide HR0).below b1)
  have HI1 := hide ((unhide HI0).below b1)
  have HB1 := hide ((unhide HB0).trans (b1.mono (unhide HB0).size))
  clear HX0 HR0 HI0 HB0 KN b1
  cases ok
  · go_wp2_with fail
    go_ret2
    exact ⟨rfl, unhide HB1⟩
  obtain ⟨h1, h6, hC, _, _⟩ := unhide HN6 rfl
  have KC := hide (l14Converged a b d fs.length ca cb cd t ms ps cs w1 h1 h6 hC (unhide HCO rfl) (unhide HRT rfl) (unhide HS) (unhide HR1) (unhide HI1))
  rw [unhide HZ] at KC
  clear hC h1 h6
  obtain ⟨p0, p1, p2, p3⟩ := unhide HX1
  go_wp2_with fail
  clear p0 p1 p2 p3
  refine (unhide KC).mono ?_
  rintro e w2 ⟨rfl, b2⟩
  have HB2 := hide ((unhide HB1).trans (b2.mono (unhide HB1).size))
  clear b2
  go_wp2_with fail
  go_ret2
  exact ⟨rfl, unhide HB2⟩
end Nt
end Go.Proofs.YtfooahhdikobeaaGreat
namespace Go.Proofs.YtfooahhdikobeaaGreat
open Go.ChangeShapes Go.WideShapes Go.ChangeAt Go.RowKit
set_option linter.unusedVariables false
set_option linter.unusedSimpArgs false
set_option maxRecDepth 100000
attribute [local go_sem ↓] Go.wp_at_zero Go.wp_at_succ
namespace Nt
open W1 Rt
/-- How many bytes the frames have. -/
def totF : List Fm.R → Int
  | [] => 0
  | m :: r => (m.bs.size : Int) + totF r
theorem totF_nonneg : ∀ fs : List Fm.R, 0 ≤ totF fs
  | [] => Int.le_refl _
  | m :: r => by have := totF_nonneg r; unfold totF; omega
theorem totF_append (a b : List Fm.R) : totF (a ++ b) = totF a + totF b := by
  induction a with
  | nil => simp [totF]
  | cons m r ih => simp only [List.cons_append, totF, ih]; omega
theorem totF_take {fs : List Fm.R} {j : Nat} (h : j < fs.length) : totF (fs.take (j + 1)) = totF (fs.take j) + ((fs.getD j Fm.R.zero).bs.size : Int) := by
  rw [take_snoc Fm.R.zero h, totF_append]; simp [totF]
set_option maxHeartbeats 8000000 in
theorem szNS (a : Option Addr) (ms : List Rm) (ps : List Pl) (cap : Nat) (L : Int) (w : World) (hL : 0 ≤ L) (hL1 : L ≤ 1048576) (hm : ms.length ≤ maxLen) (hs : ∀ i, i < ms.length → Sx (ms.getD i Rm.zero)) (hr : NR w a ms ps) :
    Calls Tryz.prog 38 #[.slice a ms.length cap, .int .i64 L] w fun e w' => ∃ r : Int, e = .returned (.int .i64 r) ∧ Below w.heap.size w w' ∧ (r < 0 ∨ (0 ≤ r ∧ r = L - ms.length - tot ms)) := by
  unfold maxLen at hm
  have HR := hide hr
  have HS := hide hs
  clear hr hs
  obtain ⟨n, hN⟩ : ∃ n, ms.length = n := ⟨_, rfl⟩
  rw [hN] at hm ⊢
  have HN := hide hN
  have HTT := hide (show tot (ms.take ms.length) = tot ms by rw [List.take_length])
  rw [hN] at HTT
  clear hN
  obtain ⟨T, hT⟩ : ∃ T, tot ms = T := ⟨_, rfl⟩
  rw [hT] at HTT ⊢
  have HT := hide hT
  clear hT
  by_cases h0 : L - n < 0
  · go_enter Tryz.func38, Tryz.ntmps38
    go_wp2
    go_ret
    exact ⟨_, rfl, Below.refl _ _, .inl (by omega)⟩
  obtain ⟨M, hM⟩ : ∃ M, L - (n : Int) = M := ⟨_, rfl⟩
  have HM := hide hM
  have hM0 : 0 ≤ M := by omega
  have hM1 : M ≤ 1048576 := by omega
  have h0' : ¬ M < 0 := by omega
  clear h0
  go_enter Tryz.func38, Tryz.ntmps38
  go_wp2_with fail
  try rw [hM]
  go_wp2_with fail
  clear hM h0'
  go_loopw [1, 5] (fun r i wr => ∃ j : Nat, j ≤ n ∧ i = .int .i64 j ∧ ∃ q : Int, r = .int .i64 q ∧ 0 ≤ q ∧ q ≤ 1048576 ∧ Hid (q = M - tot (ms.take j)) ∧ Hid (Below w.heap.size w wr)) (fun _ i _ => n - (intOf i).toNat)
  case atStart => exact ⟨0, by omega, rfl, M, rfl, hM0, hM1, hide (by simp [tot]), hide (Below.refl _ _)⟩
  case round =>
    obtain ⟨j, hj, rfl, q, rfl, hq0, hq1, hq, hbl⟩ := hrel
    by_cases hlt : (j : Int) < (n : Int)
    · have k0 : (0 : Int) ≤ (j : Int) := by omega
      have hlen : j < ms.length := by rw [unhide HN]; omega
      obtain ⟨g, off, rfl, hA, hD⟩ := ((unhide HR).below (unhide hbl)).at hlen
      have HA := hide hA
      have HX := hide ((unhide HS) j hlen)
      have HTK := hide (tot_take hlen)
      clear hlen hA hD
      generalize ms.getD j Rm.zero = m at *
      generalize ps.getD j Pl.zero = p at *
      go_wp2_with (refine loadW _ rfl rfl (unhide HA) rfl ?_)
      refine (szN m p q _ hq0 hq1 (unhide HX)).mono ?_
      rintro e w1 ⟨r, rfl, b1, hr⟩
      have HB1 := hide ((unhide hbl).trans (b1.mono (unhide hbl).size))
      have hc := cnt_nonneg m
      rcases hr with hr | ⟨hr0, hr1⟩
      · clear b1 HA HX HTK hc
        go_wp2_with fail
        go_ret
        exact ⟨_, rfl, unhide HB1, .inl (by omega)⟩
      · have HQ : Hid (r = M - tot (ms.take (j + 1))) := hide (by have := unhide hq; have := unhide HTK; omega)
        have hrn : ¬ r < 0 := by omega
        have hrm : r ≤ 1048576 := by omega
        clear b1 HA HX HTK hc hr1 hq
        go_wp2_with fail
        go_roundw
        case rel => exact ⟨j + 1, by omega, by go_num, r, rfl, hr0, hrm, HQ, HB1⟩
        case measure => simp [intOf]; omega
    · obtain rfl : j = n := by omega
      go_wp2_with fail
      go_ret
      exact ⟨_, rfl, unhide hbl, .inr ⟨hq0, by have := unhide hq; have := unhide HTT; have := unhide HM; omega⟩⟩
set_option maxHeartbeats 1000000 in
theorem szF (fr tt ti : Int) (bs : ByteArray) (L : Int) (w : World) (hL : 0 ≤ L) (hL1 : L ≤ 1048576) (hz : bs.size ≤ maxLen) :
    Calls Tryz.prog 82 #[.agg #[.int .i64 fr, .int .i64 tt, .int .i64 ti, .string bs], .int .i64 L] w fun e w' => ∃ r : Int, e = .returned (.int .i64 r) ∧ Below w.heap.size w w' ∧ (r < 0 ∨ (0 ≤ r ∧ r = L - bs.size)) := by
  unfold maxLen at hz
  by_cases h0 : L - bs.size < 0
  all_goals
    go_enter Tryz.func82, Tryz.ntmps82
    go_wp2
    go_ret
  · exact ⟨_, rfl, (Below.refl _ _).alloc (Nat.le_refl _) _, .inl (by omega)⟩
  · exact ⟨_, rfl, (Below.refl _ _).alloc (Nat.le_refl _) _, .inr ⟨by omega, rfl⟩⟩
set_option maxHeartbeats 8000000 in
theorem szFS (a : Option Addr) (fs : List Fm.R) (cap : Nat) (L : Int) (w : World) (hL : 0 ≤ L) (hL1 : L ≤ 1048576) (hm : fs.length ≤ maxLen) (hs : ∀ i, i < fs.length → (fs.getD i Fm.R.zero).bs.size ≤ maxLen) (hr : Fm.RM w a fs) :
    Calls Tryz.prog 40 #[.slice a fs.length cap, .int .i64 L] w fun e w' => ∃ r : Int, e = .returned (.int .i64 r) ∧ Below w.heap.size w w' ∧ (r < 0 ∨ (0 ≤ r ∧ r = L - fs.length - totF fs)) := by
  unfold maxLen at hm
  have HR := hide hr
  have HS := hide hs
  clear hr hs
  obtain ⟨n, hN⟩ : ∃ n, fs.length = n := ⟨_, rfl⟩
  rw [hN] at hm ⊢
  have HN := hide hN
  have HTT := hide (show totF (fs.take fs.length) = totF fs by rw [List.take_length])
  rw [hN] at HTT
  clear hN
  obtain ⟨T, hT⟩ : ∃ T, totF fs = T := ⟨_, rfl⟩
  rw [hT] at HTT ⊢
  have HT := hide hT
  clear hT
  by_cases h0 : L - n < 0
  · go_enter Tryz.func40, Tryz.ntmps40
    go_wp2
    go_ret
    exact ⟨_, rfl, Below.refl _ _, .inl (by omega)⟩
  obtain ⟨M, hM⟩ : ∃ M, L - (n : Int) = M := ⟨_, rfl⟩
  have HM := hide hM
  have hM0 : 0 ≤ M := by omega
  have hM1 : M ≤ 1048576 := by omega
  have h0' : ¬ M < 0 := by omega
  clear h0
  go_enter Tryz.func40, Tryz.ntmps40
  go_wp2_with fail
  try rw [hM]
  go_wp2_with fail
  clear hM h0'
  go_loopw [1, 5] (fun r i wr => ∃ j : Nat, j ≤ n ∧ i = .int .i64 j ∧ ∃ q : Int, r = .int .i64 q ∧ 0 ≤ q ∧ q ≤ 1048576 ∧ Hid (q = M - totF (fs.take j)) ∧ Hid (Below w.heap.size w wr)) (fun _ i _ => n - (intOf i).toNat)
  case atStart => exact ⟨0, by omega, rfl, M, rfl, hM0, hM1, hide (by simp [totF]), hide (Below.refl _ _)⟩
  case round =>
    obtain ⟨j, hj, rfl, q, rfl, hq0, hq1, hq, hbl⟩ := hrel
    by_cases hlt : (j : Int) < (n : Int)
    · have k0 : (0 : Int) ≤ (j : Int) := by omega
      have hlen : j < fs.length := by rw [unhide HN]; omega
      rcases (unhide HR).below (by exact (unhide hbl)) with e0 | ⟨g, off, rfl, hc⟩
      · exfalso; rw [e0] at hlen; simp at hlen
      have hA := hc j hlen
      have HX := hide ((unhide HS) j hlen)
      have HTK := hide (totF_take hlen)
      clear hlen hc
      generalize fs.getD j Fm.R.zero = m at *
      obtain ⟨fr, tt, ti, bs⟩ := m
      obtain ⟨c0, c1, c2, c3⟩ := hA
      dsimp only at c0 c1 c2 c3 HX HTK
      go_wp2_with fail
      refine (szF fr tt ti bs q _ hq0 hq1 (unhide HX)).mono ?_
      rintro e w1 ⟨r, rfl, b1, hr⟩
      clear c0 c1 c2 c3
      have HB1 := hide ((unhide hbl).trans (b1.mono (unhide hbl).size))
      rcases hr with hr | ⟨hr0, hr1⟩
      · clear b1 HX HTK
        go_wp2_with fail
        go_ret
        exact ⟨_, rfl, unhide HB1, .inl (by omega)⟩
      · have HQ : Hid (r = M - totF (fs.take (j + 1))) := hide (by have := unhide hq; have := unhide HTK; omega)
        have hrn : ¬ r < 0 := by omega
        have hrm : r ≤ 1048576 := by omega
        clear b1 HX HTK hr1 hq
        go_wp2_with fail
        go_roundw
        case rel => exact ⟨j + 1, by omega, by go_num, r, rfl, hr0, hrm, HQ, HB1⟩
        case measure => simp [intOf]; omega
    · obtain rfl : j = n := by omega
      go_wp2_with fail
      go_ret
      exact ⟨_, rfl, unhide hbl, .inr ⟨hq0, by have := unhide hq; have := unhide HTT; have := unhide HM; omega⟩⟩
set_option maxHeartbeats 1000000 in
theorem szI (a : Option Addr) (n cap : Nat) (L : Int) (w : World) (hL : 0 ≤ L) (hL1 : L ≤ 1048576) (hm : n ≤ maxLen) :
    Calls Tryz.prog 39 #[.slice a n cap, .int .i64 L] w fun e w' => ∃ r : Int, e = .returned (.int .i64 r) ∧ w' = w ∧ (r < 0 ∨ (0 ≤ r ∧ r = L - n)) := by
  unfold maxLen at hm
  by_cases h0 : L - n < 0
  all_goals
    go_enter Tryz.func39, Tryz.ntmps39
    go_wp2
    go_ret
  · exact ⟨_, rfl, rfl, .inl (by omega)⟩
  · exact ⟨_, rfl, rfl, .inr ⟨by omega, rfl⟩⟩
set_option maxHeartbeats 8000000 in
theorem szNt (a b d : Option Addr) (ca cb cd : Nat) (t : Int) (ms : List Rm) (ps : List Pl) (cs : List Int) (fs : List Fm.R) (L : Int) (w : World) (hL : 0 ≤ L) (hL1 : L ≤ 1048576) (hm : ms.length ≤ maxLen) (hc : cs.length ≤ maxLen) (hf : fs.length ≤ maxLen) (hs : ∀ i, i < ms.length → Sx (ms.getD i Rm.zero)) (hg : ∀ i, i < fs.length → (fs.getD i Fm.R.zero).bs.size ≤ maxLen) (hr : NR w a ms ps) (hz : Fm.RM w d fs) :
    Calls Tryz.prog 11 #[.agg #[.slice a ms.length ca, .slice b cs.length cb, .slice d fs.length cd, .int .i64 t], .int .i64 L] w fun e w' => ∃ r : Int, e = .returned (.int .i64 r) ∧ Below w.heap.size w w' ∧ (r < 0 ∨ (0 ≤ r ∧ r = L - ms.length - tot ms - cs.length - fs.length - totF fs)) := by
  have b0 := bel_new w (.cells #[.slice a ms.length ca, .slice b cs.length cb, .slice d fs.length cd, .int .i64 t] 26)
  have HX0 := hide (nb_new w (.slice a ms.length ca) (.slice b cs.length cb) (.slice d fs.length cd) t 26)
  have HR := hide (hr.below b0)
  have HZ := hide (hz.below b0)
  have HB0 := hide b0
  have HS := hide hs
  have HG := hide hg
  have t0 := tot_nonneg ms
  clear b0 hr hz hs hg
  go_enter Tryz.func11, Tryz.ntmps11
  go_wp2_with fail
  generalize w.alloc (.cells #[.slice a ms.length ca, .slice b cs.length cb, .slice d fs.length cd, .int .i64 t] 26) = w0 at *
  refine (szNS _ ms ps _ L _ hL hL1 hm (unhide HS) (unhide HR)).mono ?_
  rintro e w1 ⟨r1, rfl, b1, h1⟩
  have HB1 := hide ((unhide HB0).trans (b1.mono (unhide HB0).size))
  have HX1 := hide ((unhide HX0).below b1)
  have HZ1 := hide ((unhide HZ).below b1)
  clear HB0 HX0 HZ HR b1
  rcases h1 with h1 | ⟨h1, h1'⟩
  · go_wp2_with fail
    go_ret
    exact ⟨_, rfl, unhide HB1, .inl (by omega)⟩
  have hn1 : ¬ r1 < 0 := by omega
  have hu1 : r1 ≤ 1048576 := by omega
  have HE1 := hide h1'
  clear h1'
  obtain ⟨p0, p1, p2, p3⟩ := unhide HX1
  go_wp2_with fail
  clear p0 p1 p2 p3
  refine (szI _ _ _ r1 _ h1 hu1 hc).mono ?_
  rintro e w2 ⟨r2, rfl, hw2, h2⟩
  subst hw2
  rcases h2 with h2 | ⟨h2, h2'⟩
  · go_wp2_with fail
    go_ret
    exact ⟨_, rfl, unhide HB1, .inl (by omega)⟩
  have hn2 : ¬ r2 < 0 := by omega
  have hu2 : r2 ≤ 1048576 := by omega
  have HE2 := hide h2'
  clear h2'
  obtain ⟨p0, p1, p2, p3⟩ := unhide HX1
  go_wp2_with fail
  clear p0 p1 p2 p3
  refine (szFS _ fs _ r2 _ h2 hu2 hf (unhide HG) (unhide HZ1)).mono ?_
  rintro e w3 ⟨r3, rfl, b3, h3⟩
  have HB3 := hide ((unhide HB1).trans (b3.mono (unhide HB1).size))
  clear HB1 HX1 HZ1 b3
  rcases h3 with h3 | ⟨h3, h3'⟩
  · go_wp2_with fail
    go_ret
    exact ⟨_, rfl, unhide HB3, .inl (by omega)⟩
  have hn3 : ¬ r3 < 0 := by omega
  have HE3 := hide h3'
  clear h3'
  go_wp2_with fail
  go_ret
  exact ⟨_, rfl, unhide HB3, .inr ⟨h3, by have := unhide HE1; have := unhide HE2; have := unhide HE3; omega⟩⟩
end Nt
end Go.Proofs.YtfooahhdikobeaaGreat
namespace Go.Proofs.YtfooahhdikobeaaGreat
open Go.ChangeShapes Go.WideShapes Go.ChangeAt Go.RowKit
set_option linter.unusedVariables false
set_option linter.unusedSimpArgs false
set_option maxRecDepth 100000
attribute [local go_sem ↓] Go.wp_at_zero Go.wp_at_succ
namespace Nt
open W1 Rt
set_option maxHeartbeats 4000000 in
/-- The cells that read as a router. -/
theorem open_one {H : Type} {enc : TypeId × Value → H} {W : World} {fuel : Nat} {c : List Value} {y : DataW H × List MemPlace} (hl : c.length = 13)
    (hf : DataW.trod enc Tryz.prog W 0 (fun _ => true) true fuel 114 c = some y) : ∃ (m : Rm) (p : Pl), c = cl m p ∧ Sx m ∧ Rd W m p := by
  obtain ⟨c0, c1, c2, c3, c4, c5, c6, c7, c8, c9, c10, c11, c12, rfl⟩ := list13 hl
  obtain ⟨xs, n, _, _, _, hlen, hf⟩ := DataW.trod_struct Tryz.underlying114 hf
  obtain ⟨x0, x1, x2, x3, x4, x5, x6, x7, x8, x9, x10, x11, rfl⟩ := list12 hlen
  have k0 := hf 0 _ rfl
  have k1 := hf 1 _ rfl
  have k2 := hf 2 _ rfl
  have k3 := hf 3 _ rfl
  have k4 := hf 4 _ rfl
  have k5 := hf 5 _ rfl
  have k6 := hf 6 _ rfl
  have k7 := hf 7 _ rfl
  have k8 := hf 8 _ rfl
  have k9 := hf 9 _ rfl
  have k10 := hf 10 _ rfl
  have k11 := hf 11 _ rfl
  clear hf hlen
  simp [cells_int, cells_lk, cells_tu, cells_ed, cells_top] at k0 k1 k2 k3 k4 k5 k6 k7 k8 k9 k10 k11
  obtain ⟨a0, e0, _, _⟩ := DataW.trod_int Tryz.underlying3 k0
  obtain ⟨a1, e1, _, _⟩ := DataW.trod_int Tryz.underlying3 k1
  obtain ⟨a2, e2, _, _⟩ := DataW.trod_int Tryz.underlying3 k2
  obtain ⟨a3, e3, _, _⟩ := DataW.trod_int Tryz.underlying3 k3
  obtain ⟨a4, e4, _, _⟩ := DataW.trod_int Tryz.underlying3 k4
  obtain ⟨a11, e11, _, _⟩ := DataW.trod_int Tryz.underlying3 k11
  simp at e0 e1 e2 e3 e4 e11
  subst e0 e1 e2 e3 e4 e11
  obtain ⟨ys, n', _, _, _, hlen', hg⟩ := DataW.trod_struct Tryz.underlying111 k9
  obtain ⟨y0, y1, rfl⟩ := Tq.listR hlen'
  have t0 := hg 0 _ rfl
  have t1 := hg 1 _ rfl
  simp [cells_so, cells_tu] at t0 t1
  obtain ⟨g1, l1, p1, m1, rfl, h1, j1, r1⟩ := Lk.open_cell k5
  obtain ⟨g2, l2, p2, m2, rfl, h2, j2, r2⟩ := Tq.open_cellT k6
  obtain ⟨g3, l3, p3, m3, rfl, h3, j3, r3⟩ := Tq.open_cellT k7
  obtain ⟨g4, l4, p4, m4, rfl, h4, j4, r4⟩ := Tq.open_cellT k8
  obtain ⟨g5, l5, p5, m5, rfl, h5, j5, r5⟩ := So.open_cell t0
  obtain ⟨g6, l6, p6, m6, rfl, h6, j6, r6⟩ := Tq.open_cellT t1
  obtain ⟨g7, l7, p7, m7, rfl, h7, j7, r7⟩ := Ed.open_cell k10
  subst h1 h2 h3 h4 h5 h6 h7
  exact ⟨⟨a0, a1, a2, a3, a4, a11, m1, m2, m3, m4, m5, m6, m7⟩, ⟨g1, g2, g3, g4, g5, g6, g7, p1, p2, p3, p4, p5, p6, p7⟩, rfl, ⟨j1, j2, j3, j4, j5, j6, j7⟩, r1, r2, r3, r4, r5, r6, r7⟩
theorem plain_add (b off k : Nat) : (⟨b, off, none⟩ : Addr).add k = ⟨b, off + k, none⟩ := by unfold Addr.add; split <;> simp_all
/-- A row of routers that came in. -/
theorem open_row {H : Type} {enc : TypeId × Value → H} {W : World} {v : Value} {fuel : Nat} {y : DataW H × List MemPlace}
    (hf : DataW.trod enc Tryz.prog W 0 (fun _ => true) true fuel 22 [v] = some y) : ∃ a len cap, ∃ (ms : List Rm) (ps : List Pl), v = .slice a len cap ∧ ms.length = len ∧ len ≤ maxLen ∧ (∀ i, i < ms.length → Sx (ms.getD i Rm.zero)) ∧ NR W a ms ps := by
  rcases Deep.open_slice Tryz.underlying22 hf with ⟨hcs, _⟩ | ⟨x, len, cap, m, n, D, Pc, hcs, _, hl, hm, hmm, _, hx⟩
  · simp only [List.cons.injEq, and_true] at hcs
    subst hcs
    exact ⟨none, 0, 0, [], [], rfl, rfl, Nat.zero_le _, fun i hi => absurd hi (Nat.not_lt_zero i), .inl rfl⟩
  · simp only [List.cons.injEq, and_true] at hcs
    subst hcs
    simp at hmm
    subst hmm
    rw [cells13] at hx
    by_cases h0 : len = 0
    · subst h0; exact ⟨_, _, _, [], [], rfl, rfl, Nat.zero_le _, fun i hi => absurd hi (Nat.not_lt_zero i), .inl rfl⟩
    obtain ⟨b, off, spot⟩ := x
    have hsp : spot = none := by
      obtain ⟨cs', h1, _⟩ := hx 0 (by omega)
      obtain ⟨_, hlen, hc⟩ := World.cells?_some h1
      have h2 := hc 0 (by omega)
      rw [List.getElem?_eq_getElem (by omega)] at h2
      simpa [Addr.add] using World.cell?_spot h2
    subst hsp
    have hex : ∀ i, i < len → ∃ mp : Rm × Pl, W.rangeAt b (off + i * 13) (cl mp.1 mp.2) ∧ Sx mp.1 ∧ Rd W mp.1 mp.2 := by
      intro i hi
      obtain ⟨cs', h1, h2⟩ := hx i (by omega)
      obtain ⟨_, hlen, hc⟩ := World.cells?_some h1
      obtain ⟨m, p, rfl, hs, hr⟩ := open_one hlen h2
      refine ⟨(m, p), fun j u hu => ?_, hs, hr⟩
      have hj : j < 13 := by
        rcases Nat.lt_or_ge j 13 with h | h
        · exact h
        · rw [List.getElem?_eq_none (by rw [cl_len]; exact h)] at hu; cases hu
      have q := hc j hj
      rw [plain_add, plain_add] at q
      rw [q]; exact hu
    have hin : Inhabited (Rm × Pl) := ⟨(Rm.zero, Pl.zero)⟩
    obtain ⟨V, hV⟩ := Deep.choose_lt hex
    have e1 : ∀ i, i < len → ((List.range len).map fun i => (V i).1).getD i Rm.zero = (V i).1 := fun i hi => by
      rw [List.getD_eq_getElem?_getD, List.getElem?_map, List.getElem?_range hi]; rfl
    have e2 : ∀ i, i < len → ((List.range len).map fun i => (V i).2).getD i Pl.zero = (V i).2 := fun i hi => by
      rw [List.getD_eq_getElem?_getD, List.getElem?_map, List.getElem?_range hi]; rfl
    refine ⟨_, _, _, (List.range len).map fun i => (V i).1, (List.range len).map fun i => (V i).2, rfl, by simp, Nat.le_trans hl hm, fun i hi => ?_, .inr ⟨b, off, rfl, fun i hi => ?_⟩⟩
    all_goals have hi' : i < len := by simpa using hi
    · rw [e1 i hi']; exact (hV i hi').2.1
    · rw [e1 i hi', e2 i hi']; exact ⟨(hV i hi').1, (hV i hi').2.2⟩
theorem cellsNet : Tryz.prog.cellsOf 26 = 4 := by kernel_rfl
theorem cells_ro : Tryz.prog.cellsOf 22 = 1 := by kernel_rfl
theorem cells_in : Tryz.prog.cellsOf 23 = 1 := by kernel_rfl
theorem cells_fr : Tryz.prog.cellsOf 24 = 1 := by kernel_rfl
theorem cells_i : Tryz.prog.cellsOf 3 = 1 := by kernel_rfl
theorem list4 {α : Type} {l : List α} (h : l.length = 4) : ∃ c0 c1 c2 c3, l = [c0, c1, c2, c3] := by
  match l, h with
  | [c0, c1, c2, c3], _ => exact ⟨c0, c1, c2, c3, rfl⟩
/-- A list of ints within a struct that came in. -/
theorem open_ints_cell {H : Type} {enc : TypeId × Value → H} {W : World} {v : Value} {fuel : Nat} {y : DataW H × List MemPlace}
    (hf : DataW.trod enc Tryz.prog W 0 (fun _ => true) true fuel 23 [v] = some y) : ∃ a len cap, ∃ zs : List Int, v = .slice a len cap ∧ zs.length = len ∧ len ≤ maxLen ∧ In.RM W a zs := by
  obtain ⟨a, len, cap, hv⟩ : ∃ a len cap, v = .slice a len cap := by
    rcases open_ints Tryz.underlying23 Tryz.underlying3 (by kernel_rfl) hf with ⟨hcs, _⟩ | ⟨x, l, c, zs, hcs, _⟩
    · simp at hcs; exact ⟨_, _, _, hcs⟩
    · simp at hcs; exact ⟨_, _, _, hcs⟩
  subst hv
  obtain ⟨zs, h1, h2, h3⟩ := In.open_list (a := a) (len := len) (cap := cap) (d := y.1) (p := y.2) ⟨fuel, hf⟩
  exact ⟨a, len, cap, zs, rfl, h1, h2, h3⟩
set_option maxHeartbeats 4000000 in
/-- A net that came in by value. -/
theorem open_net {H : Type} {enc : TypeId × Value → H} {W : World} {r : Reach} {b0 : Nat} {v : Value} {d : DataW H} {p : List MemPlace}
    (hv : Value.okWide Tryz.prog W r b0 26 v) (h : DataW.Trod enc Tryz.prog W 0 (fun _ => true) true 26 v d p) :
    ∃ a b d ca cb cd t, ∃ (ms : List Rm) (ps : List Pl) (cs : List Int) (fs : List Fm.R), v = .agg #[.slice a ms.length ca, .slice b cs.length cb, .slice d fs.length cd, .int .i64 t] ∧ (ms.length ≤ maxLen ∧ cs.length ≤ maxLen ∧ fs.length ≤ maxLen ∧ (∀ i, i < ms.length → Sx (ms.getD i Rm.zero)) ∧ ∀ i, i < fs.length → (fs.getD i Fm.R.zero).bs.size ≤ maxLen) ∧ NR W a ms ps ∧ In.RM W b cs ∧ Fm.RM W d fs := by
  obtain ⟨cs, rfl, hsz⟩ := okWide_struct Tryz.underlying26 hv
  obtain ⟨l⟩ := cs
  obtain ⟨c0, c1, c2, c3, rfl⟩ := list4 (hsz.trans cellsNet)
  obtain ⟨fuel, hf⟩ := h
  obtain ⟨xs, n, _, _, _, hlen, hf⟩ := DataW.trod_struct Tryz.underlying26 hf
  obtain ⟨x0, x1, x2, x3, rfl⟩ := list4 hlen
  have k0 := hf 0 _ rfl
  have k1 := hf 1 _ rfl
  have k2 := hf 2 _ rfl
  have k3 := hf 3 _ rfl
  clear hf hsz hv hlen
  simp [Value.cells, cells_ro, cells_in, cells_fr, cells_i] at k0 k1 k2 k3
  obtain ⟨t, e3, _, _⟩ := DataW.trod_int Tryz.underlying3 k3
  simp at e3
  subst e3
  obtain ⟨a, l0, ca, ms, ps, rfl, h0, j0, s0, r0⟩ := open_row k0
  obtain ⟨b, l1, cb, zs, rfl, h1, j1, r1⟩ := open_ints_cell k1
  obtain ⟨d, l2, cd, fs, rfl, h2, j2, r2, s2⟩ := Fm.open_cell k2
  subst h0 h1 h2
  exact ⟨a, b, d, ca, cb, cd, t, ms, ps, zs, fs, rfl, ⟨j0, j1, j2, s0, s2⟩, r0, r1, r2⟩
end Nt
end Go.Proofs.YtfooahhdikobeaaGreat
namespace Go.Proofs.YtfooahhdikobeaaGreat
open Go.ChangeShapes Go.WideShapes Go.ChangeAt Go.RowKit
set_option linter.unusedVariables false
set_option linter.unusedSimpArgs false
set_option maxRecDepth 100000
attribute [local go_sem ↓] Go.wp_at_zero Go.wp_at_succ
namespace Nt
open W1 Rt
set_option maxHeartbeats 8000000 in
theorem eqNS (a b : Option Addr) (ms : List Rm) (ps qs : List Pl) (ca cb : Nat) (w : World) (hm : ms.length ≤ 1048576) (hs : ∀ i, i < ms.length → Sm (ms.getD i Rm.zero)) (hr : NR w a ms ps) (hr' : NR w b ms qs) :
    Calls Tryz.prog 54 #[.slice a ms.length ca, .slice b ms.length cb] w fun e w' => e = .returned (.bool true) ∧ Below w.heap.size w w' := by
  have HR := hide hr
  have HR' := hide hr'
  have HS := hide hs
  clear hr hr' hs
  generalize hN : ms.length = n at *
  have HN := hide hN
  clear hN
  go_enter Tryz.func54, Tryz.ntmps54
  go_wp2
  go_loopw [5] (fun i wr => ∃ j : Nat, j ≤ n ∧ i = .int .i64 j ∧ Hid (Below w.heap.size w wr)) (fun i _ => n - (intOf i).toNat)
  case atStart => exact ⟨0, by omega, rfl, hide (Below.refl _ _)⟩
  case round =>
    obtain ⟨j, hj, rfl, hbl⟩ := hrel
    by_cases hlt : (j : Int) < (n : Int)
    · have k0 : (0 : Int) ≤ (j : Int) := by omega
      have hlen : j < ms.length := by rw [unhide HN]; omega
      obtain ⟨g, off, rfl, hA, hD⟩ := ((unhide HR).below (unhide hbl)).at hlen
      obtain ⟨g', off', rfl, hA', hD'⟩ := ((unhide HR').below (unhide hbl)).at hlen
      have HM := hide ((unhide HS) j (by omega))
      have HA := hide hA
      have HA' := hide hA'
      have HD := hide hD
      have HD' := hide hD'
      clear hlen hA hA' hD hD'
      generalize ms.getD j Rm.zero = m at *
      generalize ps.getD j Pl.zero = p at *
      generalize qs.getD j Pl.zero = q at *
      go_wp2_with fail
      refine wp_region_noPanic ?_
      refine wp_region_held_drew (S := fun w' => w'.rangeAt g (off + j * 13) (cl m p) ∧ w'.rangeAt g' (off' + j * 13) (cl m q)) (by kernel_rfl) (⟨unhide HA, unhide HA'⟩) (fun hHeld => ?_)
      refine Rg.t 0 17 ?_
      refine Rg.t 1 18 ?_
      refine Rg.t 2 19 ?_
      refine Rg.t (v := .agg (cl m p).toArray) 3 20 ?_ (hv := fun w0 hSw => execI _ rfl rfl hSw.1)
      refine Rg.t 4 21 ?_
      refine Rg.t 5 22 ?_
      refine Rg.t 6 23 ?_
      refine Rg.t (v := .agg (cl m q).toArray) 7 24 ?_ (hv := fun w0 hSw => execI _ rfl rfl hSw.2)
      (refine Rg.o 8 (fun K hK => ?_); go_simp)
      refine (eqN m p q wr.drew (unhide HM) (unhide HD).drew (unhide HD').drew).mono ?_
      rintro e w1 ⟨rfl, b1⟩
      refine hK.out _ _ ⟨rng_below (w := wr.drew) (unhide HA) b1, rng_below (w := wr.drew) (unhide HA') b1⟩ (fun hHeld => ?_)
      clear hK K
      (try simp only [Act.put, List.setIfInBounds_toArray, List.set_cons_zero, List.set_cons_succ])
      refine Rg.t 9 26 ?_
      refine wpAnyH_done (by kernel_rfl) (NoPanic.normal ?_) _
      have hb1 := hide ((unhide hbl).drew.trans (b1.mono (by show w.heap.size ≤ wr.heap.size; exact (unhide hbl).size)))
      clear hHeld b1 HA HA' HD HD'
      go_wp2_with fail
      go_roundw
      case rel => exact ⟨j + 1, by omega, by go_num, hb1⟩
      case measure => simp [intOf]; omega
    · go_wp2
      go_ret
      exact ⟨rfl, unhide hbl⟩
set_option maxHeartbeats 8000000 in
theorem eqNt (a b d a' b' d' : Option Addr) (ca cb cd ca' cb' cd' : Nat) (t : Int) (ms : List Rm) (ps qs : List Pl) (cs : List Int) (fs : List Fm.R) (w : World) (hm : ms.length ≤ 1048576) (hc : cs.length ≤ 1048576) (hf : fs.length ≤ 1048576) (hs : ∀ i, i < ms.length → Sm (ms.getD i Rm.zero)) (hr : NR w a ms ps) (hr' : NR w a' ms qs) (hi : In.RM w b cs) (hi' : In.RM w b' cs) (hz : Fm.RM w d fs) (hz' : Fm.RM w d' fs) :
    Calls Tryz.prog 15 #[.agg #[.slice a ms.length ca, .slice b cs.length cb, .slice d fs.length cd, .int .i64 t], .agg #[.slice a' ms.length ca', .slice b' cs.length cb', .slice d' fs.length cd', .int .i64 t]] w fun e w' => e = .returned (.bool true) ∧ Below w.heap.size w w' := by
  have b0 : Below w.heap.size w ((w.alloc (.cells #[.slice a ms.length ca, .slice b cs.length cb, .slice d fs.length cd, .int .i64 t] 31)).alloc (.cells #[.slice a' ms.length ca', .slice b' cs.length cb', .slice d' fs.length cd', .int .i64 t] 31)) := ((Below.refl _ _).alloc (Nat.le_refl _) _).alloc (by simp) _
  have HX0 : Hid (NB _ w.heap.size _ _ _ _) := hide ((nb_new w (.slice a ms.length ca) (.slice b cs.length cb) (.slice d fs.length cd) t 31).below (bel_new _ (.cells #[.slice a' ms.length ca', .slice b' cs.length cb', .slice d' fs.length cd', .int .i64 t] 31)))
  have HY0 : Hid (NB _ (w.heap.size + 1) _ _ _ _) := hide (by have := nb_new (w.alloc (.cells #[.slice a ms.length ca, .slice b cs.length cb, .slice d fs.length cd, .int .i64 t] 31)) (.slice a' ms.length ca') (.slice b' cs.length cb') (.slice d' fs.length cd') t 31; simpa using this)
  have HB0 := hide b0
  have HR := hide (hr.below b0)
  have HR' := hide (hr'.below b0)
  have HI := hide (hi.below b0)
  have HI' := hide (hi'.below b0)
  have HZ := hide (hz.below b0)
  have HZ' := hide (hz'.below b0)
  have HS := hide hs
  have hne : (t != t) = false := by simp
  clear hr hr' hi hi' hz hz' hs b0
  go_enter Tryz.func15, Tryz.ntmps15
  go_wp2_with fail
  generalize (w.alloc (.cells #[.slice a ms.length ca, .slice b cs.length cb, .slice d fs.length cd, .int .i64 t] 31)).alloc (.cells #[.slice a' ms.length ca', .slice b' cs.length cb', .slice d' fs.length cd', .int .i64 t] 31) = w0 at *
  refine (eqNS _ _ ms ps qs _ _ _ hm (unhide HS) (unhide HR) (unhide HR')).mono ?_
  rintro e w1 ⟨rfl, b1⟩
  have HX1 := hide ((unhide HX0).below b1)
  have HY1 := hide ((unhide HY0).below b1)
  have HB1 := hide ((unhide HB0).trans (b1.mono (unhide HB0).size))
  have HI1 := hide ((unhide HI).below b1)
  have HI1' := hide ((unhide HI').below b1)
  have HZ1 := hide ((unhide HZ).below b1)
  have HZ1' := hide ((unhide HZ').below b1)
  clear HX0 HY0 HB0 HI HI' HZ HZ' HR HR' b1
  obtain ⟨p0, p1, p2, p3⟩ := unhide HX1
  obtain ⟨q0, q1, q2, q3⟩ := unhide HY1
  go_wp2_with fail
  clear p0 p1 p2 p3 q0 q1 q2 q3
  refine (In.eqS _ _ cs _ _ _ hc (unhide HI1) (unhide HI1')).mono ?_
  rintro e w2 ⟨rfl, b2⟩
  have HX2 := hide ((unhide HX1).below b2)
  have HY2 := hide ((unhide HY1).below b2)
  have HB2 := hide ((unhide HB1).trans (b2.mono (unhide HB1).size))
  have HZ2 := hide ((unhide HZ1).below b2)
  have HZ2' := hide ((unhide HZ1').below b2)
  clear HX1 HY1 HB1 HI1 HI1' HZ1 HZ1' b2
  obtain ⟨p0, p1, p2, p3⟩ := unhide HX2
  obtain ⟨q0, q1, q2, q3⟩ := unhide HY2
  go_wp2_with fail
  clear p0 p1 p2 p3 q0 q1 q2 q3
  refine (Fm.eqS _ _ fs _ _ _ hf (unhide HZ2) (unhide HZ2')).mono ?_
  rintro e w3 ⟨rfl, b3⟩
  have HX3 := hide ((unhide HX2).below b3)
  have HY3 := hide ((unhide HY2).below b3)
  have HB3 := hide ((unhide HB2).trans (b3.mono (unhide HB2).size))
  clear HX2 HY2 HB2 HZ2 HZ2' b3
  obtain ⟨p0, p1, p2, p3⟩ := unhide HX3
  obtain ⟨q0, q1, q2, q3⟩ := unhide HY3
  go_wp2_with fail
  go_ret
  exact ⟨rfl, unhide HB3⟩
end Nt
end Go.Proofs.YtfooahhdikobeaaGreat
namespace Go.Proofs.YtfooahhdikobeaaGreat.fnExactConverged
open Go.ChangeShapes Go.WideShapes Go.ChangeAt Go.RowKit
open W1 Rt Nt
set_option linter.unusedVariables false
set_option linter.unusedSimpArgs false
theorem own : ownKnob Tryz.prog.godebug = none := by kernel_rfl
theorem laidOut : laidOutB Tryz.prog = true := by kernel_rfl
set_option maxRecDepth 100000 in
set_option maxHeartbeats 32000000 in
theorem walk (a b d : Option Addr) (ca cb cd : Nat) (t : Int) (ms : List Rm) (ps : List Pl) (cs : List Int) (fs : List Fm.R) (hx1 : ms.length ≤ maxLen) (hx2 : cs.length ≤ maxLen) (hx3 : fs.length ≤ maxLen) (hx4 : ∀ i, i < ms.length → Sx (ms.getD i Rm.zero)) (hx5 : ∀ i, i < fs.length → (fs.getD i Fm.R.zero).bs.size ≤ maxLen) (w : World) (hr : NR w a ms ps) (hi : In.RM w b cs) (hz : Fm.RM w d fs) :
    Calls Tryz.prog 7 #[.agg #[.slice a ms.length ca, .slice b cs.length cb, .slice d fs.length cd, .int .i64 t]] w fun e w' => e = .returned (.bool true) ∧ Below w.heap.size w w' := by
  have Q0 := hide (nb_new w (.slice a ms.length ca) (.slice b cs.length cb) (.slice d fs.length cd) t 26)
  have B0 := bel_new w (.cells #[.slice a ms.length ca, .slice b cs.length cb, .slice d fs.length cd, .int .i64 t] 26)
  have HR0 := hide (hr.below B0)
  have HI0 := hide (hi.below B0)
  have HZ0 := hide (hz.below B0)
  clear hr hi hz
  go_enter Tryz.func7, Tryz.ntmps7
  obtain ⟨k0_0, k0_1, k0_2, k0_3⟩ := unhide Q0
  go_wp2_with fail
  clear k0_0 k0_1 k0_2 k0_3
  generalize hW_ : w.alloc (.cells #[.slice a ms.length ca, .slice b cs.length cb, .slice d fs.length cd, .int .i64 t] 26) = w0 at *
  clear hW_
  refine (szNt a b d ca cb cd t ms ps cs fs 1048576 _ (by omega) (by omega) hx1 hx2 hx3 hx4 hx5 (unhide HR0) (unhide HZ0)).mono ?_
  rintro e w1 ⟨r1, rfl, b1, hs_⟩
  have B1 := B0.trans (b1.mono B0.size)
  have Q1 := hide ((unhide Q0).below b1)
  have HR1 := hide ((unhide HR0).below b1)
  have HI1 := hide ((unhide HI0).below b1)
  have HZ1 := hide ((unhide HZ0).below b1)
  clear Q0 HR0 HI0 HZ0
  rcases hs_ with hs_ | ⟨hs0, hs1⟩
  · go_wp2_with fail
    go_ret
    exact ⟨rfl, B1⟩
  have hnn : ¬ r1 < 0 := by omega
  have t0_ := tot_nonneg ms
  have t1_ := totF_nonneg fs
  have hm1 : ms.length ≤ 1048576 := by omega
  have hm2 : cs.length ≤ 1048576 := by omega
  have hm3 : fs.length ≤ 1048576 := by omega
  have HSM := hide (fun i (hi : i < ms.length) => sm_of (m := ms.getD i Rm.zero) (by have := cnt_le hi; omega))
  have HTB := hide (show (ms.length : Int) + tot ms + cs.length + fs.length + totF fs ≤ 1048576 by omega)
  have HGZ := hide hx5
  clear hs0 hs1 t0_ t1_ hx1 hx2 hx3 hx4 hx5
  obtain ⟨v0, hv0_⟩ : ∃ v0, netB ms cs fs t = v0 := ⟨_, rfl⟩
  have Hv0 := hide hv0_
  clear hv0_
  have nv0 : (v0 != v0) = false := by simp
  obtain ⟨v1, hv1_⟩ : ∃ v1, (v0 && allI ms.length (cvB ms cs)) = v1 := ⟨_, rfl⟩
  have Hv1 := hide hv1_
  clear hv1_
  have nv1 : (v1 != v1) = false := by simp
  obtain ⟨v2, hv2_⟩ : ∃ v2, (if v0 = true then (0 : Int) else 1) = v2 := ⟨_, rfl⟩
  have Hv2 := hide hv2_
  clear hv2_
  have nv2 : (v2 != v2) = false := by simp
  obtain ⟨k0_0, k0_1, k0_2, k0_3⟩ := unhide Q1
  go_wp2_with fail
  clear k0_0 k0_1 k0_2 k0_3
  refine (toNt a b d ca cb cd t ms ps cs fs _ hm1 hm2 hm3 (unhide HSM) (unhide HR1) ((unhide HI1)) (unhide HZ1)).mono ?_
  rintro e w2 ⟨s1, s2, s3, sq, rfl, b2, o_⟩
  have B2 := B1.trans (b2.mono B1.size)
  have Q2 := hide ((unhide Q1).below b2)
  have HR2 := hide ((unhide HR1).below b2)
  have HI2 := hide ((unhide HI1).below b2)
  have HZ2 := hide ((unhide HZ1).below b2)
  clear Q1 HR1 HI1 HZ1
  have S2 := hide o_
  clear o_
  go_wp2_with fail
  refine (specCV _ _ _ _ _ _ t ms _ cs fs  _ hm1 hm2 hm3 (unhide HSM) (unhide HGZ) (unhide S2).nr (unhide S2).ri (unhide S2).rf).mono ?_
  rintro e w3 ⟨rfl, b3⟩
  have B3 := B2.trans (b3.mono B2.size)
  have Q3 := hide ((unhide Q2).below b3)
  have HR3 := hide ((unhide HR2).below b3)
  have HI3 := hide ((unhide HI2).below b3)
  have HZ3 := hide ((unhide HZ2).below b3)
  have S3 := hide ((unhide S2).below b3)
  clear Q2 HR2 HI2 HZ2 S2
  rw [unhide Hv0, unhide Hv1, unhide Hv2]
  clear S3
  obtain ⟨k0_0, k0_1, k0_2, k0_3⟩ := unhide Q3
  go_wp2_with fail
  clear k0_0 k0_1 k0_2 k0_3
  refine (toNt a b d ca cb cd t ms ps cs fs _ hm1 hm2 hm3 (unhide HSM) (unhide HR3) ((unhide HI3)) (unhide HZ3)).mono ?_
  rintro e w4 ⟨x1, x2, x3, xq, rfl, b4, o_⟩
  have B4 := B3.trans (b4.mono B3.size)
  have Q4 := hide ((unhide Q3).below b4)
  have HR4 := hide ((unhide HR3).below b4)
  have HI4 := hide ((unhide HI3).below b4)
  have HZ4 := hide ((unhide HZ3).below b4)
  clear Q3 HR3 HI3 HZ3
  have X4 := hide o_
  clear o_
  have b5 := bel_new w4 (.cells #[.slice (some ⟨x1, 0, none⟩) ms.length ms.length, .slice (some ⟨x2, 0, none⟩) cs.length cs.length, .slice (some ⟨x3, 0, none⟩) fs.length fs.length, .int .i64 t] 31)
  have B5 := B4.trans (b5.mono B4.size)
  have Q5 := hide ((unhide Q4).below b5)
  have HR5 := hide ((unhide HR4).below b5)
  have HI5 := hide ((unhide HI4).below b5)
  have HZ5 := hide ((unhide HZ4).below b5)
  have X5 := hide ((unhide X4).below b5)
  clear Q4 HR4 HI4 HZ4 X4
  have V5 := hide (nb_new w4 (.slice (some ⟨x1, 0, none⟩) ms.length ms.length) (.slice (some ⟨x2, 0, none⟩) cs.length cs.length) (.slice (some ⟨x3, 0, none⟩) fs.length fs.length) t 31)
  obtain ⟨k0_0, k0_1, k0_2, k0_3⟩ := unhide V5
  go_wp2_with fail
  clear k0_0 k0_1 k0_2 k0_3
  generalize hW_ : (w4.alloc (.cells #[.slice (some ⟨x1, 0, none⟩) ms.length ms.length, .slice (some ⟨x2, 0, none⟩) cs.length cs.length, .slice (some ⟨x3, 0, none⟩) fs.length fs.length, .int .i64 t] 31)) = w5 at *
  clear hW_
  refine (implCV _ _ _ _ _ _ t ms _ cs fs  _ hm1 hm2 hm3 (unhide HSM) (unhide HGZ) (unhide X5).nr (unhide X5).ri (unhide X5).rf).mono ?_
  rintro e w6 ⟨rfl, b6⟩
  have B6 := B5.trans (b6.mono B5.size)
  have Q6 := hide ((unhide Q5).below b6)
  have HR6 := hide ((unhide HR5).below b6)
  have HI6 := hide ((unhide HI5).below b6)
  have HZ6 := hide ((unhide HZ5).below b6)
  have X6 := hide ((unhide X5).below b6)
  have V6 := hide ((unhide V5).below b6)
  clear Q5 HR5 HI5 HZ5 X5 V5
  rw [unhide Hv0, unhide Hv1, unhide Hv2]
  obtain ⟨k0_0, k0_1, k0_2, k0_3⟩ := unhide V6
  obtain ⟨k1_0, k1_1, k1_2, k1_3⟩ := unhide Q6
  go_wp2_with fail
  clear k0_0 k0_1 k0_2 k0_3 k1_0 k1_1 k1_2 k1_3
  refine wp_region_noPanic ?_
  refine wp_region_held_drew (S := fun w' => (w'.cell? ⟨w4.heap.size, 0, none⟩ = some (.slice (some ⟨x1, 0, none⟩) ms.length ms.length) ∧ w'.cell? ⟨w4.heap.size, 1, none⟩ = some (.slice (some ⟨x2, 0, none⟩) cs.length cs.length) ∧ w'.cell? ⟨w4.heap.size, 2, none⟩ = some (.slice (some ⟨x3, 0, none⟩) fs.length fs.length) ∧ w'.cell? ⟨w4.heap.size, 3, none⟩ = some (.int .i64 t)) ∧ (w'.cell? ⟨w.heap.size, 0, none⟩ = some (.slice a ms.length ca) ∧ w'.cell? ⟨w.heap.size, 1, none⟩ = some (.slice b cs.length cb) ∧ w'.cell? ⟨w.heap.size, 2, none⟩ = some (.slice d fs.length cd) ∧ w'.cell? ⟨w.heap.size, 3, none⟩ = some (.int .i64 t))) (by kernel_rfl) (⟨unhide V6, unhide Q6⟩) (fun hHeld => ?_)
  refine Rg.t (v := .agg #[.slice (some ⟨x1, 0, none⟩) ms.length ms.length, .slice (some ⟨x2, 0, none⟩) cs.length cs.length, .slice (some ⟨x3, 0, none⟩) fs.length fs.length, .int .i64 t]) 0 35 ?_ (hv := fun w0 hSw => execNB _ rfl rfl hSw.1)
  refine Rg.t (v := .agg #[.slice a ms.length ca, .slice b cs.length cb, .slice d fs.length cd, .int .i64 t]) 1 36 ?_ (hv := fun w0 hSw => execNW _ rfl rfl hSw.2)
  (refine Rg.o 2 (fun K hK => ?_); go_simp)
  refine (toNt a b d ca cb cd t ms ps cs fs _ hm1 hm2 hm3 (unhide HSM) (unhide HR6).drew (drewI (unhide HI6)) (unhide HZ6).drew).mono ?_
  rintro e w7 ⟨y1, y2, y3, yq, rfl, b7_, o_⟩
  have b7 : Below w6.heap.size w6 w7 := (Below.refl _ _).drew.trans b7_
  have B7 := B6.trans (b7.mono B6.size)
  have Q7 := hide ((unhide Q6).below b7)
  have HR7 := hide ((unhide HR6).below b7)
  have HI7 := hide ((unhide HI6).below b7)
  have HZ7 := hide ((unhide HZ6).below b7)
  have X7 := hide ((unhide X6).below b7)
  have V7 := hide ((unhide V6).below b7)
  clear Q6 HR6 HI6 HZ6 X6 V6
  have Y7 := hide o_
  clear o_
  refine hK.out _ _ (⟨unhide V7, unhide Q7⟩) (fun hHeld => ?_)
  clear hK K
  (try simp only [Act.put, List.setIfInBounds_toArray, List.set_cons_zero, List.set_cons_succ])
  (refine Rg.o 3 (fun K hK => ?_); go_simp)
  refine (eqNt _ _ _ _ _ _ _ _ _ _ _ _ t ms _ _ cs fs _ hm1 hm2 hm3 (unhide HSM) (unhide X7).nr (unhide Y7).nr (unhide X7).ri (unhide Y7).ri (unhide X7).rf (unhide Y7).rf).mono ?_
  rintro e w8 ⟨rfl, b8⟩
  have B8 := B7.trans (b8.mono B7.size)
  have Q8 := hide ((unhide Q7).below b8)
  have HR8 := hide ((unhide HR7).below b8)
  have HI8 := hide ((unhide HI7).below b8)
  have HZ8 := hide ((unhide HZ7).below b8)
  have X8 := hide ((unhide X7).below b8)
  have V8 := hide ((unhide V7).below b8)
  have Y8 := hide ((unhide Y7).below b8)
  clear Q7 HR7 HI7 HZ7 X7 V7 Y7
  clear Y8
  refine hK.out _ _ (⟨unhide V8, unhide Q8⟩) (fun hHeld => ?_)
  clear hK K
  (try simp only [Act.put, List.setIfInBounds_toArray, List.set_cons_zero, List.set_cons_succ])
  refine Rg.t 4 39 ?_
  refine wpAnyH_done (by kernel_rfl) (NoPanic.normal ?_) _
  clear hHeld
  have HF := hide B8
  go_wp2_with fail
  go_ret
  exact ⟨rfl, unhide HF⟩

end Go.Proofs.YtfooahhdikobeaaGreat.fnExactConverged
