/-
  Proved here: for all slices of bytes, laws.FnRoutes returns true (a route costs its distance, and so does its next hop, with the edge there, and its own distance from there on) and leaves the slices as they were. No condition.
-/
import Derived.Test.YtjhhhmdhdnmejaaRouP
import Derived.Test.YtjhhhmdhdnmejaaGphD
import Derived.Test.YtjhhhmdhdnmejaaSetK
import Derived.Test.YtjhhhmdhdnmejaaTwoH
import Derived.Test.YtjhhhmdhdnmejaaAt
namespace Go.Proofs.Ytjhhhmdhdnmejaa.fnRoutes
open Go.ChangeShapes Go.WideShapes Go.ChangeAt Go.RowKit
open W1 By Tu St Wd
set_option linter.unusedVariables false
set_option linter.unusedSimpArgs false
attribute [local go_sem ↓] Go.wp_at_zero Go.wp_at_succ
theorem own : ownKnob Try.prog.godebug = none := by kernel_rfl
theorem laidOut : laidOutB Try.prog = true := by kernel_rfl
theorem below_dN {w : World} (q : Nat) : Below w.heap.size w (w.drewN q) := ⟨rfl, rfl, rfl, Nat.le_refl _, fun _ _ => rfl⟩
theorem reads_under {w w' : World} {a : Option Addr} {bs : List UInt8} (h : Reads w a bs) (hb : Below w.heap.size w w') : Reads w' a bs :=
  Sr.reads_of_cells h (fun e0 g off o e => hb.cell (p := ⟨g, o, none⟩) (Sr.reads_lt h e0 e))
theorem graph_code {g : List Tu.R} (hg : graphB g = true) {f : Int} (hf : 1 ≤ f ∧ f ≤ 8) : codeG g f = 0 := by
  have := Tw.two_len (graph_two hg)
  unfold codeG; rw [if_neg (by omega), if_pos hg]; unfold inB; simp; omega
theorem hop_yes {u v : Int} (h1 : 1 ≤ u ∧ u ≤ 8) (h2 : 1 ≤ v ∧ v ≤ 8) (h3 : v ≠ u) : Tw.hopB u v = true := by unfold Tw.hopB inB; simp; omega
theorem cel {W W' : World} {b o : Nat} {v : Value} (hb : Below W.heap.size W W') (h : W.cell? ⟨b, o, none⟩ = some v) : W'.cell? ⟨b, o, none⟩ = some v := (hb.cell (p := ⟨b, o, none⟩) (World.block_lt_of_cell? _ _ h)).trans h
set_option maxRecDepth 100000 in
set_option maxHeartbeats 16000000 in
theorem walk (a : Option Addr) (bs : List UInt8) (cap : Nat) (hm0 : bs.length ≤ maxLen) (a' : Option Addr) (bs' : List UInt8) (cap' : Nat) (hm0' : bs'.length ≤ maxLen) (w : World) (hr : Reads w a bs) (hr' : Reads w a' bs') :
    Calls Try.prog 5 #[.slice a bs.length cap, .slice a' bs'.length cap'] w fun e w' => e = .returned (.bool true) ∧ Below w.heap.size w w' := by
  unfold maxLen at hm0 hm0'
  by_cases hb : (1048576 : Int) < bs.length
  · go_enter Try.func5, Try.ntmps5
    go_wp2
    go_ret
    exact ⟨rfl, Below.refl _ _⟩
  by_cases hb' : (1048576 : Int) < bs'.length
  · go_enter Try.func5, Try.ntmps5
    go_wp2
    go_ret
    exact ⟨rfl, Below.refl _ _⟩
  have hbm : bs.length ≤ 1048576 := by omega
  have hbm' : bs'.length ≤ 1048576 := by omega
  have HR := hide hr
  have HR' := hide hr'
  clear hr hr'
  go_enter Try.func5, Try.ntmps5
  go_wp2_with fail
  refine (graphDrawn a bs cap _ hbm (unhide HR)).mono ?_
  rintro e w1 ⟨ax, ms, cg, rfl, hgB, hrm, b1⟩
  have HB1 := hide b1
  have HG := hide hgB
  have HRM1 := hide hrm
  have hl := Tw.two_len (graph_two hgB)
  clear b1 hgB hrm
  go_wp2_with fail
  refine (At.choice a' bs' cap' 0 8 _ (by omega) (by omega) (by omega) hbm' (reads_under (unhide HR') (unhide HB1))).mono ?_
  rintro e w2 ⟨k, rfl, hk8, q2, hq2⟩
  have b2 : Below w1.heap.size w1 w2 := by rw [hq2]; exact below_dN _
  have HB2 := hide ((unhide HB1).trans (b2.mono (unhide HB1).size))
  have HRM2 := hide ((unhide HRM1).below b2)
  clear b2 hq2 HRM1 HR HR'
  obtain ⟨f, hf⟩ : ∃ f : Nat, 1 + (k : Int) = (f : Int) := ⟨k + 1, by omega⟩
  have hf8 : 1 ≤ f ∧ f ≤ 8 := by omega
  have HFF := hide hf
  clear hf
  have HC0 : Hid (codeG ms (f : Int) = 0) := hide (graph_code (unhide HG) (by omega))
  have HD0 : Hid (dstA ms (f : Int) = dstL ms (f : Int)) := hide (by unfold dstA; rw [if_pos (unhide HC0)])
  have HE0 : Hid (rouA ms (f : Int) = rouL ms (f : Int)) := hide (by unfold rouA; rw [if_pos (unhide HC0)])
  go_wp2_with fail
  rw [unhide HFF]
  refine (implRoutes ax ms cg (f : Int) _ (by omega) (unhide HRM2)).mono ?_
  rintro e w3 ⟨v3, rfl, b3, l3⟩
  rw [unhide HE0] at l3
  rw [unhide HC0]
  obtain ⟨a3, c3, rfl, L3⟩ := l3
  have HB3 := hide ((unhide HB2).trans (b3.mono (unhide HB2).size))
  have HRM3 := hide ((unhide HRM2).below b3)
  have HX3 := hide L3.rm
  clear b3 L3 HRM2
  go_wp2_with fail
  refine (specRoutes ax ms cg (f : Int) _ (by omega) (unhide HRM3)).mono ?_
  rintro e w4 ⟨v4, rfl, b4, l4⟩
  rw [unhide HE0] at l4
  rw [unhide HC0]
  obtain ⟨a4, c4, rfl, L4⟩ := l4
  have HB4 := hide ((unhide HB3).trans (b4.mono (unhide HB3).size))
  have HRM4 := hide ((unhide HRM3).below b4)
  have HX4 := hide ((unhide HX3).below b4)
  have HY4 := hide L4.rm
  clear b4 L4 HRM3 HX3
  go_wp2_with fail
  refine (implDist ax ms cg (f : Int) _ (by omega) (unhide HRM4)).mono ?_
  rintro e w5 ⟨v5, rfl, b5, l5⟩
  rw [unhide HD0] at l5
  rw [unhide HC0]
  obtain ⟨a5, c5, rfl, L5⟩ := l5
  have HB5 := hide ((unhide HB4).trans (b5.mono (unhide HB4).size))
  have HRM5 := hide ((unhide HRM4).below b5)
  have HX5 := hide ((unhide HX4).below b5)
  have HY5 := hide ((unhide HY4).below b5)
  have HZ5 := hide L5.rm
  clear b5 L5 HRM4 HX4 HY4
  have HL8 := hide (dstL_len ms (f : Int))
  obtain ⟨gd, od, rfl⟩ : ∃ gd od, a5 = some ⟨gd, od, none⟩ := by
    rcases unhide HZ5 with h0 | ⟨gd, od, h1, _⟩
    · have := unhide HL8; rw [h0] at this; simp at this
    · exact ⟨gd, od, h1⟩
  rw [unhide HL8]
  have hr8 := rouL_len ms (f : Int)
  go_wp2_with fail
  refine (sameRo a3 a4 (rouL ms (f : Int)) c3 c4 _ (by omega) (unhide HX5) (unhide HY5)).mono ?_
  rintro e w6 ⟨rfl, b6⟩
  have HB6 := hide ((unhide HB5).trans (b6.mono (unhide HB5).size))
  have HRM6 := hide ((unhide HRM5).below b6)
  have HX6 := hide ((unhide HX5).below b6)
  have HZ6 := hide ((unhide HZ5).below b6)
  clear b6 HRM5 HX5 HY5 HZ5
  have HCASE := hide (fun j (hj : j < 8) => rou_case (unhide HG) hf8 hj)
  have HCR : Hid (Rw.codeR (rouL ms (f : Int)) = 0) := hide (by unfold Rw.codeR; rw [if_neg (by omega), if_pos (rou_right (unhide HG) hf8)])
  have HNA := hide (nn_all ms (f : Int))
  have HNL := hide (nn_le ms (f : Int))
  go_wp2_with fail
  go_loopw [13, 14] (fun nv iv wr => ∃ j : Nat, j ≤ 8 ∧ iv = .int .i64 ((j : Int) + 1) ∧ nv = .int .i64 (nnR ms (f : Int) j : Int) ∧ Hid (Below w6.heap.size w6 wr) ∧ Hid (Below w.heap.size w wr)) (fun _ iv _ => 9 - (intOf iv).toNat)
  case atStart => exact ⟨0, by omega, rfl, rfl, hide (Below.refl _ _), HB6⟩
  case round =>
    obtain ⟨j, hj, rfl, rfl, hb6, hbl⟩ := hrel
    by_cases hlt : j < 8
    · have hi8 : (j : Int) + 1 ≤ 8 := by omega
      have j0 : (0 : Int) ≤ (j : Int) := by omega
      have j8 : (j : Int) < 8 := by omega
      have hcs := unhide HCASE j hlt
      have HXr := hide ((unhide HX6).below (unhide hb6))
      have hnl := unhide HNL j
      have dj := ((unhide HZ6).below (unhide hb6)).at (i := j) (by rw [unhide HL8]; exact hlt)
      rcases hcs with ⟨h1, h2, h3⟩ | ⟨x, c, h1, h2, h3, h4, h5, h6, h7, h8, h9, h10, h11⟩
      · have HN1 := hide h3
        have HRA : Hid (Rw.rtA (rouL ms (f : Int)) ((j : Int) + 1) = Ro.R.zero) := hide (by unfold Rw.rtA; rw [if_pos (unhide HCR)]; exact Rw.fT_none h1)
        have HRE : Hid (Rw.rtE (rouL ms (f : Int)) ((j : Int) + 1) = 5) := hide (by unfold Rw.rtE; rw [if_pos (unhide HCR), h1]; rfl)
        clear h1 h3
        have HDJ : Hid ((dstL ms (f : Int)).getD j 0 = dI ms (f : Int) j) := hide rfl
        rw [unhide HDJ] at dj
        generalize dI ms (f : Int) j = d at *
        generalize nnR ms (f : Int) j = n0 at *
        clear hlt
        go_wp2_with fail
        refine (Rw.implRouteTo a3 (rouL ms (f : Int)) c3 ((j : Int) + 1) _ (by omega) (unhide HXr)).mono ?_
        rintro e w7 ⟨rfl, b7⟩
        rw [unhide HRA, unhide HRE]
        have hb7 := hide ((unhide hb6).trans (b7.mono (unhide hb6).size))
        have hc7 := hide ((unhide hbl).trans (b7.mono (unhide hbl).size))
        have dj7 := (b7.cell (p := ⟨gd, od + j, none⟩) (World.block_lt_of_cell? _ _ dj)).trans dj
        have al : Below w7.heap.size w7 (w7.alloc (.cells #[.int .i64 0, .int .i64 0, .int .i64 0, .int .i64 0] 62)) := (Below.refl _ _).alloc (Nat.le_refl _) _
        have hb8 := hide ((unhide hb7).trans (al.mono (unhide hb7).size))
        have hc8 := hide ((unhide hc7).trans (al.mono (unhide hc7).size))
        have dj8 := (al.cell (p := ⟨gd, od + j, none⟩) (World.block_lt_of_cell? _ _ dj7)).trans dj7
        have jj : (j : Int) + 1 - 1 = (j : Int) := by omega
        clear al b7 dj dj7
        unfold Ro.R.value Ro.R.zero
        dsimp only
        rcases h2 with h2 | ⟨h2, h2'⟩
        · have hq : (((j : Int) + 1) == (f : Int)) = true := by simpa using h2
          clear h2
          go_wp2_with fail
          go_roundw
          case rel => exact ⟨j + 1, by omega, by go_num, by rw [unhide HN1], hb8, hc8⟩
          case measure => simp [intOf]; omega
        · have hq : (((j : Int) + 1) == (f : Int)) = false := by simpa using h2
          clear h2
          go_wp2_with fail
          go_roundw
          case rel => exact ⟨j + 1, by omega, by go_num, by rw [unhide HN1], hb8, hc8⟩
          case measure => simp [intOf]; omega
      · have HN1 := hide h11
        have hpos : 0 < ms.length := by
          rcases Nat.eq_zero_or_pos ms.length with e0 | e0
          · have e1 : ms = [] := List.eq_nil_of_length_eq_zero e0
            rw [e1] at h8
            unfold St.dropE St.codeS St.dropC St.thereB at h8
            simp [show St.setB [] = true from rfl] at h8
          · exact e0
        have HRA : Hid (Rw.rtA (rouL ms (f : Int)) ((j : Int) + 1) = x) := hide (by unfold Rw.rtA; rw [if_pos (unhide HCR)]; exact h2)
        have HRE : Hid (Rw.rtE (rouL ms (f : Int)) ((j : Int) + 1) = 0) := hide (by unfold Rw.rtE; rw [if_pos (unhide HCR), h1]; rfl)
        have HHY := hide (hop_yes (u := (f : Int)) (by omega) h6 h7)
        have HC1 : Hid (codeG ms x.nx = 0) := hide (graph_code (unhide HG) h6)
        have HD1 : Hid (dstA ms x.nx = dstL ms x.nx) := hide (by unfold dstA; rw [if_pos (unhide HC1)])
        have HL1 := hide (dstL_len ms x.nx)
        have HRJ : Hid ((dstL ms x.nx).getD j 0 = dI ms x.nx j) := hide rfl
        have HDJ : Hid ((dstL ms (f : Int)).getD j 0 = dI ms (f : Int) j) := hide rfl
        rw [unhide HDJ, ← h5] at dj
        have hlim := (dst_lim (unhide HG) hf8 hlt).2
        rw [← h5] at h4 hlim
        have HDR := hide h8
        have HVA := hide h9
        have HSU := hide h10
        clear h1 h2 h5 h7 h8 h9 h10 h11
        obtain ⟨xa, xn, xc, xh⟩ := x
        dsimp only at dj h4 hlim h6 HC1 HD1 HL1 HRJ HDR HVA HSU HHY
        have hneg : ¬ xc < 0 := by omega
        have hq : (((j : Int) + 1) == (f : Int)) = false := by simpa using h3
        have jj : (j : Int) + 1 - 1 = (j : Int) := by omega
        clear h3
        generalize nnR ms (f : Int) j = n0 at *
        obtain ⟨gm, om, rfl⟩ := (unhide HRM6).form hpos
        clear hlt
        go_wp2_with fail
        refine (Rw.implRouteTo a3 (rouL ms (f : Int)) c3 ((j : Int) + 1) _ (by omega) (unhide HXr)).mono ?_
        rintro e w7 ⟨rfl, b7⟩
        rw [unhide HRA, unhide HRE]
        have hb7 := hide ((unhide hb6).trans (b7.mono (unhide hb6).size))
        have hc7 := hide ((unhide hbl).trans (b7.mono (unhide hbl).size))
        have dj7 := cel b7 dj
        have al : Below w7.heap.size w7 (w7.alloc (.cells #[.int .i64 xa, .int .i64 xn, .int .i64 xc, .int .i64 xh] 62)) := (Below.refl _ _).alloc (Nat.le_refl _) _
        have hb8 := hide ((unhide hb7).trans (al.mono (unhide hb7).size))
        have hc8 := hide ((unhide hc7).trans (al.mono (unhide hc7).size))
        have dj8 := cel al dj7
        have x1 : (w7.alloc (.cells #[.int .i64 xa, .int .i64 xn, .int .i64 xc, .int .i64 xh] 62)).cell? ⟨w7.heap.size, 1, none⟩ = some (.int .i64 xn) := by simp [World.cell?_alloc_new]
        have x2 : (w7.alloc (.cells #[.int .i64 xa, .int .i64 xn, .int .i64 xc, .int .i64 xh] 62)).cell? ⟨w7.heap.size, 2, none⟩ = some (.int .i64 xc) := by simp [World.cell?_alloc_new]
        have HRM8 := hide ((unhide HRM6).below (unhide hb8))
        clear al b7 dj dj7 hb7 hc7 HXr HRA HRE
        unfold Ro.R.value
        dsimp only
        go_wp2_with fail
        generalize hW8 : w7.alloc (.cells #[.int .i64 xa, .int .i64 xn, .int .i64 xc, .int .i64 xh] 62) = W8 at *
        clear hW8
        generalize hX : w7.heap.size = X at *
        clear hX
        refine (Tw.implKey (f : Int) xn _).mono ?_
        rintro e w9 ⟨rfl, b9⟩
        rw [if_pos (unhide HHY), if_pos (unhide HHY)]
        have hb9 := hide ((unhide hb8).trans (b9.mono (unhide hb8).size))
        have hc9 := hide ((unhide hc8).trans (b9.mono (unhide hc8).size))
        have dj9 := cel b9 dj8
        have x1_9 := cel b9 x1
        have x2_9 := cel b9 x2
        have HRM9 := hide ((unhide HRM8).below b9)
        clear b9 dj8 x1 x2 HRM8 hb8 hc8
        go_wp2_with fail
        refine (St.implFind gm om ms cg (100 * (f : Int) + xn) _ (by omega) (unhide HRM9)).mono ?_
        rintro e w10 ⟨rfl, b10⟩
        rw [unhide HDR]
        have hb10 := hide ((unhide hb9).trans (b10.mono (unhide hb9).size))
        have hc10 := hide ((unhide hc9).trans (b10.mono (unhide hc9).size))
        have dj10 := cel b10 dj9
        have x1_10 := cel b10 x1_9
        have x2_10 := cel b10 x2_9
        have HRM10 := hide ((unhide HRM9).below b10)
        clear b10 dj9 x1_9 x2_9 HRM9 hb9 hc9
        generalize St.findA ms (100 * (f : Int) + xn) = tt at *
        obtain ⟨ke, ti, va⟩ := tt
        have eva : va = c := unhide HVA
        subst eva
        unfold Tu.R.value
        dsimp only
        have al : Below w10.heap.size w10 (w10.alloc (.cells #[.int .i64 ke, .int .i64 ti, .int .i64 va] 56)) := (Below.refl _ _).alloc (Nat.le_refl _) _
        have hb11 := hide ((unhide hb10).trans (al.mono (unhide hb10).size))
        have hc11 := hide ((unhide hc10).trans (al.mono (unhide hc10).size))
        have dj11 := cel al dj10
        have x1_11 := cel al x1_10
        have x2_11 := cel al x2_10
        have y2 : (w10.alloc (.cells #[.int .i64 ke, .int .i64 ti, .int .i64 va] 56)).cell? ⟨w10.heap.size, 2, none⟩ = some (.int .i64 va) := by simp [World.cell?_alloc_new]
        have HRM11 := hide ((unhide HRM10).below al)
        clear al dj10 x1_10 x2_10 HRM10 hb10 hc10
        go_wp2_with fail
        generalize hW11 : w10.alloc (.cells #[.int .i64 ke, .int .i64 ti, .int .i64 va] 56) = W11 at *
        clear hW11
        generalize hY : w10.heap.size = Y at *
        clear hY
        refine (implDist (some ⟨gm, om, none⟩) ms cg xn _ (by omega) (unhide HRM11)).mono ?_
        rintro e w12 ⟨v12, rfl, b12, l12⟩
        rw [unhide HD1] at l12
        rw [unhide HC1]
        obtain ⟨a12, c12, rfl, L12⟩ := l12
        have hb12 := hide ((unhide hb11).trans (b12.mono (unhide hb11).size))
        have hc12 := hide ((unhide hc11).trans (b12.mono (unhide hc11).size))
        have dj12 := cel b12 dj11
        have x2_12 := cel b12 x2_11
        have y2_12 := cel b12 y2
        have HZ12 := hide L12.rm
        clear b12 dj11 x1_11 x2_11 y2 HRM11 hb11 hc11 L12
        obtain ⟨ge, oe, rfl⟩ : ∃ ge oe, a12 = some ⟨ge, oe, none⟩ := by
          rcases unhide HZ12 with h0 | ⟨ge, oe, h1, _⟩
          · have := unhide HL1; rw [h0] at this; simp at this
          · exact ⟨ge, oe, h1⟩
        have rj := (unhide HZ12).at (i := j) (by rw [unhide HL1]; exact (by omega))
        rw [unhide HRJ] at rj
        rw [unhide HL1]
        generalize dI ms xn j = r at *
        have es : IntKind.i64.wrap (va + r) = xc := by have := unhide HSU; rw [this, IntKind.wrap_i64]; omega
        go_upto_region 22 with fail
        refine q22 _ _ _ _ _ _ _ _ _ _ _ _ _ _ _ _ _ _ _ _ _ _ _ _ _ _ _ _ _ _ _ _ _ _ _ _ _ _ _ _ _ _ _ _ _ _ _ _ _ _ _ _ _ _ _ _ _ _ _ _ _ _ _ _ _ _ _ _ _ _ _ _ _ _ _ _ _ _ _ _ _ _ _ _ _ _ _ _ _ _ _ _ _ _ _ _ _ _ _ _ _ _ _ _ _ _ _ _ _ _ _ _ _ _ _ _ _ _ _ _ _ _ _ _ _ _ _ _ _ _ _ _ _ _ _ _ _ _ _ _ _ _ _ _ _ _ _ _ _ _ _ _ _ _ _ gd od ge oe X Y ((j : Int) + 1) j _ _ xc r va _ dj12 rj x2_12 y2_12 j0 j8 (by rw [IntKind.wrap_i64]; omega) es (by simp) ?_
        intro r116 r117 r118 r119 r120 r121 r122 r123 r124 r125 r126 r127 r128 r129 r130 r131 r132 r133 r134 r135 r136 r137 r138 r139 r140 r141 r142 r143 r144 r145 r146 r147 r148 r149 r150 r151 r152 r153 r154 r155 r156 wz hwz
        subst hwz
        have hb13 := hide (unhide hb12).drew
        have hc13 := hide (unhide hc12).drew
        clear dj12 rj x2_12 y2_12 HZ12 hb12 hc12
        go_wp2_with fail
        go_roundw
        case rel => exact ⟨j + 1, by omega, by go_num, by rw [unhide HN1]; go_num, hb13, hc13⟩
        case measure => simp [intOf]; omega
    · obtain rfl : j = 8 := by omega
      have hn8 := unhide HNA
      have hq : ((nnR ms (f : Int) 8 : Int) == ((rouL ms (f : Int)).length : Int)) = true := by rw [hn8]; simp
      clear hlt
      generalize nnR ms (f : Int) 8 = n0 at *
      go_wp2_with fail
      go_ret
      refine ⟨ret_bool ?_, unhide hbl⟩
      simp

set_option maxRecDepth 100000 in
theorem lifted (os : Os) (started : os.Started) (H : Type) (enc : TypeId × Value → H) :
    ReturnsInHanded {} Try.checked os 5 .any (Rows.fnRoutesSpec.pre6 enc Try.prog Try.f5 Rows.fnRoutesRow.domain false) (Rows.fnRoutesSpec.post enc Try.prog Try.f5 false true false false) := by
  refine returnsInHanded_of_change (C := Try.checked) own started (by kernel_rfl) Try.func5
    (ChangeSpec.witness6 (enc := enc) (C := Try.checked) false ⟨#[], #[.slice none 0 0, .slice none 0 0], []⟩ 8 (by kernel_rfl) (by kernel_rfl) (by kernel_rfl) (by kernel_rfl)) ?_
  intro W base args ds gs before hval0 hW hcnd _
  have hval : ∀ (j : Nat) t v, Try.f5.params[j]? = some t → args[j]? = some v → Value.okWide Try.prog W .any base t v := hval0
  have hW' := hW
  obtain ⟨p, q, hA0, hV, rfl, hfz, hnd⟩ := hW
  have hA : DataW.TrodAll enc Try.prog W 0 (fun _ => true) true Try.f5.params.toList args.toList ds p := hA0
  rw [Try.params5] at hA hval
  obtain ⟨v0, vs0, d0, ds0, p0, q0, hargs0, rfl, rfl, h0, r0⟩ := trodAll_cons hA
  obtain ⟨v1, vs1, d1, ds1, p1, q1, hargs1, rfl, rfl, h1, r1⟩ := trodAll_cons r0
  obtain ⟨rfl, rfl, rfl⟩ := trodAll_nil r1
  obtain rfl : args = #[v0, v1] := by cases args; simp_all
  obtain ⟨rfl, rfl⟩ := trodVars_none hV
  have k0 := h0
  have lt0 : ∀ x ∈ p0, x.block < W.heap.size := by obtain ⟨m, hm⟩ := k0; exact DataW.trod_lt m _ _ _ hm
  have k1 := h1
  have lt1 : ∀ x ∈ p1, x.block < W.heap.size := by obtain ⟨m, hm⟩ := k1; exact DataW.trod_lt m _ _ _ hm
  obtain ⟨a0, len0, cap0, rfl⟩ := okWide_slice Try.underlying22 (hval 0 22 v0 rfl rfl)
  obtain ⟨bs0, hlen0, hmx0, hrd0⟩ := Op.open_bytes h0
  subst hlen0
  obtain ⟨a1, len1, cap1, rfl⟩ := okWide_slice Try.underlying22 (hval 1 22 v1 rfl rfl)
  obtain ⟨bs1, hlen1, hmx1, hrd1⟩ := Op.open_bytes h1
  subst hlen1
  clear hA0 hval0
  refine (walk a0 bs0 cap0 hmx0 a1 bs1 cap1 hmx1 W hrd0 hrd1).mono fun e W' ⟨he, bel⟩ => ?_
  subst he
  exact ⟨_, rfl, _, _, _, [], _, [], hW', trodAll_mk1 (shut_bool Try.underlying4 _), (trodAll_cons_mk (Below.trod laidOut (by kernel_rfl) (of_decide_eq_true (by kernel_rfl)) k0 bel lt0) (trodAll_cons_mk (Below.trod laidOut (by kernel_rfl) (of_decide_eq_true (by kernel_rfl)) k1 bel lt1) trodAll_mk0)), rfl, bel.frame _, fun h => by cases h⟩

theorem over : Rows.fnRoutesRow.holds Try.pinned (OpenSpec.ofChange Rows.fnRoutesSpec) :=
  OpenClaim.holds_of_wide 5 Try.f5 rfl rfl rfl rfl rfl rfl rfl ⟨rfl, rfl, rfl, rfl, rfl⟩ rfl rfl rfl rfl rfl (by kernel_rfl) Try.func5 (by kernel_rfl)
    (of_decide_eq_true (by kernel_rfl)) (by unfold Func.isWrapper; first | (rw [if_pos (by decide +kernel)]; kernel_rfl) | (rw [if_neg (by decide +kernel)]; exact ⟨rfl, rfl⟩))
    (fun os started H enc _ => lifted os started H enc)
end Go.Proofs.Ytjhhhmdhdnmejaa.fnRoutes
namespace Go.Proofs.Ytjhhhmdhdnmejaa
/-- A route costs its distance, and so does its next hop, with the edge there, and its own distance from there on. -/
theorem fnRoutes_holds : Rows.FnRoutesSaid := fnRoutes.over
end Go.Proofs.Ytjhhhmdhdnmejaa
