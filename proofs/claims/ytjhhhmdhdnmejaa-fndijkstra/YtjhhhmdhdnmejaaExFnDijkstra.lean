/-
  Proved here: for all slices of bytes, laws.FnDijkstra returns true (no edge is a shorter way, and each way that there is ends with an edge of its own: the theorem of shortest ways) and leaves the slices as they were. No condition.
-/
import Derived.Test.YtjhhhmdhdnmejaaDijR
import Derived.Test.YtjhhhmdhdnmejaaGphD
import Derived.Test.YtjhhhmdhdnmejaaAt
namespace Go.Proofs.Ytjhhhmdhdnmejaa.fnDijkstra
open Go.ChangeShapes Go.WideShapes Go.ChangeAt Go.RowKit
open W1 By Tu St Wd
set_option linter.unusedVariables false
set_option linter.unusedSimpArgs false
attribute [local go_sem ↓] Go.wp_at_zero Go.wp_at_succ
theorem own : ownKnob Try.prog.godebug = none := by kernel_rfl
theorem laidOut : laidOutB Try.prog = true := by kernel_rfl
theorem below_dN {w : World} (q : Nat) : Below w.heap.size w (w.drewN q) := ⟨rfl, rfl, rfl, Nat.le_refl _, fun _ _ => rfl⟩
theorem reads_under {w w' : World} {a : Option Addr} {bs : List UInt8} (h : Reads w a bs) (hb : Below w.heap.size w w') : Reads w' a bs :=
  Sr.reads_of_cells h (fun e0 g off o e => hb.cell (p := ⟨g, o, none⟩) (Sr.reads_lt h e0 e))
/-- All that the loops ask of a graph, its distances and where they lie. -/
structure Ctx (W0 : World) (ms : List Tu.R) (F : Int) (ax : Option Addr) (gd od : Nat) (d : Nat → Int) : Prop where
  rm : ∀ W, Below W0.heap.size W0 W → Tu.RM W ax ms
  cell : ∀ W, Below W0.heap.size W0 W → ∀ j, j < 8 → W.cell? ⟨gd, od + j, none⟩ = some (.int .i64 (d j))
  lim : ∀ j, j < 8 → -1 ≤ d j ∧ d j ≤ 8589934592
  edge : ∀ m ∈ ms, ∀ x y : Nat, x < 8 → y < 8 → m.key / 100 - 1 = (x : Int) → m.key % 100 - 1 = (y : Int) → 0 ≤ d x → 0 ≤ d y ∧ d y ≤ d x + m.val
  bnd : ∀ i, i < ms.length → 0 ≤ (ms.getD i Tu.R.zero).key ∧ (ms.getD i Tu.R.zero).key ≤ 1000 ∧ 1 ≤ (ms.getD i Tu.R.zero).key / 100 ∧ (ms.getD i Tu.R.zero).key / 100 ≤ 8 ∧ 1 ≤ (ms.getD i Tu.R.zero).key % 100 ∧ (ms.getD i Tu.R.zero).key % 100 ≤ 8 ∧ 0 ≤ (ms.getD i Tu.R.zero).val ∧ (ms.getD i Tu.R.zero).val ≤ 1073741824
  fnd0 : ∀ v, fnd ms F v 0 = false
  fnd1 : ∀ (v i x : Nat), v < 8 → (ms.getD i Tu.R.zero).key / 100 - 1 = (x : Int) → fnd ms F v (i + 1) = (fnd ms F v i || (((ms.getD i Tu.R.zero).key % 100 - 1 == (v : Int)) && (decide (0 ≤ d x) && (d x + (ms.getD i Tu.R.zero).val == d v))))
  fndN : ∀ v, v < 8 → 0 ≤ d v → (v : Int) + 1 ≠ F → fnd ms F v ms.length = true
theorem ctx {W0 : World} {ms : List Tu.R} {k : Nat} (k8 : k < 8) {ax : Option Addr} {gd od : Nat} (hg : graphB ms = true) (hr : Tu.RM W0 ax ms) (hd : In.RM W0 (some ⟨gd, od, none⟩) (dstL ms (1 + (k : Int)))) :
    Ctx W0 ms (1 + (k : Int)) ax gd od (dI ms (1 + (k : Int))) ∧ dI ms (1 + (k : Int)) k = 0 := by
  have e : (1 + (k : Int)) = ((k + 1 : Nat) : Int) := by omega
  rw [e] at hd ⊢
  obtain ⟨hG, _⟩ := fin_good hg (f := k + 1) (by omega)
  have hb : ∀ i, i < ms.length → _ := fun i hi => St.ok_bounds (St.setB_ok (Tw.two_set (graph_two hg)) hi)
  have hk : ∀ m ∈ ms, _ := fun m hm => Tw.ok_k (Tw.two_ok (graph_two hg) m hm)
  have hm : ∀ m ∈ ms, 0 ≤ m.key ∧ Tw.hv m = m.key / 100 ∧ Tw.ha m = m.key % 100 := fun m hm => by
    obtain ⟨i, hi, e⟩ := List.getElem_of_mem hm
    have ed : ms.getD i Tu.R.zero = m := by rw [List.getD_eq_getElem?_getD, List.getElem?_eq_getElem hi, e]; rfl
    have h0 := (hb i hi).1
    rw [ed] at h0
    exact ⟨h0, Int.tdiv_eq_ediv_of_nonneg h0, Int.tmod_eq_emod_of_nonneg h0⟩
  refine ⟨⟨fun W h => hr.below h, fun W h j hj => ?_, fun j hj => dst_lim hg (by omega) hj, fun m hmm x y x8 y8 hx hy h0 => ?_, fun i hi => ?_, fun v => rfl, fun v i x v8 hx => ?_, fun v v8 h0 hne => fnd_all hg hG v8 h0 hne⟩, dst_own hG k8 (by omega)⟩
  · exact (hd.below h).at (by rw [dstL_len]; exact hj)
  · obtain ⟨_, e1, e2⟩ := hm m hmm
    exact dij_edge hG hmm (by rw [e1]; omega) (by rw [e2]; omega) x8 y8 h0
  · have h1 := hb i hi
    obtain ⟨h0, e1, e2⟩ := hm _ (Tu.getD_mem hi)
    have h2 := hk _ (Tu.getD_mem hi)
    rw [e1, e2] at h2
    omega
  · show (fnd ms _ v i || cndD ms _ v _) = _
    unfold cndD
    rw [hx, Int.toNat_natCast]
set_option maxRecDepth 100000 in
set_option maxHeartbeats 16000000 in
theorem walk (a : Option Addr) (bs : List UInt8) (cap : Nat) (hm0 : bs.length ≤ maxLen) (a' : Option Addr) (bs' : List UInt8) (cap' : Nat) (hm0' : bs'.length ≤ maxLen) (w : World) (hr : Reads w a bs) (hr' : Reads w a' bs') :
    Calls Try.prog 4 #[.slice a bs.length cap, .slice a' bs'.length cap'] w fun e w' => e = .returned (.bool true) ∧ Below w.heap.size w w' := by
  unfold maxLen at hm0 hm0'
  by_cases hb : (1048576 : Int) < bs.length
  · go_enter Try.func4, Try.ntmps4
    go_wp2
    go_ret
    exact ⟨rfl, Below.refl _ _⟩
  by_cases hb' : (1048576 : Int) < bs'.length
  · go_enter Try.func4, Try.ntmps4
    go_wp2
    go_ret
    exact ⟨rfl, Below.refl _ _⟩
  have hbm : bs.length ≤ 1048576 := by omega
  have hbm' : bs'.length ≤ 1048576 := by omega
  have HR := hide hr
  have HR' := hide hr'
  clear hr hr'
  go_enter Try.func4, Try.ntmps4
  go_wp2_with fail
  refine (graphDrawn a bs cap _ hbm (unhide HR)).mono ?_
  rintro e w1 ⟨ax, ms, cg, rfl, hgB, hrm, b1⟩
  have HB1 := hide b1
  have HG := hide hgB
  have HRM1 := hide hrm
  have hl := Tw.two_len (graph_two hgB)
  clear b1 hgB hrm
  go_wp2_with fail
  refine (At.choice a' bs' cap' 0 8 _ (by omega) (by omega) (by omega) hbm' (reads_under (unhide HR') (unhide HB1))).mono ?_
  rintro e w2 ⟨k, rfl, hk8, q2, hq2⟩
  have b2 : Below w1.heap.size w1 w2 := by rw [hq2]; exact below_dN _
  have HB2 := hide ((unhide HB1).trans (b2.mono (unhide HB1).size))
  have HRM2 := hide ((unhide HRM1).below b2)
  clear b2 hq2 HRM1 HR HR'
  have HC0 : Hid (codeG ms (1 + (k : Int)) = 0) := hide (by unfold codeG; rw [if_neg (by omega), if_pos (unhide HG)]; unfold inB; simp; omega)
  have HD0 : Hid (dstA ms (1 + (k : Int)) = dstL ms (1 + (k : Int))) := hide (by unfold dstA; rw [if_pos (unhide HC0)])
  go_wp2_with fail
  refine (implDist ax ms cg (1 + (k : Int)) _ (by omega) (unhide HRM2)).mono ?_
  rintro e w3 ⟨v3, rfl, b3, l3⟩
  rw [unhide HD0] at l3
  rw [unhide HC0]
  obtain ⟨a3, c3, rfl, L3⟩ := l3
  have HB3 := hide ((unhide HB2).trans (b3.mono (unhide HB2).size))
  have HRM3 := hide ((unhide HRM2).below b3)
  have HX3 := hide L3.rm
  clear b3 L3 HRM2
  go_wp2_with fail
  refine (specDist ax ms cg (1 + (k : Int)) _ (by omega) (unhide HRM3)).mono ?_
  rintro e w4 ⟨v4, rfl, b4, l4⟩
  rw [unhide HD0] at l4
  rw [unhide HC0]
  obtain ⟨a4, c4, rfl, L4⟩ := l4
  have HB4 := hide ((unhide HB3).trans (b4.mono (unhide HB3).size))
  have HRM4 := hide ((unhide HRM3).below b4)
  have HX4 := hide ((unhide HX3).below b4)
  have HY4 := hide L4.rm
  clear b4 L4 HRM3 HX3
  have HL8 := hide (dstL_len ms (1 + (k : Int)))
  have HSAME : Hid (∀ W, In.RM W a3 (dstL ms (1 + (k : Int))) → In.RM W a4 (dstL ms (1 + (k : Int))) → Calls Try.prog 20 #[.slice a3 8 c3, .slice a4 8 c4] W fun e w' => e = .returned (.bool true) ∧ Below W.heap.size W w') := hide (fun W h1 h2 => by
    have := In.sameS a3 a4 (dstL ms (1 + (k : Int))) c3 c4 W (by rw [dstL_len]; omega) h1 h2
    rw [dstL_len] at this; exact this)
  rw [unhide HL8]
  go_wp2_with fail
  refine ((unhide HSAME) _ (unhide HX4) (unhide HY4)).mono ?_
  rintro e w5 ⟨rfl, b5⟩
  have HB5 := hide ((unhide HB4).trans (b5.mono (unhide HB4).size))
  have HRM5 := hide ((unhide HRM4).below b5)
  have HX5 := hide ((unhide HX4).below b5)
  clear b5 HRM4 HX4 HY4 HSAME
  obtain ⟨gd, od, rfl⟩ : ∃ gd od, a3 = some ⟨gd, od, none⟩ := by
    rcases unhide HX5 with h0 | ⟨gd, od, h1, _⟩
    · have := unhide HL8; rw [h0] at this; simp at this
    · exact ⟨gd, od, h1⟩
  obtain ⟨hctx, hown⟩ := ctx hk8 (unhide HG) (unhide HRM5) (unhide HX5)
  have HCT := hide hctx
  have dc0 := (unhide HCT).cell w5 (Below.refl _ _) k hk8
  rw [hown] at dc0
  have kk : 1 + (k : Int) - 1 = (k : Int) := by omega
  have kn : (1 + (k : Int) - 1).toNat = k := by omega
  have k00 : (0 : Int) ≤ (k : Int) := by omega
  have k08 : (k : Int) < 8 := by omega
  clear hctx hown
  go_wp2_with fail
  refine (implGraphOK ax ms cg _ (by omega) (unhide HRM5)).mono ?_
  rintro e w6 ⟨rfl, b6⟩
  rw [unhide HG]
  have HB6 := hide ((unhide HB5).trans (b6.mono (unhide HB5).size))
  have HW6 := hide b6
  clear b6 dc0
  obtain ⟨n, hn⟩ : ∃ n, ms.length = n := ⟨_, rfl⟩
  have HN := hide hn
  rw [hn] at hl ⊢
  clear hn HRM5 HX5 HC0 HD0 HL8
  generalize hdd : dI ms (1 + (k : Int)) = d at *
  clear hdd
  go_wp2_with fail
  go_loopw [11] (fun iv wr => ∃ i : Nat, i ≤ n ∧ iv = .int .i64 (i : Int) ∧ Hid (Below w5.heap.size w5 wr) ∧ Hid (Below w.heap.size w wr)) (fun iv _ => n - (intOf iv).toNat)
  case atStart => exact ⟨0, by omega, rfl, HW6, HB6⟩
  case round =>
    obtain ⟨i, hi, rfl, hb5, hbl⟩ := hrel
    by_cases hlt : (i : Int) < (n : Int)
    · have i0 : (0 : Int) ≤ (i : Int) := by omega
      have hlen : i < ms.length := by rw [unhide HN]; omega
      have HRr := hide ((unhide HCT).rm _ (unhide hb5))
      obtain ⟨ga, off, rfl⟩ := (unhide HRr).form (by omega)
      have hA := (unhide HRr).at hlen
      have hbd := (unhide HCT).bnd i hlen
      have HED := hide ((unhide HCT).edge _ (Tu.getD_mem hlen))
      generalize ms.getD i Tu.R.zero = m at *
      obtain ⟨key, til, val⟩ := m
      dsimp only at hbd HED
      obtain ⟨c0, c1, c2⟩ := hA
      dsimp only at c0 c1 c2
      obtain ⟨x, hx⟩ : ∃ x : Nat, key / 100 - 1 = (x : Int) := ⟨(key / 100 - 1).toNat, by omega⟩
      obtain ⟨y, hy⟩ : ∃ y : Nat, key % 100 - 1 = (y : Int) := ⟨(key % 100 - 1).toNat, by omega⟩
      have x8 : x < 8 := by omega
      have y8 : y < 8 := by omega
      have lx := (unhide HCT).lim x x8
      have hE := unhide HED x y x8 y8 hx hy
      have dx0 := (unhide HCT).cell _ (unhide hb5) x x8
      have dy0 := (unhide HCT).cell _ (unhide hb5) y y8
      go_upto_region 14 with fail
      refine r14 _ _ _ _ _ _ _ _ _ _ _ _ _ _ _ _ _ _ _ _ _ _ _ _ _ _ _ _ _ _ _ _ _ _ _ _ _ _ _ _ _ _ _ _ _ _ _ _ _ _ _ _ _ _ _ _ _ _ _ _ _ _ _ _ _ _ _ _ _ _ _ _ _ _ _ _ _ _ _ _ _ _ _ _ _ _ _ _ _ _ _ _ _ _ _ _ _ _ _ _ _ _ _ _ _ _ _ _ _ _ _ _ _ _ _ _ _ _ _ _ _ _ _ _ _ _ _ _ _ _ _ _ _ _ _ _ _ _ _ _ _ _ _ _ _ _ _ _ _ _ _ _ _ _ _ _ _ _ _ _ _ _ _ _ _ _ _ _ _ _ _ _ _ _ _ _ _ _ _ _ _ _ _ _ _ ga off gd od n i x y _ _ (d x) (d y) val _ dx0 dy0 c2 i0 hlt (by omega) (by omega) (by omega) (by omega) (by rw [IntKind.wrap_i64]; omega) hE ?_
      intro r88 r89 r90 r91 r92 r93 r94 r95 r96 r97 r98 r99 r100 r101 r102 r103 r104 r105 r106 r107 r108 r109 r110 r111 r112 r113 r114 r115 wz hwz
      subst hwz
      have hb6 := hide (unhide hb5).drew
      have hbm := hide (unhide hbl).drew
      clear c0 c1 c2 dx0 dy0 hE HED HRr
      go_wp2_with fail
      go_roundw
      case rel => exact ⟨i + 1, by omega, by go_num, hb6, hbm⟩
      case measure => simp [intOf]; omega
    · go_wp2_with fail
      go_loopw [14] (fun vv wr => ∃ v : Nat, v ≤ 8 ∧ vv = .int .i64 (v : Int) ∧ Hid (Below w5.heap.size w5 wr) ∧ Hid (Below w.heap.size w wr)) (fun vv _ => 8 - (intOf vv).toNat)
      case atStart => exact ⟨0, by omega, rfl, hb5, hbl⟩
      case round =>
        rename World => wo
        obtain ⟨v, hv8, rfl, hb5, hbl⟩ := hrel
        by_cases hlt8 : (v : Int) < 8
        · have v0 : (0 : Int) ≤ (v : Int) := by omega
          have v8 : v < 8 := by omega
          have dv0 := (unhide HCT).cell _ (unhide hb5) v v8
          have HFN := hide ((unhide HCT).fndN v v8)
          by_cases hneg : d v < 0
          · generalize d v = dv at *
            go_wp2_with fail
            go_roundw
            case rel => exact ⟨v + 1, by omega, by go_num, hb5, hbl⟩
            case measure => simp [intOf]; omega
          by_cases hvk : v = k
          · have hq1 : ((v : Int) == 1 + (k : Int) - 1) = true := by simp; omega
            have hq2 : ((v : Int) == (k : Int)) = true := by simp; omega
            clear hvk
            generalize d v = dv at *
            go_wp2_with fail
            go_roundw
            case rel => exact ⟨v + 1, by omega, by go_num, hb5, hbl⟩
            case measure => simp [intOf]; omega
          have hq1 : ((v : Int) == 1 + (k : Int) - 1) = false := by simp; omega
          have hq2 : ((v : Int) == (k : Int)) = false := by simp; omega
          have HF1 := hide (unhide HFN (by omega) (by omega))
          have HDV : Hid (∃ dv, d v = dv) := hide ⟨_, rfl⟩
          obtain ⟨dv, hdv⟩ := unhide HDV
          have HVV := hide hdv
          rw [hdv] at dv0 hneg
          clear hdv HDV HFN
          go_wp2_with fail
          clear dv0
          have HF0 := hide ((unhide HCT).fnd0 v)
          go_loopw [15, 16] (fun fv iv wr => ∃ i : Nat, i ≤ n ∧ iv = .int .i64 (i : Int) ∧ fv = .bool (fnd ms (1 + (k : Int)) v i) ∧ Hid (Below w5.heap.size w5 wr) ∧ Hid (Below w.heap.size w wr)) (fun _ iv _ => n - (intOf iv).toNat)
          case atStart => exact ⟨0, by omega, rfl, by rw [unhide HF0], hb5, hbl⟩
          case round =>
            rename World => wi
            obtain ⟨i, hi, rfl, rfl, hb5, hbl⟩ := hrel
            by_cases hlt : (i : Int) < (n : Int)
            · have i0 : (0 : Int) ≤ (i : Int) := by omega
              have hlen : i < ms.length := by rw [unhide HN]; omega
              have HRr := hide ((unhide HCT).rm _ (unhide hb5))
              obtain ⟨ga, off, rfl⟩ := (unhide HRr).form (by omega)
              have hA := (unhide HRr).at hlen
              have hbd := (unhide HCT).bnd i hlen
              have HFS := hide (fun x hx => (unhide HCT).fnd1 v i x v8 hx)
              generalize ms.getD i Tu.R.zero = m at *
              obtain ⟨key, til, val⟩ := m
              dsimp only at hbd HFS
              obtain ⟨c0, c1, c2⟩ := hA
              dsimp only at c0 c1 c2
              obtain ⟨x, hx⟩ : ∃ x : Nat, key / 100 - 1 = (x : Int) := ⟨(key / 100 - 1).toNat, by omega⟩
              have x8 : x < 8 := by omega
              have lx := (unhide HCT).lim x x8
              have HFX := hide (unhide HFS x hx)
              have dx0 := (unhide HCT).cell _ (unhide hb5) x x8
              have dv0 := (unhide HCT).cell _ (unhide hb5) v v8
              obtain ⟨fn1, hfn⟩ : ∃ fn1, fnd ms (1 + (k : Int)) v (i + 1) = fn1 := ⟨_, rfl⟩
              rw [hfn] at HFX
              have HFE := hide hfn
              clear hfn
              generalize fnd ms (1 + (k : Int)) v i = fd at *
              go_upto_region 24 with fail
              refine r24 _ _ _ _ _ _ _ _ _ _ _ _ _ _ _ _ _ _ _ _ _ _ _ _ _ _ _ _ _ _ _ _ _ _ _ _ _ _ _ _ _ _ _ _ _ _ _ _ _ _ _ _ _ _ _ _ _ _ _ _ _ _ _ _ _ _ _ _ _ _ _ _ _ _ _ _ _ _ _ _ _ _ _ _ _ _ _ _ _ _ _ _ _ _ _ _ _ _ _ _ _ _ _ _ _ _ _ _ _ _ _ _ _ _ _ _ _ _ _ _ _ _ _ _ _ _ _ _ _ _ _ _ _ _ _ _ _ _ _ _ _ _ _ _ _ _ _ _ _ _ _ _ _ _ _ _ _ _ _ _ _ _ _ _ _ _ _ _ _ _ _ _ _ _ _ _ _ _ _ _ _ _ _ _ fd ga off gd od n i x v _ _ key val (d x) (d v) _ dx0 dv0 c0 c2 i0 hlt (by omega) (by omega) v0 hlt8 (by omega) (by omega) (Int.tmod_eq_emod_of_nonneg (by omega)) (Int.tdiv_eq_ediv_of_nonneg (by omega)) (by rw [IntKind.wrap_i64]; omega) (by rw [IntKind.wrap_i64]; omega) (by rw [IntKind.wrap_i64]; omega) (by rw [IntKind.wrap_i64]; omega) ?_
              intro c hc r138 r139 r140 r141 r142 r143 r144 r145 r146 r147 r148 r149 r150 r151 r152 r153 r154 r155 r156 r157 r158 r159 r160 r161 r162 r163 r164 r165 r166 r167 r168 r169 r170 r171 r172 r173 r174 r175 r176 r177 r178 r179 r180 r181 r182 r183 r184 r185 wz hwz
              subst hwz
              have HCC : Hid (c = fn1) := hide (hc.trans (unhide HFX).symm)
              have hb6 := hide (unhide hb5).drew
              have hbm := hide (unhide hbl).drew
              clear c0 c1 c2 dx0 dv0 hc HFX HFS HRr hb5 hbl
              dsimp only [Exit.inBlock, Exit.then]
              go_wp2_with fail
              go_roundw
              case rel => exact ⟨i + 1, by omega, by go_num, by rw [unhide HCC, unhide HFE], hb6, hbm⟩
              case measure => simp [intOf]; omega
            · obtain rfl : i = n := by omega
              have hft : fnd ms (1 + (k : Int)) v i = true := by have := unhide HF1; rw [unhide HN] at this; exact this
              rw [hft]
              clear hft
              go_wp2_with fail
              go_roundw
              case rel => exact ⟨v + 1, by omega, by go_num, hb5, hbl⟩
              case measure => simp [intOf]; omega
        · go_wp2_with fail
          go_ret
          exact ⟨rfl, unhide hbl⟩

set_option maxRecDepth 100000 in
theorem lifted (os : Os) (started : os.Started) (H : Type) (enc : TypeId × Value → H) :
    ReturnsInHanded {} Try.checked os 4 .any (Rows.fnDijkstraSpec.pre6 enc Try.prog Try.f4 Rows.fnDijkstraRow.domain false) (Rows.fnDijkstraSpec.post enc Try.prog Try.f4 false true false false) := by
  refine returnsInHanded_of_change (C := Try.checked) own started (by kernel_rfl) Try.func4
    (ChangeSpec.witness6 (enc := enc) (C := Try.checked) false ⟨#[], #[.slice none 0 0, .slice none 0 0], []⟩ 8 (by kernel_rfl) (by kernel_rfl) (by kernel_rfl) (by kernel_rfl)) ?_
  intro W base args ds gs before hval0 hW hcnd _
  have hval : ∀ (j : Nat) t v, Try.f4.params[j]? = some t → args[j]? = some v → Value.okWide Try.prog W .any base t v := hval0
  have hW' := hW
  obtain ⟨p, q, hA0, hV, rfl, hfz, hnd⟩ := hW
  have hA : DataW.TrodAll enc Try.prog W 0 (fun _ => true) true Try.f4.params.toList args.toList ds p := hA0
  rw [Try.params4] at hA hval
  obtain ⟨v0, vs0, d0, ds0, p0, q0, hargs0, rfl, rfl, h0, r0⟩ := trodAll_cons hA
  obtain ⟨v1, vs1, d1, ds1, p1, q1, hargs1, rfl, rfl, h1, r1⟩ := trodAll_cons r0
  obtain ⟨rfl, rfl, rfl⟩ := trodAll_nil r1
  obtain rfl : args = #[v0, v1] := by cases args; simp_all
  obtain ⟨rfl, rfl⟩ := trodVars_none hV
  have k0 := h0
  have lt0 : ∀ x ∈ p0, x.block < W.heap.size := by obtain ⟨m, hm⟩ := k0; exact DataW.trod_lt m _ _ _ hm
  have k1 := h1
  have lt1 : ∀ x ∈ p1, x.block < W.heap.size := by obtain ⟨m, hm⟩ := k1; exact DataW.trod_lt m _ _ _ hm
  obtain ⟨a0, len0, cap0, rfl⟩ := okWide_slice Try.underlying22 (hval 0 22 v0 rfl rfl)
  obtain ⟨bs0, hlen0, hmx0, hrd0⟩ := Op.open_bytes h0
  subst hlen0
  obtain ⟨a1, len1, cap1, rfl⟩ := okWide_slice Try.underlying22 (hval 1 22 v1 rfl rfl)
  obtain ⟨bs1, hlen1, hmx1, hrd1⟩ := Op.open_bytes h1
  subst hlen1
  clear hA0 hval0
  refine (walk a0 bs0 cap0 hmx0 a1 bs1 cap1 hmx1 W hrd0 hrd1).mono fun e W' ⟨he, bel⟩ => ?_
  subst he
  exact ⟨_, rfl, _, _, _, [], _, [], hW', trodAll_mk1 (shut_bool Try.underlying4 _), (trodAll_cons_mk (Below.trod laidOut (by kernel_rfl) (of_decide_eq_true (by kernel_rfl)) k0 bel lt0) (trodAll_cons_mk (Below.trod laidOut (by kernel_rfl) (of_decide_eq_true (by kernel_rfl)) k1 bel lt1) trodAll_mk0)), rfl, bel.frame _, fun h => by cases h⟩

theorem over : Rows.fnDijkstraRow.holds Try.pinned (OpenSpec.ofChange Rows.fnDijkstraSpec) :=
  OpenClaim.holds_of_wide 4 Try.f4 rfl rfl rfl rfl rfl rfl rfl ⟨rfl, rfl, rfl, rfl, rfl⟩ rfl rfl rfl rfl rfl (by kernel_rfl) Try.func4 (by kernel_rfl)
    (of_decide_eq_true (by kernel_rfl)) (by unfold Func.isWrapper; first | (rw [if_pos (by decide +kernel)]; kernel_rfl) | (rw [if_neg (by decide +kernel)]; exact ⟨rfl, rfl⟩))
    (fun os started H enc _ => lifted os started H enc)
end Go.Proofs.Ytjhhhmdhdnmejaa.fnDijkstra
namespace Go.Proofs.Ytjhhhmdhdnmejaa
/-- No edge is a shorter way, and each way that there is ends with an edge of its own. -/
theorem fnDijkstra_holds : Rows.FnDijkstraSaid := fnDijkstra.over
end Go.Proofs.Ytjhhhmdhdnmejaa
