/-
  The model's contract of topologies: what is heard (l09Hear). (written by mktopj.py)
-/
import Derived.Test.YtilphgfjgeoiaaaTopY
import Derived.Test.YtilphgfjgeoiaaaTopN
import Derived.Test.YtilphgfjgeoiaaaRl
import Derived.Test.YtilphgfjgeoiaaaSetYc
import Derived.Deep.DeepCutAuto
namespace Go.Proofs.Ytilphgfjgeoiaaa
open Go.ChangeShapes Go.WideShapes Go.ChangeAt Go.RowKit
set_option linter.unusedVariables false
set_option linter.unusedSimpArgs false
set_option maxRecDepth 100000
attribute [local go_sem ↓] Go.wp_at_zero Go.wp_at_succ
namespace Tp
open W1 Tu St Tw
theorem l07KeyT (v a : Int) (w : World) (h0 : 0 ≤ v) (h1 : v ≤ 1000000) (h2 : 0 ≤ a) (h3 : a ≤ 1000000) : Calls Try.prog 87 #[.int .i64 v, .int .i64 a] w fun e w' => e = .returned (.int .i64 (100 * v + a)) ∧ w' = w := by
  go_enter Try.func87, Try.ntmps87
  go_wp2
  go_ret
  exact ⟨rfl, rfl⟩
theorem szT3 (W : World) : (sizeOf (Try.prog.elem 23)).run Try.prog W = .ok 3 W := by kernel_rfl
theorem sl_from (g off n cap p : Nat) (hp : p ≤ n) : ∃ o1, (∀ W, (Instr.slice 23 (.slice (some ⟨g, off, none⟩) n cap) (some (.int .i64 (p : Int))) none none).run Try.prog W = .ok (.slice (some ⟨g, o1, none⟩) (n - p) (cap - p)) W) ∧ (cap ≠ p → o1 = off + p * 3) := by
  refine ⟨if cap = p then off else off + p * 3, fun W => ?_, fun h => if_neg h⟩
  rw [run_slice_l W 23 (some ⟨g, off, none⟩) n cap (by kernel_rfl) .i64 (p : Int) (by omega) (by omega), szT3]
  simp only [Result.andThen, sliced, Int.toNat_natCast]
  split <;> simp [So.plain_add]
theorem sl_to (g off n cap p : Nat) (hp : p ≤ cap) (W : World) : (Instr.slice 23 (.slice (some ⟨g, off, none⟩) n cap) none (some (.int .i64 (p : Int))) none).run Try.prog W = .ok (.slice (some ⟨g, off, none⟩) p cap) W := by
  rw [run_slice_h W 23 (some ⟨g, off, none⟩) n cap (by kernel_rfl) .i64 (p : Int) (by omega) (by omega), szT3]
  simp only [Result.andThen, sliced, Int.toNat_natCast]
  split <;> simp [So.plain_add]
theorem rm_take {w : World} {g off : Nat} {ms : List So.R} (h : So.RM w (some ⟨g, off, none⟩) ms) (n : Nat) : So.RM w (some ⟨g, off, none⟩) (ms.take n) := by
  have := h.part 0 n
  rw [List.drop_zero, Nat.zero_mul, Nat.add_zero] at this; exact this
theorem rm_drop {w : World} {g off o1 cap p : Nat} {ss : List So.R} (h : So.RM w (some ⟨g, off, none⟩) ss) (hc : ss.length ≤ cap) (hp : p ≤ ss.length) (ho : cap ≠ p → o1 = off + p * 3) : So.RM w (some ⟨g, o1, none⟩) (ss.drop p) := by
  by_cases e : cap = p
  · exact .inl (List.drop_eq_nil_of_le (by omega))
  · rw [ho e]
    have := h.part p ss.length
    rw [List.take_of_length_le (by simp)] at this; exact this
theorem rm_new_grown {w w' : World} {g : Nat} {m : So.R} {r : Option Nat} (h : So.RM w (some ⟨g, 0, none⟩) [m]) (hg : w.grownBy w' r) (hne : some g ≠ r) : So.RM w' (some ⟨g, 0, none⟩) [m] := by
  rcases h with h | ⟨g', off, e, hc⟩
  · cases h
  · cases e
    refine .inr ⟨g, 0, rfl, fun i hi => ?_⟩
    have hh := hg.block g (World.block_lt_of_cell? _ _ (hc i hi).1) hne
    exact ⟨(World.cell?_of_block (a := ⟨g, _, none⟩) hh).trans (hc i hi).1, (World.cell?_of_block (a := ⟨g, _, none⟩) hh).trans (hc i hi).2.1, (World.cell?_of_block (a := ⟨g, _, none⟩) hh).trans (hc i hi).2.2⟩
theorem Bx.but0 {w w' : World} {b : Nat} {m : So.R} (h : Tp.Bx w b m) (hb : w'.heap[b]? = w.heap[b]?) : Tp.Bx w' b m :=
  ⟨(World.cell?_of_block (a := ⟨b, 0, none⟩) hb).trans h.1, (World.cell?_of_block (a := ⟨b, 1, none⟩) hb).trans h.2.1, (World.cell?_of_block (a := ⟨b, 2, none⟩) hb).trans h.2.2⟩
theorem ed_but2 {w w' : World} {g o : Nat} {m : Ed.R} (h : Ed.At w g o m) (hb : w'.heap[g]? = w.heap[g]?) : Ed.At w' g o m :=
  ⟨(World.cell?_of_block (a := ⟨g, o, none⟩) hb).trans h.1, (World.cell?_of_block (a := ⟨g, o + 1, none⟩) hb).trans h.2⟩
theorem sHX {w : World} {B : Nat} {ad an til : Int} (h : Tp.Bx w B ⟨ad, an, til⟩) : Tp.Bx w B ⟨ad, an, til⟩ ∧ w.cell? ⟨B, 0, none⟩ = some (.int .i64 ad) ∧ w.cell? ⟨B, 1, none⟩ = some (.int .i64 an) ∧ w.cell? ⟨B, 2, none⟩ = some (.int .i64 til) := ⟨h, h.1, h.2.1, h.2.2⟩
theorem sHT {w : World} {B : Nat} {x y : Value} (h : TV w B x y) : TV w B x y ∧ w.cell? ⟨B, 0, none⟩ = some x ∧ w.cell? ⟨B, 1, none⟩ = some y := ⟨h, h.bx.1, h.bx.2⟩
theorem sHE {w : World} {Bn B : Nat} {ad mt x y : Int} {v : Value} (h : Ed.At w Bn 0 ⟨ad, mt⟩) (hx : Bx3 w B x y v) : (Ed.At w Bn 0 ⟨ad, mt⟩ ∧ Bx3 w B x y v) ∧ w.cell? ⟨Bn, 0, none⟩ = some (.int .i64 ad) ∧ w.cell? ⟨Bn, 1, none⟩ = some (.int .i64 mt) ∧ w.cell? ⟨B, 1, none⟩ = some (.int .i64 y) := ⟨⟨h, hx⟩, h.1, by have := h.2; simpa using this, hx.2.1⟩
set_option maxHeartbeats 32000000 in
theorem l09Hear (g0 o0 : Nat) (ss : List So.R) (ca h0 p0 : Nat) (es : List R) (cb : Nat) (frm now an valid : Int) (c : Option Addr) (ns : List Ed.R) (cn : Nat) (w : World) (hca : ss.length ≤ ca) (htop : topB ss es = true) (hf : 1 ≤ frm ∧ frm ≤ 8) (hn : 0 ≤ now ∧ now ≤ 1000000) (htc : Av.tcB an valid ns = true) (hr : So.RM w (some ⟨g0, o0, none⟩) ss) (hr' : RM w (some ⟨h0, p0, none⟩) es) (hr2 : Ed.RM w c ns) :
    Calls Try.prog 36 #[.agg #[.slice (some ⟨g0, o0, none⟩) ss.length ca, .slice (some ⟨h0, p0, none⟩) es.length cb], .int .i64 frm, .int .i64 now, .agg #[.int .i64 an, .int .i64 valid, .slice c ns.length cn]] w fun e w' => ∃ v, e = .returned (.tuple #[v, .int .i64 (if staleB ss frm an = true then 11 else 0)]) ∧ Below w.heap.size w w' ∧ RdT w' v (if staleB ss frm an = true then ss else withS ss ⟨frm, an, now + valid⟩) (if staleB ss frm an = true then es else nowE es frm (now + valid) ns) := by
  have kval := Av.tc_valid htc
  have kan := Av.tc_ansn htc
  have h8 := src_len (top_src htop)
  have h62 := two_len (top_two htop)
  have hn8 := Av.tc_len htc
  have HT2 := hide (top_two htop)
  have HSR := hide (top_src htop)
  have HUP := hide (up_src (top_src htop))
  have HAL := hide (Av.tc_all htc)
  obtain ⟨til, htil⟩ : ∃ til, now + valid = til := ⟨_, rfl⟩
  have hwr : IntKind.i64.wrap (now + valid) = til := by rw [IntKind.wrap_i64]; omega
  have htb : 0 ≤ til ∧ til ≤ 1073741824 := by omega
  rw [htil]
  clear htil htop htc
  have HA2 : Hid (Below w.heap.size w ((w.alloc (.cells #[.slice (some ⟨g0, o0, none⟩) ss.length ca, .slice (some ⟨h0, p0, none⟩) es.length cb] 26)).alloc (.cells #[.int .i64 an, .int .i64 valid, .slice c ns.length cn] 30))) := hide (((Below.refl _ _).alloc (Nat.le_refl _) _).alloc ((Below.refl w.heap.size w).alloc (Nat.le_refl _) _).size _)
  have HA : Hid (Below w.heap.size w (((w.alloc (.cells #[.slice (some ⟨g0, o0, none⟩) ss.length ca, .slice (some ⟨h0, p0, none⟩) es.length cb] 26)).alloc (.cells #[.int .i64 an, .int .i64 valid, .slice c ns.length cn] 30)).alloc (.cells #[.slice none 0 0, .slice none 0 0] 26))) := hide ((unhide HA2).alloc (unhide HA2).size _)
  have HX : Hid (Bx2 (((w.alloc (.cells #[.slice (some ⟨g0, o0, none⟩) ss.length ca, .slice (some ⟨h0, p0, none⟩) es.length cb] 26)).alloc (.cells #[.int .i64 an, .int .i64 valid, .slice c ns.length cn] 30)).alloc (.cells #[.slice none 0 0, .slice none 0 0] 26)) w.heap.size (.slice (some ⟨g0, o0, none⟩) ss.length ca) (.slice (some ⟨h0, p0, none⟩) es.length cb)) := hide (((bx2_new w _ _ _).below ((Below.refl _ _).alloc (Nat.le_refl _) _)).below ((Below.refl _ _).alloc (Nat.le_refl _) _))
  have HY : Hid (Bx3 (((w.alloc (.cells #[.slice (some ⟨g0, o0, none⟩) ss.length ca, .slice (some ⟨h0, p0, none⟩) es.length cb] 26)).alloc (.cells #[.int .i64 an, .int .i64 valid, .slice c ns.length cn] 30)).alloc (.cells #[.slice none 0 0, .slice none 0 0] 26)) (w.heap.size + 1) an valid (.slice c ns.length cn)) := hide (by have := (bx3_new (w.alloc (.cells #[.slice (some ⟨g0, o0, none⟩) ss.length ca, .slice (some ⟨h0, p0, none⟩) es.length cb] 26)) an valid (.slice c ns.length cn) 30).below ((Below.refl _ _).alloc (Nat.le_refl _) (.cells #[.slice none 0 0, .slice none 0 0] 26)); rw [show (w.alloc (.cells #[.slice (some ⟨g0, o0, none⟩) ss.length ca, .slice (some ⟨h0, p0, none⟩) es.length cb] 26)).heap.size = w.heap.size + 1 by simp] at this; exact this)
  have HZ : Hid (TV (((w.alloc (.cells #[.slice (some ⟨g0, o0, none⟩) ss.length ca, .slice (some ⟨h0, p0, none⟩) es.length cb] 26)).alloc (.cells #[.int .i64 an, .int .i64 valid, .slice c ns.length cn] 30)).alloc (.cells #[.slice none 0 0, .slice none 0 0] 26)) (w.heap.size + 2) (.slice none 0 0) (.slice none 0 0)) := hide (by have := tv_new ((w.alloc (.cells #[.slice (some ⟨g0, o0, none⟩) ss.length ca, .slice (some ⟨h0, p0, none⟩) es.length cb] 26)).alloc (.cells #[.int .i64 an, .int .i64 valid, .slice c ns.length cn] 30)) (.slice none 0 0) (.slice none 0 0); rw [show ((w.alloc (.cells #[.slice (some ⟨g0, o0, none⟩) ss.length ca, .slice (some ⟨h0, p0, none⟩) es.length cb] 26)).alloc (.cells #[.int .i64 an, .int .i64 valid, .slice c ns.length cn] 30)).heap.size = w.heap.size + 2 by simp] at this; exact this)
  have HR := hide (hr.below (unhide HA))
  have HE := hide (hr'.below (unhide HA))
  have HN := hide (hr2.below (unhide HA))
  have HN0 := hide hr2
  clear hr hr' hr2 HA2
  obtain ⟨qa, qn, qt, hq⟩ : ∃ qa qn qt, fS ss frm = ⟨qa, qn, qt⟩ := ⟨_, _, _, rfl⟩
  have HQV : Hid ((fS ss frm).value = .agg #[.int .i64 qa, .int .i64 qn, .int .i64 qt]) := hide (by rw [hq]; rfl)
  obtain ⟨E, hE⟩ : ∃ E, hasS ss frm = E := ⟨_, rfl⟩
  have HEE := hide hE
  have hqb : E = true → 0 ≤ qn ∧ qn ≤ 65535 := fun e => by
    have hm := (fS_mem (hE.trans e)).1
    have := ok_an (src_ok (unhide HSR) _ hm)
    rw [hq] at this; exact this
  obtain ⟨nb, hnb⟩ : ∃ nb, Mtr.newB qn an = nb := ⟨_, rfl⟩
  have hst : staleB ss frm an = (E && nb) := by unfold staleB; rw [hE, hq]; dsimp only; rw [hnb]
  have HNB := hide hnb
  have HQB := hide hqb
  clear hqb
  rw [hst]
  clear hq hE hnb hst
  cases E
  · rw [show (false && nb) = false from rfl]
    simp only [Bool.false_eq_true, if_false]
    go_enter Try.func36, Try.ntmps36
    go_wp2_with fail
    generalize hW : (((w.alloc (.cells #[.slice (some ⟨g0, o0, none⟩) ss.length ca, .slice (some ⟨h0, p0, none⟩) es.length cb] 26)).alloc (.cells #[.int .i64 an, .int .i64 valid, .slice c ns.length cn] 30)).alloc (.cells #[.slice none 0 0, .slice none 0 0] 26)) = W3 at *
    clear hW
    refine (l09Find _ ss ca _ frm _ (by omega) (unhide HR)).mono ?_
    rintro e w1 ⟨rfl, b1⟩
    rw [unhide HEE, unhide HQV]
    have HB1 := hide ((unhide HA).trans (b1.mono (unhide HA).size))
    have HX1 := hide ((unhide HX).below b1)
    have HY1 := hide ((unhide HY).below b1)
    have HZ1 := hide ((unhide HZ).below b1)
    have HR1 := hide ((unhide HR).below b1)
    have HE1 := hide ((unhide HE).below b1)
    have HN1 := hide ((unhide HN).below b1)
    clear b1 HX HY HZ HR HE HN HA
    have hal : Below w1.heap.size w1 (w1.alloc (.cells #[.int .i64 qa, .int .i64 qn, .int .i64 qt] 41)) := (Below.refl _ _).alloc (Nat.le_refl _) _
    have HB2 := hide ((unhide HB1).trans (hal.mono (unhide HB1).size))
    have HX2 := hide ((unhide HX1).below hal)
    have HY2 := hide ((unhide HY1).below hal)
    have HZ2 := hide ((unhide HZ1).below hal)
    have HR2 := hide ((unhide HR1).below hal)
    have HE2 := hide ((unhide HE1).below hal)
    have HN2 := hide ((unhide HN1).below hal)
    have hx1 := (unhide HX1).lt
    have hy1 := (unhide HY1).lt
    have hz1 := (unhide HZ1).lt
    obtain ⟨z0, z1⟩ := unhide HX1
    obtain ⟨y0, y1, y2⟩ := unhide HY1
    clear hal
    go_wp2_with fail
    clear z0 z1 y0 y1 y2

    generalize hW2 : w1.alloc (.cells #[.int .i64 qa, .int .i64 qn, .int .i64 qt] 41) = w2 at *
    clear hW2
    refine (l09Without _ ss _ ca _ es _ cb frm _ rfl rfl (by omega) (unhide HT2) (unhide HR2) (unhide HE2)).mono ?_
    rintro e w3 ⟨v3, rfl, b3, rd3⟩
    have HWN := hide (with_ne (unhide HUP) ⟨frm, an, til⟩)
    dsimp only at HWN
    have HUF := hide (up_filter (unhide HUP) (neS frm))
    have hSl := List.length_filter_le (neS frm) ss
    have HTF := hide (two_filter (unhide HT2) (keepF frm))
    have HNE : Hid (nowE es frm til ns = learnE (es.filter (keepF frm)) frm til ns ns.length) := hide rfl
    generalize hSf : ss.filter (neS frm) = SF at *
    generalize hEf : es.filter (keepF frm) = EF at *
    clear hSf hEf
    obtain ⟨g, o, cc, h, p, d, rfl, hcc, rS3, rE3⟩ := rd3
    have HB3 := hide ((unhide HB2).trans (b3.mono (unhide HB2).size))
    have HY3 := hide ((unhide HY2).below b3)
    have HZ3 := hide ((unhide HZ2).below b3)
    have HN3 := hide ((unhide HN2).below b3)
    have HS3 := hide rS3
    have HE3 := hide rE3
    clear b3 rS3 rE3 HB2 HX2 HY2 HZ2 HR2 HE2 HN2 HB1 HX1 HY1 HZ1 HR1 HE1 HN1
    have hal : Below w3.heap.size w3 (w3.alloc (.cells #[.slice (some ⟨g, o, none⟩) SF.length cc, .slice (some ⟨h, p, none⟩) EF.length d] 26)) := (Below.refl _ _).alloc (Nat.le_refl _) _
    have HT4 := hide (tv_new w3 (.slice (some ⟨g, o, none⟩) SF.length cc) (.slice (some ⟨h, p, none⟩) EF.length d))
    have HB4 := hide ((unhide HB3).trans (hal.mono (unhide HB3).size))
    have HY4 := hide ((unhide HY3).below hal)
    have HZ4 := hide ((unhide HZ3).below hal)
    have HN4 := hide ((unhide HN3).below hal)
    have HS4 := hide ((unhide HS3).below hal)
    have HE4 := hide ((unhide HE3).below hal)
    have hz3 := (unhide HZ3).lt
    clear hal HY3 HZ3 HN3 HS3 HE3
    obtain ⟨O, hO⟩ : ∃ O, w3.heap.size = O := ⟨_, rfl⟩
    go_wp2_with fail
    have HH4 : Hid ((w3.alloc (.cells #[.slice (some ⟨g, o, none⟩) SF.length cc, .slice (some ⟨h, p, none⟩) EF.length d] 26)).heap.size = w3.heap.size + 1) := hide (by simp)
    rw [hO] at HT4 HH4 hz3
    generalize hW4 : w3.alloc (.cells #[.slice (some ⟨g, o, none⟩) SF.length cc, .slice (some ⟨h, p, none⟩) EF.length d] 26) = w4 at *
    clear hW4 hO
    obtain ⟨k, hk⟩ : ∃ k, SF.length = k := ⟨_, rfl⟩
    have HK := hide hk
    rw [hk] at HT4 hcc hSl
    go_loopw [13] (fun i wr => w4 = wr ∧ ∃ j : Nat, j ≤ k ∧ i = .int .i64 j ∧ Hid (∀ i, i < j → atS frm (SF.getD i So.R.zero) = false)) (fun i _ => k - (intOf i).toNat)
    case atStart => exact ⟨rfl, 0, by omega, rfl, hide (fun i hi => by omega)⟩
    case round =>
      obtain ⟨rfl, j, hj, rfl, hat⟩ := hrel
      by_cases hlt : (j : Int) < (k : Int)
      · have k0 : (0 : Int) ≤ (j : Int) := by omega
        have hlen : j < SF.length := by omega
        by_cases hlf : (SF.getD j So.R.zero).ad < frm
        · have HST : Hid (∀ i, i < j + 1 → atS frm (SF.getD i So.R.zero) = false) := hide (fun i hi => by
            by_cases e : i = j
            · subst e; unfold atS; exact decide_eq_false (by omega)
            · exact unhide hat i (by omega))
          obtain ⟨c0, c1, c2⟩ := (unhide HS4).at hlen
          obtain ⟨x0, x1⟩ := (unhide HT4).bx
          generalize SF.getD j So.R.zero = m at *
          clear hk
          go_wp2_with fail
          go_roundw
          case rel => exact ⟨by first | trivial | rfl, j + 1, by omega, by go_num, HST⟩
          case measure => simp [intOf]; omega
        · have HPL : Hid (placeS SF frm = j) := hide (Pl.place_of So.R.zero _ SF j (by omega) (unhide hat) (fun _ => by unfold atS; exact decide_eq_true (by omega)))
          obtain ⟨c0, c1, c2⟩ := (unhide HS4).at hlen
          obtain ⟨x0, x1⟩ := (unhide HT4).bx
          obtain ⟨y0, y1, y2⟩ := unhide HY4
          have hy4 := (unhide HY4).lt
          generalize SF.getD j So.R.zero = m at *
          clear hk
          go_wp2_with fail
          clear c0 c1 c2 x0 x1 y0 y1 y2 hlf
          have hjc : j ≤ cc := by omega
          have hal5 : Below w4.heap.size w4 (w4.alloc (.cells #[.int .i64 frm, .int .i64 an, .int .i64 til] 41)) := (Below.refl _ _).alloc (Nat.le_refl _) _
          have HX5 := hide (Tp.bx_new w4 ⟨frm, an, til⟩ 41)
          have HT5 := hide ((unhide HT4).below hal5)
          have HB5 := hide ((unhide HB4).trans (hal5.mono (unhide HB4).size))
          have HY5 := hide ((unhide HY4).below hal5)
          have HZ5 := hide ((unhide HZ4).below hal5)
          have HN5 := hide ((unhide HN4).below hal5)
          have HS5 := hide ((unhide HS4).below hal5)
          have HE5 := hide ((unhide HE4).below hal5)
          have HH5 : Hid ((w4.alloc (.cells #[.int .i64 frm, .int .i64 an, .int .i64 til] 41)).heap.size = w4.heap.size + 1) := hide (by simp)
          dsimp only at HX5
          generalize hW5 : w4.alloc (.cells #[.int .i64 frm, .int .i64 an, .int .i64 til] 41) = w5 at *
          clear hW5 hal5 HT4 HB4 HY4 HZ4 HN4 HS4 HE4
          generalize hB5 : w4.heap.size = B5 at *
          clear hB5
          obtain ⟨o1, hs1, ho1⟩ := sl_from g o k cc j (by omega)
          have HO1 := hide ho1
          clear ho1
          have hs0 := sl_to g o k cc j (by omega)
          have HAW : Hid (SF.take j ++ [⟨frm, an, til⟩] ++ SF.drop j = withS ss ⟨frm, an, til⟩) := hide (by have := unhide HWN; rw [unhide HPL] at this; exact this)
          have lt1 : Hid ((SF.take j).length = j) := hide (by rw [List.length_take, unhide HK]; omega)
          have ld1 : Hid ((SF.drop j).length = k - j) := hide (by rw [List.length_drop, unhide HK])
          have H1 := hide (rm_take (unhide HS5) j)
          have H3 : Hid (So.RM w5 (some ⟨g, o1, none⟩) (SF.drop j)) := hide (rm_drop (unhide HS5) (by rw [unhide HK]; exact hcc) (by rw [unhide HK]; omega) (unhide HO1))
          generalize hTK : SF.take j = TK at *
          generalize hDR : SF.drop j = DR at *
          clear hTK hDR
          go_cut [13] (fun q wx => q = .int .i64 j ∧ ∃ b c : Nat, Hid ((withS ss ⟨frm, an, til⟩).length ≤ c) ∧ Hid (TV wx O (.slice (some ⟨b, 0, none⟩) (withS ss ⟨frm, an, til⟩).length c) (.slice (some ⟨h, p, none⟩) EF.length d)) ∧ Hid (So.RM wx (some ⟨b, 0, none⟩) (withS ss ⟨frm, an, til⟩)) ∧ Hid (Tu.RM wx (some ⟨h, p, none⟩) EF) ∧ Hid (Below O w5 wx))
          case first =>
            refine wp_region_noPanic ?_
            refine Rl.drew (S := fun w' => Tp.Bx w' B5 ⟨frm, an, til⟩ ∧ w'.cell? ⟨B5, 0, none⟩ = some (.int .i64 frm) ∧ w'.cell? ⟨B5, 1, none⟩ = some (.int .i64 an) ∧ w'.cell? ⟨B5, 2, none⟩ = some (.int .i64 til)) (T := fun w' => TV w' O (.slice (some ⟨g, o, none⟩) k cc) (.slice (some ⟨h, p, none⟩) EF.length d) ∧ w'.cell? ⟨O, 0, none⟩ = some (.slice (some ⟨g, o, none⟩) k cc) ∧ w'.cell? ⟨O, 1, none⟩ = some (.slice (some ⟨h, p, none⟩) EF.length d)) 15 (by kernel_rfl) ⟨sHX (unhide HX5).drew, sHT (unhide HT5).drew⟩ (fun hHeld => ?_)

            (refine Rl.tk (k := 15) (i := 1) (d := 61) (v := ?_) rfl rfl (by kernel_rfl) (by kernel_rfl) (by kernel_rfl) (by kernel_rfl) rfl (by kernel_rfl) (fun _ _ _ h => h) (by rfl) ?_ (by assumption) ?_; rotate_left; (focus (intro w0 hSw; (try dsimp only at hSw); go_simp; (try with_reducible rfl))); (try simp only [Act.put, List.setIfInBounds_toArray, List.set_cons_zero, List.set_cons_succ]))
            (refine Rl.tk (k := 15) (i := 2) (d := 62) (v := ?_) rfl rfl (by kernel_rfl) (by kernel_rfl) (by kernel_rfl) (by kernel_rfl) rfl (by kernel_rfl) (fun _ _ _ h => h) (by rfl) ?_ (by assumption) ?_; rotate_left; (focus (intro w0 hSw; (try dsimp only at hSw); go_simp; (try with_reducible rfl))); (try simp only [Act.put, List.setIfInBounds_toArray, List.set_cons_zero, List.set_cons_succ]))
            (refine Rl.tk (k := 15) (i := 3) (d := 63) (v := ?_) rfl rfl (by kernel_rfl) (by kernel_rfl) (by kernel_rfl) (by kernel_rfl) rfl (by kernel_rfl) (fun _ _ _ h => h) (by rfl) ?_ (by assumption) ?_; rotate_left; (focus (intro w0 hSw; (try dsimp only at hSw); go_simp; (try with_reducible rfl))); (try simp only [Act.put, List.setIfInBounds_toArray, List.set_cons_zero, List.set_cons_succ]))
            (refine Rl.tk (k := 15) (i := 4) (d := 64) (v := ?_) rfl rfl (by kernel_rfl) (by kernel_rfl) (by kernel_rfl) (by kernel_rfl) rfl (by kernel_rfl) (fun _ _ _ h => h) (by rfl) ?_ (by assumption) ?_; rotate_left; (focus (intro w0 hSw; (try dsimp only at hSw); go_simp; (try with_reducible rfl))); (try simp only [Act.put, List.setIfInBounds_toArray, List.set_cons_zero, List.set_cons_succ]))
            (refine Rl.tk (k := 15) (i := 6) (d := 66) (v := ?_) rfl rfl (by kernel_rfl) (by kernel_rfl) (by kernel_rfl) (by kernel_rfl) rfl (by kernel_rfl) (fun _ _ _ h => h) (by rfl) ?_ (by assumption) ?_; rotate_left; (focus (intro w0 hSw; (try dsimp only at hSw); go_simp; (try with_reducible rfl))); (try simp only [Act.put, List.setIfInBounds_toArray, List.set_cons_zero, List.set_cons_succ]))
            (refine Rl.tk (k := 15) (i := 9) (d := 69) (v := ?_) rfl rfl (by kernel_rfl) (by kernel_rfl) (by kernel_rfl) (by kernel_rfl) rfl (by kernel_rfl) (fun _ _ _ h => h) (by rfl) ?_ (by assumption) ?_; rotate_left; (focus (intro w0 hSw; (try dsimp only at hSw); go_simp; (try with_reducible rfl))); (try simp only [Act.put, List.setIfInBounds_toArray, List.set_cons_zero, List.set_cons_succ]))
            (refine Rl.tk (k := 15) (i := 10) (d := 70) (v := ?_) rfl rfl (by kernel_rfl) (by kernel_rfl) (by kernel_rfl) (by kernel_rfl) rfl (by kernel_rfl) (fun _ _ _ h => h) (by rfl) ?_ (by assumption) ?_; rotate_left; (focus (intro w0 hSw; (try dsimp only at hSw); go_simp; (try with_reducible rfl))); (try simp only [Act.put, List.setIfInBounds_toArray, List.set_cons_zero, List.set_cons_succ]))
            (refine Rl.tk (k := 15) (i := 11) (d := 71) (v := ?_) rfl rfl (by kernel_rfl) (by kernel_rfl) (by kernel_rfl) (by kernel_rfl) rfl (by kernel_rfl) (fun _ _ _ h => h) (by rfl) ?_ (by assumption) ?_; rotate_left; (focus (intro w0 hSw; (try dsimp only at hSw); go_simp; (try with_reducible rfl))); (try simp only [Act.put, List.setIfInBounds_toArray, List.set_cons_zero, List.set_cons_succ]))
            (refine Rl.tk (k := 15) (i := 12) (d := 72) (v := ?_) rfl rfl (by kernel_rfl) (by kernel_rfl) (by kernel_rfl) (by kernel_rfl) rfl (by kernel_rfl) (fun _ _ _ h => h) (by rfl) ?_ (by assumption) ?_; rotate_left; (focus (intro w0 hSw; (try dsimp only at hSw); go_simp; (try with_reducible rfl))); (try simp only [Act.put, List.setIfInBounds_toArray, List.set_cons_zero, List.set_cons_succ]))
            (refine Rl.ready (rs := [0, 7]) (by kernel_rfl) (by simp) ?_; refine Rl.AllReadyL.cons (o := _) rfl rfl (fun K hK => ?_) (Rl.AllReadyL.cons (o := _) rfl rfl (fun K hK => ?_) (Rl.AllReadyL.nil)))
            · go_simp
              have Bw6 : Hid (Below w5.heap.size w5 ((w5.alloc (.cells #[] 41)).drew)) := hide (((Below.refl _ _).alloc (Nat.le_refl _) _).drew)
              have Ow6 : Hid (((w5.alloc (.cells #[] 41)).drew).ownsRow w5.heap.size 41 3 (.slice (some ⟨w5.heap.size, 0, none⟩) 0 0) ([] : List So.R).length (So.flat [])) := hide ((So.own_empty w5 w5.heap.size (Nat.le_refl _)).drew)
              have HHw6 : Hid (((w5.alloc (.cells #[] 41)).drew).heap.size = w5.heap.size + 1) := hide (by show (w5.alloc (.cells #[] 41)).heap.size = _; simp)
              clear hHeld
              generalize hW_w6 : (w5.alloc (.cells #[] 41)).drew = w6 at *
              clear hW_w6
              refine hK.out _ _ ⟨sHX ((unhide HX5).below (unhide Bw6)), sHT ((unhide HT5).below (unhide Bw6))⟩ (fun hHeld => ?_)
              clear hK K
              (try simp only [Act.put, List.setIfInBounds_toArray, List.set_cons_zero, List.set_cons_succ])
              (refine Rl.ready (rs := [5, 7]) (by kernel_rfl) (by simp) ?_; refine Rl.AllReadyL.cons (o := _) rfl rfl (fun K hK => ?_) (Rl.AllReadyL.cons (o := _) rfl rfl (fun K hK => ?_) (Rl.AllReadyL.nil)))
              · rw [if_pos (by rfl)]
                refine apGSo (unhide Ow6) (by simp) g o j cc TK (unhide lt1) ((unhide H1).below (unhide Bw6)) (by have := unhide lt1; have := unhide ld1; (try simp only [List.length_cons, List.length_nil]); omega) (unhide Bw6).size _ _ rfl rfl rfl rfl ?_
                intro b5 c5 w7 ho5 hc5 hg5
                simp only [List.nil_append] at ho5 hc5 ⊢
                have Ow7 := hide ho5
                have Cw7 := hide hc5
                have Bw7 := hide (So.below_own (unhide Bw6) (unhide Ow6) hg5 (Nat.le_refl _) (unhide Bw6).size)
                clear ho5 hc5 hg5 hHeld
                refine hK.out _ _ ⟨sHX ((unhide HX5).below (unhide Bw7)), sHT ((unhide HT5).below (unhide Bw7))⟩ (fun hHeld => ?_)
                clear hK K
                (try simp only [Act.put, List.setIfInBounds_toArray, List.set_cons_zero, List.set_cons_succ])
                (refine Rl.ready (rs := [7]) (by kernel_rfl) (by simp) ?_; refine Rl.AllReadyL.cons (o := _) rfl rfl (fun K hK => ?_) Rl.AllReadyL.nil; go_simp)
                have Bw8 : Hid (Below w5.heap.size w5 (w7.alloc (.cells #[.int .i64 frm, .int .i64 an, .int .i64 til] 41))) := hide ((unhide Bw7).alloc (unhide Bw7).size _)
                have Ow8 := hide ((unhide Ow7).alloc (.cells #[.int .i64 frm, .int .i64 an, .int .i64 til] 41))
                have Xw8 : Hid (So.RM (w7.alloc (.cells #[.int .i64 frm, .int .i64 an, .int .i64 til] 41)) (some ⟨w7.heap.size, 0, none⟩) [(⟨frm, an, til⟩ : So.R)]) := hide (So.rm_new w7 (⟨frm, an, til⟩ : So.R))
                have HHw8 : Hid ((w7.alloc (.cells #[.int .i64 frm, .int .i64 an, .int .i64 til] 41)).heap.size = w7.heap.size + 1) := hide (by simp)
                clear hHeld
                generalize hW_w8 : w7.alloc (.cells #[.int .i64 frm, .int .i64 an, .int .i64 til] 41) = w8 at *
                clear hW_w8
                refine hK.out _ _ ⟨sHX ((unhide HX5).below (unhide Bw8)), sHT ((unhide HT5).below (unhide Bw8))⟩ (fun hHeld => ?_)
                clear hK K
                (try simp only [Act.put, List.setIfInBounds_toArray, List.set_cons_zero, List.set_cons_succ])
                (refine Rl.ready (rs := [8]) (by kernel_rfl) (by simp) ?_; refine Rl.AllReadyL.cons (o := _) rfl rfl (fun K hK => ?_) Rl.AllReadyL.nil; rw [if_pos (by rfl)])
                refine apGSo (unhide Ow8) (by simp) w7.heap.size 0 1 1 [(⟨frm, an, til⟩ : So.R)] rfl (unhide Xw8) (by have := unhide lt1; have := unhide ld1; (try simp only [List.length_cons, List.length_nil]); omega) (unhide Bw8).size _ _ rfl rfl rfl rfl ?_
                intro b8 c8 w8b ho8 hc8 hg8
                obtain ⟨A8, hA8⟩ : ∃ A8, TK ++ [(⟨frm, an, til⟩ : So.R)] = A8 := ⟨_, rfl⟩
                rw [hA8] at ho8 hc8 ⊢
                have hl8 : A8.length ≤ 10 := by rw [← hA8, List.length_append, unhide lt1]; simp; omega
                have HA8 := hide hA8
                clear hA8
                have Ow8b := hide ho8
                have Cw8b := hide hc8
                have Bw8b := hide (So.below_own (unhide Bw8) (unhide Ow8) hg8 (Nat.le_refl _) (unhide Bw8).size)
                clear ho8 hc8 hg8 hHeld
                refine hK.out _ _ ⟨sHX ((unhide HX5).below (unhide Bw8b)), sHT ((unhide HT5).below (unhide Bw8b))⟩ (fun hHeld => ?_)
                clear hK K
                (try simp only [Act.put, List.setIfInBounds_toArray, List.set_cons_zero, List.set_cons_succ])
                (refine Rl.ready (rs := [13]) (by kernel_rfl) (by simp) ?_; refine Rl.AllReadyL.cons (o := _) rfl rfl (fun K hK => ?_) Rl.AllReadyL.nil; rw [if_pos (by rfl)])
                refine apGSo (unhide Ow8b) (by simp) g o1 (k - j) (cc - j) DR (unhide ld1) ((unhide H3).below (unhide Bw8b)) (by have := unhide lt1; have := unhide ld1; (try simp only [List.length_cons, List.length_nil]); omega) (unhide Bw8b).size _ _ rfl rfl rfl rfl ?_
                intro b13 c13 w8c ho13 hc13 hg13
                obtain ⟨AA, hAA⟩ : ∃ AA, A8 ++ DR = AA := ⟨_, rfl⟩
                rw [hAA] at ho13 hc13 ⊢
                have HAA : Hid (AA = withS ss ⟨frm, an, til⟩) := hide (by rw [← hAA, ← unhide HA8]; exact unhide HAW)
                clear hAA
                have Ow8c := hide ho13
                have Cw8c := hide hc13
                have Bw8c := hide (So.below_own (unhide Bw8b) (unhide Ow8b) hg13 (Nat.le_refl _) (unhide Bw8b).size)
                clear ho13 hc13 hg13 hHeld
                refine hK.out _ _ ⟨sHX ((unhide HX5).below (unhide Bw8c)), sHT ((unhide HT5).below (unhide Bw8c))⟩ (fun hHeld => ?_)
                clear hK K
                (try simp only [Act.put, List.setIfInBounds_toArray, List.set_cons_zero, List.set_cons_succ])
                (refine Rl.tk (k := 15) (i := 14) (d := 74) (v := ?_) rfl rfl (by kernel_rfl) (by kernel_rfl) (by kernel_rfl) (by kernel_rfl) rfl (by kernel_rfl) (fun _ _ _ h => h) (by rfl) ?_ (by assumption) ?_; rotate_left; (focus (intro w0 hSw; (try dsimp only at hSw); go_simp; (try with_reducible rfl))); (try simp only [Act.put, List.setIfInBounds_toArray, List.set_cons_zero, List.set_cons_succ]))
                have HT9 := hide ((unhide HT5).below (unhide Bw8c))
                have HE9 := hide ((unhide HE5).below (unhide Bw8c))
                have HL9 := hide (lst_fm rfl (unhide Ow8c)).rm
                obtain ⟨x0, x1⟩ := (unhide HT9).bx
                have f0 := (unhide HT9).free 0
                (refine Rl.ready (rs := [15]) (by kernel_rfl) (by simp) ?_; refine Rl.AllReadyL.last (o := _) rfl (by kernel_rfl) (fun K hK => ?_); go_simp)
                have HTA := hide ((unhide HT9).set0 (.slice (some ⟨b13, 0, none⟩) AA.length c13))
                have HEA := hide (rmT_tv (unhide HE9) (unhide HT9) 0 (.slice (some ⟨b13, 0, none⟩) AA.length c13))
                have HLA := hide (rmS_tv (unhide HL9) (unhide HT9) 0 (.slice (some ⟨b13, 0, none⟩) AA.length c13))
                have HBA : Hid (Below O w5 (w8c.setCell ⟨O, 0, none⟩ (.slice (some ⟨b13, 0, none⟩) AA.length c13))) := hide (((unhide Bw8c).mono (by have := unhide HH4; have := unhide HH5; show O ≤ w5.heap.size; omega)).setCell (p := ⟨O, 0, none⟩) (Nat.le_refl _) (.slice (some ⟨b13, 0, none⟩) AA.length c13))
                have HXA := hide (sHX (((unhide HX5).below (unhide Bw8c)).but0 (Below.heap_setCell w8c ⟨O, 0, none⟩ (.slice (some ⟨b13, 0, none⟩) AA.length c13) _ (by have := unhide HH4; show B5 ≠ O; omega))))
                have HHA : Hid ((w8c.setCell ⟨O, 0, none⟩ (.slice (some ⟨b13, 0, none⟩) AA.length c13)).heap.size = w8c.heap.size) := hide (by simp [World.setCell])
                have hsB := (unhide Bw8c).size
                clear hHeld x0 x1 f0
                generalize hWA : w8c.setCell ⟨O, 0, none⟩ (.slice (some ⟨b13, 0, none⟩) AA.length c13) = w9 at *
                clear hWA
                refine hK.out _ _ (unhide HXA) (fun hHeld => ?_)
                clear hK K
                (try simp only [Act.put, List.setIfInBounds_toArray, List.set_cons_zero, List.set_cons_succ])
                refine Rl.done (by kernel_rfl) (NoPanic.normal ?_) _
                clear hHeld
                go_wp2_with fail
                go_meet
                case rel => exact ⟨rfl, b13, c13, hide (by rw [← unhide HAA]; exact unhide Cw8c), hide (by rw [← unhide HAA]; exact unhide HTA), hide (by rw [← unhide HAA]; exact unhide HLA), HEA, HBA⟩
              · go_simp
                have Bw7 : Hid (Below w5.heap.size w5 (w6.alloc (.cells #[.int .i64 frm, .int .i64 an, .int .i64 til] 41))) := hide ((unhide Bw6).alloc (unhide Bw6).size _)
                have Ow7 := hide ((unhide Ow6).alloc (.cells #[.int .i64 frm, .int .i64 an, .int .i64 til] 41))
                have Xw7 : Hid (So.RM (w6.alloc (.cells #[.int .i64 frm, .int .i64 an, .int .i64 til] 41)) (some ⟨w6.heap.size, 0, none⟩) [(⟨frm, an, til⟩ : So.R)]) := hide (So.rm_new w6 (⟨frm, an, til⟩ : So.R))
                have HHw7 : Hid ((w6.alloc (.cells #[.int .i64 frm, .int .i64 an, .int .i64 til] 41)).heap.size = w6.heap.size + 1) := hide (by simp)
                clear hHeld
                generalize hW_w7 : w6.alloc (.cells #[.int .i64 frm, .int .i64 an, .int .i64 til] 41) = w7 at *
                clear hW_w7
                refine hK.out _ _ ⟨sHX ((unhide HX5).below (unhide Bw7)), sHT ((unhide HT5).below (unhide Bw7))⟩ (fun hHeld => ?_)
                clear hK K
                (try simp only [Act.put, List.setIfInBounds_toArray, List.set_cons_zero, List.set_cons_succ])
                (refine Rl.ready (rs := [5]) (by kernel_rfl) (by simp) ?_; refine Rl.AllReadyL.cons (o := _) rfl rfl (fun K hK => ?_) Rl.AllReadyL.nil; rw [if_pos (by rfl)])
                refine apGSo (unhide Ow7) (by simp) g o j cc TK (unhide lt1) ((unhide H1).below (unhide Bw7)) (by have := unhide lt1; have := unhide ld1; (try simp only [List.length_cons, List.length_nil]); omega) (unhide Bw7).size _ _ rfl rfl rfl rfl ?_
                intro b5 c5 w8 ho5 hc5 hg5
                simp only [List.nil_append] at ho5 hc5 ⊢
                have Ow8 := hide ho5
                have Cw8 := hide hc5
                have Bw8 := hide (So.below_own (unhide Bw7) (unhide Ow7) hg5 (Nat.le_refl _) (unhide Bw7).size)
                have Xw8 := hide (rm_new_grown (unhide Xw7) hg5 (by have := unhide HHw6; simp [Value.ownBlock]; omega))
                clear ho5 hc5 hg5 hHeld
                refine hK.out _ _ ⟨sHX ((unhide HX5).below (unhide Bw8)), sHT ((unhide HT5).below (unhide Bw8))⟩ (fun hHeld => ?_)
                clear hK K
                (try simp only [Act.put, List.setIfInBounds_toArray, List.set_cons_zero, List.set_cons_succ])
                (refine Rl.ready (rs := [8]) (by kernel_rfl) (by simp) ?_; refine Rl.AllReadyL.cons (o := _) rfl rfl (fun K hK => ?_) Rl.AllReadyL.nil; rw [if_pos (by rfl)])
                refine apGSo (unhide Ow8) (by simp) w6.heap.size 0 1 1 [(⟨frm, an, til⟩ : So.R)] rfl (unhide Xw8) (by have := unhide lt1; have := unhide ld1; (try simp only [List.length_cons, List.length_nil]); omega) (unhide Bw8).size _ _ rfl rfl rfl rfl ?_
                intro b8 c8 w8b ho8 hc8 hg8
                obtain ⟨A8, hA8⟩ : ∃ A8, TK ++ [(⟨frm, an, til⟩ : So.R)] = A8 := ⟨_, rfl⟩
                rw [hA8] at ho8 hc8 ⊢
                have hl8 : A8.length ≤ 10 := by rw [← hA8, List.length_append, unhide lt1]; simp; omega
                have HA8 := hide hA8
                clear hA8
                have Ow8b := hide ho8
                have Cw8b := hide hc8
                have Bw8b := hide (So.below_own (unhide Bw8) (unhide Ow8) hg8 (Nat.le_refl _) (unhide Bw8).size)
                clear ho8 hc8 hg8 hHeld
                refine hK.out _ _ ⟨sHX ((unhide HX5).below (unhide Bw8b)), sHT ((unhide HT5).below (unhide Bw8b))⟩ (fun hHeld => ?_)
                clear hK K
                (try simp only [Act.put, List.setIfInBounds_toArray, List.set_cons_zero, List.set_cons_succ])
                (refine Rl.ready (rs := [13]) (by kernel_rfl) (by simp) ?_; refine Rl.AllReadyL.cons (o := _) rfl rfl (fun K hK => ?_) Rl.AllReadyL.nil; rw [if_pos (by rfl)])
                refine apGSo (unhide Ow8b) (by simp) g o1 (k - j) (cc - j) DR (unhide ld1) ((unhide H3).below (unhide Bw8b)) (by have := unhide lt1; have := unhide ld1; (try simp only [List.length_cons, List.length_nil]); omega) (unhide Bw8b).size _ _ rfl rfl rfl rfl ?_
                intro b13 c13 w8c ho13 hc13 hg13
                obtain ⟨AA, hAA⟩ : ∃ AA, A8 ++ DR = AA := ⟨_, rfl⟩
                rw [hAA] at ho13 hc13 ⊢
                have HAA : Hid (AA = withS ss ⟨frm, an, til⟩) := hide (by rw [← hAA, ← unhide HA8]; exact unhide HAW)
                clear hAA
                have Ow8c := hide ho13
                have Cw8c := hide hc13
                have Bw8c := hide (So.below_own (unhide Bw8b) (unhide Ow8b) hg13 (Nat.le_refl _) (unhide Bw8b).size)
                clear ho13 hc13 hg13 hHeld
                refine hK.out _ _ ⟨sHX ((unhide HX5).below (unhide Bw8c)), sHT ((unhide HT5).below (unhide Bw8c))⟩ (fun hHeld => ?_)
                clear hK K
                (try simp only [Act.put, List.setIfInBounds_toArray, List.set_cons_zero, List.set_cons_succ])
                (refine Rl.tk (k := 15) (i := 14) (d := 74) (v := ?_) rfl rfl (by kernel_rfl) (by kernel_rfl) (by kernel_rfl) (by kernel_rfl) rfl (by kernel_rfl) (fun _ _ _ h => h) (by rfl) ?_ (by assumption) ?_; rotate_left; (focus (intro w0 hSw; (try dsimp only at hSw); go_simp; (try with_reducible rfl))); (try simp only [Act.put, List.setIfInBounds_toArray, List.set_cons_zero, List.set_cons_succ]))
                have HT9 := hide ((unhide HT5).below (unhide Bw8c))
                have HE9 := hide ((unhide HE5).below (unhide Bw8c))
                have HL9 := hide (lst_fm rfl (unhide Ow8c)).rm
                obtain ⟨x0, x1⟩ := (unhide HT9).bx
                have f0 := (unhide HT9).free 0
                (refine Rl.ready (rs := [15]) (by kernel_rfl) (by simp) ?_; refine Rl.AllReadyL.last (o := _) rfl (by kernel_rfl) (fun K hK => ?_); go_simp)
                have HTA := hide ((unhide HT9).set0 (.slice (some ⟨b13, 0, none⟩) AA.length c13))
                have HEA := hide (rmT_tv (unhide HE9) (unhide HT9) 0 (.slice (some ⟨b13, 0, none⟩) AA.length c13))
                have HLA := hide (rmS_tv (unhide HL9) (unhide HT9) 0 (.slice (some ⟨b13, 0, none⟩) AA.length c13))
                have HBA : Hid (Below O w5 (w8c.setCell ⟨O, 0, none⟩ (.slice (some ⟨b13, 0, none⟩) AA.length c13))) := hide (((unhide Bw8c).mono (by have := unhide HH4; have := unhide HH5; show O ≤ w5.heap.size; omega)).setCell (p := ⟨O, 0, none⟩) (Nat.le_refl _) (.slice (some ⟨b13, 0, none⟩) AA.length c13))
                have HXA := hide (sHX (((unhide HX5).below (unhide Bw8c)).but0 (Below.heap_setCell w8c ⟨O, 0, none⟩ (.slice (some ⟨b13, 0, none⟩) AA.length c13) _ (by have := unhide HH4; show B5 ≠ O; omega))))
                have HHA : Hid ((w8c.setCell ⟨O, 0, none⟩ (.slice (some ⟨b13, 0, none⟩) AA.length c13)).heap.size = w8c.heap.size) := hide (by simp [World.setCell])
                have hsB := (unhide Bw8c).size
                clear hHeld x0 x1 f0
                generalize hWA : w8c.setCell ⟨O, 0, none⟩ (.slice (some ⟨b13, 0, none⟩) AA.length c13) = w9 at *
                clear hWA
                refine hK.out _ _ (unhide HXA) (fun hHeld => ?_)
                clear hK K
                (try simp only [Act.put, List.setIfInBounds_toArray, List.set_cons_zero, List.set_cons_succ])
                refine Rl.done (by kernel_rfl) (NoPanic.normal ?_) _
                clear hHeld
                go_wp2_with fail
                go_meet
                case rel => exact ⟨rfl, b13, c13, hide (by rw [← unhide HAA]; exact unhide Cw8c), hide (by rw [← unhide HAA]; exact unhide HTA), hide (by rw [← unhide HAA]; exact unhide HLA), HEA, HBA⟩
            · go_simp
              have Bw6 : Hid (Below w5.heap.size w5 ((w5.alloc (.cells #[.int .i64 frm, .int .i64 an, .int .i64 til] 41)).drew)) := hide (((Below.refl _ _).alloc (Nat.le_refl _) _).drew)
              have Xw6 : Hid (So.RM ((w5.alloc (.cells #[.int .i64 frm, .int .i64 an, .int .i64 til] 41)).drew) (some ⟨w5.heap.size, 0, none⟩) [(⟨frm, an, til⟩ : So.R)]) := hide ((So.rm_new w5 (⟨frm, an, til⟩ : So.R)).drew)
              have HHw6 : Hid (((w5.alloc (.cells #[.int .i64 frm, .int .i64 an, .int .i64 til] 41)).drew).heap.size = w5.heap.size + 1) := hide (by show (w5.alloc (.cells #[.int .i64 frm, .int .i64 an, .int .i64 til] 41)).heap.size = _; simp)
              clear hHeld
              generalize hW_w6 : (w5.alloc (.cells #[.int .i64 frm, .int .i64 an, .int .i64 til] 41)).drew = w6 at *
              clear hW_w6
              refine hK.out _ _ ⟨sHX ((unhide HX5).below (unhide Bw6)), sHT ((unhide HT5).below (unhide Bw6))⟩ (fun hHeld => ?_)
              clear hK K
              (try simp only [Act.put, List.setIfInBounds_toArray, List.set_cons_zero, List.set_cons_succ])
              (refine Rl.ready (rs := [0]) (by kernel_rfl) (by simp) ?_; refine Rl.AllReadyL.cons (o := _) rfl rfl (fun K hK => ?_) Rl.AllReadyL.nil; go_simp)
              have Bw7 : Hid (Below w5.heap.size w5 (w6.alloc (.cells #[] 41))) := hide ((unhide Bw6).alloc (unhide Bw6).size _)
              have Ow7 : Hid ((w6.alloc (.cells #[] 41)).ownsRow w5.heap.size 41 3 (.slice (some ⟨w6.heap.size, 0, none⟩) 0 0) ([] : List So.R).length (So.flat [])) := hide (So.own_empty w6 w5.heap.size (unhide Bw6).size)
              have Xw7 := hide ((unhide Xw6).below ((Below.refl _ _).alloc (Nat.le_refl _) (.cells #[] 41)))
              have HHw7 : Hid ((w6.alloc (.cells #[] 41)).heap.size = w6.heap.size + 1) := hide (by simp)
              clear hHeld
              generalize hW_w7 : w6.alloc (.cells #[] 41) = w7 at *
              clear hW_w7
              refine hK.out _ _ ⟨sHX ((unhide HX5).below (unhide Bw7)), sHT ((unhide HT5).below (unhide Bw7))⟩ (fun hHeld => ?_)
              clear hK K
              (try simp only [Act.put, List.setIfInBounds_toArray, List.set_cons_zero, List.set_cons_succ])
              (refine Rl.ready (rs := [5]) (by kernel_rfl) (by simp) ?_; refine Rl.AllReadyL.cons (o := _) rfl rfl (fun K hK => ?_) Rl.AllReadyL.nil; rw [if_pos (by rfl)])
              refine apGSo (unhide Ow7) (by simp) g o j cc TK (unhide lt1) ((unhide H1).below (unhide Bw7)) (by have := unhide lt1; have := unhide ld1; (try simp only [List.length_cons, List.length_nil]); omega) (unhide Bw7).size _ _ rfl rfl rfl rfl ?_
              intro b5 c5 w8 ho5 hc5 hg5
              simp only [List.nil_append] at ho5 hc5 ⊢
              have Ow8 := hide ho5
              have Cw8 := hide hc5
              have Bw8 := hide (So.below_own (unhide Bw7) (unhide Ow7) hg5 (Nat.le_refl _) (unhide Bw7).size)
              have Xw8 := hide (rm_new_grown (unhide Xw7) hg5 (by have := unhide HHw6; simp [Value.ownBlock]; omega))
              clear ho5 hc5 hg5 hHeld
              refine hK.out _ _ ⟨sHX ((unhide HX5).below (unhide Bw8)), sHT ((unhide HT5).below (unhide Bw8))⟩ (fun hHeld => ?_)
              clear hK K
              (try simp only [Act.put, List.setIfInBounds_toArray, List.set_cons_zero, List.set_cons_succ])
              (refine Rl.ready (rs := [8]) (by kernel_rfl) (by simp) ?_; refine Rl.AllReadyL.cons (o := _) rfl rfl (fun K hK => ?_) Rl.AllReadyL.nil; rw [if_pos (by rfl)])
              refine apGSo (unhide Ow8) (by simp) w5.heap.size 0 1 1 [(⟨frm, an, til⟩ : So.R)] rfl (unhide Xw8) (by have := unhide lt1; have := unhide ld1; (try simp only [List.length_cons, List.length_nil]); omega) (unhide Bw8).size _ _ rfl rfl rfl rfl ?_
              intro b8 c8 w8b ho8 hc8 hg8
              obtain ⟨A8, hA8⟩ : ∃ A8, TK ++ [(⟨frm, an, til⟩ : So.R)] = A8 := ⟨_, rfl⟩
              rw [hA8] at ho8 hc8 ⊢
              have hl8 : A8.length ≤ 10 := by rw [← hA8, List.length_append, unhide lt1]; simp; omega
              have HA8 := hide hA8
              clear hA8
              have Ow8b := hide ho8
              have Cw8b := hide hc8
              have Bw8b := hide (So.below_own (unhide Bw8) (unhide Ow8) hg8 (Nat.le_refl _) (unhide Bw8).size)
              clear ho8 hc8 hg8 hHeld
              refine hK.out _ _ ⟨sHX ((unhide HX5).below (unhide Bw8b)), sHT ((unhide HT5).below (unhide Bw8b))⟩ (fun hHeld => ?_)
              clear hK K
              (try simp only [Act.put, List.setIfInBounds_toArray, List.set_cons_zero, List.set_cons_succ])
              (refine Rl.ready (rs := [13]) (by kernel_rfl) (by simp) ?_; refine Rl.AllReadyL.cons (o := _) rfl rfl (fun K hK => ?_) Rl.AllReadyL.nil; rw [if_pos (by rfl)])
              refine apGSo (unhide Ow8b) (by simp) g o1 (k - j) (cc - j) DR (unhide ld1) ((unhide H3).below (unhide Bw8b)) (by have := unhide lt1; have := unhide ld1; (try simp only [List.length_cons, List.length_nil]); omega) (unhide Bw8b).size _ _ rfl rfl rfl rfl ?_
              intro b13 c13 w8c ho13 hc13 hg13
              obtain ⟨AA, hAA⟩ : ∃ AA, A8 ++ DR = AA := ⟨_, rfl⟩
              rw [hAA] at ho13 hc13 ⊢
              have HAA : Hid (AA = withS ss ⟨frm, an, til⟩) := hide (by rw [← hAA, ← unhide HA8]; exact unhide HAW)
              clear hAA
              have Ow8c := hide ho13
              have Cw8c := hide hc13
              have Bw8c := hide (So.below_own (unhide Bw8b) (unhide Ow8b) hg13 (Nat.le_refl _) (unhide Bw8b).size)
              clear ho13 hc13 hg13 hHeld
              refine hK.out _ _ ⟨sHX ((unhide HX5).below (unhide Bw8c)), sHT ((unhide HT5).below (unhide Bw8c))⟩ (fun hHeld => ?_)
              clear hK K
              (try simp only [Act.put, List.setIfInBounds_toArray, List.set_cons_zero, List.set_cons_succ])
              (refine Rl.tk (k := 15) (i := 14) (d := 74) (v := ?_) rfl rfl (by kernel_rfl) (by kernel_rfl) (by kernel_rfl) (by kernel_rfl) rfl (by kernel_rfl) (fun _ _ _ h => h) (by rfl) ?_ (by assumption) ?_; rotate_left; (focus (intro w0 hSw; (try dsimp only at hSw); go_simp; (try with_reducible rfl))); (try simp only [Act.put, List.setIfInBounds_toArray, List.set_cons_zero, List.set_cons_succ]))
              have HT9 := hide ((unhide HT5).below (unhide Bw8c))
              have HE9 := hide ((unhide HE5).below (unhide Bw8c))
              have HL9 := hide (lst_fm rfl (unhide Ow8c)).rm
              obtain ⟨x0, x1⟩ := (unhide HT9).bx
              have f0 := (unhide HT9).free 0
              (refine Rl.ready (rs := [15]) (by kernel_rfl) (by simp) ?_; refine Rl.AllReadyL.last (o := _) rfl (by kernel_rfl) (fun K hK => ?_); go_simp)
              have HTA := hide ((unhide HT9).set0 (.slice (some ⟨b13, 0, none⟩) AA.length c13))
              have HEA := hide (rmT_tv (unhide HE9) (unhide HT9) 0 (.slice (some ⟨b13, 0, none⟩) AA.length c13))
              have HLA := hide (rmS_tv (unhide HL9) (unhide HT9) 0 (.slice (some ⟨b13, 0, none⟩) AA.length c13))
              have HBA : Hid (Below O w5 (w8c.setCell ⟨O, 0, none⟩ (.slice (some ⟨b13, 0, none⟩) AA.length c13))) := hide (((unhide Bw8c).mono (by have := unhide HH4; have := unhide HH5; show O ≤ w5.heap.size; omega)).setCell (p := ⟨O, 0, none⟩) (Nat.le_refl _) (.slice (some ⟨b13, 0, none⟩) AA.length c13))
              have HXA := hide (sHX (((unhide HX5).below (unhide Bw8c)).but0 (Below.heap_setCell w8c ⟨O, 0, none⟩ (.slice (some ⟨b13, 0, none⟩) AA.length c13) _ (by have := unhide HH4; show B5 ≠ O; omega))))
              have HHA : Hid ((w8c.setCell ⟨O, 0, none⟩ (.slice (some ⟨b13, 0, none⟩) AA.length c13)).heap.size = w8c.heap.size) := hide (by simp [World.setCell])
              have hsB := (unhide Bw8c).size
              clear hHeld x0 x1 f0
              generalize hWA : w8c.setCell ⟨O, 0, none⟩ (.slice (some ⟨b13, 0, none⟩) AA.length c13) = w9 at *
              clear hWA
              refine hK.out _ _ (unhide HXA) (fun hHeld => ?_)
              clear hK K
              (try simp only [Act.put, List.setIfInBounds_toArray, List.set_cons_zero, List.set_cons_succ])
              refine Rl.done (by kernel_rfl) (NoPanic.normal ?_) _
              clear hHeld
              go_wp2_with fail
              go_meet
              case rel => exact ⟨rfl, b13, c13, hide (by rw [← unhide HAA]; exact unhide Cw8c), hide (by rw [← unhide HAA]; exact unhide HTA), hide (by rw [← unhide HAA]; exact unhide HLA), HEA, HBA⟩
          case rest =>
            obtain ⟨rfl, bS, cS, hcS, htS, hrS, hrE, hbO⟩ := hcut
            rename World => w9
            have HB9 := hide ((unhide HB5).trans ((unhide hbO).mono (by omega)))
            have HTW := hide (learnE_two (unhide HTF) hf htb (unhide HAL))
            obtain ⟨WA, hWA⟩ : ∃ WA, withS ss ⟨frm, an, til⟩ = WA := ⟨_, rfl⟩
            have HWA := hide hWA
            rw [hWA] at hcS htS hrS
            clear hWA
            have hs9 := (unhide hbO).size
            obtain ⟨N, hN⟩ : ∃ N, ns.length = N := ⟨_, rfl⟩
            have HNN := hide hN
            rw [hN] at hn8 HY5 HNE
            have HY9 := hide ((unhide HY5).under (unhide hbO) (by omega))
            obtain ⟨y0, y1, y2⟩ := unhide HY9
            clear hN
            go_wp2_with fail
            clear y0 y1 y2
            go_loopw [15] (fun i wr => ∃ t : Nat, t ≤ N ∧ i = .int .i64 t ∧ ∃ hh pp dd : Nat, Hid (TV wr O (.slice (some ⟨bS, 0, none⟩) WA.length cS) (.slice (some ⟨hh, pp, none⟩) (learnE EF frm til ns t).length dd)) ∧ Hid (Tu.RM wr (some ⟨hh, pp, none⟩) (learnE EF frm til ns t)) ∧ Hid (So.RM wr (some ⟨bS, 0, none⟩) WA) ∧ Hid (Below O w5 wr)) (fun i _ => N - (intOf i).toNat)
            case atStart => exact ⟨0, by omega, rfl, h, p, d, htS, hrE, hrS, hbO⟩
            case round =>
              clear htS hrE hrS hbO HB9 HY9 hs9
              obtain ⟨t, ht, rfl, hh, pp, dd, htv, hre, hrs, hbl⟩ := hrel
              have HBw := hide ((unhide HB5).trans ((unhide hbl).mono (by omega)))
              have HYr := hide ((unhide HY5).under (unhide hbl) (by omega))
              have hbs := (unhide hbl).size
              by_cases hlt2 : (t : Int) < (N : Int)
              · have k2 : (0 : Int) ≤ (t : Int) := by omega
                have hlen2 : t < ns.length := by rw [unhide HNN]; omega
                obtain ⟨gn, offn, rfl⟩ := (unhide HN0).form (by omega)
                have hA := ((unhide HN0).below (unhide HBw)).at hlen2
                have HLY : Hid (((ns.getD t Ed.R.zero).ad != frm) = true → (learnE EF frm til ns (t + 1)) = putL (learnE EF frm til ns t) (tupE frm til (ns.getD t Ed.R.zero))) := hide (fun h => learnE_yes hlen2 h)
                have HLZ : Hid (((ns.getD t Ed.R.zero).ad != frm) = false → (learnE EF frm til ns (t + 1)) = (learnE EF frm til ns t)) := hide (fun h => learnE_no hlen2 h)
                have had := Av.ok_ad (Ri.all_ok (unhide HAL) hlen2)
                have HT1 := hide (unhide HTW t (by omega))
                have hl1 := two_len (unhide HT1)
                obtain ⟨m, hmd⟩ : ∃ m, ns.getD t Ed.R.zero = m := ⟨_, rfl⟩
                rw [hmd] at hA HLY HLZ had
                clear hmd
                obtain ⟨ad, mt⟩ := m
                obtain ⟨c0, c1⟩ := hA
                dsimp only at c0 c1 had HLY HLZ
                have hal : Below wr.heap.size wr (wr.alloc (.cells #[.int .i64 ad, .int .i64 mt] 47)) := (Below.refl _ _).alloc (Nat.le_refl _) _
                have HTA := hide ((unhide htv).below hal)
                have HEA := hide ((unhide hre).below hal)
                have HSA := hide ((unhide hrs).below hal)
                have HBA := hide ((unhide hbl).trans (hal.mono (by have := (unhide htv).lt; omega)))
                have HYA := hide ((unhide HYr).below hal)
                have HNA : Hid (Ed.At (wr.alloc (.cells #[.int .i64 ad, .int .i64 mt] 47)) wr.heap.size 0 ⟨ad, mt⟩) := hide (by refine ⟨?_, ?_⟩ <;> simp [World.cell?_alloc_new])
                clear hal
                obtain ⟨y0, y1, y2⟩ := unhide HYr
                cases hnew : (ad != frm)
                · have E1 := unhide HLZ hnew
                  rw [← E1] at HTA HEA
                  clear E1 HLY HLZ
                  go_wp2_with fail
                  go_roundw
                  case rel => exact ⟨t + 1, by omega, by go_num, hh, pp, dd, HTA, HEA, HSA, HBA⟩
                  case measure => simp [intOf]; omega
                · have HE1 := hide (unhide HLY hnew)
                  clear HLY HLZ
                  have HNP := hide (put_ne (learnE EF frm til ns t) (tupE frm til ⟨ad, mt⟩))
                  obtain ⟨L, hL⟩ : ∃ L, (learnE EF frm til ns t) = L := ⟨_, rfl⟩
                  rw [hL] at HE1 HT1 hl1 HTA HEA htv hre HNP
                  clear hL
                  go_wp2_with fail
                  generalize hW0 : wr.alloc (.cells #[.int .i64 ad, .int .i64 mt] 47) = W0 at *
                  clear hW0 c0 c1 y0 y1 y2
                  refine wp_region_noPanic ?_
                  refine Rl.drew (S := fun w' => (Ed.At w' wr.heap.size 0 ⟨ad, mt⟩ ∧ Bx3 w' (w.heap.size + 1) an valid (.slice (some ⟨gn, offn, none⟩) N cn)) ∧ w'.cell? ⟨wr.heap.size, 0, none⟩ = some (.int .i64 ad) ∧ w'.cell? ⟨wr.heap.size, 1, none⟩ = some (.int .i64 mt) ∧ w'.cell? ⟨w.heap.size + 1, 1, none⟩ = some (.int .i64 valid)) (T := fun w' => TV w' O (.slice (some ⟨bS, 0, none⟩) WA.length cS) (.slice (some ⟨hh, pp, none⟩) L.length dd) ∧ w'.cell? ⟨O, 0, none⟩ = some (.slice (some ⟨bS, 0, none⟩) WA.length cS) ∧ w'.cell? ⟨O, 1, none⟩ = some (.slice (some ⟨hh, pp, none⟩) L.length dd)) 18 (by kernel_rfl) ⟨sHE (unhide HNA).drew (unhide HYA).drew, sHT (unhide HTA).drew⟩ (fun hHeld => ?_)

                  (refine Rl.tk (k := 18) (i := 0) (d := 92) (v := ?_) rfl rfl (by kernel_rfl) (by kernel_rfl) (by kernel_rfl) (by kernel_rfl) rfl (by kernel_rfl) (fun _ _ _ h => h) (by rfl) ?_ (by assumption) ?_; rotate_left; (focus (intro w0 hSw; (try dsimp only at hSw); go_simp; (try with_reducible rfl))); (try simp only [Act.put, List.setIfInBounds_toArray, List.set_cons_zero, List.set_cons_succ]))
                  (refine Rl.tk (k := 18) (i := 1) (d := 93) (v := ?_) rfl rfl (by kernel_rfl) (by kernel_rfl) (by kernel_rfl) (by kernel_rfl) rfl (by kernel_rfl) (fun _ _ _ h => h) (by rfl) ?_ (by assumption) ?_; rotate_left; (focus (intro w0 hSw; (try dsimp only at hSw); go_simp; (try with_reducible rfl))); (try simp only [Act.put, List.setIfInBounds_toArray, List.set_cons_zero, List.set_cons_succ]))
                  (refine Rl.tk (k := 18) (i := 2) (d := 94) (v := ?_) rfl rfl (by kernel_rfl) (by kernel_rfl) (by kernel_rfl) (by kernel_rfl) rfl (by kernel_rfl) (fun _ _ _ h => h) (by rfl) ?_ (by assumption) ?_; rotate_left; (focus (intro w0 hSw; (try dsimp only at hSw); go_simp; (try with_reducible rfl))); (try simp only [Act.put, List.setIfInBounds_toArray, List.set_cons_zero, List.set_cons_succ]))
                  (refine Rl.tk (k := 18) (i := 3) (d := 95) (v := ?_) rfl rfl (by kernel_rfl) (by kernel_rfl) (by kernel_rfl) (by kernel_rfl) rfl (by kernel_rfl) (fun _ _ _ h => h) (by rfl) ?_ (by assumption) ?_; rotate_left; (focus (intro w0 hSw; (try dsimp only at hSw); go_simp; (try with_reducible rfl))); (try simp only [Act.put, List.setIfInBounds_toArray, List.set_cons_zero, List.set_cons_succ]))
                  (refine Rl.tk (k := 18) (i := 4) (d := 96) (v := ?_) rfl rfl (by kernel_rfl) (by kernel_rfl) (by kernel_rfl) (by kernel_rfl) rfl (by kernel_rfl) (fun _ _ _ h => h) (by rfl) ?_ (by assumption) ?_; rotate_left; (focus (intro w0 hSw; (try dsimp only at hSw); go_simp; (try with_reducible rfl))); (try simp only [Act.put, List.setIfInBounds_toArray, List.set_cons_zero, List.set_cons_succ]))
                  (refine Rl.tk (k := 18) (i := 6) (d := 98) (v := ?_) rfl rfl (by kernel_rfl) (by kernel_rfl) (by kernel_rfl) (by kernel_rfl) rfl (by kernel_rfl) (fun _ _ _ h => h) (by rfl) ?_ (by assumption) ?_; rotate_left; (focus (intro w0 hSw; (try dsimp only at hSw); go_simp; (try with_reducible rfl))); (try simp only [Act.put, List.setIfInBounds_toArray, List.set_cons_zero, List.set_cons_succ]))
                  (refine Rl.tk (k := 18) (i := 7) (d := 99) (v := ?_) rfl rfl (by kernel_rfl) (by kernel_rfl) (by kernel_rfl) (by kernel_rfl) rfl (by kernel_rfl) (fun _ _ _ h => h) (by rfl) ?_ (by assumption) ?_; rotate_left; (focus (intro w0 hSw; (try dsimp only at hSw); go_simp; (try with_reducible rfl))); (try simp only [Act.put, List.setIfInBounds_toArray, List.set_cons_zero, List.set_cons_succ]))
                  (refine Rl.tk (k := 18) (i := 8) (d := 100) (v := ?_) rfl rfl (by kernel_rfl) (by kernel_rfl) (by kernel_rfl) (by kernel_rfl) rfl (by kernel_rfl) (fun _ _ _ h => h) (by rfl) ?_ (by assumption) ?_; rotate_left; (focus (intro w0 hSw; (try dsimp only at hSw); go_simp; (try with_reducible rfl))); (try simp only [Act.put, List.setIfInBounds_toArray, List.set_cons_zero, List.set_cons_succ]))
                  (refine Rl.tk (k := 18) (i := 9) (d := 101) (v := .int .i64 til) rfl rfl (by kernel_rfl) (by kernel_rfl) (by kernel_rfl) (by kernel_rfl) rfl (by kernel_rfl) (fun _ _ _ h => h) (by rfl) ?_ (by assumption) ?_; (focus (intro w0 hSw; (try dsimp only at hSw); go_simp)); (try simp only [Act.put, List.setIfInBounds_toArray, List.set_cons_zero, List.set_cons_succ]))
                  (refine Rl.tk (k := 18) (i := 10) (d := 102) (v := ?_) rfl rfl (by kernel_rfl) (by kernel_rfl) (by kernel_rfl) (by kernel_rfl) rfl (by kernel_rfl) (fun _ _ _ h => h) (by rfl) ?_ (by assumption) ?_; rotate_left; (focus (intro w0 hSw; (try dsimp only at hSw); go_simp; (try with_reducible rfl))); (try simp only [Act.put, List.setIfInBounds_toArray, List.set_cons_zero, List.set_cons_succ]))
                  (refine Rl.tk (k := 18) (i := 11) (d := 103) (v := ?_) rfl rfl (by kernel_rfl) (by kernel_rfl) (by kernel_rfl) (by kernel_rfl) rfl (by kernel_rfl) (fun _ _ _ h => h) (by rfl) ?_ (by assumption) ?_; rotate_left; (focus (intro w0 hSw; (try dsimp only at hSw); go_simp; (try with_reducible rfl))); (try simp only [Act.put, List.setIfInBounds_toArray, List.set_cons_zero, List.set_cons_succ]))
                  (refine Rl.ready (rs := [5]) (by kernel_rfl) (by simp) ?_; refine Rl.AllReadyL.cons (o := _) rfl rfl (fun K hK => ?_) Rl.AllReadyL.nil; go_simp)
                  refine (l07KeyT frm ad _ (by omega) (by omega) (by omega) (by omega)).mono ?_
                  rintro e w2' ⟨rfl, hw2⟩
                  have b2 : Below W0.heap.size W0 w2' := by rw [hw2]; exact (Below.refl _ _).drew
                  have HTB := hide ((unhide HTA).below b2)
                  have HEB := hide ((unhide HEA).below b2)
                  have HSB := hide ((unhide HSA).below b2)
                  have HBB := hide ((unhide HBA).trans (b2.mono (Nat.le_of_lt (unhide HTA).lt)))
                  have HYB := hide ((unhide HYA).below b2)
                  have HNB' := hide ((unhide HNA).below b2)
                  clear b2 hw2 hHeld
                  refine hK.out _ _ ⟨sHE (unhide HNB') (unhide HYB), sHT (unhide HTB)⟩ (fun hHeld => ?_)
                  clear hK K
                  (try simp only [Act.put, List.setIfInBounds_toArray, List.set_cons_zero, List.set_cons_succ])
                  (refine Rl.tk (k := 18) (i := 12) (d := 104) (v := ?_) rfl rfl (by kernel_rfl) (by kernel_rfl) (by kernel_rfl) (by kernel_rfl) rfl (by kernel_rfl) (fun _ _ _ h => h) (by rfl) ?_ (by assumption) ?_; rotate_left; (focus (intro w0 hSw; (try dsimp only at hSw); go_simp; (try with_reducible rfl))); (try simp only [Act.put, List.setIfInBounds_toArray, List.set_cons_zero, List.set_cons_succ]))
                  (refine Rl.ready (rs := [13]) (by kernel_rfl) (by simp) ?_; refine Rl.AllReadyL.cons (o := _) rfl rfl (fun K hK => ?_) Rl.AllReadyL.nil; go_simp)
                  refine (l03PutC hh pp L dd (100 * frm + ad) til mt _ (by omega) (unhide HEB)).mono ?_
                  rintro e w3' ⟨v3, rfl, b3, hl3, hs3⟩
                  have HTC := hide ((unhide HTB).below b3)
                  have HSC := hide ((unhide HSB).below b3)
                  have HBC := hide ((unhide HBB).trans (b3.mono (Nat.le_of_lt (unhide HTB).lt)))
                  have HYC := hide ((unhide HYB).below b3)
                  have HNC := hide ((unhide HNB').below b3)
                  have hl3' : LstV w3' v3 (learnE EF frm til ns (t + 1)) w2'.heap.size w3'.heap.size := by rw [unhide HE1]; exact hl3
                  obtain ⟨a3, c3, rfl, hl4⟩ := hl3'
                  have hpos : 0 < (learnE EF frm til ns (t + 1)).length := by rw [unhide HE1]; exact unhide HNP
                  obtain ⟨g3, rfl⟩ : ∃ g3, a3 = some ⟨g3, 0, none⟩ := by
                    rcases hl4 with h | ⟨g3, e3, _⟩
                    · rw [h] at hpos; simp at hpos
                    · exact ⟨g3, e3⟩
                  have HEC := hide hl4.rm
                  clear b3 hl3 hl4 hs3 hpos hHeld
                  generalize putC L ⟨100 * frm + ad, til, mt⟩ = pc
                  refine hK.out _ _ ⟨sHE (unhide HNC) (unhide HYC), sHT (unhide HTC)⟩ (fun hHeld => ?_)
                  clear hK K
                  (try simp only [Act.put, List.setIfInBounds_toArray, List.set_cons_zero, List.set_cons_succ])
                  (refine Rl.tk (k := 18) (i := 14) (d := 91) (v := ?_) rfl rfl (by kernel_rfl) (by kernel_rfl) (by kernel_rfl) (by kernel_rfl) rfl (by kernel_rfl) (fun _ _ _ h => h) (by rfl) ?_ (by assumption) ?_; rotate_left; (focus (intro w0 hSw; (try dsimp only at hSw); go_simp; (try with_reducible rfl))); (try simp only [Act.put, List.setIfInBounds_toArray, List.set_cons_zero, List.set_cons_succ]))
                  (refine Rl.tk (k := 18) (i := 15) (d := 106) (v := ?_) rfl rfl (by kernel_rfl) (by kernel_rfl) (by kernel_rfl) (by kernel_rfl) rfl (by kernel_rfl) (fun _ _ _ h => h) (by rfl) ?_ (by assumption) ?_; rotate_left; (focus (intro w0 hSw; (try dsimp only at hSw); go_simp; (try with_reducible rfl))); (try simp only [Act.put, List.setIfInBounds_toArray, List.set_cons_zero, List.set_cons_succ]))
                  (refine Rl.tkS (k := 18) (i := 16) (d := 107) (v := ?_) rfl rfl (by kernel_rfl) (by kernel_rfl) (by kernel_rfl) rfl (fun _ _ _ h => h) (by rfl) ?_ (by assumption) ?_; rotate_left; (focus (intro w0 hSw; (try dsimp only at hSw); go_simp; (try with_reducible rfl))); (try simp only [Act.put, List.setIfInBounds_toArray, List.set_cons_zero, List.set_cons_succ]))
                  (refine Rl.tk (k := 18) (i := 17) (d := 108) (v := ?_) rfl rfl (by kernel_rfl) (by kernel_rfl) (by kernel_rfl) (by kernel_rfl) rfl (by kernel_rfl) (fun _ _ _ h => h) (by rfl) ?_ (by assumption) ?_; rotate_left; (focus (intro w0 hSw; (try dsimp only at hSw); go_simp; (try with_reducible rfl))); (try simp only [Act.put, List.setIfInBounds_toArray, List.set_cons_zero, List.set_cons_succ]))
                  obtain ⟨x0, x1⟩ := (unhide HTC).bx
                  have f0 := (unhide HTC).free 1
                  (refine Rl.ready (rs := [18]) (by kernel_rfl) (by simp) ?_; refine Rl.AllReadyL.last (o := _) rfl (by kernel_rfl) (fun K hK => ?_); go_simp)
                  have HTD := hide ((unhide HTC).set1 (.slice (some ⟨g3, 0, none⟩) (learnE EF frm til ns (t + 1)).length c3))
                  have HED := hide (rmT_tv (unhide HEC) (unhide HTC) 1 (.slice (some ⟨g3, 0, none⟩) (learnE EF frm til ns (t + 1)).length c3))
                  have HSD := hide (rmS_tv (unhide HSC) (unhide HTC) 1 (.slice (some ⟨g3, 0, none⟩) (learnE EF frm til ns (t + 1)).length c3))
                  have HBD := hide ((unhide HBC).setCell (p := ⟨O, 1, none⟩) (Nat.le_refl _) (.slice (some ⟨g3, 0, none⟩) (learnE EF frm til ns (t + 1)).length c3))
                  have HYD := hide ((unhide HYC).but (Below.heap_setCell w3' ⟨O, 1, none⟩ (.slice (some ⟨g3, 0, none⟩) (learnE EF frm til ns (t + 1)).length c3) _ (by show w.heap.size + 1 ≠ O; omega)))
                  have HND := hide (ed_but2 (unhide HNC) (Below.heap_setCell w3' ⟨O, 1, none⟩ (.slice (some ⟨g3, 0, none⟩) (learnE EF frm til ns (t + 1)).length c3) _ (by show wr.heap.size ≠ O; have := (unhide htv).lt; omega)))
                  clear hHeld x0 x1 f0
                  generalize hWD : w3'.setCell ⟨O, 1, none⟩ (.slice (some ⟨g3, 0, none⟩) (learnE EF frm til ns (t + 1)).length c3) = w4' at *
                  clear hWD
                  refine hK.out _ _ (sHE (unhide HND) (unhide HYD)) (fun hHeld => ?_)
                  clear hK K
                  (try simp only [Act.put, List.setIfInBounds_toArray, List.set_cons_zero, List.set_cons_succ])
                  refine Rl.done (by kernel_rfl) (NoPanic.normal ?_) _
                  clear hHeld
                  go_wp2_with fail
                  go_roundw
                  case rel => exact ⟨t + 1, by omega, by go_num, g3, 0, c3, HTD, HED, HSD, HBD⟩
                  case measure => simp [intOf]; omega
              · obtain rfl : N = t := by omega
                have HZr := hide ((unhide HZ5).under (unhide hbl) (by omega))
                obtain ⟨E9, hE9⟩ : ∃ E9, learnE EF frm til ns N = E9 := ⟨_, rfl⟩
                have HE9 : Hid (nowE es frm til ns = E9) := hide ((unhide HNE).trans hE9)
                rw [hE9] at htv hre
                clear hE9
                obtain ⟨x0, x1⟩ := (unhide htv).bx
                obtain ⟨r0, r1⟩ := (unhide HZr).bx
                have q0 := (unhide HZr).free 0
                have q1 := (unhide HZr).free 1
                have hne2 : ¬ O = w.heap.size + 2 := by omega
                have hne3 : ¬ w.heap.size + 2 = O := by omega
                have HLS := hide (rmS_tv (rmS_tv (unhide hrs) (unhide HZr) 0 (.slice (some ⟨bS, 0, none⟩) WA.length cS)) ((unhide HZr).set0 _) 1 (.slice (some ⟨hh, pp, none⟩) E9.length dd))
                have HLE := hide (rmT_tv (rmT_tv (unhide hre) (unhide HZr) 0 (.slice (some ⟨bS, 0, none⟩) WA.length cS)) ((unhide HZr).set0 _) 1 (.slice (some ⟨hh, pp, none⟩) E9.length dd))
                have HBF := hide (((unhide HBw).setCell (p := ⟨w.heap.size + 2, 0, none⟩) (by show w.heap.size ≤ w.heap.size + 2; omega) (.slice (some ⟨bS, 0, none⟩) WA.length cS)).setCell (p := ⟨w.heap.size + 2, 1, none⟩) (by show w.heap.size ≤ w.heap.size + 2; omega) (.slice (some ⟨hh, pp, none⟩) E9.length dd))
                obtain ⟨y0, y1, y2⟩ := unhide HYr
                go_wp2_with fail
                refine bodyPost_ret (v := .tuple #[.agg #[(.slice (some ⟨bS, 0, none⟩) WA.length cS), .slice (some ⟨hh, pp, none⟩) E9.length dd], .int .i64 0]) (by simp [results, Try.results36, go_sem, r0, r1, x0, x1]) rfl ⟨_, rfl, unhide HBF, ?_⟩
                rw [unhide HWA, unhide HE9]
                exact ⟨bS, 0, cS, hh, pp, dd, rfl, unhide hcS, unhide HLS, unhide HLE⟩
      · have hjk : j = k := by omega
        have HPL : Hid (placeS SF frm = j) := hide (Pl.place_of So.R.zero _ SF j (by omega) (unhide hat) (fun h => by omega))
        obtain ⟨x0, x1⟩ := (unhide HT4).bx
        obtain ⟨y0, y1, y2⟩ := unhide HY4
        have hy4 := (unhide HY4).lt
        clear hk hjk
        go_wp2_with fail
        clear x0 x1 y0 y1 y2
        have hjc : j ≤ cc := by omega
        have hal5 : Below w4.heap.size w4 (w4.alloc (.cells #[.int .i64 frm, .int .i64 an, .int .i64 til] 41)) := (Below.refl _ _).alloc (Nat.le_refl _) _
        have HX5 := hide (Tp.bx_new w4 ⟨frm, an, til⟩ 41)
        have HT5 := hide ((unhide HT4).below hal5)
        have HB5 := hide ((unhide HB4).trans (hal5.mono (unhide HB4).size))
        have HY5 := hide ((unhide HY4).below hal5)
        have HZ5 := hide ((unhide HZ4).below hal5)
        have HN5 := hide ((unhide HN4).below hal5)
        have HS5 := hide ((unhide HS4).below hal5)
        have HE5 := hide ((unhide HE4).below hal5)
        have HH5 : Hid ((w4.alloc (.cells #[.int .i64 frm, .int .i64 an, .int .i64 til] 41)).heap.size = w4.heap.size + 1) := hide (by simp)
        dsimp only at HX5
        generalize hW5 : w4.alloc (.cells #[.int .i64 frm, .int .i64 an, .int .i64 til] 41) = w5 at *
        clear hW5 hal5 HT4 HB4 HY4 HZ4 HN4 HS4 HE4
        generalize hB5 : w4.heap.size = B5 at *
        clear hB5
        obtain ⟨o1, hs1, ho1⟩ := sl_from g o k cc j (by omega)
        have HO1 := hide ho1
        clear ho1
        have hs0 := sl_to g o k cc j (by omega)
        have HAW : Hid (SF.take j ++ [⟨frm, an, til⟩] ++ SF.drop j = withS ss ⟨frm, an, til⟩) := hide (by have := unhide HWN; rw [unhide HPL] at this; exact this)
        have lt1 : Hid ((SF.take j).length = j) := hide (by rw [List.length_take, unhide HK]; omega)
        have ld1 : Hid ((SF.drop j).length = k - j) := hide (by rw [List.length_drop, unhide HK])
        have H1 := hide (rm_take (unhide HS5) j)
        have H3 : Hid (So.RM w5 (some ⟨g, o1, none⟩) (SF.drop j)) := hide (rm_drop (unhide HS5) (by rw [unhide HK]; exact hcc) (by rw [unhide HK]; omega) (unhide HO1))
        generalize hTK : SF.take j = TK at *
        generalize hDR : SF.drop j = DR at *
        clear hTK hDR
        go_cut [13] (fun q wx => q = .int .i64 j ∧ ∃ b c : Nat, Hid ((withS ss ⟨frm, an, til⟩).length ≤ c) ∧ Hid (TV wx O (.slice (some ⟨b, 0, none⟩) (withS ss ⟨frm, an, til⟩).length c) (.slice (some ⟨h, p, none⟩) EF.length d)) ∧ Hid (So.RM wx (some ⟨b, 0, none⟩) (withS ss ⟨frm, an, til⟩)) ∧ Hid (Tu.RM wx (some ⟨h, p, none⟩) EF) ∧ Hid (Below O w5 wx))
        case first =>
          refine wp_region_noPanic ?_
          refine Rl.drew (S := fun w' => Tp.Bx w' B5 ⟨frm, an, til⟩ ∧ w'.cell? ⟨B5, 0, none⟩ = some (.int .i64 frm) ∧ w'.cell? ⟨B5, 1, none⟩ = some (.int .i64 an) ∧ w'.cell? ⟨B5, 2, none⟩ = some (.int .i64 til)) (T := fun w' => TV w' O (.slice (some ⟨g, o, none⟩) k cc) (.slice (some ⟨h, p, none⟩) EF.length d) ∧ w'.cell? ⟨O, 0, none⟩ = some (.slice (some ⟨g, o, none⟩) k cc) ∧ w'.cell? ⟨O, 1, none⟩ = some (.slice (some ⟨h, p, none⟩) EF.length d)) 15 (by kernel_rfl) ⟨sHX (unhide HX5).drew, sHT (unhide HT5).drew⟩ (fun hHeld => ?_)

          (refine Rl.tk (k := 15) (i := 1) (d := 61) (v := ?_) rfl rfl (by kernel_rfl) (by kernel_rfl) (by kernel_rfl) (by kernel_rfl) rfl (by kernel_rfl) (fun _ _ _ h => h) (by rfl) ?_ (by assumption) ?_; rotate_left; (focus (intro w0 hSw; (try dsimp only at hSw); go_simp; (try with_reducible rfl))); (try simp only [Act.put, List.setIfInBounds_toArray, List.set_cons_zero, List.set_cons_succ]))
          (refine Rl.tk (k := 15) (i := 2) (d := 62) (v := ?_) rfl rfl (by kernel_rfl) (by kernel_rfl) (by kernel_rfl) (by kernel_rfl) rfl (by kernel_rfl) (fun _ _ _ h => h) (by rfl) ?_ (by assumption) ?_; rotate_left; (focus (intro w0 hSw; (try dsimp only at hSw); go_simp; (try with_reducible rfl))); (try simp only [Act.put, List.setIfInBounds_toArray, List.set_cons_zero, List.set_cons_succ]))
          (refine Rl.tk (k := 15) (i := 3) (d := 63) (v := ?_) rfl rfl (by kernel_rfl) (by kernel_rfl) (by kernel_rfl) (by kernel_rfl) rfl (by kernel_rfl) (fun _ _ _ h => h) (by rfl) ?_ (by assumption) ?_; rotate_left; (focus (intro w0 hSw; (try dsimp only at hSw); go_simp; (try with_reducible rfl))); (try simp only [Act.put, List.setIfInBounds_toArray, List.set_cons_zero, List.set_cons_succ]))
          (refine Rl.tk (k := 15) (i := 4) (d := 64) (v := ?_) rfl rfl (by kernel_rfl) (by kernel_rfl) (by kernel_rfl) (by kernel_rfl) rfl (by kernel_rfl) (fun _ _ _ h => h) (by rfl) ?_ (by assumption) ?_; rotate_left; (focus (intro w0 hSw; (try dsimp only at hSw); go_simp; (try with_reducible rfl))); (try simp only [Act.put, List.setIfInBounds_toArray, List.set_cons_zero, List.set_cons_succ]))
          (refine Rl.tk (k := 15) (i := 6) (d := 66) (v := ?_) rfl rfl (by kernel_rfl) (by kernel_rfl) (by kernel_rfl) (by kernel_rfl) rfl (by kernel_rfl) (fun _ _ _ h => h) (by rfl) ?_ (by assumption) ?_; rotate_left; (focus (intro w0 hSw; (try dsimp only at hSw); go_simp; (try with_reducible rfl))); (try simp only [Act.put, List.setIfInBounds_toArray, List.set_cons_zero, List.set_cons_succ]))
          (refine Rl.tk (k := 15) (i := 9) (d := 69) (v := ?_) rfl rfl (by kernel_rfl) (by kernel_rfl) (by kernel_rfl) (by kernel_rfl) rfl (by kernel_rfl) (fun _ _ _ h => h) (by rfl) ?_ (by assumption) ?_; rotate_left; (focus (intro w0 hSw; (try dsimp only at hSw); go_simp; (try with_reducible rfl))); (try simp only [Act.put, List.setIfInBounds_toArray, List.set_cons_zero, List.set_cons_succ]))
          (refine Rl.tk (k := 15) (i := 10) (d := 70) (v := ?_) rfl rfl (by kernel_rfl) (by kernel_rfl) (by kernel_rfl) (by kernel_rfl) rfl (by kernel_rfl) (fun _ _ _ h => h) (by rfl) ?_ (by assumption) ?_; rotate_left; (focus (intro w0 hSw; (try dsimp only at hSw); go_simp; (try with_reducible rfl))); (try simp only [Act.put, List.setIfInBounds_toArray, List.set_cons_zero, List.set_cons_succ]))
          (refine Rl.tk (k := 15) (i := 11) (d := 71) (v := ?_) rfl rfl (by kernel_rfl) (by kernel_rfl) (by kernel_rfl) (by kernel_rfl) rfl (by kernel_rfl) (fun _ _ _ h => h) (by rfl) ?_ (by assumption) ?_; rotate_left; (focus (intro w0 hSw; (try dsimp only at hSw); go_simp; (try with_reducible rfl))); (try simp only [Act.put, List.setIfInBounds_toArray, List.set_cons_zero, List.set_cons_succ]))
          (refine Rl.tk (k := 15) (i := 12) (d := 72) (v := ?_) rfl rfl (by kernel_rfl) (by kernel_rfl) (by kernel_rfl) (by kernel_rfl) rfl (by kernel_rfl) (fun _ _ _ h => h) (by rfl) ?_ (by assumption) ?_; rotate_left; (focus (intro w0 hSw; (try dsimp only at hSw); go_simp; (try with_reducible rfl))); (try simp only [Act.put, List.setIfInBounds_toArray, List.set_cons_zero, List.set_cons_succ]))
          (refine Rl.ready (rs := [0, 7]) (by kernel_rfl) (by simp) ?_; refine Rl.AllReadyL.cons (o := _) rfl rfl (fun K hK => ?_) (Rl.AllReadyL.cons (o := _) rfl rfl (fun K hK => ?_) (Rl.AllReadyL.nil)))
          · go_simp
            have Bw6 : Hid (Below w5.heap.size w5 ((w5.alloc (.cells #[] 41)).drew)) := hide (((Below.refl _ _).alloc (Nat.le_refl _) _).drew)
            have Ow6 : Hid (((w5.alloc (.cells #[] 41)).drew).ownsRow w5.heap.size 41 3 (.slice (some ⟨w5.heap.size, 0, none⟩) 0 0) ([] : List So.R).length (So.flat [])) := hide ((So.own_empty w5 w5.heap.size (Nat.le_refl _)).drew)
            have HHw6 : Hid (((w5.alloc (.cells #[] 41)).drew).heap.size = w5.heap.size + 1) := hide (by show (w5.alloc (.cells #[] 41)).heap.size = _; simp)
            clear hHeld
            generalize hW_w6 : (w5.alloc (.cells #[] 41)).drew = w6 at *
            clear hW_w6
            refine hK.out _ _ ⟨sHX ((unhide HX5).below (unhide Bw6)), sHT ((unhide HT5).below (unhide Bw6))⟩ (fun hHeld => ?_)
            clear hK K
            (try simp only [Act.put, List.setIfInBounds_toArray, List.set_cons_zero, List.set_cons_succ])
            (refine Rl.ready (rs := [5, 7]) (by kernel_rfl) (by simp) ?_; refine Rl.AllReadyL.cons (o := _) rfl rfl (fun K hK => ?_) (Rl.AllReadyL.cons (o := _) rfl rfl (fun K hK => ?_) (Rl.AllReadyL.nil)))
            · rw [if_pos (by rfl)]
              refine apGSo (unhide Ow6) (by simp) g o j cc TK (unhide lt1) ((unhide H1).below (unhide Bw6)) (by have := unhide lt1; have := unhide ld1; (try simp only [List.length_cons, List.length_nil]); omega) (unhide Bw6).size _ _ rfl rfl rfl rfl ?_
              intro b5 c5 w7 ho5 hc5 hg5
              simp only [List.nil_append] at ho5 hc5 ⊢
              have Ow7 := hide ho5
              have Cw7 := hide hc5
              have Bw7 := hide (So.below_own (unhide Bw6) (unhide Ow6) hg5 (Nat.le_refl _) (unhide Bw6).size)
              clear ho5 hc5 hg5 hHeld
              refine hK.out _ _ ⟨sHX ((unhide HX5).below (unhide Bw7)), sHT ((unhide HT5).below (unhide Bw7))⟩ (fun hHeld => ?_)
              clear hK K
              (try simp only [Act.put, List.setIfInBounds_toArray, List.set_cons_zero, List.set_cons_succ])
              (refine Rl.ready (rs := [7]) (by kernel_rfl) (by simp) ?_; refine Rl.AllReadyL.cons (o := _) rfl rfl (fun K hK => ?_) Rl.AllReadyL.nil; go_simp)
              have Bw8 : Hid (Below w5.heap.size w5 (w7.alloc (.cells #[.int .i64 frm, .int .i64 an, .int .i64 til] 41))) := hide ((unhide Bw7).alloc (unhide Bw7).size _)
              have Ow8 := hide ((unhide Ow7).alloc (.cells #[.int .i64 frm, .int .i64 an, .int .i64 til] 41))
              have Xw8 : Hid (So.RM (w7.alloc (.cells #[.int .i64 frm, .int .i64 an, .int .i64 til] 41)) (some ⟨w7.heap.size, 0, none⟩) [(⟨frm, an, til⟩ : So.R)]) := hide (So.rm_new w7 (⟨frm, an, til⟩ : So.R))
              have HHw8 : Hid ((w7.alloc (.cells #[.int .i64 frm, .int .i64 an, .int .i64 til] 41)).heap.size = w7.heap.size + 1) := hide (by simp)
              clear hHeld
              generalize hW_w8 : w7.alloc (.cells #[.int .i64 frm, .int .i64 an, .int .i64 til] 41) = w8 at *
              clear hW_w8
              refine hK.out _ _ ⟨sHX ((unhide HX5).below (unhide Bw8)), sHT ((unhide HT5).below (unhide Bw8))⟩ (fun hHeld => ?_)
              clear hK K
              (try simp only [Act.put, List.setIfInBounds_toArray, List.set_cons_zero, List.set_cons_succ])
              (refine Rl.ready (rs := [8]) (by kernel_rfl) (by simp) ?_; refine Rl.AllReadyL.cons (o := _) rfl rfl (fun K hK => ?_) Rl.AllReadyL.nil; rw [if_pos (by rfl)])
              refine apGSo (unhide Ow8) (by simp) w7.heap.size 0 1 1 [(⟨frm, an, til⟩ : So.R)] rfl (unhide Xw8) (by have := unhide lt1; have := unhide ld1; (try simp only [List.length_cons, List.length_nil]); omega) (unhide Bw8).size _ _ rfl rfl rfl rfl ?_
              intro b8 c8 w8b ho8 hc8 hg8
              obtain ⟨A8, hA8⟩ : ∃ A8, TK ++ [(⟨frm, an, til⟩ : So.R)] = A8 := ⟨_, rfl⟩
              rw [hA8] at ho8 hc8 ⊢
              have hl8 : A8.length ≤ 10 := by rw [← hA8, List.length_append, unhide lt1]; simp; omega
              have HA8 := hide hA8
              clear hA8
              have Ow8b := hide ho8
              have Cw8b := hide hc8
              have Bw8b := hide (So.below_own (unhide Bw8) (unhide Ow8) hg8 (Nat.le_refl _) (unhide Bw8).size)
              clear ho8 hc8 hg8 hHeld
              refine hK.out _ _ ⟨sHX ((unhide HX5).below (unhide Bw8b)), sHT ((unhide HT5).below (unhide Bw8b))⟩ (fun hHeld => ?_)
              clear hK K
              (try simp only [Act.put, List.setIfInBounds_toArray, List.set_cons_zero, List.set_cons_succ])
              (refine Rl.ready (rs := [13]) (by kernel_rfl) (by simp) ?_; refine Rl.AllReadyL.cons (o := _) rfl rfl (fun K hK => ?_) Rl.AllReadyL.nil; rw [if_pos (by rfl)])
              refine apGSo (unhide Ow8b) (by simp) g o1 (k - j) (cc - j) DR (unhide ld1) ((unhide H3).below (unhide Bw8b)) (by have := unhide lt1; have := unhide ld1; (try simp only [List.length_cons, List.length_nil]); omega) (unhide Bw8b).size _ _ rfl rfl rfl rfl ?_
              intro b13 c13 w8c ho13 hc13 hg13
              obtain ⟨AA, hAA⟩ : ∃ AA, A8 ++ DR = AA := ⟨_, rfl⟩
              rw [hAA] at ho13 hc13 ⊢
              have HAA : Hid (AA = withS ss ⟨frm, an, til⟩) := hide (by rw [← hAA, ← unhide HA8]; exact unhide HAW)
              clear hAA
              have Ow8c := hide ho13
              have Cw8c := hide hc13
              have Bw8c := hide (So.below_own (unhide Bw8b) (unhide Ow8b) hg13 (Nat.le_refl _) (unhide Bw8b).size)
              clear ho13 hc13 hg13 hHeld
              refine hK.out _ _ ⟨sHX ((unhide HX5).below (unhide Bw8c)), sHT ((unhide HT5).below (unhide Bw8c))⟩ (fun hHeld => ?_)
              clear hK K
              (try simp only [Act.put, List.setIfInBounds_toArray, List.set_cons_zero, List.set_cons_succ])
              (refine Rl.tk (k := 15) (i := 14) (d := 74) (v := ?_) rfl rfl (by kernel_rfl) (by kernel_rfl) (by kernel_rfl) (by kernel_rfl) rfl (by kernel_rfl) (fun _ _ _ h => h) (by rfl) ?_ (by assumption) ?_; rotate_left; (focus (intro w0 hSw; (try dsimp only at hSw); go_simp; (try with_reducible rfl))); (try simp only [Act.put, List.setIfInBounds_toArray, List.set_cons_zero, List.set_cons_succ]))
              have HT9 := hide ((unhide HT5).below (unhide Bw8c))
              have HE9 := hide ((unhide HE5).below (unhide Bw8c))
              have HL9 := hide (lst_fm rfl (unhide Ow8c)).rm
              obtain ⟨x0, x1⟩ := (unhide HT9).bx
              have f0 := (unhide HT9).free 0
              (refine Rl.ready (rs := [15]) (by kernel_rfl) (by simp) ?_; refine Rl.AllReadyL.last (o := _) rfl (by kernel_rfl) (fun K hK => ?_); go_simp)
              have HTA := hide ((unhide HT9).set0 (.slice (some ⟨b13, 0, none⟩) AA.length c13))
              have HEA := hide (rmT_tv (unhide HE9) (unhide HT9) 0 (.slice (some ⟨b13, 0, none⟩) AA.length c13))
              have HLA := hide (rmS_tv (unhide HL9) (unhide HT9) 0 (.slice (some ⟨b13, 0, none⟩) AA.length c13))
              have HBA : Hid (Below O w5 (w8c.setCell ⟨O, 0, none⟩ (.slice (some ⟨b13, 0, none⟩) AA.length c13))) := hide (((unhide Bw8c).mono (by have := unhide HH4; have := unhide HH5; show O ≤ w5.heap.size; omega)).setCell (p := ⟨O, 0, none⟩) (Nat.le_refl _) (.slice (some ⟨b13, 0, none⟩) AA.length c13))
              have HXA := hide (sHX (((unhide HX5).below (unhide Bw8c)).but0 (Below.heap_setCell w8c ⟨O, 0, none⟩ (.slice (some ⟨b13, 0, none⟩) AA.length c13) _ (by have := unhide HH4; show B5 ≠ O; omega))))
              have HHA : Hid ((w8c.setCell ⟨O, 0, none⟩ (.slice (some ⟨b13, 0, none⟩) AA.length c13)).heap.size = w8c.heap.size) := hide (by simp [World.setCell])
              have hsB := (unhide Bw8c).size
              clear hHeld x0 x1 f0
              generalize hWA : w8c.setCell ⟨O, 0, none⟩ (.slice (some ⟨b13, 0, none⟩) AA.length c13) = w9 at *
              clear hWA
              refine hK.out _ _ (unhide HXA) (fun hHeld => ?_)
              clear hK K
              (try simp only [Act.put, List.setIfInBounds_toArray, List.set_cons_zero, List.set_cons_succ])
              refine Rl.done (by kernel_rfl) (NoPanic.normal ?_) _
              clear hHeld
              go_wp2_with fail
              go_meet
              case rel => exact ⟨rfl, b13, c13, hide (by rw [← unhide HAA]; exact unhide Cw8c), hide (by rw [← unhide HAA]; exact unhide HTA), hide (by rw [← unhide HAA]; exact unhide HLA), HEA, HBA⟩
            · go_simp
              have Bw7 : Hid (Below w5.heap.size w5 (w6.alloc (.cells #[.int .i64 frm, .int .i64 an, .int .i64 til] 41))) := hide ((unhide Bw6).alloc (unhide Bw6).size _)
              have Ow7 := hide ((unhide Ow6).alloc (.cells #[.int .i64 frm, .int .i64 an, .int .i64 til] 41))
              have Xw7 : Hid (So.RM (w6.alloc (.cells #[.int .i64 frm, .int .i64 an, .int .i64 til] 41)) (some ⟨w6.heap.size, 0, none⟩) [(⟨frm, an, til⟩ : So.R)]) := hide (So.rm_new w6 (⟨frm, an, til⟩ : So.R))
              have HHw7 : Hid ((w6.alloc (.cells #[.int .i64 frm, .int .i64 an, .int .i64 til] 41)).heap.size = w6.heap.size + 1) := hide (by simp)
              clear hHeld
              generalize hW_w7 : w6.alloc (.cells #[.int .i64 frm, .int .i64 an, .int .i64 til] 41) = w7 at *
              clear hW_w7
              refine hK.out _ _ ⟨sHX ((unhide HX5).below (unhide Bw7)), sHT ((unhide HT5).below (unhide Bw7))⟩ (fun hHeld => ?_)
              clear hK K
              (try simp only [Act.put, List.setIfInBounds_toArray, List.set_cons_zero, List.set_cons_succ])
              (refine Rl.ready (rs := [5]) (by kernel_rfl) (by simp) ?_; refine Rl.AllReadyL.cons (o := _) rfl rfl (fun K hK => ?_) Rl.AllReadyL.nil; rw [if_pos (by rfl)])
              refine apGSo (unhide Ow7) (by simp) g o j cc TK (unhide lt1) ((unhide H1).below (unhide Bw7)) (by have := unhide lt1; have := unhide ld1; (try simp only [List.length_cons, List.length_nil]); omega) (unhide Bw7).size _ _ rfl rfl rfl rfl ?_
              intro b5 c5 w8 ho5 hc5 hg5
              simp only [List.nil_append] at ho5 hc5 ⊢
              have Ow8 := hide ho5
              have Cw8 := hide hc5
              have Bw8 := hide (So.below_own (unhide Bw7) (unhide Ow7) hg5 (Nat.le_refl _) (unhide Bw7).size)
              have Xw8 := hide (rm_new_grown (unhide Xw7) hg5 (by have := unhide HHw6; simp [Value.ownBlock]; omega))
              clear ho5 hc5 hg5 hHeld
              refine hK.out _ _ ⟨sHX ((unhide HX5).below (unhide Bw8)), sHT ((unhide HT5).below (unhide Bw8))⟩ (fun hHeld => ?_)
              clear hK K
              (try simp only [Act.put, List.setIfInBounds_toArray, List.set_cons_zero, List.set_cons_succ])
              (refine Rl.ready (rs := [8]) (by kernel_rfl) (by simp) ?_; refine Rl.AllReadyL.cons (o := _) rfl rfl (fun K hK => ?_) Rl.AllReadyL.nil; rw [if_pos (by rfl)])
              refine apGSo (unhide Ow8) (by simp) w6.heap.size 0 1 1 [(⟨frm, an, til⟩ : So.R)] rfl (unhide Xw8) (by have := unhide lt1; have := unhide ld1; (try simp only [List.length_cons, List.length_nil]); omega) (unhide Bw8).size _ _ rfl rfl rfl rfl ?_
              intro b8 c8 w8b ho8 hc8 hg8
              obtain ⟨A8, hA8⟩ : ∃ A8, TK ++ [(⟨frm, an, til⟩ : So.R)] = A8 := ⟨_, rfl⟩
              rw [hA8] at ho8 hc8 ⊢
              have hl8 : A8.length ≤ 10 := by rw [← hA8, List.length_append, unhide lt1]; simp; omega
              have HA8 := hide hA8
              clear hA8
              have Ow8b := hide ho8
              have Cw8b := hide hc8
              have Bw8b := hide (So.below_own (unhide Bw8) (unhide Ow8) hg8 (Nat.le_refl _) (unhide Bw8).size)
              clear ho8 hc8 hg8 hHeld
              refine hK.out _ _ ⟨sHX ((unhide HX5).below (unhide Bw8b)), sHT ((unhide HT5).below (unhide Bw8b))⟩ (fun hHeld => ?_)
              clear hK K
              (try simp only [Act.put, List.setIfInBounds_toArray, List.set_cons_zero, List.set_cons_succ])
              (refine Rl.ready (rs := [13]) (by kernel_rfl) (by simp) ?_; refine Rl.AllReadyL.cons (o := _) rfl rfl (fun K hK => ?_) Rl.AllReadyL.nil; rw [if_pos (by rfl)])
              refine apGSo (unhide Ow8b) (by simp) g o1 (k - j) (cc - j) DR (unhide ld1) ((unhide H3).below (unhide Bw8b)) (by have := unhide lt1; have := unhide ld1; (try simp only [List.length_cons, List.length_nil]); omega) (unhide Bw8b).size _ _ rfl rfl rfl rfl ?_
              intro b13 c13 w8c ho13 hc13 hg13
              obtain ⟨AA, hAA⟩ : ∃ AA, A8 ++ DR = AA := ⟨_, rfl⟩
              rw [hAA] at ho13 hc13 ⊢
              have HAA : Hid (AA = withS ss ⟨frm, an, til⟩) := hide (by rw [← hAA, ← unhide HA8]; exact unhide HAW)
              clear hAA
              have Ow8c := hide ho13
              have Cw8c := hide hc13
              have Bw8c := hide (So.below_own (unhide Bw8b) (unhide Ow8b) hg13 (Nat.le_refl _) (unhide Bw8b).size)
              clear ho13 hc13 hg13 hHeld
              refine hK.out _ _ ⟨sHX ((unhide HX5).below (unhide Bw8c)), sHT ((unhide HT5).below (unhide Bw8c))⟩ (fun hHeld => ?_)
              clear hK K
              (try simp only [Act.put, List.setIfInBounds_toArray, List.set_cons_zero, List.set_cons_succ])
              (refine Rl.tk (k := 15) (i := 14) (d := 74) (v := ?_) rfl rfl (by kernel_rfl) (by kernel_rfl) (by kernel_rfl) (by kernel_rfl) rfl (by kernel_rfl) (fun _ _ _ h => h) (by rfl) ?_ (by assumption) ?_; rotate_left; (focus (intro w0 hSw; (try dsimp only at hSw); go_simp; (try with_reducible rfl))); (try simp only [Act.put, List.setIfInBounds_toArray, List.set_cons_zero, List.set_cons_succ]))
              have HT9 := hide ((unhide HT5).below (unhide Bw8c))
              have HE9 := hide ((unhide HE5).below (unhide Bw8c))
              have HL9 := hide (lst_fm rfl (unhide Ow8c)).rm
              obtain ⟨x0, x1⟩ := (unhide HT9).bx
              have f0 := (unhide HT9).free 0
              (refine Rl.ready (rs := [15]) (by kernel_rfl) (by simp) ?_; refine Rl.AllReadyL.last (o := _) rfl (by kernel_rfl) (fun K hK => ?_); go_simp)
              have HTA := hide ((unhide HT9).set0 (.slice (some ⟨b13, 0, none⟩) AA.length c13))
              have HEA := hide (rmT_tv (unhide HE9) (unhide HT9) 0 (.slice (some ⟨b13, 0, none⟩) AA.length c13))
              have HLA := hide (rmS_tv (unhide HL9) (unhide HT9) 0 (.slice (some ⟨b13, 0, none⟩) AA.length c13))
              have HBA : Hid (Below O w5 (w8c.setCell ⟨O, 0, none⟩ (.slice (some ⟨b13, 0, none⟩) AA.length c13))) := hide (((unhide Bw8c).mono (by have := unhide HH4; have := unhide HH5; show O ≤ w5.heap.size; omega)).setCell (p := ⟨O, 0, none⟩) (Nat.le_refl _) (.slice (some ⟨b13, 0, none⟩) AA.length c13))
              have HXA := hide (sHX (((unhide HX5).below (unhide Bw8c)).but0 (Below.heap_setCell w8c ⟨O, 0, none⟩ (.slice (some ⟨b13, 0, none⟩) AA.length c13) _ (by have := unhide HH4; show B5 ≠ O; omega))))
              have HHA : Hid ((w8c.setCell ⟨O, 0, none⟩ (.slice (some ⟨b13, 0, none⟩) AA.length c13)).heap.size = w8c.heap.size) := hide (by simp [World.setCell])
              have hsB := (unhide Bw8c).size
              clear hHeld x0 x1 f0
              generalize hWA : w8c.setCell ⟨O, 0, none⟩ (.slice (some ⟨b13, 0, none⟩) AA.length c13) = w9 at *
              clear hWA
              refine hK.out _ _ (unhide HXA) (fun hHeld => ?_)
              clear hK K
              (try simp only [Act.put, List.setIfInBounds_toArray, List.set_cons_zero, List.set_cons_succ])
              refine Rl.done (by kernel_rfl) (NoPanic.normal ?_) _
              clear hHeld
              go_wp2_with fail
              go_meet
              case rel => exact ⟨rfl, b13, c13, hide (by rw [← unhide HAA]; exact unhide Cw8c), hide (by rw [← unhide HAA]; exact unhide HTA), hide (by rw [← unhide HAA]; exact unhide HLA), HEA, HBA⟩
          · go_simp
            have Bw6 : Hid (Below w5.heap.size w5 ((w5.alloc (.cells #[.int .i64 frm, .int .i64 an, .int .i64 til] 41)).drew)) := hide (((Below.refl _ _).alloc (Nat.le_refl _) _).drew)
            have Xw6 : Hid (So.RM ((w5.alloc (.cells #[.int .i64 frm, .int .i64 an, .int .i64 til] 41)).drew) (some ⟨w5.heap.size, 0, none⟩) [(⟨frm, an, til⟩ : So.R)]) := hide ((So.rm_new w5 (⟨frm, an, til⟩ : So.R)).drew)
            have HHw6 : Hid (((w5.alloc (.cells #[.int .i64 frm, .int .i64 an, .int .i64 til] 41)).drew).heap.size = w5.heap.size + 1) := hide (by show (w5.alloc (.cells #[.int .i64 frm, .int .i64 an, .int .i64 til] 41)).heap.size = _; simp)
            clear hHeld
            generalize hW_w6 : (w5.alloc (.cells #[.int .i64 frm, .int .i64 an, .int .i64 til] 41)).drew = w6 at *
            clear hW_w6
            refine hK.out _ _ ⟨sHX ((unhide HX5).below (unhide Bw6)), sHT ((unhide HT5).below (unhide Bw6))⟩ (fun hHeld => ?_)
            clear hK K
            (try simp only [Act.put, List.setIfInBounds_toArray, List.set_cons_zero, List.set_cons_succ])
            (refine Rl.ready (rs := [0]) (by kernel_rfl) (by simp) ?_; refine Rl.AllReadyL.cons (o := _) rfl rfl (fun K hK => ?_) Rl.AllReadyL.nil; go_simp)
            have Bw7 : Hid (Below w5.heap.size w5 (w6.alloc (.cells #[] 41))) := hide ((unhide Bw6).alloc (unhide Bw6).size _)
            have Ow7 : Hid ((w6.alloc (.cells #[] 41)).ownsRow w5.heap.size 41 3 (.slice (some ⟨w6.heap.size, 0, none⟩) 0 0) ([] : List So.R).length (So.flat [])) := hide (So.own_empty w6 w5.heap.size (unhide Bw6).size)
            have Xw7 := hide ((unhide Xw6).below ((Below.refl _ _).alloc (Nat.le_refl _) (.cells #[] 41)))
            have HHw7 : Hid ((w6.alloc (.cells #[] 41)).heap.size = w6.heap.size + 1) := hide (by simp)
            clear hHeld
            generalize hW_w7 : w6.alloc (.cells #[] 41) = w7 at *
            clear hW_w7
            refine hK.out _ _ ⟨sHX ((unhide HX5).below (unhide Bw7)), sHT ((unhide HT5).below (unhide Bw7))⟩ (fun hHeld => ?_)
            clear hK K
            (try simp only [Act.put, List.setIfInBounds_toArray, List.set_cons_zero, List.set_cons_succ])
            (refine Rl.ready (rs := [5]) (by kernel_rfl) (by simp) ?_; refine Rl.AllReadyL.cons (o := _) rfl rfl (fun K hK => ?_) Rl.AllReadyL.nil; rw [if_pos (by rfl)])
            refine apGSo (unhide Ow7) (by simp) g o j cc TK (unhide lt1) ((unhide H1).below (unhide Bw7)) (by have := unhide lt1; have := unhide ld1; (try simp only [List.length_cons, List.length_nil]); omega) (unhide Bw7).size _ _ rfl rfl rfl rfl ?_
            intro b5 c5 w8 ho5 hc5 hg5
            simp only [List.nil_append] at ho5 hc5 ⊢
            have Ow8 := hide ho5
            have Cw8 := hide hc5
            have Bw8 := hide (So.below_own (unhide Bw7) (unhide Ow7) hg5 (Nat.le_refl _) (unhide Bw7).size)
            have Xw8 := hide (rm_new_grown (unhide Xw7) hg5 (by have := unhide HHw6; simp [Value.ownBlock]; omega))
            clear ho5 hc5 hg5 hHeld
            refine hK.out _ _ ⟨sHX ((unhide HX5).below (unhide Bw8)), sHT ((unhide HT5).below (unhide Bw8))⟩ (fun hHeld => ?_)
            clear hK K
            (try simp only [Act.put, List.setIfInBounds_toArray, List.set_cons_zero, List.set_cons_succ])
            (refine Rl.ready (rs := [8]) (by kernel_rfl) (by simp) ?_; refine Rl.AllReadyL.cons (o := _) rfl rfl (fun K hK => ?_) Rl.AllReadyL.nil; rw [if_pos (by rfl)])
            refine apGSo (unhide Ow8) (by simp) w5.heap.size 0 1 1 [(⟨frm, an, til⟩ : So.R)] rfl (unhide Xw8) (by have := unhide lt1; have := unhide ld1; (try simp only [List.length_cons, List.length_nil]); omega) (unhide Bw8).size _ _ rfl rfl rfl rfl ?_
            intro b8 c8 w8b ho8 hc8 hg8
            obtain ⟨A8, hA8⟩ : ∃ A8, TK ++ [(⟨frm, an, til⟩ : So.R)] = A8 := ⟨_, rfl⟩
            rw [hA8] at ho8 hc8 ⊢
            have hl8 : A8.length ≤ 10 := by rw [← hA8, List.length_append, unhide lt1]; simp; omega
            have HA8 := hide hA8
            clear hA8
            have Ow8b := hide ho8
            have Cw8b := hide hc8
            have Bw8b := hide (So.below_own (unhide Bw8) (unhide Ow8) hg8 (Nat.le_refl _) (unhide Bw8).size)
            clear ho8 hc8 hg8 hHeld
            refine hK.out _ _ ⟨sHX ((unhide HX5).below (unhide Bw8b)), sHT ((unhide HT5).below (unhide Bw8b))⟩ (fun hHeld => ?_)
            clear hK K
            (try simp only [Act.put, List.setIfInBounds_toArray, List.set_cons_zero, List.set_cons_succ])
            (refine Rl.ready (rs := [13]) (by kernel_rfl) (by simp) ?_; refine Rl.AllReadyL.cons (o := _) rfl rfl (fun K hK => ?_) Rl.AllReadyL.nil; rw [if_pos (by rfl)])
            refine apGSo (unhide Ow8b) (by simp) g o1 (k - j) (cc - j) DR (unhide ld1) ((unhide H3).below (unhide Bw8b)) (by have := unhide lt1; have := unhide ld1; (try simp only [List.length_cons, List.length_nil]); omega) (unhide Bw8b).size _ _ rfl rfl rfl rfl ?_
            intro b13 c13 w8c ho13 hc13 hg13
            obtain ⟨AA, hAA⟩ : ∃ AA, A8 ++ DR = AA := ⟨_, rfl⟩
            rw [hAA] at ho13 hc13 ⊢
            have HAA : Hid (AA = withS ss ⟨frm, an, til⟩) := hide (by rw [← hAA, ← unhide HA8]; exact unhide HAW)
            clear hAA
            have Ow8c := hide ho13
            have Cw8c := hide hc13
            have Bw8c := hide (So.below_own (unhide Bw8b) (unhide Ow8b) hg13 (Nat.le_refl _) (unhide Bw8b).size)
            clear ho13 hc13 hg13 hHeld
            refine hK.out _ _ ⟨sHX ((unhide HX5).below (unhide Bw8c)), sHT ((unhide HT5).below (unhide Bw8c))⟩ (fun hHeld => ?_)
            clear hK K
            (try simp only [Act.put, List.setIfInBounds_toArray, List.set_cons_zero, List.set_cons_succ])
            (refine Rl.tk (k := 15) (i := 14) (d := 74) (v := ?_) rfl rfl (by kernel_rfl) (by kernel_rfl) (by kernel_rfl) (by kernel_rfl) rfl (by kernel_rfl) (fun _ _ _ h => h) (by rfl) ?_ (by assumption) ?_; rotate_left; (focus (intro w0 hSw; (try dsimp only at hSw); go_simp; (try with_reducible rfl))); (try simp only [Act.put, List.setIfInBounds_toArray, List.set_cons_zero, List.set_cons_succ]))
            have HT9 := hide ((unhide HT5).below (unhide Bw8c))
            have HE9 := hide ((unhide HE5).below (unhide Bw8c))
            have HL9 := hide (lst_fm rfl (unhide Ow8c)).rm
            obtain ⟨x0, x1⟩ := (unhide HT9).bx
            have f0 := (unhide HT9).free 0
            (refine Rl.ready (rs := [15]) (by kernel_rfl) (by simp) ?_; refine Rl.AllReadyL.last (o := _) rfl (by kernel_rfl) (fun K hK => ?_); go_simp)
            have HTA := hide ((unhide HT9).set0 (.slice (some ⟨b13, 0, none⟩) AA.length c13))
            have HEA := hide (rmT_tv (unhide HE9) (unhide HT9) 0 (.slice (some ⟨b13, 0, none⟩) AA.length c13))
            have HLA := hide (rmS_tv (unhide HL9) (unhide HT9) 0 (.slice (some ⟨b13, 0, none⟩) AA.length c13))
            have HBA : Hid (Below O w5 (w8c.setCell ⟨O, 0, none⟩ (.slice (some ⟨b13, 0, none⟩) AA.length c13))) := hide (((unhide Bw8c).mono (by have := unhide HH4; have := unhide HH5; show O ≤ w5.heap.size; omega)).setCell (p := ⟨O, 0, none⟩) (Nat.le_refl _) (.slice (some ⟨b13, 0, none⟩) AA.length c13))
            have HXA := hide (sHX (((unhide HX5).below (unhide Bw8c)).but0 (Below.heap_setCell w8c ⟨O, 0, none⟩ (.slice (some ⟨b13, 0, none⟩) AA.length c13) _ (by have := unhide HH4; show B5 ≠ O; omega))))
            have HHA : Hid ((w8c.setCell ⟨O, 0, none⟩ (.slice (some ⟨b13, 0, none⟩) AA.length c13)).heap.size = w8c.heap.size) := hide (by simp [World.setCell])
            have hsB := (unhide Bw8c).size
            clear hHeld x0 x1 f0
            generalize hWA : w8c.setCell ⟨O, 0, none⟩ (.slice (some ⟨b13, 0, none⟩) AA.length c13) = w9 at *
            clear hWA
            refine hK.out _ _ (unhide HXA) (fun hHeld => ?_)
            clear hK K
            (try simp only [Act.put, List.setIfInBounds_toArray, List.set_cons_zero, List.set_cons_succ])
            refine Rl.done (by kernel_rfl) (NoPanic.normal ?_) _
            clear hHeld
            go_wp2_with fail
            go_meet
            case rel => exact ⟨rfl, b13, c13, hide (by rw [← unhide HAA]; exact unhide Cw8c), hide (by rw [← unhide HAA]; exact unhide HTA), hide (by rw [← unhide HAA]; exact unhide HLA), HEA, HBA⟩
        case rest =>
          obtain ⟨rfl, bS, cS, hcS, htS, hrS, hrE, hbO⟩ := hcut
          rename World => w9
          have HB9 := hide ((unhide HB5).trans ((unhide hbO).mono (by omega)))
          have HTW := hide (learnE_two (unhide HTF) hf htb (unhide HAL))
          obtain ⟨WA, hWA⟩ : ∃ WA, withS ss ⟨frm, an, til⟩ = WA := ⟨_, rfl⟩
          have HWA := hide hWA
          rw [hWA] at hcS htS hrS
          clear hWA
          have hs9 := (unhide hbO).size
          obtain ⟨N, hN⟩ : ∃ N, ns.length = N := ⟨_, rfl⟩
          have HNN := hide hN
          rw [hN] at hn8 HY5 HNE
          have HY9 := hide ((unhide HY5).under (unhide hbO) (by omega))
          obtain ⟨y0, y1, y2⟩ := unhide HY9
          clear hN
          go_wp2_with fail
          clear y0 y1 y2
          go_loopw [15] (fun i wr => ∃ t : Nat, t ≤ N ∧ i = .int .i64 t ∧ ∃ hh pp dd : Nat, Hid (TV wr O (.slice (some ⟨bS, 0, none⟩) WA.length cS) (.slice (some ⟨hh, pp, none⟩) (learnE EF frm til ns t).length dd)) ∧ Hid (Tu.RM wr (some ⟨hh, pp, none⟩) (learnE EF frm til ns t)) ∧ Hid (So.RM wr (some ⟨bS, 0, none⟩) WA) ∧ Hid (Below O w5 wr)) (fun i _ => N - (intOf i).toNat)
          case atStart => exact ⟨0, by omega, rfl, h, p, d, htS, hrE, hrS, hbO⟩
          case round =>
            clear htS hrE hrS hbO HB9 HY9 hs9
            obtain ⟨t, ht, rfl, hh, pp, dd, htv, hre, hrs, hbl⟩ := hrel
            have HBw := hide ((unhide HB5).trans ((unhide hbl).mono (by omega)))
            have HYr := hide ((unhide HY5).under (unhide hbl) (by omega))
            have hbs := (unhide hbl).size
            by_cases hlt2 : (t : Int) < (N : Int)
            · have k2 : (0 : Int) ≤ (t : Int) := by omega
              have hlen2 : t < ns.length := by rw [unhide HNN]; omega
              obtain ⟨gn, offn, rfl⟩ := (unhide HN0).form (by omega)
              have hA := ((unhide HN0).below (unhide HBw)).at hlen2
              have HLY : Hid (((ns.getD t Ed.R.zero).ad != frm) = true → (learnE EF frm til ns (t + 1)) = putL (learnE EF frm til ns t) (tupE frm til (ns.getD t Ed.R.zero))) := hide (fun h => learnE_yes hlen2 h)
              have HLZ : Hid (((ns.getD t Ed.R.zero).ad != frm) = false → (learnE EF frm til ns (t + 1)) = (learnE EF frm til ns t)) := hide (fun h => learnE_no hlen2 h)
              have had := Av.ok_ad (Ri.all_ok (unhide HAL) hlen2)
              have HT1 := hide (unhide HTW t (by omega))
              have hl1 := two_len (unhide HT1)
              obtain ⟨m, hmd⟩ : ∃ m, ns.getD t Ed.R.zero = m := ⟨_, rfl⟩
              rw [hmd] at hA HLY HLZ had
              clear hmd
              obtain ⟨ad, mt⟩ := m
              obtain ⟨c0, c1⟩ := hA
              dsimp only at c0 c1 had HLY HLZ
              have hal : Below wr.heap.size wr (wr.alloc (.cells #[.int .i64 ad, .int .i64 mt] 47)) := (Below.refl _ _).alloc (Nat.le_refl _) _
              have HTA := hide ((unhide htv).below hal)
              have HEA := hide ((unhide hre).below hal)
              have HSA := hide ((unhide hrs).below hal)
              have HBA := hide ((unhide hbl).trans (hal.mono (by have := (unhide htv).lt; omega)))
              have HYA := hide ((unhide HYr).below hal)
              have HNA : Hid (Ed.At (wr.alloc (.cells #[.int .i64 ad, .int .i64 mt] 47)) wr.heap.size 0 ⟨ad, mt⟩) := hide (by refine ⟨?_, ?_⟩ <;> simp [World.cell?_alloc_new])
              clear hal
              obtain ⟨y0, y1, y2⟩ := unhide HYr
              cases hnew : (ad != frm)
              · have E1 := unhide HLZ hnew
                rw [← E1] at HTA HEA
                clear E1 HLY HLZ
                go_wp2_with fail
                go_roundw
                case rel => exact ⟨t + 1, by omega, by go_num, hh, pp, dd, HTA, HEA, HSA, HBA⟩
                case measure => simp [intOf]; omega
              · have HE1 := hide (unhide HLY hnew)
                clear HLY HLZ
                have HNP := hide (put_ne (learnE EF frm til ns t) (tupE frm til ⟨ad, mt⟩))
                obtain ⟨L, hL⟩ : ∃ L, (learnE EF frm til ns t) = L := ⟨_, rfl⟩
                rw [hL] at HE1 HT1 hl1 HTA HEA htv hre HNP
                clear hL
                go_wp2_with fail
                generalize hW0 : wr.alloc (.cells #[.int .i64 ad, .int .i64 mt] 47) = W0 at *
                clear hW0 c0 c1 y0 y1 y2
                refine wp_region_noPanic ?_
                refine Rl.drew (S := fun w' => (Ed.At w' wr.heap.size 0 ⟨ad, mt⟩ ∧ Bx3 w' (w.heap.size + 1) an valid (.slice (some ⟨gn, offn, none⟩) N cn)) ∧ w'.cell? ⟨wr.heap.size, 0, none⟩ = some (.int .i64 ad) ∧ w'.cell? ⟨wr.heap.size, 1, none⟩ = some (.int .i64 mt) ∧ w'.cell? ⟨w.heap.size + 1, 1, none⟩ = some (.int .i64 valid)) (T := fun w' => TV w' O (.slice (some ⟨bS, 0, none⟩) WA.length cS) (.slice (some ⟨hh, pp, none⟩) L.length dd) ∧ w'.cell? ⟨O, 0, none⟩ = some (.slice (some ⟨bS, 0, none⟩) WA.length cS) ∧ w'.cell? ⟨O, 1, none⟩ = some (.slice (some ⟨hh, pp, none⟩) L.length dd)) 18 (by kernel_rfl) ⟨sHE (unhide HNA).drew (unhide HYA).drew, sHT (unhide HTA).drew⟩ (fun hHeld => ?_)

                (refine Rl.tk (k := 18) (i := 0) (d := 92) (v := ?_) rfl rfl (by kernel_rfl) (by kernel_rfl) (by kernel_rfl) (by kernel_rfl) rfl (by kernel_rfl) (fun _ _ _ h => h) (by rfl) ?_ (by assumption) ?_; rotate_left; (focus (intro w0 hSw; (try dsimp only at hSw); go_simp; (try with_reducible rfl))); (try simp only [Act.put, List.setIfInBounds_toArray, List.set_cons_zero, List.set_cons_succ]))
                (refine Rl.tk (k := 18) (i := 1) (d := 93) (v := ?_) rfl rfl (by kernel_rfl) (by kernel_rfl) (by kernel_rfl) (by kernel_rfl) rfl (by kernel_rfl) (fun _ _ _ h => h) (by rfl) ?_ (by assumption) ?_; rotate_left; (focus (intro w0 hSw; (try dsimp only at hSw); go_simp; (try with_reducible rfl))); (try simp only [Act.put, List.setIfInBounds_toArray, List.set_cons_zero, List.set_cons_succ]))
                (refine Rl.tk (k := 18) (i := 2) (d := 94) (v := ?_) rfl rfl (by kernel_rfl) (by kernel_rfl) (by kernel_rfl) (by kernel_rfl) rfl (by kernel_rfl) (fun _ _ _ h => h) (by rfl) ?_ (by assumption) ?_; rotate_left; (focus (intro w0 hSw; (try dsimp only at hSw); go_simp; (try with_reducible rfl))); (try simp only [Act.put, List.setIfInBounds_toArray, List.set_cons_zero, List.set_cons_succ]))
                (refine Rl.tk (k := 18) (i := 3) (d := 95) (v := ?_) rfl rfl (by kernel_rfl) (by kernel_rfl) (by kernel_rfl) (by kernel_rfl) rfl (by kernel_rfl) (fun _ _ _ h => h) (by rfl) ?_ (by assumption) ?_; rotate_left; (focus (intro w0 hSw; (try dsimp only at hSw); go_simp; (try with_reducible rfl))); (try simp only [Act.put, List.setIfInBounds_toArray, List.set_cons_zero, List.set_cons_succ]))
                (refine Rl.tk (k := 18) (i := 4) (d := 96) (v := ?_) rfl rfl (by kernel_rfl) (by kernel_rfl) (by kernel_rfl) (by kernel_rfl) rfl (by kernel_rfl) (fun _ _ _ h => h) (by rfl) ?_ (by assumption) ?_; rotate_left; (focus (intro w0 hSw; (try dsimp only at hSw); go_simp; (try with_reducible rfl))); (try simp only [Act.put, List.setIfInBounds_toArray, List.set_cons_zero, List.set_cons_succ]))
                (refine Rl.tk (k := 18) (i := 6) (d := 98) (v := ?_) rfl rfl (by kernel_rfl) (by kernel_rfl) (by kernel_rfl) (by kernel_rfl) rfl (by kernel_rfl) (fun _ _ _ h => h) (by rfl) ?_ (by assumption) ?_; rotate_left; (focus (intro w0 hSw; (try dsimp only at hSw); go_simp; (try with_reducible rfl))); (try simp only [Act.put, List.setIfInBounds_toArray, List.set_cons_zero, List.set_cons_succ]))
                (refine Rl.tk (k := 18) (i := 7) (d := 99) (v := ?_) rfl rfl (by kernel_rfl) (by kernel_rfl) (by kernel_rfl) (by kernel_rfl) rfl (by kernel_rfl) (fun _ _ _ h => h) (by rfl) ?_ (by assumption) ?_; rotate_left; (focus (intro w0 hSw; (try dsimp only at hSw); go_simp; (try with_reducible rfl))); (try simp only [Act.put, List.setIfInBounds_toArray, List.set_cons_zero, List.set_cons_succ]))
                (refine Rl.tk (k := 18) (i := 8) (d := 100) (v := ?_) rfl rfl (by kernel_rfl) (by kernel_rfl) (by kernel_rfl) (by kernel_rfl) rfl (by kernel_rfl) (fun _ _ _ h => h) (by rfl) ?_ (by assumption) ?_; rotate_left; (focus (intro w0 hSw; (try dsimp only at hSw); go_simp; (try with_reducible rfl))); (try simp only [Act.put, List.setIfInBounds_toArray, List.set_cons_zero, List.set_cons_succ]))
                (refine Rl.tk (k := 18) (i := 9) (d := 101) (v := .int .i64 til) rfl rfl (by kernel_rfl) (by kernel_rfl) (by kernel_rfl) (by kernel_rfl) rfl (by kernel_rfl) (fun _ _ _ h => h) (by rfl) ?_ (by assumption) ?_; (focus (intro w0 hSw; (try dsimp only at hSw); go_simp)); (try simp only [Act.put, List.setIfInBounds_toArray, List.set_cons_zero, List.set_cons_succ]))
                (refine Rl.tk (k := 18) (i := 10) (d := 102) (v := ?_) rfl rfl (by kernel_rfl) (by kernel_rfl) (by kernel_rfl) (by kernel_rfl) rfl (by kernel_rfl) (fun _ _ _ h => h) (by rfl) ?_ (by assumption) ?_; rotate_left; (focus (intro w0 hSw; (try dsimp only at hSw); go_simp; (try with_reducible rfl))); (try simp only [Act.put, List.setIfInBounds_toArray, List.set_cons_zero, List.set_cons_succ]))
                (refine Rl.tk (k := 18) (i := 11) (d := 103) (v := ?_) rfl rfl (by kernel_rfl) (by kernel_rfl) (by kernel_rfl) (by kernel_rfl) rfl (by kernel_rfl) (fun _ _ _ h => h) (by rfl) ?_ (by assumption) ?_; rotate_left; (focus (intro w0 hSw; (try dsimp only at hSw); go_simp; (try with_reducible rfl))); (try simp only [Act.put, List.setIfInBounds_toArray, List.set_cons_zero, List.set_cons_succ]))
                (refine Rl.ready (rs := [5]) (by kernel_rfl) (by simp) ?_; refine Rl.AllReadyL.cons (o := _) rfl rfl (fun K hK => ?_) Rl.AllReadyL.nil; go_simp)
                refine (l07KeyT frm ad _ (by omega) (by omega) (by omega) (by omega)).mono ?_
                rintro e w2' ⟨rfl, hw2⟩
                have b2 : Below W0.heap.size W0 w2' := by rw [hw2]; exact (Below.refl _ _).drew
                have HTB := hide ((unhide HTA).below b2)
                have HEB := hide ((unhide HEA).below b2)
                have HSB := hide ((unhide HSA).below b2)
                have HBB := hide ((unhide HBA).trans (b2.mono (Nat.le_of_lt (unhide HTA).lt)))
                have HYB := hide ((unhide HYA).below b2)
                have HNB' := hide ((unhide HNA).below b2)
                clear b2 hw2 hHeld
                refine hK.out _ _ ⟨sHE (unhide HNB') (unhide HYB), sHT (unhide HTB)⟩ (fun hHeld => ?_)
                clear hK K
                (try simp only [Act.put, List.setIfInBounds_toArray, List.set_cons_zero, List.set_cons_succ])
                (refine Rl.tk (k := 18) (i := 12) (d := 104) (v := ?_) rfl rfl (by kernel_rfl) (by kernel_rfl) (by kernel_rfl) (by kernel_rfl) rfl (by kernel_rfl) (fun _ _ _ h => h) (by rfl) ?_ (by assumption) ?_; rotate_left; (focus (intro w0 hSw; (try dsimp only at hSw); go_simp; (try with_reducible rfl))); (try simp only [Act.put, List.setIfInBounds_toArray, List.set_cons_zero, List.set_cons_succ]))
                (refine Rl.ready (rs := [13]) (by kernel_rfl) (by simp) ?_; refine Rl.AllReadyL.cons (o := _) rfl rfl (fun K hK => ?_) Rl.AllReadyL.nil; go_simp)
                refine (l03PutC hh pp L dd (100 * frm + ad) til mt _ (by omega) (unhide HEB)).mono ?_
                rintro e w3' ⟨v3, rfl, b3, hl3, hs3⟩
                have HTC := hide ((unhide HTB).below b3)
                have HSC := hide ((unhide HSB).below b3)
                have HBC := hide ((unhide HBB).trans (b3.mono (Nat.le_of_lt (unhide HTB).lt)))
                have HYC := hide ((unhide HYB).below b3)
                have HNC := hide ((unhide HNB').below b3)
                have hl3' : LstV w3' v3 (learnE EF frm til ns (t + 1)) w2'.heap.size w3'.heap.size := by rw [unhide HE1]; exact hl3
                obtain ⟨a3, c3, rfl, hl4⟩ := hl3'
                have hpos : 0 < (learnE EF frm til ns (t + 1)).length := by rw [unhide HE1]; exact unhide HNP
                obtain ⟨g3, rfl⟩ : ∃ g3, a3 = some ⟨g3, 0, none⟩ := by
                  rcases hl4 with h | ⟨g3, e3, _⟩
                  · rw [h] at hpos; simp at hpos
                  · exact ⟨g3, e3⟩
                have HEC := hide hl4.rm
                clear b3 hl3 hl4 hs3 hpos hHeld
                generalize putC L ⟨100 * frm + ad, til, mt⟩ = pc
                refine hK.out _ _ ⟨sHE (unhide HNC) (unhide HYC), sHT (unhide HTC)⟩ (fun hHeld => ?_)
                clear hK K
                (try simp only [Act.put, List.setIfInBounds_toArray, List.set_cons_zero, List.set_cons_succ])
                (refine Rl.tk (k := 18) (i := 14) (d := 91) (v := ?_) rfl rfl (by kernel_rfl) (by kernel_rfl) (by kernel_rfl) (by kernel_rfl) rfl (by kernel_rfl) (fun _ _ _ h => h) (by rfl) ?_ (by assumption) ?_; rotate_left; (focus (intro w0 hSw; (try dsimp only at hSw); go_simp; (try with_reducible rfl))); (try simp only [Act.put, List.setIfInBounds_toArray, List.set_cons_zero, List.set_cons_succ]))
                (refine Rl.tk (k := 18) (i := 15) (d := 106) (v := ?_) rfl rfl (by kernel_rfl) (by kernel_rfl) (by kernel_rfl) (by kernel_rfl) rfl (by kernel_rfl) (fun _ _ _ h => h) (by rfl) ?_ (by assumption) ?_; rotate_left; (focus (intro w0 hSw; (try dsimp only at hSw); go_simp; (try with_reducible rfl))); (try simp only [Act.put, List.setIfInBounds_toArray, List.set_cons_zero, List.set_cons_succ]))
                (refine Rl.tkS (k := 18) (i := 16) (d := 107) (v := ?_) rfl rfl (by kernel_rfl) (by kernel_rfl) (by kernel_rfl) rfl (fun _ _ _ h => h) (by rfl) ?_ (by assumption) ?_; rotate_left; (focus (intro w0 hSw; (try dsimp only at hSw); go_simp; (try with_reducible rfl))); (try simp only [Act.put, List.setIfInBounds_toArray, List.set_cons_zero, List.set_cons_succ]))
                (refine Rl.tk (k := 18) (i := 17) (d := 108) (v := ?_) rfl rfl (by kernel_rfl) (by kernel_rfl) (by kernel_rfl) (by kernel_rfl) rfl (by kernel_rfl) (fun _ _ _ h => h) (by rfl) ?_ (by assumption) ?_; rotate_left; (focus (intro w0 hSw; (try dsimp only at hSw); go_simp; (try with_reducible rfl))); (try simp only [Act.put, List.setIfInBounds_toArray, List.set_cons_zero, List.set_cons_succ]))
                obtain ⟨x0, x1⟩ := (unhide HTC).bx
                have f0 := (unhide HTC).free 1
                (refine Rl.ready (rs := [18]) (by kernel_rfl) (by simp) ?_; refine Rl.AllReadyL.last (o := _) rfl (by kernel_rfl) (fun K hK => ?_); go_simp)
                have HTD := hide ((unhide HTC).set1 (.slice (some ⟨g3, 0, none⟩) (learnE EF frm til ns (t + 1)).length c3))
                have HED := hide (rmT_tv (unhide HEC) (unhide HTC) 1 (.slice (some ⟨g3, 0, none⟩) (learnE EF frm til ns (t + 1)).length c3))
                have HSD := hide (rmS_tv (unhide HSC) (unhide HTC) 1 (.slice (some ⟨g3, 0, none⟩) (learnE EF frm til ns (t + 1)).length c3))
                have HBD := hide ((unhide HBC).setCell (p := ⟨O, 1, none⟩) (Nat.le_refl _) (.slice (some ⟨g3, 0, none⟩) (learnE EF frm til ns (t + 1)).length c3))
                have HYD := hide ((unhide HYC).but (Below.heap_setCell w3' ⟨O, 1, none⟩ (.slice (some ⟨g3, 0, none⟩) (learnE EF frm til ns (t + 1)).length c3) _ (by show w.heap.size + 1 ≠ O; omega)))
                have HND := hide (ed_but2 (unhide HNC) (Below.heap_setCell w3' ⟨O, 1, none⟩ (.slice (some ⟨g3, 0, none⟩) (learnE EF frm til ns (t + 1)).length c3) _ (by show wr.heap.size ≠ O; have := (unhide htv).lt; omega)))
                clear hHeld x0 x1 f0
                generalize hWD : w3'.setCell ⟨O, 1, none⟩ (.slice (some ⟨g3, 0, none⟩) (learnE EF frm til ns (t + 1)).length c3) = w4' at *
                clear hWD
                refine hK.out _ _ (sHE (unhide HND) (unhide HYD)) (fun hHeld => ?_)
                clear hK K
                (try simp only [Act.put, List.setIfInBounds_toArray, List.set_cons_zero, List.set_cons_succ])
                refine Rl.done (by kernel_rfl) (NoPanic.normal ?_) _
                clear hHeld
                go_wp2_with fail
                go_roundw
                case rel => exact ⟨t + 1, by omega, by go_num, g3, 0, c3, HTD, HED, HSD, HBD⟩
                case measure => simp [intOf]; omega
            · obtain rfl : N = t := by omega
              have HZr := hide ((unhide HZ5).under (unhide hbl) (by omega))
              obtain ⟨E9, hE9⟩ : ∃ E9, learnE EF frm til ns N = E9 := ⟨_, rfl⟩
              have HE9 : Hid (nowE es frm til ns = E9) := hide ((unhide HNE).trans hE9)
              rw [hE9] at htv hre
              clear hE9
              obtain ⟨x0, x1⟩ := (unhide htv).bx
              obtain ⟨r0, r1⟩ := (unhide HZr).bx
              have q0 := (unhide HZr).free 0
              have q1 := (unhide HZr).free 1
              have hne2 : ¬ O = w.heap.size + 2 := by omega
              have hne3 : ¬ w.heap.size + 2 = O := by omega
              have HLS := hide (rmS_tv (rmS_tv (unhide hrs) (unhide HZr) 0 (.slice (some ⟨bS, 0, none⟩) WA.length cS)) ((unhide HZr).set0 _) 1 (.slice (some ⟨hh, pp, none⟩) E9.length dd))
              have HLE := hide (rmT_tv (rmT_tv (unhide hre) (unhide HZr) 0 (.slice (some ⟨bS, 0, none⟩) WA.length cS)) ((unhide HZr).set0 _) 1 (.slice (some ⟨hh, pp, none⟩) E9.length dd))
              have HBF := hide (((unhide HBw).setCell (p := ⟨w.heap.size + 2, 0, none⟩) (by show w.heap.size ≤ w.heap.size + 2; omega) (.slice (some ⟨bS, 0, none⟩) WA.length cS)).setCell (p := ⟨w.heap.size + 2, 1, none⟩) (by show w.heap.size ≤ w.heap.size + 2; omega) (.slice (some ⟨hh, pp, none⟩) E9.length dd))
              obtain ⟨y0, y1, y2⟩ := unhide HYr
              go_wp2_with fail
              refine bodyPost_ret (v := .tuple #[.agg #[(.slice (some ⟨bS, 0, none⟩) WA.length cS), .slice (some ⟨hh, pp, none⟩) E9.length dd], .int .i64 0]) (by simp [results, Try.results36, go_sem, r0, r1, x0, x1]) rfl ⟨_, rfl, unhide HBF, ?_⟩
              rw [unhide HWA, unhide HE9]
              exact ⟨bS, 0, cS, hh, pp, dd, rfl, unhide hcS, unhide HLS, unhide HLE⟩
  cases nb
  · rw [show (true && false) = false from rfl]
    simp only [Bool.false_eq_true, if_false]
    have hqb := unhide HQB rfl

    go_enter Try.func36, Try.ntmps36
    go_wp2_with fail
    generalize hW : (((w.alloc (.cells #[.slice (some ⟨g0, o0, none⟩) ss.length ca, .slice (some ⟨h0, p0, none⟩) es.length cb] 26)).alloc (.cells #[.int .i64 an, .int .i64 valid, .slice c ns.length cn] 30)).alloc (.cells #[.slice none 0 0, .slice none 0 0] 26)) = W3 at *
    clear hW
    refine (l09Find _ ss ca _ frm _ (by omega) (unhide HR)).mono ?_
    rintro e w1 ⟨rfl, b1⟩
    rw [unhide HEE, unhide HQV]
    have HB1 := hide ((unhide HA).trans (b1.mono (unhide HA).size))
    have HX1 := hide ((unhide HX).below b1)
    have HY1 := hide ((unhide HY).below b1)
    have HZ1 := hide ((unhide HZ).below b1)
    have HR1 := hide ((unhide HR).below b1)
    have HE1 := hide ((unhide HE).below b1)
    have HN1 := hide ((unhide HN).below b1)
    clear b1 HX HY HZ HR HE HN HA
    have hal : Below w1.heap.size w1 (w1.alloc (.cells #[.int .i64 qa, .int .i64 qn, .int .i64 qt] 41)) := (Below.refl _ _).alloc (Nat.le_refl _) _
    have HB2 := hide ((unhide HB1).trans (hal.mono (unhide HB1).size))
    have HX2 := hide ((unhide HX1).below hal)
    have HY2 := hide ((unhide HY1).below hal)
    have HZ2 := hide ((unhide HZ1).below hal)
    have HR2 := hide ((unhide HR1).below hal)
    have HE2 := hide ((unhide HE1).below hal)
    have HN2 := hide ((unhide HN1).below hal)
    have hx1 := (unhide HX1).lt
    have hy1 := (unhide HY1).lt
    have hz1 := (unhide HZ1).lt
    obtain ⟨z0, z1⟩ := unhide HX1
    obtain ⟨y0, y1, y2⟩ := unhide HY1
    clear hal
    go_wp2_with fail

    clear z0 z1 y0 y1 y2
    refine (Mtr.l02Newer qn an ⟨by omega, by omega⟩ kan _).mono ?_
    rintro e w' ⟨rfl, hw'⟩
    rw [hw', unhide HNB]
    clear hw' w'

    generalize hW2 : w1.alloc (.cells #[.int .i64 qa, .int .i64 qn, .int .i64 qt] 41) = w2 at *
    clear hW2
    obtain ⟨z0, z1⟩ := unhide HX2
    go_wp2_with fail
    clear z0 z1
    refine (l09Without _ ss _ ca _ es _ cb frm _ rfl rfl (by omega) (unhide HT2) (unhide HR2) (unhide HE2)).mono ?_
    rintro e w3 ⟨v3, rfl, b3, rd3⟩
    have HWN := hide (with_ne (unhide HUP) ⟨frm, an, til⟩)
    dsimp only at HWN
    have HUF := hide (up_filter (unhide HUP) (neS frm))
    have hSl := List.length_filter_le (neS frm) ss
    have HTF := hide (two_filter (unhide HT2) (keepF frm))
    have HNE : Hid (nowE es frm til ns = learnE (es.filter (keepF frm)) frm til ns ns.length) := hide rfl
    generalize hSf : ss.filter (neS frm) = SF at *
    generalize hEf : es.filter (keepF frm) = EF at *
    clear hSf hEf
    obtain ⟨g, o, cc, h, p, d, rfl, hcc, rS3, rE3⟩ := rd3
    have HB3 := hide ((unhide HB2).trans (b3.mono (unhide HB2).size))
    have HY3 := hide ((unhide HY2).below b3)
    have HZ3 := hide ((unhide HZ2).below b3)
    have HN3 := hide ((unhide HN2).below b3)
    have HS3 := hide rS3
    have HE3 := hide rE3
    clear b3 rS3 rE3 HB2 HX2 HY2 HZ2 HR2 HE2 HN2 HB1 HX1 HY1 HZ1 HR1 HE1 HN1
    have hal : Below w3.heap.size w3 (w3.alloc (.cells #[.slice (some ⟨g, o, none⟩) SF.length cc, .slice (some ⟨h, p, none⟩) EF.length d] 26)) := (Below.refl _ _).alloc (Nat.le_refl _) _
    have HT4 := hide (tv_new w3 (.slice (some ⟨g, o, none⟩) SF.length cc) (.slice (some ⟨h, p, none⟩) EF.length d))
    have HB4 := hide ((unhide HB3).trans (hal.mono (unhide HB3).size))
    have HY4 := hide ((unhide HY3).below hal)
    have HZ4 := hide ((unhide HZ3).below hal)
    have HN4 := hide ((unhide HN3).below hal)
    have HS4 := hide ((unhide HS3).below hal)
    have HE4 := hide ((unhide HE3).below hal)
    have hz3 := (unhide HZ3).lt
    clear hal HY3 HZ3 HN3 HS3 HE3
    obtain ⟨O, hO⟩ : ∃ O, w3.heap.size = O := ⟨_, rfl⟩
    go_wp2_with fail
    have HH4 : Hid ((w3.alloc (.cells #[.slice (some ⟨g, o, none⟩) SF.length cc, .slice (some ⟨h, p, none⟩) EF.length d] 26)).heap.size = w3.heap.size + 1) := hide (by simp)
    rw [hO] at HT4 HH4 hz3
    generalize hW4 : w3.alloc (.cells #[.slice (some ⟨g, o, none⟩) SF.length cc, .slice (some ⟨h, p, none⟩) EF.length d] 26) = w4 at *
    clear hW4 hO
    obtain ⟨k, hk⟩ : ∃ k, SF.length = k := ⟨_, rfl⟩
    have HK := hide hk
    rw [hk] at HT4 hcc hSl
    go_loopw [13] (fun i wr => w4 = wr ∧ ∃ j : Nat, j ≤ k ∧ i = .int .i64 j ∧ Hid (∀ i, i < j → atS frm (SF.getD i So.R.zero) = false)) (fun i _ => k - (intOf i).toNat)
    case atStart => exact ⟨rfl, 0, by omega, rfl, hide (fun i hi => by omega)⟩
    case round =>
      obtain ⟨rfl, j, hj, rfl, hat⟩ := hrel
      by_cases hlt : (j : Int) < (k : Int)
      · have k0 : (0 : Int) ≤ (j : Int) := by omega
        have hlen : j < SF.length := by omega
        by_cases hlf : (SF.getD j So.R.zero).ad < frm
        · have HST : Hid (∀ i, i < j + 1 → atS frm (SF.getD i So.R.zero) = false) := hide (fun i hi => by
            by_cases e : i = j
            · subst e; unfold atS; exact decide_eq_false (by omega)
            · exact unhide hat i (by omega))
          obtain ⟨c0, c1, c2⟩ := (unhide HS4).at hlen
          obtain ⟨x0, x1⟩ := (unhide HT4).bx
          generalize SF.getD j So.R.zero = m at *
          clear hk
          go_wp2_with fail
          go_roundw
          case rel => exact ⟨by first | trivial | rfl, j + 1, by omega, by go_num, HST⟩
          case measure => simp [intOf]; omega
        · have HPL : Hid (placeS SF frm = j) := hide (Pl.place_of So.R.zero _ SF j (by omega) (unhide hat) (fun _ => by unfold atS; exact decide_eq_true (by omega)))
          obtain ⟨c0, c1, c2⟩ := (unhide HS4).at hlen
          obtain ⟨x0, x1⟩ := (unhide HT4).bx
          obtain ⟨y0, y1, y2⟩ := unhide HY4
          have hy4 := (unhide HY4).lt
          generalize SF.getD j So.R.zero = m at *
          clear hk
          go_wp2_with fail
          clear c0 c1 c2 x0 x1 y0 y1 y2 hlf
          have hjc : j ≤ cc := by omega
          have hal5 : Below w4.heap.size w4 (w4.alloc (.cells #[.int .i64 frm, .int .i64 an, .int .i64 til] 41)) := (Below.refl _ _).alloc (Nat.le_refl _) _
          have HX5 := hide (Tp.bx_new w4 ⟨frm, an, til⟩ 41)
          have HT5 := hide ((unhide HT4).below hal5)
          have HB5 := hide ((unhide HB4).trans (hal5.mono (unhide HB4).size))
          have HY5 := hide ((unhide HY4).below hal5)
          have HZ5 := hide ((unhide HZ4).below hal5)
          have HN5 := hide ((unhide HN4).below hal5)
          have HS5 := hide ((unhide HS4).below hal5)
          have HE5 := hide ((unhide HE4).below hal5)
          have HH5 : Hid ((w4.alloc (.cells #[.int .i64 frm, .int .i64 an, .int .i64 til] 41)).heap.size = w4.heap.size + 1) := hide (by simp)
          dsimp only at HX5
          generalize hW5 : w4.alloc (.cells #[.int .i64 frm, .int .i64 an, .int .i64 til] 41) = w5 at *
          clear hW5 hal5 HT4 HB4 HY4 HZ4 HN4 HS4 HE4
          generalize hB5 : w4.heap.size = B5 at *
          clear hB5
          obtain ⟨o1, hs1, ho1⟩ := sl_from g o k cc j (by omega)
          have HO1 := hide ho1
          clear ho1
          have hs0 := sl_to g o k cc j (by omega)
          have HAW : Hid (SF.take j ++ [⟨frm, an, til⟩] ++ SF.drop j = withS ss ⟨frm, an, til⟩) := hide (by have := unhide HWN; rw [unhide HPL] at this; exact this)
          have lt1 : Hid ((SF.take j).length = j) := hide (by rw [List.length_take, unhide HK]; omega)
          have ld1 : Hid ((SF.drop j).length = k - j) := hide (by rw [List.length_drop, unhide HK])
          have H1 := hide (rm_take (unhide HS5) j)
          have H3 : Hid (So.RM w5 (some ⟨g, o1, none⟩) (SF.drop j)) := hide (rm_drop (unhide HS5) (by rw [unhide HK]; exact hcc) (by rw [unhide HK]; omega) (unhide HO1))
          generalize hTK : SF.take j = TK at *
          generalize hDR : SF.drop j = DR at *
          clear hTK hDR
          go_cut [13] (fun q wx => q = .int .i64 j ∧ ∃ b c : Nat, Hid ((withS ss ⟨frm, an, til⟩).length ≤ c) ∧ Hid (TV wx O (.slice (some ⟨b, 0, none⟩) (withS ss ⟨frm, an, til⟩).length c) (.slice (some ⟨h, p, none⟩) EF.length d)) ∧ Hid (So.RM wx (some ⟨b, 0, none⟩) (withS ss ⟨frm, an, til⟩)) ∧ Hid (Tu.RM wx (some ⟨h, p, none⟩) EF) ∧ Hid (Below O w5 wx))
          case first =>
            refine wp_region_noPanic ?_
            refine Rl.drew (S := fun w' => Tp.Bx w' B5 ⟨frm, an, til⟩ ∧ w'.cell? ⟨B5, 0, none⟩ = some (.int .i64 frm) ∧ w'.cell? ⟨B5, 1, none⟩ = some (.int .i64 an) ∧ w'.cell? ⟨B5, 2, none⟩ = some (.int .i64 til)) (T := fun w' => TV w' O (.slice (some ⟨g, o, none⟩) k cc) (.slice (some ⟨h, p, none⟩) EF.length d) ∧ w'.cell? ⟨O, 0, none⟩ = some (.slice (some ⟨g, o, none⟩) k cc) ∧ w'.cell? ⟨O, 1, none⟩ = some (.slice (some ⟨h, p, none⟩) EF.length d)) 15 (by kernel_rfl) ⟨sHX (unhide HX5).drew, sHT (unhide HT5).drew⟩ (fun hHeld => ?_)

            (refine Rl.tk (k := 15) (i := 1) (d := 61) (v := ?_) rfl rfl (by kernel_rfl) (by kernel_rfl) (by kernel_rfl) (by kernel_rfl) rfl (by kernel_rfl) (fun _ _ _ h => h) (by rfl) ?_ (by assumption) ?_; rotate_left; (focus (intro w0 hSw; (try dsimp only at hSw); go_simp; (try with_reducible rfl))); (try simp only [Act.put, List.setIfInBounds_toArray, List.set_cons_zero, List.set_cons_succ]))
            (refine Rl.tk (k := 15) (i := 2) (d := 62) (v := ?_) rfl rfl (by kernel_rfl) (by kernel_rfl) (by kernel_rfl) (by kernel_rfl) rfl (by kernel_rfl) (fun _ _ _ h => h) (by rfl) ?_ (by assumption) ?_; rotate_left; (focus (intro w0 hSw; (try dsimp only at hSw); go_simp; (try with_reducible rfl))); (try simp only [Act.put, List.setIfInBounds_toArray, List.set_cons_zero, List.set_cons_succ]))
            (refine Rl.tk (k := 15) (i := 3) (d := 63) (v := ?_) rfl rfl (by kernel_rfl) (by kernel_rfl) (by kernel_rfl) (by kernel_rfl) rfl (by kernel_rfl) (fun _ _ _ h => h) (by rfl) ?_ (by assumption) ?_; rotate_left; (focus (intro w0 hSw; (try dsimp only at hSw); go_simp; (try with_reducible rfl))); (try simp only [Act.put, List.setIfInBounds_toArray, List.set_cons_zero, List.set_cons_succ]))
            (refine Rl.tk (k := 15) (i := 4) (d := 64) (v := ?_) rfl rfl (by kernel_rfl) (by kernel_rfl) (by kernel_rfl) (by kernel_rfl) rfl (by kernel_rfl) (fun _ _ _ h => h) (by rfl) ?_ (by assumption) ?_; rotate_left; (focus (intro w0 hSw; (try dsimp only at hSw); go_simp; (try with_reducible rfl))); (try simp only [Act.put, List.setIfInBounds_toArray, List.set_cons_zero, List.set_cons_succ]))
            (refine Rl.tk (k := 15) (i := 6) (d := 66) (v := ?_) rfl rfl (by kernel_rfl) (by kernel_rfl) (by kernel_rfl) (by kernel_rfl) rfl (by kernel_rfl) (fun _ _ _ h => h) (by rfl) ?_ (by assumption) ?_; rotate_left; (focus (intro w0 hSw; (try dsimp only at hSw); go_simp; (try with_reducible rfl))); (try simp only [Act.put, List.setIfInBounds_toArray, List.set_cons_zero, List.set_cons_succ]))
            (refine Rl.tk (k := 15) (i := 9) (d := 69) (v := ?_) rfl rfl (by kernel_rfl) (by kernel_rfl) (by kernel_rfl) (by kernel_rfl) rfl (by kernel_rfl) (fun _ _ _ h => h) (by rfl) ?_ (by assumption) ?_; rotate_left; (focus (intro w0 hSw; (try dsimp only at hSw); go_simp; (try with_reducible rfl))); (try simp only [Act.put, List.setIfInBounds_toArray, List.set_cons_zero, List.set_cons_succ]))
            (refine Rl.tk (k := 15) (i := 10) (d := 70) (v := ?_) rfl rfl (by kernel_rfl) (by kernel_rfl) (by kernel_rfl) (by kernel_rfl) rfl (by kernel_rfl) (fun _ _ _ h => h) (by rfl) ?_ (by assumption) ?_; rotate_left; (focus (intro w0 hSw; (try dsimp only at hSw); go_simp; (try with_reducible rfl))); (try simp only [Act.put, List.setIfInBounds_toArray, List.set_cons_zero, List.set_cons_succ]))
            (refine Rl.tk (k := 15) (i := 11) (d := 71) (v := ?_) rfl rfl (by kernel_rfl) (by kernel_rfl) (by kernel_rfl) (by kernel_rfl) rfl (by kernel_rfl) (fun _ _ _ h => h) (by rfl) ?_ (by assumption) ?_; rotate_left; (focus (intro w0 hSw; (try dsimp only at hSw); go_simp; (try with_reducible rfl))); (try simp only [Act.put, List.setIfInBounds_toArray, List.set_cons_zero, List.set_cons_succ]))
            (refine Rl.tk (k := 15) (i := 12) (d := 72) (v := ?_) rfl rfl (by kernel_rfl) (by kernel_rfl) (by kernel_rfl) (by kernel_rfl) rfl (by kernel_rfl) (fun _ _ _ h => h) (by rfl) ?_ (by assumption) ?_; rotate_left; (focus (intro w0 hSw; (try dsimp only at hSw); go_simp; (try with_reducible rfl))); (try simp only [Act.put, List.setIfInBounds_toArray, List.set_cons_zero, List.set_cons_succ]))
            (refine Rl.ready (rs := [0, 7]) (by kernel_rfl) (by simp) ?_; refine Rl.AllReadyL.cons (o := _) rfl rfl (fun K hK => ?_) (Rl.AllReadyL.cons (o := _) rfl rfl (fun K hK => ?_) (Rl.AllReadyL.nil)))
            · go_simp
              have Bw6 : Hid (Below w5.heap.size w5 ((w5.alloc (.cells #[] 41)).drew)) := hide (((Below.refl _ _).alloc (Nat.le_refl _) _).drew)
              have Ow6 : Hid (((w5.alloc (.cells #[] 41)).drew).ownsRow w5.heap.size 41 3 (.slice (some ⟨w5.heap.size, 0, none⟩) 0 0) ([] : List So.R).length (So.flat [])) := hide ((So.own_empty w5 w5.heap.size (Nat.le_refl _)).drew)
              have HHw6 : Hid (((w5.alloc (.cells #[] 41)).drew).heap.size = w5.heap.size + 1) := hide (by show (w5.alloc (.cells #[] 41)).heap.size = _; simp)
              clear hHeld
              generalize hW_w6 : (w5.alloc (.cells #[] 41)).drew = w6 at *
              clear hW_w6
              refine hK.out _ _ ⟨sHX ((unhide HX5).below (unhide Bw6)), sHT ((unhide HT5).below (unhide Bw6))⟩ (fun hHeld => ?_)
              clear hK K
              (try simp only [Act.put, List.setIfInBounds_toArray, List.set_cons_zero, List.set_cons_succ])
              (refine Rl.ready (rs := [5, 7]) (by kernel_rfl) (by simp) ?_; refine Rl.AllReadyL.cons (o := _) rfl rfl (fun K hK => ?_) (Rl.AllReadyL.cons (o := _) rfl rfl (fun K hK => ?_) (Rl.AllReadyL.nil)))
              · rw [if_pos (by rfl)]
                refine apGSo (unhide Ow6) (by simp) g o j cc TK (unhide lt1) ((unhide H1).below (unhide Bw6)) (by have := unhide lt1; have := unhide ld1; (try simp only [List.length_cons, List.length_nil]); omega) (unhide Bw6).size _ _ rfl rfl rfl rfl ?_
                intro b5 c5 w7 ho5 hc5 hg5
                simp only [List.nil_append] at ho5 hc5 ⊢
                have Ow7 := hide ho5
                have Cw7 := hide hc5
                have Bw7 := hide (So.below_own (unhide Bw6) (unhide Ow6) hg5 (Nat.le_refl _) (unhide Bw6).size)
                clear ho5 hc5 hg5 hHeld
                refine hK.out _ _ ⟨sHX ((unhide HX5).below (unhide Bw7)), sHT ((unhide HT5).below (unhide Bw7))⟩ (fun hHeld => ?_)
                clear hK K
                (try simp only [Act.put, List.setIfInBounds_toArray, List.set_cons_zero, List.set_cons_succ])
                (refine Rl.ready (rs := [7]) (by kernel_rfl) (by simp) ?_; refine Rl.AllReadyL.cons (o := _) rfl rfl (fun K hK => ?_) Rl.AllReadyL.nil; go_simp)
                have Bw8 : Hid (Below w5.heap.size w5 (w7.alloc (.cells #[.int .i64 frm, .int .i64 an, .int .i64 til] 41))) := hide ((unhide Bw7).alloc (unhide Bw7).size _)
                have Ow8 := hide ((unhide Ow7).alloc (.cells #[.int .i64 frm, .int .i64 an, .int .i64 til] 41))
                have Xw8 : Hid (So.RM (w7.alloc (.cells #[.int .i64 frm, .int .i64 an, .int .i64 til] 41)) (some ⟨w7.heap.size, 0, none⟩) [(⟨frm, an, til⟩ : So.R)]) := hide (So.rm_new w7 (⟨frm, an, til⟩ : So.R))
                have HHw8 : Hid ((w7.alloc (.cells #[.int .i64 frm, .int .i64 an, .int .i64 til] 41)).heap.size = w7.heap.size + 1) := hide (by simp)
                clear hHeld
                generalize hW_w8 : w7.alloc (.cells #[.int .i64 frm, .int .i64 an, .int .i64 til] 41) = w8 at *
                clear hW_w8
                refine hK.out _ _ ⟨sHX ((unhide HX5).below (unhide Bw8)), sHT ((unhide HT5).below (unhide Bw8))⟩ (fun hHeld => ?_)
                clear hK K
                (try simp only [Act.put, List.setIfInBounds_toArray, List.set_cons_zero, List.set_cons_succ])
                (refine Rl.ready (rs := [8]) (by kernel_rfl) (by simp) ?_; refine Rl.AllReadyL.cons (o := _) rfl rfl (fun K hK => ?_) Rl.AllReadyL.nil; rw [if_pos (by rfl)])
                refine apGSo (unhide Ow8) (by simp) w7.heap.size 0 1 1 [(⟨frm, an, til⟩ : So.R)] rfl (unhide Xw8) (by have := unhide lt1; have := unhide ld1; (try simp only [List.length_cons, List.length_nil]); omega) (unhide Bw8).size _ _ rfl rfl rfl rfl ?_
                intro b8 c8 w8b ho8 hc8 hg8
                obtain ⟨A8, hA8⟩ : ∃ A8, TK ++ [(⟨frm, an, til⟩ : So.R)] = A8 := ⟨_, rfl⟩
                rw [hA8] at ho8 hc8 ⊢
                have hl8 : A8.length ≤ 10 := by rw [← hA8, List.length_append, unhide lt1]; simp; omega
                have HA8 := hide hA8
                clear hA8
                have Ow8b := hide ho8
                have Cw8b := hide hc8
                have Bw8b := hide (So.below_own (unhide Bw8) (unhide Ow8) hg8 (Nat.le_refl _) (unhide Bw8).size)
                clear ho8 hc8 hg8 hHeld
                refine hK.out _ _ ⟨sHX ((unhide HX5).below (unhide Bw8b)), sHT ((unhide HT5).below (unhide Bw8b))⟩ (fun hHeld => ?_)
                clear hK K
                (try simp only [Act.put, List.setIfInBounds_toArray, List.set_cons_zero, List.set_cons_succ])
                (refine Rl.ready (rs := [13]) (by kernel_rfl) (by simp) ?_; refine Rl.AllReadyL.cons (o := _) rfl rfl (fun K hK => ?_) Rl.AllReadyL.nil; rw [if_pos (by rfl)])
                refine apGSo (unhide Ow8b) (by simp) g o1 (k - j) (cc - j) DR (unhide ld1) ((unhide H3).below (unhide Bw8b)) (by have := unhide lt1; have := unhide ld1; (try simp only [List.length_cons, List.length_nil]); omega) (unhide Bw8b).size _ _ rfl rfl rfl rfl ?_
                intro b13 c13 w8c ho13 hc13 hg13
                obtain ⟨AA, hAA⟩ : ∃ AA, A8 ++ DR = AA := ⟨_, rfl⟩
                rw [hAA] at ho13 hc13 ⊢
                have HAA : Hid (AA = withS ss ⟨frm, an, til⟩) := hide (by rw [← hAA, ← unhide HA8]; exact unhide HAW)
                clear hAA
                have Ow8c := hide ho13
                have Cw8c := hide hc13
                have Bw8c := hide (So.below_own (unhide Bw8b) (unhide Ow8b) hg13 (Nat.le_refl _) (unhide Bw8b).size)
                clear ho13 hc13 hg13 hHeld
                refine hK.out _ _ ⟨sHX ((unhide HX5).below (unhide Bw8c)), sHT ((unhide HT5).below (unhide Bw8c))⟩ (fun hHeld => ?_)
                clear hK K
                (try simp only [Act.put, List.setIfInBounds_toArray, List.set_cons_zero, List.set_cons_succ])
                (refine Rl.tk (k := 15) (i := 14) (d := 74) (v := ?_) rfl rfl (by kernel_rfl) (by kernel_rfl) (by kernel_rfl) (by kernel_rfl) rfl (by kernel_rfl) (fun _ _ _ h => h) (by rfl) ?_ (by assumption) ?_; rotate_left; (focus (intro w0 hSw; (try dsimp only at hSw); go_simp; (try with_reducible rfl))); (try simp only [Act.put, List.setIfInBounds_toArray, List.set_cons_zero, List.set_cons_succ]))
                have HT9 := hide ((unhide HT5).below (unhide Bw8c))
                have HE9 := hide ((unhide HE5).below (unhide Bw8c))
                have HL9 := hide (lst_fm rfl (unhide Ow8c)).rm
                obtain ⟨x0, x1⟩ := (unhide HT9).bx
                have f0 := (unhide HT9).free 0
                (refine Rl.ready (rs := [15]) (by kernel_rfl) (by simp) ?_; refine Rl.AllReadyL.last (o := _) rfl (by kernel_rfl) (fun K hK => ?_); go_simp)
                have HTA := hide ((unhide HT9).set0 (.slice (some ⟨b13, 0, none⟩) AA.length c13))
                have HEA := hide (rmT_tv (unhide HE9) (unhide HT9) 0 (.slice (some ⟨b13, 0, none⟩) AA.length c13))
                have HLA := hide (rmS_tv (unhide HL9) (unhide HT9) 0 (.slice (some ⟨b13, 0, none⟩) AA.length c13))
                have HBA : Hid (Below O w5 (w8c.setCell ⟨O, 0, none⟩ (.slice (some ⟨b13, 0, none⟩) AA.length c13))) := hide (((unhide Bw8c).mono (by have := unhide HH4; have := unhide HH5; show O ≤ w5.heap.size; omega)).setCell (p := ⟨O, 0, none⟩) (Nat.le_refl _) (.slice (some ⟨b13, 0, none⟩) AA.length c13))
                have HXA := hide (sHX (((unhide HX5).below (unhide Bw8c)).but0 (Below.heap_setCell w8c ⟨O, 0, none⟩ (.slice (some ⟨b13, 0, none⟩) AA.length c13) _ (by have := unhide HH4; show B5 ≠ O; omega))))
                have HHA : Hid ((w8c.setCell ⟨O, 0, none⟩ (.slice (some ⟨b13, 0, none⟩) AA.length c13)).heap.size = w8c.heap.size) := hide (by simp [World.setCell])
                have hsB := (unhide Bw8c).size
                clear hHeld x0 x1 f0
                generalize hWA : w8c.setCell ⟨O, 0, none⟩ (.slice (some ⟨b13, 0, none⟩) AA.length c13) = w9 at *
                clear hWA
                refine hK.out _ _ (unhide HXA) (fun hHeld => ?_)
                clear hK K
                (try simp only [Act.put, List.setIfInBounds_toArray, List.set_cons_zero, List.set_cons_succ])
                refine Rl.done (by kernel_rfl) (NoPanic.normal ?_) _
                clear hHeld
                go_wp2_with fail
                go_meet
                case rel => exact ⟨rfl, b13, c13, hide (by rw [← unhide HAA]; exact unhide Cw8c), hide (by rw [← unhide HAA]; exact unhide HTA), hide (by rw [← unhide HAA]; exact unhide HLA), HEA, HBA⟩
              · go_simp
                have Bw7 : Hid (Below w5.heap.size w5 (w6.alloc (.cells #[.int .i64 frm, .int .i64 an, .int .i64 til] 41))) := hide ((unhide Bw6).alloc (unhide Bw6).size _)
                have Ow7 := hide ((unhide Ow6).alloc (.cells #[.int .i64 frm, .int .i64 an, .int .i64 til] 41))
                have Xw7 : Hid (So.RM (w6.alloc (.cells #[.int .i64 frm, .int .i64 an, .int .i64 til] 41)) (some ⟨w6.heap.size, 0, none⟩) [(⟨frm, an, til⟩ : So.R)]) := hide (So.rm_new w6 (⟨frm, an, til⟩ : So.R))
                have HHw7 : Hid ((w6.alloc (.cells #[.int .i64 frm, .int .i64 an, .int .i64 til] 41)).heap.size = w6.heap.size + 1) := hide (by simp)
                clear hHeld
                generalize hW_w7 : w6.alloc (.cells #[.int .i64 frm, .int .i64 an, .int .i64 til] 41) = w7 at *
                clear hW_w7
                refine hK.out _ _ ⟨sHX ((unhide HX5).below (unhide Bw7)), sHT ((unhide HT5).below (unhide Bw7))⟩ (fun hHeld => ?_)
                clear hK K
                (try simp only [Act.put, List.setIfInBounds_toArray, List.set_cons_zero, List.set_cons_succ])
                (refine Rl.ready (rs := [5]) (by kernel_rfl) (by simp) ?_; refine Rl.AllReadyL.cons (o := _) rfl rfl (fun K hK => ?_) Rl.AllReadyL.nil; rw [if_pos (by rfl)])
                refine apGSo (unhide Ow7) (by simp) g o j cc TK (unhide lt1) ((unhide H1).below (unhide Bw7)) (by have := unhide lt1; have := unhide ld1; (try simp only [List.length_cons, List.length_nil]); omega) (unhide Bw7).size _ _ rfl rfl rfl rfl ?_
                intro b5 c5 w8 ho5 hc5 hg5
                simp only [List.nil_append] at ho5 hc5 ⊢
                have Ow8 := hide ho5
                have Cw8 := hide hc5
                have Bw8 := hide (So.below_own (unhide Bw7) (unhide Ow7) hg5 (Nat.le_refl _) (unhide Bw7).size)
                have Xw8 := hide (rm_new_grown (unhide Xw7) hg5 (by have := unhide HHw6; simp [Value.ownBlock]; omega))
                clear ho5 hc5 hg5 hHeld
                refine hK.out _ _ ⟨sHX ((unhide HX5).below (unhide Bw8)), sHT ((unhide HT5).below (unhide Bw8))⟩ (fun hHeld => ?_)
                clear hK K
                (try simp only [Act.put, List.setIfInBounds_toArray, List.set_cons_zero, List.set_cons_succ])
                (refine Rl.ready (rs := [8]) (by kernel_rfl) (by simp) ?_; refine Rl.AllReadyL.cons (o := _) rfl rfl (fun K hK => ?_) Rl.AllReadyL.nil; rw [if_pos (by rfl)])
                refine apGSo (unhide Ow8) (by simp) w6.heap.size 0 1 1 [(⟨frm, an, til⟩ : So.R)] rfl (unhide Xw8) (by have := unhide lt1; have := unhide ld1; (try simp only [List.length_cons, List.length_nil]); omega) (unhide Bw8).size _ _ rfl rfl rfl rfl ?_
                intro b8 c8 w8b ho8 hc8 hg8
                obtain ⟨A8, hA8⟩ : ∃ A8, TK ++ [(⟨frm, an, til⟩ : So.R)] = A8 := ⟨_, rfl⟩
                rw [hA8] at ho8 hc8 ⊢
                have hl8 : A8.length ≤ 10 := by rw [← hA8, List.length_append, unhide lt1]; simp; omega
                have HA8 := hide hA8
                clear hA8
                have Ow8b := hide ho8
                have Cw8b := hide hc8
                have Bw8b := hide (So.below_own (unhide Bw8) (unhide Ow8) hg8 (Nat.le_refl _) (unhide Bw8).size)
                clear ho8 hc8 hg8 hHeld
                refine hK.out _ _ ⟨sHX ((unhide HX5).below (unhide Bw8b)), sHT ((unhide HT5).below (unhide Bw8b))⟩ (fun hHeld => ?_)
                clear hK K
                (try simp only [Act.put, List.setIfInBounds_toArray, List.set_cons_zero, List.set_cons_succ])
                (refine Rl.ready (rs := [13]) (by kernel_rfl) (by simp) ?_; refine Rl.AllReadyL.cons (o := _) rfl rfl (fun K hK => ?_) Rl.AllReadyL.nil; rw [if_pos (by rfl)])
                refine apGSo (unhide Ow8b) (by simp) g o1 (k - j) (cc - j) DR (unhide ld1) ((unhide H3).below (unhide Bw8b)) (by have := unhide lt1; have := unhide ld1; (try simp only [List.length_cons, List.length_nil]); omega) (unhide Bw8b).size _ _ rfl rfl rfl rfl ?_
                intro b13 c13 w8c ho13 hc13 hg13
                obtain ⟨AA, hAA⟩ : ∃ AA, A8 ++ DR = AA := ⟨_, rfl⟩
                rw [hAA] at ho13 hc13 ⊢
                have HAA : Hid (AA = withS ss ⟨frm, an, til⟩) := hide (by rw [← hAA, ← unhide HA8]; exact unhide HAW)
                clear hAA
                have Ow8c := hide ho13
                have Cw8c := hide hc13
                have Bw8c := hide (So.below_own (unhide Bw8b) (unhide Ow8b) hg13 (Nat.le_refl _) (unhide Bw8b).size)
                clear ho13 hc13 hg13 hHeld
                refine hK.out _ _ ⟨sHX ((unhide HX5).below (unhide Bw8c)), sHT ((unhide HT5).below (unhide Bw8c))⟩ (fun hHeld => ?_)
                clear hK K
                (try simp only [Act.put, List.setIfInBounds_toArray, List.set_cons_zero, List.set_cons_succ])
                (refine Rl.tk (k := 15) (i := 14) (d := 74) (v := ?_) rfl rfl (by kernel_rfl) (by kernel_rfl) (by kernel_rfl) (by kernel_rfl) rfl (by kernel_rfl) (fun _ _ _ h => h) (by rfl) ?_ (by assumption) ?_; rotate_left; (focus (intro w0 hSw; (try dsimp only at hSw); go_simp; (try with_reducible rfl))); (try simp only [Act.put, List.setIfInBounds_toArray, List.set_cons_zero, List.set_cons_succ]))
                have HT9 := hide ((unhide HT5).below (unhide Bw8c))
                have HE9 := hide ((unhide HE5).below (unhide Bw8c))
                have HL9 := hide (lst_fm rfl (unhide Ow8c)).rm
                obtain ⟨x0, x1⟩ := (unhide HT9).bx
                have f0 := (unhide HT9).free 0
                (refine Rl.ready (rs := [15]) (by kernel_rfl) (by simp) ?_; refine Rl.AllReadyL.last (o := _) rfl (by kernel_rfl) (fun K hK => ?_); go_simp)
                have HTA := hide ((unhide HT9).set0 (.slice (some ⟨b13, 0, none⟩) AA.length c13))
                have HEA := hide (rmT_tv (unhide HE9) (unhide HT9) 0 (.slice (some ⟨b13, 0, none⟩) AA.length c13))
                have HLA := hide (rmS_tv (unhide HL9) (unhide HT9) 0 (.slice (some ⟨b13, 0, none⟩) AA.length c13))
                have HBA : Hid (Below O w5 (w8c.setCell ⟨O, 0, none⟩ (.slice (some ⟨b13, 0, none⟩) AA.length c13))) := hide (((unhide Bw8c).mono (by have := unhide HH4; have := unhide HH5; show O ≤ w5.heap.size; omega)).setCell (p := ⟨O, 0, none⟩) (Nat.le_refl _) (.slice (some ⟨b13, 0, none⟩) AA.length c13))
                have HXA := hide (sHX (((unhide HX5).below (unhide Bw8c)).but0 (Below.heap_setCell w8c ⟨O, 0, none⟩ (.slice (some ⟨b13, 0, none⟩) AA.length c13) _ (by have := unhide HH4; show B5 ≠ O; omega))))
                have HHA : Hid ((w8c.setCell ⟨O, 0, none⟩ (.slice (some ⟨b13, 0, none⟩) AA.length c13)).heap.size = w8c.heap.size) := hide (by simp [World.setCell])
                have hsB := (unhide Bw8c).size
                clear hHeld x0 x1 f0
                generalize hWA : w8c.setCell ⟨O, 0, none⟩ (.slice (some ⟨b13, 0, none⟩) AA.length c13) = w9 at *
                clear hWA
                refine hK.out _ _ (unhide HXA) (fun hHeld => ?_)
                clear hK K
                (try simp only [Act.put, List.setIfInBounds_toArray, List.set_cons_zero, List.set_cons_succ])
                refine Rl.done (by kernel_rfl) (NoPanic.normal ?_) _
                clear hHeld
                go_wp2_with fail
                go_meet
                case rel => exact ⟨rfl, b13, c13, hide (by rw [← unhide HAA]; exact unhide Cw8c), hide (by rw [← unhide HAA]; exact unhide HTA), hide (by rw [← unhide HAA]; exact unhide HLA), HEA, HBA⟩
            · go_simp
              have Bw6 : Hid (Below w5.heap.size w5 ((w5.alloc (.cells #[.int .i64 frm, .int .i64 an, .int .i64 til] 41)).drew)) := hide (((Below.refl _ _).alloc (Nat.le_refl _) _).drew)
              have Xw6 : Hid (So.RM ((w5.alloc (.cells #[.int .i64 frm, .int .i64 an, .int .i64 til] 41)).drew) (some ⟨w5.heap.size, 0, none⟩) [(⟨frm, an, til⟩ : So.R)]) := hide ((So.rm_new w5 (⟨frm, an, til⟩ : So.R)).drew)
              have HHw6 : Hid (((w5.alloc (.cells #[.int .i64 frm, .int .i64 an, .int .i64 til] 41)).drew).heap.size = w5.heap.size + 1) := hide (by show (w5.alloc (.cells #[.int .i64 frm, .int .i64 an, .int .i64 til] 41)).heap.size = _; simp)
              clear hHeld
              generalize hW_w6 : (w5.alloc (.cells #[.int .i64 frm, .int .i64 an, .int .i64 til] 41)).drew = w6 at *
              clear hW_w6
              refine hK.out _ _ ⟨sHX ((unhide HX5).below (unhide Bw6)), sHT ((unhide HT5).below (unhide Bw6))⟩ (fun hHeld => ?_)
              clear hK K
              (try simp only [Act.put, List.setIfInBounds_toArray, List.set_cons_zero, List.set_cons_succ])
              (refine Rl.ready (rs := [0]) (by kernel_rfl) (by simp) ?_; refine Rl.AllReadyL.cons (o := _) rfl rfl (fun K hK => ?_) Rl.AllReadyL.nil; go_simp)
              have Bw7 : Hid (Below w5.heap.size w5 (w6.alloc (.cells #[] 41))) := hide ((unhide Bw6).alloc (unhide Bw6).size _)
              have Ow7 : Hid ((w6.alloc (.cells #[] 41)).ownsRow w5.heap.size 41 3 (.slice (some ⟨w6.heap.size, 0, none⟩) 0 0) ([] : List So.R).length (So.flat [])) := hide (So.own_empty w6 w5.heap.size (unhide Bw6).size)
              have Xw7 := hide ((unhide Xw6).below ((Below.refl _ _).alloc (Nat.le_refl _) (.cells #[] 41)))
              have HHw7 : Hid ((w6.alloc (.cells #[] 41)).heap.size = w6.heap.size + 1) := hide (by simp)
              clear hHeld
              generalize hW_w7 : w6.alloc (.cells #[] 41) = w7 at *
              clear hW_w7
              refine hK.out _ _ ⟨sHX ((unhide HX5).below (unhide Bw7)), sHT ((unhide HT5).below (unhide Bw7))⟩ (fun hHeld => ?_)
              clear hK K
              (try simp only [Act.put, List.setIfInBounds_toArray, List.set_cons_zero, List.set_cons_succ])
              (refine Rl.ready (rs := [5]) (by kernel_rfl) (by simp) ?_; refine Rl.AllReadyL.cons (o := _) rfl rfl (fun K hK => ?_) Rl.AllReadyL.nil; rw [if_pos (by rfl)])
              refine apGSo (unhide Ow7) (by simp) g o j cc TK (unhide lt1) ((unhide H1).below (unhide Bw7)) (by have := unhide lt1; have := unhide ld1; (try simp only [List.length_cons, List.length_nil]); omega) (unhide Bw7).size _ _ rfl rfl rfl rfl ?_
              intro b5 c5 w8 ho5 hc5 hg5
              simp only [List.nil_append] at ho5 hc5 ⊢
              have Ow8 := hide ho5
              have Cw8 := hide hc5
              have Bw8 := hide (So.below_own (unhide Bw7) (unhide Ow7) hg5 (Nat.le_refl _) (unhide Bw7).size)
              have Xw8 := hide (rm_new_grown (unhide Xw7) hg5 (by have := unhide HHw6; simp [Value.ownBlock]; omega))
              clear ho5 hc5 hg5 hHeld
              refine hK.out _ _ ⟨sHX ((unhide HX5).below (unhide Bw8)), sHT ((unhide HT5).below (unhide Bw8))⟩ (fun hHeld => ?_)
              clear hK K
              (try simp only [Act.put, List.setIfInBounds_toArray, List.set_cons_zero, List.set_cons_succ])
              (refine Rl.ready (rs := [8]) (by kernel_rfl) (by simp) ?_; refine Rl.AllReadyL.cons (o := _) rfl rfl (fun K hK => ?_) Rl.AllReadyL.nil; rw [if_pos (by rfl)])
              refine apGSo (unhide Ow8) (by simp) w5.heap.size 0 1 1 [(⟨frm, an, til⟩ : So.R)] rfl (unhide Xw8) (by have := unhide lt1; have := unhide ld1; (try simp only [List.length_cons, List.length_nil]); omega) (unhide Bw8).size _ _ rfl rfl rfl rfl ?_
              intro b8 c8 w8b ho8 hc8 hg8
              obtain ⟨A8, hA8⟩ : ∃ A8, TK ++ [(⟨frm, an, til⟩ : So.R)] = A8 := ⟨_, rfl⟩
              rw [hA8] at ho8 hc8 ⊢
              have hl8 : A8.length ≤ 10 := by rw [← hA8, List.length_append, unhide lt1]; simp; omega
              have HA8 := hide hA8
              clear hA8
              have Ow8b := hide ho8
              have Cw8b := hide hc8
              have Bw8b := hide (So.below_own (unhide Bw8) (unhide Ow8) hg8 (Nat.le_refl _) (unhide Bw8).size)
              clear ho8 hc8 hg8 hHeld
              refine hK.out _ _ ⟨sHX ((unhide HX5).below (unhide Bw8b)), sHT ((unhide HT5).below (unhide Bw8b))⟩ (fun hHeld => ?_)
              clear hK K
              (try simp only [Act.put, List.setIfInBounds_toArray, List.set_cons_zero, List.set_cons_succ])
              (refine Rl.ready (rs := [13]) (by kernel_rfl) (by simp) ?_; refine Rl.AllReadyL.cons (o := _) rfl rfl (fun K hK => ?_) Rl.AllReadyL.nil; rw [if_pos (by rfl)])
              refine apGSo (unhide Ow8b) (by simp) g o1 (k - j) (cc - j) DR (unhide ld1) ((unhide H3).below (unhide Bw8b)) (by have := unhide lt1; have := unhide ld1; (try simp only [List.length_cons, List.length_nil]); omega) (unhide Bw8b).size _ _ rfl rfl rfl rfl ?_
              intro b13 c13 w8c ho13 hc13 hg13
              obtain ⟨AA, hAA⟩ : ∃ AA, A8 ++ DR = AA := ⟨_, rfl⟩
              rw [hAA] at ho13 hc13 ⊢
              have HAA : Hid (AA = withS ss ⟨frm, an, til⟩) := hide (by rw [← hAA, ← unhide HA8]; exact unhide HAW)
              clear hAA
              have Ow8c := hide ho13
              have Cw8c := hide hc13
              have Bw8c := hide (So.below_own (unhide Bw8b) (unhide Ow8b) hg13 (Nat.le_refl _) (unhide Bw8b).size)
              clear ho13 hc13 hg13 hHeld
              refine hK.out _ _ ⟨sHX ((unhide HX5).below (unhide Bw8c)), sHT ((unhide HT5).below (unhide Bw8c))⟩ (fun hHeld => ?_)
              clear hK K
              (try simp only [Act.put, List.setIfInBounds_toArray, List.set_cons_zero, List.set_cons_succ])
              (refine Rl.tk (k := 15) (i := 14) (d := 74) (v := ?_) rfl rfl (by kernel_rfl) (by kernel_rfl) (by kernel_rfl) (by kernel_rfl) rfl (by kernel_rfl) (fun _ _ _ h => h) (by rfl) ?_ (by assumption) ?_; rotate_left; (focus (intro w0 hSw; (try dsimp only at hSw); go_simp; (try with_reducible rfl))); (try simp only [Act.put, List.setIfInBounds_toArray, List.set_cons_zero, List.set_cons_succ]))
              have HT9 := hide ((unhide HT5).below (unhide Bw8c))
              have HE9 := hide ((unhide HE5).below (unhide Bw8c))
              have HL9 := hide (lst_fm rfl (unhide Ow8c)).rm
              obtain ⟨x0, x1⟩ := (unhide HT9).bx
              have f0 := (unhide HT9).free 0
              (refine Rl.ready (rs := [15]) (by kernel_rfl) (by simp) ?_; refine Rl.AllReadyL.last (o := _) rfl (by kernel_rfl) (fun K hK => ?_); go_simp)
              have HTA := hide ((unhide HT9).set0 (.slice (some ⟨b13, 0, none⟩) AA.length c13))
              have HEA := hide (rmT_tv (unhide HE9) (unhide HT9) 0 (.slice (some ⟨b13, 0, none⟩) AA.length c13))
              have HLA := hide (rmS_tv (unhide HL9) (unhide HT9) 0 (.slice (some ⟨b13, 0, none⟩) AA.length c13))
              have HBA : Hid (Below O w5 (w8c.setCell ⟨O, 0, none⟩ (.slice (some ⟨b13, 0, none⟩) AA.length c13))) := hide (((unhide Bw8c).mono (by have := unhide HH4; have := unhide HH5; show O ≤ w5.heap.size; omega)).setCell (p := ⟨O, 0, none⟩) (Nat.le_refl _) (.slice (some ⟨b13, 0, none⟩) AA.length c13))
              have HXA := hide (sHX (((unhide HX5).below (unhide Bw8c)).but0 (Below.heap_setCell w8c ⟨O, 0, none⟩ (.slice (some ⟨b13, 0, none⟩) AA.length c13) _ (by have := unhide HH4; show B5 ≠ O; omega))))
              have HHA : Hid ((w8c.setCell ⟨O, 0, none⟩ (.slice (some ⟨b13, 0, none⟩) AA.length c13)).heap.size = w8c.heap.size) := hide (by simp [World.setCell])
              have hsB := (unhide Bw8c).size
              clear hHeld x0 x1 f0
              generalize hWA : w8c.setCell ⟨O, 0, none⟩ (.slice (some ⟨b13, 0, none⟩) AA.length c13) = w9 at *
              clear hWA
              refine hK.out _ _ (unhide HXA) (fun hHeld => ?_)
              clear hK K
              (try simp only [Act.put, List.setIfInBounds_toArray, List.set_cons_zero, List.set_cons_succ])
              refine Rl.done (by kernel_rfl) (NoPanic.normal ?_) _
              clear hHeld
              go_wp2_with fail
              go_meet
              case rel => exact ⟨rfl, b13, c13, hide (by rw [← unhide HAA]; exact unhide Cw8c), hide (by rw [← unhide HAA]; exact unhide HTA), hide (by rw [← unhide HAA]; exact unhide HLA), HEA, HBA⟩
          case rest =>
            obtain ⟨rfl, bS, cS, hcS, htS, hrS, hrE, hbO⟩ := hcut
            rename World => w9
            have HB9 := hide ((unhide HB5).trans ((unhide hbO).mono (by omega)))
            have HTW := hide (learnE_two (unhide HTF) hf htb (unhide HAL))
            obtain ⟨WA, hWA⟩ : ∃ WA, withS ss ⟨frm, an, til⟩ = WA := ⟨_, rfl⟩
            have HWA := hide hWA
            rw [hWA] at hcS htS hrS
            clear hWA
            have hs9 := (unhide hbO).size
            obtain ⟨N, hN⟩ : ∃ N, ns.length = N := ⟨_, rfl⟩
            have HNN := hide hN
            rw [hN] at hn8 HY5 HNE
            have HY9 := hide ((unhide HY5).under (unhide hbO) (by omega))
            obtain ⟨y0, y1, y2⟩ := unhide HY9
            clear hN
            go_wp2_with fail
            clear y0 y1 y2
            go_loopw [15] (fun i wr => ∃ t : Nat, t ≤ N ∧ i = .int .i64 t ∧ ∃ hh pp dd : Nat, Hid (TV wr O (.slice (some ⟨bS, 0, none⟩) WA.length cS) (.slice (some ⟨hh, pp, none⟩) (learnE EF frm til ns t).length dd)) ∧ Hid (Tu.RM wr (some ⟨hh, pp, none⟩) (learnE EF frm til ns t)) ∧ Hid (So.RM wr (some ⟨bS, 0, none⟩) WA) ∧ Hid (Below O w5 wr)) (fun i _ => N - (intOf i).toNat)
            case atStart => exact ⟨0, by omega, rfl, h, p, d, htS, hrE, hrS, hbO⟩
            case round =>
              clear htS hrE hrS hbO HB9 HY9 hs9
              obtain ⟨t, ht, rfl, hh, pp, dd, htv, hre, hrs, hbl⟩ := hrel
              have HBw := hide ((unhide HB5).trans ((unhide hbl).mono (by omega)))
              have HYr := hide ((unhide HY5).under (unhide hbl) (by omega))
              have hbs := (unhide hbl).size
              by_cases hlt2 : (t : Int) < (N : Int)
              · have k2 : (0 : Int) ≤ (t : Int) := by omega
                have hlen2 : t < ns.length := by rw [unhide HNN]; omega
                obtain ⟨gn, offn, rfl⟩ := (unhide HN0).form (by omega)
                have hA := ((unhide HN0).below (unhide HBw)).at hlen2
                have HLY : Hid (((ns.getD t Ed.R.zero).ad != frm) = true → (learnE EF frm til ns (t + 1)) = putL (learnE EF frm til ns t) (tupE frm til (ns.getD t Ed.R.zero))) := hide (fun h => learnE_yes hlen2 h)
                have HLZ : Hid (((ns.getD t Ed.R.zero).ad != frm) = false → (learnE EF frm til ns (t + 1)) = (learnE EF frm til ns t)) := hide (fun h => learnE_no hlen2 h)
                have had := Av.ok_ad (Ri.all_ok (unhide HAL) hlen2)
                have HT1 := hide (unhide HTW t (by omega))
                have hl1 := two_len (unhide HT1)
                obtain ⟨m, hmd⟩ : ∃ m, ns.getD t Ed.R.zero = m := ⟨_, rfl⟩
                rw [hmd] at hA HLY HLZ had
                clear hmd
                obtain ⟨ad, mt⟩ := m
                obtain ⟨c0, c1⟩ := hA
                dsimp only at c0 c1 had HLY HLZ
                have hal : Below wr.heap.size wr (wr.alloc (.cells #[.int .i64 ad, .int .i64 mt] 47)) := (Below.refl _ _).alloc (Nat.le_refl _) _
                have HTA := hide ((unhide htv).below hal)
                have HEA := hide ((unhide hre).below hal)
                have HSA := hide ((unhide hrs).below hal)
                have HBA := hide ((unhide hbl).trans (hal.mono (by have := (unhide htv).lt; omega)))
                have HYA := hide ((unhide HYr).below hal)
                have HNA : Hid (Ed.At (wr.alloc (.cells #[.int .i64 ad, .int .i64 mt] 47)) wr.heap.size 0 ⟨ad, mt⟩) := hide (by refine ⟨?_, ?_⟩ <;> simp [World.cell?_alloc_new])
                clear hal
                obtain ⟨y0, y1, y2⟩ := unhide HYr
                cases hnew : (ad != frm)
                · have E1 := unhide HLZ hnew
                  rw [← E1] at HTA HEA
                  clear E1 HLY HLZ
                  go_wp2_with fail
                  go_roundw
                  case rel => exact ⟨t + 1, by omega, by go_num, hh, pp, dd, HTA, HEA, HSA, HBA⟩
                  case measure => simp [intOf]; omega
                · have HE1 := hide (unhide HLY hnew)
                  clear HLY HLZ
                  have HNP := hide (put_ne (learnE EF frm til ns t) (tupE frm til ⟨ad, mt⟩))
                  obtain ⟨L, hL⟩ : ∃ L, (learnE EF frm til ns t) = L := ⟨_, rfl⟩
                  rw [hL] at HE1 HT1 hl1 HTA HEA htv hre HNP
                  clear hL
                  go_wp2_with fail
                  generalize hW0 : wr.alloc (.cells #[.int .i64 ad, .int .i64 mt] 47) = W0 at *
                  clear hW0 c0 c1 y0 y1 y2
                  refine wp_region_noPanic ?_
                  refine Rl.drew (S := fun w' => (Ed.At w' wr.heap.size 0 ⟨ad, mt⟩ ∧ Bx3 w' (w.heap.size + 1) an valid (.slice (some ⟨gn, offn, none⟩) N cn)) ∧ w'.cell? ⟨wr.heap.size, 0, none⟩ = some (.int .i64 ad) ∧ w'.cell? ⟨wr.heap.size, 1, none⟩ = some (.int .i64 mt) ∧ w'.cell? ⟨w.heap.size + 1, 1, none⟩ = some (.int .i64 valid)) (T := fun w' => TV w' O (.slice (some ⟨bS, 0, none⟩) WA.length cS) (.slice (some ⟨hh, pp, none⟩) L.length dd) ∧ w'.cell? ⟨O, 0, none⟩ = some (.slice (some ⟨bS, 0, none⟩) WA.length cS) ∧ w'.cell? ⟨O, 1, none⟩ = some (.slice (some ⟨hh, pp, none⟩) L.length dd)) 18 (by kernel_rfl) ⟨sHE (unhide HNA).drew (unhide HYA).drew, sHT (unhide HTA).drew⟩ (fun hHeld => ?_)

                  (refine Rl.tk (k := 18) (i := 0) (d := 92) (v := ?_) rfl rfl (by kernel_rfl) (by kernel_rfl) (by kernel_rfl) (by kernel_rfl) rfl (by kernel_rfl) (fun _ _ _ h => h) (by rfl) ?_ (by assumption) ?_; rotate_left; (focus (intro w0 hSw; (try dsimp only at hSw); go_simp; (try with_reducible rfl))); (try simp only [Act.put, List.setIfInBounds_toArray, List.set_cons_zero, List.set_cons_succ]))
                  (refine Rl.tk (k := 18) (i := 1) (d := 93) (v := ?_) rfl rfl (by kernel_rfl) (by kernel_rfl) (by kernel_rfl) (by kernel_rfl) rfl (by kernel_rfl) (fun _ _ _ h => h) (by rfl) ?_ (by assumption) ?_; rotate_left; (focus (intro w0 hSw; (try dsimp only at hSw); go_simp; (try with_reducible rfl))); (try simp only [Act.put, List.setIfInBounds_toArray, List.set_cons_zero, List.set_cons_succ]))
                  (refine Rl.tk (k := 18) (i := 2) (d := 94) (v := ?_) rfl rfl (by kernel_rfl) (by kernel_rfl) (by kernel_rfl) (by kernel_rfl) rfl (by kernel_rfl) (fun _ _ _ h => h) (by rfl) ?_ (by assumption) ?_; rotate_left; (focus (intro w0 hSw; (try dsimp only at hSw); go_simp; (try with_reducible rfl))); (try simp only [Act.put, List.setIfInBounds_toArray, List.set_cons_zero, List.set_cons_succ]))
                  (refine Rl.tk (k := 18) (i := 3) (d := 95) (v := ?_) rfl rfl (by kernel_rfl) (by kernel_rfl) (by kernel_rfl) (by kernel_rfl) rfl (by kernel_rfl) (fun _ _ _ h => h) (by rfl) ?_ (by assumption) ?_; rotate_left; (focus (intro w0 hSw; (try dsimp only at hSw); go_simp; (try with_reducible rfl))); (try simp only [Act.put, List.setIfInBounds_toArray, List.set_cons_zero, List.set_cons_succ]))
                  (refine Rl.tk (k := 18) (i := 4) (d := 96) (v := ?_) rfl rfl (by kernel_rfl) (by kernel_rfl) (by kernel_rfl) (by kernel_rfl) rfl (by kernel_rfl) (fun _ _ _ h => h) (by rfl) ?_ (by assumption) ?_; rotate_left; (focus (intro w0 hSw; (try dsimp only at hSw); go_simp; (try with_reducible rfl))); (try simp only [Act.put, List.setIfInBounds_toArray, List.set_cons_zero, List.set_cons_succ]))
                  (refine Rl.tk (k := 18) (i := 6) (d := 98) (v := ?_) rfl rfl (by kernel_rfl) (by kernel_rfl) (by kernel_rfl) (by kernel_rfl) rfl (by kernel_rfl) (fun _ _ _ h => h) (by rfl) ?_ (by assumption) ?_; rotate_left; (focus (intro w0 hSw; (try dsimp only at hSw); go_simp; (try with_reducible rfl))); (try simp only [Act.put, List.setIfInBounds_toArray, List.set_cons_zero, List.set_cons_succ]))
                  (refine Rl.tk (k := 18) (i := 7) (d := 99) (v := ?_) rfl rfl (by kernel_rfl) (by kernel_rfl) (by kernel_rfl) (by kernel_rfl) rfl (by kernel_rfl) (fun _ _ _ h => h) (by rfl) ?_ (by assumption) ?_; rotate_left; (focus (intro w0 hSw; (try dsimp only at hSw); go_simp; (try with_reducible rfl))); (try simp only [Act.put, List.setIfInBounds_toArray, List.set_cons_zero, List.set_cons_succ]))
                  (refine Rl.tk (k := 18) (i := 8) (d := 100) (v := ?_) rfl rfl (by kernel_rfl) (by kernel_rfl) (by kernel_rfl) (by kernel_rfl) rfl (by kernel_rfl) (fun _ _ _ h => h) (by rfl) ?_ (by assumption) ?_; rotate_left; (focus (intro w0 hSw; (try dsimp only at hSw); go_simp; (try with_reducible rfl))); (try simp only [Act.put, List.setIfInBounds_toArray, List.set_cons_zero, List.set_cons_succ]))
                  (refine Rl.tk (k := 18) (i := 9) (d := 101) (v := .int .i64 til) rfl rfl (by kernel_rfl) (by kernel_rfl) (by kernel_rfl) (by kernel_rfl) rfl (by kernel_rfl) (fun _ _ _ h => h) (by rfl) ?_ (by assumption) ?_; (focus (intro w0 hSw; (try dsimp only at hSw); go_simp)); (try simp only [Act.put, List.setIfInBounds_toArray, List.set_cons_zero, List.set_cons_succ]))
                  (refine Rl.tk (k := 18) (i := 10) (d := 102) (v := ?_) rfl rfl (by kernel_rfl) (by kernel_rfl) (by kernel_rfl) (by kernel_rfl) rfl (by kernel_rfl) (fun _ _ _ h => h) (by rfl) ?_ (by assumption) ?_; rotate_left; (focus (intro w0 hSw; (try dsimp only at hSw); go_simp; (try with_reducible rfl))); (try simp only [Act.put, List.setIfInBounds_toArray, List.set_cons_zero, List.set_cons_succ]))
                  (refine Rl.tk (k := 18) (i := 11) (d := 103) (v := ?_) rfl rfl (by kernel_rfl) (by kernel_rfl) (by kernel_rfl) (by kernel_rfl) rfl (by kernel_rfl) (fun _ _ _ h => h) (by rfl) ?_ (by assumption) ?_; rotate_left; (focus (intro w0 hSw; (try dsimp only at hSw); go_simp; (try with_reducible rfl))); (try simp only [Act.put, List.setIfInBounds_toArray, List.set_cons_zero, List.set_cons_succ]))
                  (refine Rl.ready (rs := [5]) (by kernel_rfl) (by simp) ?_; refine Rl.AllReadyL.cons (o := _) rfl rfl (fun K hK => ?_) Rl.AllReadyL.nil; go_simp)
                  refine (l07KeyT frm ad _ (by omega) (by omega) (by omega) (by omega)).mono ?_
                  rintro e w2' ⟨rfl, hw2⟩
                  have b2 : Below W0.heap.size W0 w2' := by rw [hw2]; exact (Below.refl _ _).drew
                  have HTB := hide ((unhide HTA).below b2)
                  have HEB := hide ((unhide HEA).below b2)
                  have HSB := hide ((unhide HSA).below b2)
                  have HBB := hide ((unhide HBA).trans (b2.mono (Nat.le_of_lt (unhide HTA).lt)))
                  have HYB := hide ((unhide HYA).below b2)
                  have HNB' := hide ((unhide HNA).below b2)
                  clear b2 hw2 hHeld
                  refine hK.out _ _ ⟨sHE (unhide HNB') (unhide HYB), sHT (unhide HTB)⟩ (fun hHeld => ?_)
                  clear hK K
                  (try simp only [Act.put, List.setIfInBounds_toArray, List.set_cons_zero, List.set_cons_succ])
                  (refine Rl.tk (k := 18) (i := 12) (d := 104) (v := ?_) rfl rfl (by kernel_rfl) (by kernel_rfl) (by kernel_rfl) (by kernel_rfl) rfl (by kernel_rfl) (fun _ _ _ h => h) (by rfl) ?_ (by assumption) ?_; rotate_left; (focus (intro w0 hSw; (try dsimp only at hSw); go_simp; (try with_reducible rfl))); (try simp only [Act.put, List.setIfInBounds_toArray, List.set_cons_zero, List.set_cons_succ]))
                  (refine Rl.ready (rs := [13]) (by kernel_rfl) (by simp) ?_; refine Rl.AllReadyL.cons (o := _) rfl rfl (fun K hK => ?_) Rl.AllReadyL.nil; go_simp)
                  refine (l03PutC hh pp L dd (100 * frm + ad) til mt _ (by omega) (unhide HEB)).mono ?_
                  rintro e w3' ⟨v3, rfl, b3, hl3, hs3⟩
                  have HTC := hide ((unhide HTB).below b3)
                  have HSC := hide ((unhide HSB).below b3)
                  have HBC := hide ((unhide HBB).trans (b3.mono (Nat.le_of_lt (unhide HTB).lt)))
                  have HYC := hide ((unhide HYB).below b3)
                  have HNC := hide ((unhide HNB').below b3)
                  have hl3' : LstV w3' v3 (learnE EF frm til ns (t + 1)) w2'.heap.size w3'.heap.size := by rw [unhide HE1]; exact hl3
                  obtain ⟨a3, c3, rfl, hl4⟩ := hl3'
                  have hpos : 0 < (learnE EF frm til ns (t + 1)).length := by rw [unhide HE1]; exact unhide HNP
                  obtain ⟨g3, rfl⟩ : ∃ g3, a3 = some ⟨g3, 0, none⟩ := by
                    rcases hl4 with h | ⟨g3, e3, _⟩
                    · rw [h] at hpos; simp at hpos
                    · exact ⟨g3, e3⟩
                  have HEC := hide hl4.rm
                  clear b3 hl3 hl4 hs3 hpos hHeld
                  generalize putC L ⟨100 * frm + ad, til, mt⟩ = pc
                  refine hK.out _ _ ⟨sHE (unhide HNC) (unhide HYC), sHT (unhide HTC)⟩ (fun hHeld => ?_)
                  clear hK K
                  (try simp only [Act.put, List.setIfInBounds_toArray, List.set_cons_zero, List.set_cons_succ])
                  (refine Rl.tk (k := 18) (i := 14) (d := 91) (v := ?_) rfl rfl (by kernel_rfl) (by kernel_rfl) (by kernel_rfl) (by kernel_rfl) rfl (by kernel_rfl) (fun _ _ _ h => h) (by rfl) ?_ (by assumption) ?_; rotate_left; (focus (intro w0 hSw; (try dsimp only at hSw); go_simp; (try with_reducible rfl))); (try simp only [Act.put, List.setIfInBounds_toArray, List.set_cons_zero, List.set_cons_succ]))
                  (refine Rl.tk (k := 18) (i := 15) (d := 106) (v := ?_) rfl rfl (by kernel_rfl) (by kernel_rfl) (by kernel_rfl) (by kernel_rfl) rfl (by kernel_rfl) (fun _ _ _ h => h) (by rfl) ?_ (by assumption) ?_; rotate_left; (focus (intro w0 hSw; (try dsimp only at hSw); go_simp; (try with_reducible rfl))); (try simp only [Act.put, List.setIfInBounds_toArray, List.set_cons_zero, List.set_cons_succ]))
                  (refine Rl.tkS (k := 18) (i := 16) (d := 107) (v := ?_) rfl rfl (by kernel_rfl) (by kernel_rfl) (by kernel_rfl) rfl (fun _ _ _ h => h) (by rfl) ?_ (by assumption) ?_; rotate_left; (focus (intro w0 hSw; (try dsimp only at hSw); go_simp; (try with_reducible rfl))); (try simp only [Act.put, List.setIfInBounds_toArray, List.set_cons_zero, List.set_cons_succ]))
                  (refine Rl.tk (k := 18) (i := 17) (d := 108) (v := ?_) rfl rfl (by kernel_rfl) (by kernel_rfl) (by kernel_rfl) (by kernel_rfl) rfl (by kernel_rfl) (fun _ _ _ h => h) (by rfl) ?_ (by assumption) ?_; rotate_left; (focus (intro w0 hSw; (try dsimp only at hSw); go_simp; (try with_reducible rfl))); (try simp only [Act.put, List.setIfInBounds_toArray, List.set_cons_zero, List.set_cons_succ]))
                  obtain ⟨x0, x1⟩ := (unhide HTC).bx
                  have f0 := (unhide HTC).free 1
                  (refine Rl.ready (rs := [18]) (by kernel_rfl) (by simp) ?_; refine Rl.AllReadyL.last (o := _) rfl (by kernel_rfl) (fun K hK => ?_); go_simp)
                  have HTD := hide ((unhide HTC).set1 (.slice (some ⟨g3, 0, none⟩) (learnE EF frm til ns (t + 1)).length c3))
                  have HED := hide (rmT_tv (unhide HEC) (unhide HTC) 1 (.slice (some ⟨g3, 0, none⟩) (learnE EF frm til ns (t + 1)).length c3))
                  have HSD := hide (rmS_tv (unhide HSC) (unhide HTC) 1 (.slice (some ⟨g3, 0, none⟩) (learnE EF frm til ns (t + 1)).length c3))
                  have HBD := hide ((unhide HBC).setCell (p := ⟨O, 1, none⟩) (Nat.le_refl _) (.slice (some ⟨g3, 0, none⟩) (learnE EF frm til ns (t + 1)).length c3))
                  have HYD := hide ((unhide HYC).but (Below.heap_setCell w3' ⟨O, 1, none⟩ (.slice (some ⟨g3, 0, none⟩) (learnE EF frm til ns (t + 1)).length c3) _ (by show w.heap.size + 1 ≠ O; omega)))
                  have HND := hide (ed_but2 (unhide HNC) (Below.heap_setCell w3' ⟨O, 1, none⟩ (.slice (some ⟨g3, 0, none⟩) (learnE EF frm til ns (t + 1)).length c3) _ (by show wr.heap.size ≠ O; have := (unhide htv).lt; omega)))
                  clear hHeld x0 x1 f0
                  generalize hWD : w3'.setCell ⟨O, 1, none⟩ (.slice (some ⟨g3, 0, none⟩) (learnE EF frm til ns (t + 1)).length c3) = w4' at *
                  clear hWD
                  refine hK.out _ _ (sHE (unhide HND) (unhide HYD)) (fun hHeld => ?_)
                  clear hK K
                  (try simp only [Act.put, List.setIfInBounds_toArray, List.set_cons_zero, List.set_cons_succ])
                  refine Rl.done (by kernel_rfl) (NoPanic.normal ?_) _
                  clear hHeld
                  go_wp2_with fail
                  go_roundw
                  case rel => exact ⟨t + 1, by omega, by go_num, g3, 0, c3, HTD, HED, HSD, HBD⟩
                  case measure => simp [intOf]; omega
              · obtain rfl : N = t := by omega
                have HZr := hide ((unhide HZ5).under (unhide hbl) (by omega))
                obtain ⟨E9, hE9⟩ : ∃ E9, learnE EF frm til ns N = E9 := ⟨_, rfl⟩
                have HE9 : Hid (nowE es frm til ns = E9) := hide ((unhide HNE).trans hE9)
                rw [hE9] at htv hre
                clear hE9
                obtain ⟨x0, x1⟩ := (unhide htv).bx
                obtain ⟨r0, r1⟩ := (unhide HZr).bx
                have q0 := (unhide HZr).free 0
                have q1 := (unhide HZr).free 1
                have hne2 : ¬ O = w.heap.size + 2 := by omega
                have hne3 : ¬ w.heap.size + 2 = O := by omega
                have HLS := hide (rmS_tv (rmS_tv (unhide hrs) (unhide HZr) 0 (.slice (some ⟨bS, 0, none⟩) WA.length cS)) ((unhide HZr).set0 _) 1 (.slice (some ⟨hh, pp, none⟩) E9.length dd))
                have HLE := hide (rmT_tv (rmT_tv (unhide hre) (unhide HZr) 0 (.slice (some ⟨bS, 0, none⟩) WA.length cS)) ((unhide HZr).set0 _) 1 (.slice (some ⟨hh, pp, none⟩) E9.length dd))
                have HBF := hide (((unhide HBw).setCell (p := ⟨w.heap.size + 2, 0, none⟩) (by show w.heap.size ≤ w.heap.size + 2; omega) (.slice (some ⟨bS, 0, none⟩) WA.length cS)).setCell (p := ⟨w.heap.size + 2, 1, none⟩) (by show w.heap.size ≤ w.heap.size + 2; omega) (.slice (some ⟨hh, pp, none⟩) E9.length dd))
                obtain ⟨y0, y1, y2⟩ := unhide HYr
                go_wp2_with fail
                refine bodyPost_ret (v := .tuple #[.agg #[(.slice (some ⟨bS, 0, none⟩) WA.length cS), .slice (some ⟨hh, pp, none⟩) E9.length dd], .int .i64 0]) (by simp [results, Try.results36, go_sem, r0, r1, x0, x1]) rfl ⟨_, rfl, unhide HBF, ?_⟩
                rw [unhide HWA, unhide HE9]
                exact ⟨bS, 0, cS, hh, pp, dd, rfl, unhide hcS, unhide HLS, unhide HLE⟩
      · have hjk : j = k := by omega
        have HPL : Hid (placeS SF frm = j) := hide (Pl.place_of So.R.zero _ SF j (by omega) (unhide hat) (fun h => by omega))
        obtain ⟨x0, x1⟩ := (unhide HT4).bx
        obtain ⟨y0, y1, y2⟩ := unhide HY4
        have hy4 := (unhide HY4).lt
        clear hk hjk
        go_wp2_with fail
        clear x0 x1 y0 y1 y2
        have hjc : j ≤ cc := by omega
        have hal5 : Below w4.heap.size w4 (w4.alloc (.cells #[.int .i64 frm, .int .i64 an, .int .i64 til] 41)) := (Below.refl _ _).alloc (Nat.le_refl _) _
        have HX5 := hide (Tp.bx_new w4 ⟨frm, an, til⟩ 41)
        have HT5 := hide ((unhide HT4).below hal5)
        have HB5 := hide ((unhide HB4).trans (hal5.mono (unhide HB4).size))
        have HY5 := hide ((unhide HY4).below hal5)
        have HZ5 := hide ((unhide HZ4).below hal5)
        have HN5 := hide ((unhide HN4).below hal5)
        have HS5 := hide ((unhide HS4).below hal5)
        have HE5 := hide ((unhide HE4).below hal5)
        have HH5 : Hid ((w4.alloc (.cells #[.int .i64 frm, .int .i64 an, .int .i64 til] 41)).heap.size = w4.heap.size + 1) := hide (by simp)
        dsimp only at HX5
        generalize hW5 : w4.alloc (.cells #[.int .i64 frm, .int .i64 an, .int .i64 til] 41) = w5 at *
        clear hW5 hal5 HT4 HB4 HY4 HZ4 HN4 HS4 HE4
        generalize hB5 : w4.heap.size = B5 at *
        clear hB5
        obtain ⟨o1, hs1, ho1⟩ := sl_from g o k cc j (by omega)
        have HO1 := hide ho1
        clear ho1
        have hs0 := sl_to g o k cc j (by omega)
        have HAW : Hid (SF.take j ++ [⟨frm, an, til⟩] ++ SF.drop j = withS ss ⟨frm, an, til⟩) := hide (by have := unhide HWN; rw [unhide HPL] at this; exact this)
        have lt1 : Hid ((SF.take j).length = j) := hide (by rw [List.length_take, unhide HK]; omega)
        have ld1 : Hid ((SF.drop j).length = k - j) := hide (by rw [List.length_drop, unhide HK])
        have H1 := hide (rm_take (unhide HS5) j)
        have H3 : Hid (So.RM w5 (some ⟨g, o1, none⟩) (SF.drop j)) := hide (rm_drop (unhide HS5) (by rw [unhide HK]; exact hcc) (by rw [unhide HK]; omega) (unhide HO1))
        generalize hTK : SF.take j = TK at *
        generalize hDR : SF.drop j = DR at *
        clear hTK hDR
        go_cut [13] (fun q wx => q = .int .i64 j ∧ ∃ b c : Nat, Hid ((withS ss ⟨frm, an, til⟩).length ≤ c) ∧ Hid (TV wx O (.slice (some ⟨b, 0, none⟩) (withS ss ⟨frm, an, til⟩).length c) (.slice (some ⟨h, p, none⟩) EF.length d)) ∧ Hid (So.RM wx (some ⟨b, 0, none⟩) (withS ss ⟨frm, an, til⟩)) ∧ Hid (Tu.RM wx (some ⟨h, p, none⟩) EF) ∧ Hid (Below O w5 wx))
        case first =>
          refine wp_region_noPanic ?_
          refine Rl.drew (S := fun w' => Tp.Bx w' B5 ⟨frm, an, til⟩ ∧ w'.cell? ⟨B5, 0, none⟩ = some (.int .i64 frm) ∧ w'.cell? ⟨B5, 1, none⟩ = some (.int .i64 an) ∧ w'.cell? ⟨B5, 2, none⟩ = some (.int .i64 til)) (T := fun w' => TV w' O (.slice (some ⟨g, o, none⟩) k cc) (.slice (some ⟨h, p, none⟩) EF.length d) ∧ w'.cell? ⟨O, 0, none⟩ = some (.slice (some ⟨g, o, none⟩) k cc) ∧ w'.cell? ⟨O, 1, none⟩ = some (.slice (some ⟨h, p, none⟩) EF.length d)) 15 (by kernel_rfl) ⟨sHX (unhide HX5).drew, sHT (unhide HT5).drew⟩ (fun hHeld => ?_)

          (refine Rl.tk (k := 15) (i := 1) (d := 61) (v := ?_) rfl rfl (by kernel_rfl) (by kernel_rfl) (by kernel_rfl) (by kernel_rfl) rfl (by kernel_rfl) (fun _ _ _ h => h) (by rfl) ?_ (by assumption) ?_; rotate_left; (focus (intro w0 hSw; (try dsimp only at hSw); go_simp; (try with_reducible rfl))); (try simp only [Act.put, List.setIfInBounds_toArray, List.set_cons_zero, List.set_cons_succ]))
          (refine Rl.tk (k := 15) (i := 2) (d := 62) (v := ?_) rfl rfl (by kernel_rfl) (by kernel_rfl) (by kernel_rfl) (by kernel_rfl) rfl (by kernel_rfl) (fun _ _ _ h => h) (by rfl) ?_ (by assumption) ?_; rotate_left; (focus (intro w0 hSw; (try dsimp only at hSw); go_simp; (try with_reducible rfl))); (try simp only [Act.put, List.setIfInBounds_toArray, List.set_cons_zero, List.set_cons_succ]))
          (refine Rl.tk (k := 15) (i := 3) (d := 63) (v := ?_) rfl rfl (by kernel_rfl) (by kernel_rfl) (by kernel_rfl) (by kernel_rfl) rfl (by kernel_rfl) (fun _ _ _ h => h) (by rfl) ?_ (by assumption) ?_; rotate_left; (focus (intro w0 hSw; (try dsimp only at hSw); go_simp; (try with_reducible rfl))); (try simp only [Act.put, List.setIfInBounds_toArray, List.set_cons_zero, List.set_cons_succ]))
          (refine Rl.tk (k := 15) (i := 4) (d := 64) (v := ?_) rfl rfl (by kernel_rfl) (by kernel_rfl) (by kernel_rfl) (by kernel_rfl) rfl (by kernel_rfl) (fun _ _ _ h => h) (by rfl) ?_ (by assumption) ?_; rotate_left; (focus (intro w0 hSw; (try dsimp only at hSw); go_simp; (try with_reducible rfl))); (try simp only [Act.put, List.setIfInBounds_toArray, List.set_cons_zero, List.set_cons_succ]))
          (refine Rl.tk (k := 15) (i := 6) (d := 66) (v := ?_) rfl rfl (by kernel_rfl) (by kernel_rfl) (by kernel_rfl) (by kernel_rfl) rfl (by kernel_rfl) (fun _ _ _ h => h) (by rfl) ?_ (by assumption) ?_; rotate_left; (focus (intro w0 hSw; (try dsimp only at hSw); go_simp; (try with_reducible rfl))); (try simp only [Act.put, List.setIfInBounds_toArray, List.set_cons_zero, List.set_cons_succ]))
          (refine Rl.tk (k := 15) (i := 9) (d := 69) (v := ?_) rfl rfl (by kernel_rfl) (by kernel_rfl) (by kernel_rfl) (by kernel_rfl) rfl (by kernel_rfl) (fun _ _ _ h => h) (by rfl) ?_ (by assumption) ?_; rotate_left; (focus (intro w0 hSw; (try dsimp only at hSw); go_simp; (try with_reducible rfl))); (try simp only [Act.put, List.setIfInBounds_toArray, List.set_cons_zero, List.set_cons_succ]))
          (refine Rl.tk (k := 15) (i := 10) (d := 70) (v := ?_) rfl rfl (by kernel_rfl) (by kernel_rfl) (by kernel_rfl) (by kernel_rfl) rfl (by kernel_rfl) (fun _ _ _ h => h) (by rfl) ?_ (by assumption) ?_; rotate_left; (focus (intro w0 hSw; (try dsimp only at hSw); go_simp; (try with_reducible rfl))); (try simp only [Act.put, List.setIfInBounds_toArray, List.set_cons_zero, List.set_cons_succ]))
          (refine Rl.tk (k := 15) (i := 11) (d := 71) (v := ?_) rfl rfl (by kernel_rfl) (by kernel_rfl) (by kernel_rfl) (by kernel_rfl) rfl (by kernel_rfl) (fun _ _ _ h => h) (by rfl) ?_ (by assumption) ?_; rotate_left; (focus (intro w0 hSw; (try dsimp only at hSw); go_simp; (try with_reducible rfl))); (try simp only [Act.put, List.setIfInBounds_toArray, List.set_cons_zero, List.set_cons_succ]))
          (refine Rl.tk (k := 15) (i := 12) (d := 72) (v := ?_) rfl rfl (by kernel_rfl) (by kernel_rfl) (by kernel_rfl) (by kernel_rfl) rfl (by kernel_rfl) (fun _ _ _ h => h) (by rfl) ?_ (by assumption) ?_; rotate_left; (focus (intro w0 hSw; (try dsimp only at hSw); go_simp; (try with_reducible rfl))); (try simp only [Act.put, List.setIfInBounds_toArray, List.set_cons_zero, List.set_cons_succ]))
          (refine Rl.ready (rs := [0, 7]) (by kernel_rfl) (by simp) ?_; refine Rl.AllReadyL.cons (o := _) rfl rfl (fun K hK => ?_) (Rl.AllReadyL.cons (o := _) rfl rfl (fun K hK => ?_) (Rl.AllReadyL.nil)))
          · go_simp
            have Bw6 : Hid (Below w5.heap.size w5 ((w5.alloc (.cells #[] 41)).drew)) := hide (((Below.refl _ _).alloc (Nat.le_refl _) _).drew)
            have Ow6 : Hid (((w5.alloc (.cells #[] 41)).drew).ownsRow w5.heap.size 41 3 (.slice (some ⟨w5.heap.size, 0, none⟩) 0 0) ([] : List So.R).length (So.flat [])) := hide ((So.own_empty w5 w5.heap.size (Nat.le_refl _)).drew)
            have HHw6 : Hid (((w5.alloc (.cells #[] 41)).drew).heap.size = w5.heap.size + 1) := hide (by show (w5.alloc (.cells #[] 41)).heap.size = _; simp)
            clear hHeld
            generalize hW_w6 : (w5.alloc (.cells #[] 41)).drew = w6 at *
            clear hW_w6
            refine hK.out _ _ ⟨sHX ((unhide HX5).below (unhide Bw6)), sHT ((unhide HT5).below (unhide Bw6))⟩ (fun hHeld => ?_)
            clear hK K
            (try simp only [Act.put, List.setIfInBounds_toArray, List.set_cons_zero, List.set_cons_succ])
            (refine Rl.ready (rs := [5, 7]) (by kernel_rfl) (by simp) ?_; refine Rl.AllReadyL.cons (o := _) rfl rfl (fun K hK => ?_) (Rl.AllReadyL.cons (o := _) rfl rfl (fun K hK => ?_) (Rl.AllReadyL.nil)))
            · rw [if_pos (by rfl)]
              refine apGSo (unhide Ow6) (by simp) g o j cc TK (unhide lt1) ((unhide H1).below (unhide Bw6)) (by have := unhide lt1; have := unhide ld1; (try simp only [List.length_cons, List.length_nil]); omega) (unhide Bw6).size _ _ rfl rfl rfl rfl ?_
              intro b5 c5 w7 ho5 hc5 hg5
              simp only [List.nil_append] at ho5 hc5 ⊢
              have Ow7 := hide ho5
              have Cw7 := hide hc5
              have Bw7 := hide (So.below_own (unhide Bw6) (unhide Ow6) hg5 (Nat.le_refl _) (unhide Bw6).size)
              clear ho5 hc5 hg5 hHeld
              refine hK.out _ _ ⟨sHX ((unhide HX5).below (unhide Bw7)), sHT ((unhide HT5).below (unhide Bw7))⟩ (fun hHeld => ?_)
              clear hK K
              (try simp only [Act.put, List.setIfInBounds_toArray, List.set_cons_zero, List.set_cons_succ])
              (refine Rl.ready (rs := [7]) (by kernel_rfl) (by simp) ?_; refine Rl.AllReadyL.cons (o := _) rfl rfl (fun K hK => ?_) Rl.AllReadyL.nil; go_simp)
              have Bw8 : Hid (Below w5.heap.size w5 (w7.alloc (.cells #[.int .i64 frm, .int .i64 an, .int .i64 til] 41))) := hide ((unhide Bw7).alloc (unhide Bw7).size _)
              have Ow8 := hide ((unhide Ow7).alloc (.cells #[.int .i64 frm, .int .i64 an, .int .i64 til] 41))
              have Xw8 : Hid (So.RM (w7.alloc (.cells #[.int .i64 frm, .int .i64 an, .int .i64 til] 41)) (some ⟨w7.heap.size, 0, none⟩) [(⟨frm, an, til⟩ : So.R)]) := hide (So.rm_new w7 (⟨frm, an, til⟩ : So.R))
              have HHw8 : Hid ((w7.alloc (.cells #[.int .i64 frm, .int .i64 an, .int .i64 til] 41)).heap.size = w7.heap.size + 1) := hide (by simp)
              clear hHeld
              generalize hW_w8 : w7.alloc (.cells #[.int .i64 frm, .int .i64 an, .int .i64 til] 41) = w8 at *
              clear hW_w8
              refine hK.out _ _ ⟨sHX ((unhide HX5).below (unhide Bw8)), sHT ((unhide HT5).below (unhide Bw8))⟩ (fun hHeld => ?_)
              clear hK K
              (try simp only [Act.put, List.setIfInBounds_toArray, List.set_cons_zero, List.set_cons_succ])
              (refine Rl.ready (rs := [8]) (by kernel_rfl) (by simp) ?_; refine Rl.AllReadyL.cons (o := _) rfl rfl (fun K hK => ?_) Rl.AllReadyL.nil; rw [if_pos (by rfl)])
              refine apGSo (unhide Ow8) (by simp) w7.heap.size 0 1 1 [(⟨frm, an, til⟩ : So.R)] rfl (unhide Xw8) (by have := unhide lt1; have := unhide ld1; (try simp only [List.length_cons, List.length_nil]); omega) (unhide Bw8).size _ _ rfl rfl rfl rfl ?_
              intro b8 c8 w8b ho8 hc8 hg8
              obtain ⟨A8, hA8⟩ : ∃ A8, TK ++ [(⟨frm, an, til⟩ : So.R)] = A8 := ⟨_, rfl⟩
              rw [hA8] at ho8 hc8 ⊢
              have hl8 : A8.length ≤ 10 := by rw [← hA8, List.length_append, unhide lt1]; simp; omega
              have HA8 := hide hA8
              clear hA8
              have Ow8b := hide ho8
              have Cw8b := hide hc8
              have Bw8b := hide (So.below_own (unhide Bw8) (unhide Ow8) hg8 (Nat.le_refl _) (unhide Bw8).size)
              clear ho8 hc8 hg8 hHeld
              refine hK.out _ _ ⟨sHX ((unhide HX5).below (unhide Bw8b)), sHT ((unhide HT5).below (unhide Bw8b))⟩ (fun hHeld => ?_)
              clear hK K
              (try simp only [Act.put, List.setIfInBounds_toArray, List.set_cons_zero, List.set_cons_succ])
              (refine Rl.ready (rs := [13]) (by kernel_rfl) (by simp) ?_; refine Rl.AllReadyL.cons (o := _) rfl rfl (fun K hK => ?_) Rl.AllReadyL.nil; rw [if_pos (by rfl)])
              refine apGSo (unhide Ow8b) (by simp) g o1 (k - j) (cc - j) DR (unhide ld1) ((unhide H3).below (unhide Bw8b)) (by have := unhide lt1; have := unhide ld1; (try simp only [List.length_cons, List.length_nil]); omega) (unhide Bw8b).size _ _ rfl rfl rfl rfl ?_
              intro b13 c13 w8c ho13 hc13 hg13
              obtain ⟨AA, hAA⟩ : ∃ AA, A8 ++ DR = AA := ⟨_, rfl⟩
              rw [hAA] at ho13 hc13 ⊢
              have HAA : Hid (AA = withS ss ⟨frm, an, til⟩) := hide (by rw [← hAA, ← unhide HA8]; exact unhide HAW)
              clear hAA
              have Ow8c := hide ho13
              have Cw8c := hide hc13
              have Bw8c := hide (So.below_own (unhide Bw8b) (unhide Ow8b) hg13 (Nat.le_refl _) (unhide Bw8b).size)
              clear ho13 hc13 hg13 hHeld
              refine hK.out _ _ ⟨sHX ((unhide HX5).below (unhide Bw8c)), sHT ((unhide HT5).below (unhide Bw8c))⟩ (fun hHeld => ?_)
              clear hK K
              (try simp only [Act.put, List.setIfInBounds_toArray, List.set_cons_zero, List.set_cons_succ])
              (refine Rl.tk (k := 15) (i := 14) (d := 74) (v := ?_) rfl rfl (by kernel_rfl) (by kernel_rfl) (by kernel_rfl) (by kernel_rfl) rfl (by kernel_rfl) (fun _ _ _ h => h) (by rfl) ?_ (by assumption) ?_; rotate_left; (focus (intro w0 hSw; (try dsimp only at hSw); go_simp; (try with_reducible rfl))); (try simp only [Act.put, List.setIfInBounds_toArray, List.set_cons_zero, List.set_cons_succ]))
              have HT9 := hide ((unhide HT5).below (unhide Bw8c))
              have HE9 := hide ((unhide HE5).below (unhide Bw8c))
              have HL9 := hide (lst_fm rfl (unhide Ow8c)).rm
              obtain ⟨x0, x1⟩ := (unhide HT9).bx
              have f0 := (unhide HT9).free 0
              (refine Rl.ready (rs := [15]) (by kernel_rfl) (by simp) ?_; refine Rl.AllReadyL.last (o := _) rfl (by kernel_rfl) (fun K hK => ?_); go_simp)
              have HTA := hide ((unhide HT9).set0 (.slice (some ⟨b13, 0, none⟩) AA.length c13))
              have HEA := hide (rmT_tv (unhide HE9) (unhide HT9) 0 (.slice (some ⟨b13, 0, none⟩) AA.length c13))
              have HLA := hide (rmS_tv (unhide HL9) (unhide HT9) 0 (.slice (some ⟨b13, 0, none⟩) AA.length c13))
              have HBA : Hid (Below O w5 (w8c.setCell ⟨O, 0, none⟩ (.slice (some ⟨b13, 0, none⟩) AA.length c13))) := hide (((unhide Bw8c).mono (by have := unhide HH4; have := unhide HH5; show O ≤ w5.heap.size; omega)).setCell (p := ⟨O, 0, none⟩) (Nat.le_refl _) (.slice (some ⟨b13, 0, none⟩) AA.length c13))
              have HXA := hide (sHX (((unhide HX5).below (unhide Bw8c)).but0 (Below.heap_setCell w8c ⟨O, 0, none⟩ (.slice (some ⟨b13, 0, none⟩) AA.length c13) _ (by have := unhide HH4; show B5 ≠ O; omega))))
              have HHA : Hid ((w8c.setCell ⟨O, 0, none⟩ (.slice (some ⟨b13, 0, none⟩) AA.length c13)).heap.size = w8c.heap.size) := hide (by simp [World.setCell])
              have hsB := (unhide Bw8c).size
              clear hHeld x0 x1 f0
              generalize hWA : w8c.setCell ⟨O, 0, none⟩ (.slice (some ⟨b13, 0, none⟩) AA.length c13) = w9 at *
              clear hWA
              refine hK.out _ _ (unhide HXA) (fun hHeld => ?_)
              clear hK K
              (try simp only [Act.put, List.setIfInBounds_toArray, List.set_cons_zero, List.set_cons_succ])
              refine Rl.done (by kernel_rfl) (NoPanic.normal ?_) _
              clear hHeld
              go_wp2_with fail
              go_meet
              case rel => exact ⟨rfl, b13, c13, hide (by rw [← unhide HAA]; exact unhide Cw8c), hide (by rw [← unhide HAA]; exact unhide HTA), hide (by rw [← unhide HAA]; exact unhide HLA), HEA, HBA⟩
            · go_simp
              have Bw7 : Hid (Below w5.heap.size w5 (w6.alloc (.cells #[.int .i64 frm, .int .i64 an, .int .i64 til] 41))) := hide ((unhide Bw6).alloc (unhide Bw6).size _)
              have Ow7 := hide ((unhide Ow6).alloc (.cells #[.int .i64 frm, .int .i64 an, .int .i64 til] 41))
              have Xw7 : Hid (So.RM (w6.alloc (.cells #[.int .i64 frm, .int .i64 an, .int .i64 til] 41)) (some ⟨w6.heap.size, 0, none⟩) [(⟨frm, an, til⟩ : So.R)]) := hide (So.rm_new w6 (⟨frm, an, til⟩ : So.R))
              have HHw7 : Hid ((w6.alloc (.cells #[.int .i64 frm, .int .i64 an, .int .i64 til] 41)).heap.size = w6.heap.size + 1) := hide (by simp)
              clear hHeld
              generalize hW_w7 : w6.alloc (.cells #[.int .i64 frm, .int .i64 an, .int .i64 til] 41) = w7 at *
              clear hW_w7
              refine hK.out _ _ ⟨sHX ((unhide HX5).below (unhide Bw7)), sHT ((unhide HT5).below (unhide Bw7))⟩ (fun hHeld => ?_)
              clear hK K
              (try simp only [Act.put, List.setIfInBounds_toArray, List.set_cons_zero, List.set_cons_succ])
              (refine Rl.ready (rs := [5]) (by kernel_rfl) (by simp) ?_; refine Rl.AllReadyL.cons (o := _) rfl rfl (fun K hK => ?_) Rl.AllReadyL.nil; rw [if_pos (by rfl)])
              refine apGSo (unhide Ow7) (by simp) g o j cc TK (unhide lt1) ((unhide H1).below (unhide Bw7)) (by have := unhide lt1; have := unhide ld1; (try simp only [List.length_cons, List.length_nil]); omega) (unhide Bw7).size _ _ rfl rfl rfl rfl ?_
              intro b5 c5 w8 ho5 hc5 hg5
              simp only [List.nil_append] at ho5 hc5 ⊢
              have Ow8 := hide ho5
              have Cw8 := hide hc5
              have Bw8 := hide (So.below_own (unhide Bw7) (unhide Ow7) hg5 (Nat.le_refl _) (unhide Bw7).size)
              have Xw8 := hide (rm_new_grown (unhide Xw7) hg5 (by have := unhide HHw6; simp [Value.ownBlock]; omega))
              clear ho5 hc5 hg5 hHeld
              refine hK.out _ _ ⟨sHX ((unhide HX5).below (unhide Bw8)), sHT ((unhide HT5).below (unhide Bw8))⟩ (fun hHeld => ?_)
              clear hK K
              (try simp only [Act.put, List.setIfInBounds_toArray, List.set_cons_zero, List.set_cons_succ])
              (refine Rl.ready (rs := [8]) (by kernel_rfl) (by simp) ?_; refine Rl.AllReadyL.cons (o := _) rfl rfl (fun K hK => ?_) Rl.AllReadyL.nil; rw [if_pos (by rfl)])
              refine apGSo (unhide Ow8) (by simp) w6.heap.size 0 1 1 [(⟨frm, an, til⟩ : So.R)] rfl (unhide Xw8) (by have := unhide lt1; have := unhide ld1; (try simp only [List.length_cons, List.length_nil]); omega) (unhide Bw8).size _ _ rfl rfl rfl rfl ?_
              intro b8 c8 w8b ho8 hc8 hg8
              obtain ⟨A8, hA8⟩ : ∃ A8, TK ++ [(⟨frm, an, til⟩ : So.R)] = A8 := ⟨_, rfl⟩
              rw [hA8] at ho8 hc8 ⊢
              have hl8 : A8.length ≤ 10 := by rw [← hA8, List.length_append, unhide lt1]; simp; omega
              have HA8 := hide hA8
              clear hA8
              have Ow8b := hide ho8
              have Cw8b := hide hc8
              have Bw8b := hide (So.below_own (unhide Bw8) (unhide Ow8) hg8 (Nat.le_refl _) (unhide Bw8).size)
              clear ho8 hc8 hg8 hHeld
              refine hK.out _ _ ⟨sHX ((unhide HX5).below (unhide Bw8b)), sHT ((unhide HT5).below (unhide Bw8b))⟩ (fun hHeld => ?_)
              clear hK K
              (try simp only [Act.put, List.setIfInBounds_toArray, List.set_cons_zero, List.set_cons_succ])
              (refine Rl.ready (rs := [13]) (by kernel_rfl) (by simp) ?_; refine Rl.AllReadyL.cons (o := _) rfl rfl (fun K hK => ?_) Rl.AllReadyL.nil; rw [if_pos (by rfl)])
              refine apGSo (unhide Ow8b) (by simp) g o1 (k - j) (cc - j) DR (unhide ld1) ((unhide H3).below (unhide Bw8b)) (by have := unhide lt1; have := unhide ld1; (try simp only [List.length_cons, List.length_nil]); omega) (unhide Bw8b).size _ _ rfl rfl rfl rfl ?_
              intro b13 c13 w8c ho13 hc13 hg13
              obtain ⟨AA, hAA⟩ : ∃ AA, A8 ++ DR = AA := ⟨_, rfl⟩
              rw [hAA] at ho13 hc13 ⊢
              have HAA : Hid (AA = withS ss ⟨frm, an, til⟩) := hide (by rw [← hAA, ← unhide HA8]; exact unhide HAW)
              clear hAA
              have Ow8c := hide ho13
              have Cw8c := hide hc13
              have Bw8c := hide (So.below_own (unhide Bw8b) (unhide Ow8b) hg13 (Nat.le_refl _) (unhide Bw8b).size)
              clear ho13 hc13 hg13 hHeld
              refine hK.out _ _ ⟨sHX ((unhide HX5).below (unhide Bw8c)), sHT ((unhide HT5).below (unhide Bw8c))⟩ (fun hHeld => ?_)
              clear hK K
              (try simp only [Act.put, List.setIfInBounds_toArray, List.set_cons_zero, List.set_cons_succ])
              (refine Rl.tk (k := 15) (i := 14) (d := 74) (v := ?_) rfl rfl (by kernel_rfl) (by kernel_rfl) (by kernel_rfl) (by kernel_rfl) rfl (by kernel_rfl) (fun _ _ _ h => h) (by rfl) ?_ (by assumption) ?_; rotate_left; (focus (intro w0 hSw; (try dsimp only at hSw); go_simp; (try with_reducible rfl))); (try simp only [Act.put, List.setIfInBounds_toArray, List.set_cons_zero, List.set_cons_succ]))
              have HT9 := hide ((unhide HT5).below (unhide Bw8c))
              have HE9 := hide ((unhide HE5).below (unhide Bw8c))
              have HL9 := hide (lst_fm rfl (unhide Ow8c)).rm
              obtain ⟨x0, x1⟩ := (unhide HT9).bx
              have f0 := (unhide HT9).free 0
              (refine Rl.ready (rs := [15]) (by kernel_rfl) (by simp) ?_; refine Rl.AllReadyL.last (o := _) rfl (by kernel_rfl) (fun K hK => ?_); go_simp)
              have HTA := hide ((unhide HT9).set0 (.slice (some ⟨b13, 0, none⟩) AA.length c13))
              have HEA := hide (rmT_tv (unhide HE9) (unhide HT9) 0 (.slice (some ⟨b13, 0, none⟩) AA.length c13))
              have HLA := hide (rmS_tv (unhide HL9) (unhide HT9) 0 (.slice (some ⟨b13, 0, none⟩) AA.length c13))
              have HBA : Hid (Below O w5 (w8c.setCell ⟨O, 0, none⟩ (.slice (some ⟨b13, 0, none⟩) AA.length c13))) := hide (((unhide Bw8c).mono (by have := unhide HH4; have := unhide HH5; show O ≤ w5.heap.size; omega)).setCell (p := ⟨O, 0, none⟩) (Nat.le_refl _) (.slice (some ⟨b13, 0, none⟩) AA.length c13))
              have HXA := hide (sHX (((unhide HX5).below (unhide Bw8c)).but0 (Below.heap_setCell w8c ⟨O, 0, none⟩ (.slice (some ⟨b13, 0, none⟩) AA.length c13) _ (by have := unhide HH4; show B5 ≠ O; omega))))
              have HHA : Hid ((w8c.setCell ⟨O, 0, none⟩ (.slice (some ⟨b13, 0, none⟩) AA.length c13)).heap.size = w8c.heap.size) := hide (by simp [World.setCell])
              have hsB := (unhide Bw8c).size
              clear hHeld x0 x1 f0
              generalize hWA : w8c.setCell ⟨O, 0, none⟩ (.slice (some ⟨b13, 0, none⟩) AA.length c13) = w9 at *
              clear hWA
              refine hK.out _ _ (unhide HXA) (fun hHeld => ?_)
              clear hK K
              (try simp only [Act.put, List.setIfInBounds_toArray, List.set_cons_zero, List.set_cons_succ])
              refine Rl.done (by kernel_rfl) (NoPanic.normal ?_) _
              clear hHeld
              go_wp2_with fail
              go_meet
              case rel => exact ⟨rfl, b13, c13, hide (by rw [← unhide HAA]; exact unhide Cw8c), hide (by rw [← unhide HAA]; exact unhide HTA), hide (by rw [← unhide HAA]; exact unhide HLA), HEA, HBA⟩
          · go_simp
            have Bw6 : Hid (Below w5.heap.size w5 ((w5.alloc (.cells #[.int .i64 frm, .int .i64 an, .int .i64 til] 41)).drew)) := hide (((Below.refl _ _).alloc (Nat.le_refl _) _).drew)
            have Xw6 : Hid (So.RM ((w5.alloc (.cells #[.int .i64 frm, .int .i64 an, .int .i64 til] 41)).drew) (some ⟨w5.heap.size, 0, none⟩) [(⟨frm, an, til⟩ : So.R)]) := hide ((So.rm_new w5 (⟨frm, an, til⟩ : So.R)).drew)
            have HHw6 : Hid (((w5.alloc (.cells #[.int .i64 frm, .int .i64 an, .int .i64 til] 41)).drew).heap.size = w5.heap.size + 1) := hide (by show (w5.alloc (.cells #[.int .i64 frm, .int .i64 an, .int .i64 til] 41)).heap.size = _; simp)
            clear hHeld
            generalize hW_w6 : (w5.alloc (.cells #[.int .i64 frm, .int .i64 an, .int .i64 til] 41)).drew = w6 at *
            clear hW_w6
            refine hK.out _ _ ⟨sHX ((unhide HX5).below (unhide Bw6)), sHT ((unhide HT5).below (unhide Bw6))⟩ (fun hHeld => ?_)
            clear hK K
            (try simp only [Act.put, List.setIfInBounds_toArray, List.set_cons_zero, List.set_cons_succ])
            (refine Rl.ready (rs := [0]) (by kernel_rfl) (by simp) ?_; refine Rl.AllReadyL.cons (o := _) rfl rfl (fun K hK => ?_) Rl.AllReadyL.nil; go_simp)
            have Bw7 : Hid (Below w5.heap.size w5 (w6.alloc (.cells #[] 41))) := hide ((unhide Bw6).alloc (unhide Bw6).size _)
            have Ow7 : Hid ((w6.alloc (.cells #[] 41)).ownsRow w5.heap.size 41 3 (.slice (some ⟨w6.heap.size, 0, none⟩) 0 0) ([] : List So.R).length (So.flat [])) := hide (So.own_empty w6 w5.heap.size (unhide Bw6).size)
            have Xw7 := hide ((unhide Xw6).below ((Below.refl _ _).alloc (Nat.le_refl _) (.cells #[] 41)))
            have HHw7 : Hid ((w6.alloc (.cells #[] 41)).heap.size = w6.heap.size + 1) := hide (by simp)
            clear hHeld
            generalize hW_w7 : w6.alloc (.cells #[] 41) = w7 at *
            clear hW_w7
            refine hK.out _ _ ⟨sHX ((unhide HX5).below (unhide Bw7)), sHT ((unhide HT5).below (unhide Bw7))⟩ (fun hHeld => ?_)
            clear hK K
            (try simp only [Act.put, List.setIfInBounds_toArray, List.set_cons_zero, List.set_cons_succ])
            (refine Rl.ready (rs := [5]) (by kernel_rfl) (by simp) ?_; refine Rl.AllReadyL.cons (o := _) rfl rfl (fun K hK => ?_) Rl.AllReadyL.nil; rw [if_pos (by rfl)])
            refine apGSo (unhide Ow7) (by simp) g o j cc TK (unhide lt1) ((unhide H1).below (unhide Bw7)) (by have := unhide lt1; have := unhide ld1; (try simp only [List.length_cons, List.length_nil]); omega) (unhide Bw7).size _ _ rfl rfl rfl rfl ?_
            intro b5 c5 w8 ho5 hc5 hg5
            simp only [List.nil_append] at ho5 hc5 ⊢
            have Ow8 := hide ho5
            have Cw8 := hide hc5
            have Bw8 := hide (So.below_own (unhide Bw7) (unhide Ow7) hg5 (Nat.le_refl _) (unhide Bw7).size)
            have Xw8 := hide (rm_new_grown (unhide Xw7) hg5 (by have := unhide HHw6; simp [Value.ownBlock]; omega))
            clear ho5 hc5 hg5 hHeld
            refine hK.out _ _ ⟨sHX ((unhide HX5).below (unhide Bw8)), sHT ((unhide HT5).below (unhide Bw8))⟩ (fun hHeld => ?_)
            clear hK K
            (try simp only [Act.put, List.setIfInBounds_toArray, List.set_cons_zero, List.set_cons_succ])
            (refine Rl.ready (rs := [8]) (by kernel_rfl) (by simp) ?_; refine Rl.AllReadyL.cons (o := _) rfl rfl (fun K hK => ?_) Rl.AllReadyL.nil; rw [if_pos (by rfl)])
            refine apGSo (unhide Ow8) (by simp) w5.heap.size 0 1 1 [(⟨frm, an, til⟩ : So.R)] rfl (unhide Xw8) (by have := unhide lt1; have := unhide ld1; (try simp only [List.length_cons, List.length_nil]); omega) (unhide Bw8).size _ _ rfl rfl rfl rfl ?_
            intro b8 c8 w8b ho8 hc8 hg8
            obtain ⟨A8, hA8⟩ : ∃ A8, TK ++ [(⟨frm, an, til⟩ : So.R)] = A8 := ⟨_, rfl⟩
            rw [hA8] at ho8 hc8 ⊢
            have hl8 : A8.length ≤ 10 := by rw [← hA8, List.length_append, unhide lt1]; simp; omega
            have HA8 := hide hA8
            clear hA8
            have Ow8b := hide ho8
            have Cw8b := hide hc8
            have Bw8b := hide (So.below_own (unhide Bw8) (unhide Ow8) hg8 (Nat.le_refl _) (unhide Bw8).size)
            clear ho8 hc8 hg8 hHeld
            refine hK.out _ _ ⟨sHX ((unhide HX5).below (unhide Bw8b)), sHT ((unhide HT5).below (unhide Bw8b))⟩ (fun hHeld => ?_)
            clear hK K
            (try simp only [Act.put, List.setIfInBounds_toArray, List.set_cons_zero, List.set_cons_succ])
            (refine Rl.ready (rs := [13]) (by kernel_rfl) (by simp) ?_; refine Rl.AllReadyL.cons (o := _) rfl rfl (fun K hK => ?_) Rl.AllReadyL.nil; rw [if_pos (by rfl)])
            refine apGSo (unhide Ow8b) (by simp) g o1 (k - j) (cc - j) DR (unhide ld1) ((unhide H3).below (unhide Bw8b)) (by have := unhide lt1; have := unhide ld1; (try simp only [List.length_cons, List.length_nil]); omega) (unhide Bw8b).size _ _ rfl rfl rfl rfl ?_
            intro b13 c13 w8c ho13 hc13 hg13
            obtain ⟨AA, hAA⟩ : ∃ AA, A8 ++ DR = AA := ⟨_, rfl⟩
            rw [hAA] at ho13 hc13 ⊢
            have HAA : Hid (AA = withS ss ⟨frm, an, til⟩) := hide (by rw [← hAA, ← unhide HA8]; exact unhide HAW)
            clear hAA
            have Ow8c := hide ho13
            have Cw8c := hide hc13
            have Bw8c := hide (So.below_own (unhide Bw8b) (unhide Ow8b) hg13 (Nat.le_refl _) (unhide Bw8b).size)
            clear ho13 hc13 hg13 hHeld
            refine hK.out _ _ ⟨sHX ((unhide HX5).below (unhide Bw8c)), sHT ((unhide HT5).below (unhide Bw8c))⟩ (fun hHeld => ?_)
            clear hK K
            (try simp only [Act.put, List.setIfInBounds_toArray, List.set_cons_zero, List.set_cons_succ])
            (refine Rl.tk (k := 15) (i := 14) (d := 74) (v := ?_) rfl rfl (by kernel_rfl) (by kernel_rfl) (by kernel_rfl) (by kernel_rfl) rfl (by kernel_rfl) (fun _ _ _ h => h) (by rfl) ?_ (by assumption) ?_; rotate_left; (focus (intro w0 hSw; (try dsimp only at hSw); go_simp; (try with_reducible rfl))); (try simp only [Act.put, List.setIfInBounds_toArray, List.set_cons_zero, List.set_cons_succ]))
            have HT9 := hide ((unhide HT5).below (unhide Bw8c))
            have HE9 := hide ((unhide HE5).below (unhide Bw8c))
            have HL9 := hide (lst_fm rfl (unhide Ow8c)).rm
            obtain ⟨x0, x1⟩ := (unhide HT9).bx
            have f0 := (unhide HT9).free 0
            (refine Rl.ready (rs := [15]) (by kernel_rfl) (by simp) ?_; refine Rl.AllReadyL.last (o := _) rfl (by kernel_rfl) (fun K hK => ?_); go_simp)
            have HTA := hide ((unhide HT9).set0 (.slice (some ⟨b13, 0, none⟩) AA.length c13))
            have HEA := hide (rmT_tv (unhide HE9) (unhide HT9) 0 (.slice (some ⟨b13, 0, none⟩) AA.length c13))
            have HLA := hide (rmS_tv (unhide HL9) (unhide HT9) 0 (.slice (some ⟨b13, 0, none⟩) AA.length c13))
            have HBA : Hid (Below O w5 (w8c.setCell ⟨O, 0, none⟩ (.slice (some ⟨b13, 0, none⟩) AA.length c13))) := hide (((unhide Bw8c).mono (by have := unhide HH4; have := unhide HH5; show O ≤ w5.heap.size; omega)).setCell (p := ⟨O, 0, none⟩) (Nat.le_refl _) (.slice (some ⟨b13, 0, none⟩) AA.length c13))
            have HXA := hide (sHX (((unhide HX5).below (unhide Bw8c)).but0 (Below.heap_setCell w8c ⟨O, 0, none⟩ (.slice (some ⟨b13, 0, none⟩) AA.length c13) _ (by have := unhide HH4; show B5 ≠ O; omega))))
            have HHA : Hid ((w8c.setCell ⟨O, 0, none⟩ (.slice (some ⟨b13, 0, none⟩) AA.length c13)).heap.size = w8c.heap.size) := hide (by simp [World.setCell])
            have hsB := (unhide Bw8c).size
            clear hHeld x0 x1 f0
            generalize hWA : w8c.setCell ⟨O, 0, none⟩ (.slice (some ⟨b13, 0, none⟩) AA.length c13) = w9 at *
            clear hWA
            refine hK.out _ _ (unhide HXA) (fun hHeld => ?_)
            clear hK K
            (try simp only [Act.put, List.setIfInBounds_toArray, List.set_cons_zero, List.set_cons_succ])
            refine Rl.done (by kernel_rfl) (NoPanic.normal ?_) _
            clear hHeld
            go_wp2_with fail
            go_meet
            case rel => exact ⟨rfl, b13, c13, hide (by rw [← unhide HAA]; exact unhide Cw8c), hide (by rw [← unhide HAA]; exact unhide HTA), hide (by rw [← unhide HAA]; exact unhide HLA), HEA, HBA⟩
        case rest =>
          obtain ⟨rfl, bS, cS, hcS, htS, hrS, hrE, hbO⟩ := hcut
          rename World => w9
          have HB9 := hide ((unhide HB5).trans ((unhide hbO).mono (by omega)))
          have HTW := hide (learnE_two (unhide HTF) hf htb (unhide HAL))
          obtain ⟨WA, hWA⟩ : ∃ WA, withS ss ⟨frm, an, til⟩ = WA := ⟨_, rfl⟩
          have HWA := hide hWA
          rw [hWA] at hcS htS hrS
          clear hWA
          have hs9 := (unhide hbO).size
          obtain ⟨N, hN⟩ : ∃ N, ns.length = N := ⟨_, rfl⟩
          have HNN := hide hN
          rw [hN] at hn8 HY5 HNE
          have HY9 := hide ((unhide HY5).under (unhide hbO) (by omega))
          obtain ⟨y0, y1, y2⟩ := unhide HY9
          clear hN
          go_wp2_with fail
          clear y0 y1 y2
          go_loopw [15] (fun i wr => ∃ t : Nat, t ≤ N ∧ i = .int .i64 t ∧ ∃ hh pp dd : Nat, Hid (TV wr O (.slice (some ⟨bS, 0, none⟩) WA.length cS) (.slice (some ⟨hh, pp, none⟩) (learnE EF frm til ns t).length dd)) ∧ Hid (Tu.RM wr (some ⟨hh, pp, none⟩) (learnE EF frm til ns t)) ∧ Hid (So.RM wr (some ⟨bS, 0, none⟩) WA) ∧ Hid (Below O w5 wr)) (fun i _ => N - (intOf i).toNat)
          case atStart => exact ⟨0, by omega, rfl, h, p, d, htS, hrE, hrS, hbO⟩
          case round =>
            clear htS hrE hrS hbO HB9 HY9 hs9
            obtain ⟨t, ht, rfl, hh, pp, dd, htv, hre, hrs, hbl⟩ := hrel
            have HBw := hide ((unhide HB5).trans ((unhide hbl).mono (by omega)))
            have HYr := hide ((unhide HY5).under (unhide hbl) (by omega))
            have hbs := (unhide hbl).size
            by_cases hlt2 : (t : Int) < (N : Int)
            · have k2 : (0 : Int) ≤ (t : Int) := by omega
              have hlen2 : t < ns.length := by rw [unhide HNN]; omega
              obtain ⟨gn, offn, rfl⟩ := (unhide HN0).form (by omega)
              have hA := ((unhide HN0).below (unhide HBw)).at hlen2
              have HLY : Hid (((ns.getD t Ed.R.zero).ad != frm) = true → (learnE EF frm til ns (t + 1)) = putL (learnE EF frm til ns t) (tupE frm til (ns.getD t Ed.R.zero))) := hide (fun h => learnE_yes hlen2 h)
              have HLZ : Hid (((ns.getD t Ed.R.zero).ad != frm) = false → (learnE EF frm til ns (t + 1)) = (learnE EF frm til ns t)) := hide (fun h => learnE_no hlen2 h)
              have had := Av.ok_ad (Ri.all_ok (unhide HAL) hlen2)
              have HT1 := hide (unhide HTW t (by omega))
              have hl1 := two_len (unhide HT1)
              obtain ⟨m, hmd⟩ : ∃ m, ns.getD t Ed.R.zero = m := ⟨_, rfl⟩
              rw [hmd] at hA HLY HLZ had
              clear hmd
              obtain ⟨ad, mt⟩ := m
              obtain ⟨c0, c1⟩ := hA
              dsimp only at c0 c1 had HLY HLZ
              have hal : Below wr.heap.size wr (wr.alloc (.cells #[.int .i64 ad, .int .i64 mt] 47)) := (Below.refl _ _).alloc (Nat.le_refl _) _
              have HTA := hide ((unhide htv).below hal)
              have HEA := hide ((unhide hre).below hal)
              have HSA := hide ((unhide hrs).below hal)
              have HBA := hide ((unhide hbl).trans (hal.mono (by have := (unhide htv).lt; omega)))
              have HYA := hide ((unhide HYr).below hal)
              have HNA : Hid (Ed.At (wr.alloc (.cells #[.int .i64 ad, .int .i64 mt] 47)) wr.heap.size 0 ⟨ad, mt⟩) := hide (by refine ⟨?_, ?_⟩ <;> simp [World.cell?_alloc_new])
              clear hal
              obtain ⟨y0, y1, y2⟩ := unhide HYr
              cases hnew : (ad != frm)
              · have E1 := unhide HLZ hnew
                rw [← E1] at HTA HEA
                clear E1 HLY HLZ
                go_wp2_with fail
                go_roundw
                case rel => exact ⟨t + 1, by omega, by go_num, hh, pp, dd, HTA, HEA, HSA, HBA⟩
                case measure => simp [intOf]; omega
              · have HE1 := hide (unhide HLY hnew)
                clear HLY HLZ
                have HNP := hide (put_ne (learnE EF frm til ns t) (tupE frm til ⟨ad, mt⟩))
                obtain ⟨L, hL⟩ : ∃ L, (learnE EF frm til ns t) = L := ⟨_, rfl⟩
                rw [hL] at HE1 HT1 hl1 HTA HEA htv hre HNP
                clear hL
                go_wp2_with fail
                generalize hW0 : wr.alloc (.cells #[.int .i64 ad, .int .i64 mt] 47) = W0 at *
                clear hW0 c0 c1 y0 y1 y2
                refine wp_region_noPanic ?_
                refine Rl.drew (S := fun w' => (Ed.At w' wr.heap.size 0 ⟨ad, mt⟩ ∧ Bx3 w' (w.heap.size + 1) an valid (.slice (some ⟨gn, offn, none⟩) N cn)) ∧ w'.cell? ⟨wr.heap.size, 0, none⟩ = some (.int .i64 ad) ∧ w'.cell? ⟨wr.heap.size, 1, none⟩ = some (.int .i64 mt) ∧ w'.cell? ⟨w.heap.size + 1, 1, none⟩ = some (.int .i64 valid)) (T := fun w' => TV w' O (.slice (some ⟨bS, 0, none⟩) WA.length cS) (.slice (some ⟨hh, pp, none⟩) L.length dd) ∧ w'.cell? ⟨O, 0, none⟩ = some (.slice (some ⟨bS, 0, none⟩) WA.length cS) ∧ w'.cell? ⟨O, 1, none⟩ = some (.slice (some ⟨hh, pp, none⟩) L.length dd)) 18 (by kernel_rfl) ⟨sHE (unhide HNA).drew (unhide HYA).drew, sHT (unhide HTA).drew⟩ (fun hHeld => ?_)

                (refine Rl.tk (k := 18) (i := 0) (d := 92) (v := ?_) rfl rfl (by kernel_rfl) (by kernel_rfl) (by kernel_rfl) (by kernel_rfl) rfl (by kernel_rfl) (fun _ _ _ h => h) (by rfl) ?_ (by assumption) ?_; rotate_left; (focus (intro w0 hSw; (try dsimp only at hSw); go_simp; (try with_reducible rfl))); (try simp only [Act.put, List.setIfInBounds_toArray, List.set_cons_zero, List.set_cons_succ]))
                (refine Rl.tk (k := 18) (i := 1) (d := 93) (v := ?_) rfl rfl (by kernel_rfl) (by kernel_rfl) (by kernel_rfl) (by kernel_rfl) rfl (by kernel_rfl) (fun _ _ _ h => h) (by rfl) ?_ (by assumption) ?_; rotate_left; (focus (intro w0 hSw; (try dsimp only at hSw); go_simp; (try with_reducible rfl))); (try simp only [Act.put, List.setIfInBounds_toArray, List.set_cons_zero, List.set_cons_succ]))
                (refine Rl.tk (k := 18) (i := 2) (d := 94) (v := ?_) rfl rfl (by kernel_rfl) (by kernel_rfl) (by kernel_rfl) (by kernel_rfl) rfl (by kernel_rfl) (fun _ _ _ h => h) (by rfl) ?_ (by assumption) ?_; rotate_left; (focus (intro w0 hSw; (try dsimp only at hSw); go_simp; (try with_reducible rfl))); (try simp only [Act.put, List.setIfInBounds_toArray, List.set_cons_zero, List.set_cons_succ]))
                (refine Rl.tk (k := 18) (i := 3) (d := 95) (v := ?_) rfl rfl (by kernel_rfl) (by kernel_rfl) (by kernel_rfl) (by kernel_rfl) rfl (by kernel_rfl) (fun _ _ _ h => h) (by rfl) ?_ (by assumption) ?_; rotate_left; (focus (intro w0 hSw; (try dsimp only at hSw); go_simp; (try with_reducible rfl))); (try simp only [Act.put, List.setIfInBounds_toArray, List.set_cons_zero, List.set_cons_succ]))
                (refine Rl.tk (k := 18) (i := 4) (d := 96) (v := ?_) rfl rfl (by kernel_rfl) (by kernel_rfl) (by kernel_rfl) (by kernel_rfl) rfl (by kernel_rfl) (fun _ _ _ h => h) (by rfl) ?_ (by assumption) ?_; rotate_left; (focus (intro w0 hSw; (try dsimp only at hSw); go_simp; (try with_reducible rfl))); (try simp only [Act.put, List.setIfInBounds_toArray, List.set_cons_zero, List.set_cons_succ]))
                (refine Rl.tk (k := 18) (i := 6) (d := 98) (v := ?_) rfl rfl (by kernel_rfl) (by kernel_rfl) (by kernel_rfl) (by kernel_rfl) rfl (by kernel_rfl) (fun _ _ _ h => h) (by rfl) ?_ (by assumption) ?_; rotate_left; (focus (intro w0 hSw; (try dsimp only at hSw); go_simp; (try with_reducible rfl))); (try simp only [Act.put, List.setIfInBounds_toArray, List.set_cons_zero, List.set_cons_succ]))
                (refine Rl.tk (k := 18) (i := 7) (d := 99) (v := ?_) rfl rfl (by kernel_rfl) (by kernel_rfl) (by kernel_rfl) (by kernel_rfl) rfl (by kernel_rfl) (fun _ _ _ h => h) (by rfl) ?_ (by assumption) ?_; rotate_left; (focus (intro w0 hSw; (try dsimp only at hSw); go_simp; (try with_reducible rfl))); (try simp only [Act.put, List.setIfInBounds_toArray, List.set_cons_zero, List.set_cons_succ]))
                (refine Rl.tk (k := 18) (i := 8) (d := 100) (v := ?_) rfl rfl (by kernel_rfl) (by kernel_rfl) (by kernel_rfl) (by kernel_rfl) rfl (by kernel_rfl) (fun _ _ _ h => h) (by rfl) ?_ (by assumption) ?_; rotate_left; (focus (intro w0 hSw; (try dsimp only at hSw); go_simp; (try with_reducible rfl))); (try simp only [Act.put, List.setIfInBounds_toArray, List.set_cons_zero, List.set_cons_succ]))
                (refine Rl.tk (k := 18) (i := 9) (d := 101) (v := .int .i64 til) rfl rfl (by kernel_rfl) (by kernel_rfl) (by kernel_rfl) (by kernel_rfl) rfl (by kernel_rfl) (fun _ _ _ h => h) (by rfl) ?_ (by assumption) ?_; (focus (intro w0 hSw; (try dsimp only at hSw); go_simp)); (try simp only [Act.put, List.setIfInBounds_toArray, List.set_cons_zero, List.set_cons_succ]))
                (refine Rl.tk (k := 18) (i := 10) (d := 102) (v := ?_) rfl rfl (by kernel_rfl) (by kernel_rfl) (by kernel_rfl) (by kernel_rfl) rfl (by kernel_rfl) (fun _ _ _ h => h) (by rfl) ?_ (by assumption) ?_; rotate_left; (focus (intro w0 hSw; (try dsimp only at hSw); go_simp; (try with_reducible rfl))); (try simp only [Act.put, List.setIfInBounds_toArray, List.set_cons_zero, List.set_cons_succ]))
                (refine Rl.tk (k := 18) (i := 11) (d := 103) (v := ?_) rfl rfl (by kernel_rfl) (by kernel_rfl) (by kernel_rfl) (by kernel_rfl) rfl (by kernel_rfl) (fun _ _ _ h => h) (by rfl) ?_ (by assumption) ?_; rotate_left; (focus (intro w0 hSw; (try dsimp only at hSw); go_simp; (try with_reducible rfl))); (try simp only [Act.put, List.setIfInBounds_toArray, List.set_cons_zero, List.set_cons_succ]))
                (refine Rl.ready (rs := [5]) (by kernel_rfl) (by simp) ?_; refine Rl.AllReadyL.cons (o := _) rfl rfl (fun K hK => ?_) Rl.AllReadyL.nil; go_simp)
                refine (l07KeyT frm ad _ (by omega) (by omega) (by omega) (by omega)).mono ?_
                rintro e w2' ⟨rfl, hw2⟩
                have b2 : Below W0.heap.size W0 w2' := by rw [hw2]; exact (Below.refl _ _).drew
                have HTB := hide ((unhide HTA).below b2)
                have HEB := hide ((unhide HEA).below b2)
                have HSB := hide ((unhide HSA).below b2)
                have HBB := hide ((unhide HBA).trans (b2.mono (Nat.le_of_lt (unhide HTA).lt)))
                have HYB := hide ((unhide HYA).below b2)
                have HNB' := hide ((unhide HNA).below b2)
                clear b2 hw2 hHeld
                refine hK.out _ _ ⟨sHE (unhide HNB') (unhide HYB), sHT (unhide HTB)⟩ (fun hHeld => ?_)
                clear hK K
                (try simp only [Act.put, List.setIfInBounds_toArray, List.set_cons_zero, List.set_cons_succ])
                (refine Rl.tk (k := 18) (i := 12) (d := 104) (v := ?_) rfl rfl (by kernel_rfl) (by kernel_rfl) (by kernel_rfl) (by kernel_rfl) rfl (by kernel_rfl) (fun _ _ _ h => h) (by rfl) ?_ (by assumption) ?_; rotate_left; (focus (intro w0 hSw; (try dsimp only at hSw); go_simp; (try with_reducible rfl))); (try simp only [Act.put, List.setIfInBounds_toArray, List.set_cons_zero, List.set_cons_succ]))
                (refine Rl.ready (rs := [13]) (by kernel_rfl) (by simp) ?_; refine Rl.AllReadyL.cons (o := _) rfl rfl (fun K hK => ?_) Rl.AllReadyL.nil; go_simp)
                refine (l03PutC hh pp L dd (100 * frm + ad) til mt _ (by omega) (unhide HEB)).mono ?_
                rintro e w3' ⟨v3, rfl, b3, hl3, hs3⟩
                have HTC := hide ((unhide HTB).below b3)
                have HSC := hide ((unhide HSB).below b3)
                have HBC := hide ((unhide HBB).trans (b3.mono (Nat.le_of_lt (unhide HTB).lt)))
                have HYC := hide ((unhide HYB).below b3)
                have HNC := hide ((unhide HNB').below b3)
                have hl3' : LstV w3' v3 (learnE EF frm til ns (t + 1)) w2'.heap.size w3'.heap.size := by rw [unhide HE1]; exact hl3
                obtain ⟨a3, c3, rfl, hl4⟩ := hl3'
                have hpos : 0 < (learnE EF frm til ns (t + 1)).length := by rw [unhide HE1]; exact unhide HNP
                obtain ⟨g3, rfl⟩ : ∃ g3, a3 = some ⟨g3, 0, none⟩ := by
                  rcases hl4 with h | ⟨g3, e3, _⟩
                  · rw [h] at hpos; simp at hpos
                  · exact ⟨g3, e3⟩
                have HEC := hide hl4.rm
                clear b3 hl3 hl4 hs3 hpos hHeld
                generalize putC L ⟨100 * frm + ad, til, mt⟩ = pc
                refine hK.out _ _ ⟨sHE (unhide HNC) (unhide HYC), sHT (unhide HTC)⟩ (fun hHeld => ?_)
                clear hK K
                (try simp only [Act.put, List.setIfInBounds_toArray, List.set_cons_zero, List.set_cons_succ])
                (refine Rl.tk (k := 18) (i := 14) (d := 91) (v := ?_) rfl rfl (by kernel_rfl) (by kernel_rfl) (by kernel_rfl) (by kernel_rfl) rfl (by kernel_rfl) (fun _ _ _ h => h) (by rfl) ?_ (by assumption) ?_; rotate_left; (focus (intro w0 hSw; (try dsimp only at hSw); go_simp; (try with_reducible rfl))); (try simp only [Act.put, List.setIfInBounds_toArray, List.set_cons_zero, List.set_cons_succ]))
                (refine Rl.tk (k := 18) (i := 15) (d := 106) (v := ?_) rfl rfl (by kernel_rfl) (by kernel_rfl) (by kernel_rfl) (by kernel_rfl) rfl (by kernel_rfl) (fun _ _ _ h => h) (by rfl) ?_ (by assumption) ?_; rotate_left; (focus (intro w0 hSw; (try dsimp only at hSw); go_simp; (try with_reducible rfl))); (try simp only [Act.put, List.setIfInBounds_toArray, List.set_cons_zero, List.set_cons_succ]))
                (refine Rl.tkS (k := 18) (i := 16) (d := 107) (v := ?_) rfl rfl (by kernel_rfl) (by kernel_rfl) (by kernel_rfl) rfl (fun _ _ _ h => h) (by rfl) ?_ (by assumption) ?_; rotate_left; (focus (intro w0 hSw; (try dsimp only at hSw); go_simp; (try with_reducible rfl))); (try simp only [Act.put, List.setIfInBounds_toArray, List.set_cons_zero, List.set_cons_succ]))
                (refine Rl.tk (k := 18) (i := 17) (d := 108) (v := ?_) rfl rfl (by kernel_rfl) (by kernel_rfl) (by kernel_rfl) (by kernel_rfl) rfl (by kernel_rfl) (fun _ _ _ h => h) (by rfl) ?_ (by assumption) ?_; rotate_left; (focus (intro w0 hSw; (try dsimp only at hSw); go_simp; (try with_reducible rfl))); (try simp only [Act.put, List.setIfInBounds_toArray, List.set_cons_zero, List.set_cons_succ]))
                obtain ⟨x0, x1⟩ := (unhide HTC).bx
                have f0 := (unhide HTC).free 1
                (refine Rl.ready (rs := [18]) (by kernel_rfl) (by simp) ?_; refine Rl.AllReadyL.last (o := _) rfl (by kernel_rfl) (fun K hK => ?_); go_simp)
                have HTD := hide ((unhide HTC).set1 (.slice (some ⟨g3, 0, none⟩) (learnE EF frm til ns (t + 1)).length c3))
                have HED := hide (rmT_tv (unhide HEC) (unhide HTC) 1 (.slice (some ⟨g3, 0, none⟩) (learnE EF frm til ns (t + 1)).length c3))
                have HSD := hide (rmS_tv (unhide HSC) (unhide HTC) 1 (.slice (some ⟨g3, 0, none⟩) (learnE EF frm til ns (t + 1)).length c3))
                have HBD := hide ((unhide HBC).setCell (p := ⟨O, 1, none⟩) (Nat.le_refl _) (.slice (some ⟨g3, 0, none⟩) (learnE EF frm til ns (t + 1)).length c3))
                have HYD := hide ((unhide HYC).but (Below.heap_setCell w3' ⟨O, 1, none⟩ (.slice (some ⟨g3, 0, none⟩) (learnE EF frm til ns (t + 1)).length c3) _ (by show w.heap.size + 1 ≠ O; omega)))
                have HND := hide (ed_but2 (unhide HNC) (Below.heap_setCell w3' ⟨O, 1, none⟩ (.slice (some ⟨g3, 0, none⟩) (learnE EF frm til ns (t + 1)).length c3) _ (by show wr.heap.size ≠ O; have := (unhide htv).lt; omega)))
                clear hHeld x0 x1 f0
                generalize hWD : w3'.setCell ⟨O, 1, none⟩ (.slice (some ⟨g3, 0, none⟩) (learnE EF frm til ns (t + 1)).length c3) = w4' at *
                clear hWD
                refine hK.out _ _ (sHE (unhide HND) (unhide HYD)) (fun hHeld => ?_)
                clear hK K
                (try simp only [Act.put, List.setIfInBounds_toArray, List.set_cons_zero, List.set_cons_succ])
                refine Rl.done (by kernel_rfl) (NoPanic.normal ?_) _
                clear hHeld
                go_wp2_with fail
                go_roundw
                case rel => exact ⟨t + 1, by omega, by go_num, g3, 0, c3, HTD, HED, HSD, HBD⟩
                case measure => simp [intOf]; omega
            · obtain rfl : N = t := by omega
              have HZr := hide ((unhide HZ5).under (unhide hbl) (by omega))
              obtain ⟨E9, hE9⟩ : ∃ E9, learnE EF frm til ns N = E9 := ⟨_, rfl⟩
              have HE9 : Hid (nowE es frm til ns = E9) := hide ((unhide HNE).trans hE9)
              rw [hE9] at htv hre
              clear hE9
              obtain ⟨x0, x1⟩ := (unhide htv).bx
              obtain ⟨r0, r1⟩ := (unhide HZr).bx
              have q0 := (unhide HZr).free 0
              have q1 := (unhide HZr).free 1
              have hne2 : ¬ O = w.heap.size + 2 := by omega
              have hne3 : ¬ w.heap.size + 2 = O := by omega
              have HLS := hide (rmS_tv (rmS_tv (unhide hrs) (unhide HZr) 0 (.slice (some ⟨bS, 0, none⟩) WA.length cS)) ((unhide HZr).set0 _) 1 (.slice (some ⟨hh, pp, none⟩) E9.length dd))
              have HLE := hide (rmT_tv (rmT_tv (unhide hre) (unhide HZr) 0 (.slice (some ⟨bS, 0, none⟩) WA.length cS)) ((unhide HZr).set0 _) 1 (.slice (some ⟨hh, pp, none⟩) E9.length dd))
              have HBF := hide (((unhide HBw).setCell (p := ⟨w.heap.size + 2, 0, none⟩) (by show w.heap.size ≤ w.heap.size + 2; omega) (.slice (some ⟨bS, 0, none⟩) WA.length cS)).setCell (p := ⟨w.heap.size + 2, 1, none⟩) (by show w.heap.size ≤ w.heap.size + 2; omega) (.slice (some ⟨hh, pp, none⟩) E9.length dd))
              obtain ⟨y0, y1, y2⟩ := unhide HYr
              go_wp2_with fail
              refine bodyPost_ret (v := .tuple #[.agg #[(.slice (some ⟨bS, 0, none⟩) WA.length cS), .slice (some ⟨hh, pp, none⟩) E9.length dd], .int .i64 0]) (by simp [results, Try.results36, go_sem, r0, r1, x0, x1]) rfl ⟨_, rfl, unhide HBF, ?_⟩
              rw [unhide HWA, unhide HE9]
              exact ⟨bS, 0, cS, hh, pp, dd, rfl, unhide hcS, unhide HLS, unhide HLE⟩
  · rw [show (true && true) = true from rfl]
    simp only [if_true]
    have hqb := unhide HQB rfl

    go_enter Try.func36, Try.ntmps36
    go_wp2_with fail
    generalize hW : (((w.alloc (.cells #[.slice (some ⟨g0, o0, none⟩) ss.length ca, .slice (some ⟨h0, p0, none⟩) es.length cb] 26)).alloc (.cells #[.int .i64 an, .int .i64 valid, .slice c ns.length cn] 30)).alloc (.cells #[.slice none 0 0, .slice none 0 0] 26)) = W3 at *
    clear hW
    refine (l09Find _ ss ca _ frm _ (by omega) (unhide HR)).mono ?_
    rintro e w1 ⟨rfl, b1⟩
    rw [unhide HEE, unhide HQV]
    have HB1 := hide ((unhide HA).trans (b1.mono (unhide HA).size))
    have HX1 := hide ((unhide HX).below b1)
    have HY1 := hide ((unhide HY).below b1)
    have HZ1 := hide ((unhide HZ).below b1)
    have HR1 := hide ((unhide HR).below b1)
    have HE1 := hide ((unhide HE).below b1)
    have HN1 := hide ((unhide HN).below b1)
    clear b1 HX HY HZ HR HE HN HA
    have hal : Below w1.heap.size w1 (w1.alloc (.cells #[.int .i64 qa, .int .i64 qn, .int .i64 qt] 41)) := (Below.refl _ _).alloc (Nat.le_refl _) _
    have HB2 := hide ((unhide HB1).trans (hal.mono (unhide HB1).size))
    have HX2 := hide ((unhide HX1).below hal)
    have HY2 := hide ((unhide HY1).below hal)
    have HZ2 := hide ((unhide HZ1).below hal)
    have HR2 := hide ((unhide HR1).below hal)
    have HE2 := hide ((unhide HE1).below hal)
    have HN2 := hide ((unhide HN1).below hal)
    have hx1 := (unhide HX1).lt
    have hy1 := (unhide HY1).lt
    have hz1 := (unhide HZ1).lt
    obtain ⟨z0, z1⟩ := unhide HX1
    obtain ⟨y0, y1, y2⟩ := unhide HY1
    clear hal
    go_wp2_with fail

    clear z0 z1 y0 y1 y2
    refine (Mtr.l02Newer qn an ⟨by omega, by omega⟩ kan _).mono ?_
    rintro e w' ⟨rfl, hw'⟩
    rw [hw', unhide HNB]
    clear hw' w'

    obtain ⟨x0, x1⟩ := (unhide HZ2).bx
    have f0 := (unhide HZ2).free 0
    have f1 := (unhide HZ2).free 1
    obtain ⟨z0, z1⟩ := unhide HX2
    have HLS := hide (rmS_tv (rmS_tv (unhide HR2) (unhide HZ2) 0 (.slice (some ⟨g0, o0, none⟩) ss.length ca)) ((unhide HZ2).set0 _) 1 (.slice (some ⟨h0, p0, none⟩) es.length cb))
    have HLE := hide (rmT_tv (rmT_tv (unhide HE2) (unhide HZ2) 0 (.slice (some ⟨g0, o0, none⟩) ss.length ca)) ((unhide HZ2).set0 _) 1 (.slice (some ⟨h0, p0, none⟩) es.length cb))
    have HBF := hide (((unhide HB2).setCell (p := ⟨w.heap.size + 2, 0, none⟩) (by show w.heap.size ≤ w.heap.size + 2; omega) (.slice (some ⟨g0, o0, none⟩) ss.length ca)).setCell (p := ⟨w.heap.size + 2, 1, none⟩) (by show w.heap.size ≤ w.heap.size + 2; omega) (.slice (some ⟨h0, p0, none⟩) es.length cb))
    generalize hW2 : w1.alloc (.cells #[.int .i64 qa, .int .i64 qn, .int .i64 qt] 41) = w2 at *
    clear hW2
    go_wp2_with fail
    refine bodyPost_ret (v := .tuple #[.agg #[.slice (some ⟨g0, o0, none⟩) ss.length ca, .slice (some ⟨h0, p0, none⟩) es.length cb], .int .i64 11]) (by simp [results, Try.results36, go_sem, x0, x1]) rfl ⟨_, rfl, unhide HBF, g0, o0, ca, h0, p0, cb, rfl, hca, unhide HLS, unhide HLE⟩
end Tp
end Go.Proofs.Ytilphgfjgeoiaaa
