/-
  The program's contracts of maps of edges by their ends: made out of a list, told in order, those from one forgotten, learnt, told. (written by mktope.py) Contracts of the program over lists of sources: copied, put together (slices.Concat, slices.Grow), one put among them (sourcesWith). (written by mktopg.py) A topology that is answered: two lists in memory of their own, the sources' behind the edges'; whether what is heard is older, and its code: the program's. The program's HearTc. TopologyExpire, the model's and the program's. The model's HearTc. Contracts: a drawn tuple, a drawn set: right ones, whatever the source has. The laws' sameTopology: of two topologies with the same sources and edges it says yes. EdgesFrom, the model's and the program's. (written by mktops.py) SourceOf, the model's and the program's. (written by mktops.py) The laws' look at whether two lists of edges are alike (out of AdvX). The laws' choice out of n by bytes: it is a number of its range; it changes nothing. And a slice of bytes that came in: what it reads as.
-/
import Derived.Test.YtilphgfjgeoiaaaTopA
import Derived.Test.YtilphgfjgeoiaaaTopN
import Derived.Test.YtilphgfjgeoiaaaMpe
import Derived.Maps.AppendAt
import Derived.Test.YtilphgfjgeoiaaaSetGc
import Derived.Lib.AppendZeros
import Derived.Test.YtilphgfjgeoiaaaTopV
import Derived.Test.YtilphgfjgeoiaaaAdvC
import Derived.Test.YtilphgfjgeoiaaaTopY
import Derived.Test.YtilphgfjgeoiaaaTopJ
import Derived.Test.YtilphgfjgeoiaaaSrc
import Derived.Test.YtilphgfjgeoiaaaSetY
import Derived.Test.YtilphgfjgeoiaaaSetL
import Derived.Test.YtilphgfjgeoiaaaTopB
import Derived.Test.YtilphgfjgeoiaaaTopC
import Derived.Test.YtilphgfjgeoiaaaRecEdge
import Derived.Deep.QuietTactic
import Derived.BigQuiet
import Derived.Test.YtilphgfjgeoiaaaBytes
namespace Go.Proofs.Ytilphgfjgeoiaaa
open Go.ChangeShapes Go.WideShapes Go.ChangeAt Go.RowKit
set_option linter.unusedVariables false
set_option linter.unusedSimpArgs false
set_option maxRecDepth 100000
attribute [local go_sem ↓] Go.wp_at_zero Go.wp_at_succ
namespace Tp
open W1 Tu St Tw Me
set_option maxRecDepth 100000 in
set_option maxHeartbeats 4000000 in
theorem edgesByEnds (a : Option Addr) (ms : List R) (cap : Nat) (w : World) (hok : twoB ms = true) (hr : RM w a ms) :
    Calls Try.prog 27 #[.slice a ms.length cap] w fun e w' => ∃ b, e = .returned (.map (some b)) ∧ w.heap.size ≤ b ∧ OM w' b ms.length (findT ms) ∧ Below w.heap.size w w' := by
  have HR := hide hr
  have HOK := hide hok
  have h62 := two_len hok
  clear hr hok
  have hmm := run_makeN ms.length
  have O0 : Hid (OM (w.alloc (.map #[] 0)) w.heap.size 0 (findT (ms.take 0))) := hide (om_made w)
  have P0 := hide ((Below.refl w.heap.size w).alloc (Nat.le_refl _) (.map #[] 0))
  generalize hN : ms.length = n at *
  have HN := hide hN
  clear hN
  go_enter Try.func27, Try.ntmps27
  go_wp2_with fail
  go_loopw [11] (fun i wr => ∃ j : Nat, j ≤ n ∧ i = .int .i64 j ∧ Hid (OM wr w.heap.size j (findT (ms.take j))) ∧ Hid (Below w.heap.size w wr)) (fun i _ => n - (intOf i).toNat)
  case atStart => exact ⟨0, by omega, rfl, O0, P0⟩
  case round =>
    obtain ⟨j, hj, rfl, hom, hbl⟩ := hrel
    by_cases hlt : (j : Int) < (n : Int)
    · have k0 : (0 : Int) ≤ (j : Int) := by omega
      have hlen : j < ms.length := by rw [unhide HN]; omega
      obtain ⟨g, off, rfl⟩ := (unhide HR).form (by omega)
      obtain ⟨c0, c1, c2⟩ := ((unhide HR).below (unhide hbl)).at hlen
      have HS := hide (find_snoc (two_set (unhide HOK)) hlen)
      have hbd := ok_bounds (setB_ok (two_set (unhide HOK)) hlen)
      have hbk := ok_k (two_ok (unhide HOK) _ (getD_mem hlen))
      have hsz := (unhide hbl).size
      have hlm := (unhide hom).lt
      generalize ms.getD j R.zero = m at *
      obtain ⟨key, til, val⟩ := m
      dsimp only at c0 c1 c2 hbd
      have HX : Hid (St.Bx (wr.alloc (.cells #[.int .i64 key, .int .i64 til, .int .i64 val] 73)) wr.heap.size ⟨key, til, val⟩) := hide (Tw.bx_new wr ⟨key, til, val⟩ _)
      have HOA := hide ((unhide hom).below ((Below.refl _ _).alloc (Nat.le_refl _) (.cells #[.int .i64 key, .int .i64 til, .int .i64 val] 73)))
      have HBA := hide ((unhide hbl).alloc hsz (.cells #[.int .i64 key, .int .i64 til, .int .i64 val] 73))
      go_wp2_with fail
      generalize hW : wr.alloc (.cells #[.int .i64 key, .int .i64 til, .int .i64 val] 73) = W0 at *
      clear hW
      generalize hB0 : wr.heap.size = B0 at *
      clear hB0
      refine wp_region_noPanic ?_
      refine wp_region_held_drew (S := fun w' => St.Bx w' B0 ⟨key, til, val⟩ ∧ w'.cell? ⟨B0, 0, none⟩ = some (.int .i64 key) ∧ w'.cell? ⟨B0, 1, none⟩ = some (.int .i64 til) ∧ w'.cell? ⟨B0, 2, none⟩ = some (.int .i64 val)) (by kernel_rfl) (St.sBox (unhide HX).drew) (fun hHeld => ?_)
      (refine Rg.tk (i := 0) (d := 15) (v := ?_) rfl rfl (by kernel_rfl) (by kernel_rfl) (by kernel_rfl) (fun _ _ _ h => h) (by rfl) ?_ (by assumption) ?_; rotate_left; (focus (intro w0 hSw; (try dsimp only at hSw); go_simp; (try with_reducible rfl))); (try simp only [Act.put, List.setIfInBounds_toArray, List.set_cons_zero, List.set_cons_succ]))
      (refine Rg.tk (i := 1) (d := 16) (v := ?_) rfl rfl (by kernel_rfl) (by kernel_rfl) (by kernel_rfl) (fun _ _ _ h => h) (by rfl) ?_ (by assumption) ?_; rotate_left; (focus (intro w0 hSw; (try dsimp only at hSw); go_simp; (try with_reducible rfl))); (try simp only [Act.put, List.setIfInBounds_toArray, List.set_cons_zero, List.set_cons_succ]))
      (refine Rg.tk (i := 2) (d := 17) (v := ?_) rfl rfl (by kernel_rfl) (by kernel_rfl) (by kernel_rfl) (fun _ _ _ h => h) (by rfl) ?_ (by assumption) ?_; rotate_left; (focus (intro w0 hSw; (try dsimp only at hSw); go_simp; (try with_reducible rfl))); (try simp only [Act.put, List.setIfInBounds_toArray, List.set_cons_zero, List.set_cons_succ]))
      (refine Rg.tk (i := 4) (d := 19) (v := ?_) rfl rfl (by kernel_rfl) (by kernel_rfl) (by kernel_rfl) (fun _ _ _ h => h) (by rfl) ?_ (by assumption) ?_; rotate_left; (focus (intro w0 hSw; (try dsimp only at hSw); go_simp; (try with_reducible rfl))); (try simp only [Act.put, List.setIfInBounds_toArray, List.set_cons_zero, List.set_cons_succ]))
      (refine wpAnyH_ready (rs := [3]) (by kernel_rfl) (by simp) ?_; refine AllReadyH.cons (o := _) rfl (fun K hK => ?_) AllReadyH.nil; go_simp)
      refine (endsOfKey key _ (by omega) (by omega)).mono ?_
      rintro e w2 ⟨rfl, b2_⟩
      have b2 : Below W0.heap.size W0 w2 := (Below.refl _ _).drew.trans b2_
      have HX2 := hide ((unhide HX).below b2)
      have HO2 := hide ((unhide HOA).below b2)
      have HB2 := hide ((unhide HBA).trans (b2.mono (unhide HBA).size))
      clear b2 b2_ hHeld
      refine hK.out _ _ (St.sBox (unhide HX2)) (fun hHeld => ?_)
      clear hK K
      (try simp only [Act.put, List.setIfInBounds_toArray, List.set_cons_zero, List.set_cons_succ])
      (refine wpAnyH_ready (rs := [5]) (by kernel_rfl) (by simp) ?_; refine AllReadyH.cons (o := _) rfl (fun K hK => ?_) AllReadyH.nil; rw [if_pos (by rfl)])
      refine wp_put _ _ _ _ rfl rfl w.heap.size j _ rfl (unhide HO2) (by unfold maxLen; omega) (key.tdiv 100) (key.tmod 100) (WalkArith.wf_i64 ⟨by unfold hv at hbk; dsimp only at hbk; omega, by unfold hv at hbk; dsimp only at hbk; omega⟩) (WalkArith.wf_i64 ⟨by unfold ha at hbk; dsimp only at hbk; omega, by unfold ha at hbk; dsimp only at hbk; omega⟩) ⟨key, til, val⟩ rfl rfl ?_
      intro w6 om6 g6
      have HO6 : Hid (OM w6 w.heap.size (j + 1) (findT (ms.take (j + 1)))) := hide ((unhide HS) ▸ om6)
      have HX6 := hide (bx_but (unhide HX2) (g6.block B0 (bx_lt (unhide HX2)) (by intro e; cases e; omega)))
      have HB6 := hide (om_grown (unhide HB2) (Nat.le_refl _) (Nat.le_refl _) g6)
      clear om6 g6 hHeld
      refine hK.out _ _ (St.sBox (unhide HX6)) (fun hHeld => ?_)
      clear hK K hHeld
      (try simp only [Act.put, List.setIfInBounds_toArray, List.set_cons_zero, List.set_cons_succ])
      refine wpAnyH_done (by kernel_rfl) (NoPanic.normal ?_) _
      go_wp2_with fail
      go_roundw
      case rel => exact ⟨j + 1, by omega, by go_num, HO6, HB6⟩
      case measure => simp [intOf]; omega
    · obtain rfl : j = n := by omega
      have e : ms.take j = ms := List.take_of_length_le (by rw [unhide HN]; exact Nat.le_refl _)
      rw [e] at hom
      go_wp2_with fail
      go_ret
      exact ⟨_, rfl, Nat.le_refl _, unhide hom, unhide hbl⟩
set_option maxRecDepth 100000 in
set_option maxHeartbeats 4000000 in
theorem forgetFrom (b n : Nat) (f : Int → Int → Option R) (frm : Int) (w : World) (h1 : 1 ≤ frm) (h8 : frm ≤ 8) (hom : OM w b n f) :
    Calls Try.prog 28 #[.map (some b), .int .i64 frm] w fun e w' => e = .returned (.tuple #[]) ∧ OM w' b n (forgT f frm 8) ∧ w.grownBy w' (some b) := by
  have HWF : Hid ((Lit.int .i64 frm).wf = true) := hide (WalkArith.wf_i64 ⟨by omega, by omega⟩)
  have O0 : Hid (OM w b n (forgT f frm 0)) := hide (by rw [forgT_zero]; exact hom)
  have G0 : Hid (w.grownBy w (some b)) := hide (World.grownBy.refl _ _)
  clear hom
  go_enter Try.func28, Try.ntmps28
  go_wp2_with fail
  go_loopw [4] (fun i wr => ∃ j : Nat, j ≤ 8 ∧ i = .int .i64 ((j : Int) + 1) ∧ Hid (OM wr b n (forgT f frm j)) ∧ Hid (w.grownBy wr (some b))) (fun i _ => 9 - (intOf i).toNat)
  case atStart => exact ⟨0, by omega, rfl, O0, G0⟩
  case round =>
    obtain ⟨j, hj, rfl, hom, hgr⟩ := hrel
    by_cases hlt : (j : Int) + 1 ≤ 8
    · have HWK : Hid ((Lit.int .i64 ((j : Int) + 1)).wf = true) := hide (WalkArith.wf_i64 ⟨by omega, by omega⟩)
      have HS := hide (forgT_succ f frm j)
      obtain ⟨w', hrun, ho, hg⟩ := (unhide hom).drop (unhide HWF) (unhide HWK) 0
      unfold kv at hrun
      have HO : Hid (OM w' b n (forgT f frm (j + 1))) := hide ((unhide HS) ▸ ho)
      have HG := hide ((unhide hgr).trans hg)
      clear ho hg
      go_wp2_with fail
      go_roundw
      case rel => exact ⟨j + 1, by omega, by go_num, HO, HG⟩
      case measure => simp [intOf]; omega
    · obtain rfl : j = 8 := by omega
      go_wp2_with fail
      refine bodyPost_end (v := .tuple #[]) (by simp [results, Try.results28, go_sem]) rfl ⟨rfl, unhide hom, unhide hgr⟩
theorem ordE_at (f : Int → Int → Option R) {j k : Nat} (hk : k < 8) : ordT f (8 * j + (k + 1)) = ordT f (8 * j + k) ++ (f ((j : Int) + 1) ((k : Int) + 1)).toList := by
  have := ordT_succ f (8 * j + k)
  rw [show (8 * j + k) / 8 = j by omega, show (8 * j + k) % 8 = k by omega] at this
  exact this
set_option maxRecDepth 100000 in
set_option maxHeartbeats 4000000 in
theorem edgesInOrder (b n : Nat) (f : Int → Int → Option R) (w : World) (hn : n ≤ 128) (hom : OM w b n f) :
    Calls Try.prog 31 #[.map (some b)] w fun e w' => ∃ v, e = .returned v ∧ Below w.heap.size w w' ∧ LstV w' v (ordT f 64) w.heap.size w'.heap.size := by
  obtain ⟨q, hqn, hlen⟩ := hom.size
  have HOM := hide hom
  clear hom
  obtain ⟨i0, hi, hz0, hz1, hz2⟩ := infoR
  obtain ⟨wm, hmk, hmown, hmgrow⟩ := run_make_own (P := Try.prog) w w.heap.size 24 73 i0 _ 3 Try.underlying24 hi hz0 hz1 .i64 .i64 q (by rw [hz2]; omega) (by unfold maxLen; omega) (Nat.le_refl _)
  have OW : Hid (wm.ownsRow w.heap.size 73 3 (.slice (some ⟨w.heap.size, 0, none⟩) 0 q) (ordT f (8 * 0)).length (flat (ordT f (8 * 0)))) := hide hmown
  have DM : Hid (Below w.heap.size w wm) := hide ((Below.refl _ _).grown hmgrow (Nat.le_refl _) (fun k hk => by cases hk))
  clear hi hz0 hz1 hz2 hmown hmgrow
  go_enter Try.func31, Try.ntmps31
  go_wp2_with fail
  clear hmk hlen
  go_loopw [3, 4] (fun v i wr => ∃ j : Nat, j ≤ 8 ∧ i = .int .i64 ((j : Int) + 1) ∧ Hid (wr.ownsRow w.heap.size 73 3 v (ordT f (8 * j)).length (flat (ordT f (8 * j)))) ∧ Hid (Below w.heap.size w wr)) (fun _ i _ => 9 - (intOf i).toNat)
  case atStart => exact ⟨0, by omega, rfl, OW, DM⟩
  case round =>
    obtain ⟨j, hj, rfl, how0, hbl0⟩ := hrel
    by_cases hlt0 : (j : Int) + 1 ≤ 8
    · have HWJ : Hid ((Lit.int .i64 ((j : Int) + 1)).wf = true) := hide (WalkArith.wf_i64 ⟨by omega, by omega⟩)
      go_wp2_with fail
      go_loopw [3, 5] (fun v i wr => ∃ k : Nat, k ≤ 8 ∧ i = .int .i64 ((k : Int) + 1) ∧ Hid (wr.ownsRow w.heap.size 73 3 v (ordT f (8 * j + k)).length (flat (ordT f (8 * j + k)))) ∧ Hid (Below w.heap.size w wr)) (fun _ i _ => 9 - (intOf i).toNat)
      case atStart => exact ⟨0, by omega, rfl, how0, hbl0⟩
      case round =>
        obtain ⟨k, hk, rfl, how, hbl⟩ := hrel
        have hbs := (unhide hbl).size
        have hfl := ordT_len f (8 * j + k)
        by_cases hlt : (k : Int) + 1 ≤ 8
        · have HM := hide ((unhide HOM).below (unhide hbl))
          have HWK : Hid ((Lit.int .i64 ((k : Int) + 1)).wf = true) := hide (WalkArith.wf_i64 ⟨by omega, by omega⟩)
          have HST := hide (ordE_at f (j := j) (k := k) (by omega))
          cases hf : f ((j : Int) + 1) ((k : Int) + 1) with
          | none =>
            rw [hf] at HST
            have HA : Hid ((f ((j : Int) + 1) ((k : Int) + 1)).getD R.zero = ⟨0, 0, 0⟩) := hide (by rw [hf]; rfl)
            have HE : Hid ((f ((j : Int) + 1) ((k : Int) + 1)).isSome = false) := hide (by rw [hf]; rfl)
            clear hf
            have e0 : ordT f (8 * j + (k + 1)) = ordT f (8 * j + k) := by rw [unhide HST]; simp
            rw [← e0] at how
            clear e0
            have HB := hide ((unhide hbl).alloc hbs (.cells #[.int .i64 0, .int .i64 0, .int .i64 0] 73))
            have HO := hide ((unhide how).alloc (.cells #[.int .i64 0, .int .i64 0, .int .i64 0] 73))
            go_wp2_with (at_lookup; refine wpList_lookA _ rfl _ _ rfl b _ _ rfl (unhide HM) ((j : Int) + 1) ((k : Int) + 1) (unhide HWJ) (unhide HWK) rfl 0 0 0 false (unhide HA) (unhide HE) ?_)
            go_roundw
            case rel => exact ⟨k + 1, by omega, by go_num, HO, HB⟩
            case measure => simp [intOf]; omega
          | some m =>
            rw [hf] at HST
            obtain ⟨ke, ti, va⟩ := m
            have HA : Hid ((f ((j : Int) + 1) ((k : Int) + 1)).getD R.zero = ⟨ke, ti, va⟩) := hide (by rw [hf]; rfl)
            have HE : Hid ((f ((j : Int) + 1) ((k : Int) + 1)).isSome = true) := hide (by rw [hf]; rfl)
            clear hf
            have HTF : Hid (ordT f (8 * j + (k + 1)) = ordT f (8 * j + k) ++ [(⟨ke, ti, va⟩ : R)]) := HST
            have HBA := hide ((unhide hbl).alloc hbs (.cells #[.int .i64 ke, .int .i64 ti, .int .i64 va] 73))
            have HOA := hide ((unhide how).alloc (.cells #[.int .i64 ke, .int .i64 ti, .int .i64 va] 73))
            have hs1 : w.heap.size ≤ (wr.alloc (.cells #[.int .i64 ke, .int .i64 ti, .int .i64 va] 73)).heap.size := by simp; omega
            go_wp2_with (first | (at_lookup; refine wpList_lookA _ rfl _ _ rfl b _ _ rfl (unhide HM) ((j : Int) + 1) ((k : Int) + 1) (unhide HWJ) (unhide HWK) rfl ke ti va true (unhide HA) (unhide HE) ?_) | (at_builtin; refine wpList_apS ((unhide HOA).alloc _) (wr.heap.size + 1) 0 1 1 [(⟨ke, ti, va⟩ : R)] rfl (by have := rm_new (wr.alloc (.cells #[.int .i64 ke, .int .i64 ti, .int .i64 va] 73)) ⟨ke, ti, va⟩; simpa using this) (by simp only [List.length_cons, List.length_nil]; omega) (by simp; omega) rfl _ _ rfl rfl rfl ?_; intro v' w' ho hg; have HO : Hid (w'.ownsRow w.heap.size 73 3 v' (ordT f (8 * j + (k + 1))).length (flat (ordT f (8 * j + (k + 1))))) := hide (by rw [unhide HTF]; exact ho); have HB := hide (below_own ((unhide HBA).alloc hs1 _) ((unhide HOA).alloc _) hg (Nat.le_refl _) (by simp; omega)); clear ho hg))
            go_roundw
            case rel => exact ⟨k + 1, by omega, by go_num, HO, HB⟩
            case measure => simp [intOf]; omega
        · obtain rfl : k = 8 := by omega
          have HO : Hid (wr.ownsRow w.heap.size 73 3 u3 (ordT f (8 * (j + 1))).length (flat (ordT f (8 * (j + 1))))) := hide (by rw [show 8 * (j + 1) = 8 * j + 8 by omega]; exact unhide how)
          go_wp2_with fail
          go_roundw
          case rel => exact ⟨j + 1, by omega, by go_num, HO, hbl⟩
          case measure => simp [intOf]; omega
    · obtain rfl : j = 8 := by omega
      have HL := hide (lst_own rfl (unhide how0))
      go_wp2_with fail
      go_ret
      exact ⟨_, rfl, unhide hbl0, unhide HL⟩
theorem om_none {w : World} {b n : Nat} {f : Int → Int → Option R} (h : OM w b n f) (o : Nat) : w.cell? ⟨b, o, none⟩ = none := by
  obtain ⟨D, ⟨es, ck, hb, _⟩, _⟩ := h
  simp [World.cell?, hb]
theorem ed_ne {w : World} {b n : Nat} {f : Int → Int → Option R} (h : OM w b n f) {g o : Nat} {m : Ed.R} (ha : Ed.At w g o m) : g ≠ b := by
  intro e; subst e; have := om_none h o; rw [ha.1] at this; cases this
theorem ed_but {w w' : World} {g o : Nat} {m : Ed.R} (h : Ed.At w g o m) (hb : w'.heap[g]? = w.heap[g]?) : Ed.At w' g o m := by
  obtain ⟨h0, h1⟩ := h
  exact ⟨(World.cell?_of_block (a := ⟨g, o, none⟩) hb).trans h0, (World.cell?_of_block (a := ⟨g, o + 1, none⟩) hb).trans h1⟩
theorem ed_lt {w : World} {g o : Nat} {m : Ed.R} (h : Ed.At w g o m) : g < w.heap.size := World.block_lt_of_cell? _ _ h.1
theorem sEd {w : World} {Bn : Nat} {ad mt : Int} (h : Ed.At w Bn 0 ⟨ad, mt⟩) : Ed.At w Bn 0 ⟨ad, mt⟩ ∧ w.cell? ⟨Bn, 0, none⟩ = some (.int .i64 ad) ∧ w.cell? ⟨Bn, 1, none⟩ = some (.int .i64 mt) := ⟨h, h.1, by have := h.2; simpa using this⟩
set_option maxHeartbeats 8000000 in
theorem learnFrom (b q : Nat) (L : List R) (frm til an valid : Int) (a : Option Addr) (ns : List Ed.R) (capn : Nat) (w : World) (hL : twoB L = true) (hf : 1 ≤ frm ∧ frm ≤ 8) (ht : 0 ≤ til ∧ til ≤ 1073741824) (hh : Av.tcB an valid ns = true) (hq : q ≤ 64) (hom : OM w b q (findT L)) (hr : Ed.RM w a ns) :
    Calls Try.prog 29 #[.map (some b), .int .i64 frm, .int .i64 til, .agg #[.int .i64 an, .int .i64 valid, .slice a ns.length capn]] w fun e w' => e = .returned (.tuple #[]) ∧ OM w' b (q + ns.length) (findT (learnE L frm til ns ns.length)) ∧ w.grownBy w' (some b) := by
  have h8 := Av.tc_len hh
  have HAL := hide (Av.tc_all hh)
  have HTW := hide (learnE_two hL hf ht (unhide HAL))
  have hbl := hom.lt
  have HR := hide hr
  have HOM := hide hom
  clear hh hL hr hom
  obtain ⟨N, hN⟩ : ∃ N, ns.length = N := ⟨_, rfl⟩
  have HN := hide hN
  rw [hN] at h8 ⊢
  clear hN
  generalize hn' : N = n at *
  clear hn'
  have O1 : Hid (OM (w.alloc (.cells #[.int .i64 an, .int .i64 valid, .slice a n capn] 30)) b (q + 0) (findT (learnE L frm til ns 0))) := hide ((unhide HOM).below ((Below.refl _ _).alloc (Nat.le_refl _) _))
  have G1 : Hid (w.grownBy (w.alloc (.cells #[.int .i64 an, .int .i64 valid, .slice a n capn] 30)) (some b)) := hide (World.grownBy_alloc w _ _)
  go_enter Try.func29, Try.ntmps29
  go_wp2_with fail
  go_loopw [13] (fun i wr => ∃ j : Nat, j ≤ n ∧ i = .int .i64 j ∧ Hid (OM wr b (q + j) (findT (learnE L frm til ns j))) ∧ Hid (w.grownBy wr (some b))) (fun i _ => n - (intOf i).toNat)
  case atStart => exact ⟨0, by omega, rfl, O1, G1⟩
  case round =>
    obtain ⟨j, hj, rfl, hom, hgr⟩ := hrel
    by_cases hlt : (j : Int) < (n : Int)
    · have k0 : (0 : Int) ≤ (j : Int) := by omega
      have hlen : j < ns.length := by rw [unhide HN]; omega
      obtain ⟨g, off, rfl⟩ := (unhide HR).form (by omega)
      have hA0 := (unhide HR).at hlen
      have hA := ed_but hA0 ((unhide hgr).block g (ed_lt hA0) (by intro e; cases e; exact ed_ne (unhide HOM) hA0 rfl))
      have hgs := (unhide hgr).size
      have HY : Hid (((ns.getD j Ed.R.zero).ad != frm) = true → learnE L frm til ns (j + 1) = putL (learnE L frm til ns j) (tupE frm til (ns.getD j Ed.R.zero))) := hide (fun h => learnE_yes hlen h)
      have HZ : Hid (((ns.getD j Ed.R.zero).ad != frm) = false → learnE L frm til ns (j + 1) = learnE L frm til ns j) := hide (fun h => learnE_no hlen h)
      have HTO : Hid (((ns.getD j Ed.R.zero).ad != frm) = true → okR (tupE frm til (ns.getD j Ed.R.zero)) = true ∧ okK (tupE frm til (ns.getD j Ed.R.zero)) = true ∧ hv (tupE frm til (ns.getD j Ed.R.zero)) = frm ∧ ha (tupE frm til (ns.getD j Ed.R.zero)) = (ns.getD j Ed.R.zero).ad) := hide (fun h => tupE_ok hf ht (Ri.all_ok (unhide HAL) hlen) h)
      have had := Av.ok_ad (Ri.all_ok (unhide HAL) hlen)
      have HT1 := hide (unhide HTW j (by omega))
      clear hA0
      generalize ns.getD j Ed.R.zero = m at *
      obtain ⟨ad, mt⟩ := m
      obtain ⟨c0, c1⟩ := hA
      dsimp only at c0 c1 had
      have B1 : Hid (Below wr.heap.size wr (wr.alloc (.cells #[.int .i64 ad, .int .i64 mt] 47))) := hide ((Below.refl _ _).alloc (Nat.le_refl _) _)
      have HO1 := hide ((unhide hom).below (unhide B1))
      have HG1 := hide ((unhide hgr).trans (World.grownBy_alloc wr (.cells #[.int .i64 ad, .int .i64 mt] 47) (some b)))
      have HNA : Hid (Ed.At (wr.alloc (.cells #[.int .i64 ad, .int .i64 mt] 47)) wr.heap.size 0 ⟨ad, mt⟩) := hide (by refine ⟨?_, ?_⟩ <;> simp [World.cell?_alloc_new])
      cases hnew : (ad != frm)
      · have E1 := unhide HZ hnew
        have HO2 : Hid (OM (wr.alloc (.cells #[.int .i64 ad, .int .i64 mt] 47)) b (q + (j + 1)) (findT (learnE L frm til ns (j + 1)))) := hide (by rw [E1]; exact (unhide HO1).mono (by omega))
        clear E1 HY HZ HTO
        go_wp2_with fail
        go_roundw
        case rel => exact ⟨j + 1, by omega, by go_num, HO2, HG1⟩
        case measure => simp [intOf]; omega
      · have E1 := unhide HY hnew
        obtain ⟨t1, t2, t3, t4⟩ := unhide HTO hnew
        have HPF : Hid (updT (findT (learnE L frm til ns j)) frm ad ⟨100 * frm + ad, til, mt⟩ = findT (learnE L frm til ns (j + 1))) := hide (by
          have hl := two_len (unhide HT1)
          rw [E1, find_put (two_set (unhide HT1)) (by omega), t3, t4]; rfl)
        clear E1 HY HZ HTO t1 t2 t3 t4
        have hb1 : b < wr.heap.size := by omega
        clear B1
        go_wp2_with fail
        generalize hW : wr.alloc (.cells #[.int .i64 ad, .int .i64 mt] 47) = W0 at *
        clear hW c0 c1
        refine wp_region_noPanic ?_
        refine wp_region_held_drew (S := fun w' => Ed.At w' wr.heap.size 0 ⟨ad, mt⟩ ∧ w'.cell? ⟨wr.heap.size, 0, none⟩ = some (.int .i64 ad) ∧ w'.cell? ⟨wr.heap.size, 1, none⟩ = some (.int .i64 mt)) (by kernel_rfl) (sEd (unhide HNA).drew) (fun hHeld => ?_)
        (refine Rg.tk (i := 0) (d := 21) (v := ?_) rfl rfl (by kernel_rfl) (by kernel_rfl) (by kernel_rfl) (fun _ _ _ h => h) (by rfl) ?_ (by assumption) ?_; rotate_left; (focus (intro w0 hSw; (try dsimp only at hSw); go_simp; (try with_reducible rfl))); (try simp only [Act.put, List.setIfInBounds_toArray, List.set_cons_zero, List.set_cons_succ]))
        (refine Rg.tk (i := 1) (d := 22) (v := ?_) rfl rfl (by kernel_rfl) (by kernel_rfl) (by kernel_rfl) (fun _ _ _ h => h) (by rfl) ?_ (by assumption) ?_; rotate_left; (focus (intro w0 hSw; (try dsimp only at hSw); go_simp; (try with_reducible rfl))); (try simp only [Act.put, List.setIfInBounds_toArray, List.set_cons_zero, List.set_cons_succ]))
        (refine Rg.tk (i := 2) (d := 23) (v := ?_) rfl rfl (by kernel_rfl) (by kernel_rfl) (by kernel_rfl) (fun _ _ _ h => h) (by rfl) ?_ (by assumption) ?_; rotate_left; (focus (intro w0 hSw; (try dsimp only at hSw); go_simp; (try with_reducible rfl))); (try simp only [Act.put, List.setIfInBounds_toArray, List.set_cons_zero, List.set_cons_succ]))
        (refine Rg.tk (i := 3) (d := 24) (v := ?_) rfl rfl (by kernel_rfl) (by kernel_rfl) (by kernel_rfl) (fun _ _ _ h => h) (by rfl) ?_ (by assumption) ?_; rotate_left; (focus (intro w0 hSw; (try dsimp only at hSw); go_simp; (try with_reducible rfl))); (try simp only [Act.put, List.setIfInBounds_toArray, List.set_cons_zero, List.set_cons_succ]))
        (refine Rg.tk (i := 4) (d := 25) (v := ?_) rfl rfl (by kernel_rfl) (by kernel_rfl) (by kernel_rfl) (fun _ _ _ h => h) (by rfl) ?_ (by assumption) ?_; rotate_left; (focus (intro w0 hSw; (try dsimp only at hSw); go_simp; (try with_reducible rfl))); (try simp only [Act.put, List.setIfInBounds_toArray, List.set_cons_zero, List.set_cons_succ]))
        (refine Rg.tk (i := 5) (d := 26) (v := ?_) rfl rfl (by kernel_rfl) (by kernel_rfl) (by kernel_rfl) (fun _ _ _ h => h) (by rfl) ?_ (by assumption) ?_; rotate_left; (focus (intro w0 hSw; (try dsimp only at hSw); go_simp; (try with_reducible rfl))); (try simp only [Act.put, List.setIfInBounds_toArray, List.set_cons_zero, List.set_cons_succ]))
        (refine Rg.tk (i := 6) (d := 27) (v := ?_) rfl rfl (by kernel_rfl) (by kernel_rfl) (by kernel_rfl) (fun _ _ _ h => h) (by rfl) ?_ (by assumption) ?_; rotate_left; (focus (intro w0 hSw; (try dsimp only at hSw); go_simp; (try with_reducible rfl))); (try simp only [Act.put, List.setIfInBounds_toArray, List.set_cons_zero, List.set_cons_succ]))
        (refine Rg.tk (i := 7) (d := 28) (v := ?_) rfl rfl (by kernel_rfl) (by kernel_rfl) (by kernel_rfl) (fun _ _ _ h => h) (by rfl) ?_ (by assumption) ?_; rotate_left; (focus (intro w0 hSw; (try dsimp only at hSw); go_simp; (try with_reducible rfl))); (try simp only [Act.put, List.setIfInBounds_toArray, List.set_cons_zero, List.set_cons_succ]))
        (refine Rg.tk (i := 8) (d := 29) (v := ?_) rfl rfl (by kernel_rfl) (by kernel_rfl) (by kernel_rfl) (fun _ _ _ h => h) (by rfl) ?_ (by assumption) ?_; rotate_left; (focus (intro w0 hSw; (try dsimp only at hSw); go_simp; (try with_reducible rfl))); (try simp only [Act.put, List.setIfInBounds_toArray, List.set_cons_zero, List.set_cons_succ]))
        (refine Rg.tk (i := 10) (d := 31) (v := ?_) rfl rfl (by kernel_rfl) (by kernel_rfl) (by kernel_rfl) (fun _ _ _ h => h) (by rfl) ?_ (by assumption) ?_; rotate_left; (focus (intro w0 hSw; (try dsimp only at hSw); go_simp; (try with_reducible rfl))); (try simp only [Act.put, List.setIfInBounds_toArray, List.set_cons_zero, List.set_cons_succ]))
        (refine Rg.tk (i := 11) (d := 32) (v := ?_) rfl rfl (by kernel_rfl) (by kernel_rfl) (by kernel_rfl) (fun _ _ _ h => h) (by rfl) ?_ (by assumption) ?_; rotate_left; (focus (intro w0 hSw; (try dsimp only at hSw); go_simp; (try with_reducible rfl))); (try simp only [Act.put, List.setIfInBounds_toArray, List.set_cons_zero, List.set_cons_succ]))
        (refine Rg.tk (i := 12) (d := 33) (v := ?_) rfl rfl (by kernel_rfl) (by kernel_rfl) (by kernel_rfl) (fun _ _ _ h => h) (by rfl) ?_ (by assumption) ?_; rotate_left; (focus (intro w0 hSw; (try dsimp only at hSw); go_simp; (try with_reducible rfl))); (try simp only [Act.put, List.setIfInBounds_toArray, List.set_cons_zero, List.set_cons_succ]))
        (refine wpAnyH_ready (rs := [9]) (by kernel_rfl) (by simp) ?_; refine AllReadyH.cons (o := _) rfl (fun K hK => ?_) AllReadyH.nil; go_simp)
        refine (Tw.keyOfHop frm ad _ (by omega) (by omega) (by omega) (by omega)).mono ?_
        rintro e w2 ⟨rfl, b2_⟩
        have b2 : Below W0.heap.size W0 w2 := (Below.refl _ _).drew.trans b2_
        have HS2 := hide ((unhide HNA).below b2)
        have HO3 := hide ((unhide HO1).below b2)
        have HG3 : Hid (w.grownBy w2 (some b)) := hide ((unhide HG1).trans ⟨b2.os, b2.tape, b2.output, b2.size, fun i hi _ => b2.block i hi⟩)
        clear b2 b2_ hHeld
        refine hK.out _ _ (sEd (unhide HS2)) (fun hHeld => ?_)
        clear hK K
        (try simp only [Act.put, List.setIfInBounds_toArray, List.set_cons_zero, List.set_cons_succ])
        (refine Rg.tk (i := 13) (d := 34) (v := ?_) rfl rfl (by kernel_rfl) (by kernel_rfl) (by kernel_rfl) (fun _ _ _ h => h) (by rfl) ?_ (by assumption) ?_; rotate_left; (focus (intro w0 hSw; (try dsimp only at hSw); go_simp; (try with_reducible rfl))); (try simp only [Act.put, List.setIfInBounds_toArray, List.set_cons_zero, List.set_cons_succ]))
        (refine wpAnyH_ready (rs := [14]) (by kernel_rfl) (by simp) ?_; refine AllReadyH.cons (o := _) rfl (fun K hK => ?_) AllReadyH.nil; rw [if_pos (by rfl)])
        refine wp_put _ _ _ _ rfl rfl b (q + j) _ rfl (unhide HO3) (by unfold maxLen; omega) frm ad (WalkArith.wf_i64 ⟨by omega, by omega⟩) (WalkArith.wf_i64 ⟨by omega, by omega⟩) ⟨100 * frm + ad, til, mt⟩ rfl rfl ?_
        intro w6 om6 g6
        have HO6 : Hid (OM w6 b (q + (j + 1)) (findT (learnE L frm til ns (j + 1)))) := hide ((unhide HPF) ▸ om6)
        have HS6 := hide (ed_but (unhide HS2) (g6.block wr.heap.size (ed_lt (unhide HS2)) (by intro e; cases e; omega)))
        have HG6 := hide ((unhide HG3).trans g6)
        clear om6 g6 hHeld
        refine hK.out _ _ (sEd (unhide HS6)) (fun hHeld => ?_)
        clear hK K hHeld
        (try simp only [Act.put, List.setIfInBounds_toArray, List.set_cons_zero, List.set_cons_succ])
        refine wpAnyH_done (by kernel_rfl) (NoPanic.normal ?_) _
        go_wp2_with fail
        go_roundw
        case rel => exact ⟨j + 1, by omega, by go_num, HO6, HG6⟩
        case measure => simp [intOf]; omega
    · obtain rfl : j = n := by omega
      go_wp2_with fail
      refine bodyPost_end (v := .tuple #[]) (by simp [results, Try.results29, go_sem]) rfl ⟨rfl, unhide hom, unhide hgr⟩
set_option maxHeartbeats 4000000 in
theorem edgesOf (b n : Nat) (f : Int → Int → Option R) (frm : Int) (w : World) (hwf : (Lit.int .i64 frm).wf = true) (hom : OM w b n f) :
    Calls Try.prog 43 #[.map (some b), .int .i64 frm] w fun e w' => ∃ v, e = .returned v ∧ Below w.heap.size w w' ∧ Ed.LstV w' v (fromE f frm 8) w.heap.size w'.heap.size := by
  have HOM := hide hom
  have HWF := hide hwf
  have OW : Hid (w.ownsRow w.heap.size 47 2 (.slice none 0 0) (fromE f frm 0).length (Ed.flat (fromE f frm 0))) := hide (Ed.own_nil w w.heap.size)
  clear hom hwf
  go_enter Try.func43, Try.ntmps43
  go_wp2_with fail
  go_loopw [5, 6] (fun v i wr => ∃ k : Nat, k ≤ 8 ∧ i = .int .i64 ((k : Int) + 1) ∧ Hid (wr.ownsRow w.heap.size 47 2 v (fromE f frm k).length (Ed.flat (fromE f frm k))) ∧ Hid (Below w.heap.size w wr)) (fun _ i _ => 9 - (intOf i).toNat)
  case atStart => exact ⟨0, by omega, rfl, OW, hide (Below.refl _ _)⟩
  case round =>
    obtain ⟨k, hk, rfl, how, hbl⟩ := hrel
    have hbs := (unhide hbl).size
    have hfl := fromE_len f frm k
    by_cases hlt : (k : Int) + 1 ≤ 8
    · have HM := hide ((unhide HOM).below (unhide hbl))
      have HWK : Hid ((Lit.int .i64 ((k : Int) + 1)).wf = true) := hide (WalkArith.wf_i64 ⟨by omega, by omega⟩)
      cases hf : f frm ((k : Int) + 1) with
      | none =>
        have HA : Hid ((f frm ((k : Int) + 1)).getD R.zero = ⟨0, 0, 0⟩) := hide (by rw [hf]; rfl)
        have HE : Hid ((f frm ((k : Int) + 1)).isSome = false) := hide (by rw [hf]; rfl)
        have e0 := fromE_no hf
        clear hf
        rw [← e0] at how
        clear e0
        have HB := hide ((unhide hbl).alloc hbs (.cells #[.int .i64 0, .int .i64 0, .int .i64 0] 73))
        have HO := hide ((unhide how).alloc (.cells #[.int .i64 0, .int .i64 0, .int .i64 0] 73))
        go_wp2_with (at_lookup; refine wpList_lookA _ rfl _ _ rfl b _ _ rfl (unhide HM) frm ((k : Int) + 1) (unhide HWF) (unhide HWK) rfl 0 0 0 false (unhide HA) (unhide HE) ?_)
        go_roundw
        case rel => exact ⟨k + 1, by omega, by go_num, HO, HB⟩
        case measure => simp [intOf]; omega
      | some m =>
        have HTF := hide (fromE_yes hf)
        obtain ⟨ke, ti, va⟩ := m
        have HA : Hid ((f frm ((k : Int) + 1)).getD R.zero = ⟨ke, ti, va⟩) := hide (by rw [hf]; rfl)
        have HE : Hid ((f frm ((k : Int) + 1)).isSome = true) := hide (by rw [hf]; rfl)
        clear hf
        have HBA := hide ((unhide hbl).alloc hbs (.cells #[.int .i64 ke, .int .i64 ti, .int .i64 va] 73))
        have HOA := hide ((unhide how).alloc (.cells #[.int .i64 ke, .int .i64 ti, .int .i64 va] 73))
        have hs1 : w.heap.size ≤ (wr.alloc (.cells #[.int .i64 ke, .int .i64 ti, .int .i64 va] 73)).heap.size := by simp; omega
        go_wp2_with (first | (at_lookup; refine wpList_lookA _ rfl _ _ rfl b _ _ rfl (unhide HM) frm ((k : Int) + 1) (unhide HWF) (unhide HWK) rfl ke ti va true (unhide HA) (unhide HE) ?_) | (at_builtin; refine Ed.wpList_apS ((unhide HOA).alloc _) (wr.heap.size + 1) 0 1 1 [(⟨(k : Int) + 1, va⟩ : Ed.R)] rfl (by have := Ed.rm_new (wr.alloc (.cells #[.int .i64 ke, .int .i64 ti, .int .i64 va] 73)) ⟨(k : Int) + 1, va⟩; simpa using this) (by simp only [List.length_cons, List.length_nil]; omega) (by simp; omega) rfl _ _ rfl rfl rfl ?_; intro v' w' ho hg; have HO : Hid (w'.ownsRow w.heap.size 47 2 v' (fromE f frm (k + 1)).length (Ed.flat (fromE f frm (k + 1)))) := hide (by rw [unhide HTF]; exact ho); have HB := hide (Ed.below_own ((unhide HBA).alloc hs1 _) ((unhide HOA).alloc _) hg (Nat.le_refl _) (by simp; omega)); clear ho hg))
        go_roundw
        case rel => exact ⟨k + 1, by omega, by go_num, HO, HB⟩
        case measure => simp [intOf]; omega
    · obtain rfl : k = 8 := by omega
      have HL := hide (Ed.lst_own rfl (unhide how))
      go_wp2_with fail
      go_ret
      exact ⟨_, rfl, unhide hbl, unhide HL⟩
end Tp
end Go.Proofs.Ytilphgfjgeoiaaa
namespace Go.Proofs.Ytilphgfjgeoiaaa
open Go.ChangeShapes Go.WideShapes Go.ChangeAt Go.RowKit
set_option linter.unusedVariables false
set_option linter.unusedSimpArgs false
set_option maxRecDepth 100000
attribute [local go_sem ↓] Go.wp_at_zero Go.wp_at_succ
namespace Tp
open W1 So
theorem copied (g off : Nat) (ms : List R) (cap n : Nat) (w : World) (hn : ms.length = n) (hm : ms.length ≤ 4096) (hr : RM w (some ⟨g, off, none⟩) ms) :
    Calls Try.prog 25 #[.slice (some ⟨g, off, none⟩) n cap] w fun e w' => ∃ v, e = .returned v ∧ Below w.heap.size w w' ∧ LstV w' v ms w.heap.size w'.heap.size := by
  have HR := hide hr
  have O0 := hide (own_nil w w.heap.size)
  clear hr
  go_enter Try.func25, Try.ntmps25
  go_wp2_with (at_builtin; refine wpList_apS (unhide O0) g off n cap ms hn (unhide HR) (by simp; omega) (by simp) rfl _ _ rfl rfl rfl ?_; intro v' w' ho hg; have HL := hide (lst_own rfl ho); have HB := hide (below_own (Below.refl _ _) (unhide O0) hg (Nat.le_refl _) (Nat.le_refl _)); clear ho hg)
  go_ret
  exact ⟨_, rfl, unhide HB, unhide HL⟩
theorem grow0 (w : World) : Calls Try.prog 113 #[.slice none 0 0, .int .i64 0] w fun e w' => ∃ v, e = .returned v ∧ Below w.heap.size w w' ∧ w'.ownsRow w.heap.size 41 3 v ([] : List R).length (flat []) := by
  have O0 := hide (own_nil w w.heap.size)
  go_enter Try.func113, Try.ntmps113
  go_wp2
  go_ret
  exact ⟨_, rfl, Below.refl _ _, unhide O0⟩
set_option maxHeartbeats 1000000 in
theorem growN (n : Nat) (w : World) (h0 : 0 < n) (hn : n ≤ 4096) : Calls Try.prog 113 #[.slice none 0 0, .int .i64 n] w fun e w' => ∃ v, e = .returned v ∧ Below w.heap.size w w' ∧ w'.ownsRow w.heap.size 41 3 v ([] : List R).length (flat []) := by
  obtain ⟨i0, hi, hz0, hz1, hz2⟩ := infoR
  have hrz : ∀ ty, (Builtin.append_ #[23, 3] ty #[.slice none 0 0, .int .i64 n]).run Try.prog w = _ := fun ty => Lib.run_append_nil_zeros w 23 3 ty 41 i0 _ .i64 .i64 Try.underlying23 Try.underlying3 hi hz0 n h0 (by rw [hz1]; decide) (by omega) (by rw [hz2]; omega)
  have hge : n ≤ grownCap w n 0 41 := grownCap_ge w _ _ _
  have hle := grownCap_le_maxLen w n 0 41 (by unfold maxLen; omega)
  obtain ⟨G, hG⟩ : ∃ G, G = grownCap w n 0 41 := ⟨_, rfl⟩
  rw [← hG] at hrz hge hle
  have hcs : (Builtin.zeroCells (Value.agg #[.int .i64 0, .int .i64 0, .int .i64 0]).cells n ++ Builtin.zeroCells (Value.agg #[.int .i64 0, .int .i64 0, .int .i64 0]).cells (G - n)).size = G * 3 := by
    rw [Array.size_append, size_zeroCells, size_zeroCells, show (Value.agg #[.int .i64 0, .int .i64 0, .int .i64 0]).cells.size = 3 from rfl]; omega
  generalize Builtin.zeroCells (Value.agg #[.int .i64 0, .int .i64 0, .int .i64 0]).cells n ++ Builtin.zeroCells (Value.agg #[.int .i64 0, .int .i64 0, .int .i64 0]).cells (G - n) = cs at *
  have O1 := hide (World.ownsRow_made (base := w.heap.size) (e := 41) (size := 3) w.drew cs G (Nat.le_refl _) hle hcs)
  have HB := hide ((Below.refl w.heap.size w).drew.alloc (Nat.le_refl _) (.cells cs 41))
  clear hcs hi hz0 hz1 hz2 hG
  unfold maxLen at hle
  have z0 : (0 : Int) < n := by omega
  go_enter Try.func113, Try.ntmps113
  go_wp2_with (at_builtin; refine Lib.wpList_append_run _ rfl _ _ _ _ rfl _ _ rfl rfl _ _ (hrz _) ?_)
  go_ret
  exact ⟨_, rfl, unhide HB, unhide O1⟩
/-- One of the lists that are put together. -/
structure Seg where
  g : Nat
  off : Nat
  cap : Nat
  ms : List R
def Seg.zero : Seg := ⟨0, 0, 0, []⟩
def cat (ss : List Seg) : List R := ss.flatMap Seg.ms
/-- The lists stand in block h, and read so. -/
def Segs (w : World) (h : Nat) (ss : List Seg) : Prop := ∀ i, i < ss.length → w.cell? ⟨h, i, none⟩ = some (.slice (some ⟨(ss.getD i Seg.zero).g, (ss.getD i Seg.zero).off, none⟩) (ss.getD i Seg.zero).ms.length (ss.getD i Seg.zero).cap) ∧ RM w (some ⟨(ss.getD i Seg.zero).g, (ss.getD i Seg.zero).off, none⟩) (ss.getD i Seg.zero).ms
theorem Segs.below {w w' : World} {h : Nat} {ss : List Seg} (hs : Segs w h ss) (hb : Below w.heap.size w w') : Segs w' h ss := fun i hi => by
  obtain ⟨h1, h2⟩ := hs i hi
  exact ⟨(hb.cell (p := ⟨h, i, none⟩) (World.block_lt_of_cell? _ _ h1)).trans h1, h2.below hb⟩
theorem cat_succ (ss : List Seg) (j : Nat) (h : j < ss.length) : cat (ss.take (j + 1)) = cat (ss.take j) ++ (ss.getD j Seg.zero).ms := by
  unfold cat
  rw [List.take_add_one, List.getElem?_eq_getElem h, List.flatMap_append, List.getD_eq_getElem?_getD, List.getElem?_eq_getElem h]; simp
theorem cat_le (ss : List Seg) (j : Nat) : (cat (ss.take j)).length ≤ (cat ss).length := by
  have e : cat ss = cat (ss.take j) ++ cat (ss.drop j) := by unfold cat; rw [← List.flatMap_append, List.take_append_drop]
  rw [e, List.length_append]; omega
theorem growA (n : Nat) (w : World) (hn : n ≤ 4096) : Calls Try.prog 113 #[.slice none 0 0, .int .i64 n] w fun e w' => ∃ v, e = .returned v ∧ Below w.heap.size w w' ∧ w'.ownsRow w.heap.size 41 3 v ([] : List R).length (flat []) := by
  by_cases h0 : n = 0
  · subst h0; exact grow0 w
  · exact growN n w (by omega) hn
set_option maxHeartbeats 4000000 in
theorem concat (h m : Nat) (ss : List Seg) (w : World) (hm : ss.length = m) (hm8 : m ≤ 8) (hs : Segs w h ss) (hl : (cat ss).length ≤ 4096) :
    Calls Try.prog 80 #[.slice (some ⟨h, 0, none⟩) m m] w fun e w' => ∃ v, e = .returned v ∧ Below w.heap.size w w' ∧ LstV w' v (cat ss) w.heap.size w'.heap.size := by
  have HS := hide hs
  have HM := hide hm
  have HL := hide hl
  clear hs hm hl
  go_enter Try.func80, Try.ntmps80
  go_wp2
  go_loopw [3, 11] (fun z i wr => w = wr ∧ ∃ j : Nat, j ≤ m ∧ i = .int .i64 j ∧ ∃ q : Nat, z = .int .i64 q ∧ Hid (q = (cat (ss.take j)).length)) (fun _ i _ => m - (intOf i).toNat)
  case atStart => exact ⟨rfl, 0, by omega, rfl, 0, rfl, hide (by simp [cat])⟩
  case round =>
    obtain ⟨rfl, j, hj, rfl, q, rfl, hq⟩ := hrel
    have hql : q ≤ 4096 := by rw [unhide hq]; exact Nat.le_trans (cat_le ss j) (unhide HL)
    by_cases hlt : (j : Int) < (m : Int)
    · have k0 : (0 : Int) ≤ (j : Int) := by omega
      have hlen : j < ss.length := by rw [unhide HM]; omega
      have hc := (unhide HS j hlen).1
      have hsn := cat_succ ss j hlen
      have hnl := Nat.le_trans (cat_le ss (j + 1)) (unhide HL)
      rw [hsn, List.length_append] at hnl
      have HQ : Hid (q + (ss.getD j Seg.zero).ms.length = (cat (ss.take (j + 1))).length) := hide (by rw [hsn, List.length_append, unhide hq])
      have hq2 : q + (ss.getD j Seg.zero).ms.length ≤ 4096 := by rw [unhide hq]; exact hnl
      clear hsn hnl
      generalize ss.getD j Seg.zero = s at *
      have hnn : ¬ ((q : Int) + (s.ms.length : Int) < 0) := by omega
      go_wp2_with fail
      go_roundw
      case rel => exact ⟨by first | trivial | rfl, j + 1, by omega, by go_num, q + s.ms.length, by go_num, HQ⟩
      case measure => simp [intOf]; omega
    · obtain rfl : j = m := by omega
      go_wp2_with fail
      refine (growA q _ hql).mono ?_
      rintro e w1 ⟨v1, rfl, b1, o1⟩
      have B1 := hide b1
      have O1 := hide o1
      clear b1 o1
      go_wp2_with fail
      go_loopw [6, 27] (fun v i w2 => ∃ t : Nat, t ≤ j ∧ i = .int .i64 t ∧ Hid (w2.ownsRow w.heap.size 41 3 v (cat (ss.take t)).length (flat (cat (ss.take t)))) ∧ Hid (Below w.heap.size w w2)) (fun _ i _ => j - (intOf i).toNat)
      case atStart => exact ⟨0, by omega, rfl, O1, B1⟩
      case round =>
        obtain ⟨t, ht, rfl, how, hbl⟩ := hrel
        by_cases hlt2 : (t : Int) < (j : Int)
        · have k0 : (0 : Int) ≤ (t : Int) := by omega
          have hlen : t < ss.length := by rw [unhide HM]; omega
          obtain ⟨hc, hrm⟩ := (unhide HS).below (unhide hbl) t hlen
          have HRM := hide hrm
          have HSN := hide (cat_succ ss t hlen)
          have hnl := Nat.le_trans (cat_le ss (t + 1)) (unhide HL)
          rw [unhide HSN, List.length_append] at hnl
          clear hrm
          have hbs := (unhide hbl).size
          generalize ss.getD t Seg.zero = s at *
          go_wp2_with (at_builtin; refine wpList_apS (unhide how) s.g s.off s.ms.length s.cap s.ms rfl (unhide HRM) (by omega) hbs rfl _ _ rfl rfl rfl ?_; intro v' w' ho hg; have HO : Hid (w'.ownsRow w.heap.size 41 3 v' (cat (ss.take (t + 1))).length (flat (cat (ss.take (t + 1))))) := hide (by rw [unhide HSN]; exact ho); have HB := hide (below_own (unhide hbl) (unhide how) hg (Nat.le_refl _) hbs); clear ho hg)
          go_roundw
          case rel => exact ⟨t + 1, by omega, by go_num, HO, HB⟩
          case measure => simp [intOf]; omega
        · obtain rfl : t = j := by omega
          have hl := lst_own rfl (unhide how)
          rw [List.take_of_length_le (by rw [unhide HM]; exact Nat.le_refl _)] at hl
          have HLL := hide hl
          clear hl
          go_wp2_with fail
          go_ret
          exact ⟨_, rfl, unhide hbl, unhide HLL⟩
theorem take_zero_off {w : World} {g off : Nat} {ms : List R} (h : RM w (some ⟨g, off, none⟩) ms) (n : Nat) : RM w (some ⟨g, off, none⟩) (ms.take n) := by
  have := h.part 0 n
  rw [List.drop_zero, Nat.zero_mul, Nat.add_zero] at this; exact this
theorem drop_off {w : World} {g off : Nat} {ms : List R} (h : RM w (some ⟨g, off, none⟩) ms) (i : Nat) : RM w (some ⟨g, off + i * 3, none⟩) (ms.drop i) := by
  have := h.part i ms.length
  rw [List.take_of_length_le (by simp)] at this; exact this
theorem segs3 {w : World} {g1 o1 c1 g2 o2 c2 g3 o3 c3 : Nat} {m1 m2 m3 : List R} (h1 : RM w (some ⟨g1, o1, none⟩) m1) (h2 : RM w (some ⟨g2, o2, none⟩) m2) (h3 : RM w (some ⟨g3, o3, none⟩) m3) :
    Segs (w.alloc (.cells #[.slice (some ⟨g1, o1, none⟩) m1.length c1, .slice (some ⟨g2, o2, none⟩) m2.length c2, .slice (some ⟨g3, o3, none⟩) m3.length c3] 23)) w.heap.size [⟨g1, o1, c1, m1⟩, ⟨g2, o2, c2, m2⟩, ⟨g3, o3, c3, m3⟩] := by
  intro i hi
  have hb : Below w.heap.size w (w.alloc (.cells #[.slice (some ⟨g1, o1, none⟩) m1.length c1, .slice (some ⟨g2, o2, none⟩) m2.length c2, .slice (some ⟨g3, o3, none⟩) m3.length c3] 23)) := (Below.refl _ _).alloc (Nat.le_refl _) _
  match i, hi with
  | 0, _ => exact ⟨by simp [World.cell?_alloc_new], h1.below hb⟩
  | 1, _ => exact ⟨by simp [World.cell?_alloc_new], h2.below hb⟩
  | 2, _ => exact ⟨by simp [World.cell?_alloc_new], h3.below hb⟩
theorem szS3 (W : World) : (sizeOf (Try.prog.elem 23)).run Try.prog W = .ok 3 W := by kernel_rfl
theorem slice_from (g off n cap p : Nat) (hp : p ≤ n) : ∃ o1, (∀ W, (Instr.slice 23 (.slice (some ⟨g, off, none⟩) n cap) (some (.int .i64 (p : Int))) none none).run Try.prog W = .ok (.slice (some ⟨g, o1, none⟩) (n - p) (cap - p)) W) ∧ (cap ≠ p → o1 = off + p * 3) := by
  refine ⟨if cap = p then off else off + p * 3, fun W => ?_, fun h => if_neg h⟩
  rw [run_slice_l W 23 (some ⟨g, off, none⟩) n cap (by kernel_rfl) .i64 (p : Int) (by omega) (by omega), szS3]
  simp only [Result.andThen, sliced, Int.toNat_natCast]
  split <;> simp [plain_add]
theorem slice_to (g off n cap p : Nat) (hp : p ≤ cap) (W : World) : (Instr.slice 23 (.slice (some ⟨g, off, none⟩) n cap) none (some (.int .i64 (p : Int))) none).run Try.prog W = .ok (.slice (some ⟨g, off, none⟩) p cap) W := by
  rw [run_slice_h W 23 (some ⟨g, off, none⟩) n cap (by kernel_rfl) .i64 (p : Int) (by omega) (by omega), szS3]
  simp only [Result.andThen, sliced, Int.toNat_natCast]
  split <;> simp [plain_add]
theorem rm_from {w : World} {g off o1 cap p : Nat} {ss : List R} (h : RM w (some ⟨g, off, none⟩) ss) (hc : ss.length ≤ cap) (hp : p ≤ ss.length) (ho : cap ≠ p → o1 = off + p * 3) : RM w (some ⟨g, o1, none⟩) (ss.drop p) := by
  by_cases e : cap = p
  · exact .inl (List.drop_eq_nil_of_le (by omega))
  · rw [ho e]; exact drop_off h p
set_option maxHeartbeats 8000000 in
theorem sourcesWith (g off : Nat) (ss : List R) (cap : Nat) (ad an til : Int) (w : World) (hcap : ss.length ≤ cap) (hs : srcB ss = true) (hr : RM w (some ⟨g, off, none⟩) ss) :
    Calls Try.prog 30 #[.slice (some ⟨g, off, none⟩) ss.length cap, .agg #[.int .i64 ad, .int .i64 an, .int .i64 til]] w fun e w' => ∃ v, e = .returned v ∧ Below w.heap.size w w' ∧ LstV w' v (withS ss ⟨ad, an, til⟩) w.heap.size w'.heap.size := by
  have h8 := src_len hs
  have HU := hide (up_src hs)
  have HW := hide (with_place (unhide HU) ⟨ad, an, til⟩)
  have HBA : Hid (Below w.heap.size w (w.alloc (.cells #[.int .i64 ad, .int .i64 an, .int .i64 til] 41))) := hide ((Below.refl _ _).alloc (Nat.le_refl _) _)
  have HX : Hid (Bx (w.alloc (.cells #[.int .i64 ad, .int .i64 an, .int .i64 til] 41)) w.heap.size ⟨ad, an, til⟩) := hide (bx_new w ⟨ad, an, til⟩ _)
  have HR := hide (hr.below (unhide HBA))
  clear hr hs
  obtain ⟨A, hA⟩ : ∃ A, withS ss ⟨ad, an, til⟩ = A := ⟨_, rfl⟩
  rw [hA] at HW ⊢
  clear hA
  dsimp only at HW
  obtain ⟨p, hp⟩ : ∃ p, placeS ss ad = p := ⟨_, rfl⟩
  have hpl := place_le ss ad
  rw [hp] at hpl HW
  have HP := hide hp
  clear hp
  obtain ⟨t, ht⟩ : ∃ t, thereS ss ad = t := ⟨_, rfl⟩
  have hpt : t = true → p < ss.length := fun e => by
    subst e; unfold thereS at ht; rw [Bool.and_eq_true] at ht; have := of_decide_eq_true ht.1; rw [unhide HP] at this; exact this
  rw [ht] at HW
  have HT := hide ht
  clear ht
  obtain ⟨n, hN⟩ : ∃ n, ss.length = n := ⟨_, rfl⟩
  have HN := hide hN
  rw [hN] at hcap h8 hpl hpt ⊢
  clear hN
  obtain ⟨o1, hs1, ho1⟩ := slice_from g off n cap p hpl
  have HO1 := hide ho1
  clear ho1
  have hs0 := slice_to g off n cap p (by omega)
  have lt1 : Hid ((ss.take p).length = p) := hide (by rw [List.length_take, unhide HN]; omega)
  cases t
  · go_enter Try.func30, Try.ntmps30
    go_wp2_with fail
    refine (by have := sourcePlace (some ⟨g, off, none⟩) ss cap ad _ (unhide HR) (unhide HU) (by rw [unhide HN]; omega); rw [unhide HN, unhide HP, unhide HT] at this; exact this : Calls Try.prog 44 #[.slice (some ⟨g, off, none⟩) n cap, .int .i64 ad] (w.alloc (.cells #[.int .i64 ad, .int .i64 an, .int .i64 til] 41)) _).mono ?_
    rintro e w3 ⟨rfl, b3⟩
    have hb3 := hide ((unhide HBA).trans (b3.mono (unhide HBA).size))
    have X3 := hide ((unhide HX).below b3)
    have R3 := hide ((unhide HR).below b3)
    clear b3
    obtain ⟨z0, z1, z2⟩ := unhide X3
    dsimp only at z0 z1 z2
    have H1 : Hid (RM w3 (some ⟨g, off, none⟩) (ss.take p)) := hide (take_zero_off (unhide R3) p)
    have H3 : Hid (RM w3 (some ⟨g, o1, none⟩) (ss.drop p)) := hide (rm_from (unhide R3) (by rw [unhide HN]; exact hcap) (by rw [unhide HN]; exact hpl) (unhide HO1))
    have ld1 : Hid ((ss.drop p).length = n - p) := hide (by rw [List.length_drop, unhide HN])
    have HB4 : Hid (Below w3.heap.size w3 (w3.alloc (.cells #[.int .i64 ad, .int .i64 an, .int .i64 til] 41)).drew) := hide (((Below.refl _ _).alloc (Nat.le_refl _) _).drew)
    have HSG : Hid (Segs ((w3.alloc (.cells #[.int .i64 ad, .int .i64 an, .int .i64 til] 41)).alloc (.cells #[.slice (some ⟨g, off, none⟩) p cap, .slice (some ⟨w3.heap.size, 0, none⟩) 1 1, .slice (some ⟨g, o1, none⟩) (n - p) (cap - p)] 23)).drew (w3.heap.size + 1) [⟨g, off, cap, ss.take p⟩, ⟨w3.heap.size, 0, 1, [⟨ad, an, til⟩]⟩, ⟨g, o1, cap - p, ss.drop p⟩]) := hide (by
      have RX := rm_new w3 ⟨ad, an, til⟩
      have hA : Below w3.heap.size w3 (w3.alloc (.cells #[.int .i64 ad, .int .i64 an, .int .i64 til] 41)) := (Below.refl _ _).alloc (Nat.le_refl _) _
      have := segs3 (w := w3.alloc (.cells #[.int .i64 ad, .int .i64 an, .int .i64 til] 41)) (c1 := cap) (c2 := 1) (c3 := cap - p) (o3 := o1) (g3 := g) ((unhide H1).below hA) RX (m3 := ss.drop p) ((unhide H3).below hA)
      rw [unhide lt1, unhide ld1, World.size_alloc] at this
      exact fun i hi => this i hi)
    have HCL : Hid ((cat [⟨g, off, cap, ss.take p⟩, ⟨w3.heap.size, 0, 1, [⟨ad, an, til⟩]⟩, ⟨g, o1, cap - p, ss.drop p⟩]).length ≤ 4096) := hide (by simp only [cat, List.flatMap_cons, List.flatMap_nil, List.length_append, List.length_nil, List.length_cons, unhide lt1, unhide ld1]; omega)
    have HEQ : Hid (cat [⟨g, off, cap, ss.take p⟩, ⟨w3.heap.size, 0, 1, [⟨ad, an, til⟩]⟩, ⟨g, o1, cap - p, ss.drop p⟩] = A) := hide (by rw [← unhide HW]; simp [cat])
    have HBX := hide (((unhide hb3).alloc (unhide hb3).size (.cells #[.int .i64 ad, .int .i64 an, .int .i64 til] 41)).alloc ((unhide hb3).alloc (unhide hb3).size (.cells #[.int .i64 ad, .int .i64 an, .int .i64 til] 41)).size (.cells #[.slice (some ⟨g, off, none⟩) p cap, .slice (some ⟨w3.heap.size, 0, none⟩) 1 1, .slice (some ⟨g, o1, none⟩) (n - p) (cap - p)] 23)).drew
    have X5 : Hid (Bx ((w3.alloc (.cells #[.int .i64 ad, .int .i64 an, .int .i64 til] 41)).alloc (.cells #[.slice (some ⟨g, off, none⟩) p cap, .slice (some ⟨w3.heap.size, 0, none⟩) 1 1, .slice (some ⟨g, o1, none⟩) (n - p) (cap - p)] 23)).drew w.heap.size ⟨ad, an, til⟩) := hide ((unhide X3).below (((Below.refl w3.heap.size w3).alloc (Nat.le_refl _) (.cells #[.int .i64 ad, .int .i64 an, .int .i64 til] 41)).alloc ((Below.refl w3.heap.size w3).alloc (Nat.le_refl _) (.cells #[.int .i64 ad, .int .i64 an, .int .i64 til] 41)).size _).drew)
    have X4 : Hid (Bx (w3.alloc (.cells #[.int .i64 ad, .int .i64 an, .int .i64 til] 41)).drew w.heap.size ⟨ad, an, til⟩) := hide ((unhide X3).below (unhide HB4))
    go_wp2_with fail
    refine wp_region_noPanic ?_
    refine wp_region_held_drew (S := fun w' => Bx w' w.heap.size ⟨ad, an, til⟩ ∧ w'.cell? ⟨w.heap.size, 0, none⟩ = some (.int .i64 ad) ∧ w'.cell? ⟨w.heap.size, 1, none⟩ = some (.int .i64 an) ∧ w'.cell? ⟨w.heap.size, 2, none⟩ = some (.int .i64 til)) (by kernel_rfl) (sBox (unhide X3).drew) (fun hHeld => ?_)
    (refine Rg.tk (i := 0) (d := 21) (v := ?_) rfl rfl (by kernel_rfl) (by kernel_rfl) (by kernel_rfl) (fun _ _ _ h => h) (by rfl) ?_ (by assumption) ?_; rotate_left; (focus (intro w0 hSw; (try dsimp only at hSw); go_simp; (try with_reducible rfl))); (try simp only [Act.put, List.setIfInBounds_toArray, List.set_cons_zero, List.set_cons_succ]))
    (refine Rg.tk (i := 1) (d := 22) (v := ?_) rfl rfl (by kernel_rfl) (by kernel_rfl) (by kernel_rfl) (fun _ _ _ h => h) (by rfl) ?_ (by assumption) ?_; rotate_left; (focus (intro w0 hSw; (try dsimp only at hSw); go_simp; (try with_reducible rfl))); (try simp only [Act.put, List.setIfInBounds_toArray, List.set_cons_zero, List.set_cons_succ]))
    (refine Rg.tk (i := 2) (d := 23) (v := ?_) rfl rfl (by kernel_rfl) (by kernel_rfl) (by kernel_rfl) (fun _ _ _ h => h) (by rfl) ?_ (by assumption) ?_; rotate_left; (focus (intro w0 hSw; (try dsimp only at hSw); go_simp; (try with_reducible rfl))); (try simp only [Act.put, List.setIfInBounds_toArray, List.set_cons_zero, List.set_cons_succ]))
    (refine Rg.tk (i := 3) (d := 24) (v := ?_) rfl rfl (by kernel_rfl) (by kernel_rfl) (by kernel_rfl) (fun _ _ _ h => h) (by rfl) ?_ (by assumption) ?_; rotate_left; (focus (intro w0 hSw; (try dsimp only at hSw); go_simp; (try with_reducible rfl))); (try simp only [Act.put, List.setIfInBounds_toArray, List.set_cons_zero, List.set_cons_succ]))
    (refine Rg.tk (i := 5) (d := 26) (v := ?_) rfl rfl (by kernel_rfl) (by kernel_rfl) (by kernel_rfl) (fun _ _ _ h => h) (by rfl) ?_ (by assumption) ?_; rotate_left; (focus (intro w0 hSw; (try dsimp only at hSw); go_simp; (try with_reducible rfl))); (try simp only [Act.put, List.setIfInBounds_toArray, List.set_cons_zero, List.set_cons_succ]))
    (refine wpAnyH_ready (rs := [4]) (by kernel_rfl) (by simp) ?_; refine AllReadyH.cons (o := _) rfl (fun K hK => ?_) AllReadyH.nil; go_simp)
    refine hK.out _ _ (sBox (unhide X4)) (fun hHeld => ?_)
    clear hK K
    (try simp only [Act.put, List.setIfInBounds_toArray, List.set_cons_zero, List.set_cons_succ])
    (refine wpAnyH_ready (rs := [6]) (by kernel_rfl) (by simp) ?_; refine AllReadyH.cons (o := _) rfl (fun K hK => ?_) AllReadyH.nil; go_simp)
    refine hK.out _ _ (sBox (unhide X5)) (fun hHeld => ?_)
    clear hK K
    (try simp only [Act.put, List.setIfInBounds_toArray, List.set_cons_zero, List.set_cons_succ])
    (refine wpAnyH_ready (rs := [7]) (by kernel_rfl) (by simp) ?_; refine AllReadyH.cons (o := _) rfl (fun K hK => ?_) AllReadyH.nil; go_simp)
    refine (concat (w3.heap.size + 1) 3 _ _ rfl (by omega) (unhide HSG) (unhide HCL)).mono ?_
    rintro e w6 ⟨v, rfl, b6, l6⟩
    rw [unhide HEQ] at l6
    have hb6 := hide ((unhide HBX).trans (b6.mono (unhide HBX).size))
    have HL := hide (l6.mono (unhide HBX).size (Nat.le_refl _))
    have X6 := hide ((unhide X5).below b6)
    clear b6 l6
    refine hK.out _ _ (sBox (unhide X6)) (fun hHeld => ?_)
    clear hK K
    (try simp only [Act.put, List.setIfInBounds_toArray, List.set_cons_zero, List.set_cons_succ])
    (refine Rg.tk (i := 8) (d := 4) (v := ?_) rfl rfl (by kernel_rfl) (by kernel_rfl) (by kernel_rfl) (fun _ _ _ h => h) (by rfl) ?_ (by assumption) ?_; rotate_left; (focus (intro w0 hSw; (try dsimp only at hSw); go_simp; (try with_reducible rfl))); (try simp only [Act.put, List.setIfInBounds_toArray, List.set_cons_zero, List.set_cons_succ]))
    refine wpAnyH_done (by kernel_rfl) (NoPanic.normal ?_) _
    clear hHeld
    go_wp2_with fail
    go_ret
    exact ⟨_, rfl, unhide hb6, unhide HL⟩
  · have hlt := hpt rfl
    obtain ⟨o2, hs2, ho2⟩ := slice_from g o1 (n - p) (cap - p) 1 (by omega)
    rw [Nat.sub_sub, Nat.sub_sub] at hs2
    have hs3 : ∀ W, (Instr.slice 23 (.slice (some ⟨g, o1, none⟩) (n - p) (cap - p)) (some (.int .i64 1)) none none).run Try.prog W = .ok (.slice (some ⟨g, o2, none⟩) (n - (p + 1)) (cap - (p + 1))) W := hs2
    clear hs2
    have HO2 := hide ho2
    clear ho2
    go_enter Try.func30, Try.ntmps30
    go_wp2_with fail
    refine (by have := sourcePlace (some ⟨g, off, none⟩) ss cap ad _ (unhide HR) (unhide HU) (by rw [unhide HN]; omega); rw [unhide HN, unhide HP, unhide HT] at this; exact this : Calls Try.prog 44 #[.slice (some ⟨g, off, none⟩) n cap, .int .i64 ad] (w.alloc (.cells #[.int .i64 ad, .int .i64 an, .int .i64 til] 41)) _).mono ?_
    rintro e w3 ⟨rfl, b3⟩
    have hb3 := hide ((unhide HBA).trans (b3.mono (unhide HBA).size))
    have X3 := hide ((unhide HX).below b3)
    have R3 := hide ((unhide HR).below b3)
    clear b3
    obtain ⟨z0, z1, z2⟩ := unhide X3
    dsimp only at z0 z1 z2
    have H1 : Hid (RM w3 (some ⟨g, off, none⟩) (ss.take p)) := hide (take_zero_off (unhide R3) p)
    have H3 : Hid (RM w3 (some ⟨g, o2, none⟩) (ss.drop (p + 1))) := hide (by
      have h1 := rm_from (o1 := o1) (unhide R3) (cap := cap) (p := p) (by rw [unhide HN]; exact hcap) (by rw [unhide HN]; exact hpl) (unhide HO1)
      have h2 := rm_from (o1 := o2) h1 (cap := cap - p) (p := 1) (by rw [List.length_drop, unhide HN]; omega) (by rw [List.length_drop, unhide HN]; omega) (unhide HO2)
      rw [List.drop_drop] at h2; exact h2)
    have ld1 : Hid ((ss.drop (p + 1)).length = n - (p + 1)) := hide (by rw [List.length_drop, unhide HN])
    have HB4 : Hid (Below w3.heap.size w3 (w3.alloc (.cells #[.int .i64 ad, .int .i64 an, .int .i64 til] 41)).drew) := hide (((Below.refl _ _).alloc (Nat.le_refl _) _).drew)
    have HSG : Hid (Segs ((w3.alloc (.cells #[.int .i64 ad, .int .i64 an, .int .i64 til] 41)).alloc (.cells #[.slice (some ⟨g, off, none⟩) p cap, .slice (some ⟨w3.heap.size, 0, none⟩) 1 1, .slice (some ⟨g, o2, none⟩) (n - (p + 1)) (cap - (p + 1))] 23)).drew (w3.heap.size + 1) [⟨g, off, cap, ss.take p⟩, ⟨w3.heap.size, 0, 1, [⟨ad, an, til⟩]⟩, ⟨g, o2, cap - (p + 1), ss.drop (p + 1)⟩]) := hide (by
      have RX := rm_new w3 ⟨ad, an, til⟩
      have hA : Below w3.heap.size w3 (w3.alloc (.cells #[.int .i64 ad, .int .i64 an, .int .i64 til] 41)) := (Below.refl _ _).alloc (Nat.le_refl _) _
      have := segs3 (w := w3.alloc (.cells #[.int .i64 ad, .int .i64 an, .int .i64 til] 41)) (c1 := cap) (c2 := 1) (c3 := cap - (p + 1)) (o3 := o2) (g3 := g) ((unhide H1).below hA) RX (m3 := ss.drop (p + 1)) ((unhide H3).below hA)
      rw [unhide lt1, unhide ld1, World.size_alloc] at this
      exact fun i hi => this i hi)
    have HCL : Hid ((cat [⟨g, off, cap, ss.take p⟩, ⟨w3.heap.size, 0, 1, [⟨ad, an, til⟩]⟩, ⟨g, o2, cap - (p + 1), ss.drop (p + 1)⟩]).length ≤ 4096) := hide (by simp only [cat, List.flatMap_cons, List.flatMap_nil, List.length_append, List.length_nil, List.length_cons, unhide lt1, unhide ld1]; omega)
    have HEQ : Hid (cat [⟨g, off, cap, ss.take p⟩, ⟨w3.heap.size, 0, 1, [⟨ad, an, til⟩]⟩, ⟨g, o2, cap - (p + 1), ss.drop (p + 1)⟩] = A) := hide (by rw [← unhide HW]; simp [cat])
    have HBX := hide (((unhide hb3).alloc (unhide hb3).size (.cells #[.int .i64 ad, .int .i64 an, .int .i64 til] 41)).alloc ((unhide hb3).alloc (unhide hb3).size (.cells #[.int .i64 ad, .int .i64 an, .int .i64 til] 41)).size (.cells #[.slice (some ⟨g, off, none⟩) p cap, .slice (some ⟨w3.heap.size, 0, none⟩) 1 1, .slice (some ⟨g, o2, none⟩) (n - (p + 1)) (cap - (p + 1))] 23)).drew
    have X5 : Hid (Bx ((w3.alloc (.cells #[.int .i64 ad, .int .i64 an, .int .i64 til] 41)).alloc (.cells #[.slice (some ⟨g, off, none⟩) p cap, .slice (some ⟨w3.heap.size, 0, none⟩) 1 1, .slice (some ⟨g, o2, none⟩) (n - (p + 1)) (cap - (p + 1))] 23)).drew w.heap.size ⟨ad, an, til⟩) := hide ((unhide X3).below (((Below.refl w3.heap.size w3).alloc (Nat.le_refl _) (.cells #[.int .i64 ad, .int .i64 an, .int .i64 til] 41)).alloc ((Below.refl w3.heap.size w3).alloc (Nat.le_refl _) (.cells #[.int .i64 ad, .int .i64 an, .int .i64 til] 41)).size _).drew)
    have X4 : Hid (Bx (w3.alloc (.cells #[.int .i64 ad, .int .i64 an, .int .i64 til] 41)).drew w.heap.size ⟨ad, an, til⟩) := hide ((unhide X3).below (unhide HB4))
    go_wp2_with fail
    refine wp_region_noPanic ?_
    refine wp_region_held_drew (S := fun w' => Bx w' w.heap.size ⟨ad, an, til⟩ ∧ w'.cell? ⟨w.heap.size, 0, none⟩ = some (.int .i64 ad) ∧ w'.cell? ⟨w.heap.size, 1, none⟩ = some (.int .i64 an) ∧ w'.cell? ⟨w.heap.size, 2, none⟩ = some (.int .i64 til)) (by kernel_rfl) (sBox (unhide X3).drew) (fun hHeld => ?_)
    (refine Rg.tk (i := 0) (d := 21) (v := ?_) rfl rfl (by kernel_rfl) (by kernel_rfl) (by kernel_rfl) (fun _ _ _ h => h) (by rfl) ?_ (by assumption) ?_; rotate_left; (focus (intro w0 hSw; (try dsimp only at hSw); go_simp; (try with_reducible rfl))); (try simp only [Act.put, List.setIfInBounds_toArray, List.set_cons_zero, List.set_cons_succ]))
    (refine Rg.tk (i := 1) (d := 22) (v := ?_) rfl rfl (by kernel_rfl) (by kernel_rfl) (by kernel_rfl) (fun _ _ _ h => h) (by rfl) ?_ (by assumption) ?_; rotate_left; (focus (intro w0 hSw; (try dsimp only at hSw); go_simp; (try with_reducible rfl))); (try simp only [Act.put, List.setIfInBounds_toArray, List.set_cons_zero, List.set_cons_succ]))
    (refine Rg.tk (i := 2) (d := 23) (v := ?_) rfl rfl (by kernel_rfl) (by kernel_rfl) (by kernel_rfl) (fun _ _ _ h => h) (by rfl) ?_ (by assumption) ?_; rotate_left; (focus (intro w0 hSw; (try dsimp only at hSw); go_simp; (try with_reducible rfl))); (try simp only [Act.put, List.setIfInBounds_toArray, List.set_cons_zero, List.set_cons_succ]))
    (refine Rg.tk (i := 3) (d := 24) (v := ?_) rfl rfl (by kernel_rfl) (by kernel_rfl) (by kernel_rfl) (fun _ _ _ h => h) (by rfl) ?_ (by assumption) ?_; rotate_left; (focus (intro w0 hSw; (try dsimp only at hSw); go_simp; (try with_reducible rfl))); (try simp only [Act.put, List.setIfInBounds_toArray, List.set_cons_zero, List.set_cons_succ]))
    (refine Rg.tk (i := 5) (d := 26) (v := ?_) rfl rfl (by kernel_rfl) (by kernel_rfl) (by kernel_rfl) (fun _ _ _ h => h) (by rfl) ?_ (by assumption) ?_; rotate_left; (focus (intro w0 hSw; (try dsimp only at hSw); go_simp; (try with_reducible rfl))); (try simp only [Act.put, List.setIfInBounds_toArray, List.set_cons_zero, List.set_cons_succ]))
    (refine wpAnyH_ready (rs := [4]) (by kernel_rfl) (by simp) ?_; refine AllReadyH.cons (o := _) rfl (fun K hK => ?_) AllReadyH.nil; go_simp)
    refine hK.out _ _ (sBox (unhide X4)) (fun hHeld => ?_)
    clear hK K
    (try simp only [Act.put, List.setIfInBounds_toArray, List.set_cons_zero, List.set_cons_succ])
    (refine wpAnyH_ready (rs := [6]) (by kernel_rfl) (by simp) ?_; refine AllReadyH.cons (o := _) rfl (fun K hK => ?_) AllReadyH.nil; go_simp)
    refine hK.out _ _ (sBox (unhide X5)) (fun hHeld => ?_)
    clear hK K
    (try simp only [Act.put, List.setIfInBounds_toArray, List.set_cons_zero, List.set_cons_succ])
    (refine wpAnyH_ready (rs := [7]) (by kernel_rfl) (by simp) ?_; refine AllReadyH.cons (o := _) rfl (fun K hK => ?_) AllReadyH.nil; go_simp)
    refine (concat (w3.heap.size + 1) 3 _ _ rfl (by omega) (unhide HSG) (unhide HCL)).mono ?_
    rintro e w6 ⟨v, rfl, b6, l6⟩
    rw [unhide HEQ] at l6
    have hb6 := hide ((unhide HBX).trans (b6.mono (unhide HBX).size))
    have HL := hide (l6.mono (unhide HBX).size (Nat.le_refl _))
    have X6 := hide ((unhide X5).below b6)
    clear b6 l6
    refine hK.out _ _ (sBox (unhide X6)) (fun hHeld => ?_)
    clear hK K
    (try simp only [Act.put, List.setIfInBounds_toArray, List.set_cons_zero, List.set_cons_succ])
    (refine Rg.tk (i := 8) (d := 4) (v := ?_) rfl rfl (by kernel_rfl) (by kernel_rfl) (by kernel_rfl) (fun _ _ _ h => h) (by rfl) ?_ (by assumption) ?_; rotate_left; (focus (intro w0 hSw; (try dsimp only at hSw); go_simp; (try with_reducible rfl))); (try simp only [Act.put, List.setIfInBounds_toArray, List.set_cons_zero, List.set_cons_succ]))
    refine wpAnyH_done (by kernel_rfl) (NoPanic.normal ?_) _
    clear hHeld
    go_wp2_with fail
    go_ret
    exact ⟨_, rfl, unhide hb6, unhide HL⟩
end Tp
end Go.Proofs.Ytilphgfjgeoiaaa
namespace Go.Proofs.Ytilphgfjgeoiaaa
open Go.ChangeShapes Go.WideShapes Go.ChangeAt Go.RowKit
set_option linter.unusedVariables false
set_option linter.unusedSimpArgs false
set_option maxRecDepth 100000
attribute [local go_sem ↓] Go.wp_at_zero Go.wp_at_succ
namespace Tp
open W1 Tu St Tw
theorem isNow (n : Int) (w : World) : Calls Try.prog 77 #[.int .i64 n] w fun e w' => e = .returned (.bool (inB n 0 1000000)) ∧ w' = w := by
  go_enter Try.func77, Try.ntmps77
  go_wp2_with (go_at_call 46; refine (within _ _ _ _).mono ?_; rintro e w' ⟨rfl, rfl⟩)
  go_ret
  exact ⟨rfl, rfl⟩
set_option maxHeartbeats 2000000 in
theorem isStale (a : Option Addr) (ss : List So.R) (cap : Nat) (frm an : Int) (w : World) (hs : srcB ss = true) (han : 0 ≤ an ∧ an ≤ 65535) (hr : So.RM w a ss) :
    Calls Try.prog 78 #[.slice a ss.length cap, .int .i64 frm, .int .i64 an] w fun e w' => e = .returned (.bool (staleB ss frm an)) ∧ Below w.heap.size w w' := by
  have h8 := src_len hs
  have HS := hide hs
  have HU := hide (up_src hs)
  have HR := hide hr
  have hht := has_there (up_src hs) frm
  clear hs hr
  cases ht : thereS ss frm
  · have hB : staleB ss frm an = false := by unfold staleB; rw [hht, ht]; rfl
    rw [hB]
    have HT := hide ht
    clear ht hB hht
    go_enter Try.func78, Try.ntmps78
    go_wp2_with fail
    refine (sourcePlace a ss cap frm _ (unhide HR) (unhide HU) (by omega)).mono ?_
    rintro e w1 ⟨rfl, b1⟩
    rw [unhide HT]
    have HB := hide b1
    clear b1
    go_wp2_with fail
    go_ret
    exact ⟨rfl, unhide HB⟩
  · have hB : staleB ss frm an = Mtr.newB (ss.getD (placeS ss frm) So.R.zero).an an := by unfold staleB; rw [hht, ht, Bool.true_and, fS_there (unhide HU) ht]
    rw [hB]
    have hp : placeS ss frm < ss.length := by unfold thereS at ht; rw [Bool.and_eq_true] at ht; exact of_decide_eq_true ht.1
    have HT := hide ht
    clear ht hB hht
    obtain ⟨p, hpe⟩ : ∃ p, placeS ss frm = p := ⟨_, rfl⟩
    rw [hpe] at hp ⊢
    have HP := hide hpe
    clear hpe
    have k0 : (0 : Int) ≤ (p : Int) := by omega
    have k1 : (p : Int) < (ss.length : Int) := by omega
    obtain ⟨g, off, rfl⟩ := (unhide HR).form (by omega)
    have hA := (unhide HR).at hp
    have hok := ok_an (Ri.all_ok (unhide HS) hp)
    generalize ss.getD p So.R.zero = m at *
    obtain ⟨x, y, z⟩ := m
    dsimp only at hok
    have HA := hide hA
    clear hA
    have hiny : inB y 0 65535 = true := by unfold inB; simp; omega
    have hina : inB an 0 65535 = true := by unfold inB; simp; omega
    obtain ⟨nb, hnb⟩ : ∃ nb, Mtr.newB y an = nb := ⟨_, rfl⟩
    have HNB := hide hnb
    dsimp only
    rw [hnb]
    clear hnb
    go_enter Try.func78, Try.ntmps78
    go_wp2_with fail
    refine (sourcePlace (some ⟨g, off, none⟩) ss cap frm _ (unhide HR) (unhide HU) (by omega)).mono ?_
    rintro e w1 ⟨rfl, b1⟩
    rw [unhide HT, unhide HP]
    have HB := hide b1
    obtain ⟨c0, c1, c2⟩ := (unhide HA).below b1
    dsimp only at c0 c1 c2
    clear b1
    go_wp2_with fail
    refine (Mtr.implNewer y an _).mono ?_
    rintro e w2 ⟨rfl, hw2⟩
    rw [hw2]
    rw [hiny, hina, unhide HNB]
    clear hw2
    go_wp2_with fail
    go_ret
    exact ⟨by simp, unhide HB⟩
theorem lstS_set {w : World} {v : Value} {ms : List So.R} {lo hi b i : Nat} {u : Value} (h : So.LstV w v ms lo hi) (hb : b < lo ∨ hi ≤ b) : So.LstV (w.setCell ⟨b, i, none⟩ u) v ms lo hi := by
  obtain ⟨a, c, rfl, h⟩ := h
  exact ⟨a, c, rfl, h.but (p := fun k => k ≠ b) (by simp [World.setCell]) (fun k hk hne => Below.heap_setCell _ _ _ _ hne) (fun k h1 h2 => by omega)⟩
theorem lstT_set {w : World} {v : Value} {ms : List R} {lo hi b i : Nat} {u : Value} (h : LstV w v ms lo hi) (hb : b < lo ∨ hi ≤ b) : LstV (w.setCell ⟨b, i, none⟩ u) v ms lo hi := by
  obtain ⟨a, c, rfl, h⟩ := h
  exact ⟨a, c, rfl, h.but (p := fun k => k ≠ b) (by simp [World.setCell]) (fun k hk hne => Below.heap_setCell _ _ _ _ hne) (fun k h1 h2 => by omega)⟩
/-- A topology in memory of its own. -/
def TLst (w : World) (v : Value) (S : List So.R) (E : List R) (lo hi : Nat) : Prop := ∃ vs ve mid, v = .agg #[vs, ve] ∧ So.LstV w vs S lo mid ∧ LstV w ve E mid hi ∧ lo ≤ mid ∧ mid ≤ hi
theorem TLst.below {w w' : World} {v : Value} {S : List So.R} {E : List R} {lo hi : Nat} (h : TLst w v S E lo hi) (hb : Below w.heap.size w w') : TLst w' v S E lo hi := by
  obtain ⟨vs, ve, mid, rfl, h1, h2, h3⟩ := h
  exact ⟨vs, ve, mid, rfl, h1.below hb, h2.below hb, h3⟩
theorem TLst.mono {w : World} {v : Value} {S : List So.R} {E : List R} {lo hi lo' hi' : Nat} (h : TLst w v S E lo hi) (h1 : lo' ≤ lo) (h2 : hi ≤ hi') : TLst w v S E lo' hi' := by
  obtain ⟨vs, ve, mid, rfl, q1, q2, q3⟩ := h
  exact ⟨vs, ve, mid, rfl, q1.mono h1 (Nat.le_refl _), q2.mono (Nat.le_refl _) h2, by omega⟩
theorem tlst_nil (w : World) (a : Option Addr) (c : Nat) (b : Option Addr) (d : Nat) {lo hi : Nat} (h : lo ≤ hi) : TLst w (.agg #[.slice a 0 c, .slice b 0 d]) [] [] lo hi := ⟨_, _, lo, rfl, So.lstV_nil _ _ _ _ _, lstV_nil _ _ _ _ _, Nat.le_refl _, h⟩
set_option maxHeartbeats 4000000 in
theorem hearTcCode (a : Option Addr) (ss : List So.R) (ca : Nat) (b : Option Addr) (es : List R) (cb : Nat) (frm now an valid : Int) (c : Option Addr) (ns : List Ed.R) (cn : Nat) (w : World) (hm : ss.length ≤ 1048576) (hl : es.length ≤ 1048576) (hn : ns.length ≤ 1048576) (hr : So.RM w a ss) (hr' : RM w b es) (hr2 : Ed.RM w c ns) :
    Calls Try.prog 24 #[.agg #[.slice a ss.length ca, .slice b es.length cb], .int .i64 frm, .int .i64 now, .agg #[.int .i64 an, .int .i64 valid, .slice c ns.length cn]] w fun e w' => e = .returned (.int .i64 (hearC ss es frm now an valid ns)) ∧ Below w.heap.size w w' := by
  have HA0 : Hid (Below w.heap.size w (w.alloc (.cells #[.slice a ss.length ca, .slice b es.length cb] 26))) := hide ((Below.refl _ _).alloc (Nat.le_refl _) _)
  have HA : Hid (Below w.heap.size w ((w.alloc (.cells #[.slice a ss.length ca, .slice b es.length cb] 26)).alloc (.cells #[.int .i64 an, .int .i64 valid, .slice c ns.length cn] 30))) := hide ((unhide HA0).alloc (unhide HA0).size _)
  have HX : Hid (Bx2 ((w.alloc (.cells #[.slice a ss.length ca, .slice b es.length cb] 26)).alloc (.cells #[.int .i64 an, .int .i64 valid, .slice c ns.length cn] 30)) w.heap.size (.slice a ss.length ca) (.slice b es.length cb)) := hide ((bx2_new w _ _ _).below ((Below.refl _ _).alloc (Nat.le_refl _) _))
  have HY : Hid (Bx3 ((w.alloc (.cells #[.slice a ss.length ca, .slice b es.length cb] 26)).alloc (.cells #[.int .i64 an, .int .i64 valid, .slice c ns.length cn] 30)) (w.heap.size + 1) an valid (.slice c ns.length cn)) := hide (by have := bx3_new (w.alloc (.cells #[.slice a ss.length ca, .slice b es.length cb] 26)) an valid (.slice c ns.length cn) 30; rw [show (w.alloc (.cells #[.slice a ss.length ca, .slice b es.length cb] 26)).heap.size = w.heap.size + 1 by simp] at this; exact this)
  have HR := hide (hr.below (unhide HA))
  have HE := hide (hr'.below (unhide HA))
  have HN := hide (hr2.below (unhide HA))
  clear hr hr' hr2 HA0
  cases h1 : topB ss es
  · have HC : Hid (hearC ss es frm now an valid ns = 1) := hide (by unfold hearC; rw [h1]; rfl)
    have H1 := hide h1
    clear h1
    go_enter Try.func24, Try.ntmps24
    go_wp2_with (first | (go_at_call 62; refine (isAddress _ _).mono ?_; rintro e w' ⟨rfl, rfl⟩) | (go_at_call 77; refine (isNow _ _).mono ?_; rintro e w' ⟨rfl, rfl⟩))
    refine (implOK a ss ca b es cb _ hm hl (unhide HR) (unhide HE)).mono ?_
    rintro e w1 ⟨rfl, b1⟩
    rw [unhide H1]
    have HB1 := hide ((unhide HA).trans (b1.mono (unhide HA).size))
    clear b1
    go_wp2_with (first | (go_at_call 62; refine (isAddress _ _).mono ?_; rintro e w' ⟨rfl, rfl⟩) | (go_at_call 77; refine (isNow _ _).mono ?_; rintro e w' ⟨rfl, rfl⟩))
    go_ret
    exact ⟨ret_int (unhide HC).symm, unhide HB1⟩
  have H1 := hide h1
  cases h2 : inB frm 1 8
  · have HC : Hid (hearC ss es frm now an valid ns = 1) := hide (by unfold hearC; rw [h1, h2]; rfl)
    clear h1
    go_enter Try.func24, Try.ntmps24
    go_wp2_with (first | (go_at_call 62; refine (isAddress _ _).mono ?_; rintro e w' ⟨rfl, rfl⟩) | (go_at_call 77; refine (isNow _ _).mono ?_; rintro e w' ⟨rfl, rfl⟩))
    refine (implOK a ss ca b es cb _ hm hl (unhide HR) (unhide HE)).mono ?_
    rintro e w1 ⟨rfl, b1⟩
    rw [unhide H1]
    have HB1 := hide ((unhide HA).trans (b1.mono (unhide HA).size))
    clear b1
    go_wp2_with (first | (go_at_call 62; refine (isAddress _ _).mono ?_; rintro e w' ⟨rfl, rfl⟩) | (go_at_call 77; refine (isNow _ _).mono ?_; rintro e w' ⟨rfl, rfl⟩))
    go_ret
    exact ⟨ret_int (unhide HC).symm, unhide HB1⟩
  cases h3 : Av.tcB an valid ns
  · have HC : Hid (hearC ss es frm now an valid ns = 1) := hide (by unfold hearC; rw [h1, h2, h3]; rfl)
    have H3 := hide h3
    clear h1 h3
    go_enter Try.func24, Try.ntmps24
    go_wp2_with (first | (go_at_call 62; refine (isAddress _ _).mono ?_; rintro e w' ⟨rfl, rfl⟩) | (go_at_call 77; refine (isNow _ _).mono ?_; rintro e w' ⟨rfl, rfl⟩))
    refine (implOK a ss ca b es cb _ hm hl (unhide HR) (unhide HE)).mono ?_
    rintro e w1 ⟨rfl, b1⟩
    rw [unhide H1]
    have HB1 := hide ((unhide HA).trans (b1.mono (unhide HA).size))
    have HN1 := hide ((unhide HN).below b1)
    obtain ⟨y0, y1, y2⟩ := (unhide HY).below b1
    clear b1
    go_wp2_with (first | (go_at_call 62; refine (isAddress _ _).mono ?_; rintro e w' ⟨rfl, rfl⟩) | (go_at_call 77; refine (isNow _ _).mono ?_; rintro e w' ⟨rfl, rfl⟩))
    refine (Av.implOK an valid c ns cn _ hn (unhide HN1)).mono ?_
    rintro e w2 ⟨rfl, b2⟩
    rw [unhide H3]
    have HB2 := hide ((unhide HB1).trans (b2.mono (unhide HB1).size))
    clear b2 y0 y1 y2
    go_wp2_with (first | (go_at_call 62; refine (isAddress _ _).mono ?_; rintro e w' ⟨rfl, rfl⟩) | (go_at_call 77; refine (isNow _ _).mono ?_; rintro e w' ⟨rfl, rfl⟩))
    go_ret
    exact ⟨ret_int (unhide HC).symm, unhide HB2⟩
  have H3 := hide h3
  have han := Av.tc_ansn h3
  cases h4 : inB now 0 1000000
  · have HC : Hid (hearC ss es frm now an valid ns = 4) := hide (by unfold hearC; simp [h1, h2, h3, h4])
    clear h1 h3
    go_enter Try.func24, Try.ntmps24
    go_wp2_with (first | (go_at_call 62; refine (isAddress _ _).mono ?_; rintro e w' ⟨rfl, rfl⟩) | (go_at_call 77; refine (isNow _ _).mono ?_; rintro e w' ⟨rfl, rfl⟩))
    refine (implOK a ss ca b es cb _ hm hl (unhide HR) (unhide HE)).mono ?_
    rintro e w1 ⟨rfl, b1⟩
    rw [unhide H1]
    have HB1 := hide ((unhide HA).trans (b1.mono (unhide HA).size))
    have HN1 := hide ((unhide HN).below b1)
    obtain ⟨y0, y1, y2⟩ := (unhide HY).below b1
    clear b1
    go_wp2_with (first | (go_at_call 62; refine (isAddress _ _).mono ?_; rintro e w' ⟨rfl, rfl⟩) | (go_at_call 77; refine (isNow _ _).mono ?_; rintro e w' ⟨rfl, rfl⟩))
    refine (Av.implOK an valid c ns cn _ hn (unhide HN1)).mono ?_
    rintro e w2 ⟨rfl, b2⟩
    rw [unhide H3]
    have HB2 := hide ((unhide HB1).trans (b2.mono (unhide HB1).size))
    clear b2 y0 y1 y2
    go_wp2_with (first | (go_at_call 62; refine (isAddress _ _).mono ?_; rintro e w' ⟨rfl, rfl⟩) | (go_at_call 77; refine (isNow _ _).mono ?_; rintro e w' ⟨rfl, rfl⟩))
    go_ret
    exact ⟨ret_int (unhide HC).symm, unhide HB2⟩
  obtain ⟨t, ht⟩ : ∃ t, staleB ss frm an = t := ⟨_, rfl⟩
  have HT := hide ht
  have HC : Hid (hearC ss es frm now an valid ns = if t = true then 11 else 0) := hide (by unfold hearC; simp [h1, h2, h3, h4, ht])
  have HS := hide (top_src h1)
  clear h1 h3 ht
  cases t
  all_goals
    go_enter Try.func24, Try.ntmps24
    go_wp2_with (first | (go_at_call 62; refine (isAddress _ _).mono ?_; rintro e w' ⟨rfl, rfl⟩) | (go_at_call 77; refine (isNow _ _).mono ?_; rintro e w' ⟨rfl, rfl⟩))
    refine (implOK a ss ca b es cb _ hm hl (unhide HR) (unhide HE)).mono ?_
    rintro e w1 ⟨rfl, b1⟩
    rw [unhide H1]
    have HB1 := hide ((unhide HA).trans (b1.mono (unhide HA).size))
    have HN1 := hide ((unhide HN).below b1)
    have HX1 := hide ((unhide HX).below b1)
    have HY1 := hide ((unhide HY).below b1)
    have HR1 := hide ((unhide HR).below b1)
    obtain ⟨y0, y1, y2⟩ := unhide HY1
    clear b1
    go_wp2_with (first | (go_at_call 62; refine (isAddress _ _).mono ?_; rintro e w' ⟨rfl, rfl⟩) | (go_at_call 77; refine (isNow _ _).mono ?_; rintro e w' ⟨rfl, rfl⟩))
    refine (Av.implOK an valid c ns cn _ hn (unhide HN1)).mono ?_
    rintro e w2 ⟨rfl, b2⟩
    rw [unhide H3]
    have HB2 := hide ((unhide HB1).trans (b2.mono (unhide HB1).size))
    have HR2 := hide ((unhide HR1).below b2)
    clear y0 y1 y2
    obtain ⟨y0, y1, y2⟩ := (unhide HY1).below b2
    obtain ⟨z0, z1⟩ := (unhide HX1).below b2
    clear b2
    go_wp2_with (first | (go_at_call 62; refine (isAddress _ _).mono ?_; rintro e w' ⟨rfl, rfl⟩) | (go_at_call 77; refine (isNow _ _).mono ?_; rintro e w' ⟨rfl, rfl⟩))
    refine (isStale a ss ca frm an _ (unhide HS) han (unhide HR2)).mono ?_
    rintro e w3 ⟨rfl, b3⟩
    rw [unhide HT]
    have HB3 := hide ((unhide HB2).trans (b3.mono (unhide HB2).size))
    clear b3 y0 y1 y2 z0 z1
    go_wp2_with (first | (go_at_call 62; refine (isAddress _ _).mono ?_; rintro e w' ⟨rfl, rfl⟩) | (go_at_call 77; refine (isNow _ _).mono ?_; rintro e w' ⟨rfl, rfl⟩))
    go_ret
    exact ⟨ret_int (unhide HC).symm, unhide HB3⟩
end Tp
end Go.Proofs.Ytilphgfjgeoiaaa
namespace Go.Proofs.Ytilphgfjgeoiaaa
open Go.ChangeShapes Go.WideShapes Go.ChangeAt Go.RowKit
set_option linter.unusedVariables false
set_option linter.unusedSimpArgs false
set_option maxRecDepth 100000
attribute [local go_sem ↓] Go.wp_at_zero Go.wp_at_succ
namespace Tp
open W1 Tu St Tw Me
theorem so_ne {w : World} {b n : Nat} {f : Int → Int → Option R} (h : OM w b n f) {g o : Nat} {m : So.R} (ha : So.At w g o m) : g ≠ b := by
  intro e; subst e; have := om_none h o; rw [ha.1] at this; cases this
theorem so_but {w w' : World} {g o : Nat} {m : So.R} (h : So.At w g o m) (hb : w'.heap[g]? = w.heap[g]?) : So.At w' g o m := by
  obtain ⟨h0, h1, h2⟩ := h
  exact ⟨(World.cell?_of_block (a := ⟨g, o, none⟩) hb).trans h0, (World.cell?_of_block (a := ⟨g, o + 1, none⟩) hb).trans h1, (World.cell?_of_block (a := ⟨g, o + 2, none⟩) hb).trans h2⟩
theorem so_lt {w : World} {g o : Nat} {m : So.R} (h : So.At w g o m) : g < w.heap.size := World.block_lt_of_cell? _ _ h.1
theorem rmS_grown {w w' : World} {b n : Nat} {f : Int → Int → Option R} (ho : OM w b n f) {a : Option Addr} {ns : List So.R} (h : So.RM w a ns) (hg : w.grownBy w' (some b)) : So.RM w' a ns := by
  rcases h with h | ⟨g, off, rfl, hc⟩
  · exact .inl h
  · exact .inr ⟨g, off, rfl, fun i hi => so_but (hc i hi) (hg.block g (so_lt (hc i hi)) (by intro e; cases e; exact so_ne ho (hc i hi) rfl))⟩
theorem rmE_grown {w w' : World} {b n : Nat} {f : Int → Int → Option R} (ho : OM w b n f) {a : Option Addr} {ns : List Ed.R} (h : Ed.RM w a ns) (hg : w.grownBy w' (some b)) : Ed.RM w' a ns := by
  rcases h with h | ⟨g, off, rfl, hc⟩
  · exact .inl h
  · exact .inr ⟨g, off, rfl, fun i hi => ed_but (hc i hi) (hg.block g (ed_lt (hc i hi)) (by intro e; cases e; exact ed_ne ho (hc i hi) rfl))⟩
theorem sT2 {w : World} {B : Nat} {x y : Value} (hB : Bx2 w B x y) : Bx2 w B x y ∧ w.cell? ⟨B, 0, none⟩ = some x ∧ w.cell? ⟨B, 1, none⟩ = some y := ⟨hB, hB.1, hB.2⟩
set_option maxHeartbeats 8000000 in
theorem implHear (g off : Nat) (ss : List So.R) (ca h ofe : Nat) (es : List R) (cb : Nat) (frm now an valid : Int) (c : Option Addr) (ns : List Ed.R) (cn : Nat) (w : World) (hca : ss.length ≤ ca) (hm : ss.length ≤ 1048576) (hl : es.length ≤ 1048576) (hn : ns.length ≤ 1048576) (hr : So.RM w (some ⟨g, off, none⟩) ss) (hr' : RM w (some ⟨h, ofe, none⟩) es) (hr2 : Ed.RM w c ns) :
    Calls Try.prog 8 #[.agg #[.slice (some ⟨g, off, none⟩) ss.length ca, .slice (some ⟨h, ofe, none⟩) es.length cb], .int .i64 frm, .int .i64 now, .agg #[.int .i64 an, .int .i64 valid, .slice c ns.length cn]] w fun e w' => ∃ v, e = .returned (.tuple #[v, .int .i64 (hearC ss es frm now an valid ns)]) ∧ Below w.heap.size w w' ∧ TLst w' v (hearS ss es frm now an valid ns) (hearE ss es frm now an valid ns) w.heap.size w'.heap.size := by
  have HA0 : Hid (Below w.heap.size w (w.alloc (.cells #[.slice (some ⟨g, off, none⟩) ss.length ca, .slice (some ⟨h, ofe, none⟩) es.length cb] 26))) := hide ((Below.refl _ _).alloc (Nat.le_refl _) _)
  have HA1 : Hid (Below w.heap.size w ((w.alloc (.cells #[.slice (some ⟨g, off, none⟩) ss.length ca, .slice (some ⟨h, ofe, none⟩) es.length cb] 26)).alloc (.cells #[.int .i64 an, .int .i64 valid, .slice c ns.length cn] 30))) := hide ((unhide HA0).alloc (unhide HA0).size _)
  have HA : Hid (Below w.heap.size w (((w.alloc (.cells #[.slice (some ⟨g, off, none⟩) ss.length ca, .slice (some ⟨h, ofe, none⟩) es.length cb] 26)).alloc (.cells #[.int .i64 an, .int .i64 valid, .slice c ns.length cn] 30)).alloc (.cells #[.slice none 0 0, .slice none 0 0] 26))) := hide ((unhide HA1).alloc (unhide HA1).size _)
  have HX : Hid (Bx2 (((w.alloc (.cells #[.slice (some ⟨g, off, none⟩) ss.length ca, .slice (some ⟨h, ofe, none⟩) es.length cb] 26)).alloc (.cells #[.int .i64 an, .int .i64 valid, .slice c ns.length cn] 30)).alloc (.cells #[.slice none 0 0, .slice none 0 0] 26)) w.heap.size (.slice (some ⟨g, off, none⟩) ss.length ca) (.slice (some ⟨h, ofe, none⟩) es.length cb)) := hide (((bx2_new w _ _ _).below ((Below.refl _ _).alloc (Nat.le_refl _) _)).below ((Below.refl _ _).alloc (Nat.le_refl _) _))
  have HY : Hid (Bx3 (((w.alloc (.cells #[.slice (some ⟨g, off, none⟩) ss.length ca, .slice (some ⟨h, ofe, none⟩) es.length cb] 26)).alloc (.cells #[.int .i64 an, .int .i64 valid, .slice c ns.length cn] 30)).alloc (.cells #[.slice none 0 0, .slice none 0 0] 26)) (w.heap.size + 1) an valid (.slice c ns.length cn)) := hide (by have := (bx3_new (w.alloc (.cells #[.slice (some ⟨g, off, none⟩) ss.length ca, .slice (some ⟨h, ofe, none⟩) es.length cb] 26)) an valid (.slice c ns.length cn) 30).below ((Below.refl _ _).alloc (Nat.le_refl _) (.cells #[.slice none 0 0, .slice none 0 0] 26)); rw [show (w.alloc (.cells #[.slice (some ⟨g, off, none⟩) ss.length ca, .slice (some ⟨h, ofe, none⟩) es.length cb] 26)).heap.size = w.heap.size + 1 by simp] at this; exact this)
  have HZ : Hid (TV (((w.alloc (.cells #[.slice (some ⟨g, off, none⟩) ss.length ca, .slice (some ⟨h, ofe, none⟩) es.length cb] 26)).alloc (.cells #[.int .i64 an, .int .i64 valid, .slice c ns.length cn] 30)).alloc (.cells #[.slice none 0 0, .slice none 0 0] 26)) (w.heap.size + 2) (.slice none 0 0) (.slice none 0 0)) := hide (by have := tv_new ((w.alloc (.cells #[.slice (some ⟨g, off, none⟩) ss.length ca, .slice (some ⟨h, ofe, none⟩) es.length cb] 26)).alloc (.cells #[.int .i64 an, .int .i64 valid, .slice c ns.length cn] 30)) (.slice none 0 0) (.slice none 0 0); rw [show ((w.alloc (.cells #[.slice (some ⟨g, off, none⟩) ss.length ca, .slice (some ⟨h, ofe, none⟩) es.length cb] 26)).alloc (.cells #[.int .i64 an, .int .i64 valid, .slice c ns.length cn] 30)).heap.size = w.heap.size + 2 by simp] at this; exact this)
  have HR := hide (hr.below (unhide HA))
  have HE := hide (hr'.below (unhide HA))
  have HN := hide (hr2.below (unhide HA))
  clear hr hr' hr2 HA0 HA1
  have hz2 : w.heap.size ≤ w.heap.size + 2 := by omega
  obtain ⟨C, hC⟩ : ∃ C, hearC ss es frm now an valid ns = C := ⟨_, rfl⟩
  have HC := hide hC
  by_cases hc11 : C = 11
  · have h1 : hearS ss es frm now an valid ns = ss := by unfold hearS; rw [hC, if_neg (by omega), if_pos hc11]
    have h2 : hearE ss es frm now an valid ns = es := by unfold hearE; rw [hC, if_neg (by omega), if_pos hc11]
    rw [h1, h2, hC]
    have hok := (hearC_ok (.inr (hC.trans hc11))).1
    have h8 := src_len (top_src hok)
    have h62 := two_len (top_two hok)
    clear h1 h2 hC hok
    subst hc11
    go_enter Try.func8, Try.ntmps8
    go_wp2_with fail
    refine (hearTcCode _ ss ca _ es cb frm now an valid c ns cn _ hm hl hn (unhide HR) (unhide HE) (unhide HN)).mono ?_
    rintro e w1 ⟨rfl, b1⟩
    rw [unhide HC]
    have HB1 := hide ((unhide HA).trans (b1.mono (unhide HA).size))
    have HX1 := hide ((unhide HX).below b1)
    have HZ1 := hide ((unhide HZ).below b1)
    have HR1 := hide ((unhide HR).below b1)
    have HE1 := hide ((unhide HE).below b1)
    clear b1 HX HZ HR HE HN HY HA
    go_wp2_with fail
    refine wp_region_noPanic ?_
    refine wp_region_held_drew (S := fun w' => Bx2 w' w.heap.size (.slice (some ⟨g, off, none⟩) ss.length ca) (.slice (some ⟨h, ofe, none⟩) es.length cb) ∧ w'.cell? ⟨w.heap.size, 0, none⟩ = some (.slice (some ⟨g, off, none⟩) ss.length ca) ∧ w'.cell? ⟨w.heap.size, 1, none⟩ = some (.slice (some ⟨h, ofe, none⟩) es.length cb)) (by kernel_rfl) (sT2 (unhide HX1).drew) (fun hHeld => ?_)
    (refine Rg.tk (i := 0) (d := 20) (v := ?_) rfl rfl (by kernel_rfl) (by kernel_rfl) (by kernel_rfl) (fun _ _ _ h => h) (by rfl) ?_ (by assumption) ?_; rotate_left; (focus (intro w0 hSw; (try dsimp only at hSw); go_simp; (try with_reducible rfl))); (try simp only [Act.put, List.setIfInBounds_toArray, List.set_cons_zero, List.set_cons_succ]))
    (refine Rg.tk (i := 1) (d := 21) (v := ?_) rfl rfl (by kernel_rfl) (by kernel_rfl) (by kernel_rfl) (fun _ _ _ h => h) (by rfl) ?_ (by assumption) ?_; rotate_left; (focus (intro w0 hSw; (try dsimp only at hSw); go_simp; (try with_reducible rfl))); (try simp only [Act.put, List.setIfInBounds_toArray, List.set_cons_zero, List.set_cons_succ]))
    (refine Rg.tk (i := 3) (d := 23) (v := ?_) rfl rfl (by kernel_rfl) (by kernel_rfl) (by kernel_rfl) (fun _ _ _ h => h) (by rfl) ?_ (by assumption) ?_; rotate_left; (focus (intro w0 hSw; (try dsimp only at hSw); go_simp; (try with_reducible rfl))); (try simp only [Act.put, List.setIfInBounds_toArray, List.set_cons_zero, List.set_cons_succ]))
    (refine Rg.tk (i := 4) (d := 24) (v := ?_) rfl rfl (by kernel_rfl) (by kernel_rfl) (by kernel_rfl) (fun _ _ _ h => h) (by rfl) ?_ (by assumption) ?_; rotate_left; (focus (intro w0 hSw; (try dsimp only at hSw); go_simp; (try with_reducible rfl))); (try simp only [Act.put, List.setIfInBounds_toArray, List.set_cons_zero, List.set_cons_succ]))
    (refine Rg.tk (i := 7) (d := 27) (v := ?_) rfl rfl (by kernel_rfl) (by kernel_rfl) (by kernel_rfl) (fun _ _ _ h => h) (by rfl) ?_ (by assumption) ?_; rotate_left; (focus (intro w0 hSw; (try dsimp only at hSw); go_simp; (try with_reducible rfl))); (try simp only [Act.put, List.setIfInBounds_toArray, List.set_cons_zero, List.set_cons_succ]))
    (refine wpAnyH_ready (rs := [2]) (by kernel_rfl) (by simp) ?_; refine AllReadyH.cons (o := _) rfl (fun K hK => ?_) AllReadyH.nil; go_simp)
    refine (Tp.copied g off ss ca _ _ rfl (by omega) (unhide HR1).drew).mono ?_
    rintro e w2 ⟨vs, rfl, b2_, l2⟩
    have b2 : Below w1.heap.size w1 w2 := (Below.refl _ _).drew.trans b2_
    have HB2 := hide ((unhide HB1).trans (b2.mono (unhide HB1).size))
    have HX2 := hide ((unhide HX1).below b2)
    have HZ2 := hide ((unhide HZ1).below b2)
    have HE2 := hide ((unhide HE1).below b2)
    have hlo := (unhide HB1).size
    have hzl := (unhide HZ1).lt
    have HL2 := hide (show So.LstV w2 vs ss w1.heap.size w2.heap.size from l2)
    have hs2 : w1.heap.size ≤ w2.heap.size := b2.size
    clear b2 b2_ l2 hHeld
    refine hK.out _ _ (sT2 (unhide HX2)) (fun hHeld => ?_)
    clear hK K
    (try simp only [Act.put, List.setIfInBounds_toArray, List.set_cons_zero, List.set_cons_succ])
    (refine wpAnyH_ready (rs := [5]) (by kernel_rfl) (by simp) ?_; refine AllReadyH.cons (o := _) rfl (fun K hK => ?_) AllReadyH.nil; go_simp)
    refine (St.copied h ofe es cb _ _ rfl (by omega) (unhide HE2)).mono ?_
    rintro e w3 ⟨ve, rfl, b3, l3⟩
    have HB3 := hide ((unhide HB2).trans (b3.mono (unhide HB2).size))
    have HX3 := hide ((unhide HX2).below b3)
    have HZ3 := hide ((unhide HZ2).below b3)
    have HL3 := hide ((unhide HL2).below b3)
    have HM3 := hide l3
    have hs3 : w2.heap.size ≤ w3.heap.size := b3.size
    clear b3 l3 hHeld
    refine hK.out _ _ (sT2 (unhide HX3)) (fun hHeld => ?_)
    clear hK K
    (try simp only [Act.put, List.setIfInBounds_toArray, List.set_cons_zero, List.set_cons_succ])
    obtain ⟨sa, cs, evs, _⟩ := unhide HL3
    obtain ⟨ae, ce, eve, _⟩ := unhide HM3
    have HL4 := hide (show So.LstV w3 (.slice sa ss.length cs) ss w1.heap.size w2.heap.size by rw [← evs]; exact unhide HL3)
    have HM4 := hide (show LstV w3 (.slice ae es.length ce) es w2.heap.size w3.heap.size by rw [← eve]; exact unhide HM3)
    subst evs eve
    clear HL3 HM3 HL2
    (refine Rg.tk (i := 6) (d := 26) (v := ?_) rfl rfl (by kernel_rfl) (by kernel_rfl) (by kernel_rfl) (fun _ _ _ h => h) (by rfl) ?_ (by assumption) ?_; rotate_left; (focus (intro w0 hSw; (try dsimp only at hSw); go_simp; (try with_reducible rfl))); (try simp only [Act.put, List.setIfInBounds_toArray, List.set_cons_zero, List.set_cons_succ]))
    obtain ⟨x0, x1⟩ := (unhide HZ3).bx
    have f0 := (unhide HZ3).free 0
    have f1 := (unhide HZ3).free 1
    (refine wpAnyH_ready (rs := [8]) (by kernel_rfl) (by simp) ?_; refine AllReadyH.cons (o := _) rfl (fun K hK => ?_) AllReadyH.nil; go_simp)
    have HB5 := hide (((unhide HB3).setCell (p := ⟨w.heap.size + 2, 0, none⟩) hz2 (.slice sa ss.length cs)).setCell (p := ⟨w.heap.size + 2, 1, none⟩) hz2 (.slice ae es.length ce))
    have HX5 := hide (((unhide HX3).but (Below.heap_setCell w3 ⟨w.heap.size + 2, 0, none⟩ (.slice sa ss.length cs) _ (by show w.heap.size ≠ w.heap.size + 2; omega))).but (Below.heap_setCell (w3.setCell ⟨w.heap.size + 2, 0, none⟩ (.slice sa ss.length cs)) ⟨w.heap.size + 2, 1, none⟩ (.slice ae es.length ce) _ (by show w.heap.size ≠ w.heap.size + 2; omega)))
    have HZ5 := hide ((unhide HZ3).put (.slice sa ss.length cs) (.slice ae es.length ce))
    have HL5 := hide (lstS_set (b := w.heap.size + 2) (i := 1) (u := .slice ae es.length ce) (lstS_set (b := w.heap.size + 2) (i := 0) (u := .slice sa ss.length cs) (unhide HL4) (.inl (by omega))) (.inl (by omega)))
    have HM5 := hide (lstT_set (b := w.heap.size + 2) (i := 1) (u := .slice ae es.length ce) (lstT_set (b := w.heap.size + 2) (i := 0) (u := .slice sa ss.length cs) (unhide HM4) (.inl (by omega))) (.inl (by omega)))
    have hs5 : w3.heap.size ≤ ((w3.setCell ⟨w.heap.size + 2, 0, none⟩ (.slice sa ss.length cs)).setCell ⟨w.heap.size + 2, 1, none⟩ (.slice ae es.length ce)).heap.size := by simp [World.setCell]
    clear hHeld x0 x1 f0 f1
    generalize hW5 : (w3.setCell ⟨w.heap.size + 2, 0, none⟩ (.slice sa ss.length cs)).setCell ⟨w.heap.size + 2, 1, none⟩ (.slice ae es.length ce) = w5 at *
    clear hW5
    refine hK.out _ _ (sT2 (unhide HX5)) (fun hHeld => ?_)
    clear hK K
    (try simp only [Act.put, List.setIfInBounds_toArray, List.set_cons_zero, List.set_cons_succ])
    (refine Rg.tk (i := 9) (d := 9) (v := ?_) rfl rfl (by kernel_rfl) (by kernel_rfl) (by kernel_rfl) (fun _ _ _ h => h) (by rfl) ?_ (by assumption) ?_; rotate_left; (focus (intro w0 hSw; (try dsimp only at hSw); go_simp; (try with_reducible rfl))); (try simp only [Act.put, List.setIfInBounds_toArray, List.set_cons_zero, List.set_cons_succ]))
    refine wpAnyH_done (by kernel_rfl) (NoPanic.normal ?_) _
    clear hHeld
    obtain ⟨x0, x1⟩ := (unhide HZ5).bx
    go_wp2_with fail
    refine bodyPost_ret (v := .tuple #[.agg #[.slice sa ss.length cs, .slice ae es.length ce], .int .i64 11]) (by simp [results, Try.results8, go_sem, x0, x1]) rfl ⟨_, rfl, unhide HB5, _, _, w2.heap.size, rfl, (unhide HL5).mono (by omega) (Nat.le_refl _), (unhide HM5).mono (Nat.le_refl _) hs5, by omega, by omega⟩
  by_cases hc0 : C = 0
  rotate_left
  · have h1 : hearS ss es frm now an valid ns = [] := by unfold hearS; rw [hC, if_neg hc0, if_neg hc11]
    have h2 : hearE ss es frm now an valid ns = [] := by unfold hearE; rw [hC, if_neg hc0, if_neg hc11]
    rw [h1, h2, hC]
    clear h1 h2 hC
    have q0 : (C == 11) = false := by simpa using hc11
    have q1 : (C != 0) = true := by simpa using hc0
    go_enter Try.func8, Try.ntmps8
    go_wp2_with fail
    refine (hearTcCode _ ss ca _ es cb frm now an valid c ns cn _ hm hl hn (unhide HR) (unhide HE) (unhide HN)).mono ?_
    rintro e w1 ⟨rfl, b1⟩
    rw [unhide HC]
    have HB1 := hide ((unhide HA).trans (b1.mono (unhide HA).size))
    have HZ1 := hide ((unhide HZ).below b1)
    obtain ⟨x0, x1⟩ := (unhide HZ1).bx
    have f0 := (unhide HZ1).free 0
    have f1 := (unhide HZ1).free 1
    have hs1 := (unhide HB1).size
    clear b1
    go_wp2_with fail
    refine bodyPost_ret (v := .tuple #[.agg #[.slice none 0 0, .slice none 0 0], .int .i64 C]) (by simp [results, Try.results8, go_sem, x0, x1]) rfl ⟨_, rfl, ?_, tlst_nil _ _ _ _ _ (by simp [World.setCell]; omega)⟩
    have hB := unhide HB1
    (repeat (first | (with_reducible exact hB) | (with_reducible refine Below.drew ?_) | (with_reducible refine Below.setCell ?_ ?_ _; rotate_left; (first | exact Nat.le_refl _ | (simp; done) | (dsimp only; omega))) | (with_reducible refine Below.alloc ?_ ?_ _; rotate_left; (first | exact Nat.le_refl _ | omega | (simp [World.setCell]; omega)))))
  subst hc0
  have hok := hearC_ok (.inl hC)
  obtain ⟨ktop, kfrm, ktc, know⟩ := hok
  have kval := Av.tc_valid ktc
  have h1 : hearS ss es frm now an valid ns = withS ss ⟨frm, an, now + valid⟩ := by unfold hearS; rw [hC, if_pos rfl]
  have h2 : hearE ss es frm now an valid ns = ordT (findT (learnE (es.filter (keepF frm)) frm (now + valid) ns ns.length)) 64 := by
    unfold hearE; rw [hC, if_pos rfl]; exact (ord_all (nowE_two (top_two ktop) kfrm (by omega) ktc)).symm
  rw [h1, h2, hC]
  have h8 := src_len (top_src ktop)
  have h62 := two_len (top_two ktop)
  have hn8 := Av.tc_len ktc
  have HS := hide (top_src ktop)
  have HT := hide (top_two ktop)
  have HTC := hide ktc
  have HT0 := hide (two_filter (top_two ktop) (keepF frm))
  have HF0 := hide (forg_find (top_two ktop) frm)
  clear h1 h2 hC ktop ktc
  obtain ⟨til, htil⟩ : ∃ til, now + valid = til := ⟨_, rfl⟩
  have hwr : IntKind.i64.wrap (now + valid) = til := by rw [IntKind.wrap_i64]; omega
  have htb : 0 ≤ til ∧ til ≤ 1073741824 := by omega
  rw [htil]
  clear htil
  obtain ⟨E, hE⟩ : ∃ E, ordT (findT (learnE (es.filter (keepF frm)) frm til ns ns.length)) 64 = E := ⟨_, rfl⟩
  obtain ⟨S, hS⟩ : ∃ S, withS ss ⟨frm, an, til⟩ = S := ⟨_, rfl⟩
  rw [hE, hS]
  have HEE := hide hE
  have HSS := hide hS
  clear hE hS
  go_enter Try.func8, Try.ntmps8
  go_wp2_with fail
  refine (hearTcCode _ ss ca _ es cb frm now an valid c ns cn _ hm hl hn (unhide HR) (unhide HE) (unhide HN)).mono ?_
  rintro e w1 ⟨rfl, b1⟩
  rw [unhide HC]
  have HB1 := hide ((unhide HA).trans (b1.mono (unhide HA).size))
  have HX1 := hide ((unhide HX).below b1)
  have HY1 := hide ((unhide HY).below b1)
  have HZ1 := hide ((unhide HZ).below b1)
  have HR1 := hide ((unhide HR).below b1)
  have HE1 := hide ((unhide HE).below b1)
  have HN1 := hide ((unhide HN).below b1)
  clear b1 HX HZ HR HE HN HY HA
  obtain ⟨z0, z1⟩ := unhide HX1
  obtain ⟨y0, y1, y2⟩ := unhide HY1
  go_wp2_with fail
  refine (edgesByEnds _ es cb _ (unhide HT) (unhide HE1)).mono ?_
  rintro e w2 ⟨b, rfl, hb, om2, b2⟩
  clear z0 z1 y0 y1 y2
  have HB2 := hide ((unhide HB1).trans (b2.mono (unhide HB1).size))
  have HX2 := hide ((unhide HX1).below b2)
  have HY2 := hide ((unhide HY1).below b2)
  have HZ2 := hide ((unhide HZ1).below b2)
  have HR2 := hide ((unhide HR1).below b2)
  have HN2 := hide ((unhide HN1).below b2)
  have hxb : w.heap.size + 2 < b := Nat.lt_of_lt_of_le (unhide HZ1).lt hb
  have HM2 := hide om2
  clear b2 om2 HX1 HZ1 HR1 HE1 HN1 HY1
  go_wp2_with fail
  refine (forgetFrom b es.length (findT es) frm _ kfrm.1 kfrm.2 (unhide HM2)).mono ?_
  rintro e w3 ⟨rfl, om3, g3⟩
  have HM3 : Hid (OM w3 b es.length (findT (es.filter (keepF frm)))) := hide ((unhide HF0) ▸ om3)
  have HB3 := hide (Tw.om_grown (unhide HB2) (Nat.le_refl _) (by omega) g3)
  have HX3 := hide ((unhide HX2).but (g3.block _ (unhide HX2).lt (by intro e; cases e; omega)))
  have HY3 := hide ((unhide HY2).but (g3.block _ (unhide HY2).lt (by intro e; cases e; omega)))
  have HZ3 := hide ((unhide HZ2).grown g3 (by intro e; cases e; omega))
  have HR3 := hide (rmS_grown (unhide HM2) (unhide HR2) g3)
  have HN3 := hide (rmE_grown (unhide HM2) (unhide HN2) g3)
  clear om3 g3 HM2 HX2 HY2 HZ2 HR2 HN2
  obtain ⟨y0, y1, y2⟩ := unhide HY3
  go_wp2_with fail
  refine (learnFrom b es.length _ frm til an valid c ns cn _ (unhide HT0) kfrm htb (unhide HTC) (by omega) (unhide HM3) (unhide HN3)).mono ?_
  rintro e w4 ⟨rfl, om4, g4⟩
  clear y0 y1 y2
  have HM4 := hide om4
  have HB4 := hide (Tw.om_grown (unhide HB3) (Nat.le_refl _) (by omega) g4)
  have HX4 := hide ((unhide HX3).but (g4.block _ (unhide HX3).lt (by intro e; cases e; omega)))
  have HY4 := hide ((unhide HY3).but (g4.block _ (unhide HY3).lt (by intro e; cases e; omega)))
  have HZ4 := hide ((unhide HZ3).grown g4 (by intro e; cases e; omega))
  have HR4 := hide (rmS_grown (unhide HM3) (unhide HR3) g4)
  clear om4 g4 HM3 HX3 HY3 HZ3 HR3 HN3
  obtain ⟨z0, z1⟩ := unhide HX4
  obtain ⟨y0, y1, y2⟩ := unhide HY4
  go_wp2_with fail
  refine (sourcesWith g off ss ca frm an til _ hca (unhide HS) (unhide HR4)).mono ?_
  rintro e w5 ⟨vs, rfl, b5, l5⟩
  rw [unhide HSS] at l5
  clear z0 z1 y0 y1 y2
  have HB5 := hide ((unhide HB4).trans (b5.mono (unhide HB4).size))
  have HM5 := hide ((unhide HM4).below b5)
  have HZ5 := hide ((unhide HZ4).below b5)
  have HL5 := hide l5
  have hlo := (unhide HZ4).lt
  have hs5 : w4.heap.size ≤ w5.heap.size := b5.size
  have hs4 := (unhide HB4).size
  clear b5 l5 HM4 HX4 HY4 HZ4 HR4
  go_wp2_with fail
  refine (edgesInOrder b (es.length + ns.length) _ _ (by omega) (unhide HM5)).mono ?_
  rintro e w6 ⟨ve, rfl, b6, l6⟩
  rw [unhide HEE] at l6
  have HB6 := hide ((unhide HB5).trans (b6.mono (unhide HB5).size))
  have HZ6 := hide ((unhide HZ5).below b6)
  have HL6 := hide ((unhide HL5).below b6)
  have HE6 := hide l6
  have hs6 : w5.heap.size ≤ w6.heap.size := b6.size
  clear b6 l6 HM5 HZ5 HL5
  obtain ⟨sa, cs, evs, _⟩ := unhide HL6
  obtain ⟨ae, ce, eve, _⟩ := unhide HE6
  have HL7 := hide (show So.LstV w6 (.slice sa S.length cs) S w4.heap.size w5.heap.size by rw [← evs]; exact unhide HL6)
  have HE7 := hide (show LstV w6 (.slice ae E.length ce) E w5.heap.size w6.heap.size by rw [← eve]; exact unhide HE6)
  subst evs eve
  clear HL6 HE6
  have HB8 := hide (((unhide HB6).setCell (p := ⟨w.heap.size + 2, 0, none⟩) hz2 (.slice sa S.length cs)).setCell (p := ⟨w.heap.size + 2, 1, none⟩) hz2 (.slice ae E.length ce))
  have HL8 := hide (lstS_set (b := w.heap.size + 2) (i := 1) (u := .slice ae E.length ce) (lstS_set (b := w.heap.size + 2) (i := 0) (u := .slice sa S.length cs) (unhide HL7) (.inl (by omega))) (.inl (by omega)))
  have HE8 := hide (lstT_set (b := w.heap.size + 2) (i := 1) (u := .slice ae E.length ce) (lstT_set (b := w.heap.size + 2) (i := 0) (u := .slice sa S.length cs) (unhide HE7) (.inl (by omega))) (.inl (by omega)))
  have hs8 : w6.heap.size ≤ ((w6.setCell ⟨w.heap.size + 2, 0, none⟩ (.slice sa S.length cs)).setCell ⟨w.heap.size + 2, 1, none⟩ (.slice ae E.length ce)).heap.size := by simp [World.setCell]
  obtain ⟨x0, x1⟩ := (unhide HZ6).bx
  have f0 := (unhide HZ6).free 0
  have f1 := (unhide HZ6).free 1
  go_wp2_with fail
  refine bodyPost_ret (v := .tuple #[.agg #[.slice sa S.length cs, .slice ae E.length ce], .int .i64 0]) (by simp [results, Try.results8, go_sem, x0, x1]) rfl ⟨_, rfl, unhide HB8, _, _, w5.heap.size, rfl, (unhide HL8).mono (by omega) (Nat.le_refl _), (unhide HE8).mono (Nat.le_refl _) hs8, by omega, Nat.le_trans hs6 hs8⟩
end Tp
end Go.Proofs.Ytilphgfjgeoiaaa
namespace Go.Proofs.Ytilphgfjgeoiaaa
open Go.ChangeShapes Go.WideShapes Go.ChangeAt Go.RowKit
set_option linter.unusedVariables false
set_option linter.unusedSimpArgs false
set_option maxRecDepth 100000
attribute [local go_sem ↓] Go.wp_at_zero Go.wp_at_succ
namespace Tp
open W1 Tu St Tw
theorem OwT.tl {w : World} {v : Value} {S : List So.R} {E : List R} {lo hi : Nat} (h : OwT w v S E lo hi) : TLst w v S E lo hi := by
  obtain ⟨g, c, h, d, mid, rfl, h1, h2, h3, h4⟩ := h
  exact ⟨_, _, mid, rfl, ⟨_, _, rfl, h2⟩, ⟨_, _, rfl, h3⟩, h4⟩
theorem OwT.set {w : World} {v : Value} {S : List So.R} {E : List R} {lo hi b i : Nat} {u : Value} (h : OwT w v S E lo hi) (hb : b < lo) : OwT (w.setCell ⟨b, i, none⟩ u) v S E lo hi := by
  obtain ⟨g, c, h, d, mid, rfl, h1, h2, h3, h4⟩ := h
  exact ⟨g, c, h, d, mid, rfl, h1, lsS_set h2 (.inl hb), lsT_set h3 (.inl (by omega)), h4⟩
theorem liveS_up {ss : List So.R} (h : UpS ss) (now : Int) : UpS (ss.filter (liveS now)) := up_filter h _
theorem sLE {w : World} {b B : Nat} {key til val : Int} {x y : Value} (h : St.Bx w b ⟨key, til, val⟩) (hB : Bx2 w B x y) : (St.Bx w b ⟨key, til, val⟩ ∧ Bx2 w B x y) ∧ w.cell? ⟨b, 0, none⟩ = some (.int .i64 key) ∧ w.cell? ⟨B, 0, none⟩ = some x := ⟨⟨h, hB⟩, h.1, hB.1⟩
end Tp
end Go.Proofs.Ytilphgfjgeoiaaa
namespace Go.Proofs.Ytilphgfjgeoiaaa
open Go.ChangeShapes Go.WideShapes Go.ChangeAt Go.RowKit
set_option linter.unusedVariables false
set_option linter.unusedSimpArgs false
set_option maxRecDepth 100000
attribute [local go_sem ↓] Go.wp_at_zero Go.wp_at_succ
namespace Tp
open W1 Tu St Tw
set_option maxHeartbeats 8000000 in
theorem specHear (g0 o0 : Nat) (ss : List So.R) (ca h0 p0 : Nat) (es : List R) (cb : Nat) (frm now an valid : Int) (c : Option Addr) (ns : List Ed.R) (cn : Nat) (w : World) (hca : ss.length ≤ ca) (hm : ss.length ≤ 1048576) (hl : es.length ≤ 1048576) (hn : ns.length ≤ 1048576) (hr : So.RM w (some ⟨g0, o0, none⟩) ss) (hr' : RM w (some ⟨h0, p0, none⟩) es) (hr2 : Ed.RM w c ns) :
    Calls Try.prog 9 #[.agg #[.slice (some ⟨g0, o0, none⟩) ss.length ca, .slice (some ⟨h0, p0, none⟩) es.length cb], .int .i64 frm, .int .i64 now, .agg #[.int .i64 an, .int .i64 valid, .slice c ns.length cn]] w fun e w' => ∃ v, e = .returned (.tuple #[v, .int .i64 (hearC ss es frm now an valid ns)]) ∧ Below w.heap.size w w' ∧ TLst w' v (hearS ss es frm now an valid ns) (hearE ss es frm now an valid ns) w.heap.size w'.heap.size := by
  have HA2 : Hid (Below w.heap.size w ((w.alloc (.cells #[.slice (some ⟨g0, o0, none⟩) ss.length ca, .slice (some ⟨h0, p0, none⟩) es.length cb] 26)).alloc (.cells #[.int .i64 an, .int .i64 valid, .slice c ns.length cn] 30))) := hide (((Below.refl _ _).alloc (Nat.le_refl _) _).alloc ((Below.refl w.heap.size w).alloc (Nat.le_refl _) _).size _)
  have HA : Hid (Below w.heap.size w (((w.alloc (.cells #[.slice (some ⟨g0, o0, none⟩) ss.length ca, .slice (some ⟨h0, p0, none⟩) es.length cb] 26)).alloc (.cells #[.int .i64 an, .int .i64 valid, .slice c ns.length cn] 30)).alloc (.cells #[.slice none 0 0, .slice none 0 0] 26))) := hide ((unhide HA2).alloc (unhide HA2).size _)
  have HX : Hid (Bx2 (((w.alloc (.cells #[.slice (some ⟨g0, o0, none⟩) ss.length ca, .slice (some ⟨h0, p0, none⟩) es.length cb] 26)).alloc (.cells #[.int .i64 an, .int .i64 valid, .slice c ns.length cn] 30)).alloc (.cells #[.slice none 0 0, .slice none 0 0] 26)) w.heap.size (.slice (some ⟨g0, o0, none⟩) ss.length ca) (.slice (some ⟨h0, p0, none⟩) es.length cb)) := hide (((bx2_new w _ _ _).below ((Below.refl _ _).alloc (Nat.le_refl _) _)).below ((Below.refl _ _).alloc (Nat.le_refl _) _))
  have HY : Hid (Bx3 (((w.alloc (.cells #[.slice (some ⟨g0, o0, none⟩) ss.length ca, .slice (some ⟨h0, p0, none⟩) es.length cb] 26)).alloc (.cells #[.int .i64 an, .int .i64 valid, .slice c ns.length cn] 30)).alloc (.cells #[.slice none 0 0, .slice none 0 0] 26)) (w.heap.size + 1) an valid (.slice c ns.length cn)) := hide (by have := (bx3_new (w.alloc (.cells #[.slice (some ⟨g0, o0, none⟩) ss.length ca, .slice (some ⟨h0, p0, none⟩) es.length cb] 26)) an valid (.slice c ns.length cn) 30).below ((Below.refl _ _).alloc (Nat.le_refl _) (.cells #[.slice none 0 0, .slice none 0 0] 26)); rw [show (w.alloc (.cells #[.slice (some ⟨g0, o0, none⟩) ss.length ca, .slice (some ⟨h0, p0, none⟩) es.length cb] 26)).heap.size = w.heap.size + 1 by simp] at this; exact this)
  have HZ : Hid (TV (((w.alloc (.cells #[.slice (some ⟨g0, o0, none⟩) ss.length ca, .slice (some ⟨h0, p0, none⟩) es.length cb] 26)).alloc (.cells #[.int .i64 an, .int .i64 valid, .slice c ns.length cn] 30)).alloc (.cells #[.slice none 0 0, .slice none 0 0] 26)) (w.heap.size + 2) (.slice none 0 0) (.slice none 0 0)) := hide (by have := tv_new ((w.alloc (.cells #[.slice (some ⟨g0, o0, none⟩) ss.length ca, .slice (some ⟨h0, p0, none⟩) es.length cb] 26)).alloc (.cells #[.int .i64 an, .int .i64 valid, .slice c ns.length cn] 30)) (.slice none 0 0) (.slice none 0 0); rw [show ((w.alloc (.cells #[.slice (some ⟨g0, o0, none⟩) ss.length ca, .slice (some ⟨h0, p0, none⟩) es.length cb] 26)).alloc (.cells #[.int .i64 an, .int .i64 valid, .slice c ns.length cn] 30)).heap.size = w.heap.size + 2 by simp] at this; exact this)
  have HR := hide (hr.below (unhide HA))
  have HE := hide (hr'.below (unhide HA))
  have HN := hide (hr2.below (unhide HA))
  clear hr hr' hr2 HA2
  have hz2 : w.heap.size ≤ w.heap.size + 2 := by omega
  have HLO : Hid (∀ C, hearC ss es frm now an valid ns = C → C ≠ 0 → C ≠ 11 → hearS ss es frm now an valid ns = [] ∧ hearE ss es frm now an valid ns = []) := hide (fun C hC h0 h11 => by unfold hearS hearE; rw [hC, if_neg h0, if_neg h11, if_neg h0, if_neg h11]; exact ⟨rfl, rfl⟩)
  cases h1 : topB ss es
  · have hC : hearC ss es frm now an valid ns = 1 := by unfold hearC; rw [h1]; rfl
    obtain ⟨e1, e2⟩ := unhide HLO 1 hC (by omega) (by omega)
    rw [hC, e1, e2]
    have H1 := hide h1
    clear h1 hC e1 e2
    go_enter Try.func9, Try.ntmps9
    go_wp2_with fail
    refine (specOK _ ss ca _ es cb _ hm hl (unhide HR) (unhide HE)).mono ?_
    rintro e w1 ⟨rfl, b1⟩
    rw [unhide H1]
    have HB1 := hide ((unhide HA).trans (b1.mono (unhide HA).size))
    have HZ1 := hide ((unhide HZ).below b1)
    obtain ⟨x0, x1⟩ := (unhide HZ1).bx
    have f0 := (unhide HZ1).free 0
    have f1 := (unhide HZ1).free 1
    have hs1 := (unhide HB1).size
    clear b1
    go_wp2_with (first | (go_at_call 34; refine (l01Addr _ _).mono ?_; rintro e w' ⟨rfl, rfl⟩) | (go_at_call 35; refine (l01In _ _ _ _).mono ?_; rintro e w' ⟨rfl, rfl⟩))
    refine bodyPost_ret (v := .tuple #[.agg #[.slice none 0 0, .slice none 0 0], .int .i64 1]) (by simp [results, Try.results9, go_sem, x0, x1]) rfl ⟨_, rfl, ?_, tlst_nil _ _ _ _ _ (by simp [World.setCell]; omega)⟩
    have hB := unhide HB1
    (repeat (first | (with_reducible exact hB) | (with_reducible refine Below.drew ?_) | (with_reducible refine Below.setCell ?_ ?_ _; rotate_left; (first | exact Nat.le_refl _ | (simp; done) | (dsimp only; omega))) | (with_reducible refine Below.alloc ?_ ?_ _; rotate_left; (first | exact Nat.le_refl _ | omega | (simp [World.setCell]; omega)))))
  have H1 := hide h1
  cases h3 : Av.tcB an valid ns
  · have hC : hearC ss es frm now an valid ns = 1 := by unfold hearC; rw [h1, h3]; simp
    obtain ⟨e1, e2⟩ := unhide HLO 1 hC (by omega) (by omega)
    rw [hC, e1, e2]
    have H3 := hide h3
    clear h1 h3 hC e1 e2
    go_enter Try.func9, Try.ntmps9
    go_wp2_with fail
    refine (specOK _ ss ca _ es cb _ hm hl (unhide HR) (unhide HE)).mono ?_
    rintro e w1 ⟨rfl, b1⟩
    rw [unhide H1]
    have HB1 := hide ((unhide HA).trans (b1.mono (unhide HA).size))
    have HZ1 := hide ((unhide HZ).below b1)
    have HN1 := hide ((unhide HN).below b1)
    obtain ⟨y0, y1, y2⟩ := (unhide HY).below b1
    clear b1
    go_wp2_with (first | (go_at_call 34; refine (l01Addr _ _).mono ?_; rintro e w' ⟨rfl, rfl⟩) | (go_at_call 35; refine (l01In _ _ _ _).mono ?_; rintro e w' ⟨rfl, rfl⟩))
    refine (Av.specOK an valid c ns cn _ hn (unhide HN1)).mono ?_
    rintro e w2 ⟨rfl, b2⟩
    rw [unhide H3]
    have HB2 := hide ((unhide HB1).trans (b2.mono (unhide HB1).size))
    have HZ2 := hide ((unhide HZ1).below b2)
    obtain ⟨x0, x1⟩ := (unhide HZ2).bx
    have f0 := (unhide HZ2).free 0
    have f1 := (unhide HZ2).free 1
    have hs1 := (unhide HB2).size
    clear b2 y0 y1 y2
    go_wp2_with (first | (go_at_call 34; refine (l01Addr _ _).mono ?_; rintro e w' ⟨rfl, rfl⟩) | (go_at_call 35; refine (l01In _ _ _ _).mono ?_; rintro e w' ⟨rfl, rfl⟩))
    refine bodyPost_ret (v := .tuple #[.agg #[.slice none 0 0, .slice none 0 0], .int .i64 1]) (by simp [results, Try.results9, go_sem, x0, x1]) rfl ⟨_, rfl, ?_, tlst_nil _ _ _ _ _ (by simp [World.setCell]; omega)⟩
    have hB := unhide HB2
    (repeat (first | (with_reducible exact hB) | (with_reducible refine Below.drew ?_) | (with_reducible refine Below.setCell ?_ ?_ _; rotate_left; (first | exact Nat.le_refl _ | (simp; done) | (dsimp only; omega))) | (with_reducible refine Below.alloc ?_ ?_ _; rotate_left; (first | exact Nat.le_refl _ | omega | (simp [World.setCell]; omega)))))
  have H3 := hide h3
  cases h2 : inB frm 1 8
  · have hC : hearC ss es frm now an valid ns = 1 := by unfold hearC; rw [h1, h2]; rfl
    obtain ⟨e1, e2⟩ := unhide HLO 1 hC (by omega) (by omega)
    rw [hC, e1, e2]
    clear h1 h3 hC e1 e2
    go_enter Try.func9, Try.ntmps9
    go_wp2_with fail
    refine (specOK _ ss ca _ es cb _ hm hl (unhide HR) (unhide HE)).mono ?_
    rintro e w1 ⟨rfl, b1⟩
    rw [unhide H1]
    have HB1 := hide ((unhide HA).trans (b1.mono (unhide HA).size))
    have HZ1 := hide ((unhide HZ).below b1)
    have HN1 := hide ((unhide HN).below b1)
    obtain ⟨y0, y1, y2⟩ := (unhide HY).below b1
    clear b1
    go_wp2_with (first | (go_at_call 34; refine (l01Addr _ _).mono ?_; rintro e w' ⟨rfl, rfl⟩) | (go_at_call 35; refine (l01In _ _ _ _).mono ?_; rintro e w' ⟨rfl, rfl⟩))
    refine (Av.specOK an valid c ns cn _ hn (unhide HN1)).mono ?_
    rintro e w2 ⟨rfl, b2⟩
    rw [unhide H3]
    have HB2 := hide ((unhide HB1).trans (b2.mono (unhide HB1).size))
    have HZ2 := hide ((unhide HZ1).below b2)
    obtain ⟨x0, x1⟩ := (unhide HZ2).bx
    have f0 := (unhide HZ2).free 0
    have f1 := (unhide HZ2).free 1
    have hs1 := (unhide HB2).size
    clear b2 y0 y1 y2
    go_wp2_with (first | (go_at_call 34; refine (l01Addr _ _).mono ?_; rintro e w' ⟨rfl, rfl⟩) | (go_at_call 35; refine (l01In _ _ _ _).mono ?_; rintro e w' ⟨rfl, rfl⟩))
    refine bodyPost_ret (v := .tuple #[.agg #[.slice none 0 0, .slice none 0 0], .int .i64 1]) (by simp [results, Try.results9, go_sem, x0, x1]) rfl ⟨_, rfl, ?_, tlst_nil _ _ _ _ _ (by simp [World.setCell]; omega)⟩
    have hB := unhide HB2
    (repeat (first | (with_reducible exact hB) | (with_reducible refine Below.drew ?_) | (with_reducible refine Below.setCell ?_ ?_ _; rotate_left; (first | exact Nat.le_refl _ | (simp; done) | (dsimp only; omega))) | (with_reducible refine Below.alloc ?_ ?_ _; rotate_left; (first | exact Nat.le_refl _ | omega | (simp [World.setCell]; omega)))))
  cases h4 : inB now 0 1000000
  · have hC : hearC ss es frm now an valid ns = 4 := by unfold hearC; simp [h1, h2, h3, h4]
    obtain ⟨e1, e2⟩ := unhide HLO 4 hC (by omega) (by omega)
    rw [hC, e1, e2]
    clear h1 h3 hC e1 e2
    go_enter Try.func9, Try.ntmps9
    go_wp2_with fail
    refine (specOK _ ss ca _ es cb _ hm hl (unhide HR) (unhide HE)).mono ?_
    rintro e w1 ⟨rfl, b1⟩
    rw [unhide H1]
    have HB1 := hide ((unhide HA).trans (b1.mono (unhide HA).size))
    have HZ1 := hide ((unhide HZ).below b1)
    have HN1 := hide ((unhide HN).below b1)
    obtain ⟨y0, y1, y2⟩ := (unhide HY).below b1
    clear b1
    go_wp2_with (first | (go_at_call 34; refine (l01Addr _ _).mono ?_; rintro e w' ⟨rfl, rfl⟩) | (go_at_call 35; refine (l01In _ _ _ _).mono ?_; rintro e w' ⟨rfl, rfl⟩))
    refine (Av.specOK an valid c ns cn _ hn (unhide HN1)).mono ?_
    rintro e w2 ⟨rfl, b2⟩
    rw [unhide H3]
    have HB2 := hide ((unhide HB1).trans (b2.mono (unhide HB1).size))
    have HZ2 := hide ((unhide HZ1).below b2)
    obtain ⟨x0, x1⟩ := (unhide HZ2).bx
    have f0 := (unhide HZ2).free 0
    have f1 := (unhide HZ2).free 1
    have hs1 := (unhide HB2).size
    clear b2 y0 y1 y2
    go_wp2_with (first | (go_at_call 34; refine (l01Addr _ _).mono ?_; rintro e w' ⟨rfl, rfl⟩) | (go_at_call 35; refine (l01In _ _ _ _).mono ?_; rintro e w' ⟨rfl, rfl⟩))
    refine bodyPost_ret (v := .tuple #[.agg #[.slice none 0 0, .slice none 0 0], .int .i64 4]) (by simp [results, Try.results9, go_sem, x0, x1]) rfl ⟨_, rfl, ?_, tlst_nil _ _ _ _ _ (by simp [World.setCell]; omega)⟩
    have hB := unhide HB2
    (repeat (first | (with_reducible exact hB) | (with_reducible refine Below.drew ?_) | (with_reducible refine Below.setCell ?_ ?_ _; rotate_left; (first | exact Nat.le_refl _ | (simp; done) | (dsimp only; omega))) | (with_reducible refine Below.alloc ?_ ?_ _; rotate_left; (first | exact Nat.le_refl _ | omega | (simp [World.setCell]; omega)))))
  have hC : hearC ss es frm now an valid ns = if staleB ss frm an = true then 11 else 0 := by unfold hearC; simp [h1, h2, h3, h4]
  have hf : 1 ≤ frm ∧ frm ≤ 8 := by unfold inB at h2; simpa using h2
  have hnw : 0 ≤ now ∧ now ≤ 1000000 := by unfold inB at h4; simpa using h4
  have hSS : hearS ss es frm now an valid ns = if staleB ss frm an = true then ss else withS ss ⟨frm, an, now + valid⟩ := by
    unfold hearS; rw [hC]; cases staleB ss frm an <;> simp
  have hEE : hearE ss es frm now an valid ns = if staleB ss frm an = true then es else nowE es frm (now + valid) ns := by
    unfold hearE; rw [hC]; cases staleB ss frm an <;> simp
  have hSl := hearS_len ss es frm now an valid ns
  have hEl := hearE_len ss es frm now an valid ns
  rw [hSS] at hSl ⊢
  rw [hEE] at hEl ⊢
  rw [hC]
  clear hC hSS hEE h1 h3
  obtain ⟨S, hS⟩ : ∃ S, (if staleB ss frm an = true then ss else withS ss ⟨frm, an, now + valid⟩) = S := ⟨_, rfl⟩
  obtain ⟨E, hE⟩ : ∃ E, (if staleB ss frm an = true then es else nowE es frm (now + valid) ns) = E := ⟨_, rfl⟩
  obtain ⟨C, hC⟩ : ∃ C : Int, (if staleB ss frm an = true then 11 else 0) = C := ⟨_, rfl⟩
  have HSS := hide hS
  have HEE := hide hE
  have HCC := hide hC
  rw [hS] at hSl ⊢
  rw [hE] at hEl ⊢
  rw [hC]
  clear hS hE hC
  go_enter Try.func9, Try.ntmps9
  go_wp2_with fail
  refine (specOK _ ss ca _ es cb _ hm hl (unhide HR) (unhide HE)).mono ?_
  rintro e w1 ⟨rfl, b1⟩
  rw [unhide H1]
  have HB1 := hide ((unhide HA).trans (b1.mono (unhide HA).size))
  have HX1 := hide ((unhide HX).below b1)
  have HY1 := hide ((unhide HY).below b1)
  have HZ1 := hide ((unhide HZ).below b1)
  have HR1 := hide ((unhide HR).below b1)
  have HE1 := hide ((unhide HE).below b1)
  have HN1 := hide ((unhide HN).below b1)
  clear b1 HX HY HZ HR HE HN HA
  obtain ⟨y0, y1, y2⟩ := unhide HY1
  go_wp2_with (first | (go_at_call 34; refine (l01Addr _ _).mono ?_; rintro e w' ⟨rfl, rfl⟩) | (go_at_call 35; refine (l01In _ _ _ _).mono ?_; rintro e w' ⟨rfl, rfl⟩))
  refine (Av.specOK an valid c ns cn _ hn (unhide HN1)).mono ?_
  rintro e w2 ⟨rfl, b2⟩
  rw [unhide H3]
  have HB2 := hide ((unhide HB1).trans (b2.mono (unhide HB1).size))
  have HX2 := hide ((unhide HX1).below b2)
  have HY2 := hide ((unhide HY1).below b2)
  have HZ2 := hide ((unhide HZ1).below b2)
  have HR2 := hide ((unhide HR1).below b2)
  have HE2 := hide ((unhide HE1).below b2)
  have HN2 := hide ((unhide HN1).below b2)
  clear b2 y0 y1 y2 HX1 HY1 HZ1 HR1 HE1 HN1
  obtain ⟨y0, y1, y2⟩ := unhide HY2
  obtain ⟨z0, z1⟩ := unhide HX2
  go_wp2_with (first | (go_at_call 34; refine (l01Addr _ _).mono ?_; rintro e w' ⟨rfl, rfl⟩) | (go_at_call 35; refine (l01In _ _ _ _).mono ?_; rintro e w' ⟨rfl, rfl⟩))
  clear y0 y1 y2 z0 z1
  refine (l09Hear g0 o0 ss ca h0 p0 es cb frm now an valid c ns cn _ hca (unhide H1) hf hnw (unhide H3) (unhide HR2) (unhide HE2) (unhide HN2)).mono ?_
  rintro e w3 ⟨v3, rfl, b3, rd3⟩
  rw [unhide HSS, unhide HEE] at rd3
  rw [unhide HCC]
  obtain ⟨g, o, cc, h, p, d, rfl, q1, q2, q3⟩ := rd3
  have HB3 := hide ((unhide HB2).trans (b3.mono (unhide HB2).size))
  have HZ3 := hide ((unhide HZ2).below b3)
  have HR3 := hide q2
  have HE3 := hide q3
  clear b3 q1 q2 q3 HX2 HY2 HZ2 HR2 HE2 HN2
  have hal : Below w3.heap.size w3 (w3.alloc (.cells #[.slice (some ⟨g, o, none⟩) S.length cc, .slice (some ⟨h, p, none⟩) E.length d] 26)) := (Below.refl _ _).alloc (Nat.le_refl _) _
  have HB4 := hide ((unhide HB3).trans (hal.mono (unhide HB3).size))
  have HZ4 := hide ((unhide HZ3).below hal)
  have HR4 := hide ((unhide HR3).below hal)
  have HE4 := hide ((unhide HE3).below hal)
  clear hal HZ3 HR3 HE3
  go_wp2_with fail
  generalize hW4 : w3.alloc (.cells #[.slice (some ⟨g, o, none⟩) S.length cc, .slice (some ⟨h, p, none⟩) E.length d] 26) = w4 at *
  clear hW4
  refine (l09Own g o S cc h p E d _ (by omega) (by omega) (unhide HR4) (unhide HE4)).mono ?_
  rintro e w5 ⟨v5, rfl, b5, ow5⟩
  have HB5 := hide ((unhide HB4).trans (b5.mono (unhide HB4).size))
  have HZ5 := hide ((unhide HZ4).below b5)
  obtain ⟨ga, ce, gb, de, mid, rfl, o1, o2, o3, o4⟩ := ow5
  have HOW : Hid (OwT w5 (.agg #[.slice (some ⟨ga, 0, none⟩) S.length ce, .slice (some ⟨gb, 0, none⟩) E.length de]) S E w4.heap.size w5.heap.size) := hide ⟨ga, ce, gb, de, mid, rfl, o1, o2, o3, o4⟩
  have hlt := (unhide HZ4).lt
  clear b5 o1 o2 o3 o4
  obtain ⟨x0, x1⟩ := (unhide HZ5).bx
  have f0 := (unhide HZ5).free 0
  have f1 := (unhide HZ5).free 1
  have HOF := hide (((unhide HOW).set (b := w.heap.size + 2) (i := 0) (u := .slice (some ⟨ga, 0, none⟩) S.length ce) (by omega)).set (b := w.heap.size + 2) (i := 1) (u := .slice (some ⟨gb, 0, none⟩) E.length de) (by omega))
  go_wp2_with fail
  refine bodyPost_ret (v := .tuple #[.agg #[.slice (some ⟨ga, 0, none⟩) S.length ce, .slice (some ⟨gb, 0, none⟩) E.length de], .int .i64 C]) (by simp [results, Try.results9, go_sem, x0, x1]) rfl ⟨_, rfl, ?_, ((unhide HOF).mono (by omega) (by simp [World.setCell])).tl⟩
  have hB := unhide HB5
  (repeat (first | (with_reducible exact hB) | (with_reducible refine Below.drew ?_) | (with_reducible refine Below.setCell ?_ ?_ _; rotate_left; (first | exact Nat.le_refl _ | (simp; done) | (dsimp only; omega))) | (with_reducible refine Below.alloc ?_ ?_ _; rotate_left; (first | exact Nat.le_refl _ | omega | (simp [World.setCell]; omega)))))
end Tp
end Go.Proofs.Ytilphgfjgeoiaaa
namespace Go.Proofs.Ytilphgfjgeoiaaa
open Go.ChangeShapes Go.WideShapes Go.ChangeAt Go.RowKit
set_option linter.unusedVariables false
set_option linter.unusedSimpArgs false
attribute [local go_sem ↓] Go.wp_at_zero Go.wp_at_succ
namespace Sr
open W1 By Tu St
theorem but_refl (w : World) (p : Nat) : w.grownBy w (some p) := ⟨rfl, rfl, rfl, Nat.le_refl _, fun _ _ _ => rfl⟩
theorem but_trans {w w1 w2 : World} {p : Nat} (h : w.grownBy w1 (some p)) (h' : w1.grownBy w2 (some p)) : w.grownBy w2 (some p) :=
  ⟨h'.os.trans h.os, h'.tape.trans h.tape, h'.output.trans h.output, Nat.le_trans h.size h'.size, fun k hk hne => (h'.block k (Nat.lt_of_lt_of_le hk h.size) hne).trans (h.block k hk hne)⟩
theorem but_wrote {w w' : World} {p : Nat} (h : Wrote w w' p) : w.grownBy w' (some p) := ⟨h.os, h.tape, h.output, Nat.le_of_eq h.size.symm, fun k _ hne => h.block k (fun e => hne (by rw [e]))⟩
theorem but_below {w w' : World} {p : Nat} (h : Below w.heap.size w w') : w.grownBy w' (some p) := ⟨h.os, h.tape, h.output, h.size, fun k hk _ => h.block k hk⟩
theorem Src.lt {w : World} {p : Nat} {a : Option Addr} {bs : List UInt8} {cap n : Nat} (h : Src w p a bs cap n) : p < w.heap.size := World.block_lt_of_cell? _ _ h.code
theorem Src.below {w w' : World} {p : Nat} {a : Option Addr} {bs : List UInt8} {cap n : Nat} (h : Src w p a bs cap n) (hb : Below w.heap.size w w') : Src w' p a bs cap n := by
  have hp := h.lt
  obtain ⟨i, s, i0, i1, s0, s1, c1, c2⟩ := h.at_
  exact ⟨⟨i, s, i0, i1, s0, s1, (hb.cell (p := ⟨p, 1, none⟩) hp).trans c1, (hb.cell (p := ⟨p, 2, none⟩) hp).trans c2⟩, (hb.cell (p := ⟨p, 0, none⟩) hp).trans h.code, fun o => (hb.frozen (p := ⟨p, o, none⟩) hp).trans (h.fz o),
    reads_of_cells h.rd (fun e0 g off o e => hb.cell (p := ⟨g, o, none⟩) (reads_lt h.rd e0 e)), h.ne, (congrArg Option.isSome (hb.cell (p := ⟨p, 3, none⟩) hp)).trans h.top⟩
theorem Src.blocks {w w' : World} {p : Nat} {a : Option Addr} {bs : List UInt8} {cap n : Nat} (h : Src w p a bs cap n) (hp : w'.heap[p]? = w.heap[p]?) (hg : bs ≠ [] → ∀ g off, a = some ⟨g, off, none⟩ → w'.heap[g]? = w.heap[g]?) : Src w' p a bs cap n := by
  obtain ⟨i, s, i0, i1, s0, s1, c1, c2⟩ := h.at_
  exact ⟨⟨i, s, i0, i1, s0, s1, (World.cell?_of_block (a := ⟨p, 1, none⟩) hp).trans c1, (World.cell?_of_block (a := ⟨p, 2, none⟩) hp).trans c2⟩, (World.cell?_of_block (a := ⟨p, 0, none⟩) hp).trans h.code, fun o => (World.frozen?_of_block (a := ⟨p, o, none⟩) hp).trans (h.fz o),
    reads_of_cells h.rd (fun e0 g off o e => World.cell?_of_block (a := ⟨g, o, none⟩) (hg e0 g off e)), h.ne, (congrArg Option.isSome (World.cell?_of_block (a := ⟨p, 3, none⟩) hp)).trans h.top⟩
theorem set3_far (w : World) (b k : Nat) (x y z : Value) (h : b ≠ k) : (((w.setCell ⟨b, 0, none⟩ x).setCell ⟨b, 1, none⟩ y).setCell ⟨b, 2, none⟩ z).heap[k]? = w.heap[k]? := by
  simp only [World.setCell, Array.getElem?_modify]
  simp [h]
theorem bx_wrote {w w' : World} {p b : Nat} {m : R} (h : Bx w b m) (hw : Wrote w w' p) (hne : b ≠ p) : Bx w' b m := ⟨(hw.cell hne _).trans h.1, (hw.cell hne _).trans h.2.1, (hw.cell hne _).trans h.2.2⟩
/-- A value that is a list of tuples in new memory. -/
def IsSet (W : World) (v : Value) (ms : List R) (lo : Nat) : Prop := ∃ g c, v = .slice (some ⟨g, 0, none⟩) ms.length c ∧ lo ≤ g ∧ g < W.heap.size ∧ RM W (some ⟨g, 0, none⟩) ms
set_option maxRecDepth 100000 in
set_option maxHeartbeats 2000000 in
theorem sameSet (a b : Option Addr) (ms : List R) (ca cb : Nat) (w : World) (hm : ms.length ≤ 1048576) (hr : RM w a ms) (hr' : RM w b ms) :
    Calls Try.prog 38 #[.slice a ms.length ca, .slice b ms.length cb] w fun e w' => e = .returned (.bool true) ∧ Below w.heap.size w w' := by
  have HR := hide hr
  have HR' := hide hr'
  clear hr hr'
  generalize hN : ms.length = n at *
  have HN := hide hN
  clear hN
  go_enter Try.func38, Try.ntmps38
  go_wp2
  go_loopw [5] (fun i wr => ∃ j : Nat, j ≤ n ∧ i = .int .i64 j ∧ Hid (Below w.heap.size w wr)) (fun i _ => n - (intOf i).toNat)
  case atStart => exact ⟨0, by omega, rfl, hide (Below.refl _ _)⟩
  case round =>
    obtain ⟨j, hj, rfl, hbl⟩ := hrel
    by_cases hlt : (j : Int) < (n : Int)
    · have k0 : (0 : Int) ≤ (j : Int) := by omega
      have hlen : j < ms.length := by rw [unhide HN]; omega
      obtain ⟨g, off, rfl⟩ := (unhide HR).form (by omega)
      obtain ⟨g', off', rfl⟩ := (unhide HR').form (by omega)
      obtain ⟨c0, c1, c2⟩ := ((unhide HR).below (unhide hbl)).at hlen
      obtain ⟨d0, d1, d2⟩ := ((unhide HR').below (unhide hbl)).at hlen
      generalize ms.getD j R.zero = m at *
      obtain ⟨key, til, val⟩ := m
      dsimp only at c0 c1 c2 d0 d1 d2
      go_wp2_with fail
      go_region_held3 (fun w' => w'.cell? ⟨g, off + j * 3, none⟩ = some (.int .i64 key) ∧ w'.cell? ⟨g, off + j * 3 + 1, none⟩ = some (.int .i64 til) ∧ w'.cell? ⟨g, off + j * 3 + 2, none⟩ = some (.int .i64 val) ∧ w'.cell? ⟨g', off' + j * 3, none⟩ = some (.int .i64 key) ∧ w'.cell? ⟨g', off' + j * 3 + 1, none⟩ = some (.int .i64 til) ∧ w'.cell? ⟨g', off' + j * 3 + 2, none⟩ = some (.int .i64 val)) (exact ⟨c0, c1, c2, d0, d1, d2⟩) (fail)
      have hb1 := hide ((unhide hbl).drew)
      go_wp2_with fail
      go_roundw
      case rel => exact ⟨j + 1, by omega, by go_num, hb1⟩
      case measure => simp [intOf]; omega
    · go_wp2
      go_ret
      exact ⟨rfl, unhide hbl⟩
end Sr
end Go.Proofs.Ytilphgfjgeoiaaa
namespace Go.Proofs.Ytilphgfjgeoiaaa
open Go.ChangeShapes Go.WideShapes Go.ChangeAt Go.RowKit
set_option linter.unusedVariables false
set_option linter.unusedSimpArgs false
set_option maxRecDepth 100000
attribute [local go_sem ↓] Go.wp_at_zero Go.wp_at_succ
namespace Tp
open W1 Tu St Tw
theorem neqSo (x y z : Int) (w : World) : (binOp .neq 41 (.agg #[.int .i64 x, .int .i64 y, .int .i64 z]) (.agg #[.int .i64 x, .int .i64 y, .int .i64 z])).run Try.prog w = .ok (.bool false) w := by
  have u3 := Try.underlying3
  have a3 := Try.isAgg3
  have z3 := Try.sizeOf3
  have hS : Try.prog.underlying 41 = some (.struct (Try.prog.fieldsOf 41)) := by kernel_rfl
  have hp : Try.prog.stoodInHeld 41 = false := by kernel_rfl
  rw [run_neq_struct, show (10000 : Nat) = 9999 + 1 from rfl, run_equalIn_agg w 9999 41 _ _ hS hp]
  simp only [Program.fieldsOf, Try.underlying41]
  go_simp
  try simp
theorem sST {w : World} {b c g o g2 o2 : Nat} {x y x2 y2 : Value} {ad an til : Int} (h : Bx2 w b x y) (h2 : Bx2 w c x2 y2) (h3 : So.At w g o ⟨ad, an, til⟩) (h4 : So.At w g2 o2 ⟨ad, an, til⟩) :
    (Bx2 w b x y ∧ Bx2 w c x2 y2 ∧ So.At w g o ⟨ad, an, til⟩ ∧ So.At w g2 o2 ⟨ad, an, til⟩) ∧ (w.cell? ⟨b, 0, none⟩ = some x ∧ w.cell? ⟨c, 0, none⟩ = some x2) ∧ (w.cell? ⟨g, o, none⟩ = some (.int .i64 ad) ∧ w.cell? ⟨g, o + 1, none⟩ = some (.int .i64 an) ∧ w.cell? ⟨g, o + 2, none⟩ = some (.int .i64 til)) ∧ w.cell? ⟨g2, o2, none⟩ = some (.int .i64 ad) ∧ w.cell? ⟨g2, o2 + 1, none⟩ = some (.int .i64 an) ∧ w.cell? ⟨g2, o2 + 2, none⟩ = some (.int .i64 til) := ⟨⟨h, h2, h3, h4⟩, ⟨h.1, h2.1⟩, h3, h4⟩
set_option maxHeartbeats 4000000 in
theorem sameTop (a b a2 b2 : Option Addr) (ss : List So.R) (es : List R) (ca cb ca2 cb2 : Nat) (w : World) (hm : ss.length ≤ 1048576) (hl : es.length ≤ 1048576) (hr : So.RM w a ss) (he : RM w b es) (hr2 : So.RM w a2 ss) (he2 : RM w b2 es) :
    Calls Try.prog 10 #[.agg #[.slice a ss.length ca, .slice b es.length cb], .agg #[.slice a2 ss.length ca2, .slice b2 es.length cb2]] w fun e w' => e = .returned (.bool true) ∧ Below w.heap.size w w' := by
  have B0 : Hid (Below w.heap.size w ((w.alloc (.cells #[.slice a ss.length ca, .slice b es.length cb] 26)).alloc (.cells #[.slice a2 ss.length ca2, .slice b2 es.length cb2] 26))) := hide (((Below.refl _ _).alloc (Nat.le_refl _) _).alloc (by simp) _)
  have X0 : Hid (Bx2 ((w.alloc (.cells #[.slice a ss.length ca, .slice b es.length cb] 26)).alloc (.cells #[.slice a2 ss.length ca2, .slice b2 es.length cb2] 26)) w.heap.size (.slice a ss.length ca) (.slice b es.length cb)) := hide ((bx2_new w _ _ _).below ((Below.refl _ _).alloc (Nat.le_refl _) _))
  have Y0 : Hid (Bx2 ((w.alloc (.cells #[.slice a ss.length ca, .slice b es.length cb] 26)).alloc (.cells #[.slice a2 ss.length ca2, .slice b2 es.length cb2] 26)) (w.heap.size + 1) (.slice a2 ss.length ca2) (.slice b2 es.length cb2)) := hide (by have := bx2_new (w.alloc (.cells #[.slice a ss.length ca, .slice b es.length cb] 26)) (.slice a2 ss.length ca2) (.slice b2 es.length cb2) 26; rw [show (w.alloc (.cells #[.slice a ss.length ca, .slice b es.length cb] 26)).heap.size = w.heap.size + 1 by simp] at this; exact this)
  have R1 := hide hr
  have R2 := hide hr2
  have E1 := hide (he.below (unhide B0))
  have E2 := hide (he2.below (unhide B0))
  clear hr hr2 he he2
  generalize hN : ss.length = n at *
  have HN := hide hN
  clear hN
  have hne : ((n : Int) != (n : Int)) = false := by simp
  obtain ⟨W0, hW0⟩ : ∃ W0, (w.alloc (.cells #[.slice a n ca, .slice b es.length cb] 26)).alloc (.cells #[.slice a2 n ca2, .slice b2 es.length cb2] 26) = W0 := ⟨_, rfl⟩
  rw [hW0] at B0 X0 Y0 E1 E2
  have HW0 := hide hW0
  clear hW0
  go_enter Try.func10, Try.ntmps10
  go_wp2_with fail
  rw [unhide HW0]
  refine (Sr.sameSet _ _ es _ _ _ hl (unhide E1) (unhide E2)).mono ?_
  rintro e w1 ⟨rfl, b1⟩
  have B1 := hide ((unhide B0).trans (b1.mono (unhide B0).size))
  have X1 := hide ((unhide X0).below b1)
  have Y1 := hide ((unhide Y0).below b1)
  clear b1 B0 X0 Y0
  go_wp2_with fail
  go_loopw [5] (fun i wr => ∃ j : Nat, j ≤ n ∧ i = .int .i64 j ∧ Hid (Below w1.heap.size w1 wr)) (fun i _ => n - (intOf i).toNat)
  case atStart => exact ⟨0, by omega, rfl, hide (Below.refl _ _)⟩
  case round =>
    obtain ⟨j, hj, rfl, hbl⟩ := hrel
    have HBw := hide ((unhide B1).trans ((unhide hbl).mono (unhide B1).size))
    have Xr := hide ((unhide X1).below (unhide hbl))
    have Yr := hide ((unhide Y1).below (unhide hbl))
    obtain ⟨x0, x1⟩ := unhide Xr
    by_cases hlt : (j : Int) < (n : Int)
    · have k0 : (0 : Int) ≤ (j : Int) := by omega
      have hlen : j < ss.length := by rw [unhide HN]; omega
      obtain ⟨g, o, rfl⟩ := (unhide R1).form (by omega)
      obtain ⟨g2, o2, rfl⟩ := (unhide R2).form (by omega)
      have A1 := ((unhide R1).below (unhide HBw)).at hlen
      have A2 := ((unhide R2).below (unhide HBw)).at hlen
      generalize ss.getD j So.R.zero = m at *
      obtain ⟨ad, an, til⟩ := m
      have HA1 := hide A1
      have HA2 := hide A2
      clear A1 A2
      have hnq := neqSo ad an til
      go_wp2_with fail
      clear x0 x1
      refine wp_region_noPanic ?_
      refine wp_region_held_drew (S := fun w' => (Bx2 w' w.heap.size (.slice (some ⟨g, o, none⟩) n ca) (.slice b es.length cb) ∧ Bx2 w' (w.heap.size + 1) (.slice (some ⟨g2, o2, none⟩) n ca2) (.slice b2 es.length cb2) ∧ So.At w' g (o + j * 3) ⟨ad, an, til⟩ ∧ So.At w' g2 (o2 + j * 3) ⟨ad, an, til⟩) ∧ (w'.cell? ⟨w.heap.size, 0, none⟩ = some (.slice (some ⟨g, o, none⟩) n ca) ∧ w'.cell? ⟨w.heap.size + 1, 0, none⟩ = some (.slice (some ⟨g2, o2, none⟩) n ca2)) ∧ (w'.cell? ⟨g, o + j * 3, none⟩ = some (.int .i64 ad) ∧ w'.cell? ⟨g, o + j * 3 + 1, none⟩ = some (.int .i64 an) ∧ w'.cell? ⟨g, o + j * 3 + 2, none⟩ = some (.int .i64 til)) ∧ w'.cell? ⟨g2, o2 + j * 3, none⟩ = some (.int .i64 ad) ∧ w'.cell? ⟨g2, o2 + j * 3 + 1, none⟩ = some (.int .i64 an) ∧ w'.cell? ⟨g2, o2 + j * 3 + 2, none⟩ = some (.int .i64 til)) (by kernel_rfl) (sST (unhide Xr).drew (unhide Yr).drew (unhide HA1).drew (unhide HA2).drew) (fun hHeld => ?_)
      (refine Rg.tk (i := 0) (d := 28) (v := ?_) rfl rfl (by kernel_rfl) (by kernel_rfl) (by kernel_rfl) (fun _ _ _ h => h) (by rfl) ?_ (by assumption) ?_; rotate_left; (focus (intro w0 hSw; (try dsimp only at hSw); go_simp; (try with_reducible rfl))); (try simp only [Act.put, List.setIfInBounds_toArray, List.set_cons_zero, List.set_cons_succ]))
      (refine Rg.tk (i := 1) (d := 29) (v := ?_) rfl rfl (by kernel_rfl) (by kernel_rfl) (by kernel_rfl) (fun _ _ _ h => h) (by rfl) ?_ (by assumption) ?_; rotate_left; (focus (intro w0 hSw; (try dsimp only at hSw); go_simp; (try with_reducible rfl))); (try simp only [Act.put, List.setIfInBounds_toArray, List.set_cons_zero, List.set_cons_succ]))
      (refine Rg.tk (i := 2) (d := 30) (v := ?_) rfl rfl (by kernel_rfl) (by kernel_rfl) (by kernel_rfl) (fun _ _ _ h => h) (by rfl) ?_ (by assumption) ?_; rotate_left; (focus (intro w0 hSw; (try dsimp only at hSw); go_simp; (try with_reducible rfl))); (try simp only [Act.put, List.setIfInBounds_toArray, List.set_cons_zero, List.set_cons_succ]))
      (refine Rg.tk (i := 3) (d := 31) (v := ?_) rfl rfl (by kernel_rfl) (by kernel_rfl) (by kernel_rfl) (fun _ _ _ h => h) (by rfl) ?_ (by assumption) ?_; rotate_left; (focus (intro w0 hSw; (try dsimp only at hSw); go_simp; (try with_reducible rfl))); (try simp only [Act.put, List.setIfInBounds_toArray, List.set_cons_zero, List.set_cons_succ]))
      (refine Rg.tk (i := 4) (d := 32) (v := ?_) rfl rfl (by kernel_rfl) (by kernel_rfl) (by kernel_rfl) (fun _ _ _ h => h) (by rfl) ?_ (by assumption) ?_; rotate_left; (focus (intro w0 hSw; (try dsimp only at hSw); go_simp; (try with_reducible rfl))); (try simp only [Act.put, List.setIfInBounds_toArray, List.set_cons_zero, List.set_cons_succ]))
      (refine Rg.tk (i := 5) (d := 33) (v := ?_) rfl rfl (by kernel_rfl) (by kernel_rfl) (by kernel_rfl) (fun _ _ _ h => h) (by rfl) ?_ (by assumption) ?_; rotate_left; (focus (intro w0 hSw; (try dsimp only at hSw); go_simp; (try with_reducible rfl))); (try simp only [Act.put, List.setIfInBounds_toArray, List.set_cons_zero, List.set_cons_succ]))
      (refine Rg.tk (i := 6) (d := 34) (v := ?_) rfl rfl (by kernel_rfl) (by kernel_rfl) (by kernel_rfl) (fun _ _ _ h => h) (by rfl) ?_ (by assumption) ?_; rotate_left; (focus (intro w0 hSw; (try dsimp only at hSw); go_simp; (try with_reducible rfl))); (try simp only [Act.put, List.setIfInBounds_toArray, List.set_cons_zero, List.set_cons_succ]))
      (refine Rg.tk (i := 7) (d := 35) (v := ?_) rfl rfl (by kernel_rfl) (by kernel_rfl) (by kernel_rfl) (fun _ _ _ h => h) (by rfl) ?_ (by assumption) ?_; rotate_left; (focus (intro w0 hSw; (try dsimp only at hSw); go_simp; (try with_reducible rfl))); (try simp only [Act.put, List.setIfInBounds_toArray, List.set_cons_zero, List.set_cons_succ]))
      (refine Rg.tk (i := 8) (d := 36) (v := ?_) rfl rfl (by kernel_rfl) (by kernel_rfl) (by kernel_rfl) (fun _ _ _ h => h) (by rfl) ?_ (by assumption) ?_; rotate_left; (focus (intro w0 hSw; (try dsimp only at hSw); go_simp; (try with_reducible rfl))); (try simp only [Act.put, List.setIfInBounds_toArray, List.set_cons_zero, List.set_cons_succ]))
      (refine Rg.tk (i := 9) (d := 37) (v := ?_) rfl rfl (by kernel_rfl) (by kernel_rfl) (by kernel_rfl) (fun _ _ _ h => h) (by rfl) ?_ (by assumption) ?_; rotate_left; (focus (intro w0 hSw; (try dsimp only at hSw); go_simp; (try with_reducible rfl))); (try simp only [Act.put, List.setIfInBounds_toArray, List.set_cons_zero, List.set_cons_succ]))
      (refine Rg.tk (i := 10) (d := 38) (v := ?_) rfl rfl (by kernel_rfl) (by kernel_rfl) (by kernel_rfl) (fun _ _ _ h => h) (by rfl) ?_ (by assumption) ?_; rotate_left; (focus (intro w0 hSw; (try dsimp only at hSw); go_simp; (try with_reducible rfl))); (try simp only [Act.put, List.setIfInBounds_toArray, List.set_cons_zero, List.set_cons_succ]))
      refine wpAnyH_done (by kernel_rfl) (NoPanic.normal ?_) _
      clear hHeld
      have HBd := hide (unhide hbl).drew
      go_wp2_with fail
      go_roundw
      case rel => exact ⟨j + 1, by omega, by go_num, HBd⟩
      case measure => simp [intOf]; omega
    · go_wp2_with fail
      go_ret
      exact ⟨rfl, unhide HBw⟩
end Tp
end Go.Proofs.Ytilphgfjgeoiaaa
namespace Go.Proofs.Ytilphgfjgeoiaaa
open Go.ChangeShapes Go.WideShapes Go.ChangeAt Go.RowKit
set_option linter.unusedVariables false
set_option linter.unusedSimpArgs false
set_option maxRecDepth 100000
attribute [local go_sem ↓] Go.wp_at_zero Go.wp_at_succ
namespace Tp
open W1 Tu St Tw Me
theorem sE2 {w : World} {g o B : Nat} {key til val : Int} {x y : Value} (h : Tu.At w g o ⟨key, til, val⟩) (hB : Bx2 w B x y) : (Tu.At w g o ⟨key, til, val⟩ ∧ Bx2 w B x y) ∧ w.cell? ⟨g, o, none⟩ = some (.int .i64 key) ∧ w.cell? ⟨g, o + 2, none⟩ = some (.int .i64 val) ∧ w.cell? ⟨B, 1, none⟩ = some y := ⟨⟨h, hB⟩, h.1, h.2.2, hB.2⟩
set_option maxHeartbeats 4000000 in
theorem implEdges (a : Option Addr) (ss : List So.R) (ca : Nat) (b : Option Addr) (es : List R) (cb : Nat) (frm : Int) (hwf : (Lit.int .i64 frm).wf = true) (w : World) (hm : ss.length ≤ 1048576) (hl : es.length ≤ 1048576) (hr : So.RM w a ss) (hr' : RM w b es) :
    Calls Try.prog 12 #[.agg #[.slice a ss.length ca, .slice b es.length cb], .int .i64 frm] w fun e w' => ∃ v, e = .returned (.tuple #[v, .int .i64 (topC ss es)]) ∧ Below w.heap.size w w' ∧ Ed.LstV w' v (edgA ss es frm) w.heap.size w'.heap.size := by
  have HA : Hid (Below w.heap.size w (w.alloc (.cells #[.slice a ss.length ca, .slice b es.length cb] 26))) := hide ((Below.refl _ _).alloc (Nat.le_refl _) _)
  have HX : Hid (Bx2 (w.alloc (.cells #[.slice a ss.length ca, .slice b es.length cb] 26)) w.heap.size (.slice a ss.length ca) (.slice b es.length cb)) := hide (bx2_new w _ _ _)
  have HR := hide (hr.below (unhide HA))
  have HE := hide (hr'.below (unhide HA))
  clear hr hr'
  cases ht : topB ss es
  · have h1 : edgA ss es frm = [] := by unfold edgA; rw [if_neg (by rw [ht]; simp)]
    have h2 : topC ss es = 1 := by unfold topC; rw [if_neg (by rw [ht]; simp)]
    rw [h1, h2]
    have HT := hide ht
    clear h1 h2 ht
    go_enter Try.func12, Try.ntmps12
    go_wp2_with fail
    refine (implOK _ ss ca _ es cb _ hm hl (unhide HR) (unhide HE)).mono ?_
    rintro e w1 ⟨rfl, b1⟩
    rw [unhide HT]
    have HB1 := hide ((unhide HA).trans (b1.mono (unhide HA).size))
    clear b1
    go_wp2_with fail
    go_ret2
    exact ⟨_, rfl, unhide HB1, Ed.lstV_nil _ _ _ _ _⟩
  have h1 : edgA ss es frm = fromE (findT es) frm 8 := by unfold edgA; rw [if_pos ht, from_all (top_two ht)]
  have h2 : topC ss es = 0 := by unfold topC; rw [if_pos ht]
  rw [h1, h2]
  have HT := hide ht
  have HT2 := hide (top_two ht)
  have HWF := hide hwf
  clear h1 h2 ht hwf
  go_enter Try.func12, Try.ntmps12
  go_wp2_with fail
  refine (implOK _ ss ca _ es cb _ hm hl (unhide HR) (unhide HE)).mono ?_
  rintro e w1 ⟨rfl, b1⟩
  rw [unhide HT]
  have HB1 := hide ((unhide HA).trans (b1.mono (unhide HA).size))
  have HE1 := hide ((unhide HE).below b1)
  obtain ⟨z0, z1⟩ := (unhide HX).below b1
  clear b1
  go_wp2_with fail
  clear z0 z1
  refine (edgesByEnds _ es cb _ (unhide HT2) (unhide HE1)).mono ?_
  rintro e w2 ⟨bm, rfl, hb, om2, b2⟩
  have HB2 := hide ((unhide HB1).trans (b2.mono (unhide HB1).size))
  have HM2 := hide om2
  clear b2 om2
  go_wp2_with fail
  refine (edgesOf bm _ _ frm _ (unhide HWF) (unhide HM2)).mono ?_
  rintro e w3 ⟨v, rfl, b3, l3⟩
  have HB3 := hide ((unhide HB2).trans (b3.mono (unhide HB2).size))
  have HL3 := hide (l3.mono (lo' := w.heap.size) (unhide HB2).size (Nat.le_refl _))
  clear b3 l3
  go_wp2_with fail
  go_ret2
  exact ⟨_, rfl, unhide HB3, unhide HL3⟩
end Tp
end Go.Proofs.Ytilphgfjgeoiaaa
namespace Go.Proofs.Ytilphgfjgeoiaaa
open Go.ChangeShapes Go.WideShapes Go.ChangeAt Go.RowKit
set_option linter.unusedVariables false
set_option linter.unusedSimpArgs false
set_option maxRecDepth 100000
attribute [local go_sem ↓] Go.wp_at_zero Go.wp_at_succ
namespace Tp
open W1 Tu St Tw
theorem sv_put {w : World} {b : Nat} {m : So.R} (h : SV w b m) (x y z : Int) : SV (((w.setCell ⟨b, 0, none⟩ (.int .i64 x)).setCell ⟨b, 1, none⟩ (.int .i64 y)).setCell ⟨b, 2, none⟩ (.int .i64 z)) b ⟨x, y, z⟩ := by
  have h1 := heap_set (i := 0) (.int .i64 x) h
  have h2 := heap_set (i := 1) (.int .i64 y) h1
  exact heap_set (i := 2) (.int .i64 z) h2
set_option maxHeartbeats 4000000 in
theorem implSource (a : Option Addr) (ss : List So.R) (ca : Nat) (b : Option Addr) (es : List R) (cb : Nat) (frm : Int) (w : World) (hm : ss.length ≤ 1048576) (hl : es.length ≤ 1048576) (hr : So.RM w a ss) (hr' : RM w b es) :
    Calls Try.prog 14 #[.agg #[.slice a ss.length ca, .slice b es.length cb], .int .i64 frm] w fun e w' => e = .returned (.tuple #[(srcA ss es frm).value, .int .i64 (srcE ss es frm)]) ∧ Below w.heap.size w w' := by
  have HA0 : Hid (Below w.heap.size w (w.alloc (.cells #[.slice a ss.length ca, .slice b es.length cb] 26))) := hide ((Below.refl _ _).alloc (Nat.le_refl _) _)
  have HA : Hid (Below w.heap.size w ((w.alloc (.cells #[.slice a ss.length ca, .slice b es.length cb] 26)).alloc (.cells #[.int .i64 0, .int .i64 0, .int .i64 0] 41))) := hide ((unhide HA0).alloc (unhide HA0).size _)
  have HX : Hid (Bx2 ((w.alloc (.cells #[.slice a ss.length ca, .slice b es.length cb] 26)).alloc (.cells #[.int .i64 0, .int .i64 0, .int .i64 0] 41)) w.heap.size (.slice a ss.length ca) (.slice b es.length cb)) := hide ((bx2_new w _ _ _).below ((Below.refl _ _).alloc (Nat.le_refl _) _))
  have HV : Hid (SV ((w.alloc (.cells #[.slice a ss.length ca, .slice b es.length cb] 26)).alloc (.cells #[.int .i64 0, .int .i64 0, .int .i64 0] 41)) (w.heap.size + 1) So.R.zero) := hide (by have := sv_new (w.alloc (.cells #[.slice a ss.length ca, .slice b es.length cb] 26)) So.R.zero; rw [show (w.alloc (.cells #[.slice a ss.length ca, .slice b es.length cb] 26)).heap.size = w.heap.size + 1 by simp] at this; exact this)
  have HR := hide (hr.below (unhide HA))
  have HE := hide (hr'.below (unhide HA))
  have hsz : w.heap.size ≤ w.heap.size + 1 := by omega
  clear hr hr' HA0
  cases ht : topB ss es
  · have h1 : srcA ss es frm = So.R.zero := by unfold srcA; rw [if_neg (by rw [ht]; simp)]
    have h2 : srcE ss es frm = 1 := by unfold srcE; rw [if_neg (by rw [ht]; simp)]
    rw [h1, h2]
    have HT := hide ht
    clear h1 h2 ht
    go_enter Try.func14, Try.ntmps14
    go_wp2_with fail
    refine (implOK _ ss ca _ es cb _ hm hl (unhide HR) (unhide HE)).mono ?_
    rintro e w1 ⟨rfl, b1⟩
    rw [unhide HT]
    have HB1 := hide ((unhide HA).trans (b1.mono (unhide HA).size))
    have HX1 := hide ((unhide HX).below b1)
    have HV1 := hide ((unhide HV).below b1)
    have HR1 := hide ((unhide HR).below b1)
    clear b1
    obtain ⟨x0, x1, x2⟩ := (unhide HV1).cells
    simp only [Nat.zero_add] at x1 x2
    have y0 := (unhide HV1).free 0
    have y1 := (unhide HV1).free 1
    have y2 := (unhide HV1).free 2
    unfold So.R.zero at x0 x1 x2
    dsimp only at x0 x1 x2
    go_wp2_with fail
    refine bodyPost_ret (v := .tuple #[.agg #[.int .i64 0, .int .i64 0, .int .i64 0], .int .i64 1]) (by simp [results, Try.results14, go_sem, x0, x1, x2]) rfl ⟨rfl, ?_⟩
    have hB := unhide HB1
    (repeat (first | (with_reducible exact hB) | (with_reducible refine Below.drew ?_) | (with_reducible refine Below.setCell ?_ ?_ _; rotate_left; (first | exact Nat.le_refl _ | (simp; done) | (dsimp only; omega))) | (with_reducible refine Below.alloc ?_ ?_ _; rotate_left; (first | exact Nat.le_refl _ | omega | (simp [World.setCell]; omega)))))
  have h1 : srcA ss es frm = fS ss frm := by unfold srcA; rw [if_pos ht]
  have h2 : srcE ss es frm = if hasS ss frm = true then 0 else 5 := by unfold srcE; rw [if_pos ht]
  rw [h1, h2]
  have HT := hide ht
  have HS := hide (top_src ht)
  have h8 := src_len (top_src ht)
  clear h1 h2 ht
  have HU := hide (up_src (unhide HS))
  have hht := has_there (unhide HU) frm
  cases hh : thereS ss frm
  · rw [hh] at hht
    have hz := fS_none hht
    rw [hz, hht]
    have HH := hide hh
    clear hz hh hht
    go_enter Try.func14, Try.ntmps14
    go_wp2_with fail
    refine (implOK _ ss ca _ es cb _ hm hl (unhide HR) (unhide HE)).mono ?_
    rintro e w1 ⟨rfl, b1⟩
    rw [unhide HT]
    have HB1 := hide ((unhide HA).trans (b1.mono (unhide HA).size))
    have HX1 := hide ((unhide HX).below b1)
    have HV1 := hide ((unhide HV).below b1)
    have HR1 := hide ((unhide HR).below b1)
    clear b1
    obtain ⟨z0, z1⟩ := unhide HX1
    go_wp2_with fail
    clear z0 z1
    refine (sourcePlace _ ss ca frm _ (unhide HR1) (unhide HU) (by omega)).mono ?_
    rintro e w2 ⟨rfl, b2⟩
    rw [unhide HH]
    have HB2 := hide ((unhide HB1).trans (b2.mono (unhide HB1).size))
    have HV2 := hide ((unhide HV1).below b2)
    have HX2 := hide ((unhide HX1).below b2)
    have HR2 := hide ((unhide HR1).below b2)
    clear b2
    obtain ⟨x0, x1, x2⟩ := (unhide HV2).cells
    simp only [Nat.zero_add] at x1 x2
    have y0 := (unhide HV2).free 0
    have y1 := (unhide HV2).free 1
    have y2 := (unhide HV2).free 2
    unfold So.R.zero at x0 x1 x2
    dsimp only at x0 x1 x2
    go_wp2_with fail
    refine bodyPost_ret (v := .tuple #[.agg #[.int .i64 0, .int .i64 0, .int .i64 0], .int .i64 5]) (by simp [results, Try.results14, go_sem, x0, x1, x2]) rfl ⟨rfl, ?_⟩
    have hB := unhide HB2
    (repeat (first | (with_reducible exact hB) | (with_reducible refine Below.drew ?_) | (with_reducible refine Below.setCell ?_ ?_ _; rotate_left; (first | exact Nat.le_refl _ | (simp; done) | (dsimp only; omega))) | (with_reducible refine Below.alloc ?_ ?_ _; rotate_left; (first | exact Nat.le_refl _ | omega | (simp [World.setCell]; omega)))))
  · rw [hh] at hht
    have hp : placeS ss frm < ss.length := by unfold thereS at hh; rw [Bool.and_eq_true] at hh; exact of_decide_eq_true hh.1
    rw [fS_there (unhide HU) hh, hht]
    have HH := hide hh
    clear hh hht
    obtain ⟨p, hpe⟩ : ∃ p, placeS ss frm = p := ⟨_, rfl⟩
    rw [hpe] at hp ⊢
    have HP := hide hpe
    clear hpe
    have k0 : (0 : Int) ≤ (p : Int) := by omega
    have k1 : (p : Int) < (ss.length : Int) := by omega
    obtain ⟨g, off, rfl⟩ := (unhide HR).form (by omega)
    obtain ⟨m, hmm⟩ : ∃ m, ss.getD p So.R.zero = m := ⟨_, rfl⟩
    have HM := hide hmm
    rw [hmm]
    clear hmm
    obtain ⟨qa, qn, qt⟩ := m
    go_enter Try.func14, Try.ntmps14
    go_wp2_with fail
    refine (implOK _ ss ca _ es cb _ hm hl (unhide HR) (unhide HE)).mono ?_
    rintro e w1 ⟨rfl, b1⟩
    rw [unhide HT]
    have HB1 := hide ((unhide HA).trans (b1.mono (unhide HA).size))
    have HX1 := hide ((unhide HX).below b1)
    have HV1 := hide ((unhide HV).below b1)
    have HR1 := hide ((unhide HR).below b1)
    clear b1
    obtain ⟨z0, z1⟩ := unhide HX1
    go_wp2_with fail
    clear z0 z1
    refine (sourcePlace _ ss ca frm _ (unhide HR1) (unhide HU) (by omega)).mono ?_
    rintro e w2 ⟨rfl, b2⟩
    rw [unhide HH, unhide HP]
    have HB2 := hide ((unhide HB1).trans (b2.mono (unhide HB1).size))
    have HV2 := hide ((unhide HV1).below b2)
    have HX2 := hide ((unhide HX1).below b2)
    have HR2 := hide ((unhide HR1).below b2)
    clear b2
    obtain ⟨x0, x1, x2⟩ := (unhide HV2).cells
    simp only [Nat.zero_add] at x1 x2
    have y0 := (unhide HV2).free 0
    have y1 := (unhide HV2).free 1
    have y2 := (unhide HV2).free 2
    unfold So.R.zero at x0 x1 x2
    dsimp only at x0 x1 x2
    have hA := (unhide HR2).at hp
    rw [unhide HM] at hA
    obtain ⟨c0, c1, c2⟩ := hA
    dsimp only at c0 c1 c2
    obtain ⟨z0, z1⟩ := unhide HX2
    go_wp2_with fail
    refine bodyPost_ret (v := .tuple #[.agg #[.int .i64 qa, .int .i64 qn, .int .i64 qt], .int .i64 0]) (by simp [results, Try.results14, go_sem, x0, x1, x2]) rfl ⟨rfl, ?_⟩
    have hB := unhide HB2
    (repeat (first | (with_reducible exact hB) | (with_reducible refine Below.drew ?_) | (with_reducible refine Below.setCell ?_ ?_ _; rotate_left; (first | exact Nat.le_refl _ | (simp; done) | (dsimp only; omega))) | (with_reducible refine Below.alloc ?_ ?_ _; rotate_left; (first | exact Nat.le_refl _ | omega | (simp [World.setCell]; omega)))))
end Tp
end Go.Proofs.Ytilphgfjgeoiaaa
namespace Go.Proofs.Ytilphgfjgeoiaaa
open Go.ChangeShapes Go.WideShapes Go.ChangeAt Go.RowKit
set_option linter.unusedVariables false
set_option linter.unusedSimpArgs false
set_option maxRecDepth 100000
attribute [local go_sem ↓] Go.wp_at_zero Go.wp_at_succ
namespace Av
open W1 Ed
set_option maxHeartbeats 1000000 in
theorem sameEdges (a b : Option Addr) (ms : List R) (ca cb : Nat) (w : World) (hm : ms.length ≤ 1048576) (hr : RM w a ms) (hr' : RM w b ms) :
    Calls Try.prog 13 #[.slice a ms.length ca, .slice b ms.length cb] w fun e w' => e = .returned (.bool true) ∧ ∃ q, w' = w.drewN q := by
  have HR := hide hr
  have HR' := hide hr'
  clear hr hr'
  generalize hN : ms.length = n at *
  have HN := hide hN
  clear hN
  have hnn : ((n : Int) != (n : Int)) = false := by simp
  go_enter Try.func13, Try.ntmps13
  go_wp2_with fail
  go_loopw [5] (fun i wr => ∃ j : Nat, j ≤ n ∧ i = .int .i64 j ∧ Hid (∃ q, wr = w.drewN q)) (fun i _ => n - (intOf i).toNat)
  case atStart => exact ⟨0, by omega, rfl, hide ⟨0, rfl⟩⟩
  case round =>
    obtain ⟨j, hj, rfl, hq⟩ := hrel
    have HA : Hid (RM wr a ms) := hide (by obtain ⟨q, e⟩ := unhide hq; rw [e]; exact unhide HR)
    have HB : Hid (RM wr b ms) := hide (by obtain ⟨q, e⟩ := unhide hq; rw [e]; exact unhide HR')
    have HD : Hid (∀ m, ∃ q, wr.drewN m = w.drewN q) := hide (fun m => by obtain ⟨q, e⟩ := unhide hq; exact ⟨_, by rw [e, World.drewN_drewN]⟩)
    by_cases hlt : (j : Int) < (n : Int)
    · have k0 : (0 : Int) ≤ (j : Int) := by omega
      have hlen : j < ms.length := by rw [unhide HN]; omega
      rcases unhide HA with e0 | ⟨g, off, rfl, hc⟩
      · exfalso; rw [e0] at hlen; simp at hlen
      rcases unhide HB with e0 | ⟨g', off', rfl, hc'⟩
      · exfalso; rw [e0] at hlen; simp at hlen
      obtain ⟨c0, c1⟩ := hc j hlen
      obtain ⟨d0, d1⟩ := hc' j hlen
      clear hc hc' hlen
      generalize ms.getD j R.zero = m at *
      obtain ⟨ad, mt⟩ := m
      dsimp only at c0 c1 d0 d1
      go_wp2_with fail
      go_quiet (fail)
      go_wp2_with fail
      go_roundw
      case rel => exact ⟨j + 1, by omega, by go_num, hide (unhide HD _)⟩
      case measure => simp [intOf]; omega
    · go_wp2_with fail
      go_ret
      exact ⟨rfl, unhide hq⟩
end Av
end Go.Proofs.Ytilphgfjgeoiaaa
namespace Go.Proofs.Ytilphgfjgeoiaaa
open Go.ChangeShapes Go.WideShapes Go.ChangeAt Go.RowKit
set_option linter.unusedVariables false
namespace At
open W1 By
theorem wrapA {x : Int} (h0 : -9223372036854775808 ≤ x) (h1 : x ≤ 9223372036854775807) : IntKind.i64.wrap x = x := by
  have e := IntWalk.i64_left x
  rw [e]; unfold wrap64; omega
set_option maxHeartbeats 800000 in
theorem choice (a : Option Addr) (bs : List UInt8) (cap : Nat) (i n : Nat) (w : World) (hi : i ≤ 255) (hn0 : 2 ≤ n) (hn : n ≤ 1000000) (hm : bs.length ≤ 1048576) (hr : Reads w a bs) :
    Calls Try.prog 7 #[.slice a bs.length cap, .int .i64 i, .int .i64 n] w fun e w' => ∃ r : Nat, e = .returned (.int .i64 r) ∧ r < n ∧ ∃ q, w' = w.drewN q := by
  rcases hr with e0 | ⟨g, off, rfl, hc⟩
  · subst e0
    go_enter Try.func7, Try.ntmps7
    go_wp2
    go_ret
    refine ⟨i * 7 % n, ret_int (by simp), Nat.mod_lt _ (by omega), 0, rfl⟩
  · by_cases hz : bs.length = 0
    · go_enter Try.func7, Try.ntmps7
      go_wp2
      go_ret
      refine ⟨i * 7 % n, ret_int (by simp), Nat.mod_lt _ (by omega), 0, rfl⟩
    · have hx := hc (i % bs.length) (Nat.mod_lt _ (by omega))
      have hy := hc ((i + 1) % bs.length) (Nat.mod_lt _ (by omega))
      have vx := (bs.getD (i % bs.length) 0).toNat_lt
      have vy := (bs.getD ((i + 1) % bs.length) 0).toNat_lt
      generalize (bs.getD (i % bs.length) 0).toNat = x at *
      generalize (bs.getD ((i + 1) % bs.length) 0).toNat = y at *
      clear hc
      generalize bs.length = len at *
      have hj1 : i % len < len := Nat.mod_lt _ (by omega)
      have hk1 : (i + 1) % len < len := Nat.mod_lt _ (by omega)
      have hd : i / len ≤ i := Nat.div_le_self _ _
      have tj : (i : Int).tmod (len : Int) = ((i % len : Nat) : Int) := by rw [Int.tmod_eq_emod_of_nonneg (by omega)]; simp
      have tk : ((i : Int) + 1).tmod (len : Int) = (((i + 1) % len : Nat) : Int) := by rw [Int.tmod_eq_emod_of_nonneg (by omega)]; simp
      have td : (i : Int).tdiv (len : Int) = ((i / len : Nat) : Int) := by rw [Int.tdiv_eq_ediv_of_nonneg (by omega)]; simp
      generalize i % len = j at *
      generalize (i + 1) % len = k at *
      generalize i / len = d at *
      have hz' : ¬ (len : Int) = 0 := by omega
      have j0 : (0 : Int) ≤ (j : Int) := by omega
      have k0 : (0 : Int) ≤ (k : Int) := by omega
      have j1 : (j : Int) < (len : Int) := by omega
      have k1 : (k : Int) < (len : Int) := by omega
      have hwi : IntKind.i64.wrap ((i : Int) + 1) = (i : Int) + 1 := wrapA (by omega) (by omega)
      have hwx : IntKind.i64.wrap (x : Int) = (x : Int) := wrapA (by omega) (by omega)
      have hwy : IntKind.i64.wrap (y : Int) = (y : Int) := wrapA (by omega) (by omega)
      have hwj : IntKind.i64.wrap (j : Int) = (j : Int) := wrapA (by omega) (by omega)
      have hwk : IntKind.i64.wrap (k : Int) = (k : Int) := wrapA (by omega) (by omega)
      have hwd : IntKind.i64.wrap (d : Int) = (d : Int) := wrapA (by omega) (by omega)
      have hw1 : IntKind.i64.wrap ((x : Int) * 31) = (x : Int) * 31 := wrapA (by omega) (by omega)
      have hw2 : IntKind.i64.wrap ((x : Int) * 31 + y) = (x : Int) * 31 + y := wrapA (by omega) (by omega)
      have hw3 : IntKind.i64.wrap ((x : Int) * 31 + y + d) = (x : Int) * 31 + y + d := wrapA (by omega) (by omega)
      go_enter Try.func7, Try.ntmps7
      go_wp2
      go_quiet (fail)
      go_wp2
      go_ret
      exact ⟨(x * 31 + y + d) % n, ret_int (by simp), Nat.mod_lt _ (by omega), _, rfl⟩
end At
namespace Op
open W1 By
/-- A slice of bytes that came in: what it reads as. -/
theorem open_bytes {H : Type} {enc : TypeId × Value → H} {W : World} {a : Option Addr} {len cap : Nat} {d : DataW H} {p : List MemPlace}
    (h : DataW.Trod enc Try.prog W 0 (fun _ => true) true 22 (.slice a len cap) d p) : ∃ bs : List UInt8, bs.length = len ∧ len ≤ maxLen ∧ Reads W a bs := by
  obtain ⟨fuel, hf⟩ := h
  rcases open_ints Try.underlying22 Try.underlying5 (by kernel_rfl) hf with ⟨hcs, _⟩ | ⟨x, l, c, zs, hcs, _, hl, hm, hz, _, hcell, hwz⟩
  · simp [Value.cells] at hcs
    obtain ⟨rfl, rfl, rfl⟩ := hcs
    exact ⟨[], rfl, Nat.zero_le _, .inl rfl⟩
  · simp [Value.cells] at hcs
    obtain ⟨rfl, rfl, rfl⟩ := hcs
    have hz' : zs.length = cap := by simpa using hz
    refine ⟨(zs.take len).map fun z => UInt8.ofNat z.toNat, by simp; omega, Nat.le_trans hl hm, ?_⟩
    by_cases h0 : len = 0
    · subst h0; exact .inl (by simp)
    obtain ⟨b, off, spot⟩ := x
    have hc0 := hcell 0 (by omega)
    have hspot : spot = none := by simpa [Addr.add] using World.cell?_spot hc0
    subst hspot
    refine .inr ⟨b, off, rfl, fun i hi => ?_⟩
    have hi' : i < len := by simp at hi; omega
    have hc := hcell i (by omega)
    have e1 : (⟨b, off, none⟩ : Addr).add i = ⟨b, off + i, none⟩ := by simp [Addr.add]
    rw [e1] at hc
    rw [hc]
    have hzi : i < zs.length := by omega
    have hw := hwz _ (List.getElem_mem hzi)
    have hb : 0 ≤ zs[i] ∧ zs[i] ≤ 255 := by simpa [Lit.wf, IntKind.min, IntKind.max, IntKind.signed, IntKind.bits] using hw
    have e2 : zs.getD i 0 = zs[i] := by rw [List.getD_eq_getElem?_getD, List.getElem?_eq_getElem hzi]; rfl
    have e3 : ((zs.take len).map fun z => UInt8.ofNat z.toNat).getD i 0 = UInt8.ofNat zs[i].toNat := by
      rw [List.getD_eq_getElem?_getD, List.getElem?_map, List.getElem?_take_of_lt hi', List.getElem?_eq_getElem hzi]; rfl
    rw [e2, e3]
    congr 2
    rw [UInt8.toNat_ofNat']
    omega
end Op
end Go.Proofs.Ytilphgfjgeoiaaa
