/-
  The program's contracts of maps of edges by their ends: made out of a list, told in order, those from one forgotten, learnt, told. (written by mktope.py)
-/
import Derived.Test.YtmlokaielemhaaaTopA
import Derived.Test.YtmlokaielemhaaaTopN
import Derived.Test.YtmlokaielemhaaaMpe
import Derived.Maps.AppendAt
namespace Go.Proofs.Ytmlokaielemhaaa
open Go.ChangeShapes Go.WideShapes Go.ChangeAt Go.RowKit
set_option linter.unusedVariables false
set_option linter.unusedSimpArgs false
set_option maxRecDepth 100000
attribute [local go_sem ↓] Go.wp_at_zero Go.wp_at_succ
namespace Tp
open W1 Tu St Tw Me
set_option maxRecDepth 100000 in
set_option maxHeartbeats 4000000 in
theorem edgesByEnds (a : Option Addr) (ms : List R) (cap : Nat) (w : World) (hok : twoB ms = true) (hr : RM w a ms) :
    Calls Try.prog 46 #[.slice a ms.length cap] w fun e w' => ∃ b, e = .returned (.map (some b)) ∧ w.heap.size ≤ b ∧ OM w' b ms.length (findT ms) ∧ Below w.heap.size w w' := by
  have HR := hide hr
  have HOK := hide hok
  have h62 := two_len hok
  clear hr hok
  have hmm := run_makeN ms.length
  have O0 : Hid (OM (w.alloc (.map #[] 0)) w.heap.size 0 (findT (ms.take 0))) := hide (om_made w)
  have P0 := hide ((Below.refl w.heap.size w).alloc (Nat.le_refl _) (.map #[] 0))
  generalize hN : ms.length = n at *
  have HN := hide hN
  clear hN
  go_enter Try.func46, Try.ntmps46
  go_wp2_with fail
  go_loopw [11] (fun i wr => ∃ j : Nat, j ≤ n ∧ i = .int .i64 j ∧ Hid (OM wr w.heap.size j (findT (ms.take j))) ∧ Hid (Below w.heap.size w wr)) (fun i _ => n - (intOf i).toNat)
  case atStart => exact ⟨0, by omega, rfl, O0, P0⟩
  case round =>
    obtain ⟨j, hj, rfl, hom, hbl⟩ := hrel
    by_cases hlt : (j : Int) < (n : Int)
    · have k0 : (0 : Int) ≤ (j : Int) := by omega
      have hlen : j < ms.length := by rw [unhide HN]; omega
      obtain ⟨g, off, rfl⟩ := (unhide HR).form (by omega)
      obtain ⟨c0, c1, c2⟩ := ((unhide HR).below (unhide hbl)).at hlen
      have HS := hide (find_snoc (two_set (unhide HOK)) hlen)
      have hbd := ok_bounds (setB_ok (two_set (unhide HOK)) hlen)
      have hbk := ok_k (two_ok (unhide HOK) _ (getD_mem hlen))
      have hsz := (unhide hbl).size
      have hlm := (unhide hom).lt
      generalize ms.getD j R.zero = m at *
      obtain ⟨key, til, val⟩ := m
      dsimp only at c0 c1 c2 hbd
      have HX : Hid (St.Bx (wr.alloc (.cells #[.int .i64 key, .int .i64 til, .int .i64 val] 89)) wr.heap.size ⟨key, til, val⟩) := hide (Tw.bx_new wr ⟨key, til, val⟩ _)
      have HOA := hide ((unhide hom).below ((Below.refl _ _).alloc (Nat.le_refl _) (.cells #[.int .i64 key, .int .i64 til, .int .i64 val] 89)))
      have HBA := hide ((unhide hbl).alloc hsz (.cells #[.int .i64 key, .int .i64 til, .int .i64 val] 89))
      go_wp2_with fail
      generalize hW : wr.alloc (.cells #[.int .i64 key, .int .i64 til, .int .i64 val] 89) = W0 at *
      clear hW
      generalize hB0 : wr.heap.size = B0 at *
      clear hB0
      refine wp_region_noPanic ?_
      refine wp_region_held_drew (S := fun w' => St.Bx w' B0 ⟨key, til, val⟩ ∧ w'.cell? ⟨B0, 0, none⟩ = some (.int .i64 key) ∧ w'.cell? ⟨B0, 1, none⟩ = some (.int .i64 til) ∧ w'.cell? ⟨B0, 2, none⟩ = some (.int .i64 val)) (by kernel_rfl) (St.sBox (unhide HX).drew) (fun hHeld => ?_)
      (refine Rg.tk (i := 0) (d := 15) (v := ?_) rfl rfl (by kernel_rfl) (by kernel_rfl) (by kernel_rfl) (fun _ _ _ h => h) (by rfl) ?_ (by assumption) ?_; rotate_left; (focus (intro w0 hSw; (try dsimp only at hSw); go_simp; (try with_reducible rfl))); (try simp only [Act.put, List.setIfInBounds_toArray, List.set_cons_zero, List.set_cons_succ]))
      (refine Rg.tk (i := 1) (d := 16) (v := ?_) rfl rfl (by kernel_rfl) (by kernel_rfl) (by kernel_rfl) (fun _ _ _ h => h) (by rfl) ?_ (by assumption) ?_; rotate_left; (focus (intro w0 hSw; (try dsimp only at hSw); go_simp; (try with_reducible rfl))); (try simp only [Act.put, List.setIfInBounds_toArray, List.set_cons_zero, List.set_cons_succ]))
      (refine Rg.tk (i := 2) (d := 17) (v := ?_) rfl rfl (by kernel_rfl) (by kernel_rfl) (by kernel_rfl) (fun _ _ _ h => h) (by rfl) ?_ (by assumption) ?_; rotate_left; (focus (intro w0 hSw; (try dsimp only at hSw); go_simp; (try with_reducible rfl))); (try simp only [Act.put, List.setIfInBounds_toArray, List.set_cons_zero, List.set_cons_succ]))
      (refine Rg.tk (i := 4) (d := 19) (v := ?_) rfl rfl (by kernel_rfl) (by kernel_rfl) (by kernel_rfl) (fun _ _ _ h => h) (by rfl) ?_ (by assumption) ?_; rotate_left; (focus (intro w0 hSw; (try dsimp only at hSw); go_simp; (try with_reducible rfl))); (try simp only [Act.put, List.setIfInBounds_toArray, List.set_cons_zero, List.set_cons_succ]))
      (refine wpAnyH_ready (rs := [3]) (by kernel_rfl) (by simp) ?_; refine AllReadyH.cons (o := _) rfl (fun K hK => ?_) AllReadyH.nil; go_simp)
      refine (endsOfKey key _ (by omega) (by omega)).mono ?_
      rintro e w2 ⟨rfl, b2_⟩
      have b2 : Below W0.heap.size W0 w2 := (Below.refl _ _).drew.trans b2_
      have HX2 := hide ((unhide HX).below b2)
      have HO2 := hide ((unhide HOA).below b2)
      have HB2 := hide ((unhide HBA).trans (b2.mono (unhide HBA).size))
      clear b2 b2_ hHeld
      refine hK.out _ _ (St.sBox (unhide HX2)) (fun hHeld => ?_)
      clear hK K
      (try simp only [Act.put, List.setIfInBounds_toArray, List.set_cons_zero, List.set_cons_succ])
      (refine wpAnyH_ready (rs := [5]) (by kernel_rfl) (by simp) ?_; refine AllReadyH.cons (o := _) rfl (fun K hK => ?_) AllReadyH.nil; rw [if_pos (by rfl)])
      refine wp_put _ _ _ _ rfl rfl w.heap.size j _ rfl (unhide HO2) (by unfold maxLen; omega) (key.tdiv 100) (key.tmod 100) (WalkArith.wf_i64 ⟨by unfold hv at hbk; dsimp only at hbk; omega, by unfold hv at hbk; dsimp only at hbk; omega⟩) (WalkArith.wf_i64 ⟨by unfold ha at hbk; dsimp only at hbk; omega, by unfold ha at hbk; dsimp only at hbk; omega⟩) ⟨key, til, val⟩ rfl rfl ?_
      intro w6 om6 g6
      have HO6 : Hid (OM w6 w.heap.size (j + 1) (findT (ms.take (j + 1)))) := hide ((unhide HS) ▸ om6)
      have HX6 := hide (bx_but (unhide HX2) (g6.block B0 (bx_lt (unhide HX2)) (by intro e; cases e; omega)))
      have HB6 := hide (om_grown (unhide HB2) (Nat.le_refl _) (Nat.le_refl _) g6)
      clear om6 g6 hHeld
      refine hK.out _ _ (St.sBox (unhide HX6)) (fun hHeld => ?_)
      clear hK K hHeld
      (try simp only [Act.put, List.setIfInBounds_toArray, List.set_cons_zero, List.set_cons_succ])
      refine wpAnyH_done (by kernel_rfl) (NoPanic.normal ?_) _
      go_wp2_with fail
      go_roundw
      case rel => exact ⟨j + 1, by omega, by go_num, HO6, HB6⟩
      case measure => simp [intOf]; omega
    · obtain rfl : j = n := by omega
      have e : ms.take j = ms := List.take_of_length_le (by rw [unhide HN]; exact Nat.le_refl _)
      rw [e] at hom
      go_wp2_with fail
      go_ret
      exact ⟨_, rfl, Nat.le_refl _, unhide hom, unhide hbl⟩
set_option maxRecDepth 100000 in
set_option maxHeartbeats 4000000 in
theorem forgetFrom (b n : Nat) (f : Int → Int → Option R) (frm : Int) (w : World) (h1 : 1 ≤ frm) (h8 : frm ≤ 8) (hom : OM w b n f) :
    Calls Try.prog 47 #[.map (some b), .int .i64 frm] w fun e w' => e = .returned (.tuple #[]) ∧ OM w' b n (forgT f frm 8) ∧ w.grownBy w' (some b) := by
  have HWF : Hid ((Lit.int .i64 frm).wf = true) := hide (WalkArith.wf_i64 ⟨by omega, by omega⟩)
  have O0 : Hid (OM w b n (forgT f frm 0)) := hide (by rw [forgT_zero]; exact hom)
  have G0 : Hid (w.grownBy w (some b)) := hide (World.grownBy.refl _ _)
  clear hom
  go_enter Try.func47, Try.ntmps47
  go_wp2_with fail
  go_loopw [4] (fun i wr => ∃ j : Nat, j ≤ 8 ∧ i = .int .i64 ((j : Int) + 1) ∧ Hid (OM wr b n (forgT f frm j)) ∧ Hid (w.grownBy wr (some b))) (fun i _ => 9 - (intOf i).toNat)
  case atStart => exact ⟨0, by omega, rfl, O0, G0⟩
  case round =>
    obtain ⟨j, hj, rfl, hom, hgr⟩ := hrel
    by_cases hlt : (j : Int) + 1 ≤ 8
    · have HWK : Hid ((Lit.int .i64 ((j : Int) + 1)).wf = true) := hide (WalkArith.wf_i64 ⟨by omega, by omega⟩)
      have HS := hide (forgT_succ f frm j)
      obtain ⟨w', hrun, ho, hg⟩ := (unhide hom).drop (unhide HWF) (unhide HWK) 0
      unfold kv at hrun
      have HO : Hid (OM w' b n (forgT f frm (j + 1))) := hide ((unhide HS) ▸ ho)
      have HG := hide ((unhide hgr).trans hg)
      clear ho hg
      go_wp2_with fail
      go_roundw
      case rel => exact ⟨j + 1, by omega, by go_num, HO, HG⟩
      case measure => simp [intOf]; omega
    · obtain rfl : j = 8 := by omega
      go_wp2_with fail
      refine bodyPost_end (v := .tuple #[]) (by simp [results, Try.results47, go_sem]) rfl ⟨rfl, unhide hom, unhide hgr⟩
theorem ordE_at (f : Int → Int → Option R) {j k : Nat} (hk : k < 8) : ordT f (8 * j + (k + 1)) = ordT f (8 * j + k) ++ (f ((j : Int) + 1) ((k : Int) + 1)).toList := by
  have := ordT_succ f (8 * j + k)
  rw [show (8 * j + k) / 8 = j by omega, show (8 * j + k) % 8 = k by omega] at this
  exact this
set_option maxRecDepth 100000 in
set_option maxHeartbeats 4000000 in
theorem edgesInOrder (b n : Nat) (f : Int → Int → Option R) (w : World) (hn : n ≤ 128) (hom : OM w b n f) :
    Calls Try.prog 50 #[.map (some b)] w fun e w' => ∃ v, e = .returned v ∧ Below w.heap.size w w' ∧ LstV w' v (ordT f 64) w.heap.size w'.heap.size := by
  obtain ⟨q, hqn, hlen⟩ := hom.size
  have HOM := hide hom
  clear hom
  obtain ⟨i0, hi, hz0, hz1, hz2⟩ := infoR
  obtain ⟨wm, hmk, hmown, hmgrow⟩ := run_make_own (P := Try.prog) w w.heap.size 24 89 i0 _ 3 Try.underlying24 hi hz0 hz1 .i64 .i64 q (by rw [hz2]; omega) (by unfold maxLen; omega) (Nat.le_refl _)
  have OW : Hid (wm.ownsRow w.heap.size 89 3 (.slice (some ⟨w.heap.size, 0, none⟩) 0 q) (ordT f (8 * 0)).length (flat (ordT f (8 * 0)))) := hide hmown
  have DM : Hid (Below w.heap.size w wm) := hide ((Below.refl _ _).grown hmgrow (Nat.le_refl _) (fun k hk => by cases hk))
  clear hi hz0 hz1 hz2 hmown hmgrow
  go_enter Try.func50, Try.ntmps50
  go_wp2_with fail
  clear hmk hlen
  go_loopw [3, 4] (fun v i wr => ∃ j : Nat, j ≤ 8 ∧ i = .int .i64 ((j : Int) + 1) ∧ Hid (wr.ownsRow w.heap.size 89 3 v (ordT f (8 * j)).length (flat (ordT f (8 * j)))) ∧ Hid (Below w.heap.size w wr)) (fun _ i _ => 9 - (intOf i).toNat)
  case atStart => exact ⟨0, by omega, rfl, OW, DM⟩
  case round =>
    obtain ⟨j, hj, rfl, how0, hbl0⟩ := hrel
    by_cases hlt0 : (j : Int) + 1 ≤ 8
    · have HWJ : Hid ((Lit.int .i64 ((j : Int) + 1)).wf = true) := hide (WalkArith.wf_i64 ⟨by omega, by omega⟩)
      go_wp2_with fail
      go_loopw [3, 5] (fun v i wr => ∃ k : Nat, k ≤ 8 ∧ i = .int .i64 ((k : Int) + 1) ∧ Hid (wr.ownsRow w.heap.size 89 3 v (ordT f (8 * j + k)).length (flat (ordT f (8 * j + k)))) ∧ Hid (Below w.heap.size w wr)) (fun _ i _ => 9 - (intOf i).toNat)
      case atStart => exact ⟨0, by omega, rfl, how0, hbl0⟩
      case round =>
        obtain ⟨k, hk, rfl, how, hbl⟩ := hrel
        have hbs := (unhide hbl).size
        have hfl := ordT_len f (8 * j + k)
        by_cases hlt : (k : Int) + 1 ≤ 8
        · have HM := hide ((unhide HOM).below (unhide hbl))
          have HWK : Hid ((Lit.int .i64 ((k : Int) + 1)).wf = true) := hide (WalkArith.wf_i64 ⟨by omega, by omega⟩)
          have HST := hide (ordE_at f (j := j) (k := k) (by omega))
          cases hf : f ((j : Int) + 1) ((k : Int) + 1) with
          | none =>
            rw [hf] at HST
            have HA : Hid ((f ((j : Int) + 1) ((k : Int) + 1)).getD R.zero = ⟨0, 0, 0⟩) := hide (by rw [hf]; rfl)
            have HE : Hid ((f ((j : Int) + 1) ((k : Int) + 1)).isSome = false) := hide (by rw [hf]; rfl)
            clear hf
            have e0 : ordT f (8 * j + (k + 1)) = ordT f (8 * j + k) := by rw [unhide HST]; simp
            rw [← e0] at how
            clear e0
            have HB := hide ((unhide hbl).alloc hbs (.cells #[.int .i64 0, .int .i64 0, .int .i64 0] 89))
            have HO := hide ((unhide how).alloc (.cells #[.int .i64 0, .int .i64 0, .int .i64 0] 89))
            go_wp2_with (at_lookup; refine wpList_lookA _ rfl _ _ rfl b _ _ rfl (unhide HM) ((j : Int) + 1) ((k : Int) + 1) (unhide HWJ) (unhide HWK) rfl 0 0 0 false (unhide HA) (unhide HE) ?_)
            go_roundw
            case rel => exact ⟨k + 1, by omega, by go_num, HO, HB⟩
            case measure => simp [intOf]; omega
          | some m =>
            rw [hf] at HST
            obtain ⟨ke, ti, va⟩ := m
            have HA : Hid ((f ((j : Int) + 1) ((k : Int) + 1)).getD R.zero = ⟨ke, ti, va⟩) := hide (by rw [hf]; rfl)
            have HE : Hid ((f ((j : Int) + 1) ((k : Int) + 1)).isSome = true) := hide (by rw [hf]; rfl)
            clear hf
            have HTF : Hid (ordT f (8 * j + (k + 1)) = ordT f (8 * j + k) ++ [(⟨ke, ti, va⟩ : R)]) := HST
            have HBA := hide ((unhide hbl).alloc hbs (.cells #[.int .i64 ke, .int .i64 ti, .int .i64 va] 89))
            have HOA := hide ((unhide how).alloc (.cells #[.int .i64 ke, .int .i64 ti, .int .i64 va] 89))
            have hs1 : w.heap.size ≤ (wr.alloc (.cells #[.int .i64 ke, .int .i64 ti, .int .i64 va] 89)).heap.size := by simp; omega
            go_wp2_with (first | (at_lookup; refine wpList_lookA _ rfl _ _ rfl b _ _ rfl (unhide HM) ((j : Int) + 1) ((k : Int) + 1) (unhide HWJ) (unhide HWK) rfl ke ti va true (unhide HA) (unhide HE) ?_) | (at_builtin; refine wpList_apS ((unhide HOA).alloc _) (wr.heap.size + 1) 0 1 1 [(⟨ke, ti, va⟩ : R)] rfl (by have := rm_new (wr.alloc (.cells #[.int .i64 ke, .int .i64 ti, .int .i64 va] 89)) ⟨ke, ti, va⟩; simpa using this) (by simp only [List.length_cons, List.length_nil]; omega) (by simp; omega) rfl _ _ rfl rfl rfl ?_; intro v' w' ho hg; have HO : Hid (w'.ownsRow w.heap.size 89 3 v' (ordT f (8 * j + (k + 1))).length (flat (ordT f (8 * j + (k + 1))))) := hide (by rw [unhide HTF]; exact ho); have HB := hide (below_own ((unhide HBA).alloc hs1 _) ((unhide HOA).alloc _) hg (Nat.le_refl _) (by simp; omega)); clear ho hg))
            go_roundw
            case rel => exact ⟨k + 1, by omega, by go_num, HO, HB⟩
            case measure => simp [intOf]; omega
        · obtain rfl : k = 8 := by omega
          have HO : Hid (wr.ownsRow w.heap.size 89 3 u3 (ordT f (8 * (j + 1))).length (flat (ordT f (8 * (j + 1))))) := hide (by rw [show 8 * (j + 1) = 8 * j + 8 by omega]; exact unhide how)
          go_wp2_with fail
          go_roundw
          case rel => exact ⟨j + 1, by omega, by go_num, HO, hbl⟩
          case measure => simp [intOf]; omega
    · obtain rfl : j = 8 := by omega
      have HL := hide (lst_own rfl (unhide how0))
      go_wp2_with fail
      go_ret
      exact ⟨_, rfl, unhide hbl0, unhide HL⟩
theorem om_none {w : World} {b n : Nat} {f : Int → Int → Option R} (h : OM w b n f) (o : Nat) : w.cell? ⟨b, o, none⟩ = none := by
  obtain ⟨D, ⟨es, ck, hb, _⟩, _⟩ := h
  simp [World.cell?, hb]
theorem ed_ne {w : World} {b n : Nat} {f : Int → Int → Option R} (h : OM w b n f) {g o : Nat} {m : Ed.R} (ha : Ed.At w g o m) : g ≠ b := by
  intro e; subst e; have := om_none h o; rw [ha.1] at this; cases this
theorem ed_but {w w' : World} {g o : Nat} {m : Ed.R} (h : Ed.At w g o m) (hb : w'.heap[g]? = w.heap[g]?) : Ed.At w' g o m := by
  obtain ⟨h0, h1⟩ := h
  exact ⟨(World.cell?_of_block (a := ⟨g, o, none⟩) hb).trans h0, (World.cell?_of_block (a := ⟨g, o + 1, none⟩) hb).trans h1⟩
theorem ed_lt {w : World} {g o : Nat} {m : Ed.R} (h : Ed.At w g o m) : g < w.heap.size := World.block_lt_of_cell? _ _ h.1
theorem sEd {w : World} {Bn : Nat} {ad mt : Int} (h : Ed.At w Bn 0 ⟨ad, mt⟩) : Ed.At w Bn 0 ⟨ad, mt⟩ ∧ w.cell? ⟨Bn, 0, none⟩ = some (.int .i64 ad) ∧ w.cell? ⟨Bn, 1, none⟩ = some (.int .i64 mt) := ⟨h, h.1, by have := h.2; simpa using this⟩
set_option maxHeartbeats 8000000 in
theorem learnFrom (b q : Nat) (L : List R) (frm til an valid : Int) (a : Option Addr) (ns : List Ed.R) (capn : Nat) (w : World) (hL : twoB L = true) (hf : 1 ≤ frm ∧ frm ≤ 8) (ht : 0 ≤ til ∧ til ≤ 1073741824) (hh : Av.tcB an valid ns = true) (hq : q ≤ 64) (hom : OM w b q (findT L)) (hr : Ed.RM w a ns) :
    Calls Try.prog 48 #[.map (some b), .int .i64 frm, .int .i64 til, .agg #[.int .i64 an, .int .i64 valid, .slice a ns.length capn]] w fun e w' => e = .returned (.tuple #[]) ∧ OM w' b (q + ns.length) (findT (learnE L frm til ns ns.length)) ∧ w.grownBy w' (some b) := by
  have h8 := Av.tc_len hh
  have HAL := hide (Av.tc_all hh)
  have HTW := hide (learnE_two hL hf ht (unhide HAL))
  have hbl := hom.lt
  have HR := hide hr
  have HOM := hide hom
  clear hh hL hr hom
  obtain ⟨N, hN⟩ : ∃ N, ns.length = N := ⟨_, rfl⟩
  have HN := hide hN
  rw [hN] at h8 ⊢
  clear hN
  generalize hn' : N = n at *
  clear hn'
  have O1 : Hid (OM (w.alloc (.cells #[.int .i64 an, .int .i64 valid, .slice a n capn] 30)) b (q + 0) (findT (learnE L frm til ns 0))) := hide ((unhide HOM).below ((Below.refl _ _).alloc (Nat.le_refl _) _))
  have G1 : Hid (w.grownBy (w.alloc (.cells #[.int .i64 an, .int .i64 valid, .slice a n capn] 30)) (some b)) := hide (World.grownBy_alloc w _ _)
  go_enter Try.func48, Try.ntmps48
  go_wp2_with fail
  go_loopw [13] (fun i wr => ∃ j : Nat, j ≤ n ∧ i = .int .i64 j ∧ Hid (OM wr b (q + j) (findT (learnE L frm til ns j))) ∧ Hid (w.grownBy wr (some b))) (fun i _ => n - (intOf i).toNat)
  case atStart => exact ⟨0, by omega, rfl, O1, G1⟩
  case round =>
    obtain ⟨j, hj, rfl, hom, hgr⟩ := hrel
    by_cases hlt : (j : Int) < (n : Int)
    · have k0 : (0 : Int) ≤ (j : Int) := by omega
      have hlen : j < ns.length := by rw [unhide HN]; omega
      obtain ⟨g, off, rfl⟩ := (unhide HR).form (by omega)
      have hA0 := (unhide HR).at hlen
      have hA := ed_but hA0 ((unhide hgr).block g (ed_lt hA0) (by intro e; cases e; exact ed_ne (unhide HOM) hA0 rfl))
      have hgs := (unhide hgr).size
      have HY : Hid (((ns.getD j Ed.R.zero).ad != frm) = true → learnE L frm til ns (j + 1) = putL (learnE L frm til ns j) (tupE frm til (ns.getD j Ed.R.zero))) := hide (fun h => learnE_yes hlen h)
      have HZ : Hid (((ns.getD j Ed.R.zero).ad != frm) = false → learnE L frm til ns (j + 1) = learnE L frm til ns j) := hide (fun h => learnE_no hlen h)
      have HTO : Hid (((ns.getD j Ed.R.zero).ad != frm) = true → okR (tupE frm til (ns.getD j Ed.R.zero)) = true ∧ okK (tupE frm til (ns.getD j Ed.R.zero)) = true ∧ hv (tupE frm til (ns.getD j Ed.R.zero)) = frm ∧ ha (tupE frm til (ns.getD j Ed.R.zero)) = (ns.getD j Ed.R.zero).ad) := hide (fun h => tupE_ok hf ht (Ri.all_ok (unhide HAL) hlen) h)
      have had := Av.ok_ad (Ri.all_ok (unhide HAL) hlen)
      have HT1 := hide (unhide HTW j (by omega))
      clear hA0
      generalize ns.getD j Ed.R.zero = m at *
      obtain ⟨ad, mt⟩ := m
      obtain ⟨c0, c1⟩ := hA
      dsimp only at c0 c1 had
      have B1 : Hid (Below wr.heap.size wr (wr.alloc (.cells #[.int .i64 ad, .int .i64 mt] 47))) := hide ((Below.refl _ _).alloc (Nat.le_refl _) _)
      have HO1 := hide ((unhide hom).below (unhide B1))
      have HG1 := hide ((unhide hgr).trans (World.grownBy_alloc wr (.cells #[.int .i64 ad, .int .i64 mt] 47) (some b)))
      have HNA : Hid (Ed.At (wr.alloc (.cells #[.int .i64 ad, .int .i64 mt] 47)) wr.heap.size 0 ⟨ad, mt⟩) := hide (by refine ⟨?_, ?_⟩ <;> simp [World.cell?_alloc_new])
      cases hnew : (ad != frm)
      · have E1 := unhide HZ hnew
        have HO2 : Hid (OM (wr.alloc (.cells #[.int .i64 ad, .int .i64 mt] 47)) b (q + (j + 1)) (findT (learnE L frm til ns (j + 1)))) := hide (by rw [E1]; exact (unhide HO1).mono (by omega))
        clear E1 HY HZ HTO
        go_wp2_with fail
        go_roundw
        case rel => exact ⟨j + 1, by omega, by go_num, HO2, HG1⟩
        case measure => simp [intOf]; omega
      · have E1 := unhide HY hnew
        obtain ⟨t1, t2, t3, t4⟩ := unhide HTO hnew
        have HPF : Hid (updT (findT (learnE L frm til ns j)) frm ad ⟨100 * frm + ad, til, mt⟩ = findT (learnE L frm til ns (j + 1))) := hide (by
          have hl := two_len (unhide HT1)
          rw [E1, find_put (two_set (unhide HT1)) (by omega), t3, t4]; rfl)
        clear E1 HY HZ HTO t1 t2 t3 t4
        have hb1 : b < wr.heap.size := by omega
        clear B1
        go_wp2_with fail
        generalize hW : wr.alloc (.cells #[.int .i64 ad, .int .i64 mt] 47) = W0 at *
        clear hW c0 c1
        refine wp_region_noPanic ?_
        refine wp_region_held_drew (S := fun w' => Ed.At w' wr.heap.size 0 ⟨ad, mt⟩ ∧ w'.cell? ⟨wr.heap.size, 0, none⟩ = some (.int .i64 ad) ∧ w'.cell? ⟨wr.heap.size, 1, none⟩ = some (.int .i64 mt)) (by kernel_rfl) (sEd (unhide HNA).drew) (fun hHeld => ?_)
        (refine Rg.tk (i := 0) (d := 21) (v := ?_) rfl rfl (by kernel_rfl) (by kernel_rfl) (by kernel_rfl) (fun _ _ _ h => h) (by rfl) ?_ (by assumption) ?_; rotate_left; (focus (intro w0 hSw; (try dsimp only at hSw); go_simp; (try with_reducible rfl))); (try simp only [Act.put, List.setIfInBounds_toArray, List.set_cons_zero, List.set_cons_succ]))
        (refine Rg.tk (i := 1) (d := 22) (v := ?_) rfl rfl (by kernel_rfl) (by kernel_rfl) (by kernel_rfl) (fun _ _ _ h => h) (by rfl) ?_ (by assumption) ?_; rotate_left; (focus (intro w0 hSw; (try dsimp only at hSw); go_simp; (try with_reducible rfl))); (try simp only [Act.put, List.setIfInBounds_toArray, List.set_cons_zero, List.set_cons_succ]))
        (refine Rg.tk (i := 2) (d := 23) (v := ?_) rfl rfl (by kernel_rfl) (by kernel_rfl) (by kernel_rfl) (fun _ _ _ h => h) (by rfl) ?_ (by assumption) ?_; rotate_left; (focus (intro w0 hSw; (try dsimp only at hSw); go_simp; (try with_reducible rfl))); (try simp only [Act.put, List.setIfInBounds_toArray, List.set_cons_zero, List.set_cons_succ]))
        (refine Rg.tk (i := 3) (d := 24) (v := ?_) rfl rfl (by kernel_rfl) (by kernel_rfl) (by kernel_rfl) (fun _ _ _ h => h) (by rfl) ?_ (by assumption) ?_; rotate_left; (focus (intro w0 hSw; (try dsimp only at hSw); go_simp; (try with_reducible rfl))); (try simp only [Act.put, List.setIfInBounds_toArray, List.set_cons_zero, List.set_cons_succ]))
        (refine Rg.tk (i := 4) (d := 25) (v := ?_) rfl rfl (by kernel_rfl) (by kernel_rfl) (by kernel_rfl) (fun _ _ _ h => h) (by rfl) ?_ (by assumption) ?_; rotate_left; (focus (intro w0 hSw; (try dsimp only at hSw); go_simp; (try with_reducible rfl))); (try simp only [Act.put, List.setIfInBounds_toArray, List.set_cons_zero, List.set_cons_succ]))
        (refine Rg.tk (i := 5) (d := 26) (v := ?_) rfl rfl (by kernel_rfl) (by kernel_rfl) (by kernel_rfl) (fun _ _ _ h => h) (by rfl) ?_ (by assumption) ?_; rotate_left; (focus (intro w0 hSw; (try dsimp only at hSw); go_simp; (try with_reducible rfl))); (try simp only [Act.put, List.setIfInBounds_toArray, List.set_cons_zero, List.set_cons_succ]))
        (refine Rg.tk (i := 6) (d := 27) (v := ?_) rfl rfl (by kernel_rfl) (by kernel_rfl) (by kernel_rfl) (fun _ _ _ h => h) (by rfl) ?_ (by assumption) ?_; rotate_left; (focus (intro w0 hSw; (try dsimp only at hSw); go_simp; (try with_reducible rfl))); (try simp only [Act.put, List.setIfInBounds_toArray, List.set_cons_zero, List.set_cons_succ]))
        (refine Rg.tk (i := 7) (d := 28) (v := ?_) rfl rfl (by kernel_rfl) (by kernel_rfl) (by kernel_rfl) (fun _ _ _ h => h) (by rfl) ?_ (by assumption) ?_; rotate_left; (focus (intro w0 hSw; (try dsimp only at hSw); go_simp; (try with_reducible rfl))); (try simp only [Act.put, List.setIfInBounds_toArray, List.set_cons_zero, List.set_cons_succ]))
        (refine Rg.tk (i := 8) (d := 29) (v := ?_) rfl rfl (by kernel_rfl) (by kernel_rfl) (by kernel_rfl) (fun _ _ _ h => h) (by rfl) ?_ (by assumption) ?_; rotate_left; (focus (intro w0 hSw; (try dsimp only at hSw); go_simp; (try with_reducible rfl))); (try simp only [Act.put, List.setIfInBounds_toArray, List.set_cons_zero, List.set_cons_succ]))
        (refine Rg.tk (i := 10) (d := 31) (v := ?_) rfl rfl (by kernel_rfl) (by kernel_rfl) (by kernel_rfl) (fun _ _ _ h => h) (by rfl) ?_ (by assumption) ?_; rotate_left; (focus (intro w0 hSw; (try dsimp only at hSw); go_simp; (try with_reducible rfl))); (try simp only [Act.put, List.setIfInBounds_toArray, List.set_cons_zero, List.set_cons_succ]))
        (refine Rg.tk (i := 11) (d := 32) (v := ?_) rfl rfl (by kernel_rfl) (by kernel_rfl) (by kernel_rfl) (fun _ _ _ h => h) (by rfl) ?_ (by assumption) ?_; rotate_left; (focus (intro w0 hSw; (try dsimp only at hSw); go_simp; (try with_reducible rfl))); (try simp only [Act.put, List.setIfInBounds_toArray, List.set_cons_zero, List.set_cons_succ]))
        (refine Rg.tk (i := 12) (d := 33) (v := ?_) rfl rfl (by kernel_rfl) (by kernel_rfl) (by kernel_rfl) (fun _ _ _ h => h) (by rfl) ?_ (by assumption) ?_; rotate_left; (focus (intro w0 hSw; (try dsimp only at hSw); go_simp; (try with_reducible rfl))); (try simp only [Act.put, List.setIfInBounds_toArray, List.set_cons_zero, List.set_cons_succ]))
        (refine wpAnyH_ready (rs := [9]) (by kernel_rfl) (by simp) ?_; refine AllReadyH.cons (o := _) rfl (fun K hK => ?_) AllReadyH.nil; go_simp)
        refine (Tw.keyOfHop frm ad _ (by omega) (by omega) (by omega) (by omega)).mono ?_
        rintro e w2 ⟨rfl, b2_⟩
        have b2 : Below W0.heap.size W0 w2 := (Below.refl _ _).drew.trans b2_
        have HS2 := hide ((unhide HNA).below b2)
        have HO3 := hide ((unhide HO1).below b2)
        have HG3 : Hid (w.grownBy w2 (some b)) := hide ((unhide HG1).trans ⟨b2.os, b2.tape, b2.output, b2.size, fun i hi _ => b2.block i hi⟩)
        clear b2 b2_ hHeld
        refine hK.out _ _ (sEd (unhide HS2)) (fun hHeld => ?_)
        clear hK K
        (try simp only [Act.put, List.setIfInBounds_toArray, List.set_cons_zero, List.set_cons_succ])
        (refine Rg.tk (i := 13) (d := 34) (v := ?_) rfl rfl (by kernel_rfl) (by kernel_rfl) (by kernel_rfl) (fun _ _ _ h => h) (by rfl) ?_ (by assumption) ?_; rotate_left; (focus (intro w0 hSw; (try dsimp only at hSw); go_simp; (try with_reducible rfl))); (try simp only [Act.put, List.setIfInBounds_toArray, List.set_cons_zero, List.set_cons_succ]))
        (refine wpAnyH_ready (rs := [14]) (by kernel_rfl) (by simp) ?_; refine AllReadyH.cons (o := _) rfl (fun K hK => ?_) AllReadyH.nil; rw [if_pos (by rfl)])
        refine wp_put _ _ _ _ rfl rfl b (q + j) _ rfl (unhide HO3) (by unfold maxLen; omega) frm ad (WalkArith.wf_i64 ⟨by omega, by omega⟩) (WalkArith.wf_i64 ⟨by omega, by omega⟩) ⟨100 * frm + ad, til, mt⟩ rfl rfl ?_
        intro w6 om6 g6
        have HO6 : Hid (OM w6 b (q + (j + 1)) (findT (learnE L frm til ns (j + 1)))) := hide ((unhide HPF) ▸ om6)
        have HS6 := hide (ed_but (unhide HS2) (g6.block wr.heap.size (ed_lt (unhide HS2)) (by intro e; cases e; omega)))
        have HG6 := hide ((unhide HG3).trans g6)
        clear om6 g6 hHeld
        refine hK.out _ _ (sEd (unhide HS6)) (fun hHeld => ?_)
        clear hK K hHeld
        (try simp only [Act.put, List.setIfInBounds_toArray, List.set_cons_zero, List.set_cons_succ])
        refine wpAnyH_done (by kernel_rfl) (NoPanic.normal ?_) _
        go_wp2_with fail
        go_roundw
        case rel => exact ⟨j + 1, by omega, by go_num, HO6, HG6⟩
        case measure => simp [intOf]; omega
    · obtain rfl : j = n := by omega
      go_wp2_with fail
      refine bodyPost_end (v := .tuple #[]) (by simp [results, Try.results48, go_sem]) rfl ⟨rfl, unhide hom, unhide hgr⟩
set_option maxHeartbeats 4000000 in
theorem edgesOf (b n : Nat) (f : Int → Int → Option R) (frm : Int) (w : World) (hwf : (Lit.int .i64 frm).wf = true) (hom : OM w b n f) :
    Calls Try.prog 62 #[.map (some b), .int .i64 frm] w fun e w' => ∃ v, e = .returned v ∧ Below w.heap.size w w' ∧ Ed.LstV w' v (fromE f frm 8) w.heap.size w'.heap.size := by
  have HOM := hide hom
  have HWF := hide hwf
  have OW : Hid (w.ownsRow w.heap.size 47 2 (.slice none 0 0) (fromE f frm 0).length (Ed.flat (fromE f frm 0))) := hide (Ed.own_nil w w.heap.size)
  clear hom hwf
  go_enter Try.func62, Try.ntmps62
  go_wp2_with fail
  go_loopw [5, 6] (fun v i wr => ∃ k : Nat, k ≤ 8 ∧ i = .int .i64 ((k : Int) + 1) ∧ Hid (wr.ownsRow w.heap.size 47 2 v (fromE f frm k).length (Ed.flat (fromE f frm k))) ∧ Hid (Below w.heap.size w wr)) (fun _ i _ => 9 - (intOf i).toNat)
  case atStart => exact ⟨0, by omega, rfl, OW, hide (Below.refl _ _)⟩
  case round =>
    obtain ⟨k, hk, rfl, how, hbl⟩ := hrel
    have hbs := (unhide hbl).size
    have hfl := fromE_len f frm k
    by_cases hlt : (k : Int) + 1 ≤ 8
    · have HM := hide ((unhide HOM).below (unhide hbl))
      have HWK : Hid ((Lit.int .i64 ((k : Int) + 1)).wf = true) := hide (WalkArith.wf_i64 ⟨by omega, by omega⟩)
      cases hf : f frm ((k : Int) + 1) with
      | none =>
        have HA : Hid ((f frm ((k : Int) + 1)).getD R.zero = ⟨0, 0, 0⟩) := hide (by rw [hf]; rfl)
        have HE : Hid ((f frm ((k : Int) + 1)).isSome = false) := hide (by rw [hf]; rfl)
        have e0 := fromE_no hf
        clear hf
        rw [← e0] at how
        clear e0
        have HB := hide ((unhide hbl).alloc hbs (.cells #[.int .i64 0, .int .i64 0, .int .i64 0] 89))
        have HO := hide ((unhide how).alloc (.cells #[.int .i64 0, .int .i64 0, .int .i64 0] 89))
        go_wp2_with (at_lookup; refine wpList_lookA _ rfl _ _ rfl b _ _ rfl (unhide HM) frm ((k : Int) + 1) (unhide HWF) (unhide HWK) rfl 0 0 0 false (unhide HA) (unhide HE) ?_)
        go_roundw
        case rel => exact ⟨k + 1, by omega, by go_num, HO, HB⟩
        case measure => simp [intOf]; omega
      | some m =>
        have HTF := hide (fromE_yes hf)
        obtain ⟨ke, ti, va⟩ := m
        have HA : Hid ((f frm ((k : Int) + 1)).getD R.zero = ⟨ke, ti, va⟩) := hide (by rw [hf]; rfl)
        have HE : Hid ((f frm ((k : Int) + 1)).isSome = true) := hide (by rw [hf]; rfl)
        clear hf
        have HBA := hide ((unhide hbl).alloc hbs (.cells #[.int .i64 ke, .int .i64 ti, .int .i64 va] 89))
        have HOA := hide ((unhide how).alloc (.cells #[.int .i64 ke, .int .i64 ti, .int .i64 va] 89))
        have hs1 : w.heap.size ≤ (wr.alloc (.cells #[.int .i64 ke, .int .i64 ti, .int .i64 va] 89)).heap.size := by simp; omega
        go_wp2_with (first | (at_lookup; refine wpList_lookA _ rfl _ _ rfl b _ _ rfl (unhide HM) frm ((k : Int) + 1) (unhide HWF) (unhide HWK) rfl ke ti va true (unhide HA) (unhide HE) ?_) | (at_builtin; refine Ed.wpList_apS ((unhide HOA).alloc _) (wr.heap.size + 1) 0 1 1 [(⟨(k : Int) + 1, va⟩ : Ed.R)] rfl (by have := Ed.rm_new (wr.alloc (.cells #[.int .i64 ke, .int .i64 ti, .int .i64 va] 89)) ⟨(k : Int) + 1, va⟩; simpa using this) (by simp only [List.length_cons, List.length_nil]; omega) (by simp; omega) rfl _ _ rfl rfl rfl ?_; intro v' w' ho hg; have HO : Hid (w'.ownsRow w.heap.size 47 2 v' (fromE f frm (k + 1)).length (Ed.flat (fromE f frm (k + 1)))) := hide (by rw [unhide HTF]; exact ho); have HB := hide (Ed.below_own ((unhide HBA).alloc hs1 _) ((unhide HOA).alloc _) hg (Nat.le_refl _) (by simp; omega)); clear ho hg))
        go_roundw
        case rel => exact ⟨k + 1, by omega, by go_num, HO, HB⟩
        case measure => simp [intOf]; omega
    · obtain rfl : k = 8 := by omega
      have HL := hide (Ed.lst_own rfl (unhide how))
      go_wp2_with fail
      go_ret
      exact ⟨_, rfl, unhide hbl, unhide HL⟩
end Tp
end Go.Proofs.Ytmlokaielemhaaa
