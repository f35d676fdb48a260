/-
  EdgesFrom, the model's and the program's. (written by mktops.py)
-/
import Derived.Test.YtmelbilepfnmjapTopC
import Derived.Test.YtmelbilepfnmjapTopE
namespace Go.Proofs.Ytmelbilepfnmjap
open Go.ChangeShapes Go.WideShapes Go.ChangeAt Go.RowKit
set_option linter.unusedVariables false
set_option linter.unusedSimpArgs false
set_option maxRecDepth 100000
attribute [local go_sem ↓] Go.wp_at_zero Go.wp_at_succ
namespace Tp
open W1 Tu St Tw Me
theorem sE2 {w : World} {g o B : Nat} {key til val : Int} {x y : Value} (h : Tu.At w g o ⟨key, til, val⟩) (hB : Bx2 w B x y) : (Tu.At w g o ⟨key, til, val⟩ ∧ Bx2 w B x y) ∧ w.cell? ⟨g, o, none⟩ = some (.int .i64 key) ∧ w.cell? ⟨g, o + 2, none⟩ = some (.int .i64 val) ∧ w.cell? ⟨B, 1, none⟩ = some y := ⟨⟨h, hB⟩, h.1, h.2.2, hB.2⟩
set_option maxHeartbeats 4000000 in
theorem l09Edges (va : Value) (b : Option Addr) (es : List R) (n cb : Nat) (frm : Int) (w : World) (hN : es.length = n) (ht : twoB es = true) (hr : RM w b es) :
    Calls Try.prog 81 #[.agg #[va, .slice b n cb], .int .i64 frm] w fun e w' => ∃ v, e = .returned v ∧ Below w.heap.size w w' ∧ Ed.LstV w' v (edgN frm es n) w.heap.size w'.heap.size := by
  have h62 := two_len ht
  have HT := hide ht
  have HN := hide hN
  rw [hN] at h62
  have HA : Hid (Below w.heap.size w (w.alloc (.cells #[va, .slice b n cb] 42))) := hide ((Below.refl _ _).alloc (Nat.le_refl _) _)
  have HX : Hid (Bx2 (w.alloc (.cells #[va, .slice b n cb] 42)) w.heap.size va (.slice b n cb)) := hide (bx2_new w _ _ _)
  have HR := hide hr
  clear hr ht hN
  have E0 : Hid ((w.alloc (.cells #[va, .slice b n cb] 42)).heap.size = w.heap.size + 1) := hide (by simp)
  have O1 := hide (Ed.own_empty (w.alloc (.cells #[va, .slice b n cb] 42)) (w.alloc (.cells #[va, .slice b n cb] 42)).heap.size (Nat.le_refl _))
  have P1 : Hid (Below (w.alloc (.cells #[va, .slice b n cb] 42)).heap.size (w.alloc (.cells #[va, .slice b n cb] 42)) ((w.alloc (.cells #[va, .slice b n cb] 42)).alloc (.cells #[] 127))) := hide ((Below.refl _ _).alloc (Nat.le_refl _) _)
  go_enter Try.func81, Try.ntmps81
  go_wp2_with fail
  generalize hW : w.alloc (.cells #[va, .slice b n cb] 42) = W1 at *
  clear hW
  rw [show W1.heap.size = w.heap.size + 1 from unhide E0] at O1
  rw [← unhide E0] at O1
  go_loopw [5, 6] (fun v i wr => ∃ j : Nat, j ≤ n ∧ i = .int .i64 j ∧ Hid (wr.ownsRow W1.heap.size 127 2 v (edgN frm es j).length (Ed.flat (edgN frm es j))) ∧ Hid (Below W1.heap.size W1 wr)) (fun _ i _ => n - (intOf i).toNat)
  case atStart => exact ⟨0, by omega, rfl, by rw [← unhide E0]; exact O1, P1⟩
  case round =>
    obtain ⟨j, hj, rfl, how, hbl⟩ := hrel
    have HXr := hide ((unhide HX).below (unhide hbl))
    obtain ⟨z0, z1⟩ := unhide HXr
    have HBw := hide ((unhide HA).trans ((unhide hbl).mono (unhide HA).size))
    have hbs := (unhide hbl).size
    by_cases hlt : (j : Int) < (n : Int)
    · have k0 : (0 : Int) ≤ (j : Int) := by omega
      have hlen : j < es.length := by rw [unhide HN]; omega
      obtain ⟨g, off, rfl⟩ := (unhide HR).form (by omega)
      have hA := ((unhide HR).below (unhide HBw)).at hlen
      have hfl := edgN_len frm es j
      have hbd := ok_bounds (setB_ok (two_set (unhide HT)) hlen)
      have HY := hide (fun (h : isVia frm (es.getD j R.zero) = true) => edgN_yes hlen h)
      have HZ := hide (fun (h : isVia frm (es.getD j R.zero) = false) => edgN_no hlen h)
      obtain ⟨m, hmd⟩ : ∃ m, es.getD j R.zero = m := ⟨_, rfl⟩
      have HMD := hide hmd
      rw [hmd] at hA hbd HY HZ
      clear hmd
      obtain ⟨key, til, val⟩ := m
      have HAt := hide hA
      obtain ⟨c0, c1, c2⟩ := hA
      dsimp only at c0 c1 c2 hbd
      have e1 : key.tdiv 100 = key / 100 := Int.tdiv_eq_ediv_of_nonneg (by omega)
      have e2 : key.tmod 100 = key % 100 := Int.tmod_eq_emod_of_nonneg (by omega)
      have hvm : isVia frm ⟨key, til, val⟩ = (key / 100 == frm) := by unfold isVia hv; dsimp only; rw [e1]
      have hem : edV ⟨key, til, val⟩ = ⟨key % 100, val⟩ := by unfold edV ha; dsimp only; rw [e2]
      rw [hem] at HY
      obtain ⟨u, hu⟩ : ∃ u, key % 100 = u := ⟨_, rfl⟩
      rw [hu] at HY
      have hut : key.tmod 100 = u := e2.trans hu
      have huw : IntKind.i64.wrap u = u := by rw [IntKind.wrap_i64]; omega
      have HUT := hide hut
      clear e1 e2 hem hu hut
      cases hk : (key / 100 == frm)
      · have HTF := hide (unhide HZ (hvm.trans hk))
        clear HY HZ hvm
        have HO : Hid (wr.ownsRow W1.heap.size 127 2 u5 (edgN frm es (j + 1)).length (Ed.flat (edgN frm es (j + 1)))) := hide (by rw [unhide HTF]; exact unhide how)
        go_wp2_with fail
        go_roundw
        case rel => exact ⟨j + 1, by omega, by go_num, HO, hbl⟩
        case measure => simp [intOf]; omega
      · have HTF := hide (unhide HY (hvm.trans hk))
        clear HY HZ hvm
        go_wp2_with fail
        clear c0 c1 c2 z0 z1
        refine wp_region_noPanic ?_
        refine wp_region_held_drew (S := fun w' => (Tu.At w' g (off + j * 3) ⟨key, til, val⟩ ∧ Bx2 w' w.heap.size va (.slice (some ⟨g, off, none⟩) n cb)) ∧ w'.cell? ⟨g, off + j * 3, none⟩ = some (.int .i64 key) ∧ w'.cell? ⟨g, off + j * 3 + 2, none⟩ = some (.int .i64 val) ∧ w'.cell? ⟨w.heap.size, 1, none⟩ = some (.slice (some ⟨g, off, none⟩) n cb)) (by kernel_rfl) (sE2 (unhide HAt).drew (unhide HXr).drew) (fun hHeld => ?_)
        have hut := unhide HUT
        (refine Rg.tk (i := 0) (d := 24) (v := ?_) rfl rfl (by kernel_rfl) (by kernel_rfl) (by kernel_rfl) (fun _ _ _ h => h) (by rfl) ?_ (by assumption) ?_; rotate_left; (focus (intro w0 hSw; (try dsimp only at hSw); go_simp; (try with_reducible rfl))); (try simp only [Act.put, List.setIfInBounds_toArray, List.set_cons_zero, List.set_cons_succ]))
        (refine Rg.tk (i := 1) (d := 25) (v := ?_) rfl rfl (by kernel_rfl) (by kernel_rfl) (by kernel_rfl) (fun _ _ _ h => h) (by rfl) ?_ (by assumption) ?_; rotate_left; (focus (intro w0 hSw; (try dsimp only at hSw); go_simp; (try with_reducible rfl))); (try simp only [Act.put, List.setIfInBounds_toArray, List.set_cons_zero, List.set_cons_succ]))
        (refine Rg.tk (i := 2) (d := 26) (v := ?_) rfl rfl (by kernel_rfl) (by kernel_rfl) (by kernel_rfl) (fun _ _ _ h => h) (by rfl) ?_ (by assumption) ?_; rotate_left; (focus (intro w0 hSw; (try dsimp only at hSw); go_simp; (try with_reducible rfl))); (try simp only [Act.put, List.setIfInBounds_toArray, List.set_cons_zero, List.set_cons_succ]))
        (refine Rg.tk (i := 3) (d := 27) (v := ?_) rfl rfl (by kernel_rfl) (by kernel_rfl) (by kernel_rfl) (fun _ _ _ h => h) (by rfl) ?_ (by assumption) ?_; rotate_left; (focus (intro w0 hSw; (try dsimp only at hSw); go_simp; (try with_reducible rfl))); (try simp only [Act.put, List.setIfInBounds_toArray, List.set_cons_zero, List.set_cons_succ]))
        (refine Rg.tk (i := 4) (d := 28) (v := ?_) rfl rfl (by kernel_rfl) (by kernel_rfl) (by kernel_rfl) (fun _ _ _ h => h) (by rfl) ?_ (by assumption) ?_; rotate_left; (focus (intro w0 hSw; (try dsimp only at hSw); go_simp; (try with_reducible rfl))); (try simp only [Act.put, List.setIfInBounds_toArray, List.set_cons_zero, List.set_cons_succ]))
        (refine Rg.tk (i := 5) (d := 29) (v := ?_) rfl rfl (by kernel_rfl) (by kernel_rfl) (by kernel_rfl) (fun _ _ _ h => h) (by rfl) ?_ (by assumption) ?_; rotate_left; (focus (intro w0 hSw; (try dsimp only at hSw); go_simp; (try with_reducible rfl))); (try simp only [Act.put, List.setIfInBounds_toArray, List.set_cons_zero, List.set_cons_succ]))
        (refine Rg.tk (i := 6) (d := 30) (v := ?_) rfl rfl (by kernel_rfl) (by kernel_rfl) (by kernel_rfl) (fun _ _ _ h => h) (by rfl) ?_ (by assumption) ?_; rotate_left; (focus (intro w0 hSw; (try dsimp only at hSw); go_simp; (try with_reducible rfl))); (try simp only [Act.put, List.setIfInBounds_toArray, List.set_cons_zero, List.set_cons_succ]))
        (refine Rg.tk (i := 7) (d := 31) (v := .int .i64 u) rfl rfl (by kernel_rfl) (by kernel_rfl) (by kernel_rfl) (fun _ _ _ h => h) (by rfl) ?_ (by assumption) ?_; (focus (intro w0 hSw; (try dsimp only at hSw); go_simp)); (try simp only [Act.put, List.setIfInBounds_toArray, List.set_cons_zero, List.set_cons_succ]))
        clear hut
        (refine Rg.tk (i := 8) (d := 32) (v := ?_) rfl rfl (by kernel_rfl) (by kernel_rfl) (by kernel_rfl) (fun _ _ _ h => h) (by rfl) ?_ (by assumption) ?_; rotate_left; (focus (intro w0 hSw; (try dsimp only at hSw); go_simp; (try with_reducible rfl))); (try simp only [Act.put, List.setIfInBounds_toArray, List.set_cons_zero, List.set_cons_succ]))
        (refine Rg.tk (i := 9) (d := 33) (v := ?_) rfl rfl (by kernel_rfl) (by kernel_rfl) (by kernel_rfl) (fun _ _ _ h => h) (by rfl) ?_ (by assumption) ?_; rotate_left; (focus (intro w0 hSw; (try dsimp only at hSw); go_simp; (try with_reducible rfl))); (try simp only [Act.put, List.setIfInBounds_toArray, List.set_cons_zero, List.set_cons_succ]))
        (refine Rg.tk (i := 10) (d := 34) (v := ?_) rfl rfl (by kernel_rfl) (by kernel_rfl) (by kernel_rfl) (fun _ _ _ h => h) (by rfl) ?_ (by assumption) ?_; rotate_left; (focus (intro w0 hSw; (try dsimp only at hSw); go_simp; (try with_reducible rfl))); (try simp only [Act.put, List.setIfInBounds_toArray, List.set_cons_zero, List.set_cons_succ]))
        (refine Rg.tk (i := 11) (d := 35) (v := ?_) rfl rfl (by kernel_rfl) (by kernel_rfl) (by kernel_rfl) (fun _ _ _ h => h) (by rfl) ?_ (by assumption) ?_; rotate_left; (focus (intro w0 hSw; (try dsimp only at hSw); go_simp; (try with_reducible rfl))); (try simp only [Act.put, List.setIfInBounds_toArray, List.set_cons_zero, List.set_cons_succ]))
        (refine Rg.tk (i := 12) (d := 36) (v := ?_) rfl rfl (by kernel_rfl) (by kernel_rfl) (by kernel_rfl) (fun _ _ _ h => h) (by rfl) ?_ (by assumption) ?_; rotate_left; (focus (intro w0 hSw; (try dsimp only at hSw); go_simp; (try with_reducible rfl))); (try simp only [Act.put, List.setIfInBounds_toArray, List.set_cons_zero, List.set_cons_succ]))
        (refine Rg.tk (i := 13) (d := 37) (v := ?_) rfl rfl (by kernel_rfl) (by kernel_rfl) (by kernel_rfl) (fun _ _ _ h => h) (by rfl) ?_ (by assumption) ?_; rotate_left; (focus (intro w0 hSw; (try dsimp only at hSw); go_simp; (try with_reducible rfl))); (try simp only [Act.put, List.setIfInBounds_toArray, List.set_cons_zero, List.set_cons_succ]))
        (refine Rg.tk (i := 14) (d := 38) (v := ?_) rfl rfl (by kernel_rfl) (by kernel_rfl) (by kernel_rfl) (fun _ _ _ h => h) (by rfl) ?_ (by assumption) ?_; rotate_left; (focus (intro w0 hSw; (try dsimp only at hSw); go_simp; (try with_reducible rfl))); (try simp only [Act.put, List.setIfInBounds_toArray, List.set_cons_zero, List.set_cons_succ]))
        (refine wpAnyH_ready (rs := [15]) (by kernel_rfl) (by simp) ?_; refine AllReadyH.cons (o := _) rfl (fun K hK => ?_) AllReadyH.nil; go_simp)
        have b3 : Below wr.heap.size wr (wr.alloc (.cells #[.int .i64 u, .int .i64 val] 127)).drew := ((Below.refl _ _).alloc (Nat.le_refl _) _).drew
        have HO3 : Hid ((wr.alloc (.cells #[.int .i64 u, .int .i64 val] 127)).drew.ownsRow W1.heap.size 127 2 u5 (edgN frm es j).length (Ed.flat (edgN frm es j))) := hide ((unhide how).alloc _).drew
        have HR3 : Hid (Ed.RM (wr.alloc (.cells #[.int .i64 u, .int .i64 val] 127)).drew (some ⟨wr.heap.size, 0, none⟩) [⟨u, val⟩]) := hide (Ed.rm_new wr ⟨u, val⟩).drew
        have HB3 := hide ((unhide hbl).trans (b3.mono (unhide hbl).size))
        have HS3 := hide (sE2 ((unhide HAt).below b3) ((unhide HXr).below b3))
        have hs3 := (unhide HB3).size
        clear b3 hHeld
        generalize hW3 : (wr.alloc (.cells #[.int .i64 u, .int .i64 val] 127)).drew = w3 at *
        clear hW3
        refine hK.out _ _ (unhide HS3) (fun hHeld => ?_)
        clear hK K
        (try simp only [Act.put, List.setIfInBounds_toArray, List.set_cons_zero, List.set_cons_succ])
        (refine wpAnyH_ready (rs := [16]) (by kernel_rfl) (by simp) ?_; refine AllReadyH.cons (o := _) rfl (fun K hK => ?_) AllReadyH.nil; rw [if_pos (by rfl)])
        refine Ed.wp_apS (unhide HO3) wr.heap.size 0 1 1 [⟨u, val⟩] rfl (unhide HR3) (by simp only [List.length_cons, List.length_nil]; omega) hs3 _ _ rfl rfl rfl rfl ?_
        intro v' w' ho hg
        have HO : Hid (w'.ownsRow W1.heap.size 127 2 v' (edgN frm es (j + 1)).length (Ed.flat (edgN frm es (j + 1)))) := hide (by rw [unhide HTF]; exact ho)
        have HB := hide (Ed.below_own (unhide HB3) (unhide HO3) hg (Nat.le_refl _) hs3)
        have HS4 := hide (unhide HB)
        clear ho hg hHeld
        refine hK.out _ _ (sE2 (((unhide HR).below ((unhide HA).trans ((unhide HB).mono (unhide HA).size))).at hlen |> fun h => by rw [unhide HMD] at h; exact h) ((unhide HX).below (unhide HB))) (fun hHeld => ?_)
        clear hK K
        (try simp only [Act.put, List.setIfInBounds_toArray, List.set_cons_zero, List.set_cons_succ])
        (refine Rg.tk (i := 17) (d := 5) (v := ?_) rfl rfl (by kernel_rfl) (by kernel_rfl) (by kernel_rfl) (fun _ _ _ h => h) (by rfl) ?_ (by assumption) ?_; rotate_left; (focus (intro w0 hSw; (try dsimp only at hSw); go_simp; (try with_reducible rfl))); (try simp only [Act.put, List.setIfInBounds_toArray, List.set_cons_zero, List.set_cons_succ]))
        refine wpAnyH_done (by kernel_rfl) (NoPanic.normal ?_) _
        clear hHeld
        go_wp2_with fail
        go_roundw
        case rel => exact ⟨j + 1, by omega, by go_num, HO, HB⟩
        case measure => simp [intOf]; omega
    · obtain rfl : j = n := by omega
      have HL := hide ((Ed.lst_own rfl (unhide how)).mono (lo' := w.heap.size) (by have := unhide E0; omega) (Nat.le_refl _))
      go_wp2_with fail
      go_ret
      exact ⟨_, rfl, unhide HBw, unhide HL⟩
set_option maxHeartbeats 4000000 in
theorem specEdges (a : Option Addr) (ss : List So.R) (ca : Nat) (b : Option Addr) (es : List R) (cb : Nat) (frm : Int) (w : World) (hm : ss.length ≤ 1048576) (hl : es.length ≤ 1048576) (hr : So.RM w a ss) (hr' : RM w b es) :
    Calls Try.prog 32 #[.agg #[.slice a ss.length ca, .slice b es.length cb], .int .i64 frm] w fun e w' => ∃ v, e = .returned (.tuple #[v, .int .i64 (topC ss es)]) ∧ Below w.heap.size w w' ∧ Ed.LstV w' v (edgA ss es frm) w.heap.size w'.heap.size := by
  have HA : Hid (Below w.heap.size w (w.alloc (.cells #[.slice a ss.length ca, .slice b es.length cb] 42))) := hide ((Below.refl _ _).alloc (Nat.le_refl _) _)
  have HX : Hid (Bx2 (w.alloc (.cells #[.slice a ss.length ca, .slice b es.length cb] 42)) w.heap.size (.slice a ss.length ca) (.slice b es.length cb)) := hide (bx2_new w _ _ _)
  have HR := hide (hr.below (unhide HA))
  have HE := hide (hr'.below (unhide HA))
  clear hr hr'
  cases ht : topB ss es
  · have h1 : edgA ss es frm = [] := by unfold edgA; rw [if_neg (by rw [ht]; simp)]
    have h2 : topC ss es = 1 := by unfold topC; rw [if_neg (by rw [ht]; simp)]
    rw [h1, h2]
    have HT := hide ht
    clear h1 h2 ht
    go_enter Try.func32, Try.ntmps32
    go_wp2_with fail
    refine (specOK _ ss ca _ es cb _ hm hl (unhide HR) (unhide HE)).mono ?_
    rintro e w1 ⟨rfl, b1⟩
    rw [unhide HT]
    have HB1 := hide ((unhide HA).trans (b1.mono (unhide HA).size))
    clear b1
    go_wp2_with fail
    go_ret2
    exact ⟨_, rfl, (unhide HB1).alloc (unhide HB1).size _, Ed.lstV_nil _ _ _ _ _⟩
  have h1 : edgA ss es frm = edgN frm es es.length := by unfold edgA edgN; rw [if_pos ht, List.take_length]
  have h2 : topC ss es = 0 := by unfold topC; rw [if_pos ht]
  rw [h1, h2]
  have HT := hide ht
  have HT2 := hide (top_two ht)
  clear h1 h2 ht
  go_enter Try.func32, Try.ntmps32
  go_wp2_with fail
  refine (specOK _ ss ca _ es cb _ hm hl (unhide HR) (unhide HE)).mono ?_
  rintro e w1 ⟨rfl, b1⟩
  rw [unhide HT]
  have HB1 := hide ((unhide HA).trans (b1.mono (unhide HA).size))
  have HE1 := hide ((unhide HE).below b1)
  obtain ⟨z0, z1⟩ := (unhide HX).below b1
  clear b1
  go_wp2_with fail
  clear z0 z1
  refine (l09Edges _ _ es _ cb frm _ rfl (unhide HT2) (unhide HE1)).mono ?_
  rintro e w2 ⟨v, rfl, b2, l2⟩
  have HB2 := hide ((unhide HB1).trans (b2.mono (unhide HB1).size))
  have HL2 := hide (l2.mono (lo' := w.heap.size) (unhide HB1).size (Nat.le_refl _))
  clear b2 l2
  go_wp2_with fail
  go_ret2
  exact ⟨_, rfl, unhide HB2, unhide HL2⟩
set_option maxHeartbeats 4000000 in
theorem implEdges (a : Option Addr) (ss : List So.R) (ca : Nat) (b : Option Addr) (es : List R) (cb : Nat) (frm : Int) (hwf : (Lit.int .i64 frm).wf = true) (w : World) (hm : ss.length ≤ 1048576) (hl : es.length ≤ 1048576) (hr : So.RM w a ss) (hr' : RM w b es) :
    Calls Try.prog 33 #[.agg #[.slice a ss.length ca, .slice b es.length cb], .int .i64 frm] w fun e w' => ∃ v, e = .returned (.tuple #[v, .int .i64 (topC ss es)]) ∧ Below w.heap.size w w' ∧ Ed.LstV w' v (edgA ss es frm) w.heap.size w'.heap.size := by
  have HA : Hid (Below w.heap.size w (w.alloc (.cells #[.slice a ss.length ca, .slice b es.length cb] 42))) := hide ((Below.refl _ _).alloc (Nat.le_refl _) _)
  have HX : Hid (Bx2 (w.alloc (.cells #[.slice a ss.length ca, .slice b es.length cb] 42)) w.heap.size (.slice a ss.length ca) (.slice b es.length cb)) := hide (bx2_new w _ _ _)
  have HR := hide (hr.below (unhide HA))
  have HE := hide (hr'.below (unhide HA))
  clear hr hr'
  cases ht : topB ss es
  · have h1 : edgA ss es frm = [] := by unfold edgA; rw [if_neg (by rw [ht]; simp)]
    have h2 : topC ss es = 1 := by unfold topC; rw [if_neg (by rw [ht]; simp)]
    rw [h1, h2]
    have HT := hide ht
    clear h1 h2 ht
    go_enter Try.func33, Try.ntmps33
    go_wp2_with fail
    refine (implOK _ ss ca _ es cb _ hm hl (unhide HR) (unhide HE)).mono ?_
    rintro e w1 ⟨rfl, b1⟩
    rw [unhide HT]
    have HB1 := hide ((unhide HA).trans (b1.mono (unhide HA).size))
    clear b1
    go_wp2_with fail
    go_ret2
    exact ⟨_, rfl, unhide HB1, Ed.lstV_nil _ _ _ _ _⟩
  have h1 : edgA ss es frm = fromE (findT es) frm 8 := by unfold edgA; rw [if_pos ht, from_all (top_two ht)]
  have h2 : topC ss es = 0 := by unfold topC; rw [if_pos ht]
  rw [h1, h2]
  have HT := hide ht
  have HT2 := hide (top_two ht)
  have HWF := hide hwf
  clear h1 h2 ht hwf
  go_enter Try.func33, Try.ntmps33
  go_wp2_with fail
  refine (implOK _ ss ca _ es cb _ hm hl (unhide HR) (unhide HE)).mono ?_
  rintro e w1 ⟨rfl, b1⟩
  rw [unhide HT]
  have HB1 := hide ((unhide HA).trans (b1.mono (unhide HA).size))
  have HE1 := hide ((unhide HE).below b1)
  obtain ⟨z0, z1⟩ := (unhide HX).below b1
  clear b1
  go_wp2_with fail
  clear z0 z1
  refine (edgesByEnds _ es cb _ (unhide HT2) (unhide HE1)).mono ?_
  rintro e w2 ⟨bm, rfl, hb, om2, b2⟩
  have HB2 := hide ((unhide HB1).trans (b2.mono (unhide HB1).size))
  have HM2 := hide om2
  clear b2 om2
  go_wp2_with fail
  refine (edgesOf bm _ _ frm _ (unhide HWF) (unhide HM2)).mono ?_
  rintro e w3 ⟨v, rfl, b3, l3⟩
  have HB3 := hide ((unhide HB2).trans (b3.mono (unhide HB2).size))
  have HL3 := hide (l3.mono (lo' := w.heap.size) (unhide HB2).size (Nat.le_refl _))
  clear b3 l3
  go_wp2_with fail
  go_ret2
  exact ⟨_, rfl, unhide HB3, unhide HL3⟩
end Tp
end Go.Proofs.Ytmelbilepfnmjap
