/-
  The program's HearTc.
-/
import Derived.Test.YtmelbilepfnmjapTopL
namespace Go.Proofs.Ytmelbilepfnmjap
open Go.ChangeShapes Go.WideShapes Go.ChangeAt Go.RowKit
set_option linter.unusedVariables false
set_option linter.unusedSimpArgs false
set_option maxRecDepth 100000
attribute [local go_sem ↓] Go.wp_at_zero Go.wp_at_succ
namespace Tp
open W1 Tu St Tw Me
theorem so_ne {w : World} {b n : Nat} {f : Int → Int → Option R} (h : OM w b n f) {g o : Nat} {m : So.R} (ha : So.At w g o m) : g ≠ b := by
  intro e; subst e; have := om_none h o; rw [ha.1] at this; cases this
theorem so_but {w w' : World} {g o : Nat} {m : So.R} (h : So.At w g o m) (hb : w'.heap[g]? = w.heap[g]?) : So.At w' g o m := by
  obtain ⟨h0, h1, h2⟩ := h
  exact ⟨(World.cell?_of_block (a := ⟨g, o, none⟩) hb).trans h0, (World.cell?_of_block (a := ⟨g, o + 1, none⟩) hb).trans h1, (World.cell?_of_block (a := ⟨g, o + 2, none⟩) hb).trans h2⟩
theorem so_lt {w : World} {g o : Nat} {m : So.R} (h : So.At w g o m) : g < w.heap.size := World.block_lt_of_cell? _ _ h.1
theorem rmS_grown {w w' : World} {b n : Nat} {f : Int → Int → Option R} (ho : OM w b n f) {a : Option Addr} {ns : List So.R} (h : So.RM w a ns) (hg : w.grownBy w' (some b)) : So.RM w' a ns := by
  rcases h with h | ⟨g, off, rfl, hc⟩
  · exact .inl h
  · exact .inr ⟨g, off, rfl, fun i hi => so_but (hc i hi) (hg.block g (so_lt (hc i hi)) (by intro e; cases e; exact so_ne ho (hc i hi) rfl))⟩
theorem rmE_grown {w w' : World} {b n : Nat} {f : Int → Int → Option R} (ho : OM w b n f) {a : Option Addr} {ns : List Ed.R} (h : Ed.RM w a ns) (hg : w.grownBy w' (some b)) : Ed.RM w' a ns := by
  rcases h with h | ⟨g, off, rfl, hc⟩
  · exact .inl h
  · exact .inr ⟨g, off, rfl, fun i hi => ed_but (hc i hi) (hg.block g (ed_lt (hc i hi)) (by intro e; cases e; exact ed_ne ho (hc i hi) rfl))⟩
theorem sT2 {w : World} {B : Nat} {x y : Value} (hB : Bx2 w B x y) : Bx2 w B x y ∧ w.cell? ⟨B, 0, none⟩ = some x ∧ w.cell? ⟨B, 1, none⟩ = some y := ⟨hB, hB.1, hB.2⟩
set_option maxHeartbeats 8000000 in
theorem implHear (g off : Nat) (ss : List So.R) (ca h ofe : Nat) (es : List R) (cb : Nat) (frm now an valid : Int) (c : Option Addr) (ns : List Ed.R) (cn : Nat) (w : World) (hca : ss.length ≤ ca) (hm : ss.length ≤ 1048576) (hl : es.length ≤ 1048576) (hn : ns.length ≤ 1048576) (hr : So.RM w (some ⟨g, off, none⟩) ss) (hr' : RM w (some ⟨h, ofe, none⟩) es) (hr2 : Ed.RM w c ns) :
    Calls Try.prog 25 #[.agg #[.slice (some ⟨g, off, none⟩) ss.length ca, .slice (some ⟨h, ofe, none⟩) es.length cb], .int .i64 frm, .int .i64 now, .agg #[.int .i64 an, .int .i64 valid, .slice c ns.length cn]] w fun e w' => ∃ v, e = .returned (.tuple #[v, .int .i64 (hearC ss es frm now an valid ns)]) ∧ Below w.heap.size w w' ∧ TLst w' v (hearS ss es frm now an valid ns) (hearE ss es frm now an valid ns) w.heap.size w'.heap.size := by
  have HA0 : Hid (Below w.heap.size w (w.alloc (.cells #[.slice (some ⟨g, off, none⟩) ss.length ca, .slice (some ⟨h, ofe, none⟩) es.length cb] 42))) := hide ((Below.refl _ _).alloc (Nat.le_refl _) _)
  have HA1 : Hid (Below w.heap.size w ((w.alloc (.cells #[.slice (some ⟨g, off, none⟩) ss.length ca, .slice (some ⟨h, ofe, none⟩) es.length cb] 42)).alloc (.cells #[.int .i64 an, .int .i64 valid, .slice c ns.length cn] 54))) := hide ((unhide HA0).alloc (unhide HA0).size _)
  have HA : Hid (Below w.heap.size w (((w.alloc (.cells #[.slice (some ⟨g, off, none⟩) ss.length ca, .slice (some ⟨h, ofe, none⟩) es.length cb] 42)).alloc (.cells #[.int .i64 an, .int .i64 valid, .slice c ns.length cn] 54)).alloc (.cells #[.slice none 0 0, .slice none 0 0] 42))) := hide ((unhide HA1).alloc (unhide HA1).size _)
  have HX : Hid (Bx2 (((w.alloc (.cells #[.slice (some ⟨g, off, none⟩) ss.length ca, .slice (some ⟨h, ofe, none⟩) es.length cb] 42)).alloc (.cells #[.int .i64 an, .int .i64 valid, .slice c ns.length cn] 54)).alloc (.cells #[.slice none 0 0, .slice none 0 0] 42)) w.heap.size (.slice (some ⟨g, off, none⟩) ss.length ca) (.slice (some ⟨h, ofe, none⟩) es.length cb)) := hide (((bx2_new w _ _ _).below ((Below.refl _ _).alloc (Nat.le_refl _) _)).below ((Below.refl _ _).alloc (Nat.le_refl _) _))
  have HY : Hid (Bx3 (((w.alloc (.cells #[.slice (some ⟨g, off, none⟩) ss.length ca, .slice (some ⟨h, ofe, none⟩) es.length cb] 42)).alloc (.cells #[.int .i64 an, .int .i64 valid, .slice c ns.length cn] 54)).alloc (.cells #[.slice none 0 0, .slice none 0 0] 42)) (w.heap.size + 1) an valid (.slice c ns.length cn)) := hide (by have := (bx3_new (w.alloc (.cells #[.slice (some ⟨g, off, none⟩) ss.length ca, .slice (some ⟨h, ofe, none⟩) es.length cb] 42)) an valid (.slice c ns.length cn) 54).below ((Below.refl _ _).alloc (Nat.le_refl _) (.cells #[.slice none 0 0, .slice none 0 0] 42)); rw [show (w.alloc (.cells #[.slice (some ⟨g, off, none⟩) ss.length ca, .slice (some ⟨h, ofe, none⟩) es.length cb] 42)).heap.size = w.heap.size + 1 by simp] at this; exact this)
  have HZ : Hid (TV (((w.alloc (.cells #[.slice (some ⟨g, off, none⟩) ss.length ca, .slice (some ⟨h, ofe, none⟩) es.length cb] 42)).alloc (.cells #[.int .i64 an, .int .i64 valid, .slice c ns.length cn] 54)).alloc (.cells #[.slice none 0 0, .slice none 0 0] 42)) (w.heap.size + 2) (.slice none 0 0) (.slice none 0 0)) := hide (by have := tv_new ((w.alloc (.cells #[.slice (some ⟨g, off, none⟩) ss.length ca, .slice (some ⟨h, ofe, none⟩) es.length cb] 42)).alloc (.cells #[.int .i64 an, .int .i64 valid, .slice c ns.length cn] 54)) (.slice none 0 0) (.slice none 0 0); rw [show ((w.alloc (.cells #[.slice (some ⟨g, off, none⟩) ss.length ca, .slice (some ⟨h, ofe, none⟩) es.length cb] 42)).alloc (.cells #[.int .i64 an, .int .i64 valid, .slice c ns.length cn] 54)).heap.size = w.heap.size + 2 by simp] at this; exact this)
  have HR := hide (hr.below (unhide HA))
  have HE := hide (hr'.below (unhide HA))
  have HN := hide (hr2.below (unhide HA))
  clear hr hr' hr2 HA0 HA1
  have hz2 : w.heap.size ≤ w.heap.size + 2 := by omega
  obtain ⟨C, hC⟩ : ∃ C, hearC ss es frm now an valid ns = C := ⟨_, rfl⟩
  have HC := hide hC
  by_cases hc11 : C = 11
  · have h1 : hearS ss es frm now an valid ns = ss := by unfold hearS; rw [hC, if_neg (by omega), if_pos hc11]
    have h2 : hearE ss es frm now an valid ns = es := by unfold hearE; rw [hC, if_neg (by omega), if_pos hc11]
    rw [h1, h2, hC]
    have hok := (hearC_ok (.inr (hC.trans hc11))).1
    have h8 := src_len (top_src hok)
    have h62 := two_len (top_two hok)
    clear h1 h2 hC hok
    subst hc11
    go_enter Try.func25, Try.ntmps25
    go_wp2_with fail
    refine (hearTcCode _ ss ca _ es cb frm now an valid c ns cn _ hm hl hn (unhide HR) (unhide HE) (unhide HN)).mono ?_
    rintro e w1 ⟨rfl, b1⟩
    rw [unhide HC]
    have HB1 := hide ((unhide HA).trans (b1.mono (unhide HA).size))
    have HX1 := hide ((unhide HX).below b1)
    have HZ1 := hide ((unhide HZ).below b1)
    have HR1 := hide ((unhide HR).below b1)
    have HE1 := hide ((unhide HE).below b1)
    clear b1 HX HZ HR HE HN HY HA
    go_wp2_with fail
    refine wp_region_noPanic ?_
    refine wp_region_held_drew (S := fun w' => Bx2 w' w.heap.size (.slice (some ⟨g, off, none⟩) ss.length ca) (.slice (some ⟨h, ofe, none⟩) es.length cb) ∧ w'.cell? ⟨w.heap.size, 0, none⟩ = some (.slice (some ⟨g, off, none⟩) ss.length ca) ∧ w'.cell? ⟨w.heap.size, 1, none⟩ = some (.slice (some ⟨h, ofe, none⟩) es.length cb)) (by kernel_rfl) (sT2 (unhide HX1).drew) (fun hHeld => ?_)
    (refine Rg.tk (i := 0) (d := 20) (v := ?_) rfl rfl (by kernel_rfl) (by kernel_rfl) (by kernel_rfl) (fun _ _ _ h => h) (by rfl) ?_ (by assumption) ?_; rotate_left; (focus (intro w0 hSw; (try dsimp only at hSw); go_simp; (try with_reducible rfl))); (try simp only [Act.put, List.setIfInBounds_toArray, List.set_cons_zero, List.set_cons_succ]))
    (refine Rg.tk (i := 1) (d := 21) (v := ?_) rfl rfl (by kernel_rfl) (by kernel_rfl) (by kernel_rfl) (fun _ _ _ h => h) (by rfl) ?_ (by assumption) ?_; rotate_left; (focus (intro w0 hSw; (try dsimp only at hSw); go_simp; (try with_reducible rfl))); (try simp only [Act.put, List.setIfInBounds_toArray, List.set_cons_zero, List.set_cons_succ]))
    (refine Rg.tk (i := 3) (d := 23) (v := ?_) rfl rfl (by kernel_rfl) (by kernel_rfl) (by kernel_rfl) (fun _ _ _ h => h) (by rfl) ?_ (by assumption) ?_; rotate_left; (focus (intro w0 hSw; (try dsimp only at hSw); go_simp; (try with_reducible rfl))); (try simp only [Act.put, List.setIfInBounds_toArray, List.set_cons_zero, List.set_cons_succ]))
    (refine Rg.tk (i := 4) (d := 24) (v := ?_) rfl rfl (by kernel_rfl) (by kernel_rfl) (by kernel_rfl) (fun _ _ _ h => h) (by rfl) ?_ (by assumption) ?_; rotate_left; (focus (intro w0 hSw; (try dsimp only at hSw); go_simp; (try with_reducible rfl))); (try simp only [Act.put, List.setIfInBounds_toArray, List.set_cons_zero, List.set_cons_succ]))
    (refine Rg.tk (i := 7) (d := 27) (v := ?_) rfl rfl (by kernel_rfl) (by kernel_rfl) (by kernel_rfl) (fun _ _ _ h => h) (by rfl) ?_ (by assumption) ?_; rotate_left; (focus (intro w0 hSw; (try dsimp only at hSw); go_simp; (try with_reducible rfl))); (try simp only [Act.put, List.setIfInBounds_toArray, List.set_cons_zero, List.set_cons_succ]))
    (refine wpAnyH_ready (rs := [2]) (by kernel_rfl) (by simp) ?_; refine AllReadyH.cons (o := _) rfl (fun K hK => ?_) AllReadyH.nil; go_simp)
    refine (Tp.copied g off ss ca _ _ rfl (by omega) (unhide HR1).drew).mono ?_
    rintro e w2 ⟨vs, rfl, b2_, l2⟩
    have b2 : Below w1.heap.size w1 w2 := (Below.refl _ _).drew.trans b2_
    have HB2 := hide ((unhide HB1).trans (b2.mono (unhide HB1).size))
    have HX2 := hide ((unhide HX1).below b2)
    have HZ2 := hide ((unhide HZ1).below b2)
    have HE2 := hide ((unhide HE1).below b2)
    have hlo := (unhide HB1).size
    have hzl := (unhide HZ1).lt
    have HL2 := hide (show So.LstV w2 vs ss w1.heap.size w2.heap.size from l2)
    have hs2 : w1.heap.size ≤ w2.heap.size := b2.size
    clear b2 b2_ l2 hHeld
    refine hK.out _ _ (sT2 (unhide HX2)) (fun hHeld => ?_)
    clear hK K
    (try simp only [Act.put, List.setIfInBounds_toArray, List.set_cons_zero, List.set_cons_succ])
    (refine wpAnyH_ready (rs := [5]) (by kernel_rfl) (by simp) ?_; refine AllReadyH.cons (o := _) rfl (fun K hK => ?_) AllReadyH.nil; go_simp)
    refine (St.copied h ofe es cb _ _ rfl (by omega) (unhide HE2)).mono ?_
    rintro e w3 ⟨ve, rfl, b3, l3⟩
    have HB3 := hide ((unhide HB2).trans (b3.mono (unhide HB2).size))
    have HX3 := hide ((unhide HX2).below b3)
    have HZ3 := hide ((unhide HZ2).below b3)
    have HL3 := hide ((unhide HL2).below b3)
    have HM3 := hide l3
    have hs3 : w2.heap.size ≤ w3.heap.size := b3.size
    clear b3 l3 hHeld
    refine hK.out _ _ (sT2 (unhide HX3)) (fun hHeld => ?_)
    clear hK K
    (try simp only [Act.put, List.setIfInBounds_toArray, List.set_cons_zero, List.set_cons_succ])
    obtain ⟨sa, cs, evs, _⟩ := unhide HL3
    obtain ⟨ae, ce, eve, _⟩ := unhide HM3
    have HL4 := hide (show So.LstV w3 (.slice sa ss.length cs) ss w1.heap.size w2.heap.size by rw [← evs]; exact unhide HL3)
    have HM4 := hide (show LstV w3 (.slice ae es.length ce) es w2.heap.size w3.heap.size by rw [← eve]; exact unhide HM3)
    subst evs eve
    clear HL3 HM3 HL2
    (refine Rg.tk (i := 6) (d := 26) (v := ?_) rfl rfl (by kernel_rfl) (by kernel_rfl) (by kernel_rfl) (fun _ _ _ h => h) (by rfl) ?_ (by assumption) ?_; rotate_left; (focus (intro w0 hSw; (try dsimp only at hSw); go_simp; (try with_reducible rfl))); (try simp only [Act.put, List.setIfInBounds_toArray, List.set_cons_zero, List.set_cons_succ]))
    obtain ⟨x0, x1⟩ := (unhide HZ3).bx
    have f0 := (unhide HZ3).free 0
    have f1 := (unhide HZ3).free 1
    (refine wpAnyH_ready (rs := [8]) (by kernel_rfl) (by simp) ?_; refine AllReadyH.cons (o := _) rfl (fun K hK => ?_) AllReadyH.nil; go_simp)
    have HB5 := hide (((unhide HB3).setCell (p := ⟨w.heap.size + 2, 0, none⟩) hz2 (.slice sa ss.length cs)).setCell (p := ⟨w.heap.size + 2, 1, none⟩) hz2 (.slice ae es.length ce))
    have HX5 := hide (((unhide HX3).but (Below.heap_setCell w3 ⟨w.heap.size + 2, 0, none⟩ (.slice sa ss.length cs) _ (by show w.heap.size ≠ w.heap.size + 2; omega))).but (Below.heap_setCell (w3.setCell ⟨w.heap.size + 2, 0, none⟩ (.slice sa ss.length cs)) ⟨w.heap.size + 2, 1, none⟩ (.slice ae es.length ce) _ (by show w.heap.size ≠ w.heap.size + 2; omega)))
    have HZ5 := hide ((unhide HZ3).put (.slice sa ss.length cs) (.slice ae es.length ce))
    have HL5 := hide (lstS_set (b := w.heap.size + 2) (i := 1) (u := .slice ae es.length ce) (lstS_set (b := w.heap.size + 2) (i := 0) (u := .slice sa ss.length cs) (unhide HL4) (.inl (by omega))) (.inl (by omega)))
    have HM5 := hide (lstT_set (b := w.heap.size + 2) (i := 1) (u := .slice ae es.length ce) (lstT_set (b := w.heap.size + 2) (i := 0) (u := .slice sa ss.length cs) (unhide HM4) (.inl (by omega))) (.inl (by omega)))
    have hs5 : w3.heap.size ≤ ((w3.setCell ⟨w.heap.size + 2, 0, none⟩ (.slice sa ss.length cs)).setCell ⟨w.heap.size + 2, 1, none⟩ (.slice ae es.length ce)).heap.size := by simp [World.setCell]
    clear hHeld x0 x1 f0 f1
    generalize hW5 : (w3.setCell ⟨w.heap.size + 2, 0, none⟩ (.slice sa ss.length cs)).setCell ⟨w.heap.size + 2, 1, none⟩ (.slice ae es.length ce) = w5 at *
    clear hW5
    refine hK.out _ _ (sT2 (unhide HX5)) (fun hHeld => ?_)
    clear hK K
    (try simp only [Act.put, List.setIfInBounds_toArray, List.set_cons_zero, List.set_cons_succ])
    (refine Rg.tk (i := 9) (d := 9) (v := ?_) rfl rfl (by kernel_rfl) (by kernel_rfl) (by kernel_rfl) (fun _ _ _ h => h) (by rfl) ?_ (by assumption) ?_; rotate_left; (focus (intro w0 hSw; (try dsimp only at hSw); go_simp; (try with_reducible rfl))); (try simp only [Act.put, List.setIfInBounds_toArray, List.set_cons_zero, List.set_cons_succ]))
    refine wpAnyH_done (by kernel_rfl) (NoPanic.normal ?_) _
    clear hHeld
    obtain ⟨x0, x1⟩ := (unhide HZ5).bx
    go_wp2_with fail
    refine bodyPost_ret (v := .tuple #[.agg #[.slice sa ss.length cs, .slice ae es.length ce], .int .i64 11]) (by simp [results, Try.results25, go_sem, x0, x1]) rfl ⟨_, rfl, unhide HB5, _, _, w2.heap.size, rfl, (unhide HL5).mono (by omega) (Nat.le_refl _), (unhide HM5).mono (Nat.le_refl _) hs5, by omega, by omega⟩
  by_cases hc0 : C = 0
  rotate_left
  · have h1 : hearS ss es frm now an valid ns = [] := by unfold hearS; rw [hC, if_neg hc0, if_neg hc11]
    have h2 : hearE ss es frm now an valid ns = [] := by unfold hearE; rw [hC, if_neg hc0, if_neg hc11]
    rw [h1, h2, hC]
    clear h1 h2 hC
    have q0 : (C == 11) = false := by simpa using hc11
    have q1 : (C != 0) = true := by simpa using hc0
    go_enter Try.func25, Try.ntmps25
    go_wp2_with fail
    refine (hearTcCode _ ss ca _ es cb frm now an valid c ns cn _ hm hl hn (unhide HR) (unhide HE) (unhide HN)).mono ?_
    rintro e w1 ⟨rfl, b1⟩
    rw [unhide HC]
    have HB1 := hide ((unhide HA).trans (b1.mono (unhide HA).size))
    have HZ1 := hide ((unhide HZ).below b1)
    obtain ⟨x0, x1⟩ := (unhide HZ1).bx
    have f0 := (unhide HZ1).free 0
    have f1 := (unhide HZ1).free 1
    have hs1 := (unhide HB1).size
    clear b1
    go_wp2_with fail
    refine bodyPost_ret (v := .tuple #[.agg #[.slice none 0 0, .slice none 0 0], .int .i64 C]) (by simp [results, Try.results25, go_sem, x0, x1]) rfl ⟨_, rfl, ?_, tlst_nil _ _ _ _ _ (by simp [World.setCell]; omega)⟩
    have hB := unhide HB1
    (repeat (first | (with_reducible exact hB) | (with_reducible refine Below.drew ?_) | (with_reducible refine Below.setCell ?_ ?_ _; rotate_left; (first | exact Nat.le_refl _ | (simp; done) | (dsimp only; omega))) | (with_reducible refine Below.alloc ?_ ?_ _; rotate_left; (first | exact Nat.le_refl _ | omega | (simp [World.setCell]; omega)))))
  subst hc0
  have hok := hearC_ok (.inl hC)
  obtain ⟨ktop, kfrm, ktc, know⟩ := hok
  have kval := Av.tc_valid ktc
  have h1 : hearS ss es frm now an valid ns = withS ss ⟨frm, an, now + valid⟩ := by unfold hearS; rw [hC, if_pos rfl]
  have h2 : hearE ss es frm now an valid ns = ordT (findT (learnE (es.filter (keepF frm)) frm (now + valid) ns ns.length)) 64 := by
    unfold hearE; rw [hC, if_pos rfl]; exact (ord_all (nowE_two (top_two ktop) kfrm (by omega) ktc)).symm
  rw [h1, h2, hC]
  have h8 := src_len (top_src ktop)
  have h62 := two_len (top_two ktop)
  have hn8 := Av.tc_len ktc
  have HS := hide (top_src ktop)
  have HT := hide (top_two ktop)
  have HTC := hide ktc
  have HT0 := hide (two_filter (top_two ktop) (keepF frm))
  have HF0 := hide (forg_find (top_two ktop) frm)
  clear h1 h2 hC ktop ktc
  obtain ⟨til, htil⟩ : ∃ til, now + valid = til := ⟨_, rfl⟩
  have hwr : IntKind.i64.wrap (now + valid) = til := by rw [IntKind.wrap_i64]; omega
  have htb : 0 ≤ til ∧ til ≤ 1073741824 := by omega
  rw [htil]
  clear htil
  obtain ⟨E, hE⟩ : ∃ E, ordT (findT (learnE (es.filter (keepF frm)) frm til ns ns.length)) 64 = E := ⟨_, rfl⟩
  obtain ⟨S, hS⟩ : ∃ S, withS ss ⟨frm, an, til⟩ = S := ⟨_, rfl⟩
  rw [hE, hS]
  have HEE := hide hE
  have HSS := hide hS
  clear hE hS
  go_enter Try.func25, Try.ntmps25
  go_wp2_with fail
  refine (hearTcCode _ ss ca _ es cb frm now an valid c ns cn _ hm hl hn (unhide HR) (unhide HE) (unhide HN)).mono ?_
  rintro e w1 ⟨rfl, b1⟩
  rw [unhide HC]
  have HB1 := hide ((unhide HA).trans (b1.mono (unhide HA).size))
  have HX1 := hide ((unhide HX).below b1)
  have HY1 := hide ((unhide HY).below b1)
  have HZ1 := hide ((unhide HZ).below b1)
  have HR1 := hide ((unhide HR).below b1)
  have HE1 := hide ((unhide HE).below b1)
  have HN1 := hide ((unhide HN).below b1)
  clear b1 HX HZ HR HE HN HY HA
  obtain ⟨z0, z1⟩ := unhide HX1
  obtain ⟨y0, y1, y2⟩ := unhide HY1
  go_wp2_with fail
  refine (edgesByEnds _ es cb _ (unhide HT) (unhide HE1)).mono ?_
  rintro e w2 ⟨b, rfl, hb, om2, b2⟩
  clear z0 z1 y0 y1 y2
  have HB2 := hide ((unhide HB1).trans (b2.mono (unhide HB1).size))
  have HX2 := hide ((unhide HX1).below b2)
  have HY2 := hide ((unhide HY1).below b2)
  have HZ2 := hide ((unhide HZ1).below b2)
  have HR2 := hide ((unhide HR1).below b2)
  have HN2 := hide ((unhide HN1).below b2)
  have hxb : w.heap.size + 2 < b := Nat.lt_of_lt_of_le (unhide HZ1).lt hb
  have HM2 := hide om2
  clear b2 om2 HX1 HZ1 HR1 HE1 HN1 HY1
  go_wp2_with fail
  refine (forgetFrom b es.length (findT es) frm _ kfrm.1 kfrm.2 (unhide HM2)).mono ?_
  rintro e w3 ⟨rfl, om3, g3⟩
  have HM3 : Hid (OM w3 b es.length (findT (es.filter (keepF frm)))) := hide ((unhide HF0) ▸ om3)
  have HB3 := hide (Tw.om_grown (unhide HB2) (Nat.le_refl _) (by omega) g3)
  have HX3 := hide ((unhide HX2).but (g3.block _ (unhide HX2).lt (by intro e; cases e; omega)))
  have HY3 := hide ((unhide HY2).but (g3.block _ (unhide HY2).lt (by intro e; cases e; omega)))
  have HZ3 := hide ((unhide HZ2).grown g3 (by intro e; cases e; omega))
  have HR3 := hide (rmS_grown (unhide HM2) (unhide HR2) g3)
  have HN3 := hide (rmE_grown (unhide HM2) (unhide HN2) g3)
  clear om3 g3 HM2 HX2 HY2 HZ2 HR2 HN2
  obtain ⟨y0, y1, y2⟩ := unhide HY3
  go_wp2_with fail
  refine (learnFrom b es.length _ frm til an valid c ns cn _ (unhide HT0) kfrm htb (unhide HTC) (by omega) (unhide HM3) (unhide HN3)).mono ?_
  rintro e w4 ⟨rfl, om4, g4⟩
  clear y0 y1 y2
  have HM4 := hide om4
  have HB4 := hide (Tw.om_grown (unhide HB3) (Nat.le_refl _) (by omega) g4)
  have HX4 := hide ((unhide HX3).but (g4.block _ (unhide HX3).lt (by intro e; cases e; omega)))
  have HY4 := hide ((unhide HY3).but (g4.block _ (unhide HY3).lt (by intro e; cases e; omega)))
  have HZ4 := hide ((unhide HZ3).grown g4 (by intro e; cases e; omega))
  have HR4 := hide (rmS_grown (unhide HM3) (unhide HR3) g4)
  clear om4 g4 HM3 HX3 HY3 HZ3 HR3 HN3
  obtain ⟨z0, z1⟩ := unhide HX4
  obtain ⟨y0, y1, y2⟩ := unhide HY4
  go_wp2_with fail
  refine (sourcesWith g off ss ca frm an til _ hca (unhide HS) (unhide HR4)).mono ?_
  rintro e w5 ⟨vs, rfl, b5, l5⟩
  rw [unhide HSS] at l5
  clear z0 z1 y0 y1 y2
  have HB5 := hide ((unhide HB4).trans (b5.mono (unhide HB4).size))
  have HM5 := hide ((unhide HM4).below b5)
  have HZ5 := hide ((unhide HZ4).below b5)
  have HL5 := hide l5
  have hlo := (unhide HZ4).lt
  have hs5 : w4.heap.size ≤ w5.heap.size := b5.size
  have hs4 := (unhide HB4).size
  clear b5 l5 HM4 HX4 HY4 HZ4 HR4
  go_wp2_with fail
  refine (edgesInOrder b (es.length + ns.length) _ _ (by omega) (unhide HM5)).mono ?_
  rintro e w6 ⟨ve, rfl, b6, l6⟩
  rw [unhide HEE] at l6
  have HB6 := hide ((unhide HB5).trans (b6.mono (unhide HB5).size))
  have HZ6 := hide ((unhide HZ5).below b6)
  have HL6 := hide ((unhide HL5).below b6)
  have HE6 := hide l6
  have hs6 : w5.heap.size ≤ w6.heap.size := b6.size
  clear b6 l6 HM5 HZ5 HL5
  obtain ⟨sa, cs, evs, _⟩ := unhide HL6
  obtain ⟨ae, ce, eve, _⟩ := unhide HE6
  have HL7 := hide (show So.LstV w6 (.slice sa S.length cs) S w4.heap.size w5.heap.size by rw [← evs]; exact unhide HL6)
  have HE7 := hide (show LstV w6 (.slice ae E.length ce) E w5.heap.size w6.heap.size by rw [← eve]; exact unhide HE6)
  subst evs eve
  clear HL6 HE6
  have HB8 := hide (((unhide HB6).setCell (p := ⟨w.heap.size + 2, 0, none⟩) hz2 (.slice sa S.length cs)).setCell (p := ⟨w.heap.size + 2, 1, none⟩) hz2 (.slice ae E.length ce))
  have HL8 := hide (lstS_set (b := w.heap.size + 2) (i := 1) (u := .slice ae E.length ce) (lstS_set (b := w.heap.size + 2) (i := 0) (u := .slice sa S.length cs) (unhide HL7) (.inl (by omega))) (.inl (by omega)))
  have HE8 := hide (lstT_set (b := w.heap.size + 2) (i := 1) (u := .slice ae E.length ce) (lstT_set (b := w.heap.size + 2) (i := 0) (u := .slice sa S.length cs) (unhide HE7) (.inl (by omega))) (.inl (by omega)))
  have hs8 : w6.heap.size ≤ ((w6.setCell ⟨w.heap.size + 2, 0, none⟩ (.slice sa S.length cs)).setCell ⟨w.heap.size + 2, 1, none⟩ (.slice ae E.length ce)).heap.size := by simp [World.setCell]
  obtain ⟨x0, x1⟩ := (unhide HZ6).bx
  have f0 := (unhide HZ6).free 0
  have f1 := (unhide HZ6).free 1
  go_wp2_with fail
  refine bodyPost_ret (v := .tuple #[.agg #[.slice sa S.length cs, .slice ae E.length ce], .int .i64 0]) (by simp [results, Try.results25, go_sem, x0, x1]) rfl ⟨_, rfl, unhide HB8, _, _, w5.heap.size, rfl, (unhide HL8).mono (by omega) (Nat.le_refl _), (unhide HE8).mono (Nat.le_refl _) hs8, by omega, Nat.le_trans hs6 hs8⟩
end Tp
end Go.Proofs.Ytmelbilepfnmjap
