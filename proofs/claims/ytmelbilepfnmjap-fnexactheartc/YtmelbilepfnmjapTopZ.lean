/-
  TopologyExpire, the model's and the program's.
-/
import Derived.Test.YtmelbilepfnmjapTopY
import Derived.Test.YtmelbilepfnmjapTopL
namespace Go.Proofs.Ytmelbilepfnmjap
open Go.ChangeShapes Go.WideShapes Go.ChangeAt Go.RowKit
set_option linter.unusedVariables false
set_option linter.unusedSimpArgs false
set_option maxRecDepth 100000
attribute [local go_sem ↓] Go.wp_at_zero Go.wp_at_succ
namespace Tp
open W1 Tu St Tw
theorem OwT.tl {w : World} {v : Value} {S : List So.R} {E : List R} {lo hi : Nat} (h : OwT w v S E lo hi) : TLst w v S E lo hi := by
  obtain ⟨g, c, h, d, mid, rfl, h1, h2, h3, h4⟩ := h
  exact ⟨_, _, mid, rfl, ⟨_, _, rfl, h2⟩, ⟨_, _, rfl, h3⟩, h4⟩
theorem OwT.set {w : World} {v : Value} {S : List So.R} {E : List R} {lo hi b i : Nat} {u : Value} (h : OwT w v S E lo hi) (hb : b < lo) : OwT (w.setCell ⟨b, i, none⟩ u) v S E lo hi := by
  obtain ⟨g, c, h, d, mid, rfl, h1, h2, h3, h4⟩ := h
  exact ⟨g, c, h, d, mid, rfl, h1, lsS_set h2 (.inl hb), lsT_set h3 (.inl (by omega)), h4⟩
set_option maxHeartbeats 4000000 in
theorem specExpire (g0 o0 : Nat) (ss : List So.R) (ca h0 p0 : Nat) (es : List R) (cb : Nat) (now : Int) (w : World) (hca : ss.length ≤ ca) (hm : ss.length ≤ 1048576) (hl : es.length ≤ 1048576) (hr : So.RM w (some ⟨g0, o0, none⟩) ss) (hr' : RM w (some ⟨h0, p0, none⟩) es) :
    Calls Try.prog 30 #[.agg #[.slice (some ⟨g0, o0, none⟩) ss.length ca, .slice (some ⟨h0, p0, none⟩) es.length cb], .int .i64 now] w fun e w' => ∃ v, e = .returned (.tuple #[v, .int .i64 (topC ss es)]) ∧ Below w.heap.size w w' ∧ TLst w' v (expS ss es now) (expE ss es now) w.heap.size w'.heap.size := by
  have HA : Hid (Below w.heap.size w ((w.alloc (.cells #[.slice (some ⟨g0, o0, none⟩) ss.length ca, .slice (some ⟨h0, p0, none⟩) es.length cb] 42)).alloc (.cells #[.slice none 0 0, .slice none 0 0] 42))) := hide (((Below.refl _ _).alloc (Nat.le_refl _) _).alloc ((Below.refl w.heap.size w).alloc (Nat.le_refl _) _).size _)
  have hs2 : (((w.alloc (.cells #[.slice (some ⟨g0, o0, none⟩) ss.length ca, .slice (some ⟨h0, p0, none⟩) es.length cb] 42)).alloc (.cells #[.slice none 0 0, .slice none 0 0] 42))).heap.size = w.heap.size + 2 := by simp
  have HX : Hid (Bx2 ((w.alloc (.cells #[.slice (some ⟨g0, o0, none⟩) ss.length ca, .slice (some ⟨h0, p0, none⟩) es.length cb] 42)).alloc (.cells #[.slice none 0 0, .slice none 0 0] 42)) w.heap.size (.slice (some ⟨g0, o0, none⟩) ss.length ca) (.slice (some ⟨h0, p0, none⟩) es.length cb)) := hide ((bx2_new w _ _ _).below ((Below.refl _ _).alloc (Nat.le_refl _) _))
  have HZ : Hid (TV ((w.alloc (.cells #[.slice (some ⟨g0, o0, none⟩) ss.length ca, .slice (some ⟨h0, p0, none⟩) es.length cb] 42)).alloc (.cells #[.slice none 0 0, .slice none 0 0] 42)) (w.heap.size + 1) (.slice none 0 0) (.slice none 0 0)) := hide (by have := tv_new (w.alloc (.cells #[.slice (some ⟨g0, o0, none⟩) ss.length ca, .slice (some ⟨h0, p0, none⟩) es.length cb] 42)) (.slice none 0 0) (.slice none 0 0); rw [show (w.alloc (.cells #[.slice (some ⟨g0, o0, none⟩) ss.length ca, .slice (some ⟨h0, p0, none⟩) es.length cb] 42)).heap.size = w.heap.size + 1 by simp] at this; exact this)
  have HR := hide (hr.below (unhide HA))
  have HE := hide (hr'.below (unhide HA))
  clear hr hr'
  cases ht : topB ss es
  · have h1 : expS ss es now = [] := by unfold expS; rw [if_neg (by rw [ht]; simp)]
    have h2 : expE ss es now = [] := by unfold expE; rw [if_neg (by rw [ht]; simp)]
    have h3 : topC ss es = 1 := by unfold topC; rw [if_neg (by rw [ht]; simp)]
    rw [h1, h2, h3]
    have HT := hide ht
    clear h1 h2 h3 ht
    go_enter Try.func30, Try.ntmps30
    go_wp2_with fail
    refine (specOK _ ss ca _ es cb _ hm hl (unhide HR) (unhide HE)).mono ?_
    rintro e w1 ⟨rfl, b1⟩
    rw [unhide HT]
    have HB1 := hide ((unhide HA).trans (b1.mono (unhide HA).size))
    have HZ1 := hide ((unhide HZ).below b1)
    obtain ⟨x0, x1⟩ := (unhide HZ1).bx
    have f0 := (unhide HZ1).free 0
    have f1 := (unhide HZ1).free 1
    have hs1 := (unhide HB1).size
    clear b1
    go_wp2_with fail
    refine bodyPost_ret (v := .tuple #[.agg #[.slice none 0 0, .slice none 0 0], .int .i64 1]) (by simp [results, Try.results30, go_sem, x0, x1]) rfl ⟨_, rfl, ?_, tlst_nil _ _ _ _ _ (by simp [World.setCell]; omega)⟩
    have hB := unhide HB1
    (repeat (first | (with_reducible exact hB) | (with_reducible refine Below.drew ?_) | (with_reducible refine Below.setCell ?_ ?_ _; rotate_left; (first | exact Nat.le_refl _ | (simp; done) | (dsimp only; omega))) | (with_reducible refine Below.alloc ?_ ?_ _; rotate_left; (first | exact Nat.le_refl _ | omega | (simp [World.setCell]; omega)))))
  have h1 : expS ss es now = gonS ss now ss.length := by unfold expS; rw [if_pos ht, (gon_all ht now).1]
  have h2 : expE ss es now = gonE ss es now ss.length := by unfold expE; rw [if_pos ht, (gon_all ht now).2]
  have h3 : topC ss es = 0 := by unfold topC; rw [if_pos ht]
  rw [h1, h2, h3]
  have h8 := src_len (top_src ht)
  have h62 := two_len (top_two ht)
  have hgs : (gonS ss now ss.length).length ≤ ss.length := List.length_filter_le _ _
  have hge : (gonE ss es now ss.length).length ≤ es.length := List.length_filter_le _ _
  have HT := hide ht
  have HT2 := hide (top_two ht)
  clear h1 h2 h3 ht
  obtain ⟨S, hS⟩ : ∃ S, gonS ss now ss.length = S := ⟨_, rfl⟩
  obtain ⟨E, hE⟩ : ∃ E, gonE ss es now ss.length = E := ⟨_, rfl⟩
  have HSS := hide hS
  have HEE := hide hE
  rw [hS] at hgs ⊢
  rw [hE] at hge ⊢
  clear hS hE
  go_enter Try.func30, Try.ntmps30
  go_wp2_with fail
  refine (specOK _ ss ca _ es cb _ hm hl (unhide HR) (unhide HE)).mono ?_
  rintro e w1 ⟨rfl, b1⟩
  rw [unhide HT]
  have HB1 := hide ((unhide HA).trans (b1.mono (unhide HA).size))
  have HZ1 := hide ((unhide HZ).below b1)
  have HR1 := hide ((unhide HR).below b1)
  have HE1 := hide ((unhide HE).below b1)
  obtain ⟨z0, z1⟩ := (unhide HX).below b1
  have hs1 := b1.size
  clear b1
  go_wp2_with fail
  clear z0 z1
  refine (l09Expire g0 o0 ss _ ca h0 p0 es _ cb now _ rfl rfl hca (by omega) (unhide HT2) (unhide HR1) (unhide HE1)).mono ?_
  rintro e w2 ⟨v2, rfl, b2, rd2⟩
  rw [unhide HSS, unhide HEE] at rd2
  obtain ⟨g, o, c, h, p, d, rfl, q1, q2, q3⟩ := rd2
  have HB2 := hide ((unhide HB1).trans (b2.mono (unhide HB1).size))
  have HZ2 := hide ((unhide HZ1).below b2)
  have HR2 := hide q2
  have HE2 := hide q3
  have hs2' := b2.size
  clear b2 q1 q2 q3
  go_wp2_with fail
  refine (l09Own g o S c h p E d _ (by omega) (by omega) (unhide HR2) (unhide HE2)).mono ?_
  rintro e w3 ⟨v3, rfl, b3, ow3⟩
  have HB3 := hide ((unhide HB2).trans (b3.mono (unhide HB2).size))
  have HZ3 := hide ((unhide HZ2).below b3)
  have hs3 := b3.size
  obtain ⟨ga, cc, gb, dd, mid, rfl, o1, o2, o3, o4⟩ := ow3
  have HOW : Hid (OwT w3 (.agg #[.slice (some ⟨ga, 0, none⟩) S.length cc, .slice (some ⟨gb, 0, none⟩) E.length dd]) S E w2.heap.size w3.heap.size) := hide ⟨ga, cc, gb, dd, mid, rfl, o1, o2, o3, o4⟩
  clear b3 o1 o2 o3 o4
  obtain ⟨x0, x1⟩ := (unhide HZ3).bx
  have f0 := (unhide HZ3).free 0
  have f1 := (unhide HZ3).free 1
  have hlt := (unhide HZ1).lt
  have HOF := hide (((unhide HOW).set (b := w.heap.size + 1) (i := 0) (u := .slice (some ⟨ga, 0, none⟩) S.length cc) (by omega)).set (b := w.heap.size + 1) (i := 1) (u := .slice (some ⟨gb, 0, none⟩) E.length dd) (by omega))
  go_wp2_with fail
  refine bodyPost_ret (v := .tuple #[.agg #[.slice (some ⟨ga, 0, none⟩) S.length cc, .slice (some ⟨gb, 0, none⟩) E.length dd], .int .i64 0]) (by simp [results, Try.results30, go_sem, x0, x1]) rfl ⟨_, rfl, ?_, ((unhide HOF).mono (by omega) (by simp [World.setCell])).tl⟩
  have hB := unhide HB3
  (repeat (first | (with_reducible exact hB) | (with_reducible refine Below.drew ?_) | (with_reducible refine Below.setCell ?_ ?_ _; rotate_left; (first | exact Nat.le_refl _ | (simp; done) | (dsimp only; omega))) | (with_reducible refine Below.alloc ?_ ?_ _; rotate_left; (first | exact Nat.le_refl _ | omega | (simp [World.setCell]; omega)))))
theorem liveS_up {ss : List So.R} (h : UpS ss) (now : Int) : UpS (ss.filter (liveS now)) := up_filter h _
theorem sLE {w : World} {b B : Nat} {key til val : Int} {x y : Value} (h : St.Bx w b ⟨key, til, val⟩) (hB : Bx2 w B x y) : (St.Bx w b ⟨key, til, val⟩ ∧ Bx2 w B x y) ∧ w.cell? ⟨b, 0, none⟩ = some (.int .i64 key) ∧ w.cell? ⟨B, 0, none⟩ = some x := ⟨⟨h, hB⟩, h.1, hB.1⟩
set_option maxHeartbeats 16000000 in
theorem implExpire (a : Option Addr) (ss : List So.R) (ca : Nat) (b : Option Addr) (es : List R) (cb : Nat) (now : Int) (w : World) (hm : ss.length ≤ 1048576) (hl : es.length ≤ 1048576) (hr : So.RM w a ss) (hr' : RM w b es) :
    Calls Try.prog 31 #[.agg #[.slice a ss.length ca, .slice b es.length cb], .int .i64 now] w fun e w' => ∃ v, e = .returned (.tuple #[v, .int .i64 (topC ss es)]) ∧ Below w.heap.size w w' ∧ TLst w' v (expS ss es now) (expE ss es now) w.heap.size w'.heap.size := by
  have HA : Hid (Below w.heap.size w ((w.alloc (.cells #[.slice a ss.length ca, .slice b es.length cb] 42)).alloc (.cells #[.slice none 0 0, .slice none 0 0] 42))) := hide (((Below.refl _ _).alloc (Nat.le_refl _) _).alloc ((Below.refl w.heap.size w).alloc (Nat.le_refl _) _).size _)
  have HX : Hid (Bx2 ((w.alloc (.cells #[.slice a ss.length ca, .slice b es.length cb] 42)).alloc (.cells #[.slice none 0 0, .slice none 0 0] 42)) w.heap.size (.slice a ss.length ca) (.slice b es.length cb)) := hide ((bx2_new w _ _ _).below ((Below.refl _ _).alloc (Nat.le_refl _) _))
  have HZ : Hid (TV ((w.alloc (.cells #[.slice a ss.length ca, .slice b es.length cb] 42)).alloc (.cells #[.slice none 0 0, .slice none 0 0] 42)) (w.heap.size + 1) (.slice none 0 0) (.slice none 0 0)) := hide (by have := tv_new (w.alloc (.cells #[.slice a ss.length ca, .slice b es.length cb] 42)) (.slice none 0 0) (.slice none 0 0); rw [show (w.alloc (.cells #[.slice a ss.length ca, .slice b es.length cb] 42)).heap.size = w.heap.size + 1 by simp] at this; exact this)
  have HR := hide (hr.below (unhide HA))
  have HE := hide (hr'.below (unhide HA))
  clear hr hr'
  cases ht : topB ss es
  · have h1 : expS ss es now = [] := by unfold expS; rw [if_neg (by rw [ht]; simp)]
    have h2 : expE ss es now = [] := by unfold expE; rw [if_neg (by rw [ht]; simp)]
    have h3 : topC ss es = 1 := by unfold topC; rw [if_neg (by rw [ht]; simp)]
    rw [h1, h2, h3]
    have HT := hide ht
    clear h1 h2 h3 ht
    go_enter Try.func31, Try.ntmps31
    go_wp2_with fail
    refine (implOK _ ss ca _ es cb _ hm hl (unhide HR) (unhide HE)).mono ?_
    rintro e w1 ⟨rfl, b1⟩
    rw [unhide HT]
    have HB1 := hide ((unhide HA).trans (b1.mono (unhide HA).size))
    have HZ1 := hide ((unhide HZ).below b1)
    obtain ⟨x0, x1⟩ := (unhide HZ1).bx
    have f0 := (unhide HZ1).free 0
    have f1 := (unhide HZ1).free 1
    have hs1 := (unhide HB1).size
    clear b1
    go_wp2_with fail
    refine bodyPost_ret (v := .tuple #[.agg #[.slice none 0 0, .slice none 0 0], .int .i64 1]) (by simp [results, Try.results31, go_sem, x0, x1]) rfl ⟨_, rfl, ?_, tlst_nil _ _ _ _ _ (by simp [World.setCell]; omega)⟩
    have hB := unhide HB1
    (repeat (first | (with_reducible exact hB) | (with_reducible refine Below.drew ?_) | (with_reducible refine Below.setCell ?_ ?_ _; rotate_left; (first | exact Nat.le_refl _ | (simp; done) | (dsimp only; omega))) | (with_reducible refine Below.alloc ?_ ?_ _; rotate_left; (first | exact Nat.le_refl _ | omega | (simp [World.setCell]; omega)))))
  have h1 : expS ss es now = ss.filter (liveS now) := by unfold expS srcX; rw [if_pos ht]
  have h2 : expE ss es now = es.filter (fun m => hasS (ss.filter (liveS now)) (hv m)) := by unfold expE edgX srcX; rw [if_pos ht]
  have h3 : topC ss es = 0 := by unfold topC; rw [if_pos ht]
  rw [h1, h2, h3]
  have h8 := src_len (top_src ht)
  have h62 := two_len (top_two ht)
  have HT := hide ht
  have HT2 := hide (top_two ht)
  have HU := hide (liveS_up (up_src (top_src ht)) now)
  clear h1 h2 h3 ht
  obtain ⟨n, hN⟩ : ∃ n, es.length = n := ⟨_, rfl⟩
  have HN := hide hN
  obtain ⟨k, hK⟩ : ∃ k, ss.length = k := ⟨_, rfl⟩
  have HK := hide hK
  rw [hN, hK] at HA HX HZ HR HE ⊢
  rw [hN] at hl h62
  rw [hK] at hm h8
  clear hN hK
  go_enter Try.func31, Try.ntmps31
  go_wp2_with fail
  refine (by have := implOK a ss ca b es cb _ (by rw [unhide HK]; exact hm) (by rw [unhide HN]; exact hl) (unhide HR) (unhide HE); rw [unhide HK, unhide HN] at this; exact this : Calls Try.prog 20 #[.agg #[.slice a k ca, .slice b n cb]] _ _).mono ?_
  rintro e w1 ⟨rfl, b1⟩
  rw [unhide HT]
  have HB1 := hide ((unhide HA).trans (b1.mono (unhide HA).size))
  have HX1 := hide ((unhide HX).below b1)
  have HZ1 := hide ((unhide HZ).below b1)
  have HR1 := hide ((unhide HR).below b1)
  have HE1 := hide ((unhide HE).below b1)
  have hzl := (unhide HZ1).lt
  clear b1 HX HZ HR HE HA
  have B0 : Hid (Below w1.heap.size w1 (w1.alloc (.cells #[.slice none 0 0, .slice none 0 0] 42))) := hide ((Below.refl _ _).alloc (Nat.le_refl _) _)
  have T0 : Hid (TV (w1.alloc (.cells #[.slice none 0 0, .slice none 0 0] 42)) w1.heap.size (.slice none ((ss.take 0).filter (liveS now)).length 0) (.slice none 0 0)) := hide (tv_new w1 _ _)
  have O0 : Hid ((w1.alloc (.cells #[.slice none 0 0, .slice none 0 0] 42)).ownsRow (w1.heap.size + 1) 67 3 (.slice none ((ss.take 0).filter (liveS now)).length 0) ((ss.take 0).filter (liveS now)).length (So.flat ((ss.take 0).filter (liveS now)))) := hide (So.own_nil _ _)
  have hxl := (unhide HX1).lt
  obtain ⟨z0, z1⟩ := unhide HX1
  go_wp2_with fail
  clear z0 z1
  go_loopw [18] (fun i wr => ∃ j : Nat, j ≤ k ∧ i = .int .i64 j ∧ ∃ (av : Option Addr) (cv : Nat), Hid (TV wr w1.heap.size (.slice av ((ss.take j).filter (liveS now)).length cv) (.slice none 0 0)) ∧ Hid (wr.ownsRow (w1.heap.size + 1) 67 3 (.slice av ((ss.take j).filter (liveS now)).length cv) ((ss.take j).filter (liveS now)).length (So.flat ((ss.take j).filter (liveS now)))) ∧ Hid (Below w1.heap.size w1 wr) ∧ w1.heap.size + 1 ≤ wr.heap.size) (fun i _ => k - (intOf i).toNat)
  case atStart => exact ⟨0, by omega, rfl, none, 0, T0, O0, B0, by simp⟩
  case round =>
    obtain ⟨j, hj, rfl, av, cv, htv, how, hbl, hws⟩ := hrel
    by_cases hlt : (j : Int) < (k : Int)
    · have k0 : (0 : Int) ≤ (j : Int) := by omega
      have hlen : j < ss.length := by rw [unhide HK]; omega
      obtain ⟨g, off, rfl⟩ := (unhide HR1).form (by omega)
      have hA := ((unhide HR1).below (unhide hbl)).at hlen
      have HTF := hide (takeS_filter (liveS now) ss j hlen)
      have hfl := filterS_le (liveS now) ss j
      generalize ss.getD j So.R.zero = m at *
      obtain ⟨ad, an, til⟩ := m
      obtain ⟨c0, c1, c2⟩ := hA
      dsimp only at c0 c1 c2
      have HTA := hide ((unhide htv).below ((Below.refl _ _).alloc (Nat.le_refl _) (.cells #[.int .i64 ad, .int .i64 an, .int .i64 til] 67)))
      have HOA := hide ((unhide how).alloc (.cells #[.int .i64 ad, .int .i64 an, .int .i64 til] 67))
      have HBA := hide ((unhide hbl).alloc (unhide hbl).size (.cells #[.int .i64 ad, .int .i64 an, .int .i64 til] 67))
      have hsa : (wr.alloc (.cells #[.int .i64 ad, .int .i64 an, .int .i64 til] 67)).heap.size = wr.heap.size + 1 := by simp
      by_cases hlv : now < til
      · rw [show liveS now ⟨ad, an, til⟩ = true from decide_eq_true hlv, if_pos rfl] at HTF
        obtain ⟨x0, x1⟩ := (unhide HTA).bx
        have HTB := hide ((unhide HTA).below ((Below.refl _ _).alloc (Nat.le_refl _) (.cells #[.int .i64 ad, .int .i64 an, .int .i64 til] 67)))
        go_wp2_with (at_builtin; refine So.wpList_apS ((unhide HOA).alloc _) (wr.heap.size + 1) 0 1 1 [(⟨ad, an, til⟩ : So.R)] rfl (by have := So.rm_new (wr.alloc (.cells #[.int .i64 ad, .int .i64 an, .int .i64 til] 67)) ⟨ad, an, til⟩; simpa using this) (by simp only [List.length_cons, List.length_nil]; omega) (by simp; omega) rfl _ _ rfl rfl rfl ?_; intro v' w' ho hg; rw [← unhide HTF] at ho; obtain ⟨a', c', e', _⟩ := So.lst_own rfl ho; subst e'; have HO := hide ho; have HB := hide (So.below_own ((unhide HBA).alloc (unhide HBA).size _) ((unhide HOA).alloc _) hg (by omega) (by simp; omega)); have HT3 := hide ((unhide HTB).grown hg (tv_rowSo (unhide HTB) ((unhide HOA).alloc _))); have hs3 := hg.size; clear ho hg x0 x1; obtain ⟨x0, x1⟩ := (unhide HT3).bx; have f0 := (unhide HT3).free 0)
        have HT4 := hide ((unhide HT3).set0 (.slice a' ((ss.take (j + 1)).filter (liveS now)).length c'))
        have HO4 := hide (ownsRow_setCell_other (unhide HO) (a := ⟨w1.heap.size, 0, none⟩) (fun e => tv_rowSo (unhide HT3) (unhide HO) e.symm) (.slice a' ((ss.take (j + 1)).filter (liveS now)).length c'))
        have HB4 := hide ((unhide HB).setCell (p := ⟨w1.heap.size, 0, none⟩) (Nat.le_refl _) (.slice a' ((ss.take (j + 1)).filter (liveS now)).length c'))
        go_roundw
        case rel => exact ⟨j + 1, by omega, by go_num, a', c', HT4, HO4, HB4, by simp [World.setCell]; simp at hs3; omega⟩
        case measure => simp [intOf]; omega
      · rw [show liveS now ⟨ad, an, til⟩ = false from decide_eq_false hlv, if_neg (by simp), List.append_nil] at HTF
        rw [← unhide HTF] at HTA HOA
        go_wp2_with fail
        go_roundw
        case rel => exact ⟨j + 1, by omega, by go_num, av, cv, HTA, HOA, HBA, by omega⟩
        case measure => simp [intOf]; omega
    · obtain rfl : k = j := by omega
      rw [show ss.take k = ss from List.take_of_length_le (by rw [unhide HK]; exact Nat.le_refl _)] at htv how
      obtain ⟨S, hS⟩ : ∃ S, ss.filter (liveS now) = S := ⟨_, rfl⟩
      have hSl : S.length ≤ 8 := by rw [← hS]; have := List.length_filter_le (liveS now) ss; rw [unhide HK] at this; omega
      have HSS := hide hS
      rw [hS] at htv how HU
      clear hS
      obtain ⟨wq, hwq⟩ : ∃ wq, wr = wq := ⟨_, rfl⟩
      rw [hwq] at htv how hbl hws ⊢
      clear hwq
      have HLS : Hid (So.Lst wq av S (w1.heap.size + 1) wq.heap.size) := hide (by obtain ⟨a', c', e', hl'⟩ := So.lst_own rfl (unhide how); cases e'; exact hl')
      have HE2 := hide ((unhide HE1).below (unhide hbl))
      have OE : Hid (wq.ownsRow wq.heap.size 74 3 (.slice none ((es.take 0).filter (fun m => hasS S (hv m))).length 0) ((es.take 0).filter (fun m => hasS S (hv m))).length (Tu.flat ((es.take 0).filter (fun m => hasS S (hv m))))) := hide (Tu.own_nil _ _)
      clear how
      have HX2 := hide ((unhide HX1).below (unhide hbl))
      obtain ⟨z0, z1⟩ := unhide HX2
      go_wp2_with fail
      clear z0 z1
      go_loopw [36] (fun i wr => ∃ j : Nat, j ≤ n ∧ i = .int .i64 j ∧ ∃ (be : Option Addr) (ce : Nat), Hid (TV wr w1.heap.size (.slice av S.length cv) (.slice be ((es.take j).filter (fun m => hasS S (hv m))).length ce)) ∧ Hid (wr.ownsRow wq.heap.size 74 3 (.slice be ((es.take j).filter (fun m => hasS S (hv m))).length ce) ((es.take j).filter (fun m => hasS S (hv m))).length (Tu.flat ((es.take j).filter (fun m => hasS S (hv m))))) ∧ Hid (So.Lst wr av S (w1.heap.size + 1) wq.heap.size) ∧ Hid (Below w1.heap.size w1 wr) ∧ wq.heap.size ≤ wr.heap.size) (fun i _ => n - (intOf i).toNat)
      case atStart => exact ⟨0, by omega, rfl, none, 0, htv, OE, HLS, hbl, Nat.le_refl _⟩
      case round =>
        clear htv hbl HLS OE hlt
        obtain ⟨j, hj, rfl, be, ce, htv, how, hls, hbl, hwq⟩ := hrel
        by_cases hlt : (j : Int) < (n : Int)
        · have k0 : (0 : Int) ≤ (j : Int) := by omega
          have hlen : j < es.length := by rw [unhide HN]; omega
          obtain ⟨g, off, rfl⟩ := (unhide HE1).form (by omega)
          have hA := ((unhide HE1).below (unhide hbl)).at hlen
          have HTF := hide (takeT_filter (fun m => hasS S (hv m)) es j hlen)
          have hfl := filterT_le (fun m => hasS S (hv m)) es j
          have hbd := ok_bounds (setB_ok (two_set (unhide HT2)) hlen)
          generalize es.getD j R.zero = m at *
          obtain ⟨key, til, val⟩ := m
          obtain ⟨c0, c1, c2⟩ := hA
          dsimp only at c0 c1 c2 hbd
          have hal : Below wr.heap.size wr (wr.alloc (.cells #[.int .i64 key, .int .i64 til, .int .i64 val] 74)) := (Below.refl _ _).alloc (Nat.le_refl _) _
          have HBX : Hid (St.Bx (wr.alloc (.cells #[.int .i64 key, .int .i64 til, .int .i64 val] 74)) wr.heap.size ⟨key, til, val⟩) := hide (Tw.bx_new wr ⟨key, til, val⟩ _)
          have HTA := hide ((unhide htv).below hal)
          have HOA := hide ((unhide how).alloc (.cells #[.int .i64 key, .int .i64 til, .int .i64 val] 74))
          have HLA := hide ((unhide hls).below hal)
          have HBA := hide ((unhide hbl).alloc (unhide hbl).size (.cells #[.int .i64 key, .int .i64 til, .int .i64 val] 74))
          have hsa : (wr.alloc (.cells #[.int .i64 key, .int .i64 til, .int .i64 val] 74)).heap.size = wr.heap.size + 1 := by simp
          clear hal
          obtain ⟨v, hv'⟩ : ∃ v, key.tdiv 100 = v := ⟨_, rfl⟩
          obtain ⟨u, hu'⟩ : ∃ u, key.tmod 100 = u := ⟨_, rfl⟩
          have HV := hide hv'
          have HU' := hide hu'
          obtain ⟨o, ho⟩ : ∃ o, hasS S v = o := ⟨_, rfl⟩
          have HH := hide ho
          have hpo : hasS S (hv ⟨key, til, val⟩) = o := by unfold hv; dsimp only; rw [hv']; exact ho
          rw [hpo] at HTF
          clear hpo hv' hu' ho
          have hix : ∀ W : World, (Instr.index 102 (.agg #[.int .i64 v, .int .i64 u]) (.int .i64 0)).run Try.prog W = .ok (.int .i64 v) W := fun _ => by kernel_rfl
          go_wp2_with fail
          generalize hW : wr.alloc (.cells #[.int .i64 key, .int .i64 til, .int .i64 val] 74) = W0 at *
          clear hW c0 c1 c2
          refine wp_region_noPanic ?_
          refine wp_region_held_drew (S := fun w' => (St.Bx w' wr.heap.size ⟨key, til, val⟩ ∧ Bx2 w' w1.heap.size (.slice av S.length cv) (.slice be ((es.take j).filter (fun m => hasS S (hv m))).length ce)) ∧ w'.cell? ⟨wr.heap.size, 0, none⟩ = some (.int .i64 key) ∧ w'.cell? ⟨w1.heap.size, 0, none⟩ = some (.slice av S.length cv)) (by kernel_rfl) (sLE (unhide HBX).drew (unhide HTA).bx.drew) (fun hHeld => ?_)
          (refine Rg.tk (i := 0) (d := 40) (v := ?_) rfl rfl (by kernel_rfl) (by kernel_rfl) (by kernel_rfl) (fun _ _ _ h => h) (by rfl) ?_ (by assumption) ?_; rotate_left; (focus (intro w0 hSw; (try dsimp only at hSw); go_simp; (try with_reducible rfl))); (try simp only [Act.put, List.setIfInBounds_toArray, List.set_cons_zero, List.set_cons_succ]))
          (refine Rg.tk (i := 1) (d := 41) (v := ?_) rfl rfl (by kernel_rfl) (by kernel_rfl) (by kernel_rfl) (fun _ _ _ h => h) (by rfl) ?_ (by assumption) ?_; rotate_left; (focus (intro w0 hSw; (try dsimp only at hSw); go_simp; (try with_reducible rfl))); (try simp only [Act.put, List.setIfInBounds_toArray, List.set_cons_zero, List.set_cons_succ]))
          (refine Rg.tk (i := 2) (d := 42) (v := ?_) rfl rfl (by kernel_rfl) (by kernel_rfl) (by kernel_rfl) (fun _ _ _ h => h) (by rfl) ?_ (by assumption) ?_; rotate_left; (focus (intro w0 hSw; (try dsimp only at hSw); go_simp; (try with_reducible rfl))); (try simp only [Act.put, List.setIfInBounds_toArray, List.set_cons_zero, List.set_cons_succ]))
          (refine Rg.tk (i := 3) (d := 43) (v := ?_) rfl rfl (by kernel_rfl) (by kernel_rfl) (by kernel_rfl) (fun _ _ _ h => h) (by rfl) ?_ (by assumption) ?_; rotate_left; (focus (intro w0 hSw; (try dsimp only at hSw); go_simp; (try with_reducible rfl))); (try simp only [Act.put, List.setIfInBounds_toArray, List.set_cons_zero, List.set_cons_succ]))
          (refine wpAnyH_ready (rs := [4]) (by kernel_rfl) (by simp) ?_; refine AllReadyH.cons (o := _) rfl (fun K hK => ?_) AllReadyH.nil; go_simp)
          refine (endsOfKey key _ (by omega) (by omega)).mono ?_
          rintro e w4 ⟨rfl, b4_⟩
          rw [unhide HV, unhide HU']
          have b4 : Below W0.heap.size W0 w4 := (Below.refl _ _).drew.trans b4_
          have HBX4 := hide ((unhide HBX).below b4)
          have HTA4 := hide ((unhide HTA).below b4)
          have HOA4 := hide (keepTb (unhide HOA) b4)
          have HLA4 := hide ((unhide HLA).below b4)
          have HBA4 := hide ((unhide HBA).trans (b4.mono (unhide HBA).size))
          have hs4 := b4.size
          clear b4 b4_ hHeld
          refine hK.out _ _ (sLE (unhide HBX4) (unhide HTA4).bx) (fun hHeld => ?_)
          clear hK K
          (try simp only [Act.put, List.setIfInBounds_toArray, List.set_cons_zero, List.set_cons_succ])
          (refine Rg.tk (i := 5) (d := 45) (v := ?_) rfl rfl (by kernel_rfl) (by kernel_rfl) (by kernel_rfl) (fun _ _ _ h => h) (by rfl) ?_ (by assumption) ?_; rotate_left; (focus (intro w0 hSw; (try dsimp only at hSw); go_simp; (try with_reducible rfl))); (try simp only [Act.put, List.setIfInBounds_toArray, List.set_cons_zero, List.set_cons_succ]))
          (refine wpAnyH_ready (rs := [6]) (by kernel_rfl) (by simp) ?_; refine AllReadyH.cons (o := _) rfl (fun K hK => ?_) AllReadyH.nil; go_simp)
          refine (hasSource _ S cv v _ (unhide HLA4).rm (unhide HU) (by omega)).mono ?_
          rintro e w5 ⟨rfl, b5⟩
          rw [unhide HH]
          have HBX5 := hide ((unhide HBX4).below b5)
          have HTA5 := hide ((unhide HTA4).below b5)
          have HOA5 := hide (keepTb (unhide HOA4) b5)
          have HLA5 := hide ((unhide HLA4).below b5)
          have HBA5 := hide ((unhide HBA4).trans (b5.mono (unhide HBA4).size))
          have hs5 := b5.size
          clear b5 hHeld
          refine hK.out _ _ (sLE (unhide HBX5) (unhide HTA5).bx) (fun hHeld => ?_)
          clear hK K
          (try simp only [Act.put, List.setIfInBounds_toArray, List.set_cons_zero, List.set_cons_succ])
          refine wpAnyH_done (by kernel_rfl) (NoPanic.normal ?_) _
          clear hHeld HBX4 HTA4 HOA4 HLA4 HBA4 HBX HTA HOA HLA HBA
          cases o
          · rw [if_neg (by simp), List.append_nil] at HTF
            rw [← unhide HTF] at HTA5 HOA5
            go_wp2_with fail
            go_roundw
            case rel => exact ⟨j + 1, by omega, by go_num, be, ce, HTA5, HOA5, HLA5, HBA5, by omega⟩
            case measure => simp [intOf]; omega
          · rw [if_pos rfl] at HTF
            obtain ⟨y0, y1, y2⟩ := unhide HBX5
            dsimp only at y0 y1 y2
            obtain ⟨x0, x1⟩ := (unhide HTA5).bx
            have HTB := hide ((unhide HTA5).below ((Below.refl _ _).alloc (Nat.le_refl _) (.cells #[.int .i64 key, .int .i64 til, .int .i64 val] 74)))
            have HLB := hide ((unhide HLA5).below ((Below.refl _ _).alloc (Nat.le_refl _) (.cells #[.int .i64 key, .int .i64 til, .int .i64 val] 74)))
            have hs6 : (w5.alloc (.cells #[.int .i64 key, .int .i64 til, .int .i64 val] 74)).heap.size = w5.heap.size + 1 := by simp
            go_wp2_with (at_builtin; refine Tu.wpList_apS ((unhide HOA5).alloc _) w5.heap.size 0 1 1 [(⟨key, til, val⟩ : R)] rfl (Tu.rm_new w5 ⟨key, til, val⟩) (by simp only [List.length_cons, List.length_nil]; omega) (by simp; omega) rfl _ _ rfl rfl rfl ?_; intro v' w' ho hg; rw [← unhide HTF] at ho; obtain ⟨a', c', e', _⟩ := Tu.lst_own rfl ho; subst e'; have HO := hide ho; have HB := hide (Tu.below_own ((unhide HBA5).alloc (unhide HBA5).size _) ((unhide HOA5).alloc _) hg (by omega) (by simp; omega)); have HT3 := hide ((unhide HTB).grown hg (tv_rowTu (unhide HTB) ((unhide HOA5).alloc _))); have HL3 := hide ((unhide HLB).but (p := fun q => q < wq.heap.size) hg.size (fun q hq hp => hg.block q hq (fun e => absurd (((unhide HOA5).alloc (.cells #[.int .i64 key, .int .i64 til, .int .i64 val] 74)).lt q e.symm).1 (by omega))) (fun q h1 h2 => h2)); have hs3 := hg.size; clear ho hg x0 x1 y0 y1 y2; obtain ⟨x0, x1⟩ := (unhide HT3).bx; have f0 := (unhide HT3).free 1)
            have HT4 := hide ((unhide HT3).set1 (.slice a' ((es.take (j + 1)).filter (fun m => hasS S (hv m))).length c'))
            have HO4 := hide (ownsRow_setCell_other (unhide HO) (a := ⟨w1.heap.size, 1, none⟩) (fun e => tv_rowTu (unhide HT3) (unhide HO) e.symm) (.slice a' ((es.take (j + 1)).filter (fun m => hasS S (hv m))).length c'))
            have HL4 := hide (lsS_set (b := w1.heap.size) (i := 1) (u := .slice a' ((es.take (j + 1)).filter (fun m => hasS S (hv m))).length c') (unhide HL3) (.inl (by omega)))
            have HB4 := hide ((unhide HB).setCell (p := ⟨w1.heap.size, 1, none⟩) (Nat.le_refl _) (.slice a' ((es.take (j + 1)).filter (fun m => hasS S (hv m))).length c'))
            go_roundw
            case rel => exact ⟨j + 1, by omega, by go_num, a', c', HT4, HO4, HL4, HB4, by simp [World.setCell]; omega⟩
            case measure => simp [intOf]; omega
        · obtain rfl : n = j := by omega
          rw [show es.take n = es from List.take_of_length_le (by rw [unhide HN]; exact Nat.le_refl _)] at htv how
          obtain ⟨E, hE⟩ : ∃ E, es.filter (fun m => hasS S (hv m)) = E := ⟨_, rfl⟩
          have HEE := hide hE
          rw [hE] at htv how
          clear hE
          have HZr := hide ((unhide HZ1).below (unhide hbl))
          have HBw := hide ((unhide HB1).trans ((unhide hbl).mono (unhide HB1).size))
          have HLE : Hid (Tu.Lst wr be E wq.heap.size wr.heap.size) := hide (by obtain ⟨a', c', e', hl'⟩ := Tu.lst_own rfl (unhide how); cases e'; exact hl')
          obtain ⟨x0, x1⟩ := (unhide htv).bx
          obtain ⟨r0, r1⟩ := (unhide HZr).bx
          have q0 := (unhide HZr).free 0
          have q1 := (unhide HZr).free 1
          have hne2 : ¬ w1.heap.size = w.heap.size + 1 := by omega
          have hne3 : ¬ w.heap.size + 1 = w1.heap.size := by omega
          have HL8 := hide (lsS_set (b := w.heap.size + 1) (i := 1) (u := .slice be E.length ce) (lsS_set (b := w.heap.size + 1) (i := 0) (u := .slice av S.length cv) (unhide hls) (.inl (by omega))) (.inl (by omega)))
          have HE8 := hide (lsT_set (b := w.heap.size + 1) (i := 1) (u := .slice be E.length ce) (lsT_set (b := w.heap.size + 1) (i := 0) (u := .slice av S.length cv) (unhide HLE) (.inl (by omega))) (.inl (by omega)))
          have HBF := hide (((unhide HBw).setCell (p := ⟨w.heap.size + 1, 0, none⟩) (by show w.heap.size ≤ w.heap.size + 1; omega) (.slice av S.length cv)).setCell (p := ⟨w.heap.size + 1, 1, none⟩) (by show w.heap.size ≤ w.heap.size + 1; omega) (.slice be E.length ce))
          have hs8 : wr.heap.size ≤ ((wr.setCell ⟨w.heap.size + 1, 0, none⟩ (.slice av S.length cv)).setCell ⟨w.heap.size + 1, 1, none⟩ (.slice be E.length ce)).heap.size := by simp [World.setCell]
          go_wp2_with fail
          refine bodyPost_ret (v := .tuple #[.agg #[.slice av S.length cv, .slice be E.length ce], .int .i64 0]) (by simp [results, Try.results31, go_sem, r0, r1, x0, x1]) rfl ⟨_, rfl, unhide HBF, ?_⟩
          rw [unhide HSS, unhide HEE]
          exact ⟨_, _, wq.heap.size, rfl, ⟨_, _, rfl, (unhide HL8).mono (by omega) (Nat.le_refl _)⟩, ⟨_, _, rfl, (unhide HE8).mono (Nat.le_refl _) hs8⟩, by omega, by omega⟩
end Tp
end Go.Proofs.Ytmelbilepfnmjap
