/-
  The model's TopologyExpire.
-/
import Derived.Test.YtmelbilepfnmjapTopX
namespace Go.Proofs.Ytmelbilepfnmjap
open Go.ChangeShapes Go.WideShapes Go.ChangeAt Go.RowKit
set_option linter.unusedVariables false
set_option linter.unusedSimpArgs false
set_option maxRecDepth 100000
attribute [local go_sem ↓] Go.wp_at_zero Go.wp_at_succ
namespace Tp
open W1 Tu St Tw
/-- A topology's block has no number in it. -/
theorem tv_ne {w : World} {b g o : Nat} {a a' : Option Addr} {n n' c c' : Nat} {z : Int} (h : TV w b (.slice a n c) (.slice a' n' c')) (ha : w.cell? ⟨g, o, none⟩ = some (.int .i64 z)) : g ≠ b := by
  intro e
  subst e
  unfold TV at h
  match o, ha with
  | 0, ha => simp [World.cell?, h] at ha
  | 1, ha => simp [World.cell?, h] at ha
  | o + 2, ha => simp [World.cell?, h] at ha
theorem rmS_tv {w : World} {b : Nat} {a a' : Option Addr} {n n' c c' : Nat} {r : Option Addr} {ms : List So.R} (h : So.RM w r ms) (ht : TV w b (.slice a n c) (.slice a' n' c')) (i : Nat) (u : Value) : So.RM (w.setCell ⟨b, i, none⟩ u) r ms := by
  rcases h with h | ⟨g, off, e, hc⟩
  · exact .inl h
  · refine .inr ⟨g, off, e, fun j hj => ?_⟩
    have hh : (w.setCell ⟨b, i, none⟩ u).heap[g]? = w.heap[g]? := Below.heap_setCell _ _ _ _ (tv_ne ht (hc j hj).1)
    exact ⟨(World.cell?_of_block (a := ⟨g, _, none⟩) hh).trans (hc j hj).1, (World.cell?_of_block (a := ⟨g, _, none⟩) hh).trans (hc j hj).2.1, (World.cell?_of_block (a := ⟨g, _, none⟩) hh).trans (hc j hj).2.2⟩
theorem rmT_tv {w : World} {b : Nat} {a a' : Option Addr} {n n' c c' : Nat} {r : Option Addr} {ms : List R} (h : Tu.RM w r ms) (ht : TV w b (.slice a n c) (.slice a' n' c')) (i : Nat) (u : Value) : Tu.RM (w.setCell ⟨b, i, none⟩ u) r ms := by
  rcases h with h | ⟨g, off, e, hc⟩
  · exact .inl h
  · refine .inr ⟨g, off, e, fun j hj => ?_⟩
    have hh : (w.setCell ⟨b, i, none⟩ u).heap[g]? = w.heap[g]? := Below.heap_setCell _ _ _ _ (tv_ne ht (hc j hj).1)
    exact ⟨(World.cell?_of_block (a := ⟨g, _, none⟩) hh).trans (hc j hj).1, (World.cell?_of_block (a := ⟨g, _, none⟩) hh).trans (hc j hj).2.1, (World.cell?_of_block (a := ⟨g, _, none⟩) hh).trans (hc j hj).2.2⟩
theorem sSt {w : World} {g o B : Nat} {ad an til : Int} {x y : Value} (h : So.At w g o ⟨ad, an, til⟩) (hB : Bx2 w B x y) : (So.At w g o ⟨ad, an, til⟩ ∧ Bx2 w B x y) ∧ w.cell? ⟨g, o, none⟩ = some (.int .i64 ad) ∧ w.cell? ⟨B, 0, none⟩ = some x := ⟨⟨h, hB⟩, h.1, hB.1⟩
set_option maxHeartbeats 8000000 in
theorem l09Expire (g0 o0 : Nat) (ss : List So.R) (k ca h0 p0 : Nat) (es : List R) (n cb : Nat) (now : Int) (w : World) (hK : ss.length = k) (hN : es.length = n) (hca : k ≤ ca) (hk4 : k ≤ 4096) (hte : twoB es = true) (hr : So.RM w (some ⟨g0, o0, none⟩) ss) (hr' : RM w (some ⟨h0, p0, none⟩) es) :
    Calls Try.prog 80 #[.agg #[.slice (some ⟨g0, o0, none⟩) k ca, .slice (some ⟨h0, p0, none⟩) n cb], .int .i64 now] w fun e w' => ∃ v, e = .returned v ∧ Below w.heap.size w w' ∧ RdT w' v (gonS ss now k) (gonE ss es now k) := by
  have HTE : Hid (∀ j, twoB (gonE ss es now j) = true) := hide (fun j => two_filter hte _)
  have HGL : Hid (∀ j, (gonS ss now j).length ≤ ss.length) := hide (fun j => List.length_filter_le _ _)
  have HK := hide hK
  have h1 := (gon_zero ss es now).1
  have h2 := (gon_zero ss es now).2
  have HA2 : Hid (Below w.heap.size w ((w.alloc (.cells #[.slice (some ⟨g0, o0, none⟩) k ca, .slice (some ⟨h0, p0, none⟩) n cb] 42)).alloc (.cells #[.slice none 0 0, .slice none 0 0] 42))) := hide (((Below.refl _ _).alloc (Nat.le_refl _) _).alloc ((Below.refl w.heap.size w).alloc (Nat.le_refl _) _).size _)
  have HA : Hid (Below w.heap.size w (((w.alloc (.cells #[.slice (some ⟨g0, o0, none⟩) k ca, .slice (some ⟨h0, p0, none⟩) n cb] 42)).alloc (.cells #[.slice none 0 0, .slice none 0 0] 42)).alloc (.cells #[.slice (some ⟨g0, o0, none⟩) k ca, .slice (some ⟨h0, p0, none⟩) n cb] 42))) := hide ((unhide HA2).alloc (unhide HA2).size _)
  have hs2 : (((w.alloc (.cells #[.slice (some ⟨g0, o0, none⟩) k ca, .slice (some ⟨h0, p0, none⟩) n cb] 42)).alloc (.cells #[.slice none 0 0, .slice none 0 0] 42))).heap.size = w.heap.size + 2 := by simp
  have hs3 : ((((w.alloc (.cells #[.slice (some ⟨g0, o0, none⟩) k ca, .slice (some ⟨h0, p0, none⟩) n cb] 42)).alloc (.cells #[.slice none 0 0, .slice none 0 0] 42)).alloc (.cells #[.slice (some ⟨g0, o0, none⟩) k ca, .slice (some ⟨h0, p0, none⟩) n cb] 42))).heap.size = w.heap.size + 3 := by simp
  have HX0 : Hid (Bx2 ((w.alloc (.cells #[.slice (some ⟨g0, o0, none⟩) k ca, .slice (some ⟨h0, p0, none⟩) n cb] 42)).alloc (.cells #[.slice none 0 0, .slice none 0 0] 42)) w.heap.size (.slice (some ⟨g0, o0, none⟩) k ca) (.slice (some ⟨h0, p0, none⟩) n cb)) := hide ((bx2_new w _ _ _).below ((Below.refl _ _).alloc (Nat.le_refl _) _))
  have HX : Hid (Bx2 (((w.alloc (.cells #[.slice (some ⟨g0, o0, none⟩) k ca, .slice (some ⟨h0, p0, none⟩) n cb] 42)).alloc (.cells #[.slice none 0 0, .slice none 0 0] 42)).alloc (.cells #[.slice (some ⟨g0, o0, none⟩) k ca, .slice (some ⟨h0, p0, none⟩) n cb] 42)) w.heap.size (.slice (some ⟨g0, o0, none⟩) k ca) (.slice (some ⟨h0, p0, none⟩) n cb)) := hide ((unhide HX0).below ((Below.refl _ _).alloc (Nat.le_refl _) _))
  have HZ0 : Hid (TV ((w.alloc (.cells #[.slice (some ⟨g0, o0, none⟩) k ca, .slice (some ⟨h0, p0, none⟩) n cb] 42)).alloc (.cells #[.slice none 0 0, .slice none 0 0] 42)) (w.heap.size + 1) (.slice none 0 0) (.slice none 0 0)) := hide (by have := tv_new (w.alloc (.cells #[.slice (some ⟨g0, o0, none⟩) k ca, .slice (some ⟨h0, p0, none⟩) n cb] 42)) (.slice none 0 0) (.slice none 0 0); rw [show (w.alloc (.cells #[.slice (some ⟨g0, o0, none⟩) k ca, .slice (some ⟨h0, p0, none⟩) n cb] 42)).heap.size = w.heap.size + 1 by simp] at this; exact this)
  have HZ : Hid (TV (((w.alloc (.cells #[.slice (some ⟨g0, o0, none⟩) k ca, .slice (some ⟨h0, p0, none⟩) n cb] 42)).alloc (.cells #[.slice none 0 0, .slice none 0 0] 42)).alloc (.cells #[.slice (some ⟨g0, o0, none⟩) k ca, .slice (some ⟨h0, p0, none⟩) n cb] 42)) (w.heap.size + 1) (.slice none 0 0) (.slice none 0 0)) := hide ((unhide HZ0).below ((Below.refl _ _).alloc (Nat.le_refl _) _))
  have HO0 : Hid (TV (((w.alloc (.cells #[.slice (some ⟨g0, o0, none⟩) k ca, .slice (some ⟨h0, p0, none⟩) n cb] 42)).alloc (.cells #[.slice none 0 0, .slice none 0 0] 42)).alloc (.cells #[.slice (some ⟨g0, o0, none⟩) k ca, .slice (some ⟨h0, p0, none⟩) n cb] 42)) (w.heap.size + 2) (.slice (some ⟨g0, o0, none⟩) (gonS ss now 0).length ca) (.slice (some ⟨h0, p0, none⟩) (gonE ss es now 0).length cb)) := hide (by rw [h1, h2, hK, hN]; have := tv_new ((w.alloc (.cells #[.slice (some ⟨g0, o0, none⟩) k ca, .slice (some ⟨h0, p0, none⟩) n cb] 42)).alloc (.cells #[.slice none 0 0, .slice none 0 0] 42)) (.slice (some ⟨g0, o0, none⟩) k ca) (.slice (some ⟨h0, p0, none⟩) n cb); rw [hs2] at this; exact this)
  have RS0 : Hid (So.RM (((w.alloc (.cells #[.slice (some ⟨g0, o0, none⟩) k ca, .slice (some ⟨h0, p0, none⟩) n cb] 42)).alloc (.cells #[.slice none 0 0, .slice none 0 0] 42)).alloc (.cells #[.slice (some ⟨g0, o0, none⟩) k ca, .slice (some ⟨h0, p0, none⟩) n cb] 42)) (some ⟨g0, o0, none⟩) (gonS ss now 0)) := hide (by rw [h1]; exact hr.below (unhide HA))
  have RE0 : Hid (Tu.RM (((w.alloc (.cells #[.slice (some ⟨g0, o0, none⟩) k ca, .slice (some ⟨h0, p0, none⟩) n cb] 42)).alloc (.cells #[.slice none 0 0, .slice none 0 0] 42)).alloc (.cells #[.slice (some ⟨g0, o0, none⟩) k ca, .slice (some ⟨h0, p0, none⟩) n cb] 42)) (some ⟨h0, p0, none⟩) (gonE ss es now 0)) := hide (by rw [h2]; exact hr'.below (unhide HA))
  have HC0 : Hid ((gonS ss now 0).length ≤ ca) := hide (by rw [h1, hK]; exact hca)
  have HRS := hide hr
  clear hr hr' HA2 HX0 HZ0 h1 h2 hK hN hte
  go_enter Try.func80, Try.ntmps80
  go_wp2_with fail
  generalize hW : (((w.alloc (.cells #[.slice (some ⟨g0, o0, none⟩) k ca, .slice (some ⟨h0, p0, none⟩) n cb] 42)).alloc (.cells #[.slice none 0 0, .slice none 0 0] 42)).alloc (.cells #[.slice (some ⟨g0, o0, none⟩) k ca, .slice (some ⟨h0, p0, none⟩) n cb] 42)) = W3 at *
  clear hW
  go_loopw [6] (fun i wr => ∃ j : Nat, j ≤ k ∧ i = .int .i64 j ∧ ∃ g o c h p d : Nat, Hid ((gonS ss now j).length ≤ c) ∧ Hid (TV wr (w.heap.size + 2) (.slice (some ⟨g, o, none⟩) (gonS ss now j).length c) (.slice (some ⟨h, p, none⟩) (gonE ss es now j).length d)) ∧ Hid (So.RM wr (some ⟨g, o, none⟩) (gonS ss now j)) ∧ Hid (Tu.RM wr (some ⟨h, p, none⟩) (gonE ss es now j)) ∧ Hid (Below (w.heap.size + 2) W3 wr)) (fun i _ => k - (intOf i).toNat)
  case atStart => exact ⟨0, by omega, rfl, g0, o0, ca, h0, p0, cb, HC0, HO0, RS0, RE0, hide (Below.refl _ _)⟩
  case round =>
    obtain ⟨j, hj, rfl, g, o, c, h, p, d, hcc, htv, hrs, hre, hbl⟩ := hrel
    have HXr := hide ((unhide HX).under (unhide hbl) (by omega))
    have HBw := hide ((unhide HA).trans ((unhide hbl).mono (by omega)))
    obtain ⟨z0, z1⟩ := unhide HXr
    have hbs := (unhide hbl).size
    by_cases hlt : (j : Int) < (k : Int)
    · have k0 : (0 : Int) ≤ (j : Int) := by omega
      have hlen : j < ss.length := by rw [unhide HK]; omega
      have hA := ((unhide HRS).below (unhide HBw)).at hlen
      have HLV : Hid (now < (ss.getD j So.R.zero).til → gonS ss now (j + 1) = gonS ss now j ∧ gonE ss es now (j + 1) = gonE ss es now j) := hide (fun h => gon_live hlen h)
      have HDD : Hid ((ss.getD j So.R.zero).til ≤ now → gonS ss now (j + 1) = (gonS ss now j).filter (neS (ss.getD j So.R.zero).ad) ∧ gonE ss es now (j + 1) = (gonE ss es now j).filter (keepF (ss.getD j So.R.zero).ad)) := hide (fun h => gon_dead hlen h)
      obtain ⟨m, hmd⟩ : ∃ m, ss.getD j So.R.zero = m := ⟨_, rfl⟩
      have HMD := hide hmd
      rw [hmd] at hA HLV HDD
      clear hmd
      obtain ⟨ad, an, til⟩ := m
      have HAt := hide hA
      obtain ⟨c0, c1, c2⟩ := hA
      dsimp only at c0 c1 c2 HLV HDD
      by_cases hle : til ≤ now
      · have HD1 := hide (unhide HDD hle)
        clear HLV HDD
        go_wp2_with fail
        clear c0 c1 c2 z0 z1
        refine wp_region_noPanic ?_
        refine wp_region_held_drew (S := fun w' => (So.At w' g0 (o0 + j * 3) ⟨ad, an, til⟩ ∧ Bx2 w' w.heap.size (.slice (some ⟨g0, o0, none⟩) k ca) (.slice (some ⟨h0, p0, none⟩) n cb)) ∧ w'.cell? ⟨g0, o0 + j * 3, none⟩ = some (.int .i64 ad) ∧ w'.cell? ⟨w.heap.size, 0, none⟩ = some (.slice (some ⟨g0, o0, none⟩) k ca)) (by kernel_rfl) (sSt (unhide HAt).drew (unhide HXr).drew) (fun hHeld => ?_)
        (refine Rg.tk (i := 1) (d := 24) (v := ?_) rfl rfl (by kernel_rfl) (by kernel_rfl) (by kernel_rfl) (fun _ _ _ h => h) (by rfl) ?_ (by assumption) ?_; rotate_left; (focus (intro w0 hSw; (try dsimp only at hSw); go_simp; (try with_reducible rfl))); (try simp only [Act.put, List.setIfInBounds_toArray, List.set_cons_zero, List.set_cons_succ]))
        (refine Rg.tk (i := 2) (d := 25) (v := ?_) rfl rfl (by kernel_rfl) (by kernel_rfl) (by kernel_rfl) (fun _ _ _ h => h) (by rfl) ?_ (by assumption) ?_; rotate_left; (focus (intro w0 hSw; (try dsimp only at hSw); go_simp; (try with_reducible rfl))); (try simp only [Act.put, List.setIfInBounds_toArray, List.set_cons_zero, List.set_cons_succ]))
        (refine Rg.tk (i := 3) (d := 26) (v := ?_) rfl rfl (by kernel_rfl) (by kernel_rfl) (by kernel_rfl) (fun _ _ _ h => h) (by rfl) ?_ (by assumption) ?_; rotate_left; (focus (intro w0 hSw; (try dsimp only at hSw); go_simp; (try with_reducible rfl))); (try simp only [Act.put, List.setIfInBounds_toArray, List.set_cons_zero, List.set_cons_succ]))
        (refine Rg.tk (i := 4) (d := 27) (v := ?_) rfl rfl (by kernel_rfl) (by kernel_rfl) (by kernel_rfl) (fun _ _ _ h => h) (by rfl) ?_ (by assumption) ?_; rotate_left; (focus (intro w0 hSw; (try dsimp only at hSw); go_simp; (try with_reducible rfl))); (try simp only [Act.put, List.setIfInBounds_toArray, List.set_cons_zero, List.set_cons_succ]))
        (refine Rg.tk (i := 5) (d := 28) (v := ?_) rfl rfl (by kernel_rfl) (by kernel_rfl) (by kernel_rfl) (fun _ _ _ h => h) (by rfl) ?_ (by assumption) ?_; rotate_left; (focus (intro w0 hSw; (try dsimp only at hSw); go_simp; (try with_reducible rfl))); (try simp only [Act.put, List.setIfInBounds_toArray, List.set_cons_zero, List.set_cons_succ]))
        (refine Rg.tk (i := 6) (d := 29) (v := ?_) rfl rfl (by kernel_rfl) (by kernel_rfl) (by kernel_rfl) (fun _ _ _ h => h) (by rfl) ?_ (by assumption) ?_; rotate_left; (focus (intro w0 hSw; (try dsimp only at hSw); go_simp; (try with_reducible rfl))); (try simp only [Act.put, List.setIfInBounds_toArray, List.set_cons_zero, List.set_cons_succ]))
        obtain ⟨x0, x1⟩ := (unhide htv).bx
        (refine wpAnyH_ready (rs := [0]) (by kernel_rfl) (by simp) ?_; refine AllReadyH.cons (o := _) rfl (fun K hK => ?_) AllReadyH.nil; go_simp)
        clear x0 x1 hHeld
        refine hK.out _ _ (sSt (unhide HAt).drew (unhide HXr).drew) (fun hHeld => ?_)
        clear hK K
        (try simp only [Act.put, List.setIfInBounds_toArray, List.set_cons_zero, List.set_cons_succ])
        (refine wpAnyH_ready (rs := [7]) (by kernel_rfl) (by simp) ?_; refine AllReadyH.cons (o := _) rfl (fun K hK => ?_) AllReadyH.nil; go_simp)
        refine (l09Without _ (gonS ss now j) _ c _ (gonE ss es now j) _ d ad _ rfl rfl (by have := unhide HGL j; rw [unhide HK] at this; omega) (unhide HTE j) (unhide hrs).drew (unhide hre).drew).mono ?_
        rintro e w4 ⟨v4, rfl, b4_, rd4⟩
        have b4 : Below wr.heap.size wr w4 := (Below.refl _ _).drew.trans b4_
        rw [← (unhide HD1).1, ← (unhide HD1).2] at rd4
        obtain ⟨g', o', c', h', p', d', rfl, q1, q2, q3⟩ := rd4
        have HT4 := hide ((unhide htv).below b4)
        have HB4 := hide ((unhide hbl).trans (b4.mono (by omega)))
        have HC4 := hide q1
        have HS4 := hide q2
        have HE4 := hide q3
        have hX4 := hide (sSt ((unhide HAt).below b4) ((unhide HXr).below b4))
        clear b4 b4_ q1 q2 q3 hHeld
        refine hK.out _ _ (unhide hX4) (fun hHeld => ?_)
        clear hK K
        (try simp only [Act.put, List.setIfInBounds_toArray, List.set_cons_zero, List.set_cons_succ])
        obtain ⟨x0, x1⟩ := (unhide HT4).bx
        have f0 := (unhide HT4).free 0
        have f1 := (unhide HT4).free 1
        (refine wpAnyH_ready (rs := [8]) (by kernel_rfl) (by simp) ?_; refine AllReadyH.cons (o := _) rfl (fun K hK => ?_) AllReadyH.nil; go_simp)
        have HT5 := hide ((unhide HT4).put (.slice (some ⟨g', o', none⟩) (gonS ss now (j + 1)).length c') (.slice (some ⟨h', p', none⟩) (gonE ss es now (j + 1)).length d'))
        have HS5 := hide (rmS_tv (rmS_tv (unhide HS4) (unhide HT4) 0 (.slice (some ⟨g', o', none⟩) (gonS ss now (j + 1)).length c')) ((unhide HT4).set0 _) 1 (.slice (some ⟨h', p', none⟩) (gonE ss es now (j + 1)).length d'))
        have HE5 := hide (rmT_tv (rmT_tv (unhide HE4) (unhide HT4) 0 (.slice (some ⟨g', o', none⟩) (gonS ss now (j + 1)).length c')) ((unhide HT4).set0 _) 1 (.slice (some ⟨h', p', none⟩) (gonE ss es now (j + 1)).length d'))
        have HB5 := hide (((unhide HB4).setCell (p := ⟨w.heap.size + 2, 0, none⟩) (Nat.le_refl _) (.slice (some ⟨g', o', none⟩) (gonS ss now (j + 1)).length c')).setCell (p := ⟨w.heap.size + 2, 1, none⟩) (Nat.le_refl _) (.slice (some ⟨h', p', none⟩) (gonE ss es now (j + 1)).length d'))
        clear hHeld x0 x1 f0 f1
        generalize hW5 : (w4.setCell ⟨w.heap.size + 2, 0, none⟩ (.slice (some ⟨g', o', none⟩) (gonS ss now (j + 1)).length c')).setCell ⟨w.heap.size + 2, 1, none⟩ (.slice (some ⟨h', p', none⟩) (gonE ss es now (j + 1)).length d') = w5 at *
        clear hW5
        refine hK.out _ _ (sSt (((unhide HRS).below ((unhide HA).trans ((unhide HB5).mono (by omega)))).at hlen |> fun h => by rw [unhide HMD] at h; exact h) ((unhide HX).under (unhide HB5) (by omega))) (fun hHeld => ?_)
        clear hK K
        (try simp only [Act.put, List.setIfInBounds_toArray, List.set_cons_zero, List.set_cons_succ])
        refine wpAnyH_done (by kernel_rfl) (NoPanic.normal ?_) _
        clear hHeld
        go_wp2_with fail
        go_roundw
        case rel => exact ⟨j + 1, by omega, by go_num, g', o', c', h', p', d', HC4, HT5, HS5, HE5, HB5⟩
        case measure => simp [intOf]; omega
      · have HD1 := unhide HLV (by omega)
        rw [← HD1.1] at hcc htv hrs
        rw [← HD1.2] at htv hre
        clear HLV HDD HD1
        go_wp2_with fail
        go_roundw
        case rel => exact ⟨j + 1, by omega, by go_num, g, o, c, h, p, d, hcc, htv, hrs, hre, hbl⟩
        case measure => simp [intOf]; omega
    · obtain rfl : k = j := by omega
      have HZr := hide ((unhide HZ).under (unhide hbl) (by omega))
      obtain ⟨x0, x1⟩ := (unhide htv).bx
      obtain ⟨r0, r1⟩ := (unhide HZr).bx
      have q0 := (unhide HZr).free 0
      have q1 := (unhide HZr).free 1
      have hne2 : ¬ w.heap.size + 2 = w.heap.size + 1 := by omega
      have hne3 : ¬ w.heap.size + 1 = w.heap.size + 2 := by omega
      have HLS := hide (rmS_tv (rmS_tv (unhide hrs) (unhide HZr) 0 (.slice (some ⟨g, o, none⟩) (gonS ss now k).length c)) ((unhide HZr).set0 _) 1 (.slice (some ⟨h, p, none⟩) (gonE ss es now k).length d))
      have HLE := hide (rmT_tv (rmT_tv (unhide hre) (unhide HZr) 0 (.slice (some ⟨g, o, none⟩) (gonS ss now k).length c)) ((unhide HZr).set0 _) 1 (.slice (some ⟨h, p, none⟩) (gonE ss es now k).length d))
      have HBF := hide (((unhide HBw).setCell (p := ⟨w.heap.size + 1, 0, none⟩) (by show w.heap.size ≤ w.heap.size + 1; omega) (.slice (some ⟨g, o, none⟩) (gonS ss now k).length c)).setCell (p := ⟨w.heap.size + 1, 1, none⟩) (by show w.heap.size ≤ w.heap.size + 1; omega) (.slice (some ⟨h, p, none⟩) (gonE ss es now k).length d))
      go_wp2_with fail
      refine bodyPost_ret (v := .agg #[.slice (some ⟨g, o, none⟩) (gonS ss now k).length c, .slice (some ⟨h, p, none⟩) (gonE ss es now k).length d]) (by simp [results, Try.results80, go_sem, r0, r1, x0, x1]) rfl ⟨_, rfl, unhide HBF, g, o, c, h, p, d, rfl, unhide hcc, unhide HLS, unhide HLE⟩
end Tp
end Go.Proofs.Ytmelbilepfnmjap
