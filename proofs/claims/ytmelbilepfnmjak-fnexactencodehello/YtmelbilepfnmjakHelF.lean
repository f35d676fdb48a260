/-
  Contracts of EncodeHello, the model's and the program's.
-/
import Derived.Test.YtmelbilepfnmjakHelE
namespace Go.Proofs.Ytmelbilepfnmjak
open Go.ChangeShapes Go.WideShapes Go.ChangeAt Go.RowKit
set_option linter.unusedVariables false
set_option linter.unusedSimpArgs false
attribute [local go_sem ↓] Go.wp_at_zero Go.wp_at_succ
namespace Hl
open W1 Nb
set_option maxHeartbeats 1000000 in
theorem specEncode (x y : Int) (a : Option Addr) (ms : List R) (cap : Nat) (w : World) (hm : ms.length ≤ 1048576) (hr : RM w a ms) :
    Calls Try.prog 21 #[.agg #[.int .i64 x, .int .i64 y, .slice a ms.length cap]] w fun e w' => e = .returned (.tuple #[.string (encS x y ms), .int .i64 (encE x y ms)]) ∧ Below w.heap.size w w' := by
  have HA : Hid (Below w.heap.size w (w.alloc (.cells #[.int .i64 x, .int .i64 y, .slice a ms.length cap] 38))) := hide ((Below.refl _ _).alloc (Nat.le_refl _) _)
  have HX : Hid (Bx3 (w.alloc (.cells #[.int .i64 x, .int .i64 y, .slice a ms.length cap] 38)) w.heap.size x y (.slice a ms.length cap)) := hide (bx3_new w x y _ _)
  have HR := hide ((hr).below (unhide HA))
  clear hr
  cases hh : helB x y ms
  · have h1 : encS x y ms = ⟨#[]⟩ := by unfold encS; rw [if_neg (by simp [hh])]
    have h2 : encE x y ms = 1 := by unfold encE; rw [if_neg (by simp [hh])]
    rw [h1, h2]
    have HH := hide hh
    clear h1 h2 hh
    go_enter Try.func21, Try.ntmps21
    go_wp2_with fail
    refine (specOK x y a ms cap _ hm (unhide HR)).mono ?_
    rintro e w1 ⟨rfl, b1⟩
    rw [unhide HH]
    have hb1 := hide ((unhide HA).trans (b1.mono (unhide HA).size))
    clear b1
    go_wp2_with fail
    go_ret2
    exact ⟨rfl, unhide hb1⟩
  have h1 : encS x y ms = strOfNums (helNums x y ms ms.length) := by unfold encS; rw [if_pos hh]
  have h2 : encE x y ms = 0 := by unfold encE; rw [if_pos hh]
  rw [h1, h2]
  have HH := hide hh
  clear h1 h2 hh
  go_enter Try.func21, Try.ntmps21
  go_wp2_with fail
  refine (specOK x y a ms cap _ hm (unhide HR)).mono ?_
  rintro e w1 ⟨rfl, b1⟩
  rw [unhide HH]
  obtain ⟨z0, z1, z2⟩ := (unhide HX).below b1
  have HR1 := hide ((unhide HR).below b1)
  have hb1 := hide ((unhide HA).trans (b1.mono (unhide HA).size))
  clear b1 HX HR HA
  go_wp2_with fail
  refine (l04Encode x y a ms cap _ (unhide HH) (unhide HR1)).mono ?_
  rintro e w2 ⟨rfl, b2⟩
  have hb2 := hide ((unhide hb1).trans (b2.mono (unhide hb1).size))
  clear b2 z0 z1 z2
  go_wp2_with fail
  go_ret2
  exact ⟨rfl, unhide hb2⟩
theorem Bx.grown {w w' : World} {b : Nat} {m : R} {r : Option Nat} (h : Bx w b m) (hg : w.grownBy w' r) (hne : some b ≠ r) : Bx w' b m := by
  obtain ⟨h0, h1, h2, h3⟩ := h
  exact ⟨hg.cell (a := ⟨b, 0, none⟩) h0 hne, hg.cell (a := ⟨b, 1, none⟩) h1 hne, hg.cell (a := ⟨b, 2, none⟩) h2 hne, hg.cell (a := ⟨b, 3, none⟩) h3 hne⟩
theorem sBx3' {w : World} {b : Nat} {x y : Int} {v : Value} (h : Bx3 w b x y v) : Bx3 w b x y v ∧ w.cell? ⟨b, 0, none⟩ = some (.int .i64 x) ∧ w.cell? ⟨b, 1, none⟩ = some (.int .i64 y) ∧ w.cell? ⟨b, 2, none⟩ = some v := ⟨h, h⟩
set_option maxRecDepth 100000 in
set_option maxHeartbeats 1000000 in
theorem implEncode (x y : Int) (a : Option Addr) (ms : List R) (cap : Nat) (w : World) (hm : ms.length ≤ 1048576) (hr : RM w a ms) :
    Calls Try.prog 22 #[.agg #[.int .i64 x, .int .i64 y, .slice a ms.length cap]] w fun e w' => e = .returned (.tuple #[.string (encS x y ms), .int .i64 (encE x y ms)]) ∧ Below w.heap.size w w' := by
  have HA : Hid (Below w.heap.size w (w.alloc (.cells #[.int .i64 x, .int .i64 y, .slice a ms.length cap] 38))) := hide ((Below.refl _ _).alloc (Nat.le_refl _) _)
  have HX : Hid (Bx3 (w.alloc (.cells #[.int .i64 x, .int .i64 y, .slice a ms.length cap] 38)) w.heap.size x y (.slice a ms.length cap)) := hide (bx3_new w x y _ _)
  have HR := hide ((hr).below (unhide HA))
  clear hr
  cases hh : helB x y ms
  · have h1 : encS x y ms = ⟨#[]⟩ := by unfold encS; rw [if_neg (by simp [hh])]
    have h2 : encE x y ms = 1 := by unfold encE; rw [if_neg (by simp [hh])]
    rw [h1, h2]
    have HH := hide hh
    clear h1 h2 hh
    go_enter Try.func22, Try.ntmps22
    go_wp2_with fail
    refine (implOK x y a ms cap _ hm (unhide HR)).mono ?_
    rintro e w1 ⟨rfl, b1⟩
    rw [unhide HH]
    have hb1 := hide ((unhide HA).trans (b1.mono (unhide HA).size))
    clear b1
    go_wp2_with fail
    go_ret2
    exact ⟨rfl, unhide hb1⟩
  have h1 : encS x y ms = strOfNums (helNums x y ms ms.length) := by unfold encS; rw [if_pos hh]
  have h2 : encE x y ms = 0 := by unfold encE; rw [if_pos hh]
  rw [h1, h2]
  have h8 := hel_len hh
  obtain ⟨x0, x1⟩ := hel_will hh
  obtain ⟨y0, y1⟩ := hel_valid hh
  have htc := Tim.tcode_lt (n := y) (by omega)
  have HOK : Hid (∀ j, j < ms.length → okN (ms.getD j R.zero) = true) := hide (fun j hj => Ri.all_ok (hel_all hh) hj)
  have HH := hide hh
  clear h1 h2 hh
  go_enter Try.func22, Try.ntmps22
  go_wp2_with fail
  refine (implOK x y a ms cap _ hm (unhide HR)).mono ?_
  rintro e w1 ⟨rfl, b1⟩
  rw [unhide HH]
  have HX1 := hide ((unhide HX).below b1)
  have HR1 := hide ((unhide HR).below b1)
  have hb1 := hide ((unhide HA).trans (b1.mono (unhide HA).size))
  clear b1 HX HR HA
  obtain ⟨i0, hi, hz0, hz1, hz2⟩ := Nu.info5
  obtain ⟨wm, hmk, hmown, hmgrow⟩ := run_make_own (P := Try.prog) w1 w1.heap.size 77 5 i0 (.int .u8 0) 1 Try.underlying77 hi hz0 hz1 .i64 .i64 (3 + ms.length * 4) (by rw [hz2]; omega) (by unfold maxLen; omega) (Nat.le_refl _)
  have ecast : ((3 + ms.length * 4 : Nat) : Int) = 3 + (ms.length : Int) * 4 := by omega
  rw [ecast] at hmk
  clear ecast hi hz0 hz1 hz2
  have DM : Hid (Below w1.heap.size w1 wm) := hide ((Below.refl _ _).grown hmgrow (Nat.le_refl _) (fun k hk => by cases hk))
  have OM : Hid (wm.ownsRow w1.heap.size 5 1 (.slice (some ⟨w1.heap.size, 0, none⟩) 0 (3 + ms.length * 4)) ([] : List Int).length (U8.fl [])) := hide hmown
  have XM := hide ((unhide HX1).below (unhide DM))
  clear hmown hmgrow
  have hbx := (unhide HX1).2.2
  have hwl := (unhide HX1).lt
  have u1 : IntKind.u8.wrap x = x := IntWalk.u8_in _ (by omega)
  have u2 : IntKind.u8.wrap (Tim.tcode y : Int) = (Tim.tcode y : Int) := IntWalk.u8_in _ (by omega)
  have u3 : IntKind.u8.wrap (ms.length : Int) = (ms.length : Int) := IntWalk.u8_in _ (by omega)
  go_wp2_with fail
  clear hbx hmk
  refine wp_region_noPanic ?_
  refine wp_region_held_drew (S := fun w' => Bx3 w' w.heap.size x y (.slice a ms.length cap) ∧ w'.cell? ⟨w.heap.size, 0, none⟩ = some (.int .i64 x) ∧ w'.cell? ⟨w.heap.size, 1, none⟩ = some (.int .i64 y) ∧ w'.cell? ⟨w.heap.size, 2, none⟩ = some (.slice a ms.length cap)) (by kernel_rfl) (sBx3' (unhide XM).drew) (fun hHeld => ?_)
  (refine Rg.tk (i := 0) (d := 16) (v := ?_) rfl rfl (by kernel_rfl) (by kernel_rfl) (by kernel_rfl) (fun _ _ _ h => h) (by rfl) ?_ (by assumption) ?_; rotate_left; (focus (intro w0 hSw; (try dsimp only at hSw); go_simp; (try with_reducible rfl))); (try simp only [Act.put, List.setIfInBounds_toArray, List.set_cons_zero, List.set_cons_succ]))
  (refine Rg.tk (i := 1) (d := 17) (v := ?_) rfl rfl (by kernel_rfl) (by kernel_rfl) (by kernel_rfl) (fun _ _ _ h => h) (by rfl) ?_ (by assumption) ?_; rotate_left; (focus (intro w0 hSw; (try dsimp only at hSw); go_simp; (try with_reducible rfl))); (try simp only [Act.put, List.setIfInBounds_toArray, List.set_cons_zero, List.set_cons_succ]))
  (refine Rg.tk (i := 2) (d := 18) (v := ?_) rfl rfl (by kernel_rfl) (by kernel_rfl) (by kernel_rfl) (fun _ _ _ h => h) (by rfl) ?_ (by assumption) ?_; rotate_left; (focus (intro w0 hSw; (try dsimp only at hSw); go_simp; (try with_reducible rfl))); (try simp only [Act.put, List.setIfInBounds_toArray, List.set_cons_zero, List.set_cons_succ]))
  (refine Rg.tk (i := 3) (d := 19) (v := ?_) rfl rfl (by kernel_rfl) (by kernel_rfl) (by kernel_rfl) (fun _ _ _ h => h) (by rfl) ?_ (by assumption) ?_; rotate_left; (focus (intro w0 hSw; (try dsimp only at hSw); go_simp; (try with_reducible rfl))); (try simp only [Act.put, List.setIfInBounds_toArray, List.set_cons_zero, List.set_cons_succ]))
  (refine Rg.tk (i := 4) (d := 20) (v := ?_) rfl rfl (by kernel_rfl) (by kernel_rfl) (by kernel_rfl) (fun _ _ _ h => h) (by rfl) ?_ (by assumption) ?_; rotate_left; (focus (intro w0 hSw; (try dsimp only at hSw); go_simp; (try with_reducible rfl))); (try simp only [Act.put, List.setIfInBounds_toArray, List.set_cons_zero, List.set_cons_succ]))
  (refine Rg.tk (i := 5) (d := 21) (v := ?_) rfl rfl (by kernel_rfl) (by kernel_rfl) (by kernel_rfl) (fun _ _ _ h => h) (by rfl) ?_ (by assumption) ?_; rotate_left; (focus (intro w0 hSw; (try dsimp only at hSw); go_simp; (try with_reducible rfl))); (try simp only [Act.put, List.setIfInBounds_toArray, List.set_cons_zero, List.set_cons_succ]))
  (refine Rg.tk (i := 8) (d := 24) (v := ?_) rfl rfl (by kernel_rfl) (by kernel_rfl) (by kernel_rfl) (fun _ _ _ h => h) (by rfl) ?_ (by assumption) ?_; rotate_left; (focus (intro w0 hSw; (try dsimp only at hSw); go_simp; (try with_reducible rfl))); (try simp only [Act.put, List.setIfInBounds_toArray, List.set_cons_zero, List.set_cons_succ]))
  (refine Rg.tk (i := 9) (d := 25) (v := ?_) rfl rfl (by kernel_rfl) (by kernel_rfl) (by kernel_rfl) (fun _ _ _ h => h) (by rfl) ?_ (by assumption) ?_; rotate_left; (focus (intro w0 hSw; (try dsimp only at hSw); go_simp; (try with_reducible rfl))); (try simp only [Act.put, List.setIfInBounds_toArray, List.set_cons_zero, List.set_cons_succ]))
  (refine Rg.tk (i := 10) (d := 26) (v := ?_) rfl rfl (by kernel_rfl) (by kernel_rfl) (by kernel_rfl) (fun _ _ _ h => h) (by rfl) ?_ (by assumption) ?_; rotate_left; (focus (intro w0 hSw; (try dsimp only at hSw); go_simp; (try with_reducible rfl))); (try simp only [Act.put, List.setIfInBounds_toArray, List.set_cons_zero, List.set_cons_succ]))
  (refine Rg.tk (i := 11) (d := 27) (v := ?_) rfl rfl (by kernel_rfl) (by kernel_rfl) (by kernel_rfl) (fun _ _ _ h => h) (by rfl) ?_ (by assumption) ?_; rotate_left; (focus (intro w0 hSw; (try dsimp only at hSw); go_simp; (try with_reducible rfl))); (try simp only [Act.put, List.setIfInBounds_toArray, List.set_cons_zero, List.set_cons_succ]))
  (refine wpAnyH_ready (rs := [6]) (by kernel_rfl) (by simp) ?_; refine AllReadyH.cons (o := _) rfl (fun K hK => ?_) AllReadyH.nil; go_simp)
  refine (Tim.leastTime y (by omega) _).mono ?_
  rintro e w2 ⟨rfl, b2⟩
  have O2 := hide (U8.own_below (unhide OM).drew b2)
  have X2 := hide ((unhide XM).drew.below b2)
  have D2 := hide ((unhide DM).drew.trans (b2.mono (by show w1.heap.size ≤ wm.heap.size; exact (unhide DM).size)))
  clear b2 hHeld
  refine hK.out _ _ (sBx3' (unhide X2)) (fun hHeld => ?_)
  clear hK K
  (try simp only [Act.put, List.setIfInBounds_toArray, List.set_cons_zero, List.set_cons_succ])
  (refine Rg.tk (i := 7) (d := 23) (v := ?_) rfl rfl (by kernel_rfl) (by kernel_rfl) (by kernel_rfl) (fun _ _ _ h => h) (by rfl) ?_ (by assumption) ?_; rotate_left; (focus (intro w0 hSw; (try dsimp only at hSw); go_simp; (try with_reducible rfl))); (try simp only [Act.put, List.setIfInBounds_toArray, List.set_cons_zero, List.set_cons_succ]))
  (refine wpAnyH_ready (rs := [12]) (by kernel_rfl) (by simp) ?_; refine AllReadyH.cons (o := _) rfl (fun K hK => ?_) AllReadyH.nil; go_simp)
  have O3 := hide ((unhide O2).alloc (.cells #[.int .u8 x, .int .u8 (Tim.tcode y : Int), .int .u8 (ms.length : Int)] 5))
  have X3 := hide ((unhide X2).below ((Below.refl _ _).alloc (Nat.le_refl _) (.cells #[.int .u8 x, .int .u8 (Tim.tcode y : Int), .int .u8 (ms.length : Int)] 5)))
  have D3 := hide ((unhide D2).alloc (unhide D2).size (.cells #[.int .u8 x, .int .u8 (Tim.tcode y : Int), .int .u8 (ms.length : Int)] 5))
  have R3 := hide (U8.r8_new w2 [x, (Tim.tcode y : Int), (ms.length : Int)] #[.int .u8 x, .int .u8 (Tim.tcode y : Int), .int .u8 (ms.length : Int)] rfl)
  clear hHeld
  refine hK.out _ _ (sBx3' (unhide X3)) (fun hHeld => ?_)
  clear hK K
  (try simp only [Act.put, List.setIfInBounds_toArray, List.set_cons_zero, List.set_cons_succ])
  (refine wpAnyH_ready (rs := [13]) (by kernel_rfl) (by simp) ?_; refine AllReadyH.cons (o := _) rfl (fun K hK => ?_) AllReadyH.nil; rw [if_pos (by rfl)])
  refine U8.wp_ap (unhide O3) w2.heap.size 0 3 3 [x, (Tim.tcode y : Int), (ms.length : Int)] rfl (unhide R3) (by simp) (unhide D3).size _ _ rfl rfl rfl rfl ?_
  intro v4 w4 o4 g4
  have O4 : Hid (w4.ownsRow w1.heap.size 5 1 v4 (helNums x y ms 0).length (U8.fl (helNums x y ms 0))) := hide (by rw [helNums_zero]; exact o4)
  have D4 := hide (U8.below_own (unhide D3) (unhide O3) g4 (Nat.le_refl _) (unhide D3).size)
  have X4 := hide ((unhide HX1).under (unhide D4) hwl)
  clear o4 g4 hHeld
  refine hK.out _ _ (sBx3' (unhide X4)) (fun hHeld => ?_)
  clear hK K
  (try simp only [Act.put, List.setIfInBounds_toArray, List.set_cons_zero, List.set_cons_succ])
  (refine Rg.tk (i := 14) (d := 4) (v := ?_) rfl rfl (by kernel_rfl) (by kernel_rfl) (by kernel_rfl) (fun _ _ _ h => h) (by rfl) ?_ (by assumption) ?_; rotate_left; (focus (intro w0 hSw; (try dsimp only at hSw); go_simp; (try with_reducible rfl))); (try simp only [Act.put, List.setIfInBounds_toArray, List.set_cons_zero, List.set_cons_succ]))
  refine wpAnyH_done (by kernel_rfl) (NoPanic.normal ?_) _
  clear hHeld O2 O3 OM X2 X3 D2 D3 R3 DM XM
  generalize hN : ms.length = n at *
  have HN := hide hN
  clear hN
  have hbx := (unhide X4).2.2
  go_wp2_with fail
  clear hbx u1 u2 u3
  go_loopw [4, 33] (fun v i wr => ∃ j : Nat, j ≤ n ∧ i = .int .i64 j ∧ Hid (wr.ownsRow w1.heap.size 5 1 v (helNums x y ms j).length (U8.fl (helNums x y ms j))) ∧ Hid (Below w1.heap.size w1 wr)) (fun _ i _ => n - (intOf i).toNat)
  case atStart => exact ⟨0, by omega, rfl, O4, D4⟩
  case round =>
    obtain ⟨j, hj, rfl, how, hbl⟩ := hrel
    by_cases hlt : (j : Int) < (n : Int)
    · have k0 : (0 : Int) ≤ (j : Int) := by omega
      have hlen : j < ms.length := by rw [unhide HN]; omega
      rcases (unhide HR1).below (by exact (unhide hbl)) with e0 | ⟨g, off, rfl, hc⟩
      · exfalso; rw [e0] at hlen; simp at hlen
      have hA := hc j hlen
      clear hc
      have hok := unhide HOK j (by omega)
      obtain ⟨a0, a1⟩ := ok_ad hok
      obtain ⟨s0, s1⟩ := ok_st hok
      obtain ⟨m0, m1⟩ := ok_mt hok
      have hmc := (Mtr.mcode_is (n := (ms.getD j R.zero).mt) (by omega) (by omega)).1
      have hzl := helNums_len x y ms j
      have hz : (helNums x y ms j).length ≤ 35 := by omega
      have hsz := (unhide hbl).size
      have hrow : ∀ k, u4.ownBlock = some k → k < wr.heap.size := fun k hk => ((unhide how).lt k hk).2
      have HROW := hide hrow
      clear hrow
      have Y0 := hide (bx_new wr (ms.getD j R.zero) 49)
      have E0 := hide ((unhide hbl).alloc hsz (.cells #[.int .i64 (ms.getD j R.zero).ad, .int .i64 (ms.getD j R.zero).st, .int .i64 (ms.getD j R.zero).mt, .bool (ms.getD j R.zero).mp] 49))
      have P0 := hide ((unhide how).alloc (.cells #[.int .i64 (ms.getD j R.zero).ad, .int .i64 (ms.getD j R.zero).st, .int .i64 (ms.getD j R.zero).mt, .bool (ms.getD j R.zero).mp] 49))
      have HST : Hid (helNums x y ms (j + 1) = helNums x y ms j ++ [(ms.getD j R.zero).ad, (ms.getD j R.zero).st + 128 * bitI (ms.getD j R.zero).mp] ++ [(Mtr.mcode (ms.getD j R.zero).mt : Int) / 256, (Mtr.mcode (ms.getD j R.zero).mt : Int) % 256]) := hide (by rw [helNums_succ x y hlen]; simp [nbNums])
      clear hok
      generalize ms.getD j R.zero = m at *
      obtain ⟨ad, st, mt, mp⟩ := m
      obtain ⟨c0, c1, c2, c3⟩ := hA
      dsimp only at c0 c1 c2 c3 a0 a1 s0 s1 m0 m1 hmc HST Y0 E0 P0
      generalize hzz : helNums x y ms j = zs at *
      clear hzz
      have u1 : IntKind.u8.wrap ad = ad := IntWalk.u8_in _ (by omega)
      go_wp2_with fail
      have hW1 : (wr.alloc (.cells #[.int .i64 ad, .int .i64 st, .int .i64 mt, .bool mp] 49)).heap.size = wr.heap.size + 1 := by simp
      generalize hW : wr.alloc (.cells #[.int .i64 ad, .int .i64 st, .int .i64 mt, .bool mp] 49) = W1 at *
      clear hW
      refine wp_region_noPanic ?_
      refine wp_region_held_drew (S := fun w' => Bx w' wr.heap.size ⟨ad, st, mt, mp⟩ ∧ w'.cell? ⟨wr.heap.size, 0, none⟩ = some (.int .i64 ad) ∧ w'.cell? ⟨wr.heap.size, 1, none⟩ = some (.int .i64 st) ∧ w'.cell? ⟨wr.heap.size, 2, none⟩ = some (.int .i64 mt) ∧ w'.cell? ⟨wr.heap.size, 3, none⟩ = some (.bool mp)) (by kernel_rfl) (sBox (unhide Y0).drew) (fun hHeld => ?_)
      (refine Rg.tk (i := 0) (d := 37) (v := ?_) rfl rfl (by kernel_rfl) (by kernel_rfl) (by kernel_rfl) (fun _ _ _ h => h) (by rfl) ?_ (by assumption) ?_; rotate_left; (focus (intro w0 hSw; (try dsimp only at hSw); go_simp; (try with_reducible rfl))); (try simp only [Act.put, List.setIfInBounds_toArray, List.set_cons_zero, List.set_cons_succ]))
      (refine Rg.tk (i := 1) (d := 38) (v := ?_) rfl rfl (by kernel_rfl) (by kernel_rfl) (by kernel_rfl) (fun _ _ _ h => h) (by rfl) ?_ (by assumption) ?_; rotate_left; (focus (intro w0 hSw; (try dsimp only at hSw); go_simp; (try with_reducible rfl))); (try simp only [Act.put, List.setIfInBounds_toArray, List.set_cons_zero, List.set_cons_succ]))
      (refine Rg.tk (i := 2) (d := 39) (v := ?_) rfl rfl (by kernel_rfl) (by kernel_rfl) (by kernel_rfl) (fun _ _ _ h => h) (by rfl) ?_ (by assumption) ?_; rotate_left; (focus (intro w0 hSw; (try dsimp only at hSw); go_simp; (try with_reducible rfl))); (try simp only [Act.put, List.setIfInBounds_toArray, List.set_cons_zero, List.set_cons_succ]))
      (refine Rg.tk (i := 3) (d := 40) (v := ?_) rfl rfl (by kernel_rfl) (by kernel_rfl) (by kernel_rfl) (fun _ _ _ h => h) (by rfl) ?_ (by assumption) ?_; rotate_left; (focus (intro w0 hSw; (try dsimp only at hSw); go_simp; (try with_reducible rfl))); (try simp only [Act.put, List.setIfInBounds_toArray, List.set_cons_zero, List.set_cons_succ]))
      (refine Rg.tk (i := 4) (d := 41) (v := ?_) rfl rfl (by kernel_rfl) (by kernel_rfl) (by kernel_rfl) (fun _ _ _ h => h) (by rfl) ?_ (by assumption) ?_; rotate_left; (focus (intro w0 hSw; (try dsimp only at hSw); go_simp; (try with_reducible rfl))); (try simp only [Act.put, List.setIfInBounds_toArray, List.set_cons_zero, List.set_cons_succ]))
      (refine wpAnyH_ready (rs := [5]) (by kernel_rfl) (by simp) ?_; refine AllReadyH.cons (o := _) rfl (fun K hK => ?_) AllReadyH.nil; go_simp)
      refine (statusByte ad st mt mp s0 s1 _).mono ?_
      rintro e w5 ⟨rfl, b5⟩
      have P5 := hide (U8.own_below (unhide P0).drew b5)
      have Y5 := hide ((unhide Y0).drew.below b5)
      have E5 := hide ((unhide E0).drew.trans (b5.mono (by show w1.heap.size ≤ W1.heap.size; exact (unhide E0).size)))
      have hz5 : wr.heap.size < w5.heap.size := World.block_lt_of_cell? _ _ (unhide Y5).1
      clear b5 hHeld
      refine hK.out _ _ (sBox (unhide Y5)) (fun hHeld => ?_)
      clear hK K
      (try simp only [Act.put, List.setIfInBounds_toArray, List.set_cons_zero, List.set_cons_succ])
      (refine wpAnyH_ready (rs := [6]) (by kernel_rfl) (by simp) ?_; refine AllReadyH.cons (o := _) rfl (fun K hK => ?_) AllReadyH.nil; go_simp)
      have P6 := hide ((unhide P5).alloc (.cells #[.int .u8 ad, .int .u8 (st + 128 * bitI mp)] 5))
      have Y6 := hide ((unhide Y5).below ((Below.refl _ _).alloc (Nat.le_refl _) (.cells #[.int .u8 ad, .int .u8 (st + 128 * bitI mp)] 5)))
      have E6 := hide ((unhide E5).alloc (unhide E5).size (.cells #[.int .u8 ad, .int .u8 (st + 128 * bitI mp)] 5))
      have R6 := hide (U8.r8_new w5 [ad, st + 128 * bitI mp] #[.int .u8 ad, .int .u8 (st + 128 * bitI mp)] rfl)
      clear hHeld
      refine hK.out _ _ (sBox (unhide Y6)) (fun hHeld => ?_)
      clear hK K
      (try simp only [Act.put, List.setIfInBounds_toArray, List.set_cons_zero, List.set_cons_succ])
      (refine wpAnyH_ready (rs := [7]) (by kernel_rfl) (by simp) ?_; refine AllReadyH.cons (o := _) rfl (fun K hK => ?_) AllReadyH.nil; rw [if_pos (by rfl)])
      refine U8.wp_ap (unhide P6) w5.heap.size 0 2 2 [ad, st + 128 * bitI mp] rfl (unhide R6) (by simp; omega) (unhide E6).size _ _ rfl rfl rfl rfl ?_
      intro v7 w7 o7 g7
      have P7 := hide o7
      have E7 := hide (U8.below_own (unhide E6) (unhide P6) g7 (Nat.le_refl _) (unhide E6).size)
      have Y7 := hide ((unhide Y6).grown g7 (fun h => by have := unhide HROW _ h.symm; omega))
      clear o7 g7 hHeld
      refine hK.out _ _ (sBox (unhide Y7)) (fun hHeld => ?_)
      clear hK K
      (try simp only [Act.put, List.setIfInBounds_toArray, List.set_cons_zero, List.set_cons_succ])
      (refine Rg.tk (i := 8) (d := 4) (v := ?_) rfl rfl (by kernel_rfl) (by kernel_rfl) (by kernel_rfl) (fun _ _ _ h => h) (by rfl) ?_ (by assumption) ?_; rotate_left; (focus (intro w0 hSw; (try dsimp only at hSw); go_simp; (try with_reducible rfl))); (try simp only [Act.put, List.setIfInBounds_toArray, List.set_cons_zero, List.set_cons_succ]))
      refine wpAnyH_done (by kernel_rfl) (NoPanic.normal ?_) _
      clear hHeld P0 P5 P6 E0 E5 E6 Y0 Y5 Y6 R6
      obtain ⟨z0, z1, z2, z3⟩ := unhide Y7
      dsimp only at z0 z1 z2 z3
      go_wp2_with fail
      refine (Mtr.leastMetric mt (by omega) (by omega) _).mono ?_
      rintro e w8 ⟨rfl, rfl⟩
      clear z0 z1 z2 z3
      go_wp2_with fail
      refine (Nu.appendTwo w1.heap.size _ _ _ (Mtr.mcode mt : Int) (by omega) (by omega) _ (unhide P7) (by simp; omega) (unhide E7).size).mono ?_
      rintro e w9 ⟨g9, c9, rfl, o9, gr9, _⟩
      have E9 := hide (U8.below_own (unhide E7) (unhide P7) gr9 (Nat.le_refl _) (unhide E7).size)
      have P9 : Hid (w9.ownsRow w1.heap.size 5 1 (.slice (some ⟨g9, 0, none⟩) ((zs ++ [ad, st + 128 * bitI mp]).length + 2) c9) (helNums x y ms (j + 1)).length (U8.fl (helNums x y ms (j + 1)))) := hide (by rw [unhide HST]; exact U8.own_two o9)
      clear o9 gr9
      go_wp2_with fail
      go_roundw
      case rel => exact ⟨j + 1, by omega, by go_num, by have := unhide P9; rw [List.length_append] at this; exact hide this, E9⟩
      case measure => simp [intOf]; omega
    · obtain rfl : j = n := by omega
      have ej : helNums x y ms j = helNums x y ms ms.length := by rw [unhide HN]
      rw [ej] at how
      obtain ⟨gf, cf, rfl, hcf⟩ := U8.form (unhide how) (helNums_pos _ _ _ _)
      have HF := hide ((unhide hb1).trans ((unhide hbl).mono (unhide hb1).size))
      have hconv := run_convert_bytes_arg (P := Try.prog) wr 77 5 Try.underlying77 Try.underlying5 gf 0 _ cf (helNums x y ms ms.length) rfl hcf 9 Try.underlying9
      clear hcf ej how
      go_wp2_with fail
      go_ret2
      exact ⟨rfl, unhide HF⟩
end Hl
end Go.Proofs.Ytmelbilepfnmjak
