/-
  Contracts over hellos: the text of one (the program's and the model's).
-/
import Derived.Test.YtmelbilepfnmjakHelC
import Derived.Test.YtmelbilepfnmjakU8
namespace Go.Proofs.Ytmelbilepfnmjak
open Go.ChangeShapes Go.WideShapes Go.ChangeAt Go.RowKit
set_option linter.unusedVariables false
set_option linter.unusedSimpArgs false
attribute [local go_sem ↓] Go.wp_at_zero Go.wp_at_succ
attribute [local go_sem] Go.strOfNums_size ByteArray.size_append
namespace Hl
open W1 Nb
def bitI (b : Bool) : Int := if b = true then 1 else 0
/-- The numbers of a neighbor's bytes, of a hello's first ones. -/
def nbNums (m : R) : List Int := [m.ad, m.st + 128 * bitI m.mp, (Mtr.mcode m.mt : Int) / 256, (Mtr.mcode m.mt : Int) % 256]
def helNums (x y : Int) (ms : List R) (j : Nat) : List Int := [x, (Tim.tcode y : Int), (ms.length : Int)] ++ (ms.take j).flatMap nbNums
def encS (x y : Int) (ms : List R) : ByteArray := if helB x y ms = true then strOfNums (helNums x y ms ms.length) else ⟨#[]⟩
def encE (x y : Int) (ms : List R) : Int := if helB x y ms = true then 0 else 1
theorem helNums_zero (x y : Int) (ms : List R) : helNums x y ms 0 = [x, (Tim.tcode y : Int), (ms.length : Int)] := by simp [helNums]
theorem helNums_succ (x y : Int) {ms : List R} {j : Nat} (h : j < ms.length) : helNums x y ms (j + 1) = helNums x y ms j ++ nbNums (ms.getD j R.zero) := by
  unfold helNums
  rw [List.take_add_one, List.getElem?_eq_getElem h, List.flatMap_append, List.getD_eq_getElem?_getD, List.getElem?_eq_getElem h]; simp
theorem helNums_len (x y : Int) (ms : List R) (j : Nat) : (helNums x y ms j).length ≤ 3 + j * 4 := by
  unfold helNums
  have : ∀ l : List R, (l.flatMap nbNums).length = l.length * 4 := by
    intro l; induction l with
    | nil => rfl
    | cons m t ih => rw [List.flatMap_cons, List.length_append, ih]; simp [nbNums]; omega
  rw [List.length_append, this, List.length_take]; simp; omega
theorem helNums_pos (x y : Int) (ms : List R) (j : Nat) : 0 < (helNums x y ms j).length := by unfold helNums; simp
set_option maxHeartbeats 1000000 in
theorem statusByte (ad st mt : Int) (mp : Bool) (h0 : 0 ≤ st) (h1 : st ≤ 2) (w : World) :
    Calls Try.prog 56 #[.agg #[.int .i64 ad, .int .i64 st, .int .i64 mt, .bool mp]] w fun e w' => e = .returned (.int .u8 (st + 128 * bitI mp)) ∧ Below w.heap.size w w' := by
  have h3 : st = 0 ∨ st = 1 ∨ st = 2 := by omega
  rcases h3 with rfl | rfl | rfl
  all_goals cases mp
  all_goals
    go_enter Try.func56, Try.ntmps56
    go_wp2
    go_ret
    exact ⟨ret_int (by first | rfl | decide), (Below.refl _ _).alloc (Nat.le_refl _) _⟩
theorem l01Bit (b : Bool) (w : World) : Calls Try.prog 75 #[.bool b] w fun e w' => e = .returned (.int .i64 (bitI b)) ∧ w' = w := by
  cases b
  all_goals
    go_enter Try.func75, Try.ntmps75
    go_wp2
    go_ret
    exact ⟨rfl, rfl⟩
theorem sBx3 {w : World} {b : Nat} {x y : Int} {v : Value} (h : Bx3 w b x y v) : Bx3 w b x y v ∧ w.cell? ⟨b, 0, none⟩ = some (.int .i64 x) ∧ w.cell? ⟨b, 1, none⟩ = some (.int .i64 y) ∧ w.cell? ⟨b, 2, none⟩ = some v := ⟨h, h⟩
set_option maxRecDepth 100000 in
set_option maxHeartbeats 1000000 in
theorem l04Encode (x y : Int) (a : Option Addr) (ms : List R) (cap : Nat) (w : World) (hh : helB x y ms = true) (hr : RM w a ms) :
    Calls Try.prog 54 #[.agg #[.int .i64 x, .int .i64 y, .slice a ms.length cap]] w fun e w' => e = .returned (.string (strOfNums (helNums x y ms ms.length))) ∧ Below w.heap.size w w' := by
  have h8 := hel_len hh
  obtain ⟨x0, x1⟩ := hel_will hh
  obtain ⟨y0, y1⟩ := hel_valid hh
  have htc := Tim.tcode_lt (n := y) (by omega)
  have HOK : Hid (∀ j, j < ms.length → okN (ms.getD j R.zero) = true) := hide (fun j hj => Ri.all_ok (hel_all hh) hj)
  clear hh
  have HBA : Hid (Below w.heap.size w (w.alloc (.cells #[.int .i64 x, .int .i64 y, .slice a ms.length cap] 38))) := hide ((Below.refl _ _).alloc (Nat.le_refl _) _)
  have HX : Hid (Bx3 (w.alloc (.cells #[.int .i64 x, .int .i64 y, .slice a ms.length cap] 38)) w.heap.size x y (.slice a ms.length cap)) := hide (bx3_new w x y _ _)
  have HR := hide hr
  clear hr
  have H0 := hide (helNums_zero x y ms)
  go_enter Try.func54, Try.ntmps54
  go_wp2_with fail
  generalize hW : w.alloc (.cells #[.int .i64 x, .int .i64 y, .slice a ms.length cap] 38) = W0 at *
  clear hW
  refine wp_region_noPanic ?_
  refine wp_region_held_drew (S := fun w' => Bx3 w' w.heap.size x y (.slice a ms.length cap) ∧ w'.cell? ⟨w.heap.size, 0, none⟩ = some (.int .i64 x) ∧ w'.cell? ⟨w.heap.size, 1, none⟩ = some (.int .i64 y) ∧ w'.cell? ⟨w.heap.size, 2, none⟩ = some (.slice a ms.length cap)) (by kernel_rfl) (sBx3 (unhide HX).drew) (fun hHeld => ?_)
  (refine Rg.tk (i := 0) (d := 6) (v := ?_) rfl rfl (by kernel_rfl) (by kernel_rfl) (by kernel_rfl) (fun _ _ _ h => h) (by rfl) ?_ (by assumption) ?_; rotate_left; (focus (intro w0 hSw; (try dsimp only at hSw); go_simp; (try with_reducible rfl))); (try simp only [Act.put, List.setIfInBounds_toArray, List.set_cons_zero, List.set_cons_succ]))
  (refine Rg.tk (i := 1) (d := 7) (v := ?_) rfl rfl (by kernel_rfl) (by kernel_rfl) (by kernel_rfl) (fun _ _ _ h => h) (by rfl) ?_ (by assumption) ?_; rotate_left; (focus (intro w0 hSw; (try dsimp only at hSw); go_simp; (try with_reducible rfl))); (try simp only [Act.put, List.setIfInBounds_toArray, List.set_cons_zero, List.set_cons_succ]))
  (refine Rg.tk (i := 3) (d := 9) (v := ?_) rfl rfl (by kernel_rfl) (by kernel_rfl) (by kernel_rfl) (fun _ _ _ h => h) (by rfl) ?_ (by assumption) ?_; rotate_left; (focus (intro w0 hSw; (try dsimp only at hSw); go_simp; (try with_reducible rfl))); (try simp only [Act.put, List.setIfInBounds_toArray, List.set_cons_zero, List.set_cons_succ]))
  (refine Rg.tk (i := 4) (d := 10) (v := ?_) rfl rfl (by kernel_rfl) (by kernel_rfl) (by kernel_rfl) (fun _ _ _ h => h) (by rfl) ?_ (by assumption) ?_; rotate_left; (focus (intro w0 hSw; (try dsimp only at hSw); go_simp; (try with_reducible rfl))); (try simp only [Act.put, List.setIfInBounds_toArray, List.set_cons_zero, List.set_cons_succ]))
  (refine Rg.tk (i := 8) (d := 14) (v := ?_) rfl rfl (by kernel_rfl) (by kernel_rfl) (by kernel_rfl) (fun _ _ _ h => h) (by rfl) ?_ (by assumption) ?_; rotate_left; (focus (intro w0 hSw; (try dsimp only at hSw); go_simp; (try with_reducible rfl))); (try simp only [Act.put, List.setIfInBounds_toArray, List.set_cons_zero, List.set_cons_succ]))
  (refine Rg.tk (i := 9) (d := 15) (v := ?_) rfl rfl (by kernel_rfl) (by kernel_rfl) (by kernel_rfl) (fun _ _ _ h => h) (by rfl) ?_ (by assumption) ?_; rotate_left; (focus (intro w0 hSw; (try dsimp only at hSw); go_simp; (try with_reducible rfl))); (try simp only [Act.put, List.setIfInBounds_toArray, List.set_cons_zero, List.set_cons_succ]))
  (refine Rg.tk (i := 10) (d := 16) (v := ?_) rfl rfl (by kernel_rfl) (by kernel_rfl) (by kernel_rfl) (fun _ _ _ h => h) (by rfl) ?_ (by assumption) ?_; rotate_left; (focus (intro w0 hSw; (try dsimp only at hSw); go_simp; (try with_reducible rfl))); (try simp only [Act.put, List.setIfInBounds_toArray, List.set_cons_zero, List.set_cons_succ]))
  (refine wpAnyH_ready (rs := [2]) (by kernel_rfl) (by simp) ?_; refine AllReadyH.cons (o := _) rfl (fun K hK => ?_) AllReadyH.nil; go_simp)
  refine (Nu.num1 x (by omega) (by omega) _).mono ?_
  rintro e w1 ⟨rfl, b1⟩
  have X1 := hide ((unhide HX).drew.below b1)
  have B1 := hide ((unhide HBA).drew.trans (b1.mono (unhide HBA).size))
  clear b1 hHeld
  refine hK.out _ _ (sBx3 (unhide X1)) (fun hHeld => ?_)
  clear hK K
  (try simp only [Act.put, List.setIfInBounds_toArray, List.set_cons_zero, List.set_cons_succ])
  (refine wpAnyH_ready (rs := [5]) (by kernel_rfl) (by simp) ?_; refine AllReadyH.cons (o := _) rfl (fun K hK => ?_) AllReadyH.nil; go_simp)
  refine (Tim.l02TimeCode y (by omega) (by omega) _).mono ?_
  rintro e w2 ⟨rfl, rfl⟩
  clear hHeld
  refine hK.out _ _ (sBx3 (unhide X1)) (fun hHeld => ?_)
  clear hK K
  (try simp only [Act.put, List.setIfInBounds_toArray, List.set_cons_zero, List.set_cons_succ])
  (refine wpAnyH_ready (rs := [6]) (by kernel_rfl) (by simp) ?_; refine AllReadyH.cons (o := _) rfl (fun K hK => ?_) AllReadyH.nil; go_simp)
  refine (Nu.num1 (Tim.tcode y : Int) (by omega) (by omega) _).mono ?_
  rintro e w3 ⟨rfl, b3⟩
  have X3 := hide ((unhide X1).below b3)
  have B3 := hide ((unhide B1).trans (b3.mono (unhide B1).size))
  clear b3 hHeld
  refine hK.out _ _ (sBx3 (unhide X3)) (fun hHeld => ?_)
  clear hK K
  (try simp only [Act.put, List.setIfInBounds_toArray, List.set_cons_zero, List.set_cons_succ])
  (refine Rg.tk (i := 7) (d := 13) (v := ?_) rfl rfl (by kernel_rfl) (by kernel_rfl) (by kernel_rfl) (fun _ _ _ h => h) (by rfl) ?_ (by assumption) ?_; rotate_left; (focus (intro w0 hSw; (try dsimp only at hSw); go_simp; (try with_reducible rfl))); (try simp only [Act.put, List.setIfInBounds_toArray, List.set_cons_zero, List.set_cons_succ]))
  (refine wpAnyH_ready (rs := [11]) (by kernel_rfl) (by simp) ?_; refine AllReadyH.cons (o := _) rfl (fun K hK => ?_) AllReadyH.nil; go_simp)
  refine (Nu.num1 (ms.length : Int) (by omega) (by omega) _).mono ?_
  rintro e w4 ⟨rfl, b4⟩
  have X4 := hide ((unhide X3).below b4)
  have B4 := hide ((unhide B3).trans (b4.mono (unhide B3).size))
  clear b4 hHeld
  refine hK.out _ _ (sBx3 (unhide X4)) (fun hHeld => ?_)
  clear hK K
  (try simp only [Act.put, List.setIfInBounds_toArray, List.set_cons_zero, List.set_cons_succ])
  (refine Rg.tk (i := 12) (d := 18) (v := ?_) rfl rfl (by kernel_rfl) (by kernel_rfl) (by kernel_rfl) (fun _ _ _ h => h) (by rfl) ?_ (by assumption) ?_; rotate_left; (focus (intro w0 hSw; (try dsimp only at hSw); go_simp; (try with_reducible rfl))); (try simp only [Act.put, List.setIfInBounds_toArray, List.set_cons_zero, List.set_cons_succ]))
  (refine Rg.tk (i := 13) (d := 3) (v := ?_) rfl rfl (by kernel_rfl) (by kernel_rfl) (by kernel_rfl) (fun _ _ _ h => h) (by rfl) ?_ (by assumption) ?_; rotate_left; (focus (intro w0 hSw; (try dsimp only at hSw); go_simp; (try with_reducible rfl))); (try simp only [Act.put, List.setIfInBounds_toArray, List.set_cons_zero, List.set_cons_succ]))
  refine wpAnyH_done (by kernel_rfl) (NoPanic.normal ?_) _
  clear hHeld X1 X3 B1 B3
  have R4 := hide ((unhide HR).below (unhide B4))
  have HZ : Hid (strOfNums [x] ++ strOfNums [(Tim.tcode y : Int)] ++ strOfNums [(ms.length : Int)] = strOfNums (helNums x y ms 0)) := hide (by rw [U8.str_append, U8.str_append, unhide H0]; rfl)
  generalize hN : ms.length = n at *
  have HN := hide hN
  clear hN
  go_wp2_with fail
  rw [unhide HZ]
  go_loopw [3, 4] (fun v i wr => ∃ j : Nat, j ≤ n ∧ i = .int .i64 j ∧ v = .string (strOfNums (helNums x y ms j)) ∧ Hid (Below w4.heap.size w4 wr)) (fun _ i _ => n - (intOf i).toNat)
  case atStart => exact ⟨0, by omega, rfl, rfl, hide (Below.refl _ _)⟩
  case round =>
    obtain ⟨j, hj, rfl, rfl, hbl⟩ := hrel
    have hbx := ((unhide X4).below (unhide hbl)).2.2
    by_cases hlt : (j : Int) < (n : Int)
    · have k0 : (0 : Int) ≤ (j : Int) := by omega
      have hlen : j < ms.length := by rw [unhide HN]; omega
      rcases (unhide R4).below (by exact (unhide hbl)) with e0 | ⟨g, off, rfl, hc⟩
      · exfalso; rw [e0] at hlen; simp at hlen
      have hA := hc j hlen
      clear hc
      have hok := unhide HOK j (by omega)
      obtain ⟨a0, a1⟩ := ok_ad hok
      obtain ⟨s0, s1⟩ := ok_st hok
      obtain ⟨m0, m1⟩ := ok_mt hok
      have hmc := (Mtr.mcode_is (n := (ms.getD j R.zero).mt) (by omega) (by omega)).1
      have HST := hide (helNums_succ x y hlen)
      have hzl := helNums_len x y ms j
      have hz : (helNums x y ms j).length ≤ 35 := by omega
      have hb0 : 0 ≤ bitI (ms.getD j R.zero).mp := by unfold bitI; split <;> omega
      have hb1 : bitI (ms.getD j R.zero).mp ≤ 1 := by unfold bitI; split <;> omega
      have HBX := hide (bx_new wr (ms.getD j R.zero) 49)
      have HBL := hide ((unhide hbl).alloc (unhide hbl).size (.cells #[.int .i64 (ms.getD j R.zero).ad, .int .i64 (ms.getD j R.zero).st, .int .i64 (ms.getD j R.zero).mt, .bool (ms.getD j R.zero).mp] 49))
      have HQ : Hid (strOfNums (helNums x y ms j) ++ (strOfNums [(ms.getD j R.zero).ad] ++ strOfNums [(ms.getD j R.zero).st + 128 * bitI (ms.getD j R.zero).mp] ++ strOfNums [(Mtr.mcode (ms.getD j R.zero).mt : Int) / 256, (Mtr.mcode (ms.getD j R.zero).mt : Int) % 256]) = strOfNums (helNums x y ms (j + 1))) := hide (by rw [U8.str_append, U8.str_append, U8.str_append, unhide HST]; rfl)
      clear hok HST
      generalize ms.getD j R.zero = m at *
      obtain ⟨ad, st, mt, mp⟩ := m
      obtain ⟨c0, c1, c2, c3⟩ := hA
      dsimp only at c0 c1 c2 c3 a0 a1 s0 s1 m0 m1 hmc hb0 hb1 HQ HBX HBL
      generalize hzz : helNums x y ms j = zs at *
      clear hzz
      have hq1 : ¬ (9223372036854775807 < zs.length + (1 + 1 + 2)) := by omega
      have hq2 : ¬ (9223372036854775807 < zs.length + 4) := by omega
      have hq3 : ¬ (9223372036854775803 < zs.length) := by omega
      go_wp2_with fail
      generalize hW : wr.alloc (.cells #[.int .i64 ad, .int .i64 st, .int .i64 mt, .bool mp] 49) = W1 at *
      clear hW
      have Y0 := HBX
      have D0 := HBL
      clear HBX HBL
      refine wp_region_noPanic ?_
      refine wp_region_held_drew (S := fun w' => Bx w' wr.heap.size ⟨ad, st, mt, mp⟩ ∧ w'.cell? ⟨wr.heap.size, 0, none⟩ = some (.int .i64 ad) ∧ w'.cell? ⟨wr.heap.size, 1, none⟩ = some (.int .i64 st) ∧ w'.cell? ⟨wr.heap.size, 2, none⟩ = some (.int .i64 mt) ∧ w'.cell? ⟨wr.heap.size, 3, none⟩ = some (.bool mp)) (by kernel_rfl) (sBox (unhide Y0).drew) (fun hHeld => ?_)
      (refine Rg.tk (i := 0) (d := 31) (v := ?_) rfl rfl (by kernel_rfl) (by kernel_rfl) (by kernel_rfl) (fun _ _ _ h => h) (by rfl) ?_ (by assumption) ?_; rotate_left; (focus (intro w0 hSw; (try dsimp only at hSw); go_simp; (try with_reducible rfl))); (try simp only [Act.put, List.setIfInBounds_toArray, List.set_cons_zero, List.set_cons_succ]))
      (refine Rg.tk (i := 1) (d := 32) (v := ?_) rfl rfl (by kernel_rfl) (by kernel_rfl) (by kernel_rfl) (fun _ _ _ h => h) (by rfl) ?_ (by assumption) ?_; rotate_left; (focus (intro w0 hSw; (try dsimp only at hSw); go_simp; (try with_reducible rfl))); (try simp only [Act.put, List.setIfInBounds_toArray, List.set_cons_zero, List.set_cons_succ]))
      (refine Rg.tk (i := 2) (d := 33) (v := ?_) rfl rfl (by kernel_rfl) (by kernel_rfl) (by kernel_rfl) (fun _ _ _ h => h) (by rfl) ?_ (by assumption) ?_; rotate_left; (focus (intro w0 hSw; (try dsimp only at hSw); go_simp; (try with_reducible rfl))); (try simp only [Act.put, List.setIfInBounds_toArray, List.set_cons_zero, List.set_cons_succ]))
      (refine Rg.tk (i := 4) (d := 35) (v := ?_) rfl rfl (by kernel_rfl) (by kernel_rfl) (by kernel_rfl) (fun _ _ _ h => h) (by rfl) ?_ (by assumption) ?_; rotate_left; (focus (intro w0 hSw; (try dsimp only at hSw); go_simp; (try with_reducible rfl))); (try simp only [Act.put, List.setIfInBounds_toArray, List.set_cons_zero, List.set_cons_succ]))
      (refine Rg.tk (i := 5) (d := 36) (v := ?_) rfl rfl (by kernel_rfl) (by kernel_rfl) (by kernel_rfl) (fun _ _ _ h => h) (by rfl) ?_ (by assumption) ?_; rotate_left; (focus (intro w0 hSw; (try dsimp only at hSw); go_simp; (try with_reducible rfl))); (try simp only [Act.put, List.setIfInBounds_toArray, List.set_cons_zero, List.set_cons_succ]))
      (refine Rg.tk (i := 6) (d := 37) (v := ?_) rfl rfl (by kernel_rfl) (by kernel_rfl) (by kernel_rfl) (fun _ _ _ h => h) (by rfl) ?_ (by assumption) ?_; rotate_left; (focus (intro w0 hSw; (try dsimp only at hSw); go_simp; (try with_reducible rfl))); (try simp only [Act.put, List.setIfInBounds_toArray, List.set_cons_zero, List.set_cons_succ]))
      (refine Rg.tk (i := 7) (d := 38) (v := ?_) rfl rfl (by kernel_rfl) (by kernel_rfl) (by kernel_rfl) (fun _ _ _ h => h) (by rfl) ?_ (by assumption) ?_; rotate_left; (focus (intro w0 hSw; (try dsimp only at hSw); go_simp; (try with_reducible rfl))); (try simp only [Act.put, List.setIfInBounds_toArray, List.set_cons_zero, List.set_cons_succ]))
      (refine Rg.tk (i := 13) (d := 44) (v := ?_) rfl rfl (by kernel_rfl) (by kernel_rfl) (by kernel_rfl) (fun _ _ _ h => h) (by rfl) ?_ (by assumption) ?_; rotate_left; (focus (intro w0 hSw; (try dsimp only at hSw); go_simp; (try with_reducible rfl))); (try simp only [Act.put, List.setIfInBounds_toArray, List.set_cons_zero, List.set_cons_succ]))
      (refine Rg.tk (i := 14) (d := 45) (v := ?_) rfl rfl (by kernel_rfl) (by kernel_rfl) (by kernel_rfl) (fun _ _ _ h => h) (by rfl) ?_ (by assumption) ?_; rotate_left; (focus (intro w0 hSw; (try dsimp only at hSw); go_simp; (try with_reducible rfl))); (try simp only [Act.put, List.setIfInBounds_toArray, List.set_cons_zero, List.set_cons_succ]))
      (refine wpAnyH_ready (rs := [3]) (by kernel_rfl) (by simp) ?_; refine AllReadyH.cons (o := _) rfl (fun K hK => ?_) AllReadyH.nil; go_simp)
      refine (Nu.num1 ad (by omega) (by omega) _).mono ?_
      rintro e v1 ⟨rfl, d1⟩
      have Y1 := hide ((unhide Y0).drew.below d1)
      have D1 := hide ((unhide D0).drew.trans (d1.mono (unhide D0).size))
      clear d1
      clear hHeld
      refine hK.out _ _ (sBox (unhide Y1)) (fun hHeld => ?_)
      clear hK K
      (try simp only [Act.put, List.setIfInBounds_toArray, List.set_cons_zero, List.set_cons_succ])
      (refine wpAnyH_ready (rs := [8]) (by kernel_rfl) (by simp) ?_; refine AllReadyH.cons (o := _) rfl (fun K hK => ?_) AllReadyH.nil; go_simp)
      refine (l01Bit mp _).mono ?_
      rintro e v2 ⟨rfl, rfl⟩
      clear hHeld
      refine hK.out _ _ (sBox (unhide Y1)) (fun hHeld => ?_)
      clear hK K
      (try simp only [Act.put, List.setIfInBounds_toArray, List.set_cons_zero, List.set_cons_succ])
      generalize hbb : bitI mp = bb at *
      clear hbb
      have wb : IntKind.i64.wrap (st + IntKind.i64.wrap (128 * bb)) = st + 128 * bb := by rw [IntKind.wrap_i64, IntKind.wrap_i64]; omega
      (refine Rg.tk (i := 9) (d := 40) (v := ?_) rfl rfl (by kernel_rfl) (by kernel_rfl) (by kernel_rfl) (fun _ _ _ h => h) (by rfl) ?_ (by assumption) ?_; rotate_left; (focus (intro w0 hSw; (try dsimp only at hSw); go_simp; (try with_reducible rfl))); (try simp only [Act.put, List.setIfInBounds_toArray, List.set_cons_zero, List.set_cons_succ]))
      (refine Rg.tk (i := 10) (d := 41) (v := ?_) rfl rfl (by kernel_rfl) (by kernel_rfl) (by kernel_rfl) (fun _ _ _ h => h) (by rfl) ?_ (by assumption) ?_; rotate_left; (focus (intro w0 hSw; (try dsimp only at hSw); go_simp; (try with_reducible rfl))); (try simp only [Act.put, List.setIfInBounds_toArray, List.set_cons_zero, List.set_cons_succ]))
      (refine wpAnyH_ready (rs := [11]) (by kernel_rfl) (by simp) ?_; refine AllReadyH.cons (o := _) rfl (fun K hK => ?_) AllReadyH.nil; go_simp)
      refine (Nu.num1 (st + 128 * bb) (by omega) (by omega) _).mono ?_
      rintro e v3 ⟨rfl, d3⟩
      have Y3 := hide ((unhide Y1).below d3)
      have D3 := hide ((unhide D1).trans (d3.mono (unhide D1).size))
      clear d3
      clear hHeld
      refine hK.out _ _ (sBox (unhide Y3)) (fun hHeld => ?_)
      clear hK K
      (try simp only [Act.put, List.setIfInBounds_toArray, List.set_cons_zero, List.set_cons_succ])
      (refine Rg.tk (i := 12) (d := 43) (v := ?_) rfl rfl (by kernel_rfl) (by kernel_rfl) (by kernel_rfl) (fun _ _ _ h => h) (by rfl) ?_ (by assumption) ?_; rotate_left; (focus (intro w0 hSw; (try dsimp only at hSw); go_simp; (try with_reducible rfl))); (try simp only [Act.put, List.setIfInBounds_toArray, List.set_cons_zero, List.set_cons_succ]))
      (refine wpAnyH_ready (rs := [15]) (by kernel_rfl) (by simp) ?_; refine AllReadyH.cons (o := _) rfl (fun K hK => ?_) AllReadyH.nil; go_simp)
      refine (Mtr.l02MetricCodeE mt (by omega) (by omega) _).mono ?_
      rintro e v4 ⟨rfl, rfl⟩
      clear hHeld
      refine hK.out _ _ (sBox (unhide Y3)) (fun hHeld => ?_)
      clear hK K
      (try simp only [Act.put, List.setIfInBounds_toArray, List.set_cons_zero, List.set_cons_succ])
      (refine wpAnyH_ready (rs := [16]) (by kernel_rfl) (by simp) ?_; refine AllReadyH.cons (o := _) rfl (fun K hK => ?_) AllReadyH.nil; go_simp)
      refine (Nu.num2 (Mtr.mcode mt : Int) (by omega) (by omega) _).mono ?_
      rintro e v5 ⟨rfl, d5⟩
      have Y5 := hide ((unhide Y3).below d5)
      have D5 := hide ((unhide D3).trans (d5.mono (unhide D3).size))
      clear d5
      clear hHeld
      refine hK.out _ _ (sBox (unhide Y5)) (fun hHeld => ?_)
      clear hK K
      (try simp only [Act.put, List.setIfInBounds_toArray, List.set_cons_zero, List.set_cons_succ])
      (refine Rg.tk (i := 17) (d := 48) (v := ?_) rfl rfl (by kernel_rfl) (by kernel_rfl) (by kernel_rfl) (fun _ _ _ h => h) (by rfl) ?_ (by assumption) ?_; rotate_left; (focus (intro w0 hSw; (try dsimp only at hSw); go_simp; (try with_reducible rfl))); (try simp only [Act.put, List.setIfInBounds_toArray, List.set_cons_zero, List.set_cons_succ]))
      (refine Rg.tk (i := 18) (d := 49) (v := ?_) rfl rfl (by kernel_rfl) (by kernel_rfl) (by kernel_rfl) (fun _ _ _ h => h) (by rfl) ?_ (by assumption) ?_; rotate_left; (focus (intro w0 hSw; (try dsimp only at hSw); go_simp; (try with_reducible rfl))); (try simp only [Act.put, List.setIfInBounds_toArray, List.set_cons_zero, List.set_cons_succ]))
      (refine Rg.tk (i := 19) (d := 3) (v := ?_) rfl rfl (by kernel_rfl) (by kernel_rfl) (by kernel_rfl) (fun _ _ _ h => h) (by rfl) ?_ (by assumption) ?_; rotate_left; (focus (intro w0 hSw; (try dsimp only at hSw); go_simp; (try with_reducible rfl))); (try simp only [Act.put, List.setIfInBounds_toArray, List.set_cons_zero, List.set_cons_succ]))
      refine wpAnyH_done (by kernel_rfl) (NoPanic.normal ?_) _
      clear hHeld
      go_wp2_with fail
      rw [unhide HQ]
      go_roundw
      case rel => exact ⟨j + 1, by omega, by go_num, rfl, D5⟩
      case measure => simp [intOf]; omega
    · obtain rfl : j = n := by omega
      have HF := hide ((unhide B4).trans ((unhide hbl).mono (unhide B4).size))
      have ej : helNums x y ms j = helNums x y ms ms.length := by rw [unhide HN]
      rw [ej]
      clear ej
      go_wp2_with fail
      go_ret
      exact ⟨rfl, unhide HF⟩
end Hl
end Go.Proofs.Ytmelbilepfnmjak
