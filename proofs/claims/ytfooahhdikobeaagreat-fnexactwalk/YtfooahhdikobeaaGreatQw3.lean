/-
  Of the texts SetC, TwoH, SetD, TwoI, TopA, TopB, TwoC, TopV, StrTop: what this claim needs of them. (put together by mkprune.py)
-/
import Derived.Test.YtfooahhdikobeaaGreatQw2
import Derived.Maps.AppendAt
import Derived.Laws.NewBlocks
import Derived.Deep.QuietTactic
import Derived.BigQuiet
import Derived.OneCell
namespace Go.Proofs.YtfooahhdikobeaaGreat
open Go.ChangeShapes Go.WideShapes Go.ChangeAt Go.RowKit
set_option linter.unusedVariables false
set_option linter.unusedSimpArgs false
attribute [local go_sem ↓] Go.wp_at_zero Go.wp_at_succ
namespace St
open W1 Tu
set_option maxHeartbeats 1000000 in
theorem l03Tuple (key til val : Int) (w : World) :
    Calls Tryz.prog 178 #[.agg #[.int .i64 key, .int .i64 til, .int .i64 val]] w fun e w' => e = .returned (.bool (okR ⟨key, til, val⟩)) ∧ Below w.heap.size w w' := by
  cases h1 : inB key 0 1000000
  rotate_left
  cases h2 : inB til 0 1073741824
  rotate_left
  cases h3 : inB val 0 1073741824
  all_goals
    go_enter Tryz.func178, Tryz.ntmps178
    go_wp2_with (go_at_call 43; refine (l01In _ _ _ _).mono ?_; rintro e w' ⟨rfl, rfl⟩)
    go_ret
    refine ⟨ret_bool ?_, (Below.refl _ _).alloc (Nat.le_refl _) _⟩
    unfold okR
    simp [*]
set_option maxHeartbeats 1000000 in
theorem isTuple (key til val : Int) (w : World) :
    Calls Tryz.prog 199 #[.agg #[.int .i64 key, .int .i64 til, .int .i64 val]] w fun e w' => e = .returned (.bool (okR ⟨key, til, val⟩)) ∧ Below w.heap.size w w' := by
  cases h1 : inB key 0 1000000
  rotate_left
  cases h2 : inB til 0 1073741824
  rotate_left
  cases h3 : inB val 0 1073741824
  all_goals
    go_enter Tryz.func199, Tryz.ntmps199
    go_wp2_with (go_at_call 88; refine (within _ _ _ _).mono ?_; rintro e w' ⟨rfl, rfl⟩)
    go_ret
    refine ⟨ret_bool ?_, (Below.refl _ _).alloc (Nat.le_refl _) _⟩
    unfold okR
    simp [*]
theorem sOne {w : World} {g o : Nat} {key til val : Int} (h : At w g o ⟨key, til, val⟩) : At w g o ⟨key, til, val⟩ ∧ w.cell? ⟨g, o, none⟩ = some (.int .i64 key) ∧ w.cell? ⟨g, o + 1, none⟩ = some (.int .i64 til) ∧ w.cell? ⟨g, o + 2, none⟩ = some (.int .i64 val) := ⟨h, h⟩
theorem sTwo {w : World} {g o p : Nat} {m : R} {key til val : Int} (h : At w g o ⟨key, til, val⟩) (h' : At w g p m) :
    (At w g o ⟨key, til, val⟩ ∧ At w g p m) ∧ w.cell? ⟨g, o, none⟩ = some (.int .i64 key) ∧ w.cell? ⟨g, o + 1, none⟩ = some (.int .i64 til) ∧ w.cell? ⟨g, o + 2, none⟩ = some (.int .i64 val) ∧ w.cell? ⟨g, p, none⟩ = some (.int .i64 m.key) := ⟨⟨h, h'⟩, h.1, h.2.1, h.2.2, h'.1⟩
set_option maxRecDepth 100000 in
set_option maxHeartbeats 4000000 in
theorem specOK (a : Option Addr) (ms : List R) (cap : Nat) (w : World) (hm : ms.length ≤ 1048576) (hr : RM w a ms) :
    Calls Tryz.prog 136 #[.slice a ms.length cap] w fun e w' => e = .returned (.bool (setB ms)) ∧ Below w.heap.size w w' := by
  by_cases hbig : (4096 : Int) < ms.length
  · have hf : Hid (setB ms = false) := hide (setB_long (by omega))
    go_enter Tryz.func136, Tryz.ntmps136
    go_wp2
    go_ret
    exact ⟨ret_bool (unhide hf).symm, Below.refl _ _⟩
  have HR := hide hr
  clear hr
  generalize hN : ms.length = n at *
  have HN := hide hN
  clear hN
  go_enter Tryz.func136, Tryz.ntmps136
  go_wp2
  go_loopw [3] (fun i wr => ∃ j : Nat, j ≤ n ∧ i = .int .i64 j ∧ Hid (allB ms j = true) ∧ Hid (Below w.heap.size w wr)) (fun i _ => n - (intOf i).toNat)
  case atStart => exact ⟨0, by omega, rfl, hide (allB_zero _), hide (Below.refl _ _)⟩
  case round =>
    obtain ⟨j, hj, rfl, hrl, hbl⟩ := hrel
    by_cases hlt : (j : Int) < (n : Int)
    · have k0 : (0 : Int) ≤ (j : Int) := by omega
      have hlen : j < ms.length := by rw [unhide HN]; omega
      rcases (unhide HR).below (by exact (unhide hbl)) with e0 | ⟨g, off, rfl, hc⟩
      · exfalso; rw [e0] at hlen; simp at hlen
      have HL := hide hlen
      have hA := hc j hlen
      cases hk : okR (ms.getD j R.zero)
      · clear hc
        have HST := hide (allB_no hlen (step_bad hk))
        have HK := hide hk
        clear hk
        generalize ms.getD j R.zero = m at *
        obtain ⟨key, til, val⟩ := m
        go_wp2_with fail
        refine wp_region_noPanic ?_
        refine wp_region_held_drew (S := fun w' => At w' g (off + j * 3) ⟨key, til, val⟩ ∧ w'.cell? ⟨g, off + j * 3, none⟩ = some (.int .i64 key) ∧ w'.cell? ⟨g, off + j * 3 + 1, none⟩ = some (.int .i64 til) ∧ w'.cell? ⟨g, off + j * 3 + 2, none⟩ = some (.int .i64 val)) (by kernel_rfl) (sOne hA.drew) (fun hHeld => ?_)
        refine Rg.t 0 13 ?_
        refine Rg.t 1 14 ?_
        refine Rg.t 2 15 ?_
        refine Rg.t 3 16 ?_
        (refine Rg.o 4 (fun K hK => ?_); go_simp)
        refine (l03Tuple key til val _).mono ?_
        rintro e w1 ⟨rfl, b1⟩
        rw [unhide HK]
        refine hK.out _ _ (sOne (hA.drew.below b1)) (fun hHeld => ?_)
        clear hK K
        (try simp only [Act.put, List.setIfInBounds_toArray, List.set_cons_zero, List.set_cons_succ])
        refine Rg.t 5 18 ?_
        refine Rg.t 6 19 ?_
        refine Rg.s 7 20 ?_
        refine Rg.s 8 21 ?_
        refine Rg.s 9 22 ?_
        refine Rg.s 10 23 ?_
        refine Rg.s 11 24 ?_
        refine Rg.s 12 25 ?_
        refine Rg.s 13 26 ?_
        refine Rg.s 14 27 ?_
        refine Rg.s 15 28 ?_
        refine Rg.s 16 29 ?_
        refine Rg.s 17 30 ?_
        refine Rg.s 18 31 ?_
        refine Rg.s 19 32 ?_
        refine Rg.s 20 33 ?_
        refine Rg.s 21 34 ?_
        refine Rg.s 22 35 ?_
        refine Rg.t 23 36 ?_
        refine wpAnyH_done (by kernel_rfl) (NoPanic.normal ?_) _
        have hb1 := hide ((unhide hbl).drew.trans (b1.mono (by show w.heap.size ≤ wr.heap.size; exact (unhide hbl).size)))
        go_wp2_with fail
        go_ret
        exact ⟨ret_bool (unhide HST).symm, unhide hb1⟩
      have HK := hide hk
      clear hk
      by_cases hj0 : j = 0
      · subst hj0
        clear hc
        rw [Nat.zero_mul, Nat.add_zero] at hA
        have HST := hide (allB_succ (unhide hrl) (step_zero (unhide HK)))
        generalize ms.getD 0 R.zero = m at *
        obtain ⟨key, til, val⟩ := m
        go_wp2_with fail
        refine wp_region_noPanic ?_
        refine wp_region_held_drew (S := fun w' => At w' g off ⟨key, til, val⟩ ∧ w'.cell? ⟨g, off, none⟩ = some (.int .i64 key) ∧ w'.cell? ⟨g, off + 1, none⟩ = some (.int .i64 til) ∧ w'.cell? ⟨g, off + 2, none⟩ = some (.int .i64 val)) (by kernel_rfl) (sOne hA.drew) (fun hHeld => ?_)
        refine Rg.t 0 13 ?_
        refine Rg.t 1 14 ?_
        refine Rg.t 2 15 ?_
        refine Rg.t 3 16 ?_
        (refine Rg.o 4 (fun K hK => ?_); go_simp)
        refine (l03Tuple key til val _).mono ?_
        rintro e w1 ⟨rfl, b1⟩
        rw [unhide HK]
        refine hK.out _ _ (sOne (hA.drew.below b1)) (fun hHeld => ?_)
        clear hK K
        (try simp only [Act.put, List.setIfInBounds_toArray, List.set_cons_zero, List.set_cons_succ])
        refine Rg.t 5 18 ?_
        refine Rg.t 6 19 ?_
        refine Rg.t 7 20 ?_
        refine Rg.t 8 21 ?_
        refine Rg.t 9 22 ?_
        refine Rg.s 10 23 ?_
        refine Rg.s 11 24 ?_
        refine Rg.s 12 25 ?_
        refine Rg.s 13 26 ?_
        refine Rg.s 14 27 ?_
        refine Rg.s 15 28 ?_
        refine Rg.s 16 29 ?_
        refine Rg.s 17 30 ?_
        refine Rg.s 18 31 ?_
        refine Rg.s 19 32 ?_
        refine Rg.s 20 33 ?_
        refine Rg.s 21 34 ?_
        refine Rg.t 22 35 ?_
        refine Rg.t 23 36 ?_
        refine wpAnyH_done (by kernel_rfl) (NoPanic.normal ?_) _
        have hb1 := hide ((unhide hbl).drew.trans (b1.mono (by show w.heap.size ≤ wr.heap.size; exact (unhide hbl).size)))
        go_wp2_with fail
        go_roundw
        case rel => exact ⟨0 + 1, by omega, by go_num, HST, hb1⟩
        case measure => simp [intOf]; omega
      · obtain ⟨i, hji⟩ : ∃ i, j = i + 1 := ⟨j - 1, by omega⟩
        have HJ := hide hji
        have e1 : (j : Int) - 1 = (i : Int) := by omega
        have i0 : (0 : Int) ≤ (i : Int) := by omega
        have wi : IntKind.i64.wrap (i : Int) = (i : Int) := by rw [IntKind.wrap_i64]; omega
        have i1 : (i : Int) < (n : Int) := by omega
        have j1 : (0 : Int) < (j : Int) := by omega
        have j2 : 0 < j := by omega
        have hP := hc i (by omega)
        have EJ : ms.getD j R.zero = ms.getD (i + 1) R.zero := by rw [hji]
        clear hc hji
        by_cases hk : (ms.getD i R.zero).key < (ms.getD j R.zero).key
        · have HST : Hid (allB ms (j + 1) = true) := hide (allB_succ (unhide hrl) (by rw [unhide HJ]; exact step_lt (by rw [← EJ]; exact unhide HK) (by rw [← EJ]; exact hk)))
          clear EJ
          generalize ms.getD j R.zero = m at *
          generalize ms.getD i R.zero = m0 at *
          obtain ⟨key, til, val⟩ := m
          obtain ⟨key0, til0, val0⟩ := m0
          dsimp only at hk
          go_wp2_with fail
          refine wp_region_noPanic ?_
          refine wp_region_held_drew (S := fun w' => (At w' g (off + j * 3) ⟨key, til, val⟩ ∧ At w' g (off + i * 3) ⟨key0, til0, val0⟩) ∧ w'.cell? ⟨g, off + j * 3, none⟩ = some (.int .i64 key) ∧ w'.cell? ⟨g, off + j * 3 + 1, none⟩ = some (.int .i64 til) ∧ w'.cell? ⟨g, off + j * 3 + 2, none⟩ = some (.int .i64 val) ∧ w'.cell? ⟨g, off + i * 3, none⟩ = some (.int .i64 key0)) (by kernel_rfl) (sTwo hA.drew hP.drew) (fun hHeld => ?_)
          refine Rg.t 0 13 ?_
          refine Rg.t 1 14 ?_
          refine Rg.t 2 15 ?_
          refine Rg.t 3 16 ?_
          (refine Rg.o 4 (fun K hK => ?_); go_simp)
          refine (l03Tuple key til val _).mono ?_
          rintro e w1 ⟨rfl, b1⟩
          rw [unhide HK]
          refine hK.out _ _ (sTwo (hA.drew.below b1) (hP.drew.below b1)) (fun hHeld => ?_)
          clear hK K
          (try simp only [Act.put, List.setIfInBounds_toArray, List.set_cons_zero, List.set_cons_succ])
          refine Rg.t 5 18 ?_
          refine Rg.t 6 19 ?_
          refine Rg.t 7 20 ?_
          refine Rg.t 8 21 ?_
          refine Rg.t 9 22 ?_
          refine Rg.t 10 23 ?_
          refine Rg.t 11 24 ?_
          refine Rg.t 12 25 ?_
          refine Rg.t 13 26 ?_
          refine Rg.t 14 27 ?_
          refine Rg.t 15 28 ?_
          refine Rg.t 16 29 ?_
          refine Rg.t 17 30 ?_
          refine Rg.t 18 31 ?_
          refine Rg.t 19 32 ?_
          refine Rg.t 20 33 ?_
          refine Rg.t 21 34 ?_
          refine Rg.t 22 35 ?_
          refine Rg.t 23 36 ?_
          refine wpAnyH_done (by kernel_rfl) (NoPanic.normal ?_) _
          have hb1 := hide ((unhide hbl).drew.trans (b1.mono (by show w.heap.size ≤ wr.heap.size; exact (unhide hbl).size)))
          go_wp2_with fail
          go_roundw
          case rel => exact ⟨j + 1, by omega, by go_num, HST, hb1⟩
          case measure => simp [intOf]; omega
        · have HST : Hid (setB ms = false) := hide (allB_no (unhide HL) (by rw [unhide HJ]; exact step_ge (by rw [← EJ]; omega)))
          clear EJ
          generalize ms.getD j R.zero = m at *
          generalize ms.getD i R.zero = m0 at *
          obtain ⟨key, til, val⟩ := m
          obtain ⟨key0, til0, val0⟩ := m0
          dsimp only at hk
          go_wp2_with fail
          refine wp_region_noPanic ?_
          refine wp_region_held_drew (S := fun w' => (At w' g (off + j * 3) ⟨key, til, val⟩ ∧ At w' g (off + i * 3) ⟨key0, til0, val0⟩) ∧ w'.cell? ⟨g, off + j * 3, none⟩ = some (.int .i64 key) ∧ w'.cell? ⟨g, off + j * 3 + 1, none⟩ = some (.int .i64 til) ∧ w'.cell? ⟨g, off + j * 3 + 2, none⟩ = some (.int .i64 val) ∧ w'.cell? ⟨g, off + i * 3, none⟩ = some (.int .i64 key0)) (by kernel_rfl) (sTwo hA.drew hP.drew) (fun hHeld => ?_)
          refine Rg.t 0 13 ?_
          refine Rg.t 1 14 ?_
          refine Rg.t 2 15 ?_
          refine Rg.t 3 16 ?_
          (refine Rg.o 4 (fun K hK => ?_); go_simp)
          refine (l03Tuple key til val _).mono ?_
          rintro e w1 ⟨rfl, b1⟩
          rw [unhide HK]
          refine hK.out _ _ (sTwo (hA.drew.below b1) (hP.drew.below b1)) (fun hHeld => ?_)
          clear hK K
          (try simp only [Act.put, List.setIfInBounds_toArray, List.set_cons_zero, List.set_cons_succ])
          refine Rg.t 5 18 ?_
          refine Rg.t 6 19 ?_
          refine Rg.t 7 20 ?_
          refine Rg.t 8 21 ?_
          refine Rg.t 9 22 ?_
          refine Rg.t 10 23 ?_
          refine Rg.t 11 24 ?_
          refine Rg.t 12 25 ?_
          refine Rg.t 13 26 ?_
          refine Rg.t 14 27 ?_
          refine Rg.t 15 28 ?_
          refine Rg.t 16 29 ?_
          refine Rg.t 17 30 ?_
          refine Rg.t 18 31 ?_
          refine Rg.t 19 32 ?_
          refine Rg.t 20 33 ?_
          refine Rg.t 21 34 ?_
          refine Rg.t 22 35 ?_
          refine Rg.t 23 36 ?_
          refine wpAnyH_done (by kernel_rfl) (NoPanic.normal ?_) _
          have hb1 := hide ((unhide hbl).drew.trans (b1.mono (by show w.heap.size ≤ wr.heap.size; exact (unhide hbl).size)))
          go_wp2_with fail
          go_ret
          exact ⟨ret_bool (unhide HST).symm, unhide hb1⟩
    · obtain rfl : j = n := by omega
      by_cases h64 : (j : Int) ≤ 64
      all_goals
        go_wp2
        go_ret
      · exact ⟨ret_bool (setB_all (by rw [unhide HN]; omega) (by rw [unhide HN]; exact unhide hrl)).symm, unhide hbl⟩
      · exact ⟨ret_bool (setB_long (by rw [unhide HN]; omega)).symm, unhide hbl⟩
/-- One in a variable's block. -/
def Bx (w : World) (b : Nat) (m : R) : Prop := w.cell? ⟨b, 0, none⟩ = some (.int .i64 m.key) ∧ w.cell? ⟨b, 1, none⟩ = some (.int .i64 m.til) ∧ w.cell? ⟨b, 2, none⟩ = some (.int .i64 m.val)
theorem Bx.below {w w' : World} {b : Nat} {m : R} (h : Bx w b m) (hb : Below w.heap.size w w') : Bx w' b m := by
  have hg : b < w.heap.size := World.block_lt_of_cell? _ _ h.1
  obtain ⟨h0, h1, h2⟩ := h
  refine ⟨?_, ?_, ?_⟩ <;> (rw [hb.cell hg]; assumption)
theorem Bx.drew {w : World} {b : Nat} {m : R} (h : Bx w b m) : Bx w.drew b m := h
theorem sBox {w : World} {b : Nat} {key til val : Int} (h : Bx w b ⟨key, til, val⟩) : Bx w b ⟨key, til, val⟩ ∧ w.cell? ⟨b, 0, none⟩ = some (.int .i64 key) ∧ w.cell? ⟨b, 1, none⟩ = some (.int .i64 til) ∧ w.cell? ⟨b, 2, none⟩ = some (.int .i64 val) := ⟨h, h⟩
theorem sBox2 {w : World} {b g p : Nat} {m : R} {key til val : Int} (h : Bx w b ⟨key, til, val⟩) (h' : At w g p m) :
    (Bx w b ⟨key, til, val⟩ ∧ At w g p m) ∧ w.cell? ⟨b, 0, none⟩ = some (.int .i64 key) ∧ w.cell? ⟨b, 1, none⟩ = some (.int .i64 til) ∧ w.cell? ⟨b, 2, none⟩ = some (.int .i64 val) ∧ w.cell? ⟨g, p, none⟩ = some (.int .i64 m.key) := ⟨⟨h, h'⟩, h.1, h.2.1, h.2.2, h'.1⟩
set_option maxRecDepth 100000 in
set_option maxHeartbeats 4000000 in
theorem implOK (a : Option Addr) (ms : List R) (cap : Nat) (w : World) (hm : ms.length ≤ 1048576) (hr : RM w a ms) :
    Calls Tryz.prog 167 #[.slice a ms.length cap] w fun e w' => e = .returned (.bool (setB ms)) ∧ Below w.heap.size w w' := by
  by_cases hbig : (64 : Int) < ms.length
  · have hf : Hid (setB ms = false) := hide (setB_long (by omega))
    go_enter Tryz.func167, Tryz.ntmps167
    go_wp2
    go_ret
    exact ⟨ret_bool (unhide hf).symm, Below.refl _ _⟩
  have HR := hide hr
  clear hr
  generalize hN : ms.length = n at *
  have HN := hide hN
  clear hN
  go_enter Tryz.func167, Tryz.ntmps167
  go_wp2
  go_loopw [10] (fun i wr => ∃ j : Nat, j ≤ n ∧ i = .int .i64 j ∧ Hid (allB ms j = true) ∧ Hid (Below w.heap.size w wr)) (fun i _ => n - (intOf i).toNat)
  case atStart => exact ⟨0, by omega, rfl, hide (allB_zero _), hide (Below.refl _ _)⟩
  case round =>
    obtain ⟨j, hj, rfl, hrl, hbl⟩ := hrel
    by_cases hlt : (j : Int) < (n : Int)
    · have k0 : (0 : Int) ≤ (j : Int) := by omega
      have hlen : j < ms.length := by rw [unhide HN]; omega
      rcases (unhide HR).below (by exact (unhide hbl)) with e0 | ⟨g, off, rfl, hc⟩
      · exfalso; rw [e0] at hlen; simp at hlen
      have HL := hide hlen
      have hA := hc j hlen
      have hsz := (unhide hbl).size
      have HBX : Hid (Bx (wr.alloc (.cells #[.int .i64 (ms.getD j R.zero).key, .int .i64 (ms.getD j R.zero).til, .int .i64 (ms.getD j R.zero).val] 99)) wr.heap.size (ms.getD j R.zero)) := hide (by refine ⟨?_, ?_, ?_⟩ <;> simp [World.cell?_alloc_new])
      have HBL := hide ((unhide hbl).alloc hsz (.cells #[.int .i64 (ms.getD j R.zero).key, .int .i64 (ms.getD j R.zero).til, .int .i64 (ms.getD j R.zero).val] 99))
      cases hk : okR (ms.getD j R.zero)
      · clear hc
        have HST := hide (allB_no hlen (step_bad hk))
        have HK := hide hk
        clear hk
        generalize ms.getD j R.zero = m at *
        obtain ⟨key, til, val⟩ := m
        obtain ⟨c0, c1, c2⟩ := hA
        dsimp only at c0 c1 c2
        go_wp2_with fail
        generalize hW : wr.alloc (.cells #[.int .i64 key, .int .i64 til, .int .i64 val] 99) = W0 at *
        clear hW
        refine wp_region_noPanic ?_
        refine wp_region_held_drew (S := fun w' => Bx w' wr.heap.size ⟨key, til, val⟩ ∧ w'.cell? ⟨wr.heap.size, 0, none⟩ = some (.int .i64 key) ∧ w'.cell? ⟨wr.heap.size, 1, none⟩ = some (.int .i64 til) ∧ w'.cell? ⟨wr.heap.size, 2, none⟩ = some (.int .i64 val)) (by kernel_rfl) (sBox (unhide HBX).drew) (fun hHeld => ?_)
        refine Rg.t 0 15 ?_
        (refine Rg.o 1 (fun K hK => ?_); go_simp)
        refine (isTuple key til val _).mono ?_
        rintro e w1 ⟨rfl, b1⟩
        rw [unhide HK]
        refine hK.out _ _ (sBox ((unhide HBX).drew.below b1)) (fun hHeld => ?_)
        clear hK K
        (try simp only [Act.put, List.setIfInBounds_toArray, List.set_cons_zero, List.set_cons_succ])
        refine Rg.t 2 17 ?_
        refine Rg.t 3 18 ?_
        refine Rg.s 4 19 ?_
        refine Rg.s 5 20 ?_
        refine Rg.s 6 21 ?_
        refine Rg.s 7 22 ?_
        refine Rg.s 8 23 ?_
        refine Rg.s 9 24 ?_
        refine Rg.s 10 25 ?_
        refine Rg.s 11 26 ?_
        refine Rg.s 12 27 ?_
        refine Rg.s 13 28 ?_
        refine Rg.s 14 29 ?_
        refine Rg.s 15 30 ?_
        refine Rg.s 16 31 ?_
        refine Rg.t 17 32 ?_
        refine wpAnyH_done (by kernel_rfl) (NoPanic.normal ?_) _
        have hb1 := hide ((unhide HBL).drew.trans (b1.mono (by show w.heap.size ≤ W0.heap.size; exact (unhide HBL).size)))
        go_wp2_with fail
        go_ret
        exact ⟨ret_bool (unhide HST).symm, unhide hb1⟩
      have HK := hide hk
      clear hk
      by_cases hj0 : j = 0
      · subst hj0
        clear hc
        rw [Nat.zero_mul, Nat.add_zero] at hA
        have HST := hide (allB_succ (unhide hrl) (step_zero (unhide HK)))
        generalize ms.getD 0 R.zero = m at *
        obtain ⟨key, til, val⟩ := m
        obtain ⟨c0, c1, c2⟩ := hA
        dsimp only at c0 c1 c2
        go_wp2_with fail
        generalize hW : wr.alloc (.cells #[.int .i64 key, .int .i64 til, .int .i64 val] 99) = W0 at *
        clear hW
        refine wp_region_noPanic ?_
        refine wp_region_held_drew (S := fun w' => Bx w' wr.heap.size ⟨key, til, val⟩ ∧ w'.cell? ⟨wr.heap.size, 0, none⟩ = some (.int .i64 key) ∧ w'.cell? ⟨wr.heap.size, 1, none⟩ = some (.int .i64 til) ∧ w'.cell? ⟨wr.heap.size, 2, none⟩ = some (.int .i64 val)) (by kernel_rfl) (sBox (unhide HBX).drew) (fun hHeld => ?_)
        refine Rg.t 0 15 ?_
        (refine Rg.o 1 (fun K hK => ?_); go_simp)
        refine (isTuple key til val _).mono ?_
        rintro e w1 ⟨rfl, b1⟩
        rw [unhide HK]
        refine hK.out _ _ (sBox ((unhide HBX).drew.below b1)) (fun hHeld => ?_)
        clear hK K
        (try simp only [Act.put, List.setIfInBounds_toArray, List.set_cons_zero, List.set_cons_succ])
        refine Rg.t 2 17 ?_
        refine Rg.t 3 18 ?_
        refine Rg.t 4 19 ?_
        refine Rg.t 5 20 ?_
        refine Rg.t 6 21 ?_
        refine Rg.s 7 22 ?_
        refine Rg.s 8 23 ?_
        refine Rg.s 9 24 ?_
        refine Rg.s 10 25 ?_
        refine Rg.s 11 26 ?_
        refine Rg.s 12 27 ?_
        refine Rg.s 13 28 ?_
        refine Rg.s 14 29 ?_
        refine Rg.s 15 30 ?_
        refine Rg.t 16 31 ?_
        refine Rg.t 17 32 ?_
        refine wpAnyH_done (by kernel_rfl) (NoPanic.normal ?_) _
        have hb1 := hide ((unhide HBL).drew.trans (b1.mono (by show w.heap.size ≤ W0.heap.size; exact (unhide HBL).size)))
        go_wp2_with fail
        go_roundw
        case rel => exact ⟨0 + 1, by omega, by go_num, HST, hb1⟩
        case measure => simp [intOf]; omega
      · obtain ⟨i, hji⟩ : ∃ i, j = i + 1 := ⟨j - 1, by omega⟩
        have HJ := hide hji
        have e1 : (j : Int) - 1 = (i : Int) := by omega
        have i0 : (0 : Int) ≤ (i : Int) := by omega
        have wi : IntKind.i64.wrap (i : Int) = (i : Int) := by rw [IntKind.wrap_i64]; omega
        have i1 : (i : Int) < (n : Int) := by omega
        have j1 : (0 : Int) < (j : Int) := by omega
        have j2 : 0 < j := by omega
        have hP := hide ((hc i (by omega)).below ((Below.refl _ _).alloc (Nat.le_refl _) (.cells #[.int .i64 (ms.getD j R.zero).key, .int .i64 (ms.getD j R.zero).til, .int .i64 (ms.getD j R.zero).val] 99)))
        have EJ : ms.getD j R.zero = ms.getD (i + 1) R.zero := by rw [hji]
        clear hc hji
        by_cases hk : (ms.getD i R.zero).key < (ms.getD j R.zero).key
        · have HST : Hid (allB ms (j + 1) = true) := hide (allB_succ (unhide hrl) (by rw [unhide HJ]; exact step_lt (by rw [← EJ]; exact unhide HK) (by rw [← EJ]; exact hk)))
          clear EJ
          generalize ms.getD j R.zero = m at *
          generalize ms.getD i R.zero = m0 at *
          obtain ⟨key, til, val⟩ := m
          obtain ⟨key0, til0, val0⟩ := m0
          dsimp only at hk
          obtain ⟨c0, c1, c2⟩ := hA
          dsimp only at c0 c1 c2
          go_wp2_with fail
          generalize hW : wr.alloc (.cells #[.int .i64 key, .int .i64 til, .int .i64 val] 99) = W0 at *
          clear hW
          refine wp_region_noPanic ?_
          refine wp_region_held_drew (S := fun w' => (Bx w' wr.heap.size ⟨key, til, val⟩ ∧ At w' g (off + i * 3) ⟨key0, til0, val0⟩) ∧ w'.cell? ⟨wr.heap.size, 0, none⟩ = some (.int .i64 key) ∧ w'.cell? ⟨wr.heap.size, 1, none⟩ = some (.int .i64 til) ∧ w'.cell? ⟨wr.heap.size, 2, none⟩ = some (.int .i64 val) ∧ w'.cell? ⟨g, off + i * 3, none⟩ = some (.int .i64 key0)) (by kernel_rfl) (sBox2 (unhide HBX).drew (unhide hP).drew) (fun hHeld => ?_)
          refine Rg.t 0 15 ?_
          (refine Rg.o 1 (fun K hK => ?_); go_simp)
          refine (isTuple key til val _).mono ?_
          rintro e w1 ⟨rfl, b1⟩
          rw [unhide HK]
          refine hK.out _ _ (sBox2 ((unhide HBX).drew.below b1) ((unhide hP).drew.below b1)) (fun hHeld => ?_)
          clear hK K
          (try simp only [Act.put, List.setIfInBounds_toArray, List.set_cons_zero, List.set_cons_succ])
          refine Rg.t 2 17 ?_
          refine Rg.t 3 18 ?_
          refine Rg.t 4 19 ?_
          refine Rg.t 5 20 ?_
          refine Rg.t 6 21 ?_
          refine Rg.t 7 22 ?_
          refine Rg.t 8 23 ?_
          refine Rg.t 9 24 ?_
          refine Rg.t 10 25 ?_
          refine Rg.t 11 26 ?_
          refine Rg.t 12 27 ?_
          refine Rg.t 13 28 ?_
          refine Rg.t 14 29 ?_
          refine Rg.t 15 30 ?_
          refine Rg.t 16 31 ?_
          refine Rg.t 17 32 ?_
          refine wpAnyH_done (by kernel_rfl) (NoPanic.normal ?_) _
          have hb1 := hide ((unhide HBL).drew.trans (b1.mono (by show w.heap.size ≤ W0.heap.size; exact (unhide HBL).size)))
          go_wp2_with fail
          go_roundw
          case rel => exact ⟨j + 1, by omega, by go_num, HST, hb1⟩
          case measure => simp [intOf]; omega
        · have HST : Hid (setB ms = false) := hide (allB_no (unhide HL) (by rw [unhide HJ]; exact step_ge (by rw [← EJ]; omega)))
          clear EJ
          generalize ms.getD j R.zero = m at *
          generalize ms.getD i R.zero = m0 at *
          obtain ⟨key, til, val⟩ := m
          obtain ⟨key0, til0, val0⟩ := m0
          dsimp only at hk
          obtain ⟨c0, c1, c2⟩ := hA
          dsimp only at c0 c1 c2
          go_wp2_with fail
          generalize hW : wr.alloc (.cells #[.int .i64 key, .int .i64 til, .int .i64 val] 99) = W0 at *
          clear hW
          refine wp_region_noPanic ?_
          refine wp_region_held_drew (S := fun w' => (Bx w' wr.heap.size ⟨key, til, val⟩ ∧ At w' g (off + i * 3) ⟨key0, til0, val0⟩) ∧ w'.cell? ⟨wr.heap.size, 0, none⟩ = some (.int .i64 key) ∧ w'.cell? ⟨wr.heap.size, 1, none⟩ = some (.int .i64 til) ∧ w'.cell? ⟨wr.heap.size, 2, none⟩ = some (.int .i64 val) ∧ w'.cell? ⟨g, off + i * 3, none⟩ = some (.int .i64 key0)) (by kernel_rfl) (sBox2 (unhide HBX).drew (unhide hP).drew) (fun hHeld => ?_)
          refine Rg.t 0 15 ?_
          (refine Rg.o 1 (fun K hK => ?_); go_simp)
          refine (isTuple key til val _).mono ?_
          rintro e w1 ⟨rfl, b1⟩
          rw [unhide HK]
          refine hK.out _ _ (sBox2 ((unhide HBX).drew.below b1) ((unhide hP).drew.below b1)) (fun hHeld => ?_)
          clear hK K
          (try simp only [Act.put, List.setIfInBounds_toArray, List.set_cons_zero, List.set_cons_succ])
          refine Rg.t 2 17 ?_
          refine Rg.t 3 18 ?_
          refine Rg.t 4 19 ?_
          refine Rg.t 5 20 ?_
          refine Rg.t 6 21 ?_
          refine Rg.t 7 22 ?_
          refine Rg.t 8 23 ?_
          refine Rg.t 9 24 ?_
          refine Rg.t 10 25 ?_
          refine Rg.t 11 26 ?_
          refine Rg.t 12 27 ?_
          refine Rg.t 13 28 ?_
          refine Rg.t 14 29 ?_
          refine Rg.t 15 30 ?_
          refine Rg.t 16 31 ?_
          refine Rg.t 17 32 ?_
          refine wpAnyH_done (by kernel_rfl) (NoPanic.normal ?_) _
          have hb1 := hide ((unhide HBL).drew.trans (b1.mono (by show w.heap.size ≤ W0.heap.size; exact (unhide HBL).size)))
          go_wp2_with fail
          go_ret
          exact ⟨ret_bool (unhide HST).symm, unhide hb1⟩
    · obtain rfl : j = n := by omega
      go_wp2
      go_ret
      exact ⟨ret_bool (setB_all (by rw [unhide HN]; omega) (by rw [unhide HN]; exact unhide hrl)).symm, unhide hbl⟩
end St
end Go.Proofs.YtfooahhdikobeaaGreat
namespace Go.Proofs.YtfooahhdikobeaaGreat
open Go.ChangeShapes Go.WideShapes Go.ChangeAt Go.RowKit
set_option linter.unusedVariables false
set_option linter.unusedSimpArgs false
attribute [local go_sem ↓] Go.wp_at_zero Go.wp_at_succ
namespace Tw
open W1 Tu Mt
set_option maxHeartbeats 1000000 in
theorem hopOfKey (k : Int) (w : World) (h0 : 0 ≤ k) (h1 : k ≤ 1000000) : Calls Tryz.prog 195 #[.int .i64 k] w fun e w' => e = .returned (.agg #[.int .i64 (k.tdiv 100), .int .i64 (k.tmod 100)]) ∧ Below w.heap.size w w' := by
  have HB : Hid (Below w.heap.size w w) := hide (Below.refl _ _)
  have e1 : k.tdiv 100 = k / 100 := Int.tdiv_eq_ediv_of_nonneg h0
  have e2 : k.tmod 100 = k % 100 := Int.tmod_eq_emod_of_nonneg h0
  rw [e1, e2]
  go_enter Tryz.func195, Tryz.ntmps195
  go_wp2
  refine bodyPost_ret (v := .agg #[.int .i64 (k / 100), .int .i64 (k % 100)]) (by simp [results, Tryz.results195, go_sem]) rfl ⟨rfl, ?_⟩
  have hB := unhide HB
  (repeat (first | (with_reducible exact hB) | (with_reducible refine Below.drew ?_) | (with_reducible refine Below.setCell ?_ ?_ _; rotate_left; (first | exact Nat.le_refl _ | (simp; done) | (dsimp only; omega))) | (with_reducible refine Below.alloc ?_ ?_ _; rotate_left; (first | exact Nat.le_refl _ | omega | (simp [World.setCell]; omega)))))
set_option maxHeartbeats 1000000 in
theorem keyOfHop (v a : Int) (w : World) (h0 : 0 ≤ v) (h1 : v ≤ 1000000) (h2 : 0 ≤ a) (h3 : a ≤ 1000000) : Calls Tryz.prog 119 #[.agg #[.int .i64 v, .int .i64 a]] w fun e w' => e = .returned (.int .i64 (100 * v + a)) ∧ Below w.heap.size w w' := by
  have HB : Hid (Below w.heap.size w (w.alloc (.cells #[.int .i64 v, .int .i64 a] 145))) := hide ((Below.refl _ _).alloc (Nat.le_refl _) _)
  go_enter Tryz.func119, Tryz.ntmps119
  go_wp2
  go_ret
  exact ⟨rfl, unhide HB⟩
/-- Whether a hop is one. -/
def hopB (v a : Int) : Bool := inB v 1 8 && (inB a 1 8 && !(v == a))
set_option maxHeartbeats 1000000 in
theorem isHop (v a : Int) (w : World) : Calls Tryz.prog 210 #[.agg #[.int .i64 v, .int .i64 a]] w fun e w' => e = .returned (.bool (hopB v a)) ∧ Below w.heap.size w w' := by
  have HB : Hid (Below w.heap.size w (w.alloc (.cells #[.int .i64 v, .int .i64 a] 145))) := hide ((Below.refl _ _).alloc (Nat.le_refl _) _)
  cases h1 : inB v 1 8
  rotate_left
  cases h2 : inB a 1 8
  rotate_left
  cases h3 : (v != a)
  all_goals
    go_enter Tryz.func210, Tryz.ntmps210
    go_wp2_with (go_at_call 109; refine (isAddress _ _).mono ?_; rintro e w' ⟨rfl, rfl⟩)
    go_ret
    refine ⟨ret_bool ?_, unhide HB⟩
    unfold hopB
    simp_all
end Tw
end Go.Proofs.YtfooahhdikobeaaGreat
namespace Go.Proofs.YtfooahhdikobeaaGreat
open Go.ChangeShapes Go.WideShapes Go.ChangeAt Go.RowKit
set_option linter.unusedVariables false
set_option linter.unusedSimpArgs false
attribute [local go_sem ↓] Go.wp_at_zero Go.wp_at_succ
namespace St
open W1 Tu
set_option maxHeartbeats 1000000 in
theorem l03Place (a : Option Addr) (ms : List R) (cap : Nat) (k : Int) (w : World) (hm : ms.length ≤ 4096) (hr : RM w a ms) :
    Calls Tryz.prog 125 #[.slice a ms.length cap, .int .i64 k] w fun e w' => e = .returned (.int .i64 (place ms k)) ∧ w' = w := by
  have HR := hide hr
  clear hr
  generalize hN : ms.length = n at *
  have HN := hide hN
  clear hN
  go_enter Tryz.func125, Tryz.ntmps125
  go_wp2
  go_loopw [5] (fun i wr => wr = w ∧ ∃ j : Nat, j ≤ n ∧ i = .int .i64 j ∧ Hid (∀ i, i < j → atKey k (ms.getD i R.zero) = false)) (fun i _ => n - (intOf i).toNat)
  case atStart => exact ⟨rfl, 0, by omega, rfl, hide (fun i hi => by omega)⟩
  case round =>
    obtain ⟨rfl, j, hj, rfl, hrl⟩ := hrel
    by_cases hlt : (j : Int) < (n : Int)
    · have k0 : (0 : Int) ≤ (j : Int) := by omega
      have hlen : j < ms.length := by rw [unhide HN]; omega
      obtain ⟨g, off, rfl⟩ := (unhide HR).form (by omega)
      obtain ⟨c0, _, _⟩ := (unhide HR).at hlen
      by_cases hk : (ms.getD j R.zero).key < k
      · have HST : Hid (∀ i, i < j + 1 → atKey k (ms.getD i R.zero) = false) := hide (fun i hi => by
          by_cases e : i = j
          · subst e; unfold atKey; exact decide_eq_false (by omega)
          · exact unhide hrl i (by omega))
        generalize ms.getD j R.zero = m at *
        go_wp2_with fail
        go_roundw
        case rel => exact ⟨by first | trivial | rfl, j + 1, by omega, by go_num, HST⟩
        case measure => simp [intOf]; omega
      · have HST : Hid (place ms k = j) := hide (placeP_of _ ms j (by omega) (unhide hrl) (fun _ => by unfold atKey; exact decide_eq_true (by omega)))
        generalize ms.getD j R.zero = m at *
        go_wp2_with fail
        go_ret
        exact ⟨ret_int (by rw [unhide HST]), rfl⟩
    · obtain rfl : j = n := by omega
      have HST : Hid (place ms k = j) := hide (placeP_of _ ms j (by rw [unhide HN]; exact Nat.le_refl _) (unhide hrl) (fun h => by rw [unhide HN] at h; omega))
      go_wp2_with fail
      go_ret
      exact ⟨ret_int (by rw [unhide HST]), rfl⟩
end St
end Go.Proofs.YtfooahhdikobeaaGreat
namespace Go.Proofs.YtfooahhdikobeaaGreat
open Go.ChangeShapes Go.WideShapes Go.ChangeAt Go.RowKit
set_option linter.unusedVariables false
set_option linter.unusedSimpArgs false
attribute [local go_sem ↓] Go.wp_at_zero Go.wp_at_succ
namespace Tw
open W1 Tu St Mt
theorem bx_new (w : World) (m : R) (t : Nat) : Bx (w.alloc (.cells #[.int .i64 m.key, .int .i64 m.til, .int .i64 m.val] t)) w.heap.size m := by
  refine ⟨?_, ?_, ?_⟩ <;> simp [World.cell?_alloc_new]
theorem om_grown {w w' : World} {b : Nat} {B : Nat} {w0 : World} (hB : Below B w0 w) (hBw : B ≤ w0.heap.size) (hb : B ≤ b) (hg : w.grownBy w' (some b)) : Below B w0 w' :=
  ⟨hg.os.trans hB.os, hg.tape.trans hB.tape, hg.output.trans hB.output, Nat.le_trans hB.size hg.size, fun k hk => (hg.block k (Nat.lt_of_lt_of_le hk (Nat.le_trans hBw hB.size)) (by intro e; cases e; omega)).trans (hB.block k hk)⟩
set_option maxRecDepth 100000 in
set_option maxHeartbeats 2000000 in
theorem areHops (a : Option Addr) (ms : List R) (cap : Nat) (w : World) (hm : ms.length ≤ 1048576) (hr : RM w a ms) :
    Calls Tryz.prog 190 #[.slice a ms.length cap] w fun e w' => e = .returned (.bool (twoB ms)) ∧ Below w.heap.size w w' := by
  have HR := hide hr
  clear hr
  cases hs : setB ms
  · rw [set_no hs]
    have HS := hide hs
    clear hs
    go_enter Tryz.func190, Tryz.ntmps190
    go_wp2_with fail
    refine (St.implOK _ ms cap _ hm (unhide HR)).mono ?_
    rintro e w1 ⟨rfl, b1⟩
    rw [unhide HS]
    have HB := hide b1
    clear b1
    go_wp2_with fail
    go_ret
    exact ⟨rfl, unhide HB⟩
  have HS := hide hs
  clear hs
  generalize hN : ms.length = n at *
  have HN := hide hN
  clear hN
  go_enter Tryz.func190, Tryz.ntmps190
  go_wp2_with fail
  rw [← unhide HN]
  refine (St.implOK _ ms cap _ (by have := unhide HN; omega) (unhide HR)).mono ?_
  rintro e w1 ⟨rfl, b1⟩
  rw [unhide HS]
  have HB1 := hide b1
  clear b1
  go_wp2_with fail
  rw [unhide HN]
  go_loopw [10] (fun i wr => ∃ j : Nat, j ≤ n ∧ i = .int .i64 j ∧ Hid (keysB ms j = true) ∧ Hid (Below w.heap.size w wr)) (fun i _ => n - (intOf i).toNat)
  case atStart => exact ⟨0, by omega, rfl, hide (keys_zero ms), HB1⟩
  case round =>
    obtain ⟨j, hj, rfl, hkb, hbl⟩ := hrel
    by_cases hlt : (j : Int) < (n : Int)
    · have k0 : (0 : Int) ≤ (j : Int) := by omega
      have hlen : j < ms.length := by rw [unhide HN]; omega
      obtain ⟨g, off, rfl⟩ := (unhide HR).form (by omega)
      obtain ⟨c0, c1, c2⟩ := ((unhide HR).below (unhide hbl)).at hlen
      have hbs := (unhide hbl).size
      have hbd := ok_bounds (setB_ok (unhide HS) hlen)
      have HY : Hid (okK (ms.getD j R.zero) = true → keysB ms (j + 1) = true) := hide (fun h => keys_succ hlen (unhide hkb) h)
      have HZ : Hid (okK (ms.getD j R.zero) = false → twoB ms = false) := hide (fun h => keys_no hlen h)
      generalize ms.getD j R.zero = m at *
      have HBA := hide ((unhide hbl).alloc hbs (.cells #[.int .i64 m.key, .int .i64 m.til, .int .i64 m.val] 99))
      obtain ⟨o, ho⟩ : ∃ o, okK m = o := ⟨_, rfl⟩
      have HO : Hid (hopB (m.key.tdiv 100) (m.key.tmod 100) = o) := hide ho
      rw [ho] at HY HZ
      clear ho
      go_wp2_with fail
      generalize hW : wr.alloc (.cells #[.int .i64 m.key, .int .i64 m.til, .int .i64 m.val] 99) = W0 at *
      clear hW
      refine (hopOfKey m.key _ (by omega) (by omega)).mono ?_
      rintro e w2 ⟨rfl, b2⟩
      have HB2 := hide ((unhide HBA).trans (b2.mono (unhide HBA).size))
      clear b2 c0 c1 c2
      generalize m.key.tdiv 100 = v at *
      generalize m.key.tmod 100 = u at *
      go_wp2_with fail
      refine (isHop v u _).mono ?_
      rintro e w3 ⟨rfl, b3⟩
      rw [unhide HO]
      have HB3 := hide ((unhide HB2).trans (b3.mono (unhide HB2).size))
      clear b3
      cases o
      · have HT := hide (unhide HZ rfl)
        go_wp2_with fail
        go_ret
        exact ⟨ret_bool (unhide HT).symm, unhide HB3⟩
      · have HT := hide (unhide HY rfl)
        go_wp2_with fail
        go_roundw
        case rel => exact ⟨j + 1, by omega, by go_num, HT, HB3⟩
        case measure => simp [intOf]; omega
    · obtain rfl : j = n := by omega
      have HT : Hid (twoB ms = true) := hide (by rw [keys_all (by rw [unhide HN]; exact unhide hkb)]; exact unhide HS)
      go_wp2_with fail
      go_ret
      exact ⟨ret_bool (unhide HT).symm, unhide hbl⟩
end Tw
end Go.Proofs.YtfooahhdikobeaaGreat
namespace Go.Proofs.YtfooahhdikobeaaGreat
open Go.ChangeShapes Go.WideShapes Go.ChangeAt Go.RowKit
set_option linter.unusedVariables false
set_option linter.unusedSimpArgs false
set_option maxRecDepth 100000
attribute [local go_sem ↓] Go.wp_at_zero Go.wp_at_succ
namespace Tp
open W1 So
set_option maxHeartbeats 1000000 in
theorem isSource (ad an til : Int) (w : World) :
    Calls Tryz.prog 214 #[.agg #[.int .i64 ad, .int .i64 an, .int .i64 til]] w fun e w' => e = .returned (.bool (okS ⟨ad, an, til⟩)) ∧ Below w.heap.size w w' := by
  have E : Hid (okS ⟨ad, an, til⟩ = (inB ad 1 8 && (inB an 0 65535 && inB til 0 1073741824))) := hide rfl
  cases h1 : inB ad 1 8
  rotate_left
  cases h2 : inB an 0 65535
  rotate_left
  cases h3 : inB til 0 1073741824
  all_goals
    go_enter Tryz.func214, Tryz.ntmps214
    go_wp2_with (first | (go_at_call 88; refine (within _ _ _ _).mono ?_; rintro e w' ⟨rfl, rfl⟩) | (go_at_call 109; refine (isAddress _ _).mono ?_; rintro e w' ⟨rfl, rfl⟩) | (go_at_call 111; refine (isSeq _ _).mono ?_; rintro e w' ⟨rfl, rfl⟩))
    go_ret
    exact ⟨ret_bool (by rw [unhide E]; simp [*]), (Below.refl _ _).alloc (Nat.le_refl _) _⟩
/-- A source in a variable's block. -/
def Bx (w : World) (b : Nat) (m : R) : Prop := w.cell? ⟨b, 0, none⟩ = some (.int .i64 m.ad) ∧ w.cell? ⟨b, 1, none⟩ = some (.int .i64 m.an) ∧ w.cell? ⟨b, 2, none⟩ = some (.int .i64 m.til)
theorem Bx.below {w w' : World} {b : Nat} {m : R} (h : Bx w b m) (hb : Below w.heap.size w w') : Bx w' b m := by
  have hg : b < w.heap.size := World.block_lt_of_cell? _ _ h.1
  obtain ⟨h0, h1, h2⟩ := h
  refine ⟨?_, ?_, ?_⟩ <;> (rw [hb.cell hg]; assumption)
theorem Bx.lt {w : World} {b : Nat} {m : R} (h : Bx w b m) : b < w.heap.size := World.block_lt_of_cell? _ _ h.1
theorem Bx.drew {w : World} {b : Nat} {m : R} (h : Bx w b m) : Bx w.drew b m := h
theorem bx_new (w : World) (m : R) (t : Nat) : Bx (w.alloc (.cells #[.int .i64 m.ad, .int .i64 m.an, .int .i64 m.til] t)) w.heap.size m := by
  refine ⟨?_, ?_, ?_⟩ <;> simp [World.cell?_alloc_new]
theorem sBox {w : World} {b : Nat} {ad an til : Int} (h : Bx w b ⟨ad, an, til⟩) : Bx w b ⟨ad, an, til⟩ ∧ w.cell? ⟨b, 0, none⟩ = some (.int .i64 ad) ∧ w.cell? ⟨b, 1, none⟩ = some (.int .i64 an) ∧ w.cell? ⟨b, 2, none⟩ = some (.int .i64 til) := ⟨h, h⟩
theorem sBox2 {w : World} {b g p : Nat} {m : R} {ad an til : Int} (h : Bx w b ⟨ad, an, til⟩) (h' : At w g p m) :
    (Bx w b ⟨ad, an, til⟩ ∧ At w g p m) ∧ w.cell? ⟨b, 0, none⟩ = some (.int .i64 ad) ∧ w.cell? ⟨b, 1, none⟩ = some (.int .i64 an) ∧ w.cell? ⟨b, 2, none⟩ = some (.int .i64 til) ∧ w.cell? ⟨g, p, none⟩ = some (.int .i64 m.ad) := ⟨⟨h, h'⟩, h.1, h.2.1, h.2.2, h'.1⟩
set_option maxRecDepth 100000 in
set_option maxHeartbeats 4000000 in
theorem areSources (a : Option Addr) (ms : List R) (cap : Nat) (w : World) (hm : ms.length ≤ 1048576) (hr : RM w a ms) :
    Calls Tryz.prog 200 #[.slice a ms.length cap] w fun e w' => e = .returned (.bool (srcB ms)) ∧ Below w.heap.size w w' := by
  have HR := hide hr
  clear hr
  generalize hN : ms.length = n at *
  have HN := hide hN
  clear hN
  go_enter Tryz.func200, Tryz.ntmps200
  go_wp2
  go_loopw [7] (fun i wr => ∃ j : Nat, j ≤ n ∧ i = .int .i64 j ∧ Hid (allS ms j = true) ∧ Hid (Below w.heap.size w wr)) (fun i _ => n - (intOf i).toNat)
  case atStart => exact ⟨0, by omega, rfl, hide Ri.all_zero, hide (Below.refl _ _)⟩
  case round =>
    obtain ⟨j, hj, rfl, hrl, hbl⟩ := hrel
    by_cases hlt : (j : Int) < (n : Int)
    · have k0 : (0 : Int) ≤ (j : Int) := by omega
      have hlen : j < ms.length := by rw [unhide HN]; omega
      rcases (unhide HR).below (by exact (unhide hbl)) with e0 | ⟨g, off, rfl, hc⟩
      · exfalso; rw [e0] at hlen; simp at hlen
      have HL := hide hlen
      have hA := hc j hlen
      have hsz := (unhide hbl).size
      have HBX := hide (bx_new wr (ms.getD j R.zero) 170)
      have HBL := hide ((unhide hbl).alloc hsz (.cells #[.int .i64 (ms.getD j R.zero).ad, .int .i64 (ms.getD j R.zero).an, .int .i64 (ms.getD j R.zero).til] 170))
      cases hk : okS (ms.getD j R.zero)
      · clear hc
        have HST := hide (Ri.all_no hlen (Ri.step_bad (key := R.ad) hk))
        have HK := hide hk
        clear hk
        generalize ms.getD j R.zero = m at *
        obtain ⟨ad, an, til⟩ := m
        obtain ⟨c0, c1, c2⟩ := hA
        dsimp only at c0 c1 c2
        go_wp2_with fail
        generalize hW : wr.alloc (.cells #[.int .i64 ad, .int .i64 an, .int .i64 til] 170) = W0 at *
        clear hW
        refine wp_region_noPanic ?_
        refine wp_region_held_drew (S := fun w' => Bx w' wr.heap.size ⟨ad, an, til⟩ ∧ w'.cell? ⟨wr.heap.size, 0, none⟩ = some (.int .i64 ad) ∧ w'.cell? ⟨wr.heap.size, 1, none⟩ = some (.int .i64 an) ∧ w'.cell? ⟨wr.heap.size, 2, none⟩ = some (.int .i64 til)) (by kernel_rfl) (sBox (unhide HBX).drew) (fun hHeld => ?_)
        refine Rg.t 0 12 ?_
        (refine Rg.o 1 (fun K hK => ?_); go_simp)
        refine (isSource ad an til _).mono ?_
        rintro e w2 ⟨rfl, b2⟩
        rw [unhide HK]
        refine hK.out _ _ (sBox ((unhide HBX).drew.below b2)) (fun hHeld => ?_)
        clear hK K
        (try simp only [Act.put, List.setIfInBounds_toArray, List.set_cons_zero, List.set_cons_succ])
        refine Rg.t 2 14 ?_
        refine Rg.t 3 15 ?_
        refine Rg.s 4 16 ?_
        refine Rg.s 5 17 ?_
        refine Rg.s 6 18 ?_
        refine Rg.s 7 19 ?_
        refine Rg.s 8 20 ?_
        refine Rg.s 9 21 ?_
        refine Rg.s 10 22 ?_
        refine Rg.s 11 23 ?_
        refine Rg.s 12 24 ?_
        refine Rg.s 13 25 ?_
        refine Rg.s 14 26 ?_
        refine Rg.s 15 27 ?_
        refine Rg.s 16 28 ?_
        refine Rg.t 17 29 ?_
        refine wpAnyH_done (by kernel_rfl) (NoPanic.normal ?_) _
        have hb1 := hide ((unhide HBL).drew.trans (b2.mono (by show w.heap.size ≤ W0.heap.size; exact (unhide HBL).size)))
        go_wp2_with fail
        go_ret
        exact ⟨ret_bool (unhide HST).symm, unhide hb1⟩
      have HK := hide hk
      clear hk
      by_cases hj0 : j = 0
      · subst hj0
        clear hc
        rw [Nat.zero_mul, Nat.add_zero] at hA
        have HST := hide (Ri.all_succ (unhide hrl) (Ri.step_zero (key := R.ad) (unhide HK)))
        generalize ms.getD 0 R.zero = m at *
        obtain ⟨ad, an, til⟩ := m
        obtain ⟨c0, c1, c2⟩ := hA
        dsimp only at c0 c1 c2
        go_wp2_with fail
        generalize hW : wr.alloc (.cells #[.int .i64 ad, .int .i64 an, .int .i64 til] 170) = W0 at *
        clear hW
        refine wp_region_noPanic ?_
        refine wp_region_held_drew (S := fun w' => Bx w' wr.heap.size ⟨ad, an, til⟩ ∧ w'.cell? ⟨wr.heap.size, 0, none⟩ = some (.int .i64 ad) ∧ w'.cell? ⟨wr.heap.size, 1, none⟩ = some (.int .i64 an) ∧ w'.cell? ⟨wr.heap.size, 2, none⟩ = some (.int .i64 til)) (by kernel_rfl) (sBox (unhide HBX).drew) (fun hHeld => ?_)
        refine Rg.t 0 12 ?_
        (refine Rg.o 1 (fun K hK => ?_); go_simp)
        refine (isSource ad an til _).mono ?_
        rintro e w2 ⟨rfl, b2⟩
        rw [unhide HK]
        refine hK.out _ _ (sBox ((unhide HBX).drew.below b2)) (fun hHeld => ?_)
        clear hK K
        (try simp only [Act.put, List.setIfInBounds_toArray, List.set_cons_zero, List.set_cons_succ])
        refine Rg.t 2 14 ?_
        refine Rg.t 3 15 ?_
        refine Rg.t 4 16 ?_
        refine Rg.t 5 17 ?_
        refine Rg.t 6 18 ?_
        refine Rg.s 7 19 ?_
        refine Rg.s 8 20 ?_
        refine Rg.s 9 21 ?_
        refine Rg.s 10 22 ?_
        refine Rg.s 11 23 ?_
        refine Rg.s 12 24 ?_
        refine Rg.s 13 25 ?_
        refine Rg.s 14 26 ?_
        refine Rg.s 15 27 ?_
        refine Rg.t 16 28 ?_
        refine Rg.t 17 29 ?_
        refine wpAnyH_done (by kernel_rfl) (NoPanic.normal ?_) _
        have hb1 := hide ((unhide HBL).drew.trans (b2.mono (by show w.heap.size ≤ W0.heap.size; exact (unhide HBL).size)))
        go_wp2_with fail
        go_roundw
        case rel => exact ⟨0 + 1, by omega, by go_num, HST, hb1⟩
        case measure => simp [intOf]; omega
      · obtain ⟨i, hji⟩ : ∃ i, j = i + 1 := ⟨j - 1, by omega⟩
        have HJ := hide hji
        have e1 : (j : Int) - 1 = (i : Int) := by omega
        have i0 : (0 : Int) ≤ (i : Int) := by omega
        have wi : IntKind.i64.wrap (i : Int) = (i : Int) := by rw [IntKind.wrap_i64]; omega
        have i1 : (i : Int) < (n : Int) := by omega
        have j1 : (0 : Int) < (j : Int) := by omega
        have j2 : 0 < j := by omega
        have hP := hide ((hc i (by omega)).below ((Below.refl _ _).alloc (Nat.le_refl _) (.cells #[.int .i64 (ms.getD j R.zero).ad, .int .i64 (ms.getD j R.zero).an, .int .i64 (ms.getD j R.zero).til] 170)))
        have EJ : ms.getD j R.zero = ms.getD (i + 1) R.zero := by rw [hji]
        clear hc hji
        by_cases hk : (ms.getD i R.zero).ad < (ms.getD j R.zero).ad
        · have HST : Hid (allS ms (j + 1) = true) := hide (Ri.all_succ (unhide hrl) (by rw [unhide HJ]; exact Ri.step_lt (by rw [← EJ]; exact unhide HK) (by rw [← EJ]; exact hk)))
          clear EJ
          generalize ms.getD i R.zero = m0 at *
          obtain ⟨ad0, an0, til0⟩ := m0
          dsimp only at hk
          generalize ms.getD j R.zero = m at *
          obtain ⟨ad, an, til⟩ := m
          obtain ⟨c0, c1, c2⟩ := hA
          dsimp only at hk c0 c1 c2
          go_wp2_with fail
          generalize hW : wr.alloc (.cells #[.int .i64 ad, .int .i64 an, .int .i64 til] 170) = W0 at *
          clear hW
          refine wp_region_noPanic ?_
          refine wp_region_held_drew (S := fun w' => (Bx w' wr.heap.size ⟨ad, an, til⟩ ∧ At w' g (off + i * 3) ⟨ad0, an0, til0⟩) ∧ w'.cell? ⟨wr.heap.size, 0, none⟩ = some (.int .i64 ad) ∧ w'.cell? ⟨wr.heap.size, 1, none⟩ = some (.int .i64 an) ∧ w'.cell? ⟨wr.heap.size, 2, none⟩ = some (.int .i64 til) ∧ w'.cell? ⟨g, off + i * 3, none⟩ = some (.int .i64 ad0)) (by kernel_rfl) (sBox2 (unhide HBX).drew (unhide hP).drew) (fun hHeld => ?_)
          refine Rg.t 0 12 ?_
          (refine Rg.o 1 (fun K hK => ?_); go_simp)
          refine (isSource ad an til _).mono ?_
          rintro e w2 ⟨rfl, b2⟩
          rw [unhide HK]
          refine hK.out _ _ (sBox2 ((unhide HBX).drew.below b2) ((unhide hP).drew.below b2)) (fun hHeld => ?_)
          clear hK K
          (try simp only [Act.put, List.setIfInBounds_toArray, List.set_cons_zero, List.set_cons_succ])
          refine Rg.t 2 14 ?_
          refine Rg.t 3 15 ?_
          refine Rg.t 4 16 ?_
          refine Rg.t 5 17 ?_
          refine Rg.t 6 18 ?_
          refine Rg.t 7 19 ?_
          refine Rg.t 8 20 ?_
          refine Rg.t 9 21 ?_
          refine Rg.t 10 22 ?_
          refine Rg.t 11 23 ?_
          refine Rg.t 12 24 ?_
          refine Rg.t 13 25 ?_
          refine Rg.t 14 26 ?_
          refine Rg.t 15 27 ?_
          refine Rg.t 16 28 ?_
          refine Rg.t 17 29 ?_
          refine wpAnyH_done (by kernel_rfl) (NoPanic.normal ?_) _
          have hb1 := hide ((unhide HBL).drew.trans (b2.mono (by show w.heap.size ≤ W0.heap.size; exact (unhide HBL).size)))
          go_wp2_with fail
          go_roundw
          case rel => exact ⟨j + 1, by omega, by go_num, HST, hb1⟩
          case measure => simp [intOf]; omega
        · have HST : Hid (srcB ms = false) := hide (Ri.all_no (unhide HL) (show Ri.step R.zero okS R.ad ms j = false by rw [unhide HJ]; exact Ri.step_ge (by rw [← EJ]; omega)))
          clear EJ
          generalize ms.getD i R.zero = m0 at *
          obtain ⟨ad0, an0, til0⟩ := m0
          dsimp only at hk
          generalize ms.getD j R.zero = m at *
          obtain ⟨ad, an, til⟩ := m
          obtain ⟨c0, c1, c2⟩ := hA
          dsimp only at hk c0 c1 c2
          go_wp2_with fail
          generalize hW : wr.alloc (.cells #[.int .i64 ad, .int .i64 an, .int .i64 til] 170) = W0 at *
          clear hW
          refine wp_region_noPanic ?_
          refine wp_region_held_drew (S := fun w' => (Bx w' wr.heap.size ⟨ad, an, til⟩ ∧ At w' g (off + i * 3) ⟨ad0, an0, til0⟩) ∧ w'.cell? ⟨wr.heap.size, 0, none⟩ = some (.int .i64 ad) ∧ w'.cell? ⟨wr.heap.size, 1, none⟩ = some (.int .i64 an) ∧ w'.cell? ⟨wr.heap.size, 2, none⟩ = some (.int .i64 til) ∧ w'.cell? ⟨g, off + i * 3, none⟩ = some (.int .i64 ad0)) (by kernel_rfl) (sBox2 (unhide HBX).drew (unhide hP).drew) (fun hHeld => ?_)
          refine Rg.t 0 12 ?_
          (refine Rg.o 1 (fun K hK => ?_); go_simp)
          refine (isSource ad an til _).mono ?_
          rintro e w2 ⟨rfl, b2⟩
          rw [unhide HK]
          refine hK.out _ _ (sBox2 ((unhide HBX).drew.below b2) ((unhide hP).drew.below b2)) (fun hHeld => ?_)
          clear hK K
          (try simp only [Act.put, List.setIfInBounds_toArray, List.set_cons_zero, List.set_cons_succ])
          refine Rg.t 2 14 ?_
          refine Rg.t 3 15 ?_
          refine Rg.t 4 16 ?_
          refine Rg.t 5 17 ?_
          refine Rg.t 6 18 ?_
          refine Rg.t 7 19 ?_
          refine Rg.t 8 20 ?_
          refine Rg.t 9 21 ?_
          refine Rg.t 10 22 ?_
          refine Rg.t 11 23 ?_
          refine Rg.t 12 24 ?_
          refine Rg.t 13 25 ?_
          refine Rg.t 14 26 ?_
          refine Rg.t 15 27 ?_
          refine Rg.t 16 28 ?_
          refine Rg.t 17 29 ?_
          refine wpAnyH_done (by kernel_rfl) (NoPanic.normal ?_) _
          have hb1 := hide ((unhide HBL).drew.trans (b2.mono (by show w.heap.size ≤ W0.heap.size; exact (unhide HBL).size)))
          go_wp2_with fail
          go_ret
          exact ⟨ret_bool (unhide HST).symm, unhide hb1⟩
    · obtain rfl : j = n := by omega
      have HO : Hid (srcB ms = true) := hide (by unfold srcB; rw [unhide HN]; exact unhide hrl)
      go_wp2
      go_ret
      exact ⟨ret_bool (unhide HO).symm, unhide hbl⟩
theorem up_at {ms : List R} (h : UpS ms) (k : Int) : ∀ i j, i < j → j < ms.length → atS k (ms.getD i R.zero) = true → atS k (ms.getD j R.zero) = true := by
  intro i j hij hj hi
  have := (List.pairwise_iff_getElem.1 h) i j (by omega) hj hij
  rw [← getD_get (by omega), ← getD_get hj] at this
  unfold atS at *
  exact decide_eq_true (by have := of_decide_eq_true hi; omega)
theorem cloAt (ad an til k : Int) (b : Nat) (w : World) (hc : w.cell? ⟨b, 0, none⟩ = some (.int .i64 k)) :
    Calls Tryz.prog 216 #[.agg #[.int .i64 ad, .int .i64 an, .int .i64 til], .pointer (some ⟨b, 0, none⟩)] w fun e w' => e = .returned (.bool (atS k ⟨ad, an, til⟩)) ∧ Below w.heap.size w w' := by
  have hlt : b < w.heap.size := World.block_lt_of_cell? _ _ hc
  have hne : ¬ b = w.heap.size := by omega
  by_cases h : k ≤ ad
  all_goals
    go_enter Tryz.func216, Tryz.ntmps216
    go_wp2
    go_ret
    exact ⟨ret_bool (by unfold atS; simp [h]), (Below.refl _ _).alloc (Nat.le_refl _) _⟩
set_option maxHeartbeats 2000000 in
theorem firstAt (b : Nat) (a : Option Addr) (k : Int) (ms : List R) (cap : Nat) (w : World) (hr : RM w a ms) (hs : UpS ms) (hm : ms.length ≤ 4096) (hb : w.cell? ⟨b, 0, none⟩ = some (.int .i64 k)) :
    Calls Tryz.prog 215 #[.slice a ms.length cap, .func (.func 216) #[] #[.pointer (some ⟨b, 0, none⟩)]] w fun e w' => e = .returned (.int .i64 (Pl.place (atS k) ms)) ∧ Below w.heap.size w w' := by
  have HR := hide hr
  have HB := hide hb
  have HUP := hide (up_at hs k)
  have hblt := World.block_lt_of_cell? _ _ hb
  clear hr hs hb
  generalize hN : ms.length = n at *
  have HN := hide hN
  clear hN
  go_enter Tryz.func215, Tryz.ntmps215
  go_wp2
  go_loopw [5, 6] (fun lo hi wr => ∃ low high : Nat, low ≤ high ∧ high ≤ n ∧ lo = .int .i64 low ∧ hi = .int .i64 high ∧ Hid (∀ i, i < low → atS k (ms.getD i R.zero) = false) ∧ Hid (∀ i, high ≤ i → i < n → atS k (ms.getD i R.zero) = true) ∧ Hid (Below w.heap.size w wr)) (fun lo hi _ => (intOf hi - intOf lo).toNat)
  case atStart => exact ⟨0, n, by omega, by omega, rfl, rfl, hide (fun i hi => by omega), hide (fun i hi h2 => by omega), hide (Below.refl _ _)⟩
  case round =>
    obtain ⟨low, high, hlh, hhn, rfl, rfl, h1, h2, hbl⟩ := hrel
    by_cases hlt : (low : Int) < (high : Int)
    · obtain ⟨mid, hmid⟩ : ∃ mid : Nat, mid = low + (high - low) / 2 := ⟨_, rfl⟩
      have hm1 : low ≤ mid := by omega
      have hm2 : mid < high := by omega
      have em : (low : Int) + ((high : Int) - (low : Int)) / 2 = (mid : Int) := by omega
      have et : ((high : Int) - (low : Int)).tdiv 2 = ((high : Int) - (low : Int)) / 2 := Int.tdiv_eq_ediv_of_nonneg (by omega)
      have k0 : (0 : Int) ≤ (mid : Int) := by omega
      have k1 : (mid : Int) < (n : Int) := by omega
      obtain ⟨g, off, rfl⟩ := (unhide HR).form (by rw [unhide HN]; omega)
      have hA := ((unhide HR).below (unhide hbl)).at (i := mid) (by rw [unhide HN]; omega)
      have HC := hide ((unhide hbl).cell (p := ⟨b, 0, none⟩) hblt)
      have HP : Hid (atS k (ms.getD mid R.zero) = true → ∀ i, mid ≤ i → i < n → atS k (ms.getD i R.zero) = true) := hide (fun h i hi hn => by
        by_cases e : mid = i
        · subst e; exact h
        · exact unhide HUP mid i (by omega) hn h)
      have HQ : Hid (atS k (ms.getD mid R.zero) = false → ∀ i, i < mid + 1 → atS k (ms.getD i R.zero) = false) := hide (fun h i hi => by
        by_cases e : mid = i
        · subst e; exact h
        · cases hb : atS k (ms.getD i R.zero)
          · rfl
          · rw [unhide HUP i mid (by omega) (by omega) hb] at h; cases h)
      clear hmid
      generalize ms.getD mid R.zero = m at *
      obtain ⟨ad, an, til⟩ := m
      obtain ⟨c0, c1, c2⟩ := hA
      dsimp only at c0 c1 c2
      go_wp2_with fail
      refine (cloAt ad an til k b _ ((unhide HC).trans (unhide HB))).mono ?_
      rintro e w1 ⟨rfl, b1⟩
      have hb1 := hide ((unhide hbl).trans (b1.mono (unhide hbl).size))
      clear c0 c1 c2 b1
      cases hp : atS k ⟨ad, an, til⟩
      · have HST := hide (unhide HQ hp)
        go_wp2_with fail
        exact ⟨⟨mid + 1, high, by omega, by omega, by go_num, rfl, HST, h2, hb1⟩, by simp [intOf]; omega⟩
      · have HST := hide (unhide HP hp)
        go_wp2_with fail
        exact ⟨⟨low, mid, by omega, by omega, rfl, rfl, h1, HST, hb1⟩, by simp [intOf]; omega⟩
    · obtain rfl : low = high := by omega
      have HST : Hid (Pl.place (atS k) ms = low) := hide (Pl.place_of R.zero _ ms low (by rw [unhide HN]; omega) (unhide h1) (fun h => unhide h2 low (Nat.le_refl _) (by rw [unhide HN] at h; exact h)))
      go_wp2_with fail
      go_ret
      exact ⟨ret_int (by rw [unhide HST]), unhide hbl⟩
theorem there_no {ms : List R} {k : Int} {p : Nat} (e : placeS ms k = p) (h : ms.length ≤ p) : thereS ms k = false := by unfold thereS; rw [e, decide_eq_false (by omega)]; rfl
theorem there_ne {ms : List R} {k : Int} {p : Nat} (e : placeS ms k = p) (h : ¬ (ms.getD p R.zero).ad = k) : thereS ms k = false := by unfold thereS; rw [e, decide_eq_false h, Bool.and_false]
theorem there_yes {ms : List R} {k : Int} {p : Nat} (e : placeS ms k = p) (hl : p < ms.length) (h : (ms.getD p R.zero).ad = k) : thereS ms k = true := by unfold thereS; rw [e, decide_eq_true hl, decide_eq_true h]; rfl
theorem sKey {w : World} {b g o : Nat} {k : Int} {m : R} (h : w.cell? ⟨b, 0, none⟩ = some (.int .i64 k)) (h' : At w g o m) : w.cell? ⟨b, 0, none⟩ = some (.int .i64 k) ∧ w.cell? ⟨g, o, none⟩ = some (.int .i64 m.ad) := ⟨h, h'.1⟩
set_option maxRecDepth 100000 in
set_option maxHeartbeats 2000000 in
theorem sourcePlace (a : Option Addr) (ms : List R) (cap : Nat) (k : Int) (w : World) (hr : RM w a ms) (hs : UpS ms) (hm : ms.length ≤ 4096) :
    Calls Tryz.prog 201 #[.slice a ms.length cap, .int .i64 k] w fun e w' => e = .returned (.tuple #[.int .i64 (placeS ms k), .bool (thereS ms k)]) ∧ Below w.heap.size w w' := by
  have HR := hide hr
  have HS := hide hs
  have hl := Pl.place_le (atS k) ms
  clear hr hs
  have HC : Hid ((w.alloc (.cells #[.int .i64 k] 3)).cell? ⟨w.heap.size, 0, none⟩ = some (.int .i64 k)) := hide (by simp [World.cell?_alloc_new])
  have HBA : Hid (Below w.heap.size w (w.alloc (.cells #[.int .i64 k] 3))) := hide ((Below.refl _ _).alloc (Nat.le_refl _) _)
  obtain ⟨p, hp⟩ : ∃ p, placeS ms k = p := ⟨_, rfl⟩
  have HP := hide hp
  have HP' : Hid (Pl.place (atS k) ms = p) := hide hp
  rw [show Pl.place (atS k) ms = p from hp] at hl
  clear hp
  have hmf : ∀ (fn : Fn) (first cap : Array Value) (w : World), (Instr.makeFunc fn first cap).run Tryz.prog w = .ok (.func fn first cap) w := fun _ _ _ _ => rfl
  go_enter Tryz.func201, Tryz.ntmps201
  go_wp2_with fail
  refine (firstAt w.heap.size a k ms cap _ ((unhide HR).below (unhide HBA)) (unhide HS) hm (unhide HC)).mono ?_
  rintro e w1 ⟨rfl, b1⟩
  rw [unhide HP']
  have hb1 := hide ((unhide HBA).trans (b1.mono (unhide HBA).size))
  have hcell := (b1.cell (p := ⟨w.heap.size, 0, none⟩) (by simp)).trans (unhide HC)
  have HR1 := hide ((unhide HR).below (unhide hb1))
  clear HC HBA b1
  by_cases hlt : (p : Int) < (ms.length : Int)
  · obtain ⟨g, off, rfl⟩ := (unhide HR1).form (by omega)
    have hA := (unhide HR1).at (i := p) (by omega)
    have k0 : (0 : Int) ≤ (p : Int) := by omega
    have hlen : p < ms.length := by omega
    by_cases hk : (ms.getD p R.zero).ad = k
    · have HT := hide (there_yes (unhide HP) hlen hk)
      generalize ms.getD p R.zero = m at *
      have hk' : (m.ad == k) = true := by simpa using hk
      clear hk
      go_wp2_with fail
      refine wp_region_noPanic ?_
      refine wp_region_held_drew (S := fun w' => w'.cell? ⟨w.heap.size, 0, none⟩ = some (.int .i64 k) ∧ w'.cell? ⟨g, off + p * 3, none⟩ = some (.int .i64 m.ad)) (by kernel_rfl) (sKey hcell hA.drew) (fun hHeld => ?_)
      refine Rg.t 0 10 ?_
      refine Rg.t 1 11 ?_
      refine Rg.t 2 12 ?_
      refine Rg.t 3 13 ?_
      refine Rg.t 4 14 ?_
      refine Rg.t 5 15 ?_
      refine Rg.t 6 16 ?_
      refine Rg.t 7 17 ?_
      refine Rg.t 8 18 ?_
      refine Rg.t 9 19 ?_
      refine Rg.t 10 20 ?_
      refine Rg.t 11 21 ?_
      refine Rg.t 12 22 ?_
      refine Rg.t 13 23 ?_
      refine Rg.t 14 4 ?_
      refine Rg.t 15 5 ?_
      refine wpAnyH_done (by kernel_rfl) (NoPanic.normal ?_) _
      go_wp2_with fail
      go_ret2
      rw [unhide HT, unhide HP]
      exact ⟨rfl, (unhide hb1).drew⟩
    · have HT := hide (there_ne (unhide HP) hk)
      generalize ms.getD p R.zero = m at *
      have hk' : (m.ad == k) = false := by simpa using hk
      go_wp2_with fail
      refine wp_region_noPanic ?_
      refine wp_region_held_drew (S := fun w' => w'.cell? ⟨w.heap.size, 0, none⟩ = some (.int .i64 k) ∧ w'.cell? ⟨g, off + p * 3, none⟩ = some (.int .i64 m.ad)) (by kernel_rfl) (sKey hcell hA.drew) (fun hHeld => ?_)
      refine Rg.t 0 10 ?_
      refine Rg.t 1 11 ?_
      refine Rg.t 2 12 ?_
      refine Rg.t 3 13 ?_
      refine Rg.t 4 14 ?_
      refine Rg.t 5 15 ?_
      refine Rg.t 6 16 ?_
      refine Rg.t 7 17 ?_
      refine Rg.t 8 18 ?_
      refine Rg.t 9 19 ?_
      refine Rg.t 10 20 ?_
      refine Rg.t 11 21 ?_
      refine Rg.t 12 22 ?_
      refine Rg.t 13 23 ?_
      refine Rg.t 14 4 ?_
      refine Rg.t 15 5 ?_
      refine wpAnyH_done (by kernel_rfl) (NoPanic.normal ?_) _
      go_wp2_with fail
      go_ret2
      rw [unhide HT, unhide HP]
      exact ⟨rfl, (unhide hb1).drew⟩
  · obtain rfl : p = ms.length := by omega
    have HT := hide (there_no (unhide HP) (by omega))
    go_wp2_with fail
    refine wp_region_noPanic ?_
    refine wp_region_held_drew (S := fun w' => True) (by kernel_rfl) trivial (fun hHeld => ?_)
    refine Rg.t 0 10 ?_
    refine Rg.t 1 11 ?_
    refine Rg.t 2 12 ?_
    refine Rg.t 3 13 ?_
    refine Rg.t 4 14 ?_
    refine Rg.t 5 15 ?_
    refine Rg.s 6 16 ?_
    refine Rg.s 7 17 ?_
    refine Rg.s 8 18 ?_
    refine Rg.s 9 19 ?_
    refine Rg.s 10 20 ?_
    refine Rg.s 11 21 ?_
    refine Rg.s 12 22 ?_
    refine Rg.t 13 23 ?_
    refine Rg.t 14 4 ?_
    refine Rg.t 15 5 ?_
    refine wpAnyH_done (by kernel_rfl) (NoPanic.normal ?_) _
    go_wp2_with fail
    go_ret2
    rw [unhide HT, unhide HP]
    exact ⟨rfl, (unhide hb1).drew⟩
set_option maxHeartbeats 1000000 in
theorem hasSource (a : Option Addr) (ms : List R) (cap : Nat) (k : Int) (w : World) (hr : RM w a ms) (hs : UpS ms) (hm : ms.length ≤ 4096) :
    Calls Tryz.prog 169 #[.slice a ms.length cap, .int .i64 k] w fun e w' => e = .returned (.bool (hasS ms k)) ∧ Below w.heap.size w w' := by
  rw [has_there hs k]
  have HR := hide hr
  have HS := hide hs
  clear hr hs
  go_enter Tryz.func169, Tryz.ntmps169
  go_wp2_with fail
  refine (sourcePlace a ms cap k _ (unhide HR) (unhide HS) hm).mono ?_
  rintro e w1 ⟨rfl, b1⟩
  have HB := hide b1
  clear b1
  go_wp2_with fail
  go_ret
  exact ⟨rfl, unhide HB⟩
set_option maxHeartbeats 1000000 in
theorem endsOfKey (k : Int) (w : World) (h0 : 0 ≤ k) (h1 : k ≤ 1000000) : Calls Tryz.prog 162 #[.int .i64 k] w fun e w' => e = .returned (.agg #[.int .i64 (k.tdiv 100), .int .i64 (k.tmod 100)]) ∧ Below w.heap.size w w' := by
  have HB : Hid (Below w.heap.size w (w.alloc (.cells #[.int .i64 0, .int .i64 0] 194))) := hide ((Below.refl _ _).alloc (Nat.le_refl _) _)
  obtain ⟨v, hv⟩ : ∃ v, k.tdiv 100 = v := ⟨_, rfl⟩
  obtain ⟨u, hu⟩ : ∃ u, k.tmod 100 = u := ⟨_, rfl⟩
  rw [hv, hu]
  have HV := hide hv
  have HU := hide hu
  clear hv hu
  go_enter Tryz.func162, Tryz.ntmps162
  go_wp2_with fail
  refine (Tw.hopOfKey k _ h0 h1).mono ?_
  rintro e w1 ⟨rfl, b1⟩
  rw [unhide HV, unhide HU]
  obtain ⟨hc, hf⟩ := bcell b1
  have hz1 := b1.size
  simp at hz1
  have hz2 : w.heap.size < w1.heap.size := by omega
  have hne : ¬ w.heap.size = w1.heap.size := by omega
  have HB1 := hide ((unhide HB).trans (b1.mono (unhide HB).size))
  clear b1
  go_wp2_with fail
  refine bodyPost_ret (v := .agg #[.int .i64 v, .int .i64 u]) (by simp [results, Tryz.results162, go_sem, hc, hz1, hz2, hne]) rfl ⟨rfl, ?_⟩
  have hB := unhide HB1
  (repeat (first | (with_reducible exact hB) | (with_reducible refine Below.drew ?_) | (with_reducible refine Below.setCell ?_ ?_ _; rotate_left; (first | exact Nat.le_refl _ | (simp; done) | (dsimp only; omega))) | (with_reducible refine Below.alloc ?_ ?_ _; rotate_left; (first | exact Nat.le_refl _ | omega | (simp [World.setCell]; omega)))))
end Tp
end Go.Proofs.YtfooahhdikobeaaGreat
namespace Go.Proofs.YtfooahhdikobeaaGreat
open Go.ChangeShapes Go.WideShapes Go.ChangeAt Go.RowKit
set_option linter.unusedVariables false
set_option linter.unusedSimpArgs false
set_option maxRecDepth 100000
attribute [local go_sem ↓] Go.wp_at_zero Go.wp_at_succ
namespace Tp
open W1 Tu St Tw
/-- A box of two values. -/
def Bx2 (w : World) (b : Nat) (x y : Value) : Prop := w.cell? ⟨b, 0, none⟩ = some x ∧ w.cell? ⟨b, 1, none⟩ = some y
theorem Bx2.lt {w : World} {b : Nat} {x y : Value} (h : Bx2 w b x y) : b < w.heap.size := World.block_lt_of_cell? _ _ h.1
theorem Bx2.below {w w' : World} {b : Nat} {x y : Value} (h : Bx2 w b x y) (hb : Below w.heap.size w w') : Bx2 w' b x y := ⟨(hb.cell (p := ⟨b, 0, none⟩) h.lt).trans h.1, (hb.cell (p := ⟨b, 1, none⟩) h.lt).trans h.2⟩
theorem Bx2.drew {w : World} {b : Nat} {x y : Value} (h : Bx2 w b x y) : Bx2 w.drew b x y := h
theorem Bx2.but {w w' : World} {b : Nat} {x y : Value} (h : Bx2 w b x y) (hb : w'.heap[b]? = w.heap[b]?) : Bx2 w' b x y := ⟨(World.cell?_of_block (a := ⟨b, 0, none⟩) hb).trans h.1, (World.cell?_of_block (a := ⟨b, 1, none⟩) hb).trans h.2⟩
theorem bx2_new (w : World) (x y : Value) (t : Nat) : Bx2 (w.alloc (.cells #[x, y] t)) w.heap.size x y := by
  constructor <;> simp [World.cell?_alloc_new]
theorem sTB {w : World} {b B : Nat} {key til val : Int} {x y : Value} (h : St.Bx w b ⟨key, til, val⟩) (hB : Bx2 w B x y) : (St.Bx w b ⟨key, til, val⟩ ∧ Bx2 w B x y) ∧ w.cell? ⟨b, 0, none⟩ = some (.int .i64 key) ∧ w.cell? ⟨b, 2, none⟩ = some (.int .i64 val) ∧ w.cell? ⟨B, 0, none⟩ = some x := ⟨⟨h, hB⟩, h.1, h.2.2, hB.1⟩
set_option maxHeartbeats 4000000 in
theorem implOK (a : Option Addr) (ss : List So.R) (ca : Nat) (b : Option Addr) (es : List R) (cb : Nat) (w : World) (hm : ss.length ≤ 1048576) (hl : es.length ≤ 1048576) (hr : So.RM w a ss) (hr' : RM w b es) :
    Calls Tryz.prog 168 #[.agg #[.slice a ss.length ca, .slice b es.length cb]] w fun e w' => e = .returned (.bool (topB ss es)) ∧ Below w.heap.size w w' := by
  have HA : Hid (Below w.heap.size w (w.alloc (.cells #[.slice a ss.length ca, .slice b es.length cb] 80))) := hide ((Below.refl _ _).alloc (Nat.le_refl _) _)
  have HX : Hid (Bx2 (w.alloc (.cells #[.slice a ss.length ca, .slice b es.length cb] 80)) w.heap.size (.slice a ss.length ca) (.slice b es.length cb)) := hide (bx2_new w _ _ _)
  have HR := hide (hr.below (unhide HA))
  have HE := hide (hr'.below (unhide HA))
  clear hr hr'
  cases hs : srcB ss
  · rw [top_nosrc hs]
    have HS := hide hs
    clear hs
    go_enter Tryz.func168, Tryz.ntmps168
    go_wp2_with fail
    refine (areSources _ ss ca _ hm (unhide HR)).mono ?_
    rintro e w1 ⟨rfl, b1⟩
    rw [unhide HS]
    have HB1 := hide ((unhide HA).trans (b1.mono (unhide HA).size))
    clear b1
    go_wp2_with fail
    go_ret
    exact ⟨rfl, unhide HB1⟩
  have HS := hide hs
  have h8 := src_len hs
  have HU := hide (up_src hs)
  clear hs
  cases ht : twoB es
  · rw [top_notwo ht]
    have HT := hide ht
    clear ht
    go_enter Tryz.func168, Tryz.ntmps168
    go_wp2_with fail
    refine (areSources _ ss ca _ hm (unhide HR)).mono ?_
    rintro e w1 ⟨rfl, b1⟩
    rw [unhide HS]
    have HB1 := hide ((unhide HA).trans (b1.mono (unhide HA).size))
    have HE1 := hide ((unhide HE).below b1)
    obtain ⟨z0, z1⟩ := (unhide HX).below b1
    clear b1
    go_wp2_with fail
    refine (Tw.areHops _ es cb _ hl (unhide HE1)).mono ?_
    rintro e w2 ⟨rfl, b2⟩
    rw [unhide HT]
    have HB2 := hide ((unhide HB1).trans (b2.mono (unhide HB1).size))
    clear b2
    go_wp2_with fail
    go_ret
    exact ⟨rfl, unhide HB2⟩
  have HT := hide ht
  clear ht
  obtain ⟨A, hA⟩ : ∃ A, topB ss es = A := ⟨_, rfl⟩
  have HTA := hide hA
  rw [hA]
  clear hA
  obtain ⟨n, hN⟩ : ∃ n, es.length = n := ⟨_, rfl⟩
  have HN := hide hN
  obtain ⟨k, hK⟩ : ∃ k, ss.length = k := ⟨_, rfl⟩
  have HK := hide hK
  rw [hN, hK] at HA HX HR HE ⊢
  rw [hN] at hl
  rw [hK] at hm h8
  clear hN hK
  go_enter Tryz.func168, Tryz.ntmps168
  go_wp2_with fail
  rw [← unhide HK]
  refine (areSources _ ss ca _ (by rw [unhide HK]; exact hm) (by have := unhide HR; rw [← unhide HK] at this; exact this)).mono ?_
  rintro e w1 ⟨rfl, b1⟩
  rw [unhide HS]
  rw [unhide HK] at b1
  have HB1 := hide ((unhide HA).trans (b1.mono (unhide HA).size))
  have HE1 := hide ((unhide HE).below b1)
  have HR1 := hide ((unhide HR).below b1)
  have HX1 := hide ((unhide HX).below b1)
  obtain ⟨z0, z1⟩ := unhide HX1
  clear b1
  go_wp2_with fail
  rw [← unhide HN]
  refine (Tw.areHops _ es cb _ (by rw [unhide HN]; exact hl) (unhide HE1)).mono ?_
  rintro e w2 ⟨rfl, b2⟩
  rw [unhide HT]
  clear z0 z1
  have HB2 := hide ((unhide HB1).trans (b2.mono (unhide HB1).size))
  have HE2 := hide ((unhide HE1).below b2)
  have HR2 := hide ((unhide HR1).below b2)
  have HX2 := hide ((unhide HX1).below b2)
  obtain ⟨z0, z1⟩ := unhide HX2
  clear b2 HE HR HX HE1 HR1 HX1 HB1 HA
  go_wp2_with fail
  clear z0 z1
  go_loopw [18] (fun i wr => ∃ j : Nat, j ≤ n ∧ i = .int .i64 j ∧ Hid (edgB ss es j = true) ∧ Hid (Below w2.heap.size w2 wr)) (fun i _ => n - (intOf i).toNat)
  case atStart => exact ⟨0, by omega, rfl, hide (edg_zero ss es), hide (Below.refl _ _)⟩
  case round =>
    obtain ⟨j, hj, rfl, hed, hbl⟩ := hrel
    have HBW := hide ((unhide HB2).trans ((unhide hbl).mono (unhide HB2).size))
    by_cases hlt : (j : Int) < (n : Int)
    · have k0 : (0 : Int) ≤ (j : Int) := by omega
      have hlen : j < es.length := by rw [unhide HN]; omega
      obtain ⟨g, off, rfl⟩ := (unhide HE2).form (by omega)
      have hA := ((unhide HE2).below (unhide hbl)).at hlen
      have hbd := ok_bounds (setB_ok (two_set (unhide HT)) hlen)
      have HY : Hid (okE ss (es.getD j R.zero) = true → edgB ss es (j + 1) = true) := hide (fun h => edg_succ hlen (unhide hed) h)
      have HZ : Hid (okE ss (es.getD j R.zero) = false → A = false) := hide (fun h => by rw [← unhide HTA]; exact edg_no hlen h)
      have HO : Hid (okE ss (es.getD j R.zero) = (decide (1 ≤ (es.getD j R.zero).val) && hasS ss ((es.getD j R.zero).key.tdiv 100))) := hide rfl
      generalize es.getD j R.zero = m at *
      obtain ⟨key, til, val⟩ := m
      obtain ⟨c0, c1, c2⟩ := hA
      dsimp only at c0 c1 c2 hbd HO
      have HBX : Hid (St.Bx (wr.alloc (.cells #[.int .i64 key, .int .i64 til, .int .i64 val] 99)) wr.heap.size ⟨key, til, val⟩) := hide (Tw.bx_new wr ⟨key, til, val⟩ _)
      have hbs := (unhide HBW).size
      have HBA := hide ((unhide HBW).alloc hbs (.cells #[.int .i64 key, .int .i64 til, .int .i64 val] 99))
      have HBN := hide ((unhide hbl).alloc (unhide hbl).size (.cells #[.int .i64 key, .int .i64 til, .int .i64 val] 99))
      have HX3 := hide ((unhide HX2).below (unhide HBN))
      have HR3 := hide ((unhide HR2).below (unhide HBN))
      by_cases hv1 : val < 1
      · have HF := hide (unhide HZ (by rw [unhide HO, decide_eq_false (by omega)]; rfl))
        go_wp2_with fail
        generalize hW : wr.alloc (.cells #[.int .i64 key, .int .i64 til, .int .i64 val] 99) = W0 at *
        clear hW c0 c1 c2
        refine wp_region_noPanic ?_
        refine wp_region_held_drew (S := fun w' => (St.Bx w' wr.heap.size ⟨key, til, val⟩ ∧ Bx2 w' w.heap.size (.slice a k ca) (.slice (some ⟨g, off, none⟩) n cb)) ∧ w'.cell? ⟨wr.heap.size, 0, none⟩ = some (.int .i64 key) ∧ w'.cell? ⟨wr.heap.size, 2, none⟩ = some (.int .i64 val) ∧ w'.cell? ⟨w.heap.size, 0, none⟩ = some (.slice a k ca)) (by kernel_rfl) (sTB (unhide HBX).drew (unhide HX3).drew) (fun hHeld => ?_)
        refine Rg.t 0 22 ?_
        refine Rg.t 1 23 ?_
        refine Rg.t 2 24 ?_
        refine Rg.t 3 25 ?_
        refine Rg.s 4 26 ?_
        refine Rg.s 5 27 ?_
        refine Rg.s 6 28 ?_
        refine Rg.s 7 29 ?_
        refine Rg.s 8 30 ?_
        refine Rg.s 9 31 ?_
        refine Rg.s 10 32 ?_
        refine Rg.s 11 33 ?_
        refine Rg.t 12 34 ?_
        refine wpAnyH_done (by kernel_rfl) (NoPanic.normal ?_) _
        clear hHeld
        go_wp2_with fail
        go_ret
        exact ⟨ret_bool (unhide HF).symm, (unhide HBA).drew⟩
      · obtain ⟨v, hv'⟩ : ∃ v, key.tdiv 100 = v := ⟨_, rfl⟩
        obtain ⟨u, hu'⟩ : ∃ u, key.tmod 100 = u := ⟨_, rfl⟩
        have HV := hide hv'
        have HU' := hide hu'
        rw [hv'] at HO
        clear hv' hu'
        obtain ⟨o, ho⟩ : ∃ o, hasS ss v = o := ⟨_, rfl⟩
        have HH := hide ho
        have HO2 : Hid (okE ss ⟨key, til, val⟩ = o) := hide (by rw [unhide HO, decide_eq_true (by omega), ho]; rfl)
        clear ho HO
        have hix : ∀ W : World, (Instr.index 194 (.agg #[.int .i64 v, .int .i64 u]) (.int .i64 0)).run Tryz.prog W = .ok (.int .i64 v) W := fun _ => by kernel_rfl
        go_wp2_with fail
        generalize hW : wr.alloc (.cells #[.int .i64 key, .int .i64 til, .int .i64 val] 99) = W0 at *
        clear hW c0 c1 c2
        refine wp_region_noPanic ?_
        refine wp_region_held_drew (S := fun w' => (St.Bx w' wr.heap.size ⟨key, til, val⟩ ∧ Bx2 w' w.heap.size (.slice a k ca) (.slice (some ⟨g, off, none⟩) n cb)) ∧ w'.cell? ⟨wr.heap.size, 0, none⟩ = some (.int .i64 key) ∧ w'.cell? ⟨wr.heap.size, 2, none⟩ = some (.int .i64 val) ∧ w'.cell? ⟨w.heap.size, 0, none⟩ = some (.slice a k ca)) (by kernel_rfl) (sTB (unhide HBX).drew (unhide HX3).drew) (fun hHeld => ?_)
        refine Rg.t 0 22 ?_
        refine Rg.t 1 23 ?_
        refine Rg.t (v := .bool false) 2 24 ?_
        refine Rg.t 3 25 ?_
        refine Rg.t 4 26 ?_
        refine Rg.t 5 27 ?_
        refine Rg.t 6 28 ?_
        refine Rg.t 7 29 ?_
        (refine Rg.o 8 (fun K hK => ?_); go_simp)
        refine (endsOfKey key _ (by omega) (by omega)).mono ?_
        rintro e w4 ⟨rfl, b4_⟩
        rw [unhide HV, unhide HU']
        have b4 : Below W0.heap.size W0 w4 := (Below.refl _ _).drew.trans b4_
        have HBX4 := hide ((unhide HBX).below b4)
        have HX4 := hide ((unhide HX3).below b4)
        have HR4 := hide ((unhide HR3).below b4)
        have HB4 := hide ((unhide HBA).trans (b4.mono (unhide HBA).size))
        have HN4 := hide ((unhide HBN).trans (b4.mono (unhide HBN).size))
        clear b4 b4_ hHeld
        refine hK.out _ _ (sTB (unhide HBX4) (unhide HX4)) (fun hHeld => ?_)
        clear hK K
        (try simp only [Act.put, List.setIfInBounds_toArray, List.set_cons_zero, List.set_cons_succ])
        refine Rg.t 9 31 ?_
        (refine Rg.o 10 (fun K hK => ?_); go_simp)
        rw [← unhide HK]
        refine (hasSource _ ss ca v _ (unhide HR4) (unhide HU) (by rw [unhide HK]; omega)).mono ?_
        rintro e w5 ⟨rfl, b5⟩
        rw [unhide HH]
        have HBX5 := hide ((unhide HBX4).below b5)
        have HX5 := hide ((unhide HX4).below b5)
        have HB5 := hide ((unhide HB4).trans (b5.mono (unhide HB4).size))
        have HN5 := hide ((unhide HN4).trans (b5.mono (unhide HN4).size))
        clear b5 hHeld
        refine hK.out _ _ (sTB (unhide HBX5) (unhide HX5)) (fun hHeld => ?_)
        clear hK K
        (try simp only [Act.put, List.setIfInBounds_toArray, List.set_cons_zero, List.set_cons_succ])
        refine Rg.t 11 33 ?_
        refine Rg.t 12 34 ?_
        refine wpAnyH_done (by kernel_rfl) (NoPanic.normal ?_) _
        clear hHeld
        cases o
        · have HF := hide (unhide HZ (unhide HO2))
          go_wp2_with fail
          go_ret
          exact ⟨ret_bool (unhide HF).symm, unhide HB5⟩
        · have HY2 := hide (unhide HY (unhide HO2))
          go_wp2_with fail
          go_roundw
          case rel => exact ⟨j + 1, by omega, by go_num, HY2, HN5⟩
          case measure => simp [intOf]; omega
    · obtain rfl : j = n := by omega
      have HF : Hid (A = true) := hide (by rw [← unhide HTA, edg_all (unhide HS) (by rw [unhide HN]; exact unhide hed)]; exact unhide HT)
      go_wp2_with fail
      go_ret
      exact ⟨ret_bool (unhide HF).symm, unhide HBW⟩
end Tp
end Go.Proofs.YtfooahhdikobeaaGreat
namespace Go.Proofs.YtfooahhdikobeaaGreat
open Go.ChangeShapes Go.WideShapes Go.ChangeAt Go.RowKit
set_option linter.unusedVariables false
set_option linter.unusedSimpArgs false
attribute [local go_sem ↓] Go.wp_at_zero Go.wp_at_succ
namespace Tw
open W1 Tu St
theorem below_drewN {B : Nat} {w0 w : World} (h : Below B w0 w) (q : Nat) : Below B w0 (w.drewN q) := ⟨h.os, h.tape, h.output, h.size, h.block⟩
theorem key_check {ms : List R} {j : Nat} {v u : Int} (hj : j < ms.length) (hv' : IntKind.i64.wrap ((ms.getD j R.zero).key.tdiv 100) = v) (hu' : (ms.getD j R.zero).key.tmod 100 = u) (hr : keysB ms j = true ∨ setB ms = false) :
    ((inB v 1 8 && (inB u 1 8 && !(v == u))) = false → twoB ms = false) ∧ ((inB v 1 8 && (inB u 1 8 && !(v == u))) = true → keysB ms (j + 1) = true ∨ setB ms = false) := by
  cases hs : setB ms
  · exact ⟨fun _ => set_no hs, fun _ => .inr rfl⟩
  have hb := ok_bounds (setB_ok hs hj)
  have e1 : (ms.getD j R.zero).key.tdiv 100 = (ms.getD j R.zero).key / 100 := Int.tdiv_eq_ediv_of_nonneg hb.1
  have w1 : v = hv (ms.getD j R.zero) := by rw [← hv', IntKind.wrap_i64]; unfold hv; rw [e1]; omega
  have w2 : u = ha (ms.getD j R.zero) := by rw [← hu']; rfl
  have e : (inB v 1 8 && (inB u 1 8 && !(v == u))) = okK (ms.getD j R.zero) := by rw [w1, w2]; rfl
  rw [e]
  refine ⟨fun h => keys_no hj h, fun h => .inl (keys_succ hj ?_ h)⟩
  rcases hr with h | h
  · exact h
  · rw [hs] at h; cases h
set_option maxRecDepth 100000 in
set_option maxHeartbeats 4000000 in
theorem l07OK (a : Option Addr) (ms : List R) (cap : Nat) (w : World) (hm : ms.length ≤ 1048576) (hr : RM w a ms) :
    Calls Tryz.prog 135 #[.slice a ms.length cap] w fun e w' => e = .returned (.bool (twoB ms)) ∧ Below w.heap.size w w' := by
  have HR := hide hr
  clear hr
  obtain ⟨A, hA⟩ : ∃ A, twoB ms = A := ⟨_, rfl⟩
  have HA := hide hA
  rw [hA]
  clear hA
  generalize hN : ms.length = n at *
  have HN := hide hN
  clear hN
  go_enter Tryz.func135, Tryz.ntmps135
  go_wp2_with fail
  go_loopw [3] (fun i wr => ∃ j : Nat, j ≤ n ∧ i = .int .i64 j ∧ Hid (keysB ms j = true ∨ setB ms = false) ∧ Hid (∃ q, wr = w.drewN q)) (fun i _ => n - (intOf i).toNat)
  case atStart => exact ⟨0, by omega, rfl, hide (.inl (keys_zero ms)), hide ⟨0, rfl⟩⟩
  case round =>
    obtain ⟨j, hj, rfl, hrl, hq⟩ := hrel
    have HRr : Hid (RM wr a ms) := hide (by obtain ⟨q, e⟩ := unhide hq; rw [e]; exact unhide HR)
    have HD : Hid (∀ m, ∃ q, wr.drewN m = w.drewN q) := hide (fun m => by obtain ⟨q, e⟩ := unhide hq; exact ⟨_, by rw [e, World.drewN_drewN]⟩)
    by_cases hlt : (j : Int) < (n : Int)
    · have k0 : (0 : Int) ≤ (j : Int) := by omega
      have hlen : j < ms.length := by rw [unhide HN]; omega
      obtain ⟨g, off, rfl⟩ := (unhide HR).form (by omega)
      obtain ⟨c0, c1, c2⟩ := (unhide HRr).at hlen
      obtain ⟨v, hv'⟩ : ∃ v, IntKind.i64.wrap ((ms.getD j R.zero).key.tdiv 100) = v := ⟨_, rfl⟩
      obtain ⟨u, hu'⟩ : ∃ u, (ms.getD j R.zero).key.tmod 100 = u := ⟨_, rfl⟩
      obtain ⟨HF, HC⟩ := key_check hlen hv' hu' (unhide hrl)
      rw [unhide HA] at HF
      have HF := hide HF
      have HC := hide HC
      generalize ms.getD j R.zero = m at *
      obtain ⟨key, til, val⟩ := m
      dsimp only at c0 c1 c2 hv' hu'
      cases h1 : inB v 1 8
      rotate_left
      cases h2 : inB u 1 8
      rotate_left
      cases h3 : (v == u)
      · have HT := hide (unhide HC (by rw [h1, h2, h3]; rfl))
        go_wp2_with fail
        go_quiet ((go_at_call 124; exact Calls.quiet_of_same (l01Addr _ _)))
        go_wp2_with fail
        go_roundw
        case rel => exact ⟨j + 1, by omega, by go_num, HT, hide (unhide HD _)⟩
        case measure => simp [intOf]; omega
      · have HT := hide (unhide HF (by rw [h1, h2, h3]; rfl))
        go_wp2_with fail
        go_quiet ((go_at_call 124; exact Calls.quiet_of_same (l01Addr _ _)))
        go_wp2_with fail
        go_ret
        obtain ⟨q, e⟩ := unhide HD _
        exact ⟨ret_bool (unhide HT).symm, by rw [e]; exact below_drewN (Below.refl _ _) _⟩
      · have HT := hide (unhide HF (by rw [h1]; rfl))
        go_wp2_with fail
        go_quiet ((go_at_call 124; exact Calls.quiet_of_same (l01Addr _ _)))
        go_wp2_with fail
        go_ret
        obtain ⟨q, e⟩ := unhide HD _
        exact ⟨ret_bool (unhide HT).symm, by rw [e]; exact below_drewN (Below.refl _ _) _⟩
      · have HT := hide (unhide HF (by rw [h1, h2]; rfl))
        go_wp2_with fail
        go_quiet ((go_at_call 124; exact Calls.quiet_of_same (l01Addr _ _)))
        go_wp2_with fail
        go_ret
        obtain ⟨q, e⟩ := unhide HD _
        exact ⟨ret_bool (unhide HT).symm, by rw [e]; exact below_drewN (Below.refl _ _) _⟩
    · obtain rfl : j = n := by omega
      have HT : Hid (setB ms = A) := hide (by
        rw [← unhide HA]
        rcases unhide hrl with h | h
        · exact (keys_all (by rw [unhide HN]; exact h)).symm
        · rw [h, set_no h])
      have HB : Hid (Below w.heap.size w wr) := hide (by obtain ⟨q, e⟩ := unhide hq; rw [e]; exact below_drewN (Below.refl _ _) _)
      go_wp2_with fail
      rw [← unhide HN]
      refine (St.specOK _ ms cap _ (by rw [unhide HN]; omega) (unhide HRr)).mono ?_
      rintro e w1 ⟨rfl, b1⟩
      rw [unhide HT]
      have HB1 := hide ((unhide HB).trans (b1.mono (unhide HB).size))
      clear b1
      go_wp2_with fail
      go_ret
      exact ⟨rfl, unhide HB1⟩
end Tw
end Go.Proofs.YtfooahhdikobeaaGreat
namespace Go.Proofs.YtfooahhdikobeaaGreat
open Go.ChangeShapes Go.WideShapes Go.ChangeAt Go.RowKit
set_option linter.unusedVariables false
set_option linter.unusedSimpArgs false
set_option maxRecDepth 100000
attribute [local go_sem ↓] Go.wp_at_zero Go.wp_at_succ
namespace Tp
open W1 Tu St Tw
theorem lt_block {w : World} {b : Nat} {c : Obj} (h : w.heap[b]? = some c) : b < w.heap.size := by
  rcases Nat.lt_or_ge b w.heap.size with hlt | hge
  · exact hlt
  · rw [Array.getElem?_eq_none hge] at h; cases h
theorem heap_set {w : World} {b i : Nat} {c : Array Value} {t : TypeId} {fr : Nat × Nat} (u : Value) (h : w.heap[b]? = some (.cells c t fr)) : (w.setCell ⟨b, i, none⟩ u).heap[b]? = some (.cells (c.setIfInBounds i u) t fr) := by
  have hlt := lt_block h
  have h' : w.heap[b] = .cells c t fr := by simpa [Array.getElem?_eq_getElem hlt] using h
  show (w.heap.modify b _)[b]? = _
  rw [Array.getElem?_eq_getElem (by simpa using hlt), Array.getElem_modify_self, h']
  rfl
/-- A source's block that may be written. -/
def SV (w : World) (b : Nat) (m : So.R) : Prop := w.heap[b]? = some (.cells #[.int .i64 m.ad, .int .i64 m.an, .int .i64 m.til] 170 (0, 0))
theorem SV.cells {w : World} {b : Nat} {m : So.R} (h : SV w b m) : So.At w b 0 m := by
  unfold SV at h; refine ⟨?_, ?_, ?_⟩ <;> simp [World.cell?, h]
theorem SV.free {w : World} {b : Nat} {m : So.R} (h : SV w b m) (i : Nat) : w.frozen? ⟨b, i, none⟩ = false := by unfold SV at h; simp [World.frozen?, h]
theorem SV.lt {w : World} {b : Nat} {m : So.R} (h : SV w b m) : b < w.heap.size := lt_block h
theorem SV.below {w w' : World} {b : Nat} {m : So.R} (h : SV w b m) (hb : Below w.heap.size w w') : SV w' b m := (hb.block b h.lt).trans h
theorem sv_new (w : World) (m : So.R) : SV (w.alloc (.cells #[.int .i64 m.ad, .int .i64 m.an, .int .i64 m.til] 170)) w.heap.size m := heap_alloc_new w _
/-- A topology's block that may be written. -/
def TV (w : World) (b : Nat) (x y : Value) : Prop := w.heap[b]? = some (.cells #[x, y] 80 (0, 0))
theorem TV.bx {w : World} {b : Nat} {x y : Value} (h : TV w b x y) : Bx2 w b x y := by
  unfold TV at h; constructor <;> simp [World.cell?, h]
theorem TV.free {w : World} {b : Nat} {x y : Value} (h : TV w b x y) (i : Nat) : w.frozen? ⟨b, i, none⟩ = false := by unfold TV at h; simp [World.frozen?, h]
theorem TV.lt {w : World} {b : Nat} {x y : Value} (h : TV w b x y) : b < w.heap.size := lt_block h
theorem TV.drew {w : World} {b : Nat} {x y : Value} (h : TV w b x y) : TV w.drew b x y := h
theorem TV.below {w w' : World} {b : Nat} {x y : Value} (h : TV w b x y) (hb : Below w.heap.size w w') : TV w' b x y := (hb.block b h.lt).trans h
theorem TV.under {w w' : World} {B b : Nat} {x y : Value} (h : TV w b x y) (hb : Below B w w') (hl : b < B) : TV w' b x y := (hb.block b hl).trans h
theorem TV.grown {w w' : World} {b : Nat} {x y : Value} {r : Option Nat} (h : TV w b x y) (hg : w.grownBy w' r) (hne : some b ≠ r) : TV w' b x y := (hg.block b h.lt hne).trans h
theorem tv_new (w : World) (x y : Value) : TV (w.alloc (.cells #[x, y] 80)) w.heap.size x y := heap_alloc_new w _
theorem TV.set0 {w : World} {b : Nat} {x y : Value} (h : TV w b x y) (u : Value) : TV (w.setCell ⟨b, 0, none⟩ u) b u y := heap_set u h
theorem TV.set1 {w : World} {b : Nat} {x y : Value} (h : TV w b x y) (u : Value) : TV (w.setCell ⟨b, 1, none⟩ u) b x u := heap_set u h
theorem TV.put {w : World} {b : Nat} {x y : Value} (h : TV w b x y) (u v : Value) : TV ((w.setCell ⟨b, 0, none⟩ u).setCell ⟨b, 1, none⟩ v) b u v := (h.set0 u).set1 v
theorem TV.other {w : World} {b : Nat} {x y : Value} (h : TV w b x y) {p : Addr} (hp : b ≠ p.block) (u : Value) : TV (w.setCell p u) b x y := (Below.heap_setCell _ _ _ _ hp).trans h
set_option maxHeartbeats 1000000 in
theorem l09Source (ad an til : Int) (w : World) :
    Calls Tryz.prog 179 #[.agg #[.int .i64 ad, .int .i64 an, .int .i64 til]] w fun e w' => e = .returned (.bool (okS ⟨ad, an, til⟩)) ∧ Below w.heap.size w w' := by
  have E : Hid (okS ⟨ad, an, til⟩ = (inB ad 1 8 && (inB an 0 65535 && inB til 0 1073741824))) := hide rfl
  cases h1 : inB ad 1 8
  rotate_left
  cases h2 : inB an 0 65535
  rotate_left
  cases h3 : inB til 0 1073741824
  all_goals
    go_enter Tryz.func179, Tryz.ntmps179
    go_wp2_with (first | (go_at_call 43; refine (l01In _ _ _ _).mono ?_; rintro e w' ⟨rfl, rfl⟩) | (go_at_call 124; refine (l01Addr _ _).mono ?_; rintro e w' ⟨rfl, rfl⟩))
    go_ret
    exact ⟨ret_bool (by rw [unhide E]; simp [*]), (Below.refl _ _).alloc (Nat.le_refl _) _⟩
set_option maxHeartbeats 4000000 in
theorem l09Find (a : Option Addr) (ss : List So.R) (ca : Nat) (vb : Value) (k : Int) (w : World) (hm : ss.length ≤ 1048576) (hr : So.RM w a ss) :
    Calls Tryz.prog 140 #[.agg #[.slice a ss.length ca, vb], .int .i64 k] w fun e w' => e = .returned (.tuple #[(fS ss k).value, .bool (hasS ss k)]) ∧ Below w.heap.size w w' := by
  have HT : Hid (∀ j, j < ss.length → (∀ i, i < j → isS k (ss.getD i So.R.zero) = false) → isS k (ss.getD j So.R.zero) = true → fS ss k = ss.getD j So.R.zero ∧ hasS ss k = true) := hide (fun j hj h1 h2 => by
    have hf := Ri.find_at (z := So.R.zero) (isS k) ss j hj h1 h2
    unfold fS hasS; rw [hf]; exact ⟨rfl, rfl⟩)
  have HN : Hid ((∀ i, i < ss.length → isS k (ss.getD i So.R.zero) = false) → fS ss k = So.R.zero ∧ hasS ss k = false) := hide (fun h1 => by
    have hf := Ri.find_no (z := So.R.zero) (isS k) ss h1
    unfold fS hasS; rw [hf]; exact ⟨rfl, rfl⟩)
  obtain ⟨A, hA⟩ : ∃ A, fS ss k = A := ⟨_, rfl⟩
  obtain ⟨E, hE⟩ : ∃ E, hasS ss k = E := ⟨_, rfl⟩
  rw [hA, hE] at HT HN ⊢
  clear hA hE
  have HR0 := hide hr
  clear hr
  obtain ⟨n, hN⟩ : ∃ n, ss.length = n := ⟨_, rfl⟩
  have HL := hide hN
  rw [hN] at hm HT HN ⊢
  clear hN
  have HA0 : Hid (Below w.heap.size w (w.alloc (.cells #[.slice a n ca, vb] 80))) := hide ((Below.refl _ _).alloc (Nat.le_refl _) _)
  have HA : Hid (Below w.heap.size w ((w.alloc (.cells #[.slice a n ca, vb] 80)).alloc (.cells #[.int .i64 0, .int .i64 0, .int .i64 0] 170))) := hide ((unhide HA0).alloc (unhide HA0).size _)
  have HX : Hid (Bx2 ((w.alloc (.cells #[.slice a n ca, vb] 80)).alloc (.cells #[.int .i64 0, .int .i64 0, .int .i64 0] 170)) w.heap.size (.slice a n ca) vb) := hide ((bx2_new w _ _ _).below ((Below.refl _ _).alloc (Nat.le_refl _) _))
  have HV : Hid (SV ((w.alloc (.cells #[.slice a n ca, vb] 80)).alloc (.cells #[.int .i64 0, .int .i64 0, .int .i64 0] 170)) (w.heap.size + 1) So.R.zero) := hide (by have := sv_new (w.alloc (.cells #[.slice a n ca, vb] 80)) So.R.zero; rw [show (w.alloc (.cells #[.slice a n ca, vb] 80)).heap.size = w.heap.size + 1 by simp] at this; exact this)
  have HR := hide ((unhide HR0).below (unhide HA))
  have hsz : w.heap.size ≤ w.heap.size + 1 := by omega
  clear HA0 HR0
  go_enter Tryz.func140, Tryz.ntmps140
  go_wp2_with fail
  generalize hW : (w.alloc (.cells #[.slice a n ca, vb] 80)).alloc (.cells #[.int .i64 0, .int .i64 0, .int .i64 0] 170) = W0 at *
  clear hW
  go_loopw [6] (fun i wr => ∃ j : Nat, j ≤ n ∧ i = .int .i64 j ∧ Hid (∀ i, i < j → isS k (ss.getD i So.R.zero) = false) ∧ W0 = wr) (fun i _ => n - (intOf i).toNat)
  case atStart => exact ⟨0, by omega, rfl, hide (fun i hi => by omega), rfl⟩
  case round =>
    obtain ⟨j, hj, rfl, hrl, rfl⟩ := hrel
    obtain ⟨x0, x1, x2⟩ := (unhide HV).cells
    simp only [Nat.zero_add] at x1 x2
    have y0 := (unhide HV).free 0
    have y1 := (unhide HV).free 1
    have y2 := (unhide HV).free 2
    unfold So.R.zero at x0 x1 x2
    dsimp only at x0 x1 x2
    obtain ⟨z0, z1⟩ := unhide HX
    by_cases hlt : (j : Int) < (n : Int)
    · have k0 : (0 : Int) ≤ (j : Int) := by omega
      have hlen : j < ss.length := by rw [unhide HL]; omega
      obtain ⟨g, off, rfl⟩ := (unhide HR).form (by omega)
      have hA := (unhide HR).at hlen
      cases hk : isS k (ss.getD j So.R.zero)
      · have HST : Hid (∀ i, i < j + 1 → isS k (ss.getD i So.R.zero) = false) := hide (fun i hi => by
          by_cases e : i = j
          · subst e; exact hk
          · exact unhide hrl i (by omega))
        have hne : ((ss.getD j So.R.zero).ad == k) = false := hk
        clear hk
        generalize ss.getD j So.R.zero = m at *
        obtain ⟨ad, an, til⟩ := m
        obtain ⟨c0, c1, c2⟩ := hA
        dsimp only at c0 c1 c2 hne
        go_wp2_with fail
        go_roundw
        case rel => exact ⟨j + 1, by omega, by go_num, HST, trivial⟩
        case measure => simp [intOf]; omega
      · have HAE := hide (unhide HT j (by omega) (unhide hrl) hk)
        have hne : ((ss.getD j So.R.zero).ad == k) = true := hk
        clear hk
        generalize ss.getD j So.R.zero = m at *
        obtain ⟨ad, an, til⟩ := m
        obtain ⟨c0, c1, c2⟩ := hA
        dsimp only at c0 c1 c2 hne
        go_wp2_with fail
        refine bodyPost_ret (v := .tuple #[.agg #[.int .i64 ad, .int .i64 an, .int .i64 til], .bool true]) (by simp [results, Tryz.results140, go_sem, x0, x1, x2]) rfl ⟨by rw [(unhide HAE).1, (unhide HAE).2]; rfl, ?_⟩
        have hB := unhide HA
        (repeat (first | (with_reducible exact hB) | (with_reducible refine Below.drew ?_) | (with_reducible refine Below.setCell ?_ ?_ _; rotate_left; (first | exact Nat.le_refl _ | (simp; done) | (dsimp only; omega))) | (with_reducible refine Below.alloc ?_ ?_ _; rotate_left; (first | exact Nat.le_refl _ | omega | (simp [World.setCell]; omega)))))
    · obtain rfl : j = n := by omega
      have HAE := hide (unhide HN (unhide hrl))
      go_wp2_with fail
      refine bodyPost_ret (v := .tuple #[.agg #[.int .i64 0, .int .i64 0, .int .i64 0], .bool false]) (by simp [results, Tryz.results140, go_sem, x0, x1, x2]) rfl ⟨by rw [(unhide HAE).1, (unhide HAE).2]; rfl, ?_⟩
      have hB := unhide HA
      (repeat (first | (with_reducible exact hB) | (with_reducible refine Below.drew ?_) | (with_reducible refine Below.setCell ?_ ?_ _; rotate_left; (first | exact Nat.le_refl _ | (simp; done) | (dsimp only; omega))) | (with_reducible refine Below.alloc ?_ ?_ _; rotate_left; (first | exact Nat.le_refl _ | omega | (simp [World.setCell]; omega)))))
theorem l09FindL (a : Option Addr) (ss : List So.R) (n ca : Nat) (vb : Value) (k : Int) (w : World) (hn : ss.length = n) (hm : n ≤ 1048576) (hr : So.RM w a ss) :
    Calls Tryz.prog 140 #[.agg #[.slice a n ca, vb], .int .i64 k] w fun e w' => e = .returned (.tuple #[(fS ss k).value, .bool (hasS ss k)]) ∧ Below w.heap.size w w' := by
  subst hn; exact l09Find a ss ca vb k w hm hr
end Tp
end Go.Proofs.YtfooahhdikobeaaGreat
namespace Go.Proofs.YtfooahhdikobeaaGreat
open Go.ChangeShapes Go.WideShapes Go.ChangeAt Go.RowKit
set_option linter.unusedVariables false
set_option linter.unusedSimpArgs false
set_option maxRecDepth 100000
attribute [local go_sem ↓] Go.wp_at_zero Go.wp_at_succ
namespace Tq
open W1 Tp
set_option maxHeartbeats 2000000 in
theorem sz (a : Option Addr) (n ca : Nat) (b : Option Addr) (m cb : Nat) (L : Int) (w : World) (hL : 0 ≤ L) (hL1 : L ≤ 1048576) (hn : n ≤ maxLen) (hm : m ≤ maxLen) :
    Calls Tryz.prog 132 #[.agg #[.slice a n ca, .slice b m cb], .int .i64 L] w fun e w' => ∃ r : Int, e = .returned (.int .i64 r) ∧ Below w.heap.size w w' ∧ (r < 0 ∨ (0 ≤ r ∧ r = L - n - m)) := by
  go_enter Tryz.func132, Tryz.ntmps132
  go_wp2_with fail
  refine (So.szS a n ca L _ hL hL1 hn).mono ?_
  rintro e w1 ⟨r, rfl, rfl, hr⟩
  rcases hr with hr | ⟨hr, hr1⟩
  · go_wp2_with fail
    go_ret
    exact ⟨_, rfl, (Below.refl _ _).alloc (Nat.le_refl _) _, .inl (by omega)⟩
  · have hnn : ¬ r < 0 := by omega
    have hr2 : r ≤ 1048576 := by omega
    have HR1 := hide hr1
    clear hr1
    go_wp2_with fail
    refine (Tu.szS b m cb r _ hr hr2 hm).mono ?_
    rintro e w2 ⟨s, rfl, rfl, hs⟩
    rcases hs with hs | ⟨hs, hs1⟩
    · go_wp2_with fail
      go_ret
      exact ⟨_, rfl, (Below.refl _ _).alloc (Nat.le_refl _) _, .inl (by omega)⟩
    · have hns : ¬ s < 0 := by omega
      have HS1 := hide hs1
      clear hs1
      go_wp2_with fail
      go_ret
      exact ⟨_, rfl, (Below.refl _ _).alloc (Nat.le_refl _) _, .inr ⟨hs, by rw [unhide HS1, unhide HR1]⟩⟩
theorem uptoS_set {w : World} {g n j : Nat} {ms : List So.R} {p : Addr} {v : Value} (h : So.Upto w g n j ms) (hne : p.block ≠ g) : So.Upto (w.setCell p v) g n j ms :=
  h.of_block (Below.heap_setCell _ _ _ _ (fun e => hne e.symm))
theorem uptoT_set {w : World} {g n j : Nat} {ms : List Tu.R} {p : Addr} {v : Value} (h : Tu.Upto w g n j ms) (hne : p.block ≠ g) : Tu.Upto (w.setCell p v) g n j ms :=
  h.of_block (Below.heap_setCell _ _ _ _ (fun e => hne e.symm))
set_option maxHeartbeats 4000000 in
theorem toV (a : Option Addr) (ss : List So.R) (ca : Nat) (b : Option Addr) (es : List Tu.R) (cb : Nat) (w : World) (hm : ss.length ≤ 1048576) (hl : es.length ≤ 1048576) (hr : So.RM w a ss) (hr' : Tu.RM w b es) :
    Calls Tryz.prog 147 #[.agg #[.slice a ss.length ca, .slice b es.length cb]] w fun e w' => ∃ g h, e = .returned (.agg #[.slice (some ⟨g, 0, none⟩) ss.length ss.length, .slice (some ⟨h, 0, none⟩) es.length es.length]) ∧ Below w.heap.size w w' ∧ (w.heap.size ≤ g ∧ g < h ∧ h < w'.heap.size) ∧ So.Upto w' g ss.length ss.length ss ∧ Tu.Upto w' h es.length es.length es := by
  have HA0 : Hid (Below w.heap.size w (w.alloc (.cells #[.slice a ss.length ca, .slice b es.length cb] 111))) := hide ((Below.refl _ _).alloc (Nat.le_refl _) _)
  have HA1 : Hid (Below w.heap.size w ((w.alloc (.cells #[.slice a ss.length ca, .slice b es.length cb] 111)).alloc (.cells #[.slice none 0 0, .slice none 0 0] 80))) := hide ((unhide HA0).alloc (unhide HA0).size _)
  have HA : Hid (Below w.heap.size w (((w.alloc (.cells #[.slice a ss.length ca, .slice b es.length cb] 111)).alloc (.cells #[.slice none 0 0, .slice none 0 0] 80)).alloc (.cells #[.slice none 0 0, .slice none 0 0] 80))) := hide ((unhide HA1).alloc (unhide HA1).size _)
  have HX : Hid (Bx2 (((w.alloc (.cells #[.slice a ss.length ca, .slice b es.length cb] 111)).alloc (.cells #[.slice none 0 0, .slice none 0 0] 80)).alloc (.cells #[.slice none 0 0, .slice none 0 0] 80)) w.heap.size (.slice a ss.length ca) (.slice b es.length cb)) := hide (((bx2_new w _ _ _).below ((Below.refl _ _).alloc (Nat.le_refl _) _)).below ((Below.refl _ _).alloc (Nat.le_refl _) _))
  have HZ : Hid (TV (((w.alloc (.cells #[.slice a ss.length ca, .slice b es.length cb] 111)).alloc (.cells #[.slice none 0 0, .slice none 0 0] 80)).alloc (.cells #[.slice none 0 0, .slice none 0 0] 80)) (w.heap.size + 1) (.slice none 0 0) (.slice none 0 0)) := hide (by have := (tv_new (w.alloc (.cells #[.slice a ss.length ca, .slice b es.length cb] 111)) (.slice none 0 0) (.slice none 0 0)).below ((Below.refl _ _).alloc (Nat.le_refl _) (.cells #[.slice none 0 0, .slice none 0 0] 80)); rw [show (w.alloc (.cells #[.slice a ss.length ca, .slice b es.length cb] 111)).heap.size = w.heap.size + 1 by simp] at this; exact this)
  have HO : Hid (TV (((w.alloc (.cells #[.slice a ss.length ca, .slice b es.length cb] 111)).alloc (.cells #[.slice none 0 0, .slice none 0 0] 80)).alloc (.cells #[.slice none 0 0, .slice none 0 0] 80)) (w.heap.size + 2) (.slice none 0 0) (.slice none 0 0)) := hide (by have := tv_new ((w.alloc (.cells #[.slice a ss.length ca, .slice b es.length cb] 111)).alloc (.cells #[.slice none 0 0, .slice none 0 0] 80)) (.slice none 0 0) (.slice none 0 0); rw [show ((w.alloc (.cells #[.slice a ss.length ca, .slice b es.length cb] 111)).alloc (.cells #[.slice none 0 0, .slice none 0 0] 80)).heap.size = w.heap.size + 2 by simp] at this; exact this)
  have HR := hide (hr.below (unhide HA))
  have HE0 := hide hr'
  have hw3 : ((((w.alloc (.cells #[.slice a ss.length ca, .slice b es.length cb] 111)).alloc (.cells #[.slice none 0 0, .slice none 0 0] 80)).alloc (.cells #[.slice none 0 0, .slice none 0 0] 80))).heap.size = w.heap.size + 3 := by simp
  clear hr hr' HA0 HA1
  go_enter Tryz.func147, Tryz.ntmps147
  go_wp2_with fail
  generalize hW : (((w.alloc (.cells #[.slice a ss.length ca, .slice b es.length cb] 111)).alloc (.cells #[.slice none 0 0, .slice none 0 0] 80)).alloc (.cells #[.slice none 0 0, .slice none 0 0] 80)) = w0 at *
  clear hW
  refine (So.toS a ss ca _ hm (unhide HR)).mono ?_
  rintro e w1 ⟨g, rfl, b1, hg, hz, u1⟩
  have HB1 := hide ((unhide HA).trans (b1.mono (unhide HA).size))
  have HX1 := hide ((unhide HX).below b1)
  have HZ1 := hide ((unhide HZ).below b1)
  have HO1 := hide ((unhide HO).below b1)
  have HU1 := hide u1
  have hs1 := b1.size
  clear b1 u1 HX HZ HO HR HA
  have hp2 : w.heap.size ≤ w.heap.size + 2 := by omega
  have hp1 : w.heap.size ≤ w.heap.size + 1 := by omega
  obtain ⟨w2, hw2⟩ : ∃ w2, w1.setCell ⟨w.heap.size + 2, 0, none⟩ (.slice (some ⟨g, 0, none⟩) ss.length ss.length) = w2 := ⟨_, rfl⟩
  have HB2 : Hid (Below w.heap.size w w2) := hide (by rw [← hw2]; exact (unhide HB1).setCell (p := ⟨w.heap.size + 2, 0, none⟩) hp2 _)
  have HX2 : Hid (Bx2 w2 w.heap.size (.slice a ss.length ca) (.slice b es.length cb)) := hide (by rw [← hw2]; exact (unhide HX1).but (Below.heap_setCell _ _ _ _ (by show w.heap.size ≠ w.heap.size + 2; omega)))
  have HZ2 : Hid (TV w2 (w.heap.size + 1) (.slice none 0 0) (.slice none 0 0)) := hide (by rw [← hw2]; exact (unhide HZ1).other (p := ⟨w.heap.size + 2, 0, none⟩) (by show w.heap.size + 1 ≠ w.heap.size + 2; omega) _)
  have HO2 : Hid (TV w2 (w.heap.size + 2) (.slice (some ⟨g, 0, none⟩) ss.length ss.length) (.slice none 0 0)) := hide (by rw [← hw2]; exact (unhide HO1).set0 _)
  have HU2 : Hid (So.Upto w2 g ss.length ss.length ss) := hide (by rw [← hw2]; exact uptoS_set (p := ⟨w.heap.size + 2, 0, none⟩) (unhide HU1) (by show w.heap.size + 2 ≠ g; omega))
  have hs2 : w2.heap.size = w1.heap.size := by rw [← hw2]; simp [World.setCell]
  obtain ⟨o0, o1⟩ := (unhide HO1).bx
  have f0 := (unhide HO1).free 0
  have HE2 := hide ((unhide HE0).below (unhide HB2))
  have HW2 := hide hw2
  obtain ⟨z0, z1⟩ := unhide HX1
  have hne : ¬ w.heap.size = w.heap.size + 2 := by omega
  clear hw2 HX1 HZ1 HU1
  go_wp2_with fail
  rw [unhide HW2]
  refine (Tu.toS b es cb _ hl (unhide HE2)).mono ?_
  rintro e w3 ⟨h, rfl, b3, hh, hz3, u3⟩
  have HB3 := hide ((unhide HB2).trans (b3.mono (unhide HB2).size))
  have HZ3 := hide ((unhide HZ2).below b3)
  have HO3 := hide ((unhide HO2).below b3)
  have HU3 := hide ((unhide HU2).below b3 (by omega))
  have HV3 := hide u3
  have hs3 := b3.size
  clear b3 u3 z0 z1 o0 o1 f0 HX2 HZ2 HO2 HU2 HW2 HO1 HE2
  obtain ⟨o0, o1⟩ := (unhide HO3).bx
  obtain ⟨r0, r1⟩ := (unhide HZ3).bx
  have f1 := (unhide HO3).free 1
  have q0 := (unhide HZ3).free 0
  have q1 := (unhide HZ3).free 1
  have hne2 : ¬ w.heap.size + 2 = w.heap.size + 1 := by omega
  have hne3 : ¬ w.heap.size + 1 = w.heap.size + 2 := by omega
  go_wp2_with fail
  refine bodyPost_ret (v := .agg #[.slice (some ⟨g, 0, none⟩) ss.length ss.length, .slice (some ⟨h, 0, none⟩) es.length es.length]) (by simp [results, Tryz.results147, go_sem, r0, r1, o0, o1]) rfl ⟨g, h, rfl, ?_, ⟨by omega, by omega, by simp [World.setCell]; omega⟩, ?_, ?_⟩
  · have hB := unhide HB3
    (repeat (first | (with_reducible exact hB) | (with_reducible refine Below.drew ?_) | (with_reducible refine Below.setCell ?_ ?_ _; rotate_left; (first | exact Nat.le_refl _ | (simp; done) | (dsimp only; omega))) | (with_reducible refine Below.alloc ?_ ?_ _; rotate_left; (first | exact Nat.le_refl _ | omega | (simp [World.setCell]; omega)))))
  · have := unhide HU3
    repeat (first | exact this | refine uptoS_set ?_ (by simp; omega))
  · have := unhide HV3
    repeat (first | exact this | refine uptoT_set ?_ (by simp; omega))
set_option maxHeartbeats 2000000 in
theorem eq (a : Option Addr) (ss : List So.R) (ca : Nat) (b : Option Addr) (es : List Tu.R) (cb : Nat) (c : Option Addr) (cc : Nat) (d : Option Addr) (cd : Nat) (w : World) (hm : ss.length ≤ 1048576) (hl : es.length ≤ 1048576) (h1 : So.RM w a ss) (h2 : Tu.RM w b es) (h3 : So.RM w c ss) (h4 : Tu.RM w d es) :
    Calls Tryz.prog 155 #[.agg #[.slice a ss.length ca, .slice b es.length cb], .agg #[.slice c ss.length cc, .slice d es.length cd]] w fun e w' => e = .returned (.bool true) ∧ Below w.heap.size w w' := by
  have HA0 : Hid (Below w.heap.size w (w.alloc (.cells #[.slice a ss.length ca, .slice b es.length cb] 80))) := hide ((Below.refl _ _).alloc (Nat.le_refl _) _)
  have HA : Hid (Below w.heap.size w ((w.alloc (.cells #[.slice a ss.length ca, .slice b es.length cb] 80)).alloc (.cells #[.slice c ss.length cc, .slice d es.length cd] 80))) := hide ((unhide HA0).alloc (unhide HA0).size _)
  have HX : Hid (Bx2 ((w.alloc (.cells #[.slice a ss.length ca, .slice b es.length cb] 80)).alloc (.cells #[.slice c ss.length cc, .slice d es.length cd] 80)) w.heap.size (.slice a ss.length ca) (.slice b es.length cb)) := hide ((bx2_new w _ _ _).below ((Below.refl _ _).alloc (Nat.le_refl _) _))
  have HY : Hid (Bx2 ((w.alloc (.cells #[.slice a ss.length ca, .slice b es.length cb] 80)).alloc (.cells #[.slice c ss.length cc, .slice d es.length cd] 80)) (w.heap.size + 1) (.slice c ss.length cc) (.slice d es.length cd)) := hide (by have := bx2_new (w.alloc (.cells #[.slice a ss.length ca, .slice b es.length cb] 80)) (.slice c ss.length cc) (.slice d es.length cd) 80; rw [show (w.alloc (.cells #[.slice a ss.length ca, .slice b es.length cb] 80)).heap.size = w.heap.size + 1 by simp] at this; exact this)
  have H1 := hide (h1.below (unhide HA))
  have H2 := hide (h2.below (unhide HA))
  have H3 := hide (h3.below (unhide HA))
  have H4 := hide (h4.below (unhide HA))
  clear h1 h2 h3 h4 HA0
  go_enter Tryz.func155, Tryz.ntmps155
  go_wp2_with fail
  refine (So.eqS a c ss ca cc _ hm (unhide H1) (unhide H3)).mono ?_
  rintro e w1 ⟨rfl, b1⟩
  have B1 := hide ((unhide HA).trans (b1.mono (unhide HA).size))
  obtain ⟨z0, z1⟩ := (unhide HX).below b1
  obtain ⟨y0, y1⟩ := (unhide HY).below b1
  have H2' := hide ((unhide H2).below b1)
  have H4' := hide ((unhide H4).below b1)
  clear b1
  go_wp2_with fail
  refine (Tu.eqS b d es cb cd _ hl (unhide H2') (unhide H4')).mono ?_
  rintro e w2 ⟨rfl, b2⟩
  have B2 := hide ((unhide B1).trans (b2.mono (unhide B1).size))
  clear b2 z0 z1 y0 y1
  go_wp2_with fail
  go_ret
  exact ⟨rfl, unhide B2⟩
theorem cellsR : Tryz.prog.cellsOf 111 = 2 := by kernel_rfl
theorem listR {α : Type} {l : List α} (h : l.length = 2) : ∃ c0 c1, l = [c0, c1] := by
  match l, h with
  | [c0, c1], _ => exact ⟨c0, c1, rfl⟩
open Tu in
theorem open_cellT {H : Type} {enc : TypeId × Value → H} {W : World} {v : Value} {fuel : Nat} {y : DataW H × List MemPlace}
    (hf : DataW.trod enc Tryz.prog W 0 (fun _ => true) true fuel 108 [v] = some y) : ∃ a len cap, ∃ ms : List Tu.R, v = .slice a len cap ∧ ms.length = len ∧ len ≤ maxLen ∧ Tu.RM W a ms := by
  rcases Deep.open_slice Tryz.underlying108 hf with ⟨hcs, _⟩ | ⟨x, len, cap, m, n, D, Pl, hcs, _, hl, hm, hmm, _, hx⟩
  · simp only [List.cons.injEq, and_true] at hcs
    subst hcs
    exact ⟨none, 0, 0, [], rfl, rfl, Nat.zero_le _, .inl rfl⟩
  · simp only [List.cons.injEq, and_true] at hcs
    subst hcs
    simp at hmm
    subst hmm
    rw [Tu.cellsR] at hx
    by_cases h0 : len = 0
    · subst h0; exact ⟨_, _, _, [], rfl, rfl, Nat.zero_le _, .inl rfl⟩
    obtain ⟨b, off, spot⟩ := x
    have hsp : spot = none := by
      obtain ⟨cs', h1, _⟩ := hx 0 (by omega)
      obtain ⟨_, hlen, hc⟩ := World.cells?_some h1
      have h2 := hc 0 (by omega)
      rw [List.getElem?_eq_getElem (by omega)] at h2
      simpa [Addr.add] using World.cell?_spot h2
    subst hsp
    have hex : ∀ i, i < len → ∃ m : R, At W b (off + i * 3) m := by
      intro i hi
      obtain ⟨cs', h1, h2⟩ := hx i (by omega)
      obtain ⟨_, hlen, hc⟩ := World.cells?_some h1
      obtain ⟨m, rfl⟩ := open_one hlen h2
      have q0 := hc 0 (by omega)
      have q1 := hc 1 (by omega)
      have q2 := hc 2 (by omega)
      rw [plain_add, plain_add] at q0 q1 q2
      exact ⟨m, q0, q1, q2⟩
    have hin : Inhabited R := ⟨R.zero⟩
    obtain ⟨V, hV⟩ := Deep.choose_lt hex
    refine ⟨_, _, _, (List.range len).map V, rfl, by simp, Nat.le_trans hl hm, .inr ⟨b, off, rfl, fun i hi => ?_⟩⟩
    have hi' : i < len := by simpa using hi
    have e : ((List.range len).map V).getD i R.zero = V i := by
      rw [List.getD_eq_getElem?_getD, List.getElem?_map, List.getElem?_range hi']; rfl
    rw [e]
    exact hV i hi'
end Tq
end Go.Proofs.YtfooahhdikobeaaGreat
