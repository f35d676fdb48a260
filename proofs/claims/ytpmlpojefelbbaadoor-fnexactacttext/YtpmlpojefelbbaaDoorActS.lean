/-
  The model's ActText.
-/
import Derived.Test.YtpmlpojefelbbaaDoorActM
import Derived.Test.YtpmlpojefelbbaaDoorRg
import Derived.Deep.DeepHandedRow
namespace Go.Proofs.YtpmlpojefelbbaaDoor
open Go.ChangeShapes Go.WideShapes Go.ChangeAt Go.RowKit
set_option linter.unusedVariables false
set_option linter.unusedSimpArgs false
set_option maxRecDepth 100000
attribute [local go_sem ↓] Go.wp_at_zero Go.wp_at_succ
attribute [local go_sem] Go.strOfNums_size ByteArray.size_append
namespace Ac
open W1 Di

theorem Bx4.below {W W' : World} {g : Nat} {k a b n : Int} (h : W.cell? ⟨g, 0, none⟩ = some (.int .i64 k) ∧ W.cell? ⟨g, 1, none⟩ = some (.int .i64 a) ∧ W.cell? ⟨g, 2, none⟩ = some (.int .i64 b) ∧ W.cell? ⟨g, 3, none⟩ = some (.int .i64 n)) (hb : Below W.heap.size W W') : W'.cell? ⟨g, 0, none⟩ = some (.int .i64 k) ∧ W'.cell? ⟨g, 1, none⟩ = some (.int .i64 a) ∧ W'.cell? ⟨g, 2, none⟩ = some (.int .i64 b) ∧ W'.cell? ⟨g, 3, none⟩ = some (.int .i64 n) := by
  obtain ⟨h0, h1, h2, h3⟩ := h
  have hg : g < W.heap.size := World.block_lt_of_cell? _ _ h0
  exact ⟨(hb.cell (p := ⟨g, 0, none⟩) hg).trans h0, (hb.cell (p := ⟨g, 1, none⟩) hg).trans h1, (hb.cell (p := ⟨g, 2, none⟩) hg).trans h2, (hb.cell (p := ⟨g, 3, none⟩) hg).trans h3⟩
set_option maxHeartbeats 16000000 in
theorem specA1 (a b n : Int) (l : Option Addr) (zs : List Int) (c : Nat) (by_ : ByteArray) (w : World) (ha : i64B a) (hb : i64B b) (hn : i64B n) (hm : zs.length ≤ 1048576) (hr : In.RM w l zs) :
    Calls Tryd.prog 6 #[.agg #[.int .i64 1, .int .i64 a, .int .i64 b, .int .i64 n, .slice l zs.length c, .string by_]] w fun e w' => e = .returned (.tuple #[.string (sTicks ++ tx n), .int .i64 0]) ∧ Below w.heap.size w w' := by
  have HX := hide (bx6_new w 1 a b n (.slice l zs.length c) by_ 28)
  have HB0 := hide (bel_new6 w (.cells #[.int .i64 1, .int .i64 a, .int .i64 b, .int .i64 n, .slice l zs.length c, .string by_] 28))
  have za := tx_size a ha.1 ha.2
  have zb := tx_size b hb.1 hb.2
  have zn := tx_size n hn.1 hn.2
  go_enter Tryd.func6, Tryd.ntmps6
  obtain ⟨p0, p1, p2, p3, p4, p5⟩ := unhide HX
  go_wp2_with fail
  refine (digsA n hn.1 hn.2 _).mono ?_
  rintro e w1 ⟨rfl, b1⟩
  have HB1 := hide ((unhide HB0).trans (b1.mono (unhide HB0).size))
  clear p0 p1 p2 p3 p4 p5 b1 HX HB0
  go_wp2_with fail
  go_ret2
  exact ⟨rfl, unhide HB1⟩
set_option maxHeartbeats 16000000 in
theorem specA3 (a b n : Int) (l : Option Addr) (zs : List Int) (c : Nat) (by_ : ByteArray) (w : World) (ha : i64B a) (hb : i64B b) (hn : i64B n) (hm : zs.length ≤ 1048576) (hr : In.RM w l zs) :
    Calls Tryd.prog 6 #[.agg #[.int .i64 3, .int .i64 a, .int .i64 b, .int .i64 n, .slice l zs.length c, .string by_]] w fun e w' => e = .returned (.tuple #[.string (((((sCost ++ tx a) ++ s32) ++ tx b) ++ s32) ++ tx n), .int .i64 0]) ∧ Below w.heap.size w w' := by
  have HX := hide (bx6_new w 3 a b n (.slice l zs.length c) by_ 28)
  have HB0 := hide (bel_new6 w (.cells #[.int .i64 3, .int .i64 a, .int .i64 b, .int .i64 n, .slice l zs.length c, .string by_] 28))
  have za := tx_size a ha.1 ha.2
  have zb := tx_size b hb.1 hb.2
  have zn := tx_size n hn.1 hn.2
  have zz0 : ¬ (9223372036854775807 < 5 + (tx a).size) := by omega
  have zz1 : ¬ (9223372036854775807 < 5 + (tx a).size + 1) := by omega
  have zz2 : ¬ (9223372036854775807 < 5 + (tx a).size + 1 + (tx b).size) := by omega
  have zz3 : ¬ (9223372036854775807 < 5 + (tx a).size + 1 + (tx b).size + 1) := by omega
  have zz4 : ¬ (9223372036854775807 < 5 + (tx a).size + 1 + (tx b).size + 1 + (tx n).size) := by omega
  go_enter Tryd.func6, Tryd.ntmps6
  obtain ⟨p0, p1, p2, p3, p4, p5⟩ := unhide HX
  go_wp2_with fail
  obtain ⟨w0, hw0⟩ : ∃ W, w.alloc (.cells #[.int .i64 3, .int .i64 a, .int .i64 b, .int .i64 n, .slice l zs.length c, .string by_] 28) = W := ⟨_, rfl⟩
  rw [hw0] at HX HB0 p0 p1 p2 p3 p4 p5
  try rw [hw0]
  clear hw0
  have SQ0 := hide (⟨p0, p1, p2, p3⟩ : w0.cell? ⟨w.heap.size, 0, none⟩ = some (.int .i64 3) ∧ w0.cell? ⟨w.heap.size, 1, none⟩ = some (.int .i64 a) ∧ w0.cell? ⟨w.heap.size, 2, none⟩ = some (.int .i64 b) ∧ w0.cell? ⟨w.heap.size, 3, none⟩ = some (.int .i64 n))
  clear p0 p1 p2 p3 p4 p5
  refine wp_region_noPanic ?_
  refine wp_region_held_drew (S := fun w' => w'.cell? ⟨w.heap.size, 0, none⟩ = some (.int .i64 3) ∧ w'.cell? ⟨w.heap.size, 1, none⟩ = some (.int .i64 a) ∧ w'.cell? ⟨w.heap.size, 2, none⟩ = some (.int .i64 b) ∧ w'.cell? ⟨w.heap.size, 3, none⟩ = some (.int .i64 n)) (by kernel_rfl) (unhide SQ0) (fun hHeld => ?_)
  refine Rg.t 0 55 ?_
  refine Rg.t 1 56 ?_
  refine Rg.t 5 60 ?_
  refine Rg.t 6 61 ?_
  refine Rg.t 10 65 ?_
  refine Rg.t 11 66 ?_
  (refine Rg.o 2 (fun K hK => ?_); go_simp)
  refine ((digsA a ha.1 ha.2 w0.drew)).mono ?_
  rintro e w1 ⟨rfl, b_⟩
  have b1 : Below w0.heap.size w0 w1 := (Below.refl _ _).drew.trans b_
  have SQ1 := hide (Bx4.below (unhide SQ0) b1)
  have HB1 := hide ((unhide HB0).trans (b1.mono (unhide HB0).size))
  clear hHeld b_ b1 SQ0 HB0
  refine hK.out _ _ (unhide SQ1) (fun hHeld => ?_)
  clear hK K
  (try simp only [Act.put, List.setIfInBounds_toArray, List.set_cons_zero, List.set_cons_succ])
  refine Rg.t 3 58 ?_
  refine Rg.t 4 59 ?_
  (refine Rg.o 7 (fun K hK => ?_); go_simp)
  refine ((digsA b hb.1 hb.2 w1)).mono ?_
  rintro e w2 ⟨rfl, b_⟩
  have b2 : Below w1.heap.size w1 w2 := b_
  have SQ2 := hide (Bx4.below (unhide SQ1) b2)
  have HB2 := hide ((unhide HB1).trans (b2.mono (unhide HB1).size))
  clear hHeld b_ b2 SQ1 HB1
  refine hK.out _ _ (unhide SQ2) (fun hHeld => ?_)
  clear hK K
  (try simp only [Act.put, List.setIfInBounds_toArray, List.set_cons_zero, List.set_cons_succ])
  refine Rg.t 8 63 ?_
  refine Rg.t 9 64 ?_
  (refine Rg.o 12 (fun K hK => ?_); go_simp)
  refine ((digsA n hn.1 hn.2 w2)).mono ?_
  rintro e w3 ⟨rfl, b_⟩
  have b3 : Below w2.heap.size w2 w3 := b_
  have SQ3 := hide (Bx4.below (unhide SQ2) b3)
  have HB3 := hide ((unhide HB2).trans (b3.mono (unhide HB2).size))
  clear hHeld b_ b3 SQ2 HB2
  refine hK.out _ _ (unhide SQ3) (fun hHeld => ?_)
  clear hK K
  (try simp only [Act.put, List.setIfInBounds_toArray, List.set_cons_zero, List.set_cons_succ])
  refine Rg.t 13 68 ?_
  refine Rg.t 14 2 ?_
  refine Rg.t 15 3 ?_
  clear hHeld
  refine wpAnyH_done (by kernel_rfl) (NoPanic.normal ?_) _
  go_wp2_with fail
  go_ret2
  exact ⟨rfl, unhide HB3⟩

set_option maxHeartbeats 16000000 in
theorem specA4 (a b n : Int) (l : Option Addr) (zs : List Int) (c : Nat) (by_ : ByteArray) (w : World) (ha : i64B a) (hb : i64B b) (hn : i64B n) (hm : zs.length ≤ 1048576) (hr : In.RM w l zs) :
    Calls Tryd.prog 6 #[.agg #[.int .i64 4, .int .i64 a, .int .i64 b, .int .i64 n, .slice l zs.length c, .string by_]] w fun e w' => e = .returned (.tuple #[.string (((sRest ++ tx a) ++ s32) ++ tx n), .int .i64 0]) ∧ Below w.heap.size w w' := by
  have HX := hide (bx6_new w 4 a b n (.slice l zs.length c) by_ 28)
  have HB0 := hide (bel_new6 w (.cells #[.int .i64 4, .int .i64 a, .int .i64 b, .int .i64 n, .slice l zs.length c, .string by_] 28))
  have za := tx_size a ha.1 ha.2
  have zb := tx_size b hb.1 hb.2
  have zn := tx_size n hn.1 hn.2
  have zz0 : ¬ (9223372036854775807 < 8 + (tx a).size) := by omega
  have zz1 : ¬ (9223372036854775807 < 8 + (tx a).size + 1) := by omega
  have zz2 : ¬ (9223372036854775807 < 8 + (tx a).size + 1 + (tx n).size) := by omega
  go_enter Tryd.func6, Tryd.ntmps6
  obtain ⟨p0, p1, p2, p3, p4, p5⟩ := unhide HX
  go_wp2_with fail
  obtain ⟨w0, hw0⟩ : ∃ W, w.alloc (.cells #[.int .i64 4, .int .i64 a, .int .i64 b, .int .i64 n, .slice l zs.length c, .string by_] 28) = W := ⟨_, rfl⟩
  rw [hw0] at HX HB0 p0 p1 p2 p3 p4 p5
  try rw [hw0]
  clear hw0
  have SQ0 := hide (⟨p0, p1, p2, p3⟩ : w0.cell? ⟨w.heap.size, 0, none⟩ = some (.int .i64 4) ∧ w0.cell? ⟨w.heap.size, 1, none⟩ = some (.int .i64 a) ∧ w0.cell? ⟨w.heap.size, 2, none⟩ = some (.int .i64 b) ∧ w0.cell? ⟨w.heap.size, 3, none⟩ = some (.int .i64 n))
  clear p0 p1 p2 p3 p4 p5
  refine wp_region_noPanic ?_
  refine wp_region_held_drew (S := fun w' => w'.cell? ⟨w.heap.size, 0, none⟩ = some (.int .i64 4) ∧ w'.cell? ⟨w.heap.size, 1, none⟩ = some (.int .i64 a) ∧ w'.cell? ⟨w.heap.size, 2, none⟩ = some (.int .i64 b) ∧ w'.cell? ⟨w.heap.size, 3, none⟩ = some (.int .i64 n)) (by kernel_rfl) (unhide SQ0) (fun hHeld => ?_)
  refine Rg.t 0 71 ?_
  refine Rg.t 1 72 ?_
  refine Rg.t 5 76 ?_
  refine Rg.t 6 77 ?_
  (refine Rg.o 2 (fun K hK => ?_); go_simp)
  refine ((digsA a ha.1 ha.2 w0.drew)).mono ?_
  rintro e w1 ⟨rfl, b_⟩
  have b1 : Below w0.heap.size w0 w1 := (Below.refl _ _).drew.trans b_
  have SQ1 := hide (Bx4.below (unhide SQ0) b1)
  have HB1 := hide ((unhide HB0).trans (b1.mono (unhide HB0).size))
  clear hHeld b_ b1 SQ0 HB0
  refine hK.out _ _ (unhide SQ1) (fun hHeld => ?_)
  clear hK K
  (try simp only [Act.put, List.setIfInBounds_toArray, List.set_cons_zero, List.set_cons_succ])
  refine Rg.t 3 74 ?_
  refine Rg.t 4 75 ?_
  (refine Rg.o 7 (fun K hK => ?_); go_simp)
  refine ((digsA n hn.1 hn.2 w1)).mono ?_
  rintro e w2 ⟨rfl, b_⟩
  have b2 : Below w1.heap.size w1 w2 := b_
  have SQ2 := hide (Bx4.below (unhide SQ1) b2)
  have HB2 := hide ((unhide HB1).trans (b2.mono (unhide HB1).size))
  clear hHeld b_ b2 SQ1 HB1
  refine hK.out _ _ (unhide SQ2) (fun hHeld => ?_)
  clear hK K
  (try simp only [Act.put, List.setIfInBounds_toArray, List.set_cons_zero, List.set_cons_succ])
  refine Rg.t 8 79 ?_
  refine Rg.t 9 2 ?_
  refine Rg.t 10 3 ?_
  clear hHeld
  refine wpAnyH_done (by kernel_rfl) (NoPanic.normal ?_) _
  go_wp2_with fail
  go_ret2
  exact ⟨rfl, unhide HB2⟩

set_option maxHeartbeats 16000000 in
theorem specA2 (a b n : Int) (l : Option Addr) (zs : List Int) (c : Nat) (by_ : ByteArray) (w : World) (ha : i64B a) (hb : i64B b) (hn : i64B n) (hm : zs.length ≤ 1048576) (hr : In.RM w l zs) :
    Calls Tryd.prog 6 #[.agg #[.int .i64 2, .int .i64 a, .int .i64 b, .int .i64 n, .slice l zs.length c, .string by_]] w fun e w' => e = .returned (.tuple #[.string (if toldB zs = true then ((sLossy ++ tx n) ++ s32) ++ sgT zs zs.length else ByteArray.empty), .int .i64 (if toldB zs = true then 0 else 1)]) ∧ Below w.heap.size w w' := by
  have KL := hide (fun W (h : In.RM W l zs) => specLose l zs c W hm h)
  have HR := hide (fun W (h : Below w.heap.size w W) => hr.below h)
  have zn := tx_size n hn.1 hn.2
  have HSZ := hide (fun h => sgT_size (zs := zs) h)
  have HAT := hide (fun h (i : Nat) (hi : i < zs.length) => sg_at (zs := zs) h hi)
  have HTB := hide (show toldB zs = ((decide (1 ≤ zs.length) && decide (zs.length ≤ 60)) && sgB zs) from rfl)
  have HL0 := hide (show zs.length = 0 → zs = [] from List.eq_nil_of_length_eq_zero)
  obtain ⟨N, hN⟩ : ∃ N, zs.length = N := ⟨_, rfl⟩
  have HN := hide hN
  rw [hN] at KL HSZ HAT HTB hm ⊢
  obtain ⟨tb, htb⟩ : ∃ t, toldB zs = t := ⟨_, rfl⟩
  rw [htb] at HTB ⊢
  clear hr htb hN
  have HX := hide (bx6_new w 2 a b n (.slice l N c) by_ 28)
  have HB0 := hide (bel_new6 w (.cells #[.int .i64 2, .int .i64 a, .int .i64 b, .int .i64 n, .slice l N c, .string by_] 28))
  by_cases h0 : N = 0
  · obtain rfl : tb = false := by rw [unhide HTB, decide_eq_false (by omega)]; rfl
    rw [if_neg (by simp), if_neg (by simp)]
    subst h0
    clear KL
    go_enter Tryd.func6, Tryd.ntmps6
    obtain ⟨p0, p1, p2, p3, p4, p5⟩ := unhide HX
    go_wp2_with fail
    go_ret2
    exact ⟨rfl, unhide HB0⟩
  have k0 : ¬ ((N : Int) = 0) := by omega
  have k0q : ((N : Int) == 0) = false := by simpa using h0
  have HRW := unhide HR _ (unhide HB0)
  cases hsg : sgB zs
  · obtain rfl : tb = false := by rw [unhide HTB, hsg]; simp
    rw [if_neg (by simp), if_neg (by simp)]
    rw [hsg] at KL
    clear hsg
    go_enter Tryd.func6, Tryd.ntmps6
    obtain ⟨p0, p1, p2, p3, p4, p5⟩ := unhide HX
    go_wp2_with (first | (go_at_call 16; refine (unhide KL _ (by assumption)).mono ?_; rintro e w_ ⟨rfl, rfl⟩))
    go_ret2
    exact ⟨rfl, unhide HB0⟩
  rw [hsg] at KL
  by_cases h60 : (60 : Int) < (N : Int)
  · obtain rfl : tb = false := by rw [unhide HTB, decide_eq_false (p := N ≤ 60) (by omega)]; simp
    rw [if_neg (by simp), if_neg (by simp)]
    clear hsg
    go_enter Tryd.func6, Tryd.ntmps6
    obtain ⟨p0, p1, p2, p3, p4, p5⟩ := unhide HX
    go_wp2_with (first | (go_at_call 16; refine (unhide KL _ (by assumption)).mono ?_; rintro e w_ ⟨rfl, rfl⟩))
    go_ret2
    exact ⟨rfl, unhide HB0⟩
  obtain rfl : tb = true := by rw [unhide HTB, hsg, decide_eq_true (p := 1 ≤ N) (by omega), decide_eq_true (p := N ≤ 60) (by omega)]; rfl
  rw [if_pos rfl, if_pos rfl]
  have k6q : decide ((60 : Int) < (N : Int)) = false := decide_eq_false h60
  have HSG := hide hsg
  clear hsg
  obtain ⟨Tq, hTq⟩ : ∃ t, (sLossy ++ tx n) ++ s32 = t := ⟨_, rfl⟩
  have htz : Tq.size ≤ 40 := by
    rw [← hTq, ByteArray.size_append, ByteArray.size_append]
    have e1 : sLossy.size = 6 := rfl
    have e2 : s32.size = 1 := rfl
    omega
  rw [hTq]
  have HTQ := hide hTq
  clear hTq
  go_enter Tryd.func6, Tryd.ntmps6
  obtain ⟨p0, p1, p2, p3, p4, p5⟩ := unhide HX
  go_wp2_with (first | (go_at_call 16; refine (unhide KL _ (by assumption)).mono ?_; rintro e w_ ⟨rfl, rfl⟩))
  refine (digsA n hn.1 hn.2 _).mono ?_
  rintro e w1 ⟨rfl, b1⟩
  have HB1 := hide ((unhide HB0).trans (b1.mono (unhide HB0).size))
  have HX1 := hide ((unhide HX).below b1)
  have zz0 : ¬ (9223372036854775807 < 6 + (tx n).size) := by omega
  have zz1 : ¬ (9223372036854775807 < 6 + (tx n).size + 1) := by omega
  clear p0 p1 p2 p3 p4 p5 b1 HX HB0 HRW KL
  obtain ⟨p0, p1, p2, p3, p4, p5⟩ := unhide HX1
  go_wp2_with fail
  clear p0 p1 p2 p3 p4 p5 zz0 zz1
  go_loopw [4, 5] (fun s i wr => ∃ j : Nat, j ≤ N ∧ i = .int .i64 j ∧ s = .string (Tq ++ sgT zs j) ∧ Hid (Bx6 wr w.heap.size 2 a b n (.slice l N c) by_) ∧ Hid (Below w.heap.size w wr)) (fun _ i _ => N - (intOf i).toNat)
  case atStart => exact ⟨0, by omega, rfl, congrArg Value.string (by rw [← unhide HTQ]; show _ = ((sLossy ++ tx n) ++ s32) ++ ByteArray.empty; rw [ByteArray.append_empty]; rfl), HX1, HB1⟩
  case round =>
    clear HX1 HB1
    obtain ⟨j, hj, rfl, rfl, hx, hb⟩ := hrel
    obtain ⟨p0, p1, p2, p3, p4, p5⟩ := unhide hx
    by_cases hlt : (j : Int) < (N : Int)
    · have j0 : (0 : Int) ≤ (j : Int) := by omega
      have hjn : j < N := by omega
      have hs := unhide HSZ (unhide HSG) j (by omega)
      have hz := unhide HAT (unhide HSG) j hjn
      rcases unhide HR wr (unhide hb) with e0 | ⟨g, off, rfl, hc⟩
      · exfalso; have := unhide HN; rw [e0] at this; simp at this; omega
      have c0 := hc j (by rw [unhide HN]; exact hjn)
      have HNX := hide (show sgT zs (j + 1) = sgT zs j ++ tx (zs.getD j 0) from rfl)
      generalize zs.getD j 0 = z at c0 hz HNX
      generalize sgT zs j = sq at hs HNX
      clear hc
      go_wp2_with fail
      refine (digsA z (by omega) (by omega) _).mono ?_
      rintro e w2 ⟨rfl, b2⟩
      have zt := tx_size z (by omega) (by omega)
      have zz0 : ¬ (9223372036854775807 < Tq.size + sq.size + (tx z).size) := by omega
      have HB2 := hide ((unhide hb).trans (b2.mono (unhide hb).size))
      have HX2 := hide ((unhide hx).below b2)
      clear b2 hx hb p0 p1 p2 p3 p4 p5 c0
      go_wp2_with fail
      go_roundw
      case rel => exact ⟨j + 1, by omega, by go_num, by rw [unhide HNX, ByteArray.append_assoc], HX2, HB2⟩
      case measure => simp [intOf]; omega
    · obtain rfl : j = N := by omega
      go_wp2_with fail
      go_ret2
      exact ⟨rfl, unhide hb⟩
set_option maxHeartbeats 16000000 in
theorem specA0 (k : Int) (a b n : Int) (l : Option Addr) (zs : List Int) (c : Nat) (by_ : ByteArray) (w : World) (ha : i64B a) (hb : i64B b) (hn : i64B n) (hm : zs.length ≤ 1048576) (hr : In.RM w l zs) (h1 : k ≠ 1) (h2 : k ≠ 2) (h3 : k ≠ 3) (h4 : k ≠ 4) :
    Calls Tryd.prog 6 #[.agg #[.int .i64 k, .int .i64 a, .int .i64 b, .int .i64 n, .slice l zs.length c, .string by_]] w fun e w' => e = .returned (.tuple #[.string ByteArray.empty, .int .i64 3]) ∧ Below w.heap.size w w' := by
  have HX := hide (bx6_new w k a b n (.slice l zs.length c) by_ 28)
  have HB0 := hide (bel_new6 w (.cells #[.int .i64 k, .int .i64 a, .int .i64 b, .int .i64 n, .slice l zs.length c, .string by_] 28))
  go_enter Tryd.func6, Tryd.ntmps6
  obtain ⟨p0, p1, p2, p3, p4, p5⟩ := unhide HX
  go_wp2_with fail
  go_ret2
  exact ⟨rfl, unhide HB0⟩
theorem specAct (k : Int) (a b n : Int) (l : Option Addr) (zs : List Int) (c : Nat) (by_ : ByteArray) (w : World) (ha : i64B a) (hb : i64B b) (hn : i64B n) (hm : zs.length ≤ 1048576) (hr : In.RM w l zs) :
    Calls Tryd.prog 6 #[.agg #[.int .i64 k, .int .i64 a, .int .i64 b, .int .i64 n, .slice l zs.length c, .string by_]] w fun e w' => e = .returned (.tuple #[.string (acT k a b n zs), .int .i64 (acE k zs)]) ∧ Below w.heap.size w w' := by
  unfold acT acE
  by_cases h1 : k = 1
  · subst h1; rw [if_pos rfl, if_pos rfl]; exact specA1 a b n l zs c by_ w ha hb hn hm hr
  by_cases h2 : k = 2
  · subst h2; rw [if_neg h1, if_pos rfl, if_neg h1, if_pos rfl]; exact specA2 a b n l zs c by_ w ha hb hn hm hr
  by_cases h3 : k = 3
  · subst h3; rw [if_neg h1, if_neg h2, if_pos rfl, if_neg h1, if_neg h2, if_pos rfl]; exact specA3 a b n l zs c by_ w ha hb hn hm hr
  by_cases h4 : k = 4
  · subst h4; rw [if_neg h1, if_neg h2, if_neg h3, if_pos rfl, if_neg h1, if_neg h2, if_neg h3, if_pos rfl]; exact specA4 a b n l zs c by_ w ha hb hn hm hr
  rw [if_neg h1, if_neg h2, if_neg h3, if_neg h4, if_neg h1, if_neg h2, if_neg h3, if_neg h4]
  exact specA0 k a b n l zs c by_ w ha hb hn hm hr h1 h2 h3 h4
end Ac
end Go.Proofs.YtpmlpojefelbbaaDoor
