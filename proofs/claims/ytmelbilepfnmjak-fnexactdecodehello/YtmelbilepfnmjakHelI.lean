/-
  Contract of the program's readNeighbors.
-/
import Derived.Test.YtmelbilepfnmjakHelV
import Derived.Deep.DeepCutAuto
import Derived.Laws.NewBlocks
import Derived.WalkMore
namespace Go.Proofs.Ytmelbilepfnmjak
open Go.ChangeShapes Go.WideShapes Go.ChangeAt Go.RowKit
set_option linter.unusedVariables false
set_option linter.unusedSimpArgs false
attribute [local go_sem ↓] Go.wp_at_zero Go.wp_at_succ
namespace Hl
open W1 Nb De
/-- A status's byte that is one. -/
def stB (b : Int) : Bool := (b == 0) || ((b == 1) || ((b == 2) || (b == 130)))
def goodB (bs : List UInt8) (n : Nat) : Bool := (List.range n).all fun i => decide (two bs (5 + 4 * i) ≤ 4095) && stB (fld bs (4 + 4 * i))
theorem good_of {bs : List UInt8} {n : Nat} (h : ∀ i, i < n → two bs (5 + 4 * i) ≤ 4095 ∧ stB (fld bs (4 + 4 * i)) = true) : goodB bs n = true := by
  unfold goodB; rw [List.all_eq_true]; intro i hi; obtain ⟨h1, h2⟩ := h i (List.mem_range.1 hi); rw [decide_eq_true h1, h2]; rfl
theorem good_no {bs : List UInt8} {n i : Nat} (hi : i < n) (h : (decide (two bs (5 + 4 * i) ≤ 4095) && stB (fld bs (4 + 4 * i))) = false) : goodB bs n = false := by
  unfold goodB; rw [List.all_eq_false]; exact ⟨i, List.mem_range.2 hi, by simp only [h]; simp⟩
theorem good_codes {bs : List UInt8} {n : Nat} (h : goodB bs n = true) : codesB bs n = true := by
  refine codes_of fun i hi => ?_
  unfold goodB at h; rw [List.all_eq_true] at h
  have := h i (List.mem_range.2 hi)
  rw [Bool.and_eq_true] at this; exact of_decide_eq_true this.1
theorem st_ok {b x y z : Int} (h0 : 0 ≤ b) (h1 : b ≤ 255) (h : okN ⟨x, b % 128, y, decide (127 < b)⟩ = true) : stB b = true := by
  have a := ok_st h
  have c := ok_mp h
  dsimp only at a c
  unfold stB
  by_cases e : 127 < b
  · have := c (decide_eq_true e)
    have : b = 130 := by omega
    subst this; rfl
  · obtain rfl | rfl | rfl : b = 0 ∨ b = 1 ∨ b = 2 := by omega
    all_goals rfl
/-- A hello that is right has bytes that are read. -/
theorem hel_good {bs : List UInt8} {n : Nat} {x y : Int} (hc : codesB bs n = true) (h : helB x y (grps bs n) = true) : goodB bs n = true := by
  refine good_of fun i hi => ⟨codes_at hc hi, ?_⟩
  have := Ri.all_ok (hel_all h) (j := i) (by rw [grps_len]; exact hi)
  rw [grps_at bs n i hi] at this
  unfold grp at this
  exact st_ok (z := 0) (fld_lo _ _) (fld_hi _ _) this
/-- The bytes behind a hello's head. -/
def Rd (w : World) (g off : Nat) (bs : List UInt8) (m : Nat) : Prop := ∀ i, i < m → w.cell? ⟨g, off + i, none⟩ = some (.int .u8 (fld bs (3 + i)))
/-- A neighbor in a variable's block of its own. -/
def NV (w : World) (b : Nat) (m : R) : Prop := w.heap[b]? = some (.cells #[.int .i64 m.ad, .int .i64 m.st, .int .i64 m.mt, .bool m.mp] 49 (0, 0))
theorem NV.bx {w : World} {b : Nat} {m : R} (h : NV w b m) : Bx w b m := by
  unfold NV at h; exact ⟨by simp [World.cell?, h], by simp [World.cell?, h], by simp [World.cell?, h], by simp [World.cell?, h]⟩
theorem NV.free {w : World} {b : Nat} {m : R} (h : NV w b m) (i : Nat) : w.frozen? ⟨b, i, none⟩ = false := by unfold NV at h; simp [World.frozen?, h]
theorem NV.lt {w : World} {b : Nat} {m : R} (h : NV w b m) : b < w.heap.size := lt_of_block h
theorem NV.drew {w : World} {b : Nat} {m : R} (h : NV w b m) : NV w.drew b m := h
theorem NV.below {w w' : World} {b : Nat} {m : R} (h : NV w b m) (hb : Below w.heap.size w w') : NV w' b m := (hb.block b h.lt).trans h
theorem nv_new (w : World) (m : R) : NV (w.alloc (.cells #[.int .i64 m.ad, .int .i64 m.st, .int .i64 m.mt, .bool m.mp] 49)) w.heap.size m := by unfold NV; exact heap_alloc_new w _
theorem NV.set {w : World} {b : Nat} {m : R} (a t : Int) (h : NV w b m) : NV ((w.setCell ⟨b, 0, none⟩ (.int .i64 a)).setCell ⟨b, 2, none⟩ (.int .i64 t)) b ⟨a, m.st, t, m.mp⟩ := heap_set _ (heap_set (.int .i64 a) h)
theorem sN {w : World} {b g o : Nat} {ad st mt : Int} {mp : Bool} {u : Value} (h : NV w b ⟨ad, st, mt, mp⟩) (hc : w.cell? ⟨g, o, none⟩ = some u) :
    (NV w b ⟨ad, st, mt, mp⟩ ∧ w.cell? ⟨g, o, none⟩ = some u) ∧ w.cell? ⟨b, 0, none⟩ = some (.int .i64 ad) ∧ w.cell? ⟨b, 1, none⟩ = some (.int .i64 st) ∧ w.cell? ⟨b, 2, none⟩ = some (.int .i64 mt) ∧ w.cell? ⟨b, 3, none⟩ = some (.bool mp) ∧ w.cell? ⟨g, o, none⟩ = some u := ⟨⟨h, hc⟩, h.bx.1, h.bx.2.1, h.bx.2.2.1, h.bx.2.2.2, hc⟩
def lenV : Value → Nat
  | .slice _ m _ => m
  | _ => 0
set_option maxRecDepth 100000 in
set_option maxHeartbeats 1000000 in
theorem readNbs (g off n cap : Nat) (bs : List UInt8) (w : World) (hn : n ≤ 255) (hcap : 4 * n ≤ cap) (hcm : cap ≤ maxLen) (hr : Rd w g off bs (4 * n)) (hgw : g < w.heap.size) :
    Calls Try.prog 82 #[.slice (some ⟨g, off, none⟩) (4 * n) cap] w fun e w' => ∃ v, e = .returned (.tuple #[v, .bool (goodB bs n)]) ∧ Below w.heap.size w w' ∧ Nb.LstV w' v (if goodB bs n = true then grps bs n else []) w.heap.size w'.heap.size := by
  have HR := hide hr
  clear hr
  have HF : Hid (goodB bs n = false → ∀ w', Below w.heap.size w w' → ∃ v, Ending.returned (.tuple #[.slice none 0 0, .bool false]) = .returned (.tuple #[v, .bool (goodB bs n)]) ∧ Below w.heap.size w w' ∧ Nb.LstV w' v (if goodB bs n = true then grps bs n else []) w.heap.size w'.heap.size) := hide (fun h w' hb => by
    rw [h, if_neg (by simp)]
    exact ⟨_, rfl, hb, Nb.lstV_nil _ _ _ _ _⟩)
  obtain ⟨i0, hi, hz0, hz1, hz2⟩ := Nb.infoR
  obtain ⟨wm, hmk, hmown, hmgrow⟩ := run_make_own (P := Try.prog) w w.heap.size 36 49 i0 _ 4 Try.underlying36 hi hz0 hz1 .i64 .i64 n (by rw [hz2]; omega) (by unfold maxLen; omega) (Nat.le_refl _)
  have OM : Hid (wm.ownsRow w.heap.size 49 4 (.slice (some ⟨w.heap.size, 0, none⟩) 0 n) (grps bs 0).length (Nb.flat (grps bs 0))) := hide hmown
  have DM : Hid (Below w.heap.size w wm) := hide ((Below.refl _ _).grown hmgrow (Nat.le_refl _) (fun k hk => by cases hk))
  clear hi hz0 hz1 hz2 hmown hmgrow
  have eq4 : ((4 * n : Nat) : Int).tdiv 4 = (n : Int) := by rw [Int.tdiv_eq_ediv_of_nonneg (by omega)]; omega
  have eq5 : ((4 * n : Nat) : Int) / 4 = (n : Int) := by omega
  go_enter Try.func82, Try.ntmps82
  go_wp2_with fail
  go_step3
  go_wp2_with fail
  go_step3
  go_wp2_with fail
  clear hmk eq4 eq5
  go_loopw [0, 4] (fun b v wr => ∃ (j : Nat) (A : Option Addr) (C : Nat), j ≤ n ∧ b = .slice A (4 * (n - j)) C ∧ Hid (j < n → A = some ⟨g, off + 4 * j, none⟩ ∧ 4 * (n - j) ≤ C ∧ C ≤ maxLen) ∧ Hid (∀ i, i < j → two bs (5 + 4 * i) ≤ 4095 ∧ stB (fld bs (4 + 4 * i)) = true) ∧ Hid (wr.ownsRow w.heap.size 49 4 v (grps bs j).length (Nb.flat (grps bs j))) ∧ Hid (Below w.heap.size w wr)) (fun b _ _ => lenV b)
  case atStart => exact ⟨0, some ⟨g, off, none⟩, cap, by omega, by simp, hide (fun _ => ⟨by simp, by omega, hcm⟩), hide (fun i hi => by omega), OM, DM⟩
  case round =>
    obtain ⟨j, A, C, hj, rfl, hA, hgd, how, hbl⟩ := hrel
    by_cases hjn : j < n
    · obtain ⟨rfl, hC, hCm⟩ := unhide hA hjn
      unfold maxLen at hCm
      obtain ⟨m, hm⟩ : ∃ m, 4 * (n - j) = m := ⟨_, rfl⟩
      have hm4 : 4 ≤ m := by omega
      have hmC : m ≤ C := by omega
      have hmn : m ≤ 1020 := by omega
      have hcell : ∀ i, i < 4 → wr.cell? ⟨g, off + 4 * j + i, none⟩ = some (.int .u8 (fld bs (3 + 4 * j + i))) := fun i hi4 => by
        have := unhide HR (4 * j + i) (by omega)
        rw [← Nat.add_assoc, ← Nat.add_assoc] at this
        rw [(unhide hbl).cell (by exact hgw)]; exact this
      obtain ⟨o, ho⟩ : ∃ o, off + 4 * j = o := ⟨_, rfl⟩
      have HO := hide ho
      have HMM := hide hm
      rw [ho] at hcell
      rw [hm, ho]
      have c0 := hcell 0 (by omega)
      have c1 := hcell 1 (by omega)
      have c2 := hcell 2 (by omega)
      have c3 := hcell 3 (by omega)
      rw [Nat.add_zero, Nat.add_zero] at c0
      rw [show 3 + 4 * j + 1 = 4 + 4 * j by omega] at c1
      rw [show 3 + 4 * j + 2 = 5 + 4 * j by omega] at c2
      rw [show 3 + 4 * j + 3 = 6 + 4 * j by omega] at c3
      clear hcell ho hm
      have l0 := fld_lo bs (3 + 4 * j)
      have u0 := fld_hi bs (3 + 4 * j)
      have l1 := fld_lo bs (4 + 4 * j)
      have u1 := fld_hi bs (4 + 4 * j)
      have N2 : Hid (256 * fld bs (5 + 4 * j) + fld bs (6 + 4 * j) = two bs (5 + 4 * j)) := hide (by unfold two; rw [show 5 + 4 * j + 1 = 6 + 4 * j by omega])
      have hmp : (0 : Int) < (m : Int) := by omega
      have hm1 : (1 : Int) < (m : Int) := by omega
      have hm4i : (4 : Int) ≤ (m : Int) := by omega
      have C0 := hide c0
      have C1 := hide c1
      have T := De.twoAt g o 2 m C (fld bs (5 + 4 * j)) (fld bs (6 + 4 * j)) wr (fld_lo _ _) (fld_hi _ _) (fld_lo _ _) (fld_hi _ _) (by omega) (by omega) c2 c3
      have HT := hide T
      clear T c0 c1 c2 c3
      go_wp2_with fail
      refine (unhide HT).mono ?_
      rintro e V ⟨rfl, q, hq⟩
      rw [unhide N2]
      have CV0 : Hid (V.cell? ⟨g, o, none⟩ = some (.int .u8 (fld bs (3 + 4 * j)))) := hide (by rw [hq]; exact unhide C0)
      have CV1 : Hid (V.cell? ⟨g, o + 1, none⟩ = some (.int .u8 (fld bs (4 + 4 * j)))) := hide (by rw [hq]; exact unhide C1)
      have OV : Hid (V.ownsRow w.heap.size 49 4 u4 (grps bs j).length (Nb.flat (grps bs j))) := hide (by rw [hq]; exact unhide how)
      have BV : Hid (Below w.heap.size w V) := hide (by rw [hq]; exact ⟨(unhide hbl).os, (unhide hbl).tape, (unhide hbl).output, (unhide hbl).size, (unhide hbl).block⟩)
      have hVs : w.heap.size ≤ V.heap.size := (unhide BV).size
      clear hq how hbl C0 C1 HT N2
      have t0 := two_lo bs (5 + 4 * j)
      go_wp2_with fail
      refine (Mtr.implOf (two bs (5 + 4 * j)) _).mono ?_
      rintro e V2 ⟨rfl, hV2⟩
      rw [hV2]
      clear hV2 V2
      cases hin : inB (two bs (5 + 4 * j)) 0 4095
      · have hf := hide (unhide HF (good_no hjn (by rw [decide_eq_false (by simp [inB] at hin; omega)]; rfl)))
        rw [if_neg (by simp), if_neg (by simp)]
        go_wp2_with fail
        (try rw [Exit.noGoto_ret])
        go_ret2
        exact unhide hf _ (unhide BV)
      have hco : two bs (5 + 4 * j) ≤ 4095 := by simp [inB] at hin; exact hin.2
      rw [if_pos rfl, if_pos rfl]
      clear hin
      generalize hmm : Mtr.met (two bs (5 + 4 * j)).toNat = mt at *
      have HMT := hide hmm
      clear hmm
      go_wp2_with fail
      obtain ⟨vo, rfl⟩ : ∃ vo, vo = u4 := ⟨_, rfl⟩
      go_loopw [4, 31] (fun v k wx => vo = v ∧ ∃ t : Nat, t ≤ 4 ∧ k = .int .i64 t ∧ Hid ((0 < t → fld bs (4 + 4 * j) ≠ 0) ∧ (1 < t → fld bs (4 + 4 * j) ≠ 1) ∧ (2 < t → fld bs (4 + 4 * j) ≠ 2) ∧ (3 < t → fld bs (4 + 4 * j) ≠ 130)) ∧ Hid (Below V.heap.size V wx)) (fun _ k _ => 4 - (intOf k).toNat)
      case atStart => exact ⟨rfl, 0, by omega, rfl, hide ⟨fun h => by omega, fun h => by omega, fun h => by omega, fun h => by omega⟩, hide (Below.refl _ _)⟩
      case round =>
        obtain ⟨hv4, t, ht, rfl, hnot, hbx⟩ := hrel
        subst hv4
        by_cases ht4 : t < 4
        · obtain rfl | rfl | rfl | rfl : t = 0 ∨ t = 1 ∨ t = 2 ∨ t = 3 := by omega
          ·
            have hix : ∀ W : World, (Instr.index 103 (.agg #[.int .i64 0, .int .i64 0, .int .i64 0, .bool false, .int .i64 0, .int .i64 1, .int .i64 0, .bool false, .int .i64 0, .int .i64 2, .int .i64 0, .bool false, .int .i64 0, .int .i64 2, .int .i64 0, .bool true]) (.int .i64 0)).run Try.prog W = .ok (.agg #[.int .i64 0, .int .i64 0, .int .i64 0, .bool false]) W := fun _ => by kernel_rfl
            have NV0 := hide (nv_new wr ⟨0, 0, 0, false⟩)
            have E0 := hide ((unhide hbx).alloc (unhide hbx).size (.cells #[.int .i64 0, .int .i64 0, .int .i64 0, .bool false] 49))
            have hgV : g < V.heap.size := World.block_lt_of_cell? _ _ (unhide CV0)
            have C00 := hide (((unhide E0).cell (p := ⟨g, o, none⟩) hgV).trans (unhide CV0))
            have C10 := hide (((unhide E0).cell (p := ⟨g, o + 1, none⟩) hgV).trans (unhide CV1))
            have hsx : V.heap.size ≤ wr.heap.size := (unhide hbx).size
            go_wp2_with fail
            generalize hW : wr.alloc (.cells #[.int .i64 0, .int .i64 0, .int .i64 0, .bool false] 49) = W1 at *
            clear hW
            refine wp_region_noPanic ?_
            refine wp_region_held_drew (S := fun w' => (NV w' wr.heap.size ⟨0, 0, 0, false⟩ ∧ w'.cell? ⟨g, o + 1, none⟩ = some (.int .u8 (fld bs (4 + 4 * j)))) ∧ w'.cell? ⟨wr.heap.size, 0, none⟩ = some (.int .i64 0) ∧ w'.cell? ⟨wr.heap.size, 1, none⟩ = some (.int .i64 0) ∧ w'.cell? ⟨wr.heap.size, 2, none⟩ = some (.int .i64 0) ∧ w'.cell? ⟨wr.heap.size, 3, none⟩ = some (.bool false) ∧ w'.cell? ⟨g, o + 1, none⟩ = some (.int .u8 (fld bs (4 + 4 * j)))) (by kernel_rfl) (sN (unhide NV0).drew (unhide C10)) (fun hHeld => ?_)
            (refine Rg.tk (i := 0) (d := 34) (v := ?_) rfl rfl (by kernel_rfl) (by kernel_rfl) (by kernel_rfl) (fun _ _ _ h => h) (by rfl) ?_ (by assumption) ?_; rotate_left; (focus (intro w0 hSw; (try dsimp only at hSw); go_simp; (try with_reducible rfl))); (try simp only [Act.put, List.setIfInBounds_toArray, List.set_cons_zero, List.set_cons_succ]))
            (refine Rg.tk (i := 2) (d := 36) (v := ?_) rfl rfl (by kernel_rfl) (by kernel_rfl) (by kernel_rfl) (fun _ _ _ h => h) (by rfl) ?_ (by assumption) ?_; rotate_left; (focus (intro w0 hSw; (try dsimp only at hSw); go_simp; (try with_reducible rfl))); (try simp only [Act.put, List.setIfInBounds_toArray, List.set_cons_zero, List.set_cons_succ]))
            (refine Rg.tk (i := 3) (d := 37) (v := ?_) rfl rfl (by kernel_rfl) (by kernel_rfl) (by kernel_rfl) (fun _ _ _ h => h) (by rfl) ?_ (by assumption) ?_; rotate_left; (focus (intro w0 hSw; (try dsimp only at hSw); go_simp; (try with_reducible rfl))); (try simp only [Act.put, List.setIfInBounds_toArray, List.set_cons_zero, List.set_cons_succ]))
            (refine Rg.tk (i := 4) (d := 38) (v := ?_) rfl rfl (by kernel_rfl) (by kernel_rfl) (by kernel_rfl) (fun _ _ _ h => h) (by rfl) ?_ (by assumption) ?_; rotate_left; (focus (intro w0 hSw; (try dsimp only at hSw); go_simp; (try with_reducible rfl))); (try simp only [Act.put, List.setIfInBounds_toArray, List.set_cons_zero, List.set_cons_succ]))
            (refine wpAnyH_ready (rs := [1]) (by kernel_rfl) (by simp) ?_; refine AllReadyH.cons (o := _) rfl (fun K hK => ?_) AllReadyH.nil; go_simp)
            refine (statusByte 0 0 0 false (by omega) (by omega) _).mono ?_
            rintro e w5 ⟨rfl, b5⟩
            rw [show (0 : Int) + 128 * bitI false = 0 from rfl]
            have N5 := hide ((unhide NV0).drew.below b5)
            have E5 := hide ((unhide E0).drew.trans (b5.mono (by show V.heap.size ≤ W1.heap.size; exact (unhide E0).size)))
            have C05 := hide (((unhide E5).cell (p := ⟨g, o, none⟩) hgV).trans (unhide CV0))
            have C15 := hide (((unhide E5).cell (p := ⟨g, o + 1, none⟩) hgV).trans (unhide CV1))
            have hs5 : V.heap.size ≤ w5.heap.size := (unhide E5).size
            have hX5 := (unhide N5).lt
            clear b5 hHeld NV0 E0 C00 C10
            refine hK.out _ _ (sN (unhide N5) (unhide C15)) (fun hHeld => ?_)
            clear hK K
            (try simp only [Act.put, List.setIfInBounds_toArray, List.set_cons_zero, List.set_cons_succ])
            by_cases hsb : fld bs (4 + 4 * j) = 0
            · have hbq : ((0 : Int) == fld bs (4 + 4 * j)) = true := by rw [hsb]; rfl
              have HGS : Hid (grps bs (j + 1) = grps bs j ++ [⟨fld bs (3 + 4 * j), 0, mt, false⟩]) := hide (by rw [grps_succ]; unfold grp; rw [hsb, unhide HMT]; rfl)
              have HGD : Hid (∀ i, i < j + 1 → two bs (5 + 4 * i) ≤ 4095 ∧ stB (fld bs (4 + 4 * i)) = true) := hide (fun i hi => by
                by_cases e : i = j
                · subst e; exact ⟨hco, by rw [hsb]; rfl⟩
                · exact unhide hgd i (by omega))
              have hbq2 : (fld bs (4 + 4 * j) == 0) = true := by rw [hsb]; rfl
              clear hsb
              (refine Rg.tk (i := 5) (d := 39) (v := ?_) rfl rfl (by kernel_rfl) (by kernel_rfl) (by kernel_rfl) (fun _ _ _ h => h) (by rfl) ?_ (by assumption) ?_; rotate_left; (focus (intro w0 hSw; (try dsimp only at hSw); go_simp; (try with_reducible rfl))); (try simp only [Act.put, List.setIfInBounds_toArray, List.set_cons_zero, List.set_cons_succ]))
              refine wpAnyH_done (by kernel_rfl) (NoPanic.normal ?_) _
              clear hHeld
              have hne5 : some wr.heap.size ≠ vo.ownBlock := fun e => by have := ((unhide OV).lt _ e.symm).2; omega
              have P5 := hide (own_below (unhide OV) (unhide E5))
              have P6 := hide (ownsRow_setCell_other (ownsRow_setCell_other (unhide P5) (a := ⟨wr.heap.size, 0, none⟩) (fun e => hne5 e.symm) (.int .i64 (fld bs (3 + 4 * j)))) (a := ⟨wr.heap.size, 2, none⟩) (fun e => hne5 e.symm) (.int .i64 mt))
              have B6 := hide ((((unhide BV).trans ((unhide E5).mono hVs)).setCell (p := ⟨wr.heap.size, 0, none⟩) (by show w.heap.size ≤ wr.heap.size; omega) (.int .i64 (fld bs (3 + 4 * j)))).setCell (p := ⟨wr.heap.size, 2, none⟩) (by show w.heap.size ≤ wr.heap.size; omega) (.int .i64 mt))
              have RN : Hid (Nb.RM (((w5.setCell ⟨wr.heap.size, 0, none⟩ (.int .i64 (fld bs (3 + 4 * j)))).setCell ⟨wr.heap.size, 2, none⟩ (.int .i64 mt)).alloc (.cells #[.int .i64 (fld bs (3 + 4 * j)), .int .i64 0, .int .i64 mt, .bool false] 49)) (some ⟨w5.heap.size, 0, none⟩) [⟨fld bs (3 + 4 * j), 0, mt, false⟩]) := hide (by
                have h := Nb.rm_new ((w5.setCell ⟨wr.heap.size, 0, none⟩ (.int .i64 (fld bs (3 + 4 * j)))).setCell ⟨wr.heap.size, 2, none⟩ (.int .i64 mt)) ⟨fld bs (3 + 4 * j), 0, mt, false⟩
                rw [show ((w5.setCell ⟨wr.heap.size, 0, none⟩ (.int .i64 (fld bs (3 + 4 * j)))).setCell ⟨wr.heap.size, 2, none⟩ (.int .i64 mt)).heap.size = w5.heap.size by simp [World.setCell]] at h
                exact h)
              obtain ⟨x0, x1, x2, x3⟩ := (unhide N5).bx
              dsimp only at x0 x1 x2 x3
              have y0 := (unhide N5).free 0
              have y2 := (unhide N5).free 2
              have k0 := unhide C05
              have wf0 := wrapF bs (3 + 4 * j)
              have hgl := grps_len bs j
              have HGL := hide hgl
              clear hgl
              by_cases hC4 : C = 4
              · subst hC4
                have hm44 : m = 4 := by omega
                subst hm44
                go_wp2_with (at_builtin; refine Nb.wpList_apS ((unhide P6).alloc _) w5.heap.size 0 1 1 [⟨fld bs (3 + 4 * j), 0, mt, false⟩] rfl (unhide RN) (by simp only [List.length_cons, List.length_nil]; rw [grps_len]; omega) (by simp [World.setCell]; omega) rfl _ _ rfl rfl rfl ?_; intro v9 w9 o9 g9; have O9 : Hid (w9.ownsRow w.heap.size 49 4 v9 (grps bs (j + 1)).length (Nb.flat (grps bs (j + 1)))) := hide (by rw [unhide HGS]; exact o9); have B9 := hide (Nb.below_own ((unhide B6).alloc (by simp [World.setCell]; omega) _) ((unhide P6).alloc _) g9 (Nat.le_refl _) (by simp [World.setCell]; omega)); clear o9 g9)
                go_roundw
                case rel => exact ⟨j + 1, _, _, by omega, by first | rfl | (have := unhide HMM; congr 1; omega), hide (fun h => by have := unhide HMM; have := unhide HO; omega), HGD, O9, B9⟩
                case measure => (simp [lenV] <;> omega)
              · have hC4b : ¬ (4 = C) := fun e => hC4 e.symm
                go_wp2_with (at_builtin; refine Nb.wpList_apS ((unhide P6).alloc _) w5.heap.size 0 1 1 [⟨fld bs (3 + 4 * j), 0, mt, false⟩] rfl (unhide RN) (by simp only [List.length_cons, List.length_nil]; rw [grps_len]; omega) (by simp [World.setCell]; omega) rfl _ _ rfl rfl rfl ?_; intro v9 w9 o9 g9; have O9 : Hid (w9.ownsRow w.heap.size 49 4 v9 (grps bs (j + 1)).length (Nb.flat (grps bs (j + 1)))) := hide (by rw [unhide HGS]; exact o9); have B9 := hide (Nb.below_own ((unhide B6).alloc (by simp [World.setCell]; omega) _) ((unhide P6).alloc _) g9 (Nat.le_refl _) (by simp [World.setCell]; omega)); clear o9 g9)
                go_roundw
                case rel => exact ⟨j + 1, _, _, by omega, by first | rfl | (have := unhide HMM; congr 1; omega), hide (fun h => by have := unhide HMM; have := unhide HO; exact ⟨by congr 2; omega, by omega, by unfold maxLen; omega⟩), HGD, O9, B9⟩
                case measure => (simp [lenV] <;> omega)
            · have hbq : ((0 : Int) == fld bs (4 + 4 * j)) = false := beq_eq_false_iff_ne.2 (fun e => hsb e.symm)
              have hbq2 : (fld bs (4 + 4 * j) == 0) = false := beq_eq_false_iff_ne.2 hsb
              have HNT : Hid ((0 < 0 + 1 → fld bs (4 + 4 * j) ≠ 0) ∧ (1 < 0 + 1 → fld bs (4 + 4 * j) ≠ 1) ∧ (2 < 0 + 1 → fld bs (4 + 4 * j) ≠ 2) ∧ (3 < 0 + 1 → fld bs (4 + 4 * j) ≠ 130)) := hide (by
                obtain ⟨n0, n1, n2, n3⟩ := unhide hnot
                refine ⟨fun h => ?_, fun h => ?_, fun h => ?_, fun h => ?_⟩ <;> first | exact hsb | exact n0 (by omega) | exact n1 (by omega) | exact n2 (by omega) | omega)
              clear hsb
              (refine Rg.tk (i := 5) (d := 39) (v := ?_) rfl rfl (by kernel_rfl) (by kernel_rfl) (by kernel_rfl) (fun _ _ _ h => h) (by rfl) ?_ (by assumption) ?_; rotate_left; (focus (intro w0 hSw; (try dsimp only at hSw); go_simp; (try with_reducible rfl))); (try simp only [Act.put, List.setIfInBounds_toArray, List.set_cons_zero, List.set_cons_succ]))
              refine wpAnyH_done (by kernel_rfl) (NoPanic.normal ?_) _
              clear hHeld
              go_wp2_with fail
              go_roundw
              case rel => exact ⟨rfl, 0 + 1, by omega, by go_num, HNT, E5⟩
              case measure => simp [intOf]
          ·
            have hix : ∀ W : World, (Instr.index 103 (.agg #[.int .i64 0, .int .i64 0, .int .i64 0, .bool false, .int .i64 0, .int .i64 1, .int .i64 0, .bool false, .int .i64 0, .int .i64 2, .int .i64 0, .bool false, .int .i64 0, .int .i64 2, .int .i64 0, .bool true]) (.int .i64 1)).run Try.prog W = .ok (.agg #[.int .i64 0, .int .i64 1, .int .i64 0, .bool false]) W := fun _ => by kernel_rfl
            have NV0 := hide (nv_new wr ⟨0, 1, 0, false⟩)
            have E0 := hide ((unhide hbx).alloc (unhide hbx).size (.cells #[.int .i64 0, .int .i64 1, .int .i64 0, .bool false] 49))
            have hgV : g < V.heap.size := World.block_lt_of_cell? _ _ (unhide CV0)
            have C00 := hide (((unhide E0).cell (p := ⟨g, o, none⟩) hgV).trans (unhide CV0))
            have C10 := hide (((unhide E0).cell (p := ⟨g, o + 1, none⟩) hgV).trans (unhide CV1))
            have hsx : V.heap.size ≤ wr.heap.size := (unhide hbx).size
            go_wp2_with fail
            generalize hW : wr.alloc (.cells #[.int .i64 0, .int .i64 1, .int .i64 0, .bool false] 49) = W1 at *
            clear hW
            refine wp_region_noPanic ?_
            refine wp_region_held_drew (S := fun w' => (NV w' wr.heap.size ⟨0, 1, 0, false⟩ ∧ w'.cell? ⟨g, o + 1, none⟩ = some (.int .u8 (fld bs (4 + 4 * j)))) ∧ w'.cell? ⟨wr.heap.size, 0, none⟩ = some (.int .i64 0) ∧ w'.cell? ⟨wr.heap.size, 1, none⟩ = some (.int .i64 1) ∧ w'.cell? ⟨wr.heap.size, 2, none⟩ = some (.int .i64 0) ∧ w'.cell? ⟨wr.heap.size, 3, none⟩ = some (.bool false) ∧ w'.cell? ⟨g, o + 1, none⟩ = some (.int .u8 (fld bs (4 + 4 * j)))) (by kernel_rfl) (sN (unhide NV0).drew (unhide C10)) (fun hHeld => ?_)
            (refine Rg.tk (i := 0) (d := 34) (v := ?_) rfl rfl (by kernel_rfl) (by kernel_rfl) (by kernel_rfl) (fun _ _ _ h => h) (by rfl) ?_ (by assumption) ?_; rotate_left; (focus (intro w0 hSw; (try dsimp only at hSw); go_simp; (try with_reducible rfl))); (try simp only [Act.put, List.setIfInBounds_toArray, List.set_cons_zero, List.set_cons_succ]))
            (refine Rg.tk (i := 2) (d := 36) (v := ?_) rfl rfl (by kernel_rfl) (by kernel_rfl) (by kernel_rfl) (fun _ _ _ h => h) (by rfl) ?_ (by assumption) ?_; rotate_left; (focus (intro w0 hSw; (try dsimp only at hSw); go_simp; (try with_reducible rfl))); (try simp only [Act.put, List.setIfInBounds_toArray, List.set_cons_zero, List.set_cons_succ]))
            (refine Rg.tk (i := 3) (d := 37) (v := ?_) rfl rfl (by kernel_rfl) (by kernel_rfl) (by kernel_rfl) (fun _ _ _ h => h) (by rfl) ?_ (by assumption) ?_; rotate_left; (focus (intro w0 hSw; (try dsimp only at hSw); go_simp; (try with_reducible rfl))); (try simp only [Act.put, List.setIfInBounds_toArray, List.set_cons_zero, List.set_cons_succ]))
            (refine Rg.tk (i := 4) (d := 38) (v := ?_) rfl rfl (by kernel_rfl) (by kernel_rfl) (by kernel_rfl) (fun _ _ _ h => h) (by rfl) ?_ (by assumption) ?_; rotate_left; (focus (intro w0 hSw; (try dsimp only at hSw); go_simp; (try with_reducible rfl))); (try simp only [Act.put, List.setIfInBounds_toArray, List.set_cons_zero, List.set_cons_succ]))
            (refine wpAnyH_ready (rs := [1]) (by kernel_rfl) (by simp) ?_; refine AllReadyH.cons (o := _) rfl (fun K hK => ?_) AllReadyH.nil; go_simp)
            refine (statusByte 0 1 0 false (by omega) (by omega) _).mono ?_
            rintro e w5 ⟨rfl, b5⟩
            rw [show (1 : Int) + 128 * bitI false = 1 from rfl]
            have N5 := hide ((unhide NV0).drew.below b5)
            have E5 := hide ((unhide E0).drew.trans (b5.mono (by show V.heap.size ≤ W1.heap.size; exact (unhide E0).size)))
            have C05 := hide (((unhide E5).cell (p := ⟨g, o, none⟩) hgV).trans (unhide CV0))
            have C15 := hide (((unhide E5).cell (p := ⟨g, o + 1, none⟩) hgV).trans (unhide CV1))
            have hs5 : V.heap.size ≤ w5.heap.size := (unhide E5).size
            have hX5 := (unhide N5).lt
            clear b5 hHeld NV0 E0 C00 C10
            refine hK.out _ _ (sN (unhide N5) (unhide C15)) (fun hHeld => ?_)
            clear hK K
            (try simp only [Act.put, List.setIfInBounds_toArray, List.set_cons_zero, List.set_cons_succ])
            by_cases hsb : fld bs (4 + 4 * j) = 1
            · have hbq : ((1 : Int) == fld bs (4 + 4 * j)) = true := by rw [hsb]; rfl
              have HGS : Hid (grps bs (j + 1) = grps bs j ++ [⟨fld bs (3 + 4 * j), 1, mt, false⟩]) := hide (by rw [grps_succ]; unfold grp; rw [hsb, unhide HMT]; rfl)
              have HGD : Hid (∀ i, i < j + 1 → two bs (5 + 4 * i) ≤ 4095 ∧ stB (fld bs (4 + 4 * i)) = true) := hide (fun i hi => by
                by_cases e : i = j
                · subst e; exact ⟨hco, by rw [hsb]; rfl⟩
                · exact unhide hgd i (by omega))
              have hbq2 : (fld bs (4 + 4 * j) == 1) = true := by rw [hsb]; rfl
              clear hsb
              (refine Rg.tk (i := 5) (d := 39) (v := ?_) rfl rfl (by kernel_rfl) (by kernel_rfl) (by kernel_rfl) (fun _ _ _ h => h) (by rfl) ?_ (by assumption) ?_; rotate_left; (focus (intro w0 hSw; (try dsimp only at hSw); go_simp; (try with_reducible rfl))); (try simp only [Act.put, List.setIfInBounds_toArray, List.set_cons_zero, List.set_cons_succ]))
              refine wpAnyH_done (by kernel_rfl) (NoPanic.normal ?_) _
              clear hHeld
              have hne5 : some wr.heap.size ≠ vo.ownBlock := fun e => by have := ((unhide OV).lt _ e.symm).2; omega
              have P5 := hide (own_below (unhide OV) (unhide E5))
              have P6 := hide (ownsRow_setCell_other (ownsRow_setCell_other (unhide P5) (a := ⟨wr.heap.size, 0, none⟩) (fun e => hne5 e.symm) (.int .i64 (fld bs (3 + 4 * j)))) (a := ⟨wr.heap.size, 2, none⟩) (fun e => hne5 e.symm) (.int .i64 mt))
              have B6 := hide ((((unhide BV).trans ((unhide E5).mono hVs)).setCell (p := ⟨wr.heap.size, 0, none⟩) (by show w.heap.size ≤ wr.heap.size; omega) (.int .i64 (fld bs (3 + 4 * j)))).setCell (p := ⟨wr.heap.size, 2, none⟩) (by show w.heap.size ≤ wr.heap.size; omega) (.int .i64 mt))
              have RN : Hid (Nb.RM (((w5.setCell ⟨wr.heap.size, 0, none⟩ (.int .i64 (fld bs (3 + 4 * j)))).setCell ⟨wr.heap.size, 2, none⟩ (.int .i64 mt)).alloc (.cells #[.int .i64 (fld bs (3 + 4 * j)), .int .i64 1, .int .i64 mt, .bool false] 49)) (some ⟨w5.heap.size, 0, none⟩) [⟨fld bs (3 + 4 * j), 1, mt, false⟩]) := hide (by
                have h := Nb.rm_new ((w5.setCell ⟨wr.heap.size, 0, none⟩ (.int .i64 (fld bs (3 + 4 * j)))).setCell ⟨wr.heap.size, 2, none⟩ (.int .i64 mt)) ⟨fld bs (3 + 4 * j), 1, mt, false⟩
                rw [show ((w5.setCell ⟨wr.heap.size, 0, none⟩ (.int .i64 (fld bs (3 + 4 * j)))).setCell ⟨wr.heap.size, 2, none⟩ (.int .i64 mt)).heap.size = w5.heap.size by simp [World.setCell]] at h
                exact h)
              obtain ⟨x0, x1, x2, x3⟩ := (unhide N5).bx
              dsimp only at x0 x1 x2 x3
              have y0 := (unhide N5).free 0
              have y2 := (unhide N5).free 2
              have k0 := unhide C05
              have wf0 := wrapF bs (3 + 4 * j)
              have hgl := grps_len bs j
              have HGL := hide hgl
              clear hgl
              by_cases hC4 : C = 4
              · subst hC4
                have hm44 : m = 4 := by omega
                subst hm44
                go_wp2_with (at_builtin; refine Nb.wpList_apS ((unhide P6).alloc _) w5.heap.size 0 1 1 [⟨fld bs (3 + 4 * j), 1, mt, false⟩] rfl (unhide RN) (by simp only [List.length_cons, List.length_nil]; rw [grps_len]; omega) (by simp [World.setCell]; omega) rfl _ _ rfl rfl rfl ?_; intro v9 w9 o9 g9; have O9 : Hid (w9.ownsRow w.heap.size 49 4 v9 (grps bs (j + 1)).length (Nb.flat (grps bs (j + 1)))) := hide (by rw [unhide HGS]; exact o9); have B9 := hide (Nb.below_own ((unhide B6).alloc (by simp [World.setCell]; omega) _) ((unhide P6).alloc _) g9 (Nat.le_refl _) (by simp [World.setCell]; omega)); clear o9 g9)
                go_roundw
                case rel => exact ⟨j + 1, _, _, by omega, by first | rfl | (have := unhide HMM; congr 1; omega), hide (fun h => by have := unhide HMM; have := unhide HO; omega), HGD, O9, B9⟩
                case measure => (simp [lenV] <;> omega)
              · have hC4b : ¬ (4 = C) := fun e => hC4 e.symm
                go_wp2_with (at_builtin; refine Nb.wpList_apS ((unhide P6).alloc _) w5.heap.size 0 1 1 [⟨fld bs (3 + 4 * j), 1, mt, false⟩] rfl (unhide RN) (by simp only [List.length_cons, List.length_nil]; rw [grps_len]; omega) (by simp [World.setCell]; omega) rfl _ _ rfl rfl rfl ?_; intro v9 w9 o9 g9; have O9 : Hid (w9.ownsRow w.heap.size 49 4 v9 (grps bs (j + 1)).length (Nb.flat (grps bs (j + 1)))) := hide (by rw [unhide HGS]; exact o9); have B9 := hide (Nb.below_own ((unhide B6).alloc (by simp [World.setCell]; omega) _) ((unhide P6).alloc _) g9 (Nat.le_refl _) (by simp [World.setCell]; omega)); clear o9 g9)
                go_roundw
                case rel => exact ⟨j + 1, _, _, by omega, by first | rfl | (have := unhide HMM; congr 1; omega), hide (fun h => by have := unhide HMM; have := unhide HO; exact ⟨by congr 2; omega, by omega, by unfold maxLen; omega⟩), HGD, O9, B9⟩
                case measure => (simp [lenV] <;> omega)
            · have hbq : ((1 : Int) == fld bs (4 + 4 * j)) = false := beq_eq_false_iff_ne.2 (fun e => hsb e.symm)
              have hbq2 : (fld bs (4 + 4 * j) == 1) = false := beq_eq_false_iff_ne.2 hsb
              have HNT : Hid ((0 < 1 + 1 → fld bs (4 + 4 * j) ≠ 0) ∧ (1 < 1 + 1 → fld bs (4 + 4 * j) ≠ 1) ∧ (2 < 1 + 1 → fld bs (4 + 4 * j) ≠ 2) ∧ (3 < 1 + 1 → fld bs (4 + 4 * j) ≠ 130)) := hide (by
                obtain ⟨n0, n1, n2, n3⟩ := unhide hnot
                refine ⟨fun h => ?_, fun h => ?_, fun h => ?_, fun h => ?_⟩ <;> first | exact hsb | exact n0 (by omega) | exact n1 (by omega) | exact n2 (by omega) | omega)
              clear hsb
              (refine Rg.tk (i := 5) (d := 39) (v := ?_) rfl rfl (by kernel_rfl) (by kernel_rfl) (by kernel_rfl) (fun _ _ _ h => h) (by rfl) ?_ (by assumption) ?_; rotate_left; (focus (intro w0 hSw; (try dsimp only at hSw); go_simp; (try with_reducible rfl))); (try simp only [Act.put, List.setIfInBounds_toArray, List.set_cons_zero, List.set_cons_succ]))
              refine wpAnyH_done (by kernel_rfl) (NoPanic.normal ?_) _
              clear hHeld
              go_wp2_with fail
              go_roundw
              case rel => exact ⟨rfl, 1 + 1, by omega, by go_num, HNT, E5⟩
              case measure => simp [intOf]
          ·
            have hix : ∀ W : World, (Instr.index 103 (.agg #[.int .i64 0, .int .i64 0, .int .i64 0, .bool false, .int .i64 0, .int .i64 1, .int .i64 0, .bool false, .int .i64 0, .int .i64 2, .int .i64 0, .bool false, .int .i64 0, .int .i64 2, .int .i64 0, .bool true]) (.int .i64 2)).run Try.prog W = .ok (.agg #[.int .i64 0, .int .i64 2, .int .i64 0, .bool false]) W := fun _ => by kernel_rfl
            have NV0 := hide (nv_new wr ⟨0, 2, 0, false⟩)
            have E0 := hide ((unhide hbx).alloc (unhide hbx).size (.cells #[.int .i64 0, .int .i64 2, .int .i64 0, .bool false] 49))
            have hgV : g < V.heap.size := World.block_lt_of_cell? _ _ (unhide CV0)
            have C00 := hide (((unhide E0).cell (p := ⟨g, o, none⟩) hgV).trans (unhide CV0))
            have C10 := hide (((unhide E0).cell (p := ⟨g, o + 1, none⟩) hgV).trans (unhide CV1))
            have hsx : V.heap.size ≤ wr.heap.size := (unhide hbx).size
            go_wp2_with fail
            generalize hW : wr.alloc (.cells #[.int .i64 0, .int .i64 2, .int .i64 0, .bool false] 49) = W1 at *
            clear hW
            refine wp_region_noPanic ?_
            refine wp_region_held_drew (S := fun w' => (NV w' wr.heap.size ⟨0, 2, 0, false⟩ ∧ w'.cell? ⟨g, o + 1, none⟩ = some (.int .u8 (fld bs (4 + 4 * j)))) ∧ w'.cell? ⟨wr.heap.size, 0, none⟩ = some (.int .i64 0) ∧ w'.cell? ⟨wr.heap.size, 1, none⟩ = some (.int .i64 2) ∧ w'.cell? ⟨wr.heap.size, 2, none⟩ = some (.int .i64 0) ∧ w'.cell? ⟨wr.heap.size, 3, none⟩ = some (.bool false) ∧ w'.cell? ⟨g, o + 1, none⟩ = some (.int .u8 (fld bs (4 + 4 * j)))) (by kernel_rfl) (sN (unhide NV0).drew (unhide C10)) (fun hHeld => ?_)
            (refine Rg.tk (i := 0) (d := 34) (v := ?_) rfl rfl (by kernel_rfl) (by kernel_rfl) (by kernel_rfl) (fun _ _ _ h => h) (by rfl) ?_ (by assumption) ?_; rotate_left; (focus (intro w0 hSw; (try dsimp only at hSw); go_simp; (try with_reducible rfl))); (try simp only [Act.put, List.setIfInBounds_toArray, List.set_cons_zero, List.set_cons_succ]))
            (refine Rg.tk (i := 2) (d := 36) (v := ?_) rfl rfl (by kernel_rfl) (by kernel_rfl) (by kernel_rfl) (fun _ _ _ h => h) (by rfl) ?_ (by assumption) ?_; rotate_left; (focus (intro w0 hSw; (try dsimp only at hSw); go_simp; (try with_reducible rfl))); (try simp only [Act.put, List.setIfInBounds_toArray, List.set_cons_zero, List.set_cons_succ]))
            (refine Rg.tk (i := 3) (d := 37) (v := ?_) rfl rfl (by kernel_rfl) (by kernel_rfl) (by kernel_rfl) (fun _ _ _ h => h) (by rfl) ?_ (by assumption) ?_; rotate_left; (focus (intro w0 hSw; (try dsimp only at hSw); go_simp; (try with_reducible rfl))); (try simp only [Act.put, List.setIfInBounds_toArray, List.set_cons_zero, List.set_cons_succ]))
            (refine Rg.tk (i := 4) (d := 38) (v := ?_) rfl rfl (by kernel_rfl) (by kernel_rfl) (by kernel_rfl) (fun _ _ _ h => h) (by rfl) ?_ (by assumption) ?_; rotate_left; (focus (intro w0 hSw; (try dsimp only at hSw); go_simp; (try with_reducible rfl))); (try simp only [Act.put, List.setIfInBounds_toArray, List.set_cons_zero, List.set_cons_succ]))
            (refine wpAnyH_ready (rs := [1]) (by kernel_rfl) (by simp) ?_; refine AllReadyH.cons (o := _) rfl (fun K hK => ?_) AllReadyH.nil; go_simp)
            refine (statusByte 0 2 0 false (by omega) (by omega) _).mono ?_
            rintro e w5 ⟨rfl, b5⟩
            rw [show (2 : Int) + 128 * bitI false = 2 from rfl]
            have N5 := hide ((unhide NV0).drew.below b5)
            have E5 := hide ((unhide E0).drew.trans (b5.mono (by show V.heap.size ≤ W1.heap.size; exact (unhide E0).size)))
            have C05 := hide (((unhide E5).cell (p := ⟨g, o, none⟩) hgV).trans (unhide CV0))
            have C15 := hide (((unhide E5).cell (p := ⟨g, o + 1, none⟩) hgV).trans (unhide CV1))
            have hs5 : V.heap.size ≤ w5.heap.size := (unhide E5).size
            have hX5 := (unhide N5).lt
            clear b5 hHeld NV0 E0 C00 C10
            refine hK.out _ _ (sN (unhide N5) (unhide C15)) (fun hHeld => ?_)
            clear hK K
            (try simp only [Act.put, List.setIfInBounds_toArray, List.set_cons_zero, List.set_cons_succ])
            by_cases hsb : fld bs (4 + 4 * j) = 2
            · have hbq : ((2 : Int) == fld bs (4 + 4 * j)) = true := by rw [hsb]; rfl
              have HGS : Hid (grps bs (j + 1) = grps bs j ++ [⟨fld bs (3 + 4 * j), 2, mt, false⟩]) := hide (by rw [grps_succ]; unfold grp; rw [hsb, unhide HMT]; rfl)
              have HGD : Hid (∀ i, i < j + 1 → two bs (5 + 4 * i) ≤ 4095 ∧ stB (fld bs (4 + 4 * i)) = true) := hide (fun i hi => by
                by_cases e : i = j
                · subst e; exact ⟨hco, by rw [hsb]; rfl⟩
                · exact unhide hgd i (by omega))
              have hbq2 : (fld bs (4 + 4 * j) == 2) = true := by rw [hsb]; rfl
              clear hsb
              (refine Rg.tk (i := 5) (d := 39) (v := ?_) rfl rfl (by kernel_rfl) (by kernel_rfl) (by kernel_rfl) (fun _ _ _ h => h) (by rfl) ?_ (by assumption) ?_; rotate_left; (focus (intro w0 hSw; (try dsimp only at hSw); go_simp; (try with_reducible rfl))); (try simp only [Act.put, List.setIfInBounds_toArray, List.set_cons_zero, List.set_cons_succ]))
              refine wpAnyH_done (by kernel_rfl) (NoPanic.normal ?_) _
              clear hHeld
              have hne5 : some wr.heap.size ≠ vo.ownBlock := fun e => by have := ((unhide OV).lt _ e.symm).2; omega
              have P5 := hide (own_below (unhide OV) (unhide E5))
              have P6 := hide (ownsRow_setCell_other (ownsRow_setCell_other (unhide P5) (a := ⟨wr.heap.size, 0, none⟩) (fun e => hne5 e.symm) (.int .i64 (fld bs (3 + 4 * j)))) (a := ⟨wr.heap.size, 2, none⟩) (fun e => hne5 e.symm) (.int .i64 mt))
              have B6 := hide ((((unhide BV).trans ((unhide E5).mono hVs)).setCell (p := ⟨wr.heap.size, 0, none⟩) (by show w.heap.size ≤ wr.heap.size; omega) (.int .i64 (fld bs (3 + 4 * j)))).setCell (p := ⟨wr.heap.size, 2, none⟩) (by show w.heap.size ≤ wr.heap.size; omega) (.int .i64 mt))
              have RN : Hid (Nb.RM (((w5.setCell ⟨wr.heap.size, 0, none⟩ (.int .i64 (fld bs (3 + 4 * j)))).setCell ⟨wr.heap.size, 2, none⟩ (.int .i64 mt)).alloc (.cells #[.int .i64 (fld bs (3 + 4 * j)), .int .i64 2, .int .i64 mt, .bool false] 49)) (some ⟨w5.heap.size, 0, none⟩) [⟨fld bs (3 + 4 * j), 2, mt, false⟩]) := hide (by
                have h := Nb.rm_new ((w5.setCell ⟨wr.heap.size, 0, none⟩ (.int .i64 (fld bs (3 + 4 * j)))).setCell ⟨wr.heap.size, 2, none⟩ (.int .i64 mt)) ⟨fld bs (3 + 4 * j), 2, mt, false⟩
                rw [show ((w5.setCell ⟨wr.heap.size, 0, none⟩ (.int .i64 (fld bs (3 + 4 * j)))).setCell ⟨wr.heap.size, 2, none⟩ (.int .i64 mt)).heap.size = w5.heap.size by simp [World.setCell]] at h
                exact h)
              obtain ⟨x0, x1, x2, x3⟩ := (unhide N5).bx
              dsimp only at x0 x1 x2 x3
              have y0 := (unhide N5).free 0
              have y2 := (unhide N5).free 2
              have k0 := unhide C05
              have wf0 := wrapF bs (3 + 4 * j)
              have hgl := grps_len bs j
              have HGL := hide hgl
              clear hgl
              by_cases hC4 : C = 4
              · subst hC4
                have hm44 : m = 4 := by omega
                subst hm44
                go_wp2_with (at_builtin; refine Nb.wpList_apS ((unhide P6).alloc _) w5.heap.size 0 1 1 [⟨fld bs (3 + 4 * j), 2, mt, false⟩] rfl (unhide RN) (by simp only [List.length_cons, List.length_nil]; rw [grps_len]; omega) (by simp [World.setCell]; omega) rfl _ _ rfl rfl rfl ?_; intro v9 w9 o9 g9; have O9 : Hid (w9.ownsRow w.heap.size 49 4 v9 (grps bs (j + 1)).length (Nb.flat (grps bs (j + 1)))) := hide (by rw [unhide HGS]; exact o9); have B9 := hide (Nb.below_own ((unhide B6).alloc (by simp [World.setCell]; omega) _) ((unhide P6).alloc _) g9 (Nat.le_refl _) (by simp [World.setCell]; omega)); clear o9 g9)
                go_roundw
                case rel => exact ⟨j + 1, _, _, by omega, by first | rfl | (have := unhide HMM; congr 1; omega), hide (fun h => by have := unhide HMM; have := unhide HO; omega), HGD, O9, B9⟩
                case measure => (simp [lenV] <;> omega)
              · have hC4b : ¬ (4 = C) := fun e => hC4 e.symm
                go_wp2_with (at_builtin; refine Nb.wpList_apS ((unhide P6).alloc _) w5.heap.size 0 1 1 [⟨fld bs (3 + 4 * j), 2, mt, false⟩] rfl (unhide RN) (by simp only [List.length_cons, List.length_nil]; rw [grps_len]; omega) (by simp [World.setCell]; omega) rfl _ _ rfl rfl rfl ?_; intro v9 w9 o9 g9; have O9 : Hid (w9.ownsRow w.heap.size 49 4 v9 (grps bs (j + 1)).length (Nb.flat (grps bs (j + 1)))) := hide (by rw [unhide HGS]; exact o9); have B9 := hide (Nb.below_own ((unhide B6).alloc (by simp [World.setCell]; omega) _) ((unhide P6).alloc _) g9 (Nat.le_refl _) (by simp [World.setCell]; omega)); clear o9 g9)
                go_roundw
                case rel => exact ⟨j + 1, _, _, by omega, by first | rfl | (have := unhide HMM; congr 1; omega), hide (fun h => by have := unhide HMM; have := unhide HO; exact ⟨by congr 2; omega, by omega, by unfold maxLen; omega⟩), HGD, O9, B9⟩
                case measure => (simp [lenV] <;> omega)
            · have hbq : ((2 : Int) == fld bs (4 + 4 * j)) = false := beq_eq_false_iff_ne.2 (fun e => hsb e.symm)
              have hbq2 : (fld bs (4 + 4 * j) == 2) = false := beq_eq_false_iff_ne.2 hsb
              have HNT : Hid ((0 < 2 + 1 → fld bs (4 + 4 * j) ≠ 0) ∧ (1 < 2 + 1 → fld bs (4 + 4 * j) ≠ 1) ∧ (2 < 2 + 1 → fld bs (4 + 4 * j) ≠ 2) ∧ (3 < 2 + 1 → fld bs (4 + 4 * j) ≠ 130)) := hide (by
                obtain ⟨n0, n1, n2, n3⟩ := unhide hnot
                refine ⟨fun h => ?_, fun h => ?_, fun h => ?_, fun h => ?_⟩ <;> first | exact hsb | exact n0 (by omega) | exact n1 (by omega) | exact n2 (by omega) | omega)
              clear hsb
              (refine Rg.tk (i := 5) (d := 39) (v := ?_) rfl rfl (by kernel_rfl) (by kernel_rfl) (by kernel_rfl) (fun _ _ _ h => h) (by rfl) ?_ (by assumption) ?_; rotate_left; (focus (intro w0 hSw; (try dsimp only at hSw); go_simp; (try with_reducible rfl))); (try simp only [Act.put, List.setIfInBounds_toArray, List.set_cons_zero, List.set_cons_succ]))
              refine wpAnyH_done (by kernel_rfl) (NoPanic.normal ?_) _
              clear hHeld
              go_wp2_with fail
              go_roundw
              case rel => exact ⟨rfl, 2 + 1, by omega, by go_num, HNT, E5⟩
              case measure => simp [intOf]
          ·
            have hix : ∀ W : World, (Instr.index 103 (.agg #[.int .i64 0, .int .i64 0, .int .i64 0, .bool false, .int .i64 0, .int .i64 1, .int .i64 0, .bool false, .int .i64 0, .int .i64 2, .int .i64 0, .bool false, .int .i64 0, .int .i64 2, .int .i64 0, .bool true]) (.int .i64 3)).run Try.prog W = .ok (.agg #[.int .i64 0, .int .i64 2, .int .i64 0, .bool true]) W := fun _ => by kernel_rfl
            have NV0 := hide (nv_new wr ⟨0, 2, 0, true⟩)
            have E0 := hide ((unhide hbx).alloc (unhide hbx).size (.cells #[.int .i64 0, .int .i64 2, .int .i64 0, .bool true] 49))
            have hgV : g < V.heap.size := World.block_lt_of_cell? _ _ (unhide CV0)
            have C00 := hide (((unhide E0).cell (p := ⟨g, o, none⟩) hgV).trans (unhide CV0))
            have C10 := hide (((unhide E0).cell (p := ⟨g, o + 1, none⟩) hgV).trans (unhide CV1))
            have hsx : V.heap.size ≤ wr.heap.size := (unhide hbx).size
            go_wp2_with fail
            generalize hW : wr.alloc (.cells #[.int .i64 0, .int .i64 2, .int .i64 0, .bool true] 49) = W1 at *
            clear hW
            refine wp_region_noPanic ?_
            refine wp_region_held_drew (S := fun w' => (NV w' wr.heap.size ⟨0, 2, 0, true⟩ ∧ w'.cell? ⟨g, o + 1, none⟩ = some (.int .u8 (fld bs (4 + 4 * j)))) ∧ w'.cell? ⟨wr.heap.size, 0, none⟩ = some (.int .i64 0) ∧ w'.cell? ⟨wr.heap.size, 1, none⟩ = some (.int .i64 2) ∧ w'.cell? ⟨wr.heap.size, 2, none⟩ = some (.int .i64 0) ∧ w'.cell? ⟨wr.heap.size, 3, none⟩ = some (.bool true) ∧ w'.cell? ⟨g, o + 1, none⟩ = some (.int .u8 (fld bs (4 + 4 * j)))) (by kernel_rfl) (sN (unhide NV0).drew (unhide C10)) (fun hHeld => ?_)
            (refine Rg.tk (i := 0) (d := 34) (v := ?_) rfl rfl (by kernel_rfl) (by kernel_rfl) (by kernel_rfl) (fun _ _ _ h => h) (by rfl) ?_ (by assumption) ?_; rotate_left; (focus (intro w0 hSw; (try dsimp only at hSw); go_simp; (try with_reducible rfl))); (try simp only [Act.put, List.setIfInBounds_toArray, List.set_cons_zero, List.set_cons_succ]))
            (refine Rg.tk (i := 2) (d := 36) (v := ?_) rfl rfl (by kernel_rfl) (by kernel_rfl) (by kernel_rfl) (fun _ _ _ h => h) (by rfl) ?_ (by assumption) ?_; rotate_left; (focus (intro w0 hSw; (try dsimp only at hSw); go_simp; (try with_reducible rfl))); (try simp only [Act.put, List.setIfInBounds_toArray, List.set_cons_zero, List.set_cons_succ]))
            (refine Rg.tk (i := 3) (d := 37) (v := ?_) rfl rfl (by kernel_rfl) (by kernel_rfl) (by kernel_rfl) (fun _ _ _ h => h) (by rfl) ?_ (by assumption) ?_; rotate_left; (focus (intro w0 hSw; (try dsimp only at hSw); go_simp; (try with_reducible rfl))); (try simp only [Act.put, List.setIfInBounds_toArray, List.set_cons_zero, List.set_cons_succ]))
            (refine Rg.tk (i := 4) (d := 38) (v := ?_) rfl rfl (by kernel_rfl) (by kernel_rfl) (by kernel_rfl) (fun _ _ _ h => h) (by rfl) ?_ (by assumption) ?_; rotate_left; (focus (intro w0 hSw; (try dsimp only at hSw); go_simp; (try with_reducible rfl))); (try simp only [Act.put, List.setIfInBounds_toArray, List.set_cons_zero, List.set_cons_succ]))
            (refine wpAnyH_ready (rs := [1]) (by kernel_rfl) (by simp) ?_; refine AllReadyH.cons (o := _) rfl (fun K hK => ?_) AllReadyH.nil; go_simp)
            refine (statusByte 0 2 0 true (by omega) (by omega) _).mono ?_
            rintro e w5 ⟨rfl, b5⟩
            rw [show (2 : Int) + 128 * bitI true = 130 from rfl]
            have N5 := hide ((unhide NV0).drew.below b5)
            have E5 := hide ((unhide E0).drew.trans (b5.mono (by show V.heap.size ≤ W1.heap.size; exact (unhide E0).size)))
            have C05 := hide (((unhide E5).cell (p := ⟨g, o, none⟩) hgV).trans (unhide CV0))
            have C15 := hide (((unhide E5).cell (p := ⟨g, o + 1, none⟩) hgV).trans (unhide CV1))
            have hs5 : V.heap.size ≤ w5.heap.size := (unhide E5).size
            have hX5 := (unhide N5).lt
            clear b5 hHeld NV0 E0 C00 C10
            refine hK.out _ _ (sN (unhide N5) (unhide C15)) (fun hHeld => ?_)
            clear hK K
            (try simp only [Act.put, List.setIfInBounds_toArray, List.set_cons_zero, List.set_cons_succ])
            by_cases hsb : fld bs (4 + 4 * j) = 130
            · have hbq : ((130 : Int) == fld bs (4 + 4 * j)) = true := by rw [hsb]; rfl
              have HGS : Hid (grps bs (j + 1) = grps bs j ++ [⟨fld bs (3 + 4 * j), 2, mt, true⟩]) := hide (by rw [grps_succ]; unfold grp; rw [hsb, unhide HMT]; rfl)
              have HGD : Hid (∀ i, i < j + 1 → two bs (5 + 4 * i) ≤ 4095 ∧ stB (fld bs (4 + 4 * i)) = true) := hide (fun i hi => by
                by_cases e : i = j
                · subst e; exact ⟨hco, by rw [hsb]; rfl⟩
                · exact unhide hgd i (by omega))
              have hbq2 : (fld bs (4 + 4 * j) == 130) = true := by rw [hsb]; rfl
              clear hsb
              (refine Rg.tk (i := 5) (d := 39) (v := ?_) rfl rfl (by kernel_rfl) (by kernel_rfl) (by kernel_rfl) (fun _ _ _ h => h) (by rfl) ?_ (by assumption) ?_; rotate_left; (focus (intro w0 hSw; (try dsimp only at hSw); go_simp; (try with_reducible rfl))); (try simp only [Act.put, List.setIfInBounds_toArray, List.set_cons_zero, List.set_cons_succ]))
              refine wpAnyH_done (by kernel_rfl) (NoPanic.normal ?_) _
              clear hHeld
              have hne5 : some wr.heap.size ≠ vo.ownBlock := fun e => by have := ((unhide OV).lt _ e.symm).2; omega
              have P5 := hide (own_below (unhide OV) (unhide E5))
              have P6 := hide (ownsRow_setCell_other (ownsRow_setCell_other (unhide P5) (a := ⟨wr.heap.size, 0, none⟩) (fun e => hne5 e.symm) (.int .i64 (fld bs (3 + 4 * j)))) (a := ⟨wr.heap.size, 2, none⟩) (fun e => hne5 e.symm) (.int .i64 mt))
              have B6 := hide ((((unhide BV).trans ((unhide E5).mono hVs)).setCell (p := ⟨wr.heap.size, 0, none⟩) (by show w.heap.size ≤ wr.heap.size; omega) (.int .i64 (fld bs (3 + 4 * j)))).setCell (p := ⟨wr.heap.size, 2, none⟩) (by show w.heap.size ≤ wr.heap.size; omega) (.int .i64 mt))
              have RN : Hid (Nb.RM (((w5.setCell ⟨wr.heap.size, 0, none⟩ (.int .i64 (fld bs (3 + 4 * j)))).setCell ⟨wr.heap.size, 2, none⟩ (.int .i64 mt)).alloc (.cells #[.int .i64 (fld bs (3 + 4 * j)), .int .i64 2, .int .i64 mt, .bool true] 49)) (some ⟨w5.heap.size, 0, none⟩) [⟨fld bs (3 + 4 * j), 2, mt, true⟩]) := hide (by
                have h := Nb.rm_new ((w5.setCell ⟨wr.heap.size, 0, none⟩ (.int .i64 (fld bs (3 + 4 * j)))).setCell ⟨wr.heap.size, 2, none⟩ (.int .i64 mt)) ⟨fld bs (3 + 4 * j), 2, mt, true⟩
                rw [show ((w5.setCell ⟨wr.heap.size, 0, none⟩ (.int .i64 (fld bs (3 + 4 * j)))).setCell ⟨wr.heap.size, 2, none⟩ (.int .i64 mt)).heap.size = w5.heap.size by simp [World.setCell]] at h
                exact h)
              obtain ⟨x0, x1, x2, x3⟩ := (unhide N5).bx
              dsimp only at x0 x1 x2 x3
              have y0 := (unhide N5).free 0
              have y2 := (unhide N5).free 2
              have k0 := unhide C05
              have wf0 := wrapF bs (3 + 4 * j)
              have hgl := grps_len bs j
              have HGL := hide hgl
              clear hgl
              by_cases hC4 : C = 4
              · subst hC4
                have hm44 : m = 4 := by omega
                subst hm44
                go_wp2_with (at_builtin; refine Nb.wpList_apS ((unhide P6).alloc _) w5.heap.size 0 1 1 [⟨fld bs (3 + 4 * j), 2, mt, true⟩] rfl (unhide RN) (by simp only [List.length_cons, List.length_nil]; rw [grps_len]; omega) (by simp [World.setCell]; omega) rfl _ _ rfl rfl rfl ?_; intro v9 w9 o9 g9; have O9 : Hid (w9.ownsRow w.heap.size 49 4 v9 (grps bs (j + 1)).length (Nb.flat (grps bs (j + 1)))) := hide (by rw [unhide HGS]; exact o9); have B9 := hide (Nb.below_own ((unhide B6).alloc (by simp [World.setCell]; omega) _) ((unhide P6).alloc _) g9 (Nat.le_refl _) (by simp [World.setCell]; omega)); clear o9 g9)
                go_roundw
                case rel => exact ⟨j + 1, _, _, by omega, by first | rfl | (have := unhide HMM; congr 1; omega), hide (fun h => by have := unhide HMM; have := unhide HO; omega), HGD, O9, B9⟩
                case measure => (simp [lenV] <;> omega)
              · have hC4b : ¬ (4 = C) := fun e => hC4 e.symm
                go_wp2_with (at_builtin; refine Nb.wpList_apS ((unhide P6).alloc _) w5.heap.size 0 1 1 [⟨fld bs (3 + 4 * j), 2, mt, true⟩] rfl (unhide RN) (by simp only [List.length_cons, List.length_nil]; rw [grps_len]; omega) (by simp [World.setCell]; omega) rfl _ _ rfl rfl rfl ?_; intro v9 w9 o9 g9; have O9 : Hid (w9.ownsRow w.heap.size 49 4 v9 (grps bs (j + 1)).length (Nb.flat (grps bs (j + 1)))) := hide (by rw [unhide HGS]; exact o9); have B9 := hide (Nb.below_own ((unhide B6).alloc (by simp [World.setCell]; omega) _) ((unhide P6).alloc _) g9 (Nat.le_refl _) (by simp [World.setCell]; omega)); clear o9 g9)
                go_roundw
                case rel => exact ⟨j + 1, _, _, by omega, by first | rfl | (have := unhide HMM; congr 1; omega), hide (fun h => by have := unhide HMM; have := unhide HO; exact ⟨by congr 2; omega, by omega, by unfold maxLen; omega⟩), HGD, O9, B9⟩
                case measure => (simp [lenV] <;> omega)
            · have hbq : ((130 : Int) == fld bs (4 + 4 * j)) = false := beq_eq_false_iff_ne.2 (fun e => hsb e.symm)
              have hbq2 : (fld bs (4 + 4 * j) == 130) = false := beq_eq_false_iff_ne.2 hsb
              have HNT : Hid ((0 < 3 + 1 → fld bs (4 + 4 * j) ≠ 0) ∧ (1 < 3 + 1 → fld bs (4 + 4 * j) ≠ 1) ∧ (2 < 3 + 1 → fld bs (4 + 4 * j) ≠ 2) ∧ (3 < 3 + 1 → fld bs (4 + 4 * j) ≠ 130)) := hide (by
                obtain ⟨n0, n1, n2, n3⟩ := unhide hnot
                refine ⟨fun h => ?_, fun h => ?_, fun h => ?_, fun h => ?_⟩ <;> first | exact hsb | exact n0 (by omega) | exact n1 (by omega) | exact n2 (by omega) | omega)
              clear hsb
              (refine Rg.tk (i := 5) (d := 39) (v := ?_) rfl rfl (by kernel_rfl) (by kernel_rfl) (by kernel_rfl) (fun _ _ _ h => h) (by rfl) ?_ (by assumption) ?_; rotate_left; (focus (intro w0 hSw; (try dsimp only at hSw); go_simp; (try with_reducible rfl))); (try simp only [Act.put, List.setIfInBounds_toArray, List.set_cons_zero, List.set_cons_succ]))
              refine wpAnyH_done (by kernel_rfl) (NoPanic.normal ?_) _
              clear hHeld
              go_wp2_with fail
              go_roundw
              case rel => exact ⟨rfl, 3 + 1, by omega, by go_num, HNT, E5⟩
              case measure => simp [intOf]
        · obtain rfl : t = 4 := by omega
          have hst : stB (fld bs (4 + 4 * j)) = false := by
            obtain ⟨n0, n1, n2, n3⟩ := unhide hnot
            unfold stB
            rw [beq_eq_false_iff_ne.2 (n0 (by omega)), beq_eq_false_iff_ne.2 (n1 (by omega)), beq_eq_false_iff_ne.2 (n2 (by omega)), beq_eq_false_iff_ne.2 (n3 (by omega))]; rfl
          have hf := hide (unhide HF (good_no hjn (by rw [hst, Bool.and_false])))
          have BF := hide ((unhide BV).trans ((unhide hbx).mono hVs))
          go_wp2_with fail
          (try rw [Exit.noGoto_ret])
          go_ret2
          exact unhide hf _ (unhide BF)
    · obtain rfl : j = n := by omega
      have hg := good_of (unhide hgd)
      have HL := hide (Nb.lst_own rfl (unhide how))
      have HGG := hide hg
      clear hg
      have hzero : 4 * (j - j) = 0 := by omega
      rw [hzero]
      go_wp2_with fail
      (try rw [Exit.noGoto_ret])
      go_ret2
      rw [unhide HGG, if_pos rfl]
      exact ⟨_, rfl, unhide hbl, unhide HL⟩
end Hl
end Go.Proofs.Ytmelbilepfnmjak
