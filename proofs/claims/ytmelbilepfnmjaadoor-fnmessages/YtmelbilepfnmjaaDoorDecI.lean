/-
  Contract of the program's readMessage: the first message of a slice of bytes, or none; as the model's l01Next answers.
-/
import Derived.Test.YtmelbilepfnmjaaDoorDecS
namespace Go.Proofs.YtmelbilepfnmjaaDoor
open Go.ChangeShapes Go.WideShapes Go.ChangeAt Go.RowKit
set_option linter.unusedVariables false
set_option maxRecDepth 100000
set_option linter.unusedSimpArgs false
attribute [local go_sem ↓] Go.wp_at_zero Go.wp_at_succ
namespace De
open W1 By
theorem bodyOf_size {bs : List UInt8} (h8 : 8 ≤ two bs 1) (hl : two bs 1 ≤ bs.length) : ((bodyOf bs).size : Int) = two bs 1 - 8 := by
  have : (bodyOf bs).size = ((bs.take (two bs 1).toNat).drop 8).length := by simp [bodyOf, ByteArray.size]
  rw [this, List.length_drop, List.length_take]
  omega
theorem decB_out {bs : List UInt8} (h : ¬ (8 ≤ two bs 1 ∧ two bs 1 ≤ min 128 (bs.length : Int))) : decB bs = false := by
  unfold decB
  by_cases h1 : 8 ≤ two bs 1
  · by_cases h2 : two bs 1 ≤ bs.length
    · have hb := bodyOf_size h1 h2
      have : okB (fld bs 0) (fld bs 3) (two bs 4) (fld bs 6) (fld bs 7) (bodyOf bs) = false := by
        unfold okB
        rw [decide_eq_false (by omega : ¬ (((bodyOf bs).size : Int) ≤ 120))]
        simp
      rw [this]; simp
    · rw [decide_eq_false h2]; simp
  · rw [decide_eq_false h1]; simp
theorem below_drewN {B : Nat} {w w' : World} (h : Below B w w') (q : Nat) : Below B w (w'.drewN q) := ⟨h.os, h.tape, h.output, h.size, h.block⟩
theorem reads_drewN {w : World} {a : Option Addr} {bs : List UInt8} (h : Reads w a bs) (q : Nat) : Reads (w.drewN q) a bs := h
theorem reads_drew {w : World} {a : Option Addr} {bs : List UInt8} (h : Reads w a bs) : Reads w.drew a bs := h
theorem reads_alloc {w : World} {a : Option Addr} {bs : List UInt8} (h : Reads w a bs) (o : Obj) : Reads (w.alloc o) a bs := by
  rcases h with h | ⟨g, off, rfl, hc⟩
  · exact .inl h
  · refine .inr ⟨g, off, rfl, fun i hi => ?_⟩
    rw [World.cell?_alloc_lt _ _ _ (World.block_lt_of_cell? w _ (hc i hi))]; exact hc i hi
theorem reads_set {w : World} {g off b o : Nat} {bs : List UInt8} {v : Value} (hb : b ≠ g) (h : Reads w (some ⟨g, off, none⟩) bs) : Reads (w.setCell ⟨b, o, none⟩ v) (some ⟨g, off, none⟩) bs := by
  rcases h with h | ⟨g', off', e, hc⟩
  · exact .inl h
  · cases e
    refine .inr ⟨g, off, rfl, fun i hi => ?_⟩
    rw [World.cell?_setCell_other _ _ _ _ (by intro e; cases e; exact hb rfl)]; exact hc i hi
theorem reads_six {w : World} {g off b : Nat} {bs : List UInt8} {v0 v1 v2 v3 v4 v5 : Value} (hb : b ≠ g) (h : Reads w (some ⟨g, off, none⟩) bs) :
    Reads ((((((w.setCell ⟨b, 0, none⟩ v0).setCell ⟨b, 1, none⟩ v1).setCell ⟨b, 2, none⟩ v2).setCell ⟨b, 3, none⟩ v3).setCell ⟨b, 4, none⟩ v4).setCell ⟨b, 5, none⟩ v5) (some ⟨g, off, none⟩) bs :=
  reads_set hb (reads_set hb (reads_set hb (reads_set hb (reads_set hb (reads_set hb h)))))
theorem reads_at {w : World} {g off i : Nat} {bs : List UInt8} (h : Reads w (some ⟨g, off, none⟩) bs) (hi : i < bs.length) : w.cell? ⟨g, off + i, none⟩ = some (.int .u8 (fld bs i)) := by
  rcases h with h | ⟨g', off', e, hc⟩
  · subst h; simp at hi
  · cases e; exact hc i hi
/-- The slice behind the head, as a text. -/
theorem conv_body {w : World} {g off cap : Nat} {bs : List UInt8} (h : Reads w (some ⟨g, off, none⟩) bs) (h8 : 8 ≤ two bs 1) (hl : two bs 1 ≤ bs.length) :
    Sem.run Tryd.prog (convert 22 9 (.slice (some ⟨g, off + 8, none⟩) ((two bs 1).toNat - 8) cap)) w = .ok (.string (bodyOf bs)) w := by
  have hb := run_convert_bytes_arg (P := Tryd.prog) w 22 5 Tryd.underlying22 Tryd.underlying5 g (off + 8) ((two bs 1).toNat - 8) cap (((bs.take (two bs 1).toNat).drop 8).map fun b => (b.toNat : Int))
    (by rw [List.length_map, List.length_drop, List.length_take]; omega) (fun i hi => ?_) 9 Tryd.underlying9
  · rw [hb]
    congr 2
    apply ByteArray.ext
    apply Array.ext'
    rw [strOfNums_data]
    unfold bodyOf
    rw [List.map_map]
    have : ((fun n : Int => UInt8.ofNat n.toNat) ∘ fun b : UInt8 => (b.toNat : Int)) = id := by
      funext b
      simp
    rw [this, List.map_id]
  · have := reads_at (i := 8 + i) h (by omega)
    rw [show off + 8 + i = off + (8 + i) by omega, this]
    unfold fld
    congr 2
    rw [List.getD_eq_getElem?_getD, List.getD_eq_getElem?_getD, List.getElem?_map, List.getElem?_drop, List.getElem?_take_of_lt (by omega), List.getElem?_eq_getElem (by omega)]
    rfl
theorem conv_none {w : World} {g off : Nat} {bs : List UInt8} (h8 : 8 ≤ two bs 1) (hl : two bs 1 ≤ 8) :
    Sem.run Tryd.prog (convert 22 9 (.slice (some ⟨g, off, none⟩) 0 0)) w = .ok (.string (bodyOf bs)) w := by
  have hb := run_convert_bytes_arg (P := Tryd.prog) w 22 5 Tryd.underlying22 Tryd.underlying5 g off 0 0 [] rfl (fun i hi => by omega) 9 Tryd.underlying9
  rw [hb]
  congr 2
  apply ByteArray.ext
  apply Array.ext'
  rw [strOfNums_data]
  unfold bodyOf
  have e : (two bs 1).toNat = 8 := by omega
  rw [e]
  simp [List.drop_take]
theorem dz1 (w : World) (zs : Array Value) (t : TypeId) (q i : Nat) (o : Obj) : (((w.alloc (.cells zs t)).drewN q).alloc o).cell? ⟨w.heap.size, i, none⟩ = zs[i]? := by
  rw [World.cell?_alloc_lt _ _ _ (by show w.heap.size < (w.alloc (.cells zs t)).heap.size; simp)]
  exact World.cell?_alloc_new w zs t i
theorem dz2 (w : World) (zs : Array Value) (t : TypeId) (q q2 i : Nat) (o : Obj) (v0 v1 v2 v3 v4 v5 : Value) :
    (((((((((((w.alloc (.cells zs t)).drewN q).alloc o).drewN q2).setCell ⟨w.heap.size + 1, 0, none⟩ v0).setCell ⟨w.heap.size + 1, 1, none⟩ v1).setCell ⟨w.heap.size + 1, 2, none⟩ v2).setCell ⟨w.heap.size + 1, 3, none⟩ v3).setCell ⟨w.heap.size + 1, 4, none⟩ v4).setCell ⟨w.heap.size + 1, 5, none⟩ v5).cell? ⟨w.heap.size, i, none⟩) = zs[i]? := by
  rw [World.cell?_setCell_other _ _ _ _ (by simp), World.cell?_setCell_other _ _ _ _ (by simp), World.cell?_setCell_other _ _ _ _ (by simp), World.cell?_setCell_other _ _ _ _ (by simp), World.cell?_setCell_other _ _ _ _ (by simp), World.cell?_setCell_other _ _ _ _ (by simp)]
  exact dz1 w zs t q i o
/-- All that the region asks of a world, out of the reading. -/
theorem sOf {w : World} {g off n : Nat} {bs : List UInt8} {CV : Value} (hn : bs.length = n) (h8 : 8 ≤ n) (CVH : ∀ w' : World, Reads w' (some ⟨g, off, none⟩) bs → Sem.run Tryd.prog (convert 22 9 CV) w' = .ok (.string (bodyOf bs)) w') (h : Reads w (some ⟨g, off, none⟩) bs) :
    Reads w (some ⟨g, off, none⟩) bs ∧ w.cell? ⟨g, off, none⟩ = some (.int .u8 (fld bs 0)) ∧ w.cell? ⟨g, off + 3, none⟩ = some (.int .u8 (fld bs 3)) ∧ w.cell? ⟨g, off + 6, none⟩ = some (.int .u8 (fld bs 6)) ∧ w.cell? ⟨g, off + 7, none⟩ = some (.int .u8 (fld bs 7)) ∧ Sem.run Tryd.prog (convert 22 9 CV) w = .ok (.string (bodyOf bs)) w :=
  ⟨h, reads_at (i := 0) h (by omega), reads_at h (by omega), reads_at h (by omega), reads_at h (by omega), CVH w h⟩
set_option maxRecDepth 100000 in
set_option maxHeartbeats 8000000 in
theorem readMessage (a : Option Addr) (bs : List UInt8) (cap : Nat) (w : World) (hm : bs.length ≤ 1048576) (hcap : bs.length ≤ cap) (hcm : cap ≤ maxLen) (hr : Reads w a bs) :
    Calls Tryd.prog 17 #[.slice a bs.length cap] w fun e w' => e = .returned (nextV bs) ∧ Below w.heap.size w w' := by
  unfold maxLen at hcm
  by_cases h8 : (bs.length : Int) < 8
  · have hf := hide (nextV_no (bs := bs) (by unfold decB; rw [decide_eq_false (by omega)]; rfl))
    clear hr
    go_enter Tryd.func17, Tryd.ntmps17
    go_wp2
    refine bodyPost_ret (v := .tuple #[.agg #[.int .i64 0, .int .i64 0, .int .i64 0, .int .i64 0, .int .i64 0, .string ⟨#[]⟩], .int .i64 0, .bool false]) (by simp [results, Tryd.results17, go_sem]) rfl ⟨by rw [unhide hf], ?_⟩
    repeat (first | exact Below.refl _ _ | refine Below.setCell ?_ (by simp <;> omega) _ | refine Below.alloc ?_ (by simp <;> omega) _)
  · rcases hr with rfl | ⟨g, off, rfl, hc⟩
    · simp at h8
    have hlt : g < w.heap.size := World.block_lt_of_cell? _ _ (hc 0 (by omega))
    have HR : Reads w (some ⟨g, off, none⟩) bs := .inr ⟨g, off, rfl, hc⟩
    have HC := hide hc
    clear hc
    have l1 := two_lo bs 1
    have u1 := two_hi bs 1
    generalize hN : bs.length = n at *
    have HN := hide hN
    clear hN
    go_enter Tryd.func17, Tryd.ntmps17
    go_wp2_with fail
    refine (twoAt g off 1 n cap (fld bs 1) (fld bs 2) _ (fld_lo _ _) (fld_hi _ _) (fld_lo _ _) (fld_hi _ _) (by omega) hm ?_ ?_).mono ?_
    · rw [World.cell?_alloc_lt _ _ _ hlt]; exact unhide HC 1 (by omega)
    · rw [World.cell?_alloc_lt _ _ _ hlt]; exact unhide HC 2 (by omega)
    rintro e w1 ⟨rfl, q1, rfl⟩
    rw [show 256 * fld bs 1 + fld bs 2 = two bs 1 from rfl]
    by_cases hmn : (n : Int) < 128
    all_goals
      go_wp2_with fail
      refine (within _ _ _ _).mono ?_
      rintro e w2 ⟨rfl, rfl⟩
      first
        | rw [show inB (two bs 1) 8 (n : Int) = decide (8 ≤ two bs 1 ∧ two bs 1 ≤ min 128 (n : Int)) from by unfold inB; rw [Bool.eq_iff_iff]; simp; omega]
        | rw [show inB (two bs 1) 8 128 = decide (8 ≤ two bs 1 ∧ two bs 1 ≤ min 128 (n : Int)) from by unfold inB; rw [Bool.eq_iff_iff]; simp; omega]
      by_cases hok : 8 ≤ two bs 1 ∧ two bs 1 ≤ min 128 (n : Int)
      · rw [decide_eq_true hok]
        have n8 : (8 : Int) ≤ two bs 1 := hok.1
        have nl : two bs 1 ≤ (n : Int) := by omega
        have nc : two bs 1 ≤ (cap : Int) := by omega
        clear hok hmn
        have z0 : (0 : Int) < n := by omega
        have z3 : (3 : Int) < n := by omega
        have z6 : (6 : Int) < n := by omega
        have z7 : (7 : Int) < n := by omega
        have hne : 0 < n := by omega
        have wf0 := wrapF bs 0
        have wf3 := wrapF bs 3
        have wf6 := wrapF bs 6
        have wf7 := wrapF bs 7
        have h8n : 8 ≤ n := by omega
        by_cases c8 : cap = 8
        · subst c8
          have nc8 : two bs 1 ≤ 8 := by omega
          clear nc
          have CVH : ∀ w' : World, Reads w' (some ⟨g, off, none⟩) bs → Sem.run Tryd.prog (convert 22 9 (.slice (some ⟨g, off, none⟩) 0 0)) w' = .ok (.string (bodyOf bs)) w' := fun w' _ => conv_none n8 nc8
          go_wp2_with fail
          go_region_held3 (fun w' => Reads w' (some ⟨g, off, none⟩) bs ∧ w'.cell? ⟨g, off, none⟩ = some (.int .u8 (fld bs 0)) ∧ w'.cell? ⟨g, off + 3, none⟩ = some (.int .u8 (fld bs 3)) ∧ w'.cell? ⟨g, off + 6, none⟩ = some (.int .u8 (fld bs 6)) ∧ w'.cell? ⟨g, off + 7, none⟩ = some (.int .u8 (fld bs 7)) ∧ Sem.run Tryd.prog (convert 22 9 (.slice (some ⟨g, off, none⟩) 0 0)) w' = .ok (.string (bodyOf bs)) w')
            ((go_split_ands; exact sOf (CV := (.slice (some ⟨g, off, none⟩) 0 0)) (unhide HN) h8n CVH (by repeat (first | with_reducible assumption | with_reducible refine reads_drewN ?_ _ | with_reducible refine reads_drew ?_ | with_reducible refine reads_alloc ?_ _ | with_reducible refine reads_set (by omega) ?_))))
            (first | (go_at_call 31; refine (twoAt g off 4 n 8 (fld bs 4) (fld bs 5) _ (fld_lo _ _) (fld_hi _ _) (fld_lo _ _) (fld_hi _ _) (by omega) hm ?_ ?_).mono ?_; (go_split_ands; exact reads_at (by assumption) (by rw [unhide HN]; omega)); (go_split_ands; exact reads_at (by assumption) (by rw [unhide HN]; omega)); rintro e w1 ⟨rfl, q2, rfl⟩; rw [show 256 * fld bs 4 + fld bs 5 = two bs 4 from rfl]))
          · go_wp2_with fail
            refine (implOK _ _ _ _ _ _ _).mono ?_
            rintro e w5 ⟨rfl, b5⟩
            have hz5 : w.heap.size + 2 ≤ w5.heap.size := by have := b5.size; simp at this; omega
            have hb5 : Below w.heap.size w w5 := (((below_drewN ((Below.refl w.heap.size w).alloc (Nat.le_refl _) _) _).alloc (by simp) _)).trans (b5.mono (by simp; omega))
            have HB5 := hide hb5
            obtain ⟨c5, f5⟩ := bcell b5
            have d0 : w5.cell? ⟨w.heap.size, 0, none⟩ = some (.int .i64 0) := by rw [c5 _ _ (by simp; omega), dz1]; rfl
            have d1 : w5.cell? ⟨w.heap.size, 1, none⟩ = some (.int .i64 0) := by rw [c5 _ _ (by simp; omega), dz1]; rfl
            have d2 : w5.cell? ⟨w.heap.size, 2, none⟩ = some (.int .i64 0) := by rw [c5 _ _ (by simp; omega), dz1]; rfl
            have d3 : w5.cell? ⟨w.heap.size, 3, none⟩ = some (.int .i64 0) := by rw [c5 _ _ (by simp; omega), dz1]; rfl
            have d4 : w5.cell? ⟨w.heap.size, 4, none⟩ = some (.int .i64 0) := by rw [c5 _ _ (by simp; omega), dz1]; rfl
            have d5 : w5.cell? ⟨w.heap.size, 5, none⟩ = some (.string ⟨#[]⟩) := by rw [c5 _ _ (by simp; omega), dz1]; rfl
            clear hb5 b5
            cases hk : okB (fld bs 0) (fld bs 3) (two bs 4) (fld bs 6) (fld bs 7) (bodyOf bs)
            · have hf := hide (nextV_no (bs := bs) (by unfold decB; rw [hk]; simp))
              clear hk
              go_wp2_with fail
              refine bodyPost_ret (v := .tuple #[.agg #[.int .i64 0, .int .i64 0, .int .i64 0, .int .i64 0, .int .i64 0, .string ⟨#[]⟩], .int .i64 0, .bool false]) (by simp [results, Tryd.results17, go_sem, d0, d1, d2, d3, d4, d5]) rfl ⟨by rw [unhide hf], ?_⟩
              exact (((((((unhide HB5).setCell (p := ⟨w.heap.size, 0, none⟩) (Nat.le_refl _) _).setCell (p := ⟨w.heap.size, 1, none⟩) (Nat.le_refl _) _).setCell (p := ⟨w.heap.size, 2, none⟩) (Nat.le_refl _) _).setCell (p := ⟨w.heap.size, 3, none⟩) (Nat.le_refl _) _).setCell (p := ⟨w.heap.size, 4, none⟩) (Nat.le_refl _) _).setCell (p := ⟨w.heap.size, 5, none⟩) (Nat.le_refl _) _)
            · have hf : Hid (nextV bs = .tuple #[.agg #[.int .i64 (fld bs 0), .int .i64 (fld bs 3), .int .i64 (two bs 4), .int .i64 (fld bs 6), .int .i64 (fld bs 7), .string (bodyOf bs)], .int .i64 (two bs 1), .bool true]) := by
                unfold nextV
                rw [if_pos (by unfold decB; rw [hk, unhide HN]; simp; omega)]
                exact hide rfl
              clear hk
              go_wp2_with fail
              refine bodyPost_ret (v := .tuple #[.agg #[.int .i64 (fld bs 0), .int .i64 (fld bs 3), .int .i64 (two bs 4), .int .i64 (fld bs 6), .int .i64 (fld bs 7), .string (bodyOf bs)], .int .i64 (two bs 1), .bool true]) (by simp [results, Tryd.results17, go_sem, d0, d1, d2, d3, d4, d5]) rfl ⟨by rw [unhide hf], ?_⟩
              exact (((((((unhide HB5).setCell (p := ⟨w.heap.size, 0, none⟩) (Nat.le_refl _) _).setCell (p := ⟨w.heap.size, 1, none⟩) (Nat.le_refl _) _).setCell (p := ⟨w.heap.size, 2, none⟩) (Nat.le_refl _) _).setCell (p := ⟨w.heap.size, 3, none⟩) (Nat.le_refl _) _).setCell (p := ⟨w.heap.size, 4, none⟩) (Nat.le_refl _) _).setCell (p := ⟨w.heap.size, 5, none⟩) (Nat.le_refl _) _)
          · go_wp2_with fail
            refine (implOK _ _ _ _ _ _ _).mono ?_
            rintro e w5 ⟨rfl, b5⟩
            have hz5 : w.heap.size + 2 ≤ w5.heap.size := by have := b5.size; simp at this; omega
            have hb5 : Below w.heap.size w w5 := ((((((((below_drewN ((below_drewN ((Below.refl w.heap.size w).alloc (Nat.le_refl _) _) _).alloc (by simp) _) _).setCell (p := ⟨w.heap.size + 1, 0, none⟩) (Nat.le_succ _) _).setCell (p := ⟨w.heap.size + 1, 1, none⟩) (Nat.le_succ _) _).setCell (p := ⟨w.heap.size + 1, 2, none⟩) (Nat.le_succ _) _).setCell (p := ⟨w.heap.size + 1, 3, none⟩) (Nat.le_succ _) _).setCell (p := ⟨w.heap.size + 1, 4, none⟩) (Nat.le_succ _) _).setCell (p := ⟨w.heap.size + 1, 5, none⟩) (Nat.le_succ _) _)).trans (b5.mono (by simp; omega))
            have HB5 := hide hb5
            obtain ⟨c5, f5⟩ := bcell b5
            have d0 : w5.cell? ⟨w.heap.size, 0, none⟩ = some (.int .i64 0) := by rw [c5 _ _ (by simp; omega), dz2]; rfl
            have d1 : w5.cell? ⟨w.heap.size, 1, none⟩ = some (.int .i64 0) := by rw [c5 _ _ (by simp; omega), dz2]; rfl
            have d2 : w5.cell? ⟨w.heap.size, 2, none⟩ = some (.int .i64 0) := by rw [c5 _ _ (by simp; omega), dz2]; rfl
            have d3 : w5.cell? ⟨w.heap.size, 3, none⟩ = some (.int .i64 0) := by rw [c5 _ _ (by simp; omega), dz2]; rfl
            have d4 : w5.cell? ⟨w.heap.size, 4, none⟩ = some (.int .i64 0) := by rw [c5 _ _ (by simp; omega), dz2]; rfl
            have d5 : w5.cell? ⟨w.heap.size, 5, none⟩ = some (.string ⟨#[]⟩) := by rw [c5 _ _ (by simp; omega), dz2]; rfl
            clear hb5 b5
            cases hk : okB (fld bs 0) (fld bs 3) (two bs 4) (fld bs 6) (fld bs 7) (bodyOf bs)
            · have hf := hide (nextV_no (bs := bs) (by unfold decB; rw [hk]; simp))
              clear hk
              go_wp2_with fail
              refine bodyPost_ret (v := .tuple #[.agg #[.int .i64 0, .int .i64 0, .int .i64 0, .int .i64 0, .int .i64 0, .string ⟨#[]⟩], .int .i64 0, .bool false]) (by simp [results, Tryd.results17, go_sem, d0, d1, d2, d3, d4, d5]) rfl ⟨by rw [unhide hf], ?_⟩
              exact (((((((unhide HB5).setCell (p := ⟨w.heap.size, 0, none⟩) (Nat.le_refl _) _).setCell (p := ⟨w.heap.size, 1, none⟩) (Nat.le_refl _) _).setCell (p := ⟨w.heap.size, 2, none⟩) (Nat.le_refl _) _).setCell (p := ⟨w.heap.size, 3, none⟩) (Nat.le_refl _) _).setCell (p := ⟨w.heap.size, 4, none⟩) (Nat.le_refl _) _).setCell (p := ⟨w.heap.size, 5, none⟩) (Nat.le_refl _) _)
            · have hf : Hid (nextV bs = .tuple #[.agg #[.int .i64 (fld bs 0), .int .i64 (fld bs 3), .int .i64 (two bs 4), .int .i64 (fld bs 6), .int .i64 (fld bs 7), .string (bodyOf bs)], .int .i64 (two bs 1), .bool true]) := by
                unfold nextV
                rw [if_pos (by unfold decB; rw [hk, unhide HN]; simp; omega)]
                exact hide rfl
              clear hk
              go_wp2_with fail
              refine bodyPost_ret (v := .tuple #[.agg #[.int .i64 (fld bs 0), .int .i64 (fld bs 3), .int .i64 (two bs 4), .int .i64 (fld bs 6), .int .i64 (fld bs 7), .string (bodyOf bs)], .int .i64 (two bs 1), .bool true]) (by simp [results, Tryd.results17, go_sem, d0, d1, d2, d3, d4, d5]) rfl ⟨by rw [unhide hf], ?_⟩
              exact (((((((unhide HB5).setCell (p := ⟨w.heap.size, 0, none⟩) (Nat.le_refl _) _).setCell (p := ⟨w.heap.size, 1, none⟩) (Nat.le_refl _) _).setCell (p := ⟨w.heap.size, 2, none⟩) (Nat.le_refl _) _).setCell (p := ⟨w.heap.size, 3, none⟩) (Nat.le_refl _) _).setCell (p := ⟨w.heap.size, 4, none⟩) (Nat.le_refl _) _).setCell (p := ⟨w.heap.size, 5, none⟩) (Nat.le_refl _) _)
        · have hc8 : ¬ cap = 8 := c8
          have CVH : ∀ w' : World, Reads w' (some ⟨g, off, none⟩) bs → Sem.run Tryd.prog (convert 22 9 (.slice (some ⟨g, off + 8, none⟩) ((two bs 1).toNat - 8) (cap - 8))) w' = .ok (.string (bodyOf bs)) w' := fun w' h => conv_body h n8 (by rw [unhide HN]; exact nl)
          go_wp2_with fail
          go_region_held3 (fun w' => Reads w' (some ⟨g, off, none⟩) bs ∧ w'.cell? ⟨g, off, none⟩ = some (.int .u8 (fld bs 0)) ∧ w'.cell? ⟨g, off + 3, none⟩ = some (.int .u8 (fld bs 3)) ∧ w'.cell? ⟨g, off + 6, none⟩ = some (.int .u8 (fld bs 6)) ∧ w'.cell? ⟨g, off + 7, none⟩ = some (.int .u8 (fld bs 7)) ∧ Sem.run Tryd.prog (convert 22 9 (.slice (some ⟨g, off + 8, none⟩) ((two bs 1).toNat - 8) (cap - 8))) w' = .ok (.string (bodyOf bs)) w')
            ((go_split_ands; exact sOf (CV := (.slice (some ⟨g, off + 8, none⟩) ((two bs 1).toNat - 8) (cap - 8))) (unhide HN) h8n CVH (by repeat (first | with_reducible assumption | with_reducible refine reads_drewN ?_ _ | with_reducible refine reads_drew ?_ | with_reducible refine reads_alloc ?_ _ | with_reducible refine reads_set (by omega) ?_))))
            (first | (go_at_call 31; refine (twoAt g off 4 n cap (fld bs 4) (fld bs 5) _ (fld_lo _ _) (fld_hi _ _) (fld_lo _ _) (fld_hi _ _) (by omega) hm ?_ ?_).mono ?_; (go_split_ands; exact reads_at (by assumption) (by rw [unhide HN]; omega)); (go_split_ands; exact reads_at (by assumption) (by rw [unhide HN]; omega)); rintro e w1 ⟨rfl, q2, rfl⟩; rw [show 256 * fld bs 4 + fld bs 5 = two bs 4 from rfl]))
          · go_wp2_with fail
            refine (implOK _ _ _ _ _ _ _).mono ?_
            rintro e w5 ⟨rfl, b5⟩
            have hz5 : w.heap.size + 2 ≤ w5.heap.size := by have := b5.size; simp at this; omega
            have hb5 : Below w.heap.size w w5 := (((below_drewN ((Below.refl w.heap.size w).alloc (Nat.le_refl _) _) _).alloc (by simp) _)).trans (b5.mono (by simp; omega))
            have HB5 := hide hb5
            obtain ⟨c5, f5⟩ := bcell b5
            have d0 : w5.cell? ⟨w.heap.size, 0, none⟩ = some (.int .i64 0) := by rw [c5 _ _ (by simp; omega), dz1]; rfl
            have d1 : w5.cell? ⟨w.heap.size, 1, none⟩ = some (.int .i64 0) := by rw [c5 _ _ (by simp; omega), dz1]; rfl
            have d2 : w5.cell? ⟨w.heap.size, 2, none⟩ = some (.int .i64 0) := by rw [c5 _ _ (by simp; omega), dz1]; rfl
            have d3 : w5.cell? ⟨w.heap.size, 3, none⟩ = some (.int .i64 0) := by rw [c5 _ _ (by simp; omega), dz1]; rfl
            have d4 : w5.cell? ⟨w.heap.size, 4, none⟩ = some (.int .i64 0) := by rw [c5 _ _ (by simp; omega), dz1]; rfl
            have d5 : w5.cell? ⟨w.heap.size, 5, none⟩ = some (.string ⟨#[]⟩) := by rw [c5 _ _ (by simp; omega), dz1]; rfl
            clear hb5 b5
            cases hk : okB (fld bs 0) (fld bs 3) (two bs 4) (fld bs 6) (fld bs 7) (bodyOf bs)
            · have hf := hide (nextV_no (bs := bs) (by unfold decB; rw [hk]; simp))
              clear hk
              go_wp2_with fail
              refine bodyPost_ret (v := .tuple #[.agg #[.int .i64 0, .int .i64 0, .int .i64 0, .int .i64 0, .int .i64 0, .string ⟨#[]⟩], .int .i64 0, .bool false]) (by simp [results, Tryd.results17, go_sem, d0, d1, d2, d3, d4, d5]) rfl ⟨by rw [unhide hf], ?_⟩
              exact (((((((unhide HB5).setCell (p := ⟨w.heap.size, 0, none⟩) (Nat.le_refl _) _).setCell (p := ⟨w.heap.size, 1, none⟩) (Nat.le_refl _) _).setCell (p := ⟨w.heap.size, 2, none⟩) (Nat.le_refl _) _).setCell (p := ⟨w.heap.size, 3, none⟩) (Nat.le_refl _) _).setCell (p := ⟨w.heap.size, 4, none⟩) (Nat.le_refl _) _).setCell (p := ⟨w.heap.size, 5, none⟩) (Nat.le_refl _) _)
            · have hf : Hid (nextV bs = .tuple #[.agg #[.int .i64 (fld bs 0), .int .i64 (fld bs 3), .int .i64 (two bs 4), .int .i64 (fld bs 6), .int .i64 (fld bs 7), .string (bodyOf bs)], .int .i64 (two bs 1), .bool true]) := by
                unfold nextV
                rw [if_pos (by unfold decB; rw [hk, unhide HN]; simp; omega)]
                exact hide rfl
              clear hk
              go_wp2_with fail
              refine bodyPost_ret (v := .tuple #[.agg #[.int .i64 (fld bs 0), .int .i64 (fld bs 3), .int .i64 (two bs 4), .int .i64 (fld bs 6), .int .i64 (fld bs 7), .string (bodyOf bs)], .int .i64 (two bs 1), .bool true]) (by simp [results, Tryd.results17, go_sem, d0, d1, d2, d3, d4, d5]) rfl ⟨by rw [unhide hf], ?_⟩
              exact (((((((unhide HB5).setCell (p := ⟨w.heap.size, 0, none⟩) (Nat.le_refl _) _).setCell (p := ⟨w.heap.size, 1, none⟩) (Nat.le_refl _) _).setCell (p := ⟨w.heap.size, 2, none⟩) (Nat.le_refl _) _).setCell (p := ⟨w.heap.size, 3, none⟩) (Nat.le_refl _) _).setCell (p := ⟨w.heap.size, 4, none⟩) (Nat.le_refl _) _).setCell (p := ⟨w.heap.size, 5, none⟩) (Nat.le_refl _) _)
          · go_wp2_with fail
            refine (implOK _ _ _ _ _ _ _).mono ?_
            rintro e w5 ⟨rfl, b5⟩
            have hz5 : w.heap.size + 2 ≤ w5.heap.size := by have := b5.size; simp at this; omega
            have hb5 : Below w.heap.size w w5 := ((((((((below_drewN ((below_drewN ((Below.refl w.heap.size w).alloc (Nat.le_refl _) _) _).alloc (by simp) _) _).setCell (p := ⟨w.heap.size + 1, 0, none⟩) (Nat.le_succ _) _).setCell (p := ⟨w.heap.size + 1, 1, none⟩) (Nat.le_succ _) _).setCell (p := ⟨w.heap.size + 1, 2, none⟩) (Nat.le_succ _) _).setCell (p := ⟨w.heap.size + 1, 3, none⟩) (Nat.le_succ _) _).setCell (p := ⟨w.heap.size + 1, 4, none⟩) (Nat.le_succ _) _).setCell (p := ⟨w.heap.size + 1, 5, none⟩) (Nat.le_succ _) _)).trans (b5.mono (by simp; omega))
            have HB5 := hide hb5
            obtain ⟨c5, f5⟩ := bcell b5
            have d0 : w5.cell? ⟨w.heap.size, 0, none⟩ = some (.int .i64 0) := by rw [c5 _ _ (by simp; omega), dz2]; rfl
            have d1 : w5.cell? ⟨w.heap.size, 1, none⟩ = some (.int .i64 0) := by rw [c5 _ _ (by simp; omega), dz2]; rfl
            have d2 : w5.cell? ⟨w.heap.size, 2, none⟩ = some (.int .i64 0) := by rw [c5 _ _ (by simp; omega), dz2]; rfl
            have d3 : w5.cell? ⟨w.heap.size, 3, none⟩ = some (.int .i64 0) := by rw [c5 _ _ (by simp; omega), dz2]; rfl
            have d4 : w5.cell? ⟨w.heap.size, 4, none⟩ = some (.int .i64 0) := by rw [c5 _ _ (by simp; omega), dz2]; rfl
            have d5 : w5.cell? ⟨w.heap.size, 5, none⟩ = some (.string ⟨#[]⟩) := by rw [c5 _ _ (by simp; omega), dz2]; rfl
            clear hb5 b5
            cases hk : okB (fld bs 0) (fld bs 3) (two bs 4) (fld bs 6) (fld bs 7) (bodyOf bs)
            · have hf := hide (nextV_no (bs := bs) (by unfold decB; rw [hk]; simp))
              clear hk
              go_wp2_with fail
              refine bodyPost_ret (v := .tuple #[.agg #[.int .i64 0, .int .i64 0, .int .i64 0, .int .i64 0, .int .i64 0, .string ⟨#[]⟩], .int .i64 0, .bool false]) (by simp [results, Tryd.results17, go_sem, d0, d1, d2, d3, d4, d5]) rfl ⟨by rw [unhide hf], ?_⟩
              exact (((((((unhide HB5).setCell (p := ⟨w.heap.size, 0, none⟩) (Nat.le_refl _) _).setCell (p := ⟨w.heap.size, 1, none⟩) (Nat.le_refl _) _).setCell (p := ⟨w.heap.size, 2, none⟩) (Nat.le_refl _) _).setCell (p := ⟨w.heap.size, 3, none⟩) (Nat.le_refl _) _).setCell (p := ⟨w.heap.size, 4, none⟩) (Nat.le_refl _) _).setCell (p := ⟨w.heap.size, 5, none⟩) (Nat.le_refl _) _)
            · have hf : Hid (nextV bs = .tuple #[.agg #[.int .i64 (fld bs 0), .int .i64 (fld bs 3), .int .i64 (two bs 4), .int .i64 (fld bs 6), .int .i64 (fld bs 7), .string (bodyOf bs)], .int .i64 (two bs 1), .bool true]) := by
                unfold nextV
                rw [if_pos (by unfold decB; rw [hk, unhide HN]; simp; omega)]
                exact hide rfl
              clear hk
              go_wp2_with fail
              refine bodyPost_ret (v := .tuple #[.agg #[.int .i64 (fld bs 0), .int .i64 (fld bs 3), .int .i64 (two bs 4), .int .i64 (fld bs 6), .int .i64 (fld bs 7), .string (bodyOf bs)], .int .i64 (two bs 1), .bool true]) (by simp [results, Tryd.results17, go_sem, d0, d1, d2, d3, d4, d5]) rfl ⟨by rw [unhide hf], ?_⟩
              exact (((((((unhide HB5).setCell (p := ⟨w.heap.size, 0, none⟩) (Nat.le_refl _) _).setCell (p := ⟨w.heap.size, 1, none⟩) (Nat.le_refl _) _).setCell (p := ⟨w.heap.size, 2, none⟩) (Nat.le_refl _) _).setCell (p := ⟨w.heap.size, 3, none⟩) (Nat.le_refl _) _).setCell (p := ⟨w.heap.size, 4, none⟩) (Nat.le_refl _) _).setCell (p := ⟨w.heap.size, 5, none⟩) (Nat.le_refl _) _)
      · have hf := hide (nextV_no (bs := bs) (decB_out (by rw [unhide HN]; exact hok)))
        rw [decide_eq_false hok]
        clear hok
        go_wp2_with fail
        refine bodyPost_ret (v := .tuple #[.agg #[.int .i64 0, .int .i64 0, .int .i64 0, .int .i64 0, .int .i64 0, .string ⟨#[]⟩], .int .i64 0, .bool false]) (by simp [results, Tryd.results17, go_sem]) rfl ⟨by rw [unhide hf], ?_⟩
        exact (((((((below_drewN ((Below.refl w.heap.size w).alloc (Nat.le_refl _) _) q1).setCell (p := ⟨w.heap.size, 0, none⟩) (Nat.le_refl _) _).setCell (p := ⟨w.heap.size, 1, none⟩) (Nat.le_refl _) _).setCell (p := ⟨w.heap.size, 2, none⟩) (Nat.le_refl _) _).setCell (p := ⟨w.heap.size, 3, none⟩) (Nat.le_refl _) _).setCell (p := ⟨w.heap.size, 4, none⟩) (Nat.le_refl _) _).setCell (p := ⟨w.heap.size, 5, none⟩) (Nat.le_refl _) _)
end De
end Go.Proofs.YtmelbilepfnmjaaDoor
