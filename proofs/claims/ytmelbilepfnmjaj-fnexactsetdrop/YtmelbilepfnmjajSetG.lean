/-
  Contracts: lists copied and put together (the program's copied, slices.Concat and slices.Grow at lists of tuples, the model's own copy).
-/
import Derived.Test.YtmelbilepfnmjajSetD
import Derived.Lib.AppendZeros
namespace Go.Proofs.Ytmelbilepfnmjaj
open Go.ChangeShapes Go.WideShapes Go.ChangeAt Go.RowKit
set_option linter.unusedVariables false
set_option linter.unusedSimpArgs false
attribute [local go_sem ↓] Go.wp_at_zero Go.wp_at_succ
namespace St
open W1 Tu
theorem l03Own (g off : Nat) (ms : List R) (cap n : Nat) (w : World) (hn : ms.length = n) (hm : ms.length ≤ 4096) (hr : RM w (some ⟨g, off, none⟩) ms) :
    Calls Try.prog 45 #[.slice (some ⟨g, off, none⟩) n cap] w fun e w' => ∃ v, e = .returned v ∧ Below w.heap.size w w' ∧ LstV w' v ms w.heap.size w'.heap.size := by
  have HR := hide (hr.below ((Below.refl _ _).alloc (Nat.le_refl _) (.cells #[] 30)))
  have O0 := hide (own_empty w w.heap.size (Nat.le_refl _))
  clear hr
  go_enter Try.func45, Try.ntmps45
  go_wp2_with (at_builtin; refine wpList_apS (unhide O0) g off n cap ms hn (unhide HR) (by simp; omega) (by simp) rfl _ _ rfl rfl rfl ?_; intro v' w' ho hg; have HL := hide (lst_own rfl ho); have HB := hide (below_own ((Below.refl _ _).alloc (Nat.le_refl _) _) (unhide O0) hg (Nat.le_refl _) (by simp)); clear ho hg)
  go_ret
  exact ⟨_, rfl, unhide HB, unhide HL⟩
theorem copied (g off : Nat) (ms : List R) (cap n : Nat) (w : World) (hn : ms.length = n) (hm : ms.length ≤ 4096) (hr : RM w (some ⟨g, off, none⟩) ms) :
    Calls Try.prog 37 #[.slice (some ⟨g, off, none⟩) n cap] w fun e w' => ∃ v, e = .returned v ∧ Below w.heap.size w w' ∧ LstV w' v ms w.heap.size w'.heap.size := by
  have HR := hide hr
  have O0 := hide (own_nil w w.heap.size)
  clear hr
  go_enter Try.func37, Try.ntmps37
  go_wp2_with (at_builtin; refine wpList_apS (unhide O0) g off n cap ms hn (unhide HR) (by simp; omega) (by simp) rfl _ _ rfl rfl rfl ?_; intro v' w' ho hg; have HL := hide (lst_own rfl ho); have HB := hide (below_own (Below.refl _ _) (unhide O0) hg (Nat.le_refl _) (Nat.le_refl _)); clear ho hg)
  go_ret
  exact ⟨_, rfl, unhide HB, unhide HL⟩
theorem grow0 (w : World) : Calls Try.prog 50 #[.slice none 0 0, .int .i64 0] w fun e w' => ∃ v, e = .returned v ∧ Below w.heap.size w w' ∧ w'.ownsRow w.heap.size 30 3 v ([] : List R).length (flat []) := by
  have O0 := hide (own_nil w w.heap.size)
  go_enter Try.func50, Try.ntmps50
  go_wp2
  go_ret
  exact ⟨_, rfl, Below.refl _ _, unhide O0⟩
set_option maxHeartbeats 1000000 in
theorem growN (n : Nat) (w : World) (h0 : 0 < n) (hn : n ≤ 4096) : Calls Try.prog 50 #[.slice none 0 0, .int .i64 n] w fun e w' => ∃ v, e = .returned v ∧ Below w.heap.size w w' ∧ w'.ownsRow w.heap.size 30 3 v ([] : List R).length (flat []) := by
  obtain ⟨i0, hi, hz0, hz1, hz2⟩ := infoR
  have hrz : ∀ ty, (Builtin.append_ #[26, 3] ty #[.slice none 0 0, .int .i64 n]).run Try.prog w = _ := fun ty => Lib.run_append_nil_zeros w 26 3 ty 30 i0 _ .i64 .i64 Try.underlying26 Try.underlying3 hi hz0 n h0 (by rw [hz1]; decide) (by omega) (by rw [hz2]; omega)
  have hge : n ≤ grownCap w n 0 30 := grownCap_ge w _ _ _
  have hle := grownCap_le_maxLen w n 0 30 (by unfold maxLen; omega)
  obtain ⟨G, hG⟩ : ∃ G, G = grownCap w n 0 30 := ⟨_, rfl⟩
  rw [← hG] at hrz hge hle
  have hcs : (Builtin.zeroCells (Value.agg #[.int .i64 0, .int .i64 0, .int .i64 0]).cells n ++ Builtin.zeroCells (Value.agg #[.int .i64 0, .int .i64 0, .int .i64 0]).cells (G - n)).size = G * 3 := by
    rw [Array.size_append, size_zeroCells, size_zeroCells, show (Value.agg #[.int .i64 0, .int .i64 0, .int .i64 0]).cells.size = 3 from rfl]; omega
  generalize Builtin.zeroCells (Value.agg #[.int .i64 0, .int .i64 0, .int .i64 0]).cells n ++ Builtin.zeroCells (Value.agg #[.int .i64 0, .int .i64 0, .int .i64 0]).cells (G - n) = cs at *
  have O1 := hide (World.ownsRow_made (base := w.heap.size) (e := 30) (size := 3) w.drew cs G (Nat.le_refl _) hle hcs)
  have HB := hide ((Below.refl w.heap.size w).drew.alloc (Nat.le_refl _) (.cells cs 30))
  clear hcs hi hz0 hz1 hz2 hG
  unfold maxLen at hle
  have z0 : (0 : Int) < n := by omega
  go_enter Try.func50, Try.ntmps50
  go_wp2_with (at_builtin; refine Lib.wpList_append_run _ rfl _ _ _ _ rfl _ _ rfl rfl _ _ (hrz _) ?_)
  go_ret
  exact ⟨_, rfl, unhide HB, unhide O1⟩
/-- One of the lists that are put together. -/
structure Seg where
  g : Nat
  off : Nat
  cap : Nat
  ms : List R
def Seg.zero : Seg := ⟨0, 0, 0, []⟩
def cat (ss : List Seg) : List R := ss.flatMap Seg.ms
/-- The lists stand in block h, and read so. -/
def Segs (w : World) (h : Nat) (ss : List Seg) : Prop := ∀ i, i < ss.length → w.cell? ⟨h, i, none⟩ = some (.slice (some ⟨(ss.getD i Seg.zero).g, (ss.getD i Seg.zero).off, none⟩) (ss.getD i Seg.zero).ms.length (ss.getD i Seg.zero).cap) ∧ RM w (some ⟨(ss.getD i Seg.zero).g, (ss.getD i Seg.zero).off, none⟩) (ss.getD i Seg.zero).ms
theorem Segs.below {w w' : World} {h : Nat} {ss : List Seg} (hs : Segs w h ss) (hb : Below w.heap.size w w') : Segs w' h ss := fun i hi => by
  obtain ⟨h1, h2⟩ := hs i hi
  exact ⟨(hb.cell (p := ⟨h, i, none⟩) (World.block_lt_of_cell? _ _ h1)).trans h1, h2.below hb⟩
theorem cat_succ (ss : List Seg) (j : Nat) (h : j < ss.length) : cat (ss.take (j + 1)) = cat (ss.take j) ++ (ss.getD j Seg.zero).ms := by
  unfold cat
  rw [List.take_add_one, List.getElem?_eq_getElem h, List.flatMap_append, List.getD_eq_getElem?_getD, List.getElem?_eq_getElem h]; simp
theorem cat_le (ss : List Seg) (j : Nat) : (cat (ss.take j)).length ≤ (cat ss).length := by
  have e : cat ss = cat (ss.take j) ++ cat (ss.drop j) := by unfold cat; rw [← List.flatMap_append, List.take_append_drop]
  rw [e, List.length_append]; omega
theorem growA (n : Nat) (w : World) (hn : n ≤ 4096) : Calls Try.prog 50 #[.slice none 0 0, .int .i64 n] w fun e w' => ∃ v, e = .returned v ∧ Below w.heap.size w w' ∧ w'.ownsRow w.heap.size 30 3 v ([] : List R).length (flat []) := by
  by_cases h0 : n = 0
  · subst h0; exact grow0 w
  · exact growN n w (by omega) hn
set_option maxHeartbeats 4000000 in
theorem concat (h m : Nat) (ss : List Seg) (w : World) (hm : ss.length = m) (hm8 : m ≤ 8) (hs : Segs w h ss) (hl : (cat ss).length ≤ 4096) :
    Calls Try.prog 38 #[.slice (some ⟨h, 0, none⟩) m m] w fun e w' => ∃ v, e = .returned v ∧ Below w.heap.size w w' ∧ LstV w' v (cat ss) w.heap.size w'.heap.size := by
  have HS := hide hs
  have HM := hide hm
  have HL := hide hl
  clear hs hm hl
  go_enter Try.func38, Try.ntmps38
  go_wp2
  go_loopw [3, 11] (fun z i wr => w = wr ∧ ∃ j : Nat, j ≤ m ∧ i = .int .i64 j ∧ ∃ q : Nat, z = .int .i64 q ∧ Hid (q = (cat (ss.take j)).length)) (fun _ i _ => m - (intOf i).toNat)
  case atStart => exact ⟨rfl, 0, by omega, rfl, 0, rfl, hide (by simp [cat])⟩
  case round =>
    obtain ⟨rfl, j, hj, rfl, q, rfl, hq⟩ := hrel
    have hql : q ≤ 4096 := by rw [unhide hq]; exact Nat.le_trans (cat_le ss j) (unhide HL)
    by_cases hlt : (j : Int) < (m : Int)
    · have k0 : (0 : Int) ≤ (j : Int) := by omega
      have hlen : j < ss.length := by rw [unhide HM]; omega
      have hc := (unhide HS j hlen).1
      have hsn := cat_succ ss j hlen
      have hnl := Nat.le_trans (cat_le ss (j + 1)) (unhide HL)
      rw [hsn, List.length_append] at hnl
      have HQ : Hid (q + (ss.getD j Seg.zero).ms.length = (cat (ss.take (j + 1))).length) := hide (by rw [hsn, List.length_append, unhide hq])
      have hq2 : q + (ss.getD j Seg.zero).ms.length ≤ 4096 := by rw [unhide hq]; exact hnl
      clear hsn hnl
      generalize ss.getD j Seg.zero = s at *
      have hnn : ¬ ((q : Int) + (s.ms.length : Int) < 0) := by omega
      go_wp2_with fail
      go_roundw
      case rel => exact ⟨by first | trivial | rfl, j + 1, by omega, by go_num, q + s.ms.length, by go_num, HQ⟩
      case measure => simp [intOf]; omega
    · obtain rfl : j = m := by omega
      go_wp2_with fail
      refine (growA q _ hql).mono ?_
      rintro e w1 ⟨v1, rfl, b1, o1⟩
      have B1 := hide b1
      have O1 := hide o1
      clear b1 o1
      go_wp2_with fail
      go_loopw [6, 27] (fun v i w2 => ∃ t : Nat, t ≤ j ∧ i = .int .i64 t ∧ Hid (w2.ownsRow w.heap.size 30 3 v (cat (ss.take t)).length (flat (cat (ss.take t)))) ∧ Hid (Below w.heap.size w w2)) (fun _ i _ => j - (intOf i).toNat)
      case atStart => exact ⟨0, by omega, rfl, O1, B1⟩
      case round =>
        obtain ⟨t, ht, rfl, how, hbl⟩ := hrel
        by_cases hlt2 : (t : Int) < (j : Int)
        · have k0 : (0 : Int) ≤ (t : Int) := by omega
          have hlen : t < ss.length := by rw [unhide HM]; omega
          obtain ⟨hc, hrm⟩ := (unhide HS).below (unhide hbl) t hlen
          have HRM := hide hrm
          have HSN := hide (cat_succ ss t hlen)
          have hnl := Nat.le_trans (cat_le ss (t + 1)) (unhide HL)
          rw [unhide HSN, List.length_append] at hnl
          clear hrm
          have hbs := (unhide hbl).size
          generalize ss.getD t Seg.zero = s at *
          go_wp2_with (at_builtin; refine wpList_apS (unhide how) s.g s.off s.ms.length s.cap s.ms rfl (unhide HRM) (by omega) hbs rfl _ _ rfl rfl rfl ?_; intro v' w' ho hg; have HO : Hid (w'.ownsRow w.heap.size 30 3 v' (cat (ss.take (t + 1))).length (flat (cat (ss.take (t + 1))))) := hide (by rw [unhide HSN]; exact ho); have HB := hide (below_own (unhide hbl) (unhide how) hg (Nat.le_refl _) hbs); clear ho hg)
          go_roundw
          case rel => exact ⟨t + 1, by omega, by go_num, HO, HB⟩
          case measure => simp [intOf]; omega
        · obtain rfl : t = j := by omega
          have hl := lst_own rfl (unhide how)
          rw [List.take_of_length_le (by rw [unhide HM]; exact Nat.le_refl _)] at hl
          have HLL := hide hl
          clear hl
          go_wp2_with fail
          go_ret
          exact ⟨_, rfl, unhide hbl, unhide HLL⟩
end St
end Go.Proofs.Ytmelbilepfnmjaj
