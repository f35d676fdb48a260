/-
  The model's search of ways: l11Less; nine routes, nine marks in memory; the best that lies open.
-/
import Derived.Test.YtjhhhmdhdnmejaaHepG
import Derived.Test.YtjhhhmdhdnmejaaWysS
namespace Go.Proofs.Ytjhhhmdhdnmejaa
open Go.ChangeShapes Go.WideShapes Go.ChangeAt Go.RowKit
set_option linter.unusedVariables false
set_option linter.unusedSimpArgs false
set_option maxRecDepth 100000
attribute [local go_sem ↓] Go.wp_at_zero Go.wp_at_succ
namespace Wd
open W1 Ro Rw Tw
set_option maxHeartbeats 4000000 in
theorem l11Less (x y : R) (w : World) : Calls Try.prog 98 #[x.value, y.value] w fun e w' => e = .returned (.bool (btB x y)) ∧ Below w.heap.size w w' := by
  have HE : Hid (btB x y = (decide (x.co < y.co) || (x.co == y.co) && (decide (x.hp < y.hp) || (x.hp == y.hp) && decide (x.nx < y.nx)))) := hide rfl
  obtain ⟨xa, xn, xc, xh⟩ := x
  obtain ⟨ya, yn, yc, yh⟩ := y
  dsimp only at HE
  show Calls Try.prog 98 #[.agg #[.int .i64 xa, .int .i64 xn, .int .i64 xc, .int .i64 xh], .agg #[.int .i64 ya, .int .i64 yn, .int .i64 yc, .int .i64 yh]] w _
  have HB : Hid (∀ o1 o2 : Obj, Below w.heap.size w ((w.alloc o1).alloc o2)) := hide (fun o1 o2 => ((Below.refl _ _).alloc (Nat.le_refl _) _).alloc (by simp) _)
  by_cases h1 : xc = yc
  · have n1 : (xc != yc) = false := by simpa using h1
    by_cases h2 : xh = yh
    · have n2 : (xh != yh) = false := by simpa using h2
      have HF : Hid (btB ⟨xa, xn, xc, xh⟩ ⟨ya, yn, yc, yh⟩ = decide (xn < yn)) := hide (by rw [unhide HE, h1, h2]; simp)
      clear h1 h2
      by_cases h3 : xn < yn
      · have HG : Hid (btB ⟨xa, xn, xc, xh⟩ ⟨ya, yn, yc, yh⟩ = true) := hide (by rw [unhide HF]; exact decide_eq_true h3)
        go_enter Try.func98, Try.ntmps98
        go_wp2_with fail
        go_ret
        exact ⟨ret_bool (unhide HG).symm, unhide HB _ _⟩
      · have HG : Hid (btB ⟨xa, xn, xc, xh⟩ ⟨ya, yn, yc, yh⟩ = false) := hide (by rw [unhide HF]; exact decide_eq_false h3)
        go_enter Try.func98, Try.ntmps98
        go_wp2_with fail
        go_ret
        exact ⟨ret_bool (unhide HG).symm, unhide HB _ _⟩
    · have n2 : (xh != yh) = true := by simpa using h2
      have HF : Hid (btB ⟨xa, xn, xc, xh⟩ ⟨ya, yn, yc, yh⟩ = decide (xh < yh)) := hide (by rw [unhide HE, h1, show (xh == yh) = false by simpa using h2]; simp)
      clear h1 h2
      by_cases h3 : xh < yh
      · have HG : Hid (btB ⟨xa, xn, xc, xh⟩ ⟨ya, yn, yc, yh⟩ = true) := hide (by rw [unhide HF]; exact decide_eq_true h3)
        go_enter Try.func98, Try.ntmps98
        go_wp2_with fail
        go_ret
        exact ⟨ret_bool (unhide HG).symm, unhide HB _ _⟩
      · have HG : Hid (btB ⟨xa, xn, xc, xh⟩ ⟨ya, yn, yc, yh⟩ = false) := hide (by rw [unhide HF]; exact decide_eq_false h3)
        go_enter Try.func98, Try.ntmps98
        go_wp2_with fail
        go_ret
        exact ⟨ret_bool (unhide HG).symm, unhide HB _ _⟩
  · have n1 : (xc != yc) = true := by simpa using h1
    have HF : Hid (btB ⟨xa, xn, xc, xh⟩ ⟨ya, yn, yc, yh⟩ = decide (xc < yc)) := hide (by rw [unhide HE, show (xc == yc) = false by simpa using h1]; simp)
    clear h1
    by_cases h3 : xc < yc
    · have HG : Hid (btB ⟨xa, xn, xc, xh⟩ ⟨ya, yn, yc, yh⟩ = true) := hide (by rw [unhide HF]; exact decide_eq_true h3)
      go_enter Try.func98, Try.ntmps98
      go_wp2_with fail
      go_ret
      exact ⟨ret_bool (unhide HG).symm, unhide HB _ _⟩
    · have HG : Hid (btB ⟨xa, xn, xc, xh⟩ ⟨ya, yn, yc, yh⟩ = false) := hide (by rw [unhide HF]; exact decide_eq_false h3)
      go_enter Try.func98, Try.ntmps98
      go_wp2_with fail
      go_ret
      exact ⟨ret_bool (unhide HG).symm, unhide HB _ _⟩
/-- Routes, marks in a block of their own that may be written. -/
def BV (w : World) (b : Nat) (bs : List R) : Prop := w.heap[b]? = some (.cells (flat bs).toArray 62 (0, 0))
theorem BV.lt {w : World} {b : Nat} {bs : List R} (h : BV w b bs) : b < w.heap.size := lt_block h
theorem BV.cell {w : World} {b : Nat} {bs : List R} (h : BV w b bs) (j : Nat) : w.cell? ⟨b, j, none⟩ = (flat bs)[j]? := by unfold BV at h; simp [World.cell?, h]
theorem BV.free {w : World} {b : Nat} {bs : List R} (h : BV w b bs) (i : Nat) : w.frozen? ⟨b, i, none⟩ = false := by unfold BV at h; simp [World.frozen?, h]
theorem BV.at {w : World} {b : Nat} {bs : List R} (h : BV w b bs) {i : Nat} (hi : i < bs.length) : At w b (i * 4) (at' bs i) := by
  have h0 := flat_get bs i 0 (by omega) hi
  have h1 := flat_get bs i 1 (by omega) hi
  have h2 := flat_get bs i 2 (by omega) hi
  have h3 := flat_get bs i 3 (by omega) hi
  exact ⟨(h.cell _).trans h0, (h.cell _).trans h1, (h.cell _).trans h2, (h.cell _).trans h3⟩
theorem BV.below {w w' : World} {b : Nat} {bs : List R} (h : BV w b bs) (hb : Below w.heap.size w w') : BV w' b bs := (hb.block b h.lt).trans h
theorem BV.put {w : World} {b : Nat} {bs : List R} (h : BV w b bs) {i : Nat} (hi : i < bs.length) (m : R) : BV (put w b (i * 4) m) b (bs.set i m) := by
  have h' := heap_set (i := i * 4 + 3) (.int .i64 m.hp) (heap_set (i := i * 4 + 2) (.int .i64 m.co) (heap_set (i := i * 4 + 1) (.int .i64 m.nx) (heap_set (i := i * 4) (.int .i64 m.ds) h)))
  simp only [List.setIfInBounds_toArray] at h'
  unfold BV
  rw [flat_set bs i m hi]
  exact h'
theorem flat_co : ∀ (hs : List R) (i : Nat) (c : Int), i < hs.length → flat (hs.set i ⟨(at' hs i).ds, (at' hs i).nx, c, (at' hs i).hp⟩) = (flat hs).set (i * 4 + 2) (.int .i64 c)
  | [], i, c, h => by simp at h
  | x :: t, 0, c, _ => rfl
  | x :: t, i + 1, c, h => by
    have ih := flat_co t i c (by simpa using h)
    have e : flat (x :: t) = .int .i64 x.ds :: .int .i64 x.nx :: .int .i64 x.co :: .int .i64 x.hp :: flat t := rfl
    have ea : at' (x :: t) (i + 1) = at' t i := rfl
    have e' : ∀ m, flat ((x :: t).set (i + 1) m) = .int .i64 x.ds :: .int .i64 x.nx :: .int .i64 x.co :: .int .i64 x.hp :: flat (t.set i m) := fun m => rfl
    rw [ea, e', e, ih, show (i + 1) * 4 + 2 = (i * 4 + 2) + 1 + 1 + 1 + 1 by omega]
    simp only [List.set_cons_succ]
theorem BV.co {w : World} {b : Nat} {bs : List R} (h : BV w b bs) {i : Nat} (hi : i < bs.length) (c : Int) : BV (w.setCell ⟨b, i * 4 + 2, none⟩ (.int .i64 c)) b (bs.set i ⟨(at' bs i).ds, (at' bs i).nx, c, (at' bs i).hp⟩) := by
  have h' := heap_set (i := i * 4 + 2) (.int .i64 c) h
  simp only [List.setIfInBounds_toArray] at h'
  unfold BV
  rw [flat_co bs i c hi]
  exact h'
def DV (w : World) (b : Nat) (ds : List Bool) : Prop := w.heap[b]? = some (.cells (ds.map Value.bool).toArray 4 (0, 0))
theorem DV.lt {w : World} {b : Nat} {ds : List Bool} (h : DV w b ds) : b < w.heap.size := lt_block h
theorem DV.at {w : World} {b : Nat} {ds : List Bool} (h : DV w b ds) {i : Nat} (hi : i < ds.length) : w.cell? ⟨b, i, none⟩ = some (.bool (dn ds i)) := by
  unfold DV at h
  have : w.cell? ⟨b, i, none⟩ = (ds.map Value.bool)[i]? := by simp [World.cell?, h]
  rw [this, List.getElem?_map, List.getElem?_eq_getElem hi]
  unfold dn
  rw [List.getD_eq_getElem?_getD, List.getElem?_eq_getElem hi]; rfl
theorem DV.free {w : World} {b : Nat} {ds : List Bool} (h : DV w b ds) (i : Nat) : w.frozen? ⟨b, i, none⟩ = false := by unfold DV at h; simp [World.frozen?, h]
theorem DV.below {w w' : World} {b : Nat} {ds : List Bool} (h : DV w b ds) (hb : Below w.heap.size w w') : DV w' b ds := (hb.block b h.lt).trans h
theorem DV.set {w : World} {b : Nat} {ds : List Bool} (h : DV w b ds) (i : Nat) (x : Bool) : DV (w.setCell ⟨b, i, none⟩ (.bool x)) b (ds.set i x) := by
  have h' := heap_set (i := i) (.bool x) h
  simp only [List.setIfInBounds_toArray] at h'
  unfold DV
  rw [List.map_set]
  exact h'
theorem bsF_set {q : Nat} (h : q < 9) : (bs9 9).set q ⟨(at' (bs9 9) q).ds, (at' (bs9 9) q).nx, 0, (at' (bs9 9) q).hp⟩ = bsF q := by
  unfold bsF; rw [bs9_at h, if_pos h]; rfl
theorem makeB (w : World) : (Instr.makeSlice 57 (.int .i64 9) (.int .i64 9)).run Try.prog w = .ok (.slice (some ⟨w.heap.size, 0, none⟩) 9 9) (w.alloc (.cells (flat (bs9 0)).toArray 62)) := by
  obtain ⟨i0, hi, hz0, hz1, hz2⟩ := infoR
  have hmk := run_make (P := Try.prog) w 57 62 i0 _ Try.underlying57 hi hz0 .i64 .i64 9 9 (by omega) (by omega) (by rw [hz2]; omega) (by omega)
  rw [hz1] at hmk
  have e : madeCells (Value.agg #[.int .i64 0, .int .i64 0, .int .i64 0, .int .i64 0]).cells (Int.toNat 9 * 4) = (flat (bs9 0)).toArray := by kernel_rfl
  rw [e] at hmk
  exact hmk
theorem infoB : ∃ i, Try.prog.info? 4 = some i ∧ i.zero = some (.bool false) ∧ i.size = 1 ∧ i.bytes = 1 := by
  have h : (Try.prog.info? 4).map (fun i => (i.zero, i.size, i.bytes)) = some (some (.bool false), 1, 1) := by kernel_rfl
  obtain ⟨i, hi, he⟩ := Option.map_eq_some_iff.1 h
  simp only [Prod.mk.injEq] at he
  exact ⟨i, hi, he.1, he.2.1, he.2.2⟩
theorem makeD (w : World) : (Instr.makeSlice 133 (.int .i64 9) (.int .i64 9)).run Try.prog w = .ok (.slice (some ⟨w.heap.size, 0, none⟩) 9 9) (w.alloc (.cells (fs9.map Value.bool).toArray 4)) := by
  obtain ⟨i0, hi, hz0, hz1, hz2⟩ := infoB
  have hmk := run_make (P := Try.prog) w 133 4 i0 _ Try.underlying133 hi hz0 .i64 .i64 9 9 (by omega) (by omega) (by rw [hz2]; omega) (by omega)
  rw [hz1] at hmk
  have e : madeCells (Value.bool false).cells (Int.toNat 9 * 1) = (fs9.map Value.bool).toArray := by kernel_rfl
  rw [e] at hmk
  exact hmk
end Wd
end Go.Proofs.Ytjhhhmdhdnmejaa
