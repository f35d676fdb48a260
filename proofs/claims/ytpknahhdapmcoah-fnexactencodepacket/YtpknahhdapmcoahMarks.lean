/-
  Contracts of the laws' marks on lists of messages: markText, markMessageS.
-/
import Derived.Test.YtpknahhdapmcoahMsgs
import Derived.Laws.BytesArg
namespace Go.Proofs.Ytpknahhdapmcoah
open Go.ChangeShapes Go.WideShapes Go.ChangeAt Go.RowKit
set_option linter.unusedVariables false
set_option linter.unusedSimpArgs false
namespace Mk
open W1 Ml
def fin : Nat → Int → List UInt8 → List UInt8
  | 0, _, s => s
  | f + 1, k, s => if k ≤ 0 then s else fin f (k / 10) (UInt8.ofNat (48 + k % 10).toNat :: s)
/-- The text of a mark. -/
def mkT (k : Int) : ByteArray := ⟨(109 :: fin k.toNat k []).toArray⟩
theorem fin_done (f : Nat) (k : Int) (s : List UInt8) (h : k ≤ 0) : fin f k s = s := by
  cases f with
  | zero => rfl
  | succ f => unfold fin; rw [if_pos h]
theorem fin_step (f : Nat) (k : Int) (s : List UInt8) (h : 0 < k) (hf : k ≤ f) : ∃ f', fin f k s = fin f' (k / 10) (UInt8.ofNat (48 + k % 10).toNat :: s) ∧ k / 10 ≤ f' := by
  cases f with
  | zero => omega
  | succ f => exact ⟨f, by conv => lhs; unfold fin
                           rw [if_neg (by omega)], by omega⟩
theorem mk_append (b : UInt8) (s : List UInt8) : (strOfNums [((b.toNat : Nat) : Int)] ++ ⟨s.toArray⟩ : ByteArray) = ⟨(b :: s).toArray⟩ := by
  apply ByteArray.ext
  apply Array.ext'
  simp [strOfNums, ByteArray.data_append]
theorem strOf_one (n : Int) (s : List UInt8) : (strOfNums [n] ++ ⟨s.toArray⟩ : ByteArray) = ⟨(UInt8.ofNat n.toNat :: s).toArray⟩ := by
  apply ByteArray.ext
  apply Array.ext'
  simp [strOfNums, ByteArray.data_append]
theorem m_append (s : List UInt8) : (⟨#[109]⟩ ++ ⟨s.toArray⟩ : ByteArray) = ⟨(109 :: s).toArray⟩ := by
  apply ByteArray.ext
  apply Array.ext'
  simp [ByteArray.data_append]

theorem one_at (w : World) (z : Int) : ∀ i, i < 1 → (w.alloc (.cells #[.int .u8 z] 5)).cell? ⟨w.heap.size, 0 + i, none⟩ = some (.int .u8 ([z].getD i 0)) := by
  intro i hi
  obtain rfl : i = 0 := by omega
  simp
set_option maxHeartbeats 1000000 in
theorem markText (k : Int) (h0 : 0 < k) (h1 : k ≤ 1073741824) (w : World) :
    Calls Try.prog 38 #[.int .i64 k] w fun e w' => e = .returned (.string (mkT k)) ∧ Below w.heap.size w w' := by
  go_enter Try.func38, Try.ntmps38
  go_wp2
  go_loopw [0, 3] (fun q v wr => ∃ (k' : Int) (f : Nat) (s : List UInt8), q = .int .i64 k' ∧ v = .string ⟨s.toArray⟩ ∧ 0 ≤ k' ∧ (s.length : Int) + k' ≤ 1073741824 ∧ k' ≤ f ∧ Hid (fin k.toNat k [] = fin f k' s) ∧ Hid (Below w.heap.size w wr)) (fun q _ _ => (intOf q).toNat)
  case atStart => exact ⟨k, k.toNat, [], rfl, rfl, by omega, by simp; omega, by omega, hide rfl, hide (Below.refl _ _)⟩
  case round =>
    obtain ⟨k', f, s, rfl, rfl, k0, kl, kf, hfn, hbl⟩ := hrel
    by_cases hp : 0 < k'
    · obtain ⟨f', e1, e2⟩ := fin_step f k' s hp kf
      have E1 := hide ((unhide hfn).trans e1)
      clear e1
      have hconv := run_convert_bytes_arg (P := Try.prog) (wr.alloc (.cells #[.int .u8 (48 + k' % 10)] 5)) 22 5 Try.underlying22 Try.underlying5 wr.heap.size 0 1 1 [48 + k' % 10] rfl (one_at wr _) 9 Try.underlying9
      have hsz : (strOfNums [48 + k' % 10]).size = 1 := strOfNums_size _
      have hsl : ¬ (9223372036854775807 < 1 + s.length) := by omega
      have hap := strOf_one (48 + k' % 10) s
      go_wp2_with fail
      exact ⟨⟨k' / 10, f', _, rfl, rfl, by omega, by simp; omega, e2, E1, hide ((unhide hbl).alloc (unhide hbl).size _)⟩, by simp [intOf]; omega⟩
    · obtain rfl : k' = 0 := by omega
      have hsl : ¬ (9223372036854775807 < 1 + s.length) := by omega
      have hap := m_append s
      go_wp2_with fail
      go_ret
      exact ⟨by unfold mkT; rw [unhide hfn, fin_done _ _ _ (by omega)]; rfl, unhide hbl⟩

theorem Upto.of_block {w w' : World} {g n j : Nat} {ms : List M} (h : Upto w g n j ms) (hb : w'.heap[g]? = w.heap[g]?) : Upto w' g n j ms := by
  have c : ∀ q, w'.cell? ⟨g, q, none⟩ = w.cell? ⟨g, q, none⟩ := fun q => World.cell?_of_block (a := ⟨g, q, none⟩) hb
  have f : ∀ q, w'.frozen? ⟨g, q, none⟩ = w.frozen? ⟨g, q, none⟩ := fun q => World.frozen?_of_block (a := ⟨g, q, none⟩) hb
  refine ⟨fun i hi => ?_, fun i hi => ⟨by rw [c]; exact (h.2 i hi).1, by rw [f]; exact (h.2 i hi).2⟩⟩
  obtain ⟨h0, h1, h2, h3, h4, h5⟩ := h.1 i hi
  exact ⟨(c _).trans h0, (c _).trans h1, (c _).trans h2, (c _).trans h3, (c _).trans h4, (c _).trans h5⟩
theorem heap_set {w w' : World} {a : Addr} {v : Value} {k : Nat} (h : w'.heap[k]? = w.heap[k]?) : (w'.setCell a v).heap[k]? = (w.setCell a v).heap[k]? := by
  simp only [World.setCell, Array.getElem?_modify, h]
def put5 (w : World) (g o : Nat) (m : M) : World :=
  ((((w.setCell ⟨g, o, none⟩ (.int .i64 m.ty)).setCell ⟨g, o + 1, none⟩ (.int .i64 m.og)).setCell ⟨g, o + 2, none⟩ (.int .i64 m.sq)).setCell ⟨g, o + 3, none⟩ (.int .i64 m.hl)).setCell ⟨g, o + 4, none⟩ (.int .i64 m.hp)
theorem step6 {w w6 : World} {g n j : Nat} {ms : List M} {m : M} (hm : ms.getD j M.zero = m) (hU : Upto w g n j ms) (hg : g < w.heap.size) (hj : j < n) (h6 : Below (put5 w g (j * 6) m).heap.size (put5 w g (j * 6) m) w6) :
    Upto (w6.setCell ⟨g, j * 6 + 5, none⟩ (.string m.body)) g n (j + 1) ms := by
  have hs := hU.step hj
  rw [hm] at hs
  refine Upto.of_block hs ?_
  show (w6.setCell ⟨g, j * 6 + 5, none⟩ (.string m.body)).heap[g]? = ((put5 w g (j * 6) m).setCell ⟨g, j * 6 + 5, none⟩ (.string m.body)).heap[g]?
  exact heap_set (h6.block g (by simp [put5, World.setCell]; exact hg))
theorem put5_six (w : World) (g o : Nat) (m : M) : (put5 w g o m).cell? ⟨g, o + 5, none⟩ = w.cell? ⟨g, o + 5, none⟩ := by
  have n : ∀ {w : World} {v : Value} {a b : Nat}, a ≠ b → (w.setCell ⟨g, a, none⟩ v).cell? ⟨g, b, none⟩ = w.cell? ⟨g, b, none⟩ := fun {w v a b} e => World.cell?_setCell_other _ _ _ _ (by intro h; cases h; exact e rfl)
  unfold put5
  rw [n (by omega), n (by omega), n (by omega), n (by omega), n (by omega)]
theorem put5_fro (w : World) (g o : Nat) (m : M) (a : Addr) : (put5 w g o m).frozen? a = w.frozen? a := by
  unfold put5; rw [World.frozen?_setCell, World.frozen?_setCell, World.frozen?_setCell, World.frozen?_setCell, World.frozen?_setCell]
theorem put5_size (w : World) (g o : Nat) (m : M) : (put5 w g o m).heap.size = w.heap.size := by simp [put5, World.setCell]
theorem grown_set {w w1 : World} {g o : Nat} {v : Value} (h : w.grownBy w1 (some g)) : w.grownBy (w1.setCell ⟨g, o, none⟩ v) (some g) :=
  ⟨h.os, h.tape, h.output, by have := h.size; simp [World.setCell]; exact this, fun k hk hne => (Below.heap_setCell _ _ _ _ (fun e => hne (by rw [e]))).trans (h.block k hk hne)⟩
theorem grown_below {w w1 w2 : World} {r : Option Nat} (h : w.grownBy w1 r) (hb : Below w1.heap.size w1 w2) : w.grownBy w2 r :=
  ⟨hb.os.trans h.os, hb.tape.trans h.tape, hb.output.trans h.output, Nat.le_trans h.size hb.size, fun k hk hne => (hb.block k (Nat.lt_of_lt_of_le hk h.size)).trans (h.block k hk hne)⟩
theorem grown_put5 {w w1 : World} {g o : Nat} {m : M} (h : w.grownBy w1 (some g)) : w.grownBy (put5 w1 g o m) (some g) := grown_set (grown_set (grown_set (grown_set (grown_set h))))
/-- The messages of marks from k on. -/
def markM (k : Int) : M := ⟨k, k + 1, k + 1 + 1, k + 1 + 1 + 1, k + 1 + 1 + 1 + 1, mkT (k + 1 + 1 + 1 + 1 + 1)⟩
def marks (n : Nat) : List M := (List.range n).map fun t : Nat => markM (1 + 6 * (t : Int))
theorem marks_at (n t : Nat) (h : t < n) : (marks n).getD t M.zero = markM (1 + 6 * (t : Int)) := by
  unfold marks
  rw [List.getD_eq_getElem?_getD, List.getElem?_map, List.getElem?_range h]; rfl

set_option maxHeartbeats 4000000 in
theorem markS (g n c : Nat) (ms : List M) (w : World) (hn : n ≤ 1048576) (hg : g < w.heap.size) (hU : Upto w g n n ms) :
    Calls Try.prog 20 #[.slice (some ⟨g, 0, none⟩) n c, .int .i64 1] w fun e w' => e = .returned (.int .i64 (1 + 6 * (n : Int))) ∧ w.grownBy w' (some g) ∧ Upto w' g n n (marks n) := by
  have hU0 : Hid (Upto w g n 0 (marks n)) := hide ⟨fun i hi => by omega, hU.2⟩
  clear hU
  go_enter Try.func20, Try.ntmps20
  go_wp2
  go_loopw [1, 5] (fun q i wr => ∃ j : Nat, j ≤ n ∧ i = .int .i64 j ∧ q = .int .i64 (1 + 6 * (j : Int)) ∧ Hid (w.grownBy wr (some g)) ∧ Hid (Upto wr g n j (marks n))) (fun _ i _ => n - (intOf i).toNat)
  case atStart => exact ⟨0, by omega, rfl, rfl, hide ⟨rfl, rfl, rfl, Nat.le_refl _, fun _ _ _ => rfl⟩, hU0⟩
  case round =>
    obtain ⟨j, hj, rfl, rfl, hgr, hu⟩ := hrel
    by_cases hlt : (j : Int) < (n : Int)
    · have k0 : (0 : Int) ≤ (j : Int) := by omega
      have hgw : g < wr.heap.size := Nat.lt_of_lt_of_le hg (unhide hgr).size
      obtain ⟨v0, x0⟩ := Option.isSome_iff_exists.1 ((unhide hu).2 (j * 6) (by omega)).1
      obtain ⟨v1, x1⟩ := Option.isSome_iff_exists.1 ((unhide hu).2 (j * 6 + 1) (by omega)).1
      obtain ⟨v2, x2⟩ := Option.isSome_iff_exists.1 ((unhide hu).2 (j * 6 + 2) (by omega)).1
      obtain ⟨v3, x3⟩ := Option.isSome_iff_exists.1 ((unhide hu).2 (j * 6 + 3) (by omega)).1
      obtain ⟨v4, x4⟩ := Option.isSome_iff_exists.1 ((unhide hu).2 (j * 6 + 4) (by omega)).1
      have y0 := ((unhide hu).2 (j * 6) (by omega)).2
      have y1 := ((unhide hu).2 (j * 6 + 1) (by omega)).2
      have y2 := ((unhide hu).2 (j * 6 + 2) (by omega)).2
      have y3 := ((unhide hu).2 (j * 6 + 3) (by omega)).2
      have y4 := ((unhide hu).2 (j * 6 + 4) (by omega)).2
      have x5 := ((unhide hu).2 (j * 6 + 5) (by omega))
      have HX := hide x5
      clear x5
      go_wp2_with fail
      refine (markText _ (by omega) (by omega) _).mono ?_
      rintro e w6 ⟨rfl, b6⟩
      have b6' : Below (put5 wr g (j * 6) (markM (1 + 6 * (j : Int)))).heap.size (put5 wr g (j * 6) (markM (1 + 6 * (j : Int)))) w6 := b6
      have hg5 : g < (put5 wr g (j * 6) (markM (1 + 6 * (j : Int)))).heap.size := by rw [put5_size]; exact hgw
      have hst := hide (step6 (marks_at n j (by omega)) (unhide hu) hgw (by omega) b6')
      have hgn := hide (grown_set (o := j * 6 + 5) (v := .string (mkT (1 + 6 * (j : Int) + 1 + 1 + 1 + 1 + 1))) (grown_below (grown_put5 (o := j * 6) (m := markM (1 + 6 * (j : Int))) (unhide hgr)) b6'))
      obtain ⟨v5, z5⟩ : ∃ v5, w6.cell? ⟨g, j * 6 + 5, none⟩ = some v5 := Option.isSome_iff_exists.1 (by rw [b6'.cell (p := ⟨g, j * 6 + 5, none⟩) hg5, put5_six]; exact (unhide HX).1)
      have f5 : w6.frozen? ⟨g, j * 6 + 5, none⟩ = false := by rw [b6'.frozen (p := ⟨g, j * 6 + 5, none⟩) hg5, put5_fro]; exact (unhide HX).2
      clear b6 b6' x0 x1 x2 x3 x4 y0 y1 y2 y3 y4
      go_wp2_with fail
      exact ⟨⟨j + 1, by omega, by go_num, by go_num, hgn, hst⟩, by simp [intOf]; omega⟩
    · obtain rfl : j = n := by omega
      go_wp2
      go_ret
      exact ⟨rfl, unhide hgr, unhide hu⟩
end Mk
end Go.Proofs.Ytpknahhdapmcoah
