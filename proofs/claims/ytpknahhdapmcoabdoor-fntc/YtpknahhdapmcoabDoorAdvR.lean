/-
  Contracts of the program's reader: what its methods take off the front of a text; they write nothing but the reader's own block.
-/
import Derived.Test.YtpknahhdapmcoabDoorAdvV
import Derived.Laws.NewBlocks
namespace Go.Proofs.YtpknahhdapmcoabDoor
open Go.ChangeShapes Go.WideShapes Go.ChangeAt Go.RowKit
set_option linter.unusedVariables false
set_option linter.unusedSimpArgs false
attribute [local go_sem ↓] Go.wp_at_zero Go.wp_at_succ
namespace Av
open W1 Ed De
/-- A reader in block p: its rest, and whether it is spoilt. -/
def RD (w : World) (p : Nat) (s : ByteArray) (sp : Bool) : Prop := w.heap[p]? = some (.cells #[.string s, .bool sp] 85 (0, 0))
/-- A reader in block p over the bytes bs, i of which were asked for. -/
def Rd (w : World) (p : Nat) (bs : List UInt8) (i : Nat) (sp : Bool) : Prop := ∃ s : ByteArray, s.data.toList = bs.drop i ∧ RD w p s sp
theorem RD.c0 {w : World} {p : Nat} {s : ByteArray} {sp : Bool} (h : RD w p s sp) : w.cell? ⟨p, 0, none⟩ = some (.string s) := by unfold RD at h; simp [World.cell?, h]
theorem RD.c1 {w : World} {p : Nat} {s : ByteArray} {sp : Bool} (h : RD w p s sp) : w.cell? ⟨p, 1, none⟩ = some (.bool sp) := by unfold RD at h; simp [World.cell?, h]
theorem RD.free {w : World} {p : Nat} {s : ByteArray} {sp : Bool} (h : RD w p s sp) (i : Nat) : w.frozen? ⟨p, i, none⟩ = false := by unfold RD at h; simp [World.frozen?, h]
theorem RD.lt {w : World} {p : Nat} {s : ByteArray} {sp : Bool} (h : RD w p s sp) : p < w.heap.size := lt_of_block h
theorem RD.set0 {w : World} {p : Nat} {s t : ByteArray} {sp : Bool} (h : RD w p s sp) : RD (w.setCell ⟨p, 0, none⟩ (.string t)) p t sp := heap_set (.string t) h
theorem RD.set1 {w : World} {p : Nat} {s : ByteArray} {sp b : Bool} (h : RD w p s sp) : RD (w.setCell ⟨p, 1, none⟩ (.bool b)) p s b := heap_set (.bool b) h
theorem RD.below {w w' : World} {p : Nat} {s : ByteArray} {sp : Bool} (h : RD w p s sp) (hb : Below w.heap.size w w') : RD w' p s sp := (hb.block p h.lt).trans h
theorem Rd.below {w w' : World} {p i : Nat} {bs : List UInt8} {sp : Bool} (h : Rd w p bs i sp) (hb : Below w.heap.size w w') : Rd w' p bs i sp := let ⟨s, h1, h2⟩ := h; ⟨s, h1, h2.below hb⟩
theorem Rd.lt {w : World} {p i : Nat} {bs : List UInt8} {sp : Bool} (h : Rd w p bs i sp) : p < w.heap.size := let ⟨_, _, h2⟩ := h; h2.lt
/-- w' is w but for block p, and what is new. -/
structure But (p : Nat) (w w' : World) : Prop where
  os : w'.os = w.os
  tape : w'.tape = w.tape
  output : w'.output = w.output
  size : w.heap.size ≤ w'.heap.size
  block : ∀ k, k < w.heap.size → k ≠ p → w'.heap[k]? = w.heap[k]?
theorem But.refl (p : Nat) (w : World) : But p w w := ⟨rfl, rfl, rfl, Nat.le_refl _, fun _ _ _ => rfl⟩
theorem But.trans {p : Nat} {a b c : World} (h : But p a b) (k : But p b c) : But p a c :=
  ⟨k.os.trans h.os, k.tape.trans h.tape, k.output.trans h.output, Nat.le_trans h.size k.size, fun i hi hp => (k.block i (Nat.lt_of_lt_of_le hi h.size) hp).trans (h.block i hi hp)⟩
theorem But.of_below {p : Nat} {w w' : World} (h : Below w.heap.size w w') : But p w w' := ⟨h.os, h.tape, h.output, h.size, fun k hk _ => h.block k hk⟩
theorem But.set {p : Nat} {w w' : World} (h : But p w w') (o : Nat) (v : Value) : But p w (w'.setCell ⟨p, o, none⟩ v) :=
  ⟨h.os, h.tape, h.output, by simpa [World.setCell] using h.size, fun k hk hp => (Below.heap_setCell _ _ _ _ hp).trans (h.block k hk hp)⟩
/-- The world ahead of block p is as it was. -/
theorem But.below {p B : Nat} {w w' : World} (h : But p w w') (hB : B ≤ p) (hs : B ≤ w.heap.size) : Below B w w' := ⟨h.os, h.tape, h.output, h.size, fun k hk => h.block k (by omega) (by omega)⟩
theorem fld_drop (bs : List UInt8) (i j : Nat) : fld (bs.drop i) j = fld bs (i + j) := by
  unfold fld; rw [List.getD_eq_getElem?_getD, List.getD_eq_getElem?_getD, List.getElem?_drop]
theorem fld_past {bs : List UInt8} {i : Nat} (h : bs.length ≤ i) : fld bs i = 0 := by
  unfold fld; rw [List.getD_eq_getElem?_getD, List.getElem?_eq_none h]; rfl
theorem two_past {bs : List UInt8} {i : Nat} (h : bs.length ≤ i) : two bs i = 0 := by
  unfold two; rw [fld_past h, fld_past (by omega)]; rfl
theorem extract_tail (s : ByteArray) : (s.extract 1 s.size).data.toList = s.data.toList.drop 1 := by
  rw [ByteArray.data_extract, Array.toList_extract]
  show List.take (s.size - 1) (s.data.toList.drop 1) = _
  apply List.take_of_length_le
  have : s.data.toList.length = s.size := by simp
  rw [List.length_drop]; omega
theorem spoil (p : Nat) (s : ByteArray) (sp : Bool) (w : World) (h : RD w p s sp) :
    Calls Tryd.prog 105 #[.pointer (some ⟨p, 0, none⟩)] w fun e w' => e = .returned (.int .i64 0) ∧ But p w w' ∧ RD w' p s true := by
  have c1 := h.c1
  have f1 := h.free 1
  have HH := hide h
  clear h
  go_enter Tryd.func105, Tryd.ntmps105
  go_wp2_with fail
  go_ret
  exact ⟨rfl, (But.refl _ _).set 1 _, (unhide HH).set1⟩
set_option maxHeartbeats 1000000 in
theorem one (p : Nat) (bs : List UInt8) (i : Nat) (sp : Bool) (w : World) (hm : bs.length ≤ 1048576) (h : Rd w p bs i sp) :
    Calls Tryd.prog 92 #[.pointer (some ⟨p, 0, none⟩)] w fun e w' => e = .returned (.int .i64 (fld bs i)) ∧ But p w w' ∧ Rd w' p bs (i + 1) (sp || decide (bs.length ≤ i)) := by
  obtain ⟨s, hs, hd⟩ := h
  have hsz : s.size = bs.length - i := by rw [← List.length_drop, ← hs]; simp
  have c0 := hd.c0
  have f0 := hd.free 0
  have HD := hide hd
  clear hd
  by_cases hl : bs.length ≤ i
  · rw [fld_past hl, decide_eq_true hl, Bool.or_true]
    have HN : Hid (s.data.toList = bs.drop (i + 1)) := hide (by rw [hs, List.drop_eq_nil_of_le hl, List.drop_eq_nil_of_le (by omega)])
    have hz : (s.size : Int) = 0 := by omega
    have hz' : ((s.size : Int) == 0) = true := by rw [hz]; rfl
    clear hz
    have hs0 : s.size = 0 := by omega
    clear hs hsz
    go_enter Tryd.func92, Tryd.ntmps92
    go_wp2_with fail
    refine (spoil p s sp _ (unhide HD)).mono ?_
    rintro e w1 ⟨rfl, b1, r1⟩
    have B1 := hide b1
    have R1 := hide r1
    clear b1 r1
    go_wp2_with fail
    go_ret
    exact ⟨rfl, unhide B1, s, unhide HN, unhide R1⟩
  · rw [decide_eq_false hl, Bool.or_false]
    have hx : ∀ W : World, (Instr.index 9 (.string s) (.int .i64 0)).run Tryd.prog W = .ok (.int .u8 (fld bs i)) W := fun W => by
      have h := idx_at W s 0 0 rfl (by omega)
      rw [hs, fld_drop, Nat.add_zero] at h; exact h
    obtain ⟨t, ht⟩ : ∃ t, s.extract 1 s.size = t := ⟨_, rfl⟩
    have HN : Hid (t.data.toList = bs.drop (i + 1)) := hide (by rw [← ht, extract_tail, hs, List.drop_drop])
    have hsl : ∀ W : World, (Instr.slice 9 (.string s) (some (.int .i64 1)) none none).run Tryd.prog W = .ok (.string t) W := fun W => by
      rw [run_slice_string_l (P := Tryd.prog) W 9 s Tryd.underlying9 .i64 1 (by omega) (by omega), ← ht]; rfl
    have wf := wrapF bs i
    have hz : ((s.size : Int) == 0) = false := beq_eq_false_iff_ne.2 (by omega)
    have hz2 : ¬ s.size = 0 := by omega
    clear hs hsz ht
    go_enter Tryd.func92, Tryd.ntmps92
    go_wp2_with fail
    go_ret
    exact ⟨rfl, (But.refl _ _).set 0 _, t, unhide HN, (unhide HD).set0⟩
end Av
end Go.Proofs.YtpknahhdapmcoabDoor
