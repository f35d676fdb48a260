/-
  Contracts: a drawn tuple, a drawn set: right ones, whatever the source has.
-/
import Derived.Test.YtlcppgnnlgigmaaSrc
import Derived.Test.YtlcppgnnlgigmaaSetY
import Derived.Test.YtlcppgnnlgigmaaSetL
namespace Go.Proofs.Ytlcppgnnlgigmaa
open Go.ChangeShapes Go.WideShapes Go.ChangeAt Go.RowKit
set_option linter.unusedVariables false
set_option linter.unusedSimpArgs false
attribute [local go_sem ↓] Go.wp_at_zero Go.wp_at_succ
namespace Sr
open W1 By Tu St
theorem but_refl (w : World) (p : Nat) : w.grownBy w (some p) := ⟨rfl, rfl, rfl, Nat.le_refl _, fun _ _ _ => rfl⟩
theorem but_trans {w w1 w2 : World} {p : Nat} (h : w.grownBy w1 (some p)) (h' : w1.grownBy w2 (some p)) : w.grownBy w2 (some p) :=
  ⟨h'.os.trans h.os, h'.tape.trans h.tape, h'.output.trans h.output, Nat.le_trans h.size h'.size, fun k hk hne => (h'.block k (Nat.lt_of_lt_of_le hk h.size) hne).trans (h.block k hk hne)⟩
theorem but_wrote {w w' : World} {p : Nat} (h : Wrote w w' p) : w.grownBy w' (some p) := ⟨h.os, h.tape, h.output, Nat.le_of_eq h.size.symm, fun k _ hne => h.block k (fun e => hne (by rw [e]))⟩
theorem but_below {w w' : World} {p : Nat} (h : Below w.heap.size w w') : w.grownBy w' (some p) := ⟨h.os, h.tape, h.output, h.size, fun k hk _ => h.block k hk⟩
theorem Src.lt {w : World} {p : Nat} {a : Option Addr} {bs : List UInt8} {cap n : Nat} (h : Src w p a bs cap n) : p < w.heap.size := World.block_lt_of_cell? _ _ h.code
theorem Src.below {w w' : World} {p : Nat} {a : Option Addr} {bs : List UInt8} {cap n : Nat} (h : Src w p a bs cap n) (hb : Below w.heap.size w w') : Src w' p a bs cap n := by
  have hp := h.lt
  obtain ⟨i, s, i0, i1, s0, s1, c1, c2⟩ := h.at_
  exact ⟨⟨i, s, i0, i1, s0, s1, (hb.cell (p := ⟨p, 1, none⟩) hp).trans c1, (hb.cell (p := ⟨p, 2, none⟩) hp).trans c2⟩, (hb.cell (p := ⟨p, 0, none⟩) hp).trans h.code, fun o => (hb.frozen (p := ⟨p, o, none⟩) hp).trans (h.fz o),
    reads_of_cells h.rd (fun e0 g off o e => hb.cell (p := ⟨g, o, none⟩) (reads_lt h.rd e0 e)), h.ne⟩
theorem Src.blocks {w w' : World} {p : Nat} {a : Option Addr} {bs : List UInt8} {cap n : Nat} (h : Src w p a bs cap n) (hp : w'.heap[p]? = w.heap[p]?) (hg : bs ≠ [] → ∀ g off, a = some ⟨g, off, none⟩ → w'.heap[g]? = w.heap[g]?) : Src w' p a bs cap n := by
  obtain ⟨i, s, i0, i1, s0, s1, c1, c2⟩ := h.at_
  exact ⟨⟨i, s, i0, i1, s0, s1, (World.cell?_of_block (a := ⟨p, 1, none⟩) hp).trans c1, (World.cell?_of_block (a := ⟨p, 2, none⟩) hp).trans c2⟩, (World.cell?_of_block (a := ⟨p, 0, none⟩) hp).trans h.code, fun o => (World.frozen?_of_block (a := ⟨p, o, none⟩) hp).trans (h.fz o),
    reads_of_cells h.rd (fun e0 g off o e => World.cell?_of_block (a := ⟨g, o, none⟩) (hg e0 g off e)), h.ne⟩
theorem set3_far (w : World) (b k : Nat) (x y z : Value) (h : b ≠ k) : (((w.setCell ⟨b, 0, none⟩ x).setCell ⟨b, 1, none⟩ y).setCell ⟨b, 2, none⟩ z).heap[k]? = w.heap[k]? := by
  simp only [World.setCell, Array.getElem?_modify]
  simp [h]
theorem bx_wrote {w w' : World} {p b : Nat} {m : R} (h : Bx w b m) (hw : Wrote w w' p) (hne : b ≠ p) : Bx w' b m := ⟨(hw.cell hne _).trans h.1, (hw.cell hne _).trans h.2.1, (hw.cell hne _).trans h.2.2⟩
/-- A value that is a list of tuples in new memory. -/
def IsSet (W : World) (v : Value) (ms : List R) (lo : Nat) : Prop := ∃ g c, v = .slice (some ⟨g, 0, none⟩) ms.length c ∧ lo ≤ g ∧ g < W.heap.size ∧ RM W (some ⟨g, 0, none⟩) ms
set_option maxRecDepth 100000 in
set_option maxHeartbeats 2000000 in
theorem sameSet (a b : Option Addr) (ms : List R) (ca cb : Nat) (w : World) (hm : ms.length ≤ 1048576) (hr : RM w a ms) (hr' : RM w b ms) :
    Calls Try.prog 24 #[.slice a ms.length ca, .slice b ms.length cb] w fun e w' => e = .returned (.bool true) ∧ Below w.heap.size w w' := by
  have HR := hide hr
  have HR' := hide hr'
  clear hr hr'
  generalize hN : ms.length = n at *
  have HN := hide hN
  clear hN
  go_enter Try.func24, Try.ntmps24
  go_wp2
  go_loopw [5] (fun i wr => ∃ j : Nat, j ≤ n ∧ i = .int .i64 j ∧ Hid (Below w.heap.size w wr)) (fun i _ => n - (intOf i).toNat)
  case atStart => exact ⟨0, by omega, rfl, hide (Below.refl _ _)⟩
  case round =>
    obtain ⟨j, hj, rfl, hbl⟩ := hrel
    by_cases hlt : (j : Int) < (n : Int)
    · have k0 : (0 : Int) ≤ (j : Int) := by omega
      have hlen : j < ms.length := by rw [unhide HN]; omega
      obtain ⟨g, off, rfl⟩ := (unhide HR).form (by omega)
      obtain ⟨g', off', rfl⟩ := (unhide HR').form (by omega)
      obtain ⟨c0, c1, c2⟩ := ((unhide HR).below (unhide hbl)).at hlen
      obtain ⟨d0, d1, d2⟩ := ((unhide HR').below (unhide hbl)).at hlen
      generalize ms.getD j R.zero = m at *
      obtain ⟨key, til, val⟩ := m
      dsimp only at c0 c1 c2 d0 d1 d2
      go_wp2_with fail
      go_region_held3 (fun w' => w'.cell? ⟨g, off + j * 3, none⟩ = some (.int .i64 key) ∧ w'.cell? ⟨g, off + j * 3 + 1, none⟩ = some (.int .i64 til) ∧ w'.cell? ⟨g, off + j * 3 + 2, none⟩ = some (.int .i64 val) ∧ w'.cell? ⟨g', off' + j * 3, none⟩ = some (.int .i64 key) ∧ w'.cell? ⟨g', off' + j * 3 + 1, none⟩ = some (.int .i64 til) ∧ w'.cell? ⟨g', off' + j * 3 + 2, none⟩ = some (.int .i64 val)) (exact ⟨c0, c1, c2, d0, d1, d2⟩) (fail)
      have hb1 := hide ((unhide hbl).drew)
      go_wp2_with fail
      go_roundw
      case rel => exact ⟨j + 1, by omega, by go_num, hb1⟩
      case measure => simp [intOf]; omega
    · go_wp2
      go_ret
      exact ⟨rfl, unhide hbl⟩
end Sr
end Go.Proofs.Ytlcppgnnlgigmaa
