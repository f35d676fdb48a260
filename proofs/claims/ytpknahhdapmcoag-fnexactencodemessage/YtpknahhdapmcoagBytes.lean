/-
  Contracts of the helpers of the laws that compare, mark and look through slices of bytes: for slices that read alike; for every slice that may be written.
-/
import Derived.Test.YtpknahhdapmcoagWire1
import Derived.Deep.QuietTactic
import Derived.BigQuiet
namespace Go.Proofs.Ytpknahhdapmcoag
open Go.ChangeShapes Go.WideShapes Go.ChangeAt Go.RowKit
set_option linter.unusedVariables false
namespace By
open W1
/-- The slice at a reads as these bytes in w. -/
def Reads (w : World) (a : Option Addr) (bs : List UInt8) : Prop :=
  bs = [] ∨ ∃ g off, a = some ⟨g, off, none⟩ ∧ ∀ i, i < bs.length → w.cell? ⟨g, off + i, none⟩ = some (.int .u8 (bs.getD i 0).toNat)

set_option maxHeartbeats 1000000 in
theorem eqSame (a b : Option Addr) (ca cb : Nat) (bs : List UInt8) (w : World) (ha : Reads w a bs) (hb : Reads w b bs) (hm : bs.length ≤ maxLen) :
    Calls Try.prog 14 #[.slice a bs.length ca, .slice b bs.length cb] w fun e w' => e = .returned (.bool true) ∧ ∃ n, w' = w.drewN n := by
  unfold maxLen at hm
  rcases ha with h0 | ⟨g, off, rfl, hga⟩
  · subst h0
    go_enter Try.func14, Try.ntmps14
    go_wp2
    go_loop [5] (fun i => i = .int .i64 0) (fun i => 0)
    case atStart => rfl
    case round =>
      subst hrel
      go_wp2
      go_ret
      exact ⟨rfl, 0, rfl⟩
  rcases hb with h0 | ⟨g', off', rfl, hgb⟩
  · subst h0
    go_enter Try.func14, Try.ntmps14
    go_wp2
    go_loop [5] (fun i => i = .int .i64 0) (fun i => 0)
    case atStart => rfl
    case round =>
      subst hrel
      go_wp2
      go_ret
      exact ⟨rfl, 0, rfl⟩
  have Hga := hide hga
  have Hgb := hide hgb
  clear hga hgb
  generalize hl : bs.length = n at *
  have HL := hide hl
  clear hl
  go_enter Try.func14, Try.ntmps14
  go_wp2
  go_loopw [5] (fun i wr => ∃ k : Nat, k ≤ n ∧ i = .int .i64 k ∧ ∃ q, wr = w.drewN q) (fun i _ => n - (intOf i).toNat)
  case atStart => exact ⟨0, by omega, rfl, 0, rfl⟩
  case round =>
    obtain ⟨k, hk, rfl, q, rfl⟩ := hrel
    by_cases hlt : (k : Int) < (n : Int)
    · have c1 := unhide Hga k (by omega)
      have c2 := unhide Hgb k (by omega)
      have k0 : (0 : Int) ≤ (k : Int) := by omega
      go_wp2
      go_quiet (fail)
      go_wp2
      go_roundw
      case rel => exact ⟨k + 1, by omega, by go_num, _, rfl⟩
      case measure => simp [intOf]; omega
    · go_wp2
      go_ret
      exact ⟨rfl, _, rfl⟩

/-- w' is w but for cells of block g. -/
structure Wrote (w w' : World) (g : Nat) : Prop where
  os : w'.os = w.os
  tape : w'.tape = w.tape
  output : w'.output = w.output
  size : w'.heap.size = w.heap.size
  block : ∀ k, k ≠ g → w'.heap[k]? = w.heap[k]?
  frozen : ∀ a, w'.frozen? a = w.frozen? a
theorem Wrote.refl (w : World) (g : Nat) : Wrote w w g := ⟨rfl, rfl, rfl, rfl, fun _ _ => rfl, fun _ => rfl⟩
theorem Wrote.set {w w' : World} {g : Nat} (h : Wrote w w' g) (o : Nat) (v : Value) : Wrote w (w'.setCell ⟨g, o, none⟩ v) g :=
  ⟨h.os, h.tape, h.output, by rw [← h.size]; simp [World.setCell], fun k hk => (Below.heap_setCell _ _ _ _ hk).trans (h.block k hk), fun a => by rw [World.frozen?_setCell]; exact h.frozen a⟩
theorem Wrote.drewN {w w' : World} {g : Nat} (h : Wrote w w' g) (n : Nat) : Wrote w (w'.drewN n) g := ⟨h.os, h.tape, h.output, h.size, h.block, h.frozen⟩
theorem Wrote.below {w w' : World} {g B : Nat} (h : Wrote w w' g) (hg : B ≤ g) : Below B w w' :=
  ⟨h.os, h.tape, h.output, by rw [h.size]; exact Nat.le_refl _, fun k hk => h.block k (by omega)⟩
theorem Wrote.cell {w w' : World} {g : Nat} (h : Wrote w w' g) {b : Nat} (hb : b ≠ g) (o : Nat) : w'.cell? ⟨b, o, none⟩ = w.cell? ⟨b, o, none⟩ :=
  World.cell?_of_block (a := ⟨b, o, none⟩) (h.block b hb)

/-- n marks, from k on, at the address. -/
def Marks (w : World) (a : Option Addr) (n : Nat) (k : Int) : Prop :=
  n = 0 ∨ ∃ g off, a = some ⟨g, off, none⟩ ∧ ∀ i : Nat, i < n → w.cell? ⟨g, off + i, none⟩ = some (.int .u8 ((k + i) % 256))
/-- The slice may be written: n cells lie at block g. -/
def Opn (w : World) (a : Option Addr) (g n : Nat) : Prop :=
  n = 0 ∨ ∃ off, a = some ⟨g, off, none⟩ ∧ ∀ i : Nat, i < n → (w.cell? ⟨g, off + i, none⟩).isSome = true ∧ w.frozen? ⟨g, off + i, none⟩ = false

set_option maxHeartbeats 1000000 in
theorem mark (a : Option Addr) (n c g : Nat) (k : Int) (h0 : 0 ≤ k) (h1 : k ≤ 1099511627776) (w : World) (hm : n ≤ 1099511627776) (ho : Opn w a g n) :
    Calls Try.prog 15 #[.slice a n c, .int .i64 k] w fun e w' => e = .returned (.int .i64 (k + n)) ∧ Wrote w w' g ∧ Marks w' a n k := by
  rcases ho with rfl | ⟨off, rfl, hc⟩
  · go_enter Try.func15, Try.ntmps15
    go_wp2
    go_loop [1, 5] (fun q i => q = .int .i64 k ∧ i = .int .i64 0) (fun _ i => 0)
    case atStart => exact ⟨rfl, rfl⟩
    case round =>
      obtain ⟨rfl, rfl⟩ := hrel
      go_wp2
      go_ret
      exact ⟨ret_int (by simp), Wrote.refl _ _, .inl rfl⟩
  have Hc := hide hc
  clear hc
  go_enter Try.func15, Try.ntmps15
  go_wp2
  go_loopw [1, 5] (fun q i wr => ∃ j : Nat, j ≤ n ∧ i = .int .i64 j ∧ q = .int .i64 (k + j) ∧ Wrote w wr g ∧ (Hid (∀ t : Nat, t < j → wr.cell? ⟨g, off + t, none⟩ = some (.int .u8 ((k + t) % 256)))) ∧ Hid (∀ t : Nat, t < n → (wr.cell? ⟨g, off + t, none⟩).isSome = true)) (fun _ i _ => n - (intOf i).toNat)
  case atStart => exact ⟨0, by omega, rfl, by simp, Wrote.refl _ _, hide (fun t ht => by omega), hide (fun t ht => (unhide Hc t ht).1)⟩
  case round =>
    obtain ⟨j, hj, rfl, rfl, hw, hd, hs⟩ := hrel
    by_cases hlt : (j : Int) < (n : Int)
    · have k0 : (0 : Int) ≤ (j : Int) := by omega
      obtain ⟨v, hv⟩ := Option.isSome_iff_exists.1 (unhide hs j (by omega))
      have hfz := (hw.frozen ⟨g, off + j, none⟩).trans (unhide Hc j (by omega)).2
      go_wp2
      go_roundw
      case rel =>
        refine ⟨j + 1, by omega, by go_num, by go_num, hw.set _ _, hide (fun t ht => ?_), hide (fun t ht => ?_)⟩
        · by_cases e : t = j
          · subst e
            rw [World.cell?_setCell_same _ _ _ hv]
          · rw [World.cell?_setCell_other _ _ _ _ (by simp <;> omega)]
            exact unhide hd t (by omega)
        · by_cases e : t = j
          · subst e
            rw [World.cell?_setCell_same _ _ _ hv]; rfl
          · rw [World.cell?_setCell_other _ _ _ _ (by simp <;> omega)]
            exact unhide hs t ht
      case measure => simp [intOf]; omega
    · obtain rfl : j = n := by omega
      go_wp2
      go_ret
      exact ⟨rfl, hw, .inr ⟨g, off, rfl, unhide hd⟩⟩

set_option maxHeartbeats 1000000 in
theorem held (a : Option Addr) (n c : Nat) (k : Int) (h0 : 0 ≤ k) (h1 : k ≤ 1099511627776) (w : World) (hm : n ≤ 1099511627776) (ho : Marks w a n k) :
    Calls Try.prog 16 #[.slice a n c, .int .i64 k] w fun e w' => e = .returned (.int .i64 (k + n)) ∧ w' = w := by
  rcases ho with rfl | ⟨g, off, rfl, hc⟩
  · go_enter Try.func16, Try.ntmps16
    go_wp2
    go_loop [1, 5] (fun q i => q = .int .i64 k ∧ i = .int .i64 0) (fun _ i => 0)
    case atStart => exact ⟨rfl, rfl⟩
    case round =>
      obtain ⟨rfl, rfl⟩ := hrel
      go_wp2
      go_ret
      exact ⟨ret_int (by simp), rfl⟩
  have Hc := hide hc
  clear hc
  go_enter Try.func16, Try.ntmps16
  go_wp2
  go_loop [1, 5] (fun q i => ∃ j : Nat, j ≤ n ∧ i = .int .i64 j ∧ q = .int .i64 (k + j)) (fun _ i => n - (intOf i).toNat)
  case atStart => exact ⟨0, by omega, rfl, by simp⟩
  case round =>
    obtain ⟨j, hj, rfl, rfl⟩ := hrel
    by_cases hlt : (j : Int) < (n : Int)
    · have k0 : (0 : Int) ≤ (j : Int) := by omega
      have hv := unhide Hc j (by omega)
      go_wp2
      go_round
      case rel => exact ⟨j + 1, by omega, by go_num, by go_num⟩
      case measure => simp [intOf]; omega
    · obtain rfl : j = n := by omega
      go_wp2
      go_ret
      exact ⟨rfl, rfl⟩
end By
end Go.Proofs.Ytpknahhdapmcoag
