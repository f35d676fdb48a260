/-
  Contracts of the functions that read a number out of two bytes, the program's twoAt and the model's l01Of.
-/
import Derived.Test.YtmelbilepfnmjakBytes
import Derived.Deep.RegionHeld3
import Derived.Deep.DrawnRows
import Derived.Laws.BytesArg
import Derived.Laws.BitsAllLaws
namespace Go.Proofs.Ytmelbilepfnmjak
open Go.ChangeShapes Go.WideShapes Go.ChangeAt Go.RowKit
set_option linter.unusedVariables false
attribute [local go_sem ↓] Go.wp_at_zero Go.wp_at_succ
namespace De
open W1 By
/-- The byte at a place, as a number; two bytes from a place on, as one. -/
def fld (bs : List UInt8) (i : Nat) : Int := ((bs.getD i 0).toNat : Int)
def two (bs : List UInt8) (i : Nat) : Int := 256 * fld bs i + fld bs (i + 1)
theorem fld_lo (bs : List UInt8) (i : Nat) : 0 ≤ fld bs i := by unfold fld; omega
theorem fld_hi (bs : List UInt8) (i : Nat) : fld bs i ≤ 255 := by unfold fld; have := (bs.getD i 0).toNat_lt; omega

theorem or_two {x y : Int} (hx0 : 0 ≤ x) (hx1 : x ≤ 255) (hy0 : 0 ≤ y) (hy1 : y ≤ 255) : bits BinOp.or IntKind.i64 (x * 256) y = 256 * x + y := by
  obtain ⟨X, rfl⟩ := Int.eq_ofNat_of_zero_le hx0
  obtain ⟨Y, rfl⟩ := Int.eq_ofNat_of_zero_le hy0
  have e : ((X : Int) * 256) = ((2 ^ 8 * X : Nat) : Int) := by omega
  rw [e]
  show IntKind.i64.wrap ((BitVec.ofInt 64 ((2 ^ 8 * X : Nat) : Int) ||| BitVec.ofInt 64 (Y : Int)).toNat : Int) = _
  rw [BitVec.toNat_or, ofInt_u64 (2 ^ 8 * X) (by omega), ofInt_u64 Y (by omega), ← Nat.two_pow_add_eq_or_of_lt (by omega), IntWalk.i64_left]
  unfold wrap64
  omega
theorem or_zero {y : Int} (hy0 : 0 ≤ y) (hy1 : y ≤ 255) : bits BinOp.or IntKind.i64 0 y = y := by
  have := or_two (x := 0) (by omega) (by omega) hy0 hy1
  simpa using this

set_option maxHeartbeats 400000 in
theorem twoAt (g off i n cap : Nat) (x y : Int) (w : World) (hx0 : 0 ≤ x) (hx1 : x ≤ 255) (hy0 : 0 ≤ y) (hy1 : y ≤ 255) (hi : (i : Int) + 1 < n) (hn : n ≤ 1048576)
    (c0 : w.cell? ⟨g, off + i, none⟩ = some (.int .u8 x)) (c1 : w.cell? ⟨g, off + (i + 1), none⟩ = some (.int .u8 y)) :
    Calls Try.prog 88 #[.slice (some ⟨g, off, none⟩) n cap, .int .i64 i] w fun e w' => e = .returned (.int .i64 (256 * x + y)) ∧ ∃ q, w' = w.drewN q := by
  have k0 : (0 : Int) ≤ (i : Int) := by omega
  have k1 : (i : Int) < n := by omega
  have hwi : IntKind.i64.wrap ((i : Int) + 1) = (i : Int) + 1 := by rw [IntWalk.i64_left]; unfold wrap64; omega
  go_enter Try.func88, Try.ntmps88
  go_wp2
  go_quiet (fail)
  go_wp2
  go_ret
  exact ⟨ret_int (or_two hx0 hx1 hy0 hy1), _, rfl⟩
theorem u8_le (x : UInt8) : (x.toNat : Int) ≤ 255 := by have := x.toNat_lt; omega
theorem wrapB (x : UInt8) : wrap64 (x.toNat : Int) = x.toNat := by have := x.toNat_lt; unfold wrap64; omega
set_option maxHeartbeats 400000 in
theorem l01Of (s : ByteArray) (x y : UInt8) (hs : s = ⟨#[x, y]⟩) (w : World) :
    Calls Try.prog 80 #[.string s] w fun e w' => e = .returned (.int .i64 (256 * (x.toNat : Int) + (y.toNat : Int))) ∧ w' = w := by
  subst hs
  have hx := u8_le x
  have hy := u8_le y
  go_enter Try.func80, Try.ntmps80
  go_wp2
  go_loop [3, 4] (fun v i => (i = .int .i64 0 ∧ v = .int .i64 0) ∨ (i = .int .i64 1 ∧ v = .int .i64 x.toNat) ∨ (i = .int .i64 2 ∧ v = .int .i64 (256 * (x.toNat : Int) + (y.toNat : Int)))) (fun _ i => (2 - intOf i).toNat)
  case atStart => exact .inl ⟨rfl, rfl⟩
  case round =>
    rcases hrel with ⟨rfl, rfl⟩ | ⟨rfl, rfl⟩ | ⟨rfl, rfl⟩
    · go_wp2
      refine ⟨.inr (.inl ⟨rfl, ?_⟩), by simp [intOf]⟩
      show Value.int .i64 (bits BinOp.or IntKind.i64 0 (wrap64 (x.toNat : Int))) = _
      rw [wrapB, or_zero (by omega) hx]
    · go_wp2
      refine ⟨.inr (.inr ⟨rfl, ?_⟩), by simp [intOf]⟩
      show Value.int .i64 (bits BinOp.or IntKind.i64 (x.toNat * 256) (wrap64 (y.toNat : Int))) = _
      rw [wrapB, or_two (by omega) hx (by omega) hy]
    · go_wp2
      go_ret
      exact ⟨rfl, rfl⟩
end De
end Go.Proofs.Ytmelbilepfnmjak
