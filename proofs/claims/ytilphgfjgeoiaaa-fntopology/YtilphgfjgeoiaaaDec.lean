/-
  Contracts of the functions that read a number out of two bytes, the program's twoAt and the model's l01Of.
-/
import Derived.Test.YtilphgfjgeoiaaaBytes
import Derived.Deep.RegionHeld3
import Derived.Deep.DrawnRows
import Derived.Laws.BytesArg
import Derived.Laws.BitsAllLaws
namespace Go.Proofs.Ytilphgfjgeoiaaa
open Go.ChangeShapes Go.WideShapes Go.ChangeAt Go.RowKit
set_option linter.unusedVariables false
attribute [local go_sem ↓] Go.wp_at_zero Go.wp_at_succ
namespace De
open W1 By
/-- The byte at a place, as a number; two bytes from a place on, as one. -/
def fld (bs : List UInt8) (i : Nat) : Int := ((bs.getD i 0).toNat : Int)
def two (bs : List UInt8) (i : Nat) : Int := 256 * fld bs i + fld bs (i + 1)
theorem fld_lo (bs : List UInt8) (i : Nat) : 0 ≤ fld bs i := by unfold fld; omega
theorem fld_hi (bs : List UInt8) (i : Nat) : fld bs i ≤ 255 := by unfold fld; have := (bs.getD i 0).toNat_lt; omega

theorem or_two {x y : Int} (hx0 : 0 ≤ x) (hx1 : x ≤ 255) (hy0 : 0 ≤ y) (hy1 : y ≤ 255) : bits BinOp.or IntKind.i64 (x * 256) y = 256 * x + y := by
  obtain ⟨X, rfl⟩ := Int.eq_ofNat_of_zero_le hx0
  obtain ⟨Y, rfl⟩ := Int.eq_ofNat_of_zero_le hy0
  have e : ((X : Int) * 256) = ((2 ^ 8 * X : Nat) : Int) := by omega
  rw [e]
  show IntKind.i64.wrap ((BitVec.ofInt 64 ((2 ^ 8 * X : Nat) : Int) ||| BitVec.ofInt 64 (Y : Int)).toNat : Int) = _
  rw [BitVec.toNat_or, ofInt_u64 (2 ^ 8 * X) (by omega), ofInt_u64 Y (by omega), ← Nat.two_pow_add_eq_or_of_lt (by omega), IntWalk.i64_left]
  unfold wrap64
  omega
theorem or_zero {y : Int} (hy0 : 0 ≤ y) (hy1 : y ≤ 255) : bits BinOp.or IntKind.i64 0 y = y := by
  have := or_two (x := 0) (by omega) (by omega) hy0 hy1
  simpa using this

theorem u8_le (x : UInt8) : (x.toNat : Int) ≤ 255 := by have := x.toNat_lt; omega
theorem wrapB (x : UInt8) : wrap64 (x.toNat : Int) = x.toNat := by have := x.toNat_lt; unfold wrap64; omega
end De
end Go.Proofs.Ytilphgfjgeoiaaa
