/-
  Contract of the model's l01Next: the first message of a text, or none.
-/
import Derived.Test.YtmelbilepfnmjaaDoorDec
namespace Go.Proofs.YtmelbilepfnmjaaDoor
open Go.ChangeShapes Go.WideShapes Go.ChangeAt Go.RowKit
set_option linter.unusedVariables false
set_option linter.unusedSimpArgs false
attribute [local go_sem ↓] Go.wp_at_zero Go.wp_at_succ
namespace De
open W1 By

/-- The body that the bytes tell; whether they begin with a right message. -/
def bodyOf (bs : List UInt8) : ByteArray := ⟨((bs.take (two bs 1).toNat).drop 8).toArray⟩
def decB (bs : List UInt8) : Bool := decide (8 ≤ bs.length) && (decide (8 ≤ two bs 1) && (decide (two bs 1 ≤ bs.length) && okB (fld bs 0) (fld bs 3) (two bs 4) (fld bs 6) (fld bs 7) (bodyOf bs)))
theorem wrapF (bs : List UInt8) (i : Nat) : IntKind.i64.wrap (fld bs i) = fld bs i := by have := fld_lo bs i; have := fld_hi bs i; rw [IntWalk.i64_left]; unfold wrap64; omega
theorem fld_at (s : ByteArray) (i : Nat) (h : i < s.size) : ((s[i].toNat : Nat) : Int) = fld s.data.toList i := by
  unfold fld
  have h' : i < s.data.size := h
  rw [List.getD_eq_getElem?_getD, Array.getElem?_toList, Array.getElem?_eq_getElem h']; rfl
theorem two_at (s : ByteArray) (i : Nat) (h : i + 1 < s.size) : 256 * ((s[i].toNat : Nat) : Int) + ((s[i + 1].toNat : Nat) : Int) = two s.data.toList i := by
  unfold two
  rw [fld_at s i (by omega), fld_at s (i + 1) h]
theorem two_lo (bs : List UInt8) (i : Nat) : 0 ≤ two bs i := by unfold two; have := fld_lo bs i; have := fld_lo bs (i + 1); omega
theorem two_hi (bs : List UInt8) (i : Nat) : two bs i ≤ 65535 := by unfold two; have := fld_hi bs i; have := fld_hi bs (i + 1); omega
theorem extract_two (s : ByteArray) (i : Nat) (h : i + 1 < s.size) : s.extract i (i + 2) = ⟨#[s[i]'(by omega), s[i + 1]]⟩ := by
  have h' : i + 1 < s.data.size := h
  apply ByteArray.ext
  apply Array.ext'
  rw [ByteArray.data_extract, Array.toList_extract]
  show List.take (i + 2 - i) (List.drop i s.data.toList) = [s.data[i], s.data[i + 1]]
  rw [List.drop_eq_getElem_cons (by simp; omega), List.drop_eq_getElem_cons (by simp; omega), show i + 2 - i = 2 by omega]
  simp
theorem extract_body (s : ByteArray) (n : Int) (h : n = two s.data.toList 1) : s.extract 8 n.toNat = bodyOf s.data.toList := by
  subst h
  apply ByteArray.ext
  apply Array.ext'
  rw [ByteArray.data_extract, Array.toList_extract]
  unfold bodyOf
  simp [List.drop_take]
/-- What l01Next answers. -/
def nextV (bs : List UInt8) : Value := if decB bs = true then .tuple #[.agg #[.int .i64 (fld bs 0), .int .i64 (fld bs 3), .int .i64 (two bs 4), .int .i64 (fld bs 6), .int .i64 (fld bs 7), .string (bodyOf bs)], .int .i64 (two bs 1), .bool true] else .tuple #[.agg #[.int .i64 0, .int .i64 0, .int .i64 0, .int .i64 0, .int .i64 0, .string ⟨#[]⟩], .int .i64 0, .bool false]
theorem nextV_no {bs : List UInt8} (h : decB bs = false) : nextV bs = .tuple #[.agg #[.int .i64 0, .int .i64 0, .int .i64 0, .int .i64 0, .int .i64 0, .string ⟨#[]⟩], .int .i64 0, .bool false] := by unfold nextV; rw [h]; rfl
end De
end Go.Proofs.YtmelbilepfnmjaaDoor
