/-
  Bytes of a hello, one by one.
-/
import Derived.Test.YtmelbilepfnmjakHelD
import Derived.Test.YtmelbilepfnmjakHelVa
import Derived.OneCell
namespace Go.Proofs.Ytmelbilepfnmjak
open Go.ChangeShapes Go.WideShapes Go.ChangeAt Go.RowKit
set_option linter.unusedVariables false
namespace Hl
open W1 Nb De
theorem and_127 (x : Int) (h0 : 0 ≤ x) (h1 : x ≤ 255) : bits BinOp.and IntKind.u8 x 127 = x % 128 := by
  obtain ⟨n, rfl⟩ := Int.eq_ofNat_of_zero_le h0
  have h : ∀ k : Fin 256, bits BinOp.and IntKind.u8 ((k.val : Nat) : Int) 127 = ((k.val : Nat) : Int) % 128 := by decide +kernel
  exact h ⟨n, by omega⟩
theorem extract_two (s : ByteArray) (i : Nat) (h : i + 1 < s.size) : s.extract i (i + 2) = ⟨#[s[i]'(by omega), s[i + 1]]⟩ := by
  have h' : i + 1 < s.data.size := h
  apply ByteArray.ext
  apply Array.ext'
  rw [ByteArray.data_extract, Array.toList_extract]
  show List.take (i + 2 - i) (List.drop i s.data.toList) = [s.data[i], s.data[i + 1]]
  rw [List.drop_eq_getElem_cons (by simp; omega), List.drop_eq_getElem_cons (by simp; omega), show i + 2 - i = 2 by omega]
  simp
theorem fld_at (s : ByteArray) (i : Nat) (h : i < s.size) : ((s[i].toNat : Nat) : Int) = fld s.data.toList i := by
  unfold fld
  have h' : i < s.data.size := h
  rw [List.getD_eq_getElem?_getD, Array.getElem?_toList, Array.getElem?_eq_getElem h']; rfl
theorem idx_at (W : World) (s : ByteArray) (k : Int) (n : Nat) (hk : k = n) (hn : n < s.size) : (Instr.index 9 (.string s) (.int .i64 k)).run Try.prog W = .ok (.int .u8 (fld s.data.toList n)) W := by
  subst hk
  rw [run_index_string W 9 s .i64 _ Try.underlying9, dif_pos ⟨by omega, by omega⟩]
  simp only [Int.toNat_natCast]
  rw [fld_at s n hn]
theorem two_at (s : ByteArray) (i : Nat) (h : i + 1 < s.size) : 256 * ((s[i].toNat : Nat) : Int) + ((s[i + 1].toNat : Nat) : Int) = two s.data.toList i := by
  unfold two
  rw [fld_at s i (by omega), fld_at s (i + 1) h]
theorem wrapF (bs : List UInt8) (i : Nat) : IntKind.i64.wrap (fld bs i) = fld bs i := by have := fld_lo bs i; have := fld_hi bs i; rw [IntWalk.i64_left]; unfold wrap64; omega
theorem two_lo (bs : List UInt8) (i : Nat) : 0 ≤ two bs i := by unfold two; have := fld_lo bs i; have := fld_lo bs (i + 1); omega
theorem two_hi (bs : List UInt8) (i : Nat) : two bs i ≤ 65535 := by unfold two; have := fld_hi bs i; have := fld_hi bs (i + 1); omega
end Hl
end Go.Proofs.Ytmelbilepfnmjak
