/-
  Contracts of the functions that read a number out of two bytes, the program's twoAt and the model's l01Of. Contracts of the functions that lay a number into bytes: the program's appendTwo, onto a slice of bytes that the call owns; the model's l01Number for one byte and for two. Rows of bytes of one's own, as lists of numbers: append, and what they are as a text. The numbers of an advertisement's bytes, and what bytes tell, over lists. Contract over advertisements: the text of one (the model's l05Encode). An advertisement in a variable's block of its own: what its cells hold, that it may be written, that no row of edges lies there. Contracts: a drawn advertisement is a right one, whatever the source has.
-/
import Derived.Test.YtlcppgnnlgigmaaDoorBytes
import Derived.Deep.RegionHeld3
import Derived.Deep.DrawnRows
import Derived.Laws.BytesArg
import Derived.Laws.BitsAllLaws
import Derived.Test.YtlcppgnnlgigmaaDoorWire1
import Derived.Deep.AppendLies
import Derived.Laws.MakeOwn
import Derived.Test.YtlcppgnnlgigmaaDoorAdvM
import Derived.Test.YtlcppgnnlgigmaaDoorAdvC
import Derived.OneCell
import Derived.Test.YtlcppgnnlgigmaaDoorDrw
namespace Go.Proofs.YtlcppgnnlgigmaaDoor
open Go.ChangeShapes Go.WideShapes Go.ChangeAt Go.RowKit
set_option linter.unusedVariables false
attribute [local go_sem ↓] Go.wp_at_zero Go.wp_at_succ
namespace De
open W1 By
/-- The byte at a place, as a number; two bytes from a place on, as one. -/
def fld (bs : List UInt8) (i : Nat) : Int := ((bs.getD i 0).toNat : Int)
def two (bs : List UInt8) (i : Nat) : Int := 256 * fld bs i + fld bs (i + 1)
theorem fld_lo (bs : List UInt8) (i : Nat) : 0 ≤ fld bs i := by unfold fld; omega
theorem fld_hi (bs : List UInt8) (i : Nat) : fld bs i ≤ 255 := by unfold fld; have := (bs.getD i 0).toNat_lt; omega

theorem or_two {x y : Int} (hx0 : 0 ≤ x) (hx1 : x ≤ 255) (hy0 : 0 ≤ y) (hy1 : y ≤ 255) : bits BinOp.or IntKind.i64 (x * 256) y = 256 * x + y := by
  obtain ⟨X, rfl⟩ := Int.eq_ofNat_of_zero_le hx0
  obtain ⟨Y, rfl⟩ := Int.eq_ofNat_of_zero_le hy0
  have e : ((X : Int) * 256) = ((2 ^ 8 * X : Nat) : Int) := by omega
  rw [e]
  show IntKind.i64.wrap ((BitVec.ofInt 64 ((2 ^ 8 * X : Nat) : Int) ||| BitVec.ofInt 64 (Y : Int)).toNat : Int) = _
  rw [BitVec.toNat_or, ofInt_u64 (2 ^ 8 * X) (by omega), ofInt_u64 Y (by omega), ← Nat.two_pow_add_eq_or_of_lt (by omega), IntWalk.i64_left]
  unfold wrap64
  omega
theorem or_zero {y : Int} (hy0 : 0 ≤ y) (hy1 : y ≤ 255) : bits BinOp.or IntKind.i64 0 y = y := by
  have := or_two (x := 0) (by omega) (by omega) hy0 hy1
  simpa using this

theorem u8_le (x : UInt8) : (x.toNat : Int) ≤ 255 := by have := x.toNat_lt; omega
theorem wrapB (x : UInt8) : wrap64 (x.toNat : Int) = x.toNat := by have := x.toNat_lt; unfold wrap64; omega
end De
end Go.Proofs.YtlcppgnnlgigmaaDoor
namespace Go.Proofs.YtlcppgnnlgigmaaDoor
open Go.ChangeShapes Go.WideShapes Go.ChangeAt Go.RowKit
set_option linter.unusedVariables false
namespace Nu
open W1
theorem info5 : ∃ i, Tryd.prog.info? 5 = some i ∧ i.zero = some (.int .u8 0) ∧ i.size = 1 ∧ i.bytes = 1 := by
  have h : (Tryd.prog.info? 5).map (fun i => (i.zero, i.size, i.bytes)) = some (some (.int .u8 0), 1, 1) := by kernel_rfl
  obtain ⟨i, hi, he⟩ := Option.map_eq_some_iff.1 h
  simp only [Prod.mk.injEq] at he
  exact ⟨i, hi, he.1, he.2.1, he.2.2⟩
/-- Bytes as cells. -/
def cs (bs : List UInt8) : List Value := bs.map fun b => Value.int .u8 b.toNat

theorem two_cells {w : World} {base g cap : Nat} {a b : Int} (h : w.ownsRow base 5 1 (.slice (some ⟨g, 0, none⟩) 2 cap) 2 [.int .u8 a, .int .u8 b]) :
    ∀ i, i < 2 → w.cell? ⟨g, 0 + i, none⟩ = some (.int .u8 ([a, b].getD i 0)) := by
  intro i hi
  rw [Nat.zero_add, h.cellAt i (by omega)]
  match i, hi with
  | 0, _ => rfl
  | 1, _ => rfl
theorem one_cell {w : World} {base g cap : Nat} {a : Int} (h : w.ownsRow base 5 1 (.slice (some ⟨g, 0, none⟩) 1 cap) 1 [.int .u8 a]) :
    ∀ i, i < 1 → w.cell? ⟨g, 0 + i, none⟩ = some (.int .u8 ([a].getD i 0)) := by
  intro i hi
  rw [Nat.zero_add, h.cellAt i (by omega)]
  match i, hi with
  | 0, _ => rfl

end Nu
end Go.Proofs.YtlcppgnnlgigmaaDoor
namespace Go.Proofs.YtlcppgnnlgigmaaDoor
open Go.ChangeShapes Go.WideShapes Go.ChangeAt Go.RowKit
set_option linter.unusedVariables false
namespace U8
open W1 Nu
def fl (zs : List Int) : List Value := zs.map (Value.int .u8)
theorem fl_len (zs : List Int) : (fl zs).length = zs.length * 1 := by simp [fl]
theorem fl_append (xs ys : List Int) : fl (xs ++ ys) = fl xs ++ fl ys := by simp [fl]
theorem fl_one {zs : List Int} {u : Value} (h : u ∈ fl zs) : u.oneCell' = true := by
  unfold fl at h; obtain ⟨z, _, rfl⟩ := List.mem_map.1 h; rfl
/-- The cells from an address on read as these numbers. -/
def R8 (w : World) (g off : Nat) (zs : List Int) : Prop := ∀ i, i < zs.length → w.cell? ⟨g, off + i, none⟩ = some (.int .u8 (zs.getD i 0))
theorem plain_add (b off k : Nat) : (⟨b, off, none⟩ : Addr).add k = ⟨b, off + k, none⟩ := by unfold Addr.add; split <;> simp_all
theorem R8.cells {w : World} {g off : Nat} {zs : List Int} (h : R8 w g off zs) : ∀ j u, (fl zs)[j]? = some u → w.cell? ((⟨g, off, none⟩ : Addr).add j) = some u := by
  intro j u hj
  have hl : j < zs.length := by have := (List.getElem?_eq_some_iff.1 hj).1; simpa [fl] using this
  unfold fl at hj
  rw [List.getElem?_map, List.getElem?_eq_getElem hl] at hj
  rw [plain_add, h j hl, List.getD_eq_getElem?_getD, List.getElem?_eq_getElem hl]
  simpa using hj
theorem r8_new (w : World) (zs : List Int) (c : Array Value) (hc : c.toList = fl zs) : R8 (w.alloc (.cells c 5)) w.heap.size 0 zs := by
  intro i hi
  rw [Nat.zero_add, World.cell?_alloc_new, ← Array.getElem?_toList, hc]
  unfold fl
  rw [List.getElem?_map, List.getElem?_eq_getElem hi, List.getD_eq_getElem?_getD, List.getElem?_eq_getElem hi]; rfl
theorem wpList_ap {ops : Array Oper} {rest : List Oper} {o : Oper} {a : Act} {Q : Exit → Act → World → Prop} {w : World} {base : Nat} {v : Value} {xs : List Int} (hown : w.ownsRow base 5 1 v xs.length (fl xs)) (g off m c : Nat) (zs : List Int) (hm : zs.length = m) (hr : R8 w g off zs) (hlen : xs.length + zs.length ≤ 4194304) (hbase : base ≤ w.heap.size)
    (hgd : o.guard = none) (s x : Operand) (ho : o.op = .call { callee := .builtin .append, args := #[s, x], argTypes := #[22, 22] }) (hs : a.eval s = v) (hx : a.eval x = .slice (some ⟨g, off, none⟩) m c)
    (h : ∀ v' w', w'.ownsRow base 5 1 v' (xs ++ zs).length (fl (xs ++ zs)) → w.grownBy w' v.ownBlock → wpList Tryd.prog ops Q rest (a.put o.dst v') w') : wpList Tryd.prog ops Q (o :: rest) a w := by
  subst hm
  obtain ⟨i0, hi, hz0, hz1, hz2⟩ := info5
  refine wpList_append_own w hgd s x _ ho base 5 i0 _ 1 1 Tryd.underlying22 hi hz0 hz1 hz2 rfl (by decide) v xs.length (fl xs) hs hown ⟨g, off, none⟩ zs.length c (fl zs) hx (fl_len zs) hr.cells (fun u hu => fl_one hu) (by unfold maxLen; omega) (by omega) hbase (fun v' w' h1 h2 _ => ?_)
  refine h v' w' ?_ h2
  rw [List.length_append, fl_append]; exact h1
theorem wp_ap {o : Oper} {a : Act} {K : Act → World → Prop} {Q : Exit → Act → World → Prop} {w : World} {base d : Nat} {v : Value} {xs : List Int} (hown : w.ownsRow base 5 1 v xs.length (fl xs)) (g off m c : Nat) (zs : List Int) (hm : zs.length = m) (hr : R8 w g off zs) (hlen : xs.length + zs.length ≤ 4194304) (hbase : base ≤ w.heap.size)
    (s x : Operand) (ho : o.op = .call { callee := .builtin .append, args := #[s, x], argTypes := #[22, 22] }) (hd : o.dst = some d) (hs : a.eval s = v) (hx : a.eval x = .slice (some ⟨g, off, none⟩) m c)
    (h : ∀ v' w', w'.ownsRow base 5 1 v' (xs ++ zs).length (fl (xs ++ zs)) → w.grownBy w' v.ownBlock → K (a.put (some d) v') w') : o.wp Tryd.prog a w K Q := by
  subst hm
  obtain ⟨i0, hi, hz0, hz1, hz2⟩ := info5
  refine wp_append_own w s x _ ho base 5 i0 _ 1 1 Tryd.underlying22 hi hz0 hz1 hz2 rfl (by decide) v xs.length (fl xs) hs hown ⟨g, off, none⟩ zs.length c (fl zs) hx (fl_len zs) hr.cells (fun u hu => fl_one hu) (by unfold maxLen; omega) (by omega) hbase (fun v' w' h1 h2 _ => ?_)
  rw [hd]
  refine h v' w' ?_ h2
  rw [List.length_append, fl_append]; exact h1
theorem below_own {B : Nat} {w0 w w' : World} {base : Nat} {v : Value} {n : Nat} {xs : List Value} (h : Below B w0 w) (ho : w.ownsRow base 5 1 v n xs) (hg : w.grownBy w' v.ownBlock) (hb : B ≤ base) (hB : B ≤ w.heap.size) : Below B w0 w' :=
  h.grown hg hB (fun k hk => Nat.le_trans hb (ho.lt k hk).1)
theorem own_below {w w' : World} {base : Nat} {v : Value} {n : Nat} {xs : List Value} (h : w.ownsRow base 5 1 v n xs) (hb : Below w.heap.size w w') : w'.ownsRow base 5 1 v n xs := by
  refine h.kept (row := none) ⟨hb.os, hb.tape, hb.output, hb.size, fun k hk _ => hb.block k hk⟩ ?_
  cases v.ownBlock
  · exact .inl rfl
  · exact .inr (by simp)
/-- A row with numbers in it: its form, its cells. -/
theorem form {w : World} {base : Nat} {v : Value} {zs : List Int} (h : w.ownsRow base 5 1 v zs.length (fl zs)) (h0 : 0 < zs.length) :
    ∃ g cap, v = .slice (some ⟨g, 0, none⟩) zs.length cap ∧ ∀ i, i < zs.length → w.cell? ⟨g, 0 + i, none⟩ = some (.int .u8 (zs.getD i 0)) := by
  obtain ⟨g, cap, rfl, _, _⟩ := h.form h0
  refine ⟨g, cap, rfl, fun i hi => ?_⟩
  rw [Nat.zero_add, h.cellAt i (by omega)]
  unfold fl
  rw [List.getElem?_map, List.getElem?_eq_getElem hi, List.getD_eq_getElem?_getD, List.getElem?_eq_getElem hi]; rfl
theorem own_two {w : World} {base : Nat} {v : Value} {xs : List Int} {a b : Int} (h : w.ownsRow base 5 1 v (xs.length + 2) (fl xs ++ [.int .u8 a, .int .u8 b])) : w.ownsRow base 5 1 v (xs ++ [a, b]).length (fl (xs ++ [a, b])) := by
  rw [fl_append, List.length_append]; exact h
theorem str_append (a b : List Int) : strOfNums a ++ strOfNums b = strOfNums (a ++ b) := by
  apply ByteArray.ext
  simp [strOfNums, ByteArray.data_append]
end U8
end Go.Proofs.YtlcppgnnlgigmaaDoor
namespace Go.Proofs.YtlcppgnnlgigmaaDoor
set_option linter.unusedVariables false
namespace Av
open W1 Ed De
/-- The numbers of an edge's bytes, of an advertisement's first ones. -/
def edNums (m : R) : List Int := [m.ad, (Mtr.mcode m.mt : Int) / 256, (Mtr.mcode m.mt : Int) % 256]
def tcNums (x y : Int) (ms : List R) (j : Nat) : List Int := [x / 256, x % 256, (Tim.tcode y : Int), (ms.length : Int)] ++ (ms.take j).flatMap edNums
def encS (x y : Int) (ms : List R) : ByteArray := if tcB x y ms = true then strOfNums (tcNums x y ms ms.length) else ⟨#[]⟩
def encE (x y : Int) (ms : List R) : Int := if tcB x y ms = true then 0 else 1
theorem tcNums_zero (x y : Int) (ms : List R) : tcNums x y ms 0 = [x / 256, x % 256, (Tim.tcode y : Int), (ms.length : Int)] := by simp [tcNums]
theorem tcNums_succ (x y : Int) {ms : List R} {j : Nat} (h : j < ms.length) : tcNums x y ms (j + 1) = tcNums x y ms j ++ edNums (ms.getD j R.zero) := by
  unfold tcNums
  rw [List.take_add_one, List.getElem?_eq_getElem h, List.flatMap_append, List.getD_eq_getElem?_getD, List.getElem?_eq_getElem h]; simp
theorem tcNums_len (x y : Int) (ms : List R) (j : Nat) : (tcNums x y ms j).length ≤ 4 + j * 3 := by
  unfold tcNums
  have : ∀ l : List R, (l.flatMap edNums).length = l.length * 3 := by
    intro l; induction l with
    | nil => rfl
    | cons m t ih => rw [List.flatMap_cons, List.length_append, ih]; simp [edNums]; omega
  rw [List.length_append, this, List.length_take]; simp; omega
theorem tcNums_pos (x y : Int) (ms : List R) (j : Nat) : 0 < (tcNums x y ms j).length := by unfold tcNums; simp

def grp (bs : List UInt8) (i : Nat) : R := ⟨fld bs (4 + 3 * i), Mtr.met (two bs (5 + 3 * i)).toNat⟩
def grps (bs : List UInt8) (n : Nat) : List R := (List.range n).map (grp bs)
def codesB (bs : List UInt8) (n : Nat) : Bool := (List.range n).all fun i => decide (two bs (5 + 3 * i) ≤ 4095)
def nOf (bs : List UInt8) : Nat := (fld bs 3).toNat
def lenB (bs : List UInt8) : Bool := decide (4 ≤ bs.length) && decide ((bs.length : Int) = 4 + 3 * fld bs 3)
def timOf (bs : List UInt8) : Int := Tim.tim (fld bs 2).toNat
def exB (bs : List UInt8) : Bool := Tim.tcode (timOf bs) == (fld bs 2).toNat
def decG (bs : List UInt8) : Bool := lenB bs && (decide (fld bs 2 ≤ 223) && (codesB bs (nOf bs) && (tcB (two bs 0) (timOf bs) (grps bs (nOf bs)) && exB bs)))
/-- What DecodeTc answers. -/
def decX (bs : List UInt8) : Int := if decG bs = true then two bs 0 else 0
def decY (bs : List UInt8) : Int := if decG bs = true then timOf bs else 0
def decL (bs : List UInt8) : List R := if decG bs = true then grps bs (nOf bs) else []
def decE (bs : List UInt8) : Int := if 65536 < bs.length then 2 else if decG bs = true then 0 else 3
theorem dec_no {bs : List UInt8} (h : decG bs = false) : decX bs = 0 ∧ decY bs = 0 ∧ decL bs = [] := by
  unfold decX decY decL; rw [if_neg (by simp [h]), if_neg (by simp [h]), if_neg (by simp [h])]; exact ⟨rfl, rfl, rfl⟩
theorem dec_yes {bs : List UInt8} (h : decG bs = true) : decX bs = two bs 0 ∧ decY bs = timOf bs ∧ decL bs = grps bs (nOf bs) := by
  unfold decX decY decL; rw [if_pos h, if_pos h, if_pos h]; exact ⟨rfl, rfl, rfl⟩
theorem grps_len (bs : List UInt8) (n : Nat) : (grps bs n).length = n := by simp [grps]
theorem grps_succ (bs : List UInt8) (n : Nat) : grps bs (n + 1) = grps bs n ++ [grp bs n] := by unfold grps; rw [List.range_succ, List.map_append]; rfl
theorem grps_at (bs : List UInt8) (n i : Nat) (h : i < n) : (grps bs n).getD i R.zero = grp bs i := by
  unfold grps; rw [List.getD_eq_getElem?_getD, List.getElem?_map, List.getElem?_range h]; rfl
theorem codes_at {bs : List UInt8} {n i : Nat} (h : codesB bs n = true) (hi : i < n) : two bs (5 + 3 * i) ≤ 4095 := by
  unfold codesB at h; rw [List.all_eq_true] at h; exact of_decide_eq_true (h i (List.mem_range.2 hi))
theorem codes_no {bs : List UInt8} {n i : Nat} (hi : i < n) (h : 4095 < two bs (5 + 3 * i)) : codesB bs n = false := by
  unfold codesB; rw [List.all_eq_false]; exact ⟨i, List.mem_range.2 hi, by simp; omega⟩
theorem codes_of {bs : List UInt8} {n : Nat} (h : ∀ i, i < n → two bs (5 + 3 * i) ≤ 4095) : codesB bs n = true := by
  unfold codesB; rw [List.all_eq_true]; intro i hi; exact decide_eq_true (h i (List.mem_range.1 hi))
theorem n_le (bs : List UInt8) : nOf bs ≤ 255 := by unfold nOf; have := fld_hi bs 3; omega
theorem decL_len (bs : List UInt8) : (decL bs).length ≤ 255 := by
  unfold decL
  split
  · rw [grps_len]; exact n_le bs
  · simp
theorem n_eq (bs : List UInt8) : ((nOf bs : Nat) : Int) = fld bs 3 := by unfold nOf; have := fld_lo bs 3; omega
theorem len_eq {bs : List UInt8} (h : lenB bs = true) : bs.length = 4 + 3 * nOf bs := by
  unfold lenB at h; simp at h; have := n_eq bs; omega
theorem mcode_met {c : Nat} (h : c ≤ 4095) : Mtr.mcode (Mtr.met c) = c :=
  Mtr.mcode_of ⟨h, Int.le_refl _, by
    by_cases e : c = 0
    · exact .inl e
    · right
      have := Mtr.met_step (c - 1)
      rw [show c - 1 + 1 = c by omega] at this; exact this⟩
theorem two_lo (bs : List UInt8) (i : Nat) : 0 ≤ two bs i := by unfold two; have := fld_lo bs i; have := fld_lo bs (i + 1); omega
theorem two_hi (bs : List UInt8) (i : Nat) : two bs i ≤ 65535 := by unfold two; have := fld_hi bs i; have := fld_hi bs (i + 1); omega
theorem fld_nat (bs : List UInt8) (i : Nat) : fld bs i = ((bs.map fun b => (b.toNat : Int)).getD i 0) := by
  unfold fld
  rw [List.getD_eq_getElem?_getD, List.getD_eq_getElem?_getD, List.getElem?_map]
  cases bs[i]? <;> rfl
theorem split_three : ∀ (n : Nat) (zs : List Int), zs.length = 4 + 3 * n →
    zs = [zs.getD 0 0, zs.getD 1 0, zs.getD 2 0, zs.getD 3 0] ++ (List.range n).flatMap fun i => [zs.getD (4 + 3 * i) 0, zs.getD (5 + 3 * i) 0, zs.getD (6 + 3 * i) 0]
  | 0, zs, h => by
    match zs, h with
    | [a, b, c, d], _ => rfl
  | n + 1, zs, h => by
    have ht : (zs.take (4 + 3 * n)).length = 4 + 3 * n := by rw [List.length_take]; omega
    have ih := split_three n (zs.take (4 + 3 * n)) ht
    have g : ∀ i, i < 4 + 3 * n → (zs.take (4 + 3 * n)).getD i 0 = zs.getD i 0 := fun i hi => by
      rw [List.getD_eq_getElem?_getD, List.getD_eq_getElem?_getD, List.getElem?_take_of_lt hi]
    have gd : ∀ i, (zs.drop (4 + 3 * n)).getD i 0 = zs.getD (4 + 3 * n + i) 0 := fun i => by
      rw [List.getD_eq_getElem?_getD, List.getD_eq_getElem?_getD, List.getElem?_drop]
    have hd : zs.drop (4 + 3 * n) = [zs.getD (4 + 3 * n) 0, zs.getD (5 + 3 * n) 0, zs.getD (6 + 3 * n) 0] := by
      have hl : (zs.drop (4 + 3 * n)).length = 3 := by rw [List.length_drop]; omega
      have e0 := gd 0
      have e1 := gd 1
      have e2 := gd 2
      generalize zs.drop (4 + 3 * n) = ds at *
      match ds, hl with
      | [a, b, c], _ =>
        simp only [List.getD_cons_zero, List.getD_cons_succ] at e0 e1 e2
        rw [e0, e1, e2, Nat.add_zero, show 4 + 3 * n + 1 = 5 + 3 * n by omega, show 4 + 3 * n + 2 = 6 + 3 * n by omega]
    conv => lhs; rw [← List.take_append_drop (4 + 3 * n) zs, ih, hd]
    rw [List.range_succ, List.flatMap_append, g 0 (by omega), g 1 (by omega), g 2 (by omega), g 3 (by omega), List.append_assoc]
    congr 1
    simp only [List.flatMap_cons, List.flatMap_nil, List.append_nil]
    congr 1
    have : ∀ l : List Nat, (∀ i ∈ l, i < n) → (l.flatMap fun i => [(zs.take (4 + 3 * n)).getD (4 + 3 * i) 0, (zs.take (4 + 3 * n)).getD (5 + 3 * i) 0, (zs.take (4 + 3 * n)).getD (6 + 3 * i) 0]) = l.flatMap fun i => [zs.getD (4 + 3 * i) 0, zs.getD (5 + 3 * i) 0, zs.getD (6 + 3 * i) 0] := by
      intro l hl
      induction l with
      | nil => rfl
      | cons i t iht =>
        have hi := hl i (by simp)
        rw [List.flatMap_cons, List.flatMap_cons, iht (fun k hk => hl k (by simp [hk])), g _ (by omega), g _ (by omega), g _ (by omega)]
    exact this _ (fun i hi => List.mem_range.1 hi)
theorem ed_grp {bs : List UInt8} {i : Nat} (h : two bs (5 + 3 * i) ≤ 4095) : edNums (grp bs i) = [fld bs (4 + 3 * i), fld bs (5 + 3 * i), fld bs (6 + 3 * i)] := by
  have h2 := fld_lo bs (5 + 3 * i)
  have h3 := fld_hi bs (5 + 3 * i)
  have h4 := fld_lo bs (6 + 3 * i)
  have h5 := fld_hi bs (6 + 3 * i)
  have e : two bs (5 + 3 * i) = 256 * fld bs (5 + 3 * i) + fld bs (6 + 3 * i) := by unfold two; rw [show 5 + 3 * i + 1 = 6 + 3 * i by omega]
  unfold edNums grp
  dsimp only
  rw [mcode_met (by omega), Int.toNat_of_nonneg (by omega), e]
  congr 1
  congr 1
  · omega
  · congr 1; omega
theorem nums_eq {bs : List UInt8} (hl : lenB bs = true) (hc : codesB bs (nOf bs) = true) :
    [fld bs 0, fld bs 1, fld bs 2, fld bs 3] ++ ((grps bs (nOf bs)).flatMap edNums) = bs.map fun b => (b.toNat : Int) := by
  have h := split_three (nOf bs) (bs.map fun b => (b.toNat : Int)) (by rw [List.length_map]; exact len_eq hl)
  rw [h]
  simp only [← fld_nat]
  congr 1
  unfold grps
  rw [List.flatMap_map]
  have : ∀ l : List Nat, (∀ i ∈ l, i < nOf bs) → (l.flatMap fun i => edNums (grp bs i)) = l.flatMap fun i => [fld bs (4 + 3 * i), fld bs (5 + 3 * i), fld bs (6 + 3 * i)] := by
    intro l hl'
    induction l with
    | nil => rfl
    | cons i t iht => rw [List.flatMap_cons, List.flatMap_cons, iht (fun k hk => hl' k (by simp [hk])), ed_grp (codes_at hc (hl' i (by simp)))]
  exact this _ (fun i hi => List.mem_range.1 hi)
theorem enc_data {bs : List UInt8} : (strOfNums (bs.map fun b => (b.toNat : Int))).data.toList = bs := by
  simp [strOfNums, Function.comp_def]
theorem two_parts (bs : List UInt8) : two bs 0 / 256 = fld bs 0 ∧ two bs 0 % 256 = fld bs 1 := by
  unfold two; have := fld_lo bs 1; have := fld_hi bs 1; simp only [Nat.zero_add]; omega
/-- Written again, a text that was read is itself, if its time's code is the least. -/
theorem enc_eq {s : ByteArray} (hl : lenB s.data.toList = true) (hc : codesB s.data.toList (nOf s.data.toList) = true) (he : exB s.data.toList = true) :
    strOfNums (tcNums (two s.data.toList 0) (timOf s.data.toList) (grps s.data.toList (nOf s.data.toList)) (grps s.data.toList (nOf s.data.toList)).length) = s := by
  have h := nums_eq hl hc
  unfold tcNums
  rw [List.take_length, grps_len]
  have e1 : ((Tim.tcode (timOf s.data.toList) : Nat) : Int) = fld s.data.toList 2 := by
    unfold exB at he
    rw [beq_iff_eq.1 he]; have := fld_lo s.data.toList 2; omega
  rw [e1, n_eq, (two_parts _).1, (two_parts _).2, h]
  apply ByteArray.ext
  apply Array.ext'
  exact enc_data
theorem enc_ne {s : ByteArray} (h3 : 4 ≤ s.data.toList.length) (he : exB s.data.toList = false) (ms : List R) (x y : Int) (j : Nat) (hy : y = timOf s.data.toList) (ht : Tim.tcode y ≤ 223) : strOfNums (tcNums x y ms j) ≠ s := by
  intro e
  have e1 := congrArg (fun t : ByteArray => t.data.toList[2]?) e
  subst hy
  have e2 : (strOfNums (tcNums x (timOf s.data.toList) ms j)).data.toList[2]? = some (UInt8.ofNat (Tim.tcode (timOf s.data.toList))) := by
    simp [strOfNums, tcNums]
  simp only [e2] at e1
  rw [List.getElem?_eq_getElem (by omega)] at e1
  have e3 := Option.some.inj e1
  unfold exB at he
  have e4 : (fld s.data.toList 2).toNat = Tim.tcode (timOf s.data.toList) := by
    unfold fld
    rw [List.getD_eq_getElem?_getD, List.getElem?_eq_getElem (by omega)]
    show ((s.data.toList[2].toNat : Int)).toNat = _
    rw [← e3, UInt8.toNat_ofNat']; omega
  rw [e4] at he
  simp at he
end Av
end Go.Proofs.YtlcppgnnlgigmaaDoor
namespace Go.Proofs.YtlcppgnnlgigmaaDoor
open Go.ChangeShapes Go.WideShapes Go.ChangeAt Go.RowKit
set_option linter.unusedVariables false
set_option linter.unusedSimpArgs false
attribute [local go_sem ↓] Go.wp_at_zero Go.wp_at_succ
attribute [local go_sem] Go.strOfNums_size ByteArray.size_append
namespace Av
open W1 Ed
theorem sBx3 {w : World} {b : Nat} {x y : Int} {v : Value} (h : Bx3 w b x y v) : Bx3 w b x y v ∧ w.cell? ⟨b, 0, none⟩ = some (.int .i64 x) ∧ w.cell? ⟨b, 1, none⟩ = some (.int .i64 y) ∧ w.cell? ⟨b, 2, none⟩ = some v := ⟨h, h⟩
theorem sXA {w : World} {b g o : Nat} {x y ad mt : Int} {v : Value} (h : Bx3 w b x y v) (hA : At w g o ⟨ad, mt⟩) : (Bx3 w b x y v ∧ At w g o ⟨ad, mt⟩) ∧ w.cell? ⟨b, 2, none⟩ = some v ∧ w.cell? ⟨g, o, none⟩ = some (.int .i64 ad) ∧ w.cell? ⟨g, o + 1, none⟩ = some (.int .i64 mt) := ⟨⟨h, hA⟩, h.2.2, hA.1, hA.2⟩
end Av
end Go.Proofs.YtlcppgnnlgigmaaDoor
namespace Go.Proofs.YtlcppgnnlgigmaaDoor
open Go.ChangeShapes Go.WideShapes Go.ChangeAt Go.RowKit
set_option linter.unusedVariables false
namespace Av
open W1 Ed De
def HV (w : World) (b : Nat) (x y : Int) (v : Value) : Prop := w.heap[b]? = some (.cells #[.int .i64 x, .int .i64 y, v] 86 (0, 0))
theorem HV.bx {w : World} {b : Nat} {x y : Int} {v : Value} (h : HV w b x y v) : Bx3 w b x y v := by
  unfold HV at h; exact ⟨by simp [World.cell?, h], by simp [World.cell?, h], by simp [World.cell?, h]⟩
theorem HV.free {w : World} {b : Nat} {x y : Int} {v : Value} (h : HV w b x y v) (i : Nat) : w.frozen? ⟨b, i, none⟩ = false := by
  unfold HV at h; simp [World.frozen?, h]
theorem HV.lt {w : World} {b : Nat} {x y : Int} {v : Value} (h : HV w b x y v) : b < w.heap.size := lt_of_block h
theorem HV.drew {w : World} {b : Nat} {x y : Int} {v : Value} (h : HV w b x y v) : HV w.drew b x y v := h
theorem HV.under {w w' : World} {B b : Nat} {x y : Int} {v : Value} (h : HV w b x y v) (hb : Below B w w') (hl : b < B) : HV w' b x y v := (hb.block b hl).trans h
theorem HV.below {w w' : World} {b : Nat} {x y : Int} {v : Value} (h : HV w b x y v) (hb : Below w.heap.size w w') : HV w' b x y v := h.under hb h.lt
theorem HV.grown {w w' : World} {b : Nat} {x y : Int} {v : Value} {r : Option Nat} (h : HV w b x y v) (hg : w.grownBy w' r) (hne : some b ≠ r) : HV w' b x y v := (hg.block b h.lt hne).trans h
theorem hv_new (w : World) (x y : Int) (v : Value) : HV (w.alloc (.cells #[.int .i64 x, .int .i64 y, v] 86)) w.heap.size x y v := by
  unfold HV; exact heap_alloc_new w _
theorem HV.row {w : World} {b : Nat} {x y : Int} {v u : Value} {base n : Nat} {xs : List Value} (h : HV w b x y v) (hr : w.ownsRow base 68 2 u n xs) : some b ≠ u.ownBlock := by
  rcases hr.2 with ⟨rfl, _⟩ | ⟨g, cap, cur, rfl, _, hgb, _⟩
  · simp [Value.ownBlock]
  · intro e'
    obtain rfl : b = g := by simpa [Value.ownBlock] using e'
    have := (show w.heap[b]? = _ from h).symm.trans hgb
    simp at this
theorem heap_set {w : World} {b i : Nat} {c : Array Value} {t : TypeId} {fr : Nat × Nat} (u : Value) (h : w.heap[b]? = some (.cells c t fr)) : (w.setCell ⟨b, i, none⟩ u).heap[b]? = some (.cells (c.setIfInBounds i u) t fr) := by
  have hlt := lt_of_block h
  have h' : w.heap[b] = .cells c t fr := by simpa [Array.getElem?_eq_getElem hlt] using h
  show (w.heap.modify b _)[b]? = _
  rw [Array.getElem?_eq_getElem (by simpa using hlt), Array.getElem_modify_self, h']
  rfl
theorem HV.set {w : World} {b : Nat} {x y : Int} {v : Value} (u : Value) (h : HV w b x y v) : HV (w.setCell ⟨b, 2, none⟩ u) b x y u := heap_set u h
theorem HV.put {w : World} {b : Nat} {x y x' y' : Int} {v u : Value} (h : HV w b x y v) : HV (((w.setCell ⟨b, 0, none⟩ (.int .i64 x')).setCell ⟨b, 1, none⟩ (.int .i64 y')).setCell ⟨b, 2, none⟩ u) b x' y' u :=
  heap_set u (heap_set (.int .i64 y') (heap_set (.int .i64 x') h))
theorem own_below {w w' : World} {base : Nat} {v : Value} {n : Nat} {xs : List Value} (h : w.ownsRow base 68 2 v n xs) (hb : Below w.heap.size w w') : w'.ownsRow base 68 2 v n xs := by
  refine h.kept (row := none) ⟨hb.os, hb.tape, hb.output, hb.size, fun k hk _ => hb.block k hk⟩ ?_
  cases v.ownBlock
  · exact .inl rfl
  · exact .inr (by simp)
theorem own_put {w : World} {base b : Nat} {v : Value} {n : Nat} {xs : List Value} {a0 a1 a2 : Value} (h : w.ownsRow base 68 2 v n xs) (hne : some b ≠ v.ownBlock) : (((w.setCell ⟨b, 0, none⟩ a0).setCell ⟨b, 1, none⟩ a1).setCell ⟨b, 2, none⟩ a2).ownsRow base 68 2 v n xs :=
  ownsRow_setCell_other (ownsRow_setCell_other (ownsRow_setCell_other h (a := ⟨b, 0, none⟩) (fun e => hne e.symm) a0) (a := ⟨b, 1, none⟩) (fun e => hne e.symm) a1) (a := ⟨b, 2, none⟩) (fun e => hne e.symm) a2
theorem below_put {B b : Nat} {w0 w : World} {a0 a1 a2 : Value} (h : Below B w0 w) (hb : B ≤ b) : Below B w0 (((w.setCell ⟨b, 0, none⟩ a0).setCell ⟨b, 1, none⟩ a1).setCell ⟨b, 2, none⟩ a2) :=
  ((h.setCell (p := ⟨b, 0, none⟩) hb _).setCell (p := ⟨b, 1, none⟩) hb _).setCell (p := ⟨b, 2, none⟩) hb _
theorem extract_two (s : ByteArray) (i : Nat) (h : i + 1 < s.size) : s.extract i (i + 2) = ⟨#[s[i]'(by omega), s[i + 1]]⟩ := by
  have h' : i + 1 < s.data.size := h
  apply ByteArray.ext
  apply Array.ext'
  rw [ByteArray.data_extract, Array.toList_extract]
  show List.take (i + 2 - i) (List.drop i s.data.toList) = [s.data[i], s.data[i + 1]]
  rw [List.drop_eq_getElem_cons (by simp; omega), List.drop_eq_getElem_cons (by simp; omega), show i + 2 - i = 2 by omega]
  simp
theorem fld_at (s : ByteArray) (i : Nat) (h : i < s.size) : ((s[i].toNat : Nat) : Int) = fld s.data.toList i := by
  unfold fld
  have h' : i < s.data.size := h
  rw [List.getD_eq_getElem?_getD, Array.getElem?_toList, Array.getElem?_eq_getElem h']; rfl
theorem idx_at (W : World) (s : ByteArray) (k : Int) (n : Nat) (hk : k = n) (hn : n < s.size) : (Instr.index 9 (.string s) (.int .i64 k)).run Tryd.prog W = .ok (.int .u8 (fld s.data.toList n)) W := by
  subst hk
  rw [run_index_string W 9 s .i64 _ Tryd.underlying9, dif_pos ⟨by omega, by omega⟩]
  simp only [Int.toNat_natCast]
  rw [fld_at s n hn]
theorem two_at (s : ByteArray) (i : Nat) (h : i + 1 < s.size) : 256 * ((s[i].toNat : Nat) : Int) + ((s[i + 1].toNat : Nat) : Int) = two s.data.toList i := by
  unfold two
  rw [fld_at s i (by omega), fld_at s (i + 1) h]
theorem wrapF (bs : List UInt8) (i : Nat) : IntKind.i64.wrap (fld bs i) = fld bs i := by have := fld_lo bs i; have := fld_hi bs i; rw [IntWalk.i64_left]; unfold wrap64; omega
end Av
end Go.Proofs.YtlcppgnnlgigmaaDoor
namespace Go.Proofs.YtlcppgnnlgigmaaDoor
open Go.ChangeShapes Go.WideShapes Go.ChangeAt Go.RowKit
set_option linter.unusedVariables false
set_option linter.unusedSimpArgs false
attribute [local go_sem ↓] Go.wp_at_zero Go.wp_at_succ
namespace Av
open W1 Ed De By Sr Dw
theorem getD_left {ms : List R} {m : R} {i : Nat} (h : i < ms.length) : (ms ++ [m]).getD i R.zero = ms.getD i R.zero := by
  rw [List.getD_eq_getElem?_getD, List.getD_eq_getElem?_getD, List.getElem?_append_left h]
theorem getD_last {ms : List R} {m : R} : (ms ++ [m]).getD ms.length R.zero = m := by
  rw [List.getD_eq_getElem?_getD, List.getElem?_append_right (Nat.le_refl _)]; simp
theorem all_snoc {ms : List R} {m : R} (h : allN ms ms.length = true) (hm : okN m = true) (hk : ∀ x ∈ ms, x.ad < m.ad) : allN (ms ++ [m]) (ms ++ [m]).length = true := by
  have e : ∀ j, j ≤ ms.length → allN (ms ++ [m]) j = allN ms j := by
    intro j hj
    unfold allN Ri.all
    rw [Bool.eq_iff_iff, List.all_eq_true, List.all_eq_true]
    have st : ∀ i, i < j → Ri.step R.zero okN R.ad (ms ++ [m]) i = Ri.step R.zero okN R.ad ms i := by
      intro i hi
      unfold Ri.step
      rw [getD_left (by omega), getD_left (i := i - 1) (by omega)]
    exact ⟨fun H i hi => by rw [← st i (List.mem_range.1 hi)]; exact H i hi, fun H i hi => by rw [st i (List.mem_range.1 hi)]; exact H i hi⟩
  rw [List.length_append, List.length_cons, List.length_nil]
  refine Ri.all_succ (by rw [show Ri.all R.zero okN R.ad (ms ++ [m]) ms.length = allN (ms ++ [m]) ms.length from rfl, e _ (Nat.le_refl _)]; exact h) ?_
  unfold Ri.step
  rw [getD_last, hm]
  by_cases h0 : ms.length = 0
  · simp [h0]
  · rw [getD_left (i := ms.length - 1) (by omega)]
    have : (ms.getD (ms.length - 1) R.zero).ad < m.ad := by
      apply hk
      rw [List.getD_eq_getElem?_getD, List.getElem?_eq_getElem (by omega)]
      exact List.getElem_mem _
    rw [decide_eq_true this, Bool.or_true]; rfl
theorem small_ok {i r : Nat} (h1 : 1 ≤ i) (h2 : i ≤ 8) (h3 : 1 ≤ r) (h4 : r ≤ 256) : okN ⟨(i : Int), (r : Int)⟩ = true := by
  unfold okN toldB exM inB
  dsimp only
  rw [Mtr.mcode_small (n := (r : Int)) (by omega) (by omega), decide_eq_true (by omega), decide_eq_true (by omega), decide_eq_true (by omega), decide_eq_true (by omega)]; simp
theorem HV.wrote {w w' : World} {b p : Nat} {x y : Int} {v : Value} (h : HV w b x y v) (hw : Wrote w w' p) (hne : b ≠ p) : HV w' b x y v := (hw.block b hne).trans h
theorem own_other {p : Nat} {w w' : World} {base : Nat} {v : Value} {n : Nat} {xs : List Value} (h : w.ownsRow base 68 2 v n xs) (hb : w.grownBy w' (some p)) (hp : p < base) : w'.ownsRow base 68 2 v n xs := by
  refine h.kept (row := some p) hb ?_
  cases hv : v.ownBlock with
  | none => exact .inl rfl
  | some k =>
    refine .inr (fun e => ?_)
    have := (h.lt k hv).1
    have := Option.some.inj e
    omega
theorem formU (V : World) (base : Nat) (x y : Int) (hb : base ≤ V.heap.size) :
    HV ((V.alloc (.cells #[] 68)).alloc (.cells #[.int .i64 x, .int .i64 y, .slice (some ⟨V.heap.size, 0, none⟩) 0 0] 86)) (V.heap.size + 1) x y (.slice (some ⟨V.heap.size, 0, none⟩) 0 0) ∧
    ((V.alloc (.cells #[] 68)).alloc (.cells #[.int .i64 x, .int .i64 y, .slice (some ⟨V.heap.size, 0, none⟩) 0 0] 86)).ownsRow base 68 2 (.slice (some ⟨V.heap.size, 0, none⟩) 0 0) ([] : List R).length (Ed.flat []) := by
  have h := hv_new (V.alloc (.cells #[] 68)) x y (.slice (some ⟨V.heap.size, 0, none⟩) 0 0)
  rw [World.size_alloc] at h
  exact ⟨h, (Ed.own_empty V base hb).alloc _⟩
theorem val_small {y : Int} (h : y = 6 ∨ y = 15 ∨ y = 30) : Tim.valB y = true := by
  rcases h with rfl | rfl | rfl <;> decide +kernel
set_option maxRecDepth 100000 in
set_option maxHeartbeats 4000000 in
theorem drawTc (p : Nat) (a : Option Addr) (bs : List UInt8) (cap n : Nat) (w : World) (hn : n ≤ 1099511600000) (hm : bs.length ≤ 1099511627776) (hs : Src w p a bs cap n) :
    Calls Tryd.prog 48 #[.pointer (some ⟨p, 0, none⟩)] w fun e w' => ∃ (x y : Int) (g : Option Addr) (ms : List R) (c : Nat), e = .returned (.agg #[.int .i64 x, .int .i64 y, .slice g ms.length c]) ∧ tcB x y ms = true ∧ Ed.Lst w' g ms w.heap.size w'.heap.size ∧ w.grownBy w' (some p) ∧ Src w' p a bs cap (n + 111) := by
  have RLX : Hid ((bs ≠ [] → ∀ g off, a = some ⟨g, off, none⟩ → g < w.heap.size) ∧ p < w.heap.size) := hide ⟨fun e0 g off e => reads_lt hs.rd e0 e, src_lt hs⟩
  have hp := src_lt hs
  have RL : Hid (bs ≠ [] → ∀ g off, a = some ⟨g, off, none⟩ → g < w.heap.size) := hide (fun e0 g off e => reads_lt hs.rd e0 e)
  have A0 : Hid (w.grownBy (w.alloc (.cells #[.int .i64 0, .int .i64 0, .slice none 0 0] 86)) (some p)) := hide (but_alloc (but_refl _ _) _)
  have S0 := hide (src_below hs ((Below.refl _ _).alloc (Nat.le_refl _) (.cells #[.int .i64 0, .int .i64 0, .slice none 0 0] 86)))
  have T0 : Hid (HV (w.alloc (.cells #[.int .i64 0, .int .i64 0, .slice none 0 0] 86)) w.heap.size 0 0 (.slice none 0 0)) := hide (hv_new _ _ _ _)
  have hz0 : (w.alloc (.cells #[.int .i64 0, .int .i64 0, .slice none 0 0] 86)).heap.size = w.heap.size + 1 := by simp
  clear hs
  go_enter Tryd.func48, Tryd.ntmps48
  go_wp2_with fail
  generalize hW : w.alloc (.cells #[.int .i64 0, .int .i64 0, .slice none 0 0] 86) = W0 at *
  clear hW
  refine (seq p a bs cap n _ (by omega) hm (unhide S0)).mono ?_
  rintro e w1 ⟨x, rfl, hx, g1, s1⟩
  have T1 : Hid (HV (w1.alloc (.cells #[.int .i64 6, .int .i64 15, .int .i64 30] 3)) w.heap.size 0 0 (.slice none 0 0)) := hide (HV.below (show HV w1 w.heap.size 0 0 (.slice none 0 0) from (g1.block w.heap.size (by omega) (by simp; omega)).trans (unhide T0)) ((Below.refl _ _).alloc (Nat.le_refl _) _))
  have hs1 : w.heap.size < w1.heap.size := by have := g1.size; omega
  have S1 := hide (src_below s1 ((Below.refl _ _).alloc (Nat.le_refl _) (.cells #[.int .i64 6, .int .i64 15, .int .i64 30] 3)))
  have G1 := hide (but_alloc (but_trans (unhide A0) g1) (.cells #[.int .i64 6, .int .i64 15, .int .i64 30] 3))
  have C1 : Hid (∀ o, (w1.alloc (.cells #[.int .i64 6, .int .i64 15, .int .i64 30] 3)).cell? ⟨w1.heap.size, o, none⟩ = (#[.int .i64 6, .int .i64 15, .int .i64 30] : Array Value)[o]?) := hide (fun o => World.cell?_alloc_new _ _ _ _)
  clear s1 g1 A0 S0 T0
  go_wp2_with fail
  generalize w1.alloc (.cells #[.int .i64 6, .int .i64 15, .int .i64 30] 3) = u at *
  refine (next p a bs cap (n + 12) 3 _ (by omega) (by omega) (by omega) hm (unhide S1)).mono ?_
  rintro e w2 ⟨k, rfl, hk, wr2, s2⟩
  obtain ⟨y, hy, hyy⟩ : ∃ y : Int, w2.cell? ⟨w1.heap.size, k, none⟩ = some (.int .i64 y) ∧ (y = 6 ∨ y = 15 ∨ y = 30) := by
    have hc := (wr2.cell (b := w1.heap.size) (by omega) k).trans (unhide C1 k)
    have h3 : k = 0 ∨ k = 1 ∨ k = 2 := by omega
    rcases h3 with rfl | rfl | rfl
    · exact ⟨6, hc, .inl rfl⟩
    · exact ⟨15, hc, .inr (.inl rfl)⟩
    · exact ⟨30, hc, .inr (.inr rfl)⟩
  have hy' : w2.cell? ⟨w1.heap.size, 0 + k, none⟩ = some (.int .i64 y) := by rw [Nat.zero_add]; exact hy
  have HVY := hide (val_small hyy)
  clear hyy
  have k0 : (0 : Int) ≤ (k : Int) := by omega
  have k1 : (k : Int) < 3 := by omega
  have G2 := hide (but_trans (unhide G1) (but_wrote wr2))
  have T2 : Hid (HV w2 w.heap.size 0 0 (.slice none 0 0)) := hide ((unhide T1).wrote wr2 (by omega))
  have S2 := hide s2
  have hs2 : w.heap.size ≤ w2.heap.size := (unhide G2).size
  clear s2 wr2 C1 G1 T1 S1
  have F3 := formU w2 (w.heap.size + 1) (x : Int) y (by have := (unhide T2).lt; omega)
  have H3 := hide F3.1
  have O3 := hide F3.2
  have G3 := hide (but_alloc (but_alloc (unhide G2) (.cells #[] 68)) (.cells #[.int .i64 (x : Int), .int .i64 y, .slice (some ⟨w2.heap.size, 0, none⟩) 0 0] 86))
  have S3 := hide (src_below (src_below (unhide S2) ((Below.refl _ _).alloc (Nat.le_refl _) (.cells #[] 68))) ((Below.refl _ _).alloc (Nat.le_refl _) (.cells #[.int .i64 (x : Int), .int .i64 y, .slice (some ⟨w2.heap.size, 0, none⟩) 0 0] 86)))
  have T3 := hide (((unhide T2).below ((Below.refl _ _).alloc (Nat.le_refl _) (.cells #[] 68))).below ((Below.refl _ _).alloc (Nat.le_refl _) (.cells #[.int .i64 (x : Int), .int .i64 y, .slice (some ⟨w2.heap.size, 0, none⟩) 0 0] 86)))
  have hw2 := (unhide T2).lt
  clear F3 G2 S2 T2
  go_wp2_with fail
  clear hy hy'
  obtain ⟨B, hBB⟩ : ∃ B, w2.heap.size + 1 = B := ⟨_, rfl⟩
  have hB : w.heap.size ≤ B := by omega
  have hB2 : w.heap.size < B := by omega
  rw [hBB] at H3
  generalize hW : (w2.alloc (.cells #[] 68)).alloc (.cells #[.int .i64 (x : Int), .int .i64 y, .slice (some ⟨w2.heap.size, 0, none⟩) 0 0] 86) = W3 at *
  clear hW
  rw [hBB]
  clear hBB
  go_loopw [4] (fun i wr => ∃ (j : Nat) (v : Value) (ms : List R), j ≤ 8 ∧ i = .int .i64 ((j : Int) + 1) ∧ ms.length ≤ j ∧ Hid (allN ms ms.length = true) ∧ Hid (∀ m ∈ ms, m.ad ≤ (j : Int)) ∧ Hid (HV wr B x y v) ∧ Hid (wr.ownsRow (w.heap.size + 1) 68 2 v ms.length (Ed.flat ms)) ∧ Hid (w.grownBy wr (some p)) ∧ Hid (Src wr p a bs cap (n + 15 + 12 * j)) ∧ Hid (HV wr w.heap.size 0 0 (.slice none 0 0))) (fun i _ => (9 - intOf i).toNat)
  case atStart => exact ⟨0, _, [], by omega, rfl, by simp, hide rfl, hide (fun m hm => by cases hm), H3, O3, G3, hide ((unhide S3).mono (by omega)), T3⟩
  case round =>
    obtain ⟨j, v, ms, hj, rfl, hml, hal, hle, hhv, how, hgr, hsr, htr⟩ := hrel
    by_cases hlt : j < 8
    · have hj1 : (j : Int) + 1 ≤ 8 := by omega
      go_wp2_with fail
      refine (chance p a bs cap (n + 15 + 12 * j) 3 _ (by omega) (by omega) (by omega) hm (unhide hsr)).mono ?_
      rintro e w4 ⟨b, rfl, wr4, s4⟩
      have S4 := hide s4
      have G4 := hide (but_trans (unhide hgr) (but_wrote wr4))
      have H4 := hide ((unhide hhv).wrote wr4 (by omega))
      have T4 := hide ((unhide htr).wrote wr4 (by omega))
      have O4 := hide (own_other (unhide how) (but_wrote wr4) (by omega))
      clear s4 wr4 hsr hgr hhv htr how
      cases b
      · go_wp2_with fail
        go_roundw
        case rel => exact ⟨j + 1, v, ms, by omega, by go_num, by omega, hal, hide (fun m hmm => by have := unhide hle m hmm; omega), H4, O4, G4, hide ((unhide S4).mono (by omega)), T4⟩
        case measure => simp [intOf]; omega
      · have HVV := hide ((unhide H4).drew)
        have TV := hide ((unhide T4).drew)
        have OV := hide ((unhide O4).drew)
        have GV : Hid (w.grownBy w4.drew (some p)) := hide (by have h := unhide G4; exact ⟨h.os, h.tape, h.output, h.size, h.block⟩)
        have SV : Hid (Src w4.drew p a bs cap (n + 15 + 12 * j + 3)) := hide (src_blocks (unhide S4) rfl (fun _ _ _ _ => rfl))
        go_wp2_with fail
        refine wp_region_noPanic ?_
        refine wp_region_held_drew (S := fun _ => True) (by kernel_rfl) trivial (fun hHeld => ?_)
        clear H4 T4 O4 G4 S4
        generalize hV : w4.drew = V at *
        clear hV
        have hcell := (unhide HVV).bx.2.2
        have hVs : w.heap.size ≤ V.heap.size := (unhide GV).size
        (refine Rg.tk (i := 0) (d := 20) (v := ?_) rfl rfl (by kernel_rfl) (by kernel_rfl) (by kernel_rfl) (fun _ _ _ h => h) (by rfl) ?_ (by assumption) ?_; rotate_left; (focus (intro w0 hSw; (try dsimp only at hSw); go_simp; (try with_reducible rfl))); (try simp only [Act.put, List.setIfInBounds_toArray, List.set_cons_zero, List.set_cons_succ]))
        (refine Rg.tk (i := 2) (d := 22) (v := ?_) rfl rfl (by kernel_rfl) (by kernel_rfl) (by kernel_rfl) (fun _ _ _ h => h) (by rfl) ?_ (by assumption) ?_; rotate_left; (focus (intro w0 hSw; (try dsimp only at hSw); go_simp; (try with_reducible rfl))); (try simp only [Act.put, List.setIfInBounds_toArray, List.set_cons_zero, List.set_cons_succ]))
        (refine Rg.tk (i := 3) (d := 23) (v := ?_) rfl rfl (by kernel_rfl) (by kernel_rfl) (by kernel_rfl) (fun _ _ _ h => h) (by rfl) ?_ (by assumption) ?_; rotate_left; (focus (intro w0 hSw; (try dsimp only at hSw); go_simp; (try with_reducible rfl))); (try simp only [Act.put, List.setIfInBounds_toArray, List.set_cons_zero, List.set_cons_succ]))
        (refine wpAnyH_ready (rs := [1, 4]) (by kernel_rfl) (by simp) ?_; refine AllReadyH.cons (o := _) rfl (fun K hK => ?_) (AllReadyH.cons (o := _) rfl (fun K hK => ?_) (AllReadyH.nil)))
        · go_simp
          clear hHeld
          refine hK.out _ _ trivial (fun hHeld => ?_)
          clear hK K
          (try simp only [Act.put, List.setIfInBounds_toArray, List.set_cons_zero, List.set_cons_succ])
          (refine wpAnyH_ready (rs := [4]) (by kernel_rfl) (by simp) ?_; refine AllReadyH.cons (o := _) rfl (fun K hK => ?_) AllReadyH.nil; go_simp)
          refine (metric p a bs cap (n + 15 + 12 * j + 3) _ (by omega) hm (unhide SV)).mono ?_
          rintro e w5 ⟨r, rfl, r1, r2, g5, s5⟩
          have H5 := hide (((g5.block B (unhide HVV).lt (by simp; omega))).trans (unhide HVV))
          have T5 := hide (((g5.block w.heap.size (unhide TV).lt (by simp; omega))).trans (unhide TV))
          have O5 := hide (own_other (unhide OV) g5 (by omega))
          have G5 := hide (but_trans (unhide GV) g5)
          have S5 := hide s5
          have hs5 : w.heap.size ≤ w5.heap.size := (unhide G5).size
          clear g5 s5
          have H6 := hide (HV.below (show HV w5 B x y v from unhide H5) ((Below.refl _ _).alloc (Nat.le_refl _) (.cells #[.int .i64 ((j : Int) + 1), .int .i64 (r : Int)] 68)))
          have T6 := hide (HV.below (show HV w5 w.heap.size 0 0 (.slice none 0 0) from unhide T5) ((Below.refl _ _).alloc (Nat.le_refl _) (.cells #[.int .i64 ((j : Int) + 1), .int .i64 (r : Int)] 68)))
          have O6 := hide ((unhide O5).alloc (.cells #[.int .i64 ((j : Int) + 1), .int .i64 (r : Int)] 68))
          have G6 := hide (but_alloc (unhide G5) (.cells #[.int .i64 ((j : Int) + 1), .int .i64 (r : Int)] 68))
          have S6 := hide (src_below (unhide S5) ((Below.refl _ _).alloc (Nat.le_refl _) (.cells #[.int .i64 ((j : Int) + 1), .int .i64 (r : Int)] 68)))
          have R6 := hide (Ed.rm_new w5 (⟨(j : Int) + 1, (r : Int)⟩ : R))
          have hcell5 := (show HV w5 B x y v from unhide H5).bx.2.2
          clear hHeld
          refine hK.out _ _ trivial (fun hHeld => ?_)
          clear hK K
          (try simp only [Act.put, List.setIfInBounds_toArray, List.set_cons_zero, List.set_cons_succ])
          (refine Rg.tk (i := 5) (d := 25) (v := ?_) rfl rfl (by kernel_rfl) (by kernel_rfl) (by kernel_rfl) (fun _ _ _ h => h) (by rfl) ?_ (by assumption) ?_; rotate_left; (focus (intro w0 hSw; (try dsimp only at hSw); go_simp; (try with_reducible rfl))); (try simp only [Act.put, List.setIfInBounds_toArray, List.set_cons_zero, List.set_cons_succ]))
          (refine wpAnyH_ready (rs := [6]) (by kernel_rfl) (by simp) ?_; refine AllReadyH.cons (o := _) rfl (fun K hK => ?_) AllReadyH.nil; go_simp)
          clear hHeld
          refine hK.out _ _ trivial (fun hHeld => ?_)
          clear hK K
          (try simp only [Act.put, List.setIfInBounds_toArray, List.set_cons_zero, List.set_cons_succ])
          (refine wpAnyH_ready (rs := [7]) (by kernel_rfl) (by simp) ?_; refine AllReadyH.cons (o := _) rfl (fun K hK => ?_) AllReadyH.nil; rw [if_pos (by rfl)])
          refine Ed.wp_apS (unhide O6) w5.heap.size 0 1 1 [(⟨(j : Int) + 1, (r : Int)⟩ : R)] rfl (unhide R6) (by simp only [List.length_cons, List.length_nil]; omega) (by simp; omega) _ _ rfl rfl rfl rfl ?_
          intro v7 w7 o7 g7
          obtain ⟨gq, cq, rfl, _, _⟩ := o7.form (by simp)
          rw [List.length_append, List.length_cons, List.length_nil] at o7 ⊢
          have O7 : Hid (w7.ownsRow (w.heap.size + 1) 68 2 (.slice (some ⟨gq, 0, none⟩) (ms.length + 1) cq) (ms ++ [(⟨(j : Int) + 1, (r : Int)⟩ : R)]).length (Ed.flat (ms ++ [(⟨(j : Int) + 1, (r : Int)⟩ : R)]))) := hide (by rw [List.length_append, List.length_cons, List.length_nil]; exact o7)
          have G7 := hide (but_own (unhide G6) g7 (fun k hk => by have := ((unhide O6).lt k hk).1; omega))
          have H7 := hide ((unhide H6).grown g7 ((unhide H6).row (unhide O6)))
          have T7 := hide ((unhide T6).grown g7 ((unhide T6).row (unhide O6)))
          have S7 := hide (src_grown (unhide S6) g7 (fun e => by have := ((unhide O6).lt p e.symm).1; omega) (fun e0 g off e e1 => by have := unhide RL e0 g off e; have := ((unhide O6).lt g e1.symm).1; omega))
          clear o7 g7
          clear hHeld
          refine hK.out _ _ trivial (fun hHeld => ?_)
          clear hK K
          (try simp only [Act.put, List.setIfInBounds_toArray, List.set_cons_zero, List.set_cons_succ])
          (refine Rg.tk (i := 8) (d := 28) (v := ?_) rfl rfl (by kernel_rfl) (by kernel_rfl) (by kernel_rfl) (fun _ _ _ h => h) (by rfl) ?_ (by assumption) ?_; rotate_left; (focus (intro w0 hSw; (try dsimp only at hSw); go_simp; (try with_reducible rfl))); (try simp only [Act.put, List.setIfInBounds_toArray, List.set_cons_zero, List.set_cons_succ]))
          have fr2 := (unhide H7).free 2
          obtain ⟨z0, z1, z2⟩ := (unhide H7).bx
          (refine wpAnyH_ready (rs := [9]) (by kernel_rfl) (by simp) ?_; refine AllReadyH.cons (o := _) rfl (fun K hK => ?_) AllReadyH.nil; go_simp)
          have H8 := hide ((unhide H7).set (.slice (some ⟨gq, 0, none⟩) (ms.length + 1) cq))
          have O8 := hide (ownsRow_setCell_other (unhide O7) (a := ⟨B, 2, none⟩) (fun e => (unhide H7).row (unhide O7) e.symm) (.slice (some ⟨gq, 0, none⟩) (ms.length + 1) cq))
          have G8 := hide (but_set (unhide G7) hB 2 (.slice (some ⟨gq, 0, none⟩) (ms.length + 1) cq))
          have T8 : Hid (HV (w7.setCell ⟨B, 2, none⟩ (.slice (some ⟨gq, 0, none⟩) (ms.length + 1) cq)) w.heap.size 0 0 (.slice none 0 0)) := hide ((Below.heap_setCell _ _ _ _ (by show w.heap.size ≠ B; omega)).trans (unhide T7))
          have S8 := hide (src_blocks (unhide S7) (Below.heap_setCell w7 ⟨B, 2, none⟩ (.slice (some ⟨gq, 0, none⟩) (ms.length + 1) cq) p (by show p ≠ B; omega)) (fun e0 g off e => Below.heap_setCell _ _ _ _ (by show g ≠ B; have := unhide RL e0 g off e; omega)))
          clear hHeld
          refine hK.out _ _ trivial (fun hHeld => ?_)
          clear hK K
          (try simp only [Act.put, List.setIfInBounds_toArray, List.set_cons_zero, List.set_cons_succ])
          refine wpAnyH_done (by kernel_rfl) (NoPanic.normal ?_) _
          clear hHeld fr2 z0 z1 z2
          have HAL : Hid (allN (ms ++ [(⟨(j : Int) + 1, (r : Int)⟩ : R)]) (ms ++ [(⟨(j : Int) + 1, (r : Int)⟩ : R)]).length = true) := hide (all_snoc (unhide hal) (by have := small_ok (i := j + 1) (r := r) (by omega) (by omega) r1 r2; rw [show ((j + 1 : Nat) : Int) = (j : Int) + 1 by omega] at this; exact this) (fun m hmm => by have := unhide hle m hmm; show m.ad < (j : Int) + 1; omega))
          have HLE : Hid (∀ m ∈ ms ++ [(⟨(j : Int) + 1, (r : Int)⟩ : R)], m.ad ≤ ((j + 1 : Nat) : Int)) := hide (fun m hmm => by
            rcases List.mem_append.1 hmm with h | h
            · have := unhide hle m h; omega
            · rw [List.mem_singleton] at h; subst h; show (j : Int) + 1 ≤ ((j + 1 : Nat) : Int); omega)
          have hlen : (ms ++ [(⟨(j : Int) + 1, (r : Int)⟩ : R)]).length ≤ j + 1 := by rw [List.length_append, List.length_cons, List.length_nil]; omega
          generalize ms ++ [(⟨(j : Int) + 1, (r : Int)⟩ : R)] = ms' at *
          go_wp2_with fail
          go_roundw
          case rel => exact ⟨j + 1, _, ms', by omega, by go_num, hlen, HAL, HLE, H8, O8, G8, hide ((unhide S8).mono (by omega)), T8⟩
          case measure => simp [intOf]; omega
        · go_simp
          refine (metric p a bs cap (n + 15 + 12 * j + 3) _ (by omega) hm (unhide SV)).mono ?_
          rintro e w5 ⟨r, rfl, r1, r2, g5, s5⟩
          have H5 := hide (((g5.block B (unhide HVV).lt (by simp; omega))).trans (unhide HVV))
          have T5 := hide (((g5.block w.heap.size (unhide TV).lt (by simp; omega))).trans (unhide TV))
          have O5 := hide (own_other (unhide OV) g5 (by omega))
          have G5 := hide (but_trans (unhide GV) g5)
          have S5 := hide s5
          have hs5 : w.heap.size ≤ w5.heap.size := (unhide G5).size
          clear g5 s5
          have H6 := hide (HV.below (show HV w5 B x y v from unhide H5) ((Below.refl _ _).alloc (Nat.le_refl _) (.cells #[.int .i64 ((j : Int) + 1), .int .i64 (r : Int)] 68)))
          have T6 := hide (HV.below (show HV w5 w.heap.size 0 0 (.slice none 0 0) from unhide T5) ((Below.refl _ _).alloc (Nat.le_refl _) (.cells #[.int .i64 ((j : Int) + 1), .int .i64 (r : Int)] 68)))
          have O6 := hide ((unhide O5).alloc (.cells #[.int .i64 ((j : Int) + 1), .int .i64 (r : Int)] 68))
          have G6 := hide (but_alloc (unhide G5) (.cells #[.int .i64 ((j : Int) + 1), .int .i64 (r : Int)] 68))
          have S6 := hide (src_below (unhide S5) ((Below.refl _ _).alloc (Nat.le_refl _) (.cells #[.int .i64 ((j : Int) + 1), .int .i64 (r : Int)] 68)))
          have R6 := hide (Ed.rm_new w5 (⟨(j : Int) + 1, (r : Int)⟩ : R))
          have hcell5 := (show HV w5 B x y v from unhide H5).bx.2.2
          clear hHeld
          refine hK.out _ _ trivial (fun hHeld => ?_)
          clear hK K
          (try simp only [Act.put, List.setIfInBounds_toArray, List.set_cons_zero, List.set_cons_succ])
          (refine Rg.tk (i := 5) (d := 25) (v := ?_) rfl rfl (by kernel_rfl) (by kernel_rfl) (by kernel_rfl) (fun _ _ _ h => h) (by rfl) ?_ (by assumption) ?_; rotate_left; (focus (intro w0 hSw; (try dsimp only at hSw); go_simp; (try with_reducible rfl))); (try simp only [Act.put, List.setIfInBounds_toArray, List.set_cons_zero, List.set_cons_succ]))
          (refine wpAnyH_ready (rs := [1, 6]) (by kernel_rfl) (by simp) ?_; refine AllReadyH.cons (o := _) rfl (fun K hK => ?_) (AllReadyH.cons (o := _) rfl (fun K hK => ?_) (AllReadyH.nil)))
          · go_simp
            clear hHeld
            refine hK.out _ _ trivial (fun hHeld => ?_)
            clear hK K
            (try simp only [Act.put, List.setIfInBounds_toArray, List.set_cons_zero, List.set_cons_succ])
            (refine wpAnyH_ready (rs := [6]) (by kernel_rfl) (by simp) ?_; refine AllReadyH.cons (o := _) rfl (fun K hK => ?_) AllReadyH.nil; go_simp)
            clear hHeld
            refine hK.out _ _ trivial (fun hHeld => ?_)
            clear hK K
            (try simp only [Act.put, List.setIfInBounds_toArray, List.set_cons_zero, List.set_cons_succ])
            (refine wpAnyH_ready (rs := [7]) (by kernel_rfl) (by simp) ?_; refine AllReadyH.cons (o := _) rfl (fun K hK => ?_) AllReadyH.nil; rw [if_pos (by rfl)])
            refine Ed.wp_apS (unhide O6) w5.heap.size 0 1 1 [(⟨(j : Int) + 1, (r : Int)⟩ : R)] rfl (unhide R6) (by simp only [List.length_cons, List.length_nil]; omega) (by simp; omega) _ _ rfl rfl rfl rfl ?_
            intro v7 w7 o7 g7
            obtain ⟨gq, cq, rfl, _, _⟩ := o7.form (by simp)
            rw [List.length_append, List.length_cons, List.length_nil] at o7 ⊢
            have O7 : Hid (w7.ownsRow (w.heap.size + 1) 68 2 (.slice (some ⟨gq, 0, none⟩) (ms.length + 1) cq) (ms ++ [(⟨(j : Int) + 1, (r : Int)⟩ : R)]).length (Ed.flat (ms ++ [(⟨(j : Int) + 1, (r : Int)⟩ : R)]))) := hide (by rw [List.length_append, List.length_cons, List.length_nil]; exact o7)
            have G7 := hide (but_own (unhide G6) g7 (fun k hk => by have := ((unhide O6).lt k hk).1; omega))
            have H7 := hide ((unhide H6).grown g7 ((unhide H6).row (unhide O6)))
            have T7 := hide ((unhide T6).grown g7 ((unhide T6).row (unhide O6)))
            have S7 := hide (src_grown (unhide S6) g7 (fun e => by have := ((unhide O6).lt p e.symm).1; omega) (fun e0 g off e e1 => by have := unhide RL e0 g off e; have := ((unhide O6).lt g e1.symm).1; omega))
            clear o7 g7
            clear hHeld
            refine hK.out _ _ trivial (fun hHeld => ?_)
            clear hK K
            (try simp only [Act.put, List.setIfInBounds_toArray, List.set_cons_zero, List.set_cons_succ])
            (refine Rg.tk (i := 8) (d := 28) (v := ?_) rfl rfl (by kernel_rfl) (by kernel_rfl) (by kernel_rfl) (fun _ _ _ h => h) (by rfl) ?_ (by assumption) ?_; rotate_left; (focus (intro w0 hSw; (try dsimp only at hSw); go_simp; (try with_reducible rfl))); (try simp only [Act.put, List.setIfInBounds_toArray, List.set_cons_zero, List.set_cons_succ]))
            have fr2 := (unhide H7).free 2
            obtain ⟨z0, z1, z2⟩ := (unhide H7).bx
            (refine wpAnyH_ready (rs := [9]) (by kernel_rfl) (by simp) ?_; refine AllReadyH.cons (o := _) rfl (fun K hK => ?_) AllReadyH.nil; go_simp)
            have H8 := hide ((unhide H7).set (.slice (some ⟨gq, 0, none⟩) (ms.length + 1) cq))
            have O8 := hide (ownsRow_setCell_other (unhide O7) (a := ⟨B, 2, none⟩) (fun e => (unhide H7).row (unhide O7) e.symm) (.slice (some ⟨gq, 0, none⟩) (ms.length + 1) cq))
            have G8 := hide (but_set (unhide G7) hB 2 (.slice (some ⟨gq, 0, none⟩) (ms.length + 1) cq))
            have T8 : Hid (HV (w7.setCell ⟨B, 2, none⟩ (.slice (some ⟨gq, 0, none⟩) (ms.length + 1) cq)) w.heap.size 0 0 (.slice none 0 0)) := hide ((Below.heap_setCell _ _ _ _ (by show w.heap.size ≠ B; omega)).trans (unhide T7))
            have S8 := hide (src_blocks (unhide S7) (Below.heap_setCell w7 ⟨B, 2, none⟩ (.slice (some ⟨gq, 0, none⟩) (ms.length + 1) cq) p (by show p ≠ B; omega)) (fun e0 g off e => Below.heap_setCell _ _ _ _ (by show g ≠ B; have := unhide RL e0 g off e; omega)))
            clear hHeld
            refine hK.out _ _ trivial (fun hHeld => ?_)
            clear hK K
            (try simp only [Act.put, List.setIfInBounds_toArray, List.set_cons_zero, List.set_cons_succ])
            refine wpAnyH_done (by kernel_rfl) (NoPanic.normal ?_) _
            clear hHeld fr2 z0 z1 z2
            have HAL : Hid (allN (ms ++ [(⟨(j : Int) + 1, (r : Int)⟩ : R)]) (ms ++ [(⟨(j : Int) + 1, (r : Int)⟩ : R)]).length = true) := hide (all_snoc (unhide hal) (by have := small_ok (i := j + 1) (r := r) (by omega) (by omega) r1 r2; rw [show ((j + 1 : Nat) : Int) = (j : Int) + 1 by omega] at this; exact this) (fun m hmm => by have := unhide hle m hmm; show m.ad < (j : Int) + 1; omega))
            have HLE : Hid (∀ m ∈ ms ++ [(⟨(j : Int) + 1, (r : Int)⟩ : R)], m.ad ≤ ((j + 1 : Nat) : Int)) := hide (fun m hmm => by
              rcases List.mem_append.1 hmm with h | h
              · have := unhide hle m h; omega
              · rw [List.mem_singleton] at h; subst h; show (j : Int) + 1 ≤ ((j + 1 : Nat) : Int); omega)
            have hlen : (ms ++ [(⟨(j : Int) + 1, (r : Int)⟩ : R)]).length ≤ j + 1 := by rw [List.length_append, List.length_cons, List.length_nil]; omega
            generalize ms ++ [(⟨(j : Int) + 1, (r : Int)⟩ : R)] = ms' at *
            go_wp2_with fail
            go_roundw
            case rel => exact ⟨j + 1, _, ms', by omega, by go_num, hlen, HAL, HLE, H8, O8, G8, hide ((unhide S8).mono (by omega)), T8⟩
            case measure => simp [intOf]; omega
          · go_simp
            clear hHeld
            refine hK.out _ _ trivial (fun hHeld => ?_)
            clear hK K
            (try simp only [Act.put, List.setIfInBounds_toArray, List.set_cons_zero, List.set_cons_succ])
            have hcell6 := (unhide H6).bx.2.2
            (refine wpAnyH_ready (rs := [1]) (by kernel_rfl) (by simp) ?_; refine AllReadyH.cons (o := _) rfl (fun K hK => ?_) AllReadyH.nil; go_simp)
            clear hHeld
            refine hK.out _ _ trivial (fun hHeld => ?_)
            clear hK K
            (try simp only [Act.put, List.setIfInBounds_toArray, List.set_cons_zero, List.set_cons_succ])
            (refine wpAnyH_ready (rs := [7]) (by kernel_rfl) (by simp) ?_; refine AllReadyH.cons (o := _) rfl (fun K hK => ?_) AllReadyH.nil; rw [if_pos (by rfl)])
            refine Ed.wp_apS (unhide O6) w5.heap.size 0 1 1 [(⟨(j : Int) + 1, (r : Int)⟩ : R)] rfl (unhide R6) (by simp only [List.length_cons, List.length_nil]; omega) (by simp; omega) _ _ rfl rfl rfl rfl ?_
            intro v7 w7 o7 g7
            obtain ⟨gq, cq, rfl, _, _⟩ := o7.form (by simp)
            rw [List.length_append, List.length_cons, List.length_nil] at o7 ⊢
            have O7 : Hid (w7.ownsRow (w.heap.size + 1) 68 2 (.slice (some ⟨gq, 0, none⟩) (ms.length + 1) cq) (ms ++ [(⟨(j : Int) + 1, (r : Int)⟩ : R)]).length (Ed.flat (ms ++ [(⟨(j : Int) + 1, (r : Int)⟩ : R)]))) := hide (by rw [List.length_append, List.length_cons, List.length_nil]; exact o7)
            have G7 := hide (but_own (unhide G6) g7 (fun k hk => by have := ((unhide O6).lt k hk).1; omega))
            have H7 := hide ((unhide H6).grown g7 ((unhide H6).row (unhide O6)))
            have T7 := hide ((unhide T6).grown g7 ((unhide T6).row (unhide O6)))
            have S7 := hide (src_grown (unhide S6) g7 (fun e => by have := ((unhide O6).lt p e.symm).1; omega) (fun e0 g off e e1 => by have := unhide RL e0 g off e; have := ((unhide O6).lt g e1.symm).1; omega))
            clear o7 g7
            clear hHeld
            refine hK.out _ _ trivial (fun hHeld => ?_)
            clear hK K
            (try simp only [Act.put, List.setIfInBounds_toArray, List.set_cons_zero, List.set_cons_succ])
            (refine Rg.tk (i := 8) (d := 28) (v := ?_) rfl rfl (by kernel_rfl) (by kernel_rfl) (by kernel_rfl) (fun _ _ _ h => h) (by rfl) ?_ (by assumption) ?_; rotate_left; (focus (intro w0 hSw; (try dsimp only at hSw); go_simp; (try with_reducible rfl))); (try simp only [Act.put, List.setIfInBounds_toArray, List.set_cons_zero, List.set_cons_succ]))
            have fr2 := (unhide H7).free 2
            obtain ⟨z0, z1, z2⟩ := (unhide H7).bx
            (refine wpAnyH_ready (rs := [9]) (by kernel_rfl) (by simp) ?_; refine AllReadyH.cons (o := _) rfl (fun K hK => ?_) AllReadyH.nil; go_simp)
            have H8 := hide ((unhide H7).set (.slice (some ⟨gq, 0, none⟩) (ms.length + 1) cq))
            have O8 := hide (ownsRow_setCell_other (unhide O7) (a := ⟨B, 2, none⟩) (fun e => (unhide H7).row (unhide O7) e.symm) (.slice (some ⟨gq, 0, none⟩) (ms.length + 1) cq))
            have G8 := hide (but_set (unhide G7) hB 2 (.slice (some ⟨gq, 0, none⟩) (ms.length + 1) cq))
            have T8 : Hid (HV (w7.setCell ⟨B, 2, none⟩ (.slice (some ⟨gq, 0, none⟩) (ms.length + 1) cq)) w.heap.size 0 0 (.slice none 0 0)) := hide ((Below.heap_setCell _ _ _ _ (by show w.heap.size ≠ B; omega)).trans (unhide T7))
            have S8 := hide (src_blocks (unhide S7) (Below.heap_setCell w7 ⟨B, 2, none⟩ (.slice (some ⟨gq, 0, none⟩) (ms.length + 1) cq) p (by show p ≠ B; omega)) (fun e0 g off e => Below.heap_setCell _ _ _ _ (by show g ≠ B; have := unhide RL e0 g off e; omega)))
            clear hHeld
            refine hK.out _ _ trivial (fun hHeld => ?_)
            clear hK K
            (try simp only [Act.put, List.setIfInBounds_toArray, List.set_cons_zero, List.set_cons_succ])
            refine wpAnyH_done (by kernel_rfl) (NoPanic.normal ?_) _
            clear hHeld fr2 z0 z1 z2
            have HAL : Hid (allN (ms ++ [(⟨(j : Int) + 1, (r : Int)⟩ : R)]) (ms ++ [(⟨(j : Int) + 1, (r : Int)⟩ : R)]).length = true) := hide (all_snoc (unhide hal) (by have := small_ok (i := j + 1) (r := r) (by omega) (by omega) r1 r2; rw [show ((j + 1 : Nat) : Int) = (j : Int) + 1 by omega] at this; exact this) (fun m hmm => by have := unhide hle m hmm; show m.ad < (j : Int) + 1; omega))
            have HLE : Hid (∀ m ∈ ms ++ [(⟨(j : Int) + 1, (r : Int)⟩ : R)], m.ad ≤ ((j + 1 : Nat) : Int)) := hide (fun m hmm => by
              rcases List.mem_append.1 hmm with h | h
              · have := unhide hle m h; omega
              · rw [List.mem_singleton] at h; subst h; show (j : Int) + 1 ≤ ((j + 1 : Nat) : Int); omega)
            have hlen : (ms ++ [(⟨(j : Int) + 1, (r : Int)⟩ : R)]).length ≤ j + 1 := by rw [List.length_append, List.length_cons, List.length_nil]; omega
            generalize ms ++ [(⟨(j : Int) + 1, (r : Int)⟩ : R)] = ms' at *
            go_wp2_with fail
            go_roundw
            case rel => exact ⟨j + 1, _, ms', by omega, by go_num, hlen, HAL, HLE, H8, O8, G8, hide ((unhide S8).mono (by omega)), T8⟩
            case measure => simp [intOf]; omega
    · have hj9 : ¬ ((j : Int) + 1 ≤ 8) := by omega
      obtain ⟨av, cv, rfl, hlst⟩ := Ed.lst_own rfl (unhide how)
      have HLST := hide hlst
      clear hlst how
      obtain ⟨z0, z1, z2⟩ := (unhide hhv).bx
      obtain ⟨x0, x1, x2⟩ := (unhide htr).bx
      have y0 := (unhide htr).free 0
      have y1 := (unhide htr).free 1
      have y2 := (unhide htr).free 2
      have hlw := (unhide htr).lt
      have HTC : Hid (tcB x y ms = true) := hide (by
        unfold tcB inB
        rw [unhide HVY, unhide hal, decide_eq_true (by omega), decide_eq_true (by omega)]; rfl)
      go_wp2_with fail
      refine bodyPost_ret (v := .agg #[.int .i64 x, .int .i64 y, .slice av ms.length cv]) (by simp [results, Tryd.results48, go_sem, x0, x1, x2, hlw]) rfl ?_
      refine ⟨x, y, av, ms, ⟨cv, rfl⟩, unhide HTC, ?_, ?_, ?_⟩
      · refine ((unhide HLST).but (p := fun k => k ≠ w.heap.size) (by simp [World.setCell]) (fun k hk hp => ?_) (fun k h1 h2 => ?_)).mono (by omega) (by simp [World.setCell])
        · rw [Below.heap_setCell _ _ _ _ hp, Below.heap_setCell _ _ _ _ hp, Below.heap_setCell _ _ _ _ hp]
        · omega
      · exact but_set (but_set (but_set (unhide hgr) (Nat.le_refl _) 0 _) (Nat.le_refl _) 1 _) (Nat.le_refl _) 2 _
      · have far : ∀ k, k < w.heap.size → ∀ (u0 u1 u2 : Value), (((wr.setCell ⟨w.heap.size, 0, none⟩ u0).setCell ⟨w.heap.size, 1, none⟩ u1).setCell ⟨w.heap.size, 2, none⟩ u2).heap[k]? = wr.heap[k]? := fun k hk u0 u1 u2 => by
          have hp : k ≠ w.heap.size := by omega
          rw [Below.heap_setCell _ _ _ _ hp, Below.heap_setCell _ _ _ _ hp, Below.heap_setCell _ _ _ _ hp]
        exact src_blocks ((unhide hsr).mono (by omega)) (far _ (unhide RLX).2 _ _ _) (fun e0 g off e => far _ ((unhide RLX).1 e0 g off e) _ _ _)
end Av
end Go.Proofs.YtlcppgnnlgigmaaDoor
