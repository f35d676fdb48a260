/-
  What the bytes of a hello tell, over lists of bytes.
-/
import Derived.Test.YtmelbilepfnmjakHelE
import Derived.Test.YtmelbilepfnmjakDec
namespace Go.Proofs.Ytmelbilepfnmjak
set_option linter.unusedVariables false
namespace Hl
open W1 Nb De
def grp (bs : List UInt8) (i : Nat) : R := ⟨fld bs (3 + 4 * i), fld bs (4 + 4 * i) % 128, Mtr.met (two bs (5 + 4 * i)).toNat, decide (127 < fld bs (4 + 4 * i))⟩
def grps (bs : List UInt8) (n : Nat) : List R := (List.range n).map (grp bs)
def codesB (bs : List UInt8) (n : Nat) : Bool := (List.range n).all fun i => decide (two bs (5 + 4 * i) ≤ 4095)
def nOf (bs : List UInt8) : Nat := (fld bs 2).toNat
def lenB (bs : List UInt8) : Bool := decide (3 ≤ bs.length) && decide ((bs.length : Int) = 3 + 4 * fld bs 2)
def timOf (bs : List UInt8) : Int := Tim.tim (fld bs 1).toNat
def exB (bs : List UInt8) : Bool := Tim.tcode (timOf bs) == (fld bs 1).toNat
def decG (bs : List UInt8) : Bool := lenB bs && (decide (fld bs 1 ≤ 223) && (codesB bs (nOf bs) && (helB (fld bs 0) (timOf bs) (grps bs (nOf bs)) && exB bs)))
/-- What DecodeHello answers. -/
def decX (bs : List UInt8) : Int := if decG bs = true then fld bs 0 else 0
def decY (bs : List UInt8) : Int := if decG bs = true then timOf bs else 0
def decL (bs : List UInt8) : List R := if decG bs = true then grps bs (nOf bs) else []
def decE (bs : List UInt8) : Int := if 65536 < bs.length then 2 else if decG bs = true then 0 else 3
theorem grps_len (bs : List UInt8) (n : Nat) : (grps bs n).length = n := by simp [grps]
theorem grps_succ (bs : List UInt8) (n : Nat) : grps bs (n + 1) = grps bs n ++ [grp bs n] := by unfold grps; rw [List.range_succ, List.map_append]; rfl
theorem grps_at (bs : List UInt8) (n i : Nat) (h : i < n) : (grps bs n).getD i R.zero = grp bs i := by
  unfold grps; rw [List.getD_eq_getElem?_getD, List.getElem?_map, List.getElem?_range h]; rfl
theorem codes_at {bs : List UInt8} {n i : Nat} (h : codesB bs n = true) (hi : i < n) : two bs (5 + 4 * i) ≤ 4095 := by
  unfold codesB at h; rw [List.all_eq_true] at h; exact of_decide_eq_true (h i (List.mem_range.2 hi))
theorem codes_no {bs : List UInt8} {n i : Nat} (hi : i < n) (h : 4095 < two bs (5 + 4 * i)) : codesB bs n = false := by
  unfold codesB; rw [List.all_eq_false]; exact ⟨i, List.mem_range.2 hi, by simp; omega⟩
theorem codes_of {bs : List UInt8} {n : Nat} (h : ∀ i, i < n → two bs (5 + 4 * i) ≤ 4095) : codesB bs n = true := by
  unfold codesB; rw [List.all_eq_true]; intro i hi; exact decide_eq_true (h i (List.mem_range.1 hi))
theorem n_le (bs : List UInt8) : nOf bs ≤ 255 := by unfold nOf; have := fld_hi bs 2; omega
theorem decL_len (bs : List UInt8) : (decL bs).length ≤ 255 := by
  unfold decL
  split
  · rw [grps_len]; exact n_le bs
  · simp
theorem n_eq (bs : List UInt8) : ((nOf bs : Nat) : Int) = fld bs 2 := by unfold nOf; have := fld_lo bs 2; omega
theorem len_eq {bs : List UInt8} (h : lenB bs = true) : bs.length = 3 + 4 * nOf bs := by
  unfold lenB at h; simp at h; have := n_eq bs; omega
theorem mcode_met {c : Nat} (h : c ≤ 4095) : Mtr.mcode (Mtr.met c) = c :=
  Mtr.mcode_of ⟨h, Int.le_refl _, by
    by_cases e : c = 0
    · exact .inl e
    · right
      have := Mtr.met_step (c - 1)
      rw [show c - 1 + 1 = c by omega] at this; exact this⟩
theorem fld_nat (bs : List UInt8) (i : Nat) : fld bs i = ((bs.map fun b => (b.toNat : Int)).getD i 0) := by
  unfold fld
  rw [List.getD_eq_getElem?_getD, List.getD_eq_getElem?_getD, List.getElem?_map]
  cases bs[i]? <;> rfl
theorem split_four : ∀ (n : Nat) (zs : List Int), zs.length = 3 + 4 * n →
    zs = [zs.getD 0 0, zs.getD 1 0, zs.getD 2 0] ++ (List.range n).flatMap fun i => [zs.getD (3 + 4 * i) 0, zs.getD (4 + 4 * i) 0, zs.getD (5 + 4 * i) 0, zs.getD (6 + 4 * i) 0]
  | 0, zs, h => by
    match zs, h with
    | [a, b, c], _ => rfl
  | n + 1, zs, h => by
    have ht : (zs.take (3 + 4 * n)).length = 3 + 4 * n := by rw [List.length_take]; omega
    have ih := split_four n (zs.take (3 + 4 * n)) ht
    have g : ∀ i, i < 3 + 4 * n → (zs.take (3 + 4 * n)).getD i 0 = zs.getD i 0 := fun i hi => by
      rw [List.getD_eq_getElem?_getD, List.getD_eq_getElem?_getD, List.getElem?_take_of_lt hi]
    have gd : ∀ i, (zs.drop (3 + 4 * n)).getD i 0 = zs.getD (3 + 4 * n + i) 0 := fun i => by
      rw [List.getD_eq_getElem?_getD, List.getD_eq_getElem?_getD, List.getElem?_drop]
    have hd : zs.drop (3 + 4 * n) = [zs.getD (3 + 4 * n) 0, zs.getD (4 + 4 * n) 0, zs.getD (5 + 4 * n) 0, zs.getD (6 + 4 * n) 0] := by
      have hl : (zs.drop (3 + 4 * n)).length = 4 := by rw [List.length_drop]; omega
      have e0 := gd 0
      have e1 := gd 1
      have e2 := gd 2
      have e3 := gd 3
      generalize zs.drop (3 + 4 * n) = ds at *
      match ds, hl with
      | [a, b, c, d], _ =>
        simp only [List.getD_cons_zero, List.getD_cons_succ] at e0 e1 e2 e3
        rw [e0, e1, e2, e3, Nat.add_zero, show 3 + 4 * n + 1 = 4 + 4 * n by omega, show 3 + 4 * n + 2 = 5 + 4 * n by omega, show 3 + 4 * n + 3 = 6 + 4 * n by omega]
    conv => lhs; rw [← List.take_append_drop (3 + 4 * n) zs, ih, hd]
    rw [List.range_succ, List.flatMap_append, g 0 (by omega), g 1 (by omega), g 2 (by omega), List.append_assoc]
    congr 1
    simp only [List.flatMap_cons, List.flatMap_nil, List.append_nil]
    congr 1
    rw [← List.map_inj_right (f := id) (by intro a b h; exact h), List.map_id, List.map_id]
    have : ∀ l : List Nat, (∀ i ∈ l, i < n) → (l.flatMap fun i => [(zs.take (3 + 4 * n)).getD (3 + 4 * i) 0, (zs.take (3 + 4 * n)).getD (4 + 4 * i) 0, (zs.take (3 + 4 * n)).getD (5 + 4 * i) 0, (zs.take (3 + 4 * n)).getD (6 + 4 * i) 0]) = l.flatMap fun i => [zs.getD (3 + 4 * i) 0, zs.getD (4 + 4 * i) 0, zs.getD (5 + 4 * i) 0, zs.getD (6 + 4 * i) 0] := by
      intro l hl
      induction l with
      | nil => rfl
      | cons i t iht =>
        have hi := hl i (by simp)
        rw [List.flatMap_cons, List.flatMap_cons, iht (fun k hk => hl k (by simp [hk])), g _ (by omega), g _ (by omega), g _ (by omega), g _ (by omega)]
    exact this _ (fun i hi => List.mem_range.1 hi)
theorem nb_grp {bs : List UInt8} {i : Nat} (h : two bs (5 + 4 * i) ≤ 4095) : nbNums (grp bs i) = [fld bs (3 + 4 * i), fld bs (4 + 4 * i), fld bs (5 + 4 * i), fld bs (6 + 4 * i)] := by
  have h0 := fld_lo bs (4 + 4 * i)
  have h1 := fld_hi bs (4 + 4 * i)
  have h2 := fld_lo bs (5 + 4 * i)
  have h3 := fld_hi bs (5 + 4 * i)
  have h4 := fld_lo bs (6 + 4 * i)
  have h5 := fld_hi bs (6 + 4 * i)
  have e : two bs (5 + 4 * i) = 256 * fld bs (5 + 4 * i) + fld bs (6 + 4 * i) := by unfold two; rw [show 5 + 4 * i + 1 = 6 + 4 * i by omega]
  unfold nbNums grp
  dsimp only
  rw [mcode_met (by omega)]
  have hb : fld bs (4 + 4 * i) % 128 + 128 * bitI (decide (127 < fld bs (4 + 4 * i))) = fld bs (4 + 4 * i) := by
    unfold bitI
    by_cases c : 127 < fld bs (4 + 4 * i)
    · rw [if_pos (decide_eq_true c)]; omega
    · rw [if_neg (by simpa using c)]; omega
  rw [hb, Int.toNat_of_nonneg (by omega), e]
  congr 1
  congr 1
  congr 1
  · omega
  · congr 1; omega
theorem nums_eq {bs : List UInt8} (hl : lenB bs = true) (hc : codesB bs (nOf bs) = true) (y : Int) :
    [fld bs 0, fld bs 1, fld bs 2] ++ ((grps bs (nOf bs)).flatMap nbNums) = bs.map fun b => (b.toNat : Int) := by
  have h := split_four (nOf bs) (bs.map fun b => (b.toNat : Int)) (by rw [List.length_map]; exact len_eq hl)
  rw [h]
  simp only [← fld_nat]
  congr 1
  unfold grps
  rw [List.flatMap_map]
  have : ∀ l : List Nat, (∀ i ∈ l, i < nOf bs) → (l.flatMap fun i => nbNums (grp bs i)) = l.flatMap fun i => [fld bs (3 + 4 * i), fld bs (4 + 4 * i), fld bs (5 + 4 * i), fld bs (6 + 4 * i)] := by
    intro l hl'
    induction l with
    | nil => rfl
    | cons i t iht => rw [List.flatMap_cons, List.flatMap_cons, iht (fun k hk => hl' k (by simp [hk])), nb_grp (codes_at hc (hl' i (by simp)))]
  exact this _ (fun i hi => List.mem_range.1 hi)
theorem enc_data {bs : List UInt8} : (strOfNums (bs.map fun b => (b.toNat : Int))).data.toList = bs := by
  simp [strOfNums, Function.comp_def]
/-- Written again, a text that was read is itself, if its time's code is the least. -/
theorem enc_eq {s : ByteArray} (hl : lenB s.data.toList = true) (hc : codesB s.data.toList (nOf s.data.toList) = true) (he : exB s.data.toList = true) :
    strOfNums (helNums (fld s.data.toList 0) (timOf s.data.toList) (grps s.data.toList (nOf s.data.toList)) (grps s.data.toList (nOf s.data.toList)).length) = s := by
  have h := nums_eq hl hc 0
  unfold helNums
  rw [List.take_length, grps_len]
  have e1 : ((Tim.tcode (timOf s.data.toList) : Nat) : Int) = fld s.data.toList 1 := by
    unfold exB at he
    rw [beq_iff_eq.1 he]; have := fld_lo s.data.toList 1; omega
  rw [e1, n_eq, h]
  apply ByteArray.ext
  apply Array.ext'
  exact enc_data
theorem enc_ne {s : ByteArray} (h3 : 3 ≤ s.data.toList.length) (he : exB s.data.toList = false) (ms : List R) (x y : Int) (j : Nat) (hy : y = timOf s.data.toList) (ht : Tim.tcode y ≤ 223) : strOfNums (helNums x y ms j) ≠ s := by
  intro e
  have e1 := congrArg (fun t : ByteArray => t.data.toList[1]?) e
  subst hy
  have e2 : (strOfNums (helNums x (timOf s.data.toList) ms j)).data.toList[1]? = some (UInt8.ofNat (Tim.tcode (timOf s.data.toList))) := by
    simp [strOfNums, helNums]
  simp only [e2] at e1
  rw [List.getElem?_eq_getElem (by omega)] at e1
  have e3 := Option.some.inj e1
  unfold exB at he
  have e4 : (fld s.data.toList 1).toNat = Tim.tcode (timOf s.data.toList) := by
    unfold fld
    rw [List.getD_eq_getElem?_getD, List.getElem?_eq_getElem (by omega)]
    show ((s.data.toList[1].toNat : Int)).toNat = _
    rw [← e3, UInt8.toNat_ofNat']; omega
  rw [e4] at he
  simp at he
end Hl
end Go.Proofs.Ytmelbilepfnmjak
