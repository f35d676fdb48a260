/-
  The numbers of an advertisement's bytes, and what bytes tell, over lists.
-/
import Derived.Test.YtilphgfjgeoiaaaAdvM
import Derived.Test.YtilphgfjgeoiaaaDec
import Derived.Test.YtilphgfjgeoiaaaU8
namespace Go.Proofs.Ytilphgfjgeoiaaa
set_option linter.unusedVariables false
namespace Av
open W1 Ed De
/-- The numbers of an edge's bytes, of an advertisement's first ones. -/
def edNums (m : R) : List Int := [m.ad, (Mtr.mcode m.mt : Int) / 256, (Mtr.mcode m.mt : Int) % 256]
def tcNums (x y : Int) (ms : List R) (j : Nat) : List Int := [x / 256, x % 256, (Tim.tcode y : Int), (ms.length : Int)] ++ (ms.take j).flatMap edNums
def encS (x y : Int) (ms : List R) : ByteArray := if tcB x y ms = true then strOfNums (tcNums x y ms ms.length) else ⟨#[]⟩
def encE (x y : Int) (ms : List R) : Int := if tcB x y ms = true then 0 else 1
theorem tcNums_zero (x y : Int) (ms : List R) : tcNums x y ms 0 = [x / 256, x % 256, (Tim.tcode y : Int), (ms.length : Int)] := by simp [tcNums]
theorem tcNums_succ (x y : Int) {ms : List R} {j : Nat} (h : j < ms.length) : tcNums x y ms (j + 1) = tcNums x y ms j ++ edNums (ms.getD j R.zero) := by
  unfold tcNums
  rw [List.take_add_one, List.getElem?_eq_getElem h, List.flatMap_append, List.getD_eq_getElem?_getD, List.getElem?_eq_getElem h]; simp
theorem tcNums_len (x y : Int) (ms : List R) (j : Nat) : (tcNums x y ms j).length ≤ 4 + j * 3 := by
  unfold tcNums
  have : ∀ l : List R, (l.flatMap edNums).length = l.length * 3 := by
    intro l; induction l with
    | nil => rfl
    | cons m t ih => rw [List.flatMap_cons, List.length_append, ih]; simp [edNums]; omega
  rw [List.length_append, this, List.length_take]; simp; omega
theorem tcNums_pos (x y : Int) (ms : List R) (j : Nat) : 0 < (tcNums x y ms j).length := by unfold tcNums; simp

def grp (bs : List UInt8) (i : Nat) : R := ⟨fld bs (4 + 3 * i), Mtr.met (two bs (5 + 3 * i)).toNat⟩
def grps (bs : List UInt8) (n : Nat) : List R := (List.range n).map (grp bs)
def codesB (bs : List UInt8) (n : Nat) : Bool := (List.range n).all fun i => decide (two bs (5 + 3 * i) ≤ 4095)
def nOf (bs : List UInt8) : Nat := (fld bs 3).toNat
def lenB (bs : List UInt8) : Bool := decide (4 ≤ bs.length) && decide ((bs.length : Int) = 4 + 3 * fld bs 3)
def timOf (bs : List UInt8) : Int := Tim.tim (fld bs 2).toNat
def exB (bs : List UInt8) : Bool := Tim.tcode (timOf bs) == (fld bs 2).toNat
def decG (bs : List UInt8) : Bool := lenB bs && (decide (fld bs 2 ≤ 223) && (codesB bs (nOf bs) && (tcB (two bs 0) (timOf bs) (grps bs (nOf bs)) && exB bs)))
/-- What DecodeTc answers. -/
def decX (bs : List UInt8) : Int := if decG bs = true then two bs 0 else 0
def decY (bs : List UInt8) : Int := if decG bs = true then timOf bs else 0
def decL (bs : List UInt8) : List R := if decG bs = true then grps bs (nOf bs) else []
def decE (bs : List UInt8) : Int := if 65536 < bs.length then 2 else if decG bs = true then 0 else 3
theorem dec_no {bs : List UInt8} (h : decG bs = false) : decX bs = 0 ∧ decY bs = 0 ∧ decL bs = [] := by
  unfold decX decY decL; rw [if_neg (by simp [h]), if_neg (by simp [h]), if_neg (by simp [h])]; exact ⟨rfl, rfl, rfl⟩
theorem dec_yes {bs : List UInt8} (h : decG bs = true) : decX bs = two bs 0 ∧ decY bs = timOf bs ∧ decL bs = grps bs (nOf bs) := by
  unfold decX decY decL; rw [if_pos h, if_pos h, if_pos h]; exact ⟨rfl, rfl, rfl⟩
theorem grps_len (bs : List UInt8) (n : Nat) : (grps bs n).length = n := by simp [grps]
theorem grps_succ (bs : List UInt8) (n : Nat) : grps bs (n + 1) = grps bs n ++ [grp bs n] := by unfold grps; rw [List.range_succ, List.map_append]; rfl
theorem grps_at (bs : List UInt8) (n i : Nat) (h : i < n) : (grps bs n).getD i R.zero = grp bs i := by
  unfold grps; rw [List.getD_eq_getElem?_getD, List.getElem?_map, List.getElem?_range h]; rfl
theorem codes_at {bs : List UInt8} {n i : Nat} (h : codesB bs n = true) (hi : i < n) : two bs (5 + 3 * i) ≤ 4095 := by
  unfold codesB at h; rw [List.all_eq_true] at h; exact of_decide_eq_true (h i (List.mem_range.2 hi))
theorem codes_no {bs : List UInt8} {n i : Nat} (hi : i < n) (h : 4095 < two bs (5 + 3 * i)) : codesB bs n = false := by
  unfold codesB; rw [List.all_eq_false]; exact ⟨i, List.mem_range.2 hi, by simp; omega⟩
theorem codes_of {bs : List UInt8} {n : Nat} (h : ∀ i, i < n → two bs (5 + 3 * i) ≤ 4095) : codesB bs n = true := by
  unfold codesB; rw [List.all_eq_true]; intro i hi; exact decide_eq_true (h i (List.mem_range.1 hi))
theorem n_le (bs : List UInt8) : nOf bs ≤ 255 := by unfold nOf; have := fld_hi bs 3; omega
theorem decL_len (bs : List UInt8) : (decL bs).length ≤ 255 := by
  unfold decL
  split
  · rw [grps_len]; exact n_le bs
  · simp
theorem n_eq (bs : List UInt8) : ((nOf bs : Nat) : Int) = fld bs 3 := by unfold nOf; have := fld_lo bs 3; omega
theorem len_eq {bs : List UInt8} (h : lenB bs = true) : bs.length = 4 + 3 * nOf bs := by
  unfold lenB at h; simp at h; have := n_eq bs; omega
theorem mcode_met {c : Nat} (h : c ≤ 4095) : Mtr.mcode (Mtr.met c) = c :=
  Mtr.mcode_of ⟨h, Int.le_refl _, by
    by_cases e : c = 0
    · exact .inl e
    · right
      have := Mtr.met_step (c - 1)
      rw [show c - 1 + 1 = c by omega] at this; exact this⟩
theorem two_lo (bs : List UInt8) (i : Nat) : 0 ≤ two bs i := by unfold two; have := fld_lo bs i; have := fld_lo bs (i + 1); omega
theorem two_hi (bs : List UInt8) (i : Nat) : two bs i ≤ 65535 := by unfold two; have := fld_hi bs i; have := fld_hi bs (i + 1); omega
theorem fld_nat (bs : List UInt8) (i : Nat) : fld bs i = ((bs.map fun b => (b.toNat : Int)).getD i 0) := by
  unfold fld
  rw [List.getD_eq_getElem?_getD, List.getD_eq_getElem?_getD, List.getElem?_map]
  cases bs[i]? <;> rfl
theorem split_three : ∀ (n : Nat) (zs : List Int), zs.length = 4 + 3 * n →
    zs = [zs.getD 0 0, zs.getD 1 0, zs.getD 2 0, zs.getD 3 0] ++ (List.range n).flatMap fun i => [zs.getD (4 + 3 * i) 0, zs.getD (5 + 3 * i) 0, zs.getD (6 + 3 * i) 0]
  | 0, zs, h => by
    match zs, h with
    | [a, b, c, d], _ => rfl
  | n + 1, zs, h => by
    have ht : (zs.take (4 + 3 * n)).length = 4 + 3 * n := by rw [List.length_take]; omega
    have ih := split_three n (zs.take (4 + 3 * n)) ht
    have g : ∀ i, i < 4 + 3 * n → (zs.take (4 + 3 * n)).getD i 0 = zs.getD i 0 := fun i hi => by
      rw [List.getD_eq_getElem?_getD, List.getD_eq_getElem?_getD, List.getElem?_take_of_lt hi]
    have gd : ∀ i, (zs.drop (4 + 3 * n)).getD i 0 = zs.getD (4 + 3 * n + i) 0 := fun i => by
      rw [List.getD_eq_getElem?_getD, List.getD_eq_getElem?_getD, List.getElem?_drop]
    have hd : zs.drop (4 + 3 * n) = [zs.getD (4 + 3 * n) 0, zs.getD (5 + 3 * n) 0, zs.getD (6 + 3 * n) 0] := by
      have hl : (zs.drop (4 + 3 * n)).length = 3 := by rw [List.length_drop]; omega
      have e0 := gd 0
      have e1 := gd 1
      have e2 := gd 2
      generalize zs.drop (4 + 3 * n) = ds at *
      match ds, hl with
      | [a, b, c], _ =>
        simp only [List.getD_cons_zero, List.getD_cons_succ] at e0 e1 e2
        rw [e0, e1, e2, Nat.add_zero, show 4 + 3 * n + 1 = 5 + 3 * n by omega, show 4 + 3 * n + 2 = 6 + 3 * n by omega]
    conv => lhs; rw [← List.take_append_drop (4 + 3 * n) zs, ih, hd]
    rw [List.range_succ, List.flatMap_append, g 0 (by omega), g 1 (by omega), g 2 (by omega), g 3 (by omega), List.append_assoc]
    congr 1
    simp only [List.flatMap_cons, List.flatMap_nil, List.append_nil]
    congr 1
    have : ∀ l : List Nat, (∀ i ∈ l, i < n) → (l.flatMap fun i => [(zs.take (4 + 3 * n)).getD (4 + 3 * i) 0, (zs.take (4 + 3 * n)).getD (5 + 3 * i) 0, (zs.take (4 + 3 * n)).getD (6 + 3 * i) 0]) = l.flatMap fun i => [zs.getD (4 + 3 * i) 0, zs.getD (5 + 3 * i) 0, zs.getD (6 + 3 * i) 0] := by
      intro l hl
      induction l with
      | nil => rfl
      | cons i t iht =>
        have hi := hl i (by simp)
        rw [List.flatMap_cons, List.flatMap_cons, iht (fun k hk => hl k (by simp [hk])), g _ (by omega), g _ (by omega), g _ (by omega)]
    exact this _ (fun i hi => List.mem_range.1 hi)
theorem ed_grp {bs : List UInt8} {i : Nat} (h : two bs (5 + 3 * i) ≤ 4095) : edNums (grp bs i) = [fld bs (4 + 3 * i), fld bs (5 + 3 * i), fld bs (6 + 3 * i)] := by
  have h2 := fld_lo bs (5 + 3 * i)
  have h3 := fld_hi bs (5 + 3 * i)
  have h4 := fld_lo bs (6 + 3 * i)
  have h5 := fld_hi bs (6 + 3 * i)
  have e : two bs (5 + 3 * i) = 256 * fld bs (5 + 3 * i) + fld bs (6 + 3 * i) := by unfold two; rw [show 5 + 3 * i + 1 = 6 + 3 * i by omega]
  unfold edNums grp
  dsimp only
  rw [mcode_met (by omega), Int.toNat_of_nonneg (by omega), e]
  congr 1
  congr 1
  · omega
  · congr 1; omega
theorem nums_eq {bs : List UInt8} (hl : lenB bs = true) (hc : codesB bs (nOf bs) = true) :
    [fld bs 0, fld bs 1, fld bs 2, fld bs 3] ++ ((grps bs (nOf bs)).flatMap edNums) = bs.map fun b => (b.toNat : Int) := by
  have h := split_three (nOf bs) (bs.map fun b => (b.toNat : Int)) (by rw [List.length_map]; exact len_eq hl)
  rw [h]
  simp only [← fld_nat]
  congr 1
  unfold grps
  rw [List.flatMap_map]
  have : ∀ l : List Nat, (∀ i ∈ l, i < nOf bs) → (l.flatMap fun i => edNums (grp bs i)) = l.flatMap fun i => [fld bs (4 + 3 * i), fld bs (5 + 3 * i), fld bs (6 + 3 * i)] := by
    intro l hl'
    induction l with
    | nil => rfl
    | cons i t iht => rw [List.flatMap_cons, List.flatMap_cons, iht (fun k hk => hl' k (by simp [hk])), ed_grp (codes_at hc (hl' i (by simp)))]
  exact this _ (fun i hi => List.mem_range.1 hi)
theorem enc_data {bs : List UInt8} : (strOfNums (bs.map fun b => (b.toNat : Int))).data.toList = bs := by
  simp [strOfNums, Function.comp_def]
theorem two_parts (bs : List UInt8) : two bs 0 / 256 = fld bs 0 ∧ two bs 0 % 256 = fld bs 1 := by
  unfold two; have := fld_lo bs 1; have := fld_hi bs 1; simp only [Nat.zero_add]; omega
/-- Written again, a text that was read is itself, if its time's code is the least. -/
theorem enc_eq {s : ByteArray} (hl : lenB s.data.toList = true) (hc : codesB s.data.toList (nOf s.data.toList) = true) (he : exB s.data.toList = true) :
    strOfNums (tcNums (two s.data.toList 0) (timOf s.data.toList) (grps s.data.toList (nOf s.data.toList)) (grps s.data.toList (nOf s.data.toList)).length) = s := by
  have h := nums_eq hl hc
  unfold tcNums
  rw [List.take_length, grps_len]
  have e1 : ((Tim.tcode (timOf s.data.toList) : Nat) : Int) = fld s.data.toList 2 := by
    unfold exB at he
    rw [beq_iff_eq.1 he]; have := fld_lo s.data.toList 2; omega
  rw [e1, n_eq, (two_parts _).1, (two_parts _).2, h]
  apply ByteArray.ext
  apply Array.ext'
  exact enc_data
theorem enc_ne {s : ByteArray} (h3 : 4 ≤ s.data.toList.length) (he : exB s.data.toList = false) (ms : List R) (x y : Int) (j : Nat) (hy : y = timOf s.data.toList) (ht : Tim.tcode y ≤ 223) : strOfNums (tcNums x y ms j) ≠ s := by
  intro e
  have e1 := congrArg (fun t : ByteArray => t.data.toList[2]?) e
  subst hy
  have e2 : (strOfNums (tcNums x (timOf s.data.toList) ms j)).data.toList[2]? = some (UInt8.ofNat (Tim.tcode (timOf s.data.toList))) := by
    simp [strOfNums, tcNums]
  simp only [e2] at e1
  rw [List.getElem?_eq_getElem (by omega)] at e1
  have e3 := Option.some.inj e1
  unfold exB at he
  have e4 : (fld s.data.toList 2).toNat = Tim.tcode (timOf s.data.toList) := by
    unfold fld
    rw [List.getD_eq_getElem?_getD, List.getElem?_eq_getElem (by omega)]
    show ((s.data.toList[2].toNat : Int)).toNat = _
    rw [← e3, UInt8.toNat_ofNat']; omega
  rw [e4] at he
  simp at he
end Av
end Go.Proofs.Ytilphgfjgeoiaaa
