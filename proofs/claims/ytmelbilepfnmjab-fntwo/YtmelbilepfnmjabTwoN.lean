/-
  Mathematics of willing neighbors by which an address is two hops off, and of strict two-hop neighbors.
-/
import Derived.Test.YtmelbilepfnmjabTwoM
import Derived.Test.YtmelbilepfnmjabLnkS
namespace Go.Proofs.Ytmelbilepfnmjab
set_option linter.unusedVariables false
namespace Tw
open W1 Tu St
def keptB (o : Option R) (now : Int) : Bool := match o with | some t => decide (now < t.til) | none => false
def viaOk (f : Int → Int → Option R) (addr now : Int) (m : Lk.R) : Bool := (Ln.statusV m now == 2) && (decide (0 < m.wl) && keptB (f m.ad addr) now)
def viaL (f : Int → Int → Option R) (ls : List Lk.R) (addr now : Int) (j : Nat) : List Int := ((ls.take j).filter (viaOk f addr now)).map (·.ad)
theorem ls_take {ls : List Lk.R} {j : Nat} (h : j < ls.length) : ls.take (j + 1) = ls.take j ++ [ls.getD j Lk.R.zero] := by
  rw [List.take_add_one, List.getElem?_eq_getElem h, List.getD_eq_getElem?_getD, List.getElem?_eq_getElem h]; rfl
theorem viaL_yes {f : Int → Int → Option R} {ls : List Lk.R} {addr now : Int} {j : Nat} (h : j < ls.length) (hs : viaOk f addr now (ls.getD j Lk.R.zero) = true) : viaL f ls addr now (j + 1) = viaL f ls addr now j ++ [(ls.getD j Lk.R.zero).ad] := by
  unfold viaL; rw [ls_take h, List.filter_append, List.filter_cons_of_pos hs, List.map_append]; rfl
theorem viaL_no {f : Int → Int → Option R} {ls : List Lk.R} {addr now : Int} {j : Nat} (h : j < ls.length) (hs : viaOk f addr now (ls.getD j Lk.R.zero) = false) : viaL f ls addr now (j + 1) = viaL f ls addr now j := by
  unfold viaL; rw [ls_take h, List.filter_append, List.filter_cons_of_neg (by rw [hs]; simp), List.filter_nil, List.append_nil]
theorem viaL_len (f : Int → Int → Option R) (ls : List Lk.R) (addr now : Int) (j : Nat) : (viaL f ls addr now j).length ≤ j := by
  unfold viaL; rw [List.length_map]
  have := List.length_filter_le (viaOk f addr now) (ls.take j)
  have := List.length_take_le j ls
  omega
/-- What a key finds in a right set. -/
theorem find_there {ms : List R} (h : setB ms = true) {v a : Int} (h1 : 0 ≤ v) (h2 : 0 ≤ a) (h3 : a < 100) : findT ms v a = if thereB ms (100 * v + a) = true then some (ms.getD (place ms (100 * v + a)) R.zero) else none := by
  cases ht : thereB ms (100 * v + a)
  · rw [if_neg (by simp)]
    exact find_no (fun m hm hh => by
      have hk : m.key = 100 * v + a := by rw [key_eq m, hh.1, hh.2]
      have := (mem_find h hm).2.2
      rw [hk, ht] at this; cases this)
  · rw [if_pos rfl]
    unfold thereB at ht
    rw [Bool.and_eq_true] at ht
    have hp := of_decide_eq_true ht.1
    have hk := of_decide_eq_true ht.2
    have hop : hv (ms.getD (place ms (100 * v + a)) R.zero) = v ∧ ha (ms.getD (place ms (100 * v + a)) R.zero) = a := by
      unfold hv ha; rw [hk]; exact hop_mk (t := 0) (u := 0) h1 h2 h3
    generalize place ms (100 * v + a) = p at *
    have e : ms = ms.take p ++ ms.getD p R.zero :: ms.drop (p + 1) := by
      rw [getD_get hp, ← List.drop_eq_getElem_cons hp]; exact (List.take_append_drop _ _).symm
    have hn : (ms.take p).find? (isHp v a) = none := find_no (fun m hm hh => by
      obtain ⟨i, hi, rfl⟩ := List.getElem_of_mem hm
      have hij : i < p ∧ i < ms.length := by simp at hi; omega
      have hr := rises h p i hij.1 hp
      rw [List.getElem_take] at hh
      have hk2 : (ms[i]'hij.2).key = 100 * v + a := by rw [key_eq, hh.1, hh.2]
      rw [getD_get hij.2, hk2, hk] at hr
      omega)
    unfold findT
    conv => lhs; rw [e]
    rw [List.find?_append, hn, List.find?_cons_of_pos (by rw [isHp_iff]; exact hop)]
    rfl
def keptM (ms : List R) (k now : Int) : Bool := thereB ms k && decide (now < (ms.getD (place ms k) R.zero).til)
theorem kept_eq {ms : List R} (h : setB ms = true) {v a : Int} (now : Int) (h1 : 0 ≤ v) (h2 : 0 ≤ a) (h3 : a < 100) : keptM ms (100 * v + a) now = keptB (findT ms v a) now := by
  rw [find_there h h1 h2 h3]
  unfold keptM
  cases thereB ms (100 * v + a) <;> rfl
/-- Those of the first n addresses of which a condition holds. -/
def strN (c : Int → Bool) (n : Nat) : List Int := ((List.range n).filter (fun t : Nat => c ((t : Int) + 1))).map (fun t : Nat => (t : Int) + 1)
theorem strN_yes {c : Int → Bool} {n : Nat} (h : c ((n : Int) + 1) = true) : strN c (n + 1) = strN c n ++ [(n : Int) + 1] := by
  have e : (List.filter (fun t : Nat => c ((t : Int) + 1)) [n]) = [n] := by simp [h]
  unfold strN; rw [List.range_succ, List.filter_append, e, List.map_append]; rfl
theorem strN_no {c : Int → Bool} {n : Nat} (h : c ((n : Int) + 1) = false) : strN c (n + 1) = strN c n := by
  have e : (List.filter (fun t : Nat => c ((t : Int) + 1)) [n]) = [] := by simp [h]
  unfold strN; rw [List.range_succ, List.filter_append, e, List.append_nil]
theorem strN_len (c : Int → Bool) (n : Nat) : (strN c n).length ≤ n := by
  unfold strN; rw [List.length_map]
  have := List.length_filter_le (fun t : Nat => c ((t : Int) + 1)) (List.range n)
  rw [List.length_range] at this; exact this
def condS (ms : List R) (ls : List Lk.R) (me now a : Int) : Bool := (a != me) && (!(Ln.symN now ls ls.length).contains a && decide (0 < (viaL (findT ms) ls a now ls.length).length))
/-- The code of a set and of links; what StrictTwo, ViaOf answer. -/
def codeTL (ms : List R) (ls : List Lk.R) : Int := if 4096 < ms.length ∨ 4096 < ls.length then 2 else if (twoB ms && Ln.linksB ls) = true then 0 else 1
def strictA (ms : List R) (ls : List Lk.R) (me now : Int) : List Int := if codeTL ms ls = 0 then strN (condS ms ls me now) 8 else []
def viaA (ms : List R) (ls : List Lk.R) (addr now : Int) : List Int := if codeTL ms ls = 0 then viaL (findT ms) ls addr now ls.length else []
theorem strict_len (ms : List R) (ls : List Lk.R) (me now : Int) : (strictA ms ls me now).length ≤ 8 := by
  unfold strictA; split
  · exact strN_len _ _
  · simp
theorem codeTL_ok {ms : List R} {ls : List Lk.R} (h : codeTL ms ls = 0) : twoB ms = true ∧ Ln.linksB ls = true := by
  unfold codeTL at h
  split at h
  · omega
  · split at h
    · rename_i h2; rw [Bool.and_eq_true] at h2; exact h2
    · omega
theorem has_succ {zs : List Int} {z : Int} {j : Nat} (hj : j < zs.length) (h : (zs.take j).contains z = false) (hk : (z == zs.getD j 0) = false) : (zs.take (j + 1)).contains z = false := by
  have e : zs.take (j + 1) = zs.take j ++ [zs.getD j 0] := by rw [List.take_add_one, List.getElem?_eq_getElem hj, List.getD_eq_getElem?_getD, List.getElem?_eq_getElem hj]; rfl
  rw [e]
  generalize zs.take j = A at *
  generalize zs.getD j 0 = y at *
  simp at h hk ⊢
  exact ⟨h, hk⟩
theorem has_yes {zs : List Int} {z : Int} {j : Nat} (hj : j < zs.length) (hk : (z == zs.getD j 0) = true) : zs.contains z = true := by
  rw [List.getD_eq_getElem?_getD, List.getElem?_eq_getElem hj] at hk
  simp at hk
  rw [hk]; simp
end Tw
end Go.Proofs.Ytmelbilepfnmjab
