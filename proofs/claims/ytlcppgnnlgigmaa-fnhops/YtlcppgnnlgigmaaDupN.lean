/-
  Math of marks in a map: which mark a key is, what a map of a list of marks tells, what is put into it; a list that was collected out of one and sorted. (written by mkdupn.py)
-/
import Derived.Test.YtlcppgnnlgigmaaDupM
import Derived.Test.YtlcppgnnlgigmaaSetS
namespace Go.Proofs.Ytlcppgnnlgigmaa
set_option linter.unusedVariables false
set_option linter.unusedSimpArgs false
namespace Du
open W1 Tu St
def hv (m : R) : Int := m.key.tdiv 65536
def ha (m : R) : Int := m.key.tmod 65536
theorem key_eq (m : R) : m.key = 65536 * hv m + ha m := (Int.mul_tdiv_add_tmod m.key 65536).symm
theorem take_one {ms : List R} {j : Nat} (h : j < ms.length) : ms.take (j + 1) = ms.take j ++ [ms.getD j R.zero] := by
  rw [List.take_add_one, List.getElem?_eq_getElem h, List.getD_eq_getElem?_getD, List.getElem?_eq_getElem h]; rfl
def isHp (v a : Int) (m : R) : Bool := hv m == v && ha m == a
theorem isHp_iff {v a : Int} {m : R} : isHp v a m = true ↔ hv m = v ∧ ha m = a := by unfold isHp; simp
def findT (L : List R) (v a : Int) : Option R := L.find? (isHp v a)
/-- What is behind one put, one delete. -/
def updT (f : Int → Int → Option R) (v a : Int) (m : R) : Int → Int → Option R := fun x y => if x = v ∧ y = a then some m else f x y
theorem find_no {L : List R} {v a : Int} (h : ∀ m ∈ L, ¬ (hv m = v ∧ ha m = a)) : findT L v a = none := by
  unfold findT; rw [List.find?_eq_none]; intro m hm; rw [isHp_iff]; exact h m hm
theorem key_hop {m x : R} : (hv m = hv x ∧ ha m = ha x) ↔ m.key = x.key := by
  constructor
  · intro h; rw [key_eq m, key_eq x, h.1, h.2]
  · intro h; unfold hv ha; rw [h]; exact ⟨rfl, rfl⟩
theorem find_put {L : List R} (h : setB L = true) (x : R) (hl : thereB L x.key = true ∨ L.length < 64) : findT (putL L x) = updT (findT L) (hv x) (ha x) x := by
  have hr := rise_of h
  funext v a
  unfold updT
  cases ht : thereB L x.key
  · have e : putL L x = L.take (place L x.key) ++ [x] ++ L.drop (place L x.key) := by unfold putL; rw [if_neg (by rw [ht]; simp), if_neg (by rcases hl with hl | hl; (rw [ht] at hl; cases hl); omega)]
    have eL : L = L.take (place L x.key) ++ L.drop (place L x.key) := (List.take_append_drop _ _).symm
    have hA := fun m (hm : m ∈ L.take (place L x.key)) => lt_place hm
    have hC := fun m (hm : m ∈ L.drop (place L x.key)) => gt_place' hr ht hm
    rw [e]
    generalize L.take (place L x.key) = A at *
    generalize L.drop (place L x.key) = C at *
    subst eL
    unfold findT
    rw [List.find?_append, List.find?_append, List.find?_append]
    by_cases hx : v = hv x ∧ a = ha x
    · rw [if_pos hx, show A.find? (isHp v a) = none from find_no (fun m hm hh => by have := hA m hm; have := key_hop.1 (show hv m = hv x ∧ ha m = ha x by rw [hh.1, hh.2, hx.1, hx.2]; exact ⟨rfl, rfl⟩); omega), List.find?_cons_of_pos (by rw [isHp_iff, hx.1, hx.2]; exact ⟨rfl, rfl⟩)]
      rfl
    · rw [if_neg hx, List.find?_cons_of_neg (by rw [isHp_iff]; exact fun hh => hx ⟨hh.1.symm, hh.2.symm⟩)]
      simp
  · have hp : place L x.key < L.length := by unfold thereB at ht; rw [Bool.and_eq_true] at ht; exact of_decide_eq_true ht.1
    have hk : (L[place L x.key]).key = x.key := by
      unfold thereB at ht; rw [Bool.and_eq_true] at ht
      have := of_decide_eq_true ht.2
      rw [getD_get hp] at this; exact this
    have e : putL L x = L.take (place L x.key) ++ [x] ++ L.drop (place L x.key + 1) := by unfold putL; rw [if_pos ht]
    have eL : L = L.take (place L x.key) ++ L[place L x.key] :: L.drop (place L x.key + 1) := by rw [← List.drop_eq_getElem_cons hp]; exact (List.take_append_drop _ _).symm
    have hA := fun m (hm : m ∈ L.take (place L x.key)) => lt_place hm
    rw [e]
    generalize L[place L x.key] = y at *
    generalize L.take (place L x.key) = A at *
    generalize L.drop (place L x.key + 1) = C at *
    subst eL
    obtain ⟨k1, k2⟩ := key_hop.2 hk
    unfold findT
    rw [List.find?_append, List.find?_append, List.find?_append]
    by_cases hx : v = hv x ∧ a = ha x
    · rw [if_pos hx, show A.find? (isHp v a) = none from find_no (fun m hm hh => by have := hA m hm; have := key_hop.1 (show hv m = hv x ∧ ha m = ha x by rw [hh.1, hh.2, hx.1, hx.2]; exact ⟨rfl, rfl⟩); omega), List.find?_cons_of_pos (by rw [isHp_iff, hx.1, hx.2]; exact ⟨rfl, rfl⟩)]
      rfl
    · have q1 : ¬ isHp v a x = true := by rw [isHp_iff]; exact fun hh => hx ⟨hh.1.symm, hh.2.symm⟩
      have q2 : ¬ isHp v a y = true := by rw [isHp_iff, k1, k2]; exact fun hh => hx ⟨hh.1.symm, hh.2.symm⟩
      rw [if_neg hx, List.find?_cons_of_neg q1, List.find?_cons_of_neg q2]
      simp
theorem find_snoc {ms : List R} (hok : setB ms = true) {j : Nat} (hj : j < ms.length) : updT (findT (ms.take j)) (hv (ms.getD j R.zero)) (ha (ms.getD j R.zero)) (ms.getD j R.zero) = findT (ms.take (j + 1)) := by
  funext v a
  unfold updT
  rw [take_one hj]
  by_cases h : v = hv (ms.getD j R.zero) ∧ a = ha (ms.getD j R.zero)
  · rw [if_pos h]
    have hn : findT (ms.take j) v a = none := find_no (fun m hm hh => by
      obtain ⟨i, hi, rfl⟩ := List.getElem_of_mem hm
      have hij : i < j ∧ i < ms.length := by simp at hi; omega
      have hr := rises hok j i hij.1 hj
      have := key_hop.1 (show hv (ms.take j)[i] = hv (ms.getD j R.zero) ∧ ha (ms.take j)[i] = ha (ms.getD j R.zero) by rw [hh.1, hh.2, ← h.1, ← h.2]; exact ⟨rfl, rfl⟩)
      rw [List.getElem_take] at this
      rw [getD_get hij.2] at hr
      omega)
    unfold findT at *
    rw [List.find?_append, hn, List.find?_cons_of_pos (by rw [isHp_iff]; exact ⟨h.1.symm, h.2.symm⟩)]; rfl
  · rw [if_neg h]
    unfold findT
    rw [List.find?_append, List.find?_cons_of_neg (by rw [isHp_iff]; exact fun hh => h ⟨hh.1.symm, hh.2.symm⟩)]; simp

theorem rise_inj {L : List R} (h : Rise L) {a b : R} (ha : a ∈ L) (hb : b ∈ L) (hk : a.key = b.key) : a = b := by
  obtain ⟨i, hi, rfl⟩ := List.getElem_of_mem ha
  obtain ⟨j, hj, rfl⟩ := List.getElem_of_mem hb
  have hp := List.pairwise_iff_getElem.1 h
  rcases Nat.lt_trichotomy i j with hij | hij | hij
  · have := hp i j hi hj hij; omega
  · subst hij; rfl
  · have := hp j i hj hi hij; omega
theorem find_iff {L : List R} (h : Rise L) {o s : Int} {m : R} : findT L o s = some m ↔ m ∈ L ∧ hv m = o ∧ ha m = s := by
  constructor
  · intro hf
    unfold findT at hf
    exact ⟨List.mem_of_find?_eq_some hf, isHp_iff.1 (List.find?_some hf)⟩
  · rintro ⟨hm, h1, h2⟩
    cases e : findT L o s with
    | none =>
      exfalso
      unfold findT at e
      rw [List.find?_eq_none] at e
      exact e m hm (isHp_iff.2 ⟨h1, h2⟩)
    | some x =>
      unfold findT at e
      have hx := List.mem_of_find?_eq_some e
      have hq := isHp_iff.1 (List.find?_some e)
      have hk : x.key = m.key := key_hop.1 ⟨by rw [hq.1, h1], by rw [hq.2, h2]⟩
      rw [rise_inj h hx hm hk]
theorem find_fresh {ms : List R} (hok : setB ms = true) {j : Nat} (hj : j < ms.length) : findT (ms.take j) (hv (ms.getD j R.zero)) (ha (ms.getD j R.zero)) = none := find_no (fun m hm hh => by
  obtain ⟨i, hi, rfl⟩ := List.getElem_of_mem hm
  have hij : i < j ∧ i < ms.length := by simp at hi; omega
  have hr := rises hok j i hij.1 hj
  have := key_hop.1 hh
  rw [List.getElem_take] at this
  rw [getD_get hij.2] at hr
  omega)
theorem there_find {L : List R} (h : setB L = true) (x : R) : (findT L (hv x) (ha x)).isSome = thereB L x.key := by
  cases ht : thereB L x.key
  · cases e : findT L (hv x) (ha x) with
    | none => rfl
    | some m =>
      exfalso
      obtain ⟨hm, h1, h2⟩ := (find_iff (rise_of h)).1 e
      obtain ⟨j, hj, hjm⟩ := List.getElem_of_mem hm
      have hk := key_hop.1 ⟨h1, h2⟩
      have := (at_place h hj (k := x.key) (by rw [getD_get hj, hjm]; exact hk)).2
      rw [ht] at this; cases this
  · obtain ⟨h1, h2⟩ := there_at ht
    have hm : L.getD (place L x.key) R.zero ∈ L := getD_mem h1
    have hh := key_hop.2 h2
    rw [(find_iff (rise_of h)).2 ⟨hm, hh.1, hh.2⟩]
    rfl
theorem hv_new {og sq now : Int} {s : Bool} (h : askB og sq = true) : hv (newD og sq now s) = og ∧ ha (newD og sq now s) = sq := by
  have hb := ask_bounds h
  unfold hv ha newD
  exact (apart (by unfold keyD; dsimp only; omega) h).2 rfl
theorem hv_lo {m : R} (h : 0 ≤ m.key) : 0 ≤ hv m ∧ hv m ≤ m.key ∧ 0 ≤ ha m ∧ ha m ≤ 65535 := by
  have := tdiv_lo h
  unfold hv ha
  omega
/-- What was collected, sorted, is the list. -/
theorem coll_perm {L ss : List R} (hL : Rise L) (hn : ss.Nodup) (hm : ∀ m, m ∈ ss ↔ m ∈ L) : ss.Perm L := (List.perm_ext_iff_of_nodup hn (hL.imp fun hab e => by rw [e] at hab; omega)).2 hm
theorem sort_is {L d : List R} (hL : Rise L) (hp : d.Perm L) (hs : d.Pairwise (fun a b => ¬ b.key < a.key)) : d = L := by
  refine hp.eq_of_pairwise (le := fun a b : R => a.key ≤ b.key) (fun a b ha hb h1 h2 => rise_inj hL (hp.mem_iff.1 ha) hb (by omega)) (hs.imp fun h => by omega) (hL.imp fun h => by omega)
end Du
end Go.Proofs.Ytlcppgnnlgigmaa
