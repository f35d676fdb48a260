/-
  Mathematics of two-hop neighbors: keys of two addresses, what a map of them tells in order, what is put, forgotten and learnt.
-/
import Derived.Test.YtilphgfjgeoiaaaSetS
import Derived.Maps.OwnSet
namespace Go.Proofs.Ytilphgfjgeoiaaa
set_option linter.unusedVariables false
namespace Tw
open W1 Tu St
def hv (m : R) : Int := m.key.tdiv 100
def ha (m : R) : Int := m.key.tmod 100
def okK (m : R) : Bool := inB (hv m) 1 8 && (inB (ha m) 1 8 && !(hv m == ha m))
/-- Whether a set of two-hop neighbors is right; the code of one. -/
def twoB (ms : List R) : Bool := ms.all okK && setB ms
def codeT (ms : List R) : Int := if 4096 < ms.length then 2 else if twoB ms = true then 0 else 1
theorem key_eq (m : R) : m.key = 100 * hv m + ha m := (Int.mul_tdiv_add_tmod m.key 100).symm
theorem ok_k {m : R} (h : okK m = true) : (1 ≤ hv m ∧ hv m ≤ 8) ∧ (1 ≤ ha m ∧ ha m ≤ 8) ∧ hv m ≠ ha m := by
  unfold okK inB at h; simp at h; exact ⟨h.1, h.2.1, h.2.2⟩
theorem two_set {ms : List R} (h : twoB ms = true) : setB ms = true := by unfold twoB at h; rw [Bool.and_eq_true] at h; exact h.2
theorem two_ok {ms : List R} (h : twoB ms = true) : ∀ m ∈ ms, okK m = true := by unfold twoB at h; rw [Bool.and_eq_true] at h; exact List.all_eq_true.1 h.1
theorem two_of {ms : List R} (h : setB ms = true) (ho : ∀ m ∈ ms, okK m = true) : twoB ms = true := by unfold twoB; rw [h, List.all_eq_true.2 ho]; rfl
theorem code_zero {ms : List R} (h : twoB ms = true) : codeT ms = 0 := by
  have := setB_len (two_set h)
  unfold codeT; rw [if_neg (by omega), if_pos h]
theorem code_two {ms : List R} (h : codeT ms = 0) : twoB ms = true := by
  cases hh : twoB ms
  · unfold codeT at h; rw [hh] at h; split at h <;> simp at h
  · rfl
theorem code_long {ms : List R} (h : 4096 < ms.length) : codeT ms = 2 := by unfold codeT; rw [if_pos h]
theorem code_bad {ms : List R} (h : ¬ 4096 < ms.length) (hs : twoB ms = false) : codeT ms = 1 := by unfold codeT; rw [if_neg h, if_neg (by simp [hs])]
theorem hop_mk {v a t u : Int} (h1 : 0 ≤ v) (h2 : 0 ≤ a) (h3 : a < 100) : hv ⟨100 * v + a, t, u⟩ = v ∧ ha ⟨100 * v + a, t, u⟩ = a := by
  unfold hv ha
  dsimp only
  rw [Int.tdiv_eq_ediv_of_nonneg (by omega), Int.tmod_eq_emod_of_nonneg (by omega)]
  omega
/-- The first j keys are of two addresses. -/
def keysB (ms : List R) (j : Nat) : Bool := (ms.take j).all okK
theorem keys_zero (ms : List R) : keysB ms 0 = true := rfl
theorem take_one {ms : List R} {j : Nat} (h : j < ms.length) : ms.take (j + 1) = ms.take j ++ [ms.getD j R.zero] := by
  rw [List.take_add_one, List.getElem?_eq_getElem h, List.getD_eq_getElem?_getD, List.getElem?_eq_getElem h]; rfl
theorem keys_succ {ms : List R} {j : Nat} (hj : j < ms.length) (h : keysB ms j = true) (hk : okK (ms.getD j R.zero) = true) : keysB ms (j + 1) = true := by
  unfold keysB at *; rw [take_one hj, List.all_append, h, Bool.true_and, List.all_cons, hk]; rfl
theorem keys_no {ms : List R} {j : Nat} (hj : j < ms.length) (hk : okK (ms.getD j R.zero) = false) : twoB ms = false := by
  cases h : twoB ms
  · rfl
  · have := two_ok h _ (getD_mem hj); rw [hk] at this; cases this
theorem keys_all {ms : List R} (h : keysB ms ms.length = true) : twoB ms = setB ms := by
  unfold keysB at h; rw [List.take_length] at h; unfold twoB; rw [h]; rfl
theorem set_no {ms : List R} (h : setB ms = false) : twoB ms = false := by unfold twoB; rw [h, Bool.and_false]
/-- A place in the order of addresses. -/
def rk (m : R) : Int := 8 * (hv m - 1) + (ha m - 1)
def isHp (v a : Int) (m : R) : Bool := hv m == v && ha m == a
theorem isHp_iff {v a : Int} {m : R} : isHp v a m = true ↔ hv m = v ∧ ha m = a := by unfold isHp; simp
def findT (L : List R) (v a : Int) : Option R := L.find? (isHp v a)
abbrev UpR (L : List R) : Prop := L.Pairwise (fun a b => rk a < rk b)
theorem rk_lt {a b : R} (h1 : okK a = true) (h2 : okK b = true) (h : a.key < b.key) : rk a < rk b := by
  have := ok_k h1; have := ok_k h2; have := key_eq a; have := key_eq b; unfold rk; omega
theorem rk_in {m : R} (h : okK m = true) : 1 ≤ rk m ∧ rk m ≤ 62 := by have := ok_k h; unfold rk; omega
theorem up_of {ms : List R} (h : twoB ms = true) : UpR ms := by
  have hr := rise_of (two_set h)
  have ho := two_ok h
  unfold Rise at hr
  rw [List.pairwise_iff_getElem] at hr
  rw [UpR, List.pairwise_iff_getElem]
  intro i j hi hj hij
  exact rk_lt (ho _ (List.getElem_mem hi)) (ho _ (List.getElem_mem hj)) (hr i j hi hj hij)
theorem up_len (hi : Int) : ∀ (L : List R) (lo : Int), UpR L → (∀ m ∈ L, lo ≤ rk m ∧ rk m ≤ hi) → L.length = 0 ∨ (L.length : Int) ≤ hi - lo + 1
  | [], _, _, _ => .inl rfl
  | m :: t, lo, h, hb => by
    obtain ⟨h1, h2⟩ := List.pairwise_cons.1 h
    have hm := hb m (List.mem_cons_self ..)
    rcases up_len hi t (lo + 1) h2 (fun x hx => ⟨by have := h1 x hx; omega, (hb x (List.mem_cons_of_mem _ hx)).2⟩) with h0 | h0
    · right; rw [List.length_cons, h0]; omega
    · right; rw [List.length_cons]; omega
theorem two_len {ms : List R} (h : twoB ms = true) : ms.length ≤ 62 := by
  rcases up_len 62 ms 1 (up_of h) (fun m hm => rk_in (two_ok h m hm)) with h0 | h0 <;> omega
theorem filter_none {α : Type} {p : α → Bool} : ∀ {L : List α}, (∀ m ∈ L, p m = false) → L.filter p = []
  | [], _ => rfl
  | m :: t, h => by rw [List.filter_cons_of_neg (by rw [h m (List.mem_cons_self ..)]; simp), filter_none (fun x hx => h x (List.mem_cons_of_mem _ hx))]
/-- What a map tells of the first n places, in order. -/
def ordT (f : Int → Int → Option R) (n : Nat) : List R := (List.range n).filterMap (fun t : Nat => f ((t / 8 : Nat) + 1) ((t % 8 : Nat) + 1))
theorem ordT_succ (f : Int → Int → Option R) (n : Nat) : ordT f (n + 1) = ordT f n ++ (f ((n / 8 : Nat) + 1) ((n % 8 : Nat) + 1)).toList := by
  unfold ordT
  rw [List.range_succ, List.filterMap_append]
  congr 1
theorem ordT_len (f : Int → Int → Option R) (n : Nat) : (ordT f n).length ≤ n := by
  unfold ordT
  have := List.length_filterMap_le (fun t : Nat => f ((t / 8 : Nat) + 1) ((t % 8 : Nat) + 1)) (List.range n)
  rw [List.length_range] at this; exact this
theorem hp_rk {m : R} (h : okK m = true) (n : Nat) : isHp ((n / 8 : Nat) + 1) ((n % 8 : Nat) + 1) m = true ↔ rk m = n := by
  rw [isHp_iff]; have := ok_k h; unfold rk; omega
theorem lt_succ (n : Nat) : ∀ (L : List R), UpR L → (∀ m ∈ L, okK m = true) → L.filter (fun m => decide (rk m < (n : Int) + 1)) = L.filter (fun m => decide (rk m < (n : Int))) ++ (findT L ((n / 8 : Nat) + 1) ((n % 8 : Nat) + 1)).toList
  | [], _, _ => rfl
  | m :: t, h, ho => by
    obtain ⟨h1, h2⟩ := List.pairwise_cons.1 h
    have hm := hp_rk (ho m (List.mem_cons_self ..)) n
    have ih := lt_succ n t h2 (fun x hx => ho x (List.mem_cons_of_mem _ hx))
    unfold findT at *
    rcases Int.lt_trichotomy (rk m) n with hk | hk | hk
    · rw [List.filter_cons_of_pos (by simp; omega), List.filter_cons_of_pos (by simp; omega), List.find?_cons_of_neg (by rw [hm]; omega), ih]; rfl
    · rw [List.filter_cons_of_pos (by simp; omega), List.filter_cons_of_neg (by simp; omega), List.find?_cons_of_pos (by rw [hm]; exact hk), filter_none (fun x hx => by have := h1 x hx; simp; omega), filter_none (fun x hx => by have := h1 x hx; simp; omega)]; rfl
    · rw [List.filter_cons_of_neg (by simp; omega), List.filter_cons_of_neg (by simp; omega), List.find?_cons_of_neg (by rw [hm]; omega), ih]
theorem ord_find (L : List R) (h : UpR L) (ho : ∀ m ∈ L, okK m = true) : ∀ n : Nat, ordT (findT L) n = L.filter (fun m => decide (rk m < (n : Int)))
  | 0 => by rw [filter_none (fun m hm => by have := rk_in (ho m hm); simp; omega)]; rfl
  | n + 1 => by
    rw [ordT_succ, ord_find L h ho n, show (((n + 1 : Nat) : Int)) = (n : Int) + 1 by omega, lt_succ n L h ho]
theorem ord_all {L : List R} (h : twoB L = true) : ordT (findT L) 64 = L := by
  rw [ord_find L (up_of h) (two_ok h)]
  exact List.filter_eq_self.2 (fun m hm => by have := rk_in (two_ok h m hm); simp; omega)
/-- The addresses by one, in order, up to n. -/
def byT (f : Int → Int → Option R) (via : Int) (n : Nat) : List Int := (List.range n).filterMap (fun t : Nat => if (f via ((t : Int) + 1)).isSome = true then some ((t : Int) + 1) else none)
theorem byT_yes {f : Int → Int → Option R} {via : Int} {n : Nat} (h : (f via ((n : Int) + 1)).isSome = true) : byT f via (n + 1) = byT f via n ++ [(n : Int) + 1] := by
  unfold byT; rw [List.range_succ, List.filterMap_append]; simp [h]
theorem byT_no {f : Int → Int → Option R} {via : Int} {n : Nat} (h : (f via ((n : Int) + 1)).isSome = false) : byT f via (n + 1) = byT f via n := by
  unfold byT; rw [List.range_succ, List.filterMap_append]; simp [h]
theorem byT_len (f : Int → Int → Option R) (via : Int) (n : Nat) : (byT f via n).length ≤ n := by
  unfold byT
  have := List.length_filterMap_le (fun t : Nat => if (f via ((t : Int) + 1)).isSome = true then some ((t : Int) + 1) else none) (List.range n)
  rw [List.length_range] at this; exact this
def isVia (via : Int) (m : R) : Bool := hv m == via
theorem by_succ (via n : Int) : ∀ (L : List R), UpR L → (∀ m ∈ L, okK m = true) → (L.filter (fun m => isVia via m && decide (ha m ≤ n + 1))).map ha = (L.filter (fun m => isVia via m && decide (ha m ≤ n))).map ha ++ (if (findT L via (n + 1)).isSome = true then [n + 1] else [])
  | [], _, _ => rfl
  | m :: t, h, ho => by
    obtain ⟨h1, h2⟩ := List.pairwise_cons.1 h
    have ih := by_succ via n t h2 (fun x hx => ho x (List.mem_cons_of_mem _ hx))
    unfold findT at *
    by_cases hvi : hv m = via
    · have hb : isVia via m = true := by unfold isVia; simp [hvi]
      rcases Int.lt_trichotomy (ha m) (n + 1) with hk | hk | hk
      · rw [List.filter_cons_of_pos (by rw [hb]; simp; omega), List.filter_cons_of_pos (by rw [hb]; simp; omega), List.find?_cons_of_neg (by rw [isHp_iff]; omega), List.map_cons, List.map_cons, ih]; rfl
      · have hno : ∀ x ∈ t, (isVia via x && decide (ha x ≤ n + 1)) = false := fun x hx => by
          have q := h1 x hx
          have := ok_k (ho x (List.mem_cons_of_mem _ hx))
          have := ok_k (ho m (List.mem_cons_self ..))
          unfold rk at q
          unfold isVia
          by_cases e : hv x = via
          · rw [show (hv x == via) = true by simp [e], Bool.true_and]; exact decide_eq_false (by omega)
          · rw [show (hv x == via) = false by simp [e]]; rfl
        have hno' : ∀ x ∈ t, (isVia via x && decide (ha x ≤ n)) = false := fun x hx => by
          have := hno x hx
          cases e : isVia via x
          · rfl
          · rw [e] at this; simp at this ⊢; omega
        rw [List.filter_cons_of_pos (by rw [hb]; simp; omega), List.filter_cons_of_neg (by rw [hb]; simp; omega), List.find?_cons_of_pos (by rw [isHp_iff]; exact ⟨hvi, hk⟩), filter_none hno, filter_none hno']
        simp [hk]
      · rw [List.filter_cons_of_neg (by rw [hb]; simp; omega), List.filter_cons_of_neg (by rw [hb]; simp; omega), List.find?_cons_of_neg (by rw [isHp_iff]; omega), ih]
    · have hb : isVia via m = false := by unfold isVia; simp [hvi]
      rw [List.filter_cons_of_neg (by rw [hb]; simp), List.filter_cons_of_neg (by rw [hb]; simp), List.find?_cons_of_neg (by rw [isHp_iff]; exact fun h => hvi h.1), ih]
theorem by_find {L : List R} (h : UpR L) (ho : ∀ m ∈ L, okK m = true) (via : Int) : ∀ n : Nat, byT (findT L) via n = (L.filter (fun m => isVia via m && decide (ha m ≤ (n : Int)))).map ha
  | 0 => by rw [filter_none (fun m hm => by have := ok_k (ho m hm); cases isVia via m <;> simp; omega)]; rfl
  | n + 1 => by
    rw [show (((n + 1 : Nat) : Int)) = (n : Int) + 1 by omega, by_succ via n L h ho, ← by_find h ho via n]
    cases e : (findT L via ((n : Int) + 1)).isSome
    · rw [byT_no e]; simp
    · rw [byT_yes e]; simp
theorem by_all {L : List R} (h : twoB L = true) (via : Int) : byT (findT L) via 8 = (L.filter (isVia via)).map ha := by
  rw [by_find (up_of h) (two_ok h)]
  congr 1
  refine List.filter_congr (fun m hm => ?_)
  have := ok_k (two_ok h m hm)
  rw [decide_eq_true (by omega), Bool.and_true]
/-- What TwoOf answers. -/
def twoA (ms : List R) (via : Int) : List Int := if codeT ms = 0 then (ms.filter (isVia via)).map ha else []
theorem twoA_len (ms : List R) (via : Int) : (twoA ms via).length ≤ ms.length := by
  unfold twoA; split
  · rw [List.length_map]; exact List.length_filter_le _ _
  · simp
def viaN (via : Int) (ms : List R) (j : Nat) : List Int := ((ms.take j).filter (isVia via)).map ha
theorem viaN_yes {via : Int} {ms : List R} {j : Nat} (h : j < ms.length) (hs : isVia via (ms.getD j R.zero) = true) : viaN via ms (j + 1) = viaN via ms j ++ [ha (ms.getD j R.zero)] := by
  unfold viaN; rw [take_one h, List.filter_append, List.filter_cons_of_pos hs, List.map_append]; rfl
theorem viaN_no {via : Int} {ms : List R} {j : Nat} (h : j < ms.length) (hs : isVia via (ms.getD j R.zero) = false) : viaN via ms (j + 1) = viaN via ms j := by
  unfold viaN; rw [take_one h, List.filter_append, List.filter_cons_of_neg (by rw [hs]; simp), List.filter_nil, List.append_nil]
theorem viaN_len (via : Int) (ms : List R) (j : Nat) : (viaN via ms j).length ≤ j := by
  unfold viaN; rw [List.length_map]
  have := List.length_filter_le (isVia via) (ms.take j)
  have := List.length_take_le j ms
  omega
/-- What is behind one put, one delete. -/
def updT (f : Int → Int → Option R) (v a : Int) (m : R) : Int → Int → Option R := fun x y => if x = v ∧ y = a then some m else f x y
def delT (f : Int → Int → Option R) (v a : Int) : Int → Int → Option R := fun x y => if x = v ∧ y = a then none else f x y
theorem find_no {L : List R} {v a : Int} (h : ∀ m ∈ L, ¬ (hv m = v ∧ ha m = a)) : findT L v a = none := by
  unfold findT; rw [List.find?_eq_none]; intro m hm; rw [isHp_iff]; exact h m hm
theorem key_hop {m x : R} : (hv m = hv x ∧ ha m = ha x) ↔ m.key = x.key := by
  constructor
  · intro h; rw [key_eq m, key_eq x, h.1, h.2]
  · intro h; unfold hv ha; rw [h]; exact ⟨rfl, rfl⟩
theorem find_put {L : List R} (h : setB L = true) (hl : L.length < 64) (x : R) : findT (putL L x) = updT (findT L) (hv x) (ha x) x := by
  have hr := rise_of h
  funext v a
  unfold updT
  cases ht : thereB L x.key
  · have e : putL L x = L.take (place L x.key) ++ [x] ++ L.drop (place L x.key) := by unfold putL; rw [if_neg (by rw [ht]; simp), if_neg (by omega)]
    have eL : L = L.take (place L x.key) ++ L.drop (place L x.key) := (List.take_append_drop _ _).symm
    have hA := fun m (hm : m ∈ L.take (place L x.key)) => lt_place hm
    have hC := fun m (hm : m ∈ L.drop (place L x.key)) => gt_place' hr ht hm
    rw [e]
    generalize L.take (place L x.key) = A at *
    generalize L.drop (place L x.key) = C at *
    subst eL
    unfold findT
    rw [List.find?_append, List.find?_append, List.find?_append]
    by_cases hx : v = hv x ∧ a = ha x
    · rw [if_pos hx, show A.find? (isHp v a) = none from find_no (fun m hm hh => by have := hA m hm; have := key_hop.1 (show hv m = hv x ∧ ha m = ha x by rw [hh.1, hh.2, hx.1, hx.2]; exact ⟨rfl, rfl⟩); omega), List.find?_cons_of_pos (by rw [isHp_iff, hx.1, hx.2]; exact ⟨rfl, rfl⟩)]
      rfl
    · rw [if_neg hx, List.find?_cons_of_neg (by rw [isHp_iff]; exact fun hh => hx ⟨hh.1.symm, hh.2.symm⟩)]
      simp
  · have hp : place L x.key < L.length := by unfold thereB at ht; rw [Bool.and_eq_true] at ht; exact of_decide_eq_true ht.1
    have hk : (L[place L x.key]).key = x.key := by
      unfold thereB at ht; rw [Bool.and_eq_true] at ht
      have := of_decide_eq_true ht.2
      rw [getD_get hp] at this; exact this
    have e : putL L x = L.take (place L x.key) ++ [x] ++ L.drop (place L x.key + 1) := by unfold putL; rw [if_pos ht]
    have eL : L = L.take (place L x.key) ++ L[place L x.key] :: L.drop (place L x.key + 1) := by rw [← List.drop_eq_getElem_cons hp]; exact (List.take_append_drop _ _).symm
    have hA := fun m (hm : m ∈ L.take (place L x.key)) => lt_place hm
    rw [e]
    generalize L[place L x.key] = y at *
    generalize L.take (place L x.key) = A at *
    generalize L.drop (place L x.key + 1) = C at *
    subst eL
    obtain ⟨k1, k2⟩ := key_hop.2 hk
    unfold findT
    rw [List.find?_append, List.find?_append, List.find?_append]
    by_cases hx : v = hv x ∧ a = ha x
    · rw [if_pos hx, show A.find? (isHp v a) = none from find_no (fun m hm hh => by have := hA m hm; have := key_hop.1 (show hv m = hv x ∧ ha m = ha x by rw [hh.1, hh.2, hx.1, hx.2]; exact ⟨rfl, rfl⟩); omega), List.find?_cons_of_pos (by rw [isHp_iff, hx.1, hx.2]; exact ⟨rfl, rfl⟩)]
      rfl
    · have q1 : ¬ isHp v a x = true := by rw [isHp_iff]; exact fun hh => hx ⟨hh.1.symm, hh.2.symm⟩
      have q2 : ¬ isHp v a y = true := by rw [isHp_iff, k1, k2]; exact fun hh => hx ⟨hh.1.symm, hh.2.symm⟩
      rw [if_neg hx, List.find?_cons_of_neg q1, List.find?_cons_of_neg q2]
      simp
theorem find_snoc {ms : List R} (hok : setB ms = true) {j : Nat} (hj : j < ms.length) : updT (findT (ms.take j)) (hv (ms.getD j R.zero)) (ha (ms.getD j R.zero)) (ms.getD j R.zero) = findT (ms.take (j + 1)) := by
  funext v a
  unfold updT
  rw [take_one hj]
  by_cases h : v = hv (ms.getD j R.zero) ∧ a = ha (ms.getD j R.zero)
  · rw [if_pos h]
    have hn : findT (ms.take j) v a = none := find_no (fun m hm hh => by
      obtain ⟨i, hi, rfl⟩ := List.getElem_of_mem hm
      have hij : i < j ∧ i < ms.length := by simp at hi; omega
      have hr := rises hok j i hij.1 hj
      have := key_hop.1 (show hv (ms.take j)[i] = hv (ms.getD j R.zero) ∧ ha (ms.take j)[i] = ha (ms.getD j R.zero) by rw [hh.1, hh.2, ← h.1, ← h.2]; exact ⟨rfl, rfl⟩)
      rw [List.getElem_take] at this
      rw [getD_get hij.2] at hr
      omega)
    unfold findT at *
    rw [List.find?_append, hn, List.find?_cons_of_pos (by rw [isHp_iff]; exact ⟨h.1.symm, h.2.symm⟩)]; rfl
  · rw [if_neg h]
    unfold findT
    rw [List.find?_append, List.find?_cons_of_neg (by rw [isHp_iff]; exact fun hh => h ⟨hh.1.symm, hh.2.symm⟩)]; simp
/-- Without those by one. -/
def keepF (frm : Int) (m : R) : Bool := !(hv m == frm)
def forgT (f : Int → Int → Option R) (frm : Int) (n : Nat) : Int → Int → Option R := fun x y => if x = frm ∧ 1 ≤ y ∧ y ≤ (n : Int) then none else f x y
theorem forgT_zero (f : Int → Int → Option R) (frm : Int) : forgT f frm 0 = f := by
  funext x y; unfold forgT; rw [if_neg (by omega)]
theorem forgT_succ (f : Int → Int → Option R) (frm : Int) (n : Nat) : delT (forgT f frm n) frm ((n : Int) + 1) = forgT f frm (n + 1) := by
  funext x y; unfold delT forgT
  by_cases h1 : x = frm ∧ y = (n : Int) + 1
  · rw [if_pos h1, if_pos (by omega)]
  · rw [if_neg h1]
    by_cases h2 : x = frm ∧ 1 ≤ y ∧ y ≤ (n : Int)
    · rw [if_pos h2, if_pos (by omega)]
    · rw [if_neg h2, if_neg (by omega)]
theorem forg_find {L : List R} (h : twoB L = true) (frm : Int) : forgT (findT L) frm 8 = findT (L.filter (keepF frm)) := by
  funext v a
  unfold forgT
  by_cases e : v = frm
  · subst e
    rw [show findT (L.filter (keepF v)) v a = none from find_no (fun m hm hh => by have := (List.mem_filter.1 hm).2; unfold keepF at this; rw [hh.1] at this; simp at this)]
    by_cases ha8 : 1 ≤ a ∧ a ≤ 8
    · rw [if_pos ⟨rfl, ha8.1, by simpa using ha8.2⟩]
    · rw [if_neg (by intro hh; exact ha8 ⟨hh.2.1, by simpa using hh.2.2⟩)]
      exact find_no (fun m hm hh => by have := ok_k (two_ok h m hm); omega)
  · rw [if_neg (fun hh => e hh.1)]
    unfold findT
    exact (Maps.find_filter_keep (f := isHp v a) (g := keepF frm) (fun m hm => by rw [isHp_iff] at hm; unfold keepF; rw [hm.1]; simpa using e) L).symm
theorem two_filter {L : List R} (h : twoB L = true) (p : R → Bool) : twoB (L.filter p) = true := by
  refine two_of (set_of (Nat.le_trans (List.length_filter_le _ _) (setB_len (two_set h))) (fun m hm => ok_of (two_set h) m (List.mem_filter.1 hm).1) ((rise_of (two_set h)).filter _)) (fun m hm => two_ok h m (List.mem_filter.1 hm).1)
theorem mem_put {L : List R} {x m : R} (h : m ∈ putL L x) : m = x ∨ m ∈ L := by
  unfold putL at h
  split at h
  · rcases List.mem_append.1 h with h | h
    · rcases List.mem_append.1 h with h | h
      · exact .inr (List.mem_of_mem_take h)
      · exact .inl (by simpa using h)
    · exact .inr (List.mem_of_mem_drop h)
  · split at h
    · exact .inr h
    · rcases List.mem_append.1 h with h | h
      · rcases List.mem_append.1 h with h | h
        · exact .inr (List.mem_of_mem_take h)
        · exact .inl (by simpa using h)
      · exact .inr (List.mem_of_mem_drop h)
theorem two_put {L : List R} (h : twoB L = true) {x : R} (hx : okR x = true) (hk : okK x = true) : twoB (putL L x) = true := by
  have hl := two_len h
  refine two_of (put_set (two_set h) hx (by omega)) (fun m hm => ?_)
  rcases mem_put hm with rfl | hm
  · exact hk
  · exact two_ok h m hm
end Tw
end Go.Proofs.Ytilphgfjgeoiaaa
