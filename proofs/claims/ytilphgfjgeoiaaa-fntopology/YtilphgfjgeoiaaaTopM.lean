/-
  Mathematics of topologies: sources whose addresses rise, edges by their sources; a source that is put, what expires.
-/
import Derived.Test.YtilphgfjgeoiaaaRecSource
import Derived.Test.YtilphgfjgeoiaaaTwoM
import Derived.Test.YtilphgfjgeoiaaaRise
namespace Go.Proofs.Ytilphgfjgeoiaaa
set_option linter.unusedVariables false
set_option linter.unusedSimpArgs false
namespace Pl
variable {α : Type}
/-- The first place at which something holds, or the list's length. -/
def place (p : α → Bool) (ms : List α) : Nat := (ms.takeWhile fun m => !p m).length
theorem place_of (z : α) (p : α → Bool) : ∀ (ms : List α) (j : Nat), j ≤ ms.length → (∀ i, i < j → p (ms.getD i z) = false) → (j < ms.length → p (ms.getD j z) = true) → place p ms = j
  | [], j, hj, _, _ => by simp at hj; subst hj; rfl
  | m :: t, 0, _, _, h2 => by
    have h := h2 (by simp)
    simp at h
    unfold place
    rw [List.takeWhile_cons_of_neg (by simp [h])]; rfl
  | m :: t, j + 1, hj, h1, h2 => by
    have h := h1 0 (by omega)
    simp at h
    have ih := place_of z p t j (by simpa using hj) (fun i hi => by have := h1 (i + 1) (by omega); simpa using this) (fun hl => by have := h2 (by simp; omega); simpa using this)
    unfold place at *
    rw [List.takeWhile_cons_of_pos (by simp [h]), List.length_cons, ih]
theorem place_le (p : α → Bool) (ms : List α) : place p ms ≤ ms.length := (List.takeWhile_sublist (p := fun m => !p m) (l := ms)).length_le
theorem place_cons_yes {p : α → Bool} {m : α} {t : List α} (h : p m = true) : place p (m :: t) = 0 := by unfold place; rw [List.takeWhile_cons_of_neg (by simp [h])]; rfl
theorem place_cons_no {p : α → Bool} {m : α} {t : List α} (h : p m = false) : place p (m :: t) = place p t + 1 := by unfold place; rw [List.takeWhile_cons_of_pos (by simp [h]), List.length_cons]
end Pl
namespace Tp
open W1 Tu St Tw
/-- Whether a source is right; whether sources are, the first j of them. -/
def okS (s : So.R) : Bool := inB s.ad 1 8 && (inB s.an 0 65535 && inB s.til 0 1073741824)
abbrev allS (ss : List So.R) (j : Nat) : Bool := Ri.all So.R.zero okS So.R.ad ss j
def srcB (ss : List So.R) : Bool := allS ss ss.length
def isS (a : Int) (s : So.R) : Bool := s.ad == a
def hasS (ss : List So.R) (a : Int) : Bool := (ss.find? (isS a)).isSome
/-- Whether an edge has its source; the first j of them; whether a topology is right. -/
def okE (ss : List So.R) (m : R) : Bool := decide (1 ≤ m.val) && hasS ss (hv m)
def edgB (ss : List So.R) (es : List R) (j : Nat) : Bool := (es.take j).all (okE ss)
def topB (ss : List So.R) (es : List R) : Bool := srcB ss && (twoB es && es.all (okE ss))
theorem ok_ad {s : So.R} (h : okS s = true) : 1 ≤ s.ad ∧ s.ad ≤ 8 := by unfold okS inB at h; simp at h; exact h.1
theorem ok_an {s : So.R} (h : okS s = true) : 0 ≤ s.an ∧ s.an ≤ 65535 := by unfold okS inB at h; simp at h; exact h.2.1
theorem ok_til {s : So.R} (h : okS s = true) : 0 ≤ s.til ∧ s.til ≤ 1073741824 := by unfold okS inB at h; simp at h; exact h.2.2
theorem src_len {ss : List So.R} (h : srcB ss = true) : ss.length ≤ 8 := by
  have := Ri.all_long (lo := 1) (hi := 8) (fun m hm => ok_ad hm) h; omega
theorem top_src {ss : List So.R} {es : List R} (h : topB ss es = true) : srcB ss = true := by unfold topB at h; rw [Bool.and_eq_true] at h; exact h.1
theorem top_two {ss : List So.R} {es : List R} (h : topB ss es = true) : twoB es = true := by unfold topB at h; rw [Bool.and_eq_true, Bool.and_eq_true] at h; exact h.2.1
theorem top_edg {ss : List So.R} {es : List R} (h : topB ss es = true) : ∀ m ∈ es, okE ss m = true := by unfold topB at h; rw [Bool.and_eq_true, Bool.and_eq_true] at h; exact List.all_eq_true.1 h.2.2
theorem top_of {ss : List So.R} {es : List R} (h1 : srcB ss = true) (h2 : twoB es = true) (h3 : ∀ m ∈ es, okE ss m = true) : topB ss es = true := by unfold topB; rw [h1, h2, List.all_eq_true.2 h3]; rfl
theorem top_nosrc {ss : List So.R} {es : List R} (h : srcB ss = false) : topB ss es = false := by unfold topB; rw [h]; rfl
theorem top_notwo {ss : List So.R} {es : List R} (h : twoB es = false) : topB ss es = false := by unfold topB; rw [h]; simp
theorem isS_iff {a : Int} {s : So.R} : isS a s = true ↔ s.ad = a := by unfold isS; simp
theorem has_iff {ss : List So.R} {a : Int} : hasS ss a = true ↔ ∃ s ∈ ss, s.ad = a := by
  unfold hasS
  rw [List.find?_isSome]
  simp only [isS_iff]
theorem has_not {ss : List So.R} {a : Int} (h : hasS ss a = false) : ∀ s ∈ ss, s.ad ≠ a := fun s hs e => by rw [has_iff.2 ⟨s, hs, e⟩] at h; cases h
theorem edg_zero (ss : List So.R) (es : List R) : edgB ss es 0 = true := rfl
theorem edg_succ {ss : List So.R} {es : List R} {j : Nat} (hj : j < es.length) (h : edgB ss es j = true) (hk : okE ss (es.getD j R.zero) = true) : edgB ss es (j + 1) = true := by
  unfold edgB at *; rw [take_one hj, List.all_append, h, Bool.true_and, List.all_cons, hk]; rfl
theorem edg_no {ss : List So.R} {es : List R} {j : Nat} (hj : j < es.length) (hk : okE ss (es.getD j R.zero) = false) : topB ss es = false := by
  cases h : topB ss es
  · rfl
  · have := top_edg h _ (getD_mem hj); rw [hk] at this; cases this
theorem edg_all {ss : List So.R} {es : List R} (hs : srcB ss = true) (h : edgB ss es es.length = true) : topB ss es = twoB es := by
  unfold edgB at h; rw [List.take_length] at h; unfold topB; rw [h, hs]; simp
/-- The check of one edge, its source worked out of a key that may be any number. -/
theorem edge_check {ss : List So.R} {es : List R} {j : Nat} {v : Int} (hj : j < es.length) (hv' : IntKind.i64.wrap ((es.getD j R.zero).key.tdiv 100) = v) (hr : edgB ss es j = true ∨ twoB es = false) :
    ((hasS ss v && decide (1 ≤ (es.getD j R.zero).val)) = false → topB ss es = false) ∧ ((hasS ss v && decide (1 ≤ (es.getD j R.zero).val)) = true → edgB ss es (j + 1) = true ∨ twoB es = false) := by
  cases hs : twoB es
  · exact ⟨fun _ => top_notwo hs, fun _ => .inr rfl⟩
  have hb := ok_bounds (setB_ok (two_set hs) hj)
  have e1 : (es.getD j R.zero).key.tdiv 100 = (es.getD j R.zero).key / 100 := Int.tdiv_eq_ediv_of_nonneg hb.1
  have w1 : v = hv (es.getD j R.zero) := by rw [← hv', IntKind.wrap_i64]; unfold hv; rw [e1]; omega
  have e : (hasS ss v && decide (1 ≤ (es.getD j R.zero).val)) = okE ss (es.getD j R.zero) := by rw [w1]; unfold okE; rw [Bool.and_comm]
  rw [e]
  refine ⟨fun h => edg_no hj h, fun h => .inl (edg_succ hj ?_ h)⟩
  rcases hr with h | h
  · exact h
  · rw [hs] at h; cases h
/-- Addresses that rise. -/
abbrev UpS (ss : List So.R) : Prop := ss.Pairwise (fun a b => a.ad < b.ad)
theorem getD_get {ss : List So.R} {i : Nat} (h : i < ss.length) : ss.getD i So.R.zero = ss[i] := by rw [List.getD_eq_getElem?_getD, List.getElem?_eq_getElem h]; rfl
theorem up_src {ss : List So.R} (h : srcB ss = true) : UpS ss := by
  rw [UpS, List.pairwise_iff_getElem]
  intro i j hi hj hij
  have := Ri.rises h j i hij hj
  rw [getD_get hi, getD_get hj] at this
  exact this
theorem src_ok {ss : List So.R} (h : srcB ss = true) : ∀ s ∈ ss, okS s = true := by
  intro s hs
  obtain ⟨i, hi, rfl⟩ := List.getElem_of_mem hs
  have := Ri.all_ok h hi
  rw [getD_get hi] at this; exact this
theorem src_of {ss : List So.R} (h : UpS ss) (ho : ∀ s ∈ ss, okS s = true) : srcB ss = true := by
  have key : ∀ j, j ≤ ss.length → allS ss j = true := by
    intro j
    induction j with
    | zero => intro _; exact Ri.all_zero
    | succ j ih =>
      intro hj
      have hok : okS (ss.getD j So.R.zero) = true := ho _ (by rw [getD_get (by omega)]; exact List.getElem_mem _)
      refine Ri.all_succ (ih (by omega)) ?_
      cases j with
      | zero => exact Ri.step_zero hok
      | succ j =>
        refine Ri.step_lt hok ?_
        rw [getD_get (by omega), getD_get (by omega)]
        exact (List.pairwise_iff_getElem.1 h) j (j + 1) (by omega) (by omega) (by omega)
  exact key _ (Nat.le_refl _)
/-- Where an address stands, or would; whether it is there. -/
def atS (a : Int) (s : So.R) : Bool := decide (a ≤ s.ad)
def placeS (ss : List So.R) (a : Int) : Nat := Pl.place (atS a) ss
def thereS (ss : List So.R) (a : Int) : Bool := decide (placeS ss a < ss.length) && decide ((ss.getD (placeS ss a) So.R.zero).ad = a)
theorem place_le (ss : List So.R) (a : Int) : placeS ss a ≤ ss.length := Pl.place_le _ _
theorem place_lt {s : So.R} {t : List So.R} {a : Int} (h : s.ad < a) : placeS (s :: t) a = placeS t a + 1 := Pl.place_cons_no (by unfold atS; exact decide_eq_false (by omega))
theorem place_ge {s : So.R} {t : List So.R} {a : Int} (h : a ≤ s.ad) : placeS (s :: t) a = 0 := Pl.place_cons_yes (by unfold atS; exact decide_eq_true h)
theorem there_lt {s : So.R} {t : List So.R} {a : Int} (h : s.ad < a) : thereS (s :: t) a = thereS t a := by
  unfold thereS; rw [place_lt h]; simp
theorem there_ge {s : So.R} {t : List So.R} {a : Int} (h : a ≤ s.ad) : thereS (s :: t) a = decide (s.ad = a) := by
  unfold thereS; rw [place_ge h]; simp
def ltS (a : Int) (s : So.R) : Bool := decide (s.ad < a)
def gtS (a : Int) (s : So.R) : Bool := decide (a < s.ad)
def neS (a : Int) (s : So.R) : Bool := !(s.ad == a)
theorem find_there : ∀ {ss : List So.R}, UpS ss → ∀ a, ss.find? (isS a) = if thereS ss a = true then some (ss.getD (placeS ss a) So.R.zero) else none
  | [], _, a => rfl
  | s :: t, h, a => by
    obtain ⟨h1, h2⟩ := List.pairwise_cons.1 h
    rcases Int.lt_trichotomy s.ad a with hk | hk | hk
    · rw [List.find?_cons_of_neg (by rw [isS_iff]; omega), there_lt hk, place_lt hk, find_there h2 a]; simp
    · rw [List.find?_cons_of_pos (by rw [isS_iff]; exact hk), there_ge (by omega), place_ge (by omega), decide_eq_true hk]; simp
    · rw [there_ge (by omega), decide_eq_false (by omega)]
      simp only [Bool.false_eq_true, if_false]
      rw [List.find?_eq_none]
      intro x hx
      rw [isS_iff]
      rcases List.mem_cons.1 hx with rfl | hx
      · omega
      · have := h1 x hx; omega
theorem has_there {ss : List So.R} (h : UpS ss) (a : Int) : hasS ss a = thereS ss a := by
  unfold hasS; rw [find_there h a]; cases thereS ss a <;> rfl
theorem take_lt : ∀ {ss : List So.R}, UpS ss → ∀ a, ss.take (placeS ss a) = ss.filter (ltS a)
  | [], _, a => by simp
  | s :: t, h, a => by
    obtain ⟨h1, h2⟩ := List.pairwise_cons.1 h
    by_cases hk : s.ad < a
    · rw [place_lt hk, List.take_succ_cons, take_lt h2 a, List.filter_cons_of_pos (by unfold ltS; exact decide_eq_true hk)]
    · rw [place_ge (by omega), List.take_zero, filter_none]
      intro x hx
      unfold ltS
      rcases List.mem_cons.1 hx with rfl | hx
      · exact decide_eq_false (by omega)
      · have := h1 x hx; exact decide_eq_false (by omega)
theorem drop_gt : ∀ {ss : List So.R}, UpS ss → ∀ a, ss.drop (placeS ss a + (if thereS ss a = true then 1 else 0)) = ss.filter (gtS a)
  | [], _, a => by simp
  | s :: t, h, a => by
    obtain ⟨h1, h2⟩ := List.pairwise_cons.1 h
    have hall : a ≤ s.ad → t.filter (gtS a) = t := fun hk => List.filter_eq_self.2 (fun x hx => by have := h1 x hx; unfold gtS; exact decide_eq_true (by omega))
    rcases Int.lt_trichotomy s.ad a with hk | hk | hk
    · rw [place_lt hk, there_lt hk, List.filter_cons_of_neg (by unfold gtS; simp; omega), ← drop_gt h2 a, Nat.add_right_comm, List.drop_succ_cons]
    · rw [place_ge (by omega), there_ge (by omega), decide_eq_true hk, if_pos rfl, List.filter_cons_of_neg (by unfold gtS; simp; omega), hall (by omega)]; rfl
    · rw [place_ge (by omega), there_ge (by omega), decide_eq_false (by omega), if_neg (by simp), List.filter_cons_of_pos (by unfold gtS; simp; omega), hall (by omega)]; rfl
/-- Sources with one put: it stands where its address has its place. -/
def withS (ss : List So.R) (x : So.R) : List So.R := ss.filter (ltS x.ad) ++ [x] ++ ss.filter (gtS x.ad)
theorem with_place {ss : List So.R} (h : UpS ss) (x : So.R) : ss.take (placeS ss x.ad) ++ [x] ++ ss.drop (placeS ss x.ad + (if thereS ss x.ad = true then 1 else 0)) = withS ss x := by
  unfold withS; rw [take_lt h, drop_gt h]
theorem up_filter {ss : List So.R} (h : UpS ss) (p : So.R → Bool) : UpS (ss.filter p) := List.Pairwise.filter p h
theorem with_ne {ss : List So.R} (h : UpS ss) (x : So.R) : (ss.filter (neS x.ad)).take (placeS (ss.filter (neS x.ad)) x.ad) ++ [x] ++ (ss.filter (neS x.ad)).drop (placeS (ss.filter (neS x.ad)) x.ad) = withS ss x := by
  have hu := up_filter h (neS x.ad)
  have ht : thereS (ss.filter (neS x.ad)) x.ad = false := by
    rw [← has_there hu]
    cases hh : hasS (ss.filter (neS x.ad)) x.ad
    · rfl
    · obtain ⟨s, hs, e⟩ := has_iff.1 hh
      have := (List.mem_filter.1 hs).2
      unfold neS at this; rw [e] at this; simp at this
  have := with_place hu x
  rw [ht, if_neg (by simp), Nat.add_zero] at this
  rw [this]
  unfold withS
  rw [List.filter_filter, List.filter_filter]
  have e1 : ∀ s : So.R, (ltS x.ad s && neS x.ad s) = ltS x.ad s := fun s => by unfold ltS neS; by_cases hh : s.ad < x.ad <;> simp [hh]; omega
  have e2 : ∀ s : So.R, (gtS x.ad s && neS x.ad s) = gtS x.ad s := fun s => by unfold gtS neS; by_cases hh : x.ad < s.ad <;> simp [hh]; omega
  simp only [e1, e2]
theorem with_mem {ss : List So.R} {x s : So.R} (h : s ∈ withS ss x) : s = x ∨ s ∈ ss := by
  unfold withS at h
  rcases List.mem_append.1 h with h | h
  · rcases List.mem_append.1 h with h | h
    · exact .inr (List.mem_filter.1 h).1
    · exact .inl (by simpa using h)
  · exact .inr (List.mem_filter.1 h).1
theorem with_up {ss : List So.R} (h : UpS ss) (x : So.R) : UpS (withS ss x) := by
  unfold withS
  rw [UpS, List.append_assoc, List.pairwise_append]
  refine ⟨up_filter h _, ?_, ?_⟩
  · rw [List.singleton_append, List.pairwise_cons]
    exact ⟨fun s hs => of_decide_eq_true (List.mem_filter.1 hs).2, up_filter h _⟩
  · intro a ha b hb
    have h1 : a.ad < x.ad := of_decide_eq_true (List.mem_filter.1 ha).2
    rcases List.mem_append.1 hb with hb | hb
    · obtain rfl : b = x := by simpa using hb
      exact h1
    · have : x.ad < b.ad := of_decide_eq_true (List.mem_filter.1 hb).2
      omega
theorem with_src {ss : List So.R} (h : srcB ss = true) {x : So.R} (hx : okS x = true) : srcB (withS ss x) = true :=
  src_of (with_up (up_src h) x) (fun s hs => by rcases with_mem hs with rfl | hs; exact hx; exact src_ok h s hs)
theorem with_len {ss : List So.R} (x : So.R) : (withS ss x).length ≤ ss.length + 1 + ss.length := by
  unfold withS
  rw [List.length_append, List.length_append]
  have := List.length_filter_le (ltS x.ad) ss
  have := List.length_filter_le (gtS x.ad) ss
  simp only [List.length_cons, List.length_nil]; omega
theorem with_find {ss : List So.R} (h : UpS ss) (x : So.R) : (withS ss x).find? (isS x.ad) = some x := by
  unfold withS
  rw [List.find?_append, List.find?_append, show (ss.filter (ltS x.ad)).find? (isS x.ad) = none by
    rw [List.find?_eq_none]; intro s hs; rw [isS_iff]; have : s.ad < x.ad := of_decide_eq_true (List.mem_filter.1 hs).2; omega,
    List.find?_cons_of_pos (by rw [isS_iff])]
  rfl
theorem with_has {ss : List So.R} {x : So.R} {a : Int} (h : hasS ss a = true) : hasS (withS ss x) a = true := by
  obtain ⟨s, hs, e⟩ := has_iff.1 h
  rw [has_iff]
  rcases Int.lt_trichotomy s.ad x.ad with hk | hk | hk
  · exact ⟨s, by unfold withS; simp [ltS, hk, hs], e⟩
  · exact ⟨x, by unfold withS; simp, by omega⟩
  · exact ⟨s, by unfold withS; simp [gtS, hk, hs], e⟩
theorem with_own (ss : List So.R) (x : So.R) : hasS (withS ss x) x.ad = true := has_iff.2 ⟨x, by unfold withS; simp, rfl⟩
/-- What is left behind a time: sources, and edges by sources that are. -/
def liveS (now : Int) (s : So.R) : Bool := decide (now < s.til)
def srcX (ss : List So.R) (now : Int) : List So.R := ss.filter (liveS now)
def edgX (ss : List So.R) (es : List R) (now : Int) : List R := es.filter (fun m => hasS (srcX ss now) (hv m))
def expS (ss : List So.R) (es : List R) (now : Int) : List So.R := if topB ss es = true then srcX ss now else []
def expE (ss : List So.R) (es : List R) (now : Int) : List R := if topB ss es = true then edgX ss es now else []
def topC (ss : List So.R) (es : List R) : Int := if topB ss es = true then 0 else 1
/-- Sources, edges without those of the sources among the first j whose time is over. -/
def overB (ss : List So.R) (now : Int) (j : Nat) (a : Int) : Bool := (ss.take j).any (fun s => decide (s.til ≤ now) && s.ad == a)
def gonS (ss : List So.R) (now : Int) (j : Nat) : List So.R := ss.filter (fun s => !overB ss now j s.ad)
def gonE (ss : List So.R) (es : List R) (now : Int) (j : Nat) : List R := es.filter (fun m => !overB ss now j (hv m))
theorem src_take {ss : List So.R} {j : Nat} (h : j < ss.length) : ss.take (j + 1) = ss.take j ++ [ss.getD j So.R.zero] := by
  rw [List.take_add_one, List.getElem?_eq_getElem h, List.getD_eq_getElem?_getD, List.getElem?_eq_getElem h]; rfl
theorem over_succ {ss : List So.R} {now : Int} {j : Nat} (h : j < ss.length) (a : Int) : overB ss now (j + 1) a = (overB ss now j a || (decide ((ss.getD j So.R.zero).til ≤ now) && (ss.getD j So.R.zero).ad == a)) := by
  unfold overB; rw [src_take h, List.any_append, List.any_cons, List.any_nil, Bool.or_false]
theorem gon_live {ss : List So.R} {es : List R} {now : Int} {j : Nat} (h : j < ss.length) (hl : now < (ss.getD j So.R.zero).til) : gonS ss now (j + 1) = gonS ss now j ∧ gonE ss es now (j + 1) = gonE ss es now j := by
  have e : ∀ a, overB ss now (j + 1) a = overB ss now j a := fun a => by rw [over_succ h, decide_eq_false (by omega)]; simp
  unfold gonS gonE; simp only [e]; exact ⟨trivial, trivial⟩
theorem gon_dead {ss : List So.R} {es : List R} {now : Int} {j : Nat} (h : j < ss.length) (hl : (ss.getD j So.R.zero).til ≤ now) :
    gonS ss now (j + 1) = (gonS ss now j).filter (neS (ss.getD j So.R.zero).ad) ∧ gonE ss es now (j + 1) = (gonE ss es now j).filter (keepF (ss.getD j So.R.zero).ad) := by
  have e : ∀ a, overB ss now (j + 1) a = (overB ss now j a || (ss.getD j So.R.zero).ad == a) := fun a => by rw [over_succ h, decide_eq_true hl, Bool.true_and]
  unfold gonS gonE
  rw [List.filter_filter, List.filter_filter]
  simp only [e]
  refine ⟨List.filter_congr (fun s _ => ?_), List.filter_congr (fun m _ => ?_)⟩
  · unfold neS; rw [Bool.not_or, Bool.and_comm, BEq.comm]
  · unfold keepF; rw [Bool.not_or, Bool.and_comm, BEq.comm]
theorem gon_zero (ss : List So.R) (es : List R) (now : Int) : gonS ss now 0 = ss ∧ gonE ss es now 0 = es := by
  unfold gonS gonE overB; simp
theorem up_uniq {ss : List So.R} (h : UpS ss) {a b : So.R} (ha : a ∈ ss) (hb : b ∈ ss) (e : a.ad = b.ad) : a = b := by
  obtain ⟨i, hi, rfl⟩ := List.getElem_of_mem ha
  obtain ⟨j, hj, rfl⟩ := List.getElem_of_mem hb
  rcases Nat.lt_trichotomy i j with hh | hh | hh
  · have := (List.pairwise_iff_getElem.1 h) i j hi hj hh; omega
  · subst hh; rfl
  · have := (List.pairwise_iff_getElem.1 h) j i hj hi hh; omega
theorem over_all {ss : List So.R} (h : UpS ss) (now : Int) {s : So.R} (hs : s ∈ ss) : overB ss now ss.length s.ad = decide (s.til ≤ now) := by
  unfold overB
  rw [List.take_length, Bool.eq_iff_iff, List.any_eq_true]
  constructor
  · rintro ⟨x, hx, hh⟩
    rw [Bool.and_eq_true] at hh
    have e : x.ad = s.ad := by simpa using hh.2
    rw [← up_uniq h hx hs e]; exact hh.1
  · intro hh; exact ⟨s, hs, by rw [hh]; simp⟩
theorem gon_all {ss : List So.R} {es : List R} (h : topB ss es = true) (now : Int) : gonS ss now ss.length = srcX ss now ∧ gonE ss es now ss.length = edgX ss es now := by
  have hu := up_src (top_src h)
  refine ⟨List.filter_congr (fun s hs => ?_), List.filter_congr (fun m hm => ?_)⟩
  · rw [over_all hu now hs]; unfold liveS; by_cases hh : s.til ≤ now
    · rw [decide_eq_true hh, decide_eq_false (by omega)]; rfl
    · rw [decide_eq_false hh, decide_eq_true (by omega)]; rfl
  · have hk := top_edg h m hm
    unfold okE at hk
    rw [Bool.and_eq_true] at hk
    obtain ⟨s, hs, e⟩ := has_iff.1 hk.2
    rw [← e, over_all hu now hs, Bool.eq_iff_iff, has_iff]
    constructor
    · intro hh
      have : ¬ s.til ≤ now := by simpa using hh
      exact ⟨s, List.mem_filter.2 ⟨hs, decide_eq_true (by omega)⟩, rfl⟩
    · rintro ⟨x, hx, ex⟩
      obtain ⟨hx1, hx2⟩ := List.mem_filter.1 hx
      rw [up_uniq hu hx1 hs ex] at hx2
      have : now < s.til := of_decide_eq_true hx2
      simp; omega
theorem exp_top {ss : List So.R} {es : List R} (h : topB ss es = true) (now : Int) : topB (srcX ss now) (edgX ss es now) = true := by
  refine top_of (src_of (up_filter (up_src (top_src h)) _) (fun s hs => src_ok (top_src h) s (List.mem_filter.1 hs).1)) (two_filter (top_two h) _) (fun m hm => ?_)
  obtain ⟨h1, h2⟩ := List.mem_filter.1 hm
  have := top_edg h m h1
  unfold okE at *
  rw [Bool.and_eq_true] at *
  exact ⟨this.1, h2⟩
theorem expS_len (ss : List So.R) (es : List R) (now : Int) : (expS ss es now).length ≤ ss.length := by
  unfold expS srcX; split
  · exact List.length_filter_le _ _
  · simp
theorem expE_len (ss : List So.R) (es : List R) (now : Int) : (expE ss es now).length ≤ es.length := by
  unfold expE edgX; split
  · exact List.length_filter_le _ _
  · simp
/-- The source of an address; what SourceOf answers. -/
def fS (ss : List So.R) (k : Int) : So.R := (ss.find? (isS k)).getD So.R.zero
def srcA (ss : List So.R) (es : List R) (a : Int) : So.R := if topB ss es = true then fS ss a else So.R.zero
def srcE (ss : List So.R) (es : List R) (a : Int) : Int := if topB ss es = true then (if hasS ss a = true then 0 else 5) else 1
theorem fS_there {ss : List So.R} (h : UpS ss) {a : Int} (ht : thereS ss a = true) : fS ss a = ss.getD (placeS ss a) So.R.zero := by
  unfold fS; rw [find_there h a, if_pos ht]; rfl
theorem fS_mem {ss : List So.R} {a : Int} (h : hasS ss a = true) : fS ss a ∈ ss ∧ (fS ss a).ad = a := by
  unfold hasS at h
  unfold fS
  cases e : ss.find? (isS a) with
  | none => rw [e] at h; cases h
  | some s => exact ⟨List.mem_of_find?_eq_some e, isS_iff.1 (List.find?_some e)⟩
theorem fS_none {ss : List So.R} {a : Int} (h : hasS ss a = false) : fS ss a = So.R.zero := by
  unfold hasS at h
  unfold fS
  cases e : ss.find? (isS a) with
  | none => rfl
  | some s => rw [e] at h; cases h
end Tp
end Go.Proofs.Ytilphgfjgeoiaaa
