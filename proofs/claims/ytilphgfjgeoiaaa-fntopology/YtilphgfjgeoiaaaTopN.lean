/-
  Mathematics of topologies and advertisements: what is heard, the edges from one.
-/
import Derived.Test.YtilphgfjgeoiaaaTopM
import Derived.Test.YtilphgfjgeoiaaaAdvM
namespace Go.Proofs.Ytilphgfjgeoiaaa
set_option linter.unusedVariables false
set_option linter.unusedSimpArgs false
namespace Tp
open W1 Tu St Tw
/-- What is advertised, put edge by edge. -/
def tupE (frm til : Int) (n : Ed.R) : R := ⟨100 * frm + n.ad, til, n.mt⟩
def learnE (L : List R) (frm til : Int) (ns : List Ed.R) (j : Nat) : List R :=
  (ns.take j).foldl (fun L n => if (n.ad != frm) = true then putL L (tupE frm til n) else L) L
theorem ed_take {ns : List Ed.R} {j : Nat} (h : j < ns.length) : ns.take (j + 1) = ns.take j ++ [ns.getD j Ed.R.zero] := by
  rw [List.take_add_one, List.getElem?_eq_getElem h, List.getD_eq_getElem?_getD, List.getElem?_eq_getElem h]; rfl
theorem learnE_yes {L : List R} {frm til : Int} {ns : List Ed.R} {j : Nat} (hj : j < ns.length) (h : ((ns.getD j Ed.R.zero).ad != frm) = true) : learnE L frm til ns (j + 1) = putL (learnE L frm til ns j) (tupE frm til (ns.getD j Ed.R.zero)) := by
  unfold learnE; rw [ed_take hj, List.foldl_append, List.foldl_cons, List.foldl_nil, if_pos h]
theorem learnE_no {L : List R} {frm til : Int} {ns : List Ed.R} {j : Nat} (hj : j < ns.length) (h : ((ns.getD j Ed.R.zero).ad != frm) = false) : learnE L frm til ns (j + 1) = learnE L frm til ns j := by
  unfold learnE; rw [ed_take hj, List.foldl_append, List.foldl_cons, List.foldl_nil, if_neg (by rw [h]; simp)]
theorem tupE_ok {frm til : Int} {n : Ed.R} (hf : 1 ≤ frm ∧ frm ≤ 8) (ht : 0 ≤ til ∧ til ≤ 1073741824) (ho : Av.okN n = true) (h : (n.ad != frm) = true) :
    okR (tupE frm til n) = true ∧ okK (tupE frm til n) = true ∧ hv (tupE frm til n) = frm ∧ ha (tupE frm til n) = n.ad := by
  have had := Av.ok_ad ho
  have hmt := Av.ok_mt ho
  have hne : n.ad ≠ frm := by simpa using h
  obtain ⟨e1, e2⟩ := hop_mk (v := frm) (a := n.ad) (t := til) (u := n.mt) (by omega) (by omega) (by omega)
  refine ⟨?_, ?_, e1, e2⟩
  · unfold okR tupE inB; simp; omega
  · unfold okK tupE; rw [e1, e2]; unfold inB; simp; omega
theorem learnE_two {L : List R} {frm til : Int} {ns : List Ed.R} (hL : twoB L = true) (hf : 1 ≤ frm ∧ frm ≤ 8) (ht : 0 ≤ til ∧ til ≤ 1073741824) (ho : Av.allN ns ns.length = true) :
    ∀ j, j ≤ ns.length → twoB (learnE L frm til ns j) = true
  | 0, _ => hL
  | j + 1, hj => by
    have ih := learnE_two hL hf ht ho j (by omega)
    cases h : ((ns.getD j Ed.R.zero).ad != frm)
    · rw [learnE_no (by omega) h]; exact ih
    · obtain ⟨q1, q2, _⟩ := tupE_ok hf ht (Ri.all_ok ho (by omega)) h
      rw [learnE_yes (by omega) h]; exact two_put ih q1 q2
/-- The edges from one, of a map and of a list. -/
def edV (m : R) : Ed.R := ⟨ha m, m.val⟩
def fromE (f : Int → Int → Option R) (frm : Int) (n : Nat) : List Ed.R := (List.range n).filterMap (fun t : Nat => (f frm ((t : Int) + 1)).map (fun m => (⟨(t : Int) + 1, m.val⟩ : Ed.R)))
theorem fromE_yes {f : Int → Int → Option R} {frm : Int} {n : Nat} {m : R} (h : f frm ((n : Int) + 1) = some m) : fromE f frm (n + 1) = fromE f frm n ++ [⟨(n : Int) + 1, m.val⟩] := by
  unfold fromE; rw [List.range_succ, List.filterMap_append]; simp [h]
theorem fromE_no {f : Int → Int → Option R} {frm : Int} {n : Nat} (h : f frm ((n : Int) + 1) = none) : fromE f frm (n + 1) = fromE f frm n := by
  unfold fromE; rw [List.range_succ, List.filterMap_append]; simp [h]
theorem fromE_len (f : Int → Int → Option R) (frm : Int) (n : Nat) : (fromE f frm n).length ≤ n := by
  unfold fromE
  have := List.length_filterMap_le (fun t : Nat => (f frm ((t : Int) + 1)).map (fun m => (⟨(t : Int) + 1, m.val⟩ : Ed.R))) (List.range n)
  rw [List.length_range] at this; exact this
theorem from_succ (via n : Int) : ∀ (L : List R), UpR L → (∀ m ∈ L, okK m = true) → (L.filter (fun m => isVia via m && decide (ha m ≤ n + 1))).map edV = (L.filter (fun m => isVia via m && decide (ha m ≤ n))).map edV ++ ((findT L via (n + 1)).map (fun m => (⟨n + 1, m.val⟩ : Ed.R))).toList
  | [], _, _ => rfl
  | m :: t, h, ho => by
    obtain ⟨h1, h2⟩ := List.pairwise_cons.1 h
    have ih := from_succ via n t h2 (fun x hx => ho x (List.mem_cons_of_mem _ hx))
    unfold findT at *
    by_cases hvi : hv m = via
    · have hb : isVia via m = true := by unfold isVia; simp [hvi]
      rcases Int.lt_trichotomy (ha m) (n + 1) with hk | hk | hk
      · rw [List.filter_cons_of_pos (by rw [hb]; simp; omega), List.filter_cons_of_pos (by rw [hb]; simp; omega), List.find?_cons_of_neg (by rw [isHp_iff]; omega), List.map_cons, List.map_cons, ih]; rfl
      · have hno : ∀ x ∈ t, (isVia via x && decide (ha x ≤ n + 1)) = false := fun x hx => by
          have q := h1 x hx
          have := ok_k (ho x (List.mem_cons_of_mem _ hx))
          have := ok_k (ho m (List.mem_cons_self ..))
          unfold rk at q
          unfold isVia
          by_cases e : hv x = via
          · rw [show (hv x == via) = true by simp [e], Bool.true_and]; exact decide_eq_false (by omega)
          · rw [show (hv x == via) = false by simp [e]]; rfl
        have hno' : ∀ x ∈ t, (isVia via x && decide (ha x ≤ n)) = false := fun x hx => by
          have := hno x hx
          cases e : isVia via x
          · rfl
          · rw [e] at this; simp at this ⊢; omega
        rw [List.filter_cons_of_pos (by rw [hb]; simp; omega), List.filter_cons_of_neg (by rw [hb]; simp; omega), List.find?_cons_of_pos (by rw [isHp_iff]; exact ⟨hvi, hk⟩), filter_none hno, filter_none hno']
        simp [edV, hk]
      · rw [List.filter_cons_of_neg (by rw [hb]; simp; omega), List.filter_cons_of_neg (by rw [hb]; simp; omega), List.find?_cons_of_neg (by rw [isHp_iff]; omega), ih]
    · have hb : isVia via m = false := by unfold isVia; simp [hvi]
      rw [List.filter_cons_of_neg (by rw [hb]; simp), List.filter_cons_of_neg (by rw [hb]; simp), List.find?_cons_of_neg (by rw [isHp_iff]; exact fun h => hvi h.1), ih]
theorem from_find {L : List R} (h : UpR L) (ho : ∀ m ∈ L, okK m = true) (via : Int) : ∀ n : Nat, fromE (findT L) via n = (L.filter (fun m => isVia via m && decide (ha m ≤ (n : Int)))).map edV
  | 0 => by rw [filter_none (fun m hm => by have := ok_k (ho m hm); cases isVia via m <;> simp; omega)]; rfl
  | n + 1 => by
    rw [show (((n + 1 : Nat) : Int)) = (n : Int) + 1 by omega, from_succ via n L h ho, ← from_find h ho via n]
    cases e : findT L via ((n : Int) + 1) with
    | none => rw [fromE_no e]; simp
    | some m => rw [fromE_yes e]; simp
theorem from_all {L : List R} (h : twoB L = true) (via : Int) : fromE (findT L) via 8 = (L.filter (isVia via)).map edV := by
  rw [from_find (up_of h) (two_ok h)]
  congr 1
  refine List.filter_congr (fun m hm => ?_)
  have := ok_k (two_ok h m hm)
  rw [decide_eq_true (by omega), Bool.and_true]
/-- What EdgesFrom answers; the edges from one among the first j. -/
def edgA (ss : List So.R) (es : List R) (frm : Int) : List Ed.R := if topB ss es = true then (es.filter (isVia frm)).map edV else []
def edgN (frm : Int) (es : List R) (j : Nat) : List Ed.R := ((es.take j).filter (isVia frm)).map edV
theorem edgN_yes {via : Int} {ms : List R} {j : Nat} (h : j < ms.length) (hs : isVia via (ms.getD j R.zero) = true) : edgN via ms (j + 1) = edgN via ms j ++ [edV (ms.getD j R.zero)] := by
  unfold edgN; rw [take_one h, List.filter_append, List.filter_cons_of_pos hs, List.map_append]; rfl
theorem edgN_no {via : Int} {ms : List R} {j : Nat} (h : j < ms.length) (hs : isVia via (ms.getD j R.zero) = false) : edgN via ms (j + 1) = edgN via ms j := by
  unfold edgN; rw [take_one h, List.filter_append, List.filter_cons_of_neg (by rw [hs]; simp), List.filter_nil, List.append_nil]
theorem edgN_len (via : Int) (ms : List R) (j : Nat) : (edgN via ms j).length ≤ j := by
  unfold edgN; rw [List.length_map]
  have := List.length_filter_le (isVia via) (ms.take j)
  have := List.length_take_le j ms
  omega
theorem edgA_len (ss : List So.R) (es : List R) (frm : Int) : (edgA ss es frm).length ≤ es.length := by
  unfold edgA; split
  · rw [List.length_map]; exact List.length_filter_le _ _
  · simp
/-- Whether a number is older than the source's; the code of what is heard; what HearTc answers. -/
def staleB (ss : List So.R) (frm an : Int) : Bool := hasS ss frm && Mtr.newB (fS ss frm).an an
def hearC (ss : List So.R) (es : List R) (frm now an valid : Int) (ns : List Ed.R) : Int :=
  if (topB ss es && (inB frm 1 8 && Av.tcB an valid ns)) = true then (if inB now 0 1000000 = true then (if staleB ss frm an = true then 11 else 0) else 4) else 1
def nowE (es : List R) (frm til : Int) (ns : List Ed.R) : List R := learnE (es.filter (keepF frm)) frm til ns ns.length
def hearS (ss : List So.R) (es : List R) (frm now an valid : Int) (ns : List Ed.R) : List So.R :=
  if hearC ss es frm now an valid ns = 0 then withS ss ⟨frm, an, now + valid⟩ else if hearC ss es frm now an valid ns = 11 then ss else []
def hearE (ss : List So.R) (es : List R) (frm now an valid : Int) (ns : List Ed.R) : List R :=
  if hearC ss es frm now an valid ns = 0 then nowE es frm (now + valid) ns else if hearC ss es frm now an valid ns = 11 then es else []
theorem hearC_ok {ss : List So.R} {es : List R} {frm now an valid : Int} {ns : List Ed.R} (h : hearC ss es frm now an valid ns = 0 ∨ hearC ss es frm now an valid ns = 11) :
    topB ss es = true ∧ (1 ≤ frm ∧ frm ≤ 8) ∧ Av.tcB an valid ns = true ∧ (0 ≤ now ∧ now ≤ 1000000) := by
  unfold hearC at h
  split at h
  · rename_i h1
    split at h
    · rename_i h2
      simp [inB] at h1 h2
      exact ⟨h1.1, h1.2.1, h1.2.2, h2⟩
    · omega
  · omega
theorem nowE_two {es : List R} {frm til an valid : Int} {ns : List Ed.R} (h : twoB es = true) (hf : 1 ≤ frm ∧ frm ≤ 8) (ht : 0 ≤ til ∧ til ≤ 1073741824) (hc : Av.tcB an valid ns = true) : twoB (nowE es frm til ns) = true :=
  learnE_two (two_filter h _) hf ht (Av.tc_all hc) _ (Nat.le_refl _)
theorem hearE_len (ss : List So.R) (es : List R) (frm now an valid : Int) (ns : List Ed.R) : (hearE ss es frm now an valid ns).length ≤ 62 := by
  unfold hearE
  split
  · rename_i h
    obtain ⟨h1, h2, h3, h4⟩ := hearC_ok (.inl h)
    have := Av.tc_valid h3
    exact two_len (nowE_two (top_two h1) h2 (by omega) h3)
  · split
    · rename_i h
      exact two_len (top_two (hearC_ok (.inr h)).1)
    · simp
theorem hearS_len (ss : List So.R) (es : List R) (frm now an valid : Int) (ns : List Ed.R) : (hearS ss es frm now an valid ns).length ≤ 17 := by
  unfold hearS
  split
  · rename_i h
    have := src_len (top_src (hearC_ok (.inl h)).1)
    have := with_len (ss := ss) ⟨frm, an, now + valid⟩
    omega
  · split
    · rename_i h
      have := src_len (top_src (hearC_ok (.inr h)).1); omega
    · simp
end Tp
end Go.Proofs.Ytilphgfjgeoiaaa
