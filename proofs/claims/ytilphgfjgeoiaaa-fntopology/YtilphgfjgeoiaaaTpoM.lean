/-
  What FnTopology asks: what is advertised is all that there is of its source; other sources' edges stay.
-/
import Derived.Test.YtilphgfjgeoiaaaTopR
namespace Go.Proofs.Ytilphgfjgeoiaaa
set_option linter.unusedVariables false
set_option linter.unusedSimpArgs false
namespace Tp
open W1 Tu St Tw
variable {frm til : Int} {ns : List Ed.R} {L es : List R} {ss : List So.R}
theorem learnE_other (hL : twoB L = true) (hf : 1 ≤ frm ∧ frm ≤ 8) (ht : 0 ≤ til ∧ til ≤ 1073741824) (ho : Av.allN ns ns.length = true) {v : Int} (hne : v ≠ frm) (a : Int) :
    ∀ j, j ≤ ns.length → findT (learnE L frm til ns j) v a = findT L v a
  | 0, _ => rfl
  | j + 1, hj => by
    have ih := learnE_other hL hf ht ho hne a j (by omega)
    cases h : ((ns.getD j Ed.R.zero).ad != frm)
    · rw [learnE_no (by omega) h]; exact ih
    · obtain ⟨q1, q2, q3, q4⟩ := tupE_ok hf ht (Ri.all_ok ho (by omega)) h
      have h2 := learnE_two hL hf ht ho j (by omega)
      have hl := two_len h2
      rw [learnE_yes (by omega) h, find_put (two_set h2) (by omega), q3]
      unfold updT
      rw [if_neg (fun e => hne e.1)]; exact ih
def neE (frm : Int) (n : Ed.R) : Bool := n.ad != frm
/-- What is learnt, in order. -/
def ME (frm til : Int) (ns : List Ed.R) (j : Nat) : List R := ((ns.take j).filter (neE frm)).map (tupE frm til)
theorem me_yes {j : Nat} (hj : j < ns.length) (h : ((ns.getD j Ed.R.zero).ad != frm) = true) : ME frm til ns (j + 1) = ME frm til ns j ++ [tupE frm til (ns.getD j Ed.R.zero)] := by
  have h' : neE frm (ns.getD j Ed.R.zero) = true := h
  unfold ME; rw [ed_take hj, List.filter_append, List.filter_cons_of_pos h', List.map_append]; rfl
theorem me_no {j : Nat} (hj : j < ns.length) (h : ((ns.getD j Ed.R.zero).ad != frm) = false) : ME frm til ns (j + 1) = ME frm til ns j := by
  have h' : neE frm (ns.getD j Ed.R.zero) = false := h
  unfold ME; rw [ed_take hj, List.filter_append, List.filter_cons_of_neg (by rw [h']; simp), List.filter_nil, List.append_nil]
theorem ed_get {i : Nat} (h : i < ns.length) : ns.getD i Ed.R.zero = ns[i] := by rw [List.getD_eq_getElem?_getD, List.getElem?_eq_getElem h]; rfl
theorem ed_ok (ho : Av.allN ns ns.length = true) {n : Ed.R} (hn : n ∈ ns) : Av.okN n = true := by
  obtain ⟨i, hi, rfl⟩ := List.getElem_of_mem hn
  have := Ri.all_ok ho hi
  rw [ed_get hi] at this; exact this
theorem ed_up (ho : Av.allN ns ns.length = true) : ns.Pairwise (fun a b => a.ad < b.ad) := by
  rw [List.pairwise_iff_getElem]
  intro i j hi hj hij
  have := Ri.rises ho j i hij hj
  rw [ed_get hi, ed_get hj] at this; exact this
theorem me_mem {j : Nat} {m : R} (hm : m ∈ ME frm til ns j) : ∃ n ∈ ns.take j, (n.ad != frm) = true ∧ m = tupE frm til n := by
  unfold ME at hm
  obtain ⟨n, hn, rfl⟩ := List.mem_map.1 hm
  obtain ⟨h1, h2⟩ := List.mem_filter.1 hn
  exact ⟨n, h1, h2, rfl⟩
theorem learnE_own (hL : twoB L = true) (hLf : ∀ m ∈ L, hv m ≠ frm) (hf : 1 ≤ frm ∧ frm ≤ 8) (ht : 0 ≤ til ∧ til ≤ 1073741824) (ho : Av.allN ns ns.length = true) (a : Int) :
    ∀ j, j ≤ ns.length → findT (learnE L frm til ns j) frm a = findT (ME frm til ns j) frm a
  | 0, _ => find_no (fun m hm hh => hLf m hm hh.1)
  | j + 1, hj => by
    have ih := learnE_own hL hLf hf ht ho a j (by omega)
    cases h : ((ns.getD j Ed.R.zero).ad != frm)
    · rw [learnE_no (by omega) h, me_no (by omega) h]; exact ih
    · obtain ⟨q1, q2, q3, q4⟩ := tupE_ok hf ht (Ri.all_ok ho (by omega)) h
      have h2 := learnE_two hL hf ht ho j (by omega)
      have hl := two_len h2
      rw [learnE_yes (by omega) h, me_yes (by omega) h, find_put (two_set h2) (by omega), q3, q4]
      unfold updT
      by_cases e : a = (ns.getD j Ed.R.zero).ad
      · rw [if_pos ⟨rfl, e⟩]
        have hno : findT (ME frm til ns j) frm a = none := find_no (fun m hm hh => by
          obtain ⟨n, h1, h2, rfl⟩ := me_mem hm
          obtain ⟨i, hi, rfl⟩ := List.getElem_of_mem h1
          have hij : i < j ∧ i < ns.length := by simp at hi; omega
          have hr := Ri.rises ho j i hij.1 (by omega)
          have hin : (ns.take j)[i] = ns.getD i Ed.R.zero := by rw [List.getElem_take, ed_get hij.2]
          rw [hin] at hh h2
          have := (tupE_ok hf ht (Ri.all_ok ho hij.2) h2).2.2.2
          rw [hh.2] at this
          have : (ns.getD i Ed.R.zero).ad < (ns.getD j Ed.R.zero).ad := hr
          omega)
        unfold findT at hno ⊢
        rw [List.find?_append, hno, List.find?_cons_of_pos (by rw [isHp_iff]; exact ⟨q3, by rw [q4, e]⟩)]
        rfl
      · rw [if_neg (fun hh => e hh.2), ih]
        unfold findT
        rw [List.find?_append, List.find?_cons_of_neg (by rw [isHp_iff]; exact fun hh => e (by rw [← hh.2, q4]))]
        simp
theorem me_ok (hf : 1 ≤ frm ∧ frm ≤ 8) (ht : 0 ≤ til ∧ til ≤ 1073741824) (ho : Av.allN ns ns.length = true) {j : Nat} {m : R} (hm : m ∈ ME frm til ns j) : okK m = true ∧ hv m = frm := by
  obtain ⟨n, h1, h2, rfl⟩ := me_mem hm
  have := tupE_ok hf ht (ed_ok ho (List.mem_of_mem_take h1)) h2
  exact ⟨this.2.1, this.2.2.1⟩
theorem me_up (hf : 1 ≤ frm ∧ frm ≤ 8) (ht : 0 ≤ til ∧ til ≤ 1073741824) (ho : Av.allN ns ns.length = true) (j : Nat) : UpR (ME frm til ns j) := by
  unfold ME
  rw [UpR, List.pairwise_map]
  have h1 : ((ns.take j).filter (neE frm)).Pairwise (fun a b => a.ad < b.ad) := ((ed_up ho).sublist (List.take_sublist _ _)).filter _
  refine List.Pairwise.imp_of_mem ?_ h1
  intro x y hx hy hxy
  obtain ⟨x1, x2⟩ := List.mem_filter.1 hx
  obtain ⟨y1, y2⟩ := List.mem_filter.1 hy
  have ax := tupE_ok hf ht (ed_ok ho (List.mem_of_mem_take x1)) x2
  have ay := tupE_ok hf ht (ed_ok ho (List.mem_of_mem_take y1)) y2
  unfold rk
  rw [ax.2.2.1, ax.2.2.2, ay.2.2.1, ay.2.2.2]; omega
theorem fromE_congr {f g : Int → Int → Option R} {via : Int} (h : ∀ a, f via a = g via a) (n : Nat) : fromE f via n = fromE g via n := by
  unfold fromE
  congr 1
  funext t
  rw [h]
theorem keepE_ne {m : R} (h : m ∈ es.filter (keepF frm)) : hv m ≠ frm := by
  have := (List.mem_filter.1 h).2; unfold keepF at this; simpa using this
theorem me_ed (hf : 1 ≤ frm ∧ frm ≤ 8) (ht : 0 ≤ til ∧ til ≤ 1073741824) (ho : Av.allN ns ns.length = true) : (ME frm til ns ns.length).map edV = ns.filter (neE frm) := by
  unfold ME
  rw [List.take_length, List.map_map]
  conv => rhs; rw [← List.map_id (ns.filter (neE frm))]
  refine List.map_congr_left (fun n hn' => ?_)
  obtain ⟨h1, h2⟩ := List.mem_filter.1 hn'
  show edV (tupE frm til n) = n
  unfold edV
  rw [(tupE_ok hf ht (ed_ok ho h1) h2).2.2.2]; rfl
/-- The source's own edges are the advertised ones but those to itself. -/
theorem now_own (h : twoB es = true) (hf : 1 ≤ frm ∧ frm ≤ 8) (ht : 0 ≤ til ∧ til ≤ 1073741824) (ho : Av.allN ns ns.length = true) : ((nowE es frm til ns).filter (isVia frm)).map edV = ns.filter (neE frm) := by
  have hP : twoB (nowE es frm til ns) = true := learnE_two (two_filter h _) hf ht ho _ (Nat.le_refl _)
  rw [← from_all hP]
  unfold nowE
  rw [fromE_congr (g := findT (ME frm til ns ns.length)) (fun a => learnE_own (two_filter h _) (fun m hm => keepE_ne hm) hf ht ho a _ (Nat.le_refl _)),
    from_find (me_up hf ht ho _) (fun m hm => (me_ok hf ht ho hm).1)]
  rw [List.filter_eq_self.2 (fun m hm => by
    have hm' := me_ok hf ht ho hm
    have := ok_k hm'.1
    unfold isVia; rw [hm'.2]; simp; omega), me_ed hf ht ho]
theorem now_other (h : twoB es = true) (hf : 1 ≤ frm ∧ frm ≤ 8) (ht : 0 ≤ til ∧ til ≤ 1073741824) (ho : Av.allN ns ns.length = true) {via : Int} (hne : via ≠ frm) : ((nowE es frm til ns).filter (isVia via)).map edV = (es.filter (isVia via)).map edV := by
  have hP : twoB (nowE es frm til ns) = true := learnE_two (two_filter h _) hf ht ho _ (Nat.le_refl _)
  have hkeep : ∀ a, findT (es.filter (keepF frm)) via a = findT es via a := fun a => by
    rw [← forg_find h frm]; unfold forgT; rw [if_neg (fun e => hne e.1)]
  rw [← from_all hP, ← from_all h]
  refine fromE_congr (fun a => ?_) 8
  unfold nowE
  rw [learnE_other (two_filter h _) hf ht ho hne a _ (Nat.le_refl _)]; exact hkeep a
/-- What is heard: the ways. -/
theorem hear_ways (h : topB ss es = true) {now an valid : Int} (hf : 1 ≤ frm ∧ frm ≤ 8) (hn : 0 ≤ now ∧ now ≤ 19) (hc : Av.tcB an valid ns = true) :
    (hearC ss es frm now an valid ns = 0 ∧ hearS ss es frm now an valid ns = withS ss ⟨frm, an, now + valid⟩ ∧ hearE ss es frm now an valid ns = nowE es frm (now + valid) ns) ∨
    (hearC ss es frm now an valid ns = 11 ∧ hearS ss es frm now an valid ns = ss ∧ hearE ss es frm now an valid ns = es ∧ hasS ss frm = true ∧ Mtr.newB (fS ss frm).an an = true) := by
  have hf' : inB frm 1 8 = true := by unfold inB; simp; omega
  have hn' : inB now 0 1000000 = true := by unfold inB; simp; omega
  cases hs : staleB ss frm an
  · have e : hearC ss es frm now an valid ns = 0 := by unfold hearC; rw [h, hf', hc, hn', hs]; rfl
    exact .inl ⟨e, by unfold hearS; rw [if_pos e], by unfold hearE; rw [if_pos e]⟩
  · have e : hearC ss es frm now an valid ns = 11 := by unfold hearC; rw [h, hf', hc, hn', hs]; rfl
    unfold staleB at hs
    rw [Bool.and_eq_true] at hs
    exact .inr ⟨e, by unfold hearS; rw [e]; rfl, by unfold hearE; rw [e]; rfl, hs.1, hs.2⟩
theorem edg_yes (h : topB ss es = true) (i : Int) : edgA ss es i = (es.filter (isVia i)).map edV := by unfold edgA; rw [if_pos h]
theorem top_zero (h : topB ss es = true) : topC ss es = 0 := by unfold topC; rw [if_pos h]
/-- All that FnTopology asks of one that was heard. -/
theorem heard_all (h : topB ss es = true) {now an valid : Int} (hf : 1 ≤ frm ∧ frm ≤ 8) (hn : 0 ≤ now ∧ now ≤ 19) (hc : Av.tcB an valid ns = true) :
    topB (withS ss ⟨frm, an, now + valid⟩) (nowE es frm (now + valid) ns) = true ∧ (∀ i, i ≠ frm → edgA (withS ss ⟨frm, an, now + valid⟩) (nowE es frm (now + valid) ns) i = edgA ss es i) ∧
    edgA (withS ss ⟨frm, an, now + valid⟩) (nowE es frm (now + valid) ns) frm = ns.filter (neE frm) ∧ srcA (withS ss ⟨frm, an, now + valid⟩) (nowE es frm (now + valid) ns) frm = ⟨frm, an, now + valid⟩ ∧ srcE (withS ss ⟨frm, an, now + valid⟩) (nowE es frm (now + valid) ns) frm = 0 := by
  have hv' := Av.tc_valid hc
  have hall := Av.tc_all hc
  have ht : 0 ≤ now + valid ∧ now + valid ≤ 1073741824 := by omega
  have hT := hear_top h hf (Av.tc_ansn hc) ht hall
  refine ⟨hT, fun i hi => ?_, ?_, ?_, ?_⟩
  · rw [edg_yes hT, edg_yes h]; exact now_other (top_two h) hf ht hall hi
  · rw [edg_yes hT]; exact now_own (top_two h) hf ht hall
  · unfold srcA; rw [if_pos hT]; unfold fS
    have := with_find (up_src (top_src h)) ⟨frm, an, now + valid⟩
    dsimp only at this
    rw [this]; rfl
  · have := with_own ss ⟨frm, an, now + valid⟩
    dsimp only at this
    unfold srcE; rw [if_pos hT, this]; rfl
theorem stale_all (h : topB ss es = true) {an : Int} (h1 : hasS ss frm = true) : srcA ss es frm = fS ss frm ∧ srcE ss es frm = 0 ∧ 0 ≤ (fS ss frm).an ∧ (fS ss frm).an ≤ 65535 := by
  have := ok_an (src_ok (top_src h) _ (fS_mem h1).1)
  refine ⟨by unfold srcA; rw [if_pos h], by unfold srcE; rw [if_pos h, h1]; rfl, this.1, this.2⟩
/-- The count of those that are not to itself. -/
def cntE (frm : Int) (ns : List Ed.R) (j : Nat) : Nat := ((ns.take j).filter (neE frm)).length
theorem cntE_yes {j : Nat} (hj : j < ns.length) (h : neE frm (ns.getD j Ed.R.zero) = true) : cntE frm ns (j + 1) = cntE frm ns j + 1 := by
  unfold cntE; rw [ed_take hj, List.filter_append, List.filter_cons_of_pos h]; simp
theorem cntE_no {j : Nat} (hj : j < ns.length) (h : neE frm (ns.getD j Ed.R.zero) = false) : cntE frm ns (j + 1) = cntE frm ns j := by
  unfold cntE; rw [ed_take hj, List.filter_append, List.filter_cons_of_neg (by rw [h]; simp)]; simp
theorem cntE_at {j : Nat} (hj : j < ns.length) (h : neE frm (ns.getD j Ed.R.zero) = true) : cntE frm ns j < (ns.filter (neE frm)).length ∧ (ns.filter (neE frm)).getD (cntE frm ns j) Ed.R.zero = ns.getD j Ed.R.zero := by
  have e : ns = ns.take j ++ (ns.getD j Ed.R.zero :: ns.drop (j + 1)) := by
    conv => lhs; rw [← List.take_append_drop j ns, List.drop_eq_getElem_cons hj]
    rw [ed_get hj]
  have e2 : ns.filter (neE frm) = (ns.take j).filter (neE frm) ++ (ns.getD j Ed.R.zero :: (ns.drop (j + 1)).filter (neE frm)) := by
    conv => lhs; rw [e]
    rw [List.filter_append, List.filter_cons_of_pos h]
  rw [e2]
  unfold cntE
  refine ⟨by simp, ?_⟩
  rw [List.getD_eq_getElem?_getD, List.getElem?_append_right (Nat.le_refl _), Nat.sub_self]; rfl
theorem cntE_end : cntE frm ns ns.length = (ns.filter (neE frm)).length := by unfold cntE; rw [List.take_length]
theorem cntE_le (j : Nat) : cntE frm ns j ≤ j := by
  unfold cntE
  have := List.length_filter_le (neE frm) (ns.take j)
  have := List.length_take_le j ns
  omega
end Tp
end Go.Proofs.Ytilphgfjgeoiaaa
