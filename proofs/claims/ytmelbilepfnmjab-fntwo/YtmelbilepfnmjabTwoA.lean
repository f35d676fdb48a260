/-
  What FnTwo asks: the two-hop neighbors by one are those that its hello has as symmetric, but us; those by others stay.
-/
import Derived.Test.YtmelbilepfnmjabTwoP
import Derived.Test.YtmelbilepfnmjabTwoN
import Derived.Test.YtmelbilepfnmjabHelS
namespace Go.Proofs.Ytmelbilepfnmjab
set_option linter.unusedVariables false
namespace Tw
open W1 Tu St
variable {me frm now valid : Int} {ns : List Nb.R} {L : List R}
theorem learn_other (hL : twoB L = true) (hf : 1 ≤ frm ∧ frm ≤ 8) (hn : 0 ≤ now ∧ now ≤ 1000000) (hv' : 1 ≤ valid ∧ valid ≤ 10000) (ho : Hl.allN ns ns.length = true) {v : Int} (hne : v ≠ frm) (a : Int) :
    ∀ j, j ≤ ns.length → findT (learnL L me frm now valid ns j) v a = findT L v a
  | 0, _ => rfl
  | j + 1, hj => by
    have ih := learn_other hL hf hn hv' ho hne a j (by omega)
    cases h : isNew me frm (ns.getD j Nb.R.zero)
    · rw [learn_no (by omega) h]; exact ih
    · obtain ⟨q1, q2, q3, q4⟩ := tup_ok hf hn hv' (Ri.all_ok ho (by omega)) h
      have ht := learn_two (me := me) hL hf hn hv' ho j (by omega)
      have hl := two_len ht
      rw [learn_yes (by omega) h, find_put (two_set ht) (by omega), q3]
      unfold updT
      rw [if_neg (fun e => hne e.1)]; exact ih
/-- What is learnt, in order. -/
def MT (me frm now valid : Int) (ns : List Nb.R) (j : Nat) : List R := ((ns.take j).filter (isNew me frm)).map (tupT frm now valid)
theorem mt_yes {j : Nat} (hj : j < ns.length) (h : isNew me frm (ns.getD j Nb.R.zero) = true) : MT me frm now valid ns (j + 1) = MT me frm now valid ns j ++ [tupT frm now valid (ns.getD j Nb.R.zero)] := by
  unfold MT; rw [nb_take hj, List.filter_append, List.filter_cons_of_pos h, List.map_append]; rfl
theorem mt_no {j : Nat} (hj : j < ns.length) (h : isNew me frm (ns.getD j Nb.R.zero) = false) : MT me frm now valid ns (j + 1) = MT me frm now valid ns j := by
  unfold MT; rw [nb_take hj, List.filter_append, List.filter_cons_of_neg (by rw [h]; simp), List.filter_nil, List.append_nil]
theorem nb_get {i : Nat} (h : i < ns.length) : ns.getD i Nb.R.zero = ns[i] := by rw [List.getD_eq_getElem?_getD, List.getElem?_eq_getElem h]; rfl
theorem nb_ok (ho : Hl.allN ns ns.length = true) {n : Nb.R} (hn : n ∈ ns) : Hl.okN n = true := by
  obtain ⟨i, hi, rfl⟩ := List.getElem_of_mem hn
  have := Ri.all_ok ho hi
  rw [nb_get hi] at this; exact this
theorem nb_up (ho : Hl.allN ns ns.length = true) : ns.Pairwise (fun a b => a.ad < b.ad) := by
  rw [List.pairwise_iff_getElem]
  intro i j hi hj hij
  have := Ri.rises ho j i hij hj
  rw [nb_get hi, nb_get hj] at this; exact this
theorem mt_mem {j : Nat} {m : R} (hm : m ∈ MT me frm now valid ns j) : ∃ n ∈ ns.take j, isNew me frm n = true ∧ m = tupT frm now valid n := by
  unfold MT at hm
  obtain ⟨n, hn, rfl⟩ := List.mem_map.1 hm
  obtain ⟨h1, h2⟩ := List.mem_filter.1 hn
  exact ⟨n, h1, h2, rfl⟩
theorem learn_own (hL : twoB L = true) (hLf : ∀ m ∈ L, hv m ≠ frm) (hf : 1 ≤ frm ∧ frm ≤ 8) (hn : 0 ≤ now ∧ now ≤ 1000000) (hv' : 1 ≤ valid ∧ valid ≤ 10000) (ho : Hl.allN ns ns.length = true) (a : Int) :
    ∀ j, j ≤ ns.length → findT (learnL L me frm now valid ns j) frm a = findT (MT me frm now valid ns j) frm a
  | 0, _ => find_no (fun m hm hh => hLf m hm hh.1)
  | j + 1, hj => by
    have ih := learn_own hL hLf hf hn hv' ho a j (by omega)
    cases h : isNew me frm (ns.getD j Nb.R.zero)
    · rw [learn_no (by omega) h, mt_no (by omega) h]; exact ih
    · obtain ⟨q1, q2, q3, q4⟩ := tup_ok hf hn hv' (Ri.all_ok ho (by omega)) h
      have ht := learn_two (me := me) hL hf hn hv' ho j (by omega)
      have hl := two_len ht
      rw [learn_yes (by omega) h, mt_yes (by omega) h, find_put (two_set ht) (by omega), q3, q4]
      unfold updT
      by_cases e : a = (ns.getD j Nb.R.zero).ad
      · rw [if_pos ⟨rfl, e⟩]
        have hno : findT (MT me frm now valid ns j) frm a = none := find_no (fun m hm hh => by
          obtain ⟨n, h1, h2, rfl⟩ := mt_mem hm
          obtain ⟨i, hi, rfl⟩ := List.getElem_of_mem h1
          have hij : i < j ∧ i < ns.length := by simp at hi; omega
          have hr := Ri.rises ho j i hij.1 (by omega)
          have hin : (ns.take j)[i] = ns.getD i Nb.R.zero := by rw [List.getElem_take, nb_get hij.2]
          rw [hin] at hh h2
          have := (tup_ok hf hn hv' (Ri.all_ok ho hij.2) h2).2.2.2
          rw [hh.2] at this
          have : (ns.getD i Nb.R.zero).ad < (ns.getD j Nb.R.zero).ad := hr
          omega)
        unfold findT at hno ⊢
        rw [List.find?_append, hno, List.find?_cons_of_pos (by rw [isHp_iff]; exact ⟨q3, by rw [q4, e]⟩)]
        rfl
      · rw [if_neg (fun hh => e hh.2), ih]
        unfold findT
        rw [List.find?_append, List.find?_cons_of_neg (by rw [isHp_iff]; exact fun hh => e (by rw [← hh.2, q4]))]
        simp
theorem mt_ok (hf : 1 ≤ frm ∧ frm ≤ 8) (hn : 0 ≤ now ∧ now ≤ 1000000) (hv' : 1 ≤ valid ∧ valid ≤ 10000) (ho : Hl.allN ns ns.length = true) {j : Nat} {m : R} (hm : m ∈ MT me frm now valid ns j) : okK m = true ∧ hv m = frm ∧ m.til = now + valid := by
  obtain ⟨n, h1, h2, rfl⟩ := mt_mem hm
  have := tup_ok hf hn hv' (nb_ok ho (List.mem_of_mem_take h1)) h2
  exact ⟨this.2.1, this.2.2.1, rfl⟩
theorem mt_up (hf : 1 ≤ frm ∧ frm ≤ 8) (hn : 0 ≤ now ∧ now ≤ 1000000) (hv' : 1 ≤ valid ∧ valid ≤ 10000) (ho : Hl.allN ns ns.length = true) (j : Nat) : UpR (MT me frm now valid ns j) := by
  unfold MT
  rw [UpR, List.pairwise_map]
  have h1 : ((ns.take j).filter (isNew me frm)).Pairwise (fun a b => a.ad < b.ad) := ((nb_up ho).sublist (List.take_sublist _ _)).filter _
  refine List.Pairwise.imp_of_mem ?_ h1
  intro x y hx hy hxy
  obtain ⟨x1, x2⟩ := List.mem_filter.1 hx
  obtain ⟨y1, y2⟩ := List.mem_filter.1 hy
  have ax := tup_ok hf hn hv' (nb_ok ho (List.mem_of_mem_take x1)) x2
  have ay := tup_ok hf hn hv' (nb_ok ho (List.mem_of_mem_take y1)) y2
  unfold rk
  rw [ax.2.2.1, ax.2.2.2, ay.2.2.1, ay.2.2.2]; omega
theorem byT_congr {f g : Int → Int → Option R} {via : Int} (h : ∀ a, f via a = g via a) (n : Nat) : byT f via n = byT g via n := by
  unfold byT
  congr 1
  funext t
  rw [h]
def qF (me frm z : Int) : Bool := z != me && z != frm
/-- Those that the hello has as symmetric, but us and itself. -/
def ownZ (me frm : Int) (sym : Bool) (ns : List Nb.R) : List Int := if sym = true then (Hl.symN ns ns.length).filter (qF me frm) else []
theorem own_list : ((ns.filter (isNew me frm)).map (·.ad)) = (Hl.symN ns ns.length).filter (qF me frm) := by
  unfold Hl.symN
  rw [List.take_length, List.filter_map, List.filter_filter]
  congr 1
  refine List.filter_congr (fun n hn => ?_)
  unfold isNew Hl.isSym qF
  cases n.st == 2 <;> simp
theorem mt_ha (hf : 1 ≤ frm ∧ frm ≤ 8) (hn : 0 ≤ now ∧ now ≤ 1000000) (hv' : 1 ≤ valid ∧ valid ≤ 10000) (ho : Hl.allN ns ns.length = true) : (MT me frm now valid ns ns.length).map ha = (ns.filter (isNew me frm)).map (·.ad) := by
  unfold MT
  rw [List.take_length, List.map_map]
  refine List.map_congr_left (fun n hn' => ?_)
  obtain ⟨h1, h2⟩ := List.mem_filter.1 hn'
  exact (tup_ok hf hn hv' (nb_ok ho h1) h2).2.2.2
variable {ms : List R} {sym : Bool} {will : Int}
theorem keep_ne {m : R} (h : m ∈ ms.filter (keepF frm)) : hv m ≠ frm := by
  have := (List.mem_filter.1 h).2; unfold keepF at this; simpa using this
theorem two_own (h : twoB ms = true) (hc : hearTC me frm now will valid ns = 0) : twoA (hearTL ms me frm now sym valid ns) frm = ownZ me frm sym ns := by
  obtain ⟨_, hf, hh, hn⟩ := hearTC_ok hc
  have hval := Hl.hel_valid hh
  have hal := Hl.hel_all hh
  have hP := hearT_two (sym := sym) h hc
  unfold twoA ownZ
  rw [if_pos (code_zero hP)]
  cases sym
  · rw [if_neg (by simp)]
    have : hearTL ms me frm now false valid ns = ms.filter (keepF frm) := by unfold hearTL; rw [if_neg (by simp)]
    rw [this, filter_none (fun m hm => by have := keep_ne hm; unfold isVia; simpa using this)]; rfl
  · rw [if_pos rfl]
    have hE : hearTL ms me frm now true valid ns = learnL (ms.filter (keepF frm)) me frm now valid ns ns.length := by unfold hearTL; rw [if_pos rfl]
    rw [← by_all hP, hE, byT_congr (g := findT (MT me frm now valid ns ns.length)) (fun a => learn_own (two_filter h _) (fun m hm => keep_ne hm) hf hn hval hal a _ (Nat.le_refl _)),
      by_find (mt_up hf hn hval hal _) (fun m hm => (mt_ok hf hn hval hal hm).1)]
    rw [List.filter_eq_self.2 (fun m hm => by
      have hm' := mt_ok hf hn hval hal hm
      have := ok_k hm'.1
      unfold isVia; rw [hm'.2.1]; simp; omega), mt_ha hf hn hval hal, own_list]
theorem two_other (h : twoB ms = true) (hc : hearTC me frm now will valid ns = 0) {via : Int} (hne : via ≠ frm) : twoA (hearTL ms me frm now sym valid ns) via = twoA ms via := by
  obtain ⟨_, hf, hh, hn⟩ := hearTC_ok hc
  have hval := Hl.hel_valid hh
  have hal := Hl.hel_all hh
  have hP := hearT_two (sym := sym) h hc
  have hkeep : ∀ a, findT (ms.filter (keepF frm)) via a = findT ms via a := fun a => by
    rw [← forg_find h frm]; unfold forgT; rw [if_neg (fun e => hne e.1)]
  unfold twoA
  rw [if_pos (code_zero hP), if_pos (code_zero h), ← by_all hP, ← by_all h]
  refine byT_congr (fun a => ?_) 8
  unfold hearTL
  cases sym
  · rw [if_neg (by simp)]; exact hkeep a
  · rw [if_pos rfl, learn_other (two_filter h _) hf hn hval hal hne a _ (Nat.le_refl _)]; exact hkeep a
theorem find_own (h : twoB ms = true) (hc : hearTC me frm now will valid ns = 0) {z : Int} (hz : z ∈ ownZ me frm sym ns) :
    dropE (hearTL ms me frm now sym valid ns) (100 * frm + z) = 0 ∧ (findA (hearTL ms me frm now sym valid ns) (100 * frm + z)).til = now + valid ∧ 0 < (hearTL ms me frm now sym valid ns).length ∧ hopB frm z = true := by
  obtain ⟨_, hf, hh, hn⟩ := hearTC_ok hc
  have hval := Hl.hel_valid hh
  have hal := Hl.hel_all hh
  have hP := hearT_two (sym := sym) h hc
  cases sym
  · unfold ownZ at hz; simp at hz
  unfold ownZ at hz
  rw [if_pos rfl, ← own_list] at hz
  obtain ⟨n, hn1, rfl⟩ := List.mem_map.1 hz
  obtain ⟨hn2, hn3⟩ := List.mem_filter.1 hn1
  have hok := nb_ok hal hn2
  have had := Hl.ok_ad hok
  obtain ⟨q1, q2, q3, q4⟩ := tup_ok hf hn hval hok hn3
  have hE : hearTL ms me frm now true valid ns = learnL (ms.filter (keepF frm)) me frm now valid ns ns.length := by unfold hearTL; rw [if_pos rfl]
  have hfd : findT (hearTL ms me frm now true valid ns) frm n.ad = findT (MT me frm now valid ns ns.length) frm n.ad := by
    rw [hE]; exact learn_own (two_filter h _) (fun m hm => keep_ne hm) hf hn hval hal _ _ (Nat.le_refl _)
  have hmem : tupT frm now valid n ∈ MT me frm now valid ns ns.length := by
    unfold MT; rw [List.take_length]; exact List.mem_map.2 ⟨n, hn1, rfl⟩
  obtain ⟨t, ht⟩ : ∃ t, findT (MT me frm now valid ns ns.length) frm n.ad = some t := by
    unfold findT
    cases hc' : (MT me frm now valid ns ns.length).find? (isHp frm n.ad) with
    | none =>
      rw [List.find?_eq_none] at hc'
      exact absurd (by rw [isHp_iff]; exact ⟨q3, q4⟩) (hc' _ hmem)
    | some t => exact ⟨t, rfl⟩
  have htm := (mt_ok hf hn hval hal (List.mem_of_find?_eq_some ht)).2.2
  rw [ht, find_there (two_set hP) (by omega) (by omega) (by omega)] at hfd
  split at hfd
  · rename_i hth
    cases hfd
    refine ⟨?_, ?_, ?_, ?_⟩
    · unfold dropE dropC; rw [if_pos (St.code_zero (two_set hP)), if_pos hth]
    · unfold findA; rw [if_pos ⟨St.code_zero (two_set hP), hth⟩]; exact htm
    · unfold thereB at hth; rw [Bool.and_eq_true] at hth
      have := of_decide_eq_true hth.1; omega
    · have := (ok_k q2).2.2
      rw [q3, q4] at this
      unfold hopB inB; simp; omega
  · cases hfd
/-- The loop's count. -/
def cntZ (me frm : Int) (sym : Bool) (zs : List Int) (i : Nat) : Nat := if sym = true then ((zs.take i).filter (qF me frm)).length else 0
theorem zs_take {zs : List Int} {i : Nat} (h : i < zs.length) : zs.take (i + 1) = zs.take i ++ [zs.getD i 0] := by
  rw [List.take_add_one, List.getElem?_eq_getElem h, List.getD_eq_getElem?_getD, List.getElem?_eq_getElem h]; rfl
theorem cnt_yes {zs : List Int} {i : Nat} (hi : i < zs.length) (h : qF me frm (zs.getD i 0) = true) : cntZ me frm true zs (i + 1) = cntZ me frm true zs i + 1 := by
  unfold cntZ; rw [if_pos rfl, if_pos rfl, zs_take hi, List.filter_append, List.filter_cons_of_pos h]; simp
theorem cnt_no {zs : List Int} {i : Nat} (hi : i < zs.length) (h : qF me frm (zs.getD i 0) = false) : cntZ me frm sym zs (i + 1) = cntZ me frm sym zs i := by
  unfold cntZ; rw [zs_take hi, List.filter_append, List.filter_cons_of_neg (by rw [h]; simp)]; simp
theorem cnt_at {zs : List Int} {i : Nat} (hi : i < zs.length) (h : qF me frm (zs.getD i 0) = true) :
    cntZ me frm true zs i < (zs.filter (qF me frm)).length ∧ (zs.filter (qF me frm)).getD (cntZ me frm true zs i) 0 = zs.getD i 0 ∧ zs.getD i 0 ∈ zs.filter (qF me frm) := by
  have e : zs = zs.take i ++ zs.getD i 0 :: zs.drop (i + 1) := by
    have := List.drop_eq_getElem_cons hi
    rw [List.getD_eq_getElem?_getD, List.getElem?_eq_getElem hi]
    show zs = zs.take i ++ zs[i] :: zs.drop (i + 1)
    rw [← this]; exact (List.take_append_drop _ _).symm
  have ef : zs.filter (qF me frm) = (zs.take i).filter (qF me frm) ++ zs.getD i 0 :: (zs.drop (i + 1)).filter (qF me frm) := by
    conv => lhs; rw [e]
    rw [List.filter_append, List.filter_cons_of_pos h]
  unfold cntZ
  rw [if_pos rfl, ef]
  generalize zs.getD i 0 = z
  generalize (zs.take i).filter (qF me frm) = A
  generalize (zs.drop (i + 1)).filter (qF me frm) = C
  refine ⟨by simp, ?_, by simp⟩
  rw [List.getD_eq_getElem?_getD, List.getElem?_append_right (Nat.le_refl _)]; simp
theorem cnt_end (zs : List Int) : cntZ me frm sym zs zs.length = (if sym = true then zs.filter (qF me frm) else []).length := by
  unfold cntZ; rw [List.take_length]; cases sym <;> rfl
end Tw
end Go.Proofs.Ytmelbilepfnmjab
