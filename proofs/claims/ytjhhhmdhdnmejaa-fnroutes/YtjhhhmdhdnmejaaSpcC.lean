/-
  The model's Distances and RoutesOf.
-/
import Derived.Test.YtjhhhmdhdnmejaaSpcB
namespace Go.Proofs.Ytjhhhmdhdnmejaa
open Go.ChangeShapes Go.WideShapes Go.ChangeAt Go.RowKit
set_option linter.unusedVariables false
set_option linter.unusedSimpArgs false
set_option maxRecDepth 100000
attribute [local go_sem ↓] Go.wp_at_zero Go.wp_at_succ
namespace Wd
open W1 Ro Rw Tw
/-- What the model has of an address, and what the program has. -/
theorem mdl_ways {g : List Tu.R} {f : Int} (hG : Good g f (best g f)) {j : Nat} (hj : j < 8) :
    dstV (at' (waysL g f) j) = (at' (mdl g f) (j + 1)).co ∧ keptB f (at' (waysL g f) j) = (((j : Int) + 1 != f) && decide (0 ≤ (at' (mdl g f) (j + 1)).co)) ∧ (keptB f (at' (waysL g f) j) = true → at' (waysL g f) j = at' (mdl g f) (j + 1)) := by
  rw [waysL_at g f hj, mdl_at g f (by omega), if_neg (by omega)]
  have e : ((j + 1 : Nat) : Int) = (j : Int) + 1 := by omega
  rw [e]
  cases hb : best g f ((j : Int) + 1) with
  | none =>
    refine ⟨rfl, ?_, fun h => ?_⟩
    · show (false && _) = ((j : Int) + 1 != f && decide ((0 : Int) ≤ -1))
      simp
    · exfalso
      have : keptB f R.zero = false := rfl
      rw [show (none : Option R).getD R.zero = R.zero from rfl, this] at h; cases h
  | some x =>
    obtain ⟨h1, h2, _⟩ := hG.to _ x hb
    refine ⟨?_, ?_, fun _ => rfl⟩
    · show dstV x = x.co
      unfold dstV; rw [if_neg (by omega)]
    · show (x.ds != 0 && x.ds != f) = ((j : Int) + 1 != f && decide (0 ≤ x.co))
      rw [decide_eq_true h2, Bool.and_true, h1, show ((j : Int) + 1 != 0) = true by simp; omega, Bool.true_and]
theorem BV.rm {w : World} {b : Nat} {bs : List R} (h : BV w b bs) {i : Nat} (hi : i < bs.length) : At w b (i * 4) (at' bs i) := h.at hi
theorem BV.grown {w w' : World} {b : Nat} {bs : List R} {r : Option Nat} (h : BV w b bs) (hg : w.grownBy w' r) (hne : some b ≠ r) : BV w' b bs := (hg.block b h.lt hne).trans h
/-- append to a row of one's own: where it lies. -/
theorem wpList_apI {ops : Array Oper} {rest : List Oper} {o : Oper} {a : Act} {Q : Exit → Act → World → Prop} {w : World} {base : Nat} {v : Value} {xs : List Int} (hown : w.ownsRow base 3 1 v xs.length (In.flat xs)) (g off m c : Nat) (zs : List Int) (hm : zs.length = m) (hm0 : 0 < m) (hr : In.RM w (some ⟨g, off, none⟩) zs) (hlen : xs.length + zs.length ≤ 4194304) (hbase : base ≤ w.heap.size)
    (hgd : o.guard = none) (s x : Operand) (ho : o.op = .call { callee := .builtin .append, args := #[s, x], argTypes := #[50, 50] }) (hs : a.eval s = v) (hx : a.eval x = .slice (some ⟨g, off, none⟩) m c)
    (h : ∀ v' w', w'.ownsRow base 3 1 v' (xs ++ zs).length (In.flat (xs ++ zs)) → w.grownBy w' v.ownBlock → (v'.ownBlock = v.ownBlock ∨ v'.ownBlock = some w.heap.size) → wpList Try.prog ops Q rest (a.put o.dst v') w') : wpList Try.prog ops Q (o :: rest) a w := by
  subst hm
  obtain ⟨i0, hi, hz0, hz1, hz2⟩ := In.infoI
  refine wpList_append_lies w hgd s x _ ho base 3 i0 _ 1 8 Try.underlying50 hi hz0 hz1 hz2 rfl (by decide) v xs.length (In.flat xs) hs hown ⟨g, off, none⟩ zs.length c (In.flat zs) hx (In.flat_len zs) hr.cells (fun u hu => In.flat_one_cell hu) hm0 (by unfold maxLen; omega) (by omega) hbase _ rfl (fun g' cap w' h1 h2 h3 h4 => ?_)
  refine h _ w' ?_ h2 ?_
  · rw [List.length_append, In.flat_append]; exact h1
  · rcases h3 with h3 | h3
    · exact .inl h3.symm
    · exact .inr (by rw [h3]; rfl)
theorem wpList_apT {ops : Array Oper} {rest : List Oper} {o : Oper} {a : Act} {Q : Exit → Act → World → Prop} {w : World} {base : Nat} {v : Value} {xs : List R} (hown : w.ownsRow base 62 4 v xs.length (flat xs)) (g off m c : Nat) (zs : List R) (hm : zs.length = m) (hm0 : 0 < m) (hr : RM w (some ⟨g, off, none⟩) zs) (hlen : xs.length + zs.length ≤ 4194304) (hbase : base ≤ w.heap.size)
    (hgd : o.guard = none) (s x : Operand) (ho : o.op = .call { callee := .builtin .append, args := #[s, x], argTypes := #[57, 57] }) (hs : a.eval s = v) (hx : a.eval x = .slice (some ⟨g, off, none⟩) m c)
    (h : ∀ v' w', w'.ownsRow base 62 4 v' (xs ++ zs).length (flat (xs ++ zs)) → w.grownBy w' v.ownBlock → (v'.ownBlock = v.ownBlock ∨ v'.ownBlock = some w.heap.size) → wpList Try.prog ops Q rest (a.put o.dst v') w') : wpList Try.prog ops Q (o :: rest) a w := by
  subst hm
  obtain ⟨i0, hi, hz0, hz1, hz2⟩ := infoR
  refine wpList_append_lies w hgd s x _ ho base 62 i0 _ 4 32 Try.underlying57 hi hz0 hz1 hz2 rfl (by decide) v xs.length (flat xs) hs hown ⟨g, off, none⟩ zs.length c (flat zs) hx (flat_len zs) hr.cells (fun u hu => flat_one_cell hu) hm0 (by unfold maxLen; omega) (by omega) hbase _ rfl (fun g' cap w' h1 h2 h3 h4 => ?_)
  refine h _ w' ?_ h2 ?_
  · rw [List.length_append, flat_append]; exact h1
  · rcases h3 with h3 | h3
    · exact .inl h3.symm
    · exact .inr (by rw [h3]; rfl)
set_option maxHeartbeats 8000000 in
theorem specDist (a : Option Addr) (g : List Tu.R) (cap : Nat) (f : Int) (w : World) (hm : g.length ≤ 1048576) (hr : Tu.RM w a g) :
    Calls Try.prog 19 #[.slice a g.length cap, .int .i64 f] w fun e w' => ∃ v, e = .returned (.tuple #[v, .int .i64 (codeG g f)]) ∧ Below w.heap.size w w' ∧ In.LstV w' v (dstA g f) w.heap.size w'.heap.size := by
  have HR := hide hr
  clear hr
  by_cases hbig : (4096 : Int) < g.length
  · have hc := codeG_long (f := f) hbig
    have h1 : dstA g f = [] := by unfold dstA; rw [if_neg (by rw [hc]; omega)]
    rw [h1, hc]
    clear h1 hc
    go_enter Try.func19, Try.ntmps19
    go_wp2_with fail
    go_ret2
    exact ⟨_, rfl, (Below.refl _ _).alloc (Nat.le_refl _) _, In.lstV_nil _ _ _ _ _⟩
  by_cases hc : codeG g f = 0
  rotate_left
  · have h1 : dstA g f = [] := by unfold dstA; rw [if_neg hc]
    rw [h1]
    clear h1
    obtain ⟨cd, hcd⟩ : ∃ cd, codeG g f = cd := ⟨_, rfl⟩
    have HC := hide hcd
    rw [hcd] at hc ⊢
    have q1 : (cd != 0) = true := by simpa using hc
    clear hcd hc
    go_enter Try.func19, Try.ntmps19
    go_wp2_with fail
    refine (l11Ask _ g cap f _ hm (unhide HR)).mono ?_
    rintro e w1 ⟨rfl, b1⟩
    rw [unhide HC]
    have HB1 := hide b1
    have hs1 := b1.size
    clear b1
    go_wp2_with fail
    go_ret2
    exact ⟨_, rfl, (unhide HB1).alloc hs1 _, In.lstV_nil _ _ _ _ _⟩
  have h1 : dstA g f = dstL g f := by unfold dstA; rw [if_pos hc]
  rw [h1, hc]
  have HC := hide hc
  have HOK := hide (codeG_ok hc)
  clear h1 hc
  have HLR : Hid (∀ W, Tu.RM W a g → Calls Try.prog 58 #[.slice a g.length cap, .int .i64 f] W fun e w' => ∃ b, e = .returned (.slice (some ⟨b, 0, none⟩) 9 9) ∧ Below W.heap.size W w' ∧ W.heap.size ≤ b ∧ BV w' b (mdl g f) ∧ Good g f (best g f)) := hide (fun W h => l11Routes a g cap f W (unhide HOK).1 (unhide HOK).2 h)
  go_enter Try.func19, Try.ntmps19
  go_wp2_with fail
  refine (l11Ask _ g cap f _ hm (unhide HR)).mono ?_
  rintro e w1 ⟨rfl, b1⟩
  rw [unhide HC]
  have HB1 := hide b1
  have HR1 := hide ((unhide HR).below b1)
  have hs1 := b1.size
  clear b1
  have BE : Hid (Below w1.heap.size w1 (w1.alloc (.cells #[] 3))) := hide ((Below.refl _ _).alloc (Nat.le_refl _) _)
  go_wp2_with fail
  refine (unhide HLR _ ((unhide HR1).below (unhide BE))).mono ?_
  rintro e w2 ⟨B, rfl, b2, hB, bv2, hG⟩
  have HB2 := hide ((unhide HB1).trans (((unhide BE).trans (b2.mono (unhide BE).size)).mono hs1))
  have OW2 : Hid (w2.ownsRow w1.heap.size 3 1 (.slice (some ⟨w1.heap.size, 0, none⟩) 0 0) ((dstL g f).take 0).length (In.flat ((dstL g f).take 0))) := hide ((World.ownsRow_made w1 #[] 0 (Nat.le_refl _) (Nat.zero_le _) rfl).kept (row := none) ⟨b2.os, b2.tape, b2.output, b2.size, fun k hk _ => b2.block k hk⟩ (by simp [Value.ownBlock]))
  have hs2 := b2.size
  simp only [World.size_alloc] at hs2 hB
  have HBV := hide bv2
  have HTK : Hid (∀ j, j < 8 → (dstL g f).take (j + 1) = (dstL g f).take j ++ [(at' (mdl g f) (j + 1)).co]) := hide (fun j hj => by
    rw [tk1 0 (by rw [dstL_len]; exact hj), ← (mdl_ways hG hj).1]
    congr 2
    unfold dstL at'
    rw [List.getD_eq_getElem?_getD, List.getElem?_map, List.getD_eq_getElem?_getD, List.getElem?_eq_getElem (by rw [waysL_len]; exact hj)]; rfl)
  have HTL : Hid (∀ j, ((dstL g f).take j).length ≤ 8) := hide (fun j => by rw [List.length_take, dstL_len]; omega)
  have HFL : Hid ((dstL g f).take 8 = dstL g f) := hide (List.take_of_length_le (by rw [dstL_len]; exact Nat.le_refl _))
  have HML := hide (mdl_len g f)
  clear b2 bv2 hG HR1 HB1 HLR BE
  generalize hDD : dstL g f = DL at *
  have HDD := hide hDD
  clear hDD
  generalize mdl g f = ms at *
  go_wp2_with fail
  go_loopw [7, 9] (fun v iv wr => ∃ t : Nat, 1 ≤ t ∧ t ≤ 9 ∧ iv = .int .i64 (t : Int) ∧ Hid (wr.ownsRow w1.heap.size 3 1 v (DL.take (t - 1)).length (In.flat (DL.take (t - 1)))) ∧ Hid (v.ownBlock ≠ some B) ∧ Hid (BV wr B ms) ∧ Hid (Below w.heap.size w wr) ∧ Hid (w1.heap.size ≤ wr.heap.size)) (fun _ iv _ => 9 - (intOf iv).toNat)
  case atStart => exact ⟨1, by omega, by omega, rfl, OW2, hide (by simp [Value.ownBlock]; omega), HBV, HB2, hide (by omega)⟩
  case round =>
    obtain ⟨t, ht1, ht9, rfl, how, hvb, hbv, hbl, hsz⟩ := hrel
    have hsz' := unhide hsz
    by_cases hlt : (t : Int) ≤ 8
    · have t0 : (0 : Int) ≤ (t : Int) := by omega
      have t9 : (t : Int) < 9 := by omega
      have HT : Hid (DL.take t = DL.take (t - 1) ++ [(at' ms t).co]) := hide (by have := unhide HTK (t - 1) (by omega); rw [show t - 1 + 1 = t by omega] at this; exact this)
      have HTJ := unhide HTL (t - 1)
      obtain ⟨c0, c1, c2, c3⟩ := (unhide hbv).at (i := t) (by rw [unhide HML]; omega)
      have hbs := (unhide hbl).size
      have hlB := (unhide hbv).lt
      generalize (at' ms t).co = x at *
      generalize hDT : DL.take (t - 1) = D1 at *
      clear hDT
      go_wp2_with (at_builtin; refine wpList_apI ((unhide how).alloc _) wr.heap.size 0 1 1 [x] rfl (by omega) (In.rm_new wr x) (by simp only [List.length_cons, List.length_nil]; omega) (by simp; omega) rfl _ _ rfl rfl rfl ?_; intro v' w' ho hg hv; have HO : Hid (w'.ownsRow w1.heap.size 3 1 v' (DL.take (t + 1 - 1)).length (In.flat (DL.take (t + 1 - 1)))) := hide (by rw [Nat.add_sub_cancel, unhide HT]; exact ho); have HZ : Hid (w1.heap.size ≤ w'.heap.size) := hide (by have := hg.size; simp at this; omega); have HBB := hide (((unhide hbv).below ((Below.refl _ _).alloc (Nat.le_refl _) (.cells #[.int .i64 x] 3))).grown hg (fun e => unhide hvb e.symm)); have HVB : Hid (v'.ownBlock ≠ some B) := hide (by rcases hv with e | e; rw [e]; exact unhide hvb; rw [e]; simp; omega); have HB := hide (In.below_own ((unhide hbl).alloc hbs _) ((unhide how).alloc _) hg hs1 (by simp; omega)); clear ho hg hv)
      go_roundw
      case rel => exact ⟨t + 1, by omega, by omega, by go_num, HO, HVB, HBB, HB, HZ⟩
      case measure => simp [intOf]; omega
    · obtain rfl : t = 9 := by omega
      have HL : Hid (In.LstV wr u7 DL w.heap.size wr.heap.size) := hide (by
        have := In.lst_own rfl (unhide how)
        rw [show 9 - 1 = 8 from rfl, unhide HFL] at this
        exact this.mono hs1 (Nat.le_refl _))
      go_wp2_with fail
      go_ret2
      exact ⟨_, rfl, unhide hbl, by rw [unhide HDD]; exact unhide HL⟩
set_option maxHeartbeats 8000000 in
theorem l11List (a : Option Addr) (g : List Tu.R) (cap : Nat) (f : Int) (w : World) (hg : graphB g = true) (hf : 1 ≤ f ∧ f ≤ 8) (hr : Tu.RM w a g) :
    Calls Try.prog 59 #[.slice a g.length cap, .int .i64 f] w fun e w' => ∃ v, e = .returned v ∧ Below w.heap.size w w' ∧ LstV w' v (rouL g f) w.heap.size w'.heap.size := by
  have HR := hide hr
  have HLR : Hid (∀ W, Tu.RM W a g → Calls Try.prog 58 #[.slice a g.length cap, .int .i64 f] W fun e w' => ∃ b, e = .returned (.slice (some ⟨b, 0, none⟩) 9 9) ∧ Below W.heap.size W w' ∧ W.heap.size ≤ b ∧ BV w' b (mdl g f) ∧ Good g f (best g f)) := hide (fun W h => l11Routes a g cap f W hg hf h)
  have BE : Hid (Below w.heap.size w (w.alloc (.cells #[] 62))) := hide ((Below.refl _ _).alloc (Nat.le_refl _) _)
  clear hr hg hf
  go_enter Try.func59, Try.ntmps59
  go_wp2_with fail
  refine (unhide HLR _ ((unhide HR).below (unhide BE))).mono ?_
  rintro e w2 ⟨B, rfl, b2, hB, bv2, hG⟩
  have HB2 := hide ((unhide BE).trans (b2.mono (unhide BE).size))
  have OW2 : Hid (w2.ownsRow w.heap.size 62 4 (.slice (some ⟨w.heap.size, 0, none⟩) 0 0) (((waysL g f).take 0).filter (keptB f)).length (flat (((waysL g f).take 0).filter (keptB f)))) := hide ((World.ownsRow_made w #[] 0 (Nat.le_refl _) (Nat.zero_le _) rfl).kept (row := none) ⟨b2.os, b2.tape, b2.output, b2.size, fun k hk _ => b2.block k hk⟩ (by simp [Value.ownBlock]))
  have hs2 := b2.size
  simp only [World.size_alloc] at hs2 hB
  have HBV := hide bv2
  have HTY : Hid (∀ j : Nat, j < 8 → (((j : Int) + 1 != f) && decide (0 ≤ (at' (mdl g f) (j + 1)).co)) = true → ((waysL g f).take (j + 1)).filter (keptB f) = ((waysL g f).take j).filter (keptB f) ++ [at' (mdl g f) (j + 1)]) := hide (fun j hj hk => by
    have hk' : keptB f (at' (waysL g f) j) = true := by rw [(mdl_ways hG hj).2.1]; exact hk
    rw [tk1 R.zero (by rw [waysL_len]; exact hj), List.filter_append, show (waysL g f).getD j R.zero = at' (waysL g f) j from rfl, List.filter_cons_of_pos hk', (mdl_ways hG hj).2.2 hk']; rfl)
  have HTN : Hid (∀ j : Nat, j < 8 → (((j : Int) + 1 != f) && decide (0 ≤ (at' (mdl g f) (j + 1)).co)) = false → ((waysL g f).take (j + 1)).filter (keptB f) = ((waysL g f).take j).filter (keptB f)) := hide (fun j hj hk => by
    have hk' : keptB f (at' (waysL g f) j) = false := by rw [(mdl_ways hG hj).2.1]; exact hk
    rw [tk1 R.zero (by rw [waysL_len]; exact hj), List.filter_append, show (waysL g f).getD j R.zero = at' (waysL g f) j from rfl, List.filter_cons_of_neg (by rw [hk']; simp)]; simp)
  have HTL : Hid (∀ j, (((waysL g f).take j).filter (keptB f)).length ≤ 8) := hide (fun j => by have := List.length_filter_le (keptB f) ((waysL g f).take j); rw [List.length_take, waysL_len] at this; omega)
  have HFL : Hid (((waysL g f).take 8).filter (keptB f) = rouL g f) := hide (by rw [List.take_of_length_le (by rw [waysL_len]; exact Nat.le_refl _)]; rfl)
  have HML := hide (mdl_len g f)
  clear b2 bv2 hG HLR BE
  generalize mdl g f = ms at *
  generalize hWL : waysL g f = ws at *
  clear hWL
  go_wp2_with fail
  go_loopw [5, 7] (fun v iv wr => ∃ t : Nat, 1 ≤ t ∧ t ≤ 9 ∧ iv = .int .i64 (t : Int) ∧ Hid (wr.ownsRow w.heap.size 62 4 v ((ws.take (t - 1)).filter (keptB f)).length (flat ((ws.take (t - 1)).filter (keptB f)))) ∧ Hid (v.ownBlock ≠ some B) ∧ Hid (BV wr B ms) ∧ Hid (Below w.heap.size w wr)) (fun _ iv _ => 9 - (intOf iv).toNat)
  case atStart => exact ⟨1, by omega, by omega, rfl, OW2, hide (by simp [Value.ownBlock]; omega), HBV, HB2⟩
  case round =>
    obtain ⟨t, ht1, ht9, rfl, how, hvb, hbv, hbl⟩ := hrel
    have hbs := (unhide hbl).size
    by_cases hlt : (t : Int) ≤ 8
    · have t0 : (0 : Int) ≤ (t : Int) := by omega
      have t9 : (t : Int) < 9 := by omega
      have ej : ((t - 1 : Nat) : Int) + 1 = (t : Int) := by omega
      have HTy : Hid (((t : Int) != f && decide (0 ≤ (at' ms t).co)) = true → (ws.take t).filter (keptB f) = (ws.take (t - 1)).filter (keptB f) ++ [at' ms t]) := hide (by have := unhide HTY (t - 1) (by omega); rw [show t - 1 + 1 = t by omega, ej] at this; exact this)
      have HTn : Hid (((t : Int) != f && decide (0 ≤ (at' ms t).co)) = false → (ws.take t).filter (keptB f) = (ws.take (t - 1)).filter (keptB f)) := hide (by have := unhide HTN (t - 1) (by omega); rw [show t - 1 + 1 = t by omega, ej] at this; exact this)
      have HTJ := unhide HTL (t - 1)
      obtain ⟨c0, c1, c2, c3⟩ := (unhide hbv).at (i := t) (by rw [unhide HML]; omega)
      have hlB := (unhide hbv).lt
      clear ej
      generalize at' ms t = x at *
      generalize hDT : (ws.take (t - 1)).filter (keptB f) = D1 at *
      clear hDT
      obtain ⟨xa, xn, xc, xh⟩ := x
      dsimp only at c0 c1 c2 c3 HTy HTn
      cases hd : ((t : Int) != f)
      · have HTF := hide (unhide HTn (by rw [hd]; rfl))
        have HO : Hid (wr.ownsRow w.heap.size 62 4 u5 ((ws.take (t + 1 - 1)).filter (keptB f)).length (flat ((ws.take (t + 1 - 1)).filter (keptB f)))) := hide (by rw [Nat.add_sub_cancel, unhide HTF]; exact unhide how)
        clear HTy HTn
        go_wp2_with fail
        go_roundw
        case rel => exact ⟨t + 1, by omega, by omega, by go_num, HO, hvb, hbv, hbl⟩
        case measure => simp [intOf]; omega
      · by_cases hxc : 0 ≤ xc
        · have HTF := hide (unhide HTy (by rw [hd, decide_eq_true hxc]; rfl))
          clear HTy HTn
          go_wp2_with (at_builtin; refine wpList_apT ((unhide how).alloc _) wr.heap.size 0 1 1 [(⟨xa, xn, xc, xh⟩ : R)] rfl (by omega) (rm_new wr ⟨xa, xn, xc, xh⟩) (by simp only [List.length_cons, List.length_nil]; omega) (by simp; omega) rfl _ _ rfl rfl rfl ?_; intro v' w' ho hg hv; have HO : Hid (w'.ownsRow w.heap.size 62 4 v' ((ws.take (t + 1 - 1)).filter (keptB f)).length (flat ((ws.take (t + 1 - 1)).filter (keptB f)))) := hide (by rw [Nat.add_sub_cancel, unhide HTF]; exact ho); have HBB := hide (((unhide hbv).below ((Below.refl _ _).alloc (Nat.le_refl _) (.cells #[.int .i64 xa, .int .i64 xn, .int .i64 xc, .int .i64 xh] 62))).grown hg (fun e => unhide hvb e.symm)); have HVB : Hid (v'.ownBlock ≠ some B) := hide (by rcases hv with e | e; rw [e]; exact unhide hvb; rw [e]; simp; omega); have HB := hide (below_own ((unhide hbl).alloc hbs _) ((unhide how).alloc _) hg (Nat.le_refl _) (by simp; omega)); clear ho hg hv)
          go_roundw
          case rel => exact ⟨t + 1, by omega, by omega, by go_num, HO, HVB, HBB, HB⟩
          case measure => simp [intOf]; omega
        · have HTF := hide (unhide HTn (by rw [hd, decide_eq_false hxc]; rfl))
          have HO : Hid (wr.ownsRow w.heap.size 62 4 u5 ((ws.take (t + 1 - 1)).filter (keptB f)).length (flat ((ws.take (t + 1 - 1)).filter (keptB f)))) := hide (by rw [Nat.add_sub_cancel, unhide HTF]; exact unhide how)
          clear HTy HTn
          go_wp2_with fail
          go_roundw
          case rel => exact ⟨t + 1, by omega, by omega, by go_num, HO, hvb, hbv, hbl⟩
          case measure => simp [intOf]; omega
    · obtain rfl : t = 9 := by omega
      have HL : Hid (LstV wr u5 (rouL g f) w.heap.size wr.heap.size) := hide (by
        have := lst_own rfl (unhide how)
        rw [show 9 - 1 = 8 from rfl, unhide HFL] at this
        exact this)
      go_wp2_with fail
      go_ret
      exact ⟨_, rfl, unhide hbl, unhide HL⟩
set_option maxHeartbeats 8000000 in
theorem specRoutes (a : Option Addr) (g : List Tu.R) (cap : Nat) (f : Int) (w : World) (hm : g.length ≤ 1048576) (hr : Tu.RM w a g) :
    Calls Try.prog 23 #[.slice a g.length cap, .int .i64 f] w fun e w' => ∃ v, e = .returned (.tuple #[v, .int .i64 (codeG g f)]) ∧ Below w.heap.size w w' ∧ LstV w' v (rouA g f) w.heap.size w'.heap.size := by
  have HR := hide hr
  clear hr
  by_cases hbig : (4096 : Int) < g.length
  · have hc := codeG_long (f := f) hbig
    have h1 : rouA g f = [] := by unfold rouA; rw [if_neg (by rw [hc]; omega)]
    rw [h1, hc]
    clear h1 hc
    go_enter Try.func23, Try.ntmps23
    go_wp2_with fail
    go_ret2
    exact ⟨_, rfl, (Below.refl _ _).alloc (Nat.le_refl _) _, lstV_nil _ _ _ _ _⟩
  by_cases hc : codeG g f = 0
  rotate_left
  · have h1 : rouA g f = [] := by unfold rouA; rw [if_neg hc]
    rw [h1]
    clear h1
    obtain ⟨cd, hcd⟩ : ∃ cd, codeG g f = cd := ⟨_, rfl⟩
    have HC := hide hcd
    rw [hcd] at hc ⊢
    have q1 : (cd != 0) = true := by simpa using hc
    clear hcd hc
    go_enter Try.func23, Try.ntmps23
    go_wp2_with fail
    refine (l11Ask _ g cap f _ hm (unhide HR)).mono ?_
    rintro e w1 ⟨rfl, b1⟩
    rw [unhide HC]
    have HB1 := hide b1
    have hs1 := b1.size
    clear b1
    go_wp2_with fail
    go_ret2
    exact ⟨_, rfl, (unhide HB1).alloc hs1 _, lstV_nil _ _ _ _ _⟩
  have h1 : rouA g f = rouL g f := by unfold rouA; rw [if_pos hc]
  rw [h1, hc]
  have HC := hide hc
  have HOK := hide (codeG_ok hc)
  clear h1 hc
  go_enter Try.func23, Try.ntmps23
  go_wp2_with fail
  refine (l11Ask _ g cap f _ hm (unhide HR)).mono ?_
  rintro e w1 ⟨rfl, b1⟩
  rw [unhide HC]
  have HB1 := hide b1
  have HR1 := hide ((unhide HR).below b1)
  have hs1 := b1.size
  clear b1
  go_wp2_with fail
  refine (l11List _ g cap f _ (unhide HOK).1 (unhide HOK).2 (unhide HR1)).mono ?_
  rintro e w2 ⟨v, rfl, b2, hl⟩
  have HB2 := hide ((unhide HB1).trans (b2.mono hs1))
  have HL2 := hide (hl.mono hs1 (Nat.le_refl _))
  clear b2 hl
  go_wp2_with fail
  go_ret2
  exact ⟨_, rfl, unhide HB2, unhide HL2⟩
end Wd
end Go.Proofs.Ytjhhhmdhdnmejaa
