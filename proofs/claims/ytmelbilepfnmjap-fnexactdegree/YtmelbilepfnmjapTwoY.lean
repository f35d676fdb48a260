/-
  The model's contract of StrictTwo.
-/
import Derived.Test.YtmelbilepfnmjapTwoW
import Derived.Deep.AppendLies
namespace Go.Proofs.Ytmelbilepfnmjap
open Go.ChangeShapes Go.WideShapes Go.ChangeAt Go.RowKit
set_option linter.unusedVariables false
set_option linter.unusedSimpArgs false
attribute [local go_sem ↓] Go.wp_at_zero Go.wp_at_succ
namespace Tw
open W1 Tu St
/-- append to a row of one's own: where it lies. -/
theorem wpList_apL {ops : Array Oper} {rest : List Oper} {o : Oper} {a : Act} {Q : Exit → Act → World → Prop} {w : World} {base : Nat} {v : Value} {xs : List Int} (hown : w.ownsRow base 3 1 v xs.length (In.flat xs)) (g off m c : Nat) (zs : List Int) (hm : zs.length = m) (hm0 : 0 < m) (hr : In.RM w (some ⟨g, off, none⟩) zs) (hlen : xs.length + zs.length ≤ 4194304) (hbase : base ≤ w.heap.size)
    (hgd : o.guard = none) (s x : Operand) (ho : o.op = .call { callee := .builtin .append, args := #[s, x], argTypes := #[131, 131] }) (hs : a.eval s = v) (hx : a.eval x = .slice (some ⟨g, off, none⟩) m c)
    (h : ∀ v' w', w'.ownsRow base 3 1 v' (xs ++ zs).length (In.flat (xs ++ zs)) → w.grownBy w' v.ownBlock → (v'.ownBlock = v.ownBlock ∨ v'.ownBlock = some w.heap.size) → wpList Try.prog ops Q rest (a.put o.dst v') w') : wpList Try.prog ops Q (o :: rest) a w := by
  subst hm
  obtain ⟨i0, hi, hz0, hz1, hz2⟩ := In.infoI
  refine wpList_append_lies w hgd s x _ ho base 3 i0 _ 1 8 Try.underlying131 hi hz0 hz1 hz2 rfl (by decide) v xs.length (In.flat xs) hs hown ⟨g, off, none⟩ zs.length c (In.flat zs) hx (In.flat_len zs) hr.cells (fun u hu => In.flat_one_cell hu) hm0 (by unfold maxLen; omega) (by omega) hbase _ rfl (fun g' cap w' h1 h2 h3 h4 => ?_)
  refine h _ w' ?_ h2 ?_
  · rw [List.length_append, In.flat_append]; exact h1
  · rcases h3 with h3 | h3
    · exact .inl h3.symm
    · exact .inr (by rw [h3]; rfl)
/-- A list beside a row of one's own. -/
def NearOk (w : World) (v : Value) (a : Option Addr) (zs : List Int) : Prop := zs = [] ∨ ∃ g off, a = some ⟨g, off, none⟩ ∧ v.ownBlock ≠ some g ∧ g < w.heap.size ∧ In.RM w a zs
theorem NearOk.rm {w : World} {v : Value} {a : Option Addr} {zs : List Int} (h : NearOk w v a zs) : In.RM w a zs := by
  rcases h with h | ⟨g, off, rfl, _, _, h⟩
  · exact .inl h
  · exact h
theorem NearOk.below {w w' : World} {v : Value} {a : Option Addr} {zs : List Int} (h : NearOk w v a zs) (hb : Below w.heap.size w w') : NearOk w' v a zs := by
  rcases h with h | ⟨g, off, rfl, h1, h2, h⟩
  · exact .inl h
  · exact .inr ⟨g, off, rfl, h1, Nat.lt_of_lt_of_le h2 hb.size, h.below hb⟩
theorem NearOk.grown {w w' : World} {v v' : Value} {a : Option Addr} {zs : List Int} (h : NearOk w v a zs) (hg : w.grownBy w' v.ownBlock) (hv : v'.ownBlock = v.ownBlock ∨ v'.ownBlock = some w.heap.size) : NearOk w' v' a zs := by
  rcases h with h | ⟨g, off, rfl, h1, h2, h⟩
  · exact .inl h
  · refine .inr ⟨g, off, rfl, ?_, Nat.lt_of_lt_of_le h2 hg.size, ?_⟩
    · rcases hv with e | e
      · rw [e]; exact h1
      · rw [e]; intro e2; cases e2; omega
    · rcases h with h | ⟨g', off', e, hc⟩
      · exact .inl h
      · cases e
        refine .inr ⟨g, off, rfl, fun i hi => ?_⟩
        exact (World.cell?_of_block (a := ⟨g, off + i, none⟩) (hg.block g h2 (fun e => h1 e.symm))).trans (hc i hi)
set_option maxHeartbeats 2000000 in
theorem l07Ask (a : Option Addr) (ms : List R) (cap : Nat) (b : Option Addr) (ls : List Lk.R) (capl : Nat) (w : World) (h1 : ¬ (4096 : Int) < ms.length) (h2 : ¬ (4096 : Int) < ls.length) (hr : RM w a ms) (hr' : Lk.RM w b ls) :
    Calls Try.prog 40 #[.slice a ms.length cap, .slice b ls.length capl] w fun e w' => e = .returned (.int .i64 (codeTL ms ls)) ∧ Below w.heap.size w w' := by
  have HR := hide hr
  have HL := hide hr'
  clear hr hr'
  cases hs : twoB ms
  · rw [codeTL_bad (by omega) (by omega) (by rw [hs]; rfl)]
    have HS := hide hs
    clear hs
    go_enter Try.func40, Try.ntmps40
    go_wp2_with fail
    refine (l07OK _ ms cap _ (by omega) (unhide HR)).mono ?_
    rintro e w1 ⟨rfl, b1⟩
    rw [unhide HS]
    have HB := hide b1
    clear b1
    go_wp2_with fail
    go_ret
    exact ⟨rfl, unhide HB⟩
  cases hk : Ln.linksB ls
  · rw [codeTL_bad (by omega) (by omega) (by rw [hs, hk]; rfl)]
    have HS := hide hs
    have HK := hide hk
    clear hs hk
    go_enter Try.func40, Try.ntmps40
    go_wp2_with fail
    refine (l07OK _ ms cap _ (by omega) (unhide HR)).mono ?_
    rintro e w1 ⟨rfl, b1⟩
    rw [unhide HS]
    have HB := hide b1
    have HL1 := hide ((unhide HL).below b1)
    clear b1
    go_wp2_with fail
    refine (Ln.specOK _ ls capl _ (by omega) (unhide HL1)).mono ?_
    rintro e w2 ⟨rfl, b2⟩
    rw [unhide HK]
    have HB2 := hide ((unhide HB).trans (b2.mono (unhide HB).size))
    clear b2
    go_wp2_with fail
    go_ret
    exact ⟨rfl, unhide HB2⟩
  rw [codeTL_zero (by omega) (by omega) (by rw [hs, hk]; rfl)]
  have HS := hide hs
  have HK := hide hk
  clear hs hk
  go_enter Try.func40, Try.ntmps40
  go_wp2_with fail
  refine (l07OK _ ms cap _ (by omega) (unhide HR)).mono ?_
  rintro e w1 ⟨rfl, b1⟩
  rw [unhide HS]
  have HB := hide b1
  have HL1 := hide ((unhide HL).below b1)
  clear b1
  go_wp2_with fail
  refine (Ln.specOK _ ls capl _ (by omega) (unhide HL1)).mono ?_
  rintro e w2 ⟨rfl, b2⟩
  rw [unhide HK]
  have HB2 := hide ((unhide HB).trans (b2.mono (unhide HB).size))
  clear b2
  go_wp2_with fail
  go_ret
  exact ⟨rfl, unhide HB2⟩
set_option maxRecDepth 100000 in
set_option maxHeartbeats 4000000 in
theorem l07Strict (g0 o0 : Nat) (ms : List R) (cap : Nat) (b : Option Addr) (ls : List Lk.R) (capl : Nat) (me now : Int) (w : World) (hok : twoB ms = true ∧ Ln.linksB ls = true) (hr : RM w (some ⟨g0, o0, none⟩) ms) (hr' : Lk.RM w b ls) :
    Calls Try.prog 86 #[.slice (some ⟨g0, o0, none⟩) ms.length cap, .slice b ls.length capl, .int .i64 me, .int .i64 now] w fun e w' => ∃ v, e = .returned v ∧ Below w.heap.size w w' ∧ In.LstV w' v (strN (condS ms ls me now) 8) w.heap.size w'.heap.size := by
  have HOK := hide hok
  obtain ⟨c, hcc⟩ : ∃ c, condS ms ls me now = c := ⟨_, rfl⟩
  have HCC : Hid (∀ x, c x = ((x != me) && (!(Ln.symN now ls ls.length).contains x && decide (0 < (viaL (findT ms) ls x now ls.length).length)))) := hide (fun x => by rw [← hcc]; rfl)
  rw [hcc]
  have h8 := Ln.links_len hok.2
  have hsl := Ln.symN_len now ls ls.length
  have HR0 := hide hr
  have HL0 := hide hr'
  clear hcc hok
  have P0 := hide ((Below.refl w.heap.size w).alloc (Nat.le_refl _) (.cells #[] 3))
  have HR := hide (hr.below (unhide P0))
  have HL := hide (hr'.below (unhide P0))
  have O1 : Hid ((w.alloc (.cells #[] 3)).ownsRow w.heap.size 3 1 (.slice (some ⟨w.heap.size, 0, none⟩) 0 0) (strN c 0).length (In.flat (strN c 0))) := hide (In.own_empty w w.heap.size (Nat.le_refl _))
  clear hr hr'
  go_enter Try.func86, Try.ntmps86
  go_wp2_with fail
  refine (Ln.l06Sym _ ls capl now _ (by omega) (unhide HL)).mono ?_
  rintro e w2 ⟨v2, rfl, b2, hl2⟩
  obtain ⟨a2, c2, rfl, l2⟩ := hl2
  have HN2 : Hid (NearOk w2 (.slice (some ⟨w.heap.size, 0, none⟩) 0 0) a2 (Ln.symN now ls ls.length)) := hide (by
    rcases l2 with e | ⟨g2, rfl, h1, h2, h3, h4⟩
    · exact .inl e
    · exact .inr ⟨g2, 0, rfl, by intro e; simp [Value.ownBlock] at e; simp at h1; omega, h3, In.rm_of h4⟩)
  have HB2 := hide ((unhide P0).trans (b2.mono (unhide P0).size))
  have O2 := hide (Ln.own_belowI (unhide O1) b2)
  clear b2 l2 P0 HR HL O1
  generalize Ln.symN now ls ls.length = zs at *
  go_wp2_with fail
  go_loopw [9, 11] (fun v i wr => ∃ j : Nat, j ≤ 8 ∧ i = .int .i64 ((j : Int) + 1) ∧ Hid (wr.ownsRow w.heap.size 3 1 v (strN c j).length (In.flat (strN c j))) ∧ Hid (Below w.heap.size w wr) ∧ Hid (NearOk wr v a2 zs)) (fun _ i _ => 9 - (intOf i).toNat)
  case atStart => exact ⟨0, by omega, rfl, O2, HB2, HN2⟩
  case round =>
    obtain ⟨j, hj, rfl, how, hbl, hnr⟩ := hrel
    have hbs := (unhide hbl).size
    have hfl := strN_len c j
    by_cases hlt : (j : Int) + 1 ≤ 8
    · have HCJ := hide (unhide HCC ((j : Int) + 1))
      have HY := hide (fun (h : c ((j : Int) + 1) = true) => strN_yes h)
      have HZ := hide (fun (h : c ((j : Int) + 1) = false) => strN_no h)
      cases hq : ((j : Int) + 1 != me)
      · have HTF := hide (unhide HZ (by rw [unhide HCJ, hq]; rfl))
        clear HY HZ HCJ
        have HO : Hid (wr.ownsRow w.heap.size 3 1 u9 (strN c (j + 1)).length (In.flat (strN c (j + 1)))) := hide (by rw [unhide HTF]; exact unhide how)
        go_wp2_with fail
        go_roundw
        case rel => exact ⟨j + 1, by omega, by go_num, HO, hbl, hnr⟩
        case measure => simp [intOf]; omega
      obtain ⟨kc, hkc⟩ : ∃ kc, zs.contains ((j : Int) + 1) = kc := ⟨_, rfl⟩
      have HKC := hide hkc
      rw [hkc, hq] at HCJ
      clear hkc
      go_wp2_with fail
      refine (l07Has a2 zs c2 ((j : Int) + 1) _ (by omega) (unhide hnr).rm).mono ?_
      rintro e w4 ⟨rfl, hw4⟩
      rw [unhide HKC, hw4]
      clear hw4
      cases kc
      rotate_left
      · have HTF := hide (unhide HZ (by rw [unhide HCJ]; rfl))
        clear HY HZ HCJ
        have HO : Hid (wr.ownsRow w.heap.size 3 1 u9 (strN c (j + 1)).length (In.flat (strN c (j + 1)))) := hide (by rw [unhide HTF]; exact unhide how)
        go_wp2_with fail
        go_roundw
        case rel => exact ⟨j + 1, by omega, by go_num, HO, hbl, hnr⟩
        case measure => simp [intOf]; omega
      have HMr := hide ((unhide HR0).below (unhide hbl))
      have HLr := hide ((unhide HL0).below (unhide hbl))
      obtain ⟨nv, hnv⟩ : ∃ nv, (viaL (findT ms) ls ((j : Int) + 1) now ls.length).length = nv := ⟨_, rfl⟩
      rw [hnv] at HCJ
      have HNV := hide hnv
      clear hnv
      go_wp2_with fail
      refine (l07Via g0 o0 ms cap _ ls capl ((j : Int) + 1) now _ (by omega) (by omega) (two_set (unhide HOK).1) (unhide HOK).2 (unhide HMr) (unhide HLr)).mono ?_
      rintro e w5 ⟨v5, rfl, b5, hl5⟩
      obtain ⟨a5, c5, rfl, l5⟩ := hl5
      rw [unhide HNV]
      have HB5 := hide ((unhide hbl).trans (b5.mono (unhide hbl).size))
      have HO5 := hide (Ln.own_belowI (unhide how) b5)
      have HN5 := hide ((unhide hnr).below b5)
      have hs5 := (unhide HB5).size
      clear b5 l5
      rcases nv with _ | nv
      rotate_left
      · have HTF := hide (unhide HY (by rw [unhide HCJ, decide_eq_true (by omega)]; rfl))
        clear HY HZ HCJ
        go_wp2_with (at_builtin; refine wpList_apL ((unhide HO5).alloc _) w5.heap.size 0 1 1 [(j : Int) + 1] rfl (by omega) (In.rm_new w5 ((j : Int) + 1)) (by simp only [List.length_cons, List.length_nil]; omega) (by simp; omega) rfl _ _ rfl rfl rfl ?_; intro v' w' ho hg hv; have HO : Hid (w'.ownsRow w.heap.size 3 1 v' (strN c (j + 1)).length (In.flat (strN c (j + 1)))) := hide (by rw [unhide HTF]; exact ho); have HB := hide (In.below_own ((unhide HB5).alloc hs5 _) ((unhide HO5).alloc _) hg (Nat.le_refl _) (by simp; omega)); have HN := hide (((unhide HN5).below ((Below.refl _ _).alloc (Nat.le_refl _) _)).grown hg hv); clear ho hg hv)
        go_roundw
        case rel => exact ⟨j + 1, by omega, by go_num, HO, HB, HN⟩
        case measure => simp [intOf]; omega
      · have HTF := hide (unhide HZ (by rw [unhide HCJ, decide_eq_false (by omega)]; rfl))
        clear HY HZ HCJ
        have HO : Hid (w5.ownsRow w.heap.size 3 1 u9 (strN c (j + 1)).length (In.flat (strN c (j + 1)))) := hide (by rw [unhide HTF]; exact unhide HO5)
        go_wp2_with fail
        go_roundw
        case rel => exact ⟨j + 1, by omega, by go_num, HO, HB5, HN5⟩
        case measure => simp [intOf]; omega
    · obtain rfl : j = 8 := by omega
      have HLs := hide (In.lst_own rfl (unhide how))
      go_wp2_with fail
      go_ret
      exact ⟨_, rfl, unhide hbl, unhide HLs⟩
end Tw
end Go.Proofs.Ytmelbilepfnmjap
