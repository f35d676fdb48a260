/-
  Of the texts TwoV, TwoX, SetP, SetK, TwoW, TwoY: what this claim needs of them. (put together by mkprune.py)
-/
import Derived.Test.YtiipppfkpgbpeaaGreatQb4
import Derived.Laws.NewBlocks
import Derived.Deep.AppendLies
namespace Go.Proofs.YtiipppfkpgbpeaaGreat
open Go.ChangeShapes Go.WideShapes Go.ChangeAt Go.RowKit
set_option linter.unusedVariables false
set_option linter.unusedSimpArgs false
attribute [local go_sem ↓] Go.wp_at_zero Go.wp_at_succ
namespace Tw
open W1 Tu St Mt
def IxOk (k : Int) (zs : List Int) (z : Int) : Prop := decide (0 ≤ k) = zs.contains z
set_option maxHeartbeats 2000000 in
theorem index (a : Option Addr) (zs : List Int) (cap : Nat) (z : Int) (w : World) (hm : zs.length ≤ 1048576) (hr : In.RM w a zs) :
    Calls Tryz.prog 302 #[.slice a zs.length cap, .int .i64 z] w fun e w' => ∃ k : Int, e = .returned (.int .i64 k) ∧ w' = w ∧ IxOk k zs z := by
  have HR := hide hr
  clear hr
  generalize hN : zs.length = n at *
  have HN := hide hN
  clear hN
  go_enter Tryz.func302, Tryz.ntmps302
  go_wp2_with fail
  go_loopw [8] (fun i wr => ∃ j : Nat, j ≤ n ∧ i = .int .i64 j ∧ Hid ((zs.take j).contains z = false) ∧ Hid (wr = w)) (fun i _ => n - (intOf i).toNat)
  case atStart => exact ⟨0, by omega, rfl, hide rfl, hide rfl⟩
  case round =>
    obtain ⟨j, hj, rfl, hno, hwr⟩ := hrel
    have HRr : Hid (In.RM wr a zs) := hide (by rw [unhide hwr]; exact unhide HR)
    by_cases hlt : (j : Int) < (n : Int)
    · have k0 : (0 : Int) ≤ (j : Int) := by omega
      have hlen : j < zs.length := by rw [unhide HN]; omega
      rcases unhide HRr with e0 | ⟨g, off, rfl, hc⟩
      · exfalso; rw [e0] at hlen; simp at hlen
      have c0 := hc j hlen
      clear hc
      have HY : Hid ((z == zs.getD j 0) = true → zs.contains z = true) := hide (fun h => has_yes hlen h)
      have HZ : Hid ((z == zs.getD j 0) = false → (zs.take (j + 1)).contains z = false) := hide (fun h => has_succ hlen (unhide hno) h)
      generalize zs.getD j 0 = y at *
      cases hk : (z == y)
      · have HT := hide (unhide HZ hk)
        go_wp2_with fail
        go_roundw
        case rel => exact ⟨j + 1, by omega, by go_num, HT, hwr⟩
        case measure => simp [intOf]; omega
      · have HT := hide (unhide HY hk)
        go_wp2_with fail
        go_ret
        exact ⟨_, rfl, unhide hwr, by unfold IxOk; rw [unhide HT]; simp⟩
    · obtain rfl : j = n := by omega
      have HT : Hid (zs.contains z = false) := hide (by have := unhide hno; rw [← unhide HN, List.take_length] at this; exact this)
      go_wp2_with fail
      go_ret
      exact ⟨_, rfl, unhide hwr, by unfold IxOk; rw [unhide HT]; rfl⟩
set_option maxHeartbeats 1000000 in
theorem contains (a : Option Addr) (zs : List Int) (cap : Nat) (z : Int) (w : World) (hm : zs.length ≤ 1048576) (hr : In.RM w a zs) :
    Calls Tryz.prog 284 #[.slice a zs.length cap, .int .i64 z] w fun e w' => e = .returned (.bool (zs.contains z)) ∧ w' = w := by
  go_enter Tryz.func284, Tryz.ntmps284
  go_wp2_with fail
  refine (index a zs cap z _ hm hr).mono ?_
  rintro e w1 ⟨k, rfl, rfl, hk⟩
  have HK : Hid (decide (0 ≤ k) = zs.contains z) := hide hk
  clear hk
  by_cases h0 : 0 ≤ k
  · have HT : Hid (zs.contains z = true) := hide (by rw [← unhide HK]; exact decide_eq_true h0)
    go_wp2_with fail
    go_ret
    exact ⟨ret_bool (by rw [unhide HT]), rfl⟩
  · have HT : Hid (zs.contains z = false) := hide (by rw [← unhide HK]; exact decide_eq_false h0)
    go_wp2_with fail
    go_ret
    exact ⟨ret_bool (by rw [unhide HT]; exact decide_eq_false (by omega)), rfl⟩
set_option maxRecDepth 100000 in
set_option maxHeartbeats 2000000 in
theorem isKept (b n : Nat) (f : Int → Int → Option R) (v u now : Int) (w : World) (hw1 : (Lit.int .i64 v).wf = true) (hw2 : (Lit.int .i64 u).wf = true) (hom : OM w b n f) :
    Calls Tryz.prog 285 #[.map (some b), .agg #[.int .i64 v, .int .i64 u], .int .i64 now] w fun e w' => e = .returned (.bool (keptB (f v u) now)) ∧ Below w.heap.size w w' := by
  have H1 := hide hw1
  have H2 := hide hw2
  have P0 : Hid (Below w.heap.size w (w.alloc (.cells #[.int .i64 v, .int .i64 u] 200))) := hide ((Below.refl _ _).alloc (Nat.le_refl _) _)
  have HM : Hid (OM (w.alloc (.cells #[.int .i64 v, .int .i64 u] 200)) b n f) := hide (hom.below (unhide P0))
  clear hw1 hw2 hom
  cases hf : f v u with
  | none =>
    have HA : Hid ((f v u).getD R.zero = ⟨0, 0, 0⟩) := hide (by rw [hf]; rfl)
    have HE : Hid ((f v u).isSome = false) := hide (by rw [hf]; rfl)
    clear hf
    have P1 := hide ((unhide P0).alloc (unhide P0).size (.cells #[.int .i64 0, .int .i64 0, .int .i64 0] 126))
    go_enter Tryz.func285, Tryz.ntmps285
    go_wp2_with (at_lookup; refine wpList_lookA _ rfl _ _ rfl b _ _ rfl (unhide HM) v u (unhide H1) (unhide H2) rfl 0 0 0 false (unhide HA) (unhide HE) ?_)
    go_ret
    exact ⟨rfl, unhide P1⟩
  | some m =>
    obtain ⟨ke, ti, va⟩ := m
    have HA : Hid ((f v u).getD R.zero = ⟨ke, ti, va⟩) := hide (by rw [hf]; rfl)
    have HE : Hid ((f v u).isSome = true) := hide (by rw [hf]; rfl)
    clear hf
    have P1 := hide ((unhide P0).alloc (unhide P0).size (.cells #[.int .i64 ke, .int .i64 ti, .int .i64 va] 126))
    by_cases hk : now < ti
    · have HT : Hid (keptB (some ⟨ke, ti, va⟩) now = true) := hide (decide_eq_true hk)
      go_enter Tryz.func285, Tryz.ntmps285
      go_wp2_with (at_lookup; refine wpList_lookA _ rfl _ _ rfl b _ _ rfl (unhide HM) v u (unhide H1) (unhide H2) rfl ke ti va true (unhide HA) (unhide HE) ?_)
      go_ret
      exact ⟨ret_bool (unhide HT).symm, unhide P1⟩
    · have HT : Hid (keptB (some ⟨ke, ti, va⟩) now = false) := hide (decide_eq_false hk)
      go_enter Tryz.func285, Tryz.ntmps285
      go_wp2_with (at_lookup; refine wpList_lookA _ rfl _ _ rfl b _ _ rfl (unhide HM) v u (unhide H1) (unhide H2) rfl ke ti va true (unhide HA) (unhide HE) ?_)
      go_ret
      exact ⟨ret_bool (unhide HT).symm, unhide P1⟩
set_option maxRecDepth 100000 in
set_option maxHeartbeats 4000000 in
theorem viasOf (bm q : Nat) (f : Int → Int → Option R) (a : Option Addr) (ls : List Lk.R) (cap : Nat) (addr now : Int) (w : World) (hwa : (Lit.int .i64 addr).wf = true) (hok : Ln.linksB ls = true) (hom : OM w bm q f) (hr : Lk.RM w a ls) :
    Calls Tryz.prog 232 #[.map (some bm), .slice a ls.length cap, .int .i64 addr, .int .i64 now] w fun e w' => ∃ v, e = .returned v ∧ Below w.heap.size w w' ∧ In.LstV w' v (viaL f ls addr now ls.length) w.heap.size w'.heap.size := by
  have HR := hide hr
  have HOM := hide hom
  have HWA := hide hwa
  have HOK := hide hok
  have h8 := Ln.links_len hok
  clear hr hom hwa hok
  have O0 : Hid (w.ownsRow w.heap.size 3 1 (.slice none 0 0) (viaL f ls addr now 0).length (In.flat (viaL f ls addr now 0))) := hide (In.own_nil w w.heap.size)
  generalize hN : ls.length = n at *
  have HN := hide hN
  clear hN
  go_enter Tryz.func232, Tryz.ntmps232
  go_wp2_with fail
  go_loopw [9, 14] (fun v i wr => ∃ j : Nat, j ≤ n ∧ i = .int .i64 j ∧ Hid (wr.ownsRow w.heap.size 3 1 v (viaL f ls addr now j).length (In.flat (viaL f ls addr now j))) ∧ Hid (Below w.heap.size w wr)) (fun _ i _ => n - (intOf i).toNat)
  case atStart => exact ⟨0, by omega, rfl, O0, hide (Below.refl _ _)⟩
  case round =>
    obtain ⟨j, hj, rfl, how, hbl⟩ := hrel
    by_cases hlt : (j : Int) < (n : Int)
    · have k0 : (0 : Int) ≤ (j : Int) := by omega
      have hlen : j < ls.length := by rw [unhide HN]; omega
      obtain ⟨g, off, rfl⟩ := (unhide HR).form (by omega)
      obtain ⟨c0, c1, c2, c3, c4, c5⟩ := ((unhide HR).below (unhide hbl)).at hlen
      have hbs := (unhide hbl).size
      have had := Ln.ok_ad (Ri.all_ok (unhide HOK) hlen)
      have HY := hide (fun (h : viaOk f addr now (ls.getD j Lk.R.zero) = true) => viaL_yes hlen h)
      have HZ := hide (fun (h : viaOk f addr now (ls.getD j Lk.R.zero) = false) => viaL_no hlen h)
      generalize ls.getD j Lk.R.zero = m at *
      have hfl := viaL_len f ls addr now j
      have HBA := hide ((unhide hbl).alloc hbs (.cells #[.int .i64 m.ad, .int .i64 m.hd, .int .i64 m.sy, .int .i64 m.ci, .int .i64 m.co, .int .i64 m.wl] 118))
      have HOA := hide ((unhide how).alloc (.cells #[.int .i64 m.ad, .int .i64 m.hd, .int .i64 m.sy, .int .i64 m.ci, .int .i64 m.co, .int .i64 m.wl] 118))
      have HMA := hide ((unhide HOM).below ((unhide hbl).alloc hbs (.cells #[.int .i64 m.ad, .int .i64 m.hd, .int .i64 m.sy, .int .i64 m.ci, .int .i64 m.co, .int .i64 m.wl] 118)))
      have HX := hide (Ln.bx_new wr m 118)
      have HWD : Hid ((Lit.int .i64 m.ad).wf = true) := hide (WalkArith.wf_i64 ⟨by omega, by omega⟩)
      have hvo : viaOk f addr now m = ((Ln.statusV m now == 2) && (decide (0 < m.wl) && keptB (f m.ad addr) now)) := rfl
      have HVO := hide hvo
      clear hvo
      go_wp2_with fail
      generalize hW : wr.alloc (.cells #[.int .i64 m.ad, .int .i64 m.hd, .int .i64 m.sy, .int .i64 m.ci, .int .i64 m.co, .int .i64 m.wl] 118) = W0 at *
      clear hW
      refine (Ln.implStatus _ _ _ _ _ _ now _).mono ?_
      rintro e w2 ⟨rfl, b2⟩
      have HBL := hide ((unhide HBA).trans (b2.mono (unhide HBA).size))
      have HOW := hide (Ln.own_belowI (unhide HOA) b2)
      have HM2 := hide ((unhide HMA).below b2)
      have HX2 := hide ((unhide HX).below b2)
      obtain ⟨d0, d1, d2, d3, d4, d5⟩ := unhide HX2
      clear b2 c0 c1 c2 c3 c4 c5
      have e2 : Ln.statusV ⟨m.ad, m.hd, m.sy, m.ci, m.co, m.wl⟩ now = Ln.statusV m now := rfl
      rw [e2]
      clear e2
      have hsw := (unhide HBL).size
      cases hs : (Ln.statusV m now == 2)
      · have HTF := hide (unhide HZ (by rw [unhide HVO, hs]; rfl))
        clear HY HZ HVO
        generalize Ln.statusV m now = sv at *
        have HOS : Hid (w2.ownsRow w.heap.size 3 1 u9 (viaL f ls addr now (j + 1)).length (In.flat (viaL f ls addr now (j + 1)))) := hide (by rw [unhide HTF]; exact unhide HOW)
        go_wp2_with fail
        go_roundw
        case rel => exact ⟨j + 1, by omega, by go_num, HOS, HBL⟩
        case measure => simp [intOf]; omega
      by_cases hwl : 0 < m.wl
      rotate_left
      · have HTF := hide (unhide HZ (by rw [unhide HVO, hs, decide_eq_false hwl]; rfl))
        clear HY HZ HVO
        generalize Ln.statusV m now = sv at *
        have HOS : Hid (w2.ownsRow w.heap.size 3 1 u9 (viaL f ls addr now (j + 1)).length (In.flat (viaL f ls addr now (j + 1)))) := hide (by rw [unhide HTF]; exact unhide HOW)
        go_wp2_with fail
        go_roundw
        case rel => exact ⟨j + 1, by omega, by go_num, HOS, HBL⟩
        case measure => simp [intOf]; omega
      obtain ⟨kb, hkb⟩ : ∃ kb, keptB (f m.ad addr) now = kb := ⟨_, rfl⟩
      have HKB := hide hkb
      have HTY : Hid (kb = true → viaL f ls addr now (j + 1) = viaL f ls addr now j ++ [m.ad]) := hide (fun h => unhide HY (by rw [unhide HVO, hs, decide_eq_true hwl, hkb, h]; rfl))
      have HTZ : Hid (kb = false → viaL f ls addr now (j + 1) = viaL f ls addr now j) := hide (fun h => unhide HZ (by rw [unhide HVO, hs, decide_eq_true hwl, hkb, h]; rfl))
      clear HY HZ HVO hkb
      generalize Ln.statusV m now = sv at *
      go_wp2_with fail
      refine (isKept bm q f m.ad addr now _ (unhide HWD) (unhide HWA) (unhide HM2)).mono ?_
      rintro e w3 ⟨rfl, b3⟩
      rw [unhide HKB]
      have HB3 := hide ((unhide HBL).trans (b3.mono (unhide HBL).size))
      have HO3 := hide (Ln.own_belowI (unhide HOW) b3)
      clear d0 d1 d2 d3 d4 d5
      obtain ⟨d0, d1, d2, d3, d4, d5⟩ := (unhide HX2).below b3
      have hs3 := (unhide HB3).size
      clear b3
      cases kb
      · have HTF := hide (unhide HTZ rfl)
        have HOS : Hid (w3.ownsRow w.heap.size 3 1 u9 (viaL f ls addr now (j + 1)).length (In.flat (viaL f ls addr now (j + 1)))) := hide (by rw [unhide HTF]; exact unhide HO3)
        go_wp2_with fail
        go_roundw
        case rel => exact ⟨j + 1, by omega, by go_num, HOS, HB3⟩
        case measure => simp [intOf]; omega
      · have HTF := hide (unhide HTY rfl)
        go_wp2_with (at_builtin; refine In.wpList_apS ((unhide HO3).alloc _) w3.heap.size 0 1 1 [m.ad] rfl (In.rm_new w3 m.ad) (by simp only [List.length_cons, List.length_nil]; omega) (by simp; omega) rfl _ _ rfl rfl rfl ?_; intro v' w' ho hg; have HO : Hid (w'.ownsRow w.heap.size 3 1 v' (viaL f ls addr now (j + 1)).length (In.flat (viaL f ls addr now (j + 1)))) := hide (by rw [unhide HTF]; exact ho); have HB := hide (In.below_own ((unhide HB3).alloc hs3 _) ((unhide HO3).alloc _) hg (Nat.le_refl _) (by simp; omega)); clear ho hg)
        go_roundw
        case rel => exact ⟨j + 1, by omega, by go_num, HO, HB⟩
        case measure => simp [intOf]; omega
    · obtain rfl : j = n := by omega
      have HL := hide (In.lst_own rfl (unhide how))
      go_wp2_with fail
      go_ret
      exact ⟨_, rfl, unhide hbl, unhide HL⟩
end Tw
end Go.Proofs.YtiipppfkpgbpeaaGreat
namespace Go.Proofs.YtiipppfkpgbpeaaGreat
open Go.ChangeShapes Go.WideShapes Go.ChangeAt Go.RowKit
set_option linter.unusedVariables false
set_option linter.unusedSimpArgs false
attribute [local go_sem ↓] Go.wp_at_zero Go.wp_at_succ
namespace Tw
open W1 Tu St Mt
theorem codeTL_long {ms : List R} {ls : List Lk.R} (h : 4096 < ms.length ∨ 4096 < ls.length) : codeTL ms ls = 2 := by unfold codeTL; rw [if_pos h]
theorem codeTL_bad {ms : List R} {ls : List Lk.R} (h : ¬ 4096 < ms.length) (h' : ¬ 4096 < ls.length) (hb : (twoB ms && Ln.linksB ls) = false) : codeTL ms ls = 1 := by unfold codeTL; rw [if_neg (by omega), if_neg (by rw [hb]; simp)]
theorem codeTL_zero {ms : List R} {ls : List Lk.R} (h : ¬ 4096 < ms.length) (h' : ¬ 4096 < ls.length) (hb : (twoB ms && Ln.linksB ls) = true) : codeTL ms ls = 0 := by unfold codeTL; rw [if_neg (by omega), if_pos hb]
set_option maxHeartbeats 2000000 in
theorem twoLinksCode (a : Option Addr) (ms : List R) (cap : Nat) (b : Option Addr) (ls : List Lk.R) (capl : Nat) (w : World) (hm : ms.length ≤ 1048576) (hl : ls.length ≤ 1048576) (hr : RM w a ms) (hr' : Lk.RM w b ls) :
    Calls Tryz.prog 229 #[.slice a ms.length cap, .slice b ls.length capl] w fun e w' => e = .returned (.int .i64 (codeTL ms ls)) ∧ Below w.heap.size w w' := by
  have HR := hide hr
  have HL := hide hr'
  clear hr hr'
  by_cases hb1 : (4096 : Int) < ms.length
  · rw [codeTL_long (.inl (by omega))]
    go_enter Tryz.func229, Tryz.ntmps229
    go_wp2
    go_ret
    exact ⟨rfl, Below.refl _ _⟩
  by_cases hb2 : (4096 : Int) < ls.length
  · rw [codeTL_long (.inr (by omega))]
    go_enter Tryz.func229, Tryz.ntmps229
    go_wp2
    go_ret
    exact ⟨rfl, Below.refl _ _⟩
  cases hs : twoB ms
  · rw [codeTL_bad (by omega) (by omega) (by rw [hs]; rfl)]
    have HS := hide hs
    clear hs
    go_enter Tryz.func229, Tryz.ntmps229
    go_wp2_with fail
    refine (areHops _ ms cap _ hm (unhide HR)).mono ?_
    rintro e w1 ⟨rfl, b1⟩
    rw [unhide HS]
    have HB := hide b1
    clear b1
    go_wp2_with fail
    go_ret
    exact ⟨rfl, unhide HB⟩
  cases hk : Ln.linksB ls
  · rw [codeTL_bad (by omega) (by omega) (by rw [hs, hk]; rfl)]
    have HS := hide hs
    have HK := hide hk
    clear hs hk
    go_enter Tryz.func229, Tryz.ntmps229
    go_wp2_with fail
    refine (areHops _ ms cap _ hm (unhide HR)).mono ?_
    rintro e w1 ⟨rfl, b1⟩
    rw [unhide HS]
    have HB := hide b1
    have HL1 := hide ((unhide HL).below b1)
    clear b1
    go_wp2_with fail
    refine (Ln.implOK _ ls capl _ hl (unhide HL1)).mono ?_
    rintro e w2 ⟨rfl, b2⟩
    rw [unhide HK]
    have HB2 := hide ((unhide HB).trans (b2.mono (unhide HB).size))
    clear b2
    go_wp2_with fail
    go_ret
    exact ⟨rfl, unhide HB2⟩
  rw [codeTL_zero (by omega) (by omega) (by rw [hs, hk]; rfl)]
  have HS := hide hs
  have HK := hide hk
  clear hs hk
  go_enter Tryz.func229, Tryz.ntmps229
  go_wp2_with fail
  refine (areHops _ ms cap _ hm (unhide HR)).mono ?_
  rintro e w1 ⟨rfl, b1⟩
  rw [unhide HS]
  have HB := hide b1
  have HL1 := hide ((unhide HL).below b1)
  clear b1
  go_wp2_with fail
  refine (Ln.implOK _ ls capl _ hl (unhide HL1)).mono ?_
  rintro e w2 ⟨rfl, b2⟩
  rw [unhide HK]
  have HB2 := hide ((unhide HB).trans (b2.mono (unhide HB).size))
  clear b2
  go_wp2_with fail
  go_ret
  exact ⟨rfl, unhide HB2⟩
set_option maxRecDepth 100000 in
set_option maxHeartbeats 4000000 in
theorem strictOf (bm q : Nat) (ms : List R) (b : Option Addr) (ls : List Lk.R) (capl : Nat) (me now : Int) (w : World) (hok : Ln.linksB ls = true) (hom : OM w bm q (findT ms)) (hr' : Lk.RM w b ls) :
    Calls Tryz.prog 231 #[.map (some bm), .slice b ls.length capl, .int .i64 me, .int .i64 now] w fun e w' => ∃ v, e = .returned v ∧ Below w.heap.size w w' ∧ In.LstV w' v (strN (condS ms ls me now) 8) w.heap.size w'.heap.size := by
  have HL := hide hr'
  have HM := hide hom
  have HOK := hide hok
  have h8 := Ln.links_len hok
  have HSC : Hid (Ln.codeL ls = 0) := hide (Ln.code_zero hok)
  have hsl := Ln.sym_len ls now
  obtain ⟨c, hcc⟩ : ∃ c, condS ms ls me now = c := ⟨_, rfl⟩
  have HCC : Hid (∀ x, c x = ((x != me) && (!(Ln.symA ls now).contains x && decide (0 < (viaL (findT ms) ls x now ls.length).length)))) := hide (fun x => by rw [← hcc]; unfold condS Ln.symA; rw [if_pos (unhide HSC)])
  rw [hcc]
  clear hr' hom hok hcc
  go_enter Tryz.func231, Tryz.ntmps231
  go_wp2_with fail
  refine (Ln.implSym _ ls capl now _ (by omega) (unhide HL)).mono ?_
  rintro e w2 ⟨v2, rfl, b2, hl2⟩
  rw [unhide HSC]
  obtain ⟨a2, c2, rfl, l2⟩ := hl2
  have HN2 := hide l2.rm
  have HB2 := hide b2
  have HL2 := hide ((unhide HL).below b2)
  have HM2 := hide ((unhide HM).below b2)
  clear b2 l2
  generalize Ln.symA ls now = zs at *
  have O0 : Hid (w2.ownsRow w2.heap.size 3 1 (.slice none 0 0) (strN c 0).length (In.flat (strN c 0))) := hide (In.own_nil w2 w2.heap.size)
  go_wp2_with fail
  go_loopw [11, 12] (fun v i wr => ∃ j : Nat, j ≤ 8 ∧ i = .int .i64 ((j : Int) + 1) ∧ Hid (wr.ownsRow w2.heap.size 3 1 v (strN c j).length (In.flat (strN c j))) ∧ Hid (Below w2.heap.size w2 wr)) (fun _ i _ => 9 - (intOf i).toNat)
  case atStart => exact ⟨0, by omega, rfl, O0, hide (Below.refl _ _)⟩
  case round =>
    obtain ⟨j, hj, rfl, how, hbl⟩ := hrel
    have hbs := (unhide hbl).size
    have hfl := strN_len c j
    by_cases hlt : (j : Int) + 1 ≤ 8
    · have HWK : Hid ((Lit.int .i64 ((j : Int) + 1)).wf = true) := hide (WalkArith.wf_i64 ⟨by omega, by omega⟩)
      have HCJ := hide (unhide HCC ((j : Int) + 1))
      have HY := hide (fun (h : c ((j : Int) + 1) = true) => strN_yes h)
      have HZ := hide (fun (h : c ((j : Int) + 1) = false) => strN_no h)
      cases hq : ((j : Int) + 1 != me)
      · have HTF := hide (unhide HZ (by rw [unhide HCJ, hq]; rfl))
        clear HY HZ HCJ
        have HO : Hid (wr.ownsRow w2.heap.size 3 1 u11 (strN c (j + 1)).length (In.flat (strN c (j + 1)))) := hide (by rw [unhide HTF]; exact unhide how)
        go_wp2_with fail
        go_roundw
        case rel => exact ⟨j + 1, by omega, by go_num, HO, hbl⟩
        case measure => simp [intOf]; omega
      obtain ⟨kc, hkc⟩ : ∃ kc, zs.contains ((j : Int) + 1) = kc := ⟨_, rfl⟩
      have HKC := hide hkc
      have HNr := hide ((unhide HN2).below (unhide hbl))
      rw [hkc, hq] at HCJ
      clear hkc
      go_wp2_with fail
      refine (contains a2 zs c2 ((j : Int) + 1) _ (by omega) (unhide HNr)).mono ?_
      rintro e w4 ⟨rfl, hw4⟩
      rw [unhide HKC, hw4]
      clear hw4
      cases kc
      rotate_left
      · have HTF := hide (unhide HZ (by rw [unhide HCJ]; rfl))
        clear HY HZ HCJ
        have HO : Hid (wr.ownsRow w2.heap.size 3 1 u11 (strN c (j + 1)).length (In.flat (strN c (j + 1)))) := hide (by rw [unhide HTF]; exact unhide how)
        go_wp2_with fail
        go_roundw
        case rel => exact ⟨j + 1, by omega, by go_num, HO, hbl⟩
        case measure => simp [intOf]; omega
      have HMr := hide ((unhide HM2).below (unhide hbl))
      have HLr := hide ((unhide HL2).below (unhide hbl))
      obtain ⟨nv, hnv⟩ : ∃ nv, (viaL (findT ms) ls ((j : Int) + 1) now ls.length).length = nv := ⟨_, rfl⟩
      rw [hnv] at HCJ
      have HNV := hide hnv
      clear hnv
      go_wp2_with fail
      refine (viasOf bm q _ _ ls capl ((j : Int) + 1) now _ (unhide HWK) (unhide HOK) (unhide HMr) (unhide HLr)).mono ?_
      rintro e w5 ⟨v5, rfl, b5, hl5⟩
      obtain ⟨a5, c5, rfl, l5⟩ := hl5
      rw [unhide HNV]
      have HB5 := hide ((unhide hbl).trans (b5.mono (unhide hbl).size))
      have HO5 := hide (Ln.own_belowI (unhide how) b5)
      have hs5 := (unhide HB5).size
      clear b5 l5
      rcases nv with _ | nv
      rotate_left
      · have HTF := hide (unhide HY (by rw [unhide HCJ, decide_eq_true (by omega)]; rfl))
        clear HY HZ HCJ
        go_wp2_with (at_builtin; refine In.wpList_apS ((unhide HO5).alloc _) w5.heap.size 0 1 1 [(j : Int) + 1] rfl (In.rm_new w5 ((j : Int) + 1)) (by simp only [List.length_cons, List.length_nil]; omega) (by simp; omega) rfl _ _ rfl rfl rfl ?_; intro v' w' ho hg; have HO : Hid (w'.ownsRow w2.heap.size 3 1 v' (strN c (j + 1)).length (In.flat (strN c (j + 1)))) := hide (by rw [unhide HTF]; exact ho); have HB := hide (In.below_own ((unhide HB5).alloc hs5 _) ((unhide HO5).alloc _) hg (Nat.le_refl _) (by simp; omega)); clear ho hg)
        go_roundw
        case rel => exact ⟨j + 1, by omega, by go_num, HO, HB⟩
        case measure => simp [intOf]; omega
      · have HTF := hide (unhide HZ (by rw [unhide HCJ, decide_eq_false (by omega)]; rfl))
        clear HY HZ HCJ
        have HO : Hid (w5.ownsRow w2.heap.size 3 1 u11 (strN c (j + 1)).length (In.flat (strN c (j + 1)))) := hide (by rw [unhide HTF]; exact unhide HO5)
        go_wp2_with fail
        go_roundw
        case rel => exact ⟨j + 1, by omega, by go_num, HO, HB5⟩
        case measure => simp [intOf]; omega
    · obtain rfl : j = 8 := by omega
      have HLs := hide ((In.lst_own rfl (unhide how)).mono (lo' := w.heap.size) (unhide HB2).size (Nat.le_refl _))
      have HBf := hide ((unhide HB2).trans ((unhide hbl).mono (unhide HB2).size))
      go_wp2_with fail
      go_ret
      exact ⟨_, rfl, unhide HBf, unhide HLs⟩
end Tw
end Go.Proofs.YtiipppfkpgbpeaaGreat
namespace Go.Proofs.YtiipppfkpgbpeaaGreat
open Go.ChangeShapes Go.WideShapes Go.ChangeAt Go.RowKit
set_option linter.unusedVariables false
set_option linter.unusedSimpArgs false
attribute [local go_sem ↓] Go.wp_at_zero Go.wp_at_succ
namespace St
open W1 Tu
theorem up_at {ms : List R} (h : setB ms = true) (k : Int) : ∀ i j, i < j → j < ms.length → atKey k (ms.getD i R.zero) = true → atKey k (ms.getD j R.zero) = true := by
  intro i j hij hj hi
  have := rises h j i hij hj
  unfold atKey at *
  exact decide_eq_true (by have := of_decide_eq_true hi; omega)
theorem cloAt (key til val k : Int) (b : Nat) (w : World) (hc : w.cell? ⟨b, 0, none⟩ = some (.int .i64 k)) :
    Calls Tryz.prog 297 #[.agg #[.int .i64 key, .int .i64 til, .int .i64 val], .pointer (some ⟨b, 0, none⟩)] w fun e w' => e = .returned (.bool (atKey k ⟨key, til, val⟩)) ∧ Below w.heap.size w w' := by
  have hlt : b < w.heap.size := World.block_lt_of_cell? _ _ hc
  have hne : ¬ b = w.heap.size := by omega
  by_cases h : k ≤ key
  all_goals
    go_enter Tryz.func297, Tryz.ntmps297
    go_wp2
    go_ret
    exact ⟨ret_bool (by unfold atKey; simp [h]), (Below.refl _ _).alloc (Nat.le_refl _) _⟩
set_option maxHeartbeats 2000000 in
theorem firstAt (b g off : Nat) (k : Int) (ms : List R) (cap : Nat) (w : World) (hr : RM w (some ⟨g, off, none⟩) ms) (hs : setB ms = true) (hb : w.cell? ⟨b, 0, none⟩ = some (.int .i64 k)) :
    Calls Tryz.prog 296 #[.slice (some ⟨g, off, none⟩) ms.length cap, .func (.func 297) #[] #[.pointer (some ⟨b, 0, none⟩)]] w fun e w' => e = .returned (.int .i64 (placeP (atKey k) ms)) ∧ Below w.heap.size w w' := by
  have HR := hide hr
  have HB := hide hb
  have HUP := hide (up_at hs k)
  have hblt := World.block_lt_of_cell? _ _ hb
  have hm := setB_len hs
  clear hr hs hb
  generalize hN : ms.length = n at *
  have HN := hide hN
  clear hN
  go_enter Tryz.func296, Tryz.ntmps296
  go_wp2
  go_loopw [5, 6] (fun lo hi wr => ∃ low high : Nat, low ≤ high ∧ high ≤ n ∧ lo = .int .i64 low ∧ hi = .int .i64 high ∧ Hid (∀ i, i < low → atKey k (ms.getD i R.zero) = false) ∧ Hid (∀ i, high ≤ i → i < n → atKey k (ms.getD i R.zero) = true) ∧ Hid (Below w.heap.size w wr)) (fun lo hi _ => (intOf hi - intOf lo).toNat)
  case atStart => exact ⟨0, n, by omega, by omega, rfl, rfl, hide (fun i hi => by omega), hide (fun i hi h2 => by omega), hide (Below.refl _ _)⟩
  case round =>
    obtain ⟨low, high, hlh, hhn, rfl, rfl, h1, h2, hbl⟩ := hrel
    by_cases hlt : (low : Int) < (high : Int)
    · obtain ⟨mid, hmid⟩ : ∃ mid : Nat, mid = low + (high - low) / 2 := ⟨_, rfl⟩
      have hm1 : low ≤ mid := by omega
      have hm2 : mid < high := by omega
      have em : (low : Int) + ((high : Int) - (low : Int)) / 2 = (mid : Int) := by omega
      have et : ((high : Int) - (low : Int)).tdiv 2 = ((high : Int) - (low : Int)) / 2 := Int.tdiv_eq_ediv_of_nonneg (by omega)
      have k0 : (0 : Int) ≤ (mid : Int) := by omega
      have k1 : (mid : Int) < (n : Int) := by omega
      have hA := ((unhide HR).below (unhide hbl)).at (i := mid) (by rw [unhide HN]; omega)
      have HC := hide ((unhide hbl).cell (p := ⟨b, 0, none⟩) hblt)
      have HP : Hid (atKey k (ms.getD mid R.zero) = true → ∀ i, mid ≤ i → i < n → atKey k (ms.getD i R.zero) = true) := hide (fun h i hi hn => by
        by_cases e : mid = i
        · subst e; exact h
        · exact unhide HUP mid i (by omega) hn h)
      have HQ : Hid (atKey k (ms.getD mid R.zero) = false → ∀ i, i < mid + 1 → atKey k (ms.getD i R.zero) = false) := hide (fun h i hi => by
        by_cases e : mid = i
        · subst e; exact h
        · cases hb : atKey k (ms.getD i R.zero)
          · rfl
          · rw [unhide HUP i mid (by omega) (by omega) hb] at h; cases h)
      clear hmid
      generalize ms.getD mid R.zero = m at *
      obtain ⟨key, til, val⟩ := m
      obtain ⟨c0, c1, c2⟩ := hA
      dsimp only at c0 c1 c2
      go_wp2_with fail
      refine (cloAt key til val k b _ ((unhide HC).trans (unhide HB))).mono ?_
      rintro e w1 ⟨rfl, b1⟩
      have hb1 := hide ((unhide hbl).trans (b1.mono (unhide hbl).size))
      clear c0 c1 c2 b1
      cases hp : atKey k ⟨key, til, val⟩
      · have HST := hide (unhide HQ hp)
        go_wp2_with fail
        exact ⟨⟨mid + 1, high, by omega, by omega, by go_num, rfl, HST, h2, hb1⟩, by simp [intOf]; omega⟩
      · have HST := hide (unhide HP hp)
        go_wp2_with fail
        exact ⟨⟨low, mid, by omega, by omega, rfl, rfl, h1, HST, hb1⟩, by simp [intOf]; omega⟩
    · obtain rfl : low = high := by omega
      have HST : Hid (placeP (atKey k) ms = low) := hide (placeP_of _ ms low (by rw [unhide HN]; omega) (unhide h1) (fun h => unhide h2 low (Nat.le_refl _) (by rw [unhide HN] at h; exact h)))
      go_wp2_with fail
      go_ret
      exact ⟨ret_int (by rw [unhide HST]), unhide hbl⟩
end St
end Go.Proofs.YtiipppfkpgbpeaaGreat
namespace Go.Proofs.YtiipppfkpgbpeaaGreat
open Go.ChangeShapes Go.WideShapes Go.ChangeAt Go.RowKit
set_option linter.unusedVariables false
set_option linter.unusedSimpArgs false
attribute [local go_sem ↓] Go.wp_at_zero Go.wp_at_succ
namespace St
open W1 Tu
theorem there_no {ms : List R} {k : Int} {p : Nat} (e : place ms k = p) (h : ms.length ≤ p) : thereB ms k = false := by unfold thereB; rw [e, decide_eq_false (by omega)]; rfl
theorem there_ne {ms : List R} {k : Int} {p : Nat} (e : place ms k = p) (h : ¬ (ms.getD p R.zero).key = k) : thereB ms k = false := by unfold thereB; rw [e, decide_eq_false h, Bool.and_false]
theorem there_yes {ms : List R} {k : Int} {p : Nat} (e : place ms k = p) (hl : p < ms.length) (h : (ms.getD p R.zero).key = k) : thereB ms k = true := by unfold thereB; rw [e, decide_eq_true hl, decide_eq_true h]; rfl
theorem sKey {w : World} {b g o : Nat} {k : Int} {m : R} (h : w.cell? ⟨b, 0, none⟩ = some (.int .i64 k)) (h' : At w g o m) : w.cell? ⟨b, 0, none⟩ = some (.int .i64 k) ∧ w.cell? ⟨g, o, none⟩ = some (.int .i64 m.key) := ⟨h, h'.1⟩
set_option maxRecDepth 100000 in
set_option maxHeartbeats 2000000 in
theorem l03Find (g off : Nat) (ms : List R) (cap : Nat) (k : Int) (w : World) (hm : ms.length ≤ 4096) (hr : RM w (some ⟨g, off, none⟩) ms) :
    Calls Tryz.prog 243 #[.slice (some ⟨g, off, none⟩) ms.length cap, .int .i64 k] w fun e w' => e = .returned (.tuple #[(if thereB ms k = true then ms.getD (place ms k) R.zero else R.zero).value, .bool (thereB ms k)]) ∧ Below w.heap.size w w' := by
  have HR := hide hr
  have hl := placeP_le (atKey k) ms
  clear hr
  have HBA : Hid (Below w.heap.size w (w.alloc (.cells #[.int .i64 0, .int .i64 0, .int .i64 0] 126))) := hide ((Below.refl _ _).alloc (Nat.le_refl _) _)
  have HRA := hide ((unhide HR).below (unhide HBA))
  obtain ⟨p, hp⟩ : ∃ p, place ms k = p := ⟨_, rfl⟩
  have HP := hide hp
  rw [show placeP (atKey k) ms = p from hp] at hl
  clear hp
  by_cases hlt : (p : Int) < (ms.length : Int)
  · have hA := (unhide HRA).at (i := p) (by omega)
    have k0 : (0 : Int) ≤ (p : Int) := by omega
    have hlen : p < ms.length := by omega
    have hne : ((p : Int) == (ms.length : Int)) = false := by simp; omega
    have hne' : ¬ p = ms.length := by omega
    by_cases hk : (ms.getD p R.zero).key = k
    · have HT := hide (there_yes (unhide HP) hlen hk)
      rw [unhide HT, unhide HP, if_pos rfl]
      generalize ms.getD p R.zero = m at *
      obtain ⟨key, til, val⟩ := m
      obtain ⟨c0, c1, c2⟩ := hA
      dsimp only at c0 c1 c2 hk
      subst hk
      go_enter Tryz.func243, Tryz.ntmps243
      go_wp2_with fail
      refine (l03Place _ ms cap _ _ hm (unhide HRA)).mono ?_
      rintro e w1 ⟨rfl, rfl⟩
      rw [unhide HP]
      go_wp2_with fail
      refine bodyPost_ret (v := .tuple #[.agg #[.int .i64 key, .int .i64 til, .int .i64 val], .bool true]) (by simp [results, Tryz.results243, go_sem]) rfl ⟨rfl, ?_⟩
      have hB := unhide HBA
      repeat (first | exact hB | exact Below.refl _ _ | refine Below.setCell ?_ (by simp) _ | refine Below.alloc ?_ (by simp) _)
    · have HT := hide (there_ne (unhide HP) hk)
      rw [unhide HT, if_neg (by simp)]
      generalize ms.getD p R.zero = m at *
      obtain ⟨key, til, val⟩ := m
      obtain ⟨c0, c1, c2⟩ := hA
      dsimp only at c0 c1 c2 hk
      have hkb : (key == k) = false := by simpa using hk
      go_enter Tryz.func243, Tryz.ntmps243
      go_wp2_with fail
      refine (l03Place _ ms cap _ _ hm (unhide HRA)).mono ?_
      rintro e w1 ⟨rfl, rfl⟩
      rw [unhide HP]
      go_wp2_with fail
      refine bodyPost_ret (v := .tuple #[.agg #[.int .i64 0, .int .i64 0, .int .i64 0], .bool false]) (by simp [results, Tryz.results243, go_sem]) rfl ⟨rfl, ?_⟩
      have hB := unhide HBA
      repeat (first | exact hB | exact Below.refl _ _ | refine Below.setCell ?_ (by simp) _ | refine Below.alloc ?_ (by simp) _)
  · obtain rfl : p = ms.length := by omega
    have HT := hide (there_no (unhide HP) (by omega))
    rw [unhide HT, if_neg (by simp)]
    go_enter Tryz.func243, Tryz.ntmps243
    go_wp2_with fail
    refine (l03Place _ ms cap _ _ hm (unhide HRA)).mono ?_
    rintro e w1 ⟨rfl, rfl⟩
    rw [unhide HP]
    go_wp2_with fail
    refine bodyPost_ret (v := .tuple #[.agg #[.int .i64 0, .int .i64 0, .int .i64 0], .bool false]) (by simp [results, Tryz.results243, go_sem]) rfl ⟨rfl, ?_⟩
    have hB := unhide HBA
    repeat (first | exact hB | exact Below.refl _ _ | refine Below.setCell ?_ (by simp) _ | refine Below.alloc ?_ (by simp) _)
end St
end Go.Proofs.YtiipppfkpgbpeaaGreat
namespace Go.Proofs.YtiipppfkpgbpeaaGreat
open Go.ChangeShapes Go.WideShapes Go.ChangeAt Go.RowKit
set_option linter.unusedVariables false
set_option linter.unusedSimpArgs false
attribute [local go_sem ↓] Go.wp_at_zero Go.wp_at_succ
namespace Tw
open W1 Tu St
set_option maxHeartbeats 400000 in
theorem l07KeyW (v a : Int) (w : World) (h0 : 0 ≤ v) (h1 : v ≤ 1000000) (h2 : 0 ≤ a) (h3 : a ≤ 1000000) : Calls Tryz.prog 240 #[.int .i64 v, .int .i64 a] w fun e w' => e = .returned (.int .i64 (100 * v + a)) ∧ w' = w := by
  go_enter Tryz.func240, Tryz.ntmps240
  go_wp2
  go_ret
  exact ⟨rfl, rfl⟩
theorem has_yes' {zs : List Int} {z : Int} {j : Nat} (hj : j < zs.length) (hk : (zs.getD j 0 == z) = true) : zs.contains z = true := has_yes hj (by simp at hk ⊢; exact hk.symm)
theorem has_succ' {zs : List Int} {z : Int} {j : Nat} (hj : j < zs.length) (h : (zs.take j).contains z = false) (hk : (zs.getD j 0 == z) = false) : (zs.take (j + 1)).contains z = false := has_succ hj h (by simp at hk ⊢; exact fun e => hk e.symm)
set_option maxHeartbeats 2000000 in
theorem l07Has (a : Option Addr) (zs : List Int) (cap : Nat) (z : Int) (w : World) (hm : zs.length ≤ 1048576) (hr : In.RM w a zs) :
    Calls Tryz.prog 142 #[.slice a zs.length cap, .int .i64 z] w fun e w' => e = .returned (.bool (zs.contains z)) ∧ w' = w := by
  have HR := hide hr
  clear hr
  obtain ⟨A, hA⟩ : ∃ A, zs.contains z = A := ⟨_, rfl⟩
  have HA := hide hA
  rw [hA]
  clear hA
  generalize hN : zs.length = n at *
  have HN := hide hN
  clear hN
  go_enter Tryz.func142, Tryz.ntmps142
  go_wp2_with fail
  go_loopw [5] (fun i wr => ∃ j : Nat, j ≤ n ∧ i = .int .i64 j ∧ Hid ((zs.take j).contains z = false) ∧ Hid (wr = w)) (fun i _ => n - (intOf i).toNat)
  case atStart => exact ⟨0, by omega, rfl, hide rfl, hide rfl⟩
  case round =>
    obtain ⟨j, hj, rfl, hno, hwr⟩ := hrel
    have HRr : Hid (In.RM wr a zs) := hide (by rw [unhide hwr]; exact unhide HR)
    by_cases hlt : (j : Int) < (n : Int)
    · have k0 : (0 : Int) ≤ (j : Int) := by omega
      have hlen : j < zs.length := by rw [unhide HN]; omega
      rcases unhide HRr with e0 | ⟨g, off, rfl, hc⟩
      · exfalso; rw [e0] at hlen; simp at hlen
      have c0 := hc j hlen
      clear hc
      have HY : Hid ((zs.getD j 0 == z) = true → A = true) := hide (fun h => by rw [← unhide HA]; exact has_yes' hlen h)
      have HZ : Hid ((zs.getD j 0 == z) = false → (zs.take (j + 1)).contains z = false) := hide (fun h => has_succ' hlen (unhide hno) h)
      generalize zs.getD j 0 = y at *
      cases hk : (y == z)
      · have HT := hide (unhide HZ hk)
        go_wp2_with fail
        go_roundw
        case rel => exact ⟨j + 1, by omega, by go_num, HT, hwr⟩
        case measure => simp [intOf]; omega
      · have HT := hide (unhide HY hk)
        go_wp2_with fail
        go_ret
        exact ⟨ret_bool (unhide HT).symm, unhide hwr⟩
    · obtain rfl : j = n := by omega
      have HT : Hid (A = false) := hide (by have := unhide hno; rw [← unhide HN, List.take_length, unhide HA] at this; exact this)
      go_wp2_with fail
      go_ret
      exact ⟨ret_bool (unhide HT).symm, unhide hwr⟩
/-- As the model asks: what is kept first. -/
theorem viaOk_m {ms : List R} (h : setB ms = true) {addr now : Int} {m : Lk.R} (ha1 : 0 ≤ addr) (ha2 : addr < 100) (hm : 1 ≤ m.ad) : viaOk (findT ms) addr now m = (keptM ms (100 * m.ad + addr) now && ((Ln.statusV m now == 2) && decide (0 < m.wl))) := by
  unfold viaOk
  rw [kept_eq h now (by omega) ha1 ha2]
  cases Ln.statusV m now == 2 <;> cases decide (0 < m.wl) <;> cases keptB (findT ms m.ad addr) now <;> rfl
set_option maxRecDepth 100000 in
set_option maxHeartbeats 4000000 in
theorem l07Via (g0 o0 : Nat) (ms : List R) (cap : Nat) (a : Option Addr) (ls : List Lk.R) (capl : Nat) (addr now : Int) (w : World) (ha1 : 1 ≤ addr) (ha2 : addr ≤ 8) (hs : setB ms = true) (hok : Ln.linksB ls = true) (hr0 : RM w (some ⟨g0, o0, none⟩) ms) (hr : Lk.RM w a ls) :
    Calls Tryz.prog 213 #[.slice (some ⟨g0, o0, none⟩) ms.length cap, .slice a ls.length capl, .int .i64 addr, .int .i64 now] w fun e w' => ∃ v, e = .returned v ∧ Below w.heap.size w w' ∧ In.LstV w' v (viaL (findT ms) ls addr now ls.length) w.heap.size w'.heap.size := by
  have HR := hide hr
  have HM := hide hr0
  have HS := hide hs
  have HOK := hide hok
  have h8 := Ln.links_len hok
  have hl64 := setB_len hs
  clear hr hr0 hs hok
  obtain ⟨f, hf⟩ : ∃ f, findT ms = f := ⟨_, rfl⟩
  have HF := hide hf
  rw [hf]
  clear hf
  have O0 := hide (In.own_empty w w.heap.size (Nat.le_refl _))
  have P0 := hide ((Below.refl w.heap.size w).alloc (Nat.le_refl _) (.cells #[] 3))
  have O1 : Hid ((w.alloc (.cells #[] 3)).ownsRow w.heap.size 3 1 (.slice (some ⟨w.heap.size, 0, none⟩) 0 0) (viaL f ls addr now 0).length (In.flat (viaL f ls addr now 0))) := O0
  clear O0
  generalize hN : ls.length = n at *
  have HN := hide hN
  clear hN
  go_enter Tryz.func213, Tryz.ntmps213
  go_wp2_with fail
  go_loopw [9, 10] (fun v i wr => ∃ j : Nat, j ≤ n ∧ i = .int .i64 j ∧ Hid (wr.ownsRow w.heap.size 3 1 v (viaL f ls addr now j).length (In.flat (viaL f ls addr now j))) ∧ Hid (Below w.heap.size w wr)) (fun _ i _ => n - (intOf i).toNat)
  case atStart => exact ⟨0, by omega, rfl, O1, P0⟩
  case round =>
    obtain ⟨j, hj, rfl, how, hbl⟩ := hrel
    by_cases hlt : (j : Int) < (n : Int)
    · have k0 : (0 : Int) ≤ (j : Int) := by omega
      have hlen : j < ls.length := by rw [unhide HN]; omega
      obtain ⟨g, off, rfl⟩ := (unhide HR).form (by omega)
      obtain ⟨c0, c1, c2, c3, c4, c5⟩ := ((unhide HR).below (unhide hbl)).at hlen
      have hbs := (unhide hbl).size
      have had := Ln.ok_ad (Ri.all_ok (unhide HOK) hlen)
      have HVO := hide (viaOk_m (now := now) (unhide HS) (addr := addr) (m := ls.getD j Lk.R.zero) (by omega) (by omega) had.1)
      rw [unhide HF] at HVO
      have HY := hide (fun (h : viaOk f addr now (ls.getD j Lk.R.zero) = true) => viaL_yes hlen h)
      have HZ := hide (fun (h : viaOk f addr now (ls.getD j Lk.R.zero) = false) => viaL_no hlen h)
      generalize ls.getD j Lk.R.zero = m at *
      have hfl := viaL_len f ls addr now j
      have HBA := hide ((unhide hbl).alloc hbs (.cells #[.int .i64 m.ad, .int .i64 m.hd, .int .i64 m.sy, .int .i64 m.ci, .int .i64 m.co, .int .i64 m.wl] 118))
      have HOA := hide ((unhide how).alloc (.cells #[.int .i64 m.ad, .int .i64 m.hd, .int .i64 m.sy, .int .i64 m.ci, .int .i64 m.co, .int .i64 m.wl] 118))
      have HMA := hide ((unhide HM).below ((unhide hbl).alloc hbs (.cells #[.int .i64 m.ad, .int .i64 m.hd, .int .i64 m.sy, .int .i64 m.ci, .int .i64 m.co, .int .i64 m.wl] 118)))
      have HX := hide (Ln.bx_new wr m 118)
      go_wp2_with fail
      generalize hW : wr.alloc (.cells #[.int .i64 m.ad, .int .i64 m.hd, .int .i64 m.sy, .int .i64 m.ci, .int .i64 m.co, .int .i64 m.wl] 118) = W0 at *
      clear hW
      refine (l07KeyW m.ad addr _ (by omega) (by omega) (by omega) (by omega)).mono ?_
      rintro e w1 ⟨rfl, hw1⟩
      rw [hw1]
      clear hw1 c0 c1 c2 c3 c4 c5
      go_wp2_with fail
      refine (l03Find g0 o0 ms cap (100 * m.ad + addr) _ (by omega) (unhide HMA)).mono ?_
      rintro e w2 ⟨rfl, b2⟩
      have HBL := hide ((unhide HBA).trans (b2.mono (unhide HBA).size))
      have HOW := hide (Ln.own_belowI (unhide HOA) b2)
      have HX2 := hide ((unhide HX).below b2)
      clear b2
      have hkm : keptM ms (100 * m.ad + addr) now = (thereB ms (100 * m.ad + addr) && decide (now < (if thereB ms (100 * m.ad + addr) = true then ms.getD (place ms (100 * m.ad + addr)) R.zero else R.zero).til)) := by
        unfold keptM
        cases thereB ms (100 * m.ad + addr) <;> rfl
      rw [hkm] at HVO
      clear hkm
      generalize thereB ms (100 * m.ad + addr) = tb at *
      generalize (if tb = true then ms.getD (place ms (100 * m.ad + addr)) R.zero else R.zero) = T at *
      obtain ⟨ke, ti, va⟩ := T
      unfold R.value
      dsimp only at HVO ⊢
      have hsw := (unhide HBL).size
      have HBT := hide ((unhide HBL).alloc hsw (.cells #[.int .i64 ke, .int .i64 ti, .int .i64 va] 126))
      have HOT := hide ((unhide HOW).alloc (.cells #[.int .i64 ke, .int .i64 ti, .int .i64 va] 126))
      have HXT := hide ((unhide HX2).below ((Below.refl _ _).alloc (Nat.le_refl _) (.cells #[.int .i64 ke, .int .i64 ti, .int .i64 va] 126)))
      have hst := (unhide HBT).size
      obtain ⟨d0, d1, d2, d3, d4, d5⟩ := unhide HXT
      have hno : viaOk f addr now m = false → Hid ((w2.alloc (.cells #[.int .i64 ke, .int .i64 ti, .int .i64 va] 126)).ownsRow w.heap.size 3 1 u9 (viaL f ls addr now (j + 1)).length (In.flat (viaL f ls addr now (j + 1)))) := fun h => hide (by rw [unhide HZ h]; exact unhide HOT)
      have HNO := hide hno
      clear hno
      cases tb
      · have HO := unhide HNO (by rw [unhide HVO]; rfl)
        go_wp2_with fail
        go_roundw
        case rel => exact ⟨j + 1, by omega, by go_num, HO, HBT⟩
        case measure => simp [intOf]; omega
      by_cases hti : now < ti
      rotate_left
      · have HO := unhide HNO (by rw [unhide HVO, decide_eq_false hti]; rfl)
        go_wp2_with fail
        go_roundw
        case rel => exact ⟨j + 1, by omega, by go_num, HO, HBT⟩
        case measure => simp [intOf]; omega
      go_wp2_with fail
      generalize hW : w2.alloc (.cells #[.int .i64 ke, .int .i64 ti, .int .i64 va] 126) = W2 at *
      clear hW
      refine (Ln.l06Status _ _ _ _ _ _ now _).mono ?_
      rintro e w3 ⟨rfl, b3⟩
      have HB3 := hide ((unhide HBT).trans (b3.mono (unhide HBT).size))
      have HO3 := hide (Ln.own_belowI (unhide HOT) b3)
      clear d0 d1 d2 d3 d4 d5
      obtain ⟨d0, d1, d2, d3, d4, d5⟩ := (unhide HXT).below b3
      have hs3 := (unhide HB3).size
      clear b3
      have e2 : Ln.statusV ⟨m.ad, m.hd, m.sy, m.ci, m.co, m.wl⟩ now = Ln.statusV m now := rfl
      rw [e2]
      clear e2
      have hno : viaOk f addr now m = false → Hid (w3.ownsRow w.heap.size 3 1 u9 (viaL f ls addr now (j + 1)).length (In.flat (viaL f ls addr now (j + 1)))) := fun h => hide (by rw [unhide HZ h]; exact unhide HO3)
      have HNO3 := hide hno
      clear hno HNO
      cases hsy : (Ln.statusV m now == 2)
      · have HO := unhide HNO3 (by rw [unhide HVO, hsy, decide_eq_true hti]; rfl)
        clear HVO HY HZ HNO3
        generalize Ln.statusV m now = sv at *
        go_wp2_with fail
        go_roundw
        case rel => exact ⟨j + 1, by omega, by go_num, HO, HB3⟩
        case measure => simp [intOf]; omega
      by_cases hwl : 0 < m.wl
      · have HTF := hide (unhide HY (by rw [unhide HVO, hsy, decide_eq_true hti, decide_eq_true hwl]; rfl))
        clear HVO HY HZ HNO3
        generalize Ln.statusV m now = sv at *
        go_wp2_with (at_builtin; refine In.wpList_apS ((unhide HO3).alloc _) w3.heap.size 0 1 1 [m.ad] rfl (In.rm_new w3 m.ad) (by simp only [List.length_cons, List.length_nil]; omega) (by simp; omega) rfl _ _ rfl rfl rfl ?_; intro v' w' ho hg; have HO : Hid (w'.ownsRow w.heap.size 3 1 v' (viaL f ls addr now (j + 1)).length (In.flat (viaL f ls addr now (j + 1)))) := hide (by rw [unhide HTF]; exact ho); have HB := hide (In.below_own ((unhide HB3).alloc hs3 _) ((unhide HO3).alloc _) hg (Nat.le_refl _) (by simp; omega)); clear ho hg)
        go_roundw
        case rel => exact ⟨j + 1, by omega, by go_num, HO, HB⟩
        case measure => simp [intOf]; omega
      · have HO := unhide HNO3 (by rw [unhide HVO, hsy, decide_eq_true hti, decide_eq_false hwl]; rfl)
        clear HVO HY HZ HNO3
        generalize Ln.statusV m now = sv at *
        go_wp2_with fail
        go_roundw
        case rel => exact ⟨j + 1, by omega, by go_num, HO, HB3⟩
        case measure => simp [intOf]; omega
    · obtain rfl : j = n := by omega
      have HL := hide (In.lst_own rfl (unhide how))
      go_wp2_with fail
      go_ret
      exact ⟨_, rfl, unhide hbl, unhide HL⟩
end Tw
end Go.Proofs.YtiipppfkpgbpeaaGreat
namespace Go.Proofs.YtiipppfkpgbpeaaGreat
open Go.ChangeShapes Go.WideShapes Go.ChangeAt Go.RowKit
set_option linter.unusedVariables false
set_option linter.unusedSimpArgs false
attribute [local go_sem ↓] Go.wp_at_zero Go.wp_at_succ
namespace Tw
open W1 Tu St
/-- append to a row of one's own: where it lies. -/
theorem wpList_apL {ops : Array Oper} {rest : List Oper} {o : Oper} {a : Act} {Q : Exit → Act → World → Prop} {w : World} {base : Nat} {v : Value} {xs : List Int} (hown : w.ownsRow base 3 1 v xs.length (In.flat xs)) (g off m c : Nat) (zs : List Int) (hm : zs.length = m) (hm0 : 0 < m) (hr : In.RM w (some ⟨g, off, none⟩) zs) (hlen : xs.length + zs.length ≤ 4194304) (hbase : base ≤ w.heap.size)
    (hgd : o.guard = none) (s x : Operand) (ho : o.op = .call { callee := .builtin .append, args := #[s, x], argTypes := #[163, 163] }) (hs : a.eval s = v) (hx : a.eval x = .slice (some ⟨g, off, none⟩) m c)
    (h : ∀ v' w', w'.ownsRow base 3 1 v' (xs ++ zs).length (In.flat (xs ++ zs)) → w.grownBy w' v.ownBlock → (v'.ownBlock = v.ownBlock ∨ v'.ownBlock = some w.heap.size) → wpList Tryz.prog ops Q rest (a.put o.dst v') w') : wpList Tryz.prog ops Q (o :: rest) a w := by
  subst hm
  obtain ⟨i0, hi, hz0, hz1, hz2⟩ := In.infoI
  refine wpList_append_lies w hgd s x _ ho base 3 i0 _ 1 8 Tryz.underlying163 hi hz0 hz1 hz2 rfl (by decide) v xs.length (In.flat xs) hs hown ⟨g, off, none⟩ zs.length c (In.flat zs) hx (In.flat_len zs) hr.cells (fun u hu => In.flat_one_cell hu) hm0 (by unfold maxLen; omega) (by omega) hbase _ rfl (fun g' cap w' h1 h2 h3 h4 => ?_)
  refine h _ w' ?_ h2 ?_
  · rw [List.length_append, In.flat_append]; exact h1
  · rcases h3 with h3 | h3
    · exact .inl h3.symm
    · exact .inr (by rw [h3]; rfl)
/-- A list beside a row of one's own. -/
def NearOk (w : World) (v : Value) (a : Option Addr) (zs : List Int) : Prop := zs = [] ∨ ∃ g off, a = some ⟨g, off, none⟩ ∧ v.ownBlock ≠ some g ∧ g < w.heap.size ∧ In.RM w a zs
theorem NearOk.rm {w : World} {v : Value} {a : Option Addr} {zs : List Int} (h : NearOk w v a zs) : In.RM w a zs := by
  rcases h with h | ⟨g, off, rfl, _, _, h⟩
  · exact .inl h
  · exact h
theorem NearOk.below {w w' : World} {v : Value} {a : Option Addr} {zs : List Int} (h : NearOk w v a zs) (hb : Below w.heap.size w w') : NearOk w' v a zs := by
  rcases h with h | ⟨g, off, rfl, h1, h2, h⟩
  · exact .inl h
  · exact .inr ⟨g, off, rfl, h1, Nat.lt_of_lt_of_le h2 hb.size, h.below hb⟩
theorem NearOk.grown {w w' : World} {v v' : Value} {a : Option Addr} {zs : List Int} (h : NearOk w v a zs) (hg : w.grownBy w' v.ownBlock) (hv : v'.ownBlock = v.ownBlock ∨ v'.ownBlock = some w.heap.size) : NearOk w' v' a zs := by
  rcases h with h | ⟨g, off, rfl, h1, h2, h⟩
  · exact .inl h
  · refine .inr ⟨g, off, rfl, ?_, Nat.lt_of_lt_of_le h2 hg.size, ?_⟩
    · rcases hv with e | e
      · rw [e]; exact h1
      · rw [e]; intro e2; cases e2; omega
    · rcases h with h | ⟨g', off', e, hc⟩
      · exact .inl h
      · cases e
        refine .inr ⟨g, off, rfl, fun i hi => ?_⟩
        exact (World.cell?_of_block (a := ⟨g, off + i, none⟩) (hg.block g h2 (fun e => h1 e.symm))).trans (hc i hi)
set_option maxRecDepth 100000 in
set_option maxHeartbeats 4000000 in
theorem l07Strict (g0 o0 : Nat) (ms : List R) (cap : Nat) (b : Option Addr) (ls : List Lk.R) (capl : Nat) (me now : Int) (w : World) (hok : twoB ms = true ∧ Ln.linksB ls = true) (hr : RM w (some ⟨g0, o0, none⟩) ms) (hr' : Lk.RM w b ls) :
    Calls Tryz.prog 212 #[.slice (some ⟨g0, o0, none⟩) ms.length cap, .slice b ls.length capl, .int .i64 me, .int .i64 now] w fun e w' => ∃ v, e = .returned v ∧ Below w.heap.size w w' ∧ In.LstV w' v (strN (condS ms ls me now) 8) w.heap.size w'.heap.size := by
  have HOK := hide hok
  obtain ⟨c, hcc⟩ : ∃ c, condS ms ls me now = c := ⟨_, rfl⟩
  have HCC : Hid (∀ x, c x = ((x != me) && (!(Ln.symN now ls ls.length).contains x && decide (0 < (viaL (findT ms) ls x now ls.length).length)))) := hide (fun x => by rw [← hcc]; rfl)
  rw [hcc]
  have h8 := Ln.links_len hok.2
  have hsl := Ln.symN_len now ls ls.length
  have HR0 := hide hr
  have HL0 := hide hr'
  clear hcc hok
  have P0 := hide ((Below.refl w.heap.size w).alloc (Nat.le_refl _) (.cells #[] 3))
  have HR := hide (hr.below (unhide P0))
  have HL := hide (hr'.below (unhide P0))
  have O1 : Hid ((w.alloc (.cells #[] 3)).ownsRow w.heap.size 3 1 (.slice (some ⟨w.heap.size, 0, none⟩) 0 0) (strN c 0).length (In.flat (strN c 0))) := hide (In.own_empty w w.heap.size (Nat.le_refl _))
  clear hr hr'
  go_enter Tryz.func212, Tryz.ntmps212
  go_wp2_with fail
  refine (Ln.l06Sym _ ls capl now _ (by omega) (unhide HL)).mono ?_
  rintro e w2 ⟨v2, rfl, b2, hl2⟩
  obtain ⟨a2, c2, rfl, l2⟩ := hl2
  have HN2 : Hid (NearOk w2 (.slice (some ⟨w.heap.size, 0, none⟩) 0 0) a2 (Ln.symN now ls ls.length)) := hide (by
    rcases l2 with e | ⟨g2, rfl, h1, h2, h3, h4⟩
    · exact .inl e
    · exact .inr ⟨g2, 0, rfl, by intro e; simp [Value.ownBlock] at e; simp at h1; omega, h3, In.rm_of h4⟩)
  have HB2 := hide ((unhide P0).trans (b2.mono (unhide P0).size))
  have O2 := hide (Ln.own_belowI (unhide O1) b2)
  clear b2 l2 P0 HR HL O1
  generalize Ln.symN now ls ls.length = zs at *
  go_wp2_with fail
  go_loopw [9, 11] (fun v i wr => ∃ j : Nat, j ≤ 8 ∧ i = .int .i64 ((j : Int) + 1) ∧ Hid (wr.ownsRow w.heap.size 3 1 v (strN c j).length (In.flat (strN c j))) ∧ Hid (Below w.heap.size w wr) ∧ Hid (NearOk wr v a2 zs)) (fun _ i _ => 9 - (intOf i).toNat)
  case atStart => exact ⟨0, by omega, rfl, O2, HB2, HN2⟩
  case round =>
    obtain ⟨j, hj, rfl, how, hbl, hnr⟩ := hrel
    have hbs := (unhide hbl).size
    have hfl := strN_len c j
    by_cases hlt : (j : Int) + 1 ≤ 8
    · have HCJ := hide (unhide HCC ((j : Int) + 1))
      have HY := hide (fun (h : c ((j : Int) + 1) = true) => strN_yes h)
      have HZ := hide (fun (h : c ((j : Int) + 1) = false) => strN_no h)
      cases hq : ((j : Int) + 1 != me)
      · have HTF := hide (unhide HZ (by rw [unhide HCJ, hq]; rfl))
        clear HY HZ HCJ
        have HO : Hid (wr.ownsRow w.heap.size 3 1 u9 (strN c (j + 1)).length (In.flat (strN c (j + 1)))) := hide (by rw [unhide HTF]; exact unhide how)
        go_wp2_with fail
        go_roundw
        case rel => exact ⟨j + 1, by omega, by go_num, HO, hbl, hnr⟩
        case measure => simp [intOf]; omega
      obtain ⟨kc, hkc⟩ : ∃ kc, zs.contains ((j : Int) + 1) = kc := ⟨_, rfl⟩
      have HKC := hide hkc
      rw [hkc, hq] at HCJ
      clear hkc
      go_wp2_with fail
      refine (l07Has a2 zs c2 ((j : Int) + 1) _ (by omega) (unhide hnr).rm).mono ?_
      rintro e w4 ⟨rfl, hw4⟩
      rw [unhide HKC, hw4]
      clear hw4
      cases kc
      rotate_left
      · have HTF := hide (unhide HZ (by rw [unhide HCJ]; rfl))
        clear HY HZ HCJ
        have HO : Hid (wr.ownsRow w.heap.size 3 1 u9 (strN c (j + 1)).length (In.flat (strN c (j + 1)))) := hide (by rw [unhide HTF]; exact unhide how)
        go_wp2_with fail
        go_roundw
        case rel => exact ⟨j + 1, by omega, by go_num, HO, hbl, hnr⟩
        case measure => simp [intOf]; omega
      have HMr := hide ((unhide HR0).below (unhide hbl))
      have HLr := hide ((unhide HL0).below (unhide hbl))
      obtain ⟨nv, hnv⟩ : ∃ nv, (viaL (findT ms) ls ((j : Int) + 1) now ls.length).length = nv := ⟨_, rfl⟩
      rw [hnv] at HCJ
      have HNV := hide hnv
      clear hnv
      go_wp2_with fail
      refine (l07Via g0 o0 ms cap _ ls capl ((j : Int) + 1) now _ (by omega) (by omega) (two_set (unhide HOK).1) (unhide HOK).2 (unhide HMr) (unhide HLr)).mono ?_
      rintro e w5 ⟨v5, rfl, b5, hl5⟩
      obtain ⟨a5, c5, rfl, l5⟩ := hl5
      rw [unhide HNV]
      have HB5 := hide ((unhide hbl).trans (b5.mono (unhide hbl).size))
      have HO5 := hide (Ln.own_belowI (unhide how) b5)
      have HN5 := hide ((unhide hnr).below b5)
      have hs5 := (unhide HB5).size
      clear b5 l5
      rcases nv with _ | nv
      rotate_left
      · have HTF := hide (unhide HY (by rw [unhide HCJ, decide_eq_true (by omega)]; rfl))
        clear HY HZ HCJ
        go_wp2_with (at_builtin; refine wpList_apL ((unhide HO5).alloc _) w5.heap.size 0 1 1 [(j : Int) + 1] rfl (by omega) (In.rm_new w5 ((j : Int) + 1)) (by simp only [List.length_cons, List.length_nil]; omega) (by simp; omega) rfl _ _ rfl rfl rfl ?_; intro v' w' ho hg hv; have HO : Hid (w'.ownsRow w.heap.size 3 1 v' (strN c (j + 1)).length (In.flat (strN c (j + 1)))) := hide (by rw [unhide HTF]; exact ho); have HB := hide (In.below_own ((unhide HB5).alloc hs5 _) ((unhide HO5).alloc _) hg (Nat.le_refl _) (by simp; omega)); have HN := hide (((unhide HN5).below ((Below.refl _ _).alloc (Nat.le_refl _) _)).grown hg hv); clear ho hg hv)
        go_roundw
        case rel => exact ⟨j + 1, by omega, by go_num, HO, HB, HN⟩
        case measure => simp [intOf]; omega
      · have HTF := hide (unhide HZ (by rw [unhide HCJ, decide_eq_false (by omega)]; rfl))
        clear HY HZ HCJ
        have HO : Hid (w5.ownsRow w.heap.size 3 1 u9 (strN c (j + 1)).length (In.flat (strN c (j + 1)))) := hide (by rw [unhide HTF]; exact unhide HO5)
        go_wp2_with fail
        go_roundw
        case rel => exact ⟨j + 1, by omega, by go_num, HO, HB5, HN5⟩
        case measure => simp [intOf]; omega
    · obtain rfl : j = 8 := by omega
      have HLs := hide (In.lst_own rfl (unhide how))
      go_wp2_with fail
      go_ret
      exact ⟨_, rfl, unhide hbl, unhide HLs⟩
end Tw
end Go.Proofs.YtiipppfkpgbpeaaGreat
