/-
  The model's contracts of two-hop neighbors: HearTwo, TwoOf. (written by mktwot.py)
-/
import Derived.Test.YtpknahhdapmcoanTwoS
namespace Go.Proofs.Ytpknahhdapmcoan
open Go.ChangeShapes Go.WideShapes Go.ChangeAt Go.RowKit
set_option linter.unusedVariables false
set_option linter.unusedSimpArgs false
attribute [local go_sem ↓] Go.wp_at_zero Go.wp_at_succ
namespace Tw
open W1 Tu St
set_option maxRecDepth 100000 in
set_option maxHeartbeats 4000000 in
theorem specHear (a : Option Addr) (ms : List R) (cap : Nat) (me frm now : Int) (sym : Bool) (will valid : Int) (b : Option Addr) (ns : List Nb.R) (capn : Nat) (w : World) (hm : ms.length ≤ 1048576) (hnl : ns.length ≤ 1048576) (hr : RM w a ms) (hr' : Nb.RM w b ns) :
    Calls Try.prog 9 #[.slice a ms.length cap, .int .i64 me, .int .i64 frm, .int .i64 now, .bool sym, .agg #[.int .i64 will, .int .i64 valid, .slice b ns.length capn]] w fun e w' => ∃ v, e = .returned (.tuple #[v, .int .i64 (hearTE ms me frm now will valid ns)]) ∧ Below w.heap.size w w' ∧ LstV w' v (hearTA ms me frm now sym will valid ns) w.heap.size w'.heap.size := by
  have HA : Hid (Below w.heap.size w (w.alloc (.cells #[.int .i64 will, .int .i64 valid, .slice b ns.length capn] 34))) := hide ((Below.refl _ _).alloc (Nat.le_refl _) _)
  have HX : Hid (Bx3 (w.alloc (.cells #[.int .i64 will, .int .i64 valid, .slice b ns.length capn] 34)) w.heap.size will valid (.slice b ns.length capn)) := hide (bx3_new w will valid _ _)
  have HR := hide (hr.below (unhide HA))
  have HN := hide (hr'.below (unhide HA))
  clear hr hr'
  by_cases hbig : (4096 : Int) < ms.length
  · have hc := code_long (ms := ms) (by omega)
    have he : hearTE ms me frm now will valid ns = 2 := by unfold hearTE; simp [hc]
    have ha : hearTA ms me frm now sym will valid ns = [] := by unfold hearTA; rw [he]; simp
    rw [he, ha]
    clear he ha hc
    go_enter Try.func9, Try.ntmps9
    go_wp2_with fail
    go_ret2
    exact ⟨_, rfl, (unhide HA).alloc (unhide HA).size _, lstV_nil _ _ _ _ _⟩
  cases hs : twoB ms
  · have hc := code_bad (by omega) hs
    have he : hearTE ms me frm now will valid ns = 1 := by unfold hearTE hearTC; simp [hc]
    have ha : hearTA ms me frm now sym will valid ns = [] := by unfold hearTA; rw [he]; simp
    rw [he, ha]
    clear he ha
    have HS := hide hs
    clear hc hs
    go_enter Try.func9, Try.ntmps9
    go_wp2_with fail
    refine (l07OK _ ms cap _ hm (unhide HR)).mono ?_
    rintro e w1 ⟨rfl, b1⟩
    rw [unhide HS]
    have HA1 := hide ((unhide HA).trans (b1.mono (unhide HA).size))
    have HX1 := hide ((unhide HX).below b1)
    have HR1 := hide ((unhide HR).below b1)
    have HN1 := hide ((unhide HN).below b1)
    clear b1
    go_wp2_with fail
    go_ret2
    exact ⟨_, rfl, (unhide HA1).alloc (unhide HA1).size _, lstV_nil _ _ _ _ _⟩
  have hc := code_zero hs
  have HS := hide hs
  clear hs
  cases h3 : Hl.helB will valid ns
  · have H3 := hide h3
    have he : hearTE ms me frm now will valid ns = 1 := by unfold hearTE hearTC; simp [hc, h3]
    have ha : hearTA ms me frm now sym will valid ns = [] := by unfold hearTA; rw [he]; simp
    rw [he, ha]
    clear he ha
    clear hc h3
    go_enter Try.func9, Try.ntmps9
    go_wp2_with fail
    refine (l07OK _ ms cap _ hm (unhide HR)).mono ?_
    rintro e w1 ⟨rfl, b1⟩
    rw [unhide HS]
    have HA1 := hide ((unhide HA).trans (b1.mono (unhide HA).size))
    have HX1 := hide ((unhide HX).below b1)
    have HR1 := hide ((unhide HR).below b1)
    have HN1 := hide ((unhide HN).below b1)
    clear b1
    obtain ⟨z0, z1, z2⟩ := unhide HX1
    go_wp2_with fail
    refine (Hl.specOK will valid b ns capn _ hnl (unhide HN1)).mono ?_
    rintro e w2 ⟨rfl, b2⟩
    rw [unhide H3]
    clear z0 z1 z2
    have HA2 := hide ((unhide HA1).trans (b2.mono (unhide HA1).size))
    have HX2 := hide ((unhide HX1).below b2)
    have HR2 := hide ((unhide HR1).below b2)
    have HN2 := hide ((unhide HN1).below b2)
    clear b2
    obtain ⟨z0, z1, z2⟩ := unhide HX2
    go_wp2_with (first | (go_at_call 34; refine (l01Addr _ _).mono ?_; rintro e w' ⟨rfl, rfl⟩) | (go_at_call 35; refine (l01In _ _ _ _).mono ?_; rintro e w' ⟨rfl, rfl⟩))
    go_ret2
    exact ⟨_, rfl, (unhide HA2).alloc (unhide HA2).size _, lstV_nil _ _ _ _ _⟩
  have H3 := hide h3
  cases h1 : inB me 1 8
  · skip
    have he : hearTE ms me frm now will valid ns = 1 := by unfold hearTE hearTC; simp [hc, h1]
    have ha : hearTA ms me frm now sym will valid ns = [] := by unfold hearTA; rw [he]; simp
    rw [he, ha]
    clear he ha
    clear hc h3
    go_enter Try.func9, Try.ntmps9
    go_wp2_with fail
    refine (l07OK _ ms cap _ hm (unhide HR)).mono ?_
    rintro e w1 ⟨rfl, b1⟩
    rw [unhide HS]
    have HA1 := hide ((unhide HA).trans (b1.mono (unhide HA).size))
    have HX1 := hide ((unhide HX).below b1)
    have HR1 := hide ((unhide HR).below b1)
    have HN1 := hide ((unhide HN).below b1)
    clear b1
    obtain ⟨z0, z1, z2⟩ := unhide HX1
    go_wp2_with fail
    refine (Hl.specOK will valid b ns capn _ hnl (unhide HN1)).mono ?_
    rintro e w2 ⟨rfl, b2⟩
    rw [unhide H3]
    clear z0 z1 z2
    have HA2 := hide ((unhide HA1).trans (b2.mono (unhide HA1).size))
    have HX2 := hide ((unhide HX1).below b2)
    have HR2 := hide ((unhide HR1).below b2)
    have HN2 := hide ((unhide HN1).below b2)
    clear b2
    obtain ⟨z0, z1, z2⟩ := unhide HX2
    go_wp2_with (first | (go_at_call 34; refine (l01Addr _ _).mono ?_; rintro e w' ⟨rfl, rfl⟩) | (go_at_call 35; refine (l01In _ _ _ _).mono ?_; rintro e w' ⟨rfl, rfl⟩))
    go_ret2
    exact ⟨_, rfl, (unhide HA2).alloc (unhide HA2).size _, lstV_nil _ _ _ _ _⟩
  cases h2 : inB frm 1 8
  · skip
    have he : hearTE ms me frm now will valid ns = 1 := by unfold hearTE hearTC; simp [hc, h1, h2]
    have ha : hearTA ms me frm now sym will valid ns = [] := by unfold hearTA; rw [he]; simp
    rw [he, ha]
    clear he ha
    clear hc h3
    go_enter Try.func9, Try.ntmps9
    go_wp2_with fail
    refine (l07OK _ ms cap _ hm (unhide HR)).mono ?_
    rintro e w1 ⟨rfl, b1⟩
    rw [unhide HS]
    have HA1 := hide ((unhide HA).trans (b1.mono (unhide HA).size))
    have HX1 := hide ((unhide HX).below b1)
    have HR1 := hide ((unhide HR).below b1)
    have HN1 := hide ((unhide HN).below b1)
    clear b1
    obtain ⟨z0, z1, z2⟩ := unhide HX1
    go_wp2_with fail
    refine (Hl.specOK will valid b ns capn _ hnl (unhide HN1)).mono ?_
    rintro e w2 ⟨rfl, b2⟩
    rw [unhide H3]
    clear z0 z1 z2
    have HA2 := hide ((unhide HA1).trans (b2.mono (unhide HA1).size))
    have HX2 := hide ((unhide HX1).below b2)
    have HR2 := hide ((unhide HR1).below b2)
    have HN2 := hide ((unhide HN1).below b2)
    clear b2
    obtain ⟨z0, z1, z2⟩ := unhide HX2
    go_wp2_with (first | (go_at_call 34; refine (l01Addr _ _).mono ?_; rintro e w' ⟨rfl, rfl⟩) | (go_at_call 35; refine (l01In _ _ _ _).mono ?_; rintro e w' ⟨rfl, rfl⟩))
    go_ret2
    exact ⟨_, rfl, (unhide HA2).alloc (unhide HA2).size _, lstV_nil _ _ _ _ _⟩
  cases h4 : inB now 0 1000000
  · skip
    have he : hearTE ms me frm now will valid ns = 4 := by unfold hearTE hearTC; simp [hc, h1, h2, h3, h4]
    have ha : hearTA ms me frm now sym will valid ns = [] := by unfold hearTA; rw [he]; simp
    rw [he, ha]
    clear he ha
    clear hc h3
    go_enter Try.func9, Try.ntmps9
    go_wp2_with fail
    refine (l07OK _ ms cap _ hm (unhide HR)).mono ?_
    rintro e w1 ⟨rfl, b1⟩
    rw [unhide HS]
    have HA1 := hide ((unhide HA).trans (b1.mono (unhide HA).size))
    have HX1 := hide ((unhide HX).below b1)
    have HR1 := hide ((unhide HR).below b1)
    have HN1 := hide ((unhide HN).below b1)
    clear b1
    obtain ⟨z0, z1, z2⟩ := unhide HX1
    go_wp2_with fail
    refine (Hl.specOK will valid b ns capn _ hnl (unhide HN1)).mono ?_
    rintro e w2 ⟨rfl, b2⟩
    rw [unhide H3]
    clear z0 z1 z2
    have HA2 := hide ((unhide HA1).trans (b2.mono (unhide HA1).size))
    have HX2 := hide ((unhide HX1).below b2)
    have HR2 := hide ((unhide HR1).below b2)
    have HN2 := hide ((unhide HN1).below b2)
    clear b2
    obtain ⟨z0, z1, z2⟩ := unhide HX2
    go_wp2_with (first | (go_at_call 34; refine (l01Addr _ _).mono ?_; rintro e w' ⟨rfl, rfl⟩) | (go_at_call 35; refine (l01In _ _ _ _).mono ?_; rintro e w' ⟨rfl, rfl⟩))
    go_ret2
    exact ⟨_, rfl, (unhide HA2).alloc (unhide HA2).size _, lstV_nil _ _ _ _ _⟩
  have hf : 1 ≤ frm ∧ frm ≤ 8 := by simpa [inB] using h2
  have hn : 0 ≤ now ∧ now ≤ 1000000 := by simpa [inB] using h4
  have he : hearTE ms me frm now will valid ns = 0 := by unfold hearTE hearTC; simp [hc, h1, h2, h3, h4]
  have ha : hearTA ms me frm now sym will valid ns = hearTL ms me frm now sym valid ns := by unfold hearTA; rw [he]; simp
  rw [he, ha]
  clear he ha
  clear hc h3
  go_enter Try.func9, Try.ntmps9
  go_wp2_with fail
  refine (l07OK _ ms cap _ hm (unhide HR)).mono ?_
  rintro e w1 ⟨rfl, b1⟩
  rw [unhide HS]
  have HA1 := hide ((unhide HA).trans (b1.mono (unhide HA).size))
  have HX1 := hide ((unhide HX).below b1)
  have HR1 := hide ((unhide HR).below b1)
  have HN1 := hide ((unhide HN).below b1)
  clear b1
  obtain ⟨z0, z1, z2⟩ := unhide HX1
  go_wp2_with fail
  refine (Hl.specOK will valid b ns capn _ hnl (unhide HN1)).mono ?_
  rintro e w2 ⟨rfl, b2⟩
  rw [unhide H3]
  clear z0 z1 z2
  have HA2 := hide ((unhide HA1).trans (b2.mono (unhide HA1).size))
  have HX2 := hide ((unhide HX1).below b2)
  have HR2 := hide ((unhide HR1).below b2)
  have HN2 := hide ((unhide HN1).below b2)
  clear b2
  obtain ⟨z0, z1, z2⟩ := unhide HX2
  go_wp2_with (first | (go_at_call 34; refine (l01Addr _ _).mono ?_; rintro e w' ⟨rfl, rfl⟩) | (go_at_call 35; refine (l01In _ _ _ _).mono ?_; rintro e w' ⟨rfl, rfl⟩))
  clear z0 z1 z2
  refine (l07Hear _ ms cap me frm now sym will valid b ns capn _ (unhide HS) hf hn (unhide H3) (unhide HR2) (unhide HN2)).mono ?_
  rintro e w3 ⟨v, rfl, b3, hl3⟩
  have HA3 := hide ((unhide HA2).trans (b3.mono (unhide HA2).size))
  have HL3 := hide (hl3.mono (lo' := w.heap.size) (unhide HA2).size (Nat.le_refl _))
  clear b3 hl3
  go_wp2_with fail
  go_ret2
  exact ⟨_, rfl, unhide HA3, unhide HL3⟩
set_option maxRecDepth 100000 in
set_option maxHeartbeats 4000000 in
theorem specTwoOf (a : Option Addr) (ms : List R) (cap : Nat) (via : Int) (w : World) (hm : ms.length ≤ 1048576) (hr : RM w a ms) :
    Calls Try.prog 18 #[.slice a ms.length cap, .int .i64 via] w fun e w' => ∃ v, e = .returned (.tuple #[v, .int .i64 (codeT ms)]) ∧ Below w.heap.size w w' ∧ In.LstV w' v (twoA ms via) w.heap.size w'.heap.size := by
  have HR := hide hr
  clear hr
  by_cases hbig : (4096 : Int) < ms.length
  · have hc := code_long (ms := ms) (by omega)
    have ha : twoA ms via = [] := by unfold twoA; rw [hc]; simp
    rw [hc, ha]
    clear hc ha
    go_enter Try.func18, Try.ntmps18
    go_wp2_with fail
    go_ret2
    exact ⟨_, rfl, (Below.refl _ _).alloc (Nat.le_refl _) _, In.lstV_nil _ _ _ _ _⟩
  cases hs : twoB ms
  · have hc := code_bad (by omega) hs
    have ha : twoA ms via = [] := by unfold twoA; rw [hc]; simp
    rw [hc, ha]
    have HS := hide hs
    clear hc ha hs
    go_enter Try.func18, Try.ntmps18
    go_wp2_with fail
    refine (l07OK _ ms cap _ hm (unhide HR)).mono ?_
    rintro e w1 ⟨rfl, b1⟩
    rw [unhide HS]
    have HA1 := hide b1
    clear b1
    go_wp2_with fail
    go_ret2
    exact ⟨_, rfl, (unhide HA1).alloc (unhide HA1).size _, In.lstV_nil _ _ _ _ _⟩
  have hc := code_zero hs
  have ha : twoA ms via = viaN via ms ms.length := by unfold twoA viaN; rw [if_pos hc, List.take_length]
  rw [hc, ha]
  have HS := hide hs
  have hl62 := two_len hs
  clear hc ha hs
  generalize hN : ms.length = n at *
  have HN := hide hN
  clear hN
  go_enter Try.func18, Try.ntmps18
  go_wp2_with fail
  rw [← unhide HN]
  refine (l07OK _ ms cap _ (by have := unhide HN; omega) (unhide HR)).mono ?_
  rintro e w1 ⟨rfl, b1⟩
  rw [unhide HS]
  have HA1 := hide b1
  have HR1 := hide ((unhide HR).below b1)
  have hsz := b1.size
  have O0 := hide (In.own_empty w1 w.heap.size hsz)
  have P0 := hide (b1.alloc hsz (.cells #[] 3))
  clear b1
  go_wp2_with fail
  rw [unhide HN]
  go_loopw [6, 7] (fun v i wr => ∃ j : Nat, j ≤ n ∧ i = .int .i64 j ∧ Hid (wr.ownsRow w.heap.size 3 1 v (viaN via ms j).length (In.flat (viaN via ms j))) ∧ Hid (Below w.heap.size w wr)) (fun _ i _ => n - (intOf i).toNat)
  case atStart => exact ⟨0, by omega, rfl, O0, P0⟩
  case round =>
    obtain ⟨j, hj, rfl, how, hbl⟩ := hrel
    by_cases hlt : (j : Int) < (n : Int)
    · have k0 : (0 : Int) ≤ (j : Int) := by omega
      have hlen : j < ms.length := by rw [unhide HN]; omega
      obtain ⟨g, off, rfl⟩ := (unhide HR).form (by omega)
      obtain ⟨c0, c1, c2⟩ := ((unhide HR).below (unhide hbl)).at hlen
      have hbs := (unhide hbl).size
      have hfl := viaN_len via ms j
      have hbd := ok_bounds (setB_ok (two_set (unhide HS)) hlen)
      have HY := hide (fun (h : isVia via (ms.getD j R.zero) = true) => viaN_yes hlen h)
      have HZ := hide (fun (h : isVia via (ms.getD j R.zero) = false) => viaN_no hlen h)
      generalize ms.getD j R.zero = m at *
      have e1 : m.key.tdiv 100 = m.key / 100 := Int.tdiv_eq_ediv_of_nonneg (by omega)
      have e2 : m.key.tmod 100 = m.key % 100 := Int.tmod_eq_emod_of_nonneg (by omega)
      have hvm : isVia via m = (m.key / 100 == via) := by unfold isVia hv; rw [e1]
      have ham : ha m = m.key % 100 := e2
      rw [ham] at HY
      clear e1 e2 ham
      cases hk : (m.key / 100 == via)
      · have HTF := hide (unhide HZ (hvm.trans hk))
        clear HY HZ hvm
        have HO : Hid (wr.ownsRow w.heap.size 3 1 u6 (viaN via ms (j + 1)).length (In.flat (viaN via ms (j + 1)))) := hide (by rw [unhide HTF]; exact unhide how)
        go_wp2_with fail
        go_roundw
        case rel => exact ⟨j + 1, by omega, by go_num, HO, hbl⟩
        case measure => simp [intOf]; omega
      · have HTF := hide (unhide HY (hvm.trans hk))
        clear HY HZ hvm
        go_wp2_with (at_builtin; refine In.wpList_apS ((unhide how).alloc _) wr.heap.size 0 1 1 [m.key % 100] rfl (In.rm_new wr (m.key % 100)) (by simp only [List.length_cons, List.length_nil]; omega) (by simp; omega) rfl _ _ rfl rfl rfl ?_; intro v' w' ho hg; have HO : Hid (w'.ownsRow w.heap.size 3 1 v' (viaN via ms (j + 1)).length (In.flat (viaN via ms (j + 1)))) := hide (by rw [unhide HTF]; exact ho); have HB := hide (In.below_own ((unhide hbl).alloc hbs _) ((unhide how).alloc _) hg (Nat.le_refl _) (by simp; omega)); clear ho hg)
        go_roundw
        case rel => exact ⟨j + 1, by omega, by go_num, HO, HB⟩
        case measure => simp [intOf]; omega
    · obtain rfl : j = n := by omega
      have HL := hide (In.lst_own rfl (unhide how))
      go_wp2_with fail
      go_ret2
      exact ⟨_, rfl, unhide hbl, unhide HL⟩
end Tw
end Go.Proofs.Ytpknahhdapmcoan
