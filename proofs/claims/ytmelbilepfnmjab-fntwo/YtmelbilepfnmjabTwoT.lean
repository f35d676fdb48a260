/-
  The model's contracts of two-hop neighbors: HearTwo, TwoOf. (written by mktwot.py)
-/
import Derived.Test.YtmelbilepfnmjabTwoS
namespace Go.Proofs.Ytmelbilepfnmjab
open Go.ChangeShapes Go.WideShapes Go.ChangeAt Go.RowKit
set_option linter.unusedVariables false
set_option linter.unusedSimpArgs false
attribute [local go_sem ↓] Go.wp_at_zero Go.wp_at_succ
namespace Tw
open W1 Tu St
set_option maxRecDepth 100000 in
set_option maxHeartbeats 4000000 in
theorem specHear (a : Option Addr) (ms : List R) (cap : Nat) (me frm now : Int) (sym : Bool) (will valid : Int) (b : Option Addr) (ns : List Nb.R) (capn : Nat) (w : World) (hm : ms.length ≤ 1048576) (hnl : ns.length ≤ 1048576) (hr : RM w a ms) (hr' : Nb.RM w b ns) :
    Calls Try.prog 23 #[.slice a ms.length cap, .int .i64 me, .int .i64 frm, .int .i64 now, .bool sym, .agg #[.int .i64 will, .int .i64 valid, .slice b ns.length capn]] w fun e w' => ∃ v, e = .returned (.tuple #[v, .int .i64 (hearTE ms me frm now will valid ns)]) ∧ Below w.heap.size w w' ∧ LstV w' v (hearTA ms me frm now sym will valid ns) w.heap.size w'.heap.size := by
  have HA : Hid (Below w.heap.size w (w.alloc (.cells #[.int .i64 will, .int .i64 valid, .slice b ns.length capn] 38))) := hide ((Below.refl _ _).alloc (Nat.le_refl _) _)
  have HX : Hid (Bx3 (w.alloc (.cells #[.int .i64 will, .int .i64 valid, .slice b ns.length capn] 38)) w.heap.size will valid (.slice b ns.length capn)) := hide (bx3_new w will valid _ _)
  have HR := hide (hr.below (unhide HA))
  have HN := hide (hr'.below (unhide HA))
  clear hr hr'
  by_cases hbig : (4096 : Int) < ms.length
  · have hc := code_long (ms := ms) (by omega)
    have he : hearTE ms me frm now will valid ns = 2 := by unfold hearTE; simp [hc]
    have ha : hearTA ms me frm now sym will valid ns = [] := by unfold hearTA; rw [he]; simp
    rw [he, ha]
    clear he ha hc
    go_enter Try.func23, Try.ntmps23
    go_wp2_with fail
    go_ret2
    exact ⟨_, rfl, (unhide HA).alloc (unhide HA).size _, lstV_nil _ _ _ _ _⟩
  cases hs : twoB ms
  · have hc := code_bad (by omega) hs
    have he : hearTE ms me frm now will valid ns = 1 := by unfold hearTE hearTC; simp [hc]
    have ha : hearTA ms me frm now sym will valid ns = [] := by unfold hearTA; rw [he]; simp
    rw [he, ha]
    clear he ha
    have HS := hide hs
    clear hc hs
    go_enter Try.func23, Try.ntmps23
    go_wp2_with fail
    refine (l07OK _ ms cap _ hm (unhide HR)).mono ?_
    rintro e w1 ⟨rfl, b1⟩
    rw [unhide HS]
    have HA1 := hide ((unhide HA).trans (b1.mono (unhide HA).size))
    have HX1 := hide ((unhide HX).below b1)
    have HR1 := hide ((unhide HR).below b1)
    have HN1 := hide ((unhide HN).below b1)
    clear b1
    go_wp2_with fail
    go_ret2
    exact ⟨_, rfl, (unhide HA1).alloc (unhide HA1).size _, lstV_nil _ _ _ _ _⟩
  have hc := code_zero hs
  have HS := hide hs
  clear hs
  cases h3 : Hl.helB will valid ns
  · have H3 := hide h3
    have he : hearTE ms me frm now will valid ns = 1 := by unfold hearTE hearTC; simp [hc, h3]
    have ha : hearTA ms me frm now sym will valid ns = [] := by unfold hearTA; rw [he]; simp
    rw [he, ha]
    clear he ha
    clear hc h3
    go_enter Try.func23, Try.ntmps23
    go_wp2_with fail
    refine (l07OK _ ms cap _ hm (unhide HR)).mono ?_
    rintro e w1 ⟨rfl, b1⟩
    rw [unhide HS]
    have HA1 := hide ((unhide HA).trans (b1.mono (unhide HA).size))
    have HX1 := hide ((unhide HX).below b1)
    have HR1 := hide ((unhide HR).below b1)
    have HN1 := hide ((unhide HN).below b1)
    clear b1
    obtain ⟨z0, z1, z2⟩ := unhide HX1
    go_wp2_with fail
    refine (Hl.specOK will valid b ns capn _ hnl (unhide HN1)).mono ?_
    rintro e w2 ⟨rfl, b2⟩
    rw [unhide H3]
    clear z0 z1 z2
    have HA2 := hide ((unhide HA1).trans (b2.mono (unhide HA1).size))
    have HX2 := hide ((unhide HX1).below b2)
    have HR2 := hide ((unhide HR1).below b2)
    have HN2 := hide ((unhide HN1).below b2)
    clear b2
    obtain ⟨z0, z1, z2⟩ := unhide HX2
    go_wp2_with (first | (go_at_call 44; refine (l01Addr _ _).mono ?_; rintro e w' ⟨rfl, rfl⟩) | (go_at_call 46; refine (l01In _ _ _ _).mono ?_; rintro e w' ⟨rfl, rfl⟩))
    go_ret2
    exact ⟨_, rfl, (unhide HA2).alloc (unhide HA2).size _, lstV_nil _ _ _ _ _⟩
  have H3 := hide h3
  cases h1 : inB me 1 8
  · skip
    have he : hearTE ms me frm now will valid ns = 1 := by unfold hearTE hearTC; simp [hc, h1]
    have ha : hearTA ms me frm now sym will valid ns = [] := by unfold hearTA; rw [he]; simp
    rw [he, ha]
    clear he ha
    clear hc h3
    go_enter Try.func23, Try.ntmps23
    go_wp2_with fail
    refine (l07OK _ ms cap _ hm (unhide HR)).mono ?_
    rintro e w1 ⟨rfl, b1⟩
    rw [unhide HS]
    have HA1 := hide ((unhide HA).trans (b1.mono (unhide HA).size))
    have HX1 := hide ((unhide HX).below b1)
    have HR1 := hide ((unhide HR).below b1)
    have HN1 := hide ((unhide HN).below b1)
    clear b1
    obtain ⟨z0, z1, z2⟩ := unhide HX1
    go_wp2_with fail
    refine (Hl.specOK will valid b ns capn _ hnl (unhide HN1)).mono ?_
    rintro e w2 ⟨rfl, b2⟩
    rw [unhide H3]
    clear z0 z1 z2
    have HA2 := hide ((unhide HA1).trans (b2.mono (unhide HA1).size))
    have HX2 := hide ((unhide HX1).below b2)
    have HR2 := hide ((unhide HR1).below b2)
    have HN2 := hide ((unhide HN1).below b2)
    clear b2
    obtain ⟨z0, z1, z2⟩ := unhide HX2
    go_wp2_with (first | (go_at_call 44; refine (l01Addr _ _).mono ?_; rintro e w' ⟨rfl, rfl⟩) | (go_at_call 46; refine (l01In _ _ _ _).mono ?_; rintro e w' ⟨rfl, rfl⟩))
    go_ret2
    exact ⟨_, rfl, (unhide HA2).alloc (unhide HA2).size _, lstV_nil _ _ _ _ _⟩
  cases h2 : inB frm 1 8
  · skip
    have he : hearTE ms me frm now will valid ns = 1 := by unfold hearTE hearTC; simp [hc, h1, h2]
    have ha : hearTA ms me frm now sym will valid ns = [] := by unfold hearTA; rw [he]; simp
    rw [he, ha]
    clear he ha
    clear hc h3
    go_enter Try.func23, Try.ntmps23
    go_wp2_with fail
    refine (l07OK _ ms cap _ hm (unhide HR)).mono ?_
    rintro e w1 ⟨rfl, b1⟩
    rw [unhide HS]
    have HA1 := hide ((unhide HA).trans (b1.mono (unhide HA).size))
    have HX1 := hide ((unhide HX).below b1)
    have HR1 := hide ((unhide HR).below b1)
    have HN1 := hide ((unhide HN).below b1)
    clear b1
    obtain ⟨z0, z1, z2⟩ := unhide HX1
    go_wp2_with fail
    refine (Hl.specOK will valid b ns capn _ hnl (unhide HN1)).mono ?_
    rintro e w2 ⟨rfl, b2⟩
    rw [unhide H3]
    clear z0 z1 z2
    have HA2 := hide ((unhide HA1).trans (b2.mono (unhide HA1).size))
    have HX2 := hide ((unhide HX1).below b2)
    have HR2 := hide ((unhide HR1).below b2)
    have HN2 := hide ((unhide HN1).below b2)
    clear b2
    obtain ⟨z0, z1, z2⟩ := unhide HX2
    go_wp2_with (first | (go_at_call 44; refine (l01Addr _ _).mono ?_; rintro e w' ⟨rfl, rfl⟩) | (go_at_call 46; refine (l01In _ _ _ _).mono ?_; rintro e w' ⟨rfl, rfl⟩))
    go_ret2
    exact ⟨_, rfl, (unhide HA2).alloc (unhide HA2).size _, lstV_nil _ _ _ _ _⟩
  cases h4 : inB now 0 1000000
  · skip
    have he : hearTE ms me frm now will valid ns = 4 := by unfold hearTE hearTC; simp [hc, h1, h2, h3, h4]
    have ha : hearTA ms me frm now sym will valid ns = [] := by unfold hearTA; rw [he]; simp
    rw [he, ha]
    clear he ha
    clear hc h3
    go_enter Try.func23, Try.ntmps23
    go_wp2_with fail
    refine (l07OK _ ms cap _ hm (unhide HR)).mono ?_
    rintro e w1 ⟨rfl, b1⟩
    rw [unhide HS]
    have HA1 := hide ((unhide HA).trans (b1.mono (unhide HA).size))
    have HX1 := hide ((unhide HX).below b1)
    have HR1 := hide ((unhide HR).below b1)
    have HN1 := hide ((unhide HN).below b1)
    clear b1
    obtain ⟨z0, z1, z2⟩ := unhide HX1
    go_wp2_with fail
    refine (Hl.specOK will valid b ns capn _ hnl (unhide HN1)).mono ?_
    rintro e w2 ⟨rfl, b2⟩
    rw [unhide H3]
    clear z0 z1 z2
    have HA2 := hide ((unhide HA1).trans (b2.mono (unhide HA1).size))
    have HX2 := hide ((unhide HX1).below b2)
    have HR2 := hide ((unhide HR1).below b2)
    have HN2 := hide ((unhide HN1).below b2)
    clear b2
    obtain ⟨z0, z1, z2⟩ := unhide HX2
    go_wp2_with (first | (go_at_call 44; refine (l01Addr _ _).mono ?_; rintro e w' ⟨rfl, rfl⟩) | (go_at_call 46; refine (l01In _ _ _ _).mono ?_; rintro e w' ⟨rfl, rfl⟩))
    go_ret2
    exact ⟨_, rfl, (unhide HA2).alloc (unhide HA2).size _, lstV_nil _ _ _ _ _⟩
  have hf : 1 ≤ frm ∧ frm ≤ 8 := by simpa [inB] using h2
  have hn : 0 ≤ now ∧ now ≤ 1000000 := by simpa [inB] using h4
  have he : hearTE ms me frm now will valid ns = 0 := by unfold hearTE hearTC; simp [hc, h1, h2, h3, h4]
  have ha : hearTA ms me frm now sym will valid ns = hearTL ms me frm now sym valid ns := by unfold hearTA; rw [he]; simp
  rw [he, ha]
  clear he ha
  clear hc h3
  go_enter Try.func23, Try.ntmps23
  go_wp2_with fail
  refine (l07OK _ ms cap _ hm (unhide HR)).mono ?_
  rintro e w1 ⟨rfl, b1⟩
  rw [unhide HS]
  have HA1 := hide ((unhide HA).trans (b1.mono (unhide HA).size))
  have HX1 := hide ((unhide HX).below b1)
  have HR1 := hide ((unhide HR).below b1)
  have HN1 := hide ((unhide HN).below b1)
  clear b1
  obtain ⟨z0, z1, z2⟩ := unhide HX1
  go_wp2_with fail
  refine (Hl.specOK will valid b ns capn _ hnl (unhide HN1)).mono ?_
  rintro e w2 ⟨rfl, b2⟩
  rw [unhide H3]
  clear z0 z1 z2
  have HA2 := hide ((unhide HA1).trans (b2.mono (unhide HA1).size))
  have HX2 := hide ((unhide HX1).below b2)
  have HR2 := hide ((unhide HR1).below b2)
  have HN2 := hide ((unhide HN1).below b2)
  clear b2
  obtain ⟨z0, z1, z2⟩ := unhide HX2
  go_wp2_with (first | (go_at_call 44; refine (l01Addr _ _).mono ?_; rintro e w' ⟨rfl, rfl⟩) | (go_at_call 46; refine (l01In _ _ _ _).mono ?_; rintro e w' ⟨rfl, rfl⟩))
  clear z0 z1 z2
  refine (l07Hear _ ms cap me frm now sym will valid b ns capn _ (unhide HS) hf hn (unhide H3) (unhide HR2) (unhide HN2)).mono ?_
  rintro e w3 ⟨v, rfl, b3, hl3⟩
  have HA3 := hide ((unhide HA2).trans (b3.mono (unhide HA2).size))
  have HL3 := hide (hl3.mono (lo' := w.heap.size) (unhide HA2).size (Nat.le_refl _))
  clear b3 hl3
  go_wp2_with fail
  go_ret2
  exact ⟨_, rfl, unhide HA3, unhide HL3⟩
end Tw
end Go.Proofs.Ytmelbilepfnmjab
