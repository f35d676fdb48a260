/-
  The program's contracts of two-hop neighbors: HearTwo and its code, TwoOf.
-/
import Derived.Test.YtmelbilepfnmjabTwoL
import Derived.Test.YtmelbilepfnmjabHelC
import Derived.Test.YtmelbilepfnmjabInts
import Derived.Test.YtmelbilepfnmjabLnkM
namespace Go.Proofs.Ytmelbilepfnmjab
open Go.ChangeShapes Go.WideShapes Go.ChangeAt Go.RowKit
set_option linter.unusedVariables false
set_option linter.unusedSimpArgs false
attribute [local go_sem ↓] Go.wp_at_zero Go.wp_at_succ
namespace Tw
open W1 Tu St Mt
/-- The code of a hello that is heard; what HearTwo answers. -/
def hearTC (me frm now will valid : Int) (ns : List Nb.R) : Int :=
  if (inB me 1 8 && (inB frm 1 8 && Hl.helB will valid ns)) = true then (if inB now 0 1000000 = true then 0 else 4) else 1
def hearTE (ms : List R) (me frm now will valid : Int) (ns : List Nb.R) : Int := if codeT ms = 0 then hearTC me frm now will valid ns else codeT ms
def hearTL (ms : List R) (me frm now : Int) (sym : Bool) (valid : Int) (ns : List Nb.R) : List R :=
  if sym = true then learnL (ms.filter (keepF frm)) me frm now valid ns ns.length else ms.filter (keepF frm)
def hearTA (ms : List R) (me frm now : Int) (sym : Bool) (will valid : Int) (ns : List Nb.R) : List R := if hearTE ms me frm now will valid ns = 0 then hearTL ms me frm now sym valid ns else []
theorem hearTC_ok {me frm now will valid : Int} {ns : List Nb.R} (h : hearTC me frm now will valid ns = 0) : (1 ≤ me ∧ me ≤ 8) ∧ (1 ≤ frm ∧ frm ≤ 8) ∧ Hl.helB will valid ns = true ∧ 0 ≤ now ∧ now ≤ 1000000 := by
  unfold hearTC at h
  split at h
  · rename_i h1
    split at h
    · rename_i h2
      simp [inB] at h1 h2
      exact ⟨h1.1, h1.2.1, h1.2.2, h2⟩
    · omega
  · omega
theorem hearT_two {ms : List R} {me frm now will valid : Int} {sym : Bool} {ns : List Nb.R} (h : twoB ms = true) (hc : hearTC me frm now will valid ns = 0) : twoB (hearTL ms me frm now sym valid ns) = true := by
  obtain ⟨_, hf, hh, hn⟩ := hearTC_ok hc
  unfold hearTL
  split
  · exact learn_two (two_filter h _) hf hn (Hl.hel_valid hh) (Hl.hel_all hh) _ (Nat.le_refl _)
  · exact two_filter h _
theorem hearT_len (ms : List R) (me frm now : Int) (sym : Bool) (will valid : Int) (ns : List Nb.R) : (hearTA ms me frm now sym will valid ns).length ≤ 62 := by
  unfold hearTA
  split
  · rename_i h
    unfold hearTE at h
    split at h
    · rename_i h2; exact two_len (hearT_two (code_two h2) h)
    · rename_i h2; exact absurd h h2
  · simp
set_option maxRecDepth 100000 in
set_option maxHeartbeats 2000000 in
theorem hearTwoCode (me frm now will valid : Int) (b : Option Addr) (ns : List Nb.R) (capn : Nat) (w : World) (hm : ns.length ≤ 1048576) (hr : Nb.RM w b ns) :
    Calls Try.prog 56 #[.int .i64 me, .int .i64 frm, .int .i64 now, .agg #[.int .i64 will, .int .i64 valid, .slice b ns.length capn]] w fun e w' => e = .returned (.int .i64 (hearTC me frm now will valid ns)) ∧ Below w.heap.size w w' := by
  have HA : Hid (Below w.heap.size w (w.alloc (.cells #[.int .i64 will, .int .i64 valid, .slice b ns.length capn] 38))) := hide ((Below.refl _ _).alloc (Nat.le_refl _) _)
  have HR := hide (hr.below (unhide HA))
  clear hr
  cases h1 : inB me 1 8
  · have HE : Hid (hearTC me frm now will valid ns = 1) := hide (by unfold hearTC; rw [h1]; rfl)
    go_enter Try.func56, Try.ntmps56
    go_wp2_with (first | (go_at_call 71; refine (isAddress _ _).mono ?_; rintro e w' ⟨rfl, rfl⟩) | (go_at_call 73; refine (Ln.isNow _ _).mono ?_; rintro e w' ⟨rfl, rfl⟩))
    go_ret
    exact ⟨ret_int (unhide HE).symm, unhide HA⟩
  cases h2 : inB frm 1 8
  · have HE : Hid (hearTC me frm now will valid ns = 1) := hide (by unfold hearTC; rw [h1, h2]; rfl)
    go_enter Try.func56, Try.ntmps56
    go_wp2_with (first | (go_at_call 71; refine (isAddress _ _).mono ?_; rintro e w' ⟨rfl, rfl⟩) | (go_at_call 73; refine (Ln.isNow _ _).mono ?_; rintro e w' ⟨rfl, rfl⟩))
    go_ret
    exact ⟨ret_int (unhide HE).symm, unhide HA⟩
  cases h3 : Hl.helB will valid ns
  · have HE : Hid (hearTC me frm now will valid ns = 1) := hide (by unfold hearTC; rw [h1, h2, h3]; rfl)
    have H3 := hide h3
    clear h3
    go_enter Try.func56, Try.ntmps56
    go_wp2_with (first | (go_at_call 71; refine (isAddress _ _).mono ?_; rintro e w' ⟨rfl, rfl⟩) | (go_at_call 73; refine (Ln.isNow _ _).mono ?_; rintro e w' ⟨rfl, rfl⟩))
    refine (Hl.implOK will valid b ns capn _ hm (unhide HR)).mono ?_
    rintro e w1 ⟨rfl, b1⟩
    rw [unhide H3]
    have HB1 := hide ((unhide HA).trans (b1.mono (unhide HA).size))
    clear b1
    go_wp2_with (first | (go_at_call 71; refine (isAddress _ _).mono ?_; rintro e w' ⟨rfl, rfl⟩) | (go_at_call 73; refine (Ln.isNow _ _).mono ?_; rintro e w' ⟨rfl, rfl⟩))
    go_ret
    exact ⟨ret_int (unhide HE).symm, unhide HB1⟩
  have H3 := hide h3
  cases h5 : inB now 0 1000000
  · have HE : Hid (hearTC me frm now will valid ns = 4) := hide (by unfold hearTC; simp [h1, h2, h3, h5])
    clear h3
    go_enter Try.func56, Try.ntmps56
    go_wp2_with (first | (go_at_call 71; refine (isAddress _ _).mono ?_; rintro e w' ⟨rfl, rfl⟩) | (go_at_call 73; refine (Ln.isNow _ _).mono ?_; rintro e w' ⟨rfl, rfl⟩))
    refine (Hl.implOK will valid b ns capn _ hm (unhide HR)).mono ?_
    rintro e w1 ⟨rfl, b1⟩
    rw [unhide H3]
    have HB1 := hide ((unhide HA).trans (b1.mono (unhide HA).size))
    clear b1
    go_wp2_with (first | (go_at_call 71; refine (isAddress _ _).mono ?_; rintro e w' ⟨rfl, rfl⟩) | (go_at_call 73; refine (Ln.isNow _ _).mono ?_; rintro e w' ⟨rfl, rfl⟩))
    go_ret
    exact ⟨ret_int (unhide HE).symm, unhide HB1⟩
  · have HE : Hid (hearTC me frm now will valid ns = 0) := hide (by unfold hearTC; simp [h1, h2, h3, h5])
    clear h3
    go_enter Try.func56, Try.ntmps56
    go_wp2_with (first | (go_at_call 71; refine (isAddress _ _).mono ?_; rintro e w' ⟨rfl, rfl⟩) | (go_at_call 73; refine (Ln.isNow _ _).mono ?_; rintro e w' ⟨rfl, rfl⟩))
    refine (Hl.implOK will valid b ns capn _ hm (unhide HR)).mono ?_
    rintro e w1 ⟨rfl, b1⟩
    rw [unhide H3]
    have HB1 := hide ((unhide HA).trans (b1.mono (unhide HA).size))
    clear b1
    go_wp2_with (first | (go_at_call 71; refine (isAddress _ _).mono ?_; rintro e w' ⟨rfl, rfl⟩) | (go_at_call 73; refine (Ln.isNow _ _).mono ?_; rintro e w' ⟨rfl, rfl⟩))
    go_ret
    exact ⟨ret_int (unhide HE).symm, unhide HB1⟩
theorem rm_grownT {w w' : World} {b n : Nat} {f : Int → Int → Option R} (ho : OM w b n f) {a : Option Addr} {ns : List Nb.R} (h : Nb.RM w a ns) (hg : w.grownBy w' (some b)) : Nb.RM w' a ns := by
  rcases h with h | ⟨g, off, rfl, hc⟩
  · exact .inl h
  · exact .inr ⟨g, off, rfl, fun i hi => nb_but (hc i hi) (hg.block g (nb_lt (hc i hi)) (by intro e; cases e; exact nb_ne ho (hc i hi) rfl))⟩
set_option maxRecDepth 100000 in
set_option maxHeartbeats 4000000 in
theorem implHear (a : Option Addr) (ms : List R) (cap : Nat) (me frm now : Int) (sym : Bool) (will valid : Int) (b : Option Addr) (ns : List Nb.R) (capn : Nat) (w : World) (hm : ms.length ≤ 1048576) (hnl : ns.length ≤ 1048576) (hr : RM w a ms) (hr' : Nb.RM w b ns) :
    Calls Try.prog 22 #[.slice a ms.length cap, .int .i64 me, .int .i64 frm, .int .i64 now, .bool sym, .agg #[.int .i64 will, .int .i64 valid, .slice b ns.length capn]] w fun e w' => ∃ v, e = .returned (.tuple #[v, .int .i64 (hearTE ms me frm now will valid ns)]) ∧ Below w.heap.size w w' ∧ LstV w' v (hearTA ms me frm now sym will valid ns) w.heap.size w'.heap.size := by
  have HA : Hid (Below w.heap.size w (w.alloc (.cells #[.int .i64 will, .int .i64 valid, .slice b ns.length capn] 38))) := hide ((Below.refl _ _).alloc (Nat.le_refl _) _)
  have HX : Hid (Bx3 (w.alloc (.cells #[.int .i64 will, .int .i64 valid, .slice b ns.length capn] 38)) w.heap.size will valid (.slice b ns.length capn)) := hide (bx3_new w will valid _ _)
  have HR := hide (hr.below (unhide HA))
  have HN := hide (hr'.below (unhide HA))
  clear hr hr'
  by_cases hc : codeT ms = 0
  rotate_left
  · have he : hearTE ms me frm now will valid ns = codeT ms := by unfold hearTE; rw [if_neg hc]
    have ha : hearTA ms me frm now sym will valid ns = [] := by unfold hearTA; rw [he, if_neg hc]
    rw [he, ha]
    clear he ha
    generalize hcd : codeT ms = cd at *
    have HC := hide hcd
    clear hcd
    have q0 : (cd == 0) = false := by simpa using hc
    have q1 : (cd != 0) = true := by simpa using hc
    go_enter Try.func22, Try.ntmps22
    go_wp2_with fail
    refine (twoCode _ ms cap _ hm (unhide HR)).mono ?_
    rintro e w1 ⟨rfl, b1⟩
    rw [unhide HC]
    have HA1 := hide ((unhide HA).trans (b1.mono (unhide HA).size))
    clear b1
    go_wp2_with fail
    go_ret2
    exact ⟨_, rfl, unhide HA1, lstV_nil _ _ _ _ _⟩
  have HS := hide (code_two hc)
  have hl62 := two_len (unhide HS)
  have HC := hide hc
  have he : hearTE ms me frm now will valid ns = hearTC me frm now will valid ns := by unfold hearTE; rw [if_pos hc]
  clear hc
  by_cases h0 : hearTC me frm now will valid ns = 0
  rotate_left
  · have ha : hearTA ms me frm now sym will valid ns = [] := by unfold hearTA; rw [he, if_neg h0]
    rw [he, ha]
    clear he ha
    generalize hcd : hearTC me frm now will valid ns = cd at *
    have HD := hide hcd
    clear hcd
    have q0 : (cd == 0) = false := by simpa using h0
    have q1 : (cd != 0) = true := by simpa using h0
    go_enter Try.func22, Try.ntmps22
    go_wp2_with fail
    refine (twoCode _ ms cap _ hm (unhide HR)).mono ?_
    rintro e w1 ⟨rfl, b1⟩
    rw [unhide HC]
    have HA1 := hide ((unhide HA).trans (b1.mono (unhide HA).size))
    have HX1 := hide ((unhide HX).below b1)
    have HN1 := hide ((unhide HN).below b1)
    clear b1
    obtain ⟨z0, z1, z2⟩ := unhide HX1
    go_wp2_with fail
    refine (hearTwoCode me frm now will valid b ns capn _ hnl (unhide HN1)).mono ?_
    rintro e w2 ⟨rfl, b2⟩
    rw [unhide HD]
    clear z0 z1 z2
    have HA2 := hide ((unhide HA1).trans (b2.mono (unhide HA1).size))
    clear b2
    go_wp2_with fail
    go_ret2
    exact ⟨_, rfl, unhide HA2, lstV_nil _ _ _ _ _⟩
  obtain ⟨_, hf18, hhel, hnw⟩ := hearTC_ok h0
  have ha : hearTA ms me frm now sym will valid ns = hearTL ms me frm now sym valid ns := by unfold hearTA; rw [he, if_pos h0]
  have HTW := hide (hearT_two (sym := sym) (unhide HS) h0)
  rw [he, ha, h0]
  have HD := hide h0
  have HH := hide hhel
  clear he ha h0 hhel
  have HF0 : Hid (forgT (findT ms) frm 8 = findT (ms.filter (keepF frm))) := hide (forg_find (unhide HS) frm)
  have HT0 := hide (two_filter (unhide HS) (keepF frm))
  have h8 := Hl.hel_len (unhide HH)
  go_enter Try.func22, Try.ntmps22
  go_wp2_with fail
  refine (twoCode _ ms cap _ hm (unhide HR)).mono ?_
  rintro e w1 ⟨rfl, b1⟩
  rw [unhide HC]
  have HA1 := hide ((unhide HA).trans (b1.mono (unhide HA).size))
  have HX1 := hide ((unhide HX).below b1)
  have HR1 := hide ((unhide HR).below b1)
  have HN1 := hide ((unhide HN).below b1)
  clear b1
  obtain ⟨z0, z1, z2⟩ := unhide HX1
  go_wp2_with fail
  refine (hearTwoCode me frm now will valid b ns capn _ hnl (unhide HN1)).mono ?_
  rintro e w2 ⟨rfl, b2⟩
  rw [unhide HD]
  clear z0 z1 z2
  have HA2 := hide ((unhide HA1).trans (b2.mono (unhide HA1).size))
  have HX2 := hide ((unhide HX1).below b2)
  have HR2 := hide ((unhide HR1).below b2)
  have HN2 := hide ((unhide HN1).below b2)
  clear b2
  go_wp2_with fail
  refine (tuplesByHop _ ms cap _ (unhide HS) (unhide HR2)).mono ?_
  rintro e w3 ⟨bm, rfl, hbm, om3, b3⟩
  have HA3 := hide ((unhide HA2).trans (b3.mono (unhide HA2).size))
  have HX3 := hide ((unhide HX2).below b3)
  have HN3 := hide ((unhide HN2).below b3)
  have HM3 := hide om3
  have hb2 := (unhide HA2).size
  have hx2 := (unhide HX2).lt
  clear b3 om3
  go_wp2_with fail
  refine (forgetBy bm ms.length (findT ms) frm _ hf18.1 hf18.2 (unhide HM3)).mono ?_
  rintro e w4 ⟨rfl, om4, g4⟩
  have HM4 : Hid (OM w4 bm ms.length (findT (ms.filter (keepF frm)))) := hide ((unhide HF0) ▸ om4)
  have HA4 := hide (om_grown (unhide HA3) (Nat.le_refl _) (by omega) g4)
  have HX4 := hide ((unhide HX3).but (g4.block w.heap.size (unhide HX3).lt (by intro e; cases e; omega)))
  have HN4 := hide (rm_grownT (unhide HM3) (unhide HN3) g4)
  clear om4 g4
  cases sym
  · have HO : Hid (ordT (findT (ms.filter (keepF frm))) 64 = hearTL ms me frm now false valid ns) := hide (by rw [ord_all (unhide HT0)]; rfl)
    go_wp2_with fail
    refine (hopsInOrder bm ms.length _ _ (by omega) (unhide HM4)).mono ?_
    rintro e w7 ⟨v, rfl, b7, hl7⟩
    have HA7 := hide ((unhide HA4).trans (b7.mono (unhide HA4).size))
    have HL7 := hide (hl7.mono (lo' := w.heap.size) (unhide HA4).size (Nat.le_refl _))
    clear b7 hl7
    go_wp2_with fail
    go_ret2
    exact ⟨_, rfl, unhide HA7, by rw [← unhide HO]; exact unhide HL7⟩
  · have HO : Hid (ordT (findT (learnL (ms.filter (keepF frm)) me frm now valid ns ns.length)) 64 = hearTL ms me frm now true valid ns) := hide (by
      have := unhide HTW
      unfold hearTL at this ⊢
      rw [if_pos rfl] at this ⊢
      exact ord_all this)
    obtain ⟨z0, z1, z2⟩ := unhide HX4
    go_wp2_with fail
    refine (learnBy bm ms.length _ me frm now will valid b ns capn _ (unhide HT0) hf18 hnw (unhide HH) (by omega) (unhide HM4) (unhide HN4)).mono ?_
    rintro e w5 ⟨rfl, om5, g5⟩
    clear z0 z1 z2
    have HM5 := hide om5
    have HA5 := hide (om_grown (unhide HA4) (Nat.le_refl _) (by omega) g5)
    clear om5 g5
    go_wp2_with fail
    refine (hopsInOrder bm (ms.length + ns.length) _ _ (by omega) (unhide HM5)).mono ?_
    rintro e w7 ⟨v, rfl, b7, hl7⟩
    have HA7 := hide ((unhide HA5).trans (b7.mono (unhide HA5).size))
    have HL7 := hide (hl7.mono (lo' := w.heap.size) (unhide HA5).size (Nat.le_refl _))
    clear b7 hl7
    go_wp2_with fail
    go_ret2
    exact ⟨_, rfl, unhide HA7, by rw [← unhide HO]; exact unhide HL7⟩
set_option maxRecDepth 100000 in
set_option maxHeartbeats 4000000 in
theorem implTwoOf (a : Option Addr) (ms : List R) (cap : Nat) (via : Int) (hwv : (Lit.int .i64 via).wf = true) (w : World) (hm : ms.length ≤ 1048576) (hr : RM w a ms) :
    Calls Try.prog 24 #[.slice a ms.length cap, .int .i64 via] w fun e w' => ∃ v, e = .returned (.tuple #[v, .int .i64 (codeT ms)]) ∧ Below w.heap.size w w' ∧ In.LstV w' v (twoA ms via) w.heap.size w'.heap.size := by
  have HR := hide hr
  have HWV := hide hwv
  clear hr hwv
  by_cases hc : codeT ms = 0
  rotate_left
  · have h1 : twoA ms via = [] := by unfold twoA; rw [if_neg hc]
    rw [h1]
    clear h1
    generalize hcd : codeT ms = cd at *
    have HC := hide hcd
    clear hcd
    have q1 : (cd != 0) = true := by simpa using hc
    go_enter Try.func24, Try.ntmps24
    go_wp2_with fail
    refine (twoCode _ ms cap _ hm (unhide HR)).mono ?_
    rintro e w1 ⟨rfl, b1⟩
    rw [unhide HC]
    have HB1 := hide b1
    clear b1
    go_wp2_with fail
    go_ret2
    exact ⟨_, rfl, unhide HB1, In.lstV_nil _ _ _ _ _⟩
  have HS := hide (code_two hc)
  have h1 : twoA ms via = byT (findT ms) via 8 := by unfold twoA; rw [if_pos hc, by_all (unhide HS)]
  rw [h1, hc]
  have HC := hide hc
  have hl62 := two_len (unhide HS)
  clear h1 hc
  obtain ⟨f, hff⟩ : ∃ f, findT ms = f := ⟨_, rfl⟩
  have HFF := hide hff
  rw [hff]
  clear hff
  go_enter Try.func24, Try.ntmps24
  go_wp2_with fail
  refine (twoCode _ ms cap _ hm (unhide HR)).mono ?_
  rintro e w1 ⟨rfl, b1⟩
  rw [unhide HC]
  have HB1 := hide b1
  have HR1 := hide ((unhide HR).below b1)
  clear b1
  go_wp2_with fail
  refine (tuplesByHop _ ms cap _ (unhide HS) (unhide HR1)).mono ?_
  rintro e w2 ⟨bm, rfl, hbm, om2, b2⟩
  have HB2 := hide ((unhide HB1).trans (b2.mono (unhide HB1).size))
  rw [unhide HFF] at om2
  have HM := hide om2
  have O0 : Hid (w2.ownsRow w2.heap.size 3 1 (.slice none 0 0) (byT f via 0).length (In.flat (byT f via 0))) := hide (In.own_nil w2 w2.heap.size)
  clear b2 om2
  go_wp2_with fail
  go_loopw [8, 9] (fun v i wr => ∃ j : Nat, j ≤ 8 ∧ i = .int .i64 ((j : Int) + 1) ∧ Hid (wr.ownsRow w2.heap.size 3 1 v (byT f via j).length (In.flat (byT f via j))) ∧ Hid (Below w2.heap.size w2 wr)) (fun _ i _ => 9 - (intOf i).toNat)
  case atStart => exact ⟨0, by omega, rfl, O0, hide (Below.refl _ _)⟩
  case round =>
    obtain ⟨j, hj, rfl, how, hbl⟩ := hrel
    have hbs := (unhide hbl).size
    have hfl := byT_len f via j
    by_cases hlt : (j : Int) + 1 ≤ 8
    · have HMr := hide ((unhide HM).below (unhide hbl))
      have HWK : Hid ((Lit.int .i64 ((j : Int) + 1)).wf = true) := hide (WalkArith.wf_i64 ⟨by omega, by omega⟩)
      cases hf : f via ((j : Int) + 1) with
      | none =>
        have HA : Hid ((f via ((j : Int) + 1)).getD R.zero = ⟨0, 0, 0⟩) := hide (by rw [hf]; rfl)
        have HE : Hid ((f via ((j : Int) + 1)).isSome = false) := hide (by rw [hf]; rfl)
        have HST := hide (byT_no (unhide HE))
        clear hf
        rw [← unhide HST] at how
        have HB := hide ((unhide hbl).alloc hbs (.cells #[.int .i64 0, .int .i64 0, .int .i64 0] 32))
        have HO := hide ((unhide how).alloc (.cells #[.int .i64 0, .int .i64 0, .int .i64 0] 32))
        go_wp2_with (at_lookup; refine wpList_lookA _ rfl _ _ rfl bm _ _ rfl (unhide HMr) via ((j : Int) + 1) (unhide HWV) (unhide HWK) rfl 0 0 0 false (unhide HA) (unhide HE) ?_)
        go_roundw
        case rel => exact ⟨j + 1, by omega, by go_num, HO, HB⟩
        case measure => simp [intOf]; omega
      | some m =>
        obtain ⟨ke, ti, va⟩ := m
        have HA : Hid ((f via ((j : Int) + 1)).getD R.zero = ⟨ke, ti, va⟩) := hide (by rw [hf]; rfl)
        have HE : Hid ((f via ((j : Int) + 1)).isSome = true) := hide (by rw [hf]; rfl)
        have HTF := hide (byT_yes (unhide HE))
        clear hf
        have HBA := hide ((unhide hbl).alloc hbs (.cells #[.int .i64 ke, .int .i64 ti, .int .i64 va] 32))
        have HOA := hide ((unhide how).alloc (.cells #[.int .i64 ke, .int .i64 ti, .int .i64 va] 32))
        have hs1 : w2.heap.size ≤ (wr.alloc (.cells #[.int .i64 ke, .int .i64 ti, .int .i64 va] 32)).heap.size := by simp; omega
        go_wp2_with (first | (at_lookup; refine wpList_lookA _ rfl _ _ rfl bm _ _ rfl (unhide HMr) via ((j : Int) + 1) (unhide HWV) (unhide HWK) rfl ke ti va true (unhide HA) (unhide HE) ?_) | (at_builtin; refine In.wpList_apS ((unhide HOA).alloc _) (wr.heap.size + 1) 0 1 1 [(j : Int) + 1] rfl (by have := In.rm_new (wr.alloc (.cells #[.int .i64 ke, .int .i64 ti, .int .i64 va] 32)) ((j : Int) + 1); simpa using this) (by simp only [List.length_cons, List.length_nil]; omega) (by simp; omega) rfl _ _ rfl rfl rfl ?_; intro v' w' ho hg; have HO : Hid (w'.ownsRow w2.heap.size 3 1 v' (byT f via (j + 1)).length (In.flat (byT f via (j + 1)))) := hide (by rw [unhide HTF]; exact ho); have HB := hide (In.below_own ((unhide HBA).alloc hs1 _) ((unhide HOA).alloc _) hg (Nat.le_refl _) (by simp; omega)); clear ho hg))
        go_roundw
        case rel => exact ⟨j + 1, by omega, by go_num, HO, HB⟩
        case measure => simp [intOf]; omega
    · obtain rfl : j = 8 := by omega
      have HL := hide ((In.lst_own rfl (unhide how)).mono (lo' := w.heap.size) (unhide HB2).size (Nat.le_refl _))
      have HB3 := hide ((unhide HB2).trans ((unhide hbl).mono (unhide HB2).size))
      go_wp2_with fail
      go_ret2
      exact ⟨_, rfl, unhide HB3, unhide HL⟩
end Tw
end Go.Proofs.Ytmelbilepfnmjab
