/-
  Contracts of DecodePacket, the model's and the program's: for every slice of bytes the messages that it has, or none and the code; in memory of their own.
-/
import Derived.Test.YtpknahhdapmcoaaParsI
import Derived.Test.YtpknahhdapmcoaaDecM
namespace Go.Proofs.Ytpknahhdapmcoaa
open Go.ChangeShapes Go.WideShapes Go.ChangeAt Go.RowKit
set_option linter.unusedVariables false
set_option maxRecDepth 100000
set_option linter.unusedSimpArgs false
attribute [local go_sem ↓] Go.wp_at_zero Go.wp_at_succ
namespace Pa
open W1 By De Ml
/-- Whether the head is a packet's; what DecodePacket answers. -/
def headB (bs : List UInt8) : Bool := decide (2 ≤ bs.length) && (decide (fld bs 0 = 0) && inB (fld bs 1) 1 6)
def decP (bs : List UInt8) : Option (List M) := if headB bs = true then pars (fld bs 1).toNat (bs.drop 2) [] else none
def msO (o : Option (List M)) : List M := o.getD []
def cdO (o : Option (List M)) : Int := if o.isSome = true then 0 else 3
theorem cdO_some (ms : List M) : cdO (some ms) = 0 := rfl
theorem cdO_none : cdO none = 3 := rfl
def msP (bs : List UInt8) : List M := if 65536 < bs.length then [] else msO (decP bs)
def cdP (bs : List UInt8) : Int := if 65536 < bs.length then 2 else cdO (decP bs)
/-- A list of messages in new memory, if it has any. -/
def Fresh (w w' : World) (a : Option Addr) (ms : List M) : Prop := ms = [] ∨ ∃ g, a = some ⟨g, 0, none⟩ ∧ w.heap.size ≤ g ∧ g < w'.heap.size ∧ Upto w' g ms.length ms.length ms
theorem head_true {bs : List UInt8} (h : headB bs = true) : 2 ≤ bs.length ∧ fld bs 0 = 0 ∧ 1 ≤ fld bs 1 ∧ fld bs 1 ≤ 6 := by
  unfold headB inB at h; simp at h; exact ⟨h.1, h.2.1, h.2.2.1, h.2.2.2⟩

set_option maxRecDepth 100000 in
set_option maxHeartbeats 4000000 in
theorem parseBad (s : ByteArray) (w : World) (hm : s.size ≤ 65536) (hh : headB s.data.toList = false) :
    Calls Try.prog 40 #[.string s] w fun e w' => Below w.heap.size w w' ∧ ∃ a cap, e = .returned (.tuple #[.slice a 0 cap, .bool false]) := by
  by_cases h2 : (s.size : Int) < 2
  · go_enter Try.func40, Try.ntmps40
    go_wp2_with fail
    go_ret2
    exact ⟨(Below.refl _ _).alloc (Nat.le_refl _) _, _, _, rfl⟩
  have z0 : (0 : Int) < s.size := by omega
  have z1 : (1 : Int) < s.size := by omega
  have e0 := fld_at s 0 (by omega)
  have e1 := fld_at s 1 (by omega)
  have hne : ¬ s = ByteArray.empty := by intro e; rw [e] at z0; simp at z0
  have wf1 := wrapF s.data.toList 1
  have hl0 := fld_lo s.data.toList 0
  by_cases hf0 : fld s.data.toList 0 = 0
  · have hin : inB (fld s.data.toList 1) 1 6 = false := by
      unfold headB at hh
      rw [decide_eq_true (by simp; omega : 2 ≤ s.data.toList.length), decide_eq_true hf0] at hh
      simpa using hh
    rw [hf0] at e0
    clear hh hf0 hl0
    generalize fld s.data.toList 1 = K at *
    go_enter Try.func40, Try.ntmps40
    go_wp2_with (go_at_call 44; refine (l01In _ _ _ _).mono ?_; rintro e w ⟨rfl, rfl⟩)
    go_ret2
    exact ⟨(Below.refl _ _).alloc (Nat.le_refl _) _, _, _, rfl⟩
  · have hb : (fld s.data.toList 0 == 0) = false := by simpa using hf0
    clear hh
    generalize fld s.data.toList 0 = F at *
    go_enter Try.func40, Try.ntmps40
    go_wp2_with fail
    go_ret2
    exact ⟨(Below.refl _ _).alloc (Nat.le_refl _) _, _, _, rfl⟩

set_option maxRecDepth 100000 in
set_option maxHeartbeats 4000000 in
theorem specDecP (g : Nat) (bs : List UInt8) (cap : Nat) (w : World) (hm : bs.length ≤ 1048576) (hr : Reads w (some ⟨g, 0, none⟩) bs) :
    Calls Try.prog 15 #[.slice (some ⟨g, 0, none⟩) bs.length cap] w fun e w' => ∃ a c, e = .returned (.tuple #[.slice a (msP bs).length c, .int .i64 (cdP bs)]) ∧ Below w.heap.size w w' ∧ Fresh w w' a (msP bs) := by
  by_cases hbig : 65536 < bs.length
  · have h1 : msP bs = [] := by unfold msP; rw [if_pos hbig]
    have h2 : cdP bs = 2 := by unfold cdP; rw [if_pos hbig]
    rw [h1, h2]
    have hb' : (65536 : Int) < bs.length := by omega
    go_enter Try.func15, Try.ntmps15
    go_wp2_with fail
    go_ret2
    exact ⟨_, _, rfl, (Below.refl _ _).alloc (Nat.le_refl _) _, .inl rfl⟩
  have hb' : ¬ (65536 : Int) < bs.length := by omega
  have hconv := conv_all (cap := cap) hr
  have hsz : (⟨bs.toArray⟩ : ByteArray).size ≤ 65536 := by simp [ByteArray.size]; omega
  have h1 : msP bs = msO (decP bs) := by unfold msP; rw [if_neg hbig]
  have h2 : cdP bs = cdO (decP bs) := by unfold cdP; rw [if_neg hbig]
  rw [h1, h2]
  clear h1 h2
  cases hh : headB bs
  · have hd : decP bs = none := by unfold decP; rw [if_neg (by simp [hh])]
    rw [hd, cdO_none, show msO none = [] from rfl]
    clear hd
    go_enter Try.func15, Try.ntmps15
    go_wp2_with fail
    refine (parseBad ⟨bs.toArray⟩ _ hsz hh).mono ?_
    rintro e w1 ⟨b1, a1, c1, rfl⟩
    clear hconv
    go_wp2_with fail
    go_ret2
    exact ⟨_, _, rfl, b1.alloc b1.size _, .inl rfl⟩
  · have hd : decP bs = pars (fld bs 1).toNat (bs.drop 2) [] := by unfold decP; rw [if_pos hh]
    rw [hd]
    clear hd
    obtain ⟨p1, p2, p3, p4⟩ := head_true hh
    go_enter Try.func15, Try.ntmps15
    go_wp2_with fail
    refine (parseLoop ⟨bs.toArray⟩ _ hsz (by simp [ByteArray.size]; omega) p2 p3 p4).mono ?_
    rintro e w1 ⟨b1, ⟨ms, g1, c1, hp, rfl, hg1, hl1, hu1⟩ | ⟨a1, c1, hp, rfl⟩⟩
    · have HP : Hid (pars (fld bs 1).toNat (bs.drop 2) [] = some ms) := hp
      have HU := hide hu1
      clear hconv hp hu1
      go_wp2_with fail
      go_ret2
      rw [unhide HP]
      exact ⟨_, _, rfl, b1, .inr ⟨g1, rfl, hg1, hl1, unhide HU⟩⟩
    · have HP : Hid (pars (fld bs 1).toNat (bs.drop 2) [] = none) := hp
      clear hconv hp
      go_wp2_with fail
      go_ret2
      rw [unhide HP]
      exact ⟨_, _, rfl, b1.alloc b1.size _, .inl rfl⟩

theorem decP_some {bs rs : List UInt8} {ms : List M} (h2 : 1 < bs.length) (h0 : fld bs 0 = 0) (hin : inB (fld bs 1) 1 6 = true) (hrs : bs.drop 2 = rs) (hp : pars (fld bs 1).toNat rs [] = some ms) : decP bs = some ms := by
  unfold decP headB
  rw [decide_eq_true (by omega : 2 ≤ bs.length), decide_eq_true h0, hin, hrs, hp]; rfl
theorem decP_none {bs rs : List UInt8} (hrs : bs.drop 2 = rs) (hp : inB (fld bs 1) 1 6 = true → pars (fld bs 1).toNat rs [] = none) : decP bs = none := by
  unfold decP
  split
  · rename_i h
    rw [hrs]; exact hp (by unfold headB at h; simp at h; exact h.2.2)
  · rfl
theorem sTwo {w : World} {g : Nat} {bs : List UInt8} (h : Reads w (some ⟨g, 0, none⟩) bs) (h1 : 1 < bs.length) : Reads w (some ⟨g, 0, none⟩) bs ∧ w.cell? ⟨g, 1, none⟩ = some (.int .u8 (fld bs 1)) :=
  ⟨h, by have := reads_at (i := 1) h h1; rw [Nat.zero_add] at this; exact this⟩
theorem readBad (v : Value) (K : Int) (w : World) (hin : inB K 1 6 = false) :
    Calls Try.prog 36 #[v, .int .i64 K] w fun e w' => Below w.heap.size w w' ∧ e = .returned (.tuple #[.slice none 0 0, .bool false]) := by
  go_enter Try.func36, Try.ntmps36
  go_wp2_with (go_at_call 37; refine (within _ _ _ _).mono ?_; rintro e w ⟨rfl, rfl⟩)
  go_ret2
  exact ⟨Below.refl _ _, rfl⟩
/-- What readMessages answers, whatever the count. -/
theorem readAny (a : Option Addr) (rs : List UInt8) (L cap : Nat) (K : Int) (w : World) (hL : rs.length = L) (hm : rs.length ≤ 65536) (hcap : rs.length ≤ cap) (hcm : cap ≤ maxLen) (hr : Reads w a rs) :
    Calls Try.prog 36 #[.slice a L cap, .int .i64 K] w fun e w' => ∃ v ok, e = .returned (.tuple #[v, .bool ok]) ∧ Below w.heap.size w w' ∧ ((ok = true ∧ ∃ ms g cp, inB K 1 6 = true ∧ pars K.toNat rs [] = some ms ∧ v = .slice (some ⟨g, 0, none⟩) ms.length cp ∧ w.heap.size ≤ g ∧ g < w'.heap.size ∧ Upto w' g ms.length ms.length ms) ∨
      (ok = false ∧ (inB K 1 6 = true → pars K.toNat rs [] = none))) := by
  subst hL
  cases hin : inB K 1 6
  · refine (readBad _ K w hin).mono ?_
    rintro e w' ⟨hb, rfl⟩
    exact ⟨_, _, rfl, hb, .inr ⟨rfl, fun h => by cases h⟩⟩
  · have h := hin
    unfold inB at h
    simp at h
    refine (readLoop a rs cap K w hm hcap hcm (by omega) (by omega) hr).mono ?_
    rintro e w' ⟨hb, ⟨ms, g, cp, h1, rfl, h3, h4, h5⟩ | ⟨v, h1, rfl⟩⟩
    · exact ⟨_, _, rfl, hb, .inl ⟨rfl, ms, g, cp, rfl, h1, rfl, h3, h4, h5⟩⟩
    · exact ⟨_, _, rfl, hb, .inr ⟨rfl, fun _ => h1⟩⟩

set_option maxRecDepth 100000 in
set_option maxHeartbeats 4000000 in
theorem implDecP (g : Nat) (bs : List UInt8) (w : World) (hm : bs.length ≤ 1048576) (hr : Reads w (some ⟨g, 0, none⟩) bs) :
    Calls Try.prog 10 #[.slice (some ⟨g, 0, none⟩) bs.length bs.length] w fun e w' => ∃ a c, e = .returned (.tuple #[.slice a (msP bs).length c, .int .i64 (cdP bs)]) ∧ Below w.heap.size w w' ∧ Fresh w w' a (msP bs) := by
  have HR := hide hr
  by_cases hbig : 65536 < bs.length
  · have h1 : msP bs = [] := by unfold msP; rw [if_pos hbig]
    have h2 : cdP bs = 2 := by unfold cdP; rw [if_pos hbig]
    rw [h1, h2]
    have hb' : (65536 : Int) < bs.length := by omega
    clear hr
    go_enter Try.func10, Try.ntmps10
    go_wp2_with fail
    go_ret2
    exact ⟨_, _, rfl, Below.refl _ _, .inl rfl⟩
  have hb' : ¬ (65536 : Int) < bs.length := by omega
  have h1 : msP bs = msO (decP bs) := by unfold msP; rw [if_neg hbig]
  have h2 : cdP bs = cdO (decP bs) := by unfold cdP; rw [if_neg hbig]
  rw [h1, h2]
  clear h1 h2
  by_cases hl2 : (bs.length : Int) < 2
  · have hd : decP bs = none := by unfold decP headB; rw [decide_eq_false (by omega)]; rfl
    rw [hd, cdO_none, show msO none = [] from rfl]
    clear hr
    go_enter Try.func10, Try.ntmps10
    go_wp2_with fail
    go_ret2
    first | exact ⟨_, _, rfl, Below.refl _ _, .inl rfl⟩ | exact ⟨_, ⟨_, rfl⟩, Below.refl _ _, .inl rfl⟩
  have c0 := reads_at (i := 0) hr (by omega)
  have c1 := reads_at (i := 1) hr (by omega)
  rw [Nat.zero_add] at c0 c1
  clear hr
  have l0 := fld_lo bs 0
  have f1 := fld_lo bs 1
  have f2 := fld_hi bs 1
  have wf1 := wrapF bs 1
  by_cases hf0 : fld bs 0 = 0
  · rw [hf0] at c0
    have HF0 := hide hf0
    clear hf0 l0
    have hlen : (bs.drop 2).length = bs.length - 2 := List.length_drop
    have HRD := hide (reads_drop (n := 2) (unhide HR) (by omega))
    generalize hrs : bs.drop 2 = rs at *
    have HRS := hide hrs
    clear hrs
    generalize hN : bs.length = n at *
    have HN := hide hN
    clear hN
    have z1 : (1 : Int) < n := by omega
    have z0 : (0 : Int) < n := by omega
    have hn0 : 0 < n := by omega
    have z2 : (2 : Int) ≤ n := by omega
    have H1N : Hid (1 < bs.length) := hide (by rw [unhide HN]; omega)
    have HRr := unhide HR
    by_cases hn2 : n = 2
    · subst hn2
      have RR : Hid (∀ W : World, Reads W (some ⟨g, 0, none⟩) bs → Reads W (some ⟨g, 0, none⟩) rs) := hide (fun W _ => .inl (List.eq_nil_of_length_eq_zero (by omega)))
      have HL : Hid (rs.length = 0) := hide (by omega)
      clear hlen
      go_enter Try.func10, Try.ntmps10
      go_wp2_with fail
      go_region_held3 (fun w' => Reads w' (some ⟨g, 0, none⟩) bs ∧ w'.cell? ⟨g, 1, none⟩ = some (.int .u8 (fld bs 1)))
        ((go_split_ands; exact sTwo (by first | with_reducible assumption | (with_reducible refine reads_drew ?_; with_reducible assumption) | (exact reads_below (by with_reducible assumption) b1)) (unhide H1N)))
        (first | (go_at_call 36; refine (readAny (some ⟨g, 0, none⟩) rs 0 0 (fld bs 1) _ (unhide HL) (by have := unhide HL; omega) (by have := unhide HL; omega) (by unfold maxLen; omega) ?_).mono ?_; (exact unhide RR _ (by go_split_ands; with_reducible assumption)); rintro e w1 ⟨v1, ok1, rfl, b1, hres⟩; have HRES := hide hres; clear hres))
      have HBW := hide ((Below.refl w.heap.size w).drew.trans (b1.mono (Nat.le_refl _)))
      rcases unhide HRES with ⟨rfl, ms, g1, cp, hin, hp, rfl, h3, h4, h5⟩ | ⟨rfl, hno⟩
      · have HD := hide (decP_some (unhide H1N) (unhide HF0) hin (unhide HRS) hp)
        have H5 := hide h5
        clear hin hp h5 b1
        go_wp2_with fail
        go_ret2
        rw [unhide HD, cdO_some]
        exact ⟨_, ⟨_, rfl⟩, unhide HBW, .inr ⟨g1, rfl, h3, h4, unhide H5⟩⟩
      · have HD := hide (decP_none (unhide HRS) hno)
        clear hno b1
        go_wp2_with fail
        go_ret2
        rw [unhide HD, cdO_none]
        exact ⟨_, ⟨_, rfl⟩, unhide HBW, .inl rfl⟩
    · have hn2' : ¬ n = 2 := hn2
      have RR : Hid (∀ W : World, Reads W (some ⟨g, 0, none⟩) bs → Reads W (some ⟨g, 2, none⟩) rs) := hide (fun W h => by have h2 := reads_drop (n := 2) h (by rw [unhide HN]; omega); rw [unhide HRS, Nat.zero_add] at h2; exact h2)
      have HL := hide hlen
      clear hlen
      go_enter Try.func10, Try.ntmps10
      go_wp2_with fail
      go_region_held3 (fun w' => Reads w' (some ⟨g, 0, none⟩) bs ∧ w'.cell? ⟨g, 1, none⟩ = some (.int .u8 (fld bs 1)))
        ((go_split_ands; exact sTwo (by first | with_reducible assumption | (with_reducible refine reads_drew ?_; with_reducible assumption) | (exact reads_below (by with_reducible assumption) b1)) (unhide H1N)))
        (first | (go_at_call 36; refine (readAny (some ⟨g, 2, none⟩) rs (n - 2) (n - 2) (fld bs 1) _ (unhide HL) (by have := unhide HL; omega) (by have := unhide HL; omega) (by unfold maxLen; omega) ?_).mono ?_; (exact unhide RR _ (by go_split_ands; with_reducible assumption)); rintro e w1 ⟨v1, ok1, rfl, b1, hres⟩; have HRES := hide hres; clear hres))
      have HBW := hide ((Below.refl w.heap.size w).drew.trans (b1.mono (Nat.le_refl _)))
      rcases unhide HRES with ⟨rfl, ms, g1, cp, hin, hp, rfl, h3, h4, h5⟩ | ⟨rfl, hno⟩
      · have HD := hide (decP_some (unhide H1N) (unhide HF0) hin (unhide HRS) hp)
        have H5 := hide h5
        clear hin hp h5 b1
        go_wp2_with fail
        go_ret2
        rw [unhide HD, cdO_some]
        exact ⟨_, ⟨_, rfl⟩, unhide HBW, .inr ⟨g1, rfl, h3, h4, unhide H5⟩⟩
      · have HD := hide (decP_none (unhide HRS) hno)
        clear hno b1
        go_wp2_with fail
        go_ret2
        rw [unhide HD, cdO_none]
        exact ⟨_, ⟨_, rfl⟩, unhide HBW, .inl rfl⟩
  · have hb0 : (fld bs 0 == 0) = false := by simpa using hf0
    have HD : Hid (decP bs = none) := hide (by unfold decP headB; rw [decide_eq_false hf0]; simp)
    have hR2 : (2 : Int) ≤ bs.length := by omega
    generalize hN : bs.length = n at *
    have hn0 : 0 < n := by omega
    have z0 : (0 : Int) < n := by omega
    go_enter Try.func10, Try.ntmps10
    go_wp2_with fail
    go_ret2
    rw [unhide HD, cdO_none]
    first | exact ⟨_, _, rfl, Below.refl _ _, .inl rfl⟩ | exact ⟨_, ⟨_, rfl⟩, Below.refl _ _, .inl rfl⟩
end Pa
end Go.Proofs.Ytpknahhdapmcoaa
