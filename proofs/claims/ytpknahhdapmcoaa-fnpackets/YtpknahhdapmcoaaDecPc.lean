/-
  The program's DecodePacket at a slice of any capacity. (written by mkdecpc.py)
-/
import Derived.Test.YtpknahhdapmcoaaDecP
namespace Go.Proofs.Ytpknahhdapmcoaa
open Go.ChangeShapes Go.WideShapes Go.ChangeAt Go.RowKit
set_option linter.unusedVariables false
set_option maxRecDepth 100000
set_option linter.unusedSimpArgs false
namespace Pa
open W1 By De Ml
set_option maxRecDepth 100000 in
set_option maxHeartbeats 4000000 in
theorem implDecPc (g : Nat) (bs : List UInt8) (cap : Nat) (w : World) (hm : bs.length ≤ 1048576) (hcap : bs.length ≤ cap) (hcm : cap ≤ maxLen) (hr : Reads w (some ⟨g, 0, none⟩) bs) :
    Calls Try.prog 10 #[.slice (some ⟨g, 0, none⟩) bs.length cap] w fun e w' => ∃ a c, e = .returned (.tuple #[.slice a (msP bs).length c, .int .i64 (cdP bs)]) ∧ Below w.heap.size w w' ∧ Fresh w w' a (msP bs) := by
  have HR := hide hr
  unfold maxLen at hcm
  by_cases hbig : 65536 < bs.length
  · have h1 : msP bs = [] := by unfold msP; rw [if_pos hbig]
    have h2 : cdP bs = 2 := by unfold cdP; rw [if_pos hbig]
    rw [h1, h2]
    have hb' : (65536 : Int) < bs.length := by omega
    clear hr
    go_enter Try.func10, Try.ntmps10
    go_wp2_with fail
    go_ret2
    exact ⟨_, _, rfl, Below.refl _ _, .inl rfl⟩
  have hb' : ¬ (65536 : Int) < bs.length := by omega
  have h1 : msP bs = msO (decP bs) := by unfold msP; rw [if_neg hbig]
  have h2 : cdP bs = cdO (decP bs) := by unfold cdP; rw [if_neg hbig]
  rw [h1, h2]
  clear h1 h2
  by_cases hl2 : (bs.length : Int) < 2
  · have hd : decP bs = none := by unfold decP headB; rw [decide_eq_false (by omega)]; rfl
    rw [hd, cdO_none, show msO none = [] from rfl]
    clear hr
    go_enter Try.func10, Try.ntmps10
    go_wp2_with fail
    go_ret2
    first | exact ⟨_, _, rfl, Below.refl _ _, .inl rfl⟩ | exact ⟨_, ⟨_, rfl⟩, Below.refl _ _, .inl rfl⟩
  have c0 := reads_at (i := 0) hr (by omega)
  have c1 := reads_at (i := 1) hr (by omega)
  rw [Nat.zero_add] at c0 c1
  clear hr
  have l0 := fld_lo bs 0
  have f1 := fld_lo bs 1
  have f2 := fld_hi bs 1
  have wf1 := wrapF bs 1
  by_cases hf0 : fld bs 0 = 0
  · rw [hf0] at c0
    have HF0 := hide hf0
    clear hf0 l0
    have hlen : (bs.drop 2).length = bs.length - 2 := List.length_drop
    have HRD := hide (reads_drop (n := 2) (unhide HR) (by omega))
    generalize hrs : bs.drop 2 = rs at *
    have HRS := hide hrs
    clear hrs
    generalize hN : bs.length = n at *
    have HN := hide hN
    clear hN
    have z1 : (1 : Int) < n := by omega
    have z0 : (0 : Int) < n := by omega
    have hn0 : 0 < n := by omega
    have z2 : (2 : Int) ≤ n := by omega
    have H1N : Hid (1 < bs.length) := hide (by rw [unhide HN]; omega)
    have HRr := unhide HR
    have z3 : (n : Int) ≤ (cap : Int) := by omega
    by_cases hn2 : cap = 2
    · subst hn2
      obtain rfl : n = 2 := by omega
      have RR : Hid (∀ W : World, Reads W (some ⟨g, 0, none⟩) bs → Reads W (some ⟨g, 0, none⟩) rs) := hide (fun W _ => .inl (List.eq_nil_of_length_eq_zero (by omega)))
      have HL : Hid (rs.length = 0) := hide (by omega)
      clear hlen
      go_enter Try.func10, Try.ntmps10
      go_wp2_with fail
      go_region_held3 (fun w' => Reads w' (some ⟨g, 0, none⟩) bs ∧ w'.cell? ⟨g, 1, none⟩ = some (.int .u8 (fld bs 1)))
        ((go_split_ands; exact sTwo (by first | with_reducible assumption | (with_reducible refine reads_drew ?_; with_reducible assumption) | (exact reads_below (by with_reducible assumption) b1)) (unhide H1N)))
        (first | (go_at_call 36; refine (readAny (some ⟨g, 0, none⟩) rs 0 0 (fld bs 1) _ (unhide HL) (by have := unhide HL; omega) (by have := unhide HL; omega) (by unfold maxLen; omega) ?_).mono ?_; (exact unhide RR _ (by go_split_ands; with_reducible assumption)); rintro e w1 ⟨v1, ok1, rfl, b1, hres⟩; have HRES := hide hres; clear hres))
      have HBW := hide ((Below.refl w.heap.size w).drew.trans (b1.mono (Nat.le_refl _)))
      rcases unhide HRES with ⟨rfl, ms, g1, cp, hin, hp, rfl, h3, h4, h5⟩ | ⟨rfl, hno⟩
      · have HD := hide (decP_some (unhide H1N) (unhide HF0) hin (unhide HRS) hp)
        have H5 := hide h5
        clear hin hp h5 b1
        go_wp2_with fail
        go_ret2
        rw [unhide HD, cdO_some]
        exact ⟨_, ⟨_, rfl⟩, unhide HBW, .inr ⟨g1, rfl, h3, h4, unhide H5⟩⟩
      · have HD := hide (decP_none (unhide HRS) hno)
        clear hno b1
        go_wp2_with fail
        go_ret2
        rw [unhide HD, cdO_none]
        exact ⟨_, ⟨_, rfl⟩, unhide HBW, .inl rfl⟩
    · have hn2' : ¬ cap = 2 := hn2
      have RR : Hid (∀ W : World, Reads W (some ⟨g, 0, none⟩) bs → Reads W (some ⟨g, 2, none⟩) rs) := hide (fun W h => by have h2 := reads_drop (n := 2) h (by rw [unhide HN]; omega); rw [unhide HRS, Nat.zero_add] at h2; exact h2)
      have HL := hide hlen
      clear hlen
      go_enter Try.func10, Try.ntmps10
      go_wp2_with fail
      go_region_held3 (fun w' => Reads w' (some ⟨g, 0, none⟩) bs ∧ w'.cell? ⟨g, 1, none⟩ = some (.int .u8 (fld bs 1)))
        ((go_split_ands; exact sTwo (by first | with_reducible assumption | (with_reducible refine reads_drew ?_; with_reducible assumption) | (exact reads_below (by with_reducible assumption) b1)) (unhide H1N)))
        (first | (go_at_call 36; refine (readAny (some ⟨g, 2, none⟩) rs (n - 2) (cap - 2) (fld bs 1) _ (unhide HL) (by have := unhide HL; omega) (by have := unhide HL; omega) (by unfold maxLen; omega) ?_).mono ?_; (exact unhide RR _ (by go_split_ands; with_reducible assumption)); rintro e w1 ⟨v1, ok1, rfl, b1, hres⟩; have HRES := hide hres; clear hres))
      have HBW := hide ((Below.refl w.heap.size w).drew.trans (b1.mono (Nat.le_refl _)))
      rcases unhide HRES with ⟨rfl, ms, g1, cp, hin, hp, rfl, h3, h4, h5⟩ | ⟨rfl, hno⟩
      · have HD := hide (decP_some (unhide H1N) (unhide HF0) hin (unhide HRS) hp)
        have H5 := hide h5
        clear hin hp h5 b1
        go_wp2_with fail
        go_ret2
        rw [unhide HD, cdO_some]
        exact ⟨_, ⟨_, rfl⟩, unhide HBW, .inr ⟨g1, rfl, h3, h4, unhide H5⟩⟩
      · have HD := hide (decP_none (unhide HRS) hno)
        clear hno b1
        go_wp2_with fail
        go_ret2
        rw [unhide HD, cdO_none]
        exact ⟨_, ⟨_, rfl⟩, unhide HBW, .inl rfl⟩
  · have hb0 : (fld bs 0 == 0) = false := by simpa using hf0
    have HD : Hid (decP bs = none) := hide (by unfold decP headB; rw [decide_eq_false hf0]; simp)
    have hR2 : (2 : Int) ≤ bs.length := by omega
    generalize hN : bs.length = n at *
    have hn0 : 0 < n := by omega
    have z0 : (0 : Int) < n := by omega
    go_enter Try.func10, Try.ntmps10
    go_wp2_with fail
    go_ret2
    rw [unhide HD, cdO_none]
    first | exact ⟨_, _, rfl, Below.refl _ _, .inl rfl⟩ | exact ⟨_, ⟨_, rfl⟩, Below.refl _ _, .inl rfl⟩
end Pa
end Go.Proofs.Ytpknahhdapmcoaa
