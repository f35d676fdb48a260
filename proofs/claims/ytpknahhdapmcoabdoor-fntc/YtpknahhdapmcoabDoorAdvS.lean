/-
  Contracts of the program's reader, further: two bytes, a time, a metric, whether it is done; what it tells of a whole advertisement, over lists.
-/
import Derived.Test.YtpknahhdapmcoabDoorAdvR
namespace Go.Proofs.YtpknahhdapmcoabDoor
open Go.ChangeShapes Go.WideShapes Go.ChangeAt Go.RowKit
set_option linter.unusedVariables false
set_option linter.unusedSimpArgs false
attribute [local go_sem ↓] Go.wp_at_zero Go.wp_at_succ
namespace Av
open W1 Ed De
def timG (bs : List UInt8) (i : Nat) : Bool := decide (fld bs i ≤ 223) && (Tim.tcode (Tim.tim (fld bs i).toNat) == (fld bs i).toNat)
def timV (bs : List UInt8) (i : Nat) : Int := if timG bs i = true then Tim.tim (fld bs i).toNat else 0
def metG (bs : List UInt8) (i : Nat) : Bool := decide (two bs i ≤ 4095)
def metV (bs : List UInt8) (i : Nat) : Int := if metG bs i = true then Mtr.met (two bs i).toNat else 0
/-- The edges that are read from place 4 on, and whether the reader is spoilt behind j of them. -/
def egrp (bs : List UInt8) (k : Nat) : R := ⟨fld bs (4 + 3 * k), metV bs (5 + 3 * k)⟩
def egrps (bs : List UInt8) (n : Nat) : List R := (List.range n).map (egrp bs)
def spN (bs : List UInt8) (sp : Bool) : Nat → Bool
  | 0 => sp
  | j + 1 => spN bs sp j || decide (bs.length ≤ 4 + 3 * j) || decide (bs.length ≤ 6 + 3 * j) || !metG bs (5 + 3 * j)
theorem egrps_len (bs : List UInt8) (n : Nat) : (egrps bs n).length = n := by simp [egrps]
theorem egrps_succ (bs : List UInt8) (n : Nat) : egrps bs (n + 1) = egrps bs n ++ [egrp bs n] := by unfold egrps; rw [List.range_succ, List.map_append]; rfl
/-- Whether the head spoils it. -/
def spH (bs : List UInt8) : Bool := decide (bs.length ≤ 1) || (decide (bs.length ≤ 2) || !timG bs 2) || decide (bs.length ≤ 3)
theorem spN_no {bs : List UInt8} {sp : Bool} : ∀ {j : Nat}, spN bs sp j = false → sp = false ∧ (∀ k, k < j → 6 + 3 * k < bs.length ∧ metG bs (5 + 3 * k) = true)
  | 0, h => ⟨h, fun k hk => by omega⟩
  | j + 1, h => by
    unfold spN at h
    simp only [Bool.or_eq_false_iff, decide_eq_false_iff_not, Bool.not_eq_false'] at h
    obtain ⟨⟨⟨h1, h2⟩, h3⟩, h4⟩ := h
    obtain ⟨i1, i2⟩ := spN_no h1
    refine ⟨i1, fun k hk => ?_⟩
    by_cases e : k = j
    · subst e; exact ⟨by omega, h4⟩
    · exact i2 k (by omega)
theorem spN_of {bs : List UInt8} {sp : Bool} (h0 : sp = false) : ∀ {j : Nat}, (∀ k, k < j → 6 + 3 * k < bs.length ∧ metG bs (5 + 3 * k) = true) → spN bs sp j = false
  | 0, _ => h0
  | j + 1, h => by
    have ih := spN_of h0 (j := j) (fun k hk => h k (by omega))
    have hj := h j (by omega)
    unfold spN
    rw [ih, decide_eq_false (by omega), decide_eq_false (by omega), hj.2]; rfl
theorem egrps_eq {bs : List UInt8} {n : Nat} (h : ∀ k, k < n → metG bs (5 + 3 * k) = true) : egrps bs n = grps bs n := by
  unfold egrps grps
  apply List.map_congr_left
  intro k hk
  unfold egrp grp metV
  rw [if_pos (h k (List.mem_range.1 hk))]
/-- What a reader that is done has read. -/
theorem done_yes {bs : List UInt8} {j : Nat} (hj : j = nOf bs ∨ spN bs (spH bs) j = true) (hs : spN bs (spH bs) j = false) (hl : bs.length ≤ 4 + 3 * j) :
    j = nOf bs ∧ egrps bs j = grps bs (nOf bs) ∧ timV bs 2 = timOf bs ∧ decG bs = tcB (two bs 0) (timOf bs) (grps bs (nOf bs)) := by
  obtain ⟨h1, h2⟩ := spN_no hs
  have e : j = nOf bs := hj.resolve_right (by rw [hs]; simp)
  subst e
  unfold spH at h1
  simp only [Bool.or_eq_false_iff, decide_eq_false_iff_not, Bool.not_eq_false'] at h1
  obtain ⟨⟨a1, a2, a3⟩, a4⟩ := h1
  have hn := n_eq bs
  have hlen : bs.length = 4 + 3 * nOf bs := by
    by_cases e0 : nOf bs = 0
    · omega
    · have := (h2 (nOf bs - 1) (by omega)).1; omega
  have hlb : lenB bs = true := by unfold lenB; rw [decide_eq_true (by omega), decide_eq_true (by omega)]; rfl
  have hcb : codesB bs (nOf bs) = true := codes_of (fun i hi => by have := (h2 i hi).2; unfold metG at this; exact of_decide_eq_true this)
  have h3 := a3
  unfold timG at h3
  simp only [Bool.and_eq_true] at h3
  refine ⟨rfl, egrps_eq (fun k hk => (h2 k hk).2), by unfold timV timOf; rw [if_pos a3], ?_⟩
  have hex : exB bs = true := h3.2
  unfold decG
  rw [hlb, h3.1, hcb, hex]; simp
theorem done_no {bs : List UInt8} {j : Nat} (hj : j = nOf bs ∨ spN bs (spH bs) j = true) (hjn : j ≤ nOf bs) (hd : (!spN bs (spH bs) j && decide (bs.length ≤ 4 + 3 * j)) = false) : decG bs = false := by
  cases hg : decG bs
  · rfl
  · exfalso
    unfold decG at hg
    simp only [Bool.and_eq_true] at hg
    obtain ⟨h1, h2, h3, _, h5⟩ := hg
    have hl := len_eq h1
    have hh : spH bs = false := by
      unfold spH timG
      have h5' : (Tim.tcode (Tim.tim (fld bs 2).toNat) == (fld bs 2).toNat) = true := h5
      rw [decide_eq_false (p := bs.length ≤ 1) (by omega), decide_eq_false (p := bs.length ≤ 2) (by omega), decide_eq_false (p := bs.length ≤ 3) (by omega), h2, h5']; rfl
    have hs : spN bs (spH bs) j = false := spN_of hh (fun k hk => ⟨by omega, decide_eq_true (codes_at h3 (by omega))⟩)
    have e : j = nOf bs := hj.resolve_right (by rw [hs]; simp)
    rw [hs, decide_eq_true (by omega)] at hd
    simp at hd
set_option maxHeartbeats 1000000 in
theorem rtwo (p : Nat) (bs : List UInt8) (i : Nat) (sp : Bool) (w : World) (hm : bs.length ≤ 1048576) (h : Rd w p bs i sp) :
    Calls Tryd.prog 89 #[.pointer (some ⟨p, 0, none⟩)] w fun e w' => e = .returned (.int .i64 (two bs i)) ∧ But p w w' ∧ Rd w' p bs (i + 2) (sp || decide (bs.length ≤ i + 1)) := by
  have HH := hide h
  clear h
  have HE : Hid ((sp || decide (bs.length ≤ i) || decide (bs.length ≤ i + 1)) = (sp || decide (bs.length ≤ i + 1))) := hide (by
    by_cases c : bs.length ≤ i
    · rw [decide_eq_true (show bs.length ≤ i + 1 by omega), Bool.or_true, Bool.or_true]
    · rw [decide_eq_false c, Bool.or_false])
  have x0 := fld_lo bs i
  have x1 := fld_hi bs i
  have y0 := fld_lo bs (i + 1)
  have y1 := fld_hi bs (i + 1)
  have HT : Hid (bits BinOp.or IntKind.i64 (fld bs i * 256) (fld bs (i + 1)) = two bs i) := hide (or_two x0 x1 y0 y1)
  go_enter Tryd.func89, Tryd.ntmps89
  go_wp2_with fail
  refine (one p bs i sp _ hm (unhide HH)).mono ?_
  rintro e w1 ⟨rfl, b1, r1⟩
  have B1 := hide b1
  have R1 := hide r1
  clear b1 r1
  go_wp2_with fail
  refine (one p bs (i + 1) _ _ hm (unhide R1)).mono ?_
  rintro e w2 ⟨rfl, b2, r2⟩
  have B2 := hide ((unhide B1).trans b2)
  have R2 := hide r2
  clear b2 r2
  go_wp2_with fail
  go_ret
  exact ⟨ret_int (unhide HT), unhide B2, by rw [← unhide HE]; exact unhide R2⟩
set_option maxHeartbeats 1000000 in
theorem rtime (p : Nat) (bs : List UInt8) (i : Nat) (sp : Bool) (w : World) (hm : bs.length ≤ 1048576) (h : Rd w p bs i sp) :
    Calls Tryd.prog 90 #[.pointer (some ⟨p, 0, none⟩)] w fun e w' => e = .returned (.int .i64 (timV bs i)) ∧ But p w w' ∧ Rd w' p bs (i + 1) (sp || decide (bs.length ≤ i) || !timG bs i) := by
  have HH := hide h
  clear h
  have x0 := fld_lo bs i
  have x1 := fld_hi bs i
  have HO : Hid (∀ n c, inB (fld bs i) 0 223 = n → (if n = true then (0 : Int) else 4) = c → ∀ W : World, Calls Tryd.prog 80 #[.int .i64 (fld bs i)] W fun e w' => e = .returned (.tuple #[.int .i64 (if n = true then Tim.tim (fld bs i).toNat else 0), .int .i64 c]) ∧ w' = W) := hide (fun n c h1 h2 W => by
    have := Tim.implOf (fld bs i) W
    rw [h1] at this
    rw [← h2]; exact this)
  cases hr : decide (fld bs i ≤ 223)
  · have hr' : ¬ fld bs i ≤ 223 := of_decide_eq_false hr
    have hg : timG bs i = false := by unfold timG; rw [hr]; rfl
    have hv : timV bs i = 0 := by unfold timV; rw [hg]; rfl
    rw [hg, hv, Bool.not_false, Bool.or_true]
    have HC := hide (unhide HO false 4 (by unfold inB; rw [hr]; simp) rfl)
    clear hg hv HO hr
    go_enter Tryd.func90, Tryd.ntmps90
    go_wp2_with fail
    refine (one p bs i sp _ hm (unhide HH)).mono ?_
    rintro e w1 ⟨rfl, b1, s, hs, r1⟩
    have B1 := hide b1
    have R1 := hide r1
    have HS := hide hs
    clear b1 r1 hs
    go_wp2_with fail
    refine (unhide HC _).mono ?_
    rintro e w2 ⟨rfl, rfl⟩
    go_wp2_with fail
    refine (spoil p s _ _ (unhide R1)).mono ?_
    rintro e w3 ⟨rfl, b3, r3⟩
    have B3 := hide ((unhide B1).trans b3)
    have R3 := hide r3
    clear b3 r3
    go_wp2_with fail
    go_ret
    exact ⟨rfl, unhide B3, s, unhide HS, unhide R3⟩
  · have hr' : fld bs i ≤ 223 := of_decide_eq_true hr
    have HC := hide (unhide HO true 0 (by unfold inB; rw [decide_eq_true x0, hr]; rfl) rfl)
    have hti : Tim.tim (fld bs i).toNat ≤ 251658240 := Tim.tim_hi (by omega)
    have HTV : Hid (timG bs i = true → timV bs i = Tim.tim (fld bs i).toNat) := hide (fun h => by unfold timV; rw [if_pos h])
    have HTZ : Hid (timG bs i = false → timV bs i = 0) := hide (fun h => by unfold timV; rw [if_neg (by simp [h])])
    have HTG : Hid (timG bs i = (Tim.tcode (Tim.tim (fld bs i).toNat) == (fld bs i).toNat)) := hide (by unfold timG; rw [hr]; rfl)
    clear HO hr
    generalize Tim.tim (fld bs i).toNat = T at *
    cases hx : (Tim.tcode T == (fld bs i).toNat)
    · have hg : timG bs i = false := by rw [unhide HTG, hx]
      have hv := unhide HTZ hg
      rw [hg, hv, Bool.not_false, Bool.or_true]
      have hne : (((Tim.tcode T : Nat) : Int) != fld bs i) = true := by have := beq_eq_false_iff_ne.1 hx; simp; omega
      clear hg hv HTV HTZ HTG hx
      go_enter Tryd.func90, Tryd.ntmps90
      go_wp2_with fail
      refine (one p bs i sp _ hm (unhide HH)).mono ?_
      rintro e w1 ⟨rfl, b1, r1⟩
      have B1 := hide b1
      have R1 := hide r1
      clear b1 r1
      go_wp2_with fail
      refine (unhide HC _).mono ?_
      rintro e w2 ⟨rfl, rfl⟩
      go_wp2_with fail
      refine (Tim.leastTime T hti _).mono ?_
      rintro e w3 ⟨rfl, b3⟩
      have B3 := hide ((unhide B1).trans (But.of_below b3))
      obtain ⟨s, hs, r3⟩ := (unhide R1).below b3
      have R3 := hide r3
      have HS := hide hs
      clear b3 r3 hs
      go_wp2_with fail
      refine (spoil p s _ _ (unhide R3)).mono ?_
      rintro e w4 ⟨rfl, b4, r4⟩
      have B4 := hide ((unhide B3).trans b4)
      have R4 := hide r4
      clear b4 r4
      go_wp2_with fail
      go_ret
      exact ⟨rfl, unhide B4, s, unhide HS, unhide R4⟩
    · have hg : timG bs i = true := by rw [unhide HTG, hx]
      have hv := unhide HTV hg
      rw [hg, hv, Bool.not_true, Bool.or_false]
      have hne : (((Tim.tcode T : Nat) : Int) != fld bs i) = false := by have := beq_iff_eq.1 hx; simp; omega
      clear hg hv HTV HTZ HTG hx
      go_enter Tryd.func90, Tryd.ntmps90
      go_wp2_with fail
      refine (one p bs i sp _ hm (unhide HH)).mono ?_
      rintro e w1 ⟨rfl, b1, r1⟩
      have B1 := hide b1
      have R1 := hide r1
      clear b1 r1
      go_wp2_with fail
      refine (unhide HC _).mono ?_
      rintro e w2 ⟨rfl, rfl⟩
      go_wp2_with fail
      refine (Tim.leastTime T hti _).mono ?_
      rintro e w3 ⟨rfl, b3⟩
      have B3 := hide ((unhide B1).trans (But.of_below b3))
      have R3 := hide ((unhide R1).below b3)
      clear b3
      go_wp2_with fail
      go_ret
      exact ⟨rfl, unhide B3, unhide R3⟩
set_option maxHeartbeats 1000000 in
theorem rmetric (p : Nat) (bs : List UInt8) (i : Nat) (sp : Bool) (w : World) (hm : bs.length ≤ 1048576) (h : Rd w p bs i sp) :
    Calls Tryd.prog 106 #[.pointer (some ⟨p, 0, none⟩)] w fun e w' => e = .returned (.int .i64 (metV bs i)) ∧ But p w w' ∧ Rd w' p bs (i + 2) (sp || decide (bs.length ≤ i + 1) || !metG bs i) := by
  have HH := hide h
  clear h
  have x0 := two_lo bs i
  have HO : Hid (∀ n c, inB (two bs i) 0 4095 = n → (if n = true then (0 : Int) else 4) = c → ∀ W : World, Calls Tryd.prog 101 #[.int .i64 (two bs i)] W fun e w' => e = .returned (.tuple #[.int .i64 (if n = true then Mtr.met (two bs i).toNat else 0), .int .i64 c]) ∧ w' = W) := hide (fun n c h1 h2 W => by
    have := Mtr.implOf (two bs i) W
    rw [h1] at this
    rw [← h2]; exact this)
  cases hr : metG bs i
  · have hr' : decide (two bs i ≤ 4095) = false := hr
    have hv : metV bs i = 0 := by unfold metV; rw [hr]; rfl
    rw [hv, Bool.not_false, Bool.or_true]
    have HC := hide (unhide HO false 4 (by unfold inB; rw [hr']; simp) rfl)
    clear hv HO hr hr'
    go_enter Tryd.func106, Tryd.ntmps106
    go_wp2_with fail
    refine (rtwo p bs i sp _ hm (unhide HH)).mono ?_
    rintro e w1 ⟨rfl, b1, s, hs, r1⟩
    have B1 := hide b1
    have R1 := hide r1
    have HS := hide hs
    clear b1 r1 hs
    go_wp2_with fail
    refine (unhide HC _).mono ?_
    rintro e w2 ⟨rfl, rfl⟩
    go_wp2_with fail
    refine (spoil p s _ _ (unhide R1)).mono ?_
    rintro e w3 ⟨rfl, b3, r3⟩
    have B3 := hide ((unhide B1).trans b3)
    have R3 := hide r3
    clear b3 r3
    go_wp2_with fail
    go_ret
    exact ⟨rfl, unhide B3, s, unhide HS, unhide R3⟩
  · have hr' : decide (two bs i ≤ 4095) = true := hr
    have hv : metV bs i = Mtr.met (two bs i).toNat := by unfold metV; rw [hr]; rfl
    rw [hv, Bool.not_true, Bool.or_false]
    have HC := hide (unhide HO true 0 (by unfold inB; rw [decide_eq_true x0, hr']; rfl) rfl)
    clear hv HO hr hr'
    go_enter Tryd.func106, Tryd.ntmps106
    go_wp2_with fail
    refine (rtwo p bs i sp _ hm (unhide HH)).mono ?_
    rintro e w1 ⟨rfl, b1, r1⟩
    have B1 := hide b1
    have R1 := hide r1
    clear b1 r1
    go_wp2_with fail
    refine (unhide HC _).mono ?_
    rintro e w2 ⟨rfl, rfl⟩
    go_wp2_with fail
    go_ret
    exact ⟨rfl, unhide B1, unhide R1⟩
set_option maxHeartbeats 1000000 in
theorem isDone (p : Nat) (bs : List UInt8) (i : Nat) (sp : Bool) (w : World) (h : Rd w p bs i sp) :
    Calls Tryd.prog 54 #[.pointer (some ⟨p, 0, none⟩)] w fun e w' => e = .returned (.bool (!sp && decide (bs.length ≤ i))) ∧ w' = w := by
  obtain ⟨s, hs, hd⟩ := h
  have hsz : s.size = bs.length - i := by rw [← List.length_drop, ← hs]; simp
  have c0 := hd.c0
  have c1 := hd.c1
  clear hd hs
  cases sp
  rotate_left
  · go_enter Tryd.func54, Tryd.ntmps54
    go_wp2_with fail
    go_ret
    exact ⟨rfl, rfl⟩
  · by_cases hl : bs.length ≤ i
    · have hz : ((s.size : Int) == 0) = true := beq_iff_eq.2 (by omega)
      have hz2 : s.size = 0 := by omega
      rw [decide_eq_true hl]
      clear hsz
      go_enter Tryd.func54, Tryd.ntmps54
      go_wp2_with fail
      go_ret
      exact ⟨rfl, rfl⟩
    · have hz : ((s.size : Int) == 0) = false := beq_eq_false_iff_ne.2 (by omega)
      have hz2 : ¬ s.size = 0 := by omega
      rw [decide_eq_false hl]
      clear hsz
      go_enter Tryd.func54, Tryd.ntmps54
      go_wp2_with fail
      go_ret
      exact ⟨rfl, rfl⟩
end Av
end Go.Proofs.YtpknahhdapmcoabDoor
