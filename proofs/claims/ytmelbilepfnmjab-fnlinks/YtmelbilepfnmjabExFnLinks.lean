/-
  Proved here: for all slices of bytes, laws.FnLinks returns true (who is heard is heard, who hears us is symmetric with its metric as ours outward, other links stay) and leaves the slices as they were. No condition. (The walk is written by mkfnlinks.py.)
-/
import Derived.Test.YtmelbilepfnmjabLnkT
import Derived.Test.YtmelbilepfnmjabLnkU
import Derived.Test.YtmelbilepfnmjabLnkJ
import Derived.Test.YtmelbilepfnmjabLnkD
import Derived.Test.YtmelbilepfnmjabLnkX
import Derived.Test.YtmelbilepfnmjabHelU
import Derived.Test.YtmelbilepfnmjabAt
namespace Go.Proofs.Ytmelbilepfnmjab.fnLinks
open Go.ChangeShapes Go.WideShapes Go.ChangeAt Go.RowKit
open W1 By Sr Ln
set_option linter.unusedVariables false
set_option linter.unusedSimpArgs false
attribute [local go_sem ↓] Go.wp_at_zero Go.wp_at_succ
theorem own : ownKnob Try.prog.godebug = none := by kernel_rfl
theorem laidOut : laidOutB Try.prog = true := by kernel_rfl
theorem below_dN {w : World} (q : Nat) : Below w.heap.size w (w.drewN q) := ⟨rfl, rfl, rfl, Nat.le_refl _, fun _ _ => rfl⟩
set_option maxRecDepth 100000 in
set_option maxHeartbeats 8000000 in
theorem walk (a : Option Addr) (bs : List UInt8) (cap : Nat) (hm0 : bs.length ≤ maxLen) (a' : Option Addr) (bs' : List UInt8) (cap' : Nat) (hm0' : bs'.length ≤ maxLen) (w : World) (hr : Reads w a bs) (hr' : Reads w a' bs') :
    Calls Try.prog 4 #[.slice a bs.length cap, .slice a' bs'.length cap'] w fun e w' => e = .returned (.bool true) ∧ Below w.heap.size w w' := by
  unfold maxLen at hm0 hm0'
  by_cases hb : (1048576 : Int) < bs.length
  · go_enter Try.func4, Try.ntmps4
    go_wp2
    go_ret
    exact ⟨rfl, Below.refl _ _⟩
  by_cases hb' : (1048576 : Int) < bs'.length
  · go_enter Try.func4, Try.ntmps4
    go_wp2
    go_ret
    exact ⟨rfl, Below.refl _ _⟩
  have hbm : bs.length ≤ 1048576 := by omega
  have hbm' : bs'.length ≤ 1048576 := by omega
  have HR := hide hr
  have HR' := hide hr'
  clear hr hr'
  go_enter Try.func4, Try.ntmps4
  go_wp2_with fail
  refine (linksOf a bs cap _ hbm (unhide HR)).mono ?_
  rintro e w1 ⟨g, ms, c, rfl, hok, hl, b1⟩
  have HOK := hide hok
  have hl8 := links_len hok
  have hml : ms.length ≤ 1048576 := by omega
  have B1 := hide b1
  have L1 := hide hl
  clear hok hl b1
  go_wp2_with fail
  refine (Hl.helloOf a' bs' cap' _ hbm' (Hl.reads_under (unhide HR') (unhide B1))).mono ?_
  rintro e w2 ⟨x, y, b, ns, capn, rfl, hh, hln, b2⟩
  have HH := hide hh
  have h8 := Hl.hel_len hh
  have hv := Hl.hel_valid hh
  have hnl : ns.length ≤ 1048576 := by omega
  have B2 := hide ((unhide B1).trans (b2.mono (unhide B1).size))
  have B3 := hide ((unhide B2).alloc (unhide B2).size (.cells #[.int .i64 x, .int .i64 y, .slice b ns.length capn] 38))
  have T3 := hide (bx3_new w2 x y (.slice b ns.length capn) 38)
  have L3 := hide (((unhide L1).below b2).below ((Below.refl _ _).alloc (Nat.le_refl _) (.cells #[.int .i64 x, .int .i64 y, .slice b ns.length capn] 38)))
  have N3 := hide (hln.below ((Below.refl _ _).alloc (Nat.le_refl _) (.cells #[.int .i64 x, .int .i64 y, .slice b ns.length capn] 38)))
  clear hh hln b2
  go_wp2_with fail
  generalize hW : w2.alloc (.cells #[.int .i64 x, .int .i64 y, .slice b ns.length capn] 38) = w3 at *
  clear hW
  refine (Go.Proofs.Ytmelbilepfnmjab.At.choice a' bs' cap' 0 8 _ (by omega) (by omega) (by omega) hbm' (Hl.reads_under (unhide HR') (unhide B3))).mono ?_
  rintro e w4 ⟨km, rfl, hkm, q4, hq4⟩
  have b4 : Below w3.heap.size w3 w4 := by rw [hq4]; exact below_dN _
  have B4 := hide ((unhide B3).trans (b4.mono (unhide B3).size))
  have T4 := hide ((unhide T3).below b4)
  have L4 := hide ((unhide L3).below b4)
  have N4 := hide ((unhide N3).below b4)
  clear T3 L3 N3
  clear b4 hq4
  go_wp2_with fail
  refine (Go.Proofs.Ytmelbilepfnmjab.At.choice a' bs' cap' 1 8 _ (by omega) (by omega) (by omega) hbm' (Hl.reads_under (unhide HR') (unhide B4))).mono ?_
  rintro e w5 ⟨kf, rfl, hkf, q5, hq5⟩
  have b5 : Below w4.heap.size w4 w5 := by rw [hq5]; exact below_dN _
  have B5 := hide ((unhide B4).trans (b5.mono (unhide B4).size))
  have T5 := hide ((unhide T4).below b5)
  have L5 := hide ((unhide L4).below b5)
  have N5 := hide ((unhide N4).below b5)
  clear T4 L4 N4
  clear b5 hq5
  go_wp2_with fail
  refine (Go.Proofs.Ytmelbilepfnmjab.At.choice a' bs' cap' 2 20 _ (by omega) (by omega) (by omega) hbm' (Hl.reads_under (unhide HR') (unhide B5))).mono ?_
  rintro e w6 ⟨kn, rfl, hkn, q6, hq6⟩
  have b6 : Below w5.heap.size w5 w6 := by rw [hq6]; exact below_dN _
  have B6 := hide ((unhide B5).trans (b6.mono (unhide B5).size))
  have T6 := hide ((unhide T5).below b6)
  have L6 := hide ((unhide L5).below b6)
  have N6 := hide ((unhide N5).below b6)
  clear T5 L5 N5
  clear b6 hq6
  go_wp2_with fail
  refine (Go.Proofs.Ytmelbilepfnmjab.At.choice a' bs' cap' 3 250 _ (by omega) (by omega) (by omega) hbm' (Hl.reads_under (unhide HR') (unhide B6))).mono ?_
  rintro e w7 ⟨kc, rfl, hkc, q7, hq7⟩
  have b7 : Below w6.heap.size w6 w7 := by rw [hq7]; exact below_dN _
  have B7 := hide ((unhide B6).trans (b7.mono (unhide B6).size))
  have T7 := hide ((unhide T6).below b7)
  have L7 := hide ((unhide L6).below b7)
  have N7 := hide ((unhide N6).below b7)
  clear T6 L6 N6
  clear b7 hq7
  obtain ⟨me, hme⟩ : ∃ me : Int, 1 + (km : Int) = me := ⟨_, rfl⟩
  obtain ⟨frm, hfrm⟩ : ∃ frm : Int, 1 + (kf : Int) = frm := ⟨_, rfl⟩
  obtain ⟨cost, hcost⟩ : ∃ cost : Int, 1 + (kc : Int) = cost := ⟨_, rfl⟩
  obtain ⟨now, hnow⟩ : ∃ now : Int, (kn : Int) = now := ⟨_, rfl⟩
  have m1 : 1 ≤ me ∧ me ≤ 8 := by omega
  have f1 : 1 ≤ frm ∧ frm ≤ 8 := by omega
  have c1 : 1 ≤ cost ∧ cost ≤ 256 := by omega
  have n1 : 0 ≤ now ∧ now ≤ 1000000 := by omega
  have HME := hide hme
  have HFR := hide hfrm
  have HCO := hide hcost
  have HNW := hide hnow
  clear hme hfrm hcost hnow
  obtain ⟨z0, z1, z2⟩ := unhide T7
  go_wp2_with fail
  rw [unhide HME, unhide HFR, unhide HCO, unhide HNW]
  clear z0 z1 z2
  refine (implHear g 0 ms c me frm cost now x y b ns capn _ hml hnl (unhide L7).rm (unhide N7).rm).mono ?_
  rintro e w8 ⟨v, rfl, b8, lx⟩
  have B8 := hide ((unhide B7).trans (b8.mono (unhide B7).size))
  have T8 := hide ((unhide T7).below b8)
  have L8 := hide ((unhide L7).below b8)
  have N8 := hide ((unhide N7).below b8)
  clear T7 L7 N7
  clear b8
  obtain ⟨ga, ca, rfl, hlx⟩ := lx
  have X8 := hide hlx
  clear hlx
  obtain ⟨z0, z1, z2⟩ := unhide T8
  go_wp2_with fail
  clear z0 z1 z2
  refine (specHear g 0 ms c me frm cost now x y b ns capn _ hml hnl (unhide L8).rm (unhide N8).rm).mono ?_
  rintro e w9 ⟨v, rfl, b9, lx⟩
  have B9 := hide ((unhide B8).trans (b9.mono (unhide B8).size))
  have T9 := hide ((unhide T8).below b9)
  have L9 := hide ((unhide L8).below b9)
  have N9 := hide ((unhide N8).below b9)
  have X9 := hide ((unhide X8).below b9)
  clear T8 L8 N8 X8
  clear b9
  obtain ⟨gb, cb, rfl, hlx⟩ := lx
  have Y9 := hide hlx
  clear hlx
  have hq : (hearE ms me frm cost now x y ns != hearE ms me frm cost now x y ns) = false := by simp
  have hxl := hear_len ms me frm cost now x y ns
  have hxl' : (hearA ms me frm cost now x y ns).length ≤ 1048576 := Nat.le_trans hxl (by split <;> omega)
  clear hxl
  by_cases hsf : frm = me
  · have he : hearE ms me frm cost now x y ns = 9 := by
      unfold hearE hearC
      rw [code_zero (unhide HOK), if_pos rfl]
      have i1 : inB me 1 8 = true := by simp [inB]; omega
      have i2 : inB frm 1 8 = true := by simp [inB]; omega
      rw [i1, i2, unhide HH, if_pos (by rfl), if_pos hsf]
    have HE := hide he
    have hsb : (frm == me) = true := by simpa using hsf
    clear he hsf
    generalize hAA : hearA ms me frm cost now x y ns = XX at *
    clear hAA
    go_wp2_with fail
    refine (sameLinks _ _ XX _ _ _ hxl' (unhide X9).rm (unhide Y9).rm).mono ?_
    rintro e w10 ⟨rfl, b10⟩
    have B10 := hide ((unhide B9).trans (b10.mono (unhide B9).size))
    have T10 := hide ((unhide T9).below b10)
    have L10 := hide ((unhide L9).below b10)
    have N10 := hide ((unhide N9).below b10)
    have X10 := hide ((unhide X9).below b10)
    have Y10 := hide ((unhide Y9).below b10)
    clear T9 L9 N9 X9 Y9
    clear b10
    rw [unhide HE]
    have HF := B10
    go_wp2_with fail
    go_ret
    exact ⟨rfl, unhide HF⟩
  have he : hearE ms me frm cost now x y ns = 0 := by
    unfold hearE hearC
    rw [code_zero (unhide HOK), if_pos rfl]
    have i1 : inB me 1 8 = true := by simp [inB]; omega
    have i2 : inB frm 1 8 = true := by simp [inB]; omega
    have i3 : inB cost 1 256 = true := by simp [inB]; omega
    have i4 : inB now 0 1000000 = true := by simp [inB]; omega
    rw [i1, i2, unhide HH, if_pos (by rfl), if_neg hsf, i3, i4]; rfl
  obtain ⟨Z, hZ⟩ : ∃ Z, heardR (lkF ms frm) me frm cost now x y ns = Z := ⟨_, rfl⟩
  have hX : hearA ms me frm cost now x y ns = putL ms Z := by unfold hearA; rw [he, if_pos rfl, hZ]
  have zok : okL Z = true := by rw [← hZ]; exact heard_ok (unhide HOK) (unhide HH) f1 c1 n1
  have zad : Z.ad = frm := by rw [← hZ]; exact heard_ad _ _ _ _ _ _ _ _
  have zhd : Z.hd = now + y := by rw [← hZ]; exact heard_hd _ _ _ _ _ _ _ _
  have zci : Z.ci = cost := by rw [← hZ]; exact heard_ci _ _ _ _ _ _ _ _
  have zwl : Z.wl = x := by rw [← hZ]; exact heard_wl _ _ _ _ _ _ _ _
  have zlost : statusV Z (now + y) = 0 := by rw [← hZ]; exact heard_lost _ _ _ _ _ _ _ _
  have HXO := hide (links_put (unhide HOK) zok)
  have HFF : Hid (∀ k, (putL ms Z).find? (isAd k) = if k = frm then some Z else ms.find? (isAd k)) := hide (fun k => by rw [← zad]; exact find_put_at ms Z k)
  have HLK := hide (lk_found (unhide HXO) (k := frm) (z := Z) (by rw [unhide HFF, if_pos rfl]))
  have HOT : Hid (∀ i, i < ms.length → lkE (putL ms Z) (ms.getD i Lk.R.zero).ad = 0 ∧ ((ms.getD i Lk.R.zero).ad ≠ frm → lkA (putL ms Z) (ms.getD i Lk.R.zero).ad = ms.getD i Lk.R.zero)) := hide (fun i hi => by
    have ho := find_own (unhide HOK) hi
    by_cases e : (ms.getD i Lk.R.zero).ad = frm
    · have := lk_found (unhide HXO) (k := (ms.getD i Lk.R.zero).ad) (z := Z) (by rw [unhide HFF, if_pos e])
      exact ⟨this.2, fun h => absurd e h⟩
    · have := lk_found (unhide HXO) (k := (ms.getD i Lk.R.zero).ad) (z := ms.getD i Lk.R.zero) (by rw [unhide HFF, if_neg e]; exact ho)
      exact ⟨this.2, fun _ => this.1⟩)
  have hsb : (frm == me) = false := by simpa using hsf
  have HE := hide he
  have HZZ := hide hZ
  rw [hX] at X9 Y9 hxl' ⊢
  clear he hX hsf zok hZ
  generalize hAA : putL ms Z = XX at *
  clear hAA
  go_wp2_with fail
  refine (sameLinks _ _ XX _ _ _ hxl' (unhide X9).rm (unhide Y9).rm).mono ?_
  rintro e w10 ⟨rfl, b10⟩
  have B10 := hide ((unhide B9).trans (b10.mono (unhide B9).size))
  have T10 := hide ((unhide T9).below b10)
  have L10 := hide ((unhide L9).below b10)
  have N10 := hide ((unhide N9).below b10)
  have X10 := hide ((unhide X9).below b10)
  have Y10 := hide ((unhide Y9).below b10)
  clear T9 L9 N9 X9 Y9
  clear b10
  clear Y10
  rw [unhide HE]
  have hwf : (Lit.int .i64 frm).wf = true := WalkArith.wf_i64 ⟨by omega, by omega⟩
  go_wp2_with fail
  refine (implFind _ XX _ frm hwf _ hxl' (unhide X10).rm).mono ?_
  rintro e w11 ⟨rfl, b11⟩
  have B11 := hide ((unhide B10).trans (b11.mono (unhide B10).size))
  have T11 := hide ((unhide T10).below b11)
  have L11 := hide ((unhide L10).below b11)
  have N11 := hide ((unhide N10).below b11)
  have X11 := hide ((unhide X10).below b11)
  clear T10 L10 N10 X10
  clear b11
  rw [(unhide HLK).1, (unhide HLK).2]
  obtain ⟨sy, co, hZ'⟩ : ∃ sy co, Z = ⟨frm, now + y, sy, cost, co, x⟩ := ⟨Z.sy, Z.co, by rw [← zad, ← zhd, ← zci, ← zwl]⟩
  subst hZ'
  unfold Lk.R.value
  dsimp only at zad zhd zci zwl ⊢
  have hT11 : w2.heap.size < w11.heap.size := (unhide T11).lt
  obtain ⟨w12, hw12⟩ : ∃ w12, w11.alloc (.cells #[.int .i64 frm, .int .i64 (now + y), .int .i64 sy, .int .i64 cost, .int .i64 co, .int .i64 x] 44) = w12 := ⟨_, rfl⟩
  have b12 : Below w11.heap.size w11 w12 := by rw [← hw12]; exact (Below.refl _ _).alloc (Nat.le_refl _) _
  have Z12 : Hid (Ln.Bx w12 w11.heap.size ⟨frm, now + y, sy, cost, co, x⟩) := hide (by rw [← hw12]; exact Ln.bx_new w11 ⟨frm, now + y, sy, cost, co, x⟩ _)
  have HW12 := hide hw12
  clear hw12
  have B12 := hide ((unhide B11).trans (b12.mono (unhide B11).size))
  have T12 := hide ((unhide T11).below b12)
  have L12 := hide ((unhide L11).below b12)
  have N12 := hide ((unhide N11).below b12)
  have X12 := hide ((unhide X11).below b12)
  clear T11 L11 N11 X11
  clear b12

  have t0 : (w11.alloc (.cells #[.int .i64 frm, .int .i64 (now + y), .int .i64 sy, .int .i64 cost, .int .i64 co, .int .i64 x] 44)).cell? ⟨w2.heap.size, 0, none⟩ = some (.int .i64 x) := by rw [unhide HW12]; exact (unhide T12).1
  have t1 : (w11.alloc (.cells #[.int .i64 frm, .int .i64 (now + y), .int .i64 sy, .int .i64 cost, .int .i64 co, .int .i64 x] 44)).cell? ⟨w2.heap.size, 1, none⟩ = some (.int .i64 y) := by rw [unhide HW12]; exact (unhide T12).2.1
  have t2 : (w11.alloc (.cells #[.int .i64 frm, .int .i64 (now + y), .int .i64 sy, .int .i64 cost, .int .i64 co, .int .i64 x] 44)).cell? ⟨w2.heap.size, 2, none⟩ = some (.slice b ns.length capn) := by rw [unhide HW12]; exact (unhide T12).2.2
  have tlt : w2.heap.size < w11.heap.size := hT11
  have tne : ¬ (w2.heap.size = w11.heap.size) := by omega
  have tc0 : w11.cell? ⟨w2.heap.size, 0, none⟩ = some (.int .i64 x) := by rw [World.cell?_alloc_lt _ _ _ (by exact tlt)] at t0; exact t0
  have tc1 : w11.cell? ⟨w2.heap.size, 1, none⟩ = some (.int .i64 y) := by rw [World.cell?_alloc_lt _ _ _ (by exact tlt)] at t1; exact t1
  have tc2 : w11.cell? ⟨w2.heap.size, 2, none⟩ = some (.slice b ns.length capn) := by rw [World.cell?_alloc_lt _ _ _ (by exact tlt)] at t2; exact t2
  clear t0 t1 t2
  go_wp2_with fail
  rw [unhide HW12]
  clear tc0 tc1 tc2
  refine (Hl.implNbOf x y b ns capn me _ hnl (unhide N12).rm).mono ?_
  rintro e w13 ⟨rfl, b13⟩
  have B13 := hide ((unhide B12).trans (b13.mono (unhide B12).size))
  have T13 := hide ((unhide T12).below b13)
  have L13 := hide ((unhide L12).below b13)
  have N13 := hide ((unhide N12).below b13)
  have X13 := hide ((unhide X12).below b13)
  have Z13 := hide ((unhide Z12).below b13)
  clear T12 L12 N12 X12 Z12
  clear b13
  have ha0 : (cost != cost) = false := by simp
  have ha1 : (x != x) = false := by simp
  have ha2 : (now + y != now + y) = false := by simp
  have hwn : IntKind.i64.wrap (now + y) = now + y := by rw [IntKind.wrap_i64]; omega
  have HST : Hid (∀ n, ns.find? (Hl.isAd me) = some n → n.st ≠ 0 → statusV ⟨frm, now + y, sy, cost, co, x⟩ now = 2 ∧ co = n.mt) := hide (fun n hf hs => by have := heard_sym (x := lkF ms frm) (frm := frm) (cost := cost) (now := now) (will := x) hv.1 hf hs; rw [unhide HZZ] at this; exact this)
  have HNS : Hid (∀ n, ns.find? (Hl.isAd me) = some n → n.st = 0 → statusV ⟨frm, now + y, sy, cost, co, x⟩ now = 1) := hide (fun n hf hs => by have := heard_not (x := lkF ms frm) (frm := frm) (cost := cost) (will := x) n1.1 hv.1 hf hs; rw [unhide HZZ] at this; exact this)
  have HLO := hide zlost
  clear zad zhd zci zwl zlost
  cases hf : ns.find? (Hl.isAd me) with
  | none =>
    obtain ⟨q1, q2⟩ := nb_none (unhide HH) hf
    rw [q1, q2]
    unfold Nb.R.zero Nb.R.value
    dsimp only
    clear q1 q2 hf HST HNS
    obtain ⟨w14, hw14⟩ : ∃ w14, w13.alloc (.cells #[.int .i64 0, .int .i64 0, .int .i64 0, .bool false] 48) = w14 := ⟨_, rfl⟩
    have b14 : Below w13.heap.size w13 w14 := by rw [← hw14]; exact (Below.refl _ _).alloc (Nat.le_refl _) _
    have K14 : Hid (Hl.Bx w14 w13.heap.size ⟨0, 0, 0, false⟩) := hide (by rw [← hw14]; exact Hl.bx_new w13 ⟨0, 0, 0, false⟩ _)
    have HW14 := hide hw14
    clear hw14
    have tlt2 : w2.heap.size < w13.heap.size := (unhide T13).lt
    have zlt2 : w11.heap.size < w13.heap.size := (unhide Z13).lt
    have tne2 : ¬ (w2.heap.size = w13.heap.size) := by omega
    have zne2 : ¬ (w11.heap.size = w13.heap.size) := by omega
    obtain ⟨p0, p1, p2, p3, p4, p5⟩ := unhide Z13
    obtain ⟨t0, t1, t2⟩ := unhide T13
    dsimp only at p0 p1 p2 p3 p4 p5
    have B14 := hide ((unhide B13).trans (b14.mono (unhide B13).size))
    have T14 := hide ((unhide T13).below b14)
    have L14 := hide ((unhide L13).below b14)
    have N14 := hide ((unhide N13).below b14)
    have X14 := hide ((unhide X13).below b14)
    have Z14 := hide ((unhide Z13).below b14)
    clear T13 L13 N13 X13 Z13
    clear b14
    go_wp2_with fail
    rw [unhide HW14]
    clear p0 p1 p2 p3 p4 p5 t0 t1 t2
    refine (implOK _ XX _ _ hxl' (unhide X14).rm).mono ?_
    rintro e w15 ⟨rfl, b15⟩
    rw [unhide HXO]
    have B15 := hide ((unhide B14).trans (b15.mono (unhide B14).size))
    have T15 := hide ((unhide T14).below b15)
    have L15 := hide ((unhide L14).below b15)
    have N15 := hide ((unhide N14).below b15)
    have X15 := hide ((unhide X14).below b15)
    have Z15 := hide ((unhide Z14).below b15)
    have K15 := hide ((unhide K14).below b15)
    clear T14 L14 N14 X14 Z14 K14
    clear b15
    obtain ⟨p0, p1, p2, p3, p4, p5⟩ := unhide Z15
    obtain ⟨t0, t1, t2⟩ := unhide T15
    obtain ⟨s0, s1, s2, s3⟩ := unhide K15
    dsimp only at p0 p1 p2 p3 p4 p5 s0 s1 s2 s3
    go_wp2_with fail
    clear p0 p1 p2 p3 p4 p5 t0 t1 t2 s0 s1 s2 s3
    refine (implStatus frm (now + y) sy cost co x (now + y) _).mono ?_
    rintro e w16 ⟨rfl, b16⟩
    rw [unhide HLO]
    have B16 := hide ((unhide B15).trans (b16.mono (unhide B15).size))
    have T16 := hide ((unhide T15).below b16)
    have L16 := hide ((unhide L15).below b16)
    have N16 := hide ((unhide N15).below b16)
    have X16 := hide ((unhide X15).below b16)
    have Z16 := hide ((unhide Z15).below b16)
    have K16 := hide ((unhide K15).below b16)
    clear T15 L15 N15 X15 Z15 K15
    clear b16
    obtain ⟨p0, p1, p2, p3, p4, p5⟩ := unhide Z16
    obtain ⟨t0, t1, t2⟩ := unhide T16
    obtain ⟨s0, s1, s2, s3⟩ := unhide K16
    dsimp only at p0 p1 p2 p3 p4 p5 s0 s1 s2 s3
    go_wp2_with fail
    clear p0 p1 p2 p3 p4 p5 t0 t1 t2 s0 s1 s2 s3
    generalize hN : ms.length = nn at *
    have HN := hide hN
    clear hN
    go_loopw [19] (fun i wr => ∃ j : Nat, j ≤ nn ∧ i = .int .i64 j ∧ Hid (Below w16.heap.size w16 wr)) (fun i _ => nn - (intOf i).toNat)
    case atStart => exact ⟨0, by omega, rfl, hide (Below.refl _ _)⟩
    case round =>
      obtain ⟨j, hj, rfl, hbl⟩ := hrel
      by_cases hlt : (j : Int) < (nn : Int)
      · have k0 : (0 : Int) ≤ (j : Int) := by omega
        have hlen : j < ms.length := by rw [unhide HN]; omega
        have hot := unhide HOT j (by omega)
        have HA := hide (((unhide L16).below (unhide hbl)).rm.at hlen)
        have HXR := hide ((unhide X16).below (unhide hbl)).rm
        have hmad := ok_ad (Ri.all_ok (unhide HOK) hlen)
        generalize ms.getD j Lk.R.zero = m at *
        obtain ⟨mad, mhd, msy, mci, mco, mwl⟩ := m
        dsimp only at hot hmad
        have hwfm : (Lit.int .i64 mad).wf = true := WalkArith.wf_i64 ⟨by omega, by omega⟩
        have HOTE := hide hot.1
        have HOTA := hide hot.2
        clear hot
        obtain ⟨c0, c1, c2, c3, c4, c5⟩ := unhide HA
        dsimp only at c0 c1 c2 c3 c4 c5
        simp only [Nat.zero_add] at c0 c1 c2 c3 c4 c5
        go_wp2_with fail
        clear c0 c1 c2 c3 c4 c5
        refine (implFind _ XX _ mad hwfm _ hxl' (unhide HXR)).mono ?_
        rintro e wf ⟨rfl, bf⟩
        have HAF := hide ((unhide HA).below bf)
        have HBF := hide ((unhide hbl).trans (bf.mono (unhide hbl).size))
        rw [unhide HOTE]
        clear bf
        by_cases hne : mad = frm
        · have hnb : (mad != frm) = false := by simpa using hne
          clear hne
          generalize lkA XX mad = A at *
          obtain ⟨ead, ehd, esy, eci, eco, ewl⟩ := A
          unfold Lk.R.value
          dsimp only
          have HBG := hide ((unhide HBF).alloc (unhide HBF).size (.cells #[.int .i64 ead, .int .i64 ehd, .int .i64 esy, .int .i64 eci, .int .i64 eco, .int .i64 ewl] 44))
          obtain ⟨c0, c1, c2, c3, c4, c5⟩ := (unhide HAF).below ((Below.refl _ _).alloc (Nat.le_refl _) (.cells #[.int .i64 ead, .int .i64 ehd, .int .i64 esy, .int .i64 eci, .int .i64 eco, .int .i64 ewl] 44))
          dsimp only at c0 c1 c2 c3 c4 c5
          simp only [Nat.zero_add] at c0 c1 c2 c3 c4 c5
          go_wp2_with fail
          generalize hWg : wf.alloc (.cells #[.int .i64 ead, .int .i64 ehd, .int .i64 esy, .int .i64 eci, .int .i64 eco, .int .i64 ewl] 44) = Wg at *
          clear hWg
          go_quiet (fail)
          go_wp2_with fail
          go_roundw
          case rel => exact ⟨j + 1, by omega, by go_num, hide (below_drewN (unhide HBG) _)⟩
          case measure => simp [intOf]; omega
        · have hnb : (mad != frm) = true := by simpa using hne
          rw [unhide HOTA hne]
          clear hne
          unfold Lk.R.value
          dsimp only
          have HBG := hide ((unhide HBF).alloc (unhide HBF).size (.cells #[.int .i64 mad, .int .i64 mhd, .int .i64 msy, .int .i64 mci, .int .i64 mco, .int .i64 mwl] 44))
          have HEB := hide (Ln.bx_new wf ⟨mad, mhd, msy, mci, mco, mwl⟩ 44)
          obtain ⟨c0, c1, c2, c3, c4, c5⟩ := (unhide HAF).below ((Below.refl _ _).alloc (Nat.le_refl _) (.cells #[.int .i64 mad, .int .i64 mhd, .int .i64 msy, .int .i64 mci, .int .i64 mco, .int .i64 mwl] 44))
          obtain ⟨e0, e1, e2, e3, e4, e5⟩ := unhide HEB
          dsimp only at c0 c1 c2 c3 c4 c5 e0 e1 e2 e3 e4 e5
          simp only [Nat.zero_add] at c0 c1 c2 c3 c4 c5
          go_wp2_with fail
          generalize hWg : wf.alloc (.cells #[.int .i64 mad, .int .i64 mhd, .int .i64 msy, .int .i64 mci, .int .i64 mco, .int .i64 mwl] 44) = Wg at *
          clear hWg
          go_quiet (fail)
          go_wp2_with fail
          go_roundw
          case rel => exact ⟨j + 1, by omega, by go_num, hide (below_drewN (unhide HBG) _)⟩
          case measure => simp [intOf]; omega
      · have HF := hide ((unhide B16).trans ((unhide hbl).mono (unhide B16).size))
        go_wp2_with fail
        go_ret
        exact ⟨rfl, unhide HF⟩
  | some nb =>
    obtain ⟨q1, q2⟩ := nb_some (unhide HH) hf
    rw [q1, q2]
    obtain ⟨nad, nst, nmt, nmp⟩ := nb
    unfold Nb.R.value
    dsimp only
    clear q1 q2
    by_cases hst : nst = 0
    · have HSS := hide (unhide HNS _ hf hst)
      have hs0 : (nst != 0) = false := by simpa using hst
      have hs1 : (nst == 0) = true := by simpa using hst
      clear hf HST HNS hst
      obtain ⟨w14, hw14⟩ : ∃ w14, w13.alloc (.cells #[.int .i64 nad, .int .i64 nst, .int .i64 nmt, .bool nmp] 48) = w14 := ⟨_, rfl⟩
      have b14 : Below w13.heap.size w13 w14 := by rw [← hw14]; exact (Below.refl _ _).alloc (Nat.le_refl _) _
      have K14 : Hid (Hl.Bx w14 w13.heap.size ⟨nad, nst, nmt, nmp⟩) := hide (by rw [← hw14]; exact Hl.bx_new w13 ⟨nad, nst, nmt, nmp⟩ _)
      have HW14 := hide hw14
      clear hw14
      have tlt2 : w2.heap.size < w13.heap.size := (unhide T13).lt
      have zlt2 : w11.heap.size < w13.heap.size := (unhide Z13).lt
      have tne2 : ¬ (w2.heap.size = w13.heap.size) := by omega
      have zne2 : ¬ (w11.heap.size = w13.heap.size) := by omega
      obtain ⟨p0, p1, p2, p3, p4, p5⟩ := unhide Z13
      obtain ⟨t0, t1, t2⟩ := unhide T13
      dsimp only at p0 p1 p2 p3 p4 p5
      have B14 := hide ((unhide B13).trans (b14.mono (unhide B13).size))
      have T14 := hide ((unhide T13).below b14)
      have L14 := hide ((unhide L13).below b14)
      have N14 := hide ((unhide N13).below b14)
      have X14 := hide ((unhide X13).below b14)
      have Z14 := hide ((unhide Z13).below b14)
      clear T13 L13 N13 X13 Z13
      clear b14
      go_wp2_with fail
      rw [unhide HW14]
      clear p0 p1 p2 p3 p4 p5 t0 t1 t2
      refine (implOK _ XX _ _ hxl' (unhide X14).rm).mono ?_
      rintro e w15 ⟨rfl, b15⟩
      rw [unhide HXO]
      have B15 := hide ((unhide B14).trans (b15.mono (unhide B14).size))
      have T15 := hide ((unhide T14).below b15)
      have L15 := hide ((unhide L14).below b15)
      have N15 := hide ((unhide N14).below b15)
      have X15 := hide ((unhide X14).below b15)
      have Z15 := hide ((unhide Z14).below b15)
      have K15 := hide ((unhide K14).below b15)
      clear T14 L14 N14 X14 Z14 K14
      clear b15
      obtain ⟨p0, p1, p2, p3, p4, p5⟩ := unhide Z15
      obtain ⟨t0, t1, t2⟩ := unhide T15
      obtain ⟨s0, s1, s2, s3⟩ := unhide K15
      dsimp only at p0 p1 p2 p3 p4 p5 s0 s1 s2 s3
      go_wp2_with fail
      clear p0 p1 p2 p3 p4 p5 t0 t1 t2 s0 s1 s2 s3
      refine (implStatus frm (now + y) sy cost co x now _).mono ?_
      rintro e w16 ⟨rfl, b16⟩
      rw [unhide HSS]
      have B16 := hide ((unhide B15).trans (b16.mono (unhide B15).size))
      have T16 := hide ((unhide T15).below b16)
      have L16 := hide ((unhide L15).below b16)
      have N16 := hide ((unhide N15).below b16)
      have X16 := hide ((unhide X15).below b16)
      have Z16 := hide ((unhide Z15).below b16)
      have K16 := hide ((unhide K15).below b16)
      clear T15 L15 N15 X15 Z15 K15
      clear b16
      obtain ⟨p0, p1, p2, p3, p4, p5⟩ := unhide Z16
      obtain ⟨t0, t1, t2⟩ := unhide T16
      obtain ⟨s0, s1, s2, s3⟩ := unhide K16
      dsimp only at p0 p1 p2 p3 p4 p5 s0 s1 s2 s3
      go_wp2_with fail
      clear p0 p1 p2 p3 p4 p5 t0 t1 t2 s0 s1 s2 s3
      refine (implStatus frm (now + y) sy cost co x (now + y) _).mono ?_
      rintro e w17 ⟨rfl, b17⟩
      rw [unhide HLO]
      have B17 := hide ((unhide B16).trans (b17.mono (unhide B16).size))
      have T17 := hide ((unhide T16).below b17)
      have L17 := hide ((unhide L16).below b17)
      have N17 := hide ((unhide N16).below b17)
      have X17 := hide ((unhide X16).below b17)
      have Z17 := hide ((unhide Z16).below b17)
      have K17 := hide ((unhide K16).below b17)
      clear T16 L16 N16 X16 Z16 K16
      clear b17
      obtain ⟨p0, p1, p2, p3, p4, p5⟩ := unhide Z17
      obtain ⟨t0, t1, t2⟩ := unhide T17
      obtain ⟨s0, s1, s2, s3⟩ := unhide K17
      dsimp only at p0 p1 p2 p3 p4 p5 s0 s1 s2 s3
      go_wp2_with fail
      clear p0 p1 p2 p3 p4 p5 t0 t1 t2 s0 s1 s2 s3
      generalize hN : ms.length = nn at *
      have HN := hide hN
      clear hN
      go_loopw [19] (fun i wr => ∃ j : Nat, j ≤ nn ∧ i = .int .i64 j ∧ Hid (Below w17.heap.size w17 wr)) (fun i _ => nn - (intOf i).toNat)
      case atStart => exact ⟨0, by omega, rfl, hide (Below.refl _ _)⟩
      case round =>
        obtain ⟨j, hj, rfl, hbl⟩ := hrel
        by_cases hlt : (j : Int) < (nn : Int)
        · have k0 : (0 : Int) ≤ (j : Int) := by omega
          have hlen : j < ms.length := by rw [unhide HN]; omega
          have hot := unhide HOT j (by omega)
          have HA := hide (((unhide L17).below (unhide hbl)).rm.at hlen)
          have HXR := hide ((unhide X17).below (unhide hbl)).rm
          have hmad := ok_ad (Ri.all_ok (unhide HOK) hlen)
          generalize ms.getD j Lk.R.zero = m at *
          obtain ⟨mad, mhd, msy, mci, mco, mwl⟩ := m
          dsimp only at hot hmad
          have hwfm : (Lit.int .i64 mad).wf = true := WalkArith.wf_i64 ⟨by omega, by omega⟩
          have HOTE := hide hot.1
          have HOTA := hide hot.2
          clear hot
          obtain ⟨c0, c1, c2, c3, c4, c5⟩ := unhide HA
          dsimp only at c0 c1 c2 c3 c4 c5
          simp only [Nat.zero_add] at c0 c1 c2 c3 c4 c5
          go_wp2_with fail
          clear c0 c1 c2 c3 c4 c5
          refine (implFind _ XX _ mad hwfm _ hxl' (unhide HXR)).mono ?_
          rintro e wf ⟨rfl, bf⟩
          have HAF := hide ((unhide HA).below bf)
          have HBF := hide ((unhide hbl).trans (bf.mono (unhide hbl).size))
          rw [unhide HOTE]
          clear bf
          by_cases hne : mad = frm
          · have hnb : (mad != frm) = false := by simpa using hne
            clear hne
            generalize lkA XX mad = A at *
            obtain ⟨ead, ehd, esy, eci, eco, ewl⟩ := A
            unfold Lk.R.value
            dsimp only
            have HBG := hide ((unhide HBF).alloc (unhide HBF).size (.cells #[.int .i64 ead, .int .i64 ehd, .int .i64 esy, .int .i64 eci, .int .i64 eco, .int .i64 ewl] 44))
            obtain ⟨c0, c1, c2, c3, c4, c5⟩ := (unhide HAF).below ((Below.refl _ _).alloc (Nat.le_refl _) (.cells #[.int .i64 ead, .int .i64 ehd, .int .i64 esy, .int .i64 eci, .int .i64 eco, .int .i64 ewl] 44))
            dsimp only at c0 c1 c2 c3 c4 c5
            simp only [Nat.zero_add] at c0 c1 c2 c3 c4 c5
            go_wp2_with fail
            generalize hWg : wf.alloc (.cells #[.int .i64 ead, .int .i64 ehd, .int .i64 esy, .int .i64 eci, .int .i64 eco, .int .i64 ewl] 44) = Wg at *
            clear hWg
            go_quiet (fail)
            go_wp2_with fail
            go_roundw
            case rel => exact ⟨j + 1, by omega, by go_num, hide (below_drewN (unhide HBG) _)⟩
            case measure => simp [intOf]; omega
          · have hnb : (mad != frm) = true := by simpa using hne
            rw [unhide HOTA hne]
            clear hne
            unfold Lk.R.value
            dsimp only
            have HBG := hide ((unhide HBF).alloc (unhide HBF).size (.cells #[.int .i64 mad, .int .i64 mhd, .int .i64 msy, .int .i64 mci, .int .i64 mco, .int .i64 mwl] 44))
            have HEB := hide (Ln.bx_new wf ⟨mad, mhd, msy, mci, mco, mwl⟩ 44)
            obtain ⟨c0, c1, c2, c3, c4, c5⟩ := (unhide HAF).below ((Below.refl _ _).alloc (Nat.le_refl _) (.cells #[.int .i64 mad, .int .i64 mhd, .int .i64 msy, .int .i64 mci, .int .i64 mco, .int .i64 mwl] 44))
            obtain ⟨e0, e1, e2, e3, e4, e5⟩ := unhide HEB
            dsimp only at c0 c1 c2 c3 c4 c5 e0 e1 e2 e3 e4 e5
            simp only [Nat.zero_add] at c0 c1 c2 c3 c4 c5
            go_wp2_with fail
            generalize hWg : wf.alloc (.cells #[.int .i64 mad, .int .i64 mhd, .int .i64 msy, .int .i64 mci, .int .i64 mco, .int .i64 mwl] 44) = Wg at *
            clear hWg
            go_quiet (fail)
            go_wp2_with fail
            go_roundw
            case rel => exact ⟨j + 1, by omega, by go_num, hide (below_drewN (unhide HBG) _)⟩
            case measure => simp [intOf]; omega
        · have HF := hide ((unhide B17).trans ((unhide hbl).mono (unhide B17).size))
          go_wp2_with fail
          go_ret
          exact ⟨rfl, unhide HF⟩
    · have HSS := hide (unhide HST _ hf hst)
      have hs0 : (nst != 0) = true := by simpa using hst
      have hs1 : (nst == 0) = false := by simpa using hst
      have hco : (co != nmt) = false := by have := (unhide HSS).2; simpa using this
      clear hf HST HNS hst
      obtain ⟨w14, hw14⟩ : ∃ w14, w13.alloc (.cells #[.int .i64 nad, .int .i64 nst, .int .i64 nmt, .bool nmp] 48) = w14 := ⟨_, rfl⟩
      have b14 : Below w13.heap.size w13 w14 := by rw [← hw14]; exact (Below.refl _ _).alloc (Nat.le_refl _) _
      have K14 : Hid (Hl.Bx w14 w13.heap.size ⟨nad, nst, nmt, nmp⟩) := hide (by rw [← hw14]; exact Hl.bx_new w13 ⟨nad, nst, nmt, nmp⟩ _)
      have HW14 := hide hw14
      clear hw14
      have tlt2 : w2.heap.size < w13.heap.size := (unhide T13).lt
      have zlt2 : w11.heap.size < w13.heap.size := (unhide Z13).lt
      have tne2 : ¬ (w2.heap.size = w13.heap.size) := by omega
      have zne2 : ¬ (w11.heap.size = w13.heap.size) := by omega
      obtain ⟨p0, p1, p2, p3, p4, p5⟩ := unhide Z13
      obtain ⟨t0, t1, t2⟩ := unhide T13
      dsimp only at p0 p1 p2 p3 p4 p5
      have B14 := hide ((unhide B13).trans (b14.mono (unhide B13).size))
      have T14 := hide ((unhide T13).below b14)
      have L14 := hide ((unhide L13).below b14)
      have N14 := hide ((unhide N13).below b14)
      have X14 := hide ((unhide X13).below b14)
      have Z14 := hide ((unhide Z13).below b14)
      clear T13 L13 N13 X13 Z13
      clear b14
      go_wp2_with fail
      rw [unhide HW14]
      clear p0 p1 p2 p3 p4 p5 t0 t1 t2
      refine (implOK _ XX _ _ hxl' (unhide X14).rm).mono ?_
      rintro e w15 ⟨rfl, b15⟩
      rw [unhide HXO]
      have B15 := hide ((unhide B14).trans (b15.mono (unhide B14).size))
      have T15 := hide ((unhide T14).below b15)
      have L15 := hide ((unhide L14).below b15)
      have N15 := hide ((unhide N14).below b15)
      have X15 := hide ((unhide X14).below b15)
      have Z15 := hide ((unhide Z14).below b15)
      have K15 := hide ((unhide K14).below b15)
      clear T14 L14 N14 X14 Z14 K14
      clear b15
      obtain ⟨p0, p1, p2, p3, p4, p5⟩ := unhide Z15
      obtain ⟨t0, t1, t2⟩ := unhide T15
      obtain ⟨s0, s1, s2, s3⟩ := unhide K15
      dsimp only at p0 p1 p2 p3 p4 p5 s0 s1 s2 s3
      go_wp2_with fail
      clear p0 p1 p2 p3 p4 p5 t0 t1 t2 s0 s1 s2 s3
      refine (implStatus frm (now + y) sy cost co x now _).mono ?_
      rintro e w16 ⟨rfl, b16⟩
      rw [(unhide HSS).1]
      have B16 := hide ((unhide B15).trans (b16.mono (unhide B15).size))
      have T16 := hide ((unhide T15).below b16)
      have L16 := hide ((unhide L15).below b16)
      have N16 := hide ((unhide N15).below b16)
      have X16 := hide ((unhide X15).below b16)
      have Z16 := hide ((unhide Z15).below b16)
      have K16 := hide ((unhide K15).below b16)
      clear T15 L15 N15 X15 Z15 K15
      clear b16
      obtain ⟨p0, p1, p2, p3, p4, p5⟩ := unhide Z16
      obtain ⟨t0, t1, t2⟩ := unhide T16
      obtain ⟨s0, s1, s2, s3⟩ := unhide K16
      dsimp only at p0 p1 p2 p3 p4 p5 s0 s1 s2 s3
      go_wp2_with fail
      clear p0 p1 p2 p3 p4 p5 t0 t1 t2 s0 s1 s2 s3
      refine (implStatus frm (now + y) sy cost co x (now + y) _).mono ?_
      rintro e w17 ⟨rfl, b17⟩
      rw [unhide HLO]
      have B17 := hide ((unhide B16).trans (b17.mono (unhide B16).size))
      have T17 := hide ((unhide T16).below b17)
      have L17 := hide ((unhide L16).below b17)
      have N17 := hide ((unhide N16).below b17)
      have X17 := hide ((unhide X16).below b17)
      have Z17 := hide ((unhide Z16).below b17)
      have K17 := hide ((unhide K16).below b17)
      clear T16 L16 N16 X16 Z16 K16
      clear b17
      obtain ⟨p0, p1, p2, p3, p4, p5⟩ := unhide Z17
      obtain ⟨t0, t1, t2⟩ := unhide T17
      obtain ⟨s0, s1, s2, s3⟩ := unhide K17
      dsimp only at p0 p1 p2 p3 p4 p5 s0 s1 s2 s3
      go_wp2_with fail
      clear p0 p1 p2 p3 p4 p5 t0 t1 t2 s0 s1 s2 s3
      generalize hN : ms.length = nn at *
      have HN := hide hN
      clear hN
      go_loopw [19] (fun i wr => ∃ j : Nat, j ≤ nn ∧ i = .int .i64 j ∧ Hid (Below w17.heap.size w17 wr)) (fun i _ => nn - (intOf i).toNat)
      case atStart => exact ⟨0, by omega, rfl, hide (Below.refl _ _)⟩
      case round =>
        obtain ⟨j, hj, rfl, hbl⟩ := hrel
        by_cases hlt : (j : Int) < (nn : Int)
        · have k0 : (0 : Int) ≤ (j : Int) := by omega
          have hlen : j < ms.length := by rw [unhide HN]; omega
          have hot := unhide HOT j (by omega)
          have HA := hide (((unhide L17).below (unhide hbl)).rm.at hlen)
          have HXR := hide ((unhide X17).below (unhide hbl)).rm
          have hmad := ok_ad (Ri.all_ok (unhide HOK) hlen)
          generalize ms.getD j Lk.R.zero = m at *
          obtain ⟨mad, mhd, msy, mci, mco, mwl⟩ := m
          dsimp only at hot hmad
          have hwfm : (Lit.int .i64 mad).wf = true := WalkArith.wf_i64 ⟨by omega, by omega⟩
          have HOTE := hide hot.1
          have HOTA := hide hot.2
          clear hot
          obtain ⟨c0, c1, c2, c3, c4, c5⟩ := unhide HA
          dsimp only at c0 c1 c2 c3 c4 c5
          simp only [Nat.zero_add] at c0 c1 c2 c3 c4 c5
          go_wp2_with fail
          clear c0 c1 c2 c3 c4 c5
          refine (implFind _ XX _ mad hwfm _ hxl' (unhide HXR)).mono ?_
          rintro e wf ⟨rfl, bf⟩
          have HAF := hide ((unhide HA).below bf)
          have HBF := hide ((unhide hbl).trans (bf.mono (unhide hbl).size))
          rw [unhide HOTE]
          clear bf
          by_cases hne : mad = frm
          · have hnb : (mad != frm) = false := by simpa using hne
            clear hne
            generalize lkA XX mad = A at *
            obtain ⟨ead, ehd, esy, eci, eco, ewl⟩ := A
            unfold Lk.R.value
            dsimp only
            have HBG := hide ((unhide HBF).alloc (unhide HBF).size (.cells #[.int .i64 ead, .int .i64 ehd, .int .i64 esy, .int .i64 eci, .int .i64 eco, .int .i64 ewl] 44))
            obtain ⟨c0, c1, c2, c3, c4, c5⟩ := (unhide HAF).below ((Below.refl _ _).alloc (Nat.le_refl _) (.cells #[.int .i64 ead, .int .i64 ehd, .int .i64 esy, .int .i64 eci, .int .i64 eco, .int .i64 ewl] 44))
            dsimp only at c0 c1 c2 c3 c4 c5
            simp only [Nat.zero_add] at c0 c1 c2 c3 c4 c5
            go_wp2_with fail
            generalize hWg : wf.alloc (.cells #[.int .i64 ead, .int .i64 ehd, .int .i64 esy, .int .i64 eci, .int .i64 eco, .int .i64 ewl] 44) = Wg at *
            clear hWg
            go_quiet (fail)
            go_wp2_with fail
            go_roundw
            case rel => exact ⟨j + 1, by omega, by go_num, hide (below_drewN (unhide HBG) _)⟩
            case measure => simp [intOf]; omega
          · have hnb : (mad != frm) = true := by simpa using hne
            rw [unhide HOTA hne]
            clear hne
            unfold Lk.R.value
            dsimp only
            have HBG := hide ((unhide HBF).alloc (unhide HBF).size (.cells #[.int .i64 mad, .int .i64 mhd, .int .i64 msy, .int .i64 mci, .int .i64 mco, .int .i64 mwl] 44))
            have HEB := hide (Ln.bx_new wf ⟨mad, mhd, msy, mci, mco, mwl⟩ 44)
            obtain ⟨c0, c1, c2, c3, c4, c5⟩ := (unhide HAF).below ((Below.refl _ _).alloc (Nat.le_refl _) (.cells #[.int .i64 mad, .int .i64 mhd, .int .i64 msy, .int .i64 mci, .int .i64 mco, .int .i64 mwl] 44))
            obtain ⟨e0, e1, e2, e3, e4, e5⟩ := unhide HEB
            dsimp only at c0 c1 c2 c3 c4 c5 e0 e1 e2 e3 e4 e5
            simp only [Nat.zero_add] at c0 c1 c2 c3 c4 c5
            go_wp2_with fail
            generalize hWg : wf.alloc (.cells #[.int .i64 mad, .int .i64 mhd, .int .i64 msy, .int .i64 mci, .int .i64 mco, .int .i64 mwl] 44) = Wg at *
            clear hWg
            go_quiet (fail)
            go_wp2_with fail
            go_roundw
            case rel => exact ⟨j + 1, by omega, by go_num, hide (below_drewN (unhide HBG) _)⟩
            case measure => simp [intOf]; omega
        · have HF := hide ((unhide B17).trans ((unhide hbl).mono (unhide B17).size))
          go_wp2_with fail
          go_ret
          exact ⟨rfl, unhide HF⟩

set_option maxRecDepth 100000 in
theorem lifted (os : Os) (started : os.Started) (H : Type) (enc : TypeId × Value → H) :
    ReturnsInHanded {} Try.checked os 4 .any (Rows.fnLinksSpec.pre6 enc Try.prog Try.f4 Rows.fnLinksRow.domain false) (Rows.fnLinksSpec.post enc Try.prog Try.f4 false true false false) := by
  refine returnsInHanded_of_change (C := Try.checked) own started (by kernel_rfl) Try.func4
    (ChangeSpec.witness6 (enc := enc) (C := Try.checked) false ⟨#[], #[.slice none 0 0, .slice none 0 0], []⟩ 8 (by kernel_rfl) (by kernel_rfl) (by kernel_rfl) (by kernel_rfl)) ?_
  intro W base args ds gs before hval0 hW hcnd _
  have hval : ∀ (j : Nat) t v, Try.f4.params[j]? = some t → args[j]? = some v → Value.okWide Try.prog W .any base t v := hval0
  have hW' := hW
  obtain ⟨p, q, hA0, hV, rfl, hfz, hnd⟩ := hW
  have hA : DataW.TrodAll enc Try.prog W 0 (fun _ => true) true Try.f4.params.toList args.toList ds p := hA0
  rw [Try.params4] at hA hval
  obtain ⟨v0, vs0, d0, ds0, p0, q0, hargs0, rfl, rfl, h0, r0⟩ := trodAll_cons hA
  obtain ⟨v1, vs1, d1, ds1, p1, q1, hargs1, rfl, rfl, h1, r1⟩ := trodAll_cons r0
  obtain ⟨rfl, rfl, rfl⟩ := trodAll_nil r1
  obtain rfl : args = #[v0, v1] := by cases args; simp_all
  obtain ⟨rfl, rfl⟩ := trodVars_none hV
  have k0 := h0
  have lt0 : ∀ x ∈ p0, x.block < W.heap.size := by obtain ⟨m, hm⟩ := k0; exact DataW.trod_lt m _ _ _ hm
  have k1 := h1
  have lt1 : ∀ x ∈ p1, x.block < W.heap.size := by obtain ⟨m, hm⟩ := k1; exact DataW.trod_lt m _ _ _ hm
  obtain ⟨a0, len0, cap0, rfl⟩ := okWide_slice Try.underlying22 (hval 0 22 v0 rfl rfl)
  obtain ⟨bs0, hlen0, hmx0, hrd0⟩ := Op.open_bytes h0
  subst hlen0
  obtain ⟨a1, len1, cap1, rfl⟩ := okWide_slice Try.underlying22 (hval 1 22 v1 rfl rfl)
  obtain ⟨bs1, hlen1, hmx1, hrd1⟩ := Op.open_bytes h1
  subst hlen1
  clear hA0 hval0
  refine (walk a0 bs0 cap0 hmx0 a1 bs1 cap1 hmx1 W hrd0 hrd1).mono fun e W' ⟨he, bel⟩ => ?_
  subst he
  exact ⟨_, rfl, _, _, _, [], _, [], hW', trodAll_mk1 (shut_bool Try.underlying4 _), (trodAll_cons_mk (Below.trod laidOut (by kernel_rfl) (of_decide_eq_true (by kernel_rfl)) k0 bel lt0) (trodAll_cons_mk (Below.trod laidOut (by kernel_rfl) (of_decide_eq_true (by kernel_rfl)) k1 bel lt1) trodAll_mk0)), rfl, bel.frame _, fun h => by cases h⟩

theorem over : Rows.fnLinksRow.holds Try.pinned (OpenSpec.ofChange Rows.fnLinksSpec) :=
  OpenClaim.holds_of_wide 4 Try.f4 rfl rfl rfl rfl rfl rfl rfl ⟨rfl, rfl, rfl, rfl, rfl⟩ rfl rfl rfl rfl rfl (by kernel_rfl) Try.func4 (by kernel_rfl)
    (of_decide_eq_true (by kernel_rfl)) (by unfold Func.isWrapper; first | (rw [if_pos (by decide +kernel)]; kernel_rfl) | (rw [if_neg (by decide +kernel)]; exact ⟨rfl, rfl⟩))
    (fun os started H enc _ => lifted os started H enc)
end Go.Proofs.Ytmelbilepfnmjab.fnLinks
namespace Go.Proofs.Ytmelbilepfnmjab
/-- For all slices of bytes, laws.FnLinks returns true. -/
theorem fnLinks_holds : Rows.FnLinksSaid := fnLinks.over
end Go.Proofs.Ytmelbilepfnmjab
