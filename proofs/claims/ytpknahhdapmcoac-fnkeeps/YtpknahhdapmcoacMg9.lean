/-
  The model's contract: RouteMprs. The model's contract: RouteMprs; and how many relays for routes there can be. Contracts: TwoCost, the program's and the model's, of addresses. Math of FnKeeps: by relays for routes alone no way costs more.
-/
import Derived.Test.YtpknahhdapmcoacMg8
namespace Go.Proofs.Ytpknahhdapmcoac
open Go.ChangeShapes Go.WideShapes Go.ChangeAt Go.RowKit
set_option linter.unusedVariables false
set_option linter.unusedSimpArgs false
attribute [local go_sem ↓] Go.wp_at_zero Go.wp_at_succ
namespace Wa
open W1 Tu St Tw Mr Gp
set_option maxRecDepth 100000 in
set_option maxHeartbeats 16000000 in
theorem l08Route (g0 o0 : Nat) (ms : List R) (cap : Nat) (a : Option Addr) (ls : List Lk.R) (capl : Nat) (me now : Int) (w : World) (hok : twoB ms = true ∧ Ln.linksB ls = true) (hr0 : RM w (some ⟨g0, o0, none⟩) ms) (hr : Lk.RM w a ls) :
    Calls Try.prog 73 #[.slice (some ⟨g0, o0, none⟩) ms.length cap, .slice a ls.length capl, .int .i64 me, .int .i64 now] w fun e w' => ∃ v, e = .returned v ∧ Below w.heap.size w w' ∧ In.LstV w' v (sortV (rsO (findT ms) ls me now 8)) w.heap.size w'.heap.size := by
  have HR := hide hr
  have HM := hide hr0
  have HOK := hide hok
  have HS := hide (two_set hok.1)
  have h8 := Ln.links_len hok.2
  have hl64 := setB_len (two_set hok.1)
  clear hr hr0 hok
  obtain ⟨f, hf⟩ : ∃ f, findT ms = f := ⟨_, rfl⟩
  have HF := hide hf
  rw [hf]
  clear hf
  obtain ⟨RO, hRO⟩ : ∃ RO, rsO f ls me now = RO := ⟨_, rfl⟩
  have HRS := hide (fun n => rsO_succ f ls me now n)
  have HRL := hide (fun n => rsO_len f ls me now n)
  have HR0 : Hid (RO 0 = []) := hide (by rw [← hRO]; rfl)
  rw [hRO] at HRS HRL ⊢
  clear hRO
  have P0 := hide ((Below.refl w.heap.size w).alloc (Nat.le_refl _) (.cells #[] 3))
  have O1 : Hid ((w.alloc (.cells #[] 3)).ownsRow w.heap.size 3 1 (.slice (some ⟨w.heap.size, 0, none⟩) 0 0) (RO 0).length (In.flat (RO 0))) := hide (by rw [unhide HR0]; exact In.own_empty w w.heap.size (Nat.le_refl _))
  go_enter Try.func73, Try.ntmps73
  go_wp2_with fail
  go_loopw [9, 10] (fun v i wo => ∃ j : Nat, j ≤ 8 ∧ i = .int .i64 ((j : Int) + 1) ∧ Hid (wo.ownsRow w.heap.size 3 1 v (RO j).length (In.flat (RO j))) ∧ Hid (Below w.heap.size w wo)) (fun _ i _ => 9 - (intOf i).toNat)
  case atStart => exact ⟨0, by omega, rfl, O1, P0⟩
  case round =>
    rename World => wo
    obtain ⟨j, hj, rfl, how, hbl⟩ := hrel
    have hbs := (unhide hbl).size
    by_cases hlt : (j : Int) + 1 ≤ 8
    · have HRj := hide (unhide HRS j)
      have hrl := unhide HRL j
      have HQ : Hid (rsQ f ls me now ((j : Int) + 1) = if (((j : Int) + 1) == me) = true then none else (rsV f ls ((j : Int) + 1) now (costV f ls ((j : Int) + 1) now [] ls.length) ls.length).map (fun b => (ls.getD b Lk.R.zero).ad)) := hide rfl
      cases hme : (((j : Int) + 1) == me)
      rotate_left
      · have HE : Hid (RO (j + 1) = RO j) := hide (by rw [unhide HRj, unhide HQ, hme]; rfl)
        have HO : Hid (wo.ownsRow w.heap.size 3 1 u9 (RO (j + 1)).length (In.flat (RO (j + 1)))) := hide (by rw [unhide HE]; exact unhide how)
        clear HRj HQ
        go_wp2_with fail
        go_roundw
        case rel => exact ⟨j + 1, by omega, by go_num, HO, hbl⟩
        case measure => simp [intOf]; omega
      rw [hme, if_neg (by simp)] at HQ
      obtain ⟨ad, had⟩ : ∃ ad : Int, (j : Int) + 1 = ad := ⟨_, rfl⟩
      have hadr : 1 ≤ ad ∧ ad ≤ 8 := by omega
      have HAD := hide had
      have HQ2 : Hid (RO (j + 1) = addO (RO j) ((rsV f ls ad now (costV f ls ad now [] ls.length) ls.length).map (fun b => (ls.getD b Lk.R.zero).ad))) := hide (by rw [← had, unhide HRj, unhide HQ])
      rw [had] at hme hlt ⊢
      clear had HRj HQ
      have HMr := hide ((unhide HM).below (unhide hbl))
      have HLr := hide ((unhide HR).below (unhide hbl))
      have HBe := hide ((unhide hbl).alloc hbs (.cells #[] 3))
      have HOe := hide ((unhide how).alloc (.cells #[] 3))
      have HMe := hide ((unhide HMr).below ((Below.refl _ _).alloc (Nat.le_refl _) (.cells #[] 3)))
      have HLe := hide ((unhide HLr).below ((Below.refl _ _).alloc (Nat.le_refl _) (.cells #[] 3)))
      have HCO := hide (fun W b2 caps h1 h2 => l08Cost g0 o0 ms cap a ls capl ad now b2 [] caps W (by omega) (by omega) (by simp) (unhide HOK) h1 h2 (.inl rfl))
      rw [unhide HF] at HCO
      go_wp2_with fail
      refine (unhide HCO _ _ _ (unhide HMe) (unhide HLe)).mono ?_
      rintro e w2 ⟨rfl, b2⟩
      have HB2 := hide ((unhide HBe).trans (b2.mono (unhide HBe).size))
      have HO2 := hide (own_below (unhide HOe) b2)
      clear b2 HMr HLr HBe HOe HMe HLe HCO
      obtain ⟨st, hst⟩ : ∃ st, costV f ls ad now [] ls.length = st := ⟨_, rfl⟩
      rw [hst] at HQ2 ⊢
      clear hst
      go_wp2_with fail
      go_loopw [12, 13, 14] (fun b c i wr => ∃ k : Nat, k ≤ ls.length ∧ i = .int .i64 (k : Int) ∧ (∃ o : Option Nat, b = .int .i64 (idxV o) ∧ Hid (rsV f ls ad now st k = o) ∧ ∃ cv : Int, c = .int .i64 cv ∧ Hid (∀ x, o = some x → cv = cW f ad (ls.getD x Lk.R.zero))) ∧ Hid (Below w2.heap.size w2 wr)) (fun _ _ i _ => ls.length - (intOf i).toNat)
      case atStart => exact ⟨0, by omega, rfl, ⟨none, rfl, hide rfl, 0, rfl, hide (fun x h => by cases h)⟩, hide (Below.refl _ _)⟩
      case round =>
        obtain ⟨k, hk, rfl, ⟨o, rfl, hov, cv, rfl, hcv⟩, hb3⟩ := hrel
        have HBr := hide ((unhide HB2).trans ((unhide hb3).mono (unhide HB2).size))
        have hbr := (unhide HBr).size
        have hbr2 := (unhide hb3).size
        by_cases hlt2 : (k : Int) < (ls.length : Int)
        · have k0 : (0 : Int) ≤ (k : Int) := by omega
          have hlen : k < ls.length := by omega
          obtain ⟨gl, ol, rfl⟩ := (unhide HR).form (by omega)
          obtain ⟨c0, c1, c2, c3, c4, c5⟩ := ((unhide HR).below (unhide HBr)).at hlen
          have hmok := Ri.all_ok (unhide HOK).2 hlen
          have had2 := Ln.ok_ad hmok
          have hci := Ln.ok_ci hmok
          have hwl := Ln.ok_wl hmok
          have hft := find_tb (unhide HS) (v := (ls.getD k Lk.R.zero).ad) (a := ad) (by omega) (by omega) (by omega)
          have hfv := find_val (unhide HS) (ls.getD k Lk.R.zero).ad ad
          rw [unhide HF] at hft hfv
          have HSK := hide (fun (h : okW f ad now st (ls.getD k Lk.R.zero) = false) => rs_skip h)
          have HFI := hide (fun (h : okW f ad now st (ls.getD k Lk.R.zero) = true) hn => rs_first h hn)
          have HNX := hide (fun b (h : okW f ad now st (ls.getD k Lk.R.zero) = true) hn => rs_next (b := b) h hn)
          have HLT := hide (fun b (h : rsV f ls ad now st k = some b) => rs_lt h)
          rw [unhide hov] at HSK
          obtain ⟨m, hm⟩ : ∃ m, ls.getD k Lk.R.zero = m := ⟨_, rfl⟩
          have HMK := hide hm
          rw [hm] at c0 c1 c2 c3 c4 c5 hmok had2 hci hwl hft hfv HSK HFI HNX
          clear hm
          have HOW : Hid (okW f ad now st m = (((Ln.statusV m now == 2) && (decide (0 < m.wl) && keptB (f m.ad ad) now)) && !(decide (0 ≤ st) && decide (st ≤ cW f ad m)))) := hide rfl
          have hkb : keptB (f m.ad ad) now = ((f m.ad ad).isSome && decide (now < ((f m.ad ad).getD R.zero).til)) := by cases f m.ad ad <;> rfl
          have hcw : cW f ad m = m.ci + ((f m.ad ad).getD R.zero).val := rfl
          rw [hkb, hft.1, hft.2] at HOW
          rw [hft.2] at hcw hfv
          have HCW := hide hcw
          have HFV := hide hfv
          clear hkb hcw hfv hft hmok
          have HBA := hide ((unhide hb3).alloc hbr2 (.cells #[.int .i64 m.ad, .int .i64 m.hd, .int .i64 m.sy, .int .i64 m.ci, .int .i64 m.co, .int .i64 m.wl] 30))
          have HX := hide (Ln.bx_new wr m 30)
          have HMA := hide ((unhide HM).below ((unhide HBr).alloc hbr (.cells #[.int .i64 m.ad, .int .i64 m.hd, .int .i64 m.sy, .int .i64 m.ci, .int .i64 m.co, .int .i64 m.wl] 30)))
          obtain ⟨d0, d1, d2, d3, d4, d5⟩ := unhide HX
          go_wp2_with fail
          generalize hW : wr.alloc (.cells #[.int .i64 m.ad, .int .i64 m.hd, .int .i64 m.sy, .int .i64 m.ci, .int .i64 m.co, .int .i64 m.wl] 30) = W0 at *
          clear hW
          refine (l07KeyW m.ad ad _ (by omega) (by omega) (by omega) (by omega)).mono ?_
          rintro e w4 ⟨rfl, hw4⟩
          rw [hw4]
          clear hw4
          go_wp2_with fail
          refine (l03Find g0 o0 ms cap (100 * m.ad + ad) _ (by omega) (unhide HMA)).mono ?_
          rintro e w5 ⟨rfl, b5⟩
          have HB5 := hide ((unhide HBA).trans (b5.mono (unhide HBA).size))
          have HX5 := hide ((unhide HX).below b5)
          clear b5 d0 d1 d2 d3 d4 d5 c0 c1 c2 c3 c4 c5
          generalize thereB ms (100 * m.ad + ad) = tb at *
          generalize (if tb = true then ms.getD (place ms (100 * m.ad + ad)) R.zero else R.zero) = T at *
          obtain ⟨ke, ti, va⟩ := T
          unfold R.value
          dsimp only at HOW HCW HFV ⊢
          have hT := unhide HFV
          have hsw := (unhide HB5).size
          have HBT := hide ((unhide HB5).alloc hsw (.cells #[.int .i64 ke, .int .i64 ti, .int .i64 va] 28))
          have HXT := hide ((unhide HX5).below ((Below.refl _ _).alloc (Nat.le_refl _) (.cells #[.int .i64 ke, .int .i64 ti, .int .i64 va] 28)))
          obtain ⟨d0, d1, d2, d3, d4, d5⟩ := unhide HXT
          (try dsimp only at d0 d1 d2 d3 d4 d5)
          cases tb
          · have HE : Hid (rsV f ls ad now st (k + 1) = o) := hide (unhide HSK (by rw [unhide HOW, Bool.false_and, Bool.and_false, Bool.and_false]; rfl))
            clear HSK HFI HNX HLT HOW HFV HCW HMK
            go_wp2_with fail
            go_roundw
            case rel => exact ⟨k + 1, by omega, by go_num, ⟨o, rfl, HE, cv, rfl, hcv⟩, HBT⟩
            case measure => simp [intOf]; omega
          by_cases hti : now < ti
          rotate_left
          · have HE : Hid (rsV f ls ad now st (k + 1) = o) := hide (unhide HSK (by rw [unhide HOW, decide_eq_false hti, Bool.and_false, Bool.and_false, Bool.and_false]; rfl))
            clear HSK HFI HNX HLT HOW HFV HCW HMK
            go_wp2_with fail
            go_roundw
            case rel => exact ⟨k + 1, by omega, by go_num, ⟨o, rfl, HE, cv, rfl, hcv⟩, HBT⟩
            case measure => simp [intOf]; omega
          rw [decide_eq_true hti, Bool.and_self, Bool.and_true] at HOW
          have HT3 := hide (bx3_new w5 ke ti (.int .i64 va) 28)
          go_wp2_with fail
          generalize hW6 : w5.alloc (.cells #[.int .i64 ke, .int .i64 ti, .int .i64 va] 28) = W6 at *
          clear hW6
          refine (Ln.l06Status _ _ _ _ _ _ now _).mono ?_
          rintro e w7 ⟨rfl, b7⟩
          have e2 : Ln.statusV ⟨m.ad, m.hd, m.sy, m.ci, m.co, m.wl⟩ now = Ln.statusV m now := rfl
          rw [e2]
          clear e2 d0 d1 d2 d3 d4 d5
          obtain ⟨d0, d1, d2, d3, d4, d5⟩ := (unhide HXT).below b7
          obtain ⟨t0, t1, t2⟩ := (unhide HT3).below b7
          have HBQ := hide ((unhide HBT).trans (b7.mono (unhide HBT).size))
          have HLQ := hide ((unhide HR).below ((unhide HB2).trans ((unhide HBQ).mono (unhide HB2).size)))
          clear b7
          cases hsy : (Ln.statusV m now == 2)
          · clear HLQ
            have hs2 : (Ln.statusV m now != 2) = true := by rw [bne, hsy]; rfl
            generalize hsv : Ln.statusV m now = sv at *
            have HE : Hid (rsV f ls ad now st (k + 1) = o) := hide (unhide HSK (by rw [unhide HOW, hsy]; rfl))
            clear HSK HFI HNX HLT HOW HFV HCW HMK
            go_wp2_with fail
            go_roundw
            case rel => exact ⟨k + 1, by omega, by go_num, ⟨o, rfl, HE, cv, rfl, hcv⟩, HBQ⟩
            case measure => simp [intOf]; omega
          rw [hsy, Bool.true_and] at HOW
          have hs2 : (Ln.statusV m now != 2) = false := by rw [bne, hsy]; rfl
          cases hw0 : (m.wl == 0)
          rotate_left
          · have hwz : decide (0 < m.wl) = false := decide_eq_false (by have := eq_of_beq hw0; omega)
            generalize Ln.statusV m now = sv at *
            have HE : Hid (rsV f ls ad now st (k + 1) = o) := hide (unhide HSK (by rw [unhide HOW, hwz]; rfl))
            clear HSK HFI HNX HLT HOW HFV HCW HMK
            go_wp2_with fail
            go_roundw
            case rel => exact ⟨k + 1, by omega, by go_num, ⟨o, rfl, HE, cv, rfl, hcv⟩, HBQ⟩
            case measure => simp [intOf]; omega
          rw [decide_eq_true (show 0 < m.wl by have := beq_eq_false_iff_ne.1 hw0; omega), Bool.true_and] at HOW
          have hsum : IntKind.i64.wrap (m.ci + va) = m.ci + va := by rw [IntKind.wrap_i64]; omega
          rw [unhide HCW] at HOW
          generalize Ln.statusV m now = sv at *
          by_cases hbar : 0 ≤ st ∧ st ≤ m.ci + va
          · obtain ⟨hb1, hb2⟩ := hbar
            have HE : Hid (rsV f ls ad now st (k + 1) = o) := hide (unhide HSK (by rw [unhide HOW, decide_eq_true hb1, decide_eq_true hb2]; rfl))
            clear HSK HFI HNX HLT HOW HFV HCW HMK
            go_wp2_with fail
            go_roundw
            case rel => exact ⟨k + 1, by omega, by go_num, ⟨o, rfl, HE, cv, rfl, hcv⟩, HBQ⟩
            case measure => simp [intOf]; omega
          have HOT : Hid (okW f ad now st m = true) := hide (by
            rw [unhide HOW]
            by_cases hb1 : 0 ≤ st
            · rw [decide_eq_true hb1, decide_eq_false (show ¬ st ≤ m.ci + va from fun h => hbar ⟨hb1, h⟩)]; rfl
            · rw [decide_eq_false hb1]; rfl)
          have hbx : (decide (0 ≤ st) && decide (st ≤ m.ci + va)) = false := by
            by_cases hb1 : 0 ≤ st
            · rw [decide_eq_true hb1, decide_eq_false (show ¬ st ≤ m.ci + va from fun h => hbar ⟨hb1, h⟩)]; rfl
            · rw [decide_eq_false hb1]; rfl
          clear HSK HOW HFV
          by_cases hs0 : 0 ≤ st
          · have hs1 : ¬ st ≤ m.ci + va := fun h => hbar ⟨hs0, h⟩
            clear hbar
            rcases o with _ | b
            · have HE : Hid (rsV f ls ad now st (k + 1) = some k) := hide (unhide HFI (unhide HOT) (unhide hov))
              have HC : Hid (∀ x, (some k : Option Nat) = some x → m.ci + va = cW f ad (ls.getD x Lk.R.zero)) := hide (fun x h => by cases h; rw [unhide HMK, unhide HCW])
              have e0 : idxV none = -1 := rfl
              rw [e0]
              clear e0 HFI HNX HLT HCW HMK HOT HLQ
              go_wp2_with fail
              go_quiet (fail)
              go_wp2_with fail
              go_roundw
              case rel => exact ⟨k + 1, by omega, by go_num, ⟨some k, rfl, HE, m.ci + va, rfl, HC⟩, hide (Tw.below_drewN (unhide HBQ) _)⟩
              case measure => simp [intOf]; omega
            have hbk := unhide HLT b (unhide hov)
            have hbl2 : b < ls.length := by omega
            have hcb := unhide hcv b rfl
            have HN2 := hide (unhide HNX b (unhide HOT) (unhide hov))
            have HC : Hid (∀ x, (some k : Option Nat) = some x → m.ci + va = cW f ad (ls.getD x Lk.R.zero)) := hide (fun x h => by cases h; rw [unhide HMK, unhide HCW])
            obtain ⟨f0, f1, f2, f3, f4, f5⟩ := (unhide HLQ).at hbl2
            have HBT2 : Hid (btW f ad m (ls.getD b Lk.R.zero) = (decide (m.ci + va < cv) || ((m.ci + va == cv) && decide ((ls.getD b Lk.R.zero).wl < m.wl)))) := hide (by rw [hcb, ← unhide HCW]; rfl)
            clear f0 f1 f2 f3 f4 hcb
            have kb0 : (0 : Int) ≤ (b : Int) := by omega
            have kb1 : (b : Int) < (ls.length : Int) := by omega
            have kb2 : decide ((b : Int) < 0) = false := decide_eq_false (by omega)
            have e1 : idxV (some b) = (b : Int) := rfl
            rw [e1]
            clear e1 HFI HNX HLT HCW HMK HOT HLQ
            generalize (ls.getD b Lk.R.zero).wl = xw at *
            by_cases h1 : m.ci + va < cv
            · have hd1 : decide (m.ci + va < cv) = true := decide_eq_true h1
              have HE : Hid (rsV f ls ad now st (k + 1) = some k) := hide (by rw [unhide HN2, unhide HBT2, hd1]; rfl)
              clear HN2 HBT2
              go_wp2_with fail
              go_quiet (fail)
              go_wp2_with fail
              go_roundw
              case rel => exact ⟨k + 1, by omega, by go_num, ⟨some k, rfl, HE, m.ci + va, rfl, HC⟩, hide (Tw.below_drewN (unhide HBQ) _)⟩
              case measure => simp [intOf]; omega
            have hd1 : decide (m.ci + va < cv) = false := decide_eq_false h1
            cases hd2 : (m.ci + va == cv)
            · have HE : Hid (rsV f ls ad now st (k + 1) = some b) := hide (by rw [unhide HN2, unhide HBT2, hd1, hd2]; rfl)
              clear HN2 HBT2
              go_wp2_with fail
              go_quiet (fail)
              go_wp2_with fail
              go_roundw
              case rel => exact ⟨k + 1, by omega, by go_num, ⟨some b, rfl, HE, cv, rfl, hcv⟩, hide (Tw.below_drewN (unhide HBQ) _)⟩
              case measure => simp [intOf]; omega
            by_cases h3 : xw < m.wl
            · have hd3 : decide (xw < m.wl) = true := decide_eq_true h3
              have HE : Hid (rsV f ls ad now st (k + 1) = some k) := hide (by rw [unhide HN2, unhide HBT2, hd1, hd2, hd3]; rfl)
              clear HN2 HBT2
              go_wp2_with fail
              go_quiet (fail)
              go_wp2_with fail
              go_roundw
              case rel => exact ⟨k + 1, by omega, by go_num, ⟨some k, rfl, HE, m.ci + va, rfl, HC⟩, hide (Tw.below_drewN (unhide HBQ) _)⟩
              case measure => simp [intOf]; omega
            · have hd3 : decide (xw < m.wl) = false := decide_eq_false h3
              have HE : Hid (rsV f ls ad now st (k + 1) = some b) := hide (by rw [unhide HN2, unhide HBT2, hd1, hd2, hd3]; rfl)
              clear HN2 HBT2
              go_wp2_with fail
              go_quiet (fail)
              go_wp2_with fail
              go_roundw
              case rel => exact ⟨k + 1, by omega, by go_num, ⟨some b, rfl, HE, cv, rfl, hcv⟩, hide (Tw.below_drewN (unhide HBQ) _)⟩
              case measure => simp [intOf]; omega
          · clear hbar
            rcases o with _ | b
            · have HE : Hid (rsV f ls ad now st (k + 1) = some k) := hide (unhide HFI (unhide HOT) (unhide hov))
              have HC : Hid (∀ x, (some k : Option Nat) = some x → m.ci + va = cW f ad (ls.getD x Lk.R.zero)) := hide (fun x h => by cases h; rw [unhide HMK, unhide HCW])
              have e0 : idxV none = -1 := rfl
              rw [e0]
              clear e0 HFI HNX HLT HCW HMK HOT HLQ
              go_wp2_with fail
              go_quiet (fail)
              go_wp2_with fail
              go_roundw
              case rel => exact ⟨k + 1, by omega, by go_num, ⟨some k, rfl, HE, m.ci + va, rfl, HC⟩, hide (Tw.below_drewN (unhide HBQ) _)⟩
              case measure => simp [intOf]; omega
            have hbk := unhide HLT b (unhide hov)
            have hbl2 : b < ls.length := by omega
            have hcb := unhide hcv b rfl
            have HN2 := hide (unhide HNX b (unhide HOT) (unhide hov))
            have HC : Hid (∀ x, (some k : Option Nat) = some x → m.ci + va = cW f ad (ls.getD x Lk.R.zero)) := hide (fun x h => by cases h; rw [unhide HMK, unhide HCW])
            obtain ⟨f0, f1, f2, f3, f4, f5⟩ := (unhide HLQ).at hbl2
            have HBT2 : Hid (btW f ad m (ls.getD b Lk.R.zero) = (decide (m.ci + va < cv) || ((m.ci + va == cv) && decide ((ls.getD b Lk.R.zero).wl < m.wl)))) := hide (by rw [hcb, ← unhide HCW]; rfl)
            clear f0 f1 f2 f3 f4 hcb
            have kb0 : (0 : Int) ≤ (b : Int) := by omega
            have kb1 : (b : Int) < (ls.length : Int) := by omega
            have kb2 : decide ((b : Int) < 0) = false := decide_eq_false (by omega)
            have e1 : idxV (some b) = (b : Int) := rfl
            rw [e1]
            clear e1 HFI HNX HLT HCW HMK HOT HLQ
            generalize (ls.getD b Lk.R.zero).wl = xw at *
            by_cases h1 : m.ci + va < cv
            · have hd1 : decide (m.ci + va < cv) = true := decide_eq_true h1
              have HE : Hid (rsV f ls ad now st (k + 1) = some k) := hide (by rw [unhide HN2, unhide HBT2, hd1]; rfl)
              clear HN2 HBT2
              go_wp2_with fail
              go_quiet (fail)
              go_wp2_with fail
              go_roundw
              case rel => exact ⟨k + 1, by omega, by go_num, ⟨some k, rfl, HE, m.ci + va, rfl, HC⟩, hide (Tw.below_drewN (unhide HBQ) _)⟩
              case measure => simp [intOf]; omega
            have hd1 : decide (m.ci + va < cv) = false := decide_eq_false h1
            cases hd2 : (m.ci + va == cv)
            · have HE : Hid (rsV f ls ad now st (k + 1) = some b) := hide (by rw [unhide HN2, unhide HBT2, hd1, hd2]; rfl)
              clear HN2 HBT2
              go_wp2_with fail
              go_quiet (fail)
              go_wp2_with fail
              go_roundw
              case rel => exact ⟨k + 1, by omega, by go_num, ⟨some b, rfl, HE, cv, rfl, hcv⟩, hide (Tw.below_drewN (unhide HBQ) _)⟩
              case measure => simp [intOf]; omega
            by_cases h3 : xw < m.wl
            · have hd3 : decide (xw < m.wl) = true := decide_eq_true h3
              have HE : Hid (rsV f ls ad now st (k + 1) = some k) := hide (by rw [unhide HN2, unhide HBT2, hd1, hd2, hd3]; rfl)
              clear HN2 HBT2
              go_wp2_with fail
              go_quiet (fail)
              go_wp2_with fail
              go_roundw
              case rel => exact ⟨k + 1, by omega, by go_num, ⟨some k, rfl, HE, m.ci + va, rfl, HC⟩, hide (Tw.below_drewN (unhide HBQ) _)⟩
              case measure => simp [intOf]; omega
            · have hd3 : decide (xw < m.wl) = false := decide_eq_false h3
              have HE : Hid (rsV f ls ad now st (k + 1) = some b) := hide (by rw [unhide HN2, unhide HBT2, hd1, hd2, hd3]; rfl)
              clear HN2 HBT2
              go_wp2_with fail
              go_quiet (fail)
              go_wp2_with fail
              go_roundw
              case rel => exact ⟨k + 1, by omega, by go_num, ⟨some b, rfl, HE, cv, rfl, hcv⟩, hide (Tw.below_drewN (unhide HBQ) _)⟩
              case measure => simp [intOf]; omega
        · obtain rfl : k = ls.length := by omega
          have HO3 := hide (own_below (unhide HO2) (unhide hb3))
          rcases o with _ | b
          · have HE : Hid (RO (j + 1) = RO j) := hide (by rw [unhide HQ2, unhide hov]; rfl)
            have HO : Hid (wr.ownsRow w.heap.size 3 1 u9 (RO (j + 1)).length (In.flat (RO (j + 1)))) := hide (by rw [unhide HE]; exact unhide HO3)
            have e0 : idxV none = -1 := rfl
            rw [e0]
            clear e0
            go_wp2_with fail
            go_roundw
            case rel => exact ⟨j + 1, by have := unhide HAD; omega, by rw [← unhide HAD]; go_num, HO, HBr⟩
            case measure => simp only [intOf]; omega
          have hbl2 : b < ls.length := rs_lt (unhide hov)
          obtain ⟨gl, ol, rfl⟩ := (unhide HR).form (by omega)
          obtain ⟨f0, f1, f2, f3, f4, f5⟩ := ((unhide HR).below (unhide HBr)).at hbl2
          clear f1 f2 f3 f4 f5
          have HST : Hid (RO (j + 1) = addO (RO j) (some (ls.getD b Lk.R.zero).ad)) := hide (by rw [unhide HQ2, unhide hov]; rfl)
          generalize (ls.getD b Lk.R.zero).ad = y at *
          have kb0 : (0 : Int) ≤ (b : Int) := by omega
          have kb1 : (b : Int) < (ls.length : Int) := by omega
          have kb2 : decide ((0 : Int) ≤ (b : Int)) = true := decide_eq_true (by omega)
          have e1 : idxV (some b) = (b : Int) := rfl
          rw [e1]
          clear e1 HQ2
          obtain ⟨ao, co, rfl, hro⟩ := own_list (unhide HO3)
          have HRO := hide hro
          clear hro
          have hr8 : (RO j).length ≤ 8 := by omega
          obtain ⟨r, hr⟩ : ∃ r, RO j = r := ⟨_, rfl⟩
          rw [hr] at HRO HO3 HST hr8 ⊢
          clear hr
          go_wp2_with fail
          refine (l07Has ao r co y _ (by omega) (unhide HRO)).mono ?_
          rintro e w8 ⟨rfl, hw8⟩
          rw [hw8]
          clear hw8
          have HS2 : Hid (RO (j + 1) = if r.contains y = true then r else r ++ [y]) := hide (by rw [unhide HST]; rfl)
          clear HST
          obtain ⟨q, hq⟩ : ∃ q, r.contains y = q := ⟨_, rfl⟩
          rw [hq] at HS2 ⊢
          clear hq
          cases q
          · have HTF : Hid (RO (j + 1) = r ++ [y]) := hide (by rw [unhide HS2]; rfl)
            clear HS2
            go_wp2_with (at_builtin; refine wpList_apL ((unhide HO3).alloc _) wr.heap.size 0 1 1 [y] rfl (by omega) (In.rm_new wr y) (by simp only [List.length_cons, List.length_nil]; omega) (by simp; omega) rfl _ _ rfl rfl rfl ?_; intro v' w' ho hg hv; have HO : Hid (w'.ownsRow w.heap.size 3 1 v' (RO (j + 1)).length (In.flat (RO (j + 1)))) := hide (by rw [unhide HTF]; exact ho); have HB := hide (In.below_own ((unhide HBr).alloc hbr _) ((unhide HO3).alloc _) hg (Nat.le_refl _) (by simp; omega)); clear ho hg hv)
            go_roundw
            case rel => exact ⟨j + 1, by have := unhide HAD; omega, by rw [← unhide HAD]; go_num, HO, HB⟩
            case measure => simp only [intOf]; omega
          · have HTF : Hid (RO (j + 1) = r) := hide (by rw [unhide HS2]; rfl)
            have HO : Hid (wr.ownsRow w.heap.size 3 1 (.slice (ao) r.length co) (RO (j + 1)).length (In.flat (RO (j + 1)))) := hide (by rw [unhide HTF]; exact unhide HO3)
            clear HS2
            go_wp2_with fail
            go_roundw
            case rel => exact ⟨j + 1, by have := unhide HAD; omega, by rw [← unhide HAD]; go_num, HO, HBr⟩
            case measure => simp only [intOf]; omega
    · obtain rfl : j = 8 := by omega
      have hrl := unhide HRL 8
      obtain ⟨ao, co, rfl, hro⟩ := own_list (unhide how)
      have HRO := hide hro
      clear hro
      obtain ⟨r, hr⟩ : ∃ r, RO 8 = r := ⟨_, rfl⟩
      rw [hr] at HRO hrl ⊢
      go_wp2_with fail
      refine (l08Sorted ao r co _ (by omega) (unhide HRO)).mono ?_
      rintro e w7 ⟨v7, rfl, b7, l7⟩
      have HB7 := hide ((unhide hbl).trans (b7.mono hbs))
      have HL7 := hide (l7.mono (lo' := w.heap.size) hbs (Nat.le_refl _))
      clear b7 l7
      go_wp2_with fail
      go_ret
      exact ⟨_, rfl, unhide HB7, by rw [hr]; exact unhide HL7⟩
end Wa
end Go.Proofs.Ytpknahhdapmcoac
namespace Go.Proofs.Ytpknahhdapmcoac
open Go.ChangeShapes Go.WideShapes Go.ChangeAt Go.RowKit
set_option linter.unusedVariables false
set_option linter.unusedSimpArgs false
attribute [local go_sem ↓] Go.wp_at_zero Go.wp_at_succ
namespace Wa
open W1 Tu St Tw Mr Gp
theorem rout_len (ms : List R) (ls : List Lk.R) (me now : Int) : (routA ms ls me now).length ≤ 1048576 := by
  unfold routA
  split
  · exact Nat.le_trans (strN_len _ _) (by omega)
  · simp
set_option maxRecDepth 100000 in
set_option maxHeartbeats 2000000 in
theorem specRoute (g off : Nat) (ms : List R) (cap : Nat) (b : Option Addr) (ls : List Lk.R) (capl : Nat) (me now : Int) (w : World) (hm : ms.length ≤ 1048576) (hl : ls.length ≤ 1048576) (hr : RM w (some ⟨g, off, none⟩) ms) (hr' : Lk.RM w b ls) :
    Calls Try.prog 25 #[.slice (some ⟨g, off, none⟩) ms.length cap, .slice b ls.length capl, .int .i64 me, .int .i64 now] w fun e w' => ∃ v, e = .returned (.tuple #[v, .int .i64 (codeTL ms ls)]) ∧ Below w.heap.size w w' ∧ In.LstV w' v (routA ms ls me now) w.heap.size w'.heap.size := by
  have HR := hide hr
  have HL := hide hr'
  clear hr hr'
  by_cases hb1 : (4096 : Int) < ms.length
  · have hc := codeTL_long (ms := ms) (ls := ls) (.inl (by omega))
    have ha : routA ms ls me now = [] := by unfold routA; rw [hc]; simp
    rw [hc, ha]
    clear hc ha
    go_enter Try.func25, Try.ntmps25
    go_wp2_with fail
    go_ret2
    exact ⟨_, rfl, (Below.refl _ _).alloc (Nat.le_refl _) _, In.lstV_nil _ _ _ _ _⟩
  by_cases hb2 : (4096 : Int) < ls.length
  · have hc := codeTL_long (ms := ms) (ls := ls) (.inr (by omega))
    have ha : routA ms ls me now = [] := by unfold routA; rw [hc]; simp
    rw [hc, ha]
    clear hc ha
    go_enter Try.func25, Try.ntmps25
    go_wp2_with fail
    go_ret2
    exact ⟨_, rfl, (Below.refl _ _).alloc (Nat.le_refl _) _, In.lstV_nil _ _ _ _ _⟩
  by_cases hc : codeTL ms ls = 0
  rotate_left
  · have h1 : routA ms ls me now = [] := by unfold routA; rw [if_neg hc]
    rw [h1]
    clear h1
    generalize hcd : codeTL ms ls = cd at *
    have HC := hide hcd
    clear hcd
    have q1 : (cd != 0) = true := by simpa using hc
    go_enter Try.func25, Try.ntmps25
    go_wp2_with fail
    refine (l07Ask _ ms cap _ ls capl _ (by omega) (by omega) (unhide HR) (unhide HL)).mono ?_
    rintro e w1 ⟨rfl, b1⟩
    rw [unhide HC]
    have HB1 := hide b1
    clear b1
    go_wp2_with fail
    go_ret2
    exact ⟨_, rfl, (unhide HB1).alloc (unhide HB1).size _, In.lstV_nil _ _ _ _ _⟩
  have h1 : routA ms ls me now = sortV (rsO (findT ms) ls me now 8) := by unfold routA; rw [if_pos hc]; exact (rout_same (codeTL_ok hc).2 (fun addr v => (find_val (two_set (codeTL_ok hc).1) v addr).1)).symm
  have HOK := hide (codeTL_ok hc)
  rw [h1, hc]
  have HC := hide hc
  clear h1 hc
  go_enter Try.func25, Try.ntmps25
  go_wp2_with fail
  refine (l07Ask _ ms cap _ ls capl _ (by omega) (by omega) (unhide HR) (unhide HL)).mono ?_
  rintro e w1 ⟨rfl, b1⟩
  rw [unhide HC]
  have HB1 := hide b1
  have HR1 := hide ((unhide HR).below b1)
  have HL1 := hide ((unhide HL).below b1)
  clear b1
  go_wp2_with fail
  refine (l08Route g off ms cap _ ls capl me now _ (unhide HOK) (unhide HR1) (unhide HL1)).mono ?_
  rintro e w2 ⟨v, rfl, b2, hl2⟩
  have HB2 := hide ((unhide HB1).trans (b2.mono (unhide HB1).size))
  have HV2 := hide (hl2.mono (lo' := w.heap.size) (unhide HB1).size (Nat.le_refl _))
  clear b2 hl2
  go_wp2_with fail
  go_ret2
  exact ⟨_, rfl, unhide HB2, unhide HV2⟩
end Wa
end Go.Proofs.Ytpknahhdapmcoac
namespace Go.Proofs.Ytpknahhdapmcoac
open Go.ChangeShapes Go.WideShapes Go.ChangeAt Go.RowKit
set_option linter.unusedVariables false
set_option linter.unusedSimpArgs false
attribute [local go_sem ↓] Go.wp_at_zero Go.wp_at_succ
namespace Wa
open W1 Tu St Tw Mr Gp
/-- What TwoCost tells of a cost of the model (below 0: none). -/
def tcV (c : Int) : Int := if c < 0 then 0 else c
def tcE (c : Int) : Int := if c < 0 then 5 else 0
set_option maxRecDepth 100000 in
set_option maxHeartbeats 8000000 in
theorem implTwoCost (a : Option Addr) (ms : List R) (cap : Nat) (b : Option Addr) (ls : List Lk.R) (capl : Nat) (addr now : Int) (b2 : Option Addr) (rs : List Int) (capr : Nat) (w : World) (hm : ms.length ≤ 1048576) (hl : ls.length ≤ 1048576) (hrl : rs.length ≤ 1048576) (hc : codeM ms ls rs = 0) (ha : 1 ≤ addr ∧ addr ≤ 8) (hr : RM w a ms) (hr' : Lk.RM w b ls) (hrr : In.RM w b2 rs) :
    Calls Try.prog 27 #[.slice a ms.length cap, .slice b ls.length capl, .int .i64 addr, .int .i64 now, .slice b2 rs.length capr] w fun e w' => e = .returned (.tuple #[.int .i64 (tcV (costV (findT ms) ls addr now rs ls.length)), .int .i64 (tcE (costV (findT ms) ls addr now rs ls.length))]) ∧ Below w.heap.size w w' := by
  have HRC := hide (fun W h1 h2 => relaysCode a ms cap b ls capl b2 rs capr W hm hl hrl h1 h2)
  have HR := hide hr
  have HL := hide hr'
  have HRR := hide hrr
  clear hr hr' hrr
  have hr8 := (codeM_zero hc).2
  have HOK := hide (codeTL_ok (codeM_zero hc).1)
  rw [hc] at HRC
  clear hc
  have HCS := hide (cost_same (now := now) (unhide HOK).2 (fun v => (vals_ok (unhide HOK).1 addr v).1) (has_some (rs := rs) (unhide HOK).2))
  generalize costV (findT ms) ls addr now rs ls.length = c at *
  have hgl := gL_lt rs
  have HWK : Hid ((Lit.int .i64 addr).wf = true) := hide (WalkArith.wf_i64 ⟨by omega, by omega⟩)
  go_enter Try.func27, Try.ntmps27
  go_wp2_with fail
  refine (unhide HRC _ (unhide HR) (unhide HL)).mono ?_
  rintro e w1 ⟨rfl, b1⟩
  have HB1 := hide b1
  have HR1 := hide ((unhide HR).below b1)
  have HL1 := hide ((unhide HL).below b1)
  have HRR1 := hide ((unhide HRR).below b1)
  clear b1
  go_wp2_with fail
  refine (tuplesByHop _ ms cap _ (unhide HOK).1 (unhide HR1)).mono ?_
  rintro e w2 ⟨bm, rfl, hbm, om2, b2'⟩
  have HB2 := hide ((unhide HB1).trans (b2'.mono (unhide HB1).size))
  have HM2 := hide om2
  have HL2 := hide ((unhide HL1).below b2')
  have HRR2 := hide ((unhide HRR1).below b2')
  clear b2' om2
  go_wp2_with fail
  refine (groupOf b2 rs capr _ (by omega) (unhide HRR2)).mono ?_
  rintro e w3 ⟨rfl, hw3⟩
  rw [hw3]
  clear hw3
  go_wp2_with fail
  refine (leastCost bm ms.length (findT ms) _ ls capl addr now (gL rs) _ (by omega) (unhide HWK) (unhide HOK).2 (vals_ok (unhide HOK).1 _) (unhide HM2) (unhide HL2)).mono ?_
  rintro e w4 ⟨rfl, b4⟩
  have HB4 := hide ((unhide HB2).trans (b4.mono (unhide HB2).size))
  clear b4
  generalize lstV (gL rs) (ownV ls addr now) (wayV (findT ms) ls addr now ls.length) = l1 at *
  rcases unhide HCS with ⟨h1, h2⟩ | ⟨h1, h2⟩
  · have hz : (l1 == 0) = true := by rw [h2]; rfl
    have HT : Hid (tcV c = 0 ∧ tcE c = 5) := hide (by rw [h1]; exact ⟨rfl, rfl⟩)
    clear h1 h2 HCS
    go_wp2_with fail
    go_ret2
    exact ⟨by rw [(unhide HT).1, (unhide HT).2]; rfl, unhide HB4⟩
  · have hz : (l1 == 0) = false := beq_eq_false_iff_ne.2 (by omega)
    have HT : Hid (tcV c = l1 ∧ tcE c = 0) := hide (by unfold tcV tcE; rw [if_neg (by omega), if_neg (by omega)]; exact ⟨h2, rfl⟩)
    clear h1 h2 HCS
    go_wp2_with fail
    go_ret2
    exact ⟨by rw [(unhide HT).1, (unhide HT).2]; rfl, unhide HB4⟩
set_option maxRecDepth 100000 in
set_option maxHeartbeats 4000000 in
theorem specTwoCost (g off : Nat) (ms : List R) (cap : Nat) (b : Option Addr) (ls : List Lk.R) (capl : Nat) (addr now : Int) (b2 : Option Addr) (rs : List Int) (capr : Nat) (w : World) (hm : ms.length ≤ 4096) (hl : ls.length ≤ 4096) (hrl : rs.length ≤ 1048576) (hcm : codeM ms ls rs = 0) (ha : 1 ≤ addr ∧ addr ≤ 8) (hr : RM w (some ⟨g, off, none⟩) ms) (hr' : Lk.RM w b ls) (hrr : In.RM w b2 rs) :
    Calls Try.prog 28 #[.slice (some ⟨g, off, none⟩) ms.length cap, .slice b ls.length capl, .int .i64 addr, .int .i64 now, .slice b2 rs.length capr] w fun e w' => e = .returned (.tuple #[.int .i64 (tcV (costV (findT ms) ls addr now rs ls.length)), .int .i64 (tcE (costV (findT ms) ls addr now rs ls.length))]) ∧ Below w.heap.size w w' := by
  have HR := hide hr
  have HL := hide hr'
  have HRR := hide hrr
  clear hr hr' hrr
  have hr8 := (codeM_zero hcm).2
  have hc := (codeM_zero hcm).1
  have HOK := hide (codeTL_ok hc)
  have HC := hide hc
  clear hc hcm
  have HCS := hide (cost_same (now := now) (unhide HOK).2 (fun v => (vals_ok (unhide HOK).1 addr v).1) (has_some (rs := rs) (unhide HOK).2))
  obtain ⟨c, hcv⟩ : ∃ c, costV (findT ms) ls addr now rs ls.length = c := ⟨_, rfl⟩
  rw [hcv] at HCS ⊢
  have HCV := hide hcv
  clear hcv
  go_enter Try.func28, Try.ntmps28
  go_wp2_with fail
  refine (l07Ask _ ms cap _ ls capl _ (by omega) (by omega) (unhide HR) (unhide HL)).mono ?_
  rintro e w1 ⟨rfl, b1⟩
  rw [unhide HC]
  have HB1 := hide b1
  have HR1 := hide ((unhide HR).below b1)
  have HL1 := hide ((unhide HL).below b1)
  have HRR1 := hide ((unhide HRR).below b1)
  clear b1
  go_wp2_with fail
  refine (l08Mprs b2 rs.length capr _ hrl).mono ?_
  rintro e w2 ⟨rfl, hw2⟩
  rw [hw2, if_neg (by omega), if_neg (by omega)]
  clear hw2
  go_wp2_with fail
  refine (l08Cost g off ms cap b ls capl addr now b2 rs capr _ (by omega) (by omega) (by omega) (unhide HOK) (unhide HR1) (unhide HL1) (unhide HRR1)).mono ?_
  rintro e w4 ⟨rfl, b4⟩
  rw [unhide HCV]
  have HB4 := hide ((unhide HB1).trans (b4.mono (unhide HB1).size))
  clear b4
  generalize lstV (gL rs) (ownV ls addr now) (wayV (findT ms) ls addr now ls.length) = l1 at *
  rcases unhide HCS with ⟨h1, h2⟩ | ⟨h1, h2⟩
  · have hz : c < 0 := by omega
    have HT : Hid (tcV c = 0 ∧ tcE c = 5) := hide (by rw [h1]; exact ⟨rfl, rfl⟩)
    clear h1 h2 HCS
    go_wp2_with fail
    go_ret2
    exact ⟨by rw [(unhide HT).1, (unhide HT).2]; rfl, unhide HB4⟩
  · have hz : ¬ c < 0 := by omega
    have HT : Hid (tcV c = c ∧ tcE c = 0) := hide (by unfold tcV tcE; rw [if_neg (by omega), if_neg (by omega)]; exact ⟨rfl, rfl⟩)
    clear h1 h2 HCS
    go_wp2_with fail
    go_ret2
    exact ⟨by rw [(unhide HT).1, (unhide HT).2]; rfl, unhide HB4⟩
end Wa
end Go.Proofs.Ytpknahhdapmcoac
namespace Go.Proofs.Ytpknahhdapmcoac
open Go.ChangeShapes Go.WideShapes Go.ChangeAt Go.RowKit
set_option linter.unusedVariables false
set_option linter.unusedSimpArgs false
namespace Wa
open W1 Tu St Tw Mr Gp
theorem min_sub {L M : List Int} (hM : ∀ c ∈ M, 1 ≤ c) (h1 : ∀ c ∈ L, c ∈ M) (h2 : ∀ c ∈ M, ∃ d ∈ L, d ≤ c) : L.foldl (stpG (fun b => decide (b < 0))) (-1) = M.foldl (stpG (fun b => decide (b < 0))) (-1) := by
  have hL : ∀ c ∈ L, 1 ≤ c := fun c hc => hM c (h1 c hc)
  have a1 := fold_min (nn := fun b => decide (b < 0)) (fun c hc => decide_eq_false (by omega)) L (-1) hL (.inl rfl)
  have a2 := fold_min (nn := fun b => decide (b < 0)) (fun c hc => decide_eq_false (by omega)) M (-1) hM (.inl rfl)
  by_cases hn : M = []
  · have : L = [] := by
      cases L with
      | nil => rfl
      | cons y t => have := h1 y (by simp); rw [hn] at this; cases this
    rw [hn, this]
  · have hLn : L ≠ [] := fun e => by
      cases M with
      | nil => exact hn rfl
      | cons y t => obtain ⟨d, hd, _⟩ := h2 y (by simp); rw [e] at hd; cases hd
    have b1 := a1.2.1 rfl hLn
    have b2 := a2.2.1 rfl hn
    obtain ⟨d, hd, hle⟩ := h2 _ b2.1
    exact Int.le_antisymm (Int.le_trans (b1.2 d hd) hle) (b2.2 _ (h1 _ b1.1))
theorem rs_best {f : Int → Int → Option R} {ls : List Lk.R} {addr now st : Int} : ∀ j, (rsV f ls addr now st j = none → ∀ i, i < j → okW f addr now st (ls.getD i Lk.R.zero) = false) ∧ ∀ b, rsV f ls addr now st j = some b → okW f addr now st (ls.getD b Lk.R.zero) = true ∧ ∀ i, i < j → okW f addr now st (ls.getD i Lk.R.zero) = true → cW f addr (ls.getD b Lk.R.zero) ≤ cW f addr (ls.getD i Lk.R.zero)
  | 0 => ⟨fun _ i h => by omega, fun b h => by cases h⟩
  | j + 1 => by
    obtain ⟨i1, i2⟩ := rs_best (f := f) (ls := ls) (addr := addr) (now := now) (st := st) j
    cases ho : okW f addr now st (ls.getD j Lk.R.zero)
    · rw [rs_skip ho]
      refine ⟨fun h i hi => ?_, fun b h => ⟨(i2 b h).1, fun i hi hk => ?_⟩⟩
      · by_cases e : i = j
        · rw [e]; exact ho
        · exact i1 h i (by omega)
      · by_cases e : i = j
        · rw [e, ho] at hk; cases hk
        · exact (i2 b h).2 i (by omega) hk
    · cases hn : rsV f ls addr now st j with
      | none =>
        rw [rs_first ho hn]
        refine ⟨fun h => (by cases h), fun b h => ?_⟩
        cases h
        refine ⟨ho, fun i hi hk => ?_⟩
        by_cases e : i = j
        · rw [e]; exact Int.le_refl _
        · rw [i1 hn i (by omega)] at hk; cases hk
      | some c =>
        obtain ⟨k1, k2⟩ := i2 c hn
        rw [rs_next ho hn]
        cases hb : btW f addr (ls.getD j Lk.R.zero) (ls.getD c Lk.R.zero)
        · rw [if_neg (by simp)]
          refine ⟨fun h => (by cases h), fun b h => ?_⟩
          cases h
          refine ⟨k1, fun i hi hk => ?_⟩
          by_cases e : i = j
          · rw [e]
            by_cases h3 : cW f addr (ls.getD j Lk.R.zero) < cW f addr (ls.getD c Lk.R.zero)
            · rw [bt_lt h3] at hb; cases hb
            · omega
          · exact k2 i (by omega) hk
        · rw [if_pos rfl]
          refine ⟨fun h => (by cases h), fun b h => ?_⟩
          cases h
          refine ⟨ho, fun i hi hk => ?_⟩
          by_cases e : i = j
          · rw [e]; exact Int.le_refl _
          · exact Int.le_trans (bt_le hb) (k2 i (by omega) hk)
theorem cand_own {f : Int → Int → Option R} {addr now : Int} {so : List Int} {m : Lk.R} {c : Int} (h : c ∈ cand f addr now so m) : (ownB addr now m = true ∧ c = m.ci) ∨ (viaOk f addr now m = true ∧ so.contains m.ad = true ∧ c = cW f addr m) := by
  unfold cand at h
  rcases List.mem_append.1 h with h | h
  · split at h
    · rename_i h1; exact .inl ⟨h1, by simpa using h⟩
    · cases h
  · split at h
    · rename_i h1
      rw [Bool.and_eq_true] at h1
      exact .inr ⟨h1.1, h1.2, by unfold cW; simpa using h⟩
    · cases h
theorem own_cand {f : Int → Int → Option R} {addr now : Int} {m : Lk.R} (so : List Int) (h : ownB addr now m = true) : m.ci ∈ cand f addr now so m := by
  unfold cand; rw [if_pos h]; simp
theorem via_cand {f : Int → Int → Option R} {addr now : Int} {so : List Int} {m : Lk.R} (h : viaOk f addr now m = true) (h2 : so.contains m.ad = true) : cW f addr m ∈ cand f addr now so m := by
  unfold cand; rw [h, h2]
  exact List.mem_append.2 (.inr (by unfold cW; simp))
theorem all_has {ls : List Lk.R} {m : Lk.R} (h : m ∈ ls) : (allL ls ls.length).contains m.ad = true := by
  rw [List.contains_iff_mem]
  unfold allL
  rw [List.take_length]
  exact List.mem_map.2 ⟨m, h, rfl⟩
theorem links_ci {ls : List Lk.R} (hok : Ln.linksB ls = true) : ∀ m ∈ ls, 1 ≤ m.ci := fun m hm => by
  obtain ⟨i, hi, rfl⟩ := List.getElem_of_mem hm
  have := Ln.ok_ci (Ri.all_ok hok hi)
  rw [List.getD_eq_getElem?_getD, List.getElem?_eq_getElem hi] at this; exact this.1
/-- By all that hold the one of the least way for each address no way costs more. -/
theorem keep_cost {f : Int → Int → Option R} {ls : List Lk.R} {me now x : Int} {G : List Int} (hok : Ln.linksB ls = true) (hval : ∀ v, 0 ≤ ((f v x).getD R.zero).val) (hne : (x == me) = false) (hG : ∀ a, rsQ f ls me now x = some a → G.contains a = true) :
    costV f ls x now G ls.length = costV f ls x now (allL ls ls.length) ls.length := by
  obtain ⟨st, hst⟩ : ∃ st, costV f ls x now [] ls.length = st := ⟨_, rfl⟩
  have hsm : 0 ≤ st → ∃ m ∈ ls, ownB x now m = true ∧ st = m.ci := fun h0 => by
    have e : (ls.flatMap (cand f x now [])).foldl (stpG (fun b => decide (b < 0))) (-1) = st := by
      rw [← hst]; unfold costV; rw [List.take_length, cost_all]
    have h1 : ∀ c ∈ ls.flatMap (cand f x now []), 1 ≤ c := fun c hc => by
      obtain ⟨m, hm, hc⟩ := List.mem_flatMap.1 hc
      rcases cand_own hc with ⟨_, rfl⟩ | ⟨_, h, _⟩
      · exact links_ci hok m hm
      · simp at h
    have a1 := fold_min (nn := fun b => decide (b < 0)) (fun c hc => decide_eq_false (by omega)) _ (-1) h1 (.inl rfl)
    by_cases hn : ls.flatMap (cand f x now []) = []
    · have := a1.1 hn; omega
    · have h2 := (a1.2.1 rfl hn).1
      rw [e] at h2
      obtain ⟨m, hm, hc⟩ := List.mem_flatMap.1 h2
      rcases cand_own hc with ⟨h3, h4⟩ | ⟨_, h, _⟩
      · exact ⟨m, hm, h3, h4⟩
      · simp at h
  have hq : rsQ f ls me now x = (rsV f ls x now st ls.length).map (fun b => (ls.getD b Lk.R.zero).ad) := by
    unfold rsQ; rw [hne, if_neg (by simp), hst]
  unfold costV
  rw [List.take_length, cost_all, cost_all]
  refine min_sub (fun c hc => ?_) (fun c hc => ?_) (fun c hc => ?_)
  · obtain ⟨m, hm, hc⟩ := List.mem_flatMap.1 hc
    have h1 := links_ci hok m hm
    rcases cand_own hc with ⟨_, rfl⟩ | ⟨_, _, rfl⟩
    · exact h1
    · have := hval m.ad; unfold cW valT; omega
  · obtain ⟨m, hm, hc⟩ := List.mem_flatMap.1 hc
    refine List.mem_flatMap.2 ⟨m, hm, ?_⟩
    rcases cand_own hc with ⟨h, rfl⟩ | ⟨h, _, rfl⟩
    · exact own_cand _ h
    · exact via_cand h (all_has hm)
  · obtain ⟨m, hm, hc⟩ := List.mem_flatMap.1 hc
    rcases cand_own hc with ⟨h, rfl⟩ | ⟨h, _, rfl⟩
    · exact ⟨_, List.mem_flatMap.2 ⟨m, hm, own_cand _ h⟩, Int.le_refl _⟩
    · cases hw : okW f x now st m
      · unfold okW at hw
        rw [h, Bool.true_and, Bool.not_eq_false', Bool.and_eq_true] at hw
        obtain ⟨m2, hm2, h3, h4⟩ := hsm (of_decide_eq_true hw.1)
        exact ⟨_, List.mem_flatMap.2 ⟨m2, hm2, own_cand _ h3⟩, by rw [← h4]; exact of_decide_eq_true hw.2⟩
      · obtain ⟨i, hi, rfl⟩ := List.getElem_of_mem hm
        have e : ls[i] = ls.getD i Lk.R.zero := by rw [List.getD_eq_getElem?_getD, List.getElem?_eq_getElem hi]; rfl
        rw [e] at hw ⊢
        obtain ⟨r1, r2⟩ := rs_best (f := f) (ls := ls) (addr := x) (now := now) (st := st) ls.length
        cases hr : rsV f ls x now st ls.length with
        | none => rw [r1 hr i hi] at hw; cases hw
        | some b =>
          obtain ⟨s1, s2⟩ := r2 b hr
          have hb := rs_lt hr
          have hv : viaOk f x now (ls.getD b Lk.R.zero) = true := by
            unfold okW at s1; rw [Bool.and_eq_true] at s1; exact s1.1
          have hmem : ls.getD b Lk.R.zero ∈ ls := by
            rw [List.getD_eq_getElem?_getD, List.getElem?_eq_getElem hb]; exact List.getElem_mem hb
          exact ⟨_, List.mem_flatMap.2 ⟨_, hmem, via_cand hv (hG _ (by rw [hq, hr]; rfl))⟩, s2 i hi hw⟩
theorem codeM_short {ms : List R} {ls : List Lk.R} {rs : List Int} (hc : codeTL ms ls = 0) (h : rs.length ≤ 8) : codeM ms ls rs = 0 := by
  unfold codeM; rw [if_neg (by omega), if_pos hc, if_neg (by omega)]
theorem route_keeps {ms : List R} {ls : List Lk.R} {me now : Int} (hc : codeTL ms ls = 0) : (routA ms ls me now).length ≤ 8 ∧ codeM ms ls (routA ms ls me now) = 0 ∧ keepA ms ls me now (routA ms ls me now) = true ∧ codeM ms ls (allL ls ls.length) = 0 ∧ ∀ x : Int, 1 ≤ x → x ≤ 8 → (x == me) = false → costV (findT ms) ls x now (routA ms ls me now) ls.length = costV (findT ms) ls x now (allL ls ls.length) ls.length := by
  obtain ⟨htw, hok⟩ := codeTL_ok hc
  have hr : routA ms ls me now = strN (fun a => (rtL (findT ms) ls me now 8).contains a) 8 := by unfold routA; rw [if_pos hc]
  have hl : (routA ms ls me now).length ≤ 8 := by rw [hr]; exact strN_len _ _
  have hcm := codeM_short (ms := ms) (ls := ls) hc hl
  have hco : ∀ x : Int, 1 ≤ x → x ≤ 8 → (x == me) = false → costV (findT ms) ls x now (routA ms ls me now) ls.length = costV (findT ms) ls x now (allL ls ls.length) ls.length := fun x h1 h2 hne => by
    refine keep_cost (me := me) hok (fun v => (vals_ok htw x v).1) hne (fun a ha => ?_)
    have e1 : rsQ (findT ms) ls me now x = rtQ (findT ms) ls me now x := by
      rw [rt_same hok (fun v => (vals_ok htw x v).1) hne]
      unfold rsQ; rw [hne, if_neg (by simp)]
    rw [hr, List.contains_iff_mem]
    refine Gp.str_mem.2 ?_
    have hrg : 1 ≤ a ∧ a ≤ 8 := by
      unfold rsQ at ha
      rw [hne, if_neg (by simp)] at ha
      cases hv : rsV (findT ms) ls x now (costV (findT ms) ls x now [] ls.length) ls.length with
      | none => rw [hv] at ha; cases ha
      | some b =>
        rw [hv] at ha
        have hb := rs_lt hv
        have h3 := Ln.ok_ad (Ri.all_ok hok hb)
        have h4 : (ls.getD b Lk.R.zero).ad = a := by simpa using ha
        rw [h4] at h3; exact h3
    refine ⟨hrg.1, hrg.2, ?_⟩
    rw [List.contains_iff_mem]
    unfold rtL
    refine List.mem_filterMap.2 ⟨(x - 1).toNat, List.mem_range.2 (by omega), ?_⟩
    have e2 : (((x - 1).toNat : Nat) : Int) + 1 = x := by omega
    rw [e2, ← e1]; exact ha
  refine ⟨hl, hcm, ?_, codeM_short hc (Nat.le_trans (allL_len ls ls.length) (Ln.links_len hok)), hco⟩
  unfold keepA keepN
  rw [decide_eq_true hcm, Bool.true_and, List.all_eq_true]
  intro t ht
  have ht2 := List.mem_range.1 ht
  unfold keepB
  cases hne : ((t : Int) + 1 == me)
  · rw [hco ((t : Int) + 1) (by omega) (by omega) hne]; simp
  · rw [bne, hne]; rfl
end Wa
end Go.Proofs.Ytpknahhdapmcoac
