/-
  The model's contract: who is left.
-/
import Derived.Test.YtpknahhdapmcoaoMprA
namespace Go.Proofs.Ytpknahhdapmcoao
open Go.ChangeShapes Go.WideShapes Go.ChangeAt Go.RowKit
set_option linter.unusedVariables false
set_option linter.unusedSimpArgs false
attribute [local go_sem ↓] Go.wp_at_zero Go.wp_at_succ
namespace Mr
open W1 Tu St Tw
theorem near_of {w : World} {v : Value} {a : Option Addr} {zs : List Int} {lo hi : Nat} (h : In.Lst w a zs lo hi) (hv : ∀ g, v.ownBlock = some g → g < lo) : NearOk w v a zs := by
  rcases h with e | ⟨g2, rfl, h1, h2, h3, h4⟩
  · exact .inl e
  · exact .inr ⟨g2, 0, rfl, fun e => by have := hv _ e; omega, h3, In.rm_of h4⟩
set_option maxRecDepth 100000 in
set_option maxHeartbeats 4000000 in
theorem l08Left (g0 o0 : Nat) (ms : List R) (cap : Nat) (a : Option Addr) (ls : List Lk.R) (capl : Nat) (me now : Int) (b : Option Addr) (rs : List Int) (capr : Nat) (w : World) (hrl : rs.length ≤ 64) (hok : twoB ms = true ∧ Ln.linksB ls = true) (hr0 : RM w (some ⟨g0, o0, none⟩) ms) (hr : Lk.RM w a ls) (hrr : In.RM w b rs) :
    Calls Try.prog 52 #[.slice (some ⟨g0, o0, none⟩) ms.length cap, .slice a ls.length capl, .int .i64 me, .int .i64 now, .slice b rs.length capr] w fun e w' => ∃ v, e = .returned v ∧ Below w.heap.size w w' ∧ In.LstV w' v (leftV (viaF ms ls now) (strF ms ls me now) rs) w.heap.size w'.heap.size := by
  have HR0 := hide hr
  have HM0 := hide hr0
  have HB0 := hide hrr
  have HOK := hide hok
  have h8 := Ln.links_len hok.2
  clear hr hr0 hok hrr
  obtain ⟨via, hv⟩ : ∃ via, viaF ms ls now = via := ⟨_, rfl⟩
  have HVL : Hid (∀ z, (via z).length ≤ ls.length) := hide (fun z => by rw [← hv]; exact via_len ms ls now z)
  have HV := hide hv
  rw [hv]
  clear hv
  have hzl := str_len ms ls me now
  have HG := hide (str_rng (ms := ms) (ls := ls) (me := me) (now := now))
  obtain ⟨zs, hzs⟩ : ∃ zs, strF ms ls me now = zs := ⟨_, rfl⟩
  rw [hzs] at hzl HG ⊢
  have HZS := hide hzs
  clear hzs
  have P0 := hide ((Below.refl w.heap.size w).alloc (Nat.le_refl _) (.cells #[] 3))
  have HM := hide ((unhide HM0).below (unhide P0))
  have HL := hide ((unhide HR0).below (unhide P0))
  have O1 : Hid ((w.alloc (.cells #[] 3)).ownsRow w.heap.size 3 1 (.slice (some ⟨w.heap.size, 0, none⟩) 0 0) (leftV via (zs.take 0) rs).length (In.flat (leftV via (zs.take 0) rs))) := hide (In.own_empty w w.heap.size (Nat.le_refl _))
  go_enter Try.func52, Try.ntmps52
  go_wp2_with fail
  refine (l07Strict g0 o0 ms cap _ ls capl me now _ (unhide HOK) (unhide HM) (unhide HL)).mono ?_
  rintro e w2 ⟨v2, rfl, b2, hl2⟩
  obtain ⟨a2, c2, rfl, l2⟩ := hl2
  have hzz : strN (condS ms ls me now) 8 = zs := unhide HZS
  rw [hzz] at l2 ⊢
  have HN2 : Hid (NearOk w2 (.slice (some ⟨w.heap.size, 0, none⟩) 0 0) a2 zs) := hide (near_of l2 (fun g e => by simp [Value.ownBlock] at e; simp; omega))
  have HB2 := hide ((unhide P0).trans (b2.mono (unhide P0).size))
  have O2 := hide (Ln.own_belowI (unhide O1) b2)
  clear b2 l2 P0 HM HL O1 hzz
  generalize hN : zs.length = n at *
  have HN := hide hN
  generalize hQ : rs.length = m at *
  have HQ := hide hQ
  clear hN hQ
  go_wp2_with fail
  go_loopw [11, 13] (fun v i wr => ∃ j : Nat, j ≤ n ∧ i = .int .i64 j ∧ Hid (wr.ownsRow w.heap.size 3 1 v (leftV via (zs.take j) rs).length (In.flat (leftV via (zs.take j) rs))) ∧ Hid (Below w.heap.size w wr) ∧ Hid (NearOk wr v a2 zs)) (fun _ i _ => n - (intOf i).toNat)
  case atStart => exact ⟨0, by omega, rfl, O2, HB2, HN2⟩
  case round =>
    obtain ⟨j, hj, rfl, how, hbl, hnr⟩ := hrel
    have hbs := (unhide hbl).size
    have hfl : (leftV via (zs.take j) rs).length ≤ 8 := by
      have h1 := left_len via (zs.take j) rs
      have h2 := List.length_take_le j zs
      omega
    by_cases hlt : (j : Int) < (n : Int)
    · have k0 : (0 : Int) ≤ (j : Int) := by omega
      have hlen : j < zs.length := by rw [unhide HN]; omega
      have hzr := unhide HG _ (getD_mem hlen)
      have HY := hide (fun (h : hitV via rs (zs.getD j 0) = false) => left_yes (via := via) (rs := rs) hlen h)
      have HZ := hide (fun (h : hitV via rs (zs.getD j 0) = true) => left_no (via := via) (rs := rs) hlen h)
      have HMr := hide ((unhide HM0).below (unhide hbl))
      have HLr := hide ((unhide HR0).below (unhide hbl))
      have HBr := hide ((unhide HB0).below (unhide hbl))
      rcases unhide hnr with e0 | ⟨g, off, rfl, hne, hgl, hrm⟩
      · exfalso; rw [e0] at hlen; simp at hlen
      have c0 := hrm.at hlen
      have HAT : Hid (∀ W : World, In.RM W (some ⟨g, off, none⟩) zs → W.cell? ⟨g, off + j, none⟩ = some (.int .i64 (zs.getD j 0))) := hide (fun W h => h.at hlen)
      clear hrm hne hgl
      generalize zs.getD j 0 = z at *
      go_wp2_with fail
      refine (l07Via g0 o0 ms cap _ ls capl z now _ hzr.1 hzr.2 (two_set (unhide HOK).1) (unhide HOK).2 (unhide HMr) (unhide HLr)).mono ?_
      rintro e w5 ⟨v5, rfl, b5, hl5⟩
      obtain ⟨a5, c5, rfl, l5⟩ := hl5
      have hvz : viaL (findT ms) ls z now ls.length = via z := by rw [← unhide HV]; rfl
      rw [hvz] at l5 ⊢
      have HB5 := hide ((unhide hbl).trans (b5.mono (unhide hbl).size))
      have HO5 := hide (Ln.own_belowI (unhide how) b5)
      have HN5 := hide ((unhide hnr).below b5)
      have HR5 := hide ((unhide HBr).below b5)
      have HV5 := hide l5.rm
      have hs5 := (unhide HB5).size
      clear b5 l5 hvz c0 HBr
      have hvl := unhide HVL z
      obtain ⟨vz, hvv⟩ : ∃ vz, via z = vz := ⟨_, rfl⟩
      have HVV := hide hvv
      rw [hvv] at hvl HV5 ⊢
      clear hvv
      have HST : Hid (∀ k, k < rs.length → hitV via (rs.take (k + 1)) z = (hitV via (rs.take k) z || vz.contains (rs.getD k 0))) := hide (fun k hk => by rw [← unhide HVV]; exact hit_step hk)
      go_wp2_with fail
      go_loopw [15, 16] (fun h k w6 => w5 = w6 ∧ ∃ t : Nat, t ≤ m ∧ k = .int .i64 t ∧ ∃ q : Bool, h = .bool q ∧ Hid (hitV via (rs.take t) z = q)) (fun _ k _ => m - (intOf k).toNat)
      case atStart => exact ⟨rfl, 0, by omega, rfl, false, rfl, hide rfl⟩
      case round =>
        obtain ⟨rfl, t, ht, rfl, q, rfl, hq⟩ := hrel
        by_cases hlt2 : (t : Int) < (m : Int)
        · have k1 : (0 : Int) ≤ (t : Int) := by omega
          have hlen2 : t < rs.length := by rw [unhide HQ]; omega
          have HS1 := hide (unhide HST t hlen2)
          rw [unhide hq] at HS1
          cases q
          · rcases unhide HR5 with e0 | ⟨g6, off6, rfl, hc6⟩
            · exfalso; rw [e0] at hlen2; simp at hlen2
            have c6 := hc6 t hlen2
            clear hc6
            generalize rs.getD t 0 = r at *
            go_wp2_with fail
            refine (l07Has a5 vz c5 r _ (by omega) (unhide HV5)).mono ?_
            rintro e w7 ⟨rfl, hw7⟩
            rw [hw7]
            clear hw7
            have HS2 : Hid (hitV via (rs.take (t + 1)) z = vz.contains r) := hide (by rw [unhide HS1]; rfl)
            generalize vz.contains r = q2 at *
            go_wp2_with fail
            go_roundw
            case rel => exact ⟨by first | trivial | rfl, t + 1, by omega, by go_num, q2, rfl, HS2⟩
            case measure => simp [intOf]; omega
          · have HS2 : Hid (hitV via (rs.take (t + 1)) z = true) := hide (by rw [unhide HS1]; rfl)
            go_wp2_with fail
            go_roundw
            case rel => exact ⟨by first | trivial | rfl, t + 1, by omega, by go_num, true, rfl, HS2⟩
            case measure => simp [intOf]; omega
        · obtain rfl : t = m := by omega
          have HH : Hid (hitV via rs z = q) := hide (by have := unhide hq; rw [← unhide HQ, List.take_length] at this; exact this)
          cases q
          · have HTF := hide (unhide HY (unhide HH))
            have c0 := unhide HAT _ (unhide HN5).rm
            go_wp2_with (at_builtin; refine wpList_apL ((unhide HO5).alloc _) w5.heap.size 0 1 1 [z] rfl (by omega) (In.rm_new w5 z) (by simp only [List.length_cons, List.length_nil]; omega) (by simp; omega) rfl _ _ rfl rfl rfl ?_; intro v' w' ho hg hv; have HO : Hid (w'.ownsRow w.heap.size 3 1 v' (leftV via (zs.take (j + 1)) rs).length (In.flat (leftV via (zs.take (j + 1)) rs))) := hide (by rw [unhide HTF]; exact ho); have HB := hide (In.below_own ((unhide HB5).alloc hs5 _) ((unhide HO5).alloc _) hg (Nat.le_refl _) (by simp; omega)); have HN := hide (((unhide HN5).below ((Below.refl _ _).alloc (Nat.le_refl _) _)).grown hg hv); clear ho hg hv)
            go_roundw
            case rel => exact ⟨j + 1, by omega, by go_num, HO, HB, HN⟩
            case measure => simp [intOf]; omega
          · have HTF := hide (unhide HZ (unhide HH))
            have HO : Hid (w5.ownsRow w.heap.size 3 1 u11 (leftV via (zs.take (j + 1)) rs).length (In.flat (leftV via (zs.take (j + 1)) rs))) := hide (by rw [unhide HTF]; exact unhide HO5)
            go_wp2_with fail
            go_roundw
            case rel => exact ⟨j + 1, by omega, by go_num, HO, HB5, HN5⟩
            case measure => simp [intOf]; omega
    · obtain rfl : j = n := by omega
      have HE : Hid (leftV via (zs.take j) rs = leftV via zs rs) := hide (by rw [← unhide HN, List.take_length])
      have HLs := hide (In.lst_own rfl (unhide how))
      rw [unhide HE] at HLs
      go_wp2_with fail
      go_ret
      exact ⟨_, rfl, unhide hbl, unhide HLs⟩
end Mr
end Go.Proofs.Ytpknahhdapmcoao
