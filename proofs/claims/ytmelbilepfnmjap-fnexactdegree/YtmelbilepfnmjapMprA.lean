/-
  The model's contracts: how many one reaches (Gain, Degree).
-/
import Derived.Test.YtmelbilepfnmjapMprM
import Derived.Test.YtmelbilepfnmjapTwoY
namespace Go.Proofs.Ytmelbilepfnmjap
open Go.ChangeShapes Go.WideShapes Go.ChangeAt Go.RowKit
set_option linter.unusedVariables false
set_option linter.unusedSimpArgs false
attribute [local go_sem ↓] Go.wp_at_zero Go.wp_at_succ
namespace Mr
open W1 Tu St Tw
def bitV (b : Bool) : Int := if b then 1 else 0
theorem bitC (b : Bool) (w : World) : Calls Try.prog 87 #[.bool b] w fun e w' => e = .returned (.int .i64 (bitV b)) ∧ w' = w := by
  cases b
  · go_enter Try.func87, Try.ntmps87
    go_wp2
    go_ret
    exact ⟨rfl, rfl⟩
  · go_enter Try.func87, Try.ntmps87
    go_wp2
    go_ret
    exact ⟨rfl, rfl⟩
theorem cnt_bit {via : Int → List Int} {L : List Int} {a : Int} {j : Nat} (h : j < L.length) : (cntV via (L.take (j + 1)) a : Int) = (cntV via (L.take j) a : Int) + bitV ((via (L.getD j 0)).contains a) := by
  cases hk : (via (L.getD j 0)).contains a
  · rw [cnt_no h hk]; simp [bitV]
  · rw [cnt_yes h hk]; simp [bitV]
theorem via_len (ms : List R) (ls : List Lk.R) (now z : Int) : (viaF ms ls now z).length ≤ ls.length := viaL_len _ _ _ _ _
theorem str_rng {ms : List R} {ls : List Lk.R} {me now : Int} : ∀ z ∈ strF ms ls me now, 1 ≤ z ∧ z ≤ 8 := by
  intro z hz
  unfold strF strN at hz
  simp only [List.mem_map, List.mem_filter, List.mem_range] at hz
  obtain ⟨t, ⟨h1, _⟩, rfl⟩ := hz
  omega
theorem str_len (ms : List R) (ls : List Lk.R) (me now : Int) : (strF ms ls me now).length ≤ 8 := strN_len _ 8
theorem getD_mem {zs : List Int} {j : Nat} (h : j < zs.length) : zs.getD j 0 ∈ zs := by
  rw [List.getD_eq_getElem?_getD, List.getElem?_eq_getElem h]; exact List.getElem_mem h
set_option maxRecDepth 100000 in
set_option maxHeartbeats 4000000 in
theorem l08Degree (g0 o0 : Nat) (ms : List R) (cap : Nat) (a : Option Addr) (ls : List Lk.R) (capl : Nat) (me now addr : Int) (w : World) (hok : twoB ms = true ∧ Ln.linksB ls = true) (hr0 : RM w (some ⟨g0, o0, none⟩) ms) (hr : Lk.RM w a ls) :
    Calls Try.prog 41 #[.slice (some ⟨g0, o0, none⟩) ms.length cap, .slice a ls.length capl, .int .i64 me, .int .i64 now, .int .i64 addr] w fun e w' => e = .returned (.int .i64 (cntV (viaF ms ls now) (strF ms ls me now) addr : Nat)) ∧ Below w.heap.size w w' := by
  have HR := hide hr
  have HM := hide hr0
  have HOK := hide hok
  have h8 := Ln.links_len hok.2
  clear hr hr0 hok
  obtain ⟨via, hv⟩ : ∃ via, viaF ms ls now = via := ⟨_, rfl⟩
  have HVL : Hid (∀ z, (via z).length ≤ ls.length) := hide (fun z => by rw [← hv]; exact via_len ms ls now z)
  have HV := hide hv
  rw [hv]
  clear hv
  have hzl := str_len ms ls me now
  have HG := hide (str_rng (ms := ms) (ls := ls) (me := me) (now := now))
  obtain ⟨zs, hzs⟩ : ∃ zs, strF ms ls me now = zs := ⟨_, rfl⟩
  rw [hzs] at hzl HG ⊢
  have HZS := hide hzs
  clear hzs
  go_enter Try.func41, Try.ntmps41
  go_wp2_with fail
  refine (l07Strict g0 o0 ms cap _ ls capl me now _ (unhide HOK) (unhide HM) (unhide HR)).mono ?_
  rintro e w0 ⟨v0, rfl, b0, hl0⟩
  obtain ⟨b, capz, rfl, l0⟩ := hl0
  have hzz : strN (condS ms ls me now) 8 = zs := unhide HZS
  rw [hzz] at l0 ⊢
  have HZ := hide l0.rm
  have P0 := hide b0
  clear l0 b0 hzz
  generalize hN : zs.length = n at *
  have HN := hide hN
  clear hN
  go_wp2_with fail
  go_loopw [11, 13] (fun c i wr => ∃ j : Nat, j ≤ n ∧ i = .int .i64 j ∧ c = .int .i64 (cntV via (zs.take j) addr : Nat) ∧ Hid (Below w0.heap.size w0 wr)) (fun _ i _ => n - (intOf i).toNat)
  case atStart => exact ⟨0, by omega, rfl, rfl, hide (Below.refl _ _)⟩
  case round =>
    obtain ⟨j, hj, rfl, rfl, hbl0⟩ := hrel
    have hcl := cnt_le via zs addr j
    have hbl := hide ((unhide P0).trans ((unhide hbl0).mono (unhide P0).size))
    by_cases hlt : (j : Int) < (n : Int)
    · have k0 : (0 : Int) ≤ (j : Int) := by omega
      have hlen : j < zs.length := by rw [unhide HN]; omega
      have hzr := unhide HG _ (getD_mem hlen)
      have HC := hide (cnt_bit (via := via) (a := addr) hlen)
      have HMr := hide ((unhide HM).below (unhide hbl))
      have HLr := hide ((unhide HR).below (unhide hbl))
      rcases (unhide HZ).below (unhide hbl0) with e0 | ⟨g, off, rfl, hc⟩
      · exfalso; rw [e0] at hlen; simp at hlen
      have c0 := hc j hlen
      clear hc
      generalize zs.getD j 0 = z at *
      generalize cntV via (zs.take j) addr = c at *
      go_wp2_with fail
      refine (l07Via g0 o0 ms cap _ ls capl z now _ hzr.1 hzr.2 (two_set (unhide HOK).1) (unhide HOK).2 (unhide HMr) (unhide HLr)).mono ?_
      rintro e w1 ⟨v1, rfl, b1, hl1⟩
      obtain ⟨a1, c1, rfl, l1⟩ := hl1
      have hvz : viaL (findT ms) ls z now ls.length = via z := by rw [← unhide HV]; rfl
      rw [hvz] at l1 ⊢
      have HB1 := hide ((unhide hbl0).trans (b1.mono (unhide hbl0).size))
      have HL1 := hide l1
      clear b1 l1 hvz
      have hvl := unhide HVL z
      generalize via z = vz at *
      go_wp2_with fail
      refine (l07Has a1 vz c1 addr _ (by omega) (unhide HL1).rm).mono ?_
      rintro e w2 ⟨rfl, hw2⟩
      rw [hw2]
      clear hw2
      generalize vz.contains addr = q at *
      go_wp2_with fail
      refine (bitC q _).mono ?_
      rintro e w3 ⟨rfl, hw3⟩
      rw [hw3]
      clear hw3
      have hbq : 0 ≤ bitV q ∧ bitV q ≤ 1 := by cases q <;> simp [bitV]
      generalize bitV q = bq at *
      go_wp2_with fail
      go_roundw
      case rel => exact ⟨j + 1, by omega, by go_num, by rw [unhide HC], HB1⟩
      case measure => simp [intOf]; omega
    · obtain rfl : j = n := by omega
      have HT : Hid (cntV via (zs.take j) addr = cntV via zs addr) := hide (by rw [← unhide HN, List.take_length])
      go_wp2_with fail
      go_ret
      exact ⟨by rw [unhide HT]; rfl, unhide hbl⟩
end Mr
end Go.Proofs.Ytmelbilepfnmjap
