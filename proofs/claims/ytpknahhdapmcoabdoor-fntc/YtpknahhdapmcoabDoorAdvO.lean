/-
  Contracts over advertisements: the metric of an edge (the program's and the model's EdgeOf).
-/
import Derived.Test.YtpknahhdapmcoabDoorAdvC
import Derived.Laws.NewBlocks
namespace Go.Proofs.YtpknahhdapmcoabDoor
open Go.ChangeShapes Go.WideShapes Go.ChangeAt Go.RowKit
set_option linter.unusedVariables false
set_option linter.unusedSimpArgs false
attribute [local go_sem ↓] Go.wp_at_zero Go.wp_at_succ
namespace Av
open W1 Ed
def isAd (k : Int) (m : R) : Bool := m.ad == k
def edF (ms : List R) (k : Int) : Int := ((ms.find? (isAd k)).getD R.zero).mt
def edA (x y : Int) (ms : List R) (k : Int) : Int := if tcB x y ms = true then edF ms k else 0
def edE (x y : Int) (ms : List R) (k : Int) : Int := if tcB x y ms = true then (if (ms.find? (isAd k)).isSome = true then 0 else 5) else 1
theorem ed_bad {x y : Int} {ms : List R} {k : Int} (h : tcB x y ms = false) : edA x y ms k = 0 ∧ edE x y ms k = 1 := by
  unfold edA edE; rw [if_neg (by simp [h]), if_neg (by simp [h])]; exact ⟨rfl, rfl⟩
theorem ed_at {x y : Int} {ms : List R} {k : Int} (h : tcB x y ms = true) {j : Nat} (hj : j < ms.length) (h1 : ∀ i, i < j → isAd k (ms.getD i R.zero) = false) (h2 : (ms.getD j R.zero).ad = k) : edA x y ms k = (ms.getD j R.zero).mt ∧ edE x y ms k = 0 := by
  have hf := Ri.find_at (z := R.zero) (isAd k) ms j hj h1 (by unfold isAd; exact beq_iff_eq.2 h2)
  unfold edA edE edF; rw [if_pos h, if_pos h, hf]; exact ⟨rfl, rfl⟩
theorem ed_no {x y : Int} {ms : List R} {k : Int} (h : tcB x y ms = true) (h1 : ∀ i, i < ms.length → isAd k (ms.getD i R.zero) = false) : edA x y ms k = 0 ∧ edE x y ms k = 5 := by
  have hf := Ri.find_no (z := R.zero) (isAd k) ms h1
  unfold edA edE edF; rw [if_pos h, if_pos h, hf]; exact ⟨rfl, rfl⟩
theorem cloE (ad mt k : Int) (b : Nat) (w : World) (hc : w.cell? ⟨b, 0, none⟩ = some (.int .i64 k)) :
    Calls Tryd.prog 59 #[.agg #[.int .i64 ad, .int .i64 mt], .pointer (some ⟨b, 0, none⟩)] w fun e w' => e = .returned (.bool (decide (k ≤ ad))) ∧ Below w.heap.size w w' := by
  have hlt : b < w.heap.size := World.block_lt_of_cell? _ _ hc
  have hne : ¬ b = w.heap.size := by omega
  by_cases h : k ≤ ad
  all_goals
    go_enter Tryd.func59, Tryd.ntmps59
    go_wp2
    go_ret
    exact ⟨ret_bool (by simp [h]), (Below.refl _ _).alloc (Nat.le_refl _) _⟩
set_option maxHeartbeats 2000000 in
theorem firstE (b : Nat) (a : Option Addr) (k : Int) (ms : List R) (cap : Nat) (w : World) (hr : RM w a ms) (h8 : ms.length ≤ 8) (hup : ∀ i j, i < j → j < ms.length → (ms.getD i R.zero).ad < (ms.getD j R.zero).ad) (hb : w.cell? ⟨b, 0, none⟩ = some (.int .i64 k)) :
    Calls Tryd.prog 58 #[.slice a ms.length cap, .func (.func 59) #[] #[.pointer (some ⟨b, 0, none⟩)]] w fun e w' => ∃ p : Nat, e = .returned (.int .i64 p) ∧ p ≤ ms.length ∧ (∀ i, i < p → (ms.getD i R.zero).ad < k) ∧ (p < ms.length → k ≤ (ms.getD p R.zero).ad) ∧ Below w.heap.size w w' := by
  have HR := hide hr
  have HB := hide hb
  have HUP := hide hup
  have hblt := World.block_lt_of_cell? _ _ hb
  clear hr hup hb
  generalize hN : ms.length = n at *
  have HN := hide hN
  clear hN
  go_enter Tryd.func58, Tryd.ntmps58
  go_wp2
  go_loopw [5, 6] (fun lo hi wr => ∃ low high : Nat, low ≤ high ∧ high ≤ n ∧ lo = .int .i64 low ∧ hi = .int .i64 high ∧ Hid (∀ i, i < low → (ms.getD i R.zero).ad < k) ∧ Hid (∀ i, high ≤ i → i < n → k ≤ (ms.getD i R.zero).ad) ∧ Hid (Below w.heap.size w wr)) (fun lo hi _ => (intOf hi - intOf lo).toNat)
  case atStart => exact ⟨0, n, by omega, by omega, rfl, rfl, hide (fun i hi => by omega), hide (fun i hi h2 => by omega), hide (Below.refl _ _)⟩
  case round =>
    obtain ⟨low, high, hlh, hhn, rfl, rfl, h1, h2, hbl⟩ := hrel
    by_cases hlt : (low : Int) < (high : Int)
    · obtain ⟨mid, hmid⟩ : ∃ mid : Nat, mid = low + (high - low) / 2 := ⟨_, rfl⟩
      have hm1 : low ≤ mid := by omega
      have hm2 : mid < high := by omega
      have em : (low : Int) + ((high : Int) - (low : Int)) / 2 = (mid : Int) := by omega
      have et : ((high : Int) - (low : Int)).tdiv 2 = ((high : Int) - (low : Int)) / 2 := Int.tdiv_eq_ediv_of_nonneg (by omega)
      have k0 : (0 : Int) ≤ (mid : Int) := by omega
      have k1 : (mid : Int) < (n : Int) := by omega
      have hlen : mid < ms.length := by rw [unhide HN]; omega
      rcases ((unhide HR).below (unhide hbl)) with e0 | ⟨g, off, rfl, hc⟩
      · exfalso; rw [e0] at hlen; simp at hlen
      have hA := hc mid hlen
      clear hc hlen
      have HC := hide ((unhide hbl).cell (p := ⟨b, 0, none⟩) hblt)
      have HP : Hid (k ≤ (ms.getD mid R.zero).ad → ∀ i, mid ≤ i → i < n → k ≤ (ms.getD i R.zero).ad) := hide (fun h i hi hn => by
        by_cases e : mid = i
        · subst e; exact h
        · have := unhide HUP mid i (by omega) hn; omega)
      have HQ : Hid (¬ k ≤ (ms.getD mid R.zero).ad → ∀ i, i < mid + 1 → (ms.getD i R.zero).ad < k) := hide (fun h i hi => by
        by_cases e : mid = i
        · subst e; omega
        · have := unhide HUP i mid (by omega) (by omega); omega)
      clear hmid
      generalize ms.getD mid R.zero = m at *
      obtain ⟨ad, mt⟩ := m
      obtain ⟨c0, c1⟩ := hA
      dsimp only at c0 c1 HP HQ
      go_wp2_with fail
      refine (cloE ad mt k b _ ((unhide HC).trans (unhide HB))).mono ?_
      rintro e w1 ⟨rfl, b1⟩
      have hb1 := hide ((unhide hbl).trans (b1.mono (unhide hbl).size))
      clear c0 c1 b1
      by_cases hp : k ≤ ad
      · have HST := hide (unhide HP hp)
        go_wp2_with fail
        exact ⟨⟨low, mid, by omega, by omega, rfl, rfl, h1, HST, hb1⟩, by simp [intOf]; omega⟩
      · have HST := hide (unhide HQ (by omega))
        go_wp2_with fail
        exact ⟨⟨mid + 1, high, by omega, by omega, by go_num, rfl, HST, h2, hb1⟩, by simp [intOf]; omega⟩
    · obtain rfl : low = high := by omega
      go_wp2_with fail
      go_ret
      exact ⟨low, rfl, hhn, unhide h1, fun h => unhide h2 low (Nat.le_refl _) h, unhide hbl⟩
set_option maxRecDepth 100000 in
set_option maxHeartbeats 2000000 in
theorem implEdgeOf (x y : Int) (a : Option Addr) (ms : List R) (cap : Nat) (k : Int) (w : World) (hm : ms.length ≤ 1048576) (hr : RM w a ms) :
    Calls Tryd.prog 25 #[.agg #[.int .i64 x, .int .i64 y, .slice a ms.length cap], .int .i64 k] w fun e w' => e = .returned (.tuple #[.int .i64 (edA x y ms k), .int .i64 (edE x y ms k)]) ∧ Below w.heap.size w w' := by
  have HA : Hid (Below w.heap.size w ((w.alloc (.cells #[.int .i64 x, .int .i64 y, .slice a ms.length cap] 44)).alloc (.cells #[.int .i64 k] 3))) := hide (((Below.refl _ _).alloc (Nat.le_refl _) _).alloc (by simp) _)
  have HX : Hid (Bx3 ((w.alloc (.cells #[.int .i64 x, .int .i64 y, .slice a ms.length cap] 44)).alloc (.cells #[.int .i64 k] 3)) w.heap.size x y (.slice a ms.length cap)) := hide ((bx3_new w x y _ _).below ((Below.refl _ _).alloc (Nat.le_refl _) _))
  have HC : Hid (((w.alloc (.cells #[.int .i64 x, .int .i64 y, .slice a ms.length cap] 44)).alloc (.cells #[.int .i64 k] 3)).cell? ⟨w.heap.size + 1, 0, none⟩ = some (.int .i64 k)) := hide (by
    have h := World.cell?_alloc_new (w.alloc (.cells #[.int .i64 x, .int .i64 y, .slice a ms.length cap] 44)) #[.int .i64 k] 3 0
    rw [World.size_alloc] at h; exact h)
  have HR := hide ((hr).below (unhide HA))
  clear hr
  cases hh : tcB x y ms
  · rw [(ed_bad hh).1, (ed_bad hh).2]
    have HH := hide hh
    clear hh
    go_enter Tryd.func25, Tryd.ntmps25
    go_wp2_with fail
    refine (implOK x y a ms cap _ hm (unhide HR)).mono ?_
    rintro e w1 ⟨rfl, b1⟩
    rw [unhide HH]
    have hb1 := hide ((unhide HA).trans (b1.mono (unhide HA).size))
    clear b1
    go_wp2_with fail
    go_ret2
    exact ⟨rfl, unhide hb1⟩
  have h8 := tc_len hh
  have HT : Hid (∀ j, j < ms.length → (∀ i, i < j → isAd k (ms.getD i R.zero) = false) → (ms.getD j R.zero).ad = k → edA x y ms k = (ms.getD j R.zero).mt ∧ edE x y ms k = 0) := hide (fun j hj h1 h2 => ed_at hh hj h1 h2)
  have HN : Hid ((∀ i, i < ms.length → isAd k (ms.getD i R.zero) = false) → edA x y ms k = 0 ∧ edE x y ms k = 5) := hide (fun h1 => ed_no hh h1)
  have HUP : Hid (∀ i j, i < j → j < ms.length → (ms.getD i R.zero).ad < (ms.getD j R.zero).ad) := hide (fun i j hij hj => Ri.rises (tc_all hh) j i hij hj)
  have HH := hide hh
  clear hh
  obtain ⟨A, hA⟩ : ∃ A, edA x y ms k = A := ⟨_, rfl⟩
  obtain ⟨E, hE⟩ : ∃ E, edE x y ms k = E := ⟨_, rfl⟩
  rw [hA, hE] at HT HN ⊢
  clear hA hE
  have hmf : ∀ (fn : Fn) (first cap : Array Value) (w : World), (Instr.makeFunc fn first cap).run Tryd.prog w = .ok (.func fn first cap) w := fun _ _ _ _ => rfl
  go_enter Tryd.func25, Tryd.ntmps25
  go_wp2_with fail
  refine (implOK x y a ms cap _ hm (unhide HR)).mono ?_
  rintro e w1 ⟨rfl, b1⟩
  rw [unhide HH]
  have HX1 := hide ((unhide HX).below b1)
  have HR1 := hide ((unhide HR).below b1)
  have HC1 : Hid (w1.cell? ⟨w.heap.size + 1, 0, none⟩ = some (.int .i64 k)) := hide ((b1.cell (p := ⟨w.heap.size + 1, 0, none⟩) (by simp)).trans (unhide HC))
  have hb1 := hide ((unhide HA).trans (b1.mono (unhide HA).size))
  clear b1 HX HR HA HC
  have hbx := (unhide HX1).2.2
  go_wp2_with fail
  clear hbx
  refine (firstE (w.heap.size + 1) a k ms cap _ (unhide HR1) h8 (unhide HUP) (unhide HC1)).mono ?_
  rintro e w2 ⟨p, rfl, hp, hp1, hp2, b2⟩
  have HP1 := hide hp1
  have HP2 := hide hp2
  have HX2 := hide ((unhide HX1).below b2)
  have HR2 := hide ((unhide HR1).below b2)
  have hcell : w2.cell? ⟨w.heap.size + 1, 0, none⟩ = some (.int .i64 k) := (b2.cell (p := ⟨w.heap.size + 1, 0, none⟩) (World.block_lt_of_cell? _ _ (unhide HC1))).trans (unhide HC1)
  have hb2 := hide ((unhide hb1).trans (b2.mono (unhide hb1).size))
  clear b2 hp1 hp2
  have hbx := (unhide HX2).2.2
  by_cases hlt : p = ms.length
  · have HAE := hide (unhide HN (fun i hi => by have := unhide HP1 i (by omega); unfold isAd; exact beq_eq_false_iff_ne.2 (by omega)))
    subst hlt
    generalize ms.length = n at *
    have he : ((n : Int) == (n : Int)) = true := by simp
    go_wp2_with fail
    go_quiet (fail)
    go_wp2_with fail
    go_ret2
    exact ⟨by rw [(unhide HAE).1, (unhide HAE).2]; rfl, Tim.below_drewN (unhide hb2) _⟩
  · have hlen : p < ms.length := by omega
    have he : ((p : Int) == (ms.length : Int)) = false := beq_eq_false_iff_ne.2 (by omega)
    have k0 : (0 : Int) ≤ (p : Int) := by omega
    have k1 : (p : Int) < (ms.length : Int) := by omega
    rcases (unhide HR2) with e0 | ⟨g, off, rfl, hc⟩
    · exfalso; rw [e0] at hlen; simp at hlen
    have hA := hc p hlen
    clear hc
    have HL := hide hlen
    clear hlen hlt
    by_cases hk : (ms.getD p R.zero).ad = k
    · have HAE := hide (unhide HT p (unhide HL) (fun i hi => by have := unhide HP1 i hi; unfold isAd; exact beq_eq_false_iff_ne.2 (by omega)) hk)
      have hne : ((ms.getD p R.zero).ad != k) = false := by simpa using hk
      clear hk
      generalize ms.getD p R.zero = m at *
      generalize ms.length = n at *
      obtain ⟨ad, mt⟩ := m
      obtain ⟨c0, c1⟩ := hA
      dsimp only at c0 c1 hne
      go_wp2_with fail
      go_quiet (fail)
      go_wp2_with fail
      go_ret2
      exact ⟨by rw [(unhide HAE).1, (unhide HAE).2]; rfl, Tim.below_drewN (unhide hb2) _⟩
    · have HAE := hide (unhide HN (fun i hi => by
        unfold isAd
        refine beq_eq_false_iff_ne.2 ?_
        by_cases e : i < p
        · have := unhide HP1 i e; omega
        · have h2 := unhide HP2 (unhide HL)
          by_cases e2 : i = p
          · subst e2; omega
          · have := unhide HUP p i (by omega) hi; omega))
      have hne : ((ms.getD p R.zero).ad != k) = true := by simpa using hk
      clear hk
      generalize ms.getD p R.zero = m at *
      generalize ms.length = n at *
      obtain ⟨ad, mt⟩ := m
      obtain ⟨c0, c1⟩ := hA
      dsimp only at c0 c1 hne
      go_wp2_with fail
      go_quiet (fail)
      go_wp2_with fail
      go_ret2
      exact ⟨by rw [(unhide HAE).1, (unhide HAE).2]; rfl, Tim.below_drewN (unhide hb2) _⟩
end Av
end Go.Proofs.YtpknahhdapmcoabDoor
