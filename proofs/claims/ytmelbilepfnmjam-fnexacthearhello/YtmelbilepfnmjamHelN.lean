/-
  Contracts over hellos: the neighbor with an address (the program's and the model's).
-/
import Derived.Test.YtmelbilepfnmjamHelC
import Derived.WalkMore
import Derived.Laws.NewBlocks
namespace Go.Proofs.Ytmelbilepfnmjam
open Go.ChangeShapes Go.WideShapes Go.ChangeAt Go.RowKit
set_option linter.unusedVariables false
set_option linter.unusedSimpArgs false
attribute [local go_sem ↓] Go.wp_at_zero Go.wp_at_succ
namespace Hl
open W1 Nb
def isAd (k : Int) (m : R) : Bool := m.ad == k
def nbF (ms : List R) (k : Int) : R := (ms.find? (isAd k)).getD R.zero
def nbA (x y : Int) (ms : List R) (k : Int) : R := if helB x y ms = true then nbF ms k else R.zero
def nbE (x y : Int) (ms : List R) (k : Int) : Int := if helB x y ms = true then (if (ms.find? (isAd k)).isSome = true then 0 else 5) else 1
/-- A neighbor's block that may be written. -/
def RB (w : World) (b : Nat) : Prop := (w.cell? ⟨b, 0, none⟩ = some (.int .i64 0) ∧ w.cell? ⟨b, 1, none⟩ = some (.int .i64 0) ∧ w.cell? ⟨b, 2, none⟩ = some (.int .i64 0) ∧ w.cell? ⟨b, 3, none⟩ = some (.bool false)) ∧
  (w.frozen? ⟨b, 0, none⟩ = false ∧ w.frozen? ⟨b, 1, none⟩ = false ∧ w.frozen? ⟨b, 2, none⟩ = false ∧ w.frozen? ⟨b, 3, none⟩ = false)
theorem RB.below {w w' : World} {b : Nat} (h : RB w b) (hb : Below w.heap.size w w') : RB w' b := by
  have hg : b < w.heap.size := World.block_lt_of_cell? _ _ h.1.1
  obtain ⟨⟨h0, h1, h2, h3⟩, g0, g1, g2, g3⟩ := h
  refine ⟨⟨?_, ?_, ?_, ?_⟩, ?_, ?_, ?_, ?_⟩
  all_goals first | (rw [hb.cell hg]; assumption) | (rw [hb.frozen hg]; assumption)
theorem rb_new (w : World) (t : Nat) : RB (w.alloc (.cells #[.int .i64 0, .int .i64 0, .int .i64 0, .bool false] t)) w.heap.size := by
  refine ⟨⟨?_, ?_, ?_, ?_⟩, ?_, ?_, ?_, ?_⟩ <;> simp [World.cell?_alloc_new]
set_option maxRecDepth 100000 in
set_option maxHeartbeats 4000000 in
theorem implNbOf (x y : Int) (a : Option Addr) (ms : List R) (cap : Nat) (k : Int) (w : World) (hm : ms.length ≤ 1048576) (hr : RM w a ms) :
    Calls Try.prog 69 #[.agg #[.int .i64 x, .int .i64 y, .slice a ms.length cap], .int .i64 k] w fun e w' => e = .returned (.tuple #[(nbA x y ms k).value, .int .i64 (nbE x y ms k)]) ∧ Below w.heap.size w w' := by
  have HA : Hid (Below w.heap.size w ((w.alloc (.cells #[.int .i64 x, .int .i64 y, .slice a ms.length cap] 47)).alloc (.cells #[.int .i64 0, .int .i64 0, .int .i64 0, .bool false] 84))) := hide (((Below.refl _ _).alloc (Nat.le_refl _) _).alloc (by simp) _)
  have HX : Hid (Bx3 ((w.alloc (.cells #[.int .i64 x, .int .i64 y, .slice a ms.length cap] 47)).alloc (.cells #[.int .i64 0, .int .i64 0, .int .i64 0, .bool false] 84)) w.heap.size x y (.slice a ms.length cap)) := hide ((bx3_new w x y _ _).below ((Below.refl _ _).alloc (Nat.le_refl _) _))
  have HB : Hid (RB ((w.alloc (.cells #[.int .i64 x, .int .i64 y, .slice a ms.length cap] 47)).alloc (.cells #[.int .i64 0, .int .i64 0, .int .i64 0, .bool false] 84)) (w.heap.size + 1)) := hide (by have := rb_new (w.alloc (.cells #[.int .i64 x, .int .i64 y, .slice a ms.length cap] 47)) 84; simpa using this)
  have HR := hide ((hr).below (unhide HA))
  clear hr
  cases hh : helB x y ms
  · have h1 : nbA x y ms k = R.zero := by unfold nbA; rw [if_neg (by simp [hh])]
    have h2 : nbE x y ms k = 1 := by unfold nbE; rw [if_neg (by simp [hh])]
    rw [h1, h2]
    have HH := hide hh
    clear h1 h2 hh
    go_enter Try.func69, Try.ntmps69
    go_wp2_with fail
    go_step3
    go_wp2_with fail
    refine (implOK x y a ms cap _ hm (unhide HR)).mono ?_
    rintro e w1 ⟨rfl, b1⟩
    rw [unhide HH]
    obtain ⟨⟨x0, x1, x2, x3⟩, y0, y1, y2, y3⟩ := (unhide HB).below b1
    have hb1 := hide ((unhide HA).trans (b1.mono (unhide HA).size))
    clear b1
    go_wp2_with fail
    (try rw [Exit.noGoto_ret])
    refine bodyPost_ret (v := .tuple #[.agg #[.int .i64 0, .int .i64 0, .int .i64 0, .bool false], .int .i64 1]) (by simp [results, Try.results69, go_sem, x0, x1, x2, x3]) rfl ⟨rfl, ?_⟩
    have hB := unhide hb1
    (repeat (first | (with_reducible exact hB) | (with_reducible refine Below.drew ?_) | (with_reducible refine Below.setCell ?_ ?_ _; rotate_left; (first | exact Nat.le_refl _ | (simp; done) | (dsimp only; omega))) | (with_reducible refine Below.alloc ?_ ?_ _; rotate_left; (first | exact Nat.le_refl _ | omega | (simp [World.setCell]; omega)))))
  · have HT : Hid (∀ j, j < ms.length → (∀ i, i < j → (ms.getD i R.zero).ad < k) → (ms.getD j R.zero).ad = k → nbA x y ms k = ms.getD j R.zero ∧ nbE x y ms k = 0) := hide (fun j hj h1 h2 => by
      have hf := Ri.find_at (z := R.zero) (isAd k) ms j hj (fun i hi => by have := h1 i hi; unfold isAd; exact beq_eq_false_iff_ne.2 (by omega)) (by unfold isAd; exact beq_iff_eq.2 h2)
      unfold nbA nbE nbF; rw [if_pos hh, if_pos hh, hf]; exact ⟨rfl, rfl⟩)
    have HN : Hid (∀ j, j ≤ ms.length → (∀ i, i < j → (ms.getD i R.zero).ad < k) → (j < ms.length → k < (ms.getD j R.zero).ad) → nbA x y ms k = R.zero ∧ nbE x y ms k = 5) := hide (fun j hj h1 h2 => by
      have hf := Ri.find_no (z := R.zero) (isAd k) ms (fun i hi => by
        unfold isAd; refine beq_eq_false_iff_ne.2 ?_
        by_cases e : i < j
        · have := h1 i e; omega
        · have h3 := h2 (by omega)
          by_cases e2 : i = j
          · subst e2; omega
          · have := Ri.rises (hel_all hh) i j (by omega) hi; omega)
      unfold nbA nbE nbF; rw [if_pos hh, if_pos hh, hf]; exact ⟨rfl, rfl⟩)
    have HH := hide hh
    clear hh
    obtain ⟨A, hA⟩ : ∃ A, nbA x y ms k = A := ⟨_, rfl⟩
    obtain ⟨E, hE⟩ : ∃ E, nbE x y ms k = E := ⟨_, rfl⟩
    rw [hA, hE] at HT HN ⊢
    clear hA hE
    go_enter Try.func69, Try.ntmps69
    go_wp2_with fail
    go_step3
    go_wp2_with fail
    refine (implOK x y a ms cap _ hm (unhide HR)).mono ?_
    rintro e w1 ⟨rfl, b1⟩
    rw [unhide HH]
    have HX1 := hide ((unhide HX).below b1)
    have HB1 := hide ((unhide HB).below b1)
    have HR1 := hide ((unhide HR).below b1)
    have hb1 := hide ((unhide HA).trans (b1.mono (unhide HA).size))
    have hbx := (unhide HX1).2.2
    clear b1 HX HB HR HA
    generalize hN : ms.length = n at *
    have HL := hide hN
    clear hN
    go_wp2_with fail
    go_step3
    go_wp2_with fail
    clear hbx
    go_loopw [15] (fun i wr => ∃ j : Nat, j ≤ n ∧ i = .int .i64 j ∧ Hid (∀ i, i < j → (ms.getD i R.zero).ad < k) ∧ Hid (Below w1.heap.size w1 wr)) (fun i _ => n - (intOf i).toNat)
    case atStart => exact ⟨0, by omega, rfl, hide (fun i hi => by omega), hide (Below.refl _ _)⟩
    case round =>
      obtain ⟨j, hj, rfl, hrl, hbl⟩ := hrel
      obtain ⟨⟨x0, x1, x2, x3⟩, y0, y1, y2, y3⟩ := (unhide HB1).below (unhide hbl)
      have hlw : w.heap.size + 1 < wr.heap.size := World.block_lt_of_cell? _ _ x0
      have hnw : ¬ (w.heap.size + 1 = wr.heap.size) := by omega
      by_cases hlt : (j : Int) < (n : Int)
      · have k0 : (0 : Int) ≤ (j : Int) := by omega
        have hlen : j < ms.length := by rw [unhide HL]; omega
        rcases (unhide HR1).below (by exact (unhide hbl)) with e0 | ⟨g, off, rfl, hc⟩
        · exfalso; rw [e0] at hlen; simp at hlen
        have hA := hc j hlen
        clear hc
        have hsz := (unhide hbl).size
        have HBL := hide ((unhide hbl).alloc hsz (.cells #[.int .i64 (ms.getD j R.zero).ad, .int .i64 (ms.getD j R.zero).st, .int .i64 (ms.getD j R.zero).mt, .bool (ms.getD j R.zero).mp] 84))
        have HBF := hide ((unhide hb1).trans ((unhide hbl).mono (unhide hb1).size))
        rcases Int.lt_trichotomy (ms.getD j R.zero).ad k with hk | hk | hk
        · have HST : Hid (∀ i, i < j + 1 → (ms.getD i R.zero).ad < k) := hide (fun i hi => by
            by_cases e : i = j
            · subst e; exact hk
            · exact unhide hrl i (by omega))
          have hne : ((ms.getD j R.zero).ad == k) = false := beq_eq_false_iff_ne.2 (by omega)
          have hng : ¬ k < (ms.getD j R.zero).ad := by omega
          generalize ms.getD j R.zero = m at *
          obtain ⟨ad, st, mt, mp⟩ := m
          obtain ⟨c0, c1, c2, c3⟩ := hA
          dsimp only at c0 c1 c2 c3 hk hne hng
          go_wp2_with fail
          go_roundw
          case rel => exact ⟨j + 1, by omega, by go_num, HST, HBL⟩
          case measure => simp [intOf]; omega
        · have HAE := hide (unhide HT j (by have := unhide HL; omega) (unhide hrl) hk)
          have hne : ((ms.getD j R.zero).ad == k) = true := beq_iff_eq.2 hk
          clear hk
          generalize ms.getD j R.zero = m at *
          obtain ⟨ad, st, mt, mp⟩ := m
          obtain ⟨c0, c1, c2, c3⟩ := hA
          dsimp only at c0 c1 c2 c3 hne
          go_wp2_with fail
          (try rw [Exit.noGoto_ret])
          refine bodyPost_ret (v := .tuple #[.agg #[.int .i64 ad, .int .i64 st, .int .i64 mt, .bool mp], .int .i64 0]) (by simp [results, Try.results69, go_sem, x0, x1, x2, x3, hlw]) rfl ⟨by rw [(unhide HAE).1, (unhide HAE).2]; rfl, ?_⟩
          have hB := unhide HBF
          (repeat (first | (with_reducible exact hB) | (with_reducible refine Below.drew ?_) | (with_reducible refine Below.setCell ?_ ?_ _; rotate_left; (first | exact Nat.le_refl _ | (simp; done) | (dsimp only; omega))) | (with_reducible refine Below.alloc ?_ ?_ _; rotate_left; (first | exact Nat.le_refl _ | omega | (simp [World.setCell]; omega)))))
        · have HAE := hide (unhide HN j (by omega) (unhide hrl) (fun _ => hk))
          have hne : ((ms.getD j R.zero).ad == k) = false := beq_eq_false_iff_ne.2 (by omega)
          generalize ms.getD j R.zero = m at *
          obtain ⟨ad, st, mt, mp⟩ := m
          obtain ⟨c0, c1, c2, c3⟩ := hA
          dsimp only at c0 c1 c2 c3 hne hk
          go_wp2_with fail
          (try rw [Exit.noGoto_ret])
          refine bodyPost_ret (v := .tuple #[.agg #[.int .i64 0, .int .i64 0, .int .i64 0, .bool false], .int .i64 5]) (by simp [results, Try.results69, go_sem, x0, x1, x2, x3, hlw]) rfl ⟨by rw [(unhide HAE).1, (unhide HAE).2]; rfl, ?_⟩
          have hB := unhide HBF
          (repeat (first | (with_reducible exact hB) | (with_reducible refine Below.drew ?_) | (with_reducible refine Below.setCell ?_ ?_ _; rotate_left; (first | exact Nat.le_refl _ | (simp; done) | (dsimp only; omega))) | (with_reducible refine Below.alloc ?_ ?_ _; rotate_left; (first | exact Nat.le_refl _ | omega | (simp [World.setCell]; omega)))))
      · obtain rfl : j = n := by omega
        have HAE := hide (unhide HN j (by have := unhide HL; omega) (unhide hrl) (fun h => by have := unhide HL; omega))
        have HBF := hide ((unhide hb1).trans ((unhide hbl).mono (unhide hb1).size))
        go_wp2_with fail
        (try rw [Exit.noGoto_ret])
        refine bodyPost_ret (v := .tuple #[.agg #[.int .i64 0, .int .i64 0, .int .i64 0, .bool false], .int .i64 5]) (by simp [results, Try.results69, go_sem, x0, x1, x2, x3]) rfl ⟨by rw [(unhide HAE).1, (unhide HAE).2]; rfl, ?_⟩
        have hB := unhide HBF
        (repeat (first | (with_reducible exact hB) | (with_reducible refine Below.drew ?_) | (with_reducible refine Below.setCell ?_ ?_ _; rotate_left; (first | exact Nat.le_refl _ | (simp; done) | (dsimp only; omega))) | (with_reducible refine Below.alloc ?_ ?_ _; rotate_left; (first | exact Nat.le_refl _ | omega | (simp [World.setCell]; omega)))))
set_option maxRecDepth 100000 in
set_option maxHeartbeats 4000000 in
theorem l04Find (x y : Int) (a : Option Addr) (ms : List R) (cap : Nat) (k : Int) (w : World) (hm : ms.length ≤ 1048576) (hr : RM w a ms) :
    Calls Try.prog 64 #[.agg #[.int .i64 x, .int .i64 y, .slice a ms.length cap], .int .i64 k] w fun e w' => e = .returned (.tuple #[(nbF ms k).value, .bool (ms.find? (isAd k)).isSome]) ∧ Below w.heap.size w w' := by
  have HA : Hid (Below w.heap.size w ((w.alloc (.cells #[.int .i64 x, .int .i64 y, .slice a ms.length cap] 47)).alloc (.cells #[.int .i64 0, .int .i64 0, .int .i64 0, .bool false] 84))) := hide (((Below.refl _ _).alloc (Nat.le_refl _) _).alloc (by simp) _)
  have HX : Hid (Bx3 ((w.alloc (.cells #[.int .i64 x, .int .i64 y, .slice a ms.length cap] 47)).alloc (.cells #[.int .i64 0, .int .i64 0, .int .i64 0, .bool false] 84)) w.heap.size x y (.slice a ms.length cap)) := hide ((bx3_new w x y _ _).below ((Below.refl _ _).alloc (Nat.le_refl _) _))
  have HB : Hid (RB ((w.alloc (.cells #[.int .i64 x, .int .i64 y, .slice a ms.length cap] 47)).alloc (.cells #[.int .i64 0, .int .i64 0, .int .i64 0, .bool false] 84)) (w.heap.size + 1)) := hide (by have := rb_new (w.alloc (.cells #[.int .i64 x, .int .i64 y, .slice a ms.length cap] 47)) 84; simpa using this)
  have HR := hide ((hr).below (unhide HA))
  clear hr
  have HT : Hid (∀ j, j < ms.length → (∀ i, i < j → isAd k (ms.getD i R.zero) = false) → isAd k (ms.getD j R.zero) = true → nbF ms k = ms.getD j R.zero ∧ (ms.find? (isAd k)).isSome = true) := hide (fun j hj h1 h2 => by
    have hf := Ri.find_at (z := R.zero) (isAd k) ms j hj h1 h2
    unfold nbF; rw [hf]; exact ⟨rfl, rfl⟩)
  have HN : Hid ((∀ i, i < ms.length → isAd k (ms.getD i R.zero) = false) → nbF ms k = R.zero ∧ (ms.find? (isAd k)).isSome = false) := hide (fun h1 => by
    have hf := Ri.find_no (z := R.zero) (isAd k) ms h1
    unfold nbF; rw [hf]; exact ⟨rfl, rfl⟩)
  obtain ⟨A, hA⟩ : ∃ A, nbF ms k = A := ⟨_, rfl⟩
  obtain ⟨E, hE⟩ : ∃ E, (ms.find? (isAd k)).isSome = E := ⟨_, rfl⟩
  rw [hA, hE] at HT HN ⊢
  clear hA hE
  generalize hN : ms.length = n at *
  have HL := hide hN
  clear hN
  obtain ⟨w1, hw1⟩ : ∃ w1, w1 = (w.alloc (.cells #[.int .i64 x, .int .i64 y, .slice a n cap] 47)).alloc (.cells #[.int .i64 0, .int .i64 0, .int .i64 0, .bool false] 84) := ⟨_, rfl⟩
  rw [← hw1] at HA HX HB HR
  have HW := hide hw1
  clear hw1
  go_enter Try.func64, Try.ntmps64
  go_wp2_with fail
  go_loopw [6] (fun i wr => ∃ j : Nat, j ≤ n ∧ i = .int .i64 j ∧ Hid (∀ i, i < j → isAd k (ms.getD i R.zero) = false) ∧ Hid (Below w1.heap.size w1 wr)) (fun i _ => n - (intOf i).toNat)
  case atStart => exact ⟨0, by omega, rfl, hide (fun i hi => by omega), hide (by rw [unhide HW]; exact Below.refl _ _)⟩
  case round =>
    obtain ⟨j, hj, rfl, hrl, hbl⟩ := hrel
    obtain ⟨⟨x0, x1, x2, x3⟩, y0, y1, y2, y3⟩ := (unhide HB).below (unhide hbl)
    have hbx := ((unhide HX).below (unhide hbl)).2.2
    have HBF := hide ((unhide HA).trans ((unhide hbl).mono (unhide HA).size))
    by_cases hlt : (j : Int) < (n : Int)
    · have k0 : (0 : Int) ≤ (j : Int) := by omega
      have hlen : j < ms.length := by rw [unhide HL]; omega
      rcases (unhide HR).below (by exact (unhide hbl)) with e0 | ⟨g, off, rfl, hc⟩
      · exfalso; rw [e0] at hlen; simp at hlen
      have hA := hc j hlen
      clear hc
      cases hk : isAd k (ms.getD j R.zero)
      · have HST : Hid (∀ i, i < j + 1 → isAd k (ms.getD i R.zero) = false) := hide (fun i hi => by
          by_cases e : i = j
          · subst e; exact hk
          · exact unhide hrl i (by omega))
        have hne : ((ms.getD j R.zero).ad == k) = false := hk
        clear hk
        generalize ms.getD j R.zero = m at *
        obtain ⟨ad, st, mt, mp⟩ := m
        obtain ⟨c0, c1, c2, c3⟩ := hA
        dsimp only at c0 c1 c2 c3 hne
        go_wp2_with fail
        go_roundw
        case rel => exact ⟨j + 1, by omega, by go_num, HST, hbl⟩
        case measure => simp [intOf]; omega
      · have HAE := hide (unhide HT j (by have := unhide HL; omega) (unhide hrl) hk)
        have hne : ((ms.getD j R.zero).ad == k) = true := hk
        clear hk
        generalize ms.getD j R.zero = m at *
        obtain ⟨ad, st, mt, mp⟩ := m
        obtain ⟨c0, c1, c2, c3⟩ := hA
        dsimp only at c0 c1 c2 c3 hne
        go_wp2_with fail
        refine bodyPost_ret (v := .tuple #[.agg #[.int .i64 ad, .int .i64 st, .int .i64 mt, .bool mp], .bool true]) (by simp [results, Try.results64, go_sem, x0, x1, x2, x3]) rfl ⟨by rw [(unhide HAE).1, (unhide HAE).2]; rfl, ?_⟩
        have hB := unhide HBF
        (repeat (first | (with_reducible exact hB) | (with_reducible refine Below.drew ?_) | (with_reducible refine Below.setCell ?_ ?_ _; rotate_left; (first | exact Nat.le_refl _ | (simp; done) | (dsimp only; omega))) | (with_reducible refine Below.alloc ?_ ?_ _; rotate_left; (first | exact Nat.le_refl _ | omega | (simp [World.setCell]; omega)))))
    · obtain rfl : j = n := by omega
      have HAE := hide (unhide HN (unhide hrl))
      go_wp2_with fail
      refine bodyPost_ret (v := .tuple #[.agg #[.int .i64 0, .int .i64 0, .int .i64 0, .bool false], .bool false]) (by simp [results, Try.results64, go_sem, x0, x1, x2, x3]) rfl ⟨by rw [(unhide HAE).1, (unhide HAE).2]; rfl, ?_⟩
      have hB := unhide HBF
      (repeat (first | (with_reducible exact hB) | (with_reducible refine Below.drew ?_) | (with_reducible refine Below.setCell ?_ ?_ _; rotate_left; (first | exact Nat.le_refl _ | (simp; done) | (dsimp only; omega))) | (with_reducible refine Below.alloc ?_ ?_ _; rotate_left; (first | exact Nat.le_refl _ | omega | (simp [World.setCell]; omega)))))
end Hl
end Go.Proofs.Ytmelbilepfnmjam
