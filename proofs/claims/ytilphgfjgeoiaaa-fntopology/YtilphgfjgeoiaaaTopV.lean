/-
  A source, a topology in a variable's block of its own: what its cells hold, that it may be written; the model's check of a source, and the source of an address.
-/
import Derived.Test.YtilphgfjgeoiaaaTopB
import Derived.Test.YtilphgfjgeoiaaaTwoC
import Derived.OneCell
namespace Go.Proofs.Ytilphgfjgeoiaaa
open Go.ChangeShapes Go.WideShapes Go.ChangeAt Go.RowKit
set_option linter.unusedVariables false
set_option linter.unusedSimpArgs false
set_option maxRecDepth 100000
attribute [local go_sem ↓] Go.wp_at_zero Go.wp_at_succ
namespace Tp
open W1 Tu St Tw
theorem lt_block {w : World} {b : Nat} {c : Obj} (h : w.heap[b]? = some c) : b < w.heap.size := by
  rcases Nat.lt_or_ge b w.heap.size with hlt | hge
  · exact hlt
  · rw [Array.getElem?_eq_none hge] at h; cases h
theorem heap_set {w : World} {b i : Nat} {c : Array Value} {t : TypeId} {fr : Nat × Nat} (u : Value) (h : w.heap[b]? = some (.cells c t fr)) : (w.setCell ⟨b, i, none⟩ u).heap[b]? = some (.cells (c.setIfInBounds i u) t fr) := by
  have hlt := lt_block h
  have h' : w.heap[b] = .cells c t fr := by simpa [Array.getElem?_eq_getElem hlt] using h
  show (w.heap.modify b _)[b]? = _
  rw [Array.getElem?_eq_getElem (by simpa using hlt), Array.getElem_modify_self, h']
  rfl
/-- A source's block that may be written. -/
def SV (w : World) (b : Nat) (m : So.R) : Prop := w.heap[b]? = some (.cells #[.int .i64 m.ad, .int .i64 m.an, .int .i64 m.til] 41 (0, 0))
theorem SV.cells {w : World} {b : Nat} {m : So.R} (h : SV w b m) : So.At w b 0 m := by
  unfold SV at h; refine ⟨?_, ?_, ?_⟩ <;> simp [World.cell?, h]
theorem SV.free {w : World} {b : Nat} {m : So.R} (h : SV w b m) (i : Nat) : w.frozen? ⟨b, i, none⟩ = false := by unfold SV at h; simp [World.frozen?, h]
theorem SV.lt {w : World} {b : Nat} {m : So.R} (h : SV w b m) : b < w.heap.size := lt_block h
theorem SV.below {w w' : World} {b : Nat} {m : So.R} (h : SV w b m) (hb : Below w.heap.size w w') : SV w' b m := (hb.block b h.lt).trans h
theorem sv_new (w : World) (m : So.R) : SV (w.alloc (.cells #[.int .i64 m.ad, .int .i64 m.an, .int .i64 m.til] 41)) w.heap.size m := heap_alloc_new w _
/-- A topology's block that may be written. -/
def TV (w : World) (b : Nat) (x y : Value) : Prop := w.heap[b]? = some (.cells #[x, y] 26 (0, 0))
theorem TV.bx {w : World} {b : Nat} {x y : Value} (h : TV w b x y) : Bx2 w b x y := by
  unfold TV at h; constructor <;> simp [World.cell?, h]
theorem TV.free {w : World} {b : Nat} {x y : Value} (h : TV w b x y) (i : Nat) : w.frozen? ⟨b, i, none⟩ = false := by unfold TV at h; simp [World.frozen?, h]
theorem TV.lt {w : World} {b : Nat} {x y : Value} (h : TV w b x y) : b < w.heap.size := lt_block h
theorem TV.drew {w : World} {b : Nat} {x y : Value} (h : TV w b x y) : TV w.drew b x y := h
theorem TV.below {w w' : World} {b : Nat} {x y : Value} (h : TV w b x y) (hb : Below w.heap.size w w') : TV w' b x y := (hb.block b h.lt).trans h
theorem TV.under {w w' : World} {B b : Nat} {x y : Value} (h : TV w b x y) (hb : Below B w w') (hl : b < B) : TV w' b x y := (hb.block b hl).trans h
theorem TV.grown {w w' : World} {b : Nat} {x y : Value} {r : Option Nat} (h : TV w b x y) (hg : w.grownBy w' r) (hne : some b ≠ r) : TV w' b x y := (hg.block b h.lt hne).trans h
theorem tv_new (w : World) (x y : Value) : TV (w.alloc (.cells #[x, y] 26)) w.heap.size x y := heap_alloc_new w _
theorem TV.set0 {w : World} {b : Nat} {x y : Value} (h : TV w b x y) (u : Value) : TV (w.setCell ⟨b, 0, none⟩ u) b u y := heap_set u h
theorem TV.set1 {w : World} {b : Nat} {x y : Value} (h : TV w b x y) (u : Value) : TV (w.setCell ⟨b, 1, none⟩ u) b x u := heap_set u h
theorem TV.put {w : World} {b : Nat} {x y : Value} (h : TV w b x y) (u v : Value) : TV ((w.setCell ⟨b, 0, none⟩ u).setCell ⟨b, 1, none⟩ v) b u v := (h.set0 u).set1 v
theorem TV.other {w : World} {b : Nat} {x y : Value} (h : TV w b x y) {p : Addr} (hp : b ≠ p.block) (u : Value) : TV (w.setCell p u) b x y := (Below.heap_setCell _ _ _ _ hp).trans h
set_option maxHeartbeats 1000000 in
theorem l09Source (ad an til : Int) (w : World) :
    Calls Try.prog 81 #[.agg #[.int .i64 ad, .int .i64 an, .int .i64 til]] w fun e w' => e = .returned (.bool (okS ⟨ad, an, til⟩)) ∧ Below w.heap.size w w' := by
  have E : Hid (okS ⟨ad, an, til⟩ = (inB ad 1 8 && (inB an 0 65535 && inB til 0 1073741824))) := hide rfl
  cases h1 : inB ad 1 8
  rotate_left
  cases h2 : inB an 0 65535
  rotate_left
  cases h3 : inB til 0 1073741824
  all_goals
    go_enter Try.func81, Try.ntmps81
    go_wp2_with (first | (go_at_call 35; refine (l01In _ _ _ _).mono ?_; rintro e w' ⟨rfl, rfl⟩) | (go_at_call 34; refine (l01Addr _ _).mono ?_; rintro e w' ⟨rfl, rfl⟩))
    go_ret
    exact ⟨ret_bool (by rw [unhide E]; simp [*]), (Below.refl _ _).alloc (Nat.le_refl _) _⟩
set_option maxHeartbeats 4000000 in
theorem l09Find (a : Option Addr) (ss : List So.R) (ca : Nat) (vb : Value) (k : Int) (w : World) (hm : ss.length ≤ 1048576) (hr : So.RM w a ss) :
    Calls Try.prog 56 #[.agg #[.slice a ss.length ca, vb], .int .i64 k] w fun e w' => e = .returned (.tuple #[(fS ss k).value, .bool (hasS ss k)]) ∧ Below w.heap.size w w' := by
  have HT : Hid (∀ j, j < ss.length → (∀ i, i < j → isS k (ss.getD i So.R.zero) = false) → isS k (ss.getD j So.R.zero) = true → fS ss k = ss.getD j So.R.zero ∧ hasS ss k = true) := hide (fun j hj h1 h2 => by
    have hf := Ri.find_at (z := So.R.zero) (isS k) ss j hj h1 h2
    unfold fS hasS; rw [hf]; exact ⟨rfl, rfl⟩)
  have HN : Hid ((∀ i, i < ss.length → isS k (ss.getD i So.R.zero) = false) → fS ss k = So.R.zero ∧ hasS ss k = false) := hide (fun h1 => by
    have hf := Ri.find_no (z := So.R.zero) (isS k) ss h1
    unfold fS hasS; rw [hf]; exact ⟨rfl, rfl⟩)
  obtain ⟨A, hA⟩ : ∃ A, fS ss k = A := ⟨_, rfl⟩
  obtain ⟨E, hE⟩ : ∃ E, hasS ss k = E := ⟨_, rfl⟩
  rw [hA, hE] at HT HN ⊢
  clear hA hE
  have HR0 := hide hr
  clear hr
  obtain ⟨n, hN⟩ : ∃ n, ss.length = n := ⟨_, rfl⟩
  have HL := hide hN
  rw [hN] at hm HT HN ⊢
  clear hN
  have HA0 : Hid (Below w.heap.size w (w.alloc (.cells #[.slice a n ca, vb] 26))) := hide ((Below.refl _ _).alloc (Nat.le_refl _) _)
  have HA : Hid (Below w.heap.size w ((w.alloc (.cells #[.slice a n ca, vb] 26)).alloc (.cells #[.int .i64 0, .int .i64 0, .int .i64 0] 41))) := hide ((unhide HA0).alloc (unhide HA0).size _)
  have HX : Hid (Bx2 ((w.alloc (.cells #[.slice a n ca, vb] 26)).alloc (.cells #[.int .i64 0, .int .i64 0, .int .i64 0] 41)) w.heap.size (.slice a n ca) vb) := hide ((bx2_new w _ _ _).below ((Below.refl _ _).alloc (Nat.le_refl _) _))
  have HV : Hid (SV ((w.alloc (.cells #[.slice a n ca, vb] 26)).alloc (.cells #[.int .i64 0, .int .i64 0, .int .i64 0] 41)) (w.heap.size + 1) So.R.zero) := hide (by have := sv_new (w.alloc (.cells #[.slice a n ca, vb] 26)) So.R.zero; rw [show (w.alloc (.cells #[.slice a n ca, vb] 26)).heap.size = w.heap.size + 1 by simp] at this; exact this)
  have HR := hide ((unhide HR0).below (unhide HA))
  have hsz : w.heap.size ≤ w.heap.size + 1 := by omega
  clear HA0 HR0
  go_enter Try.func56, Try.ntmps56
  go_wp2_with fail
  generalize hW : (w.alloc (.cells #[.slice a n ca, vb] 26)).alloc (.cells #[.int .i64 0, .int .i64 0, .int .i64 0] 41) = W0 at *
  clear hW
  go_loopw [6] (fun i wr => ∃ j : Nat, j ≤ n ∧ i = .int .i64 j ∧ Hid (∀ i, i < j → isS k (ss.getD i So.R.zero) = false) ∧ W0 = wr) (fun i _ => n - (intOf i).toNat)
  case atStart => exact ⟨0, by omega, rfl, hide (fun i hi => by omega), rfl⟩
  case round =>
    obtain ⟨j, hj, rfl, hrl, rfl⟩ := hrel
    obtain ⟨x0, x1, x2⟩ := (unhide HV).cells
    simp only [Nat.zero_add] at x1 x2
    have y0 := (unhide HV).free 0
    have y1 := (unhide HV).free 1
    have y2 := (unhide HV).free 2
    unfold So.R.zero at x0 x1 x2
    dsimp only at x0 x1 x2
    obtain ⟨z0, z1⟩ := unhide HX
    by_cases hlt : (j : Int) < (n : Int)
    · have k0 : (0 : Int) ≤ (j : Int) := by omega
      have hlen : j < ss.length := by rw [unhide HL]; omega
      obtain ⟨g, off, rfl⟩ := (unhide HR).form (by omega)
      have hA := (unhide HR).at hlen
      cases hk : isS k (ss.getD j So.R.zero)
      · have HST : Hid (∀ i, i < j + 1 → isS k (ss.getD i So.R.zero) = false) := hide (fun i hi => by
          by_cases e : i = j
          · subst e; exact hk
          · exact unhide hrl i (by omega))
        have hne : ((ss.getD j So.R.zero).ad == k) = false := hk
        clear hk
        generalize ss.getD j So.R.zero = m at *
        obtain ⟨ad, an, til⟩ := m
        obtain ⟨c0, c1, c2⟩ := hA
        dsimp only at c0 c1 c2 hne
        go_wp2_with fail
        go_roundw
        case rel => exact ⟨j + 1, by omega, by go_num, HST, trivial⟩
        case measure => simp [intOf]; omega
      · have HAE := hide (unhide HT j (by omega) (unhide hrl) hk)
        have hne : ((ss.getD j So.R.zero).ad == k) = true := hk
        clear hk
        generalize ss.getD j So.R.zero = m at *
        obtain ⟨ad, an, til⟩ := m
        obtain ⟨c0, c1, c2⟩ := hA
        dsimp only at c0 c1 c2 hne
        go_wp2_with fail
        refine bodyPost_ret (v := .tuple #[.agg #[.int .i64 ad, .int .i64 an, .int .i64 til], .bool true]) (by simp [results, Try.results56, go_sem, x0, x1, x2]) rfl ⟨by rw [(unhide HAE).1, (unhide HAE).2]; rfl, ?_⟩
        have hB := unhide HA
        (repeat (first | (with_reducible exact hB) | (with_reducible refine Below.drew ?_) | (with_reducible refine Below.setCell ?_ ?_ _; rotate_left; (first | exact Nat.le_refl _ | (simp; done) | (dsimp only; omega))) | (with_reducible refine Below.alloc ?_ ?_ _; rotate_left; (first | exact Nat.le_refl _ | omega | (simp [World.setCell]; omega)))))
    · obtain rfl : j = n := by omega
      have HAE := hide (unhide HN (unhide hrl))
      go_wp2_with fail
      refine bodyPost_ret (v := .tuple #[.agg #[.int .i64 0, .int .i64 0, .int .i64 0], .bool false]) (by simp [results, Try.results56, go_sem, x0, x1, x2]) rfl ⟨by rw [(unhide HAE).1, (unhide HAE).2]; rfl, ?_⟩
      have hB := unhide HA
      (repeat (first | (with_reducible exact hB) | (with_reducible refine Below.drew ?_) | (with_reducible refine Below.setCell ?_ ?_ _; rotate_left; (first | exact Nat.le_refl _ | (simp; done) | (dsimp only; omega))) | (with_reducible refine Below.alloc ?_ ?_ _; rotate_left; (first | exact Nat.le_refl _ | omega | (simp [World.setCell]; omega)))))
theorem l09FindL (a : Option Addr) (ss : List So.R) (n ca : Nat) (vb : Value) (k : Int) (w : World) (hn : ss.length = n) (hm : n ≤ 1048576) (hr : So.RM w a ss) :
    Calls Try.prog 56 #[.agg #[.slice a n ca, vb], .int .i64 k] w fun e w' => e = .returned (.tuple #[(fS ss k).value, .bool (hasS ss k)]) ∧ Below w.heap.size w w' := by
  subst hn; exact l09Find a ss ca vb k w hm hr
end Tp
end Go.Proofs.Ytilphgfjgeoiaaa
