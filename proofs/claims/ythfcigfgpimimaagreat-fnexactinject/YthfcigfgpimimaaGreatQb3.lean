/-
  Of the texts TwoC, TopV, StrTop, RtrS, RtrM, RtrL, NetW, RecFrame: what this claim needs of them. (put together by mkprune.py)
-/
import Derived.Test.YthfcigfgpimimaaGreatQb2
import Derived.Deep.QuietTactic
import Derived.BigQuiet
import Derived.OneCell
import Derived.Deep.RegionHeld3
import Derived.Deep.DrawnRows
import Derived.Deep.Slices
import Derived.Laws.AppendOwn
namespace Go.Proofs.YthfcigfgpimimaaGreat
open Go.ChangeShapes Go.WideShapes Go.ChangeAt Go.RowKit
set_option linter.unusedVariables false
set_option linter.unusedSimpArgs false
attribute [local go_sem ↓] Go.wp_at_zero Go.wp_at_succ
namespace Tw
open W1 Tu St
theorem below_drewN {B : Nat} {w0 w : World} (h : Below B w0 w) (q : Nat) : Below B w0 (w.drewN q) := ⟨h.os, h.tape, h.output, h.size, h.block⟩
theorem key_check {ms : List R} {j : Nat} {v u : Int} (hj : j < ms.length) (hv' : IntKind.i64.wrap ((ms.getD j R.zero).key.tdiv 100) = v) (hu' : (ms.getD j R.zero).key.tmod 100 = u) (hr : keysB ms j = true ∨ setB ms = false) :
    ((inB v 1 8 && (inB u 1 8 && !(v == u))) = false → twoB ms = false) ∧ ((inB v 1 8 && (inB u 1 8 && !(v == u))) = true → keysB ms (j + 1) = true ∨ setB ms = false) := by
  cases hs : setB ms
  · exact ⟨fun _ => set_no hs, fun _ => .inr rfl⟩
  have hb := ok_bounds (setB_ok hs hj)
  have e1 : (ms.getD j R.zero).key.tdiv 100 = (ms.getD j R.zero).key / 100 := Int.tdiv_eq_ediv_of_nonneg hb.1
  have w1 : v = hv (ms.getD j R.zero) := by rw [← hv', IntKind.wrap_i64]; unfold hv; rw [e1]; omega
  have w2 : u = ha (ms.getD j R.zero) := by rw [← hu']; rfl
  have e : (inB v 1 8 && (inB u 1 8 && !(v == u))) = okK (ms.getD j R.zero) := by rw [w1, w2]; rfl
  rw [e]
  refine ⟨fun h => keys_no hj h, fun h => .inl (keys_succ hj ?_ h)⟩
  rcases hr with h | h
  · exact h
  · rw [hs] at h; cases h
set_option maxRecDepth 100000 in
set_option maxHeartbeats 4000000 in
theorem l07OK (a : Option Addr) (ms : List R) (cap : Nat) (w : World) (hm : ms.length ≤ 1048576) (hr : RM w a ms) :
    Calls Tryz.prog 66 #[.slice a ms.length cap] w fun e w' => e = .returned (.bool (twoB ms)) ∧ Below w.heap.size w w' := by
  have HR := hide hr
  clear hr
  obtain ⟨A, hA⟩ : ∃ A, twoB ms = A := ⟨_, rfl⟩
  have HA := hide hA
  rw [hA]
  clear hA
  generalize hN : ms.length = n at *
  have HN := hide hN
  clear hN
  go_enter Tryz.func66, Tryz.ntmps66
  go_wp2_with fail
  go_loopw [3] (fun i wr => ∃ j : Nat, j ≤ n ∧ i = .int .i64 j ∧ Hid (keysB ms j = true ∨ setB ms = false) ∧ Hid (∃ q, wr = w.drewN q)) (fun i _ => n - (intOf i).toNat)
  case atStart => exact ⟨0, by omega, rfl, hide (.inl (keys_zero ms)), hide ⟨0, rfl⟩⟩
  case round =>
    obtain ⟨j, hj, rfl, hrl, hq⟩ := hrel
    have HRr : Hid (RM wr a ms) := hide (by obtain ⟨q, e⟩ := unhide hq; rw [e]; exact unhide HR)
    have HD : Hid (∀ m, ∃ q, wr.drewN m = w.drewN q) := hide (fun m => by obtain ⟨q, e⟩ := unhide hq; exact ⟨_, by rw [e, World.drewN_drewN]⟩)
    by_cases hlt : (j : Int) < (n : Int)
    · have k0 : (0 : Int) ≤ (j : Int) := by omega
      have hlen : j < ms.length := by rw [unhide HN]; omega
      obtain ⟨g, off, rfl⟩ := (unhide HR).form (by omega)
      obtain ⟨c0, c1, c2⟩ := (unhide HRr).at hlen
      obtain ⟨v, hv'⟩ : ∃ v, IntKind.i64.wrap ((ms.getD j R.zero).key.tdiv 100) = v := ⟨_, rfl⟩
      obtain ⟨u, hu'⟩ : ∃ u, (ms.getD j R.zero).key.tmod 100 = u := ⟨_, rfl⟩
      obtain ⟨HF, HC⟩ := key_check hlen hv' hu' (unhide hrl)
      rw [unhide HA] at HF
      have HF := hide HF
      have HC := hide HC
      generalize ms.getD j R.zero = m at *
      obtain ⟨key, til, val⟩ := m
      dsimp only at c0 c1 c2 hv' hu'
      cases h1 : inB v 1 8
      rotate_left
      cases h2 : inB u 1 8
      rotate_left
      cases h3 : (v == u)
      · have HT := hide (unhide HC (by rw [h1, h2, h3]; rfl))
        go_wp2_with fail
        go_quiet ((go_at_call 64; exact Calls.quiet_of_same (l01Addr _ _)))
        go_wp2_with fail
        go_roundw
        case rel => exact ⟨j + 1, by omega, by go_num, HT, hide (unhide HD _)⟩
        case measure => simp [intOf]; omega
      · have HT := hide (unhide HF (by rw [h1, h2, h3]; rfl))
        go_wp2_with fail
        go_quiet ((go_at_call 64; exact Calls.quiet_of_same (l01Addr _ _)))
        go_wp2_with fail
        go_ret
        obtain ⟨q, e⟩ := unhide HD _
        exact ⟨ret_bool (unhide HT).symm, by rw [e]; exact below_drewN (Below.refl _ _) _⟩
      · have HT := hide (unhide HF (by rw [h1]; rfl))
        go_wp2_with fail
        go_quiet ((go_at_call 64; exact Calls.quiet_of_same (l01Addr _ _)))
        go_wp2_with fail
        go_ret
        obtain ⟨q, e⟩ := unhide HD _
        exact ⟨ret_bool (unhide HT).symm, by rw [e]; exact below_drewN (Below.refl _ _) _⟩
      · have HT := hide (unhide HF (by rw [h1, h2]; rfl))
        go_wp2_with fail
        go_quiet ((go_at_call 64; exact Calls.quiet_of_same (l01Addr _ _)))
        go_wp2_with fail
        go_ret
        obtain ⟨q, e⟩ := unhide HD _
        exact ⟨ret_bool (unhide HT).symm, by rw [e]; exact below_drewN (Below.refl _ _) _⟩
    · obtain rfl : j = n := by omega
      have HT : Hid (setB ms = A) := hide (by
        rw [← unhide HA]
        rcases unhide hrl with h | h
        · exact (keys_all (by rw [unhide HN]; exact h)).symm
        · rw [h, set_no h])
      have HB : Hid (Below w.heap.size w wr) := hide (by obtain ⟨q, e⟩ := unhide hq; rw [e]; exact below_drewN (Below.refl _ _) _)
      go_wp2_with fail
      rw [← unhide HN]
      refine (St.specOK _ ms cap _ (by rw [unhide HN]; omega) (unhide HRr)).mono ?_
      rintro e w1 ⟨rfl, b1⟩
      rw [unhide HT]
      have HB1 := hide ((unhide HB).trans (b1.mono (unhide HB).size))
      clear b1
      go_wp2_with fail
      go_ret
      exact ⟨rfl, unhide HB1⟩
end Tw
end Go.Proofs.YthfcigfgpimimaaGreat
namespace Go.Proofs.YthfcigfgpimimaaGreat
open Go.ChangeShapes Go.WideShapes Go.ChangeAt Go.RowKit
set_option linter.unusedVariables false
set_option linter.unusedSimpArgs false
set_option maxRecDepth 100000
attribute [local go_sem ↓] Go.wp_at_zero Go.wp_at_succ
namespace Tp
open W1 Tu St Tw
theorem lt_block {w : World} {b : Nat} {c : Obj} (h : w.heap[b]? = some c) : b < w.heap.size := by
  rcases Nat.lt_or_ge b w.heap.size with hlt | hge
  · exact hlt
  · rw [Array.getElem?_eq_none hge] at h; cases h
theorem heap_set {w : World} {b i : Nat} {c : Array Value} {t : TypeId} {fr : Nat × Nat} (u : Value) (h : w.heap[b]? = some (.cells c t fr)) : (w.setCell ⟨b, i, none⟩ u).heap[b]? = some (.cells (c.setIfInBounds i u) t fr) := by
  have hlt := lt_block h
  have h' : w.heap[b] = .cells c t fr := by simpa [Array.getElem?_eq_getElem hlt] using h
  show (w.heap.modify b _)[b]? = _
  rw [Array.getElem?_eq_getElem (by simpa using hlt), Array.getElem_modify_self, h']
  rfl
/-- A source's block that may be written. -/
def SV (w : World) (b : Nat) (m : So.R) : Prop := w.heap[b]? = some (.cells #[.int .i64 m.ad, .int .i64 m.an, .int .i64 m.til] 107 (0, 0))
theorem SV.cells {w : World} {b : Nat} {m : So.R} (h : SV w b m) : So.At w b 0 m := by
  unfold SV at h; refine ⟨?_, ?_, ?_⟩ <;> simp [World.cell?, h]
theorem SV.free {w : World} {b : Nat} {m : So.R} (h : SV w b m) (i : Nat) : w.frozen? ⟨b, i, none⟩ = false := by unfold SV at h; simp [World.frozen?, h]
theorem SV.lt {w : World} {b : Nat} {m : So.R} (h : SV w b m) : b < w.heap.size := lt_block h
theorem SV.below {w w' : World} {b : Nat} {m : So.R} (h : SV w b m) (hb : Below w.heap.size w w') : SV w' b m := (hb.block b h.lt).trans h
theorem sv_new (w : World) (m : So.R) : SV (w.alloc (.cells #[.int .i64 m.ad, .int .i64 m.an, .int .i64 m.til] 107)) w.heap.size m := heap_alloc_new w _
/-- A topology's block that may be written. -/
def TV (w : World) (b : Nat) (x y : Value) : Prop := w.heap[b]? = some (.cells #[x, y] 77 (0, 0))
theorem TV.bx {w : World} {b : Nat} {x y : Value} (h : TV w b x y) : Bx2 w b x y := by
  unfold TV at h; constructor <;> simp [World.cell?, h]
theorem TV.free {w : World} {b : Nat} {x y : Value} (h : TV w b x y) (i : Nat) : w.frozen? ⟨b, i, none⟩ = false := by unfold TV at h; simp [World.frozen?, h]
theorem TV.lt {w : World} {b : Nat} {x y : Value} (h : TV w b x y) : b < w.heap.size := lt_block h
theorem TV.drew {w : World} {b : Nat} {x y : Value} (h : TV w b x y) : TV w.drew b x y := h
theorem TV.below {w w' : World} {b : Nat} {x y : Value} (h : TV w b x y) (hb : Below w.heap.size w w') : TV w' b x y := (hb.block b h.lt).trans h
theorem TV.under {w w' : World} {B b : Nat} {x y : Value} (h : TV w b x y) (hb : Below B w w') (hl : b < B) : TV w' b x y := (hb.block b hl).trans h
theorem TV.grown {w w' : World} {b : Nat} {x y : Value} {r : Option Nat} (h : TV w b x y) (hg : w.grownBy w' r) (hne : some b ≠ r) : TV w' b x y := (hg.block b h.lt hne).trans h
theorem tv_new (w : World) (x y : Value) : TV (w.alloc (.cells #[x, y] 77)) w.heap.size x y := heap_alloc_new w _
theorem TV.set0 {w : World} {b : Nat} {x y : Value} (h : TV w b x y) (u : Value) : TV (w.setCell ⟨b, 0, none⟩ u) b u y := heap_set u h
theorem TV.set1 {w : World} {b : Nat} {x y : Value} (h : TV w b x y) (u : Value) : TV (w.setCell ⟨b, 1, none⟩ u) b x u := heap_set u h
theorem TV.put {w : World} {b : Nat} {x y : Value} (h : TV w b x y) (u v : Value) : TV ((w.setCell ⟨b, 0, none⟩ u).setCell ⟨b, 1, none⟩ v) b u v := (h.set0 u).set1 v
theorem TV.other {w : World} {b : Nat} {x y : Value} (h : TV w b x y) {p : Addr} (hp : b ≠ p.block) (u : Value) : TV (w.setCell p u) b x y := (Below.heap_setCell _ _ _ _ hp).trans h
set_option maxHeartbeats 1000000 in
theorem l09Source (ad an til : Int) (w : World) :
    Calls Tryz.prog 94 #[.agg #[.int .i64 ad, .int .i64 an, .int .i64 til]] w fun e w' => e = .returned (.bool (okS ⟨ad, an, til⟩)) ∧ Below w.heap.size w w' := by
  have E : Hid (okS ⟨ad, an, til⟩ = (inB ad 1 8 && (inB an 0 65535 && inB til 0 1073741824))) := hide rfl
  cases h1 : inB ad 1 8
  rotate_left
  cases h2 : inB an 0 65535
  rotate_left
  cases h3 : inB til 0 1073741824
  all_goals
    go_enter Tryz.func94, Tryz.ntmps94
    go_wp2_with (first | (go_at_call 36; refine (l01In _ _ _ _).mono ?_; rintro e w' ⟨rfl, rfl⟩) | (go_at_call 64; refine (l01Addr _ _).mono ?_; rintro e w' ⟨rfl, rfl⟩))
    go_ret
    exact ⟨ret_bool (by rw [unhide E]; simp [*]), (Below.refl _ _).alloc (Nat.le_refl _) _⟩
set_option maxHeartbeats 4000000 in
theorem l09Find (a : Option Addr) (ss : List So.R) (ca : Nat) (vb : Value) (k : Int) (w : World) (hm : ss.length ≤ 1048576) (hr : So.RM w a ss) :
    Calls Tryz.prog 71 #[.agg #[.slice a ss.length ca, vb], .int .i64 k] w fun e w' => e = .returned (.tuple #[(fS ss k).value, .bool (hasS ss k)]) ∧ Below w.heap.size w w' := by
  have HT : Hid (∀ j, j < ss.length → (∀ i, i < j → isS k (ss.getD i So.R.zero) = false) → isS k (ss.getD j So.R.zero) = true → fS ss k = ss.getD j So.R.zero ∧ hasS ss k = true) := hide (fun j hj h1 h2 => by
    have hf := Ri.find_at (z := So.R.zero) (isS k) ss j hj h1 h2
    unfold fS hasS; rw [hf]; exact ⟨rfl, rfl⟩)
  have HN : Hid ((∀ i, i < ss.length → isS k (ss.getD i So.R.zero) = false) → fS ss k = So.R.zero ∧ hasS ss k = false) := hide (fun h1 => by
    have hf := Ri.find_no (z := So.R.zero) (isS k) ss h1
    unfold fS hasS; rw [hf]; exact ⟨rfl, rfl⟩)
  obtain ⟨A, hA⟩ : ∃ A, fS ss k = A := ⟨_, rfl⟩
  obtain ⟨E, hE⟩ : ∃ E, hasS ss k = E := ⟨_, rfl⟩
  rw [hA, hE] at HT HN ⊢
  clear hA hE
  have HR0 := hide hr
  clear hr
  obtain ⟨n, hN⟩ : ∃ n, ss.length = n := ⟨_, rfl⟩
  have HL := hide hN
  rw [hN] at hm HT HN ⊢
  clear hN
  have HA0 : Hid (Below w.heap.size w (w.alloc (.cells #[.slice a n ca, vb] 77))) := hide ((Below.refl _ _).alloc (Nat.le_refl _) _)
  have HA : Hid (Below w.heap.size w ((w.alloc (.cells #[.slice a n ca, vb] 77)).alloc (.cells #[.int .i64 0, .int .i64 0, .int .i64 0] 107))) := hide ((unhide HA0).alloc (unhide HA0).size _)
  have HX : Hid (Bx2 ((w.alloc (.cells #[.slice a n ca, vb] 77)).alloc (.cells #[.int .i64 0, .int .i64 0, .int .i64 0] 107)) w.heap.size (.slice a n ca) vb) := hide ((bx2_new w _ _ _).below ((Below.refl _ _).alloc (Nat.le_refl _) _))
  have HV : Hid (SV ((w.alloc (.cells #[.slice a n ca, vb] 77)).alloc (.cells #[.int .i64 0, .int .i64 0, .int .i64 0] 107)) (w.heap.size + 1) So.R.zero) := hide (by have := sv_new (w.alloc (.cells #[.slice a n ca, vb] 77)) So.R.zero; rw [show (w.alloc (.cells #[.slice a n ca, vb] 77)).heap.size = w.heap.size + 1 by simp] at this; exact this)
  have HR := hide ((unhide HR0).below (unhide HA))
  have hsz : w.heap.size ≤ w.heap.size + 1 := by omega
  clear HA0 HR0
  go_enter Tryz.func71, Tryz.ntmps71
  go_wp2_with fail
  generalize hW : (w.alloc (.cells #[.slice a n ca, vb] 77)).alloc (.cells #[.int .i64 0, .int .i64 0, .int .i64 0] 107) = W0 at *
  clear hW
  go_loopw [6] (fun i wr => ∃ j : Nat, j ≤ n ∧ i = .int .i64 j ∧ Hid (∀ i, i < j → isS k (ss.getD i So.R.zero) = false) ∧ W0 = wr) (fun i _ => n - (intOf i).toNat)
  case atStart => exact ⟨0, by omega, rfl, hide (fun i hi => by omega), rfl⟩
  case round =>
    obtain ⟨j, hj, rfl, hrl, rfl⟩ := hrel
    obtain ⟨x0, x1, x2⟩ := (unhide HV).cells
    simp only [Nat.zero_add] at x1 x2
    have y0 := (unhide HV).free 0
    have y1 := (unhide HV).free 1
    have y2 := (unhide HV).free 2
    unfold So.R.zero at x0 x1 x2
    dsimp only at x0 x1 x2
    obtain ⟨z0, z1⟩ := unhide HX
    by_cases hlt : (j : Int) < (n : Int)
    · have k0 : (0 : Int) ≤ (j : Int) := by omega
      have hlen : j < ss.length := by rw [unhide HL]; omega
      obtain ⟨g, off, rfl⟩ := (unhide HR).form (by omega)
      have hA := (unhide HR).at hlen
      cases hk : isS k (ss.getD j So.R.zero)
      · have HST : Hid (∀ i, i < j + 1 → isS k (ss.getD i So.R.zero) = false) := hide (fun i hi => by
          by_cases e : i = j
          · subst e; exact hk
          · exact unhide hrl i (by omega))
        have hne : ((ss.getD j So.R.zero).ad == k) = false := hk
        clear hk
        generalize ss.getD j So.R.zero = m at *
        obtain ⟨ad, an, til⟩ := m
        obtain ⟨c0, c1, c2⟩ := hA
        dsimp only at c0 c1 c2 hne
        go_wp2_with fail
        go_roundw
        case rel => exact ⟨j + 1, by omega, by go_num, HST, trivial⟩
        case measure => simp [intOf]; omega
      · have HAE := hide (unhide HT j (by omega) (unhide hrl) hk)
        have hne : ((ss.getD j So.R.zero).ad == k) = true := hk
        clear hk
        generalize ss.getD j So.R.zero = m at *
        obtain ⟨ad, an, til⟩ := m
        obtain ⟨c0, c1, c2⟩ := hA
        dsimp only at c0 c1 c2 hne
        go_wp2_with fail
        refine bodyPost_ret (v := .tuple #[.agg #[.int .i64 ad, .int .i64 an, .int .i64 til], .bool true]) (by simp [results, Tryz.results71, go_sem, x0, x1, x2]) rfl ⟨by rw [(unhide HAE).1, (unhide HAE).2]; rfl, ?_⟩
        have hB := unhide HA
        (repeat (first | (with_reducible exact hB) | (with_reducible refine Below.drew ?_) | (with_reducible refine Below.setCell ?_ ?_ _; rotate_left; (first | exact Nat.le_refl _ | (simp; done) | (dsimp only; omega))) | (with_reducible refine Below.alloc ?_ ?_ _; rotate_left; (first | exact Nat.le_refl _ | omega | (simp [World.setCell]; omega)))))
    · obtain rfl : j = n := by omega
      have HAE := hide (unhide HN (unhide hrl))
      go_wp2_with fail
      refine bodyPost_ret (v := .tuple #[.agg #[.int .i64 0, .int .i64 0, .int .i64 0], .bool false]) (by simp [results, Tryz.results71, go_sem, x0, x1, x2]) rfl ⟨by rw [(unhide HAE).1, (unhide HAE).2]; rfl, ?_⟩
      have hB := unhide HA
      (repeat (first | (with_reducible exact hB) | (with_reducible refine Below.drew ?_) | (with_reducible refine Below.setCell ?_ ?_ _; rotate_left; (first | exact Nat.le_refl _ | (simp; done) | (dsimp only; omega))) | (with_reducible refine Below.alloc ?_ ?_ _; rotate_left; (first | exact Nat.le_refl _ | omega | (simp [World.setCell]; omega)))))
theorem l09FindL (a : Option Addr) (ss : List So.R) (n ca : Nat) (vb : Value) (k : Int) (w : World) (hn : ss.length = n) (hm : n ≤ 1048576) (hr : So.RM w a ss) :
    Calls Tryz.prog 71 #[.agg #[.slice a n ca, vb], .int .i64 k] w fun e w' => e = .returned (.tuple #[(fS ss k).value, .bool (hasS ss k)]) ∧ Below w.heap.size w w' := by
  subst hn; exact l09Find a ss ca vb k w hm hr
end Tp
end Go.Proofs.YthfcigfgpimimaaGreat
namespace Go.Proofs.YthfcigfgpimimaaGreat
open Go.ChangeShapes Go.WideShapes Go.ChangeAt Go.RowKit
set_option linter.unusedVariables false
set_option linter.unusedSimpArgs false
set_option maxRecDepth 100000
attribute [local go_sem ↓] Go.wp_at_zero Go.wp_at_succ
namespace Tq
open W1 Tp
set_option maxHeartbeats 2000000 in
theorem sz (a : Option Addr) (n ca : Nat) (b : Option Addr) (m cb : Nat) (L : Int) (w : World) (hL : 0 ≤ L) (hL1 : L ≤ 1048576) (hn : n ≤ maxLen) (hm : m ≤ maxLen) :
    Calls Tryz.prog 62 #[.agg #[.slice a n ca, .slice b m cb], .int .i64 L] w fun e w' => ∃ r : Int, e = .returned (.int .i64 r) ∧ Below w.heap.size w w' ∧ (r < 0 ∨ (0 ≤ r ∧ r = L - n - m)) := by
  go_enter Tryz.func62, Tryz.ntmps62
  go_wp2_with fail
  refine (So.szS a n ca L _ hL hL1 hn).mono ?_
  rintro e w1 ⟨r, rfl, rfl, hr⟩
  rcases hr with hr | ⟨hr, hr1⟩
  · go_wp2_with fail
    go_ret
    exact ⟨_, rfl, (Below.refl _ _).alloc (Nat.le_refl _) _, .inl (by omega)⟩
  · have hnn : ¬ r < 0 := by omega
    have hr2 : r ≤ 1048576 := by omega
    have HR1 := hide hr1
    clear hr1
    go_wp2_with fail
    refine (Tu.szS b m cb r _ hr hr2 hm).mono ?_
    rintro e w2 ⟨s, rfl, rfl, hs⟩
    rcases hs with hs | ⟨hs, hs1⟩
    · go_wp2_with fail
      go_ret
      exact ⟨_, rfl, (Below.refl _ _).alloc (Nat.le_refl _) _, .inl (by omega)⟩
    · have hns : ¬ s < 0 := by omega
      have HS1 := hide hs1
      clear hs1
      go_wp2_with fail
      go_ret
      exact ⟨_, rfl, (Below.refl _ _).alloc (Nat.le_refl _) _, .inr ⟨hs, by rw [unhide HS1, unhide HR1]⟩⟩
theorem uptoS_set {w : World} {g n j : Nat} {ms : List So.R} {p : Addr} {v : Value} (h : So.Upto w g n j ms) (hne : p.block ≠ g) : So.Upto (w.setCell p v) g n j ms :=
  h.of_block (Below.heap_setCell _ _ _ _ (fun e => hne e.symm))
theorem uptoT_set {w : World} {g n j : Nat} {ms : List Tu.R} {p : Addr} {v : Value} (h : Tu.Upto w g n j ms) (hne : p.block ≠ g) : Tu.Upto (w.setCell p v) g n j ms :=
  h.of_block (Below.heap_setCell _ _ _ _ (fun e => hne e.symm))
set_option maxHeartbeats 4000000 in
theorem toV (a : Option Addr) (ss : List So.R) (ca : Nat) (b : Option Addr) (es : List Tu.R) (cb : Nat) (w : World) (hm : ss.length ≤ 1048576) (hl : es.length ≤ 1048576) (hr : So.RM w a ss) (hr' : Tu.RM w b es) :
    Calls Tryz.prog 78 #[.agg #[.slice a ss.length ca, .slice b es.length cb]] w fun e w' => ∃ g h, e = .returned (.agg #[.slice (some ⟨g, 0, none⟩) ss.length ss.length, .slice (some ⟨h, 0, none⟩) es.length es.length]) ∧ Below w.heap.size w w' ∧ (w.heap.size ≤ g ∧ g < h ∧ h < w'.heap.size) ∧ So.Upto w' g ss.length ss.length ss ∧ Tu.Upto w' h es.length es.length es := by
  have HA0 : Hid (Below w.heap.size w (w.alloc (.cells #[.slice a ss.length ca, .slice b es.length cb] 64))) := hide ((Below.refl _ _).alloc (Nat.le_refl _) _)
  have HA1 : Hid (Below w.heap.size w ((w.alloc (.cells #[.slice a ss.length ca, .slice b es.length cb] 64)).alloc (.cells #[.slice none 0 0, .slice none 0 0] 77))) := hide ((unhide HA0).alloc (unhide HA0).size _)
  have HA : Hid (Below w.heap.size w (((w.alloc (.cells #[.slice a ss.length ca, .slice b es.length cb] 64)).alloc (.cells #[.slice none 0 0, .slice none 0 0] 77)).alloc (.cells #[.slice none 0 0, .slice none 0 0] 77))) := hide ((unhide HA1).alloc (unhide HA1).size _)
  have HX : Hid (Bx2 (((w.alloc (.cells #[.slice a ss.length ca, .slice b es.length cb] 64)).alloc (.cells #[.slice none 0 0, .slice none 0 0] 77)).alloc (.cells #[.slice none 0 0, .slice none 0 0] 77)) w.heap.size (.slice a ss.length ca) (.slice b es.length cb)) := hide (((bx2_new w _ _ _).below ((Below.refl _ _).alloc (Nat.le_refl _) _)).below ((Below.refl _ _).alloc (Nat.le_refl _) _))
  have HZ : Hid (TV (((w.alloc (.cells #[.slice a ss.length ca, .slice b es.length cb] 64)).alloc (.cells #[.slice none 0 0, .slice none 0 0] 77)).alloc (.cells #[.slice none 0 0, .slice none 0 0] 77)) (w.heap.size + 1) (.slice none 0 0) (.slice none 0 0)) := hide (by have := (tv_new (w.alloc (.cells #[.slice a ss.length ca, .slice b es.length cb] 64)) (.slice none 0 0) (.slice none 0 0)).below ((Below.refl _ _).alloc (Nat.le_refl _) (.cells #[.slice none 0 0, .slice none 0 0] 77)); rw [show (w.alloc (.cells #[.slice a ss.length ca, .slice b es.length cb] 64)).heap.size = w.heap.size + 1 by simp] at this; exact this)
  have HO : Hid (TV (((w.alloc (.cells #[.slice a ss.length ca, .slice b es.length cb] 64)).alloc (.cells #[.slice none 0 0, .slice none 0 0] 77)).alloc (.cells #[.slice none 0 0, .slice none 0 0] 77)) (w.heap.size + 2) (.slice none 0 0) (.slice none 0 0)) := hide (by have := tv_new ((w.alloc (.cells #[.slice a ss.length ca, .slice b es.length cb] 64)).alloc (.cells #[.slice none 0 0, .slice none 0 0] 77)) (.slice none 0 0) (.slice none 0 0); rw [show ((w.alloc (.cells #[.slice a ss.length ca, .slice b es.length cb] 64)).alloc (.cells #[.slice none 0 0, .slice none 0 0] 77)).heap.size = w.heap.size + 2 by simp] at this; exact this)
  have HR := hide (hr.below (unhide HA))
  have HE0 := hide hr'
  have hw3 : ((((w.alloc (.cells #[.slice a ss.length ca, .slice b es.length cb] 64)).alloc (.cells #[.slice none 0 0, .slice none 0 0] 77)).alloc (.cells #[.slice none 0 0, .slice none 0 0] 77))).heap.size = w.heap.size + 3 := by simp
  clear hr hr' HA0 HA1
  go_enter Tryz.func78, Tryz.ntmps78
  go_wp2_with fail
  generalize hW : (((w.alloc (.cells #[.slice a ss.length ca, .slice b es.length cb] 64)).alloc (.cells #[.slice none 0 0, .slice none 0 0] 77)).alloc (.cells #[.slice none 0 0, .slice none 0 0] 77)) = w0 at *
  clear hW
  refine (So.toS a ss ca _ hm (unhide HR)).mono ?_
  rintro e w1 ⟨g, rfl, b1, hg, hz, u1⟩
  have HB1 := hide ((unhide HA).trans (b1.mono (unhide HA).size))
  have HX1 := hide ((unhide HX).below b1)
  have HZ1 := hide ((unhide HZ).below b1)
  have HO1 := hide ((unhide HO).below b1)
  have HU1 := hide u1
  have hs1 := b1.size
  clear b1 u1 HX HZ HO HR HA
  have hp2 : w.heap.size ≤ w.heap.size + 2 := by omega
  have hp1 : w.heap.size ≤ w.heap.size + 1 := by omega
  obtain ⟨w2, hw2⟩ : ∃ w2, w1.setCell ⟨w.heap.size + 2, 0, none⟩ (.slice (some ⟨g, 0, none⟩) ss.length ss.length) = w2 := ⟨_, rfl⟩
  have HB2 : Hid (Below w.heap.size w w2) := hide (by rw [← hw2]; exact (unhide HB1).setCell (p := ⟨w.heap.size + 2, 0, none⟩) hp2 _)
  have HX2 : Hid (Bx2 w2 w.heap.size (.slice a ss.length ca) (.slice b es.length cb)) := hide (by rw [← hw2]; exact (unhide HX1).but (Below.heap_setCell _ _ _ _ (by show w.heap.size ≠ w.heap.size + 2; omega)))
  have HZ2 : Hid (TV w2 (w.heap.size + 1) (.slice none 0 0) (.slice none 0 0)) := hide (by rw [← hw2]; exact (unhide HZ1).other (p := ⟨w.heap.size + 2, 0, none⟩) (by show w.heap.size + 1 ≠ w.heap.size + 2; omega) _)
  have HO2 : Hid (TV w2 (w.heap.size + 2) (.slice (some ⟨g, 0, none⟩) ss.length ss.length) (.slice none 0 0)) := hide (by rw [← hw2]; exact (unhide HO1).set0 _)
  have HU2 : Hid (So.Upto w2 g ss.length ss.length ss) := hide (by rw [← hw2]; exact uptoS_set (p := ⟨w.heap.size + 2, 0, none⟩) (unhide HU1) (by show w.heap.size + 2 ≠ g; omega))
  have hs2 : w2.heap.size = w1.heap.size := by rw [← hw2]; simp [World.setCell]
  obtain ⟨o0, o1⟩ := (unhide HO1).bx
  have f0 := (unhide HO1).free 0
  have HE2 := hide ((unhide HE0).below (unhide HB2))
  have HW2 := hide hw2
  obtain ⟨z0, z1⟩ := unhide HX1
  have hne : ¬ w.heap.size = w.heap.size + 2 := by omega
  clear hw2 HX1 HZ1 HU1
  go_wp2_with fail
  rw [unhide HW2]
  refine (Tu.toS b es cb _ hl (unhide HE2)).mono ?_
  rintro e w3 ⟨h, rfl, b3, hh, hz3, u3⟩
  have HB3 := hide ((unhide HB2).trans (b3.mono (unhide HB2).size))
  have HZ3 := hide ((unhide HZ2).below b3)
  have HO3 := hide ((unhide HO2).below b3)
  have HU3 := hide ((unhide HU2).below b3 (by omega))
  have HV3 := hide u3
  have hs3 := b3.size
  clear b3 u3 z0 z1 o0 o1 f0 HX2 HZ2 HO2 HU2 HW2 HO1 HE2
  obtain ⟨o0, o1⟩ := (unhide HO3).bx
  obtain ⟨r0, r1⟩ := (unhide HZ3).bx
  have f1 := (unhide HO3).free 1
  have q0 := (unhide HZ3).free 0
  have q1 := (unhide HZ3).free 1
  have hne2 : ¬ w.heap.size + 2 = w.heap.size + 1 := by omega
  have hne3 : ¬ w.heap.size + 1 = w.heap.size + 2 := by omega
  go_wp2_with fail
  refine bodyPost_ret (v := .agg #[.slice (some ⟨g, 0, none⟩) ss.length ss.length, .slice (some ⟨h, 0, none⟩) es.length es.length]) (by simp [results, Tryz.results78, go_sem, r0, r1, o0, o1]) rfl ⟨g, h, rfl, ?_, ⟨by omega, by omega, by simp [World.setCell]; omega⟩, ?_, ?_⟩
  · have hB := unhide HB3
    (repeat (first | (with_reducible exact hB) | (with_reducible refine Below.drew ?_) | (with_reducible refine Below.setCell ?_ ?_ _; rotate_left; (first | exact Nat.le_refl _ | (simp; done) | (dsimp only; omega))) | (with_reducible refine Below.alloc ?_ ?_ _; rotate_left; (first | exact Nat.le_refl _ | omega | (simp [World.setCell]; omega)))))
  · have := unhide HU3
    repeat (first | exact this | refine uptoS_set ?_ (by simp; omega))
  · have := unhide HV3
    repeat (first | exact this | refine uptoT_set ?_ (by simp; omega))
set_option maxHeartbeats 2000000 in
theorem eq (a : Option Addr) (ss : List So.R) (ca : Nat) (b : Option Addr) (es : List Tu.R) (cb : Nat) (c : Option Addr) (cc : Nat) (d : Option Addr) (cd : Nat) (w : World) (hm : ss.length ≤ 1048576) (hl : es.length ≤ 1048576) (h1 : So.RM w a ss) (h2 : Tu.RM w b es) (h3 : So.RM w c ss) (h4 : Tu.RM w d es) :
    Calls Tryz.prog 89 #[.agg #[.slice a ss.length ca, .slice b es.length cb], .agg #[.slice c ss.length cc, .slice d es.length cd]] w fun e w' => e = .returned (.bool true) ∧ Below w.heap.size w w' := by
  have HA0 : Hid (Below w.heap.size w (w.alloc (.cells #[.slice a ss.length ca, .slice b es.length cb] 77))) := hide ((Below.refl _ _).alloc (Nat.le_refl _) _)
  have HA : Hid (Below w.heap.size w ((w.alloc (.cells #[.slice a ss.length ca, .slice b es.length cb] 77)).alloc (.cells #[.slice c ss.length cc, .slice d es.length cd] 77))) := hide ((unhide HA0).alloc (unhide HA0).size _)
  have HX : Hid (Bx2 ((w.alloc (.cells #[.slice a ss.length ca, .slice b es.length cb] 77)).alloc (.cells #[.slice c ss.length cc, .slice d es.length cd] 77)) w.heap.size (.slice a ss.length ca) (.slice b es.length cb)) := hide ((bx2_new w _ _ _).below ((Below.refl _ _).alloc (Nat.le_refl _) _))
  have HY : Hid (Bx2 ((w.alloc (.cells #[.slice a ss.length ca, .slice b es.length cb] 77)).alloc (.cells #[.slice c ss.length cc, .slice d es.length cd] 77)) (w.heap.size + 1) (.slice c ss.length cc) (.slice d es.length cd)) := hide (by have := bx2_new (w.alloc (.cells #[.slice a ss.length ca, .slice b es.length cb] 77)) (.slice c ss.length cc) (.slice d es.length cd) 77; rw [show (w.alloc (.cells #[.slice a ss.length ca, .slice b es.length cb] 77)).heap.size = w.heap.size + 1 by simp] at this; exact this)
  have H1 := hide (h1.below (unhide HA))
  have H2 := hide (h2.below (unhide HA))
  have H3 := hide (h3.below (unhide HA))
  have H4 := hide (h4.below (unhide HA))
  clear h1 h2 h3 h4 HA0
  go_enter Tryz.func89, Tryz.ntmps89
  go_wp2_with fail
  refine (So.eqS a c ss ca cc _ hm (unhide H1) (unhide H3)).mono ?_
  rintro e w1 ⟨rfl, b1⟩
  have B1 := hide ((unhide HA).trans (b1.mono (unhide HA).size))
  obtain ⟨z0, z1⟩ := (unhide HX).below b1
  obtain ⟨y0, y1⟩ := (unhide HY).below b1
  have H2' := hide ((unhide H2).below b1)
  have H4' := hide ((unhide H4).below b1)
  clear b1
  go_wp2_with fail
  refine (Tu.eqS b d es cb cd _ hl (unhide H2') (unhide H4')).mono ?_
  rintro e w2 ⟨rfl, b2⟩
  have B2 := hide ((unhide B1).trans (b2.mono (unhide B1).size))
  clear b2 z0 z1 y0 y1
  go_wp2_with fail
  go_ret
  exact ⟨rfl, unhide B2⟩
theorem cellsR : Tryz.prog.cellsOf 64 = 2 := by kernel_rfl
theorem listR {α : Type} {l : List α} (h : l.length = 2) : ∃ c0 c1, l = [c0, c1] := by
  match l, h with
  | [c0, c1], _ => exact ⟨c0, c1, rfl⟩
open Tu in
theorem open_cellT {H : Type} {enc : TypeId × Value → H} {W : World} {v : Value} {fuel : Nat} {y : DataW H × List MemPlace}
    (hf : DataW.trod enc Tryz.prog W 0 (fun _ => true) true fuel 61 [v] = some y) : ∃ a len cap, ∃ ms : List Tu.R, v = .slice a len cap ∧ ms.length = len ∧ len ≤ maxLen ∧ Tu.RM W a ms := by
  rcases Deep.open_slice Tryz.underlying61 hf with ⟨hcs, _⟩ | ⟨x, len, cap, m, n, D, Pl, hcs, _, hl, hm, hmm, _, hx⟩
  · simp only [List.cons.injEq, and_true] at hcs
    subst hcs
    exact ⟨none, 0, 0, [], rfl, rfl, Nat.zero_le _, .inl rfl⟩
  · simp only [List.cons.injEq, and_true] at hcs
    subst hcs
    simp at hmm
    subst hmm
    rw [Tu.cellsR] at hx
    by_cases h0 : len = 0
    · subst h0; exact ⟨_, _, _, [], rfl, rfl, Nat.zero_le _, .inl rfl⟩
    obtain ⟨b, off, spot⟩ := x
    have hsp : spot = none := by
      obtain ⟨cs', h1, _⟩ := hx 0 (by omega)
      obtain ⟨_, hlen, hc⟩ := World.cells?_some h1
      have h2 := hc 0 (by omega)
      rw [List.getElem?_eq_getElem (by omega)] at h2
      simpa [Addr.add] using World.cell?_spot h2
    subst hsp
    have hex : ∀ i, i < len → ∃ m : R, At W b (off + i * 3) m := by
      intro i hi
      obtain ⟨cs', h1, h2⟩ := hx i (by omega)
      obtain ⟨_, hlen, hc⟩ := World.cells?_some h1
      obtain ⟨m, rfl⟩ := open_one hlen h2
      have q0 := hc 0 (by omega)
      have q1 := hc 1 (by omega)
      have q2 := hc 2 (by omega)
      rw [plain_add, plain_add] at q0 q1 q2
      exact ⟨m, q0, q1, q2⟩
    have hin : Inhabited R := ⟨R.zero⟩
    obtain ⟨V, hV⟩ := Deep.choose_lt hex
    refine ⟨_, _, _, (List.range len).map V, rfl, by simp, Nat.le_trans hl hm, .inr ⟨b, off, rfl, fun i hi => ?_⟩⟩
    have hi' : i < len := by simpa using hi
    have e : ((List.range len).map V).getD i R.zero = V i := by
      rw [List.getD_eq_getElem?_getD, List.getElem?_map, List.getElem?_range hi']; rfl
    rw [e]
    exact hV i hi'
end Tq
end Go.Proofs.YthfcigfgpimimaaGreat
namespace Go.Proofs.YthfcigfgpimimaaGreat
open Go.ChangeShapes Go.WideShapes Go.ChangeAt Go.RowKit
set_option linter.unusedVariables false
set_option linter.unusedSimpArgs false
set_option maxRecDepth 100000
attribute [local go_sem ↓] Go.wp_at_zero Go.wp_at_succ
namespace Rt
open W1
theorem RA.other {w : World} {b : Nat} {cs : List Value} (h : RA w b cs) {p : Addr} (hne : b ≠ p.block) (v : Value) : RA (w.setCell p v) b cs := by
  have hb : (w.setCell p v).heap[b]? = w.heap[b]? := Below.heap_setCell _ _ _ _ hne
  refine ⟨fun j u hu => ?_, fun j hj => ⟨?_, ?_⟩, h.2.2⟩
  · exact (World.cell?_of_block (a := ⟨b, 0 + j, none⟩) hb).trans (h.1 j u hu)
  · rw [World.cell?_of_block (a := ⟨b, 0 + j, none⟩) hb]; exact (h.2.1 j hj).1
  · rw [World.frozen?_setCell]; exact (h.2.1 j hj).2
set_option maxHeartbeats 8000000 in
theorem szR (x1 x2 x3 x4 x5 x6 : Int) (a1 a2 a3 a4 a5 a6 a7 : Option Addr) (n1 n2 n3 n4 n5 n6 n7 : Nat) (c1 c2 c3 c4 c5 c6 c7 : Nat) (L : Int) (w : World) (hL : 0 ≤ L) (hL1 : L ≤ 1048576) (h1 : n1 ≤ maxLen) (h2 : n2 ≤ maxLen) (h3 : n3 ≤ maxLen) (h4 : n4 ≤ maxLen) (h5 : n5 ≤ maxLen) (h6 : n6 ≤ maxLen) (h7 : n7 ≤ maxLen) :
    Calls Tryz.prog 34 #[.agg #[.int .i64 x1, .int .i64 x2, .int .i64 x3, .int .i64 x4, .int .i64 x5, .slice a1 n1 c1, .slice a2 n2 c2, .slice a3 n3 c3, .slice a4 n4 c4, .slice a5 n5 c5, .slice a6 n6 c6, .slice a7 n7 c7, .int .i64 x6], .int .i64 L] w fun e w' => ∃ r : Int, e = .returned (.int .i64 r) ∧ Below w.heap.size w w' ∧ (r < 0 ∨ (0 ≤ r ∧ r = L - n1 - n2 - n3 - n4 - n5 - n6 - n7)) := by
  have HX : Hid (RA (w.alloc (.cells #[.int .i64 x1, .int .i64 x2, .int .i64 x3, .int .i64 x4, .int .i64 x5, .slice a1 n1 c1, .slice a2 n2 c2, .slice a3 n3 c3, .slice a4 n4 c4, .slice a5 n5 c5, .slice a6 n6 c6, .slice a7 n7 c7, .int .i64 x6] 67)) w.heap.size (rC x1 x2 x3 x4 x5 (.slice a1 n1 c1) (.slice a2 n2 c2) (.slice a3 n3 c3) (.slice a4 n4 c4) (.slice a5 n5 c5) (.slice a6 n6 c6) (.slice a7 n7 c7) x6)) := hide (ra_new w _ rfl _)
  have HB0 : Hid (Below w.heap.size w (w.alloc (.cells #[.int .i64 x1, .int .i64 x2, .int .i64 x3, .int .i64 x4, .int .i64 x5, .slice a1 n1 c1, .slice a2 n2 c2, .slice a3 n3 c3, .slice a4 n4 c4, .slice a5 n5 c5, .slice a6 n6 c6, .slice a7 n7 c7, .int .i64 x6] 67))) := hide ((Below.refl _ _).alloc (Nat.le_refl _) _)
  obtain ⟨r0, hr0⟩ : ∃ r0, L = r0 := ⟨_, rfl⟩
  have HR0 := hide hr0.symm
  rw [hr0] at hL hL1 ⊢
  clear hr0
  go_enter Tryz.func34, Tryz.ntmps34
  go_wp2_with fail
  refine (Lk.szS a1 n1 c1 r0 _ hL hL1 h1).mono ?_
  rintro e w1 ⟨r1, rfl, hw1, hs⟩
  subst hw1
  rcases hs with hs | ⟨hs, hs1⟩
  · go_wp2_with fail
    go_ret
    exact ⟨_, rfl, unhide HB0, .inl (by omega)⟩
  have hn0 : ¬ r1 < 0 := by omega
  have hh0 : r1 ≤ 1048576 := by omega
  have HS0 := hide hs1
  clear hs1
  have hp0 := hs
  clear hs
  go_wp2_with fail
  refine (Tu.szS a2 n2 c2 r1 _ hp0 hh0 h2).mono ?_
  rintro e w2 ⟨r2, rfl, hw2, hs⟩
  subst hw2
  rcases hs with hs | ⟨hs, hs1⟩
  · go_wp2_with fail
    go_ret
    exact ⟨_, rfl, unhide HB0, .inl (by omega)⟩
  have hn1 : ¬ r2 < 0 := by omega
  have hh1 : r2 ≤ 1048576 := by omega
  have HS1 := hide hs1
  clear hs1
  have hp1 := hs
  clear hs
  go_wp2_with fail
  refine (Tu.szS a3 n3 c3 r2 _ hp1 hh1 h3).mono ?_
  rintro e w3 ⟨r3, rfl, hw3, hs⟩
  subst hw3
  rcases hs with hs | ⟨hs, hs1⟩
  · go_wp2_with fail
    go_ret
    exact ⟨_, rfl, unhide HB0, .inl (by omega)⟩
  have hn2 : ¬ r3 < 0 := by omega
  have hh2 : r3 ≤ 1048576 := by omega
  have HS2 := hide hs1
  clear hs1
  have hp2 := hs
  clear hs
  go_wp2_with fail
  refine (Tu.szS a4 n4 c4 r3 _ hp2 hh2 h4).mono ?_
  rintro e w4 ⟨r4, rfl, hw4, hs⟩
  subst hw4
  rcases hs with hs | ⟨hs, hs1⟩
  · go_wp2_with fail
    go_ret
    exact ⟨_, rfl, unhide HB0, .inl (by omega)⟩
  have hn3 : ¬ r4 < 0 := by omega
  have hh3 : r4 ≤ 1048576 := by omega
  have HS3 := hide hs1
  clear hs1
  have hp3 := hs
  clear hs
  go_wp2_with fail
  refine (Tq.sz a5 n5 c5 a6 n6 c6 r4 _ hp3 hh3 h5 h6).mono ?_
  rintro e w5 ⟨r5, rfl, b5, hs⟩
  have HB5 := hide ((unhide HB0).trans (b5.mono (unhide HB0).size))
  have z11 := ((unhide HX).below b5).at (i := 11) rfl
  clear b5
  rcases hs with hs | ⟨hs, hs1⟩
  · go_wp2_with fail
    go_ret
    exact ⟨_, rfl, unhide HB5, .inl (by omega)⟩
  have hn4 : ¬ r5 < 0 := by omega
  have hh4 : r5 ≤ 1048576 := by omega
  have HS4 := hide hs1
  clear hs1
  have hp4 := hs
  clear hs
  go_wp2_with fail
  clear z11
  refine (Ed.szS a7 n7 c7 r5 _ hp4 hh4 h7).mono ?_
  rintro e w6 ⟨r6, rfl, hw6, hs⟩
  subst hw6
  rcases hs with hs | ⟨hs, hs1⟩
  · go_wp2_with fail
    go_ret
    exact ⟨_, rfl, unhide HB5, .inl (by omega)⟩
  have hn5 : ¬ r6 < 0 := by omega
  have hh5 : r6 ≤ 1048576 := by omega
  have HS5 := hide hs1
  clear hs1
  have hp5 := hs
  clear hs
  go_wp2_with fail
  go_ret
  exact ⟨_, rfl, unhide HB5, .inr ⟨hp5, by have e0 := unhide HS0; have e1 := unhide HS1; have e2 := unhide HS2; have e3 := unhide HS3; have e4 := unhide HS4; have e5 := unhide HS5; omega⟩⟩
theorem uptoL_set {w : World} {g n j : Nat} {ms : List Lk.R} {p : Addr} {v : Value} (h : Lk.Upto w g n j ms) (hne : p.block ≠ g) : Lk.Upto (w.setCell p v) g n j ms :=
  h.of_block (Below.heap_setCell _ _ _ _ (fun e => hne e.symm))
theorem uptoE_set {w : World} {g n j : Nat} {ms : List Ed.R} {p : Addr} {v : Value} (h : Ed.Upto w g n j ms) (hne : p.block ≠ g) : Ed.Upto (w.setCell p v) g n j ms :=
  h.of_block (Below.heap_setCell _ _ _ _ (fun e => hne e.symm))
set_option maxHeartbeats 16000000 in
theorem toR (x1 x2 x3 x4 x5 x6 : Int) (a1 a2 a3 a4 a5 a6 a7 : Option Addr) (c1 c2 c3 c4 c5 c6 c7 : Nat) (ls : List Lk.R) (tw : List Tu.R) (se : List Tu.R) (du : List Tu.R) (ss : List So.R) (es : List Tu.R) (la : List Ed.R) (w : World) (hm1 : ls.length ≤ 1048576) (hm2 : tw.length ≤ 1048576) (hm3 : se.length ≤ 1048576) (hm4 : du.length ≤ 1048576) (hm5 : ss.length ≤ 1048576) (hm6 : es.length ≤ 1048576) (hm7 : la.length ≤ 1048576) (hr1 : Lk.RM w a1 ls) (hr2 : Tu.RM w a2 tw) (hr3 : Tu.RM w a3 se) (hr4 : Tu.RM w a4 du) (hr5 : So.RM w a5 ss) (hr6 : Tu.RM w a6 es) (hr7 : Ed.RM w a7 la) :
    Calls Tryz.prog 41 #[.agg #[.int .i64 x1, .int .i64 x2, .int .i64 x3, .int .i64 x4, .int .i64 x5, .slice a1 ls.length c1, .slice a2 tw.length c2, .slice a3 se.length c3, .slice a4 du.length c4, .slice a5 ss.length c5, .slice a6 es.length c6, .slice a7 la.length c7, .int .i64 x6]] w fun e w' => ∃ g1 g2 g3 g4 g5 g6 g7, e = .returned (.agg (rC x1 x2 x3 x4 x5 (.slice (some ⟨g1, 0, none⟩) ls.length ls.length) (.slice (some ⟨g2, 0, none⟩) tw.length tw.length) (.slice (some ⟨g3, 0, none⟩) se.length se.length) (.slice (some ⟨g4, 0, none⟩) du.length du.length) (.slice (some ⟨g5, 0, none⟩) ss.length ss.length) (.slice (some ⟨g6, 0, none⟩) es.length es.length) (.slice (some ⟨g7, 0, none⟩) la.length la.length) x6).toArray) ∧ Below w.heap.size w w' ∧ (w.heap.size ≤ g1 ∧ g1 < g2 ∧ g2 < g3 ∧ g3 < g4 ∧ g4 < g5 ∧ g5 < g6 ∧ g6 < g7 ∧ g7 < w'.heap.size) ∧ Lk.Upto w' g1 ls.length ls.length ls ∧ Tu.Upto w' g2 tw.length tw.length tw ∧ Tu.Upto w' g3 se.length se.length se ∧ Tu.Upto w' g4 du.length du.length du ∧ So.Upto w' g5 ss.length ss.length ss ∧ Tu.Upto w' g6 es.length es.length es ∧ Ed.Upto w' g7 la.length la.length la := by
  have HA1 : Hid (Below w.heap.size w (w.alloc (.cells #[.int .i64 x1, .int .i64 x2, .int .i64 x3, .int .i64 x4, .int .i64 x5, .slice a1 ls.length c1, .slice a2 tw.length c2, .slice a3 se.length c3, .slice a4 du.length c4, .slice a5 ss.length c5, .slice a6 es.length c6, .slice a7 la.length c7, .int .i64 x6] 67))) := hide ((Below.refl _ _).alloc (Nat.le_refl _) _)
  have HA2 : Hid (Below w.heap.size w ((w.alloc (.cells #[.int .i64 x1, .int .i64 x2, .int .i64 x3, .int .i64 x4, .int .i64 x5, .slice a1 ls.length c1, .slice a2 tw.length c2, .slice a3 se.length c3, .slice a4 du.length c4, .slice a5 ss.length c5, .slice a6 es.length c6, .slice a7 la.length c7, .int .i64 x6] 67)).alloc (.cells #[.int .i64 0, .int .i64 0, .int .i64 0, .int .i64 0, .int .i64 0, .slice none 0 0, .slice none 0 0, .slice none 0 0, .slice none 0 0, .slice none 0 0, .slice none 0 0, .slice none 0 0, .int .i64 0] 80))) := hide ((unhide HA1).alloc (unhide HA1).size _)
  have HB0 : Hid (Below w.heap.size w (((w.alloc (.cells #[.int .i64 x1, .int .i64 x2, .int .i64 x3, .int .i64 x4, .int .i64 x5, .slice a1 ls.length c1, .slice a2 tw.length c2, .slice a3 se.length c3, .slice a4 du.length c4, .slice a5 ss.length c5, .slice a6 es.length c6, .slice a7 la.length c7, .int .i64 x6] 67)).alloc (.cells #[.int .i64 0, .int .i64 0, .int .i64 0, .int .i64 0, .int .i64 0, .slice none 0 0, .slice none 0 0, .slice none 0 0, .slice none 0 0, .slice none 0 0, .slice none 0 0, .slice none 0 0, .int .i64 0] 80)).alloc (.cells #[.int .i64 x1, .int .i64 x2, .int .i64 x3, .int .i64 x4, .int .i64 x5, .slice none 0 0, .slice none 0 0, .slice none 0 0, .slice none 0 0, .slice none 0 0, .slice none 0 0, .slice none 0 0, .int .i64 0] 80))) := hide ((unhide HA2).alloc (unhide HA2).size _)
  have HX0 : Hid (RA (((w.alloc (.cells #[.int .i64 x1, .int .i64 x2, .int .i64 x3, .int .i64 x4, .int .i64 x5, .slice a1 ls.length c1, .slice a2 tw.length c2, .slice a3 se.length c3, .slice a4 du.length c4, .slice a5 ss.length c5, .slice a6 es.length c6, .slice a7 la.length c7, .int .i64 x6] 67)).alloc (.cells #[.int .i64 0, .int .i64 0, .int .i64 0, .int .i64 0, .int .i64 0, .slice none 0 0, .slice none 0 0, .slice none 0 0, .slice none 0 0, .slice none 0 0, .slice none 0 0, .slice none 0 0, .int .i64 0] 80)).alloc (.cells #[.int .i64 x1, .int .i64 x2, .int .i64 x3, .int .i64 x4, .int .i64 x5, .slice none 0 0, .slice none 0 0, .slice none 0 0, .slice none 0 0, .slice none 0 0, .slice none 0 0, .slice none 0 0, .int .i64 0] 80)) w.heap.size (rC x1 x2 x3 x4 x5 (.slice a1 ls.length c1) (.slice a2 tw.length c2) (.slice a3 se.length c3) (.slice a4 du.length c4) (.slice a5 ss.length c5) (.slice a6 es.length c6) (.slice a7 la.length c7) x6)) := hide (((ra_new w _ rfl _).below ((Below.refl _ _).alloc (Nat.le_refl _) _)).below ((Below.refl _ _).alloc (Nat.le_refl _) _))
  have HZ0 : Hid (RA (((w.alloc (.cells #[.int .i64 x1, .int .i64 x2, .int .i64 x3, .int .i64 x4, .int .i64 x5, .slice a1 ls.length c1, .slice a2 tw.length c2, .slice a3 se.length c3, .slice a4 du.length c4, .slice a5 ss.length c5, .slice a6 es.length c6, .slice a7 la.length c7, .int .i64 x6] 67)).alloc (.cells #[.int .i64 0, .int .i64 0, .int .i64 0, .int .i64 0, .int .i64 0, .slice none 0 0, .slice none 0 0, .slice none 0 0, .slice none 0 0, .slice none 0 0, .slice none 0 0, .slice none 0 0, .int .i64 0] 80)).alloc (.cells #[.int .i64 x1, .int .i64 x2, .int .i64 x3, .int .i64 x4, .int .i64 x5, .slice none 0 0, .slice none 0 0, .slice none 0 0, .slice none 0 0, .slice none 0 0, .slice none 0 0, .slice none 0 0, .int .i64 0] 80)) (w.heap.size + 1) (rC 0 0 0 0 0 (.slice none 0 0) (.slice none 0 0) (.slice none 0 0) (.slice none 0 0) (.slice none 0 0) (.slice none 0 0) (.slice none 0 0) 0)) := hide (by have := (ra_new (w.alloc (.cells #[.int .i64 x1, .int .i64 x2, .int .i64 x3, .int .i64 x4, .int .i64 x5, .slice a1 ls.length c1, .slice a2 tw.length c2, .slice a3 se.length c3, .slice a4 du.length c4, .slice a5 ss.length c5, .slice a6 es.length c6, .slice a7 la.length c7, .int .i64 x6] 67)) (rC 0 0 0 0 0 (.slice none 0 0) (.slice none 0 0) (.slice none 0 0) (.slice none 0 0) (.slice none 0 0) (.slice none 0 0) (.slice none 0 0) 0) rfl 80).below ((Below.refl _ _).alloc (Nat.le_refl _) (.cells #[.int .i64 x1, .int .i64 x2, .int .i64 x3, .int .i64 x4, .int .i64 x5, .slice none 0 0, .slice none 0 0, .slice none 0 0, .slice none 0 0, .slice none 0 0, .slice none 0 0, .slice none 0 0, .int .i64 0] 80)); rw [show (w.alloc (.cells #[.int .i64 x1, .int .i64 x2, .int .i64 x3, .int .i64 x4, .int .i64 x5, .slice a1 ls.length c1, .slice a2 tw.length c2, .slice a3 se.length c3, .slice a4 du.length c4, .slice a5 ss.length c5, .slice a6 es.length c6, .slice a7 la.length c7, .int .i64 x6] 67)).heap.size = w.heap.size + 1 by simp] at this; exact this)
  have HO0 : Hid (RA (((w.alloc (.cells #[.int .i64 x1, .int .i64 x2, .int .i64 x3, .int .i64 x4, .int .i64 x5, .slice a1 ls.length c1, .slice a2 tw.length c2, .slice a3 se.length c3, .slice a4 du.length c4, .slice a5 ss.length c5, .slice a6 es.length c6, .slice a7 la.length c7, .int .i64 x6] 67)).alloc (.cells #[.int .i64 0, .int .i64 0, .int .i64 0, .int .i64 0, .int .i64 0, .slice none 0 0, .slice none 0 0, .slice none 0 0, .slice none 0 0, .slice none 0 0, .slice none 0 0, .slice none 0 0, .int .i64 0] 80)).alloc (.cells #[.int .i64 x1, .int .i64 x2, .int .i64 x3, .int .i64 x4, .int .i64 x5, .slice none 0 0, .slice none 0 0, .slice none 0 0, .slice none 0 0, .slice none 0 0, .slice none 0 0, .slice none 0 0, .int .i64 0] 80)) (w.heap.size + 2) (rC x1 x2 x3 x4 x5 (.slice none 0 0) (.slice none 0 0) (.slice none 0 0) (.slice none 0 0) (.slice none 0 0) (.slice none 0 0) (.slice none 0 0) 0)) := hide (by have := ra_new ((w.alloc (.cells #[.int .i64 x1, .int .i64 x2, .int .i64 x3, .int .i64 x4, .int .i64 x5, .slice a1 ls.length c1, .slice a2 tw.length c2, .slice a3 se.length c3, .slice a4 du.length c4, .slice a5 ss.length c5, .slice a6 es.length c6, .slice a7 la.length c7, .int .i64 x6] 67)).alloc (.cells #[.int .i64 0, .int .i64 0, .int .i64 0, .int .i64 0, .int .i64 0, .slice none 0 0, .slice none 0 0, .slice none 0 0, .slice none 0 0, .slice none 0 0, .slice none 0 0, .slice none 0 0, .int .i64 0] 80)) (rC x1 x2 x3 x4 x5 (.slice none 0 0) (.slice none 0 0) (.slice none 0 0) (.slice none 0 0) (.slice none 0 0) (.slice none 0 0) (.slice none 0 0) 0) rfl 80; rw [show ((w.alloc (.cells #[.int .i64 x1, .int .i64 x2, .int .i64 x3, .int .i64 x4, .int .i64 x5, .slice a1 ls.length c1, .slice a2 tw.length c2, .slice a3 se.length c3, .slice a4 du.length c4, .slice a5 ss.length c5, .slice a6 es.length c6, .slice a7 la.length c7, .int .i64 x6] 67)).alloc (.cells #[.int .i64 0, .int .i64 0, .int .i64 0, .int .i64 0, .int .i64 0, .slice none 0 0, .slice none 0 0, .slice none 0 0, .slice none 0 0, .slice none 0 0, .slice none 0 0, .slice none 0 0, .int .i64 0] 80)).heap.size = w.heap.size + 2 by simp] at this; exact this)
  have hq0 : ((((w.alloc (.cells #[.int .i64 x1, .int .i64 x2, .int .i64 x3, .int .i64 x4, .int .i64 x5, .slice a1 ls.length c1, .slice a2 tw.length c2, .slice a3 se.length c3, .slice a4 du.length c4, .slice a5 ss.length c5, .slice a6 es.length c6, .slice a7 la.length c7, .int .i64 x6] 67)).alloc (.cells #[.int .i64 0, .int .i64 0, .int .i64 0, .int .i64 0, .int .i64 0, .slice none 0 0, .slice none 0 0, .slice none 0 0, .slice none 0 0, .slice none 0 0, .slice none 0 0, .slice none 0 0, .int .i64 0] 80)).alloc (.cells #[.int .i64 x1, .int .i64 x2, .int .i64 x3, .int .i64 x4, .int .i64 x5, .slice none 0 0, .slice none 0 0, .slice none 0 0, .slice none 0 0, .slice none 0 0, .slice none 0 0, .slice none 0 0, .int .i64 0] 80))).heap.size = w.heap.size + 3 := by simp
  have hp2 : w.heap.size ≤ w.heap.size + 2 := by omega
  have HR1 := hide hr1
  have HR2 := hide hr2
  have HR3 := hide hr3
  have HR4 := hide hr4
  have HR5 := hide hr5
  have HR6 := hide hr6
  have HR7 := hide hr7
  clear hr1 hr2 hr3 hr4 hr5 hr6 hr7 HA1 HA2
  go_enter Tryz.func41, Tryz.ntmps41
  go_wp2_with fail
  generalize hW : (((w.alloc (.cells #[.int .i64 x1, .int .i64 x2, .int .i64 x3, .int .i64 x4, .int .i64 x5, .slice a1 ls.length c1, .slice a2 tw.length c2, .slice a3 se.length c3, .slice a4 du.length c4, .slice a5 ss.length c5, .slice a6 es.length c6, .slice a7 la.length c7, .int .i64 x6] 67)).alloc (.cells #[.int .i64 0, .int .i64 0, .int .i64 0, .int .i64 0, .int .i64 0, .slice none 0 0, .slice none 0 0, .slice none 0 0, .slice none 0 0, .slice none 0 0, .slice none 0 0, .slice none 0 0, .int .i64 0] 80)).alloc (.cells #[.int .i64 x1, .int .i64 x2, .int .i64 x3, .int .i64 x4, .int .i64 x5, .slice none 0 0, .slice none 0 0, .slice none 0 0, .slice none 0 0, .slice none 0 0, .slice none 0 0, .slice none 0 0, .int .i64 0] 80)) = V0 at *
  clear hW
  refine (Lk.toS a1 ls c1 _ hm1 ((unhide HR1).below (unhide HB0))).mono ?_
  rintro e V1 ⟨g1, rfl, d1, hg1, hz1, u1⟩
  have HB1 := hide ((unhide HB0).trans (d1.mono (unhide HB0).size))
  have HX1 := hide ((unhide HX0).below d1)
  have HZ1 := hide ((unhide HZ0).below d1)
  have HO1 := hide ((unhide HO0).below d1)
  have hq1 := d1.size
  clear HX0 HZ0 HO0 
  have U1_1 := hide u1
  clear d1 u1
  obtain ⟨V2, hV2⟩ : ∃ V, (V1.setCell ⟨w.heap.size + 2, 5, none⟩ (.slice (some ⟨g1, 0, none⟩) ls.length ls.length)) = V := ⟨_, rfl⟩
  have HB2 : Hid (Below w.heap.size w V2) := hide (by rw [← hV2]; exact ((unhide HB1).setCell (p := ⟨w.heap.size + 2, 5, none⟩) hp2 (.slice (some ⟨g1, 0, none⟩) ls.length ls.length)))
  have HX2 : Hid (RA V2 w.heap.size (rC x1 x2 x3 x4 x5 (.slice a1 ls.length c1) (.slice a2 tw.length c2) (.slice a3 se.length c3) (.slice a4 du.length c4) (.slice a5 ss.length c5) (.slice a6 es.length c6) (.slice a7 la.length c7) x6)) := hide (by rw [← hV2]; exact (RA.other (unhide HX1) (p := ⟨w.heap.size + 2, 5, none⟩) (by show w.heap.size ≠ w.heap.size + 2; omega) (.slice (some ⟨g1, 0, none⟩) ls.length ls.length)))
  have HZ2 : Hid (RA V2 (w.heap.size + 1) (rC 0 0 0 0 0 (.slice none 0 0) (.slice none 0 0) (.slice none 0 0) (.slice none 0 0) (.slice none 0 0) (.slice none 0 0) (.slice none 0 0) 0)) := hide (by rw [← hV2]; exact (RA.other (unhide HZ1) (p := ⟨w.heap.size + 2, 5, none⟩) (by show w.heap.size + 1 ≠ w.heap.size + 2; omega) (.slice (some ⟨g1, 0, none⟩) ls.length ls.length)))
  have HO2 : Hid (RA V2 (w.heap.size + 2) (rC x1 x2 x3 x4 x5 (.slice (some ⟨g1, 0, none⟩) ls.length ls.length) (.slice none 0 0) (.slice none 0 0) (.slice none 0 0) (.slice none 0 0) (.slice none 0 0) (.slice none 0 0) 0)) := hide (by rw [← hV2]; exact (RA.set (unhide HO1) (k := 5) (by omega) (.slice (some ⟨g1, 0, none⟩) ls.length ls.length)))
  have U1_2 : Hid (Lk.Upto V2 g1 ls.length ls.length ls) := hide (by rw [← hV2]; exact (uptoL_set (p := ⟨w.heap.size + 2, 5, none⟩) (v := (.slice (some ⟨g1, 0, none⟩) ls.length ls.length)) (unhide U1_1) (by show w.heap.size + 2 ≠ g1; omega)))
  have hq2 : V2.heap.size = V1.heap.size := by rw [← hV2]; simp [World.setCell]
  have HV2 := hide hV2
  clear hV2
  have o5 := (unhide HO1).at (i := 5) rfl
  have f5 := (unhide HO1).free (i := 5) (by omega)
  have z6 := (unhide HX1).at (i := 6) rfl
  have hne : ¬ w.heap.size = w.heap.size + 2 := by omega
  go_wp2_with fail
  rw [unhide HV2]
  clear hne o5 f5 z6 HX1 HZ1 HO1 U1_1
  refine (Tu.toS a2 tw c2 _ hm2 ((unhide HR2).below (unhide HB2))).mono ?_
  rintro e V3 ⟨g2, rfl, d3, hg2, hz2, u3⟩
  have HB3 := hide ((unhide HB2).trans (d3.mono (unhide HB2).size))
  have HX3 := hide ((unhide HX2).below d3)
  have HZ3 := hide ((unhide HZ2).below d3)
  have HO3 := hide ((unhide HO2).below d3)
  have U1_3 := hide ((unhide U1_2).below d3 (by omega))
  have hq3 := d3.size
  clear HX2 HZ2 HO2 U1_2
  have U2_3 := hide u3
  clear d3 u3
  obtain ⟨V4, hV4⟩ : ∃ V, (V3.setCell ⟨w.heap.size + 2, 6, none⟩ (.slice (some ⟨g2, 0, none⟩) tw.length tw.length)) = V := ⟨_, rfl⟩
  have HB4 : Hid (Below w.heap.size w V4) := hide (by rw [← hV4]; exact ((unhide HB3).setCell (p := ⟨w.heap.size + 2, 6, none⟩) hp2 (.slice (some ⟨g2, 0, none⟩) tw.length tw.length)))
  have HX4 : Hid (RA V4 w.heap.size (rC x1 x2 x3 x4 x5 (.slice a1 ls.length c1) (.slice a2 tw.length c2) (.slice a3 se.length c3) (.slice a4 du.length c4) (.slice a5 ss.length c5) (.slice a6 es.length c6) (.slice a7 la.length c7) x6)) := hide (by rw [← hV4]; exact (RA.other (unhide HX3) (p := ⟨w.heap.size + 2, 6, none⟩) (by show w.heap.size ≠ w.heap.size + 2; omega) (.slice (some ⟨g2, 0, none⟩) tw.length tw.length)))
  have HZ4 : Hid (RA V4 (w.heap.size + 1) (rC 0 0 0 0 0 (.slice none 0 0) (.slice none 0 0) (.slice none 0 0) (.slice none 0 0) (.slice none 0 0) (.slice none 0 0) (.slice none 0 0) 0)) := hide (by rw [← hV4]; exact (RA.other (unhide HZ3) (p := ⟨w.heap.size + 2, 6, none⟩) (by show w.heap.size + 1 ≠ w.heap.size + 2; omega) (.slice (some ⟨g2, 0, none⟩) tw.length tw.length)))
  have HO4 : Hid (RA V4 (w.heap.size + 2) (rC x1 x2 x3 x4 x5 (.slice (some ⟨g1, 0, none⟩) ls.length ls.length) (.slice (some ⟨g2, 0, none⟩) tw.length tw.length) (.slice none 0 0) (.slice none 0 0) (.slice none 0 0) (.slice none 0 0) (.slice none 0 0) 0)) := hide (by rw [← hV4]; exact (RA.set (unhide HO3) (k := 6) (by omega) (.slice (some ⟨g2, 0, none⟩) tw.length tw.length)))
  have U1_4 : Hid (Lk.Upto V4 g1 ls.length ls.length ls) := hide (by rw [← hV4]; exact (uptoL_set (p := ⟨w.heap.size + 2, 6, none⟩) (v := (.slice (some ⟨g2, 0, none⟩) tw.length tw.length)) (unhide U1_3) (by show w.heap.size + 2 ≠ g1; omega)))
  have U2_4 : Hid (Tu.Upto V4 g2 tw.length tw.length tw) := hide (by rw [← hV4]; exact (Tq.uptoT_set (p := ⟨w.heap.size + 2, 6, none⟩) (v := (.slice (some ⟨g2, 0, none⟩) tw.length tw.length)) (unhide U2_3) (by show w.heap.size + 2 ≠ g2; omega)))
  have hq4 : V4.heap.size = V3.heap.size := by rw [← hV4]; simp [World.setCell]
  have HV4 := hide hV4
  clear hV4
  have o6 := (unhide HO3).at (i := 6) rfl
  have f6 := (unhide HO3).free (i := 6) (by omega)
  have z7 := (unhide HX3).at (i := 7) rfl
  have hne : ¬ w.heap.size = w.heap.size + 2 := by omega
  go_wp2_with fail
  rw [unhide HV4]
  clear hne o6 f6 z7 HX3 HZ3 HO3 U1_3 U2_3
  refine (Tu.toS a3 se c3 _ hm3 ((unhide HR3).below (unhide HB4))).mono ?_
  rintro e V5 ⟨g3, rfl, d5, hg3, hz3, u5⟩
  have HB5 := hide ((unhide HB4).trans (d5.mono (unhide HB4).size))
  have HX5 := hide ((unhide HX4).below d5)
  have HZ5 := hide ((unhide HZ4).below d5)
  have HO5 := hide ((unhide HO4).below d5)
  have U1_5 := hide ((unhide U1_4).below d5 (by omega))
  have U2_5 := hide ((unhide U2_4).below d5 (by omega))
  have hq5 := d5.size
  clear HX4 HZ4 HO4 U1_4 U2_4
  have U3_5 := hide u5
  clear d5 u5
  obtain ⟨V6, hV6⟩ : ∃ V, (V5.setCell ⟨w.heap.size + 2, 7, none⟩ (.slice (some ⟨g3, 0, none⟩) se.length se.length)) = V := ⟨_, rfl⟩
  have HB6 : Hid (Below w.heap.size w V6) := hide (by rw [← hV6]; exact ((unhide HB5).setCell (p := ⟨w.heap.size + 2, 7, none⟩) hp2 (.slice (some ⟨g3, 0, none⟩) se.length se.length)))
  have HX6 : Hid (RA V6 w.heap.size (rC x1 x2 x3 x4 x5 (.slice a1 ls.length c1) (.slice a2 tw.length c2) (.slice a3 se.length c3) (.slice a4 du.length c4) (.slice a5 ss.length c5) (.slice a6 es.length c6) (.slice a7 la.length c7) x6)) := hide (by rw [← hV6]; exact (RA.other (unhide HX5) (p := ⟨w.heap.size + 2, 7, none⟩) (by show w.heap.size ≠ w.heap.size + 2; omega) (.slice (some ⟨g3, 0, none⟩) se.length se.length)))
  have HZ6 : Hid (RA V6 (w.heap.size + 1) (rC 0 0 0 0 0 (.slice none 0 0) (.slice none 0 0) (.slice none 0 0) (.slice none 0 0) (.slice none 0 0) (.slice none 0 0) (.slice none 0 0) 0)) := hide (by rw [← hV6]; exact (RA.other (unhide HZ5) (p := ⟨w.heap.size + 2, 7, none⟩) (by show w.heap.size + 1 ≠ w.heap.size + 2; omega) (.slice (some ⟨g3, 0, none⟩) se.length se.length)))
  have HO6 : Hid (RA V6 (w.heap.size + 2) (rC x1 x2 x3 x4 x5 (.slice (some ⟨g1, 0, none⟩) ls.length ls.length) (.slice (some ⟨g2, 0, none⟩) tw.length tw.length) (.slice (some ⟨g3, 0, none⟩) se.length se.length) (.slice none 0 0) (.slice none 0 0) (.slice none 0 0) (.slice none 0 0) 0)) := hide (by rw [← hV6]; exact (RA.set (unhide HO5) (k := 7) (by omega) (.slice (some ⟨g3, 0, none⟩) se.length se.length)))
  have U1_6 : Hid (Lk.Upto V6 g1 ls.length ls.length ls) := hide (by rw [← hV6]; exact (uptoL_set (p := ⟨w.heap.size + 2, 7, none⟩) (v := (.slice (some ⟨g3, 0, none⟩) se.length se.length)) (unhide U1_5) (by show w.heap.size + 2 ≠ g1; omega)))
  have U2_6 : Hid (Tu.Upto V6 g2 tw.length tw.length tw) := hide (by rw [← hV6]; exact (Tq.uptoT_set (p := ⟨w.heap.size + 2, 7, none⟩) (v := (.slice (some ⟨g3, 0, none⟩) se.length se.length)) (unhide U2_5) (by show w.heap.size + 2 ≠ g2; omega)))
  have U3_6 : Hid (Tu.Upto V6 g3 se.length se.length se) := hide (by rw [← hV6]; exact (Tq.uptoT_set (p := ⟨w.heap.size + 2, 7, none⟩) (v := (.slice (some ⟨g3, 0, none⟩) se.length se.length)) (unhide U3_5) (by show w.heap.size + 2 ≠ g3; omega)))
  have hq6 : V6.heap.size = V5.heap.size := by rw [← hV6]; simp [World.setCell]
  have HV6 := hide hV6
  clear hV6
  have o7 := (unhide HO5).at (i := 7) rfl
  have f7 := (unhide HO5).free (i := 7) (by omega)
  have z8 := (unhide HX5).at (i := 8) rfl
  have hne : ¬ w.heap.size = w.heap.size + 2 := by omega
  go_wp2_with fail
  rw [unhide HV6]
  clear hne o7 f7 z8 HX5 HZ5 HO5 U1_5 U2_5 U3_5
  refine (Tu.toS a4 du c4 _ hm4 ((unhide HR4).below (unhide HB6))).mono ?_
  rintro e V7 ⟨g4, rfl, d7, hg4, hz4, u7⟩
  have HB7 := hide ((unhide HB6).trans (d7.mono (unhide HB6).size))
  have HX7 := hide ((unhide HX6).below d7)
  have HZ7 := hide ((unhide HZ6).below d7)
  have HO7 := hide ((unhide HO6).below d7)
  have U1_7 := hide ((unhide U1_6).below d7 (by omega))
  have U2_7 := hide ((unhide U2_6).below d7 (by omega))
  have U3_7 := hide ((unhide U3_6).below d7 (by omega))
  have hq7 := d7.size
  clear HX6 HZ6 HO6 U1_6 U2_6 U3_6
  have U4_7 := hide u7
  clear d7 u7
  obtain ⟨V8, hV8⟩ : ∃ V, (V7.setCell ⟨w.heap.size + 2, 8, none⟩ (.slice (some ⟨g4, 0, none⟩) du.length du.length)) = V := ⟨_, rfl⟩
  have HB8 : Hid (Below w.heap.size w V8) := hide (by rw [← hV8]; exact ((unhide HB7).setCell (p := ⟨w.heap.size + 2, 8, none⟩) hp2 (.slice (some ⟨g4, 0, none⟩) du.length du.length)))
  have HX8 : Hid (RA V8 w.heap.size (rC x1 x2 x3 x4 x5 (.slice a1 ls.length c1) (.slice a2 tw.length c2) (.slice a3 se.length c3) (.slice a4 du.length c4) (.slice a5 ss.length c5) (.slice a6 es.length c6) (.slice a7 la.length c7) x6)) := hide (by rw [← hV8]; exact (RA.other (unhide HX7) (p := ⟨w.heap.size + 2, 8, none⟩) (by show w.heap.size ≠ w.heap.size + 2; omega) (.slice (some ⟨g4, 0, none⟩) du.length du.length)))
  have HZ8 : Hid (RA V8 (w.heap.size + 1) (rC 0 0 0 0 0 (.slice none 0 0) (.slice none 0 0) (.slice none 0 0) (.slice none 0 0) (.slice none 0 0) (.slice none 0 0) (.slice none 0 0) 0)) := hide (by rw [← hV8]; exact (RA.other (unhide HZ7) (p := ⟨w.heap.size + 2, 8, none⟩) (by show w.heap.size + 1 ≠ w.heap.size + 2; omega) (.slice (some ⟨g4, 0, none⟩) du.length du.length)))
  have HO8 : Hid (RA V8 (w.heap.size + 2) (rC x1 x2 x3 x4 x5 (.slice (some ⟨g1, 0, none⟩) ls.length ls.length) (.slice (some ⟨g2, 0, none⟩) tw.length tw.length) (.slice (some ⟨g3, 0, none⟩) se.length se.length) (.slice (some ⟨g4, 0, none⟩) du.length du.length) (.slice none 0 0) (.slice none 0 0) (.slice none 0 0) 0)) := hide (by rw [← hV8]; exact (RA.set (unhide HO7) (k := 8) (by omega) (.slice (some ⟨g4, 0, none⟩) du.length du.length)))
  have U1_8 : Hid (Lk.Upto V8 g1 ls.length ls.length ls) := hide (by rw [← hV8]; exact (uptoL_set (p := ⟨w.heap.size + 2, 8, none⟩) (v := (.slice (some ⟨g4, 0, none⟩) du.length du.length)) (unhide U1_7) (by show w.heap.size + 2 ≠ g1; omega)))
  have U2_8 : Hid (Tu.Upto V8 g2 tw.length tw.length tw) := hide (by rw [← hV8]; exact (Tq.uptoT_set (p := ⟨w.heap.size + 2, 8, none⟩) (v := (.slice (some ⟨g4, 0, none⟩) du.length du.length)) (unhide U2_7) (by show w.heap.size + 2 ≠ g2; omega)))
  have U3_8 : Hid (Tu.Upto V8 g3 se.length se.length se) := hide (by rw [← hV8]; exact (Tq.uptoT_set (p := ⟨w.heap.size + 2, 8, none⟩) (v := (.slice (some ⟨g4, 0, none⟩) du.length du.length)) (unhide U3_7) (by show w.heap.size + 2 ≠ g3; omega)))
  have U4_8 : Hid (Tu.Upto V8 g4 du.length du.length du) := hide (by rw [← hV8]; exact (Tq.uptoT_set (p := ⟨w.heap.size + 2, 8, none⟩) (v := (.slice (some ⟨g4, 0, none⟩) du.length du.length)) (unhide U4_7) (by show w.heap.size + 2 ≠ g4; omega)))
  have hq8 : V8.heap.size = V7.heap.size := by rw [← hV8]; simp [World.setCell]
  have HV8 := hide hV8
  clear hV8
  have o8 := (unhide HO7).at (i := 8) rfl
  have f8 := (unhide HO7).free (i := 8) (by omega)
  have z9 := (unhide HX7).at (i := 9) rfl
  have z10 := (unhide HX7).at (i := 10) rfl
  have hne : ¬ w.heap.size = w.heap.size + 2 := by omega
  go_wp2_with fail
  rw [unhide HV8]
  clear hne o8 f8 z9 z10 HX7 HZ7 HO7 U1_7 U2_7 U3_7 U4_7
  refine (Tq.toV a5 ss c5 a6 es c6 _ hm5 hm6 ((unhide HR5).below (unhide HB8)) ((unhide HR6).below (unhide HB8))).mono ?_
  rintro e V9 ⟨g5, g6, rfl, d9, hg5, u9, v9⟩
  have HB9 := hide ((unhide HB8).trans (d9.mono (unhide HB8).size))
  have HX9 := hide ((unhide HX8).below d9)
  have HZ9 := hide ((unhide HZ8).below d9)
  have HO9 := hide ((unhide HO8).below d9)
  have U1_9 := hide ((unhide U1_8).below d9 (by omega))
  have U2_9 := hide ((unhide U2_8).below d9 (by omega))
  have U3_9 := hide ((unhide U3_8).below d9 (by omega))
  have U4_9 := hide ((unhide U4_8).below d9 (by omega))
  have hq9 := d9.size
  clear HX8 HZ8 HO8 U1_8 U2_8 U3_8 U4_8
  have U5_9 := hide u9
  have U6_9 := hide v9
  clear d9 u9 v9
  obtain ⟨V10, hV10⟩ : ∃ V, ((V9.setCell ⟨w.heap.size + 2, 9, none⟩ (.slice (some ⟨g5, 0, none⟩) ss.length ss.length)).setCell ⟨w.heap.size + 2, 10, none⟩ (.slice (some ⟨g6, 0, none⟩) es.length es.length)) = V := ⟨_, rfl⟩
  have HB10 : Hid (Below w.heap.size w V10) := hide (by rw [← hV10]; exact (((unhide HB9).setCell (p := ⟨w.heap.size + 2, 9, none⟩) hp2 (.slice (some ⟨g5, 0, none⟩) ss.length ss.length)).setCell (p := ⟨w.heap.size + 2, 10, none⟩) hp2 (.slice (some ⟨g6, 0, none⟩) es.length es.length)))
  have HX10 : Hid (RA V10 w.heap.size (rC x1 x2 x3 x4 x5 (.slice a1 ls.length c1) (.slice a2 tw.length c2) (.slice a3 se.length c3) (.slice a4 du.length c4) (.slice a5 ss.length c5) (.slice a6 es.length c6) (.slice a7 la.length c7) x6)) := hide (by rw [← hV10]; exact (RA.other (RA.other (unhide HX9) (p := ⟨w.heap.size + 2, 9, none⟩) (by show w.heap.size ≠ w.heap.size + 2; omega) (.slice (some ⟨g5, 0, none⟩) ss.length ss.length)) (p := ⟨w.heap.size + 2, 10, none⟩) (by show w.heap.size ≠ w.heap.size + 2; omega) (.slice (some ⟨g6, 0, none⟩) es.length es.length)))
  have HZ10 : Hid (RA V10 (w.heap.size + 1) (rC 0 0 0 0 0 (.slice none 0 0) (.slice none 0 0) (.slice none 0 0) (.slice none 0 0) (.slice none 0 0) (.slice none 0 0) (.slice none 0 0) 0)) := hide (by rw [← hV10]; exact (RA.other (RA.other (unhide HZ9) (p := ⟨w.heap.size + 2, 9, none⟩) (by show w.heap.size + 1 ≠ w.heap.size + 2; omega) (.slice (some ⟨g5, 0, none⟩) ss.length ss.length)) (p := ⟨w.heap.size + 2, 10, none⟩) (by show w.heap.size + 1 ≠ w.heap.size + 2; omega) (.slice (some ⟨g6, 0, none⟩) es.length es.length)))
  have HO10 : Hid (RA V10 (w.heap.size + 2) (rC x1 x2 x3 x4 x5 (.slice (some ⟨g1, 0, none⟩) ls.length ls.length) (.slice (some ⟨g2, 0, none⟩) tw.length tw.length) (.slice (some ⟨g3, 0, none⟩) se.length se.length) (.slice (some ⟨g4, 0, none⟩) du.length du.length) (.slice (some ⟨g5, 0, none⟩) ss.length ss.length) (.slice (some ⟨g6, 0, none⟩) es.length es.length) (.slice none 0 0) 0)) := hide (by rw [← hV10]; exact (RA.set (RA.set (unhide HO9) (k := 9) (by omega) (.slice (some ⟨g5, 0, none⟩) ss.length ss.length)) (k := 10) (by omega) (.slice (some ⟨g6, 0, none⟩) es.length es.length)))
  have U1_10 : Hid (Lk.Upto V10 g1 ls.length ls.length ls) := hide (by rw [← hV10]; exact (uptoL_set (p := ⟨w.heap.size + 2, 10, none⟩) (v := (.slice (some ⟨g6, 0, none⟩) es.length es.length)) (uptoL_set (p := ⟨w.heap.size + 2, 9, none⟩) (v := (.slice (some ⟨g5, 0, none⟩) ss.length ss.length)) (unhide U1_9) (by show w.heap.size + 2 ≠ g1; omega)) (by show w.heap.size + 2 ≠ g1; omega)))
  have U2_10 : Hid (Tu.Upto V10 g2 tw.length tw.length tw) := hide (by rw [← hV10]; exact (Tq.uptoT_set (p := ⟨w.heap.size + 2, 10, none⟩) (v := (.slice (some ⟨g6, 0, none⟩) es.length es.length)) (Tq.uptoT_set (p := ⟨w.heap.size + 2, 9, none⟩) (v := (.slice (some ⟨g5, 0, none⟩) ss.length ss.length)) (unhide U2_9) (by show w.heap.size + 2 ≠ g2; omega)) (by show w.heap.size + 2 ≠ g2; omega)))
  have U3_10 : Hid (Tu.Upto V10 g3 se.length se.length se) := hide (by rw [← hV10]; exact (Tq.uptoT_set (p := ⟨w.heap.size + 2, 10, none⟩) (v := (.slice (some ⟨g6, 0, none⟩) es.length es.length)) (Tq.uptoT_set (p := ⟨w.heap.size + 2, 9, none⟩) (v := (.slice (some ⟨g5, 0, none⟩) ss.length ss.length)) (unhide U3_9) (by show w.heap.size + 2 ≠ g3; omega)) (by show w.heap.size + 2 ≠ g3; omega)))
  have U4_10 : Hid (Tu.Upto V10 g4 du.length du.length du) := hide (by rw [← hV10]; exact (Tq.uptoT_set (p := ⟨w.heap.size + 2, 10, none⟩) (v := (.slice (some ⟨g6, 0, none⟩) es.length es.length)) (Tq.uptoT_set (p := ⟨w.heap.size + 2, 9, none⟩) (v := (.slice (some ⟨g5, 0, none⟩) ss.length ss.length)) (unhide U4_9) (by show w.heap.size + 2 ≠ g4; omega)) (by show w.heap.size + 2 ≠ g4; omega)))
  have U5_10 : Hid (So.Upto V10 g5 ss.length ss.length ss) := hide (by rw [← hV10]; exact (Tq.uptoS_set (p := ⟨w.heap.size + 2, 10, none⟩) (v := (.slice (some ⟨g6, 0, none⟩) es.length es.length)) (Tq.uptoS_set (p := ⟨w.heap.size + 2, 9, none⟩) (v := (.slice (some ⟨g5, 0, none⟩) ss.length ss.length)) (unhide U5_9) (by show w.heap.size + 2 ≠ g5; omega)) (by show w.heap.size + 2 ≠ g5; omega)))
  have U6_10 : Hid (Tu.Upto V10 g6 es.length es.length es) := hide (by rw [← hV10]; exact (Tq.uptoT_set (p := ⟨w.heap.size + 2, 10, none⟩) (v := (.slice (some ⟨g6, 0, none⟩) es.length es.length)) (Tq.uptoT_set (p := ⟨w.heap.size + 2, 9, none⟩) (v := (.slice (some ⟨g5, 0, none⟩) ss.length ss.length)) (unhide U6_9) (by show w.heap.size + 2 ≠ g6; omega)) (by show w.heap.size + 2 ≠ g6; omega)))
  have hq10 : V10.heap.size = V9.heap.size := by rw [← hV10]; simp [World.setCell]
  have HV10 := hide hV10
  clear hV10
  have o9 := (unhide HO9).at (i := 9) rfl
  have f9 := (unhide HO9).free (i := 9) (by omega)
  have o10 := (unhide HO9).at (i := 10) rfl
  have f10 := (unhide HO9).free (i := 10) (by omega)
  have z11 := (unhide HX9).at (i := 11) rfl
  have hne : ¬ w.heap.size = w.heap.size + 2 := by omega
  go_wp2_with fail
  rw [unhide HV10]
  clear hne o9 f9 o10 f10 z11 HX9 HZ9 HO9 U1_9 U2_9 U3_9 U4_9 U5_9 U6_9
  refine (Ed.toS a7 la c7 _ hm7 ((unhide HR7).below (unhide HB10))).mono ?_
  rintro e V11 ⟨g7, rfl, d11, hg7, hz7, u11⟩
  have HB11 := hide ((unhide HB10).trans (d11.mono (unhide HB10).size))
  have HX11 := hide ((unhide HX10).below d11)
  have HZ11 := hide ((unhide HZ10).below d11)
  have HO11 := hide ((unhide HO10).below d11)
  have U1_11 := hide ((unhide U1_10).below d11 (by omega))
  have U2_11 := hide ((unhide U2_10).below d11 (by omega))
  have U3_11 := hide ((unhide U3_10).below d11 (by omega))
  have U4_11 := hide ((unhide U4_10).below d11 (by omega))
  have U5_11 := hide ((unhide U5_10).below d11 (by omega))
  have U6_11 := hide ((unhide U6_10).below d11 (by omega))
  have hq11 := d11.size
  clear HX10 HZ10 HO10 U1_10 U2_10 U3_10 U4_10 U5_10 U6_10
  have U7_11 := hide u11
  clear d11 u11
  obtain ⟨V12, hV12⟩ : ∃ V, ((V11.setCell ⟨w.heap.size + 2, 11, none⟩ (.slice (some ⟨g7, 0, none⟩) la.length la.length)).setCell ⟨w.heap.size + 2, 12, none⟩ (.int .i64 x6)) = V := ⟨_, rfl⟩
  have HB12 : Hid (Below w.heap.size w V12) := hide (by rw [← hV12]; exact (((unhide HB11).setCell (p := ⟨w.heap.size + 2, 11, none⟩) hp2 (.slice (some ⟨g7, 0, none⟩) la.length la.length)).setCell (p := ⟨w.heap.size + 2, 12, none⟩) hp2 (.int .i64 x6)))
  have HX12 : Hid (RA V12 w.heap.size (rC x1 x2 x3 x4 x5 (.slice a1 ls.length c1) (.slice a2 tw.length c2) (.slice a3 se.length c3) (.slice a4 du.length c4) (.slice a5 ss.length c5) (.slice a6 es.length c6) (.slice a7 la.length c7) x6)) := hide (by rw [← hV12]; exact (RA.other (RA.other (unhide HX11) (p := ⟨w.heap.size + 2, 11, none⟩) (by show w.heap.size ≠ w.heap.size + 2; omega) (.slice (some ⟨g7, 0, none⟩) la.length la.length)) (p := ⟨w.heap.size + 2, 12, none⟩) (by show w.heap.size ≠ w.heap.size + 2; omega) (.int .i64 x6)))
  have HZ12 : Hid (RA V12 (w.heap.size + 1) (rC 0 0 0 0 0 (.slice none 0 0) (.slice none 0 0) (.slice none 0 0) (.slice none 0 0) (.slice none 0 0) (.slice none 0 0) (.slice none 0 0) 0)) := hide (by rw [← hV12]; exact (RA.other (RA.other (unhide HZ11) (p := ⟨w.heap.size + 2, 11, none⟩) (by show w.heap.size + 1 ≠ w.heap.size + 2; omega) (.slice (some ⟨g7, 0, none⟩) la.length la.length)) (p := ⟨w.heap.size + 2, 12, none⟩) (by show w.heap.size + 1 ≠ w.heap.size + 2; omega) (.int .i64 x6)))
  have HO12 : Hid (RA V12 (w.heap.size + 2) (rC x1 x2 x3 x4 x5 (.slice (some ⟨g1, 0, none⟩) ls.length ls.length) (.slice (some ⟨g2, 0, none⟩) tw.length tw.length) (.slice (some ⟨g3, 0, none⟩) se.length se.length) (.slice (some ⟨g4, 0, none⟩) du.length du.length) (.slice (some ⟨g5, 0, none⟩) ss.length ss.length) (.slice (some ⟨g6, 0, none⟩) es.length es.length) (.slice (some ⟨g7, 0, none⟩) la.length la.length) x6)) := hide (by rw [← hV12]; exact (RA.set (RA.set (unhide HO11) (k := 11) (by omega) (.slice (some ⟨g7, 0, none⟩) la.length la.length)) (k := 12) (by omega) (.int .i64 x6)))
  have U1_12 : Hid (Lk.Upto V12 g1 ls.length ls.length ls) := hide (by rw [← hV12]; exact (uptoL_set (p := ⟨w.heap.size + 2, 12, none⟩) (v := (.int .i64 x6)) (uptoL_set (p := ⟨w.heap.size + 2, 11, none⟩) (v := (.slice (some ⟨g7, 0, none⟩) la.length la.length)) (unhide U1_11) (by show w.heap.size + 2 ≠ g1; omega)) (by show w.heap.size + 2 ≠ g1; omega)))
  have U2_12 : Hid (Tu.Upto V12 g2 tw.length tw.length tw) := hide (by rw [← hV12]; exact (Tq.uptoT_set (p := ⟨w.heap.size + 2, 12, none⟩) (v := (.int .i64 x6)) (Tq.uptoT_set (p := ⟨w.heap.size + 2, 11, none⟩) (v := (.slice (some ⟨g7, 0, none⟩) la.length la.length)) (unhide U2_11) (by show w.heap.size + 2 ≠ g2; omega)) (by show w.heap.size + 2 ≠ g2; omega)))
  have U3_12 : Hid (Tu.Upto V12 g3 se.length se.length se) := hide (by rw [← hV12]; exact (Tq.uptoT_set (p := ⟨w.heap.size + 2, 12, none⟩) (v := (.int .i64 x6)) (Tq.uptoT_set (p := ⟨w.heap.size + 2, 11, none⟩) (v := (.slice (some ⟨g7, 0, none⟩) la.length la.length)) (unhide U3_11) (by show w.heap.size + 2 ≠ g3; omega)) (by show w.heap.size + 2 ≠ g3; omega)))
  have U4_12 : Hid (Tu.Upto V12 g4 du.length du.length du) := hide (by rw [← hV12]; exact (Tq.uptoT_set (p := ⟨w.heap.size + 2, 12, none⟩) (v := (.int .i64 x6)) (Tq.uptoT_set (p := ⟨w.heap.size + 2, 11, none⟩) (v := (.slice (some ⟨g7, 0, none⟩) la.length la.length)) (unhide U4_11) (by show w.heap.size + 2 ≠ g4; omega)) (by show w.heap.size + 2 ≠ g4; omega)))
  have U5_12 : Hid (So.Upto V12 g5 ss.length ss.length ss) := hide (by rw [← hV12]; exact (Tq.uptoS_set (p := ⟨w.heap.size + 2, 12, none⟩) (v := (.int .i64 x6)) (Tq.uptoS_set (p := ⟨w.heap.size + 2, 11, none⟩) (v := (.slice (some ⟨g7, 0, none⟩) la.length la.length)) (unhide U5_11) (by show w.heap.size + 2 ≠ g5; omega)) (by show w.heap.size + 2 ≠ g5; omega)))
  have U6_12 : Hid (Tu.Upto V12 g6 es.length es.length es) := hide (by rw [← hV12]; exact (Tq.uptoT_set (p := ⟨w.heap.size + 2, 12, none⟩) (v := (.int .i64 x6)) (Tq.uptoT_set (p := ⟨w.heap.size + 2, 11, none⟩) (v := (.slice (some ⟨g7, 0, none⟩) la.length la.length)) (unhide U6_11) (by show w.heap.size + 2 ≠ g6; omega)) (by show w.heap.size + 2 ≠ g6; omega)))
  have U7_12 : Hid (Ed.Upto V12 g7 la.length la.length la) := hide (by rw [← hV12]; exact (uptoE_set (p := ⟨w.heap.size + 2, 12, none⟩) (v := (.int .i64 x6)) (uptoE_set (p := ⟨w.heap.size + 2, 11, none⟩) (v := (.slice (some ⟨g7, 0, none⟩) la.length la.length)) (unhide U7_11) (by show w.heap.size + 2 ≠ g7; omega)) (by show w.heap.size + 2 ≠ g7; omega)))
  have hq12 : V12.heap.size = V11.heap.size := by rw [← hV12]; simp [World.setCell]
  have HV12 := hide hV12
  clear hV12
  have o11 := (unhide HO11).at (i := 11) rfl
  have f11 := (unhide HO11).free (i := 11) (by omega)
  have o12 := (unhide HO11).at (i := 12) rfl
  have f12 := (unhide HO11).free (i := 12) (by omega)
  have z12 := (unhide HX11).at (i := 12) rfl
  have hne : ¬ w.heap.size = w.heap.size + 2 := by omega
  have HOF : Hid (RA ((V11.setCell ⟨w.heap.size + 2, 11, none⟩ (.slice (some ⟨g7, 0, none⟩) la.length la.length)).setCell ⟨w.heap.size + 2, 12, none⟩ (.int .i64 x6)) (w.heap.size + 2) (rC x1 x2 x3 x4 x5 (.slice (some ⟨g1, 0, none⟩) ls.length ls.length) (.slice (some ⟨g2, 0, none⟩) tw.length tw.length) (.slice (some ⟨g3, 0, none⟩) se.length se.length) (.slice (some ⟨g4, 0, none⟩) du.length du.length) (.slice (some ⟨g5, 0, none⟩) ss.length ss.length) (.slice (some ⟨g6, 0, none⟩) es.length es.length) (.slice (some ⟨g7, 0, none⟩) la.length la.length) x6)) := hide (by rw [unhide HV12]; exact unhide HO12)
  have HZF : Hid (((V11.setCell ⟨w.heap.size + 2, 11, none⟩ (.slice (some ⟨g7, 0, none⟩) la.length la.length)).setCell ⟨w.heap.size + 2, 12, none⟩ (.int .i64 x6)).there (w.heap.size + 1) 0 13) := hide (by rw [unhide HV12]; exact (unhide HZ12).2.1)
  go_wp2_with (first | (refine wpList_loadR _ rfl rfl rfl (unhide HOF) ?_) | (refine wpList_storeR2 _ _ rfl rfl (rC x1 x2 x3 x4 x5 (.slice (some ⟨g1, 0, none⟩) ls.length ls.length) (.slice (some ⟨g2, 0, none⟩) tw.length tw.length) (.slice (some ⟨g3, 0, none⟩) se.length se.length) (.slice (some ⟨g4, 0, none⟩) du.length du.length) (.slice (some ⟨g5, 0, none⟩) ss.length ss.length) (.slice (some ⟨g6, 0, none⟩) es.length es.length) (.slice (some ⟨g7, 0, none⟩) la.length la.length) x6) (rC_ones rfl rfl rfl rfl rfl rfl rfl) rfl rfl (unhide HZF) ?_; rw [unhide HV12]; intro VF raF bbF hsF kkF; have HRF := hide raF; have HBF := hide (bbF _ _ (unhide HB12) (by omega)); have HUF := hide kkF; have hqF := hsF; clear raF bbF hsF kkF))
  refine bodyPost_ret (resultsR rfl _ _ rfl (unhide HRF)) rfl ⟨g1, g2, g3, g4, g5, g6, g7, rfl, unhide HBF, ⟨by omega, by omega, by omega, by omega, by omega, by omega, by omega, by omega⟩, (unhide U1_12).of_block (unhide HUF _ (by omega)), (unhide U2_12).of_block (unhide HUF _ (by omega)), (unhide U3_12).of_block (unhide HUF _ (by omega)), (unhide U4_12).of_block (unhide HUF _ (by omega)), (unhide U5_12).of_block (unhide HUF _ (by omega)), (unhide U6_12).of_block (unhide HUF _ (by omega)), (unhide U7_12).of_block (unhide HUF _ (by omega))⟩
set_option maxHeartbeats 16000000 in
theorem eqR (x1 x2 x3 x4 x5 x6 : Int) (a1 a2 a3 a4 a5 a6 a7 : Option Addr) (c1 c2 c3 c4 c5 c6 c7 : Nat) (b1 b2 b3 b4 b5 b6 b7 : Option Addr) (d1 d2 d3 d4 d5 d6 d7 : Nat) (ls : List Lk.R) (tw : List Tu.R) (se : List Tu.R) (du : List Tu.R) (ss : List So.R) (es : List Tu.R) (la : List Ed.R) (w : World) (hm1 : ls.length ≤ 1048576) (hm2 : tw.length ≤ 1048576) (hm3 : se.length ≤ 1048576) (hm4 : du.length ≤ 1048576) (hm5 : ss.length ≤ 1048576) (hm6 : es.length ≤ 1048576) (hm7 : la.length ≤ 1048576) (hr1 : Lk.RM w a1 ls) (hr2 : Tu.RM w a2 tw) (hr3 : Tu.RM w a3 se) (hr4 : Tu.RM w a4 du) (hr5 : So.RM w a5 ss) (hr6 : Tu.RM w a6 es) (hr7 : Ed.RM w a7 la) (hs1 : Lk.RM w b1 ls) (hs2 : Tu.RM w b2 tw) (hs3 : Tu.RM w b3 se) (hs4 : Tu.RM w b4 du) (hs5 : So.RM w b5 ss) (hs6 : Tu.RM w b6 es) (hs7 : Ed.RM w b7 la) :
    Calls Tryz.prog 49 #[.agg #[.int .i64 x1, .int .i64 x2, .int .i64 x3, .int .i64 x4, .int .i64 x5, .slice a1 ls.length c1, .slice a2 tw.length c2, .slice a3 se.length c3, .slice a4 du.length c4, .slice a5 ss.length c5, .slice a6 es.length c6, .slice a7 la.length c7, .int .i64 x6], .agg #[.int .i64 x1, .int .i64 x2, .int .i64 x3, .int .i64 x4, .int .i64 x5, .slice b1 ls.length d1, .slice b2 tw.length d2, .slice b3 se.length d3, .slice b4 du.length d4, .slice b5 ss.length d5, .slice b6 es.length d6, .slice b7 la.length d7, .int .i64 x6]] w fun e w' => e = .returned (.bool true) ∧ Below w.heap.size w w' := by
  have HA1 : Hid (Below w.heap.size w (w.alloc (.cells #[.int .i64 x1, .int .i64 x2, .int .i64 x3, .int .i64 x4, .int .i64 x5, .slice a1 ls.length c1, .slice a2 tw.length c2, .slice a3 se.length c3, .slice a4 du.length c4, .slice a5 ss.length c5, .slice a6 es.length c6, .slice a7 la.length c7, .int .i64 x6] 80))) := hide ((Below.refl _ _).alloc (Nat.le_refl _) _)
  have HB0 : Hid (Below w.heap.size w ((w.alloc (.cells #[.int .i64 x1, .int .i64 x2, .int .i64 x3, .int .i64 x4, .int .i64 x5, .slice a1 ls.length c1, .slice a2 tw.length c2, .slice a3 se.length c3, .slice a4 du.length c4, .slice a5 ss.length c5, .slice a6 es.length c6, .slice a7 la.length c7, .int .i64 x6] 80)).alloc (.cells #[.int .i64 x1, .int .i64 x2, .int .i64 x3, .int .i64 x4, .int .i64 x5, .slice b1 ls.length d1, .slice b2 tw.length d2, .slice b3 se.length d3, .slice b4 du.length d4, .slice b5 ss.length d5, .slice b6 es.length d6, .slice b7 la.length d7, .int .i64 x6] 80))) := hide ((unhide HA1).alloc (unhide HA1).size _)
  have HX0 : Hid (RA ((w.alloc (.cells #[.int .i64 x1, .int .i64 x2, .int .i64 x3, .int .i64 x4, .int .i64 x5, .slice a1 ls.length c1, .slice a2 tw.length c2, .slice a3 se.length c3, .slice a4 du.length c4, .slice a5 ss.length c5, .slice a6 es.length c6, .slice a7 la.length c7, .int .i64 x6] 80)).alloc (.cells #[.int .i64 x1, .int .i64 x2, .int .i64 x3, .int .i64 x4, .int .i64 x5, .slice b1 ls.length d1, .slice b2 tw.length d2, .slice b3 se.length d3, .slice b4 du.length d4, .slice b5 ss.length d5, .slice b6 es.length d6, .slice b7 la.length d7, .int .i64 x6] 80)) w.heap.size (rC x1 x2 x3 x4 x5 (.slice a1 ls.length c1) (.slice a2 tw.length c2) (.slice a3 se.length c3) (.slice a4 du.length c4) (.slice a5 ss.length c5) (.slice a6 es.length c6) (.slice a7 la.length c7) x6)) := hide ((ra_new w _ rfl _).below ((Below.refl _ _).alloc (Nat.le_refl _) _))
  have HY0 : Hid (RA ((w.alloc (.cells #[.int .i64 x1, .int .i64 x2, .int .i64 x3, .int .i64 x4, .int .i64 x5, .slice a1 ls.length c1, .slice a2 tw.length c2, .slice a3 se.length c3, .slice a4 du.length c4, .slice a5 ss.length c5, .slice a6 es.length c6, .slice a7 la.length c7, .int .i64 x6] 80)).alloc (.cells #[.int .i64 x1, .int .i64 x2, .int .i64 x3, .int .i64 x4, .int .i64 x5, .slice b1 ls.length d1, .slice b2 tw.length d2, .slice b3 se.length d3, .slice b4 du.length d4, .slice b5 ss.length d5, .slice b6 es.length d6, .slice b7 la.length d7, .int .i64 x6] 80)) (w.heap.size + 1) (rC x1 x2 x3 x4 x5 (.slice b1 ls.length d1) (.slice b2 tw.length d2) (.slice b3 se.length d3) (.slice b4 du.length d4) (.slice b5 ss.length d5) (.slice b6 es.length d6) (.slice b7 la.length d7) x6)) := hide (by have := ra_new (w.alloc (.cells #[.int .i64 x1, .int .i64 x2, .int .i64 x3, .int .i64 x4, .int .i64 x5, .slice a1 ls.length c1, .slice a2 tw.length c2, .slice a3 se.length c3, .slice a4 du.length c4, .slice a5 ss.length c5, .slice a6 es.length c6, .slice a7 la.length c7, .int .i64 x6] 80)) (rC x1 x2 x3 x4 x5 (.slice b1 ls.length d1) (.slice b2 tw.length d2) (.slice b3 se.length d3) (.slice b4 du.length d4) (.slice b5 ss.length d5) (.slice b6 es.length d6) (.slice b7 la.length d7) x6) rfl 80; rw [show (w.alloc (.cells #[.int .i64 x1, .int .i64 x2, .int .i64 x3, .int .i64 x4, .int .i64 x5, .slice a1 ls.length c1, .slice a2 tw.length c2, .slice a3 se.length c3, .slice a4 du.length c4, .slice a5 ss.length c5, .slice a6 es.length c6, .slice a7 la.length c7, .int .i64 x6] 80)).heap.size = w.heap.size + 1 by simp] at this; exact this)
  have HR1 := hide hr1
  have HS1 := hide hs1
  have HR2 := hide hr2
  have HS2 := hide hs2
  have HR3 := hide hr3
  have HS3 := hide hs3
  have HR4 := hide hr4
  have HS4 := hide hs4
  have HR5 := hide hr5
  have HS5 := hide hs5
  have HR6 := hide hr6
  have HS6 := hide hs6
  have HR7 := hide hr7
  have HS7 := hide hs7
  clear hr1 hs1 hr2 hs2 hr3 hs3 hr4 hs4 hr5 hs5 hr6 hs6 hr7 hs7 HA1
  have hx1 : (x1 != x1) = false := by simp
  have hx2 : (x2 != x2) = false := by simp
  have hx3 : (x3 != x3) = false := by simp
  have hx4 : (x4 != x4) = false := by simp
  have hx5 : (x5 != x5) = false := by simp
  have hx6 : (x6 != x6) = false := by simp
  go_enter Tryz.func49, Tryz.ntmps49
  go_wp2_with fail
  generalize hW : ((w.alloc (.cells #[.int .i64 x1, .int .i64 x2, .int .i64 x3, .int .i64 x4, .int .i64 x5, .slice a1 ls.length c1, .slice a2 tw.length c2, .slice a3 se.length c3, .slice a4 du.length c4, .slice a5 ss.length c5, .slice a6 es.length c6, .slice a7 la.length c7, .int .i64 x6] 80)).alloc (.cells #[.int .i64 x1, .int .i64 x2, .int .i64 x3, .int .i64 x4, .int .i64 x5, .slice b1 ls.length d1, .slice b2 tw.length d2, .slice b3 se.length d3, .slice b4 du.length d4, .slice b5 ss.length d5, .slice b6 es.length d6, .slice b7 la.length d7, .int .i64 x6] 80)) = V0 at *
  clear hW
  refine (Lk.eqS a1 b1 ls c1 d1 _ hm1 ((unhide HR1).below (unhide HB0)) ((unhide HS1).below (unhide HB0))).mono ?_
  rintro e V1 ⟨rfl, d_⟩
  have HB1 := hide ((unhide HB0).trans (d_.mono (unhide HB0).size))
  have HX1 := hide ((unhide HX0).below d_)
  have HY1 := hide ((unhide HY0).below d_)
  clear d_ HX0 HY0
  have z6 := (unhide HX1).at (i := 6) rfl
  have y6 := (unhide HY1).at (i := 6) rfl
  go_wp2_with fail
  clear z6 y6
  refine (Tu.eqS a2 b2 tw c2 d2 _ hm2 ((unhide HR2).below (unhide HB1)) ((unhide HS2).below (unhide HB1))).mono ?_
  rintro e V2 ⟨rfl, d_⟩
  have HB2 := hide ((unhide HB1).trans (d_.mono (unhide HB1).size))
  have HX2 := hide ((unhide HX1).below d_)
  have HY2 := hide ((unhide HY1).below d_)
  clear d_ HX1 HY1
  have z7 := (unhide HX2).at (i := 7) rfl
  have y7 := (unhide HY2).at (i := 7) rfl
  go_wp2_with fail
  clear z7 y7
  refine (Tu.eqS a3 b3 se c3 d3 _ hm3 ((unhide HR3).below (unhide HB2)) ((unhide HS3).below (unhide HB2))).mono ?_
  rintro e V3 ⟨rfl, d_⟩
  have HB3 := hide ((unhide HB2).trans (d_.mono (unhide HB2).size))
  have HX3 := hide ((unhide HX2).below d_)
  have HY3 := hide ((unhide HY2).below d_)
  clear d_ HX2 HY2
  have z8 := (unhide HX3).at (i := 8) rfl
  have y8 := (unhide HY3).at (i := 8) rfl
  go_wp2_with fail
  clear z8 y8
  refine (Tu.eqS a4 b4 du c4 d4 _ hm4 ((unhide HR4).below (unhide HB3)) ((unhide HS4).below (unhide HB3))).mono ?_
  rintro e V4 ⟨rfl, d_⟩
  have HB4 := hide ((unhide HB3).trans (d_.mono (unhide HB3).size))
  have HX4 := hide ((unhide HX3).below d_)
  have HY4 := hide ((unhide HY3).below d_)
  clear d_ HX3 HY3
  have z9 := (unhide HX4).at (i := 9) rfl
  have y9 := (unhide HY4).at (i := 9) rfl
  have z10 := (unhide HX4).at (i := 10) rfl
  have y10 := (unhide HY4).at (i := 10) rfl
  go_wp2_with fail
  clear z9 y9 z10 y10
  refine (Tq.eq a5 ss c5 a6 es c6 b5 d5 b6 d6 _ hm5 hm6 ((unhide HR5).below (unhide HB4)) ((unhide HR6).below (unhide HB4)) ((unhide HS5).below (unhide HB4)) ((unhide HS6).below (unhide HB4))).mono ?_
  rintro e V5 ⟨rfl, d_⟩
  have HB5 := hide ((unhide HB4).trans (d_.mono (unhide HB4).size))
  have HX5 := hide ((unhide HX4).below d_)
  have HY5 := hide ((unhide HY4).below d_)
  clear d_ HX4 HY4
  have z11 := (unhide HX5).at (i := 11) rfl
  have y11 := (unhide HY5).at (i := 11) rfl
  go_wp2_with fail
  clear z11 y11
  refine (Ed.eqS a7 b7 la c7 d7 _ hm7 ((unhide HR7).below (unhide HB5)) ((unhide HS7).below (unhide HB5))).mono ?_
  rintro e V6 ⟨rfl, d_⟩
  have HB6 := hide ((unhide HB5).trans (d_.mono (unhide HB5).size))
  have HX6 := hide ((unhide HX5).below d_)
  have HY6 := hide ((unhide HY5).below d_)
  clear d_ HX5 HY5
  have z12 := (unhide HX6).at (i := 12) rfl
  have y12 := (unhide HY6).at (i := 12) rfl
  go_wp2_with fail
  go_ret
  exact ⟨rfl, unhide HB6⟩
end Rt
end Go.Proofs.YthfcigfgpimimaaGreat
namespace Go.Proofs.YthfcigfgpimimaaGreat
open Go.ChangeShapes Go.WideShapes Go.ChangeAt Go.RowKit
set_option linter.unusedVariables false
set_option linter.unusedSimpArgs false
set_option maxRecDepth 100000
attribute [local go_sem ↓] Go.wp_at_zero Go.wp_at_succ
namespace Rt
open W1
theorem RA.but {w w' : World} {b : Nat} {cs : List Value} (h : RA w b cs) (hb : w'.heap[b]? = w.heap[b]?) : RA w' b cs := by
  have c : ∀ q, w'.cell? ⟨b, q, none⟩ = w.cell? ⟨b, q, none⟩ := fun q => World.cell?_of_block (a := ⟨b, q, none⟩) hb
  have f : ∀ q, w'.frozen? ⟨b, q, none⟩ = w.frozen? ⟨b, q, none⟩ := fun q => World.frozen?_of_block (a := ⟨b, q, none⟩) hb
  exact ⟨fun j u hu => (c _).trans (h.1 j u hu), fun j hj => ⟨by rw [c]; exact (h.2.1 j hj).1, by rw [f]; exact (h.2.1 j hj).2⟩, h.2.2⟩
theorem cells13 : Tryz.prog.cellsOf 67 = 13 := by kernel_rfl
theorem cells_int : Tryz.prog.cellsOf 3 = 1 := by kernel_rfl
theorem cells_lk : Tryz.prog.cellsOf 60 = 1 := by kernel_rfl
theorem cells_tu : Tryz.prog.cellsOf 61 = 1 := by kernel_rfl
theorem cells_so : Tryz.prog.cellsOf 62 = 1 := by kernel_rfl
theorem cells_ed : Tryz.prog.cellsOf 65 = 1 := by kernel_rfl
theorem cells_top : Tryz.prog.cellsOf 64 = 2 := by kernel_rfl
theorem list13 {α : Type} {l : List α} (h : l.length = 13) : ∃ c0 c1 c2 c3 c4 c5 c6 c7 c8 c9 c10 c11 c12, l = [c0, c1, c2, c3, c4, c5, c6, c7, c8, c9, c10, c11, c12] := by
  match l, h with
  | [c0, c1, c2, c3, c4, c5, c6, c7, c8, c9, c10, c11, c12], _ => exact ⟨c0, c1, c2, c3, c4, c5, c6, c7, c8, c9, c10, c11, c12, rfl⟩
theorem list12 {α : Type} {l : List α} (h : l.length = 12) : ∃ x0 x1 x2 x3 x4 x5 x6 x7 x8 x9 x10 x11, l = [x0, x1, x2, x3, x4, x5, x6, x7, x8, x9, x10, x11] := by
  match l, h with
  | [x0, x1, x2, x3, x4, x5, x6, x7, x8, x9, x10, x11], _ => exact ⟨x0, x1, x2, x3, x4, x5, x6, x7, x8, x9, x10, x11, rfl⟩
end Rt
end Go.Proofs.YthfcigfgpimimaaGreat
namespace Go.Proofs.YthfcigfgpimimaaGreat
open Go.ChangeShapes Go.WideShapes Go.ChangeAt Go.RowKit
set_option linter.unusedVariables false
set_option linter.unusedSimpArgs false
set_option maxRecDepth 100000
namespace Rt
open W1
/-- Seven lists that lie one behind the other between two bounds of the heap. -/
def RL (W : World) (lo hi : Nat) (a1 a2 a3 a4 a5 a6 a7 : Option Addr) (ls : List Lk.R) (tw : List Tu.R) (se : List Tu.R) (du : List Tu.R) (ss : List So.R) (es : List Tu.R) (la : List Ed.R) : Prop :=
  ∃ b1 b2 b3 b4 b5 b6 : Nat, (lo ≤ b1 ∧ b1 ≤ b2 ∧ b2 ≤ b3 ∧ b3 ≤ b4 ∧ b4 ≤ b5 ∧ b5 ≤ b6 ∧ b6 ≤ hi) ∧ Lk.Lst W a1 (ls) lo b1 ∧ Tu.Lst W a2 (tw) b1 b2 ∧ Tu.Lst W a3 (se) b2 b3 ∧ Tu.Lst W a4 (du) b3 b4 ∧ So.Lst W a5 (ss) b4 b5 ∧ Tu.Lst W a6 (es) b5 b6 ∧ Ed.Lst W a7 (la) b6 hi
theorem RL.below {W W' : World} {lo hi : Nat} {a1 a2 a3 a4 a5 a6 a7 : Option Addr} {ls : List Lk.R} {tw : List Tu.R} {se : List Tu.R} {du : List Tu.R} {ss : List So.R} {es : List Tu.R} {la : List Ed.R} (h : RL W lo hi a1 a2 a3 a4 a5 a6 a7 ls tw se du ss es la) (hb : Below W.heap.size W W') : RL W' lo hi a1 a2 a3 a4 a5 a6 a7 ls tw se du ss es la := by
  obtain ⟨b1, b2, b3, b4, b5, b6, ⟨o0, o1, o2, o3, o4, o5, o6⟩, h1, h2, h3, h4, h5, h6, h7⟩ := h
  exact ⟨b1, b2, b3, b4, b5, b6, ⟨o0, o1, o2, o3, o4, o5, o6⟩, h1.below hb, h2.below hb, h3.below hb, h4.below hb, h5.below hb, h6.below hb, h7.below hb⟩
theorem RL.but {W W' : World} {lo hi L H : Nat} {a1 a2 a3 a4 a5 a6 a7 : Option Addr} {ls : List Lk.R} {tw : List Tu.R} {se : List Tu.R} {du : List Tu.R} {ss : List So.R} {es : List Tu.R} {la : List Ed.R} (h : RL W lo hi a1 a2 a3 a4 a5 a6 a7 ls tw se du ss es la) (hs : W.heap.size ≤ W'.heap.size) (hb : ∀ k, k < W.heap.size → (k < L ∨ H ≤ k) → W'.heap[k]? = W.heap[k]?) (hd : hi ≤ L ∨ H ≤ lo) : RL W' lo hi a1 a2 a3 a4 a5 a6 a7 ls tw se du ss es la := by
  obtain ⟨b1, b2, b3, b4, b5, b6, ⟨o0, o1, o2, o3, o4, o5, o6⟩, h1, h2, h3, h4, h5, h6, h7⟩ := h
  exact ⟨b1, b2, b3, b4, b5, b6, ⟨o0, o1, o2, o3, o4, o5, o6⟩, h1.but (p := fun k => k < L ∨ H ≤ k) hs (fun k hk h => hb k hk h) (fun k h1 h2 => by omega), h2.but (p := fun k => k < L ∨ H ≤ k) hs (fun k hk h => hb k hk h) (fun k h1 h2 => by omega), h3.but (p := fun k => k < L ∨ H ≤ k) hs (fun k hk h => hb k hk h) (fun k h1 h2 => by omega), h4.but (p := fun k => k < L ∨ H ≤ k) hs (fun k hk h => hb k hk h) (fun k h1 h2 => by omega), h5.but (p := fun k => k < L ∨ H ≤ k) hs (fun k hk h => hb k hk h) (fun k h1 h2 => by omega), h6.but (p := fun k => k < L ∨ H ≤ k) hs (fun k hk h => hb k hk h) (fun k h1 h2 => by omega), h7.but (p := fun k => k < L ∨ H ≤ k) hs (fun k hk h => hb k hk h) (fun k h1 h2 => by omega)⟩
theorem RL.r1 {W : World} {lo hi : Nat} {a1 a2 a3 a4 a5 a6 a7 : Option Addr} {ls : List Lk.R} {tw : List Tu.R} {se : List Tu.R} {du : List Tu.R} {ss : List So.R} {es : List Tu.R} {la : List Ed.R} (h : RL W lo hi a1 a2 a3 a4 a5 a6 a7 ls tw se du ss es la) : Lk.RM W a1 ls := by obtain ⟨b1, b2, b3, b4, b5, b6, ⟨o0, o1, o2, o3, o4, o5, o6⟩, h1, h2, h3, h4, h5, h6, h7⟩ := h; exact h1.rm
theorem RL.r2 {W : World} {lo hi : Nat} {a1 a2 a3 a4 a5 a6 a7 : Option Addr} {ls : List Lk.R} {tw : List Tu.R} {se : List Tu.R} {du : List Tu.R} {ss : List So.R} {es : List Tu.R} {la : List Ed.R} (h : RL W lo hi a1 a2 a3 a4 a5 a6 a7 ls tw se du ss es la) : Tu.RM W a2 tw := by obtain ⟨b1, b2, b3, b4, b5, b6, ⟨o0, o1, o2, o3, o4, o5, o6⟩, h1, h2, h3, h4, h5, h6, h7⟩ := h; exact h2.rm
theorem RL.r3 {W : World} {lo hi : Nat} {a1 a2 a3 a4 a5 a6 a7 : Option Addr} {ls : List Lk.R} {tw : List Tu.R} {se : List Tu.R} {du : List Tu.R} {ss : List So.R} {es : List Tu.R} {la : List Ed.R} (h : RL W lo hi a1 a2 a3 a4 a5 a6 a7 ls tw se du ss es la) : Tu.RM W a3 se := by obtain ⟨b1, b2, b3, b4, b5, b6, ⟨o0, o1, o2, o3, o4, o5, o6⟩, h1, h2, h3, h4, h5, h6, h7⟩ := h; exact h3.rm
theorem RL.r4 {W : World} {lo hi : Nat} {a1 a2 a3 a4 a5 a6 a7 : Option Addr} {ls : List Lk.R} {tw : List Tu.R} {se : List Tu.R} {du : List Tu.R} {ss : List So.R} {es : List Tu.R} {la : List Ed.R} (h : RL W lo hi a1 a2 a3 a4 a5 a6 a7 ls tw se du ss es la) : Tu.RM W a4 du := by obtain ⟨b1, b2, b3, b4, b5, b6, ⟨o0, o1, o2, o3, o4, o5, o6⟩, h1, h2, h3, h4, h5, h6, h7⟩ := h; exact h4.rm
theorem RL.r5 {W : World} {lo hi : Nat} {a1 a2 a3 a4 a5 a6 a7 : Option Addr} {ls : List Lk.R} {tw : List Tu.R} {se : List Tu.R} {du : List Tu.R} {ss : List So.R} {es : List Tu.R} {la : List Ed.R} (h : RL W lo hi a1 a2 a3 a4 a5 a6 a7 ls tw se du ss es la) : So.RM W a5 ss := by obtain ⟨b1, b2, b3, b4, b5, b6, ⟨o0, o1, o2, o3, o4, o5, o6⟩, h1, h2, h3, h4, h5, h6, h7⟩ := h; exact h5.rm
theorem RL.r6 {W : World} {lo hi : Nat} {a1 a2 a3 a4 a5 a6 a7 : Option Addr} {ls : List Lk.R} {tw : List Tu.R} {se : List Tu.R} {du : List Tu.R} {ss : List So.R} {es : List Tu.R} {la : List Ed.R} (h : RL W lo hi a1 a2 a3 a4 a5 a6 a7 ls tw se du ss es la) : Tu.RM W a6 es := by obtain ⟨b1, b2, b3, b4, b5, b6, ⟨o0, o1, o2, o3, o4, o5, o6⟩, h1, h2, h3, h4, h5, h6, h7⟩ := h; exact h6.rm
theorem RL.r7 {W : World} {lo hi : Nat} {a1 a2 a3 a4 a5 a6 a7 : Option Addr} {ls : List Lk.R} {tw : List Tu.R} {se : List Tu.R} {du : List Tu.R} {ss : List So.R} {es : List Tu.R} {la : List Ed.R} (h : RL W lo hi a1 a2 a3 a4 a5 a6 a7 ls tw se du ss es la) : Ed.RM W a7 la := by obtain ⟨b1, b2, b3, b4, b5, b6, ⟨o0, o1, o2, o3, o4, o5, o6⟩, h1, h2, h3, h4, h5, h6, h7⟩ := h; exact h7.rm
theorem toRL (x1 x2 x3 x4 x5 x6 : Int) (a1 a2 a3 a4 a5 a6 a7 : Option Addr) (c1 c2 c3 c4 c5 c6 c7 : Nat) (ls : List Lk.R) (tw : List Tu.R) (se : List Tu.R) (du : List Tu.R) (ss : List So.R) (es : List Tu.R) (la : List Ed.R) (w : World) (hm1 : ls.length ≤ 1048576) (hm2 : tw.length ≤ 1048576) (hm3 : se.length ≤ 1048576) (hm4 : du.length ≤ 1048576) (hm5 : ss.length ≤ 1048576) (hm6 : es.length ≤ 1048576) (hm7 : la.length ≤ 1048576) (hr1 : Lk.RM w a1 ls) (hr2 : Tu.RM w a2 tw) (hr3 : Tu.RM w a3 se) (hr4 : Tu.RM w a4 du) (hr5 : So.RM w a5 ss) (hr6 : Tu.RM w a6 es) (hr7 : Ed.RM w a7 la) :
    Calls Tryz.prog 41 #[.agg #[.int .i64 x1, .int .i64 x2, .int .i64 x3, .int .i64 x4, .int .i64 x5, .slice a1 ls.length c1, .slice a2 tw.length c2, .slice a3 se.length c3, .slice a4 du.length c4, .slice a5 ss.length c5, .slice a6 es.length c6, .slice a7 la.length c7, .int .i64 x6]] w fun e w' => ∃ g1 g2 g3 g4 g5 g6 g7, e = .returned (.agg (rC x1 x2 x3 x4 x5 (.slice (some ⟨g1, 0, none⟩) ls.length ls.length) (.slice (some ⟨g2, 0, none⟩) tw.length tw.length) (.slice (some ⟨g3, 0, none⟩) se.length se.length) (.slice (some ⟨g4, 0, none⟩) du.length du.length) (.slice (some ⟨g5, 0, none⟩) ss.length ss.length) (.slice (some ⟨g6, 0, none⟩) es.length es.length) (.slice (some ⟨g7, 0, none⟩) la.length la.length) x6).toArray) ∧ Below w.heap.size w w' ∧ RL w' w.heap.size w'.heap.size (some ⟨g1, 0, none⟩) (some ⟨g2, 0, none⟩) (some ⟨g3, 0, none⟩) (some ⟨g4, 0, none⟩) (some ⟨g5, 0, none⟩) (some ⟨g6, 0, none⟩) (some ⟨g7, 0, none⟩) ls tw se du ss es la := by
  refine (toR x1 x2 x3 x4 x5 x6 a1 a2 a3 a4 a5 a6 a7 c1 c2 c3 c4 c5 c6 c7 ls tw se du ss es la w hm1 hm2 hm3 hm4 hm5 hm6 hm7 hr1 hr2 hr3 hr4 hr5 hr6 hr7).mono ?_
  rintro e w' ⟨g1, g2, g3, g4, g5, g6, g7, rfl, hb, ⟨o0, o1, o2, o3, o4, o5, o6, o7⟩, u1, u2, u3, u4, u5, u6, u7⟩
  refine ⟨g1, g2, g3, g4, g5, g6, g7, rfl, hb, g2, g3, g4, g5, g6, g7, ⟨by omega, by omega, by omega, by omega, by omega, by omega, by omega⟩, .inr ⟨g1, rfl, by omega, by omega, by omega, u1⟩, .inr ⟨g2, rfl, by omega, by omega, by omega, u2⟩, .inr ⟨g3, rfl, by omega, by omega, by omega, u3⟩, .inr ⟨g4, rfl, by omega, by omega, by omega, u4⟩, .inr ⟨g5, rfl, by omega, by omega, by omega, u5⟩, .inr ⟨g6, rfl, by omega, by omega, by omega, u6⟩, .inr ⟨g7, rfl, by omega, by omega, by omega, u7⟩⟩
end Rt
end Go.Proofs.YthfcigfgpimimaaGreat
namespace Go.Proofs.YthfcigfgpimimaaGreat
open Go.ChangeShapes Go.WideShapes Go.ChangeAt Go.RowKit
set_option linter.unusedVariables false
set_option linter.unusedSimpArgs false
set_option maxRecDepth 100000
attribute [local go_sem ↓] Go.wp_at_zero Go.wp_at_succ
namespace Nt
open W1 Rt
theorem szN (m : Rm) (p : Pl) (L : Int) (w : World) (hL : 0 ≤ L) (hL1 : L ≤ 1048576) (hs : Sx m) :
    Calls Tryz.prog 34 #[.agg (cl m p).toArray, .int .i64 L] w fun e w' => ∃ r : Int, e = .returned (.int .i64 r) ∧ Below w.heap.size w w' ∧ (r < 0 ∨ (0 ≤ r ∧ r = L - cnt m)) := by
  obtain ⟨s1, s2, s3, s4, s5, s6, s7⟩ := hs
  refine (szR m.x1 m.x2 m.x3 m.x4 m.x5 m.x6 p.a1 p.a2 p.a3 p.a4 p.a5 p.a6 p.a7 m.ls.length m.tw.length m.se.length m.du.length m.ss.length m.es.length m.la.length p.c1 p.c2 p.c3 p.c4 p.c5 p.c6 p.c7 L w hL hL1 s1 s2 s3 s4 s5 s6 s7).mono ?_
  rintro e w' ⟨r, rfl, hb, h⟩
  exact ⟨r, rfl, hb, by unfold cnt; omega⟩
theorem eqN (m : Rm) (p q : Pl) (w : World) (hs : Sm m) (hr : Rd w m p) (hq : Rd w m q) :
    Calls Tryz.prog 49 #[.agg (cl m p).toArray, .agg (cl m q).toArray] w fun e w' => e = .returned (.bool true) ∧ Below w.heap.size w w' := by
  obtain ⟨s1, s2, s3, s4, s5, s6, s7⟩ := hs
  obtain ⟨r1, r2, r3, r4, r5, r6, r7⟩ := hr
  obtain ⟨q1, q2, q3, q4, q5, q6, q7⟩ := hq
  exact eqR m.x1 m.x2 m.x3 m.x4 m.x5 m.x6 p.a1 p.a2 p.a3 p.a4 p.a5 p.a6 p.a7 p.c1 p.c2 p.c3 p.c4 p.c5 p.c6 p.c7 q.a1 q.a2 q.a3 q.a4 q.a5 q.a6 q.a7 q.c1 q.c2 q.c3 q.c4 q.c5 q.c6 q.c7 m.ls m.tw m.se m.du m.ss m.es m.la w s1 s2 s3 s4 s5 s6 s7 r1 r2 r3 r4 r5 r6 r7 q1 q2 q3 q4 q5 q6 q7
/-- Lists that may be written, one behind the other between two bounds. -/
def Ow (w : World) (lo hi : Nat) (m : Rm) (p : Pl) : Prop := RL w lo hi p.a1 p.a2 p.a3 p.a4 p.a5 p.a6 p.a7 m.ls m.tw m.se m.du m.ss m.es m.la
theorem Ow.rd {w : World} {lo hi : Nat} {m : Rm} {p : Pl} (h : Ow w lo hi m p) : Rd w m p := ⟨RL.r1 h, RL.r2 h, RL.r3 h, RL.r4 h, RL.r5 h, RL.r6 h, RL.r7 h⟩
theorem Ow.below {w w' : World} {lo hi : Nat} {m : Rm} {p : Pl} (h : Ow w lo hi m p) (hb : Below w.heap.size w w') : Ow w' lo hi m p := RL.below h hb
theorem Ow.but {w w' : World} {lo hi Lo Hi : Nat} {m : Rm} {p : Pl} (h : Ow w lo hi m p) (hs : w.heap.size ≤ w'.heap.size) (hb : ∀ k, k < w.heap.size → (k < Lo ∨ Hi ≤ k) → w'.heap[k]? = w.heap[k]?) (hd : hi ≤ Lo ∨ Hi ≤ lo) : Ow w' lo hi m p := RL.but h hs hb hd
theorem toN (m : Rm) (p : Pl) (w : World) (hs : Sm m) (hr : Rd w m p) :
    Calls Tryz.prog 41 #[.agg (cl m p).toArray] w fun e w' => ∃ q : Pl, e = .returned (.agg (cl m q).toArray) ∧ Below w.heap.size w w' ∧ Ow w' w.heap.size w'.heap.size m q ∧ Ad q := by
  obtain ⟨s1, s2, s3, s4, s5, s6, s7⟩ := hs
  obtain ⟨r1, r2, r3, r4, r5, r6, r7⟩ := hr
  refine (toRL m.x1 m.x2 m.x3 m.x4 m.x5 m.x6 p.a1 p.a2 p.a3 p.a4 p.a5 p.a6 p.a7 p.c1 p.c2 p.c3 p.c4 p.c5 p.c6 p.c7 m.ls m.tw m.se m.du m.ss m.es m.la w s1 s2 s3 s4 s5 s6 s7 r1 r2 r3 r4 r5 r6 r7).mono ?_
  rintro e w' ⟨g1, g2, g3, g4, g5, g6, g7, rfl, hb, h⟩
  exact ⟨⟨some ⟨g1, 0, none⟩, some ⟨g2, 0, none⟩, some ⟨g3, 0, none⟩, some ⟨g4, 0, none⟩, some ⟨g5, 0, none⟩, some ⟨g6, 0, none⟩, some ⟨g7, 0, none⟩, m.ls.length, m.tw.length, m.se.length, m.du.length, m.ss.length, m.es.length, m.la.length⟩, rfl, hb, h, ⟨g1, rfl⟩, ⟨g2, rfl⟩, ⟨g3, rfl⟩, ⟨g4, rfl⟩, ⟨g5, rfl⟩, ⟨g6, rfl⟩, ⟨g7, rfl⟩⟩
/-- A net in a variable's block. -/
def NB (w : World) (b : Nat) (v1 v2 v3 : Value) (t : Int) : Prop := w.cell? ⟨b, 0, none⟩ = some v1 ∧ w.cell? ⟨b, 1, none⟩ = some v2 ∧ w.cell? ⟨b, 2, none⟩ = some v3 ∧ w.cell? ⟨b, 3, none⟩ = some (.int .i64 t)
theorem NB.lt {w : World} {b : Nat} {v1 v2 v3 : Value} {t : Int} (h : NB w b v1 v2 v3 t) : b < w.heap.size := World.block_lt_of_cell? _ _ h.1
theorem NB.below {w w' : World} {b : Nat} {v1 v2 v3 : Value} {t : Int} (h : NB w b v1 v2 v3 t) (hb : Below w.heap.size w w') : NB w' b v1 v2 v3 t := by
  have hg := h.lt
  obtain ⟨h0, h1, h2, h3⟩ := h
  refine ⟨?_, ?_, ?_, ?_⟩ <;> (rw [hb.cell hg]; assumption)
theorem NB.drew {w : World} {b : Nat} {v1 v2 v3 : Value} {t : Int} (h : NB w b v1 v2 v3 t) : NB w.drew b v1 v2 v3 t := h
theorem nb_new (w : World) (v1 v2 v3 : Value) (t : Int) (ty : Nat) : NB (w.alloc (.cells #[v1, v2, v3, .int .i64 t] ty)) w.heap.size v1 v2 v3 t := by
  refine ⟨?_, ?_, ?_, ?_⟩ <;> simp [World.cell?_alloc_new]
theorem bel_new (w : World) (ob : Obj) : Below w.heap.size w (w.alloc ob) := (Below.refl _ _).alloc (Nat.le_refl _) ob
end Nt
end Go.Proofs.YthfcigfgpimimaaGreat
namespace Go.Proofs.YthfcigfgpimimaaGreat
open Go.ChangeShapes Go.WideShapes Go.ChangeAt Go.RowKit
set_option linter.unusedVariables false
set_option linter.unusedSimpArgs false
set_option maxRecDepth 100000
attribute [local go_sem ↓] Go.wp_at_zero Go.wp_at_succ
namespace Fm
open W1
structure R where
  fr : Int
  tt : Int
  ti : Int
  bs : ByteArray
def R.zero : R := ⟨0, 0, 0, ByteArray.empty⟩
/-- The value of one. -/
def R.value (m : R) : Value := .agg #[.int .i64 m.fr, .int .i64 m.tt, .int .i64 m.ti, .string m.bs]
/-- The cells of one, of a list of them. -/
def R.cells (m : R) : List Value := [.int .i64 m.fr, .int .i64 m.tt, .int .i64 m.ti, .string m.bs]
def flat (ms : List R) : List Value := ms.flatMap R.cells
/-- The cells of one that lies at an address. -/
def At (w : World) (g o : Nat) (m : R) : Prop :=
  w.cell? ⟨g, o, none⟩ = some (.int .i64 m.fr) ∧ w.cell? ⟨g, o + 1, none⟩ = some (.int .i64 m.tt) ∧ w.cell? ⟨g, o + 2, none⟩ = some (.int .i64 m.ti) ∧ w.cell? ⟨g, o + 3, none⟩ = some (.string m.bs)
/-- The slice at a reads as these. -/
def RM (w : World) (a : Option Addr) (ms : List R) : Prop :=
  ms = [] ∨ ∃ g off, a = some ⟨g, off, none⟩ ∧ ∀ i, i < ms.length → At w g (off + i * 4) (ms.getD i R.zero)
theorem At.below {w w' : World} {g o : Nat} {m : R} (h : At w g o m) (hb : Below w.heap.size w w') : At w' g o m := by
  have hg : g < w.heap.size := World.block_lt_of_cell? _ _ h.1
  obtain ⟨h0, h1, h2, h3⟩ := h
  refine ⟨?_, ?_, ?_, ?_⟩ <;> (rw [hb.cell hg]; assumption)
theorem At.drew {w : World} {g o : Nat} {m : R} (h : At w g o m) : At w.drew g o m := h
theorem RM.below {w w' : World} {a : Option Addr} {ms : List R} (h : RM w a ms) (hb : Below w.heap.size w w') : RM w' a ms := by
  rcases h with h | ⟨g, off, rfl, hc⟩
  · exact .inl h
  · exact .inr ⟨g, off, rfl, fun i hi => (hc i hi).below hb⟩
theorem RM.drew {w : World} {a : Option Addr} {ms : List R} (h : RM w a ms) : RM w.drew a ms := h
theorem RM.at {w : World} {g off : Nat} {ms : List R} {i : Nat} (h : RM w (some ⟨g, off, none⟩) ms) (hi : i < ms.length) : At w g (off + i * 4) (ms.getD i R.zero) := by
  rcases h with rfl | ⟨g', off', e, hc⟩
  · simp at hi
  · cases e; exact hc i hi
theorem RM.form {w : World} {a : Option Addr} {ms : List R} (h : RM w a ms) (h0 : 0 < ms.length) : ∃ g off, a = some ⟨g, off, none⟩ := by
  rcases h with rfl | ⟨g, off, e, _⟩
  · simp at h0
  · exact ⟨g, off, e⟩
theorem getD_mem {ms : List R} {j : Nat} (h : j < ms.length) : ms.getD j R.zero ∈ ms := by rw [List.getD_eq_getElem?_getD, List.getElem?_eq_getElem h]; exact List.getElem_mem h
theorem R.len (m : R) : m.cells.length = 4 := rfl
theorem flat_len (ms : List R) : (flat ms).length = ms.length * 4 := by
  unfold flat
  induction ms with
  | nil => rfl
  | cons m t ih => rw [List.flatMap_cons, List.length_append, ih, R.len, List.length_cons]; omega
theorem flat_append (xs ys : List R) : flat (xs ++ ys) = flat xs ++ flat ys := by unfold flat; rw [List.flatMap_append]
theorem flat_get : ∀ (ms : List R) (i j : Nat), j < 4 → i < ms.length → (flat ms)[i * 4 + j]? = (ms.getD i R.zero).cells[j]?
  | [], i, j, hj, hi => by simp at hi
  | m :: t, 0, j, hj, hi => by
    unfold flat
    rw [List.flatMap_cons, Nat.zero_mul, Nat.zero_add, List.getElem?_append_left (by rw [R.len]; exact hj)]; rfl
  | m :: t, i + 1, j, hj, hi => by
    have ih := flat_get t i j hj (by simpa using hi)
    unfold flat at ih ⊢
    rw [List.flatMap_cons, show (i + 1) * 4 + j = m.cells.length + (i * 4 + j) by rw [R.len]; omega, List.getElem?_append_right (by omega), Nat.add_sub_cancel_left, ih]; rfl
theorem cell_one {m : R} {u : Value} (h : u ∈ m.cells) : u.oneCell' = true := by
  unfold R.cells at h; simp only [List.mem_cons, List.not_mem_nil, or_false] at h
  rcases h with rfl | rfl | rfl | rfl <;> rfl
theorem flat_one_cell {ms : List R} {u : Value} (h : u ∈ flat ms) : u.oneCell' = true := by
  obtain ⟨m, _, hu⟩ := List.mem_flatMap.1 h; exact cell_one hu
theorem at_cells {w : World} {g o : Nat} {m : R} (h : At w g o m) : ∀ j u, m.cells[j]? = some u → w.cell? ⟨g, o + j, none⟩ = some u := by
  intro j u hj
  match j, hj with
  | 0, hj => simp [R.cells] at hj; subst hj; exact h.1
  | 1, hj => simp [R.cells] at hj; subst hj; exact h.2.1
  | 2, hj => simp [R.cells] at hj; subst hj; exact h.2.2.1
  | 3, hj => simp [R.cells] at hj; subst hj; exact h.2.2.2
  | n + 4, hj => simp [R.cells] at hj
theorem plain_add (b off k : Nat) : (⟨b, off, none⟩ : Addr).add k = ⟨b, off + k, none⟩ := by unfold Addr.add; split <;> simp_all
/-- A list that is read, cell by cell. -/
theorem RM.cells {w : World} {g off : Nat} {ms : List R} (h : RM w (some ⟨g, off, none⟩) ms) : ∀ j u, (flat ms)[j]? = some u → w.cell? ((⟨g, off, none⟩ : Addr).add j) = some u := by
  intro j u hj
  have hl : j < ms.length * 4 := by
    rw [← flat_len]; exact (List.getElem?_eq_some_iff.1 hj).1
  have hi : j / 4 < ms.length := by omega
  have e : j / 4 * 4 + j % 4 = j := by omega
  rw [← e, flat_get ms _ _ (by omega) hi] at hj
  rw [plain_add, ← e, ← Nat.add_assoc]
  exact at_cells (h.at hi) _ _ hj
/-- A row of one's own that holds a list. -/
theorem at_own {w : World} {base g n cap : Nat} {ms : List R} (hn : n = ms.length) (h : w.ownsRow base 49 4 (.slice (some ⟨g, 0, none⟩) n cap) n (flat ms)) (i : Nat) (hi : i < ms.length) : At w g (i * 4) (ms.getD i R.zero) := by
  have hc : ∀ j, j < 4 → ∀ u, (ms.getD i R.zero).cells[j]? = some u → w.cell? ⟨g, i * 4 + j, none⟩ = some u := by
    intro j hj u hu
    have := h.cells (g := g) rfl (i * 4 + j) u (by rw [flat_get ms i j hj hi]; exact hu)
    rw [plain_add, Nat.zero_add] at this
    exact this
  exact ⟨hc 0 (by omega) _ rfl, hc 1 (by omega) _ rfl, hc 2 (by omega) _ rfl, hc 3 (by omega) _ rfl⟩

/-- One laid at an address. -/
def put (w : World) (g o : Nat) (m : R) : World := (((w.setCell ⟨g, o, none⟩ (.int .i64 m.fr)).setCell ⟨g, o + 1, none⟩ (.int .i64 m.tt)).setCell ⟨g, o + 2, none⟩ (.int .i64 m.ti)).setCell ⟨g, o + 3, none⟩ (.string m.bs)
theorem put_below {B : Nat} {w0 w : World} {g o : Nat} {m : R} (h : Below B w0 w) (hg : B ≤ g) : Below B w0 (put w g o m) := by
  unfold put
  exact (((h.setCell (p := ⟨g, o, none⟩) hg _).setCell (p := ⟨g, o + 1, none⟩) hg _).setCell (p := ⟨g, o + 2, none⟩) hg _).setCell (p := ⟨g, o + 3, none⟩) hg _
theorem put_size (w : World) (g o : Nat) (m : R) : (put w g o m).heap.size = w.heap.size := by simp [put, World.setCell]
theorem put_frozen (w : World) (g o : Nat) (m : R) (a : Addr) : (put w g o m).frozen? a = w.frozen? a := by
  unfold put; rw [World.frozen?_setCell, World.frozen?_setCell, World.frozen?_setCell, World.frozen?_setCell]
theorem put_far (w : World) (g o : Nat) (m : R) {b q : Nat} (h : b ≠ g ∨ q < o ∨ o + 4 ≤ q) : (put w g o m).cell? ⟨b, q, none⟩ = w.cell? ⟨b, q, none⟩ := by
  unfold put
  rw [World.cell?_setCell_other _ _ _ _ (by intro e; cases e <;> omega), World.cell?_setCell_other _ _ _ _ (by intro e; cases e <;> omega), World.cell?_setCell_other _ _ _ _ (by intro e; cases e <;> omega), World.cell?_setCell_other _ _ _ _ (by intro e; cases e <;> omega)]
theorem put_at (w : World) (g o : Nat) (m : R) (h : ∀ k, k < 4 → (w.cell? ⟨g, o + k, none⟩).isSome = true) : At (put w g o m) g o m := by
  obtain ⟨v0, h0⟩ := Option.isSome_iff_exists.1 (h 0 (by omega))
  obtain ⟨v1, h1⟩ := Option.isSome_iff_exists.1 (h 1 (by omega))
  obtain ⟨v2, h2⟩ := Option.isSome_iff_exists.1 (h 2 (by omega))
  obtain ⟨v3, h3⟩ := Option.isSome_iff_exists.1 (h 3 (by omega))
  rw [Nat.add_zero] at h0
  have n : ∀ {w : World} {v : Value} {a b : Nat}, a ≠ b → (w.setCell ⟨g, a, none⟩ v).cell? ⟨g, b, none⟩ = w.cell? ⟨g, b, none⟩ := fun {w v a b} e => World.cell?_setCell_other _ _ _ _ (by intro h; cases h; exact e rfl)
  unfold put
  refine ⟨?_, ?_, ?_, ?_⟩
  · rw [n (by omega), n (by omega), n (by omega), World.cell?_setCell_same _ _ _ h0]
  · rw [n (by omega), n (by omega), World.cell?_setCell_same _ _ _ ((n (by omega)).trans h1)]
  · rw [n (by omega), World.cell?_setCell_same _ _ _ ((n (by omega)).trans ((n (by omega)).trans h2))]
  · rw [World.cell?_setCell_same _ _ _ ((n (by omega)).trans ((n (by omega)).trans ((n (by omega)).trans h3)))]
theorem put_some (w : World) (g o : Nat) (m : R) (b q : Nat) (h : (w.cell? ⟨b, q, none⟩).isSome = true) : ((put w g o m).cell? ⟨b, q, none⟩).isSome = true := by
  obtain ⟨v, y0⟩ := Option.isSome_iff_exists.1 h
  unfold put
  obtain ⟨v1, y1⟩ := cell?_setCell_some (p := ⟨g, o, none⟩) (x := .int .i64 m.fr) y0
  obtain ⟨v2, y2⟩ := cell?_setCell_some (p := ⟨g, o + 1, none⟩) (x := .int .i64 m.tt) y1
  obtain ⟨v3, y3⟩ := cell?_setCell_some (p := ⟨g, o + 2, none⟩) (x := .int .i64 m.ti) y2
  obtain ⟨v4, y4⟩ := cell?_setCell_some (p := ⟨g, o + 3, none⟩) (x := .string m.bs) y3
  rw [y4]; rfl
/-- The first j stand at the head of block g, whose n times 4 cells may be written. -/
def Upto (w : World) (g n j : Nat) (ms : List R) : Prop :=
  (∀ i, i < j → At w g (i * 4) (ms.getD i R.zero)) ∧ ∀ i, i < n * 4 → (w.cell? ⟨g, i, none⟩).isSome = true ∧ w.frozen? ⟨g, i, none⟩ = false
theorem Upto.step {w : World} {g n j : Nat} {ms : List R} (h : Upto w g n j ms) (hj : j < n) : Upto (put w g (j * 4) (ms.getD j R.zero)) g n (j + 1) ms := by
  refine ⟨fun i hi => ?_, fun i hi => ⟨put_some _ _ _ _ _ _ (h.2 i hi).1, by rw [put_frozen]; exact (h.2 i hi).2⟩⟩
  by_cases e : i = j
  · subst e
    exact put_at _ _ _ _ (fun k hk => (h.2 _ (by omega)).1)
  · obtain ⟨h0, h1, h2, h3⟩ := h.1 i (by omega)
    exact ⟨(put_far _ _ _ _ (by omega)).trans h0, (put_far _ _ _ _ (by omega)).trans h1, (put_far _ _ _ _ (by omega)).trans h2, (put_far _ _ _ _ (by omega)).trans h3⟩
theorem Upto.below {w w' : World} {g n j : Nat} {ms : List R} (h : Upto w g n j ms) (hb : Below w.heap.size w w') (hg : g < w.heap.size) : Upto w' g n j ms :=
  ⟨fun i hi => (h.1 i hi).below hb, fun i hi => ⟨by rw [hb.cell (p := ⟨g, i, none⟩) hg]; exact (h.2 i hi).1, by rw [hb.frozen (p := ⟨g, i, none⟩) hg]; exact (h.2 i hi).2⟩⟩
theorem Upto.of_block {w w' : World} {g n j : Nat} {ms : List R} (h : Upto w g n j ms) (hb : w'.heap[g]? = w.heap[g]?) : Upto w' g n j ms := by
  have c : ∀ q, w'.cell? ⟨g, q, none⟩ = w.cell? ⟨g, q, none⟩ := fun q => World.cell?_of_block (a := ⟨g, q, none⟩) hb
  have f : ∀ q, w'.frozen? ⟨g, q, none⟩ = w.frozen? ⟨g, q, none⟩ := fun q => World.frozen?_of_block (a := ⟨g, q, none⟩) hb
  refine ⟨fun i hi => ?_, fun i hi => ⟨by rw [c]; exact (h.2 i hi).1, by rw [f]; exact (h.2 i hi).2⟩⟩
  obtain ⟨h0, h1, h2, h3⟩ := h.1 i hi
  exact ⟨(c _).trans h0, (c _).trans h1, (c _).trans h2, (c _).trans h3⟩
theorem rm_of {w : World} {g n : Nat} {ms : List R} (h : Upto w g n ms.length ms) : RM w (some ⟨g, 0, none⟩) ms := .inr ⟨g, 0, rfl, fun i hi => by rw [Nat.zero_add]; exact h.1 i hi⟩
theorem upto_own {w : World} {base g cap n : Nat} {ms : List R} (hn : n = ms.length) (h : w.ownsRow base 49 4 (.slice (some ⟨g, 0, none⟩) n cap) n (flat ms)) : Upto w g n n ms := by
  subst hn
  refine ⟨fun i hi => at_own rfl h i hi, fun i hi => ?_⟩
  obtain ⟨_, ⟨e, _⟩ | ⟨g', cap', cur, e, _, hg, h1, _, h3, _⟩⟩ := h
  · cases e
  · cases e
    have hlt : i < cur.size := by rw [h3]; exact Nat.lt_of_lt_of_le hi (Nat.mul_le_mul_right _ h1)
    refine ⟨?_, ?_⟩
    · simp [World.cell?, hg, hlt]
    · simp [World.frozen?, hg]
/-- A list between two bounds of the heap, in memory that may be written. -/
def Lst (W : World) (a : Option Addr) (ms : List R) (lo hi : Nat) : Prop := ms = [] ∨ ∃ g, a = some ⟨g, 0, none⟩ ∧ lo ≤ g ∧ g < hi ∧ g < W.heap.size ∧ Upto W g ms.length ms.length ms
theorem Lst.rm {W : World} {a : Option Addr} {ms : List R} {lo hi : Nat} (h : Lst W a ms lo hi) : RM W a ms := by
  rcases h with rfl | ⟨g, rfl, _, _, _, hu⟩
  · exact .inl rfl
  · exact rm_of hu
theorem Lst.below {W W' : World} {a : Option Addr} {ms : List R} {lo hi : Nat} (h : Lst W a ms lo hi) (hb : Below W.heap.size W W') : Lst W' a ms lo hi := by
  rcases h with rfl | ⟨g, rfl, h1, h2, h3, hu⟩
  · exact .inl rfl
  · exact .inr ⟨g, rfl, h1, h2, Nat.lt_of_lt_of_le h3 hb.size, hu.below hb h3⟩
theorem Lst.mono {W : World} {a : Option Addr} {ms : List R} {lo hi lo' hi' : Nat} (h : Lst W a ms lo hi) (h1 : lo' ≤ lo) (h2 : hi ≤ hi') : Lst W a ms lo' hi' := by
  rcases h with rfl | ⟨g, rfl, h3, h4, h5, hu⟩
  · exact .inl rfl
  · exact .inr ⟨g, rfl, by omega, by omega, h5, hu⟩
theorem Lst.but {W W' : World} {a : Option Addr} {ms : List R} {lo hi : Nat} {p : Nat → Prop} (h : Lst W a ms lo hi) (hs : W.heap.size ≤ W'.heap.size) (hb : ∀ k, k < W.heap.size → p k → W'.heap[k]? = W.heap[k]?) (hp : ∀ k, lo ≤ k → k < hi → p k) : Lst W' a ms lo hi := by
  rcases h with rfl | ⟨g, rfl, h1, h2, h3, hu⟩
  · exact .inl rfl
  · exact .inr ⟨g, rfl, h1, h2, Nat.lt_of_lt_of_le h3 hs, hu.of_block (hb g h3 (hp g h1 h2))⟩
/-- The same of a value. -/
def LstV (W : World) (v : Value) (ms : List R) (lo hi : Nat) : Prop := ∃ a c, v = .slice a ms.length c ∧ Lst W a ms lo hi
theorem LstV.below {W W' : World} {v : Value} {ms : List R} {lo hi : Nat} (h : LstV W v ms lo hi) (hb : Below W.heap.size W W') : LstV W' v ms lo hi := by
  obtain ⟨a, c, e, hl⟩ := h; exact ⟨a, c, e, hl.below hb⟩
theorem LstV.mono {W : World} {v : Value} {ms : List R} {lo hi lo' hi' : Nat} (h : LstV W v ms lo hi) (h1 : lo' ≤ lo) (h2 : hi ≤ hi') : LstV W v ms lo' hi' := by
  obtain ⟨a, c, e, hl⟩ := h; exact ⟨a, c, e, hl.mono h1 h2⟩
theorem lstV_nil (W : World) (a : Option Addr) (c lo hi : Nat) : LstV W (.slice a 0 c) [] lo hi := ⟨a, c, rfl, .inl rfl⟩
/-- A row of one's own as such a list. -/
theorem lst_own {w : World} {base n : Nat} {v : Value} {ms : List R} (hn : n = ms.length) (h : w.ownsRow base 49 4 v n (flat ms)) : LstV w v ms base w.heap.size := by
  unfold LstV
  have h' := h
  obtain ⟨hl, ⟨rfl, h0⟩ | ⟨g, cap, cur, rfl, hb, hg, _, _, _, _⟩⟩ := h
  · exact ⟨none, 0, by rw [← hn, h0], .inl (List.eq_nil_of_length_eq_zero (by omega))⟩
  · have hlt : g < w.heap.size := by
      rcases Nat.lt_or_ge g w.heap.size with h | h
      · exact h
      · rw [Array.getElem?_eq_none h] at hg; cases hg
    refine ⟨_, cap, by rw [hn], .inr ⟨g, rfl, hb, hlt, hlt, ?_⟩⟩
    have := upto_own hn h'
    rw [hn] at this; exact this


theorem infoR : ∃ i, Tryz.prog.info? 49 = some i ∧ i.zero = some (Value.agg #[.int .i64 0, .int .i64 0, .int .i64 0, .string ByteArray.empty]) ∧ i.size = 4 ∧ i.bytes = 40 := by
  have h : (Tryz.prog.info? 49).map (fun i => (i.zero, i.size, i.bytes)) = some (some (Value.agg #[.int .i64 0, .int .i64 0, .int .i64 0, .string ByteArray.empty]), 4, 40) := by kernel_rfl
  obtain ⟨i, hi, he⟩ := Option.map_eq_some_iff.1 h
  simp only [Prod.mk.injEq] at he
  exact ⟨i, hi, he.1, he.2.1, he.2.2⟩

/-- append of a list to a row of one's own, as a walk meets it. -/
theorem wpList_apS {ops : Array Oper} {rest : List Oper} {o : Oper} {a : Act} {Q : Exit → Act → World → Prop} {w : World} {base : Nat} {v : Value} {xs : List R} (hown : w.ownsRow base 49 4 v xs.length (flat xs)) (g off m c : Nat) (ms : List R) (hm : ms.length = m) (hr : RM w (some ⟨g, off, none⟩) ms) (hlen : xs.length + ms.length ≤ 4194304) (hbase : base ≤ w.heap.size)
    (hgd : o.guard = none) (s x : Operand) (ho : o.op = .call { callee := .builtin .append, args := #[s, x], argTypes := #[30, 30] }) (hs : a.eval s = v) (hx : a.eval x = .slice (some ⟨g, off, none⟩) m c)
    (h : ∀ v' w', w'.ownsRow base 49 4 v' (xs ++ ms).length (flat (xs ++ ms)) → w.grownBy w' v.ownBlock → wpList Tryz.prog ops Q rest (a.put o.dst v') w') : wpList Tryz.prog ops Q (o :: rest) a w := by
  subst hm
  obtain ⟨i0, hi, hz0, hz1, hz2⟩ := infoR
  refine wpList_append_own w hgd s x _ ho base 49 i0 _ 4 40 Tryz.underlying30 hi hz0 hz1 hz2 rfl (by decide) v xs.length (flat xs) hs hown ⟨g, off, none⟩ ms.length c (flat ms) hx (flat_len ms) hr.cells (fun u hu => flat_one_cell hu) (by unfold maxLen; omega) (by omega) hbase (fun v' w' h1 h2 _ => ?_)
  refine h v' w' ?_ h2
  rw [List.length_append, flat_append]; exact h1
theorem rm_new (w : World) (m : R) : RM (w.alloc (.cells #[.int .i64 m.fr, .int .i64 m.tt, .int .i64 m.ti, .string m.bs] 49)) (some ⟨w.heap.size, 0, none⟩) [m] := by
  refine .inr ⟨_, _, rfl, fun i hi => ?_⟩
  obtain rfl : i = 0 := by simp at hi; omega
  refine ⟨?_, ?_, ?_, ?_⟩ <;> simp [World.cell?_alloc_new]
theorem own_empty (w : World) (base : Nat) (hb : base ≤ w.heap.size) : (w.alloc (.cells #[] 49)).ownsRow base 49 4 (.slice (some ⟨w.heap.size, 0, none⟩) 0 0) ([] : List R).length (flat []) := World.ownsRow_made w #[] 0 hb (Nat.zero_le _) (by simp)
theorem own_nil (w : World) (base : Nat) : w.ownsRow base 49 4 (.slice none 0 0) ([] : List R).length (flat []) := World.ownsRow_nil w base _ _
theorem below_own {B : Nat} {w0 w w' : World} {base : Nat} {v : Value} {n : Nat} {xs : List Value} (h : Below B w0 w) (ho : w.ownsRow base 49 4 v n xs) (hg : w.grownBy w' v.ownBlock) (hb : B ≤ base) (hB : B ≤ w.heap.size) : Below B w0 w' :=
  h.grown hg hB (fun k hk => Nat.le_trans hb (ho.lt k hk).1)

set_option maxHeartbeats 1000000 in
theorem toR (fr : Int) (tt : Int) (ti : Int) (bs : ByteArray) (w : World) :
    Calls Tryz.prog 42 #[.agg #[.int .i64 fr, .int .i64 tt, .int .i64 ti, .string bs]] w fun e w' => e = .returned (Value.agg #[.int .i64 fr, .int .i64 tt, .int .i64 ti, .string bs]) ∧ Below w.heap.size w w' := by
  go_enter Tryz.func42, Tryz.ntmps42
  go_wp2
  refine bodyPost_ret (v := .agg #[.int .i64 fr, .int .i64 tt, .int .i64 ti, .string bs]) (by simp [results, Tryz.results42, go_sem]) rfl ⟨rfl, ?_⟩
  repeat (first | exact Below.refl _ _ | refine Below.setCell ?_ (by simp <;> omega) _ | refine Below.alloc ?_ (by simp <;> omega) _)

set_option maxHeartbeats 2000000 in
theorem toS (a : Option Addr) (ms : List R) (cap : Nat) (w : World) (hm : ms.length ≤ 1048576) (hr : RM w a ms) :
    Calls Tryz.prog 22 #[.slice a ms.length cap] w fun e w' => ∃ g, e = .returned (.slice (some ⟨g, 0, none⟩) ms.length ms.length) ∧ Below w.heap.size w w' ∧ w.heap.size ≤ g ∧ g < w'.heap.size ∧ Upto w' g ms.length ms.length ms := by
  obtain ⟨i0, hi, hz0, hz1, hz2⟩ := infoR
  have hmk := run_make (P := Tryz.prog) w 30 49 i0 _ Tryz.underlying30 hi hz0 .i64 .i64 (ms.length : Int) (ms.length : Int) (by omega) (by omega) (by rw [hz2]; omega) (by omega)
  have HR := hide hr
  clear hr
  generalize hN : ms.length = n at *
  have HN := hide hN
  clear hN
  rw [Int.toNat_natCast, hz1] at hmk
  have hcs : (madeCells (Value.agg #[.int .i64 0, .int .i64 0, .int .i64 0, .string ByteArray.empty]).cells (n * 4)).size = n * 4 := size_madeCells _ _
  generalize madeCells (Value.agg #[.int .i64 0, .int .i64 0, .int .i64 0, .string ByteArray.empty]).cells (n * 4) = cs at *
  have hup0 : Upto (w.alloc (.cells cs 49)) w.heap.size n 0 ms := by
    refine ⟨fun i hi => by omega, fun i hi => ⟨?_, by simp⟩⟩
    rw [World.cell?_alloc_new, Array.getElem?_eq_getElem (by omega)]; rfl
  have HU := hide hup0
  clear hup0 hcs hi hz0 hz1 hz2
  go_enter Tryz.func22, Tryz.ntmps22
  go_wp2
  go_loopw [4] (fun i wr => ∃ j : Nat, j ≤ n ∧ i = .int .i64 j ∧ Hid (w.heap.size < wr.heap.size) ∧ Hid (Below w.heap.size w wr) ∧ Hid (Upto wr w.heap.size n j ms)) (fun i _ => n - (intOf i).toNat)
  case atStart => exact ⟨0, by omega, rfl, hide (by simp), hide ((Below.refl _ _).alloc (Nat.le_refl _) _), HU⟩
  case round =>
    obtain ⟨j, hj, rfl, hsz, hb, hu⟩ := hrel
    by_cases hlt : (j : Int) < (n : Int)
    · have k0 : (0 : Int) ≤ (j : Int) := by omega
      rcases (unhide HR).below (unhide hb) with e0 | ⟨g, off, rfl, hc⟩
      · exfalso
        have := unhide HN
        rw [e0] at this
        simp at this
        omega
      have hlen : j < ms.length := by rw [unhide HN]; omega
      obtain ⟨c0, c1, c2, c3⟩ := hc j hlen
      have hstep : Hid (∀ w1, Below wr.heap.size wr w1 → Upto (put w1 w.heap.size (j * 4) (ms.getD j R.zero)) w.heap.size n (j + 1) ms) := fun w1 h1 => ((unhide hu).below h1 (unhide hsz)).step (by omega)
      have hsome : Hid (∀ w1, Below wr.heap.size wr w1 → ∀ k, k < 4 → (w1.cell? ⟨w.heap.size, j * 4 + k, none⟩).isSome = true ∧ w1.frozen? ⟨w.heap.size, j * 4 + k, none⟩ = false) := fun w1 h1 k hk => ((unhide hu).below h1 (unhide hsz)).2 (j * 4 + k) (by omega)
      generalize ms.getD j R.zero = m at *
      obtain ⟨fr, tt, ti, bs⟩ := m
      dsimp only at c0 c1 c2 c3
      clear hc
      go_wp2_with fail
      refine (toR fr tt ti bs _).mono ?_
      rintro e w1 ⟨rfl, b1⟩
      clear c0 c1 c2 c3
      obtain ⟨v0, x0⟩ := Option.isSome_iff_exists.1 (unhide hsome w1 b1 0 (by omega)).1
      obtain ⟨v1, x1⟩ := Option.isSome_iff_exists.1 (unhide hsome w1 b1 1 (by omega)).1
      obtain ⟨v2, x2⟩ := Option.isSome_iff_exists.1 (unhide hsome w1 b1 2 (by omega)).1
      obtain ⟨v3, x3⟩ := Option.isSome_iff_exists.1 (unhide hsome w1 b1 3 (by omega)).1
      have y0 := (unhide hsome w1 b1 0 (by omega)).2
      have y1 := (unhide hsome w1 b1 1 (by omega)).2
      have y2 := (unhide hsome w1 b1 2 (by omega)).2
      have y3 := (unhide hsome w1 b1 3 (by omega)).2
      rw [Nat.add_zero] at x0 y0
      have hs1 := hide (unhide hstep w1 b1)
      have hb1 := hide ((unhide hb).trans (b1.mono (unhide hb).size))
      have hz1 := hide (Nat.lt_of_lt_of_le (unhide hsz) b1.size)
      clear hsome hstep b1
      go_wp2_with fail
      exact ⟨⟨j + 1, by omega, by go_num, hide (Nat.lt_of_lt_of_le (unhide hz1) (Nat.le_of_eq (put_size w1 w.heap.size (j * 4) ⟨fr, tt, ti, bs⟩).symm)), hide (put_below (m := ⟨fr, tt, ti, bs⟩) (unhide hb1) (Nat.le_refl _)), hs1⟩, by simp [intOf]; omega⟩
    · obtain rfl : j = n := by omega
      go_wp2
      go_ret
      exact ⟨w.heap.size, rfl, unhide hb, Nat.le_refl _, unhide hsz, unhide hu⟩

set_option maxHeartbeats 1000000 in
theorem eqR (fr : Int) (tt : Int) (ti : Int) (bs : ByteArray) (w : World) :
    Calls Tryz.prog 50 #[.agg #[.int .i64 fr, .int .i64 tt, .int .i64 ti, .string bs], .agg #[.int .i64 fr, .int .i64 tt, .int .i64 ti, .string bs]] w
      fun e w' => e = .returned (.bool true) ∧ Below w.heap.size w w' := by
  go_enter Tryz.func50, Tryz.ntmps50
  go_wp2
  go_ret
  repeat (first | exact ⟨rfl, Below.refl _ _⟩ | refine ⟨rfl, ?_⟩ | exact Below.refl _ _ | refine Below.alloc ?_ (by simp <;> omega) _)

theorem sAt {w : World} {g g' o o' : Nat} {fr tt ti : Int} {bs : ByteArray} (h : At w g o ⟨fr, tt, ti, bs⟩) (h' : At w g' o' ⟨fr, tt, ti, bs⟩) :
    (At w g o ⟨fr, tt, ti, bs⟩ ∧ At w g' o' ⟨fr, tt, ti, bs⟩) ∧ w.cell? ⟨g, o, none⟩ = some (.int .i64 fr) ∧ w.cell? ⟨g, o + 1, none⟩ = some (.int .i64 tt) ∧ w.cell? ⟨g, o + 2, none⟩ = some (.int .i64 ti) ∧ w.cell? ⟨g, o + 3, none⟩ = some (.string bs) ∧ w.cell? ⟨g', o', none⟩ = some (.int .i64 fr) ∧ w.cell? ⟨g', o' + 1, none⟩ = some (.int .i64 tt) ∧ w.cell? ⟨g', o' + 2, none⟩ = some (.int .i64 ti) ∧ w.cell? ⟨g', o' + 3, none⟩ = some (.string bs) := ⟨⟨h, h'⟩, h.1, h.2.1, h.2.2.1, h.2.2.2, h'⟩

set_option maxRecDepth 100000 in
set_option maxHeartbeats 4000000 in
theorem eqS (a b : Option Addr) (ms : List R) (ca cb : Nat) (w : World) (hm : ms.length ≤ 1048576) (hr : RM w a ms) (hr' : RM w b ms) :
    Calls Tryz.prog 27 #[.slice a ms.length ca, .slice b ms.length cb] w fun e w' => e = .returned (.bool true) ∧ Below w.heap.size w w' := by
  have HR := hide hr
  have HR' := hide hr'
  clear hr hr'
  generalize hN : ms.length = n at *
  have HN := hide hN
  clear hN
  go_enter Tryz.func27, Tryz.ntmps27
  go_wp2
  go_loopw [5] (fun i wr => ∃ j : Nat, j ≤ n ∧ i = .int .i64 j ∧ Hid (Below w.heap.size w wr)) (fun i _ => n - (intOf i).toNat)
  case atStart => exact ⟨0, by omega, rfl, hide (Below.refl _ _)⟩
  case round =>
    obtain ⟨j, hj, rfl, hbl⟩ := hrel
    by_cases hlt : (j : Int) < (n : Int)
    · have k0 : (0 : Int) ≤ (j : Int) := by omega
      have hlen : j < ms.length := by rw [unhide HN]; omega
      rcases (unhide HR).below (by exact (unhide hbl)) with e0 | ⟨g, off, rfl, hc⟩
      · exfalso; rw [e0] at hlen; simp at hlen
      rcases (unhide HR').below (by exact (unhide hbl)) with e0 | ⟨g', off', rfl, hc'⟩
      · exfalso; rw [e0] at hlen; simp at hlen
      have hA := hc j hlen
      have hA' := hc' j hlen
      clear hc hc'
      generalize ms.getD j R.zero = m at *
      obtain ⟨fr, tt, ti, bs⟩ := m
      go_wp2_with fail
      go_region_held3 (fun w' => (At w' g (off + j * 4) ⟨fr, tt, ti, bs⟩ ∧ At w' g' (off' + j * 4) ⟨fr, tt, ti, bs⟩) ∧ w'.cell? ⟨g, off + j * 4, none⟩ = some (.int .i64 fr) ∧ w'.cell? ⟨g, off + j * 4 + 1, none⟩ = some (.int .i64 tt) ∧ w'.cell? ⟨g, off + j * 4 + 2, none⟩ = some (.int .i64 ti) ∧ w'.cell? ⟨g, off + j * 4 + 3, none⟩ = some (.string bs) ∧ w'.cell? ⟨g', off' + j * 4, none⟩ = some (.int .i64 fr) ∧ w'.cell? ⟨g', off' + j * 4 + 1, none⟩ = some (.int .i64 tt) ∧ w'.cell? ⟨g', off' + j * 4 + 2, none⟩ = some (.int .i64 ti) ∧ w'.cell? ⟨g', off' + j * 4 + 3, none⟩ = some (.string bs))
        ((go_split_ands; exact sAt (by first | with_reducible assumption | (with_reducible refine At.drew ?_; with_reducible assumption) | (exact At.below (by with_reducible assumption) b1)) (by first | with_reducible assumption | (with_reducible refine At.drew ?_; with_reducible assumption) | (exact At.below (by with_reducible assumption) b1))))
        (first | (go_at_call 50; refine (eqR fr tt ti bs _).mono ?_; rintro e w1 ⟨rfl, b1⟩))
      have hb1 := hide ((unhide hbl).drew.trans (b1.mono (by show w.heap.size ≤ wr.heap.size; exact (unhide hbl).size)))
      go_wp2_with fail
      go_roundw
      case rel => exact ⟨j + 1, by omega, by go_num, hb1⟩
      case measure => simp [intOf]; omega
    · go_wp2
      go_ret
      exact ⟨rfl, unhide hbl⟩

theorem cellsR : Tryz.prog.cellsOf 69 = 4 := by kernel_rfl
theorem cells_int : Tryz.prog.cellsOf 3 = 1 := by kernel_rfl
theorem cells_str : Tryz.prog.cellsOf 9 = 1 := by kernel_rfl
theorem listR {α : Type} {l : List α} (h : l.length = 4) : ∃ c0 c1 c2 c3, l = [c0, c1, c2, c3] := by
  match l, h with
  | [c0, c1, c2, c3], _ => exact ⟨c0, c1, c2, c3, rfl⟩
/-- The cells that read as one. -/
theorem open_one {H : Type} {enc : TypeId × Value → H} {W : World} {base n : Nat} {spare : Nat → Bool} {held : Bool} {c : List Value} {y : DataW H × List MemPlace} (hl : c.length = 4)
    (h : DataW.trod enc Tryz.prog W base spare held n 69 c = some y) : ∃ m : R, c = m.cells ∧ m.bs.size ≤ maxLen := by
  obtain ⟨c0, c1, c2, c3, rfl⟩ := listR hl
  obtain ⟨xs, n, _, _, _, hlen, hf⟩ := DataW.trod_struct Tryz.underlying69 h
  obtain ⟨x0, x1, x2, x3, rfl⟩ := listR hlen
  have k0 := hf 0 _ rfl
  have k1 := hf 1 _ rfl
  have k2 := hf 2 _ rfl
  have k3 := hf 3 _ rfl
  simp [cells_int, cells_str] at k0 k1 k2 k3
  obtain ⟨a0, e0, _, _⟩ := DataW.trod_int Tryz.underlying3 k0
  obtain ⟨a1, e1, _, _⟩ := DataW.trod_int Tryz.underlying3 k1
  obtain ⟨a2, e2, _, _⟩ := DataW.trod_int Tryz.underlying3 k2
  obtain ⟨a3, e3, _, z3⟩ := DataW.trod_string Tryz.underlying9 k3
  simp at e0 e1 e2 e3
  subst e0 e1 e2 e3
  exact ⟨⟨a0, a1, a2, a3⟩, rfl, z3⟩
/-- A slice that came in: what it reads as. -/
theorem open_cell {H : Type} {enc : TypeId × Value → H} {W : World} {v : Value} {fuel : Nat} {y : DataW H × List MemPlace}
    (hf : DataW.trod enc Tryz.prog W 0 (fun _ => true) true fuel 24 [v] = some y) : ∃ a len cap, ∃ ms : List R, v = .slice a len cap ∧ ms.length = len ∧ len ≤ maxLen ∧ RM W a ms ∧ ∀ i, i < ms.length → (ms.getD i R.zero).bs.size ≤ maxLen := by
  rcases Deep.open_slice Tryz.underlying24 hf with ⟨hcs, _⟩ | ⟨x, len, cap, m, n, D, Pl, hcs, _, hl, hm, hmm, _, hx⟩
  · simp only [List.cons.injEq, and_true] at hcs
    subst hcs
    exact ⟨none, 0, 0, [], rfl, rfl, Nat.zero_le _, .inl rfl, fun i hi => absurd hi (Nat.not_lt_zero i)⟩
  · simp only [List.cons.injEq, and_true] at hcs
    subst hcs
    simp at hmm
    subst hmm
    rw [cellsR] at hx
    by_cases h0 : len = 0
    · subst h0; exact ⟨_, _, _, [], rfl, rfl, Nat.zero_le _, .inl rfl, fun i hi => absurd hi (Nat.not_lt_zero i)⟩
    obtain ⟨b, off, spot⟩ := x
    have hsp : spot = none := by
      obtain ⟨cs', h1, _⟩ := hx 0 (by omega)
      obtain ⟨_, hlen, hc⟩ := World.cells?_some h1
      have h2 := hc 0 (by omega)
      rw [List.getElem?_eq_getElem (by omega)] at h2
      simpa [Addr.add] using World.cell?_spot h2
    subst hsp
    have hex : ∀ i, i < len → ∃ m : R, At W b (off + i * 4) m ∧ m.bs.size ≤ maxLen := by
      intro i hi
      obtain ⟨cs', h1, h2⟩ := hx i (by omega)
      obtain ⟨_, hlen, hc⟩ := World.cells?_some h1
      obtain ⟨m, rfl, hzm⟩ := open_one hlen h2
      have q0 := hc 0 (by omega)
      have q1 := hc 1 (by omega)
      have q2 := hc 2 (by omega)
      have q3 := hc 3 (by omega)
      rw [plain_add, plain_add] at q0 q1 q2 q3
      exact ⟨m, ⟨q0, q1, q2, q3⟩, hzm⟩
    have hin : Inhabited R := ⟨R.zero⟩
    obtain ⟨V, hV⟩ := Deep.choose_lt hex
    refine ⟨_, _, _, (List.range len).map V, rfl, by simp, Nat.le_trans hl hm, .inr ⟨b, off, rfl, fun i hi => ?_⟩, fun i hi => ?_⟩
    all_goals
    have hi' : i < len := by simpa using hi
    have e : ((List.range len).map V).getD i R.zero = V i := by
      rw [List.getD_eq_getElem?_getD, List.getElem?_map, List.getElem?_range hi']; rfl
    rw [e]
    first | exact (hV i hi').1 | exact (hV i hi').2
theorem open_list {H : Type} {enc : TypeId × Value → H} {W : World} {a : Option Addr} {len cap : Nat} {d : DataW H} {p : List MemPlace}
    (h : DataW.Trod enc Tryz.prog W 0 (fun _ => true) true 24 (.slice a len cap) d p) : ∃ ms : List R, ms.length = len ∧ len ≤ maxLen ∧ RM W a ms ∧ ∀ i, i < ms.length → (ms.getD i R.zero).bs.size ≤ maxLen := by
  obtain ⟨fuel, hf⟩ := h
  obtain ⟨a', len', cap', ms, e, h1, h2, h3⟩ := open_cell (v := .slice a len cap) hf
  cases e
  exact ⟨ms, h1, h2, h3⟩
end Fm
end Go.Proofs.YthfcigfgpimimaaGreat
