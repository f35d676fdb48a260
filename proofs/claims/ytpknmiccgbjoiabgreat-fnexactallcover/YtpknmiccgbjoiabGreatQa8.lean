/-
  Of the texts NetZ, NetO, NetE, ExAllCoverW: what this claim needs of them. (put together by mkprune.py)
-/
import Derived.Test.YtpknmiccgbjoiabGreatQa7
import Derived.Deep.DeepHandedRow
namespace Go.Proofs.YtpknmiccgbjoiabGreat
open Go.ChangeShapes Go.WideShapes Go.ChangeAt Go.RowKit
set_option linter.unusedVariables false
set_option linter.unusedSimpArgs false
set_option maxRecDepth 100000
attribute [local go_sem ↓] Go.wp_at_zero Go.wp_at_succ
namespace Nt
open W1 Rt
/-- How many bytes the frames have. -/
def totF : List Fm.R → Int
  | [] => 0
  | m :: r => (m.bs.size : Int) + totF r
theorem totF_nonneg : ∀ fs : List Fm.R, 0 ≤ totF fs
  | [] => Int.le_refl _
  | m :: r => by have := totF_nonneg r; unfold totF; omega
theorem totF_append (a b : List Fm.R) : totF (a ++ b) = totF a + totF b := by
  induction a with
  | nil => simp [totF]
  | cons m r ih => simp only [List.cons_append, totF, ih]; omega
theorem totF_take {fs : List Fm.R} {j : Nat} (h : j < fs.length) : totF (fs.take (j + 1)) = totF (fs.take j) + ((fs.getD j Fm.R.zero).bs.size : Int) := by
  rw [take_snoc Fm.R.zero h, totF_append]; simp [totF]
set_option maxHeartbeats 8000000 in
theorem szNS (a : Option Addr) (ms : List Rm) (ps : List Pl) (cap : Nat) (L : Int) (w : World) (hL : 0 ≤ L) (hL1 : L ≤ 1048576) (hm : ms.length ≤ maxLen) (hs : ∀ i, i < ms.length → Sx (ms.getD i Rm.zero)) (hr : NR w a ms ps) :
    Calls Tryz.prog 25 #[.slice a ms.length cap, .int .i64 L] w fun e w' => ∃ r : Int, e = .returned (.int .i64 r) ∧ Below w.heap.size w w' ∧ (r < 0 ∨ (0 ≤ r ∧ r = L - ms.length - tot ms)) := by
  unfold maxLen at hm
  have HR := hide hr
  have HS := hide hs
  clear hr hs
  obtain ⟨n, hN⟩ : ∃ n, ms.length = n := ⟨_, rfl⟩
  rw [hN] at hm ⊢
  have HN := hide hN
  have HTT := hide (show tot (ms.take ms.length) = tot ms by rw [List.take_length])
  rw [hN] at HTT
  clear hN
  obtain ⟨T, hT⟩ : ∃ T, tot ms = T := ⟨_, rfl⟩
  rw [hT] at HTT ⊢
  have HT := hide hT
  clear hT
  by_cases h0 : L - n < 0
  · go_enter Tryz.func25, Tryz.ntmps25
    go_wp2
    go_ret
    exact ⟨_, rfl, Below.refl _ _, .inl (by omega)⟩
  obtain ⟨M, hM⟩ : ∃ M, L - (n : Int) = M := ⟨_, rfl⟩
  have HM := hide hM
  have hM0 : 0 ≤ M := by omega
  have hM1 : M ≤ 1048576 := by omega
  have h0' : ¬ M < 0 := by omega
  clear h0
  go_enter Tryz.func25, Tryz.ntmps25
  go_wp2_with fail
  try rw [hM]
  go_wp2_with fail
  clear hM h0'
  go_loopw [1, 5] (fun r i wr => ∃ j : Nat, j ≤ n ∧ i = .int .i64 j ∧ ∃ q : Int, r = .int .i64 q ∧ 0 ≤ q ∧ q ≤ 1048576 ∧ Hid (q = M - tot (ms.take j)) ∧ Hid (Below w.heap.size w wr)) (fun _ i _ => n - (intOf i).toNat)
  case atStart => exact ⟨0, by omega, rfl, M, rfl, hM0, hM1, hide (by simp [tot]), hide (Below.refl _ _)⟩
  case round =>
    obtain ⟨j, hj, rfl, q, rfl, hq0, hq1, hq, hbl⟩ := hrel
    by_cases hlt : (j : Int) < (n : Int)
    · have k0 : (0 : Int) ≤ (j : Int) := by omega
      have hlen : j < ms.length := by rw [unhide HN]; omega
      obtain ⟨g, off, rfl, hA, hD⟩ := ((unhide HR).below (unhide hbl)).at hlen
      have HA := hide hA
      have HX := hide ((unhide HS) j hlen)
      have HTK := hide (tot_take hlen)
      clear hlen hA hD
      generalize ms.getD j Rm.zero = m at *
      generalize ps.getD j Pl.zero = p at *
      go_wp2_with (refine loadW _ rfl rfl (unhide HA) rfl ?_)
      refine (szN m p q _ hq0 hq1 (unhide HX)).mono ?_
      rintro e w1 ⟨r, rfl, b1, hr⟩
      have HB1 := hide ((unhide hbl).trans (b1.mono (unhide hbl).size))
      have hc := cnt_nonneg m
      rcases hr with hr | ⟨hr0, hr1⟩
      · clear b1 HA HX HTK hc
        go_wp2_with fail
        go_ret
        exact ⟨_, rfl, unhide HB1, .inl (by omega)⟩
      · have HQ : Hid (r = M - tot (ms.take (j + 1))) := hide (by have := unhide hq; have := unhide HTK; omega)
        have hrn : ¬ r < 0 := by omega
        have hrm : r ≤ 1048576 := by omega
        clear b1 HA HX HTK hc hr1 hq
        go_wp2_with fail
        go_roundw
        case rel => exact ⟨j + 1, by omega, by go_num, r, rfl, hr0, hrm, HQ, HB1⟩
        case measure => simp [intOf]; omega
    · obtain rfl : j = n := by omega
      go_wp2_with fail
      go_ret
      exact ⟨_, rfl, unhide hbl, .inr ⟨hq0, by have := unhide hq; have := unhide HTT; have := unhide HM; omega⟩⟩
set_option maxHeartbeats 1000000 in
theorem szF (fr tt ti : Int) (bs : ByteArray) (L : Int) (w : World) (hL : 0 ≤ L) (hL1 : L ≤ 1048576) (hz : bs.size ≤ maxLen) :
    Calls Tryz.prog 57 #[.agg #[.int .i64 fr, .int .i64 tt, .int .i64 ti, .string bs], .int .i64 L] w fun e w' => ∃ r : Int, e = .returned (.int .i64 r) ∧ Below w.heap.size w w' ∧ (r < 0 ∨ (0 ≤ r ∧ r = L - bs.size)) := by
  unfold maxLen at hz
  by_cases h0 : L - bs.size < 0
  all_goals
    go_enter Tryz.func57, Tryz.ntmps57
    go_wp2
    go_ret
  · exact ⟨_, rfl, (Below.refl _ _).alloc (Nat.le_refl _) _, .inl (by omega)⟩
  · exact ⟨_, rfl, (Below.refl _ _).alloc (Nat.le_refl _) _, .inr ⟨by omega, rfl⟩⟩
set_option maxHeartbeats 8000000 in
theorem szFS (a : Option Addr) (fs : List Fm.R) (cap : Nat) (L : Int) (w : World) (hL : 0 ≤ L) (hL1 : L ≤ 1048576) (hm : fs.length ≤ maxLen) (hs : ∀ i, i < fs.length → (fs.getD i Fm.R.zero).bs.size ≤ maxLen) (hr : Fm.RM w a fs) :
    Calls Tryz.prog 27 #[.slice a fs.length cap, .int .i64 L] w fun e w' => ∃ r : Int, e = .returned (.int .i64 r) ∧ Below w.heap.size w w' ∧ (r < 0 ∨ (0 ≤ r ∧ r = L - fs.length - totF fs)) := by
  unfold maxLen at hm
  have HR := hide hr
  have HS := hide hs
  clear hr hs
  obtain ⟨n, hN⟩ : ∃ n, fs.length = n := ⟨_, rfl⟩
  rw [hN] at hm ⊢
  have HN := hide hN
  have HTT := hide (show totF (fs.take fs.length) = totF fs by rw [List.take_length])
  rw [hN] at HTT
  clear hN
  obtain ⟨T, hT⟩ : ∃ T, totF fs = T := ⟨_, rfl⟩
  rw [hT] at HTT ⊢
  have HT := hide hT
  clear hT
  by_cases h0 : L - n < 0
  · go_enter Tryz.func27, Tryz.ntmps27
    go_wp2
    go_ret
    exact ⟨_, rfl, Below.refl _ _, .inl (by omega)⟩
  obtain ⟨M, hM⟩ : ∃ M, L - (n : Int) = M := ⟨_, rfl⟩
  have HM := hide hM
  have hM0 : 0 ≤ M := by omega
  have hM1 : M ≤ 1048576 := by omega
  have h0' : ¬ M < 0 := by omega
  clear h0
  go_enter Tryz.func27, Tryz.ntmps27
  go_wp2_with fail
  try rw [hM]
  go_wp2_with fail
  clear hM h0'
  go_loopw [1, 5] (fun r i wr => ∃ j : Nat, j ≤ n ∧ i = .int .i64 j ∧ ∃ q : Int, r = .int .i64 q ∧ 0 ≤ q ∧ q ≤ 1048576 ∧ Hid (q = M - totF (fs.take j)) ∧ Hid (Below w.heap.size w wr)) (fun _ i _ => n - (intOf i).toNat)
  case atStart => exact ⟨0, by omega, rfl, M, rfl, hM0, hM1, hide (by simp [totF]), hide (Below.refl _ _)⟩
  case round =>
    obtain ⟨j, hj, rfl, q, rfl, hq0, hq1, hq, hbl⟩ := hrel
    by_cases hlt : (j : Int) < (n : Int)
    · have k0 : (0 : Int) ≤ (j : Int) := by omega
      have hlen : j < fs.length := by rw [unhide HN]; omega
      rcases (unhide HR).below (by exact (unhide hbl)) with e0 | ⟨g, off, rfl, hc⟩
      · exfalso; rw [e0] at hlen; simp at hlen
      have hA := hc j hlen
      have HX := hide ((unhide HS) j hlen)
      have HTK := hide (totF_take hlen)
      clear hlen hc
      generalize fs.getD j Fm.R.zero = m at *
      obtain ⟨fr, tt, ti, bs⟩ := m
      obtain ⟨c0, c1, c2, c3⟩ := hA
      dsimp only at c0 c1 c2 c3 HX HTK
      go_wp2_with fail
      refine (szF fr tt ti bs q _ hq0 hq1 (unhide HX)).mono ?_
      rintro e w1 ⟨r, rfl, b1, hr⟩
      clear c0 c1 c2 c3
      have HB1 := hide ((unhide hbl).trans (b1.mono (unhide hbl).size))
      rcases hr with hr | ⟨hr0, hr1⟩
      · clear b1 HX HTK
        go_wp2_with fail
        go_ret
        exact ⟨_, rfl, unhide HB1, .inl (by omega)⟩
      · have HQ : Hid (r = M - totF (fs.take (j + 1))) := hide (by have := unhide hq; have := unhide HTK; omega)
        have hrn : ¬ r < 0 := by omega
        have hrm : r ≤ 1048576 := by omega
        clear b1 HX HTK hr1 hq
        go_wp2_with fail
        go_roundw
        case rel => exact ⟨j + 1, by omega, by go_num, r, rfl, hr0, hrm, HQ, HB1⟩
        case measure => simp [intOf]; omega
    · obtain rfl : j = n := by omega
      go_wp2_with fail
      go_ret
      exact ⟨_, rfl, unhide hbl, .inr ⟨hq0, by have := unhide hq; have := unhide HTT; have := unhide HM; omega⟩⟩
set_option maxHeartbeats 1000000 in
theorem szI (a : Option Addr) (n cap : Nat) (L : Int) (w : World) (hL : 0 ≤ L) (hL1 : L ≤ 1048576) (hm : n ≤ maxLen) :
    Calls Tryz.prog 26 #[.slice a n cap, .int .i64 L] w fun e w' => ∃ r : Int, e = .returned (.int .i64 r) ∧ w' = w ∧ (r < 0 ∨ (0 ≤ r ∧ r = L - n)) := by
  unfold maxLen at hm
  by_cases h0 : L - n < 0
  all_goals
    go_enter Tryz.func26, Tryz.ntmps26
    go_wp2
    go_ret
  · exact ⟨_, rfl, rfl, .inl (by omega)⟩
  · exact ⟨_, rfl, rfl, .inr ⟨by omega, rfl⟩⟩
set_option maxHeartbeats 8000000 in
theorem szNt (a b d : Option Addr) (ca cb cd : Nat) (t : Int) (ms : List Rm) (ps : List Pl) (cs : List Int) (fs : List Fm.R) (L : Int) (w : World) (hL : 0 ≤ L) (hL1 : L ≤ 1048576) (hm : ms.length ≤ maxLen) (hc : cs.length ≤ maxLen) (hf : fs.length ≤ maxLen) (hs : ∀ i, i < ms.length → Sx (ms.getD i Rm.zero)) (hg : ∀ i, i < fs.length → (fs.getD i Fm.R.zero).bs.size ≤ maxLen) (hr : NR w a ms ps) (hz : Fm.RM w d fs) :
    Calls Tryz.prog 8 #[.agg #[.slice a ms.length ca, .slice b cs.length cb, .slice d fs.length cd, .int .i64 t], .int .i64 L] w fun e w' => ∃ r : Int, e = .returned (.int .i64 r) ∧ Below w.heap.size w w' ∧ (r < 0 ∨ (0 ≤ r ∧ r = L - ms.length - tot ms - cs.length - fs.length - totF fs)) := by
  have b0 := bel_new w (.cells #[.slice a ms.length ca, .slice b cs.length cb, .slice d fs.length cd, .int .i64 t] 26)
  have HX0 := hide (nb_new w (.slice a ms.length ca) (.slice b cs.length cb) (.slice d fs.length cd) t 26)
  have HR := hide (hr.below b0)
  have HZ := hide (hz.below b0)
  have HB0 := hide b0
  have HS := hide hs
  have HG := hide hg
  have t0 := tot_nonneg ms
  clear b0 hr hz hs hg
  go_enter Tryz.func8, Tryz.ntmps8
  go_wp2_with fail
  generalize w.alloc (.cells #[.slice a ms.length ca, .slice b cs.length cb, .slice d fs.length cd, .int .i64 t] 26) = w0 at *
  refine (szNS _ ms ps _ L _ hL hL1 hm (unhide HS) (unhide HR)).mono ?_
  rintro e w1 ⟨r1, rfl, b1, h1⟩
  have HB1 := hide ((unhide HB0).trans (b1.mono (unhide HB0).size))
  have HX1 := hide ((unhide HX0).below b1)
  have HZ1 := hide ((unhide HZ).below b1)
  clear HB0 HX0 HZ HR b1
  rcases h1 with h1 | ⟨h1, h1'⟩
  · go_wp2_with fail
    go_ret
    exact ⟨_, rfl, unhide HB1, .inl (by omega)⟩
  have hn1 : ¬ r1 < 0 := by omega
  have hu1 : r1 ≤ 1048576 := by omega
  have HE1 := hide h1'
  clear h1'
  obtain ⟨p0, p1, p2, p3⟩ := unhide HX1
  go_wp2_with fail
  clear p0 p1 p2 p3
  refine (szI _ _ _ r1 _ h1 hu1 hc).mono ?_
  rintro e w2 ⟨r2, rfl, hw2, h2⟩
  subst hw2
  rcases h2 with h2 | ⟨h2, h2'⟩
  · go_wp2_with fail
    go_ret
    exact ⟨_, rfl, unhide HB1, .inl (by omega)⟩
  have hn2 : ¬ r2 < 0 := by omega
  have hu2 : r2 ≤ 1048576 := by omega
  have HE2 := hide h2'
  clear h2'
  obtain ⟨p0, p1, p2, p3⟩ := unhide HX1
  go_wp2_with fail
  clear p0 p1 p2 p3
  refine (szFS _ fs _ r2 _ h2 hu2 hf (unhide HG) (unhide HZ1)).mono ?_
  rintro e w3 ⟨r3, rfl, b3, h3⟩
  have HB3 := hide ((unhide HB1).trans (b3.mono (unhide HB1).size))
  clear HB1 HX1 HZ1 b3
  rcases h3 with h3 | ⟨h3, h3'⟩
  · go_wp2_with fail
    go_ret
    exact ⟨_, rfl, unhide HB3, .inl (by omega)⟩
  have hn3 : ¬ r3 < 0 := by omega
  have HE3 := hide h3'
  clear h3'
  go_wp2_with fail
  go_ret
  exact ⟨_, rfl, unhide HB3, .inr ⟨h3, by have := unhide HE1; have := unhide HE2; have := unhide HE3; omega⟩⟩
end Nt
end Go.Proofs.YtpknmiccgbjoiabGreat
namespace Go.Proofs.YtpknmiccgbjoiabGreat
open Go.ChangeShapes Go.WideShapes Go.ChangeAt Go.RowKit
set_option linter.unusedVariables false
set_option linter.unusedSimpArgs false
set_option maxRecDepth 100000
attribute [local go_sem ↓] Go.wp_at_zero Go.wp_at_succ
namespace Nt
open W1 Rt
set_option maxHeartbeats 4000000 in
/-- The cells that read as a router. -/
theorem open_one {H : Type} {enc : TypeId × Value → H} {W : World} {fuel : Nat} {c : List Value} {y : DataW H × List MemPlace} (hl : c.length = 13)
    (hf : DataW.trod enc Tryz.prog W 0 (fun _ => true) true fuel 96 c = some y) : ∃ (m : Rm) (p : Pl), c = cl m p ∧ Sx m ∧ Rd W m p := by
  obtain ⟨c0, c1, c2, c3, c4, c5, c6, c7, c8, c9, c10, c11, c12, rfl⟩ := list13 hl
  obtain ⟨xs, n, _, _, _, hlen, hf⟩ := DataW.trod_struct Tryz.underlying96 hf
  obtain ⟨x0, x1, x2, x3, x4, x5, x6, x7, x8, x9, x10, x11, rfl⟩ := list12 hlen
  have k0 := hf 0 _ rfl
  have k1 := hf 1 _ rfl
  have k2 := hf 2 _ rfl
  have k3 := hf 3 _ rfl
  have k4 := hf 4 _ rfl
  have k5 := hf 5 _ rfl
  have k6 := hf 6 _ rfl
  have k7 := hf 7 _ rfl
  have k8 := hf 8 _ rfl
  have k9 := hf 9 _ rfl
  have k10 := hf 10 _ rfl
  have k11 := hf 11 _ rfl
  clear hf hlen
  simp [cells_int, cells_lk, cells_tu, cells_ed, cells_top] at k0 k1 k2 k3 k4 k5 k6 k7 k8 k9 k10 k11
  obtain ⟨a0, e0, _, _⟩ := DataW.trod_int Tryz.underlying3 k0
  obtain ⟨a1, e1, _, _⟩ := DataW.trod_int Tryz.underlying3 k1
  obtain ⟨a2, e2, _, _⟩ := DataW.trod_int Tryz.underlying3 k2
  obtain ⟨a3, e3, _, _⟩ := DataW.trod_int Tryz.underlying3 k3
  obtain ⟨a4, e4, _, _⟩ := DataW.trod_int Tryz.underlying3 k4
  obtain ⟨a11, e11, _, _⟩ := DataW.trod_int Tryz.underlying3 k11
  simp at e0 e1 e2 e3 e4 e11
  subst e0 e1 e2 e3 e4 e11
  obtain ⟨ys, n', _, _, _, hlen', hg⟩ := DataW.trod_struct Tryz.underlying93 k9
  obtain ⟨y0, y1, rfl⟩ := Tq.listR hlen'
  have t0 := hg 0 _ rfl
  have t1 := hg 1 _ rfl
  simp [cells_so, cells_tu] at t0 t1
  obtain ⟨g1, l1, p1, m1, rfl, h1, j1, r1⟩ := Lk.open_cell k5
  obtain ⟨g2, l2, p2, m2, rfl, h2, j2, r2⟩ := Tq.open_cellT k6
  obtain ⟨g3, l3, p3, m3, rfl, h3, j3, r3⟩ := Tq.open_cellT k7
  obtain ⟨g4, l4, p4, m4, rfl, h4, j4, r4⟩ := Tq.open_cellT k8
  obtain ⟨g5, l5, p5, m5, rfl, h5, j5, r5⟩ := So.open_cell t0
  obtain ⟨g6, l6, p6, m6, rfl, h6, j6, r6⟩ := Tq.open_cellT t1
  obtain ⟨g7, l7, p7, m7, rfl, h7, j7, r7⟩ := Ed.open_cell k10
  subst h1 h2 h3 h4 h5 h6 h7
  exact ⟨⟨a0, a1, a2, a3, a4, a11, m1, m2, m3, m4, m5, m6, m7⟩, ⟨g1, g2, g3, g4, g5, g6, g7, p1, p2, p3, p4, p5, p6, p7⟩, rfl, ⟨j1, j2, j3, j4, j5, j6, j7⟩, r1, r2, r3, r4, r5, r6, r7⟩
theorem plain_add (b off k : Nat) : (⟨b, off, none⟩ : Addr).add k = ⟨b, off + k, none⟩ := by unfold Addr.add; split <;> simp_all
/-- A row of routers that came in. -/
theorem open_row {H : Type} {enc : TypeId × Value → H} {W : World} {v : Value} {fuel : Nat} {y : DataW H × List MemPlace}
    (hf : DataW.trod enc Tryz.prog W 0 (fun _ => true) true fuel 22 [v] = some y) : ∃ a len cap, ∃ (ms : List Rm) (ps : List Pl), v = .slice a len cap ∧ ms.length = len ∧ len ≤ maxLen ∧ (∀ i, i < ms.length → Sx (ms.getD i Rm.zero)) ∧ NR W a ms ps := by
  rcases Deep.open_slice Tryz.underlying22 hf with ⟨hcs, _⟩ | ⟨x, len, cap, m, n, D, Pc, hcs, _, hl, hm, hmm, _, hx⟩
  · simp only [List.cons.injEq, and_true] at hcs
    subst hcs
    exact ⟨none, 0, 0, [], [], rfl, rfl, Nat.zero_le _, fun i hi => absurd hi (Nat.not_lt_zero i), .inl rfl⟩
  · simp only [List.cons.injEq, and_true] at hcs
    subst hcs
    simp at hmm
    subst hmm
    rw [cells13] at hx
    by_cases h0 : len = 0
    · subst h0; exact ⟨_, _, _, [], [], rfl, rfl, Nat.zero_le _, fun i hi => absurd hi (Nat.not_lt_zero i), .inl rfl⟩
    obtain ⟨b, off, spot⟩ := x
    have hsp : spot = none := by
      obtain ⟨cs', h1, _⟩ := hx 0 (by omega)
      obtain ⟨_, hlen, hc⟩ := World.cells?_some h1
      have h2 := hc 0 (by omega)
      rw [List.getElem?_eq_getElem (by omega)] at h2
      simpa [Addr.add] using World.cell?_spot h2
    subst hsp
    have hex : ∀ i, i < len → ∃ mp : Rm × Pl, W.rangeAt b (off + i * 13) (cl mp.1 mp.2) ∧ Sx mp.1 ∧ Rd W mp.1 mp.2 := by
      intro i hi
      obtain ⟨cs', h1, h2⟩ := hx i (by omega)
      obtain ⟨_, hlen, hc⟩ := World.cells?_some h1
      obtain ⟨m, p, rfl, hs, hr⟩ := open_one hlen h2
      refine ⟨(m, p), fun j u hu => ?_, hs, hr⟩
      have hj : j < 13 := by
        rcases Nat.lt_or_ge j 13 with h | h
        · exact h
        · rw [List.getElem?_eq_none (by rw [cl_len]; exact h)] at hu; cases hu
      have q := hc j hj
      rw [plain_add, plain_add] at q
      rw [q]; exact hu
    have hin : Inhabited (Rm × Pl) := ⟨(Rm.zero, Pl.zero)⟩
    obtain ⟨V, hV⟩ := Deep.choose_lt hex
    have e1 : ∀ i, i < len → ((List.range len).map fun i => (V i).1).getD i Rm.zero = (V i).1 := fun i hi => by
      rw [List.getD_eq_getElem?_getD, List.getElem?_map, List.getElem?_range hi]; rfl
    have e2 : ∀ i, i < len → ((List.range len).map fun i => (V i).2).getD i Pl.zero = (V i).2 := fun i hi => by
      rw [List.getD_eq_getElem?_getD, List.getElem?_map, List.getElem?_range hi]; rfl
    refine ⟨_, _, _, (List.range len).map fun i => (V i).1, (List.range len).map fun i => (V i).2, rfl, by simp, Nat.le_trans hl hm, fun i hi => ?_, .inr ⟨b, off, rfl, fun i hi => ?_⟩⟩
    all_goals have hi' : i < len := by simpa using hi
    · rw [e1 i hi']; exact (hV i hi').2.1
    · rw [e1 i hi', e2 i hi']; exact ⟨(hV i hi').1, (hV i hi').2.2⟩
theorem cellsNet : Tryz.prog.cellsOf 26 = 4 := by kernel_rfl
theorem cells_ro : Tryz.prog.cellsOf 22 = 1 := by kernel_rfl
theorem cells_in : Tryz.prog.cellsOf 23 = 1 := by kernel_rfl
theorem cells_fr : Tryz.prog.cellsOf 24 = 1 := by kernel_rfl
theorem cells_i : Tryz.prog.cellsOf 3 = 1 := by kernel_rfl
theorem list4 {α : Type} {l : List α} (h : l.length = 4) : ∃ c0 c1 c2 c3, l = [c0, c1, c2, c3] := by
  match l, h with
  | [c0, c1, c2, c3], _ => exact ⟨c0, c1, c2, c3, rfl⟩
/-- A list of ints within a struct that came in. -/
theorem open_ints_cell {H : Type} {enc : TypeId × Value → H} {W : World} {v : Value} {fuel : Nat} {y : DataW H × List MemPlace}
    (hf : DataW.trod enc Tryz.prog W 0 (fun _ => true) true fuel 23 [v] = some y) : ∃ a len cap, ∃ zs : List Int, v = .slice a len cap ∧ zs.length = len ∧ len ≤ maxLen ∧ In.RM W a zs := by
  obtain ⟨a, len, cap, hv⟩ : ∃ a len cap, v = .slice a len cap := by
    rcases open_ints Tryz.underlying23 Tryz.underlying3 (by kernel_rfl) hf with ⟨hcs, _⟩ | ⟨x, l, c, zs, hcs, _⟩
    · simp at hcs; exact ⟨_, _, _, hcs⟩
    · simp at hcs; exact ⟨_, _, _, hcs⟩
  subst hv
  obtain ⟨zs, h1, h2, h3⟩ := In.open_list (a := a) (len := len) (cap := cap) (d := y.1) (p := y.2) ⟨fuel, hf⟩
  exact ⟨a, len, cap, zs, rfl, h1, h2, h3⟩
set_option maxHeartbeats 4000000 in
/-- A net that came in by value. -/
theorem open_net {H : Type} {enc : TypeId × Value → H} {W : World} {r : Reach} {b0 : Nat} {v : Value} {d : DataW H} {p : List MemPlace}
    (hv : Value.okWide Tryz.prog W r b0 26 v) (h : DataW.Trod enc Tryz.prog W 0 (fun _ => true) true 26 v d p) :
    ∃ a b d ca cb cd t, ∃ (ms : List Rm) (ps : List Pl) (cs : List Int) (fs : List Fm.R), v = .agg #[.slice a ms.length ca, .slice b cs.length cb, .slice d fs.length cd, .int .i64 t] ∧ (ms.length ≤ maxLen ∧ cs.length ≤ maxLen ∧ fs.length ≤ maxLen ∧ (∀ i, i < ms.length → Sx (ms.getD i Rm.zero)) ∧ ∀ i, i < fs.length → (fs.getD i Fm.R.zero).bs.size ≤ maxLen) ∧ NR W a ms ps ∧ In.RM W b cs ∧ Fm.RM W d fs := by
  obtain ⟨cs, rfl, hsz⟩ := okWide_struct Tryz.underlying26 hv
  obtain ⟨l⟩ := cs
  obtain ⟨c0, c1, c2, c3, rfl⟩ := list4 (hsz.trans cellsNet)
  obtain ⟨fuel, hf⟩ := h
  obtain ⟨xs, n, _, _, _, hlen, hf⟩ := DataW.trod_struct Tryz.underlying26 hf
  obtain ⟨x0, x1, x2, x3, rfl⟩ := list4 hlen
  have k0 := hf 0 _ rfl
  have k1 := hf 1 _ rfl
  have k2 := hf 2 _ rfl
  have k3 := hf 3 _ rfl
  clear hf hsz hv hlen
  simp [Value.cells, cells_ro, cells_in, cells_fr, cells_i] at k0 k1 k2 k3
  obtain ⟨t, e3, _, _⟩ := DataW.trod_int Tryz.underlying3 k3
  simp at e3
  subst e3
  obtain ⟨a, l0, ca, ms, ps, rfl, h0, j0, s0, r0⟩ := open_row k0
  obtain ⟨b, l1, cb, zs, rfl, h1, j1, r1⟩ := open_ints_cell k1
  obtain ⟨d, l2, cd, fs, rfl, h2, j2, r2, s2⟩ := Fm.open_cell k2
  subst h0 h1 h2
  exact ⟨a, b, d, ca, cb, cd, t, ms, ps, zs, fs, rfl, ⟨j0, j1, j2, s0, s2⟩, r0, r1, r2⟩
end Nt
end Go.Proofs.YtpknmiccgbjoiabGreat
namespace Go.Proofs.YtpknmiccgbjoiabGreat
open Go.ChangeShapes Go.WideShapes Go.ChangeAt Go.RowKit
set_option linter.unusedVariables false
set_option linter.unusedSimpArgs false
set_option maxRecDepth 100000
attribute [local go_sem ↓] Go.wp_at_zero Go.wp_at_succ
namespace Nt
open W1 Rt
set_option maxHeartbeats 8000000 in
theorem eqNS (a b : Option Addr) (ms : List Rm) (ps qs : List Pl) (ca cb : Nat) (w : World) (hm : ms.length ≤ 1048576) (hs : ∀ i, i < ms.length → Sm (ms.getD i Rm.zero)) (hr : NR w a ms ps) (hr' : NR w b ms qs) :
    Calls Tryz.prog 39 #[.slice a ms.length ca, .slice b ms.length cb] w fun e w' => e = .returned (.bool true) ∧ Below w.heap.size w w' := by
  have HR := hide hr
  have HR' := hide hr'
  have HS := hide hs
  clear hr hr' hs
  generalize hN : ms.length = n at *
  have HN := hide hN
  clear hN
  go_enter Tryz.func39, Tryz.ntmps39
  go_wp2
  go_loopw [5] (fun i wr => ∃ j : Nat, j ≤ n ∧ i = .int .i64 j ∧ Hid (Below w.heap.size w wr)) (fun i _ => n - (intOf i).toNat)
  case atStart => exact ⟨0, by omega, rfl, hide (Below.refl _ _)⟩
  case round =>
    obtain ⟨j, hj, rfl, hbl⟩ := hrel
    by_cases hlt : (j : Int) < (n : Int)
    · have k0 : (0 : Int) ≤ (j : Int) := by omega
      have hlen : j < ms.length := by rw [unhide HN]; omega
      obtain ⟨g, off, rfl, hA, hD⟩ := ((unhide HR).below (unhide hbl)).at hlen
      obtain ⟨g', off', rfl, hA', hD'⟩ := ((unhide HR').below (unhide hbl)).at hlen
      have HM := hide ((unhide HS) j (by omega))
      have HA := hide hA
      have HA' := hide hA'
      have HD := hide hD
      have HD' := hide hD'
      clear hlen hA hA' hD hD'
      generalize ms.getD j Rm.zero = m at *
      generalize ps.getD j Pl.zero = p at *
      generalize qs.getD j Pl.zero = q at *
      go_wp2_with fail
      refine wp_region_noPanic ?_
      refine wp_region_held_drew (S := fun w' => w'.rangeAt g (off + j * 13) (cl m p) ∧ w'.rangeAt g' (off' + j * 13) (cl m q)) (by kernel_rfl) (⟨unhide HA, unhide HA'⟩) (fun hHeld => ?_)
      refine Rg.t 0 17 ?_
      refine Rg.t 1 18 ?_
      refine Rg.t 2 19 ?_
      refine Rg.t (v := .agg (cl m p).toArray) 3 20 ?_ (hv := fun w0 hSw => execI _ rfl rfl hSw.1)
      refine Rg.t 4 21 ?_
      refine Rg.t 5 22 ?_
      refine Rg.t 6 23 ?_
      refine Rg.t (v := .agg (cl m q).toArray) 7 24 ?_ (hv := fun w0 hSw => execI _ rfl rfl hSw.2)
      (refine Rg.o 8 (fun K hK => ?_); go_simp)
      refine (eqN m p q wr.drew (unhide HM) (unhide HD).drew (unhide HD').drew).mono ?_
      rintro e w1 ⟨rfl, b1⟩
      refine hK.out _ _ ⟨rng_below (w := wr.drew) (unhide HA) b1, rng_below (w := wr.drew) (unhide HA') b1⟩ (fun hHeld => ?_)
      clear hK K
      (try simp only [Act.put, List.setIfInBounds_toArray, List.set_cons_zero, List.set_cons_succ])
      refine Rg.t 9 26 ?_
      refine wpAnyH_done (by kernel_rfl) (NoPanic.normal ?_) _
      have hb1 := hide ((unhide hbl).drew.trans (b1.mono (by show w.heap.size ≤ wr.heap.size; exact (unhide hbl).size)))
      clear hHeld b1 HA HA' HD HD'
      go_wp2_with fail
      go_roundw
      case rel => exact ⟨j + 1, by omega, by go_num, hb1⟩
      case measure => simp [intOf]; omega
    · go_wp2
      go_ret
      exact ⟨rfl, unhide hbl⟩
set_option maxHeartbeats 8000000 in
theorem eqNt (a b d a' b' d' : Option Addr) (ca cb cd ca' cb' cd' : Nat) (t : Int) (ms : List Rm) (ps qs : List Pl) (cs : List Int) (fs : List Fm.R) (w : World) (hm : ms.length ≤ 1048576) (hc : cs.length ≤ 1048576) (hf : fs.length ≤ 1048576) (hs : ∀ i, i < ms.length → Sm (ms.getD i Rm.zero)) (hr : NR w a ms ps) (hr' : NR w a' ms qs) (hi : In.RM w b cs) (hi' : In.RM w b' cs) (hz : Fm.RM w d fs) (hz' : Fm.RM w d' fs) :
    Calls Tryz.prog 12 #[.agg #[.slice a ms.length ca, .slice b cs.length cb, .slice d fs.length cd, .int .i64 t], .agg #[.slice a' ms.length ca', .slice b' cs.length cb', .slice d' fs.length cd', .int .i64 t]] w fun e w' => e = .returned (.bool true) ∧ Below w.heap.size w w' := by
  have b0 : Below w.heap.size w ((w.alloc (.cells #[.slice a ms.length ca, .slice b cs.length cb, .slice d fs.length cd, .int .i64 t] 33)).alloc (.cells #[.slice a' ms.length ca', .slice b' cs.length cb', .slice d' fs.length cd', .int .i64 t] 33)) := ((Below.refl _ _).alloc (Nat.le_refl _) _).alloc (by simp) _
  have HX0 : Hid (NB _ w.heap.size _ _ _ _) := hide ((nb_new w (.slice a ms.length ca) (.slice b cs.length cb) (.slice d fs.length cd) t 33).below (bel_new _ (.cells #[.slice a' ms.length ca', .slice b' cs.length cb', .slice d' fs.length cd', .int .i64 t] 33)))
  have HY0 : Hid (NB _ (w.heap.size + 1) _ _ _ _) := hide (by have := nb_new (w.alloc (.cells #[.slice a ms.length ca, .slice b cs.length cb, .slice d fs.length cd, .int .i64 t] 33)) (.slice a' ms.length ca') (.slice b' cs.length cb') (.slice d' fs.length cd') t 33; simpa using this)
  have HB0 := hide b0
  have HR := hide (hr.below b0)
  have HR' := hide (hr'.below b0)
  have HI := hide (hi.below b0)
  have HI' := hide (hi'.below b0)
  have HZ := hide (hz.below b0)
  have HZ' := hide (hz'.below b0)
  have HS := hide hs
  have hne : (t != t) = false := by simp
  clear hr hr' hi hi' hz hz' hs b0
  go_enter Tryz.func12, Tryz.ntmps12
  go_wp2_with fail
  generalize (w.alloc (.cells #[.slice a ms.length ca, .slice b cs.length cb, .slice d fs.length cd, .int .i64 t] 33)).alloc (.cells #[.slice a' ms.length ca', .slice b' cs.length cb', .slice d' fs.length cd', .int .i64 t] 33) = w0 at *
  refine (eqNS _ _ ms ps qs _ _ _ hm (unhide HS) (unhide HR) (unhide HR')).mono ?_
  rintro e w1 ⟨rfl, b1⟩
  have HX1 := hide ((unhide HX0).below b1)
  have HY1 := hide ((unhide HY0).below b1)
  have HB1 := hide ((unhide HB0).trans (b1.mono (unhide HB0).size))
  have HI1 := hide ((unhide HI).below b1)
  have HI1' := hide ((unhide HI').below b1)
  have HZ1 := hide ((unhide HZ).below b1)
  have HZ1' := hide ((unhide HZ').below b1)
  clear HX0 HY0 HB0 HI HI' HZ HZ' HR HR' b1
  obtain ⟨p0, p1, p2, p3⟩ := unhide HX1
  obtain ⟨q0, q1, q2, q3⟩ := unhide HY1
  go_wp2_with fail
  clear p0 p1 p2 p3 q0 q1 q2 q3
  refine (In.eqS _ _ cs _ _ _ hc (unhide HI1) (unhide HI1')).mono ?_
  rintro e w2 ⟨rfl, b2⟩
  have HX2 := hide ((unhide HX1).below b2)
  have HY2 := hide ((unhide HY1).below b2)
  have HB2 := hide ((unhide HB1).trans (b2.mono (unhide HB1).size))
  have HZ2 := hide ((unhide HZ1).below b2)
  have HZ2' := hide ((unhide HZ1').below b2)
  clear HX1 HY1 HB1 HI1 HI1' HZ1 HZ1' b2
  obtain ⟨p0, p1, p2, p3⟩ := unhide HX2
  obtain ⟨q0, q1, q2, q3⟩ := unhide HY2
  go_wp2_with fail
  clear p0 p1 p2 p3 q0 q1 q2 q3
  refine (Fm.eqS _ _ fs _ _ _ hf (unhide HZ2) (unhide HZ2')).mono ?_
  rintro e w3 ⟨rfl, b3⟩
  have HX3 := hide ((unhide HX2).below b3)
  have HY3 := hide ((unhide HY2).below b3)
  have HB3 := hide ((unhide HB2).trans (b3.mono (unhide HB2).size))
  clear HX2 HY2 HB2 HZ2 HZ2' b3
  obtain ⟨p0, p1, p2, p3⟩ := unhide HX3
  obtain ⟨q0, q1, q2, q3⟩ := unhide HY3
  go_wp2_with fail
  go_ret
  exact ⟨rfl, unhide HB3⟩
end Nt
end Go.Proofs.YtpknmiccgbjoiabGreat
namespace Go.Proofs.YtpknmiccgbjoiabGreat.fnExactAllCover
open Go.ChangeShapes Go.WideShapes Go.ChangeAt Go.RowKit
open W1 Rt Nt
set_option linter.unusedVariables false
set_option linter.unusedSimpArgs false
theorem own : ownKnob Tryz.prog.godebug = none := by kernel_rfl
theorem laidOut : laidOutB Tryz.prog = true := by kernel_rfl
set_option maxRecDepth 100000 in
set_option maxHeartbeats 32000000 in
theorem walk (a b d : Option Addr) (ca cb cd : Nat) (t : Int) (ms : List Rm) (ps : List Pl) (cs : List Int) (fs : List Fm.R) (hx1 : ms.length ≤ maxLen) (hx2 : cs.length ≤ maxLen) (hx3 : fs.length ≤ maxLen) (hx4 : ∀ i, i < ms.length → Sx (ms.getD i Rm.zero)) (hx5 : ∀ i, i < fs.length → (fs.getD i Fm.R.zero).bs.size ≤ maxLen) (w : World) (hr : NR w a ms ps) (hi : In.RM w b cs) (hz : Fm.RM w d fs) :
    Calls Tryz.prog 5 #[.agg #[.slice a ms.length ca, .slice b cs.length cb, .slice d fs.length cd, .int .i64 t]] w fun e w' => e = .returned (.bool true) ∧ Below w.heap.size w w' := by
  have Q0 := hide (nb_new w (.slice a ms.length ca) (.slice b cs.length cb) (.slice d fs.length cd) t 26)
  have B0 := bel_new w (.cells #[.slice a ms.length ca, .slice b cs.length cb, .slice d fs.length cd, .int .i64 t] 26)
  have HR0 := hide (hr.below B0)
  have HI0 := hide (hi.below B0)
  have HZ0 := hide (hz.below B0)
  clear hr hi hz
  go_enter Tryz.func5, Tryz.ntmps5
  obtain ⟨k0_0, k0_1, k0_2, k0_3⟩ := unhide Q0
  go_wp2_with fail
  clear k0_0 k0_1 k0_2 k0_3
  generalize hW_ : w.alloc (.cells #[.slice a ms.length ca, .slice b cs.length cb, .slice d fs.length cd, .int .i64 t] 26) = w0 at *
  clear hW_
  refine (szNt a b d ca cb cd t ms ps cs fs 1048576 _ (by omega) (by omega) hx1 hx2 hx3 hx4 hx5 (unhide HR0) (unhide HZ0)).mono ?_
  rintro e w1 ⟨r1, rfl, b1, hs_⟩
  have B1 := B0.trans (b1.mono B0.size)
  have Q1 := hide ((unhide Q0).below b1)
  have HR1 := hide ((unhide HR0).below b1)
  have HI1 := hide ((unhide HI0).below b1)
  have HZ1 := hide ((unhide HZ0).below b1)
  clear Q0 HR0 HI0 HZ0
  rcases hs_ with hs_ | ⟨hs0, hs1⟩
  · go_wp2_with fail
    go_ret
    exact ⟨rfl, B1⟩
  have hnn : ¬ r1 < 0 := by omega
  have t0_ := tot_nonneg ms
  have t1_ := totF_nonneg fs
  have hm1 : ms.length ≤ 1048576 := by omega
  have hm2 : cs.length ≤ 1048576 := by omega
  have hm3 : fs.length ≤ 1048576 := by omega
  have HSM := hide (fun i (hi : i < ms.length) => sm_of (m := ms.getD i Rm.zero) (by have := cnt_le hi; omega))
  have HTB := hide (show (ms.length : Int) + tot ms + cs.length + fs.length + totF fs ≤ 1048576 by omega)
  have HGZ := hide hx5
  clear hs0 hs1 t0_ t1_ hx1 hx2 hx3 hx4 hx5
  obtain ⟨v1, hv1_⟩ : ∃ v1, netB ms cs fs t = v1 := ⟨_, rfl⟩
  have Hv1 := hide hv1_
  clear hv1_
  have nv1 : (v1 != v1) = false := by simp
  obtain ⟨v2, hv2_⟩ : ∃ v2, (if v1 = true then (0 : Int) else 1) = v2 := ⟨_, rfl⟩
  have Hv2 := hide hv2_
  clear hv2_
  have nv2 : (v2 != v2) = false := by simp
  obtain ⟨k0_0, k0_1, k0_2, k0_3⟩ := unhide Q1
  go_wp2_with fail
  clear k0_0 k0_1 k0_2 k0_3
  refine (toNt a b d ca cb cd t ms ps cs fs _ hm1 hm2 hm3 (unhide HSM) (unhide HR1) ((unhide HI1)) (unhide HZ1)).mono ?_
  rintro e w2 ⟨s1, s2, s3, sq, rfl, b2, o_⟩
  have B2 := B1.trans (b2.mono B1.size)
  have Q2 := hide ((unhide Q1).below b2)
  have HR2 := hide ((unhide HR1).below b2)
  have HI2 := hide ((unhide HI1).below b2)
  have HZ2 := hide ((unhide HZ1).below b2)
  clear Q1 HR1 HI1 HZ1
  have S2 := hide o_
  clear o_
  go_wp2_with fail
  refine (specAC _ _ _ _ _ _ t ms _ cs fs  _ hm1 hm2 hm3 (unhide HSM) (unhide HGZ) (unhide S2).nr (unhide S2).ri (unhide S2).rf (unhide S2).ad).mono ?_
  rintro e w3 ⟨rfl, b3⟩
  have B3 := B2.trans (b3.mono B2.size)
  have Q3 := hide ((unhide Q2).below b3)
  have HR3 := hide ((unhide HR2).below b3)
  have HI3 := hide ((unhide HI2).below b3)
  have HZ3 := hide ((unhide HZ2).below b3)
  have S3 := hide ((unhide S2).below b3)
  clear Q2 HR2 HI2 HZ2 S2
  rw [unhide Hv1, unhide Hv2]
  clear S3
  obtain ⟨k0_0, k0_1, k0_2, k0_3⟩ := unhide Q3
  go_wp2_with fail
  clear k0_0 k0_1 k0_2 k0_3
  refine (toNt a b d ca cb cd t ms ps cs fs _ hm1 hm2 hm3 (unhide HSM) (unhide HR3) ((unhide HI3)) (unhide HZ3)).mono ?_
  rintro e w4 ⟨x1, x2, x3, xq, rfl, b4, o_⟩
  have B4 := B3.trans (b4.mono B3.size)
  have Q4 := hide ((unhide Q3).below b4)
  have HR4 := hide ((unhide HR3).below b4)
  have HI4 := hide ((unhide HI3).below b4)
  have HZ4 := hide ((unhide HZ3).below b4)
  clear Q3 HR3 HI3 HZ3
  have X4 := hide o_
  clear o_
  have b5 := bel_new w4 (.cells #[.slice (some ⟨x1, 0, none⟩) ms.length ms.length, .slice (some ⟨x2, 0, none⟩) cs.length cs.length, .slice (some ⟨x3, 0, none⟩) fs.length fs.length, .int .i64 t] 33)
  have B5 := B4.trans (b5.mono B4.size)
  have Q5 := hide ((unhide Q4).below b5)
  have HR5 := hide ((unhide HR4).below b5)
  have HI5 := hide ((unhide HI4).below b5)
  have HZ5 := hide ((unhide HZ4).below b5)
  have X5 := hide ((unhide X4).below b5)
  clear Q4 HR4 HI4 HZ4 X4
  have V5 := hide (nb_new w4 (.slice (some ⟨x1, 0, none⟩) ms.length ms.length) (.slice (some ⟨x2, 0, none⟩) cs.length cs.length) (.slice (some ⟨x3, 0, none⟩) fs.length fs.length) t 33)
  obtain ⟨k0_0, k0_1, k0_2, k0_3⟩ := unhide V5
  go_wp2_with fail
  clear k0_0 k0_1 k0_2 k0_3
  generalize hW_ : (w4.alloc (.cells #[.slice (some ⟨x1, 0, none⟩) ms.length ms.length, .slice (some ⟨x2, 0, none⟩) cs.length cs.length, .slice (some ⟨x3, 0, none⟩) fs.length fs.length, .int .i64 t] 33)) = w5 at *
  clear hW_
  refine (implAC _ _ _ _ _ _ t ms _ cs fs  _ hm1 hm2 hm3 (unhide HSM) (unhide HGZ) (unhide X5).nr (unhide X5).ri (unhide X5).rf).mono ?_
  rintro e w6 ⟨rfl, b6⟩
  have B6 := B5.trans (b6.mono B5.size)
  have Q6 := hide ((unhide Q5).below b6)
  have HR6 := hide ((unhide HR5).below b6)
  have HI6 := hide ((unhide HI5).below b6)
  have HZ6 := hide ((unhide HZ5).below b6)
  have X6 := hide ((unhide X5).below b6)
  have V6 := hide ((unhide V5).below b6)
  clear Q5 HR5 HI5 HZ5 X5 V5
  rw [unhide Hv1, unhide Hv2]
  obtain ⟨k0_0, k0_1, k0_2, k0_3⟩ := unhide V6
  obtain ⟨k1_0, k1_1, k1_2, k1_3⟩ := unhide Q6
  go_wp2_with fail
  clear k0_0 k0_1 k0_2 k0_3 k1_0 k1_1 k1_2 k1_3
  refine wp_region_noPanic ?_
  refine wp_region_held_drew (S := fun w' => (w'.cell? ⟨w4.heap.size, 0, none⟩ = some (.slice (some ⟨x1, 0, none⟩) ms.length ms.length) ∧ w'.cell? ⟨w4.heap.size, 1, none⟩ = some (.slice (some ⟨x2, 0, none⟩) cs.length cs.length) ∧ w'.cell? ⟨w4.heap.size, 2, none⟩ = some (.slice (some ⟨x3, 0, none⟩) fs.length fs.length) ∧ w'.cell? ⟨w4.heap.size, 3, none⟩ = some (.int .i64 t)) ∧ (w'.cell? ⟨w.heap.size, 0, none⟩ = some (.slice a ms.length ca) ∧ w'.cell? ⟨w.heap.size, 1, none⟩ = some (.slice b cs.length cb) ∧ w'.cell? ⟨w.heap.size, 2, none⟩ = some (.slice d fs.length cd) ∧ w'.cell? ⟨w.heap.size, 3, none⟩ = some (.int .i64 t))) (by kernel_rfl) (⟨unhide V6, unhide Q6⟩) (fun hHeld => ?_)
  refine Rg.t (v := .agg #[.slice (some ⟨x1, 0, none⟩) ms.length ms.length, .slice (some ⟨x2, 0, none⟩) cs.length cs.length, .slice (some ⟨x3, 0, none⟩) fs.length fs.length, .int .i64 t]) 0 35 ?_ (hv := fun w0 hSw => execNB _ rfl rfl hSw.1)
  refine Rg.t (v := .agg #[.slice a ms.length ca, .slice b cs.length cb, .slice d fs.length cd, .int .i64 t]) 1 36 ?_ (hv := fun w0 hSw => execNW _ rfl rfl hSw.2)
  (refine Rg.o 2 (fun K hK => ?_); go_simp)
  refine (toNt a b d ca cb cd t ms ps cs fs _ hm1 hm2 hm3 (unhide HSM) (unhide HR6).drew (drewI (unhide HI6)) (unhide HZ6).drew).mono ?_
  rintro e w7 ⟨y1, y2, y3, yq, rfl, b7_, o_⟩
  have b7 : Below w6.heap.size w6 w7 := (Below.refl _ _).drew.trans b7_
  have B7 := B6.trans (b7.mono B6.size)
  have Q7 := hide ((unhide Q6).below b7)
  have HR7 := hide ((unhide HR6).below b7)
  have HI7 := hide ((unhide HI6).below b7)
  have HZ7 := hide ((unhide HZ6).below b7)
  have X7 := hide ((unhide X6).below b7)
  have V7 := hide ((unhide V6).below b7)
  clear Q6 HR6 HI6 HZ6 X6 V6
  have Y7 := hide o_
  clear o_
  refine hK.out _ _ (⟨unhide V7, unhide Q7⟩) (fun hHeld => ?_)
  clear hK K
  (try simp only [Act.put, List.setIfInBounds_toArray, List.set_cons_zero, List.set_cons_succ])
  (refine Rg.o 3 (fun K hK => ?_); go_simp)
  refine (eqNt _ _ _ _ _ _ _ _ _ _ _ _ t ms _ _ cs fs _ hm1 hm2 hm3 (unhide HSM) (unhide X7).nr (unhide Y7).nr (unhide X7).ri (unhide Y7).ri (unhide X7).rf (unhide Y7).rf).mono ?_
  rintro e w8 ⟨rfl, b8⟩
  have B8 := B7.trans (b8.mono B7.size)
  have Q8 := hide ((unhide Q7).below b8)
  have HR8 := hide ((unhide HR7).below b8)
  have HI8 := hide ((unhide HI7).below b8)
  have HZ8 := hide ((unhide HZ7).below b8)
  have X8 := hide ((unhide X7).below b8)
  have V8 := hide ((unhide V7).below b8)
  have Y8 := hide ((unhide Y7).below b8)
  clear Q7 HR7 HI7 HZ7 X7 V7 Y7
  clear Y8
  refine hK.out _ _ (⟨unhide V8, unhide Q8⟩) (fun hHeld => ?_)
  clear hK K
  (try simp only [Act.put, List.setIfInBounds_toArray, List.set_cons_zero, List.set_cons_succ])
  refine Rg.t 4 39 ?_
  refine wpAnyH_done (by kernel_rfl) (NoPanic.normal ?_) _
  clear hHeld
  have HF := hide B8
  go_wp2_with fail
  go_ret
  exact ⟨rfl, unhide HF⟩

end Go.Proofs.YtpknmiccgbjoiabGreat.fnExactAllCover
