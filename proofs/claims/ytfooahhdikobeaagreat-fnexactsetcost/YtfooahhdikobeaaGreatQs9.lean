/-
  Of the texts NetO, NetE, NetHc, ExSetCostW: what this claim needs of them. (put together by mkprune.py)
-/
import Derived.Test.YtfooahhdikobeaaGreatQs8
import Derived.Deep.Cut
import Derived.Deep.DeepHandedRow
namespace Go.Proofs.YtfooahhdikobeaaGreat
open Go.ChangeShapes Go.WideShapes Go.ChangeAt Go.RowKit
set_option linter.unusedVariables false
set_option linter.unusedSimpArgs false
set_option maxRecDepth 100000
attribute [local go_sem ↓] Go.wp_at_zero Go.wp_at_succ
namespace Nt
open W1 Rt
set_option maxHeartbeats 4000000 in
/-- The cells that read as a router. -/
theorem open_one {H : Type} {enc : TypeId × Value → H} {W : World} {fuel : Nat} {c : List Value} {y : DataW H × List MemPlace} (hl : c.length = 13)
    (hf : DataW.trod enc Tryz.prog W 0 (fun _ => true) true fuel 114 c = some y) : ∃ (m : Rm) (p : Pl), c = cl m p ∧ Sx m ∧ Rd W m p := by
  obtain ⟨c0, c1, c2, c3, c4, c5, c6, c7, c8, c9, c10, c11, c12, rfl⟩ := list13 hl
  obtain ⟨xs, n, _, _, _, hlen, hf⟩ := DataW.trod_struct Tryz.underlying114 hf
  obtain ⟨x0, x1, x2, x3, x4, x5, x6, x7, x8, x9, x10, x11, rfl⟩ := list12 hlen
  have k0 := hf 0 _ rfl
  have k1 := hf 1 _ rfl
  have k2 := hf 2 _ rfl
  have k3 := hf 3 _ rfl
  have k4 := hf 4 _ rfl
  have k5 := hf 5 _ rfl
  have k6 := hf 6 _ rfl
  have k7 := hf 7 _ rfl
  have k8 := hf 8 _ rfl
  have k9 := hf 9 _ rfl
  have k10 := hf 10 _ rfl
  have k11 := hf 11 _ rfl
  clear hf hlen
  simp [cells_int, cells_lk, cells_tu, cells_ed, cells_top] at k0 k1 k2 k3 k4 k5 k6 k7 k8 k9 k10 k11
  obtain ⟨a0, e0, _, _⟩ := DataW.trod_int Tryz.underlying3 k0
  obtain ⟨a1, e1, _, _⟩ := DataW.trod_int Tryz.underlying3 k1
  obtain ⟨a2, e2, _, _⟩ := DataW.trod_int Tryz.underlying3 k2
  obtain ⟨a3, e3, _, _⟩ := DataW.trod_int Tryz.underlying3 k3
  obtain ⟨a4, e4, _, _⟩ := DataW.trod_int Tryz.underlying3 k4
  obtain ⟨a11, e11, _, _⟩ := DataW.trod_int Tryz.underlying3 k11
  simp at e0 e1 e2 e3 e4 e11
  subst e0 e1 e2 e3 e4 e11
  obtain ⟨ys, n', _, _, _, hlen', hg⟩ := DataW.trod_struct Tryz.underlying111 k9
  obtain ⟨y0, y1, rfl⟩ := Tq.listR hlen'
  have t0 := hg 0 _ rfl
  have t1 := hg 1 _ rfl
  simp [cells_so, cells_tu] at t0 t1
  obtain ⟨g1, l1, p1, m1, rfl, h1, j1, r1⟩ := Lk.open_cell k5
  obtain ⟨g2, l2, p2, m2, rfl, h2, j2, r2⟩ := Tq.open_cellT k6
  obtain ⟨g3, l3, p3, m3, rfl, h3, j3, r3⟩ := Tq.open_cellT k7
  obtain ⟨g4, l4, p4, m4, rfl, h4, j4, r4⟩ := Tq.open_cellT k8
  obtain ⟨g5, l5, p5, m5, rfl, h5, j5, r5⟩ := So.open_cell t0
  obtain ⟨g6, l6, p6, m6, rfl, h6, j6, r6⟩ := Tq.open_cellT t1
  obtain ⟨g7, l7, p7, m7, rfl, h7, j7, r7⟩ := Ed.open_cell k10
  subst h1 h2 h3 h4 h5 h6 h7
  exact ⟨⟨a0, a1, a2, a3, a4, a11, m1, m2, m3, m4, m5, m6, m7⟩, ⟨g1, g2, g3, g4, g5, g6, g7, p1, p2, p3, p4, p5, p6, p7⟩, rfl, ⟨j1, j2, j3, j4, j5, j6, j7⟩, r1, r2, r3, r4, r5, r6, r7⟩
theorem plain_add (b off k : Nat) : (⟨b, off, none⟩ : Addr).add k = ⟨b, off + k, none⟩ := by unfold Addr.add; split <;> simp_all
/-- A row of routers that came in. -/
theorem open_row {H : Type} {enc : TypeId × Value → H} {W : World} {v : Value} {fuel : Nat} {y : DataW H × List MemPlace}
    (hf : DataW.trod enc Tryz.prog W 0 (fun _ => true) true fuel 22 [v] = some y) : ∃ a len cap, ∃ (ms : List Rm) (ps : List Pl), v = .slice a len cap ∧ ms.length = len ∧ len ≤ maxLen ∧ (∀ i, i < ms.length → Sx (ms.getD i Rm.zero)) ∧ NR W a ms ps := by
  rcases Deep.open_slice Tryz.underlying22 hf with ⟨hcs, _⟩ | ⟨x, len, cap, m, n, D, Pc, hcs, _, hl, hm, hmm, _, hx⟩
  · simp only [List.cons.injEq, and_true] at hcs
    subst hcs
    exact ⟨none, 0, 0, [], [], rfl, rfl, Nat.zero_le _, fun i hi => absurd hi (Nat.not_lt_zero i), .inl rfl⟩
  · simp only [List.cons.injEq, and_true] at hcs
    subst hcs
    simp at hmm
    subst hmm
    rw [cells13] at hx
    by_cases h0 : len = 0
    · subst h0; exact ⟨_, _, _, [], [], rfl, rfl, Nat.zero_le _, fun i hi => absurd hi (Nat.not_lt_zero i), .inl rfl⟩
    obtain ⟨b, off, spot⟩ := x
    have hsp : spot = none := by
      obtain ⟨cs', h1, _⟩ := hx 0 (by omega)
      obtain ⟨_, hlen, hc⟩ := World.cells?_some h1
      have h2 := hc 0 (by omega)
      rw [List.getElem?_eq_getElem (by omega)] at h2
      simpa [Addr.add] using World.cell?_spot h2
    subst hsp
    have hex : ∀ i, i < len → ∃ mp : Rm × Pl, W.rangeAt b (off + i * 13) (cl mp.1 mp.2) ∧ Sx mp.1 ∧ Rd W mp.1 mp.2 := by
      intro i hi
      obtain ⟨cs', h1, h2⟩ := hx i (by omega)
      obtain ⟨_, hlen, hc⟩ := World.cells?_some h1
      obtain ⟨m, p, rfl, hs, hr⟩ := open_one hlen h2
      refine ⟨(m, p), fun j u hu => ?_, hs, hr⟩
      have hj : j < 13 := by
        rcases Nat.lt_or_ge j 13 with h | h
        · exact h
        · rw [List.getElem?_eq_none (by rw [cl_len]; exact h)] at hu; cases hu
      have q := hc j hj
      rw [plain_add, plain_add] at q
      rw [q]; exact hu
    have hin : Inhabited (Rm × Pl) := ⟨(Rm.zero, Pl.zero)⟩
    obtain ⟨V, hV⟩ := Deep.choose_lt hex
    have e1 : ∀ i, i < len → ((List.range len).map fun i => (V i).1).getD i Rm.zero = (V i).1 := fun i hi => by
      rw [List.getD_eq_getElem?_getD, List.getElem?_map, List.getElem?_range hi]; rfl
    have e2 : ∀ i, i < len → ((List.range len).map fun i => (V i).2).getD i Pl.zero = (V i).2 := fun i hi => by
      rw [List.getD_eq_getElem?_getD, List.getElem?_map, List.getElem?_range hi]; rfl
    refine ⟨_, _, _, (List.range len).map fun i => (V i).1, (List.range len).map fun i => (V i).2, rfl, by simp, Nat.le_trans hl hm, fun i hi => ?_, .inr ⟨b, off, rfl, fun i hi => ?_⟩⟩
    all_goals have hi' : i < len := by simpa using hi
    · rw [e1 i hi']; exact (hV i hi').2.1
    · rw [e1 i hi', e2 i hi']; exact ⟨(hV i hi').1, (hV i hi').2.2⟩
theorem cellsNet : Tryz.prog.cellsOf 26 = 4 := by kernel_rfl
theorem cells_ro : Tryz.prog.cellsOf 22 = 1 := by kernel_rfl
theorem cells_in : Tryz.prog.cellsOf 23 = 1 := by kernel_rfl
theorem cells_fr : Tryz.prog.cellsOf 24 = 1 := by kernel_rfl
theorem cells_i : Tryz.prog.cellsOf 3 = 1 := by kernel_rfl
theorem list4 {α : Type} {l : List α} (h : l.length = 4) : ∃ c0 c1 c2 c3, l = [c0, c1, c2, c3] := by
  match l, h with
  | [c0, c1, c2, c3], _ => exact ⟨c0, c1, c2, c3, rfl⟩
/-- A list of ints within a struct that came in. -/
theorem open_ints_cell {H : Type} {enc : TypeId × Value → H} {W : World} {v : Value} {fuel : Nat} {y : DataW H × List MemPlace}
    (hf : DataW.trod enc Tryz.prog W 0 (fun _ => true) true fuel 23 [v] = some y) : ∃ a len cap, ∃ zs : List Int, v = .slice a len cap ∧ zs.length = len ∧ len ≤ maxLen ∧ In.RM W a zs := by
  obtain ⟨a, len, cap, hv⟩ : ∃ a len cap, v = .slice a len cap := by
    rcases open_ints Tryz.underlying23 Tryz.underlying3 (by kernel_rfl) hf with ⟨hcs, _⟩ | ⟨x, l, c, zs, hcs, _⟩
    · simp at hcs; exact ⟨_, _, _, hcs⟩
    · simp at hcs; exact ⟨_, _, _, hcs⟩
  subst hv
  obtain ⟨zs, h1, h2, h3⟩ := In.open_list (a := a) (len := len) (cap := cap) (d := y.1) (p := y.2) ⟨fuel, hf⟩
  exact ⟨a, len, cap, zs, rfl, h1, h2, h3⟩
set_option maxHeartbeats 4000000 in
/-- A net that came in by value. -/
theorem open_net {H : Type} {enc : TypeId × Value → H} {W : World} {r : Reach} {b0 : Nat} {v : Value} {d : DataW H} {p : List MemPlace}
    (hv : Value.okWide Tryz.prog W r b0 26 v) (h : DataW.Trod enc Tryz.prog W 0 (fun _ => true) true 26 v d p) :
    ∃ a b d ca cb cd t, ∃ (ms : List Rm) (ps : List Pl) (cs : List Int) (fs : List Fm.R), v = .agg #[.slice a ms.length ca, .slice b cs.length cb, .slice d fs.length cd, .int .i64 t] ∧ (ms.length ≤ maxLen ∧ cs.length ≤ maxLen ∧ fs.length ≤ maxLen ∧ (∀ i, i < ms.length → Sx (ms.getD i Rm.zero)) ∧ ∀ i, i < fs.length → (fs.getD i Fm.R.zero).bs.size ≤ maxLen) ∧ NR W a ms ps ∧ In.RM W b cs ∧ Fm.RM W d fs := by
  obtain ⟨cs, rfl, hsz⟩ := okWide_struct Tryz.underlying26 hv
  obtain ⟨l⟩ := cs
  obtain ⟨c0, c1, c2, c3, rfl⟩ := list4 (hsz.trans cellsNet)
  obtain ⟨fuel, hf⟩ := h
  obtain ⟨xs, n, _, _, _, hlen, hf⟩ := DataW.trod_struct Tryz.underlying26 hf
  obtain ⟨x0, x1, x2, x3, rfl⟩ := list4 hlen
  have k0 := hf 0 _ rfl
  have k1 := hf 1 _ rfl
  have k2 := hf 2 _ rfl
  have k3 := hf 3 _ rfl
  clear hf hsz hv hlen
  simp [Value.cells, cells_ro, cells_in, cells_fr, cells_i] at k0 k1 k2 k3
  obtain ⟨t, e3, _, _⟩ := DataW.trod_int Tryz.underlying3 k3
  simp at e3
  subst e3
  obtain ⟨a, l0, ca, ms, ps, rfl, h0, j0, s0, r0⟩ := open_row k0
  obtain ⟨b, l1, cb, zs, rfl, h1, j1, r1⟩ := open_ints_cell k1
  obtain ⟨d, l2, cd, fs, rfl, h2, j2, r2, s2⟩ := Fm.open_cell k2
  subst h0 h1 h2
  exact ⟨a, b, d, ca, cb, cd, t, ms, ps, zs, fs, rfl, ⟨j0, j1, j2, s0, s2⟩, r0, r1, r2⟩
end Nt
end Go.Proofs.YtfooahhdikobeaaGreat
namespace Go.Proofs.YtfooahhdikobeaaGreat
open Go.ChangeShapes Go.WideShapes Go.ChangeAt Go.RowKit
set_option linter.unusedVariables false
set_option linter.unusedSimpArgs false
set_option maxRecDepth 100000
attribute [local go_sem ↓] Go.wp_at_zero Go.wp_at_succ
namespace Nt
open W1 Rt
set_option maxHeartbeats 8000000 in
theorem eqNS (a b : Option Addr) (ms : List Rm) (ps qs : List Pl) (ca cb : Nat) (w : World) (hm : ms.length ≤ 1048576) (hs : ∀ i, i < ms.length → Sm (ms.getD i Rm.zero)) (hr : NR w a ms ps) (hr' : NR w b ms qs) :
    Calls Tryz.prog 54 #[.slice a ms.length ca, .slice b ms.length cb] w fun e w' => e = .returned (.bool true) ∧ Below w.heap.size w w' := by
  have HR := hide hr
  have HR' := hide hr'
  have HS := hide hs
  clear hr hr' hs
  generalize hN : ms.length = n at *
  have HN := hide hN
  clear hN
  go_enter Tryz.func54, Tryz.ntmps54
  go_wp2
  go_loopw [5] (fun i wr => ∃ j : Nat, j ≤ n ∧ i = .int .i64 j ∧ Hid (Below w.heap.size w wr)) (fun i _ => n - (intOf i).toNat)
  case atStart => exact ⟨0, by omega, rfl, hide (Below.refl _ _)⟩
  case round =>
    obtain ⟨j, hj, rfl, hbl⟩ := hrel
    by_cases hlt : (j : Int) < (n : Int)
    · have k0 : (0 : Int) ≤ (j : Int) := by omega
      have hlen : j < ms.length := by rw [unhide HN]; omega
      obtain ⟨g, off, rfl, hA, hD⟩ := ((unhide HR).below (unhide hbl)).at hlen
      obtain ⟨g', off', rfl, hA', hD'⟩ := ((unhide HR').below (unhide hbl)).at hlen
      have HM := hide ((unhide HS) j (by omega))
      have HA := hide hA
      have HA' := hide hA'
      have HD := hide hD
      have HD' := hide hD'
      clear hlen hA hA' hD hD'
      generalize ms.getD j Rm.zero = m at *
      generalize ps.getD j Pl.zero = p at *
      generalize qs.getD j Pl.zero = q at *
      go_wp2_with fail
      refine wp_region_noPanic ?_
      refine wp_region_held_drew (S := fun w' => w'.rangeAt g (off + j * 13) (cl m p) ∧ w'.rangeAt g' (off' + j * 13) (cl m q)) (by kernel_rfl) (⟨unhide HA, unhide HA'⟩) (fun hHeld => ?_)
      refine Rg.t 0 17 ?_
      refine Rg.t 1 18 ?_
      refine Rg.t 2 19 ?_
      refine Rg.t (v := .agg (cl m p).toArray) 3 20 ?_ (hv := fun w0 hSw => execI _ rfl rfl hSw.1)
      refine Rg.t 4 21 ?_
      refine Rg.t 5 22 ?_
      refine Rg.t 6 23 ?_
      refine Rg.t (v := .agg (cl m q).toArray) 7 24 ?_ (hv := fun w0 hSw => execI _ rfl rfl hSw.2)
      (refine Rg.o 8 (fun K hK => ?_); go_simp)
      refine (eqN m p q wr.drew (unhide HM) (unhide HD).drew (unhide HD').drew).mono ?_
      rintro e w1 ⟨rfl, b1⟩
      refine hK.out _ _ ⟨rng_below (w := wr.drew) (unhide HA) b1, rng_below (w := wr.drew) (unhide HA') b1⟩ (fun hHeld => ?_)
      clear hK K
      (try simp only [Act.put, List.setIfInBounds_toArray, List.set_cons_zero, List.set_cons_succ])
      refine Rg.t 9 26 ?_
      refine wpAnyH_done (by kernel_rfl) (NoPanic.normal ?_) _
      have hb1 := hide ((unhide hbl).drew.trans (b1.mono (by show w.heap.size ≤ wr.heap.size; exact (unhide hbl).size)))
      clear hHeld b1 HA HA' HD HD'
      go_wp2_with fail
      go_roundw
      case rel => exact ⟨j + 1, by omega, by go_num, hb1⟩
      case measure => simp [intOf]; omega
    · go_wp2
      go_ret
      exact ⟨rfl, unhide hbl⟩
set_option maxHeartbeats 8000000 in
theorem eqNt (a b d a' b' d' : Option Addr) (ca cb cd ca' cb' cd' : Nat) (t : Int) (ms : List Rm) (ps qs : List Pl) (cs : List Int) (fs : List Fm.R) (w : World) (hm : ms.length ≤ 1048576) (hc : cs.length ≤ 1048576) (hf : fs.length ≤ 1048576) (hs : ∀ i, i < ms.length → Sm (ms.getD i Rm.zero)) (hr : NR w a ms ps) (hr' : NR w a' ms qs) (hi : In.RM w b cs) (hi' : In.RM w b' cs) (hz : Fm.RM w d fs) (hz' : Fm.RM w d' fs) :
    Calls Tryz.prog 15 #[.agg #[.slice a ms.length ca, .slice b cs.length cb, .slice d fs.length cd, .int .i64 t], .agg #[.slice a' ms.length ca', .slice b' cs.length cb', .slice d' fs.length cd', .int .i64 t]] w fun e w' => e = .returned (.bool true) ∧ Below w.heap.size w w' := by
  have b0 : Below w.heap.size w ((w.alloc (.cells #[.slice a ms.length ca, .slice b cs.length cb, .slice d fs.length cd, .int .i64 t] 31)).alloc (.cells #[.slice a' ms.length ca', .slice b' cs.length cb', .slice d' fs.length cd', .int .i64 t] 31)) := ((Below.refl _ _).alloc (Nat.le_refl _) _).alloc (by simp) _
  have HX0 : Hid (NB _ w.heap.size _ _ _ _) := hide ((nb_new w (.slice a ms.length ca) (.slice b cs.length cb) (.slice d fs.length cd) t 31).below (bel_new _ (.cells #[.slice a' ms.length ca', .slice b' cs.length cb', .slice d' fs.length cd', .int .i64 t] 31)))
  have HY0 : Hid (NB _ (w.heap.size + 1) _ _ _ _) := hide (by have := nb_new (w.alloc (.cells #[.slice a ms.length ca, .slice b cs.length cb, .slice d fs.length cd, .int .i64 t] 31)) (.slice a' ms.length ca') (.slice b' cs.length cb') (.slice d' fs.length cd') t 31; simpa using this)
  have HB0 := hide b0
  have HR := hide (hr.below b0)
  have HR' := hide (hr'.below b0)
  have HI := hide (hi.below b0)
  have HI' := hide (hi'.below b0)
  have HZ := hide (hz.below b0)
  have HZ' := hide (hz'.below b0)
  have HS := hide hs
  have hne : (t != t) = false := by simp
  clear hr hr' hi hi' hz hz' hs b0
  go_enter Tryz.func15, Tryz.ntmps15
  go_wp2_with fail
  generalize (w.alloc (.cells #[.slice a ms.length ca, .slice b cs.length cb, .slice d fs.length cd, .int .i64 t] 31)).alloc (.cells #[.slice a' ms.length ca', .slice b' cs.length cb', .slice d' fs.length cd', .int .i64 t] 31) = w0 at *
  refine (eqNS _ _ ms ps qs _ _ _ hm (unhide HS) (unhide HR) (unhide HR')).mono ?_
  rintro e w1 ⟨rfl, b1⟩
  have HX1 := hide ((unhide HX0).below b1)
  have HY1 := hide ((unhide HY0).below b1)
  have HB1 := hide ((unhide HB0).trans (b1.mono (unhide HB0).size))
  have HI1 := hide ((unhide HI).below b1)
  have HI1' := hide ((unhide HI').below b1)
  have HZ1 := hide ((unhide HZ).below b1)
  have HZ1' := hide ((unhide HZ').below b1)
  clear HX0 HY0 HB0 HI HI' HZ HZ' HR HR' b1
  obtain ⟨p0, p1, p2, p3⟩ := unhide HX1
  obtain ⟨q0, q1, q2, q3⟩ := unhide HY1
  go_wp2_with fail
  clear p0 p1 p2 p3 q0 q1 q2 q3
  refine (In.eqS _ _ cs _ _ _ hc (unhide HI1) (unhide HI1')).mono ?_
  rintro e w2 ⟨rfl, b2⟩
  have HX2 := hide ((unhide HX1).below b2)
  have HY2 := hide ((unhide HY1).below b2)
  have HB2 := hide ((unhide HB1).trans (b2.mono (unhide HB1).size))
  have HZ2 := hide ((unhide HZ1).below b2)
  have HZ2' := hide ((unhide HZ1').below b2)
  clear HX1 HY1 HB1 HI1 HI1' HZ1 HZ1' b2
  obtain ⟨p0, p1, p2, p3⟩ := unhide HX2
  obtain ⟨q0, q1, q2, q3⟩ := unhide HY2
  go_wp2_with fail
  clear p0 p1 p2 p3 q0 q1 q2 q3
  refine (Fm.eqS _ _ fs _ _ _ hf (unhide HZ2) (unhide HZ2')).mono ?_
  rintro e w3 ⟨rfl, b3⟩
  have HX3 := hide ((unhide HX2).below b3)
  have HY3 := hide ((unhide HY2).below b3)
  have HB3 := hide ((unhide HB2).trans (b3.mono (unhide HB2).size))
  clear HX2 HY2 HB2 HZ2 HZ2' b3
  obtain ⟨p0, p1, p2, p3⟩ := unhide HX3
  obtain ⟨q0, q1, q2, q3⟩ := unhide HY3
  go_wp2_with fail
  go_ret
  exact ⟨rfl, unhide HB3⟩
end Nt
end Go.Proofs.YtfooahhdikobeaaGreat
namespace Go.Proofs.YtfooahhdikobeaaGreat
open Go.ChangeShapes Go.WideShapes Go.ChangeAt Go.RowKit
set_option linter.unusedVariables false
set_option linter.unusedSimpArgs false
set_option maxRecDepth 100000
attribute [local go_sem ↓] Go.wp_at_zero Go.wp_at_succ
namespace Nt
open W1 Rt
set_option maxHeartbeats 8000000 in
theorem heldNt (a b d : Option Addr) (ca cb cd : Nat) (t : Int) (K : Int) (lo hi : Nat) (ms : List Rm) (qs : List Pl) (cs : List Int) (fs : List Fm.R) (w : World) (hm : ms.length ≤ 1048576) (hc : cs.length ≤ 1048576) (hf : fs.length ≤ 1048576) (hK : 0 ≤ K) (hK1 : K + totK ms cs fs ≤ 99999990) (hs : ∀ i, i < ms.length → Sm (ms.getD i Rm.zero)) (h : MM w a b d K ms qs cs fs lo hi) :
    Calls Tryz.prog 17 #[.agg #[.slice a ms.length ca, .slice b cs.length cb, .slice d fs.length cd, .int .i64 t], .int .i64 K] w fun e w' => e = .returned (.int .i64 (K + totK ms cs fs)) ∧ Below w.heap.size w w' := by
  have b0 := bel_new w (.cells #[.slice a ms.length ca, .slice b cs.length cb, .slice d fs.length cd, .int .i64 t] 31)
  have HX0 := hide (nb_new w (.slice a ms.length ca) (.slice b cs.length cb) (.slice d fs.length cd) t 31)
  have HB0 := hide b0
  obtain ⟨f, p1, q1, p2, q2, p3, q3, _, h1, h2, h3⟩ := h.below b0
  obtain ⟨r, hr⟩ : ∃ r, K + sumK ms ms.length = r := ⟨_, rfl⟩
  have hsp := sumK_pos ms ms.length
  have hr0 : 0 ≤ r := by omega
  have hr1 : r + cs.length + 4 * fs.length ≤ 99999990 := by unfold totK at hK1; omega
  have HTK : Hid (r + (cs.length : Int) + 4 * (fs.length : Int) = K + totK ms cs fs) := hide (by unfold totK; omega)
  rw [hr] at h2 h3
  have C1 := hide (heldNF a ca p1 q1 ms.length f K ms (fun i => qs.getD i Pl.zero) _ rfl hm hK (by omega) hs h1)
  have C2 := hide (In.heldF b cb cs.length p2 q2 r _ hr0 (by omega) hc h2)
  have C3 := hide (Fm.hdFF d cd fs.length p3 q3 (r + (cs.length : Int)) _ (by omega) (by omega) hf h3)
  rw [hr] at C1
  have n1 : ¬ r < 0 := by omega
  have n2 : ¬ (r + (cs.length : Int)) < 0 := by omega
  have n3 : ¬ (r + (cs.length : Int) + 4 * (fs.length : Int)) < 0 := by omega
  clear h h1 h2 h3 b0 hK1 hs hsp hr
  go_enter Tryz.func17, Tryz.ntmps17
  obtain ⟨x0, x1, x2, x3⟩ := unhide HX0
  go_wp2_with fail
  generalize w.alloc (.cells #[.slice a ms.length ca, .slice b cs.length cb, .slice d fs.length cd, .int .i64 t] 31) = w0 at *
  refine (unhide C1).mono ?_
  rintro e w1 ⟨rfl, hw_⟩
  rw [hw_]
  clear hw_
  go_wp2_with fail
  refine (unhide C2).mono ?_
  rintro e w2 ⟨rfl, hw_⟩
  rw [hw_]
  clear hw_
  go_wp2_with fail
  refine (unhide C3).mono ?_
  rintro e w3 ⟨rfl, b3⟩
  have HB3 := hide ((unhide HB0).trans (b3.mono (unhide HB0).size))
  clear b3 x0 x1 x2 x3
  go_wp2_with fail
  go_ret
  exact ⟨by rw [unhide HTK]; rfl, unhide HB3⟩
end Nt
end Go.Proofs.YtfooahhdikobeaaGreat
namespace Go.Proofs.YtfooahhdikobeaaGreat.fnExactSetCost
open Go.ChangeShapes Go.WideShapes Go.ChangeAt Go.RowKit
open W1 Rt Nt Na
set_option linter.unusedVariables false
set_option linter.unusedSimpArgs false
theorem own : ownKnob Tryz.prog.godebug = none := by kernel_rfl
theorem laidOut : laidOutB Tryz.prog = true := by kernel_rfl
set_option maxRecDepth 100000 in
set_option maxHeartbeats 32000000 in
theorem walk (a b d : Option Addr) (ca cb cd : Nat) (t : Int) (ms : List Rm) (ps : List Pl) (cs : List Int) (fs : List Fm.R) (hx1 : ms.length ≤ maxLen) (hx2 : cs.length ≤ maxLen) (hx3 : fs.length ≤ maxLen) (hx4 : ∀ i, i < ms.length → Sx (ms.getD i Rm.zero)) (hx5 : ∀ i, i < fs.length → (fs.getD i Fm.R.zero).bs.size ≤ maxLen) (x : Int) (wx : (Lit.int .i64 x).wf = true) (y : Int) (wy : (Lit.int .i64 y).wf = true) (z : Int) (wz : (Lit.int .i64 z).wf = true) (w : World) (hr : NR w a ms ps) (hi : In.RM w b cs) (hz : Fm.RM w d fs) :
    Calls Tryz.prog 3 #[.agg #[.slice a ms.length ca, .slice b cs.length cb, .slice d fs.length cd, .int .i64 t], .int .i64 x, .int .i64 y, .int .i64 z] w fun e w' => e = .returned (.bool true) ∧ Below w.heap.size w w' := by
  have Q0 := hide (nb_new w (.slice a ms.length ca) (.slice b cs.length cb) (.slice d fs.length cd) t 26)
  have B0 := bel_new w (.cells #[.slice a ms.length ca, .slice b cs.length cb, .slice d fs.length cd, .int .i64 t] 26)
  have HR0 := hide (hr.below B0)
  have HI0 := hide (hi.below B0)
  have HZ0 := hide (hz.below B0)
  have HRW := hide hr
  have HIW := hide hi
  have HZW := hide hz
  have hq0 : (w.alloc (.cells #[.slice a ms.length ca, .slice b cs.length cb, .slice d fs.length cd, .int .i64 t] 26)).heap.size = w.heap.size + 1 := by simp
  clear hr hi hz
  go_enter Tryz.func3, Tryz.ntmps3
  obtain ⟨k0_0, k0_1, k0_2, k0_3⟩ := unhide Q0
  go_wp2_with fail
  clear k0_0 k0_1 k0_2 k0_3
  generalize hW_ : w.alloc (.cells #[.slice a ms.length ca, .slice b cs.length cb, .slice d fs.length cd, .int .i64 t] 26) = w0 at *
  clear hW_
  refine (szNt a b d ca cb cd t ms ps cs fs 1048576 _ (by omega) (by omega) hx1 hx2 hx3 hx4 hx5 (unhide HR0) (unhide HZ0)).mono ?_
  rintro e w1 ⟨r1, rfl, b1, hs_⟩
  have B1 := B0.trans (b1.mono B0.size)
  have sz1 : w0.heap.size ≤ w1.heap.size := b1.size
  have Q1 := hide ((unhide Q0).below b1)
  have HR1 := hide ((unhide HR0).below b1)
  have HI1 := hide ((unhide HI0).below b1)
  have HZ1 := hide ((unhide HZ0).below b1)
  clear Q0 HR0 HI0 HZ0
  rcases hs_ with hs_ | ⟨hs0, hs1⟩
  · go_wp2_with fail
    go_ret
    exact ⟨rfl, B1⟩
  have hnn : ¬ r1 < 0 := by omega
  have t0_ := tot_nonneg ms
  have t1_ := totF_nonneg fs
  have hm1 : ms.length ≤ 1048576 := by omega
  have hm2 : cs.length ≤ 1048576 := by omega
  have hm3 : fs.length ≤ 1048576 := by omega
  have HSM := hide (fun i (hi : i < ms.length) => sm_of (m := ms.getD i Rm.zero) (by have := cnt_le hi; omega))
  have HTB := hide (show (ms.length : Int) + tot ms + cs.length + fs.length + totF fs ≤ 1048576 by omega)
  have HGZ := hide hx5
  clear hs0 hs1 t0_ t1_ hx1 hx2 hx3 hx4 hx5
  have HTP := hide (totK_pos ms cs fs)
  have HTK := hide (totK_le (ms := ms) (cs := cs) (fs := fs) (unhide HTB))
  have HSL := hide (sc_small (x := x) (y := y) (z := z) (ms := ms) (cs := cs) (fs := fs) (t := t))
  obtain ⟨Ms, hMs_⟩ : ∃ Ms, scM (scB (netB ms cs fs t) ms.length x y z) ms = Ms := ⟨_, rfl⟩
  have HMs := hide hMs_
  clear hMs_
  obtain ⟨Cs, hCs_⟩ : ∃ Cs, scC (scB (netB ms cs fs t) ms.length x y z) cs (plc ms.length x y) z = Cs := ⟨_, rfl⟩
  have HCs := hide hCs_
  clear hCs_
  obtain ⟨Fs, hFs_⟩ : ∃ Fs, scF (scB (netB ms cs fs t) ms.length x y z) fs = Fs := ⟨_, rfl⟩
  have HFs := hide hFs_
  clear hFs_
  obtain ⟨T, hT_⟩ : ∃ T, scT (scB (netB ms cs fs t) ms.length x y z) t = T := ⟨_, rfl⟩
  have HT := hide hT_
  clear hT_
  obtain ⟨E, hE_⟩ : ∃ E, scE (netB ms cs fs t) (scB (netB ms cs fs t) ms.length x y z) = E := ⟨_, rfl⟩
  have HE := hide hE_
  clear hE_
  have nE : (E != E) = false := by simp
  rw [unhide HMs, unhide HCs, unhide HFs] at HSL
  have ho1 : Ms.length ≤ 1048576 := by have := (unhide HSL).1; omega
  have ho2 : Cs.length ≤ 1048576 := by have := (unhide HSL).2.2.1; omega
  have ho3 : Fs.length ≤ 1048576 := by have := (unhide HSL).2.2.2; omega
  have HOS := hide (fun i (h : i < Ms.length) => r64_sm ((unhide HSL).2.1 i h))
  have HOK := hide (Int.le_trans (smN_k (unhide HSL)) (by decide : (99990 : Int) ≤ 99999990))
  have HOP := hide (totK_pos Ms Cs Fs)
  obtain ⟨k0_0, k0_1, k0_2, k0_3⟩ := unhide Q1
  go_wp2_with fail
  clear k0_0 k0_1 k0_2 k0_3
  refine (toNt a b d ca cb cd t ms ps cs fs _ hm1 hm2 hm3 (unhide HSM) (unhide HR1) ((unhide HI1)) (unhide HZ1)).mono ?_
  rintro e w2 ⟨s1, s2, s3, sq, rfl, b2, o_⟩
  have B2 := B1.trans (b2.mono B1.size)
  have sz2 : w1.heap.size ≤ w2.heap.size := b2.size
  have Q2 := hide ((unhide Q1).below b2)
  have HR2 := hide ((unhide HR1).below b2)
  have HI2 := hide ((unhide HI1).below b2)
  have HZ2 := hide ((unhide HZ1).below b2)
  clear Q1 HR1 HI1 HZ1
  have S2 := hide o_
  clear o_
  go_wp2_with fail
  refine (specSC _ _ _ _ _ _ t ms _ cs fs x y z _ hm1 hm2 hm3 (unhide HSM) (unhide HGZ) (unhide S2).nr (unhide S2).ri (unhide S2).rf (unhide S2).ad).mono ?_
  rintro e w3 ⟨v_, rfl, b3, got_⟩
  have B3 := B2.trans (b3.mono B2.size)
  have sz3 : w2.heap.size ≤ w3.heap.size := b3.size
  have Q3 := hide ((unhide Q2).below b3)
  have HR3 := hide ((unhide HR2).below b3)
  have HI3 := hide ((unhide HI2).below b3)
  have HZ3 := hide ((unhide HZ2).below b3)
  have S3 := hide ((unhide S2).below b3)
  clear Q2 HR2 HI2 HZ2 S2
  rw [unhide HMs, unhide HCs, unhide HFs, unhide HT] at got_
  obtain ⟨aW, bW, dW, pW, qW, rW, sW, rfl, L_⟩ := got_
  have W3 := hide L_
  clear L_
  rw [unhide HE]
  clear S3
  have b4 := bel_new w3 (.cells #[.slice aW Ms.length pW, .slice bW Cs.length qW, .slice dW Fs.length rW, .int .i64 T] 31)
  have B4 := B3.trans (b4.mono B3.size)
  have sx4 : w3.heap.size < (w3.alloc (.cells #[.slice aW Ms.length pW, .slice bW Cs.length qW, .slice dW Fs.length rW, .int .i64 T] 31)).heap.size := by simp
  have sz4 : w3.heap.size ≤ (w3.alloc (.cells #[.slice aW Ms.length pW, .slice bW Cs.length qW, .slice dW Fs.length rW, .int .i64 T] 31)).heap.size := b4.size
  have Q4 := hide ((unhide Q3).below b4)
  have HR4 := hide ((unhide HR3).below b4)
  have HI4 := hide ((unhide HI3).below b4)
  have HZ4 := hide ((unhide HZ3).below b4)
  have W4 := hide ((unhide W3).below b4)
  clear Q3 HR3 HI3 HZ3 W3
  have VW4 := hide (nb_new w3 (.slice aW Ms.length pW) (.slice bW Cs.length qW) (.slice dW Fs.length rW) T 31)
  obtain ⟨k0_0, k0_1, k0_2, k0_3⟩ := unhide Q4
  go_wp2_with fail
  clear k0_0 k0_1 k0_2 k0_3
  generalize hW_ : (w3.alloc (.cells #[.slice aW Ms.length pW, .slice bW Cs.length qW, .slice dW Fs.length rW, .int .i64 T] 31)) = w4 at *
  clear hW_
  refine (toNt a b d ca cb cd t ms ps cs fs _ hm1 hm2 hm3 (unhide HSM) (unhide HR4) ((unhide HI4)) (unhide HZ4)).mono ?_
  rintro e w5 ⟨x1, x2, x3, xq, rfl, b5, o_⟩
  have B5 := B4.trans (b5.mono B4.size)
  have sz5 : w4.heap.size ≤ w5.heap.size := b5.size
  have Q5 := hide ((unhide Q4).below b5)
  have HR5 := hide ((unhide HR4).below b5)
  have HI5 := hide ((unhide HI4).below b5)
  have HZ5 := hide ((unhide HZ4).below b5)
  have W5 := hide ((unhide W4).below b5)
  have VW5 := hide ((unhide VW4).below b5)
  clear Q4 HR4 HI4 HZ4 W4 VW4
  have X5 := hide o_
  clear o_
  have b6 := bel_new w5 (.cells #[.slice (some ⟨x1, 0, none⟩) ms.length ms.length, .slice (some ⟨x2, 0, none⟩) cs.length cs.length, .slice (some ⟨x3, 0, none⟩) fs.length fs.length, .int .i64 t] 31)
  have B6 := B5.trans (b6.mono B5.size)
  have sz6 : w5.heap.size ≤ (w5.alloc (.cells #[.slice (some ⟨x1, 0, none⟩) ms.length ms.length, .slice (some ⟨x2, 0, none⟩) cs.length cs.length, .slice (some ⟨x3, 0, none⟩) fs.length fs.length, .int .i64 t] 31)).heap.size := b6.size
  have Q6 := hide ((unhide Q5).below b6)
  have HR6 := hide ((unhide HR5).below b6)
  have HI6 := hide ((unhide HI5).below b6)
  have HZ6 := hide ((unhide HZ5).below b6)
  have W6 := hide ((unhide W5).below b6)
  have VW6 := hide ((unhide VW5).below b6)
  have X6 := hide ((unhide X5).below b6)
  clear Q5 HR5 HI5 HZ5 W5 VW5 X5
  have V6 := hide (nb_new w5 (.slice (some ⟨x1, 0, none⟩) ms.length ms.length) (.slice (some ⟨x2, 0, none⟩) cs.length cs.length) (.slice (some ⟨x3, 0, none⟩) fs.length fs.length) t 31)
  have sx6 : w5.heap.size < (w5.alloc (.cells #[.slice (some ⟨x1, 0, none⟩) ms.length ms.length, .slice (some ⟨x2, 0, none⟩) cs.length cs.length, .slice (some ⟨x3, 0, none⟩) fs.length fs.length, .int .i64 t] 31)).heap.size := by simp
  obtain ⟨k0_0, k0_1, k0_2, k0_3⟩ := unhide V6
  go_wp2_with fail
  clear k0_0 k0_1 k0_2 k0_3
  generalize hW_ : (w5.alloc (.cells #[.slice (some ⟨x1, 0, none⟩) ms.length ms.length, .slice (some ⟨x2, 0, none⟩) cs.length cs.length, .slice (some ⟨x3, 0, none⟩) fs.length fs.length, .int .i64 t] 31)) = w6 at *
  clear hW_
  refine (implSC _ _ _ _ _ _ t ms _ cs fs x y z _ hm1 hm2 hm3 (unhide HSM) (unhide HGZ) (unhide X6).nr (unhide X6).ri (unhide X6).rf).mono ?_
  rintro e w7 ⟨v_, rfl, b7, got_⟩
  have B7 := B6.trans (b7.mono B6.size)
  have sz7 : w6.heap.size ≤ w7.heap.size := b7.size
  have Q7 := hide ((unhide Q6).below b7)
  have HR7 := hide ((unhide HR6).below b7)
  have HI7 := hide ((unhide HI6).below b7)
  have HZ7 := hide ((unhide HZ6).below b7)
  have W7 := hide ((unhide W6).below b7)
  have VW7 := hide ((unhide VW6).below b7)
  have X7 := hide ((unhide X6).below b7)
  have V7 := hide ((unhide V6).below b7)
  clear Q6 HR6 HI6 HZ6 W6 VW6 X6 V6
  rw [unhide HMs, unhide HCs, unhide HFs, unhide HT] at got_
  obtain ⟨aG, bG, dG, pG, qG, rG, sG, rfl, L_⟩ := got_
  have G7 := hide L_
  clear L_
  rw [unhide HE]
  have b8 := bel_new w7 (.cells #[.slice aG Ms.length pG, .slice bG Cs.length qG, .slice dG Fs.length rG, .int .i64 T] 31)
  have B8 := B7.trans (b8.mono B7.size)
  have sx8 : w7.heap.size < (w7.alloc (.cells #[.slice aG Ms.length pG, .slice bG Cs.length qG, .slice dG Fs.length rG, .int .i64 T] 31)).heap.size := by simp
  have sz8 : w7.heap.size ≤ (w7.alloc (.cells #[.slice aG Ms.length pG, .slice bG Cs.length qG, .slice dG Fs.length rG, .int .i64 T] 31)).heap.size := b8.size
  have Q8 := hide ((unhide Q7).below b8)
  have HR8 := hide ((unhide HR7).below b8)
  have HI8 := hide ((unhide HI7).below b8)
  have HZ8 := hide ((unhide HZ7).below b8)
  have W8 := hide ((unhide W7).below b8)
  have VW8 := hide ((unhide VW7).below b8)
  have X8 := hide ((unhide X7).below b8)
  have V8 := hide ((unhide V7).below b8)
  have G8 := hide ((unhide G7).below b8)
  clear Q7 HR7 HI7 HZ7 W7 VW7 X7 V7 G7
  have VG8 := hide (nb_new w7 (.slice aG Ms.length pG) (.slice bG Cs.length qG) (.slice dG Fs.length rG) T 31)
  obtain ⟨k0_0, k0_1, k0_2, k0_3⟩ := unhide VG8
  obtain ⟨k1_0, k1_1, k1_2, k1_3⟩ := unhide VW8
  go_wp2_with fail
  clear k0_0 k0_1 k0_2 k0_3 k1_0 k1_1 k1_2 k1_3
  generalize hW_ : (w7.alloc (.cells #[.slice aG Ms.length pG, .slice bG Cs.length qG, .slice dG Fs.length rG, .int .i64 T] 31)) = w8 at *
  clear hW_
  refine (eqNt _ _ _ _ _ _ _ _ _ _ _ _ T Ms _ _ Cs Fs _ ho1 ho2 ho3 (unhide HOS) (unhide G8).nr (unhide W8).nr (unhide G8).ri (unhide W8).ri (unhide G8).rf (unhide W8).rf).mono ?_
  rintro e w9 ⟨rfl, b9⟩
  have B9 := B8.trans (b9.mono B8.size)
  have sz9 : w8.heap.size ≤ w9.heap.size := b9.size
  have Q9 := hide ((unhide Q8).below b9)
  have HR9 := hide ((unhide HR8).below b9)
  have HI9 := hide ((unhide HI8).below b9)
  have HZ9 := hide ((unhide HZ8).below b9)
  have W9 := hide ((unhide W8).below b9)
  have VW9 := hide ((unhide VW8).below b9)
  have X9 := hide ((unhide X8).below b9)
  have V9 := hide ((unhide V8).below b9)
  have G9 := hide ((unhide G8).below b9)
  have VG9 := hide ((unhide VG8).below b9)
  clear Q8 HR8 HI8 HZ8 W8 VW8 X8 V8 G8 VG8
  obtain ⟨k0_0, k0_1, k0_2, k0_3⟩ := unhide V9
  obtain ⟨k1_0, k1_1, k1_2, k1_3⟩ := unhide Q9
  go_wp2_with fail
  clear k0_0 k0_1 k0_2 k0_3 k1_0 k1_1 k1_2 k1_3
  refine wp_region_noPanic ?_
  refine wp_region_held_drew (S := fun w' => (w'.cell? ⟨w5.heap.size, 0, none⟩ = some (.slice (some ⟨x1, 0, none⟩) ms.length ms.length) ∧ w'.cell? ⟨w5.heap.size, 1, none⟩ = some (.slice (some ⟨x2, 0, none⟩) cs.length cs.length) ∧ w'.cell? ⟨w5.heap.size, 2, none⟩ = some (.slice (some ⟨x3, 0, none⟩) fs.length fs.length) ∧ w'.cell? ⟨w5.heap.size, 3, none⟩ = some (.int .i64 t)) ∧ (w'.cell? ⟨w.heap.size, 0, none⟩ = some (.slice a ms.length ca) ∧ w'.cell? ⟨w.heap.size, 1, none⟩ = some (.slice b cs.length cb) ∧ w'.cell? ⟨w.heap.size, 2, none⟩ = some (.slice d fs.length cd) ∧ w'.cell? ⟨w.heap.size, 3, none⟩ = some (.int .i64 t))) (by kernel_rfl) (⟨unhide V9, unhide Q9⟩) (fun hHeld => ?_)
  refine Rg.t (v := .agg #[.slice (some ⟨x1, 0, none⟩) ms.length ms.length, .slice (some ⟨x2, 0, none⟩) cs.length cs.length, .slice (some ⟨x3, 0, none⟩) fs.length fs.length, .int .i64 t]) 0 53 ?_ (hv := fun w0 hSw => execNB _ rfl rfl hSw.1)
  refine Rg.t (v := .agg #[.slice a ms.length ca, .slice b cs.length cb, .slice d fs.length cd, .int .i64 t]) 1 54 ?_ (hv := fun w0 hSw => execNW _ rfl rfl hSw.2)
  (refine Rg.o 2 (fun K hK => ?_); go_simp)
  refine (toNt a b d ca cb cd t ms ps cs fs _ hm1 hm2 hm3 (unhide HSM) (unhide HR9).drew (drewI (unhide HI9)) (unhide HZ9).drew).mono ?_
  rintro e w10 ⟨y1, y2, y3, yq, rfl, b10_, o_⟩
  have b10 : Below w9.heap.size w9 w10 := (Below.refl _ _).drew.trans b10_
  have B10 := B9.trans (b10.mono B9.size)
  have sz10 : w9.heap.size ≤ w10.heap.size := b10.size
  have Q10 := hide ((unhide Q9).below b10)
  have HR10 := hide ((unhide HR9).below b10)
  have HI10 := hide ((unhide HI9).below b10)
  have HZ10 := hide ((unhide HZ9).below b10)
  have W10 := hide ((unhide W9).below b10)
  have VW10 := hide ((unhide VW9).below b10)
  have X10 := hide ((unhide X9).below b10)
  have V10 := hide ((unhide V9).below b10)
  have G10 := hide ((unhide G9).below b10)
  have VG10 := hide ((unhide VG9).below b10)
  clear Q9 HR9 HI9 HZ9 W9 VW9 X9 V9 G9 VG9
  have Y10 := hide o_
  clear o_
  refine hK.out _ _ (⟨unhide V10, unhide Q10⟩) (fun hHeld => ?_)
  clear hK K
  (try simp only [Act.put, List.setIfInBounds_toArray, List.set_cons_zero, List.set_cons_succ])
  (refine Rg.o 3 (fun K hK => ?_); go_simp)
  refine (eqNt _ _ _ _ _ _ _ _ _ _ _ _ t ms _ _ cs fs _ hm1 hm2 hm3 (unhide HSM) (unhide X10).nr (unhide Y10).nr (unhide X10).ri (unhide Y10).ri (unhide X10).rf (unhide Y10).rf).mono ?_
  rintro e w11 ⟨rfl, b11⟩
  have B11 := B10.trans (b11.mono B10.size)
  have sz11 : w10.heap.size ≤ w11.heap.size := b11.size
  have Q11 := hide ((unhide Q10).below b11)
  have HR11 := hide ((unhide HR10).below b11)
  have HI11 := hide ((unhide HI10).below b11)
  have HZ11 := hide ((unhide HZ10).below b11)
  have W11 := hide ((unhide W10).below b11)
  have VW11 := hide ((unhide VW10).below b11)
  have X11 := hide ((unhide X10).below b11)
  have V11 := hide ((unhide V10).below b11)
  have G11 := hide ((unhide G10).below b11)
  have VG11 := hide ((unhide VG10).below b11)
  have Y11 := hide ((unhide Y10).below b11)
  clear Q10 HR10 HI10 HZ10 W10 VW10 X10 V10 G10 VG10 Y10
  clear Y11
  refine hK.out _ _ (⟨unhide V11, unhide Q11⟩) (fun hHeld => ?_)
  clear hK K
  (try simp only [Act.put, List.setIfInBounds_toArray, List.set_cons_zero, List.set_cons_succ])
  refine Rg.t 4 57 ?_
  refine wpAnyH_done (by kernel_rfl) (NoPanic.normal ?_) _
  clear hHeld
  obtain ⟨k0_0, k0_1, k0_2, k0_3⟩ := unhide V11
  go_wp2_with fail
  clear k0_0 k0_1 k0_2 k0_3
  refine (markNt _ _ _ _ _ _ t 1 w4.heap.size w5.heap.size ms _ cs fs _ hm1 hm2 hm3 (by omega) (unhide HTK) (unhide HSM) (by omega) (by omega) (unhide X11).mt).mono ?_
  rintro e w12 ⟨rfl, hz_, b_, _, k_⟩
  have sz12 := hz_
  have B12 := B11.trans (b_.mono (by omega))
  clear b_
  have Q12 := hide ((unhide Q11).but (k_ w.heap.size (by omega) (.inl (by omega))))
  have HR12 := hide ((unhide HRW).below B12)
  have HI12 := hide ((unhide HIW).below B12)
  have HZ12 := hide ((unhide HZW).below B12)
  have VW12 := hide ((unhide VW11).but (k_ w3.heap.size (unhide VW11).lt (by omega)))
  have VG12 := hide ((unhide VG11).but (k_ w7.heap.size (unhide VG11).lt (by omega)))
  have W12 := hide ((unhide W11).but (L := w4.heap.size) (H := w5.heap.size) hz_ (fun k hk h => k_ k hk h) (by omega))
  have G12 := hide ((unhide G11).but (L := w4.heap.size) (H := w5.heap.size) hz_ (fun k hk h => k_ k hk h) (by omega))
  clear Q11 HR11 HI11 HZ11 VW11 VG11 W11 G11
  clear V11 X11 k_ hz_
  have hpk : ¬ (1 + totK ms cs fs < 0) := by have := unhide HTP; omega
  obtain ⟨k0_0, k0_1, k0_2, k0_3⟩ := unhide VG12
  obtain ⟨k1_0, k1_1, k1_2, k1_3⟩ := unhide VW12
  go_wp2_with fail
  clear k0_0 k0_1 k0_2 k0_3 k1_0 k1_1 k1_2 k1_3
  refine (eqNt _ _ _ _ _ _ _ _ _ _ _ _ T Ms _ _ Cs Fs _ ho1 ho2 ho3 (unhide HOS) (unhide G12).nr (unhide W12).nr (unhide G12).ri (unhide W12).ri (unhide G12).rf (unhide W12).rf).mono ?_
  rintro e w13 ⟨rfl, b13⟩
  have B13 := B12.trans (b13.mono B12.size)
  have sz13 : w12.heap.size ≤ w13.heap.size := b13.size
  have Q13 := hide ((unhide Q12).below b13)
  have HR13 := hide ((unhide HR12).below b13)
  have HI13 := hide ((unhide HI12).below b13)
  have HZ13 := hide ((unhide HZ12).below b13)
  have W13 := hide ((unhide W12).below b13)
  have VW13 := hide ((unhide VW12).below b13)
  have G13 := hide ((unhide G12).below b13)
  have VG13 := hide ((unhide VG12).below b13)
  clear Q12 HR12 HI12 HZ12 W12 VW12 G12 VG12
  obtain ⟨k0_0, k0_1, k0_2, k0_3⟩ := unhide VG13
  go_wp2_with fail
  clear k0_0 k0_1 k0_2 k0_3
  refine (markNt _ _ _ _ _ _ T 1 w6.heap.size w7.heap.size Ms _ Cs Fs _ ho1 ho2 ho3 (by omega) (unhide HOK) (unhide HOS) (by omega) (by omega) (unhide G13)).mono ?_
  rintro e w14 ⟨rfl, hz_, b_, m_, k_⟩
  have sz14 := hz_
  have B14 := B13.trans (b_.mono (by omega))
  have M14 := hide m_
  clear b_ m_
  have Q14 := hide ((unhide Q13).but (k_ w.heap.size (by omega) (.inl (by omega))))
  have HR14 := hide ((unhide HRW).below B14)
  have HI14 := hide ((unhide HIW).below B14)
  have HZ14 := hide ((unhide HZW).below B14)
  have VW14 := hide ((unhide VW13).but (k_ w3.heap.size (unhide VW13).lt (by omega)))
  have VG14 := hide ((unhide VG13).but (k_ w7.heap.size (unhide VG13).lt (by omega)))
  have W14 := hide ((unhide W13).but (L := w6.heap.size) (H := w7.heap.size) hz_ (fun k hk h => k_ k hk h) (by omega))
  clear Q13 HR13 HI13 HZ13 VW13 VG13 W13
  clear G13 k_ hz_
  have hpm : ¬ (1 + totK Ms Cs Fs < 0) := by have := unhide HOP; omega
  obtain ⟨k0_0, k0_1, k0_2, k0_3⟩ := unhide VG14
  go_wp2_with fail
  clear k0_0 k0_1 k0_2 k0_3
  refine (heldNt _ _ _ _ _ _ T 1 w6.heap.size w7.heap.size Ms _ Cs Fs _ ho1 ho2 ho3 (by omega) (unhide HOK) (unhide HOS) (unhide M14)).mono ?_
  rintro e w15 ⟨rfl, b15⟩
  have B15 := B14.trans (b15.mono B14.size)
  have sz15 : w14.heap.size ≤ w15.heap.size := b15.size
  have Q15 := hide ((unhide Q14).below b15)
  have HR15 := hide ((unhide HR14).below b15)
  have HI15 := hide ((unhide HI14).below b15)
  have HZ15 := hide ((unhide HZ14).below b15)
  have W15 := hide ((unhide W14).below b15)
  have VW15 := hide ((unhide VW14).below b15)
  have VG15 := hide ((unhide VG14).below b15)
  have M15 := hide ((unhide M14).below b15)
  clear Q14 HR14 HI14 HZ14 W14 VW14 VG14 M14
  obtain ⟨k0_0, k0_1, k0_2, k0_3⟩ := unhide Q15
  go_wp2_with fail
  clear k0_0 k0_1 k0_2 k0_3
  refine (toNt a b d ca cb cd t ms ps cs fs _ hm1 hm2 hm3 (unhide HSM) (unhide HR15) ((unhide HI15)) (unhide HZ15)).mono ?_
  rintro e w16 ⟨z1, z2, z3, zq, rfl, b16, o_⟩
  have B16 := B15.trans (b16.mono B15.size)
  have sz16 : w15.heap.size ≤ w16.heap.size := b16.size
  have Q16 := hide ((unhide Q15).below b16)
  have HR16 := hide ((unhide HR15).below b16)
  have HI16 := hide ((unhide HI15).below b16)
  have HZ16 := hide ((unhide HZ15).below b16)
  have W16 := hide ((unhide W15).below b16)
  have VW16 := hide ((unhide VW15).below b16)
  have VG16 := hide ((unhide VG15).below b16)
  have M16 := hide ((unhide M15).below b16)
  clear Q15 HR15 HI15 HZ15 W15 VW15 VG15 M15
  have Z16 := hide o_
  clear o_
  go_wp2_with fail
  refine (implSC _ _ _ _ _ _ t ms _ cs fs x y z _ hm1 hm2 hm3 (unhide HSM) (unhide HGZ) (unhide Z16).nr (unhide Z16).ri (unhide Z16).rf).mono ?_
  rintro e w17 ⟨v_, rfl, b17, got_⟩
  have B17 := B16.trans (b17.mono B16.size)
  have sz17 : w16.heap.size ≤ w17.heap.size := b17.size
  have Q17 := hide ((unhide Q16).below b17)
  have HR17 := hide ((unhide HR16).below b17)
  have HI17 := hide ((unhide HI16).below b17)
  have HZ17 := hide ((unhide HZ16).below b17)
  have W17 := hide ((unhide W16).below b17)
  have VW17 := hide ((unhide VW16).below b17)
  have VG17 := hide ((unhide VG16).below b17)
  have M17 := hide ((unhide M16).below b17)
  have Z17 := hide ((unhide Z16).below b17)
  clear Q16 HR16 HI16 HZ16 W16 VW16 VG16 M16 Z16
  rw [unhide HMs, unhide HCs, unhide HFs, unhide HT] at got_
  obtain ⟨aH, bH, dH, pH, qH, rH, sH, rfl, L_⟩ := got_
  have H17 := hide L_
  clear L_
  rw [unhide HE]
  clear Z17
  have b18 := bel_new w17 (.cells #[.slice aH Ms.length pH, .slice bH Cs.length qH, .slice dH Fs.length rH, .int .i64 T] 31)
  have B18 := B17.trans (b18.mono B17.size)
  have sx18 : w17.heap.size < (w17.alloc (.cells #[.slice aH Ms.length pH, .slice bH Cs.length qH, .slice dH Fs.length rH, .int .i64 T] 31)).heap.size := by simp
  have sz18 : w17.heap.size ≤ (w17.alloc (.cells #[.slice aH Ms.length pH, .slice bH Cs.length qH, .slice dH Fs.length rH, .int .i64 T] 31)).heap.size := b18.size
  have Q18 := hide ((unhide Q17).below b18)
  have HR18 := hide ((unhide HR17).below b18)
  have HI18 := hide ((unhide HI17).below b18)
  have HZ18 := hide ((unhide HZ17).below b18)
  have W18 := hide ((unhide W17).below b18)
  have VW18 := hide ((unhide VW17).below b18)
  have VG18 := hide ((unhide VG17).below b18)
  have M18 := hide ((unhide M17).below b18)
  have H18 := hide ((unhide H17).below b18)
  clear Q17 HR17 HI17 HZ17 W17 VW17 VG17 M17 H17
  have VH18 := hide (nb_new w17 (.slice aH Ms.length pH) (.slice bH Cs.length qH) (.slice dH Fs.length rH) T 31)
  obtain ⟨k0_0, k0_1, k0_2, k0_3⟩ := unhide VH18
  obtain ⟨k1_0, k1_1, k1_2, k1_3⟩ := unhide VW18
  go_wp2_with fail
  clear k0_0 k0_1 k0_2 k0_3 k1_0 k1_1 k1_2 k1_3
  generalize hW_ : (w17.alloc (.cells #[.slice aH Ms.length pH, .slice bH Cs.length qH, .slice dH Fs.length rH, .int .i64 T] 31)) = w18 at *
  clear hW_
  refine (eqNt _ _ _ _ _ _ _ _ _ _ _ _ T Ms _ _ Cs Fs _ ho1 ho2 ho3 (unhide HOS) (unhide H18).nr (unhide W18).nr (unhide H18).ri (unhide W18).ri (unhide H18).rf (unhide W18).rf).mono ?_
  rintro e w19 ⟨rfl, b19⟩
  have B19 := B18.trans (b19.mono B18.size)
  have sz19 : w18.heap.size ≤ w19.heap.size := b19.size
  have Q19 := hide ((unhide Q18).below b19)
  have HR19 := hide ((unhide HR18).below b19)
  have HI19 := hide ((unhide HI18).below b19)
  have HZ19 := hide ((unhide HZ18).below b19)
  have W19 := hide ((unhide W18).below b19)
  have VW19 := hide ((unhide VW18).below b19)
  have VG19 := hide ((unhide VG18).below b19)
  have M19 := hide ((unhide M18).below b19)
  have H19 := hide ((unhide H18).below b19)
  have VH19 := hide ((unhide VH18).below b19)
  clear Q18 HR18 HI18 HZ18 W18 VW18 VG18 M18 H18 VH18
  obtain ⟨k0_0, k0_1, k0_2, k0_3⟩ := unhide VG19
  go_wp2_with fail
  clear k0_0 k0_1 k0_2 k0_3
  refine (heldNt _ _ _ _ _ _ T 1 w6.heap.size w7.heap.size Ms _ Cs Fs _ ho1 ho2 ho3 (by omega) (unhide HOK) (unhide HOS) (unhide M19)).mono ?_
  rintro e w20 ⟨rfl, b20⟩
  have B20 := B19.trans (b20.mono B19.size)
  have sz20 : w19.heap.size ≤ w20.heap.size := b20.size
  have Q20 := hide ((unhide Q19).below b20)
  have HR20 := hide ((unhide HR19).below b20)
  have HI20 := hide ((unhide HI19).below b20)
  have HZ20 := hide ((unhide HZ19).below b20)
  have W20 := hide ((unhide W19).below b20)
  have VW20 := hide ((unhide VW19).below b20)
  have VG20 := hide ((unhide VG19).below b20)
  have M20 := hide ((unhide M19).below b20)
  have H20 := hide ((unhide H19).below b20)
  have VH20 := hide ((unhide VH19).below b20)
  clear Q19 HR19 HI19 HZ19 W19 VW19 VG19 M19 H19 VH19
  have HF := hide B20
  go_wp2_with fail
  go_ret
  exact ⟨rfl, unhide HF⟩

end Go.Proofs.YtfooahhdikobeaaGreat.fnExactSetCost
