/-
  Of the texts NetNi, NetNs, NetPi, NetPs, NetE, NetHc, ExPlainNetW: what this claim needs of them. (put together by mkprune.py)
-/
import Derived.Test.YtpmlpojefelbbaaQf4
import Derived.Deep.Cut
import Derived.Deep.DeepHandedRow
namespace Go.Proofs.Ytpmlpojefelbbaa
open Go.ChangeShapes Go.WideShapes Go.ChangeAt Go.RowKit
set_option linter.unusedVariables false
set_option linter.unusedSimpArgs false
set_option maxRecDepth 100000
attribute [local go_sem ↓] Go.wp_at_zero Go.wp_at_succ
namespace Nt
open W1 Rt Na
theorem mt_new {W : World} {lo hi g p2 q2 n : Nat} {b : Option Addr} {ms : List Rm} {qs : List Pl} {cs : List Int} (hn : ms.length = n) (h1 : lo ≤ p2) (h2 : q2 ≤ g) (h4 : lo ≤ g) (h3 : g < hi) (hg : g < W.heap.size) (hr : ∀ i, i < n → W.rangeAt g (i * 13) (cl (ms.getD i Rm.zero) (qs.getD i Pl.zero))) (ht : W.there g 0 (n * 13)) (ho : ∀ i, i < n → ∃ x y, ms.getD i Rm.zero = newM x y 0 0 0) (hc : In.Lst W b cs p2 q2) : MT W lo hi (some ⟨g, 0, none⟩) b none ms qs cs [] := by
  subst hn
  refine ⟨fun _ => g, g, g + 1, p2, q2, lo, lo, by omega, by omega, by omega, by omega, by omega, by omega, ?_, hc, .inl rfl⟩
  refine .inr ⟨g, rfl, Nat.le_refl _, by omega, hg, fun i hi => .inr (Nat.le_refl _), fun i hi => Nat.le_refl _, fun i hi => ⟨Nat.le_refl _, Nat.le_succ _, Nat.le_of_lt hg⟩, hr, ht, fun i hi => ?_⟩
  obtain ⟨x, y, e⟩ := ho i hi
  dsimp only
  rw [e]
  exact newM_ow (Nat.le_refl _)
set_option maxHeartbeats 16000000 in
theorem implNN (a b : Option Addr) (ca cb : Nat) (ws cs : List Int) (w : World) (hm : ws.length ≤ 1048576) (hc : cs.length ≤ 1048576) (hr : In.RM w a ws) (hi : In.RM w b cs) :
    Calls Try.prog 7 #[.slice a ws.length ca, .slice b cs.length cb] w fun e w' => ∃ v, e = .returned (.tuple #[v, .int .i64 (nnE ws cs)]) ∧ Below w.heap.size w w' ∧ GotM v w w' (nnM (nnE ws cs) ws) (nnC (nnE ws cs) cs) [] 0 := by
  have HB0 := hide (bel_new w (.cells #[.slice none 0 0, .slice none 0 0, .slice none 0 0, .int .i64 0] 26))
  have hq0 : (w.alloc (.cells #[.slice none 0 0, .slice none 0 0, .slice none 0 0, .int .i64 0] 26)).heap.size = w.heap.size + 1 := by simp
  have TZ0 := hide (there_new4 w (.slice none 0 0) (.slice none 0 0) (.slice none 0 0) (.int .i64 0) 26)
  by_cases hA : 4096 < ws.length
  · have hE : nnE ws cs = 2 := by unfold nnE; rw [if_pos (.inl hA)]
    rw [hE, show nnM 2 ws = [] from rfl, show nnC 2 cs = [] from rfl]
    clear hE
    have k1 : (4096 : Int) < (ws.length : Int) := by omega
    clear hr hi hA hm hc
    go_enter Try.func7, Try.ntmps7
    obtain ⟨V0, hV0⟩ : ∃ V, w.alloc (.cells #[.slice none 0 0, .slice none 0 0, .slice none 0 0, .int .i64 0] 26) = V := ⟨_, rfl⟩
    rw [hV0] at HB0 TZ0 hq0
    go_wp2_with (first | (refine storeNB _ _ rfl rfl rfl rfl rfl (unhide TZ0) rfl rfl ?_; intro V9 n9 t9 bb9 s9 k9))
    (try rw [Exit.noGoto_ret])
    have hlt_ : w.heap.size ≤ V9.heap.size := (bb9 _ _ (unhide HB0) (Nat.le_refl _)).size
    refine bodyPost_ret (v := .tuple #[.agg #[.slice none 0 0, .slice none 0 0, .slice none 0 0, .int .i64 0], .int .i64 2]) (Na.resultsNC rfl _ _ rfl n9 rfl) rfl ⟨_, rfl, bb9 _ _ (unhide HB0) (Nat.le_refl _), Na.gotM_nil hlt_⟩
  have k1 : ¬ (4096 : Int) < (ws.length : Int) := by omega
  by_cases hB : 4096 < cs.length
  · have hE : nnE ws cs = 2 := by unfold nnE; rw [if_pos (.inr hB)]
    rw [hE, show nnM 2 ws = [] from rfl, show nnC 2 cs = [] from rfl]
    clear hE
    have k2 : (4096 : Int) < (cs.length : Int) := by omega
    clear hr hi hA hm hc hB
    go_enter Try.func7, Try.ntmps7
    obtain ⟨V0, hV0⟩ : ∃ V, w.alloc (.cells #[.slice none 0 0, .slice none 0 0, .slice none 0 0, .int .i64 0] 26) = V := ⟨_, rfl⟩
    rw [hV0] at HB0 TZ0 hq0
    go_wp2_with (first | (refine storeNB _ _ rfl rfl rfl rfl rfl (unhide TZ0) rfl rfl ?_; intro V9 n9 t9 bb9 s9 k9))
    (try rw [Exit.noGoto_ret])
    have hlt_ : w.heap.size ≤ V9.heap.size := (bb9 _ _ (unhide HB0) (Nat.le_refl _)).size
    refine bodyPost_ret (v := .tuple #[.agg #[.slice none 0 0, .slice none 0 0, .slice none 0 0, .int .i64 0], .int .i64 2]) (Na.resultsNC rfl _ _ rfl n9 rfl) rfl ⟨_, rfl, bb9 _ _ (unhide HB0) (Nat.le_refl _), Na.gotM_nil hlt_⟩
  have k2 : ¬ (4096 : Int) < (cs.length : Int) := by omega
  have KW := hide (fun W => within ws.length 1 6 W)
  have HE0 : Hid (nnE ws cs = if inB ws.length 1 6 = true then (if costB cs ws.length = true then (if allI ws.length (willB ws) = true then 0 else 4) else 1) else 6) := hide (by unfold nnE; rw [if_neg (by omega)])
  cases hin : inB ws.length 1 6
  · have hE : nnE ws cs = 6 := by rw [unhide HE0, hin]; rfl
    rw [hE, show nnM 6 ws = [] from rfl, show nnC 6 cs = [] from rfl]
    rw [hin] at KW
    clear hE HE0 hr hi hA hB hm hc hin
    go_enter Try.func7, Try.ntmps7
    obtain ⟨V0, hV0⟩ : ∃ V, w.alloc (.cells #[.slice none 0 0, .slice none 0 0, .slice none 0 0, .int .i64 0] 26) = V := ⟨_, rfl⟩
    rw [hV0] at HB0 TZ0 hq0
    go_wp2_with (first | (go_at_call 18; refine (unhide KW _).mono ?_; rintro e w_ ⟨rfl, rfl⟩) | (refine storeNB _ _ rfl rfl rfl rfl rfl (unhide TZ0) rfl rfl ?_; intro V9 n9 t9 bb9 s9 k9))
    (try rw [Exit.noGoto_ret])
    have hlt_ : w.heap.size ≤ V9.heap.size := (bb9 _ _ (unhide HB0) (Nat.le_refl _)).size
    refine bodyPost_ret (v := .tuple #[.agg #[.slice none 0 0, .slice none 0 0, .slice none 0 0, .int .i64 0], .int .i64 6]) (Na.resultsNC rfl _ _ rfl n9 rfl) rfl ⟨_, rfl, bb9 _ _ (unhide HB0) (Nat.le_refl _), Na.gotM_nil hlt_⟩
  have h16 : (1 : Int) ≤ (ws.length : Int) ∧ (ws.length : Int) ≤ 6 := by simpa [inB] using hin
  have KC := hide (fun (W : World) (h : Below w.heap.size w W) => areCosts b cs cb ws.length W hc (by omega) (by omega) (hi.below h))
  rw [hin] at KW
  cases hcb : costB cs ws.length
  · have hE : nnE ws cs = 1 := by rw [unhide HE0, hin, hcb]; rfl
    rw [hE, show nnM 1 ws = [] from rfl, show nnC 1 cs = [] from rfl]
    rw [hcb] at KC
    clear hE HE0 hr hi hA hB hm hc hin hcb
    go_enter Try.func7, Try.ntmps7
    obtain ⟨V0, hV0⟩ : ∃ V, w.alloc (.cells #[.slice none 0 0, .slice none 0 0, .slice none 0 0, .int .i64 0] 26) = V := ⟨_, rfl⟩
    rw [hV0] at HB0 TZ0 hq0
    go_wp2_with (first | (go_at_call 18; refine (unhide KW _).mono ?_; rintro e w_ ⟨rfl, rfl⟩) )
    refine (unhide KC _ (unhide HB0)).mono ?_
    rintro e V1 ⟨rfl, b1⟩
    have HB1 := hide ((unhide HB0).trans (b1.mono (unhide HB0).size))
    have TZ1 := hide (there_under (unhide TZ0) b1 (by omega))
    clear b1
    go_wp2_with (first | (refine storeNB _ _ rfl rfl rfl rfl rfl (unhide TZ1) rfl rfl ?_; intro V9 n9 t9 bb9 s9 k9))
    (try rw [Exit.noGoto_ret])
    have hlt_ : w.heap.size ≤ V9.heap.size := (bb9 _ _ (unhide HB1) (Nat.le_refl _)).size
    refine bodyPost_ret (v := .tuple #[.agg #[.slice none 0 0, .slice none 0 0, .slice none 0 0, .int .i64 0], .int .i64 1]) (Na.resultsNC rfl _ _ rfl n9 rfl) rfl ⟨_, rfl, bb9 _ _ (unhide HB1) (Nat.le_refl _), Na.gotM_nil hlt_⟩
  have HE : Hid (nnE ws cs = if allI ws.length (willB ws) = true then 0 else 4) := hide (by rw [unhide HE0, hin, hcb]; rfl)
  rw [hcb] at KC
  rcases hr with e0 | ⟨g0, off, rfl, hcc⟩
  · exfalso; rw [e0] at h16; simp at h16
  have HR : Hid (∀ W, Below w.heap.size w W → ∀ j, j < ws.length → W.cell? ⟨g0, off + j, none⟩ = some (.int .i64 (ws.getD j 0))) := hide (fun W hW j hj => by
    have h0 := hcc j hj
    rw [hW.cell (World.block_lt_of_cell? _ _ h0)]; exact h0)
  have HI := hide hi
  have HNO := hide (fun (j : Nat) (h1 : j < ws.length) (h2 : willB ws j = false) => allI_no (p := willB ws) (j := j) h1 h2)
  have HYES := hide (fun (h : ∀ i, i < ws.length → willB ws i = true) => allI_yes h)
  obtain ⟨n, hN⟩ : ∃ n, ws.length = n := ⟨_, rfl⟩
  have HN := hide hN
  rw [hN] at KW KC HE h16 k1 HR HNO HYES ⊢
  obtain ⟨E, hEE⟩ : ∃ E, nnE ws cs = E := ⟨_, rfl⟩
  obtain ⟨Ms, hMs⟩ : ∃ M, nnM E ws = M := ⟨_, rfl⟩
  obtain ⟨Cs, hCs⟩ : ∃ M, nnC E cs = M := ⟨_, rfl⟩
  have HM4 := hide (show E = 4 → Ms = [] ∧ Cs = [] from fun h => by rw [← hMs, ← hCs, h]; exact ⟨rfl, rfl⟩)
  have HM0 := hide (show E = 0 → Ms = nnR ws n ∧ Cs = cs from fun h => by rw [← hMs, ← hCs, h, ← unhide HN]; exact ⟨rfl, rfl⟩)
  rw [hEE, hMs, hCs]
  have HEE := hide hEE
  clear HE0 hcc hi hA hB hm hin hcb hN hEE hMs hCs
  have hc4 : cs.length ≤ 4096 := by omega
  clear hc
  go_enter Try.func7, Try.ntmps7
  obtain ⟨V0, hV0⟩ : ∃ V, w.alloc (.cells #[.slice none 0 0, .slice none 0 0, .slice none 0 0, .int .i64 0] 26) = V := ⟨_, rfl⟩
  rw [hV0] at HB0 TZ0 hq0
  go_wp2_with (first | (go_at_call 18; refine (unhide KW _).mono ?_; rintro e w_ ⟨rfl, rfl⟩) )
  refine (unhide KC _ (unhide HB0)).mono ?_
  rintro e V1 ⟨rfl, b1⟩
  have HB1 := hide ((unhide HB0).trans (b1.mono (unhide HB0).size))
  have TZ1 := hide (there_under (unhide TZ0) b1 (by omega))
  have hq1 := b1.size
  clear b1 HB0 TZ0
  go_wp2_with fail
  refine (copyIO b cs cb _ hc4 ((unhide HI).below (unhide HB1))).mono ?_
  rintro e V2 ⟨v, rfl, d2, lv, _⟩
  obtain ⟨b', cb', rfl, l2⟩ := lv
  have HB2 := hide ((unhide HB1).trans (d2.mono (unhide HB1).size))
  have TZ2 := hide (there_under (unhide TZ1) d2 (by omega))
  have hq2 := d2.size
  have LC2 := hide l2
  clear d2 l2 HB1 TZ1 KC KW HI
  obtain ⟨N, hNq⟩ : ∃ N, V2.heap.size = N := ⟨_, rfl⟩
  have hwN : w.heap.size < N := by omega
  have HB3 := hide ((unhide HB2).trans ((bel_new V2 (.cells #[.slice none 0 0, .slice b' cs.length cb', .slice none 0 0, .int .i64 0] 26)).mono (unhide HB2).size))
  have HD3 := hide (bel_new V2 (.cells #[.slice none 0 0, .slice b' cs.length cb', .slice none 0 0, .int .i64 0] 26))
  have HX3 := hide (nb_new V2 (.slice none 0 0) (.slice b' cs.length cb') (.slice none 0 0) 0 26)
  have TX3 := hide (there_new4 V2 (.slice none 0 0) (.slice b' cs.length cb') (.slice none 0 0) (.int .i64 0) 26)
  have TZ3 := hide (there_under (unhide TZ2) (unhide HD3) (by omega))
  have OW3 := hide (ownN_nil (V2.alloc (.cells #[.slice none 0 0, .slice b' cs.length cb', .slice none 0 0, .int .i64 0] 26)) (N + 1))
  go_wp2_with fail
  rw [hNq] at HD3 HX3 TX3
  try rw [hNq]
  clear TZ2 HB2
  go_loopw [39] (fun i wr => ∃ j : Nat, j ≤ n ∧ i = .int .i64 j ∧ ∃ (v : Value) (xs : List (Rm × Pl)), xs.length = j ∧ Hid (∀ i, i < j → (xs.getD i zP).1 = newM ((i : Int) + 1) (ws.getD i 0) 0 0 0) ∧ Hid (∀ i, i < j → willB ws i = true) ∧ Hid (wr.ownsRow (N + 1) 46 13 v xs.length (fl xs)) ∧ Hid (Below w.heap.size w wr) ∧ Hid (Below N V2 wr) ∧ Hid (NB wr N v (.slice b' cs.length cb') (.slice none 0 0) 0) ∧ Hid (wr.there N 0 4) ∧ Hid (wr.there w.heap.size 0 4)) (fun i _ => n - (intOf i).toNat)
  case atStart => exact ⟨0, by omega, rfl, .slice none 0 0, [], rfl, hide (fun i hi => absurd hi (Nat.not_lt_zero i)), hide (fun i hi => absurd hi (Nat.not_lt_zero i)), OW3, HB3, HD3, HX3, TX3, TZ3⟩
  case round =>
    clear HB3 HD3 HX3 TX3 TZ3 OW3
    obtain ⟨j, hj, rfl, v, xs, hxl, hfs, hwl, how, hb, hd, hx, tx, tz⟩ := hrel
    by_cases hlt : (j : Int) < (n : Int)
    · have k0 : (0 : Int) ≤ (j : Int) := by omega
      have hjn : j < n := by omega
      have HC := unhide HR wr (unhide hb) j hjn
      have HK := hide (implNewA ((j : Int) + 1) (ws.getD j 0) wr (by simp [inB]; omega))
      have hNw : N < wr.heap.size := (unhide hx).lt
      have HSH : Hid (∀ W W3 : World, Below wr.heap.size wr W → W.grownBy W3 v.ownBlock → NB W3 N v (.slice b' cs.length cb') (.slice none 0 0) 0 ∧ W3.there N 0 4 ∧ W3.there w.heap.size 0 4 ∧ Below w.heap.size w W3 ∧ Below N V2 W3) := hide (fun W W3 bl hg => by
        have hk : ∀ k, k < N + 1 → W3.heap[k]? = wr.heap[k]? := fun k hk => (hg.block k (by have := bl.size; omega) (fun e => by have := ((unhide how).lt k e.symm).1; omega)).trans (bl.block k (by omega))
        exact ⟨(unhide hx).but (hk _ (by omega)), there_blk (unhide tx) (hk _ (by omega)), there_blk (unhide tz) (hk _ (by omega)), belN_own ((unhide hb).trans (bl.mono (unhide hb).size)) (ownN_bel (unhide how) bl) hg (by omega) (by have := bl.size; omega), belN_own ((unhide hd).trans (bl.mono (by omega))) (ownN_bel (unhide how) bl) hg (by omega) (by have := bl.size; omega)⟩)
      have HX1 := hide (fun (W : World) (bl : Below wr.heap.size wr W) => (unhide hx).below bl)
      have HT1 := hide (fun (W : World) (bl : Below wr.heap.size wr W) => there_under (unhide tz) bl (by omega))
      have HW1 := hide (fun (W : World) (bl : Below wr.heap.size wr W) => (unhide hb).trans (bl.mono (unhide hb).size))
      cases hwj : willB ws j
      · obtain rfl : E = 4 := by rw [← unhide HEE, unhide HE, unhide HNO j hjn hwj]; rfl
        obtain ⟨rfl, rfl⟩ := unhide HM4 rfl
        rw [show inB (ws.getD j 0) 0 7 = false from hwj] at HK
        clear HSH how hx tx tz hfs hwl hd hwj
        generalize ws.getD j 0 = y at HC HK
        go_wp2_with fail
        refine (unhide HK).mono ?_
        rintro e w1 ⟨q, rfl, b1⟩
        rw [if_neg (by simp), if_neg (by simp)]
        clear HK
        have hxv := hide (unhide HT1 _ b1)
        go_wp2_with (first | (refine wpList_storeR2 _ _ rfl rfl (cl (newM 0 0 0 0 0) q) (cl_ones _ q) rfl rfl (ra_new w1 (rC 0 0 0 0 0 (.slice none 0 0) (.slice none 0 0) (.slice none 0 0) (.slice none 0 0) (.slice none 0 0) (.slice none 0 0) (.slice none 0 0) 0) rfl 46).2.1 ?_; intro w3 ra bb hs3 hk3; have bl : Below wr.heap.size wr w3 := bb _ _ (b1.trans ((bel_new w1 _).mono b1.size)) b1.size; have TQ := hide (unhide HT1 _ bl); have HQ := hide (unhide HW1 _ bl); clear ra bb bl) | (refine storeNB _ _ rfl rfl rfl rfl rfl (unhide TQ) rfl rfl ?_; intro V9 n9 t9 bb9 s9 k9))
        (try rw [Exit.noGoto_ret])
        have hlt_ : w.heap.size ≤ V9.heap.size := (bb9 _ _ (unhide HQ) (Nat.le_refl _)).size
        refine bodyPost_ret (v := .tuple #[.agg #[.slice none 0 0, .slice none 0 0, .slice none 0 0, .int .i64 0], .int .i64 4]) (Na.resultsNC rfl _ _ rfl n9 rfl) rfl ⟨_, rfl, bb9 _ _ (unhide HQ) (Nat.le_refl _), Na.gotM_nil hlt_⟩
      · rw [show inB (ws.getD j 0) 0 7 = true from hwj] at HK
        have HFS := hide (fun (q : Pl) (i : Nat) (hi : i < j + 1) => show (((xs ++ [(newM ((j : Int) + 1) (ws.getD j 0) 0 0 0, q)]).getD i zP).1 = newM ((i : Int) + 1) (ws.getD i 0) 0 0 0) by
          by_cases e1 : i = j
          · rw [getD_snoc_eq _ _ _ (by omega), e1]
          · rw [getD_snoc_lt _ _ _ (by omega)]; exact unhide hfs i (by omega))
        have HWL := hide (fun (i : Nat) (hi : i < j + 1) => show willB ws i = true by
          by_cases e1 : i = j
          · rw [e1]; exact hwj
          · exact unhide hwl i (by omega))
        have HOW := hide (fun (W : World) (bl : Below wr.heap.size wr W) => ownN_bel (unhide how) bl)
        have HXL := hide hxl
        clear how hx tx tz hfs hwl hd hwj hxl
        generalize ws.getD j 0 = y at HC HK HFS
        go_wp2_with fail
        refine (unhide HK).mono ?_
        rintro e w1 ⟨q, rfl, b1⟩
        rw [if_pos trivial, if_pos trivial]
        obtain ⟨m, hm⟩ : ∃ m, newM ((j : Int) + 1) y 0 0 0 = m := ⟨_, rfl⟩
        rw [hm] at HFS ⊢
        clear HK hm
        have hsz1 := b1.size
        go_wp2_with (first | (refine wpList_storeR2 _ _ rfl rfl (cl m q) (cl_ones _ q) rfl rfl (ra_new w1 (rC 0 0 0 0 0 (.slice none 0 0) (.slice none 0 0) (.slice none 0 0) (.slice none 0 0) (.slice none 0 0) (.slice none 0 0) (.slice none 0 0) 0) rfl 46).2.1 ?_; intro w3 ra bb hs3 hk3; have bl : Below wr.heap.size wr w3 := bb _ _ (b1.trans ((bel_new w1 _).mono b1.size)) b1.size; have hsz3 := bl.size; obtain ⟨y0, y1, y2, y3⟩ := unhide HX1 _ bl; have OW1 := hide (unhide HOW _ bl); have BL := hide (bl.alloc bl.size (.cells (cl m q).toArray 46)); clear bb bl hs3) | (refine wpList_loadR _ rfl rfl rfl ra ?_; rw [show (cl m q).toArray = #[.int .i64 m.x1, .int .i64 m.x2, .int .i64 m.x3, .int .i64 m.x4, .int .i64 m.x5, .slice q.a1 m.ls.length q.c1, .slice q.a2 m.tw.length q.c2, .slice q.a3 m.se.length q.c3, .slice q.a4 m.du.length q.c4, .slice q.a5 m.ss.length q.c5, .slice q.a6 m.es.length q.c6, .slice q.a7 m.la.length q.c7, .int .i64 m.x6] from rfl]) | (at_builtin; refine wpList_apN ((unhide OW1).alloc _) w3.heap.size 0 1 1 [(m, q)] rfl (rwN_new w3 m q) (by simp only [List.length_cons, List.length_nil]; have := unhide HXL; omega) (by simp; omega) rfl _ _ rfl rfl rfl ?_; intro v' w' ho hg; obtain ⟨k1, hk1⟩ : ∃ k, (xs ++ [(m, q)]).length = k := ⟨_, rfl⟩; rw [hk1] at ho; obtain ⟨g', c', rfl⟩ := own_form ho (by rw [← hk1]; simp); have HK1 := hide hk1; clear hk1; have HO' := hide ho; have HG' := hide (unhide HSH _ w' (unhide BL) hg); have ff := free_at (unhide HG').2.1 (k := 0) (by omega); obtain ⟨z0, z1, z2, z3⟩ := (unhide HG').1; clear ho hg))
        have hlt_ := (unhide HO').lt
        have hkN : ∀ x, x ≠ N → (w'.setCell ⟨N, 0, none⟩ (.slice (some ⟨g', 0, none⟩) k1 c')).heap[x]? = w'.heap[x]? := fun x hx => Below.heap_setCell _ _ _ _ hx
        have R1 := hide (own_blk (unhide HO') (fun g e => hkN g (by have := hlt_ g e; omega)))
        have R2 := hide ((unhide HG').2.2.2.1.setCell (p := ⟨N, 0, none⟩) (by show w.heap.size ≤ N; omega) (.slice (some ⟨g', 0, none⟩) k1 c'))
        have R3 := hide ((unhide HG').2.2.2.2.setCell (p := ⟨N, 0, none⟩) (Nat.le_refl N) (.slice (some ⟨g', 0, none⟩) k1 c'))
        have R4 := hide ((unhide HG').1.set0 (.slice (some ⟨g', 0, none⟩) k1 c'))
        have R5 := hide (there_at (p := ⟨N, 0, none⟩) (v := .slice (some ⟨g', 0, none⟩) k1 c') (unhide HG').2.1)
        have R6 := hide (there_at (p := ⟨N, 0, none⟩) (v := .slice (some ⟨g', 0, none⟩) k1 c') (unhide HG').2.2.1)
        clear HG' HO' ff z0 z1 z2 z3 y0 y1 y2 y3 hkN hlt_ ra
        go_roundw
        case rel => exact ⟨j + 1, by omega, by go_num, _, xs ++ [(m, q)], by rw [List.length_append, unhide HXL]; rfl, hide (unhide HFS q), HWL, by rw [unhide HK1]; exact R1, R2, R3, R4, R5, R6⟩
        case measure => simp [intOf]; omega
    · obtain rfl : n = j := by omega
      obtain ⟨g, c, ev⟩ := own_form (unhide how) (by omega)
      rw [hxl] at ev
      have how2 := unhide how
      rw [ev, hxl] at how2
      obtain ⟨r1, r2, r3, r4⟩ := rws_own hxl.symm how2
      obtain rfl : E = 0 := by rw [← unhide HEE, unhide HE, unhide HYES (unhide hwl)]; rfl
      obtain ⟨rfl, rfl⟩ := unhide HM0 rfl
      rw [ev] at hx
      obtain ⟨y0, y1, y2, y3⟩ := unhide hx
      have R1 := hide r1
      have R2 := hide r2
      clear how how2 r1 r2 hwl ev
      go_wp2_with (refine storeNB _ _ rfl rfl rfl rfl rfl (unhide tz) rfl rfl ?_; intro V9 n9 t9 bb9 s9 k9)
      (try rw [Exit.noGoto_ret])
      have hzt := (unhide tz)
      have hqm : V1.heap.size ≤ V2.heap.size := hq2
      refine bodyPost_ret (v := .tuple #[.agg #[.slice (some ⟨g, 0, none⟩) n c, .slice b' Cs.length cb', .slice none 0 0, .int .i64 0], .int .i64 0]) (Na.resultsNC rfl _ _ rfl n9 rfl) rfl ⟨_, rfl, bb9 _ _ (unhide hb) (Nat.le_refl _), some ⟨g, 0, none⟩, b', none, c, cb', 0, xs.map (·.2), by rw [nnR_len]; rfl, ?_⟩
      refine mt_new (g := g) (p2 := V1.heap.size) (q2 := V2.heap.size) (nnR_len ws n) (by omega) (by omega) (by omega) (by omega) (by omega) (fun i hi => ?_) (there_blk (unhide R2) (k9 g (by omega))) (fun i hi => ?_) ?_
      · have e2 : (xs.map (·.2)).getD i Pl.zero = (xs.getD i zP).2 := by
          rw [List.getD_eq_getElem?_getD, List.getD_eq_getElem?_getD, List.getElem?_map]
          rw [List.getElem?_eq_getElem (by omega)]; rfl
        rw [e2, nnR_get hi, ← unhide hfs i hi]
        exact rng_blk (unhide R1 i hi) (k9 g (by omega))
      · rw [nnR_get hi]; exact ⟨_, _, rfl⟩
      · exact ((unhide LC2).below ((unhide hd).mono (by omega))).but (p := fun k => k ≠ w.heap.size) (by omega) (fun k hk e => k9 k e) (fun k h1 h2 => by omega)
end Nt
end Go.Proofs.Ytpmlpojefelbbaa
namespace Go.Proofs.Ytpmlpojefelbbaa
open Go.ChangeShapes Go.WideShapes Go.ChangeAt Go.RowKit
set_option linter.unusedVariables false
set_option linter.unusedSimpArgs false
set_option maxRecDepth 100000
attribute [local go_sem ↓] Go.wp_at_zero Go.wp_at_succ
namespace Nt
open W1 Rt Na
theorem wp_apNL {o : Oper} {a : Act} {K : Act → World → Prop} {Q : Exit → Act → World → Prop} {w : World} {base d : Nat} {v : Value} {xs : List (Rm × Pl)} (hown : w.ownsRow base 46 13 v xs.length (fl xs)) (B : Nat) (m : Rm) (q : Pl) (hr : Rws w B 0 [(m, q)]) (hlen : xs.length ≤ 4096) (hbase : base ≤ w.heap.size)
    (s x : Operand) (ho : o.op = .call { callee := .builtin .append, args := #[s, x], argTypes := #[23, 23] }) (hd : o.dst = some d) (hs : a.eval s = v) (hx : a.eval x = .slice (some ⟨B, 0, none⟩) 1 1)
    (h : ∀ g' cap w', w'.ownsRow base 46 13 (.slice (some ⟨g', 0, none⟩) (xs.length + 1) cap) (xs ++ [(m, q)]).length (fl (xs ++ [(m, q)])) → w.grownBy w' v.ownBlock → (v.ownBlock = some g' ∨ g' = w.heap.size) → K (a.put (some d) (.slice (some ⟨g', 0, none⟩) (xs.length + 1) cap)) w') : o.wp Try.prog a w K Q := by
  obtain ⟨i0, hi, hz0, hz1, hz2⟩ := infoZ
  refine wp_append_lies w s x _ ho base 46 i0 _ 13 216 Try.underlying23 hi hz0 hz1 hz2 rfl (by decide) v xs.length (fl xs) hs hown ⟨B, 0, none⟩ 1 1 (fl [(m, q)]) hx (fl_len _) hr.cells (fun u hu => fl_ones hu) (by omega) (by unfold maxLen; omega) (by omega) hbase _ rfl (fun g' cap w' h1 h2 h3 h4 => ?_)
  rw [hd]
  refine h g' cap w' ?_ h2 h3
  rw [List.length_append, fl_append]; exact h1
set_option maxHeartbeats 16000000 in
theorem l13NewA (a b : Option Addr) (ca cb n : Nat) (ws cs : List Int) (w : World) (hn : ws.length = n) (h0 : 0 < n) (h6 : n ≤ 6) (hc : cs.length ≤ 4096) (hr : In.RM w a ws) (hi : In.RM w b cs) :
    Calls Try.prog 17 #[.slice a n ca, .slice b cs.length cb] w fun e w' => ∃ g c' b' cb' F qs, e = .returned (.agg #[.slice (some ⟨g, 0, none⟩) n c', .slice b' cs.length cb', .slice (some ⟨F, 0, none⟩) 0 0, .int .i64 0]) ∧ Below w.heap.size w w' ∧ RT w' w.heap.size w'.heap.size (some ⟨g, 0, none⟩) b' (some ⟨F, 0, none⟩) (nnR ws n) qs cs [] ∧ Hid (∀ i, i < n → Ad (qs.getD i Pl.zero)) := by
  rcases hr with e0 | ⟨g0, off, rfl, hcc⟩
  · exfalso; rw [e0] at hn; simp at hn; omega
  have HR : Hid (∀ W, Below w.heap.size w W → ∀ j, j < n → W.cell? ⟨g0, off + j, none⟩ = some (.int .i64 (ws.getD j 0))) := hide (fun W hW j hj => by
    have h0 := hcc j (by omega)
    rw [hW.cell (World.block_lt_of_cell? _ _ h0)]; exact h0)
  have q0 : (w.alloc (.cells #[.slice none 0 0, .slice none 0 0, .slice none 0 0, .int .i64 0] 26)).heap.size = w.heap.size + 1 := by simp
  have q1 : ((w.alloc (.cells #[.slice none 0 0, .slice none 0 0, .slice none 0 0, .int .i64 0] 26)).alloc (.cells #[] 46)).heap.size = w.heap.size + 2 := by simp
  have bA : Below w.heap.size w ((w.alloc (.cells #[.slice none 0 0, .slice none 0 0, .slice none 0 0, .int .i64 0] 26)).alloc (.cells #[] 46)) := (bel_new w _).trans ((bel_new (w.alloc (.cells #[.slice none 0 0, .slice none 0 0, .slice none 0 0, .int .i64 0] 26)) _).mono (by omega))
  have bE : Below (w.heap.size + 2) ((w.alloc (.cells #[.slice none 0 0, .slice none 0 0, .slice none 0 0, .int .i64 0] 26)).alloc (.cells #[] 46)) (((w.alloc (.cells #[.slice none 0 0, .slice none 0 0, .slice none 0 0, .int .i64 0] 26)).alloc (.cells #[] 46)).alloc (.cells #[] 3)) := q1 ▸ bel_new _ _
  have OIn : Hid ((((w.alloc (.cells #[.slice none 0 0, .slice none 0 0, .slice none 0 0, .int .i64 0] 26)).alloc (.cells #[] 46)).alloc (.cells #[] 3)).ownsRow (w.heap.size + 2) 3 1 (.slice (some ⟨w.heap.size + 2, 0, none⟩) 0 0) ([] : List Int).length (In.flat [])) := hide (by have h := In.own_empty ((w.alloc (.cells #[.slice none 0 0, .slice none 0 0, .slice none 0 0, .int .i64 0] 26)).alloc (.cells #[] 46)) ((w.alloc (.cells #[.slice none 0 0, .slice none 0 0, .slice none 0 0, .int .i64 0] 26)).alloc (.cells #[] 46)).heap.size (Nat.le_refl _); rw [q1] at h; exact h)
  have HIn := hide (hi.below (bA.trans (bE.mono (by omega))))
  have TZ0 := hide (there_under (there_new4 w (.slice none 0 0) (.slice none 0 0) (.slice none 0 0) (.int .i64 0) 26) (bel_new (w.alloc (.cells #[.slice none 0 0, .slice none 0 0, .slice none 0 0, .int .i64 0] 26)) (.cells #[] 46)) (by omega))
  have OW0 := hide (ownN_empty (w.alloc (.cells #[.slice none 0 0, .slice none 0 0, .slice none 0 0, .int .i64 0] 26)) (w.heap.size + 1) (by omega))
  have HN := hide hn
  have HBA := hide bA
  have HBE := hide bE
  clear hcc hi bA bE hn
  go_enter Try.func17, Try.ntmps17
  go_wp2_with (at_builtin; refine apOI (unhide OIn) b cb cs (unhide HIn) (by simp only [List.length_nil]; omega) (by simp) rfl _ _ rfl rfl rfl ?_; intro v_ V3 ho hg; have d3 : Below (w.heap.size + 2) ((w.alloc (.cells #[.slice none 0 0, .slice none 0 0, .slice none 0 0, .int .i64 0] 26)).alloc (.cells #[] 46)) V3 := In.below_own (unhide HBE) (unhide OIn) hg (Nat.le_refl _) (by simp); obtain ⟨b', cb', rfl, l3⟩ := In.lst_own (zs := cs) rfl ho; have HD3 := hide d3; have HL3 := hide l3; clear ho hg d3 l3)
  have hs3 := (unhide HD3).size
  rw [q1] at hs3
  have TZ1 := hide (there_under (unhide TZ0) (unhide HD3) (by omega))
  have OW1 := hide (ownN_bel (unhide OW0) (by rw [q1]; exact unhide HD3))
  have HB1 := hide ((unhide HBA).trans ((unhide HD3).mono (by omega)))
  rw [q0] at OW1
  clear HD3 HBA HBE OIn HIn TZ0 OW0
  obtain ⟨F, hF⟩ : ∃ F, V3.heap.size = F := ⟨_, rfl⟩
  try rw [hF]
  have bX : Below V3.heap.size V3 ((V3.alloc (.cells #[] 61)).alloc (.cells #[.slice (some ⟨w.heap.size + 1, 0, none⟩) 0 0, .slice b' cs.length cb', .slice (some ⟨F, 0, none⟩) 0 0, .int .i64 0] 26)) := (bel_new V3 _).trans ((bel_new (V3.alloc (.cells #[] 61)) _).mono (by simp))
  have HX2 := hide (nb_new (V3.alloc (.cells #[] 61)) (.slice (some ⟨w.heap.size + 1, 0, none⟩) 0 0) (.slice b' cs.length cb') (.slice (some ⟨F, 0, none⟩) 0 0) 0 26)
  have TX2 := hide (there_new4 (V3.alloc (.cells #[] 61)) (.slice (some ⟨w.heap.size + 1, 0, none⟩) 0 0) (.slice b' cs.length cb') (.slice (some ⟨F, 0, none⟩) 0 0) (.int .i64 0) 26)
  rw [show (V3.alloc (.cells #[] 61)).heap.size = F + 1 by simp [hF]] at HX2 TX2
  have TZ2 := hide (there_under (unhide TZ1) bX (by omega))
  have OW2 := hide (ownN_bel (unhide OW1) bX)
  have HB2 := hide ((unhide HB1).trans (bX.mono (by omega)))
  have HL2 := hide ((unhide HL3).below bX)
  rw [hF] at HL2 hs3
  have VN : Hid (∀ g, Value.ownBlock (.slice (some ⟨w.heap.size + 1, 0, none⟩) 0 0) = some g → g ≠ F + 1 ∧ (g < w.heap.size + 2 ∨ F ≤ g)) := hide (fun g e => by cases e; exact ⟨by show w.heap.size + 1 ≠ F + 1; omega, .inl (Nat.lt_succ_self _)⟩)
  clear TZ1 OW1 HB1 HL3 bX q0 q1
  go_loopw [6] (fun i wr => ∃ j : Nat, j ≤ n ∧ i = .int .i64 j ∧ ∃ (v : Value) (xs : List (Rm × Pl)), xs.length = j ∧ Hid (∀ i, i < j → (xs.getD i zP).1 = newM ((i : Int) + 1) (ws.getD i 0) 0 0 0) ∧ Hid (∀ i, i < j → Ad (xs.getD i zP).2) ∧ Hid (wr.ownsRow (w.heap.size + 1) 46 13 v xs.length (fl xs)) ∧ Hid (∀ g, Value.ownBlock v = some g → g ≠ F + 1 ∧ (g < (w.heap.size + 2) ∨ F ≤ g)) ∧ Hid (Below w.heap.size w wr) ∧ Hid (NB wr (F + 1) v (.slice b' cs.length cb') (.slice (some ⟨F, 0, none⟩) 0 0) 0) ∧ Hid (wr.there (F + 1) 0 4) ∧ Hid (wr.there w.heap.size 0 4) ∧ Hid (In.Lst wr b' cs (w.heap.size + 2) F)) (fun i _ => n - (intOf i).toNat)
  case atStart => exact ⟨0, by omega, rfl, (.slice (some ⟨w.heap.size + 1, 0, none⟩) 0 0), [], rfl, hide (fun i hi => absurd hi (Nat.not_lt_zero i)), hide (fun i hi => absurd hi (Nat.not_lt_zero i)), OW2, VN, HB2, HX2, TX2, TZ2, HL2⟩
  case round =>
    clear HB2 HX2 TX2 TZ2 OW2 HL2 VN
    obtain ⟨j, hj, rfl, v, xs, hxl, hfs, hwl, how, hvn, hb, hx, tx, tz, hl⟩ := hrel
    by_cases hlt : (j : Int) < (n : Int)
    · have k0 : (0 : Int) ≤ (j : Int) := by omega
      have hjn : j < n := by omega
      have HC := unhide HR wr (unhide hb) j hjn
      have c0 := (unhide hx).1
      have hNw : F + 1 < wr.heap.size := (unhide hx).lt
      have HSH : Hid (∀ W W3 : World, Below wr.heap.size wr W → W.grownBy W3 v.ownBlock → NB W3 (F + 1) v (.slice b' cs.length cb') (.slice (some ⟨F, 0, none⟩) 0 0) 0 ∧ W3.there (F + 1) 0 4 ∧ W3.there w.heap.size 0 4 ∧ Below w.heap.size w W3 ∧ In.Lst W3 b' cs (w.heap.size + 2) F) := hide (fun W W3 bl hg => by
        have hkk : ∀ k, k < wr.heap.size → some k ≠ v.ownBlock → W3.heap[k]? = wr.heap[k]? := fun k hk he => (hg.block k (by have := bl.size; omega) he).trans (bl.block k (by omega))
        have h1 : W3.heap[F + 1]? = wr.heap[F + 1]? := hkk _ (by omega) (fun e => (unhide hvn _ e.symm).1 rfl)
        have h2 : W3.heap[w.heap.size]? = wr.heap[w.heap.size]? := hkk _ (by omega) (fun e => by have := ((unhide how).lt _ e.symm).1; omega)
        refine ⟨(unhide hx).but h1, there_blk (unhide tx) h1, there_blk (unhide tz) h2, belN_own ((unhide hb).trans (bl.mono (unhide hb).size)) (ownN_bel (unhide how) bl) hg (by omega) (by have := bl.size; omega), ?_⟩
        exact (unhide hl).but (p := fun k => some k ≠ v.ownBlock) (by have := bl.size; have := hg.size; omega) (fun k hk e => hkk k hk e) (fun k h1 h2 e => by have := (unhide hvn k e.symm).2; omega))
      have HFS := hide (fun (q : Pl) (i : Nat) (hi : i < j + 1) => show (((xs ++ [(newM ((j : Int) + 1) (ws.getD j 0) 0 0 0, q)]).getD i zP).1 = newM ((i : Int) + 1) (ws.getD i 0) 0 0 0) by
        by_cases e1 : i = j
        · rw [getD_snoc_eq _ _ _ (by omega), e1]
        · rw [getD_snoc_lt _ _ _ (by omega)]; exact unhide hfs i (by omega))
      have HWL := hide (fun (m : Rm) (q : Pl) (hq : Ad q) (i : Nat) (hi : i < j + 1) => show Ad ((xs ++ [(m, q)]).getD i zP).2 by
        by_cases e1 : i = j
        · rw [getD_snoc_eq _ _ _ (by omega)]; exact hq
        · rw [getD_snoc_lt _ _ _ (by omega)]; exact unhide hwl i (by omega))
      have HXL := hide hxl
      have HBW := hide ((unhide how).lt)
      clear tx tz hfs hwl hl hx hb hxl
      generalize hy : ws.getD j 0 = y at HC HFS
      have HY := hide hy
      clear hy
      have hwj : IntKind.i64.wrap ((j : Int) + 1) = (j : Int) + 1 := by rw [IntKind.wrap_i64]; omega
      go_wp2_with fail
      refine wp_region_noPanic ?_
      refine Rl.drew (S := fun w' => w'.cell? ⟨g0, off + j, none⟩ = some (.int .i64 y)) (T := fun w' => w'.cell? ⟨F + 1, 0, none⟩ = some v) 12 (by kernel_rfl) ⟨HC, c0⟩ (fun hHeld => ?_)

      (refine Rl.tkS (k := 12) (i := 0) (d := 19) (v := ?_) rfl rfl (by kernel_rfl) (by kernel_rfl) (by kernel_rfl) rfl (fun _ _ _ h => h) (by rfl) ?_ (by assumption) ?_; rotate_left; (focus (intro w0 hSw; (try dsimp only at hSw); go_simp; (try with_reducible rfl))); (try simp only [Act.put, List.setIfInBounds_toArray, List.set_cons_zero, List.set_cons_succ]))
      (refine Rl.tk (k := 12) (i := 1) (d := 20) (v := ?_) rfl rfl (by kernel_rfl) (by kernel_rfl) (by kernel_rfl) (by kernel_rfl) rfl (by kernel_rfl) (fun _ _ _ h => h) (by rfl) ?_ (by assumption) ?_; rotate_left; (focus (intro w0 hSw; (try dsimp only at hSw); go_simp; (try with_reducible rfl))); (try simp only [Act.put, List.setIfInBounds_toArray, List.set_cons_zero, List.set_cons_succ]))
      (refine Rl.tkS (k := 12) (i := 2) (d := 21) (v := ?_) rfl rfl (by kernel_rfl) (by kernel_rfl) (by kernel_rfl) rfl (fun _ _ _ h => h) (by rfl) ?_ (by assumption) ?_; rotate_left; (focus (intro w0 hSw; (try dsimp only at hSw); go_simp; (try with_reducible rfl))); (try simp only [Act.put, List.setIfInBounds_toArray, List.set_cons_zero, List.set_cons_succ]))
      (refine Rl.tkS (k := 12) (i := 3) (d := 22) (v := ?_) rfl rfl (by kernel_rfl) (by kernel_rfl) (by kernel_rfl) rfl (fun _ _ _ h => h) (by rfl) ?_ (by assumption) ?_; rotate_left; (focus (intro w0 hSw; (try dsimp only at hSw); go_simp; (try with_reducible rfl))); (try simp only [Act.put, List.setIfInBounds_toArray, List.set_cons_zero, List.set_cons_succ]))
      (refine Rl.tkS (k := 12) (i := 4) (d := 23) (v := ?_) rfl rfl (by kernel_rfl) (by kernel_rfl) (by kernel_rfl) rfl (fun _ _ _ h => h) (by rfl) ?_ (by assumption) ?_; rotate_left; (focus (intro w0 hSw; (try dsimp only at hSw); go_simp; (try with_reducible rfl))); (try simp only [Act.put, List.setIfInBounds_toArray, List.set_cons_zero, List.set_cons_succ]))
      (refine Rl.tkS (k := 12) (i := 5) (d := 24) (v := ?_) rfl rfl (by kernel_rfl) (by kernel_rfl) (by kernel_rfl) rfl (fun _ _ _ h => h) (by rfl) ?_ (by assumption) ?_; rotate_left; (focus (intro w0 hSw; (try dsimp only at hSw); go_simp; (try with_reducible rfl))); (try simp only [Act.put, List.setIfInBounds_toArray, List.set_cons_zero, List.set_cons_succ]))
      (refine Rl.tkS (k := 12) (i := 6) (d := 25) (v := ?_) rfl rfl (by kernel_rfl) (by kernel_rfl) (by kernel_rfl) rfl (fun _ _ _ h => h) (by rfl) ?_ (by assumption) ?_; rotate_left; (focus (intro w0 hSw; (try dsimp only at hSw); go_simp; (try with_reducible rfl))); (try simp only [Act.put, List.setIfInBounds_toArray, List.set_cons_zero, List.set_cons_succ]))
      (refine Rl.tkS (k := 12) (i := 7) (d := 26) (v := ?_) rfl rfl (by kernel_rfl) (by kernel_rfl) (by kernel_rfl) rfl (fun _ _ _ h => h) (by rfl) ?_ (by assumption) ?_; rotate_left; (focus (intro w0 hSw; (try dsimp only at hSw); go_simp; (try with_reducible rfl))); (try simp only [Act.put, List.setIfInBounds_toArray, List.set_cons_zero, List.set_cons_succ]))
      (refine Rl.ready (rs := [8]) (by kernel_rfl) (by simp) ?_; refine Rl.AllReadyL.cons (o := _) rfl rfl (fun K hK => ?_) Rl.AllReadyL.nil; go_simp)
      skip
      refine (l12NewA ((j : Int) + 1) y 0 wr.drew).mono ?_
      rintro e w1 ⟨q, rfl, b1, had⟩
      have hz1 := b1.size
      have hzd : wr.drew.heap.size = wr.heap.size := rfl
      have B1 : Hid (Below wr.heap.size wr w1) := hide ((Below.refl _ _).drew.trans b1)
      have HQ := hide (unhide HWL (newM ((j : Int) + 1) y 0 0 0) q (unhide had))
      have HFQ := hide (unhide HFS q)
      obtain ⟨m, hm⟩ : ∃ m, newM ((j : Int) + 1) y 0 0 0 = m := ⟨_, rfl⟩
      rw [hm] at HQ HFQ ⊢
      have C1 : w1.cell? ⟨g0, off + j, none⟩ = some (.int .i64 y) := by rw [(unhide B1).cell (World.block_lt_of_cell? _ _ HC)]; exact HC
      have T1 : w1.cell? ⟨F + 1, 0, none⟩ = some v := by rw [(unhide B1).cell (by exact hNw)]; exact c0
      clear hHeld had HWL HFS hm b1
      refine hK.out _ _ ⟨C1, T1⟩ (fun hHeld => ?_)
      clear hK K
      (try simp only [Act.put, List.setIfInBounds_toArray, List.set_cons_zero, List.set_cons_succ])
      rw [show (cl m q).toArray = #[.int .i64 m.x1, .int .i64 m.x2, .int .i64 m.x3, .int .i64 m.x4, .int .i64 m.x5, .slice q.a1 m.ls.length q.c1, .slice q.a2 m.tw.length q.c2, .slice q.a3 m.se.length q.c3, .slice q.a4 m.du.length q.c4, .slice q.a5 m.ss.length q.c5, .slice q.a6 m.es.length q.c6, .slice q.a7 m.la.length q.c7, .int .i64 m.x6] from rfl]
      have B2 := hide ((unhide B1).trans ((bel_new w1 (.cells (cl m q).toArray 46)).mono (by omega)))
      have RN := hide (rwN_new w1 m q)
      have OW1 := hide (ownN_bel (unhide how) (unhide B2))
      have hz2 : (w1.alloc (.cells (cl m q).toArray 46)).heap.size = w1.heap.size + 1 := by simp
      have C2 : (w1.alloc (.cells (cl m q).toArray 46)).cell? ⟨g0, off + j, none⟩ = some (.int .i64 y) := by rw [(bel_new w1 _).cell (World.block_lt_of_cell? _ _ C1)]; exact C1
      have T2 : (w1.alloc (.cells (cl m q).toArray 46)).cell? ⟨F + 1, 0, none⟩ = some v := by rw [(bel_new w1 _).cell (World.block_lt_of_cell? _ _ T1)]; exact T1
      (refine Rl.ready (rs := [9]) (by kernel_rfl) (by simp) ?_; refine Rl.AllReadyL.cons (o := _) rfl rfl (fun K hK => ?_) Rl.AllReadyL.nil; go_simp)
      clear hHeld B1 how C1 T1
      refine hK.out _ _ ⟨C2, T2⟩ (fun hHeld => ?_)
      clear hK K
      (try simp only [Act.put, List.setIfInBounds_toArray, List.set_cons_zero, List.set_cons_succ])
      (refine Rl.ready (rs := [10]) (by kernel_rfl) (by simp) ?_; refine Rl.AllReadyL.cons (o := _) rfl rfl (fun K hK => ?_) Rl.AllReadyL.nil; rw [if_pos (by rfl)])
      refine wp_apNL (unhide OW1) w1.heap.size m q (unhide RN) (by have := unhide HXL; omega) (by simp; omega) _ _ rfl rfl rfl rfl ?_
      intro g' cap w3 ho hg hv
      have HG := hide (unhide HSH _ w3 (unhide B2) hg)
      have HO := hide ho
      have HGL := hide hv
      have hsz3 := hg.size
      have C3 : w3.cell? ⟨g0, off + j, none⟩ = some (.int .i64 y) := by
        have h := unhide HR w3 (unhide HG).2.2.2.1 j hjn
        rw [unhide HY] at h
        exact h
      clear ho hg hv HSH
      refine hK.out _ _ ⟨C3, (unhide HG).1.1⟩ (fun hHeld => ?_)
      clear hK K
      (try simp only [Act.put, List.setIfInBounds_toArray, List.set_cons_zero, List.set_cons_succ])
      (refine Rl.tkS (k := 12) (i := 11) (d := 30) (v := ?_) rfl rfl (by kernel_rfl) (by kernel_rfl) (by kernel_rfl) rfl (fun _ _ _ h => h) (by rfl) ?_ (by assumption) ?_; rotate_left; (focus (intro w0 hSw; (try dsimp only at hSw); go_simp; (try with_reducible rfl))); (try simp only [Act.put, List.setIfInBounds_toArray, List.set_cons_zero, List.set_cons_succ]))
      have z0 := (unhide HG).1.1
      have ff := free_at (unhide HG).2.1 (k := 0) (by omega)
      (refine Rl.ready (rs := [12]) (by kernel_rfl) (by simp) ?_; refine Rl.AllReadyL.last (o := _) rfl (by kernel_rfl) (fun K hK => ?_); go_simp)
      clear hHeld z0 ff
      have hgF : g' ≠ F + 1 := by
        rcases unhide HGL with e | e
        · exact (unhide hvn g' e).1
        · rw [e, World.size_alloc]; omega
      have hgL : g' < w.heap.size + 2 ∨ F ≤ g' := by
        rcases unhide HGL with e | e
        · exact (unhide hvn g' e).2
        · rw [e, World.size_alloc]; omega
      have hkN : ∀ x, x ≠ F + 1 → (w3.setCell ⟨F + 1, 0, none⟩ (.slice (some ⟨g', 0, none⟩) (xs.length + 1) cap)).heap[x]? = w3.heap[x]? := fun x hx => Below.heap_setCell _ _ _ _ hx
      have R1 := hide (own_blk (unhide HO) (fun g e => hkN g (by cases e; exact hgF)))
      have R2 : Hid (∀ g, Value.ownBlock (.slice (some ⟨g', 0, none⟩) (xs.length + 1) cap) = some g → g ≠ F + 1 ∧ (g < w.heap.size + 2 ∨ F ≤ g)) := hide (fun g e => by cases e; exact ⟨hgF, hgL⟩)
      have R3 := hide ((unhide HG).2.2.2.1.setCell (p := ⟨F + 1, 0, none⟩) (by show w.heap.size ≤ F + 1; omega) (.slice (some ⟨g', 0, none⟩) (xs.length + 1) cap))
      have R4 := hide ((unhide HG).1.set0 (.slice (some ⟨g', 0, none⟩) (xs.length + 1) cap))
      have R5 := hide (there_at (p := ⟨F + 1, 0, none⟩) (v := .slice (some ⟨g', 0, none⟩) (xs.length + 1) cap) (unhide HG).2.1)
      have R6 := hide (there_at (p := ⟨F + 1, 0, none⟩) (v := .slice (some ⟨g', 0, none⟩) (xs.length + 1) cap) (unhide HG).2.2.1)
      have R7 := hide ((unhide HG).2.2.2.2.but (p := fun k => k ≠ F + 1) (Nat.le_of_eq (by simp [World.setCell])) (fun k hk e => hkN k e) (fun k h1 h2 => by omega))
      have C4 : (w3.setCell ⟨F + 1, 0, none⟩ (.slice (some ⟨g', 0, none⟩) (xs.length + 1) cap)).cell? ⟨g0, off + j, none⟩ = some (.int .i64 y) := by
        have h := unhide HR _ (unhide R3) j hjn
        rw [unhide HY] at h
        exact h
      clear HG HO HGL hkN hgF hgL hvn C2 T2 C3 hz2 hz1 hsz3
      refine hK.out _ _ C4 (fun hHeld => ?_)
      clear hK K hHeld C4
      (try simp only [Act.put, List.setIfInBounds_toArray, List.set_cons_zero, List.set_cons_succ])
      refine Rl.done (by kernel_rfl) (NoPanic.normal ?_) _
      go_wp2_with fail
      go_roundw
      case rel => exact ⟨j + 1, by omega, by go_num, _, xs ++ [(m, q)], by rw [List.length_append, unhide HXL]; rfl, HFQ, HQ, R1, R2, R3, R4, R5, R6, R7⟩
      case measure => simp [intOf]; omega
    · obtain rfl : n = j := by omega
      obtain ⟨g, c, ev⟩ := own_form (unhide how) (by omega)
      rw [hxl] at ev
      have how2 := unhide how
      rw [ev, hxl] at how2
      obtain ⟨r1, r2, r3, r4⟩ := rws_own hxl.symm how2
      rw [ev] at hx
      obtain ⟨y0, y1, y2, y3⟩ := unhide hx
      have hgN := (unhide hvn g (by rw [ev]; rfl)).1
      have hxlt := (unhide hx).lt
      have R1 := hide r1
      clear how how2 r1 r2 ev hvn
      go_wp2_with (refine storeNB _ _ rfl rfl rfl rfl rfl (unhide tz) rfl rfl ?_; intro V9 n9 t9 bb9 s9 k9)
      (try rw [Exit.noGoto_ret])
      refine bodyPost_ret (v := .agg #[.slice (some ⟨g, 0, none⟩) n c, .slice b' cs.length cb', .slice (some ⟨F, 0, none⟩) 0 0, .int .i64 0]) (resultsN rfl _ _ rfl n9) rfl ⟨g, c, b', cb', F, rfl, bb9 _ _ (unhide hb) (Nat.le_refl _), xs.map (·.2), ⟨.inr ⟨g, rfl, by omega, by omega, by omega, fun i hi => ?_⟩, ?_, .inl rfl⟩, hide (fun i hi => ?_)⟩
      · rw [nnR_len] at hi
        have e2 : (xs.map (·.2)).getD i Pl.zero = (xs.getD i zP).2 := by
          rw [List.getD_eq_getElem?_getD, List.getD_eq_getElem?_getD, List.getElem?_map]
          rw [List.getElem?_eq_getElem (by omega)]; rfl
        rw [e2, nnR_get hi]
        refine ⟨?_, newM_ow (by omega)⟩
        rw [← unhide hfs i hi]
        exact rng_blk (unhide R1 i hi) (k9 g (by omega))
      · exact ((unhide hl).but (p := fun k => k ≠ w.heap.size) (by omega) (fun k hk e => k9 k e) (fun k h1 h2 => by omega)).mono (by omega) (by omega)
      · have e2 : (xs.map (·.2)).getD i Pl.zero = (xs.getD i zP).2 := by
          rw [List.getD_eq_getElem?_getD, List.getD_eq_getElem?_getD, List.getElem?_map]
          rw [List.getElem?_eq_getElem (by omega)]; rfl
        have h := unhide hwl i hi
        rw [← e2, List.getD_eq_getElem?_getD] at h
        exact h
theorem nn_sm (ws cs : List Int) : smN (nnM (nnE ws cs) ws) (nnC (nnE ws cs) cs) [] := by
  by_cases h : nnE ws cs = 0
  · obtain ⟨h1, h6, hc, _⟩ := nn_small h
    rw [h]
    unfold nnM nnC
    rw [if_pos rfl, if_pos rfl]
    refine ⟨by rw [nnR_len]; exact h6, fun i hi => ?_, ?_, by simp⟩
    · rw [nnR_len] at hi
      rw [nnR_get hi]
      unfold r64 newM
      simp
    · have hl : cs.length = ws.length * ws.length := by unfold costB at hc; simp only [Bool.and_eq_true, beq_iff_eq] at hc; exact hc.1
      rw [hl]; exact Nat.le_trans (Nat.mul_le_mul h6 h6) (by decide)
  · unfold nnM nnC
    rw [if_neg h, if_neg h]
    exact smN_nil
end Nt
end Go.Proofs.Ytpmlpojefelbbaa
namespace Go.Proofs.Ytpmlpojefelbbaa
open Go.ChangeShapes Go.WideShapes Go.ChangeAt Go.RowKit
set_option linter.unusedVariables false
set_option linter.unusedSimpArgs false
set_option maxRecDepth 100000
attribute [local go_sem ↓] Go.wp_at_zero Go.wp_at_succ
namespace Nt
open W1 Rt Na
def pWs : List Int := [3, 3, 7, 1]
def pCs : List Int := [0, 1, 9, 3, 1, 0, 2, 0, 9, 2, 0, 2, 3, 0, 2, 0]
theorem rm_lit (w : World) (zs : List Int) : In.RM (w.alloc (.cells (In.flat zs).toArray 3)) (some ⟨w.heap.size, 0, none⟩) zs := by
  refine .inr ⟨w.heap.size, 0, rfl, fun i hi => ?_⟩
  rw [World.cell?_alloc_new, Nat.zero_add]
  have h := In.flat_get hi
  simpa using h
theorem plainE : nnE pWs pCs = 0 := by decide
def pMs : List Rm := nnR pWs 4
theorem plain_sm : smN pMs pCs [] := by have h := nn_sm pWs pCs; rw [plainE] at h; exact h
set_option maxHeartbeats 16000000 in
theorem implPl (w : World) :
    Calls Try.prog 14 #[] w fun e w' => ∃ v, e = .returned v ∧ Below w.heap.size w w' ∧ GotM v w w' pMs pCs [] 0 := by
  have q0 : (w.alloc (.cells #[.slice none 0 0, .slice none 0 0, .slice none 0 0, .int .i64 0] 26)).heap.size = w.heap.size + 1 := by simp
  have q1 : ((w.alloc (.cells #[.slice none 0 0, .slice none 0 0, .slice none 0 0, .int .i64 0] 26)).alloc (.cells #[.int .i64 3, .int .i64 3, .int .i64 7, .int .i64 1] 3)).heap.size = w.heap.size + 2 := by simp
  have b0 : Below w.heap.size w (w.alloc (.cells #[.slice none 0 0, .slice none 0 0, .slice none 0 0, .int .i64 0] 26)) := bel_new _ _
  have b1 : Below (w.heap.size + 1) (w.alloc (.cells #[.slice none 0 0, .slice none 0 0, .slice none 0 0, .int .i64 0] 26)) ((w.alloc (.cells #[.slice none 0 0, .slice none 0 0, .slice none 0 0, .int .i64 0] 26)).alloc (.cells #[.int .i64 3, .int .i64 3, .int .i64 7, .int .i64 1] 3)) := q0 ▸ bel_new _ _
  have b2 : Below (w.heap.size + 2) ((w.alloc (.cells #[.slice none 0 0, .slice none 0 0, .slice none 0 0, .int .i64 0] 26)).alloc (.cells #[.int .i64 3, .int .i64 3, .int .i64 7, .int .i64 1] 3)) (((w.alloc (.cells #[.slice none 0 0, .slice none 0 0, .slice none 0 0, .int .i64 0] 26)).alloc (.cells #[.int .i64 3, .int .i64 3, .int .i64 7, .int .i64 1] 3)).alloc (.cells #[.int .i64 0, .int .i64 1, .int .i64 9, .int .i64 3, .int .i64 1, .int .i64 0, .int .i64 2, .int .i64 0, .int .i64 9, .int .i64 2, .int .i64 0, .int .i64 2, .int .i64 3, .int .i64 0, .int .i64 2, .int .i64 0] 3)) := q1 ▸ bel_new _ _
  have r1 : In.RM ((w.alloc (.cells #[.slice none 0 0, .slice none 0 0, .slice none 0 0, .int .i64 0] 26)).alloc (.cells #[.int .i64 3, .int .i64 3, .int .i64 7, .int .i64 1] 3)) (some ⟨w.heap.size + 1, 0, none⟩) pWs := by have h := rm_lit (w.alloc (.cells #[.slice none 0 0, .slice none 0 0, .slice none 0 0, .int .i64 0] 26)) pWs; rw [q0] at h; exact h
  have r2 : In.RM (((w.alloc (.cells #[.slice none 0 0, .slice none 0 0, .slice none 0 0, .int .i64 0] 26)).alloc (.cells #[.int .i64 3, .int .i64 3, .int .i64 7, .int .i64 1] 3)).alloc (.cells #[.int .i64 0, .int .i64 1, .int .i64 9, .int .i64 3, .int .i64 1, .int .i64 0, .int .i64 2, .int .i64 0, .int .i64 9, .int .i64 2, .int .i64 0, .int .i64 2, .int .i64 3, .int .i64 0, .int .i64 2, .int .i64 0] 3)) (some ⟨w.heap.size + 2, 0, none⟩) pCs := by have h := rm_lit ((w.alloc (.cells #[.slice none 0 0, .slice none 0 0, .slice none 0 0, .int .i64 0] 26)).alloc (.cells #[.int .i64 3, .int .i64 3, .int .i64 7, .int .i64 1] 3)) pCs; rw [q1] at h; exact h
  have R1 := hide (r1.below (q1 ▸ b2))
  have R2 := hide r2
  have HB := hide ((b0.trans (b1.mono (by omega))).trans (b2.mono (by omega)))
  have TZ := hide (there_under (there_under (there_new4 w (.slice none 0 0) (.slice none 0 0) (.slice none 0 0) (.int .i64 0) 26) b1 (by omega)) b2 (by omega))
  have q2 : (((w.alloc (.cells #[.slice none 0 0, .slice none 0 0, .slice none 0 0, .int .i64 0] 26)).alloc (.cells #[.int .i64 3, .int .i64 3, .int .i64 7, .int .i64 1] 3)).alloc (.cells #[.int .i64 0, .int .i64 1, .int .i64 9, .int .i64 3, .int .i64 1, .int .i64 0, .int .i64 2, .int .i64 0, .int .i64 9, .int .i64 2, .int .i64 0, .int .i64 2, .int .i64 3, .int .i64 0, .int .i64 2, .int .i64 0] 3)).heap.size = w.heap.size + 3 := by simp
  clear b0 b1 b2 r1 r2 q0 q1
  go_enter Try.func14, Try.ntmps14
  have KN := hide (fun W (h1 : In.RM W (some ⟨w.heap.size + 1, 0, none⟩) pWs) (h2 : In.RM W (some ⟨w.heap.size + 2, 0, none⟩) pCs) => by have h := implNN (some ⟨w.heap.size + 1, 0, none⟩) (some ⟨w.heap.size + 2, 0, none⟩) 4 16 pWs pCs W (by decide) (by decide) h1 h2; rw [plainE, show nnM 0 pWs = pMs from rfl, show nnC 0 pCs = pCs from rfl] at h; exact h)
  go_wp2_with fail
  refine (unhide KN _ (unhide R1) (unhide R2)).mono ?_
  clear KN R1 R2
  rintro e W1 ⟨v, rfl, b, got⟩
  obtain ⟨A, B, D, cA, cB, cD, qs, rfl, mt⟩ := got
  have hz1 := b.size
  rw [q2] at hz1
  have HB1 := hide ((unhide HB).trans (b.mono (unhide HB).size))
  have TZ1 := hide (there_under (unhide TZ) b (by omega))
  have MT := hide (mt.mono (lo' := w.heap.size + 1) (hi' := W1.heap.size) (by omega) (Nat.le_refl _))
  have bV := bel_new W1 (.cells #[.slice A pMs.length cA, .slice B pCs.length cB, .slice D ([] : List Fm.R).length cD, .int .i64 0] 26)
  have HX2 := hide (nb_new W1 (.slice A pMs.length cA) (.slice B pCs.length cB) (.slice D ([] : List Fm.R).length cD) 0 26)
  have HB2 := hide ((unhide HB1).trans (bV.mono (unhide HB1).size))
  have TZ2 := hide (there_under (unhide TZ1) bV (by omega))
  have MT2 := hide ((unhide MT).below bV)
  have hz2 : (W1.alloc (.cells #[.slice A pMs.length cA, .slice B pCs.length cB, .slice D ([] : List Fm.R).length cD, .int .i64 0] 26)).heap.size = W1.heap.size + 1 := by simp
  clear HB HB1 TZ TZ1 MT mt b bV q2
  obtain ⟨p0, p1, p2, p3⟩ := unhide HX2
  go_wp2_with (refine storeNB _ _ rfl rfl rfl rfl rfl (unhide TZ2) rfl rfl ?_; intro V9 n9 t9 bb9 s9 k9)
  (try rw [Exit.noGoto_ret])
  have s9q : V9.heap.size = W1.heap.size + 1 := by rw [s9]; simp
  refine bodyPost_ret (v := .agg #[.slice A pMs.length cA, .slice B pCs.length cB, .slice D ([] : List Fm.R).length cD, .int .i64 0]) (resultsN rfl _ _ rfl n9) rfl ⟨_, rfl, bb9 _ _ (unhide HB2) (Nat.le_refl _), A, B, D, cA, cB, cD, qs, rfl, ?_⟩
  exact ((unhide MT2).but (L := w.heap.size) (H := w.heap.size + 1) (by omega) (fun k _ h => k9 k (by omega)) (.inr (by omega))).mono (by omega) (by omega)
end Nt
end Go.Proofs.Ytpmlpojefelbbaa
namespace Go.Proofs.Ytpmlpojefelbbaa
open Go.ChangeShapes Go.WideShapes Go.ChangeAt Go.RowKit
set_option linter.unusedVariables false
set_option linter.unusedSimpArgs false
set_option maxRecDepth 100000
attribute [local go_sem ↓] Go.wp_at_zero Go.wp_at_succ
namespace Nt
open W1 Rt Na
def zCs : List Int := List.replicate 16 0
def rgA (j : Nat) : Int := ([1, 2, 3, 4, 1] : List Int).getD j 0
def rgB (j : Nat) : Int := ([2, 3, 4, 1, 3] : List Int).getD j 0
def rgC (j : Nat) : Int := ([1, 2, 2, 3, 9] : List Int).getD j 0
def plC : Nat → List Int
  | 0 => zCs
  | j + 1 => ((plC j).set (plc 4 (rgA j) (rgB j)) (rgC j)).set (plc 4 (rgB j) (rgA j)) (rgC j)
theorem plC_len : ∀ j, (plC j).length = 16
  | 0 => rfl
  | j + 1 => by unfold plC; rw [List.length_set, List.length_set]; exact plC_len j
theorem plC_five : plC 5 = pCs := by decide
theorem rg_ok : ∀ j, j < 5 → 1 ≤ rgA j ∧ rgA j ≤ 4 ∧ 1 ≤ rgB j ∧ rgB j ≤ 4 := by decide
/-- The ring's five rows from block R on, their row in block Q. -/
def RingW (W : World) (Q R : Nat) : Prop := ∀ j, j < 5 → W.cell? ⟨Q, j, none⟩ = some (.slice (some ⟨R + j, 0, none⟩) 3 3) ∧ W.cell? ⟨R + j, 0, none⟩ = some (.int .i64 (rgA j)) ∧ W.cell? ⟨R + j, 1, none⟩ = some (.int .i64 (rgB j)) ∧ W.cell? ⟨R + j, 2, none⟩ = some (.int .i64 (rgC j))
theorem RingW.under {W W' : World} {B Q R : Nat} (h : RingW W Q R) (hb : Below B W W') (hQ : Q < B) (hR : R + 5 ≤ B) : RingW W' Q R := fun j hj => by
  obtain ⟨h0, h1, h2, h3⟩ := h j hj
  exact ⟨(hb.cell (p := ⟨Q, j, none⟩) (by show Q < B; omega)).trans h0, (hb.cell (p := ⟨R + j, 0, none⟩) (by show R + j < B; omega)).trans h1, (hb.cell (p := ⟨R + j, 1, none⟩) (by show R + j < B; omega)).trans h2, (hb.cell (p := ⟨R + j, 2, none⟩) (by show R + j < B; omega)).trans h3⟩
theorem RingW.but {W W' : World} {Q R : Nat} (h : RingW W Q R) (hb : ∀ k, k = Q ∨ R ≤ k → W'.heap[k]? = W.heap[k]?) : RingW W' Q R := fun j hj => by
  obtain ⟨h0, h1, h2, h3⟩ := h j hj
  exact ⟨(World.cell?_of_block (a := ⟨Q, j, none⟩) (hb Q (.inl rfl))).trans h0, (World.cell?_of_block (a := ⟨R + j, 0, none⟩) (hb (R + j) (.inr (by omega)))).trans h1, (World.cell?_of_block (a := ⟨R + j, 1, none⟩) (hb (R + j) (.inr (by omega)))).trans h2, (World.cell?_of_block (a := ⟨R + j, 2, none⟩) (hb (R + j) (.inr (by omega)))).trans h3⟩
theorem row3 (W : World) (x y z : Int) : (W.alloc (.cells #[.int .i64 x, .int .i64 y, .int .i64 z] 3)).cell? ⟨W.heap.size, 0, none⟩ = some (.int .i64 x) ∧ (W.alloc (.cells #[.int .i64 x, .int .i64 y, .int .i64 z] 3)).cell? ⟨W.heap.size, 1, none⟩ = some (.int .i64 y) ∧ (W.alloc (.cells #[.int .i64 x, .int .i64 y, .int .i64 z] 3)).cell? ⟨W.heap.size, 2, none⟩ = some (.int .i64 z) := by
  refine ⟨?_, ?_, ?_⟩ <;> simp [World.cell?_alloc_new]
theorem row5 (W : World) (t : Nat) (a b c d e : Value) : (W.alloc (.cells #[a, b, c, d, e] t)).cell? ⟨W.heap.size, 0, none⟩ = some a ∧ (W.alloc (.cells #[a, b, c, d, e] t)).cell? ⟨W.heap.size, 1, none⟩ = some b ∧ (W.alloc (.cells #[a, b, c, d, e] t)).cell? ⟨W.heap.size, 2, none⟩ = some c ∧ (W.alloc (.cells #[a, b, c, d, e] t)).cell? ⟨W.heap.size, 3, none⟩ = some d ∧ (W.alloc (.cells #[a, b, c, d, e] t)).cell? ⟨W.heap.size, 4, none⟩ = some e := by
  refine ⟨?_, ?_, ?_, ?_, ?_⟩ <;> simp [World.cell?_alloc_new]
theorem ring_new (W : World) (N : Nat) (hN : W.heap.size = N) (t : Nat) : RingW (((((((W.alloc (.cells #[.int .i64 1, .int .i64 2, .int .i64 1] 3)).alloc (.cells #[.int .i64 2, .int .i64 3, .int .i64 2] 3)).alloc (.cells #[.int .i64 3, .int .i64 4, .int .i64 2] 3)).alloc (.cells #[.int .i64 4, .int .i64 1, .int .i64 3] 3)).alloc (.cells #[.int .i64 1, .int .i64 3, .int .i64 9] 3)).alloc (.cells #[.slice (some ⟨N, 0, none⟩) 3 3, .slice (some ⟨N + 1, 0, none⟩) 3 3, .slice (some ⟨N + 2, 0, none⟩) 3 3, .slice (some ⟨N + 3, 0, none⟩) 3 3, .slice (some ⟨N + 4, 0, none⟩) 3 3] t))) (N + 5) N := by
  have s0 := hN
  have s1 : (W.alloc (.cells #[.int .i64 1, .int .i64 2, .int .i64 1] 3)).heap.size = N + 1 := by rw [World.size_alloc, s0]
  have e0 := row3 W 1 2 1
  rw [s0] at e0
  have s2 : ((W.alloc (.cells #[.int .i64 1, .int .i64 2, .int .i64 1] 3)).alloc (.cells #[.int .i64 2, .int .i64 3, .int .i64 2] 3)).heap.size = N + 2 := by rw [World.size_alloc, s1]
  have e1 := row3 (W.alloc (.cells #[.int .i64 1, .int .i64 2, .int .i64 1] 3)) 2 3 2
  rw [s1] at e1
  have s3 : (((W.alloc (.cells #[.int .i64 1, .int .i64 2, .int .i64 1] 3)).alloc (.cells #[.int .i64 2, .int .i64 3, .int .i64 2] 3)).alloc (.cells #[.int .i64 3, .int .i64 4, .int .i64 2] 3)).heap.size = N + 3 := by rw [World.size_alloc, s2]
  have e2 := row3 ((W.alloc (.cells #[.int .i64 1, .int .i64 2, .int .i64 1] 3)).alloc (.cells #[.int .i64 2, .int .i64 3, .int .i64 2] 3)) 3 4 2
  rw [s2] at e2
  have s4 : ((((W.alloc (.cells #[.int .i64 1, .int .i64 2, .int .i64 1] 3)).alloc (.cells #[.int .i64 2, .int .i64 3, .int .i64 2] 3)).alloc (.cells #[.int .i64 3, .int .i64 4, .int .i64 2] 3)).alloc (.cells #[.int .i64 4, .int .i64 1, .int .i64 3] 3)).heap.size = N + 4 := by rw [World.size_alloc, s3]
  have e3 := row3 (((W.alloc (.cells #[.int .i64 1, .int .i64 2, .int .i64 1] 3)).alloc (.cells #[.int .i64 2, .int .i64 3, .int .i64 2] 3)).alloc (.cells #[.int .i64 3, .int .i64 4, .int .i64 2] 3)) 4 1 3
  rw [s3] at e3
  have s5 : (((((W.alloc (.cells #[.int .i64 1, .int .i64 2, .int .i64 1] 3)).alloc (.cells #[.int .i64 2, .int .i64 3, .int .i64 2] 3)).alloc (.cells #[.int .i64 3, .int .i64 4, .int .i64 2] 3)).alloc (.cells #[.int .i64 4, .int .i64 1, .int .i64 3] 3)).alloc (.cells #[.int .i64 1, .int .i64 3, .int .i64 9] 3)).heap.size = N + 5 := by rw [World.size_alloc, s4]
  have e4 := row3 ((((W.alloc (.cells #[.int .i64 1, .int .i64 2, .int .i64 1] 3)).alloc (.cells #[.int .i64 2, .int .i64 3, .int .i64 2] 3)).alloc (.cells #[.int .i64 3, .int .i64 4, .int .i64 2] 3)).alloc (.cells #[.int .i64 4, .int .i64 1, .int .i64 3] 3)) 1 3 9
  rw [s4] at e4
  have r5 := row5 (((((W.alloc (.cells #[.int .i64 1, .int .i64 2, .int .i64 1] 3)).alloc (.cells #[.int .i64 2, .int .i64 3, .int .i64 2] 3)).alloc (.cells #[.int .i64 3, .int .i64 4, .int .i64 2] 3)).alloc (.cells #[.int .i64 4, .int .i64 1, .int .i64 3] 3)).alloc (.cells #[.int .i64 1, .int .i64 3, .int .i64 9] 3)) t (.slice (some ⟨N, 0, none⟩) 3 3) (.slice (some ⟨N + 1, 0, none⟩) 3 3) (.slice (some ⟨N + 2, 0, none⟩) 3 3) (.slice (some ⟨N + 3, 0, none⟩) 3 3) (.slice (some ⟨N + 4, 0, none⟩) 3 3)
  rw [s5] at r5
  have d0 : Below (W.alloc (.cells #[.int .i64 1, .int .i64 2, .int .i64 1] 3)).heap.size (W.alloc (.cells #[.int .i64 1, .int .i64 2, .int .i64 1] 3)) ((((((W.alloc (.cells #[.int .i64 1, .int .i64 2, .int .i64 1] 3)).alloc (.cells #[.int .i64 2, .int .i64 3, .int .i64 2] 3)).alloc (.cells #[.int .i64 3, .int .i64 4, .int .i64 2] 3)).alloc (.cells #[.int .i64 4, .int .i64 1, .int .i64 3] 3)).alloc (.cells #[.int .i64 1, .int .i64 3, .int .i64 9] 3)).alloc (.cells #[.slice (some ⟨N, 0, none⟩) 3 3, .slice (some ⟨N + 1, 0, none⟩) 3 3, .slice (some ⟨N + 2, 0, none⟩) 3 3, .slice (some ⟨N + 3, 0, none⟩) 3 3, .slice (some ⟨N + 4, 0, none⟩) 3 3] t)) := bel_alloc (bel_alloc (bel_alloc (bel_alloc (bel_alloc (Below.refl _ _) _) _) _) _) _
  rw [s1] at d0
  have d1 : Below ((W.alloc (.cells #[.int .i64 1, .int .i64 2, .int .i64 1] 3)).alloc (.cells #[.int .i64 2, .int .i64 3, .int .i64 2] 3)).heap.size ((W.alloc (.cells #[.int .i64 1, .int .i64 2, .int .i64 1] 3)).alloc (.cells #[.int .i64 2, .int .i64 3, .int .i64 2] 3)) ((((((W.alloc (.cells #[.int .i64 1, .int .i64 2, .int .i64 1] 3)).alloc (.cells #[.int .i64 2, .int .i64 3, .int .i64 2] 3)).alloc (.cells #[.int .i64 3, .int .i64 4, .int .i64 2] 3)).alloc (.cells #[.int .i64 4, .int .i64 1, .int .i64 3] 3)).alloc (.cells #[.int .i64 1, .int .i64 3, .int .i64 9] 3)).alloc (.cells #[.slice (some ⟨N, 0, none⟩) 3 3, .slice (some ⟨N + 1, 0, none⟩) 3 3, .slice (some ⟨N + 2, 0, none⟩) 3 3, .slice (some ⟨N + 3, 0, none⟩) 3 3, .slice (some ⟨N + 4, 0, none⟩) 3 3] t)) := bel_alloc (bel_alloc (bel_alloc (bel_alloc (Below.refl _ _) _) _) _) _
  rw [s2] at d1
  have d2 : Below (((W.alloc (.cells #[.int .i64 1, .int .i64 2, .int .i64 1] 3)).alloc (.cells #[.int .i64 2, .int .i64 3, .int .i64 2] 3)).alloc (.cells #[.int .i64 3, .int .i64 4, .int .i64 2] 3)).heap.size (((W.alloc (.cells #[.int .i64 1, .int .i64 2, .int .i64 1] 3)).alloc (.cells #[.int .i64 2, .int .i64 3, .int .i64 2] 3)).alloc (.cells #[.int .i64 3, .int .i64 4, .int .i64 2] 3)) ((((((W.alloc (.cells #[.int .i64 1, .int .i64 2, .int .i64 1] 3)).alloc (.cells #[.int .i64 2, .int .i64 3, .int .i64 2] 3)).alloc (.cells #[.int .i64 3, .int .i64 4, .int .i64 2] 3)).alloc (.cells #[.int .i64 4, .int .i64 1, .int .i64 3] 3)).alloc (.cells #[.int .i64 1, .int .i64 3, .int .i64 9] 3)).alloc (.cells #[.slice (some ⟨N, 0, none⟩) 3 3, .slice (some ⟨N + 1, 0, none⟩) 3 3, .slice (some ⟨N + 2, 0, none⟩) 3 3, .slice (some ⟨N + 3, 0, none⟩) 3 3, .slice (some ⟨N + 4, 0, none⟩) 3 3] t)) := bel_alloc (bel_alloc (bel_alloc (Below.refl _ _) _) _) _
  rw [s3] at d2
  have d3 : Below ((((W.alloc (.cells #[.int .i64 1, .int .i64 2, .int .i64 1] 3)).alloc (.cells #[.int .i64 2, .int .i64 3, .int .i64 2] 3)).alloc (.cells #[.int .i64 3, .int .i64 4, .int .i64 2] 3)).alloc (.cells #[.int .i64 4, .int .i64 1, .int .i64 3] 3)).heap.size ((((W.alloc (.cells #[.int .i64 1, .int .i64 2, .int .i64 1] 3)).alloc (.cells #[.int .i64 2, .int .i64 3, .int .i64 2] 3)).alloc (.cells #[.int .i64 3, .int .i64 4, .int .i64 2] 3)).alloc (.cells #[.int .i64 4, .int .i64 1, .int .i64 3] 3)) ((((((W.alloc (.cells #[.int .i64 1, .int .i64 2, .int .i64 1] 3)).alloc (.cells #[.int .i64 2, .int .i64 3, .int .i64 2] 3)).alloc (.cells #[.int .i64 3, .int .i64 4, .int .i64 2] 3)).alloc (.cells #[.int .i64 4, .int .i64 1, .int .i64 3] 3)).alloc (.cells #[.int .i64 1, .int .i64 3, .int .i64 9] 3)).alloc (.cells #[.slice (some ⟨N, 0, none⟩) 3 3, .slice (some ⟨N + 1, 0, none⟩) 3 3, .slice (some ⟨N + 2, 0, none⟩) 3 3, .slice (some ⟨N + 3, 0, none⟩) 3 3, .slice (some ⟨N + 4, 0, none⟩) 3 3] t)) := bel_alloc (bel_alloc (Below.refl _ _) _) _
  rw [s4] at d3
  have d4 : Below (((((W.alloc (.cells #[.int .i64 1, .int .i64 2, .int .i64 1] 3)).alloc (.cells #[.int .i64 2, .int .i64 3, .int .i64 2] 3)).alloc (.cells #[.int .i64 3, .int .i64 4, .int .i64 2] 3)).alloc (.cells #[.int .i64 4, .int .i64 1, .int .i64 3] 3)).alloc (.cells #[.int .i64 1, .int .i64 3, .int .i64 9] 3)).heap.size (((((W.alloc (.cells #[.int .i64 1, .int .i64 2, .int .i64 1] 3)).alloc (.cells #[.int .i64 2, .int .i64 3, .int .i64 2] 3)).alloc (.cells #[.int .i64 3, .int .i64 4, .int .i64 2] 3)).alloc (.cells #[.int .i64 4, .int .i64 1, .int .i64 3] 3)).alloc (.cells #[.int .i64 1, .int .i64 3, .int .i64 9] 3)) ((((((W.alloc (.cells #[.int .i64 1, .int .i64 2, .int .i64 1] 3)).alloc (.cells #[.int .i64 2, .int .i64 3, .int .i64 2] 3)).alloc (.cells #[.int .i64 3, .int .i64 4, .int .i64 2] 3)).alloc (.cells #[.int .i64 4, .int .i64 1, .int .i64 3] 3)).alloc (.cells #[.int .i64 1, .int .i64 3, .int .i64 9] 3)).alloc (.cells #[.slice (some ⟨N, 0, none⟩) 3 3, .slice (some ⟨N + 1, 0, none⟩) 3 3, .slice (some ⟨N + 2, 0, none⟩) 3 3, .slice (some ⟨N + 3, 0, none⟩) 3 3, .slice (some ⟨N + 4, 0, none⟩) 3 3] t)) := bel_alloc (Below.refl _ _) _
  rw [s5] at d4
  intro j hj
  obtain rfl | rfl | rfl | rfl | rfl : j = 0 ∨ j = 1 ∨ j = 2 ∨ j = 3 ∨ j = 4 := by omega
  · exact ⟨r5.1, (d0.cell (p := ⟨N + 0, 0, none⟩) (by show N + 0 < N + 1; omega)).trans e0.1, (d0.cell (p := ⟨N + 0, 1, none⟩) (by show N + 0 < N + 1; omega)).trans e0.2.1, (d0.cell (p := ⟨N + 0, 2, none⟩) (by show N + 0 < N + 1; omega)).trans e0.2.2⟩
  · exact ⟨r5.2.1, (d1.cell (p := ⟨N + 1, 0, none⟩) (by show N + 1 < N + 2; omega)).trans e1.1, (d1.cell (p := ⟨N + 1, 1, none⟩) (by show N + 1 < N + 2; omega)).trans e1.2.1, (d1.cell (p := ⟨N + 1, 2, none⟩) (by show N + 1 < N + 2; omega)).trans e1.2.2⟩
  · exact ⟨r5.2.2.1, (d2.cell (p := ⟨N + 2, 0, none⟩) (by show N + 2 < N + 3; omega)).trans e2.1, (d2.cell (p := ⟨N + 2, 1, none⟩) (by show N + 2 < N + 3; omega)).trans e2.2.1, (d2.cell (p := ⟨N + 2, 2, none⟩) (by show N + 2 < N + 3; omega)).trans e2.2.2⟩
  · exact ⟨r5.2.2.2.1, (d3.cell (p := ⟨N + 3, 0, none⟩) (by show N + 3 < N + 4; omega)).trans e3.1, (d3.cell (p := ⟨N + 3, 1, none⟩) (by show N + 3 < N + 4; omega)).trans e3.2.1, (d3.cell (p := ⟨N + 3, 2, none⟩) (by show N + 3 < N + 4; omega)).trans e3.2.2⟩
  · exact ⟨r5.2.2.2.2, (d4.cell (p := ⟨N + 4, 0, none⟩) (by show N + 4 < N + 5; omega)).trans e4.1, (d4.cell (p := ⟨N + 4, 1, none⟩) (by show N + 4 < N + 5; omega)).trans e4.2.1, (d4.cell (p := ⟨N + 4, 2, none⟩) (by show N + 4 < N + 5; omega)).trans e4.2.2⟩
theorem set16 (g F c : Nat) (b2 : Option Addr) (cb2 : Nat) (cs : List Int) (x y z : Int) (W : World) (hl : cs.length = 16) (hx : 1 ≤ x) (hx' : x ≤ 4) (hy : 1 ≤ y) (hy' : y ≤ 4) (hi : In.RM W b2 cs) :
    Calls Try.prog 29 #[.agg #[.slice (some ⟨g, 0, none⟩) 4 c, .slice b2 16 cb2, .slice (some ⟨F, 0, none⟩) 0 0, .int .i64 0], .int .i64 x, .int .i64 y, .int .i64 z] W fun e w' => ∃ b' cb', e = .returned (.agg #[.slice (some ⟨g, 0, none⟩) 4 c, .slice b' 16 cb', .slice (some ⟨F, 0, none⟩) 0 0, .int .i64 0]) ∧ Below W.heap.size W w' ∧ In.Lst w' b' (cs.set (plc 4 x y) z) W.heap.size w'.heap.size := by
  have h := l13Set (some ⟨g, 0, none⟩) b2 (some ⟨F, 0, none⟩) c cb2 0 4 0 cs [] x y z W (by decide) (by decide) hl (by omega) hx hx' hy hy' hi
  rw [hl] at h
  refine h.mono ?_
  rintro e w' ⟨b', cb', rfl, hb, hL⟩
  exact ⟨b', cb', rfl, hb, hL⟩
theorem wp_storeNB {op : Oper} {a : Act} {w : World} {K : Act → World → Prop} {Q : Exit → Act → World → Prop} (x y : Operand) (ho : op.op = .store 26 x y) {b : Nat} {v1 v2 v3 : Value} {t : Int} (h1 : v1.oneCell' = true) (h2 : v2.oneCell' = true) (h3 : v3.oneCell' = true) (ht : w.there b 0 4) (hx : a.eval x = .pointer (some ⟨b, 0, none⟩)) (hy : a.eval y = .agg #[v1, v2, v3, .int .i64 t])
    (hk : ∀ w', NB w' b v1 v2 v3 t → w'.there b 0 4 → (∀ B w0, Below B w0 w → B ≤ b → Below B w0 w') → w'.heap.size = w.heap.size → (∀ k, k ≠ b → w'.heap[k]? = w.heap[k]?) → K (a.put op.dst undef) w') : op.wp Try.prog a w K Q :=
  wp_store_mid 26 x y ho b 0 #[v1, v2, v3, .int .i64 t] hx hy ht infoN.2.2 (all_oneCell_toArray (cs := [v1, v2, v3, .int .i64 t]) (by intro v hv; simp only [List.mem_cons, List.not_mem_nil, or_false] at hv; rcases hv with rfl | rfl | rfl | rfl <;> first | rfl | assumption)) (hk _ (range_nb (World.rangeAt_setCells_same w b 0 _ ht)) (World.there_setCells ht _ _ _) (fun B w0 h hb => below_cells hb _ _ _ h) (size_cells _ _ _) (fun k hk => heap_cells hk _ _ _))
set_option maxHeartbeats 16000000 in
theorem specPl (w : World) :
    Calls Try.prog 13 #[] w fun e w' => ∃ v, e = .returned v ∧ Below w.heap.size w w' ∧ GotR v w w' pMs pCs [] 0 := by
  have q0 : (w.alloc (.cells #[.slice none 0 0, .slice none 0 0, .slice none 0 0, .int .i64 0] 26)).heap.size = w.heap.size + 1 := by simp
  have q1 : ((w.alloc (.cells #[.slice none 0 0, .slice none 0 0, .slice none 0 0, .int .i64 0] 26)).alloc (.cells #[.int .i64 3, .int .i64 3, .int .i64 7, .int .i64 1] 3)).heap.size = w.heap.size + 2 := by simp
  have b0 : Below w.heap.size w (w.alloc (.cells #[.slice none 0 0, .slice none 0 0, .slice none 0 0, .int .i64 0] 26)) := bel_new _ _
  have b1 : Below (w.heap.size + 1) (w.alloc (.cells #[.slice none 0 0, .slice none 0 0, .slice none 0 0, .int .i64 0] 26)) ((w.alloc (.cells #[.slice none 0 0, .slice none 0 0, .slice none 0 0, .int .i64 0] 26)).alloc (.cells #[.int .i64 3, .int .i64 3, .int .i64 7, .int .i64 1] 3)) := q0 ▸ bel_new _ _
  have b2 : Below (w.heap.size + 2) ((w.alloc (.cells #[.slice none 0 0, .slice none 0 0, .slice none 0 0, .int .i64 0] 26)).alloc (.cells #[.int .i64 3, .int .i64 3, .int .i64 7, .int .i64 1] 3)) (((w.alloc (.cells #[.slice none 0 0, .slice none 0 0, .slice none 0 0, .int .i64 0] 26)).alloc (.cells #[.int .i64 3, .int .i64 3, .int .i64 7, .int .i64 1] 3)).alloc (.cells (madeCells #[.int .i64 0] 16) 3)) := q1 ▸ bel_new _ _
  have r1 : In.RM ((w.alloc (.cells #[.slice none 0 0, .slice none 0 0, .slice none 0 0, .int .i64 0] 26)).alloc (.cells #[.int .i64 3, .int .i64 3, .int .i64 7, .int .i64 1] 3)) (some ⟨w.heap.size + 1, 0, none⟩) pWs := by have h := rm_lit (w.alloc (.cells #[.slice none 0 0, .slice none 0 0, .slice none 0 0, .int .i64 0] 26)) pWs; rw [q0] at h; exact h
  have hmc : madeCells #[Value.int .i64 0] 16 = (In.flat zCs).toArray := by
    apply Array.ext'
    rw [toList_madeCells_one]
    rfl
  have r2 : In.RM (((w.alloc (.cells #[.slice none 0 0, .slice none 0 0, .slice none 0 0, .int .i64 0] 26)).alloc (.cells #[.int .i64 3, .int .i64 3, .int .i64 7, .int .i64 1] 3)).alloc (.cells (madeCells #[.int .i64 0] 16) 3)) (some ⟨w.heap.size + 2, 0, none⟩) zCs := by have h := rm_lit ((w.alloc (.cells #[.slice none 0 0, .slice none 0 0, .slice none 0 0, .int .i64 0] 26)).alloc (.cells #[.int .i64 3, .int .i64 3, .int .i64 7, .int .i64 1] 3)) zCs; rw [q1, ← hmc] at h; exact h
  have R1 := hide (r1.below (q1 ▸ b2))
  have R2 := hide r2
  have HB := hide ((b0.trans (b1.mono (by omega))).trans (b2.mono (by omega)))
  have TZ := hide (there_under (there_under (there_new4 w (.slice none 0 0) (.slice none 0 0) (.slice none 0 0) (.int .i64 0) 26) b1 (by omega)) b2 (by omega))
  have q2 : (((w.alloc (.cells #[.slice none 0 0, .slice none 0 0, .slice none 0 0, .int .i64 0] 26)).alloc (.cells #[.int .i64 3, .int .i64 3, .int .i64 7, .int .i64 1] 3)).alloc (.cells (madeCells #[.int .i64 0] 16) 3)).heap.size = w.heap.size + 3 := by simp
  have KN := hide (fun W (h1 : In.RM W (some ⟨w.heap.size + 1, 0, none⟩) pWs) (h2 : In.RM W (some ⟨w.heap.size + 2, 0, none⟩) zCs) => by have h := l13NewA (some ⟨w.heap.size + 1, 0, none⟩) (some ⟨w.heap.size + 2, 0, none⟩) 4 16 4 pWs zCs W rfl (by decide) (by decide) (by decide) h1 h2; rw [show nnR pWs 4 = pMs from rfl, show zCs.length = 16 from rfl] at h; exact h)
  obtain ⟨i0, hi, hz0, hz1, hz2⟩ := In.infoI
  have hmk := fun W => run_make (P := Try.prog) W 22 3 i0 _ Try.underlying22 hi hz0 .i64 .i64 (16 : Int) (16 : Int) (by omega) (by omega) (by rw [hz2]; omega) (by omega)
  rw [hz1] at hmk
  clear b0 b1 b2 r1 r2 q0 q1 hmc
  go_enter Try.func13, Try.ntmps13
  go_wp2_with fail
  clear hmk hi hz0 hz1 hz2 i0
  refine (unhide KN _ (unhide R1) (unhide R2)).mono ?_
  clear KN R1 R2
  rintro e W1 ⟨g, c, b', cb', F, qs, rfl, b, rt, had⟩
  have hz1 := b.size
  rw [q2] at hz1
  have HB1 := hide ((unhide HB).trans (b.mono (unhide HB).size))
  have TZ1 := hide (there_under (unhide TZ) b (by omega))
  rw [q2] at rt
  have RT1 := hide rt
  clear HB TZ rt b q2
  have RL1 := hide ((unhide RT1).2.1)
  obtain ⟨N, hN⟩ : ∃ N, W1.heap.size = N := ⟨_, rfl⟩
  go_wp2_with fail
  try rw [hN]
  obtain ⟨WL, hWL⟩ : ∃ W, (((((((W1.alloc (.cells #[.slice (some ⟨g, 0, none⟩) 4 c, .slice b' 16 cb', .slice (some ⟨F, 0, none⟩) 0 0, .int .i64 0] 26)).alloc (.cells #[.int .i64 1, .int .i64 2, .int .i64 1] 3)).alloc (.cells #[.int .i64 2, .int .i64 3, .int .i64 2] 3)).alloc (.cells #[.int .i64 3, .int .i64 4, .int .i64 2] 3)).alloc (.cells #[.int .i64 4, .int .i64 1, .int .i64 3] 3)).alloc (.cells #[.int .i64 1, .int .i64 3, .int .i64 9] 3)).alloc (.cells #[.slice (some ⟨N + 1, 0, none⟩) 3 3, .slice (some ⟨N + 1 + 1, 0, none⟩) 3 3, .slice (some ⟨N + 1 + 2, 0, none⟩) 3 3, .slice (some ⟨N + 1 + 3, 0, none⟩) 3 3, .slice (some ⟨N + 1 + 4, 0, none⟩) 3 3] 22)) = W := ⟨_, rfl⟩
  have hA0 : (W1.alloc (.cells #[.slice (some ⟨g, 0, none⟩) 4 c, .slice b' 16 cb', .slice (some ⟨F, 0, none⟩) 0 0, .int .i64 0] 26)).heap.size = N + 1 := by simp [hN]
  have RG0 := hide (ring_new (W1.alloc (.cells #[.slice (some ⟨g, 0, none⟩) 4 c, .slice b' 16 cb', .slice (some ⟨F, 0, none⟩) 0 0, .int .i64 0] 26)) (N + 1) hA0 22)
  have bL : Below W1.heap.size W1 WL := by rw [← hWL]; exact bel_alloc (bel_alloc (bel_alloc (bel_alloc (bel_alloc (bel_alloc (bel_alloc (Below.refl _ _) _) _) _) _) _) _) _
  have bA : Below (N + 1) (W1.alloc (.cells #[.slice (some ⟨g, 0, none⟩) 4 c, .slice b' 16 cb', .slice (some ⟨F, 0, none⟩) 0 0, .int .i64 0] 26)) WL := by rw [← hWL, ← hA0]; exact bel_alloc (bel_alloc (bel_alloc (bel_alloc (bel_alloc (bel_alloc (Below.refl _ _) _) _) _) _) _) _
  have hX0 := nb_new W1 (.slice (some ⟨g, 0, none⟩) 4 c) (.slice b' 16 cb') (.slice (some ⟨F, 0, none⟩) 0 0) 0 26
  have hT0 := there_new4 W1 (.slice (some ⟨g, 0, none⟩) 4 c) (.slice b' 16 cb') (.slice (some ⟨F, 0, none⟩) 0 0) (.int .i64 0) 26
  rw [hN] at hX0 hT0
  have HX1 := hide (hX0.below (by rw [hA0]; exact bA))
  have TX1 := hide (there_under hT0 bA (by omega))
  have TZ2 := hide (there_under (unhide TZ1) bL (by omega))
  have HB2 := hide ((unhide HB1).trans (bL.mono (unhide HB1).size))
  have RM1 := hide ((unhide RL1).rm.below bL)
  have RT2 := hide ((unhide RT1).below bL)
  rw [hN] at RT2 hz1
  have hzL : WL.heap.size = N + 7 := by rw [← hWL]; simp [hN]
  have RG1 : Hid (RingW WL (N + 1 + 5) (N + 1)) := hide (by rw [← hWL]; exact unhide RG0)
  clear HB1 TZ1 RT1 RL1 RG0 bL bA hX0 hT0 hA0
  obtain ⟨R, hR⟩ : ∃ R, N + 1 = R := ⟨_, rfl⟩
  obtain ⟨Q, hQ⟩ : ∃ Q, N + 1 + 5 = Q := ⟨_, rfl⟩
  rw [hQ, hR] at RG1
  rw [show N + 1 + 1 + 1 + 1 + 1 + 1 = Q from hQ]
  rw [show (((((((W1.alloc (.cells #[.slice (some ⟨g, 0, none⟩) 4 c, .slice b' 16 cb', .slice (some ⟨F, 0, none⟩) 0 0, .int .i64 0] 26)).alloc (.cells #[.int .i64 1, .int .i64 2, .int .i64 1] 3)).alloc (.cells #[.int .i64 2, .int .i64 3, .int .i64 2] 3)).alloc (.cells #[.int .i64 3, .int .i64 4, .int .i64 2] 3)).alloc (.cells #[.int .i64 4, .int .i64 1, .int .i64 3] 3)).alloc (.cells #[.int .i64 1, .int .i64 3, .int .i64 9] 3)).alloc (.cells #[.slice (some ⟨N + 1, 0, none⟩) 3 3, .slice (some ⟨N + 1 + 1, 0, none⟩) 3 3, .slice (some ⟨N + 1 + 1 + 1, 0, none⟩) 3 3, .slice (some ⟨N + 1 + 1 + 1 + 1, 0, none⟩) 3 3, .slice (some ⟨N + 1 + 1 + 1 + 1 + 1, 0, none⟩) 3 3] 22)) = WL from hWL]
  have hNR : N < R := by omega
  have hNQ : N < Q := by omega
  have hRL : R + 5 < WL.heap.size := by omega
  have hQL : Q < WL.heap.size := by omega
  have hRg := hide rg_ok
  clear hWL hR hQ hN
  go_loopw [3] (fun i wr => ∃ j : Nat, j ≤ 5 ∧ i = .int .i64 j ∧ ∃ (b2 : Option Addr) (cb2 : Nat), Hid (WL.heap.size ≤ wr.heap.size) ∧ Hid (NB wr N (.slice (some ⟨g, 0, none⟩) 4 c) (.slice b2 16 cb2) (.slice (some ⟨F, 0, none⟩) 0 0) 0) ∧ Hid (wr.there N 0 4) ∧ Hid (wr.there w.heap.size 0 4) ∧ Hid (Below w.heap.size w wr) ∧ Hid (In.RM wr b2 (plC j)) ∧ Hid (RT wr (w.heap.size + 3) N (some ⟨g, 0, none⟩) b' (some ⟨F, 0, none⟩) pMs qs zCs []) ∧ Hid (RingW wr Q R)) (fun i _ => 5 - (intOf i).toNat)
  case atStart => exact ⟨0, by omega, rfl, b', cb', hide (Nat.le_refl _), HX1, TX1, TZ2, HB2, RM1, RT2, RG1⟩
  case round =>
    clear HX1 TX1 TZ2 HB2 RM1 RT2 RG1
    obtain ⟨j, hj, rfl, b2, cb2, hsz, hx, tx, tz, hb, hrm, hrt, hrg⟩ := hrel
    by_cases hlt : (j : Int) < 5
    · have k0 : (0 : Int) ≤ (j : Int) := by omega
      have hj5 : j < 5 := by omega
      obtain ⟨o1, o2, o3, o4⟩ := unhide hRg j hj5
      obtain ⟨c0, c1, c2, c3⟩ := unhide hrg j hj5
      have HCS := hide (plC_len j)
      have HST := hide (show plC (j + 1) = ((plC j).set (plc 4 (rgA j) (rgB j)) (rgC j)).set (plc 4 (rgB j) (rgA j)) (rgC j) from rfl)
      generalize plC j = cs at hrm HCS HST
      generalize hx_ : rgA j = x at o1 o2 c1 HST
      generalize hy_ : rgB j = y at o3 o4 c2 HST
      generalize hz_ : rgC j = z at c3 HST
      have HX_ := hide hx_
      have HY_ := hide hy_
      have HZ_ := hide hz_
      clear hx_ hy_ hz_
      have hszw := unhide hsz
      go_wp2_with fail
      refine wp_region_noPanic ?_
      refine Rl.drew (S := fun w' => w'.cell? ⟨Q, j, none⟩ = some (.slice (some ⟨R + j, 0, none⟩) 3 3) ∧ w'.cell? ⟨R + j, 0, none⟩ = some (.int .i64 x) ∧ w'.cell? ⟨R + j, 1, none⟩ = some (.int .i64 y) ∧ w'.cell? ⟨R + j, 2, none⟩ = some (.int .i64 z)) (T := fun w' => w'.cell? ⟨N, 0, none⟩ = some (.slice (some ⟨g, 0, none⟩) 4 c) ∧ w'.cell? ⟨N, 1, none⟩ = some (.slice b2 16 cb2) ∧ w'.cell? ⟨N, 2, none⟩ = some (.slice (some ⟨F, 0, none⟩) 0 0) ∧ w'.cell? ⟨N, 3, none⟩ = some (.int .i64 0)) 20 (by kernel_rfl) ⟨⟨c0, c1, c2, c3⟩, unhide hx⟩ (fun hHeld => ?_)

      (refine Rl.tk (k := 20) (i := 0) (d := 19) (v := .agg #[.slice (some ⟨g, 0, none⟩) 4 c, .slice b2 16 cb2, .slice (some ⟨F, 0, none⟩) 0 0, .int .i64 0]) rfl rfl (by kernel_rfl) (by kernel_rfl) (by kernel_rfl) (by kernel_rfl) rfl (by kernel_rfl) (fun _ _ _ h => h) (by rfl) (fun w0 hSw => execNB _ rfl rfl hSw.2) (by assumption) ?_)
      (try simp only [Act.put, List.setIfInBounds_toArray, List.set_cons_zero, List.set_cons_succ])
      (refine Rl.tkS (k := 20) (i := 1) (d := 20) (v := ?_) rfl rfl (by kernel_rfl) (by kernel_rfl) (by kernel_rfl) rfl (fun _ _ _ h => h) (by rfl) ?_ (by assumption) ?_; rotate_left; (focus (intro w0 hSw; (try dsimp only at hSw); go_simp; (try with_reducible rfl))); (try simp only [Act.put, List.setIfInBounds_toArray, List.set_cons_zero, List.set_cons_succ]))
      (refine Rl.tkS (k := 20) (i := 2) (d := 21) (v := ?_) rfl rfl (by kernel_rfl) (by kernel_rfl) (by kernel_rfl) rfl (fun _ _ _ h => h) (by rfl) ?_ (by assumption) ?_; rotate_left; (focus (intro w0 hSw; (try dsimp only at hSw); go_simp; (try with_reducible rfl))); (try simp only [Act.put, List.setIfInBounds_toArray, List.set_cons_zero, List.set_cons_succ]))
      (refine Rl.tkS (k := 20) (i := 3) (d := 22) (v := ?_) rfl rfl (by kernel_rfl) (by kernel_rfl) (by kernel_rfl) rfl (fun _ _ _ h => h) (by rfl) ?_ (by assumption) ?_; rotate_left; (focus (intro w0 hSw; (try dsimp only at hSw); go_simp; (try with_reducible rfl))); (try simp only [Act.put, List.setIfInBounds_toArray, List.set_cons_zero, List.set_cons_succ]))
      (refine Rl.tkS (k := 20) (i := 4) (d := 23) (v := ?_) rfl rfl (by kernel_rfl) (by kernel_rfl) (by kernel_rfl) rfl (fun _ _ _ h => h) (by rfl) ?_ (by assumption) ?_; rotate_left; (focus (intro w0 hSw; (try dsimp only at hSw); go_simp; (try with_reducible rfl))); (try simp only [Act.put, List.setIfInBounds_toArray, List.set_cons_zero, List.set_cons_succ]))
      (refine Rl.tkS (k := 20) (i := 5) (d := 24) (v := ?_) rfl rfl (by kernel_rfl) (by kernel_rfl) (by kernel_rfl) rfl (fun _ _ _ h => h) (by rfl) ?_ (by assumption) ?_; rotate_left; (focus (intro w0 hSw; (try dsimp only at hSw); go_simp; (try with_reducible rfl))); (try simp only [Act.put, List.setIfInBounds_toArray, List.set_cons_zero, List.set_cons_succ]))
      (refine Rl.tkS (k := 20) (i := 6) (d := 25) (v := ?_) rfl rfl (by kernel_rfl) (by kernel_rfl) (by kernel_rfl) rfl (fun _ _ _ h => h) (by rfl) ?_ (by assumption) ?_; rotate_left; (focus (intro w0 hSw; (try dsimp only at hSw); go_simp; (try with_reducible rfl))); (try simp only [Act.put, List.setIfInBounds_toArray, List.set_cons_zero, List.set_cons_succ]))
      (refine Rl.tkS (k := 20) (i := 7) (d := 26) (v := ?_) rfl rfl (by kernel_rfl) (by kernel_rfl) (by kernel_rfl) rfl (fun _ _ _ h => h) (by rfl) ?_ (by assumption) ?_; rotate_left; (focus (intro w0 hSw; (try dsimp only at hSw); go_simp; (try with_reducible rfl))); (try simp only [Act.put, List.setIfInBounds_toArray, List.set_cons_zero, List.set_cons_succ]))
      (refine Rl.tkS (k := 20) (i := 8) (d := 27) (v := ?_) rfl rfl (by kernel_rfl) (by kernel_rfl) (by kernel_rfl) rfl (fun _ _ _ h => h) (by rfl) ?_ (by assumption) ?_; rotate_left; (focus (intro w0 hSw; (try dsimp only at hSw); go_simp; (try with_reducible rfl))); (try simp only [Act.put, List.setIfInBounds_toArray, List.set_cons_zero, List.set_cons_succ]))
      (refine Rl.tkS (k := 20) (i := 9) (d := 28) (v := ?_) rfl rfl (by kernel_rfl) (by kernel_rfl) (by kernel_rfl) rfl (fun _ _ _ h => h) (by rfl) ?_ (by assumption) ?_; rotate_left; (focus (intro w0 hSw; (try dsimp only at hSw); go_simp; (try with_reducible rfl))); (try simp only [Act.put, List.setIfInBounds_toArray, List.set_cons_zero, List.set_cons_succ]))
      (refine Rl.tkS (k := 20) (i := 10) (d := 29) (v := ?_) rfl rfl (by kernel_rfl) (by kernel_rfl) (by kernel_rfl) rfl (fun _ _ _ h => h) (by rfl) ?_ (by assumption) ?_; rotate_left; (focus (intro w0 hSw; (try dsimp only at hSw); go_simp; (try with_reducible rfl))); (try simp only [Act.put, List.setIfInBounds_toArray, List.set_cons_zero, List.set_cons_succ]))
      (refine Rl.tkS (k := 20) (i := 11) (d := 30) (v := ?_) rfl rfl (by kernel_rfl) (by kernel_rfl) (by kernel_rfl) rfl (fun _ _ _ h => h) (by rfl) ?_ (by assumption) ?_; rotate_left; (focus (intro w0 hSw; (try dsimp only at hSw); go_simp; (try with_reducible rfl))); (try simp only [Act.put, List.setIfInBounds_toArray, List.set_cons_zero, List.set_cons_succ]))
      (refine Rl.tkS (k := 20) (i := 12) (d := 31) (v := ?_) rfl rfl (by kernel_rfl) (by kernel_rfl) (by kernel_rfl) rfl (fun _ _ _ h => h) (by rfl) ?_ (by assumption) ?_; rotate_left; (focus (intro w0 hSw; (try dsimp only at hSw); go_simp; (try with_reducible rfl))); (try simp only [Act.put, List.setIfInBounds_toArray, List.set_cons_zero, List.set_cons_succ]))
      (refine Rl.tkS (k := 20) (i := 13) (d := 32) (v := ?_) rfl rfl (by kernel_rfl) (by kernel_rfl) (by kernel_rfl) rfl (fun _ _ _ h => h) (by rfl) ?_ (by assumption) ?_; rotate_left; (focus (intro w0 hSw; (try dsimp only at hSw); go_simp; (try with_reducible rfl))); (try simp only [Act.put, List.setIfInBounds_toArray, List.set_cons_zero, List.set_cons_succ]))
      (refine Rl.tkS (k := 20) (i := 14) (d := 33) (v := ?_) rfl rfl (by kernel_rfl) (by kernel_rfl) (by kernel_rfl) rfl (fun _ _ _ h => h) (by rfl) ?_ (by assumption) ?_; rotate_left; (focus (intro w0 hSw; (try dsimp only at hSw); go_simp; (try with_reducible rfl))); (try simp only [Act.put, List.setIfInBounds_toArray, List.set_cons_zero, List.set_cons_succ]))
      (refine Rl.tkS (k := 20) (i := 15) (d := 34) (v := ?_) rfl rfl (by kernel_rfl) (by kernel_rfl) (by kernel_rfl) rfl (fun _ _ _ h => h) (by rfl) ?_ (by assumption) ?_; rotate_left; (focus (intro w0 hSw; (try dsimp only at hSw); go_simp; (try with_reducible rfl))); (try simp only [Act.put, List.setIfInBounds_toArray, List.set_cons_zero, List.set_cons_succ]))
      (refine Rl.tkS (k := 20) (i := 16) (d := 35) (v := ?_) rfl rfl (by kernel_rfl) (by kernel_rfl) (by kernel_rfl) rfl (fun _ _ _ h => h) (by rfl) ?_ (by assumption) ?_; rotate_left; (focus (intro w0 hSw; (try dsimp only at hSw); go_simp; (try with_reducible rfl))); (try simp only [Act.put, List.setIfInBounds_toArray, List.set_cons_zero, List.set_cons_succ]))
      (refine Rl.tkS (k := 20) (i := 17) (d := 36) (v := ?_) rfl rfl (by kernel_rfl) (by kernel_rfl) (by kernel_rfl) rfl (fun _ _ _ h => h) (by rfl) ?_ (by assumption) ?_; rotate_left; (focus (intro w0 hSw; (try dsimp only at hSw); go_simp; (try with_reducible rfl))); (try simp only [Act.put, List.setIfInBounds_toArray, List.set_cons_zero, List.set_cons_succ]))
      (refine Rl.tkS (k := 20) (i := 18) (d := 37) (v := ?_) rfl rfl (by kernel_rfl) (by kernel_rfl) (by kernel_rfl) rfl (fun _ _ _ h => h) (by rfl) ?_ (by assumption) ?_; rotate_left; (focus (intro w0 hSw; (try dsimp only at hSw); go_simp; (try with_reducible rfl))); (try simp only [Act.put, List.setIfInBounds_toArray, List.set_cons_zero, List.set_cons_succ]))
      (refine Rl.ready (rs := [19]) (by kernel_rfl) (by simp) ?_; refine Rl.AllReadyL.cons (o := _) rfl rfl (fun K hK => ?_) Rl.AllReadyL.nil; go_simp)
      refine (set16 g F c b2 cb2 cs x y z wr.drew (unhide HCS) (by omega) (by omega) (by omega) (by omega) (unhide hrm)).mono ?_
      rintro e w2 ⟨b3, cb3, rfl, bb_, rm_⟩
      have b_ : Below wr.heap.size wr w2 := (Below.refl _ _).drew.trans bb_
      have hb_ := hide b_
      have hz_ := b_.size
      have rmq := hide rm_
      have hxl := (unhide hx).lt
      have txq := hide (there_under (unhide tx) b_ hxl)
      have tzq := hide (there_under (unhide tz) b_ (by omega))
      have xq := hide ((unhide hx).below b_)
      have bq := hide ((unhide hb).trans (b_.mono (unhide hb).size))
      have rtq := hide ((unhide hrt).below b_)
      have rgq := hide ((unhide hrg).under b_ (by omega) (by omega))
      obtain ⟨d0, d1, d2, d3⟩ := unhide rgq j hj5
      rw [unhide HX_] at d1
      rw [unhide HY_] at d2
      rw [unhide HZ_] at d3
      clear hHeld rm_ bb_ b_ tx tz hb hrm hrt hrg c0 c1 c2 c3
      refine hK.out _ _ ⟨⟨d0, d1, d2, d3⟩, unhide xq⟩ (fun hHeld => ?_)
      clear hK K
      (try simp only [Act.put, List.setIfInBounds_toArray, List.set_cons_zero, List.set_cons_succ])
      (refine Rl.ready (rs := [20]) (by kernel_rfl) (by simp) ?_; refine Rl.AllReadyL.last (o := _) rfl (by kernel_rfl) (fun K hK => ?_))
      rw [if_pos (by rfl)]
      refine wp_storeNB _ _ rfl (v1 := .slice (some ⟨g, 0, none⟩) 4 c) (v2 := .slice b3 16 cb3) (v3 := .slice (some ⟨F, 0, none⟩) 0 0) (t := 0) rfl rfl rfl (unhide txq) rfl rfl ?_
      intro w3 n_ t_ bb_ s_ k_
      have hds : wr.drew.heap.size = wr.heap.size := rfl
      have hX3 := hide n_
      have tX3 := hide t_
      have tZ3 := hide (there_blk (unhide tzq) (k_ w.heap.size (by omega)))
      have hB3 := hide (bb_ _ _ (unhide bq) (by omega))
      have hL3 := hide (((unhide rmq).but (W' := w3) (p := fun k => k ≠ N) (Nat.le_of_eq s_.symm) (fun k _ e => k_ k e) (fun k h1 h2 => by omega)).rm)
      have hT3 := hide ((unhide rtq).but (L := N) (H := N + 1) (Nat.le_of_eq s_.symm) (fun k _ h => k_ k (by omega)) (.inl (Nat.le_refl _)))
      have hG3 := hide ((unhide rgq).but (fun k h => k_ k (by omega)))
      have hS3 : Hid (WL.heap.size ≤ w3.heap.size) := hide (by have := unhide hsz; omega)
      have hC3 : Hid ((cs.set (plc 4 x y) z).length = 16) := hide (by rw [List.length_set]; exact unhide HCS)
      have hszw3 := unhide hS3
      obtain ⟨c0, c1, c2, c3⟩ := unhide hG3 j hj5
      rw [unhide HX_] at c1
      rw [unhide HY_] at c2
      rw [unhide HZ_] at c3
      clear hHeld n_ t_ bb_ k_ rmq txq tzq xq bq rtq rgq d0 d1 d2 d3 hb_ hx hsz HCS
      refine hK.out _ _ ⟨c0, c1, c2, c3⟩ (fun hHeld => ?_)
      clear hK K hHeld
      (try simp only [Act.put, List.setIfInBounds_toArray, List.set_cons_zero, List.set_cons_succ])
      refine Rl.done (by kernel_rfl) (NoPanic.normal ?_) _
      go_wp2_with fail
      refine wp_region_noPanic ?_
      refine Rl.drew (S := fun w' => w'.cell? ⟨Q, j, none⟩ = some (.slice (some ⟨R + j, 0, none⟩) 3 3) ∧ w'.cell? ⟨R + j, 0, none⟩ = some (.int .i64 x) ∧ w'.cell? ⟨R + j, 1, none⟩ = some (.int .i64 y) ∧ w'.cell? ⟨R + j, 2, none⟩ = some (.int .i64 z)) (T := fun w' => w'.cell? ⟨N, 0, none⟩ = some (.slice (some ⟨g, 0, none⟩) 4 c) ∧ w'.cell? ⟨N, 1, none⟩ = some (.slice b3 16 cb3) ∧ w'.cell? ⟨N, 2, none⟩ = some (.slice (some ⟨F, 0, none⟩) 0 0) ∧ w'.cell? ⟨N, 3, none⟩ = some (.int .i64 0)) 20 (by kernel_rfl) ⟨⟨c0, c1, c2, c3⟩, unhide hX3⟩ (fun hHeld => ?_)

      (refine Rl.tk (k := 20) (i := 0) (d := 39) (v := .agg #[.slice (some ⟨g, 0, none⟩) 4 c, .slice b3 16 cb3, .slice (some ⟨F, 0, none⟩) 0 0, .int .i64 0]) rfl rfl (by kernel_rfl) (by kernel_rfl) (by kernel_rfl) (by kernel_rfl) rfl (by kernel_rfl) (fun _ _ _ h => h) (by rfl) (fun w0 hSw => execNB _ rfl rfl hSw.2) (by assumption) ?_)
      (try simp only [Act.put, List.setIfInBounds_toArray, List.set_cons_zero, List.set_cons_succ])
      (refine Rl.tkS (k := 20) (i := 1) (d := 40) (v := ?_) rfl rfl (by kernel_rfl) (by kernel_rfl) (by kernel_rfl) rfl (fun _ _ _ h => h) (by rfl) ?_ (by assumption) ?_; rotate_left; (focus (intro w0 hSw; (try dsimp only at hSw); go_simp; (try with_reducible rfl))); (try simp only [Act.put, List.setIfInBounds_toArray, List.set_cons_zero, List.set_cons_succ]))
      (refine Rl.tkS (k := 20) (i := 2) (d := 41) (v := ?_) rfl rfl (by kernel_rfl) (by kernel_rfl) (by kernel_rfl) rfl (fun _ _ _ h => h) (by rfl) ?_ (by assumption) ?_; rotate_left; (focus (intro w0 hSw; (try dsimp only at hSw); go_simp; (try with_reducible rfl))); (try simp only [Act.put, List.setIfInBounds_toArray, List.set_cons_zero, List.set_cons_succ]))
      (refine Rl.tkS (k := 20) (i := 3) (d := 42) (v := ?_) rfl rfl (by kernel_rfl) (by kernel_rfl) (by kernel_rfl) rfl (fun _ _ _ h => h) (by rfl) ?_ (by assumption) ?_; rotate_left; (focus (intro w0 hSw; (try dsimp only at hSw); go_simp; (try with_reducible rfl))); (try simp only [Act.put, List.setIfInBounds_toArray, List.set_cons_zero, List.set_cons_succ]))
      (refine Rl.tkS (k := 20) (i := 4) (d := 43) (v := ?_) rfl rfl (by kernel_rfl) (by kernel_rfl) (by kernel_rfl) rfl (fun _ _ _ h => h) (by rfl) ?_ (by assumption) ?_; rotate_left; (focus (intro w0 hSw; (try dsimp only at hSw); go_simp; (try with_reducible rfl))); (try simp only [Act.put, List.setIfInBounds_toArray, List.set_cons_zero, List.set_cons_succ]))
      (refine Rl.tkS (k := 20) (i := 5) (d := 44) (v := ?_) rfl rfl (by kernel_rfl) (by kernel_rfl) (by kernel_rfl) rfl (fun _ _ _ h => h) (by rfl) ?_ (by assumption) ?_; rotate_left; (focus (intro w0 hSw; (try dsimp only at hSw); go_simp; (try with_reducible rfl))); (try simp only [Act.put, List.setIfInBounds_toArray, List.set_cons_zero, List.set_cons_succ]))
      (refine Rl.tkS (k := 20) (i := 6) (d := 45) (v := ?_) rfl rfl (by kernel_rfl) (by kernel_rfl) (by kernel_rfl) rfl (fun _ _ _ h => h) (by rfl) ?_ (by assumption) ?_; rotate_left; (focus (intro w0 hSw; (try dsimp only at hSw); go_simp; (try with_reducible rfl))); (try simp only [Act.put, List.setIfInBounds_toArray, List.set_cons_zero, List.set_cons_succ]))
      (refine Rl.tkS (k := 20) (i := 7) (d := 46) (v := ?_) rfl rfl (by kernel_rfl) (by kernel_rfl) (by kernel_rfl) rfl (fun _ _ _ h => h) (by rfl) ?_ (by assumption) ?_; rotate_left; (focus (intro w0 hSw; (try dsimp only at hSw); go_simp; (try with_reducible rfl))); (try simp only [Act.put, List.setIfInBounds_toArray, List.set_cons_zero, List.set_cons_succ]))
      (refine Rl.tkS (k := 20) (i := 8) (d := 47) (v := ?_) rfl rfl (by kernel_rfl) (by kernel_rfl) (by kernel_rfl) rfl (fun _ _ _ h => h) (by rfl) ?_ (by assumption) ?_; rotate_left; (focus (intro w0 hSw; (try dsimp only at hSw); go_simp; (try with_reducible rfl))); (try simp only [Act.put, List.setIfInBounds_toArray, List.set_cons_zero, List.set_cons_succ]))
      (refine Rl.tkS (k := 20) (i := 9) (d := 48) (v := ?_) rfl rfl (by kernel_rfl) (by kernel_rfl) (by kernel_rfl) rfl (fun _ _ _ h => h) (by rfl) ?_ (by assumption) ?_; rotate_left; (focus (intro w0 hSw; (try dsimp only at hSw); go_simp; (try with_reducible rfl))); (try simp only [Act.put, List.setIfInBounds_toArray, List.set_cons_zero, List.set_cons_succ]))
      (refine Rl.tkS (k := 20) (i := 10) (d := 49) (v := ?_) rfl rfl (by kernel_rfl) (by kernel_rfl) (by kernel_rfl) rfl (fun _ _ _ h => h) (by rfl) ?_ (by assumption) ?_; rotate_left; (focus (intro w0 hSw; (try dsimp only at hSw); go_simp; (try with_reducible rfl))); (try simp only [Act.put, List.setIfInBounds_toArray, List.set_cons_zero, List.set_cons_succ]))
      (refine Rl.tkS (k := 20) (i := 11) (d := 50) (v := ?_) rfl rfl (by kernel_rfl) (by kernel_rfl) (by kernel_rfl) rfl (fun _ _ _ h => h) (by rfl) ?_ (by assumption) ?_; rotate_left; (focus (intro w0 hSw; (try dsimp only at hSw); go_simp; (try with_reducible rfl))); (try simp only [Act.put, List.setIfInBounds_toArray, List.set_cons_zero, List.set_cons_succ]))
      (refine Rl.tkS (k := 20) (i := 12) (d := 51) (v := ?_) rfl rfl (by kernel_rfl) (by kernel_rfl) (by kernel_rfl) rfl (fun _ _ _ h => h) (by rfl) ?_ (by assumption) ?_; rotate_left; (focus (intro w0 hSw; (try dsimp only at hSw); go_simp; (try with_reducible rfl))); (try simp only [Act.put, List.setIfInBounds_toArray, List.set_cons_zero, List.set_cons_succ]))
      (refine Rl.tkS (k := 20) (i := 13) (d := 52) (v := ?_) rfl rfl (by kernel_rfl) (by kernel_rfl) (by kernel_rfl) rfl (fun _ _ _ h => h) (by rfl) ?_ (by assumption) ?_; rotate_left; (focus (intro w0 hSw; (try dsimp only at hSw); go_simp; (try with_reducible rfl))); (try simp only [Act.put, List.setIfInBounds_toArray, List.set_cons_zero, List.set_cons_succ]))
      (refine Rl.tkS (k := 20) (i := 14) (d := 53) (v := ?_) rfl rfl (by kernel_rfl) (by kernel_rfl) (by kernel_rfl) rfl (fun _ _ _ h => h) (by rfl) ?_ (by assumption) ?_; rotate_left; (focus (intro w0 hSw; (try dsimp only at hSw); go_simp; (try with_reducible rfl))); (try simp only [Act.put, List.setIfInBounds_toArray, List.set_cons_zero, List.set_cons_succ]))
      (refine Rl.tkS (k := 20) (i := 15) (d := 54) (v := ?_) rfl rfl (by kernel_rfl) (by kernel_rfl) (by kernel_rfl) rfl (fun _ _ _ h => h) (by rfl) ?_ (by assumption) ?_; rotate_left; (focus (intro w0 hSw; (try dsimp only at hSw); go_simp; (try with_reducible rfl))); (try simp only [Act.put, List.setIfInBounds_toArray, List.set_cons_zero, List.set_cons_succ]))
      (refine Rl.tkS (k := 20) (i := 16) (d := 55) (v := ?_) rfl rfl (by kernel_rfl) (by kernel_rfl) (by kernel_rfl) rfl (fun _ _ _ h => h) (by rfl) ?_ (by assumption) ?_; rotate_left; (focus (intro w0 hSw; (try dsimp only at hSw); go_simp; (try with_reducible rfl))); (try simp only [Act.put, List.setIfInBounds_toArray, List.set_cons_zero, List.set_cons_succ]))
      (refine Rl.tkS (k := 20) (i := 17) (d := 56) (v := ?_) rfl rfl (by kernel_rfl) (by kernel_rfl) (by kernel_rfl) rfl (fun _ _ _ h => h) (by rfl) ?_ (by assumption) ?_; rotate_left; (focus (intro w0 hSw; (try dsimp only at hSw); go_simp; (try with_reducible rfl))); (try simp only [Act.put, List.setIfInBounds_toArray, List.set_cons_zero, List.set_cons_succ]))
      (refine Rl.tkS (k := 20) (i := 18) (d := 57) (v := ?_) rfl rfl (by kernel_rfl) (by kernel_rfl) (by kernel_rfl) rfl (fun _ _ _ h => h) (by rfl) ?_ (by assumption) ?_; rotate_left; (focus (intro w0 hSw; (try dsimp only at hSw); go_simp; (try with_reducible rfl))); (try simp only [Act.put, List.setIfInBounds_toArray, List.set_cons_zero, List.set_cons_succ]))
      (refine Rl.ready (rs := [19]) (by kernel_rfl) (by simp) ?_; refine Rl.AllReadyL.cons (o := _) rfl rfl (fun K hK => ?_) Rl.AllReadyL.nil; go_simp)
      refine (set16 g F c b3 cb3 (cs.set (plc 4 x y) z) y x z w3.drew (unhide hC3) (by omega) (by omega) (by omega) (by omega) (unhide hL3)).mono ?_
      rintro e w4 ⟨b4, cb4, rfl, bb_, rm_⟩
      have b_ : Below w3.heap.size w3 w4 := (Below.refl _ _).drew.trans bb_
      have hb_ := hide b_
      have hz_ := b_.size
      have rmq := hide rm_
      have hxl := (unhide hX3).lt
      have txq := hide (there_under (unhide tX3) b_ hxl)
      have tzq := hide (there_under (unhide tZ3) b_ (by omega))
      have xq := hide ((unhide hX3).below b_)
      have bq := hide ((unhide hB3).trans (b_.mono (unhide hB3).size))
      have rtq := hide ((unhide hT3).below b_)
      have rgq := hide ((unhide hG3).under b_ (by omega) (by omega))
      obtain ⟨d0, d1, d2, d3⟩ := unhide rgq j hj5
      rw [unhide HX_] at d1
      rw [unhide HY_] at d2
      rw [unhide HZ_] at d3
      clear hHeld rm_ bb_ b_ tX3 tZ3 hB3 hL3 hT3 hG3 c0 c1 c2 c3
      refine hK.out _ _ ⟨⟨d0, d1, d2, d3⟩, unhide xq⟩ (fun hHeld => ?_)
      clear hK K
      (try simp only [Act.put, List.setIfInBounds_toArray, List.set_cons_zero, List.set_cons_succ])
      (refine Rl.ready (rs := [20]) (by kernel_rfl) (by simp) ?_; refine Rl.AllReadyL.last (o := _) rfl (by kernel_rfl) (fun K hK => ?_))
      rw [if_pos (by rfl)]
      refine wp_storeNB _ _ rfl (v1 := .slice (some ⟨g, 0, none⟩) 4 c) (v2 := .slice b4 16 cb4) (v3 := .slice (some ⟨F, 0, none⟩) 0 0) (t := 0) rfl rfl rfl (unhide txq) rfl rfl ?_
      intro w5 n_ t_ bb_ s_ k_
      have hds : w3.drew.heap.size = w3.heap.size := rfl
      have hX5 := hide n_
      have tX5 := hide t_
      have tZ5 := hide (there_blk (unhide tzq) (k_ w.heap.size (by omega)))
      have hB5 := hide (bb_ _ _ (unhide bq) (by omega))
      have hL5 := hide (((unhide rmq).but (W' := w5) (p := fun k => k ≠ N) (Nat.le_of_eq s_.symm) (fun k _ e => k_ k e) (fun k h1 h2 => by omega)).rm)
      have hT5 := hide ((unhide rtq).but (L := N) (H := N + 1) (Nat.le_of_eq s_.symm) (fun k _ h => k_ k (by omega)) (.inl (Nat.le_refl _)))
      have hG5 := hide ((unhide rgq).but (fun k h => k_ k (by omega)))
      have hS5 : Hid (WL.heap.size ≤ w5.heap.size) := hide (by have := unhide hS3; omega)
      have hC5 : Hid (((cs.set (plc 4 x y) z).set (plc 4 y x) z).length = 16) := hide (by rw [List.length_set]; exact unhide hC3)
      have hszw5 := unhide hS5
      obtain ⟨c0, c1, c2, c3⟩ := unhide hG5 j hj5
      rw [unhide HX_] at c1
      rw [unhide HY_] at c2
      rw [unhide HZ_] at c3
      clear hHeld n_ t_ bb_ k_ rmq txq tzq xq bq rtq rgq d0 d1 d2 d3 hb_ hX3 hS3 hC3
      refine hK.out _ _ ⟨c0, c1, c2, c3⟩ (fun hHeld => ?_)
      clear hK K hHeld
      (try simp only [Act.put, List.setIfInBounds_toArray, List.set_cons_zero, List.set_cons_succ])
      refine Rl.done (by kernel_rfl) (NoPanic.normal ?_) _
      go_wp2_with fail
      go_roundw
      case rel => exact ⟨j + 1, by omega, by go_num, b4, cb4, hS5, hX5, tX5, tZ5, hB5, by rw [unhide HST]; exact hL5, hT5, hG5⟩
      case measure => simp [intOf]; omega
    · obtain rfl : j = 5 := by omega
      rw [plC_five] at hrm
      have KO := hide (l13Own (some ⟨g, 0, none⟩) b2 (some ⟨F, 0, none⟩) c cb2 0 4 0 pMs qs pCs [] wr rfl (by decide) (by decide) (by decide) (by simp) (fun i hi => r64_ok (plain_sm.2.1 i hi)) (unhide had) (unhide hrt).nr (unhide hrm) (.inl rfl))
      have KO2 := hide (by have h := unhide KO; rw [show pCs.length = 16 from rfl, show ([] : List Fm.R).length = 0 from rfl] at h; exact h)
      clear KO hrt hrg hrm tx had hRg
      obtain ⟨p0, p1, p2, p3⟩ := unhide hx
      go_wp2_with fail
      clear p0 p1 p2 p3
      refine (unhide KO2).mono ?_
      rintro e W2 ⟨a', b3, d', ca', cb3, cd', qs', rfl, b_, rt, _⟩
      have HB3 := hide ((unhide hb).trans (b_.mono (unhide hb).size))
      have hszw := unhide hsz
      have hz2 := b_.size
      have hxl := (unhide hx).lt
      have TZ3 := hide (there_under (unhide tz) b_ (by omega))
      have RT3 := hide rt
      clear b_ rt KO2 hx tz hb
      go_wp2_with (refine storeNB _ _ rfl rfl rfl rfl rfl (unhide TZ3) rfl rfl ?_; intro V9 n9 t9 bb9 s9 k9)
      (try rw [Exit.noGoto_ret])
      refine bodyPost_ret (v := .agg #[.slice a' 4 ca', .slice b3 16 cb3, .slice d' 0 cd', .int .i64 0]) (resultsN rfl _ _ rfl n9) rfl ⟨_, rfl, bb9 _ _ (unhide HB3) (Nat.le_refl _), a', b3, d', ca', cb3, cd', qs', rfl, ?_⟩
      exact ((unhide RT3).but (L := w.heap.size) (H := w.heap.size + 1) (by omega) (fun k _ h => k9 k (by omega)) (.inr (by omega))).mono (by omega) (by omega)
end Nt
end Go.Proofs.Ytpmlpojefelbbaa
namespace Go.Proofs.Ytpmlpojefelbbaa
open Go.ChangeShapes Go.WideShapes Go.ChangeAt Go.RowKit
set_option linter.unusedVariables false
set_option linter.unusedSimpArgs false
set_option maxRecDepth 100000
attribute [local go_sem ↓] Go.wp_at_zero Go.wp_at_succ
namespace Nt
open W1 Rt
set_option maxHeartbeats 8000000 in
theorem eqNS (a b : Option Addr) (ms : List Rm) (ps qs : List Pl) (ca cb : Nat) (w : World) (hm : ms.length ≤ 1048576) (hs : ∀ i, i < ms.length → Sm (ms.getD i Rm.zero)) (hr : NR w a ms ps) (hr' : NR w b ms qs) :
    Calls Try.prog 22 #[.slice a ms.length ca, .slice b ms.length cb] w fun e w' => e = .returned (.bool true) ∧ Below w.heap.size w w' := by
  have HR := hide hr
  have HR' := hide hr'
  have HS := hide hs
  clear hr hr' hs
  generalize hN : ms.length = n at *
  have HN := hide hN
  clear hN
  go_enter Try.func22, Try.ntmps22
  go_wp2
  go_loopw [5] (fun i wr => ∃ j : Nat, j ≤ n ∧ i = .int .i64 j ∧ Hid (Below w.heap.size w wr)) (fun i _ => n - (intOf i).toNat)
  case atStart => exact ⟨0, by omega, rfl, hide (Below.refl _ _)⟩
  case round =>
    obtain ⟨j, hj, rfl, hbl⟩ := hrel
    by_cases hlt : (j : Int) < (n : Int)
    · have k0 : (0 : Int) ≤ (j : Int) := by omega
      have hlen : j < ms.length := by rw [unhide HN]; omega
      obtain ⟨g, off, rfl, hA, hD⟩ := ((unhide HR).below (unhide hbl)).at hlen
      obtain ⟨g', off', rfl, hA', hD'⟩ := ((unhide HR').below (unhide hbl)).at hlen
      have HM := hide ((unhide HS) j (by omega))
      have HA := hide hA
      have HA' := hide hA'
      have HD := hide hD
      have HD' := hide hD'
      clear hlen hA hA' hD hD'
      generalize ms.getD j Rm.zero = m at *
      generalize ps.getD j Pl.zero = p at *
      generalize qs.getD j Pl.zero = q at *
      go_wp2_with fail
      refine wp_region_noPanic ?_
      refine wp_region_held_drew (S := fun w' => w'.rangeAt g (off + j * 13) (cl m p) ∧ w'.rangeAt g' (off' + j * 13) (cl m q)) (by kernel_rfl) (⟨unhide HA, unhide HA'⟩) (fun hHeld => ?_)
      refine Rg.t 0 17 ?_
      refine Rg.t 1 18 ?_
      refine Rg.t 2 19 ?_
      refine Rg.t (v := .agg (cl m p).toArray) 3 20 ?_ (hv := fun w0 hSw => execI _ rfl rfl hSw.1)
      refine Rg.t 4 21 ?_
      refine Rg.t 5 22 ?_
      refine Rg.t 6 23 ?_
      refine Rg.t (v := .agg (cl m q).toArray) 7 24 ?_ (hv := fun w0 hSw => execI _ rfl rfl hSw.2)
      (refine Rg.o 8 (fun K hK => ?_); go_simp)
      refine (eqN m p q wr.drew (unhide HM) (unhide HD).drew (unhide HD').drew).mono ?_
      rintro e w1 ⟨rfl, b1⟩
      refine hK.out _ _ ⟨rng_below (w := wr.drew) (unhide HA) b1, rng_below (w := wr.drew) (unhide HA') b1⟩ (fun hHeld => ?_)
      clear hK K
      (try simp only [Act.put, List.setIfInBounds_toArray, List.set_cons_zero, List.set_cons_succ])
      refine Rg.t 9 26 ?_
      refine wpAnyH_done (by kernel_rfl) (NoPanic.normal ?_) _
      have hb1 := hide ((unhide hbl).drew.trans (b1.mono (by show w.heap.size ≤ wr.heap.size; exact (unhide hbl).size)))
      clear hHeld b1 HA HA' HD HD'
      go_wp2_with fail
      go_roundw
      case rel => exact ⟨j + 1, by omega, by go_num, hb1⟩
      case measure => simp [intOf]; omega
    · go_wp2
      go_ret
      exact ⟨rfl, unhide hbl⟩
set_option maxHeartbeats 8000000 in
theorem eqNt (a b d a' b' d' : Option Addr) (ca cb cd ca' cb' cd' : Nat) (t : Int) (ms : List Rm) (ps qs : List Pl) (cs : List Int) (fs : List Fm.R) (w : World) (hm : ms.length ≤ 1048576) (hc : cs.length ≤ 1048576) (hf : fs.length ≤ 1048576) (hs : ∀ i, i < ms.length → Sm (ms.getD i Rm.zero)) (hr : NR w a ms ps) (hr' : NR w a' ms qs) (hi : In.RM w b cs) (hi' : In.RM w b' cs) (hz : Fm.RM w d fs) (hz' : Fm.RM w d' fs) :
    Calls Try.prog 8 #[.agg #[.slice a ms.length ca, .slice b cs.length cb, .slice d fs.length cd, .int .i64 t], .agg #[.slice a' ms.length ca', .slice b' cs.length cb', .slice d' fs.length cd', .int .i64 t]] w fun e w' => e = .returned (.bool true) ∧ Below w.heap.size w w' := by
  have b0 : Below w.heap.size w ((w.alloc (.cells #[.slice a ms.length ca, .slice b cs.length cb, .slice d fs.length cd, .int .i64 t] 26)).alloc (.cells #[.slice a' ms.length ca', .slice b' cs.length cb', .slice d' fs.length cd', .int .i64 t] 26)) := ((Below.refl _ _).alloc (Nat.le_refl _) _).alloc (by simp) _
  have HX0 : Hid (NB _ w.heap.size _ _ _ _) := hide ((nb_new w (.slice a ms.length ca) (.slice b cs.length cb) (.slice d fs.length cd) t 26).below (bel_new _ (.cells #[.slice a' ms.length ca', .slice b' cs.length cb', .slice d' fs.length cd', .int .i64 t] 26)))
  have HY0 : Hid (NB _ (w.heap.size + 1) _ _ _ _) := hide (by have := nb_new (w.alloc (.cells #[.slice a ms.length ca, .slice b cs.length cb, .slice d fs.length cd, .int .i64 t] 26)) (.slice a' ms.length ca') (.slice b' cs.length cb') (.slice d' fs.length cd') t 26; simpa using this)
  have HB0 := hide b0
  have HR := hide (hr.below b0)
  have HR' := hide (hr'.below b0)
  have HI := hide (hi.below b0)
  have HI' := hide (hi'.below b0)
  have HZ := hide (hz.below b0)
  have HZ' := hide (hz'.below b0)
  have HS := hide hs
  have hne : (t != t) = false := by simp
  clear hr hr' hi hi' hz hz' hs b0
  go_enter Try.func8, Try.ntmps8
  go_wp2_with fail
  generalize (w.alloc (.cells #[.slice a ms.length ca, .slice b cs.length cb, .slice d fs.length cd, .int .i64 t] 26)).alloc (.cells #[.slice a' ms.length ca', .slice b' cs.length cb', .slice d' fs.length cd', .int .i64 t] 26) = w0 at *
  refine (eqNS _ _ ms ps qs _ _ _ hm (unhide HS) (unhide HR) (unhide HR')).mono ?_
  rintro e w1 ⟨rfl, b1⟩
  have HX1 := hide ((unhide HX0).below b1)
  have HY1 := hide ((unhide HY0).below b1)
  have HB1 := hide ((unhide HB0).trans (b1.mono (unhide HB0).size))
  have HI1 := hide ((unhide HI).below b1)
  have HI1' := hide ((unhide HI').below b1)
  have HZ1 := hide ((unhide HZ).below b1)
  have HZ1' := hide ((unhide HZ').below b1)
  clear HX0 HY0 HB0 HI HI' HZ HZ' HR HR' b1
  obtain ⟨p0, p1, p2, p3⟩ := unhide HX1
  obtain ⟨q0, q1, q2, q3⟩ := unhide HY1
  go_wp2_with fail
  clear p0 p1 p2 p3 q0 q1 q2 q3
  refine (In.eqS _ _ cs _ _ _ hc (unhide HI1) (unhide HI1')).mono ?_
  rintro e w2 ⟨rfl, b2⟩
  have HX2 := hide ((unhide HX1).below b2)
  have HY2 := hide ((unhide HY1).below b2)
  have HB2 := hide ((unhide HB1).trans (b2.mono (unhide HB1).size))
  have HZ2 := hide ((unhide HZ1).below b2)
  have HZ2' := hide ((unhide HZ1').below b2)
  clear HX1 HY1 HB1 HI1 HI1' HZ1 HZ1' b2
  obtain ⟨p0, p1, p2, p3⟩ := unhide HX2
  obtain ⟨q0, q1, q2, q3⟩ := unhide HY2
  go_wp2_with fail
  clear p0 p1 p2 p3 q0 q1 q2 q3
  refine (Fm.eqS _ _ fs _ _ _ hf (unhide HZ2) (unhide HZ2')).mono ?_
  rintro e w3 ⟨rfl, b3⟩
  have HX3 := hide ((unhide HX2).below b3)
  have HY3 := hide ((unhide HY2).below b3)
  have HB3 := hide ((unhide HB2).trans (b3.mono (unhide HB2).size))
  clear HX2 HY2 HB2 HZ2 HZ2' b3
  obtain ⟨p0, p1, p2, p3⟩ := unhide HX3
  obtain ⟨q0, q1, q2, q3⟩ := unhide HY3
  go_wp2_with fail
  go_ret
  exact ⟨rfl, unhide HB3⟩
end Nt
end Go.Proofs.Ytpmlpojefelbbaa
namespace Go.Proofs.Ytpmlpojefelbbaa
open Go.ChangeShapes Go.WideShapes Go.ChangeAt Go.RowKit
set_option linter.unusedVariables false
set_option linter.unusedSimpArgs false
set_option maxRecDepth 100000
attribute [local go_sem ↓] Go.wp_at_zero Go.wp_at_succ
namespace Nt
open W1 Rt
set_option maxHeartbeats 8000000 in
theorem heldNt (a b d : Option Addr) (ca cb cd : Nat) (t : Int) (K : Int) (lo hi : Nat) (ms : List Rm) (qs : List Pl) (cs : List Int) (fs : List Fm.R) (w : World) (hm : ms.length ≤ 1048576) (hc : cs.length ≤ 1048576) (hf : fs.length ≤ 1048576) (hK : 0 ≤ K) (hK1 : K + totK ms cs fs ≤ 99999990) (hs : ∀ i, i < ms.length → Sm (ms.getD i Rm.zero)) (h : MM w a b d K ms qs cs fs lo hi) :
    Calls Try.prog 12 #[.agg #[.slice a ms.length ca, .slice b cs.length cb, .slice d fs.length cd, .int .i64 t], .int .i64 K] w fun e w' => e = .returned (.int .i64 (K + totK ms cs fs)) ∧ Below w.heap.size w w' := by
  have b0 := bel_new w (.cells #[.slice a ms.length ca, .slice b cs.length cb, .slice d fs.length cd, .int .i64 t] 26)
  have HX0 := hide (nb_new w (.slice a ms.length ca) (.slice b cs.length cb) (.slice d fs.length cd) t 26)
  have HB0 := hide b0
  obtain ⟨f, p1, q1, p2, q2, p3, q3, _, h1, h2, h3⟩ := h.below b0
  obtain ⟨r, hr⟩ : ∃ r, K + sumK ms ms.length = r := ⟨_, rfl⟩
  have hsp := sumK_pos ms ms.length
  have hr0 : 0 ≤ r := by omega
  have hr1 : r + cs.length + 4 * fs.length ≤ 99999990 := by unfold totK at hK1; omega
  have HTK : Hid (r + (cs.length : Int) + 4 * (fs.length : Int) = K + totK ms cs fs) := hide (by unfold totK; omega)
  rw [hr] at h2 h3
  have C1 := hide (heldNF a ca p1 q1 ms.length f K ms (fun i => qs.getD i Pl.zero) _ rfl hm hK (by omega) hs h1)
  have C2 := hide (In.heldF b cb cs.length p2 q2 r _ hr0 (by omega) hc h2)
  have C3 := hide (Fm.hdFF d cd fs.length p3 q3 (r + (cs.length : Int)) _ (by omega) (by omega) hf h3)
  rw [hr] at C1
  have n1 : ¬ r < 0 := by omega
  have n2 : ¬ (r + (cs.length : Int)) < 0 := by omega
  have n3 : ¬ (r + (cs.length : Int) + 4 * (fs.length : Int)) < 0 := by omega
  clear h h1 h2 h3 b0 hK1 hs hsp hr
  go_enter Try.func12, Try.ntmps12
  obtain ⟨x0, x1, x2, x3⟩ := unhide HX0
  go_wp2_with fail
  generalize w.alloc (.cells #[.slice a ms.length ca, .slice b cs.length cb, .slice d fs.length cd, .int .i64 t] 26) = w0 at *
  refine (unhide C1).mono ?_
  rintro e w1 ⟨rfl, hw_⟩
  rw [hw_]
  clear hw_
  go_wp2_with fail
  refine (unhide C2).mono ?_
  rintro e w2 ⟨rfl, hw_⟩
  rw [hw_]
  clear hw_
  go_wp2_with fail
  refine (unhide C3).mono ?_
  rintro e w3 ⟨rfl, b3⟩
  have HB3 := hide ((unhide HB0).trans (b3.mono (unhide HB0).size))
  clear b3 x0 x1 x2 x3
  go_wp2_with fail
  go_ret
  exact ⟨by rw [unhide HTK]; rfl, unhide HB3⟩
end Nt
end Go.Proofs.Ytpmlpojefelbbaa
namespace Go.Proofs.Ytpmlpojefelbbaa.fnExactPlainNet
open Go.ChangeShapes Go.WideShapes Go.ChangeAt Go.RowKit
open W1 Rt Nt Na
set_option linter.unusedVariables false
set_option linter.unusedSimpArgs false
theorem own : ownKnob Try.prog.godebug = none := by kernel_rfl
set_option maxRecDepth 100000 in
set_option maxHeartbeats 32000000 in
theorem walk (w : World) :
    Calls Try.prog 4 #[] w fun e w' => e = .returned (.bool true) ∧ Below w.heap.size w w' := by
  have B0 : Below w.heap.size w w := Below.refl _ _
  go_enter Try.func4, Try.ntmps4
  have HSL := hide (plain_sm)
  obtain ⟨Ms, hMs_⟩ : ∃ Ms, pMs = Ms := ⟨_, rfl⟩
  have HMs := hide hMs_
  clear hMs_
  obtain ⟨Cs, hCs_⟩ : ∃ Cs, pCs = Cs := ⟨_, rfl⟩
  have HCs := hide hCs_
  clear hCs_
  obtain ⟨Fs, hFs_⟩ : ∃ Fs, ([] : List Fm.R) = Fs := ⟨_, rfl⟩
  have HFs := hide hFs_
  clear hFs_
  obtain ⟨T, hT_⟩ : ∃ T, (0 : Int) = T := ⟨_, rfl⟩
  have HT := hide hT_
  clear hT_
  rw [unhide HMs, unhide HCs, unhide HFs] at HSL
  have ho1 : Ms.length ≤ 1048576 := by have := (unhide HSL).1; omega
  have ho2 : Cs.length ≤ 1048576 := by have := (unhide HSL).2.2.1; omega
  have ho3 : Fs.length ≤ 1048576 := by have := (unhide HSL).2.2.2; omega
  have HOS := hide (fun i (h : i < Ms.length) => r64_sm ((unhide HSL).2.1 i h))
  have HOK := hide (Int.le_trans (smN_k (unhide HSL)) (by decide : (99990 : Int) ≤ 99999990))
  have HOP := hide (totK_pos Ms Cs Fs)
  go_wp2_with fail
  refine (specPl _).mono ?_
  rintro e w1 ⟨v_, rfl, b1, got_⟩
  have B1 := B0.trans (b1.mono B0.size)
  have sz1 : w.heap.size ≤ w1.heap.size := b1.size
  rw [unhide HMs, unhide HCs, unhide HFs, unhide HT] at got_
  obtain ⟨aW, bW, dW, pW, qW, rW, sW, rfl, L_⟩ := got_
  have W1 := hide L_
  clear L_
  have b2 := bel_new w1 (.cells #[.slice aW Ms.length pW, .slice bW Cs.length qW, .slice dW Fs.length rW, .int .i64 T] 26)
  have B2 := B1.trans (b2.mono B1.size)
  have sx2 : w1.heap.size < (w1.alloc (.cells #[.slice aW Ms.length pW, .slice bW Cs.length qW, .slice dW Fs.length rW, .int .i64 T] 26)).heap.size := by simp
  have sz2 : w1.heap.size ≤ (w1.alloc (.cells #[.slice aW Ms.length pW, .slice bW Cs.length qW, .slice dW Fs.length rW, .int .i64 T] 26)).heap.size := b2.size
  have W2 := hide ((unhide W1).below b2)
  clear W1
  have VW2 := hide (nb_new w1 (.slice aW Ms.length pW) (.slice bW Cs.length qW) (.slice dW Fs.length rW) T 26)
  go_wp2_with fail
  generalize hW_ : (w1.alloc (.cells #[.slice aW Ms.length pW, .slice bW Cs.length qW, .slice dW Fs.length rW, .int .i64 T] 26)) = w2 at *
  clear hW_
  refine (implPl _).mono ?_
  rintro e w3 ⟨v_, rfl, b3, got_⟩
  have B3 := B2.trans (b3.mono B2.size)
  have sz3 : w2.heap.size ≤ w3.heap.size := b3.size
  have W3 := hide ((unhide W2).below b3)
  have VW3 := hide ((unhide VW2).below b3)
  clear W2 VW2
  rw [unhide HMs, unhide HCs, unhide HFs, unhide HT] at got_
  obtain ⟨aG, bG, dG, pG, qG, rG, sG, rfl, L_⟩ := got_
  have G3 := hide L_
  clear L_
  have b4 := bel_new w3 (.cells #[.slice aG Ms.length pG, .slice bG Cs.length qG, .slice dG Fs.length rG, .int .i64 T] 26)
  have B4 := B3.trans (b4.mono B3.size)
  have sx4 : w3.heap.size < (w3.alloc (.cells #[.slice aG Ms.length pG, .slice bG Cs.length qG, .slice dG Fs.length rG, .int .i64 T] 26)).heap.size := by simp
  have sz4 : w3.heap.size ≤ (w3.alloc (.cells #[.slice aG Ms.length pG, .slice bG Cs.length qG, .slice dG Fs.length rG, .int .i64 T] 26)).heap.size := b4.size
  have W4 := hide ((unhide W3).below b4)
  have VW4 := hide ((unhide VW3).below b4)
  have G4 := hide ((unhide G3).below b4)
  clear W3 VW3 G3
  have VG4 := hide (nb_new w3 (.slice aG Ms.length pG) (.slice bG Cs.length qG) (.slice dG Fs.length rG) T 26)
  obtain ⟨k0_0, k0_1, k0_2, k0_3⟩ := unhide VG4
  obtain ⟨k1_0, k1_1, k1_2, k1_3⟩ := unhide VW4
  go_wp2_with fail
  clear k0_0 k0_1 k0_2 k0_3 k1_0 k1_1 k1_2 k1_3
  generalize hW_ : (w3.alloc (.cells #[.slice aG Ms.length pG, .slice bG Cs.length qG, .slice dG Fs.length rG, .int .i64 T] 26)) = w4 at *
  clear hW_
  refine (eqNt _ _ _ _ _ _ _ _ _ _ _ _ T Ms _ _ Cs Fs _ ho1 ho2 ho3 (unhide HOS) (unhide G4).nr (unhide W4).nr (unhide G4).ri (unhide W4).ri (unhide G4).rf (unhide W4).rf).mono ?_
  rintro e w5 ⟨rfl, b5⟩
  have B5 := B4.trans (b5.mono B4.size)
  have sz5 : w4.heap.size ≤ w5.heap.size := b5.size
  have W5 := hide ((unhide W4).below b5)
  have VW5 := hide ((unhide VW4).below b5)
  have G5 := hide ((unhide G4).below b5)
  have VG5 := hide ((unhide VG4).below b5)
  clear W4 VW4 G4 VG4
  obtain ⟨k0_0, k0_1, k0_2, k0_3⟩ := unhide VG5
  go_wp2_with fail
  clear k0_0 k0_1 k0_2 k0_3
  refine (markNt _ _ _ _ _ _ T 1 w2.heap.size w3.heap.size Ms _ Cs Fs _ ho1 ho2 ho3 (by omega) (unhide HOK) (unhide HOS) (by omega) (by omega) (unhide G5)).mono ?_
  rintro e w6 ⟨rfl, hz_, b_, m_, k_⟩
  have sz6 := hz_
  have B6 := B5.trans (b_.mono (by omega))
  have M6 := hide m_
  clear b_ m_
  have VW6 := hide ((unhide VW5).but (k_ w1.heap.size (unhide VW5).lt (by omega)))
  have VG6 := hide ((unhide VG5).but (k_ w3.heap.size (unhide VG5).lt (by omega)))
  have W6 := hide ((unhide W5).but (L := w2.heap.size) (H := w3.heap.size) hz_ (fun k hk h => k_ k hk h) (by omega))
  clear VW5 VG5 W5
  clear G5 k_ hz_
  have hpm : ¬ (1 + totK Ms Cs Fs < 0) := by have := unhide HOP; omega
  obtain ⟨k0_0, k0_1, k0_2, k0_3⟩ := unhide VG6
  go_wp2_with fail
  clear k0_0 k0_1 k0_2 k0_3
  refine (heldNt _ _ _ _ _ _ T 1 w2.heap.size w3.heap.size Ms _ Cs Fs _ ho1 ho2 ho3 (by omega) (unhide HOK) (unhide HOS) (unhide M6)).mono ?_
  rintro e w7 ⟨rfl, b7⟩
  have B7 := B6.trans (b7.mono B6.size)
  have sz7 : w6.heap.size ≤ w7.heap.size := b7.size
  have W7 := hide ((unhide W6).below b7)
  have VW7 := hide ((unhide VW6).below b7)
  have VG7 := hide ((unhide VG6).below b7)
  have M7 := hide ((unhide M6).below b7)
  clear W6 VW6 VG6 M6
  go_wp2_with fail
  refine (implPl _).mono ?_
  rintro e w8 ⟨v_, rfl, b8, got_⟩
  have B8 := B7.trans (b8.mono B7.size)
  have sz8 : w7.heap.size ≤ w8.heap.size := b8.size
  have W8 := hide ((unhide W7).below b8)
  have VW8 := hide ((unhide VW7).below b8)
  have VG8 := hide ((unhide VG7).below b8)
  have M8 := hide ((unhide M7).below b8)
  clear W7 VW7 VG7 M7
  rw [unhide HMs, unhide HCs, unhide HFs, unhide HT] at got_
  obtain ⟨aH, bH, dH, pH, qH, rH, sH, rfl, L_⟩ := got_
  have H8 := hide L_
  clear L_
  have b9 := bel_new w8 (.cells #[.slice aH Ms.length pH, .slice bH Cs.length qH, .slice dH Fs.length rH, .int .i64 T] 26)
  have B9 := B8.trans (b9.mono B8.size)
  have sx9 : w8.heap.size < (w8.alloc (.cells #[.slice aH Ms.length pH, .slice bH Cs.length qH, .slice dH Fs.length rH, .int .i64 T] 26)).heap.size := by simp
  have sz9 : w8.heap.size ≤ (w8.alloc (.cells #[.slice aH Ms.length pH, .slice bH Cs.length qH, .slice dH Fs.length rH, .int .i64 T] 26)).heap.size := b9.size
  have W9 := hide ((unhide W8).below b9)
  have VW9 := hide ((unhide VW8).below b9)
  have VG9 := hide ((unhide VG8).below b9)
  have M9 := hide ((unhide M8).below b9)
  have H9 := hide ((unhide H8).below b9)
  clear W8 VW8 VG8 M8 H8
  have VH9 := hide (nb_new w8 (.slice aH Ms.length pH) (.slice bH Cs.length qH) (.slice dH Fs.length rH) T 26)
  obtain ⟨k0_0, k0_1, k0_2, k0_3⟩ := unhide VH9
  obtain ⟨k1_0, k1_1, k1_2, k1_3⟩ := unhide VW9
  go_wp2_with fail
  clear k0_0 k0_1 k0_2 k0_3 k1_0 k1_1 k1_2 k1_3
  generalize hW_ : (w8.alloc (.cells #[.slice aH Ms.length pH, .slice bH Cs.length qH, .slice dH Fs.length rH, .int .i64 T] 26)) = w9 at *
  clear hW_
  refine (eqNt _ _ _ _ _ _ _ _ _ _ _ _ T Ms _ _ Cs Fs _ ho1 ho2 ho3 (unhide HOS) (unhide H9).nr (unhide W9).nr (unhide H9).ri (unhide W9).ri (unhide H9).rf (unhide W9).rf).mono ?_
  rintro e w10 ⟨rfl, b10⟩
  have B10 := B9.trans (b10.mono B9.size)
  have sz10 : w9.heap.size ≤ w10.heap.size := b10.size
  have W10 := hide ((unhide W9).below b10)
  have VW10 := hide ((unhide VW9).below b10)
  have VG10 := hide ((unhide VG9).below b10)
  have M10 := hide ((unhide M9).below b10)
  have H10 := hide ((unhide H9).below b10)
  have VH10 := hide ((unhide VH9).below b10)
  clear W9 VW9 VG9 M9 H9 VH9
  obtain ⟨k0_0, k0_1, k0_2, k0_3⟩ := unhide VG10
  go_wp2_with fail
  clear k0_0 k0_1 k0_2 k0_3
  refine (heldNt _ _ _ _ _ _ T 1 w2.heap.size w3.heap.size Ms _ Cs Fs _ ho1 ho2 ho3 (by omega) (unhide HOK) (unhide HOS) (unhide M10)).mono ?_
  rintro e w11 ⟨rfl, b11⟩
  have B11 := B10.trans (b11.mono B10.size)
  have sz11 : w10.heap.size ≤ w11.heap.size := b11.size
  have W11 := hide ((unhide W10).below b11)
  have VW11 := hide ((unhide VW10).below b11)
  have VG11 := hide ((unhide VG10).below b11)
  have M11 := hide ((unhide M10).below b11)
  have H11 := hide ((unhide H10).below b11)
  have VH11 := hide ((unhide VH10).below b11)
  clear W10 VW10 VG10 M10 H10 VH10
  have HF_ := hide B11
  go_wp2_with fail
  go_ret
  exact ⟨rfl, unhide HF_⟩

end Go.Proofs.Ytpmlpojefelbbaa.fnExactPlainNet
