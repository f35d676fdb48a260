/-
  Of the texts NetP, NetX, NetC, RecRoute, WysM, GphA, NetG, NetI, NetJ, TopN, Mpe, TopE: what this claim needs of them. (put together by mkprune.py)
-/
import Derived.Test.YtfooahhdikobeaaGreatQv6
import Derived.Deep.Cut
import Derived.Deep.RegionHeld3
import Derived.Deep.DrawnRows
import Derived.Deep.Slices
import Derived.Laws.AppendOwn
import Derived.Maps.OwnSet
import Derived.DeepKeys4
import Derived.Maps.AppendAt
namespace Go.Proofs.YtfooahhdikobeaaGreat
open Go.ChangeShapes Go.WideShapes Go.ChangeAt Go.RowKit
set_option linter.unusedVariables false
set_option linter.unusedSimpArgs false
set_option maxRecDepth 100000
attribute [local go_sem ↓] Go.wp_at_zero Go.wp_at_succ
namespace Nt
open W1 Rt
theorem specOkM (m : Rm) (p : Pl) (w : World) (hs : Sm m) (hr : Rd w m p) : Calls Tryz.prog 84 #[.agg (cl m p).toArray] w fun e w' => e = .returned (.bool (okM m)) ∧ Below w.heap.size w w' := by
  obtain ⟨s1, s2, s3, s4, s5, s6, s7⟩ := hs
  obtain ⟨r1, r2, r3, r4, r5, r6, r7⟩ := hr
  exact specRtr m.x1 m.x2 m.x3 m.x4 m.x5 m.x6 p.a1 p.a2 p.a3 p.a4 p.a5 p.a6 p.a7 p.c1 p.c2 p.c3 p.c4 p.c5 p.c6 p.c7 m.ls m.tw m.se m.du m.ss m.es m.la w s1 s2 s3 s4 s5 s6 s7 r1 r2 r3 r4 r5 r6 r7
theorem sNet {w : World} {g o p : Nat} {m : Rm} {pl : Pl} {y1 y5 t : Int} {v1 v2 v3 : Value} (hn : NB w p v1 v2 v3 t) (hA : w.rangeAt g o (cl m pl)) (e1 : m.x1 = y1) (e5 : m.x5 = y5) :
    (NB w p v1 v2 v3 t ∧ w.rangeAt g o (cl m pl)) ∧ w.cell? ⟨p, 0, none⟩ = some v1 ∧ w.cell? ⟨p, 3, none⟩ = some (.int .i64 t) ∧ w.cell? ⟨g, o, none⟩ = some (.int .i64 y1) ∧ w.cell? ⟨g, o + 4, none⟩ = some (.int .i64 y5) :=
  ⟨⟨hn, hA⟩, hn.1, hn.2.2.2, by rw [← e1]; exact hA 0 _ rfl, by rw [← e5]; exact hA 4 _ rfl⟩
set_option maxHeartbeats 32000000 in
theorem specNet (a b d : Option Addr) (ca cb cd : Nat) (t : Int) (ms : List Rm) (ps : List Pl) (cs : List Int) (fs : List Fm.R) (w : World) (hm : ms.length ≤ 1048576) (hc : cs.length ≤ 1048576) (hf : fs.length ≤ 1048576) (hs : ∀ i, i < ms.length → Sm (ms.getD i Rm.zero)) (hg : ∀ i, i < fs.length → (fs.getD i Fm.R.zero).bs.size ≤ maxLen) (hr : NR w a ms ps) (hi : In.RM w b cs) (hz : Fm.RM w d fs) :
    Calls Tryz.prog 41 #[.agg #[.slice a ms.length ca, .slice b cs.length cb, .slice d fs.length cd, .int .i64 t]] w fun e w' => e = .returned (.bool (netB ms cs fs t)) ∧ Below w.heap.size w w' := by
  have HX0 := hide (nb_new w (.slice a ms.length ca) (.slice b cs.length cb) (.slice d fs.length cd) t 31)
  have b0 := bel_new w (.cells #[.slice a ms.length ca, .slice b cs.length cb, .slice d fs.length cd, .int .i64 t] 31)
  have HR := hide (hr.below b0)
  have HI := hide (hi.below b0)
  have HZ := hide (hz.below b0)
  have HB0 := hide b0
  have HS := hide hs
  have HG := hide hg
  have E0 : Hid (netB ms cs fs t = (inB t 0 100000 && (inB ms.length 1 6 && ((allI ms.length fun i => rok (ms.getD i Rm.zero) i t) && (costB cs ms.length && (decide (fs.length ≤ 200) && allI fs.length fun i => fok (fs.getD i Fm.R.zero) ms.length t)))))) := hide rfl
  have HAN : Hid (∀ j, j < ms.length → rok (ms.getD j Rm.zero) j t = false → (allI ms.length fun i => rok (ms.getD i Rm.zero) i t) = false) := hide (fun j h h' => allI_no (p := fun i => rok (ms.getD i Rm.zero) i t) h h')
  have HAY : Hid ((∀ i, i < ms.length → rok (ms.getD i Rm.zero) i t = true) → (allI ms.length fun i => rok (ms.getD i Rm.zero) i t) = true) := hide (fun h => allI_yes h)
  have HFN : Hid (∀ j, j < fs.length → fok (fs.getD j Fm.R.zero) ms.length t = false → (allI fs.length fun i => fok (fs.getD i Fm.R.zero) ms.length t) = false) := hide (fun j h h' => allI_no (p := fun i => fok (fs.getD i Fm.R.zero) ms.length t) h h')
  have HFY : Hid ((∀ i, i < fs.length → fok (fs.getD i Fm.R.zero) ms.length t = true) → (allI fs.length fun i => fok (fs.getD i Fm.R.zero) ms.length t) = true) := hide (fun h => allI_yes h)
  generalize (allI ms.length fun i => rok (ms.getD i Rm.zero) i t) = AA at *
  generalize (allI fs.length fun i => fok (fs.getD i Fm.R.zero) ms.length t) = FF at *
  obtain ⟨N, hN⟩ : ∃ N, ms.length = N := ⟨_, rfl⟩
  obtain ⟨K, hK⟩ : ∃ K, fs.length = K := ⟨_, rfl⟩
  rw [hN, hK] at HX0 HB0 HR HI HZ E0 ⊢
  rw [hN] at hm HAY HFN HFY
  rw [hK] at hf HFY
  have HN := hide hN
  have HKK := hide hK
  clear hN hK hr hi hz hs hg b0
  have KN := hide (fun W => l01In (N : Int) 1 6 W)
  have KT := hide (fun W => l01In t 0 100000 W)
  cases h1 : inB (N : Int) 1 6
  · rw [h1] at KN E0
    clear h1
    go_enter Tryz.func41, Tryz.ntmps41
    go_wp2_with (go_at_call 43; refine (unhide KN _).mono ?_; rintro e w_ ⟨rfl, rfl⟩)
    go_ret
    exact ⟨ret_bool (by rw [unhide E0]; simp), unhide HB0⟩
  have hn1 : 1 ≤ N := by simp [inB] at h1; omega
  have hn6 : N ≤ 6 := by simp [inB] at h1; omega
  rw [h1] at KN E0
  clear h1
  go_enter Tryz.func41, Tryz.ntmps41
  go_wp2_with (go_at_call 43; refine (unhide KN _).mono ?_; rintro e w_ ⟨rfl, hw_⟩; subst w_)
  clear KN
  generalize w.alloc (.cells #[.slice a N ca, .slice b cs.length cb, .slice d K cd, .int .i64 t] 31) = w0 at *
  refine (l13Costs _ cs _ N _ hc hn1 hn6 (unhide HI)).mono ?_
  rintro e w1 ⟨rfl, b1⟩
  have HX1 := hide ((unhide HX0).below b1)
  have HR1 := hide ((unhide HR).below b1)
  have HZ1 := hide ((unhide HZ).below b1)
  have HB1 := hide ((unhide HB0).trans (b1.mono (unhide HB0).size))
  clear HX0 HI HZ HR HB0 b1
  cases h3 : costB cs N
  · rw [h3] at E0
    go_wp2_with fail
    go_ret
    exact ⟨ret_bool (by rw [unhide E0]; simp), unhide HB1⟩
  rw [h3] at E0
  clear h3
  cases h2 : inB t 0 100000
  · rw [h2] at E0 KT
    clear h2
    obtain ⟨p0, p1, p2, p3⟩ := unhide HX1
    go_wp2_with (go_at_call 43; refine (unhide KT _).mono ?_; rintro e w_ ⟨rfl, rfl⟩)
    go_ret
    exact ⟨ret_bool (by rw [unhide E0]; simp), unhide HB1⟩
  have ht0 : 0 ≤ t := by simp [inB] at h2; omega
  have ht1 : t ≤ 100000 := by simp [inB] at h2; omega
  rw [h2] at E0 KT
  clear h2
  by_cases h200 : (200 : Int) < (K : Int)
  · obtain ⟨p0, p1, p2, p3⟩ := unhide HX1
    go_wp2_with (go_at_call 43; refine (unhide KT _).mono ?_; rintro e w_ ⟨rfl, rfl⟩)
    go_ret
    exact ⟨ret_bool (by rw [unhide E0]; have : decide (K ≤ 200) = false := (by simp; omega); rw [this]; simp), unhide HB1⟩
  have E : Hid (netB ms cs fs t = (AA && FF)) := hide (by rw [unhide E0]; have : decide (K ≤ 200) = true := (by simp; omega); rw [this]; simp)
  clear E0
  obtain ⟨p0, p1, p2, p3⟩ := unhide HX1
  go_wp2_with (go_at_call 43; refine (unhide KT _).mono ?_; rintro e w_ ⟨rfl, hw_⟩; subst w_)
  clear p0 p1 p2 p3 KT
  go_loopw [3] (fun i wr => ∃ j : Nat, j ≤ N ∧ i = .int .i64 j ∧ Hid (∀ i, i < j → rok (ms.getD i Rm.zero) i t = true) ∧ Hid (Below w.heap.size w wr) ∧ Hid (NB wr w.heap.size (.slice a N ca) (.slice b cs.length cb) (.slice d K cd) t) ∧ Hid (NR wr a ms ps) ∧ Hid (Fm.RM wr d fs)) (fun i _ => N - (intOf i).toNat)
  case atStart => exact ⟨0, by omega, rfl, hide (fun i hi => absurd hi (Nat.not_lt_zero i)), HB1, HX1, HR1, HZ1⟩
  case round =>
    obtain ⟨j, hj, rfl, hall, hbl, HNB, HRR, HFF⟩ := hrel
    by_cases hlt : (j : Int) < (N : Int)
    · have k0 : (0 : Int) ≤ (j : Int) := by omega
      have hwj : IntKind.i64.wrap ((j : Int) + 1) = (j : Int) + 1 := by rw [IntKind.wrap_i64]; omega
      have hlen : j < ms.length := by rw [unhide HN]; omega
      obtain ⟨g, off, rfl, hA, hD⟩ := (unhide HRR).at hlen
      have HA := hide hA
      have HD := hide hD
      have HM := hide ((unhide HS) j hlen)
      have HNO := hide (unhide HAN j hlen)
      have HUP := hide (fun h => up_to (p := fun i => rok (ms.getD i Rm.zero) i t) (j := j) (unhide hall) h)
      have HRK : Hid (rok (ms.getD j Rm.zero) j t = (okM (ms.getD j Rm.zero) && ((ms.getD j Rm.zero).x1 == (j : Int) + 1 && decide ((ms.getD j Rm.zero).x5 ≤ t)))) := hide rfl
      try dsimp only at HUP
      clear hlen hA hD
      generalize hmj : ms.getD j Rm.zero = m at HA HD HM HNO HUP HRK
      clear hmj
      generalize hpj : ps.getD j Pl.zero = p at HA HD
      clear hpj
      obtain ⟨y1, hy1⟩ : ∃ y, m.x1 = y := ⟨_, rfl⟩
      obtain ⟨y5, hy5⟩ : ∃ y, m.x5 = y := ⟨_, rfl⟩
      rw [hy1, hy5] at HRK
      have HY1 := hide hy1
      have HY5 := hide hy5
      clear hy1 hy5
      obtain ⟨p0, p1, p2, p3⟩ := unhide HNB
      cases hk : okM m
      · have EB := hide (unhide HNO (by rw [unhide HRK, hk]; rfl))
        have HK := hide hk
        clear hk
        go_wp2_with fail
        refine wp_region_noPanic ?_
        refine wp_region_held_drew (S := fun w' => (NB w' w.heap.size (.slice (some ⟨g, off, none⟩) N ca) (.slice b cs.length cb) (.slice d K cd) t ∧ w'.rangeAt g (off + j * 13) (cl m p)) ∧ w'.cell? ⟨w.heap.size, 0, none⟩ = some (.slice (some ⟨g, off, none⟩) N ca) ∧ w'.cell? ⟨w.heap.size, 3, none⟩ = some (.int .i64 t) ∧ w'.cell? ⟨g, off + j * 13, none⟩ = some (.int .i64 y1) ∧ w'.cell? ⟨g, off + j * 13 + 4, none⟩ = some (.int .i64 y5)) (by kernel_rfl) (sNet (unhide HNB).drew (unhide HA) (unhide HY1) (unhide HY5)) (fun hHeld => ?_)
        refine Rg.t 0 39 ?_
        refine Rg.t 1 40 ?_
        refine Rg.t 2 41 ?_
        refine Rg.t 3 42 ?_
        refine Rg.t (v := .agg (cl m p).toArray) 4 43 ?_ (hv := fun w0 hSw => execI _ rfl rfl hSw.1.2)
        (refine Rg.o 5 (fun K hK => ?_); go_simp)
        refine (specOkM m p wr.drew (unhide HM) (unhide HD).drew).mono ?_
        rintro e w1 ⟨rfl, b1⟩
        rw [unhide HK]
        refine hK.out _ _ (sNet ((unhide HNB).drew.below b1) (rng_below (w := wr.drew) (unhide HA) b1) (unhide HY1) (unhide HY5)) (fun hHeld => ?_)
        clear hK K
        (try simp only [Act.put, List.setIfInBounds_toArray, List.set_cons_zero, List.set_cons_succ])
        refine Rg.t 6 45 ?_
        refine Rg.t 7 46 ?_
        refine Rg.s 8 47 ?_
        refine Rg.s 9 48 ?_
        refine Rg.s 10 49 ?_
        refine Rg.s 11 50 ?_
        refine Rg.s 12 51 ?_
        refine Rg.s 13 52 ?_
        refine Rg.s 14 53 ?_
        refine Rg.s 15 54 ?_
        refine Rg.s 16 55 ?_
        refine Rg.t 17 56 ?_
        refine Rg.t 18 57 ?_
        refine Rg.s 19 58 ?_
        refine Rg.s 20 59 ?_
        refine Rg.s 21 60 ?_
        refine Rg.s 22 61 ?_
        refine Rg.s 23 62 ?_
        refine Rg.s 24 63 ?_
        refine Rg.s 25 64 ?_
        refine Rg.s 26 65 ?_
        refine Rg.s 27 66 ?_
        refine Rg.t 28 67 ?_
        refine wpAnyH_done (by kernel_rfl) (NoPanic.normal ?_) _
        have HB1 := hide ((unhide hbl).drew.trans (b1.mono (by show w.heap.size ≤ wr.heap.size; exact (unhide hbl).size)))
        have HN1 := hide ((unhide HNB).drew.below b1)
        have HR1 := hide ((unhide HRR).drew.below b1)
        have HI1 := hide (Fm.RM.below (w := wr.drew) (unhide HFF) b1)
        clear hHeld b1 HA HD
        go_wp2_with fail
        go_ret
        exact ⟨ret_bool (by rw [unhide E, unhide EB]; simp), unhide HB1⟩
      have HK := hide hk
      rw [hk] at HRK
      clear hk
      cases hx : (y1 != (j : Int) + 1)
      rotate_left
      · have EB := hide (unhide HNO (by rw [unhide HRK]; have : (y1 == (j : Int) + 1) = false := (by simpa using hx); rw [this]; rfl))
        go_wp2_with fail
        refine wp_region_noPanic ?_
        refine wp_region_held_drew (S := fun w' => (NB w' w.heap.size (.slice (some ⟨g, off, none⟩) N ca) (.slice b cs.length cb) (.slice d K cd) t ∧ w'.rangeAt g (off + j * 13) (cl m p)) ∧ w'.cell? ⟨w.heap.size, 0, none⟩ = some (.slice (some ⟨g, off, none⟩) N ca) ∧ w'.cell? ⟨w.heap.size, 3, none⟩ = some (.int .i64 t) ∧ w'.cell? ⟨g, off + j * 13, none⟩ = some (.int .i64 y1) ∧ w'.cell? ⟨g, off + j * 13 + 4, none⟩ = some (.int .i64 y5)) (by kernel_rfl) (sNet (unhide HNB).drew (unhide HA) (unhide HY1) (unhide HY5)) (fun hHeld => ?_)
        refine Rg.t 0 39 ?_
        refine Rg.t 1 40 ?_
        refine Rg.t 2 41 ?_
        refine Rg.t 3 42 ?_
        refine Rg.t (v := .agg (cl m p).toArray) 4 43 ?_ (hv := fun w0 hSw => execI _ rfl rfl hSw.1.2)
        (refine Rg.o 5 (fun K hK => ?_); go_simp)
        refine (specOkM m p wr.drew (unhide HM) (unhide HD).drew).mono ?_
        rintro e w1 ⟨rfl, b1⟩
        rw [unhide HK]
        refine hK.out _ _ (sNet ((unhide HNB).drew.below b1) (rng_below (w := wr.drew) (unhide HA) b1) (unhide HY1) (unhide HY5)) (fun hHeld => ?_)
        clear hK K
        (try simp only [Act.put, List.setIfInBounds_toArray, List.set_cons_zero, List.set_cons_succ])
        refine Rg.t 6 45 ?_
        refine Rg.t 7 46 ?_
        refine Rg.t 8 47 ?_
        refine Rg.t 9 48 ?_
        refine Rg.t 10 49 ?_
        refine Rg.t 11 50 ?_
        refine Rg.t 12 51 ?_
        refine Rg.t 13 52 ?_
        refine Rg.t 14 53 ?_
        refine Rg.t 15 54 ?_
        refine Rg.t 16 55 ?_
        refine Rg.t 17 56 ?_
        refine Rg.t 18 57 ?_
        refine Rg.s 19 58 ?_
        refine Rg.s 20 59 ?_
        refine Rg.s 21 60 ?_
        refine Rg.s 22 61 ?_
        refine Rg.s 23 62 ?_
        refine Rg.s 24 63 ?_
        refine Rg.s 25 64 ?_
        refine Rg.s 26 65 ?_
        refine Rg.s 27 66 ?_
        refine Rg.t 28 67 ?_
        refine wpAnyH_done (by kernel_rfl) (NoPanic.normal ?_) _
        have HB1 := hide ((unhide hbl).drew.trans (b1.mono (by show w.heap.size ≤ wr.heap.size; exact (unhide hbl).size)))
        have HN1 := hide ((unhide HNB).drew.below b1)
        have HR1 := hide ((unhide HRR).drew.below b1)
        have HI1 := hide (Fm.RM.below (w := wr.drew) (unhide HFF) b1)
        clear hHeld b1 HA HD
        go_wp2_with fail
        go_ret
        exact ⟨ret_bool (by rw [unhide E, unhide EB]; simp), unhide HB1⟩
      by_cases h5 : t < y5
      · have EB := hide (unhide HNO (by rw [unhide HRK]; have : decide (y5 ≤ t) = false := (by simp; omega); rw [this]; simp))
        go_wp2_with fail
        refine wp_region_noPanic ?_
        refine wp_region_held_drew (S := fun w' => (NB w' w.heap.size (.slice (some ⟨g, off, none⟩) N ca) (.slice b cs.length cb) (.slice d K cd) t ∧ w'.rangeAt g (off + j * 13) (cl m p)) ∧ w'.cell? ⟨w.heap.size, 0, none⟩ = some (.slice (some ⟨g, off, none⟩) N ca) ∧ w'.cell? ⟨w.heap.size, 3, none⟩ = some (.int .i64 t) ∧ w'.cell? ⟨g, off + j * 13, none⟩ = some (.int .i64 y1) ∧ w'.cell? ⟨g, off + j * 13 + 4, none⟩ = some (.int .i64 y5)) (by kernel_rfl) (sNet (unhide HNB).drew (unhide HA) (unhide HY1) (unhide HY5)) (fun hHeld => ?_)
        refine Rg.t 0 39 ?_
        refine Rg.t 1 40 ?_
        refine Rg.t 2 41 ?_
        refine Rg.t 3 42 ?_
        refine Rg.t (v := .agg (cl m p).toArray) 4 43 ?_ (hv := fun w0 hSw => execI _ rfl rfl hSw.1.2)
        (refine Rg.o 5 (fun K hK => ?_); go_simp)
        refine (specOkM m p wr.drew (unhide HM) (unhide HD).drew).mono ?_
        rintro e w1 ⟨rfl, b1⟩
        rw [unhide HK]
        refine hK.out _ _ (sNet ((unhide HNB).drew.below b1) (rng_below (w := wr.drew) (unhide HA) b1) (unhide HY1) (unhide HY5)) (fun hHeld => ?_)
        clear hK K
        (try simp only [Act.put, List.setIfInBounds_toArray, List.set_cons_zero, List.set_cons_succ])
        refine Rg.t 6 45 ?_
        refine Rg.t 7 46 ?_
        refine Rg.t 8 47 ?_
        refine Rg.t 9 48 ?_
        refine Rg.t 10 49 ?_
        refine Rg.t 11 50 ?_
        refine Rg.t 12 51 ?_
        refine Rg.t 13 52 ?_
        refine Rg.t 14 53 ?_
        refine Rg.t 15 54 ?_
        refine Rg.t 16 55 ?_
        refine Rg.t 17 56 ?_
        refine Rg.t 18 57 ?_
        refine Rg.t 19 58 ?_
        refine Rg.t 20 59 ?_
        refine Rg.t 21 60 ?_
        refine Rg.t 22 61 ?_
        refine Rg.t 23 62 ?_
        refine Rg.t 24 63 ?_
        refine Rg.t 25 64 ?_
        refine Rg.t 26 65 ?_
        refine Rg.t 27 66 ?_
        refine Rg.t 28 67 ?_
        refine wpAnyH_done (by kernel_rfl) (NoPanic.normal ?_) _
        have HB1 := hide ((unhide hbl).drew.trans (b1.mono (by show w.heap.size ≤ wr.heap.size; exact (unhide hbl).size)))
        have HN1 := hide ((unhide HNB).drew.below b1)
        have HR1 := hide ((unhide HRR).drew.below b1)
        have HI1 := hide (Fm.RM.below (w := wr.drew) (unhide HFF) b1)
        clear hHeld b1 HA HD
        go_wp2_with fail
        go_ret
        exact ⟨ret_bool (by rw [unhide E, unhide EB]; simp), unhide HB1⟩
      · have OK := hide (unhide HUP (by rw [unhide HRK]; have h1 : (y1 == (j : Int) + 1) = true := (by simpa using hx); have h2 : decide (y5 ≤ t) = true := (by simp; omega); rw [h1, h2]; rfl))
        clear HRK HNO HUP
        go_wp2_with fail
        refine wp_region_noPanic ?_
        refine wp_region_held_drew (S := fun w' => (NB w' w.heap.size (.slice (some ⟨g, off, none⟩) N ca) (.slice b cs.length cb) (.slice d K cd) t ∧ w'.rangeAt g (off + j * 13) (cl m p)) ∧ w'.cell? ⟨w.heap.size, 0, none⟩ = some (.slice (some ⟨g, off, none⟩) N ca) ∧ w'.cell? ⟨w.heap.size, 3, none⟩ = some (.int .i64 t) ∧ w'.cell? ⟨g, off + j * 13, none⟩ = some (.int .i64 y1) ∧ w'.cell? ⟨g, off + j * 13 + 4, none⟩ = some (.int .i64 y5)) (by kernel_rfl) (sNet (unhide HNB).drew (unhide HA) (unhide HY1) (unhide HY5)) (fun hHeld => ?_)
        refine Rg.t 0 39 ?_
        refine Rg.t 1 40 ?_
        refine Rg.t 2 41 ?_
        refine Rg.t 3 42 ?_
        refine Rg.t (v := .agg (cl m p).toArray) 4 43 ?_ (hv := fun w0 hSw => execI _ rfl rfl hSw.1.2)
        (refine Rg.o 5 (fun K hK => ?_); go_simp)
        refine (specOkM m p wr.drew (unhide HM) (unhide HD).drew).mono ?_
        rintro e w1 ⟨rfl, b1⟩
        rw [unhide HK]
        refine hK.out _ _ (sNet ((unhide HNB).drew.below b1) (rng_below (w := wr.drew) (unhide HA) b1) (unhide HY1) (unhide HY5)) (fun hHeld => ?_)
        clear hK K
        (try simp only [Act.put, List.setIfInBounds_toArray, List.set_cons_zero, List.set_cons_succ])
        refine Rg.t 6 45 ?_
        refine Rg.t 7 46 ?_
        refine Rg.t 8 47 ?_
        refine Rg.t 9 48 ?_
        refine Rg.t 10 49 ?_
        refine Rg.t 11 50 ?_
        refine Rg.t 12 51 ?_
        refine Rg.t 13 52 ?_
        refine Rg.t 14 53 ?_
        refine Rg.t 15 54 ?_
        refine Rg.t 16 55 ?_
        refine Rg.t 17 56 ?_
        refine Rg.t 18 57 ?_
        refine Rg.t 19 58 ?_
        refine Rg.t 20 59 ?_
        refine Rg.t 21 60 ?_
        refine Rg.t 22 61 ?_
        refine Rg.t 23 62 ?_
        refine Rg.t 24 63 ?_
        refine Rg.t 25 64 ?_
        refine Rg.t 26 65 ?_
        refine Rg.t 27 66 ?_
        refine Rg.t 28 67 ?_
        refine wpAnyH_done (by kernel_rfl) (NoPanic.normal ?_) _
        have HB1 := hide ((unhide hbl).drew.trans (b1.mono (by show w.heap.size ≤ wr.heap.size; exact (unhide hbl).size)))
        have HN1 := hide ((unhide HNB).drew.below b1)
        have HR1 := hide ((unhide HRR).drew.below b1)
        have HI1 := hide (Fm.RM.below (w := wr.drew) (unhide HFF) b1)
        clear hHeld b1 HA HD
        clear p0 p1 p2 p3
        go_wp2_with fail
        go_roundw
        case rel => exact ⟨j + 1, by omega, by go_num, OK, HB1, HN1, HR1, HI1⟩
        case measure => simp [intOf]; omega
    · obtain rfl : j = N := by omega
      have EA := hide (unhide HAY (unhide hall))
      have E2 : Hid (netB ms cs fs t = FF) := hide (by rw [unhide E, unhide EA]; rfl)
      clear E EA HAN HAY hall HS
      obtain ⟨p0, p1, p2, p3⟩ := unhide HNB
      go_wp2_with fail
      clear p0 p1 p2 p3
      rename World => wq
      go_loopw [4] (fun i wr => ∃ q : Nat, q ≤ K ∧ i = .int .i64 q ∧ Hid (∀ i, i < q → fok (fs.getD i Fm.R.zero) j t = true) ∧ Hid (Below w.heap.size w wr) ∧ Hid (NB wr w.heap.size (.slice a j ca) (.slice b cs.length cb) (.slice d K cd) t) ∧ Hid (Fm.RM wr d fs)) (fun i _ => K - (intOf i).toNat)
      case atStart => exact ⟨0, by omega, rfl, hide (fun i hi => absurd hi (Nat.not_lt_zero i)), hbl, HNB, HFF⟩
      case round =>
        clear hbl HNB HFF HRR HX1 HR1 HZ1 HB1
        obtain ⟨q, hq, rfl, hall, hbl, hnb, hrm⟩ := hrel
        by_cases hltq : (q : Int) < (K : Int)
        · have k0 : (0 : Int) ≤ (q : Int) := by omega
          have hlen : q < fs.length := by rw [unhide HKK]; omega
          rcases (unhide hrm) with e0 | ⟨g, off, rfl, hc⟩
          · exfalso; rw [e0] at hlen; simp at hlen
          have hA := hc q hlen
          have hzz := (unhide HG) q hlen
          unfold maxLen at hzz
          have HNO := hide (unhide HFN q hlen)
          have HUP := hide (fun h => up_to (p := fun i => fok (fs.getD i Fm.R.zero) j t) (j := q) (unhide hall) h)
          have HFK : Hid (fok (fs.getD q Fm.R.zero) j t = (apB (fs.getD q Fm.R.zero).fr (fs.getD q Fm.R.zero).tt j && (inB (fs.getD q Fm.R.zero).ti t (t + 1) && decide (((fs.getD q Fm.R.zero).bs.size : Int) ≤ 900)))) := hide (by unfold fok apB; simp only [Bool.and_assoc])
          try dsimp only at HUP
          clear hc hlen
          generalize hmj : fs.getD q Fm.R.zero = m at hA hzz HNO HUP HFK
          clear hmj
          obtain ⟨fr, tt, ti, bs⟩ := m
          obtain ⟨c0, c1, c2, c3⟩ := hA
          dsimp only at c0 c1 c2 c3 hzz HFK
          have b1 := bel_new wr (.cells #[.int .i64 fr, .int .i64 tt, .int .i64 ti, .string bs] 73)
          have HN1 := hide ((unhide hnb).below b1)
          have HR1 := hide ((unhide hrm).below b1)
          have HB1 := hide ((unhide hbl).trans (b1.mono (unhide hbl).size))
          have q0 : (wr.alloc (.cells #[.int .i64 fr, .int .i64 tt, .int .i64 ti, .string bs] 73)).cell? ⟨wr.heap.size, 2, none⟩ = some (.int .i64 ti) := by simp [World.cell?_alloc_new]
          have q3 : (wr.alloc (.cells #[.int .i64 fr, .int .i64 tt, .int .i64 ti, .string bs] 73)).cell? ⟨wr.heap.size, 3, none⟩ = some (.string bs) := by simp [World.cell?_alloc_new]
          have hw1 : wr.heap.size < (wr.alloc (.cells #[.int .i64 fr, .int .i64 tt, .int .i64 ti, .string bs] 73)).heap.size := by simp
          have Q0 := hide q0
          have Q3 := hide q3
          have HW1 := hide hw1
          have KA := hide (fun W => l13Pair a b (some ⟨g, off, none⟩) j cs.length K ca cb cd t fr tt W)
          have KI := hide (fun W => l01In ti t (t + 1) W)
          clear q0 q3 hw1 b1
          obtain ⟨p0, p1, p2, p3⟩ := unhide hnb
          go_upto_region 12 with fail
          clear p0 p1 p2 p3 c0 c1 c2 c3
          obtain ⟨p0, p1, p2, p3⟩ := unhide HN1
          go_wp2_with fail
          clear p0 p1 p2 p3
          generalize wr.alloc (.cells #[.int .i64 fr, .int .i64 tt, .int .i64 ti, .string bs] 73) = w1 at *
          refine (unhide KA _).mono ?_
          rintro e w2 ⟨rfl, b2⟩
          have HN2 := hide ((unhide HN1).below b2)
          have HR2 := hide ((unhide HR1).below b2)
          have HB2 := hide ((unhide HB1).trans (b2.mono (unhide HB1).size))
          have q2 := (b2.cell (p := ⟨wr.heap.size, 2, none⟩) (unhide HW1)).trans (unhide Q0)
          have q3 := (b2.cell (p := ⟨wr.heap.size, 3, none⟩) (unhide HW1)).trans (unhide Q3)
          clear Q0 Q3 HW1 HN1 HR1 HB1 b2 KA hnb hrm hbl
          cases hap : apB fr tt j
          · have EB := hide (unhide HNO (by rw [unhide HFK, hap]; rfl))
            clear hap
            obtain ⟨p0, p1, p2, p3⟩ := unhide HN2
            go_wp2_with fail
            go_ret
            exact ⟨ret_bool (by rw [unhide E2, unhide EB]), unhide HB2⟩
          rw [hap] at HFK
          clear hap
          cases hti : inB ti t (t + 1)
          · rw [hti] at KI
            have EB := hide (unhide HNO (by rw [unhide HFK, hti]; rfl))
            clear hti
            obtain ⟨p0, p1, p2, p3⟩ := unhide HN2
            go_wp2_with (go_at_call 43; refine (unhide KI _).mono ?_; rintro e w_ ⟨rfl, rfl⟩)
            go_ret
            exact ⟨ret_bool (by rw [unhide E2, unhide EB]), unhide HB2⟩
          rw [hti] at KI HFK
          clear hti
          by_cases h900 : (900 : Int) < (bs.size : Int)
          · have EB := hide (unhide HNO (by rw [unhide HFK]; have : decide ((bs.size : Int) ≤ 900) = false := (by simp; omega); rw [this]; rfl))
            obtain ⟨p0, p1, p2, p3⟩ := unhide HN2
            go_wp2_with (go_at_call 43; refine (unhide KI _).mono ?_; rintro e w_ ⟨rfl, rfl⟩)
            go_ret
            exact ⟨ret_bool (by rw [unhide E2, unhide EB]), unhide HB2⟩
          · have OK := hide (unhide HUP (by rw [unhide HFK]; have : decide ((bs.size : Int) ≤ 900) = true := (by simp; omega); rw [this]; rfl))
            clear HNO HUP HFK
            obtain ⟨p0, p1, p2, p3⟩ := unhide HN2
            go_wp2_with (go_at_call 43; refine (unhide KI _).mono ?_; rintro e w_ ⟨rfl, rfl⟩)
            clear p0 p1 p2 p3 q2 q3 KI
            go_roundw
            case rel => exact ⟨q + 1, by omega, by go_num, OK, HB2, HN2, HR2⟩
            case measure => simp [intOf]; omega
        · obtain rfl : q = K := by omega
          have EA := hide (unhide HFY (unhide hall))
          obtain ⟨p0, p1, p2, p3⟩ := unhide hnb
          go_wp2_with fail
          go_ret
          exact ⟨ret_bool (by rw [unhide E2, unhide EA]), unhide hbl⟩
end Nt
end Go.Proofs.YtfooahhdikobeaaGreat
namespace Go.Proofs.YtfooahhdikobeaaGreat
open Go.ChangeShapes Go.WideShapes Go.ChangeAt Go.RowKit
set_option linter.unusedVariables false
set_option linter.unusedSimpArgs false
set_option maxRecDepth 100000
attribute [local go_sem ↓] Go.wp_at_zero Go.wp_at_succ
namespace Nt
open W1 Rt
theorem drewI {w : World} {a : Option Addr} {cs : List Int} (h : In.RM w a cs) : In.RM w.drew a cs := h
theorem execNB {op : Oper} {a : Act} {w : World} (x : Operand) (ho : op.op = .load 31 x) {b : Nat} {v1 v2 v3 : Value} {t : Int} (hx : a.eval x = .pointer (some ⟨b, 0, none⟩)) (h : NB w b v1 v2 v3 t) : (execOp a.eval op).run Tryz.prog w = .ok (.value (.agg #[v1, v2, v3, .int .i64 t])) w := by
  unfold execOp
  simp only [ho, hx, Instr.loadAt, Instr.sureAddr, Sem.run_bind, Sem.run_pure, Result.andThen_ok, run_loadVar_mid w b 0 31 [v1, v2, v3, .int .i64 t] _ (nb_range h) infoN.1 infoN.2.1 infoN.2.2]
theorem infoNW : Tryz.prog.underlying 26 = some (Tryz.prog.underlying 26).get! ∧ ((Tryz.prog.underlying 26).get!).isRow = true ∧ (Tryz.prog.info? 26).map (·.size) = some 4 := ⟨by kernel_rfl, by kernel_rfl, by kernel_rfl⟩
theorem execNW {op : Oper} {a : Act} {w : World} (x : Operand) (ho : op.op = .load 26 x) {b : Nat} {v1 v2 v3 : Value} {t : Int} (hx : a.eval x = .pointer (some ⟨b, 0, none⟩)) (h : NB w b v1 v2 v3 t) : (execOp a.eval op).run Tryz.prog w = .ok (.value (.agg #[v1, v2, v3, .int .i64 t])) w := by
  unfold execOp
  simp only [ho, hx, Instr.loadAt, Instr.sureAddr, Sem.run_bind, Sem.run_pure, Result.andThen_ok, run_loadVar_mid w b 0 26 [v1, v2, v3, .int .i64 t] _ (nb_range h) infoNW.1 infoNW.2.1 infoNW.2.2]
end Nt
end Go.Proofs.YtfooahhdikobeaaGreat
namespace Go.Proofs.YtfooahhdikobeaaGreat
open Go.ChangeShapes Go.WideShapes Go.ChangeAt Go.RowKit
set_option linter.unusedVariables false
set_option linter.unusedSimpArgs false
set_option maxRecDepth 100000
attribute [local go_sem ↓] Go.wp_at_zero Go.wp_at_succ
namespace Nt
open W1 Rt
/-- Where a way's cost stands. -/
def plc (n : Nat) (x y : Int) : Nat := ((x - 1) * (n : Int) + y - 1).toNat
theorem plc_ok {n : Nat} {x y : Int} (h1 : 1 ≤ n) (h6 : n ≤ 6) (hx : 1 ≤ x) (hx' : x ≤ (n : Int)) (hy : 1 ≤ y) (hy' : y ≤ (n : Int)) : 0 ≤ (x - 1) * (n : Int) ∧ (x - 1) * (n : Int) ≤ 30 ∧ (x - 1) * (n : Int) + y - 1 = (plc n x y : Int) ∧ plc n x y < n * n := by
  have hn : n = 1 ∨ n = 2 ∨ n = 3 ∨ n = 4 ∨ n = 5 ∨ n = 6 := by omega
  unfold plc
  rcases hn with rfl | rfl | rfl | rfl | rfl | rfl <;> refine ⟨?_, ?_, ?_, ?_⟩ <;> omega
theorem netB_n {ms : List Rm} {cs : List Int} {fs : List Fm.R} {t : Int} (h : netB ms cs fs t = true) : 1 ≤ ms.length ∧ ms.length ≤ 6 ∧ cs.length = ms.length * ms.length ∧ 0 ≤ t ∧ t ≤ 100000 := by
  unfold netB costB at h
  simp only [Bool.and_eq_true, beq_iff_eq] at h
  obtain ⟨ht, hn, _, ⟨hc, _⟩, _⟩ := h
  simp [inB] at ht hn
  exact ⟨by omega, by omega, hc, ht.1, ht.2⟩
set_option maxHeartbeats 4000000 in
theorem l13Cost (a b d : Option Addr) (n l ca cb cd : Nat) (t : Int) (cs : List Int) (x y : Int) (w : World) (h1 : 1 ≤ n) (h6 : n ≤ 6) (hC : cs.length = n * n) (hx : 1 ≤ x) (hx' : x ≤ (n : Int)) (hy : 1 ≤ y) (hy' : y ≤ (n : Int)) (hi : In.RM w b cs) :
    Calls Tryz.prog 113 #[.agg #[.slice a n ca, .slice b cs.length cb, .slice d l cd, .int .i64 t], .int .i64 x, .int .i64 y] w fun e w' => e = .returned (.int .i64 (cs.getD (plc n x y) 0)) ∧ Below w.heap.size w w' := by
  have HX0 := hide (nb_new w (.slice a n ca) (.slice b cs.length cb) (.slice d l cd) t 31)
  have b0 := bel_new w (.cells #[.slice a n ca, .slice b cs.length cb, .slice d l cd, .int .i64 t] 31)
  have HB0 := hide b0
  obtain ⟨hM0, hM1, hMP, hPl⟩ := plc_ok h1 h6 hx hx' hy hy'
  rw [← hC] at hPl
  clear hC
  obtain ⟨Pn, hPn⟩ : ∃ Pn, plc n x y = Pn := ⟨_, rfl⟩
  rw [hPn] at hMP hPl
  rw [hPn]
  clear hPn
  obtain ⟨M, hM⟩ : ∃ M, (x - 1) * (n : Int) = M := ⟨_, rfl⟩
  rw [hM] at hM0 hM1 hMP
  have hx6 : x ≤ 6 := by omega
  have hy6 : y ≤ 6 := by omega
  have hPb : (Pn : Int) < (cs.length : Int) := by omega
  have hP0 : (0 : Int) ≤ (Pn : Int) := by omega
  have hP36 : (Pn : Int) ≤ 36 := by omega
  rcases hi.below b0 with e0 | ⟨g, off, rfl, hc⟩
  · exfalso; rw [e0] at hPl; simp at hPl
  have c0 := hc Pn hPl
  clear hc hi b0
  generalize cs.getD Pn 0 = v at *
  go_enter Tryz.func113, Tryz.ntmps113
  obtain ⟨p0, p1, p2, p3⟩ := unhide HX0
  go_wp2_with fail
  go_ret
  exact ⟨rfl, unhide HB0⟩
set_option maxHeartbeats 4000000 in
theorem costPlace (a b d : Option Addr) (n l ca cb cd : Nat) (t : Int) (cs : List Int) (x y : Int) (w : World) (h1 : 1 ≤ n) (h6 : n ≤ 6) (hC : cs.length = n * n) (hx : 1 ≤ x) (hx' : x ≤ (n : Int)) (hy : 1 ≤ y) (hy' : y ≤ (n : Int)) :
    Calls Tryz.prog 53 #[.agg #[.slice a n ca, .slice b cs.length cb, .slice d l cd, .int .i64 t], .int .i64 x, .int .i64 y] w fun e w' => e = .returned (.int .i64 (plc n x y : Int)) ∧ Below w.heap.size w w' := by
  have HX0 := hide (nb_new w (.slice a n ca) (.slice b cs.length cb) (.slice d l cd) t 31)
  have b0 := bel_new w (.cells #[.slice a n ca, .slice b cs.length cb, .slice d l cd, .int .i64 t] 31)
  have HB0 := hide b0
  obtain ⟨hM0, hM1, hMP, hPl⟩ := plc_ok h1 h6 hx hx' hy hy'
  rw [← hC] at hPl
  clear hC
  obtain ⟨Pn, hPn⟩ : ∃ Pn, plc n x y = Pn := ⟨_, rfl⟩
  rw [hPn] at hMP hPl
  rw [hPn]
  clear hPn
  obtain ⟨M, hM⟩ : ∃ M, (x - 1) * (n : Int) = M := ⟨_, rfl⟩
  rw [hM] at hM0 hM1 hMP
  have hx6 : x ≤ 6 := by omega
  have hy6 : y ≤ 6 := by omega
  have hPb : (Pn : Int) < (cs.length : Int) := by omega
  have hP0 : (0 : Int) ≤ (Pn : Int) := by omega
  have hP36 : (Pn : Int) ≤ 36 := by omega
  clear b0
  go_enter Tryz.func53, Tryz.ntmps53
  obtain ⟨p0, p1, p2, p3⟩ := unhide HX0
  go_wp2_with fail
  go_ret
  exact ⟨rfl, unhide HB0⟩
set_option maxHeartbeats 8000000 in
theorem costOf (a b d : Option Addr) (n l ca cb cd : Nat) (t : Int) (cs : List Int) (x y : Int) (w : World) (h1 : 1 ≤ n) (h6 : n ≤ 6) (hC : cs.length = n * n) (hx : 1 ≤ x) (hx' : x ≤ (n : Int)) (hy : 1 ≤ y) (hy' : y ≤ (n : Int)) (hi : In.RM w b cs) :
    Calls Tryz.prog 118 #[.agg #[.slice a n ca, .slice b cs.length cb, .slice d l cd, .int .i64 t], .int .i64 x, .int .i64 y] w fun e w' => e = .returned (.int .i64 (cs.getD (plc n x y) 0)) ∧ Below w.heap.size w w' := by
  have HX0 := hide (nb_new w (.slice a n ca) (.slice b cs.length cb) (.slice d l cd) t 31)
  have b0 := bel_new w (.cells #[.slice a n ca, .slice b cs.length cb, .slice d l cd, .int .i64 t] 31)
  have HB0 := hide b0
  have KP := hide (fun W => costPlace a b d n l ca cb cd t cs x y W h1 h6 hC hx hx' hy hy')
  obtain ⟨hM0, hM1, hMP, hPl⟩ := plc_ok h1 h6 hx hx' hy hy'
  rw [← hC] at hPl
  clear hC
  obtain ⟨Pn, hPn⟩ : ∃ Pn, plc n x y = Pn := ⟨_, rfl⟩
  rw [hPn] at hPl KP
  rw [hPn]
  clear hPn hM0 hM1 hMP
  have hPb : (Pn : Int) < (cs.length : Int) := by omega
  have hP0 : (0 : Int) ≤ (Pn : Int) := by omega
  rcases hi.below b0 with e0 | ⟨g, off, rfl, hc⟩
  · exfalso; rw [e0] at hPl; simp at hPl
  have C0 := hide (hc Pn hPl)
  have hgl : g < (w.alloc (.cells #[.slice a n ca, .slice (some ⟨g, off, none⟩) cs.length cb, .slice d l cd, .int .i64 t] 31)).heap.size := World.block_lt_of_cell? _ _ (unhide C0)
  have HGL := hide hgl
  clear hc hi b0 hgl
  generalize cs.getD Pn 0 = v at *
  go_enter Tryz.func118, Tryz.ntmps118
  go_wp2_with fail
  generalize w.alloc (.cells #[.slice a n ca, .slice (some ⟨g, off, none⟩) cs.length cb, .slice d l cd, .int .i64 t] 31) = w0 at *
  refine wp_region_noPanic ?_
  refine wp_region_held_drew (S := fun w' => NB w' w.heap.size (.slice a n ca) (.slice (some ⟨g, off, none⟩) cs.length cb) (.slice d l cd) t ∧ w'.cell? ⟨w.heap.size, 1, none⟩ = some (.slice (some ⟨g, off, none⟩) cs.length cb) ∧ w'.cell? ⟨g, off + Pn, none⟩ = some (.int .i64 v)) (by kernel_rfl) (⟨unhide HX0, (unhide HX0).2.1, unhide C0⟩) (fun hHeld => ?_)
  refine Rg.t 0 7 ?_
  refine Rg.t 1 8 ?_
  refine Rg.t (v := .agg #[.slice a n ca, .slice (some ⟨g, off, none⟩) cs.length cb, .slice d l cd, .int .i64 t]) 2 9 ?_ (hv := fun w0 hSw => execNB _ rfl rfl hSw.1)
  refine Rg.t 3 10 ?_
  refine Rg.t 4 11 ?_
  (refine Rg.o 5 (fun K hK => ?_); go_simp)
  refine (unhide KP _).mono ?_
  rintro e w1 ⟨rfl, b1⟩
  have HX1 := hide (NB.below (w := w0.drew) (unhide HX0) b1)
  refine hK.out _ _ (⟨unhide HX1, (unhide HX1).2.1, (b1.cell (p := ⟨g, off + Pn, none⟩) (unhide HGL)).trans (unhide C0)⟩) (fun hHeld => ?_)
  clear hK K
  (try simp only [Act.put, List.setIfInBounds_toArray, List.set_cons_zero, List.set_cons_succ])
  refine Rg.t 6 13 ?_
  refine Rg.t 7 14 ?_
  refine Rg.t 8 6 ?_
  refine wpAnyH_done (by kernel_rfl) (NoPanic.normal ?_) _
  have HF := hide ((unhide HB0).drew.trans (b1.mono (by show w.heap.size ≤ w0.heap.size; exact (unhide HB0).size)))
  clear hHeld b1
  go_wp2_with fail
  go_ret
  exact ⟨rfl, unhide HF⟩
end Nt
end Go.Proofs.YtfooahhdikobeaaGreat
namespace Go.Proofs.YtfooahhdikobeaaGreat
open Go.ChangeShapes Go.WideShapes Go.ChangeAt Go.RowKit
set_option linter.unusedVariables false
set_option linter.unusedSimpArgs false
set_option maxRecDepth 100000
attribute [local go_sem ↓] Go.wp_at_zero Go.wp_at_succ
namespace Ro
open W1
structure R where
  ds : Int
  nx : Int
  co : Int
  hp : Int
def R.zero : R := ⟨0, 0, 0, 0⟩
/-- The value of one. -/
def R.value (m : R) : Value := .agg #[.int .i64 m.ds, .int .i64 m.nx, .int .i64 m.co, .int .i64 m.hp]
/-- The cells of one, of a list of them. -/
def R.cells (m : R) : List Value := [.int .i64 m.ds, .int .i64 m.nx, .int .i64 m.co, .int .i64 m.hp]
def flat (ms : List R) : List Value := ms.flatMap R.cells
/-- The cells of one that lies at an address. -/
def At (w : World) (g o : Nat) (m : R) : Prop :=
  w.cell? ⟨g, o, none⟩ = some (.int .i64 m.ds) ∧ w.cell? ⟨g, o + 1, none⟩ = some (.int .i64 m.nx) ∧ w.cell? ⟨g, o + 2, none⟩ = some (.int .i64 m.co) ∧ w.cell? ⟨g, o + 3, none⟩ = some (.int .i64 m.hp)
/-- The slice at a reads as these. -/
def RM (w : World) (a : Option Addr) (ms : List R) : Prop :=
  ms = [] ∨ ∃ g off, a = some ⟨g, off, none⟩ ∧ ∀ i, i < ms.length → At w g (off + i * 4) (ms.getD i R.zero)
theorem At.below {w w' : World} {g o : Nat} {m : R} (h : At w g o m) (hb : Below w.heap.size w w') : At w' g o m := by
  have hg : g < w.heap.size := World.block_lt_of_cell? _ _ h.1
  obtain ⟨h0, h1, h2, h3⟩ := h
  refine ⟨?_, ?_, ?_, ?_⟩ <;> (rw [hb.cell hg]; assumption)
theorem At.drew {w : World} {g o : Nat} {m : R} (h : At w g o m) : At w.drew g o m := h
theorem RM.below {w w' : World} {a : Option Addr} {ms : List R} (h : RM w a ms) (hb : Below w.heap.size w w') : RM w' a ms := by
  rcases h with h | ⟨g, off, rfl, hc⟩
  · exact .inl h
  · exact .inr ⟨g, off, rfl, fun i hi => (hc i hi).below hb⟩
theorem RM.drew {w : World} {a : Option Addr} {ms : List R} (h : RM w a ms) : RM w.drew a ms := h
theorem RM.at {w : World} {g off : Nat} {ms : List R} {i : Nat} (h : RM w (some ⟨g, off, none⟩) ms) (hi : i < ms.length) : At w g (off + i * 4) (ms.getD i R.zero) := by
  rcases h with rfl | ⟨g', off', e, hc⟩
  · simp at hi
  · cases e; exact hc i hi
theorem RM.form {w : World} {a : Option Addr} {ms : List R} (h : RM w a ms) (h0 : 0 < ms.length) : ∃ g off, a = some ⟨g, off, none⟩ := by
  rcases h with rfl | ⟨g, off, e, _⟩
  · simp at h0
  · exact ⟨g, off, e⟩
/-- A part of a list. -/
theorem RM.part {w : World} {g off : Nat} {ms : List R} (h : RM w (some ⟨g, off, none⟩) ms) (i n : Nat) : RM w (some ⟨g, off + i * 4, none⟩) ((ms.drop i).take n) := by
  refine .inr ⟨g, off + i * 4, rfl, fun j hj => ?_⟩
  have hl : j < n ∧ i + j < ms.length := by simp at hj; omega
  have := h.at (i := i + j) hl.2
  rw [show off + (i + j) * 4 = off + i * 4 + j * 4 by omega] at this
  have e : ((ms.drop i).take n).getD j R.zero = ms.getD (i + j) R.zero := by
    rw [List.getD_eq_getElem?_getD, List.getD_eq_getElem?_getD, List.getElem?_take_of_lt hl.1, List.getElem?_drop]
  rw [e]; exact this
theorem getD_mem {ms : List R} {j : Nat} (h : j < ms.length) : ms.getD j R.zero ∈ ms := by rw [List.getD_eq_getElem?_getD, List.getElem?_eq_getElem h]; exact List.getElem_mem h
theorem R.len (m : R) : m.cells.length = 4 := rfl
theorem flat_len (ms : List R) : (flat ms).length = ms.length * 4 := by
  unfold flat
  induction ms with
  | nil => rfl
  | cons m t ih => rw [List.flatMap_cons, List.length_append, ih, R.len, List.length_cons]; omega
theorem flat_append (xs ys : List R) : flat (xs ++ ys) = flat xs ++ flat ys := by unfold flat; rw [List.flatMap_append]
theorem flat_get : ∀ (ms : List R) (i j : Nat), j < 4 → i < ms.length → (flat ms)[i * 4 + j]? = (ms.getD i R.zero).cells[j]?
  | [], i, j, hj, hi => by simp at hi
  | m :: t, 0, j, hj, hi => by
    unfold flat
    rw [List.flatMap_cons, Nat.zero_mul, Nat.zero_add, List.getElem?_append_left (by rw [R.len]; exact hj)]; rfl
  | m :: t, i + 1, j, hj, hi => by
    have ih := flat_get t i j hj (by simpa using hi)
    unfold flat at ih ⊢
    rw [List.flatMap_cons, show (i + 1) * 4 + j = m.cells.length + (i * 4 + j) by rw [R.len]; omega, List.getElem?_append_right (by omega), Nat.add_sub_cancel_left, ih]; rfl
theorem cell_one {m : R} {u : Value} (h : u ∈ m.cells) : u.oneCell' = true := by
  unfold R.cells at h; simp only [List.mem_cons, List.not_mem_nil, or_false] at h
  rcases h with rfl | rfl | rfl | rfl <;> rfl
theorem flat_one_cell {ms : List R} {u : Value} (h : u ∈ flat ms) : u.oneCell' = true := by
  obtain ⟨m, _, hu⟩ := List.mem_flatMap.1 h; exact cell_one hu
theorem at_cells {w : World} {g o : Nat} {m : R} (h : At w g o m) : ∀ j u, m.cells[j]? = some u → w.cell? ⟨g, o + j, none⟩ = some u := by
  intro j u hj
  match j, hj with
  | 0, hj => simp [R.cells] at hj; subst hj; exact h.1
  | 1, hj => simp [R.cells] at hj; subst hj; exact h.2.1
  | 2, hj => simp [R.cells] at hj; subst hj; exact h.2.2.1
  | 3, hj => simp [R.cells] at hj; subst hj; exact h.2.2.2
  | n + 4, hj => simp [R.cells] at hj
theorem plain_add (b off k : Nat) : (⟨b, off, none⟩ : Addr).add k = ⟨b, off + k, none⟩ := by unfold Addr.add; split <;> simp_all
/-- A list that is read, cell by cell. -/
theorem RM.cells {w : World} {g off : Nat} {ms : List R} (h : RM w (some ⟨g, off, none⟩) ms) : ∀ j u, (flat ms)[j]? = some u → w.cell? ((⟨g, off, none⟩ : Addr).add j) = some u := by
  intro j u hj
  have hl : j < ms.length * 4 := by
    rw [← flat_len]; exact (List.getElem?_eq_some_iff.1 hj).1
  have hi : j / 4 < ms.length := by omega
  have e : j / 4 * 4 + j % 4 = j := by omega
  rw [← e, flat_get ms _ _ (by omega) hi] at hj
  rw [plain_add, ← e, ← Nat.add_assoc]
  exact at_cells (h.at hi) _ _ hj
/-- A row of one's own that holds a list. -/
theorem at_own {w : World} {base g n cap : Nat} {ms : List R} (hn : n = ms.length) (h : w.ownsRow base 87 4 (.slice (some ⟨g, 0, none⟩) n cap) n (flat ms)) (i : Nat) (hi : i < ms.length) : At w g (i * 4) (ms.getD i R.zero) := by
  have hc : ∀ j, j < 4 → ∀ u, (ms.getD i R.zero).cells[j]? = some u → w.cell? ⟨g, i * 4 + j, none⟩ = some u := by
    intro j hj u hu
    have := h.cells (g := g) rfl (i * 4 + j) u (by rw [flat_get ms i j hj hi]; exact hu)
    rw [plain_add, Nat.zero_add] at this
    exact this
  exact ⟨hc 0 (by omega) _ rfl, hc 1 (by omega) _ rfl, hc 2 (by omega) _ rfl, hc 3 (by omega) _ rfl⟩

/-- One laid at an address. -/
def put (w : World) (g o : Nat) (m : R) : World := (((w.setCell ⟨g, o, none⟩ (.int .i64 m.ds)).setCell ⟨g, o + 1, none⟩ (.int .i64 m.nx)).setCell ⟨g, o + 2, none⟩ (.int .i64 m.co)).setCell ⟨g, o + 3, none⟩ (.int .i64 m.hp)
theorem put_below {B : Nat} {w0 w : World} {g o : Nat} {m : R} (h : Below B w0 w) (hg : B ≤ g) : Below B w0 (put w g o m) := by
  unfold put
  exact (((h.setCell (p := ⟨g, o, none⟩) hg _).setCell (p := ⟨g, o + 1, none⟩) hg _).setCell (p := ⟨g, o + 2, none⟩) hg _).setCell (p := ⟨g, o + 3, none⟩) hg _
theorem put_size (w : World) (g o : Nat) (m : R) : (put w g o m).heap.size = w.heap.size := by simp [put, World.setCell]
theorem put_frozen (w : World) (g o : Nat) (m : R) (a : Addr) : (put w g o m).frozen? a = w.frozen? a := by
  unfold put; rw [World.frozen?_setCell, World.frozen?_setCell, World.frozen?_setCell, World.frozen?_setCell]
theorem put_far (w : World) (g o : Nat) (m : R) {b q : Nat} (h : b ≠ g ∨ q < o ∨ o + 4 ≤ q) : (put w g o m).cell? ⟨b, q, none⟩ = w.cell? ⟨b, q, none⟩ := by
  unfold put
  rw [World.cell?_setCell_other _ _ _ _ (by intro e; cases e <;> omega), World.cell?_setCell_other _ _ _ _ (by intro e; cases e <;> omega), World.cell?_setCell_other _ _ _ _ (by intro e; cases e <;> omega), World.cell?_setCell_other _ _ _ _ (by intro e; cases e <;> omega)]
theorem put_at (w : World) (g o : Nat) (m : R) (h : ∀ k, k < 4 → (w.cell? ⟨g, o + k, none⟩).isSome = true) : At (put w g o m) g o m := by
  obtain ⟨v0, h0⟩ := Option.isSome_iff_exists.1 (h 0 (by omega))
  obtain ⟨v1, h1⟩ := Option.isSome_iff_exists.1 (h 1 (by omega))
  obtain ⟨v2, h2⟩ := Option.isSome_iff_exists.1 (h 2 (by omega))
  obtain ⟨v3, h3⟩ := Option.isSome_iff_exists.1 (h 3 (by omega))
  rw [Nat.add_zero] at h0
  have n : ∀ {w : World} {v : Value} {a b : Nat}, a ≠ b → (w.setCell ⟨g, a, none⟩ v).cell? ⟨g, b, none⟩ = w.cell? ⟨g, b, none⟩ := fun {w v a b} e => World.cell?_setCell_other _ _ _ _ (by intro h; cases h; exact e rfl)
  unfold put
  refine ⟨?_, ?_, ?_, ?_⟩
  · rw [n (by omega), n (by omega), n (by omega), World.cell?_setCell_same _ _ _ h0]
  · rw [n (by omega), n (by omega), World.cell?_setCell_same _ _ _ ((n (by omega)).trans h1)]
  · rw [n (by omega), World.cell?_setCell_same _ _ _ ((n (by omega)).trans ((n (by omega)).trans h2))]
  · rw [World.cell?_setCell_same _ _ _ ((n (by omega)).trans ((n (by omega)).trans ((n (by omega)).trans h3)))]
theorem put_some (w : World) (g o : Nat) (m : R) (b q : Nat) (h : (w.cell? ⟨b, q, none⟩).isSome = true) : ((put w g o m).cell? ⟨b, q, none⟩).isSome = true := by
  obtain ⟨v, y0⟩ := Option.isSome_iff_exists.1 h
  unfold put
  obtain ⟨v1, y1⟩ := cell?_setCell_some (p := ⟨g, o, none⟩) (x := .int .i64 m.ds) y0
  obtain ⟨v2, y2⟩ := cell?_setCell_some (p := ⟨g, o + 1, none⟩) (x := .int .i64 m.nx) y1
  obtain ⟨v3, y3⟩ := cell?_setCell_some (p := ⟨g, o + 2, none⟩) (x := .int .i64 m.co) y2
  obtain ⟨v4, y4⟩ := cell?_setCell_some (p := ⟨g, o + 3, none⟩) (x := .int .i64 m.hp) y3
  rw [y4]; rfl
/-- The first j stand at the head of block g, whose n times 4 cells may be written. -/
def Upto (w : World) (g n j : Nat) (ms : List R) : Prop :=
  (∀ i, i < j → At w g (i * 4) (ms.getD i R.zero)) ∧ ∀ i, i < n * 4 → (w.cell? ⟨g, i, none⟩).isSome = true ∧ w.frozen? ⟨g, i, none⟩ = false
theorem Upto.step {w : World} {g n j : Nat} {ms : List R} (h : Upto w g n j ms) (hj : j < n) : Upto (put w g (j * 4) (ms.getD j R.zero)) g n (j + 1) ms := by
  refine ⟨fun i hi => ?_, fun i hi => ⟨put_some _ _ _ _ _ _ (h.2 i hi).1, by rw [put_frozen]; exact (h.2 i hi).2⟩⟩
  by_cases e : i = j
  · subst e
    exact put_at _ _ _ _ (fun k hk => (h.2 _ (by omega)).1)
  · obtain ⟨h0, h1, h2, h3⟩ := h.1 i (by omega)
    exact ⟨(put_far _ _ _ _ (by omega)).trans h0, (put_far _ _ _ _ (by omega)).trans h1, (put_far _ _ _ _ (by omega)).trans h2, (put_far _ _ _ _ (by omega)).trans h3⟩
theorem Upto.below {w w' : World} {g n j : Nat} {ms : List R} (h : Upto w g n j ms) (hb : Below w.heap.size w w') (hg : g < w.heap.size) : Upto w' g n j ms :=
  ⟨fun i hi => (h.1 i hi).below hb, fun i hi => ⟨by rw [hb.cell (p := ⟨g, i, none⟩) hg]; exact (h.2 i hi).1, by rw [hb.frozen (p := ⟨g, i, none⟩) hg]; exact (h.2 i hi).2⟩⟩
theorem Upto.of_block {w w' : World} {g n j : Nat} {ms : List R} (h : Upto w g n j ms) (hb : w'.heap[g]? = w.heap[g]?) : Upto w' g n j ms := by
  have c : ∀ q, w'.cell? ⟨g, q, none⟩ = w.cell? ⟨g, q, none⟩ := fun q => World.cell?_of_block (a := ⟨g, q, none⟩) hb
  have f : ∀ q, w'.frozen? ⟨g, q, none⟩ = w.frozen? ⟨g, q, none⟩ := fun q => World.frozen?_of_block (a := ⟨g, q, none⟩) hb
  refine ⟨fun i hi => ?_, fun i hi => ⟨by rw [c]; exact (h.2 i hi).1, by rw [f]; exact (h.2 i hi).2⟩⟩
  obtain ⟨h0, h1, h2, h3⟩ := h.1 i hi
  exact ⟨(c _).trans h0, (c _).trans h1, (c _).trans h2, (c _).trans h3⟩
theorem rm_of {w : World} {g n : Nat} {ms : List R} (h : Upto w g n ms.length ms) : RM w (some ⟨g, 0, none⟩) ms := .inr ⟨g, 0, rfl, fun i hi => by rw [Nat.zero_add]; exact h.1 i hi⟩
theorem upto_own {w : World} {base g cap n : Nat} {ms : List R} (hn : n = ms.length) (h : w.ownsRow base 87 4 (.slice (some ⟨g, 0, none⟩) n cap) n (flat ms)) : Upto w g n n ms := by
  subst hn
  refine ⟨fun i hi => at_own rfl h i hi, fun i hi => ?_⟩
  obtain ⟨_, ⟨e, _⟩ | ⟨g', cap', cur, e, _, hg, h1, _, h3, _⟩⟩ := h
  · cases e
  · cases e
    have hlt : i < cur.size := by rw [h3]; exact Nat.lt_of_lt_of_le hi (Nat.mul_le_mul_right _ h1)
    refine ⟨?_, ?_⟩
    · simp [World.cell?, hg, hlt]
    · simp [World.frozen?, hg]
/-- A list between two bounds of the heap, in memory that may be written. -/
def Lst (W : World) (a : Option Addr) (ms : List R) (lo hi : Nat) : Prop := ms = [] ∨ ∃ g, a = some ⟨g, 0, none⟩ ∧ lo ≤ g ∧ g < hi ∧ g < W.heap.size ∧ Upto W g ms.length ms.length ms
theorem Lst.rm {W : World} {a : Option Addr} {ms : List R} {lo hi : Nat} (h : Lst W a ms lo hi) : RM W a ms := by
  rcases h with rfl | ⟨g, rfl, _, _, _, hu⟩
  · exact .inl rfl
  · exact rm_of hu
theorem Lst.below {W W' : World} {a : Option Addr} {ms : List R} {lo hi : Nat} (h : Lst W a ms lo hi) (hb : Below W.heap.size W W') : Lst W' a ms lo hi := by
  rcases h with rfl | ⟨g, rfl, h1, h2, h3, hu⟩
  · exact .inl rfl
  · exact .inr ⟨g, rfl, h1, h2, Nat.lt_of_lt_of_le h3 hb.size, hu.below hb h3⟩
theorem Lst.mono {W : World} {a : Option Addr} {ms : List R} {lo hi lo' hi' : Nat} (h : Lst W a ms lo hi) (h1 : lo' ≤ lo) (h2 : hi ≤ hi') : Lst W a ms lo' hi' := by
  rcases h with rfl | ⟨g, rfl, h3, h4, h5, hu⟩
  · exact .inl rfl
  · exact .inr ⟨g, rfl, by omega, by omega, h5, hu⟩
theorem Lst.but {W W' : World} {a : Option Addr} {ms : List R} {lo hi : Nat} {p : Nat → Prop} (h : Lst W a ms lo hi) (hs : W.heap.size ≤ W'.heap.size) (hb : ∀ k, k < W.heap.size → p k → W'.heap[k]? = W.heap[k]?) (hp : ∀ k, lo ≤ k → k < hi → p k) : Lst W' a ms lo hi := by
  rcases h with rfl | ⟨g, rfl, h1, h2, h3, hu⟩
  · exact .inl rfl
  · exact .inr ⟨g, rfl, h1, h2, Nat.lt_of_lt_of_le h3 hs, hu.of_block (hb g h3 (hp g h1 h2))⟩
/-- The same of a value. -/
def LstV (W : World) (v : Value) (ms : List R) (lo hi : Nat) : Prop := ∃ a c, v = .slice a ms.length c ∧ Lst W a ms lo hi
theorem LstV.below {W W' : World} {v : Value} {ms : List R} {lo hi : Nat} (h : LstV W v ms lo hi) (hb : Below W.heap.size W W') : LstV W' v ms lo hi := by
  obtain ⟨a, c, e, hl⟩ := h; exact ⟨a, c, e, hl.below hb⟩
theorem LstV.mono {W : World} {v : Value} {ms : List R} {lo hi lo' hi' : Nat} (h : LstV W v ms lo hi) (h1 : lo' ≤ lo) (h2 : hi ≤ hi') : LstV W v ms lo' hi' := by
  obtain ⟨a, c, e, hl⟩ := h; exact ⟨a, c, e, hl.mono h1 h2⟩
theorem lstV_nil (W : World) (a : Option Addr) (c lo hi : Nat) : LstV W (.slice a 0 c) [] lo hi := ⟨a, c, rfl, .inl rfl⟩
/-- A row of one's own as such a list. -/
theorem lst_own {w : World} {base n : Nat} {v : Value} {ms : List R} (hn : n = ms.length) (h : w.ownsRow base 87 4 v n (flat ms)) : LstV w v ms base w.heap.size := by
  unfold LstV
  have h' := h
  obtain ⟨hl, ⟨rfl, h0⟩ | ⟨g, cap, cur, rfl, hb, hg, _, _, _, _⟩⟩ := h
  · exact ⟨none, 0, by rw [← hn, h0], .inl (List.eq_nil_of_length_eq_zero (by omega))⟩
  · have hlt : g < w.heap.size := by
      rcases Nat.lt_or_ge g w.heap.size with h | h
      · exact h
      · rw [Array.getElem?_eq_none h] at hg; cases hg
    refine ⟨_, cap, by rw [hn], .inr ⟨g, rfl, hb, hlt, hlt, ?_⟩⟩
    have := upto_own hn h'
    rw [hn] at this; exact this


theorem infoR : ∃ i, Tryz.prog.info? 87 = some i ∧ i.zero = some (Value.agg #[.int .i64 0, .int .i64 0, .int .i64 0, .int .i64 0]) ∧ i.size = 4 ∧ i.bytes = 32 := by
  have h : (Tryz.prog.info? 87).map (fun i => (i.zero, i.size, i.bytes)) = some (some (Value.agg #[.int .i64 0, .int .i64 0, .int .i64 0, .int .i64 0]), 4, 32) := by kernel_rfl
  obtain ⟨i, hi, he⟩ := Option.map_eq_some_iff.1 h
  simp only [Prod.mk.injEq] at he
  exact ⟨i, hi, he.1, he.2.1, he.2.2⟩

/-- append of a list to a row of one's own, as a walk meets it. -/
theorem wpList_apS {ops : Array Oper} {rest : List Oper} {o : Oper} {a : Act} {Q : Exit → Act → World → Prop} {w : World} {base : Nat} {v : Value} {xs : List R} (hown : w.ownsRow base 87 4 v xs.length (flat xs)) (g off m c : Nat) (ms : List R) (hm : ms.length = m) (hr : RM w (some ⟨g, off, none⟩) ms) (hlen : xs.length + ms.length ≤ 4194304) (hbase : base ≤ w.heap.size)
    (hgd : o.guard = none) (s x : Operand) (ho : o.op = .call { callee := .builtin .append, args := #[s, x], argTypes := #[88, 88] }) (hs : a.eval s = v) (hx : a.eval x = .slice (some ⟨g, off, none⟩) m c)
    (h : ∀ v' w', w'.ownsRow base 87 4 v' (xs ++ ms).length (flat (xs ++ ms)) → w.grownBy w' v.ownBlock → wpList Tryz.prog ops Q rest (a.put o.dst v') w') : wpList Tryz.prog ops Q (o :: rest) a w := by
  subst hm
  obtain ⟨i0, hi, hz0, hz1, hz2⟩ := infoR
  refine wpList_append_own w hgd s x _ ho base 87 i0 _ 4 32 Tryz.underlying88 hi hz0 hz1 hz2 rfl (by decide) v xs.length (flat xs) hs hown ⟨g, off, none⟩ ms.length c (flat ms) hx (flat_len ms) hr.cells (fun u hu => flat_one_cell hu) (by unfold maxLen; omega) (by omega) hbase (fun v' w' h1 h2 _ => ?_)
  refine h v' w' ?_ h2
  rw [List.length_append, flat_append]; exact h1
/-- The same, inside a region that draws its order. -/
theorem wp_apS {o : Oper} {a : Act} {K : Act → World → Prop} {Q : Exit → Act → World → Prop} {w : World} {base d : Nat} {v : Value} {xs : List R} (hown : w.ownsRow base 87 4 v xs.length (flat xs)) (g off m c : Nat) (ms : List R) (hm : ms.length = m) (hr : RM w (some ⟨g, off, none⟩) ms) (hlen : xs.length + ms.length ≤ 4194304) (hbase : base ≤ w.heap.size)
    (s x : Operand) (ho : o.op = .call { callee := .builtin .append, args := #[s, x], argTypes := #[88, 88] }) (hd : o.dst = some d) (hs : a.eval s = v) (hx : a.eval x = .slice (some ⟨g, off, none⟩) m c)
    (h : ∀ v' w', w'.ownsRow base 87 4 v' (xs ++ ms).length (flat (xs ++ ms)) → w.grownBy w' v.ownBlock → K (a.put (some d) v') w') : o.wp Tryz.prog a w K Q := by
  subst hm
  obtain ⟨i0, hi, hz0, hz1, hz2⟩ := infoR
  refine wp_append_own w s x _ ho base 87 i0 _ 4 32 Tryz.underlying88 hi hz0 hz1 hz2 rfl (by decide) v xs.length (flat xs) hs hown ⟨g, off, none⟩ ms.length c (flat ms) hx (flat_len ms) hr.cells (fun u hu => flat_one_cell hu) (by unfold maxLen; omega) (by omega) hbase (fun v' w' h1 h2 _ => ?_)
  rw [hd]
  refine h v' w' ?_ h2
  rw [List.length_append, flat_append]; exact h1
theorem rm_new (w : World) (m : R) : RM (w.alloc (.cells #[.int .i64 m.ds, .int .i64 m.nx, .int .i64 m.co, .int .i64 m.hp] 87)) (some ⟨w.heap.size, 0, none⟩) [m] := by
  refine .inr ⟨_, _, rfl, fun i hi => ?_⟩
  obtain rfl : i = 0 := by simp at hi; omega
  refine ⟨?_, ?_, ?_, ?_⟩ <;> simp [World.cell?_alloc_new]
theorem own_empty (w : World) (base : Nat) (hb : base ≤ w.heap.size) : (w.alloc (.cells #[] 87)).ownsRow base 87 4 (.slice (some ⟨w.heap.size, 0, none⟩) 0 0) ([] : List R).length (flat []) := World.ownsRow_made w #[] 0 hb (Nat.zero_le _) (by simp)
theorem own_nil (w : World) (base : Nat) : w.ownsRow base 87 4 (.slice none 0 0) ([] : List R).length (flat []) := World.ownsRow_nil w base _ _
theorem below_own {B : Nat} {w0 w w' : World} {base : Nat} {v : Value} {n : Nat} {xs : List Value} (h : Below B w0 w) (ho : w.ownsRow base 87 4 v n xs) (hg : w.grownBy w' v.ownBlock) (hb : B ≤ base) (hB : B ≤ w.heap.size) : Below B w0 w' :=
  h.grown hg hB (fun k hk => Nat.le_trans hb (ho.lt k hk).1)



/-- The marks from K on. -/
def markR (K : Int) : R := ⟨K, K + 1, K + 1 + 1, K + 1 + 1 + 1⟩
def marks (K : Int) (n : Nat) : List R := (List.range n).map fun t : Nat => markR (K + 4 * (t : Int))
end Ro
end Go.Proofs.YtfooahhdikobeaaGreat
namespace Go.Proofs.YtfooahhdikobeaaGreat
set_option linter.unusedVariables false
set_option linter.unusedSimpArgs false
namespace Wd
open Ro
/-- One way comes ahead of another: it costs less, or as much with fewer hops, or with as many by a lower first hop. -/
def Bt (x y : R) : Prop := x.co < y.co ∨ x.co = y.co ∧ (x.hp < y.hp ∨ x.hp = y.hp ∧ x.nx < y.nx)
def btB (x y : R) : Bool := decide (x.co < y.co) || (x.co == y.co) && (decide (x.hp < y.hp) || (x.hp == y.hp) && decide (x.nx < y.nx))
theorem btB_iff {x y : R} : btB x y = true ↔ Bt x y := by unfold btB Bt; simp
theorem btB_no {x y : R} : btB x y = false ↔ ¬ Bt x y := by rw [← btB_iff]; simp
theorem no_self (x : R) : ¬ Bt x x := by unfold Bt; omega
theorem no_trans {x y z : R} (h1 : ¬ Bt y x) (h2 : ¬ Bt z y) : ¬ Bt z x := by unfold Bt at *; omega
theorem bt_no {x y : R} (h : Bt x y) : ¬ Bt y x := by unfold Bt at *; omega
theorem no_both {x y : R} (hd : x.ds = y.ds) (h1 : ¬ Bt y x) (h2 : ¬ Bt x y) : x = y := by
  obtain ⟨a, b, c, d⟩ := x
  obtain ⟨a', b', c', d'⟩ := y
  unfold Bt at h1 h2
  dsimp only at hd h1 h2
  obtain ⟨h3, h4, h5⟩ : b = b' ∧ c = c' ∧ d = d' := by omega
  rw [hd, h3, h4, h5]
/-- A way with one edge more. -/
def ext (x : R) (v c : Int) : R := ⟨v, if x.hp = 0 then v else x.nx, x.co + c, x.hp + 1⟩
/-- There is an edge. -/
def Ed (g : List Tu.R) (u v c : Int) : Prop := ∃ m ∈ g, Tw.hv m = u ∧ Tw.ha m = v ∧ m.val = c
/-- The best ways of a graph from one address: to itself, each with one before it, and no edge makes a better one. -/
structure Good (g : List Tu.R) (f : Int) (L : Int → Option R) : Prop where
  own : L f = some ⟨f, 0, 0, 0⟩
  too : ∀ v x, L v = some x → x.ds = v ∧ 0 ≤ x.co ∧ 0 ≤ x.hp
  from' : ∀ v x, L v = some x → v ≠ f → ∃ u y c, L u = some y ∧ Ed g u v c ∧ x = ext y v c
  least : ∀ u y v c, L u = some y → Ed g u v c → ∃ x, L v = some x ∧ ¬ Bt (ext y v c) x
def Pos (g : List Tu.R) : Prop := ∀ m ∈ g, 1 ≤ m.val
theorem ed_pos {g : List Tu.R} (h : Pos g) {u v c : Int} (he : Ed g u v c) : 1 ≤ c := by obtain ⟨m, hm, _, _, rfl⟩ := he; exact h m hm
theorem hp_one {g : List Tu.R} {f : Int} {L : Int → Option R} (hg : Good g f L) {v : Int} {x : R} (h : L v = some x) (hv : v ≠ f) : 1 ≤ x.hp := by
  obtain ⟨u, y, c, hu, _, rfl⟩ := hg.from' v x h hv
  have := (hg.too u y hu).2.2
  unfold ext; dsimp only; omega
theorem best_le {g : List Tu.R} (hp : Pos g) {f : Int} {L L' : Int → Option R} (h : Good g f L) (h' : Good g f L') :
    ∀ n : Nat, ∀ v x, L v = some x → x.co < n → ∃ x', L' v = some x' ∧ ¬ Bt x x' := by
  intro n
  induction n with
  | zero => intro v x hx hn; have := (h.too v x hx).2.1; omega
  | succ n ih =>
    intro v x hx hn
    by_cases hv : v = f
    · subst hv
      rw [h.own] at hx
      cases hx
      exact ⟨_, h'.own, no_self _⟩
    · obtain ⟨u, y, c, hu, he, rfl⟩ := h.from' v x hx hv
      have hc := ed_pos hp he
      obtain ⟨y', hy', hb⟩ := ih u y hu (by unfold ext at hn; dsimp only at hn; omega)
      obtain ⟨x', hx', hb'⟩ := h'.least u y' v c hy' he
      refine ⟨x', hx', ?_⟩
      by_cases hf : u = f
      · subst hf
        rw [h.own] at hu; rw [h'.own] at hy'
        cases hu; cases hy'; exact hb'
      · have h1 := hp_one h hu hf
        have h2 := hp_one h' hy' hf
        refine no_trans hb' ?_
        unfold ext Bt at *
        dsimp only
        rw [if_neg (by omega), if_neg (by omega)]
        omega
theorem best_one {g : List Tu.R} (hp : Pos g) {f : Int} {L L' : Int → Option R} (h : Good g f L) (h' : Good g f L') : ∀ v, L v = L' v := by
  intro v
  have key : ∀ {L L' : Int → Option R}, Good g f L → Good g f L' → ∀ x, L v = some x → L' v = some x := by
    intro L L' h h' x hx
    have := (h.too v x hx).2.1
    obtain ⟨x', hx', hb⟩ := best_le hp h h' (x.co.toNat + 1) v x hx (by omega)
    have := (h'.too v x' hx').2.1
    obtain ⟨x2, hx2, hb2⟩ := best_le hp h' h (x'.co.toNat + 1) v x' hx' (by omega)
    rw [hx] at hx2; cases hx2
    rw [hx', no_both ((h.too v x hx).1.trans (h'.too v x' hx').1.symm) hb2 hb]
  cases e : L v with
  | none =>
    cases e' : L' v with
    | none => rfl
    | some x => rw [key h' h x e'] at e; cases e
  | some x => exact (key h h' x e).symm
/-! Heaps. -/
def at' (hs : List R) (i : Nat) : R := hs.getD i R.zero
def swp (hs : List R) (i j : Nat) : List R := (hs.set i (at' hs j)).set j (at' hs i)
theorem swp_len (hs : List R) (i j : Nat) : (swp hs i j).length = hs.length := by unfold swp; simp
theorem swp_at (hs : List R) {i j : Nat} (hi : i < hs.length) (hj : j < hs.length) (k : Nat) : at' (swp hs i j) k = if k = j then at' hs i else if k = i then at' hs j else at' hs k := by
  unfold swp at'
  simp only [List.getD_eq_getElem?_getD, List.getElem?_set, List.length_set]
  by_cases h1 : k = j
  · subst h1; simp [hj]
  · rw [if_neg (by omega), if_neg h1]
    by_cases h2 : k = i
    · subst h2; simp [hi]
    · rw [if_neg (by omega), if_neg h2]
theorem at_mem {hs : List R} {i : Nat} (h : i < hs.length) : at' hs i ∈ hs := by
  unfold at'; rw [List.getD_eq_getElem?_getD, List.getElem?_eq_getElem h]; exact List.getElem_mem h
theorem mem_at {hs : List R} {x : R} (h : x ∈ hs) : ∃ i, i < hs.length ∧ at' hs i = x := by
  obtain ⟨i, hi, rfl⟩ := List.getElem_of_mem h
  exact ⟨i, hi, by unfold at'; rw [List.getD_eq_getElem?_getD, List.getElem?_eq_getElem hi]; rfl⟩
theorem swp_mem {hs : List R} {i j : Nat} (hi : i < hs.length) (hj : j < hs.length) (x : R) : x ∈ swp hs i j ↔ x ∈ hs := by
  constructor
  · intro h
    obtain ⟨k, hk, rfl⟩ := mem_at h
    rw [swp_at hs hi hj]
    rw [swp_len] at hk
    split
    · exact at_mem hi
    · split
      · exact at_mem hj
      · exact at_mem hk
  · intro h
    obtain ⟨k, hk, rfl⟩ := mem_at h
    by_cases h1 : k = i
    · subst h1
      have := at_mem (hs := swp hs k j) (i := j) (by rw [swp_len]; exact hj)
      rw [swp_at hs hi hj, if_pos rfl] at this; exact this
    · by_cases h2 : k = j
      · subst h2
        have := at_mem (hs := swp hs i k) (i := i) (by rw [swp_len]; exact hi)
        rw [swp_at hs hi hj, if_neg (by omega), if_pos rfl] at this; exact this
      · have := at_mem (hs := swp hs i j) (i := k) (by rw [swp_len]; exact hk)
        rw [swp_at hs hi hj, if_neg h2, if_neg h1] at this; exact this
def Heap (hs : List R) : Prop := ∀ i, 0 < i → i < hs.length → ¬ Bt (at' hs i) (at' hs ((i - 1) / 2))
/-- A heap but for one at a place that may have to rise, that may have to sink. -/
def UpI (hs : List R) (i : Nat) : Prop := (∀ j, 0 < j → j < hs.length → j ≠ i → ¬ Bt (at' hs j) (at' hs ((j - 1) / 2))) ∧ (∀ j, 0 < j → j < hs.length → (j - 1) / 2 = i → 0 < i → ¬ Bt (at' hs j) (at' hs ((i - 1) / 2)))
def DnI (hs : List R) (i : Nat) : Prop := (∀ j, 0 < j → j < hs.length → (j - 1) / 2 ≠ i → ¬ Bt (at' hs j) (at' hs ((j - 1) / 2))) ∧ (∀ j, 0 < j → j < hs.length → (j - 1) / 2 = i → 0 < i → ¬ Bt (at' hs j) (at' hs ((i - 1) / 2)))
theorem at_snoc_lt {hs : List R} (x : R) {i : Nat} (h : i < hs.length) : at' (hs ++ [x]) i = at' hs i := by
  unfold at'; rw [List.getD_eq_getElem?_getD, List.getD_eq_getElem?_getD, List.getElem?_append_left h]
theorem up_start {hs : List R} (h : Heap hs) (x : R) : UpI (hs ++ [x]) hs.length := by
  refine ⟨fun j h0 hj hne => ?_, fun j h0 hj he hi => ?_⟩
  · rw [List.length_append, List.length_singleton] at hj
    rw [at_snoc_lt x (by omega), at_snoc_lt x (by omega)]
    exact h j h0 (by omega)
  · rw [List.length_append, List.length_singleton] at hj; omega
theorem up_done {hs : List R} {i : Nat} (h : UpI hs i) (he : i = 0 ∨ ¬ Bt (at' hs i) (at' hs ((i - 1) / 2))) : Heap hs := by
  intro j h0 hj
  by_cases e : j = i
  · subst e
    rcases he with he | he
    · omega
    · exact he
  · exact h.1 j h0 hj e
theorem up_step {hs : List R} {i : Nat} (h : UpI hs i) (h0 : 0 < i) (hi : i < hs.length) (hb : Bt (at' hs i) (at' hs ((i - 1) / 2))) : UpI (swp hs i ((i - 1) / 2)) ((i - 1) / 2) := by
  obtain ⟨p, hp⟩ : ∃ p, p = (i - 1) / 2 := ⟨_, rfl⟩
  rw [← hp] at hb ⊢
  have hpl : p < hs.length := by omega
  refine ⟨fun j h1 hj hne => ?_, fun j h1 hj he h2 => ?_⟩
  · rw [swp_len] at hj
    rw [swp_at hs hi hpl, swp_at hs hi hpl, if_neg hne]
    by_cases e1 : j = i
    · subst e1
      rw [if_pos rfl, ← hp, if_pos rfl]
      exact bt_no hb
    · rw [if_neg e1]
      by_cases e2 : (j - 1) / 2 = p
      · rw [if_pos e2]
        have := h.1 j h1 hj e1
        rw [e2] at this
        exact no_trans (bt_no hb) this
      · rw [if_neg e2]
        by_cases e3 : (j - 1) / 2 = i
        · rw [if_pos e3]
          have := h.2 j h1 hj e3 h0
          rw [← hp] at this; exact this
        · rw [if_neg e3]; exact h.1 j h1 hj e1
  · rw [swp_len] at hj
    rw [swp_at hs hi hpl, swp_at hs hi hpl, if_neg (by omega : ¬ j = p), if_neg (by omega : ¬ (p - 1) / 2 = p), if_neg (by omega : ¬ (p - 1) / 2 = i)]
    have hpp := h.1 p h2 hpl (by omega)
    by_cases e1 : j = i
    · rw [if_pos e1]; exact hpp
    · rw [if_neg e1]
      have := h.1 j h1 hj e1
      rw [he] at this
      exact no_trans hpp this
theorem heap_top {hs : List R} (h : Heap hs) : ∀ n i, i ≤ n → i < hs.length → ¬ Bt (at' hs i) (at' hs 0) := by
  intro n
  induction n with
  | zero => intro i h0 hi; obtain rfl : i = 0 := by omega
            exact no_self _
  | succ n ih =>
    intro i h0 hi
    by_cases e : i = 0
    · subst e; exact no_self _
    · exact no_trans (ih ((i - 1) / 2) (by omega) (by omega)) (h i (by omega) hi)
theorem heap_min {hs : List R} (h : Heap hs) {x : R} (hx : x ∈ hs) : ¬ Bt x (at' hs 0) := by
  obtain ⟨i, hi, rfl⟩ := mem_at hx
  exact heap_top h i i (Nat.le_refl _) hi
/-- A heap's first and last one change places, and the last goes. -/
def cutL (hs : List R) : List R := (swp hs 0 (hs.length - 1)).take (hs.length - 1)
theorem cut_len {hs : List R} : (cutL hs).length = hs.length - 1 := by unfold cutL; rw [List.length_take, swp_len]; omega
theorem cut_at {hs : List R} {k : Nat} (hk : k < hs.length - 1) : at' (cutL hs) k = if k = 0 then at' hs (hs.length - 1) else at' hs k := by
  have : at' (cutL hs) k = at' (swp hs 0 (hs.length - 1)) k := by
    unfold cutL at'; rw [List.getD_eq_getElem?_getD, List.getD_eq_getElem?_getD, List.getElem?_take, if_pos hk]
  rw [this, swp_at hs (by omega) (by omega), if_neg (by omega)]
theorem cut_dn {hs : List R} (h : Heap hs) : DnI (cutL hs) 0 := by
  refine ⟨fun j h0 hj hne => ?_, fun j h0 hj he hi => by omega⟩
  rw [cut_len] at hj
  rw [cut_at hj, cut_at (by omega), if_neg (by omega), if_neg hne]
  exact h j h0 (by omega)
theorem cut_mem {hs : List R} {x : R} (h : x ∈ cutL hs) : x ∈ hs := by
  obtain ⟨k, hk, rfl⟩ := mem_at h
  rw [cut_len] at hk
  rw [cut_at hk]
  split
  · exact at_mem (by omega)
  · exact at_mem (by omega)
theorem mem_cut {hs : List R} {x : R} (h : x ∈ hs) : x = at' hs 0 ∨ x ∈ cutL hs := by
  obtain ⟨k, hk, rfl⟩ := mem_at h
  by_cases h0 : k = 0
  · subst h0; exact .inl rfl
  · right
    by_cases e : k = hs.length - 1
    · subst e
      have := at_mem (hs := cutL hs) (i := 0) (by rw [cut_len]; omega)
      rw [cut_at (by omega), if_pos rfl] at this; exact this
    · have := at_mem (hs := cutL hs) (i := k) (by rw [cut_len]; omega)
      rw [cut_at (by omega), if_neg h0] at this; exact this
/-- The first of one and of those below it. -/
def fst1 (hs : List R) (i b : Nat) (f : Nat) : Nat := if b < hs.length ∧ btB (at' hs b) (at' hs f) = true then b else f
def fstOf (hs : List R) (i : Nat) : Nat := fst1 hs i (2 * i + 2) (fst1 hs i (2 * i + 1) i)
theorem fst_cases (hs : List R) {i : Nat} (hi : i < hs.length) :
    (fstOf hs i = i ∨ (fstOf hs i = 2 * i + 1 ∨ fstOf hs i = 2 * i + 2) ∧ fstOf hs i < hs.length ∧ Bt (at' hs (fstOf hs i)) (at' hs i)) ∧ (∀ j, 0 < j → j < hs.length → (j - 1) / 2 = i → ¬ Bt (at' hs j) (at' hs (fstOf hs i))) := by
  have hj : ∀ j, 0 < j → (j - 1) / 2 = i → j = 2 * i + 1 ∨ j = 2 * i + 2 := fun j h0 h => by omega
  unfold fstOf fst1
  by_cases h1 : 2 * i + 1 < hs.length ∧ btB (at' hs (2 * i + 1)) (at' hs i) = true
  · rw [if_pos h1]
    have b1 := btB_iff.1 h1.2
    by_cases h2 : 2 * i + 2 < hs.length ∧ btB (at' hs (2 * i + 2)) (at' hs (2 * i + 1)) = true
    · rw [if_pos h2]
      have b2 := btB_iff.1 h2.2
      refine ⟨.inr ⟨.inr rfl, h2.1, by unfold Bt at *; omega⟩, fun j h0 hl hp => ?_⟩
      rcases hj j h0 hp with rfl | rfl
      · exact bt_no b2
      · exact no_self _
    · rw [if_neg h2]
      refine ⟨.inr ⟨.inl rfl, h1.1, b1⟩, fun j h0 hl hp => ?_⟩
      rcases hj j h0 hp with rfl | rfl
      · exact no_self _
      · intro hb; exact h2 ⟨hl, btB_iff.2 hb⟩
  · rw [if_neg h1]
    by_cases h2 : 2 * i + 2 < hs.length ∧ btB (at' hs (2 * i + 2)) (at' hs i) = true
    · rw [if_pos h2]
      have b2 := btB_iff.1 h2.2
      refine ⟨.inr ⟨.inr rfl, h2.1, b2⟩, fun j h0 hl hp => ?_⟩
      rcases hj j h0 hp with rfl | rfl
      · have : ¬ Bt (at' hs (2 * i + 1)) (at' hs i) := fun hb => h1 ⟨hl, btB_iff.2 hb⟩
        exact no_trans (bt_no b2) this
      · exact no_self _
    · rw [if_neg h2]
      refine ⟨.inl rfl, fun j h0 hl hp => ?_⟩
      rcases hj j h0 hp with rfl | rfl
      · exact fun hb => h1 ⟨hl, btB_iff.2 hb⟩
      · exact fun hb => h2 ⟨hl, btB_iff.2 hb⟩
theorem dn_done {hs : List R} {i : Nat} (h : DnI hs i) (hi : i < hs.length) (he : fstOf hs i = i) : Heap hs := by
  intro j h0 hj
  by_cases e : (j - 1) / 2 = i
  · have := (fst_cases hs hi).2 j h0 hj e
    rw [he] at this; rw [e]; exact this
  · exact h.1 j h0 hj e
theorem dn_step {hs : List R} {i k : Nat} (h : DnI hs i) (hi : i < hs.length) (hk : fstOf hs i = k) (hne : k ≠ i) : i < k ∧ k < hs.length ∧ DnI (swp hs i k) k := by
  obtain ⟨h1, h2⟩ := fst_cases hs hi
  rw [hk] at h1 h2
  rcases h1 with h1 | ⟨h1, h3, h4⟩
  · exact absurd h1 hne
  have hik : i < k := by omega
  have hpk : (k - 1) / 2 = i := by omega
  refine ⟨hik, h3, fun j h0 hj hp => ?_, fun j h0 hj hp hi0 => ?_⟩
  · rw [swp_len] at hj
    rw [swp_at hs hi h3, swp_at hs hi h3]
    by_cases e1 : j = k
    · subst e1
      rw [if_pos rfl, hpk, if_neg (by omega : ¬ i = j), if_pos rfl]
      exact bt_no h4
    · rw [if_neg e1]
      by_cases e2 : j = i
      · subst e2
        rw [if_pos rfl, if_neg (by omega : ¬ (j - 1) / 2 = k), if_neg (by omega : ¬ (j - 1) / 2 = j)]
        exact h.2 k (by omega) h3 hpk (by omega)
      · rw [if_neg e2]
        by_cases e3 : (j - 1) / 2 = i
        · rw [if_neg (by omega : ¬ (j - 1) / 2 = k), if_pos e3]
          exact h2 j h0 hj e3
        · rw [if_neg hp, if_neg e3]
          exact h.1 j h0 hj e3
  · rw [swp_len] at hj
    rw [swp_at hs hi h3, swp_at hs hi h3, hpk, if_neg (by omega : ¬ j = k), if_neg (by omega : ¬ j = i), if_neg (by omega : ¬ i = k), if_pos rfl]
    have := h.1 j h0 hj (by omega)
    rw [hp] at this; exact this
end Wd
namespace Wd
open Ro
def zl (f : Int) : R := ⟨f, 0, 0, 0⟩
/-- Whose best way is known (W), and what ways lie open (H). -/
structure Inv (g : List Tu.R) (f : Int) (W : Int → Option R) (H : R → Prop) : Prop where
  st : W f = some (zl f) ∨ (∀ v, W v = none) ∧ (∀ x, H x → x = zl f) ∧ H (zl f)
  too : ∀ v x, W v = some x → x.ds = v ∧ 0 ≤ x.co ∧ 0 ≤ x.hp
  fr : ∀ v x, W v = some x → v ≠ f → ∃ u y c, W u = some y ∧ Ed g u v c ∧ x = ext y v c
  hp : ∀ x, H x → x = zl f ∨ ∃ u y c, W u = some y ∧ Ed g u x.ds c ∧ x = ext y x.ds c
  ge : ∀ x, H x → ∀ v y, W v = some y → ¬ Bt x y
  le : ∀ u y v c, W u = some y → Ed g u v c → (∃ x, H x ∧ x.ds = v ∧ ¬ Bt (ext y v c) x) ∨ (∃ x, W v = some x ∧ ¬ Bt (ext y v c) x)
def upW (W : Int → Option R) (x : R) : Int → Option R := fun v => if v = x.ds then some x else W v
theorem ext_no {x : R} {v c : Int} (h : 1 ≤ c) : ¬ Bt (ext x v c) x := by unfold ext Bt; dsimp only; omega
theorem inv_start (g : List Tu.R) (f : Int) : Inv g f (fun _ => none) (fun x => x = zl f) :=
  ⟨.inr ⟨fun _ => rfl, fun _ h => h, rfl⟩, fun _ _ h => (by cases h), fun _ _ h => (by cases h), fun _ h => .inl h, fun _ _ _ _ h => (by cases h), fun _ _ _ _ h => (by cases h)⟩
theorem inv_ge0 {g : List Tu.R} (hp : Pos g) {f : Int} {W : Int → Option R} {H : R → Prop} (h : Inv g f W H) {x : R} (hx : H x) : 0 ≤ x.co ∧ 0 ≤ x.hp := by
  rcases h.hp x hx with rfl | ⟨u, y, c, hu, he, e⟩
  · exact ⟨Int.le_refl _, Int.le_refl _⟩
  · have := (h.too u y hu).2; have := ed_pos hp he
    rw [e]; unfold ext; dsimp only; omega
theorem inv_skip {g : List Tu.R} {f : Int} {W : Int → Option R} {H H' : R → Prop} (h : Inv g f W H) {b z : R} (hb : H b) (hz : W b.ds = some z)
    (h1 : ∀ x, H x → x = b ∨ H' x) (h2 : ∀ x, H' x → H x) : Inv g f W H' := by
  refine ⟨?_, h.too, h.fr, fun x hx => h.hp x (h2 x hx), fun x hx => h.ge x (h2 x hx), ?_⟩
  · rcases h.st with e | ⟨e, _, _⟩
    · exact .inl e
    · rw [e b.ds] at hz; cases hz
  · intro u y v c hu he
    rcases h.le u y v c hu he with ⟨x, hx, hd, hn⟩ | hr
    · rcases h1 x hx with rfl | hx'
      · exact .inr ⟨z, by rw [← hd]; exact hz, no_trans (h.ge x hx _ _ hz) hn⟩
      · exact .inl ⟨x, hx', hd, hn⟩
    · exact .inr hr
theorem inv_new {g : List Tu.R} (hp : Pos g) {f : Int} {W : Int → Option R} {H H' : R → Prop} (h : Inv g f W H) {b : R} (hb : H b) (hz : W b.ds = none)
    (hmin : ∀ x, H x → ¬ Bt x b)
    (h2 : ∀ x, H' x → H x ∨ ∃ c, Ed g b.ds x.ds c ∧ x = ext b x.ds c)
    (h1 : ∀ x, H x → x = b ∨ x.ds = b.ds ∨ ∃ x', H' x' ∧ x'.ds = x.ds ∧ ¬ Bt x x')
    (h3 : ∀ v c, Ed g b.ds v c → (∃ x, H' x ∧ x.ds = v ∧ ¬ Bt (ext b v c) x) ∨ (∃ y, upW W b v = some y)) : Inv g f (upW W b) H' := by
  have hge := inv_ge0 hp h hb
  have hbp : (b = zl f ∧ ∀ v, W v = none) ∨ (b.ds ≠ f ∧ W f = some (zl f) ∧ ∃ u y c, W u = some y ∧ Ed g u b.ds c ∧ b = ext y b.ds c) := by
    rcases h.st with e | ⟨e, e2, _⟩
    · have hne : b.ds ≠ f := fun hh => by rw [hh, e] at hz; cases hz
      rcases h.hp b hb with e3 | e3
      · rw [e3] at hne; exact absurd rfl hne
      · exact .inr ⟨hne, e, e3⟩
    · exact .inl ⟨e2 b hb, e⟩
  have keep : ∀ {v x}, W v = some x → upW W b v = some x := fun {v x} hv => by
    unfold upW; rw [if_neg (fun e => by rw [e, hz] at hv; cases hv)]; exact hv
  have self : upW W b b.ds = some b := by unfold upW; rw [if_pos rfl]
  have split : ∀ {v x}, upW W b v = some x → (v = b.ds ∧ x = b) ∨ W v = some x := fun {v x} hv => by
    unfold upW at hv; split at hv
    · cases hv; exact .inl ⟨by assumption, rfl⟩
    · exact .inr hv
  have geb : ∀ v y, upW W b v = some y → ¬ Bt b y := fun v y hv => by
    rcases split hv with ⟨_, rfl⟩ | hv
    · exact no_self _
    · exact h.ge b hb v y hv
  refine ⟨?_, ?_, ?_, ?_, ?_, ?_⟩
  · left
    rcases hbp with ⟨e, _⟩ | ⟨_, e, _⟩
    · have : b.ds = f := by rw [e]; rfl
      unfold upW; rw [if_pos this.symm, e]
    · exact keep e
  · intro v x hv
    rcases split hv with ⟨rfl, rfl⟩ | hv
    · exact ⟨rfl, hge⟩
    · exact h.too v x hv
  · intro v x hv hvf
    rcases split hv with ⟨rfl, rfl⟩ | hv
    · rcases hbp with ⟨e, _⟩ | ⟨_, _, u, y, c, hu, he, e⟩
      · exact absurd (by rw [e]; rfl) hvf
      · exact ⟨u, y, c, keep hu, he, e⟩
    · obtain ⟨u, y, c, hu, he, e⟩ := h.fr v x hv hvf
      exact ⟨u, y, c, keep hu, he, e⟩
  · intro x hx
    rcases h2 x hx with hx | ⟨c, he, e⟩
    · rcases h.hp x hx with e | ⟨u, y, c, hu, he, e⟩
      · exact .inl e
      · exact .inr ⟨u, y, c, keep hu, he, e⟩
    · exact .inr ⟨b.ds, b, c, self, he, e⟩
  · intro x hx v y hv
    rcases h2 x hx with hx | ⟨c, he, e⟩
    · rcases split hv with ⟨_, rfl⟩ | hv
      · exact hmin x hx
      · exact h.ge x hx v y hv
    · rw [e]; exact no_trans (geb v y hv) (ext_no (ed_pos hp he))
  · intro u y v c hu he
    rcases split hu with ⟨rfl, rfl⟩ | hu
    · rcases h3 v c he with hr | ⟨z, hz'⟩
      · exact .inl hr
      · exact .inr ⟨z, hz', no_trans (geb v z hz') (ext_no (ed_pos hp he))⟩
    · rcases h.le u y v c hu he with ⟨x, hx, hd, hn⟩ | ⟨x, hv, hn⟩
      · rcases h1 x hx with rfl | e | ⟨x', hx', hd', hn'⟩
        · exact .inr ⟨x, by rw [← hd]; exact self, hn⟩
        · exact .inr ⟨b, by rw [← hd, e]; exact self, no_trans (hmin x hx) hn⟩
        · exact .inl ⟨x', hx', hd'.trans hd, no_trans hn' hn⟩
      · exact .inr ⟨x, keep hv, hn⟩
theorem inv_done {g : List Tu.R} {f : Int} {W : Int → Option R} {H : R → Prop} (h : Inv g f W H) (he : ∀ x, ¬ H x) : Good g f W := by
  refine ⟨?_, h.too, h.fr, ?_⟩
  · rcases h.st with e | ⟨_, _, e⟩
    · exact e
    · exact absurd e (he _)
  · intro u y v c hu hE
    rcases h.le u y v c hu hE with ⟨x, hx, _⟩ | hr
    · exact absurd hx (he x)
    · exact hr
/-- How many addresses are known; hops and costs are bounded by it. -/
def cntW (W : Int → Option R) : Nat := (if (W 1).isSome then 1 else 0) + (if (W 2).isSome then 1 else 0) + (if (W 3).isSome then 1 else 0) + (if (W 4).isSome then 1 else 0) + (if (W 5).isSome then 1 else 0) + (if (W 6).isSome then 1 else 0) + (if (W 7).isSome then 1 else 0) + (if (W 8).isSome then 1 else 0)
theorem cnt_le (W : Int → Option R) : cntW W ≤ 8 := by
  have h : ∀ b : Bool, (if b = true then 1 else 0) ≤ 1 := fun b => by cases b <;> simp
  unfold cntW
  have := h (W 1).isSome; have := h (W 2).isSome; have := h (W 3).isSome; have := h (W 4).isSome
  have := h (W 5).isSome; have := h (W 6).isSome; have := h (W 7).isSome; have := h (W 8).isSome
  omega
theorem cnt_none (W : Int → Option R) (h : ∀ v, W v = none) : cntW W = 0 := by unfold cntW; simp [h]
theorem up_same (W : Int → Option R) (b : R) : upW W b b.ds = some b := by unfold upW; rw [if_pos rfl]
theorem up_other {W : Int → Option R} {b : R} {v : Int} (h : v ≠ b.ds) : upW W b v = W v := by unfold upW; rw [if_neg h]
theorem cnt_up {W : Int → Option R} {b : R} (h1 : 1 ≤ b.ds) (h8 : b.ds ≤ 8) (hz : W b.ds = none) : cntW (upW W b) = cntW W + 1 := by
  have hs := up_same W b
  obtain ⟨d, hd⟩ : ∃ d, b.ds = d := ⟨_, rfl⟩
  rw [hd] at h1 h8 hz hs
  have ho : ∀ v, v ≠ d → upW W b v = W v := fun v hv => up_other (by rw [hd]; exact hv)
  have hc : d = 1 ∨ d = 2 ∨ d = 3 ∨ d = 4 ∨ d = 5 ∨ d = 6 ∨ d = 7 ∨ d = 8 := by omega
  unfold cntW
  rcases hc with rfl | rfl | rfl | rfl | rfl | rfl | rfl | rfl
  · rw [hs, hz, ho 2 (by omega), ho 3 (by omega), ho 4 (by omega), ho 5 (by omega), ho 6 (by omega), ho 7 (by omega), ho 8 (by omega)]; simp <;> omega
  · rw [hs, hz, ho 1 (by omega), ho 3 (by omega), ho 4 (by omega), ho 5 (by omega), ho 6 (by omega), ho 7 (by omega), ho 8 (by omega)]; simp <;> omega
  · rw [hs, hz, ho 1 (by omega), ho 2 (by omega), ho 4 (by omega), ho 5 (by omega), ho 6 (by omega), ho 7 (by omega), ho 8 (by omega)]; simp <;> omega
  · rw [hs, hz, ho 1 (by omega), ho 2 (by omega), ho 3 (by omega), ho 5 (by omega), ho 6 (by omega), ho 7 (by omega), ho 8 (by omega)]; simp <;> omega
  · rw [hs, hz, ho 1 (by omega), ho 2 (by omega), ho 3 (by omega), ho 4 (by omega), ho 6 (by omega), ho 7 (by omega), ho 8 (by omega)]; simp <;> omega
  · rw [hs, hz, ho 1 (by omega), ho 2 (by omega), ho 3 (by omega), ho 4 (by omega), ho 5 (by omega), ho 7 (by omega), ho 8 (by omega)]; simp <;> omega
  · rw [hs, hz, ho 1 (by omega), ho 2 (by omega), ho 3 (by omega), ho 4 (by omega), ho 5 (by omega), ho 6 (by omega), ho 8 (by omega)]; simp <;> omega
  · rw [hs, hz, ho 1 (by omega), ho 2 (by omega), ho 3 (by omega), ho 4 (by omega), ho 5 (by omega), ho 6 (by omega), ho 7 (by omega)]; simp <;> omega
/-- Bounds: a way that is known, or open, has at most as many hops as there are known ones, and ends at an address. -/
def okN (n : Nat) (x : R) : Prop := 1 ≤ x.ds ∧ x.ds ≤ 8 ∧ 0 ≤ x.nx ∧ x.nx ≤ 8 ∧ 0 ≤ x.hp ∧ x.hp ≤ n ∧ 0 ≤ x.co ∧ x.co ≤ 1073741824 * n ∧ (x.hp = 0 ∨ 1 ≤ x.nx)
theorem okN_mono {n m : Nat} (h : n ≤ m) {x : R} (hx : okN n x) : okN m x := by unfold okN at *; omega
theorem okN_ext {n : Nat} {x : R} (hx : okN n x) {v c : Int} (hv : 1 ≤ v ∧ v ≤ 8) (hc : 0 ≤ c ∧ c ≤ 1073741824) : okN (n + 1) (ext x v c) := by
  unfold okN ext at *
  dsimp only
  split <;> omega
theorem okN_zl {f : Int} (h : 1 ≤ f ∧ f ≤ 8) : okN 0 (zl f) := by unfold okN zl; dsimp only; omega
/-- The best ways. -/
noncomputable def best (g : List Tu.R) (f : Int) : Int → Option R := by
  classical
  exact if h : ∃ L, Good g f L then h.choose else fun _ => none
theorem best_is {g : List Tu.R} (hp : Pos g) {f : Int} {L : Int → Option R} (h : Good g f L) : L = best g f := by
  have hx : ∃ L, Good g f L := ⟨L, h⟩
  have e : best g f = hx.choose := by unfold best; rw [dif_pos hx]
  rw [e]
  exact funext (best_one hp h hx.choose_spec)
end Wd
end Go.Proofs.YtfooahhdikobeaaGreat
namespace Go.Proofs.YtfooahhdikobeaaGreat
open Go.ChangeShapes Go.WideShapes Go.ChangeAt Go.RowKit
set_option linter.unusedVariables false
set_option linter.unusedSimpArgs false
set_option maxRecDepth 100000
attribute [local go_sem ↓] Go.wp_at_zero Go.wp_at_succ
namespace Wd
open W1 Tu St Tw
/-- The first j values are from 1 on; whether a graph is right; the code of one and an address. -/
def posJ (g : List Tu.R) (j : Nat) : Bool := (g.take j).all (fun m => decide (1 ≤ m.val))
def graphB (g : List Tu.R) : Bool := twoB g && posJ g g.length
def codeG (g : List Tu.R) (f : Int) : Int := if 4096 < (g.length : Int) then 2 else if graphB g = true then (if inB f 1 8 = true then 0 else 4) else 1
theorem pos_zero (g : List Tu.R) : posJ g 0 = true := rfl
theorem pos_succ {g : List Tu.R} {j : Nat} (hj : j < g.length) (h : posJ g j = true) (hk : 1 ≤ (g.getD j Tu.R.zero).val) : posJ g (j + 1) = true := by
  unfold posJ at *; rw [take_one hj, List.all_append, h, Bool.true_and, List.all_cons, decide_eq_true hk]; rfl
theorem pos_no {g : List Tu.R} {j : Nat} (hj : j < g.length) (hk : (g.getD j Tu.R.zero).val < 1) : graphB g = false := by
  have : posJ g g.length = false := by
    unfold posJ; rw [List.take_length, List.all_eq_false]
    exact ⟨_, getD_mem hj, by show ¬ decide (1 ≤ (g.getD j Tu.R.zero).val) = true; rw [decide_eq_false (by omega)]; simp⟩
  unfold graphB; rw [this, Bool.and_false]
theorem graph_two {g : List Tu.R} (h : graphB g = true) : twoB g = true := by unfold graphB at h; rw [Bool.and_eq_true] at h; exact h.1
theorem graph_pos {g : List Tu.R} (h : graphB g = true) : Pos g := by
  unfold graphB at h; rw [Bool.and_eq_true] at h
  intro m hm
  have := h.2
  unfold posJ at this
  rw [List.take_length] at this
  simpa using List.all_eq_true.1 this m hm
theorem graph_of {g : List Tu.R} (h : twoB g = true) (hp : Pos g) : graphB g = true := by
  unfold graphB posJ; rw [h, List.take_length, Bool.true_and]
  exact List.all_eq_true.2 (fun m hm => decide_eq_true (hp m hm))
theorem codeG_long {g : List Tu.R} {f : Int} (h : 4096 < (g.length : Int)) : codeG g f = 2 := by unfold codeG; rw [if_pos h]
theorem codeG_bad {g : List Tu.R} {f : Int} (h : ¬ 4096 < (g.length : Int)) (hg : graphB g = false) : codeG g f = 1 := by unfold codeG; rw [if_neg h, if_neg (by rw [hg]; simp)]
theorem codeG_range {g : List Tu.R} {f : Int} (h : ¬ 4096 < (g.length : Int)) (hg : graphB g = true) (hf : inB f 1 8 = false) : codeG g f = 4 := by unfold codeG; rw [if_neg h, if_pos hg, if_neg (by rw [hf]; simp)]
theorem codeG_zero {g : List Tu.R} {f : Int} (hg : graphB g = true) (hf : inB f 1 8 = true) : codeG g f = 0 := by
  have := two_len (graph_two hg); unfold codeG; rw [if_neg (by omega), if_pos hg, if_pos hf]
theorem codeG_ok {g : List Tu.R} {f : Int} (h : codeG g f = 0) : graphB g = true ∧ 1 ≤ f ∧ f ≤ 8 := by
  unfold codeG at h
  split at h
  · omega
  · split at h
    · split at h
      · refine ⟨by assumption, ?_⟩; rename_i hf; simpa [inB] using hf
      · omega
    · omega
theorem ed_rng {g : List Tu.R} (h : twoB g = true) {u v c : Int} (he : Ed g u v c) : (1 ≤ u ∧ u ≤ 8) ∧ (1 ≤ v ∧ v ≤ 8) ∧ u ≠ v ∧ 0 ≤ c ∧ c ≤ 1073741824 := by
  obtain ⟨m, hm, rfl, rfl, rfl⟩ := he
  have hk := ok_k (two_ok h m hm)
  obtain ⟨i, hi, rfl⟩ := List.getElem_of_mem hm
  have hb := ok_bounds (setB_ok (two_set h) hi)
  rw [show g.getD i Tu.R.zero = g[i] by rw [List.getD_eq_getElem?_getD, List.getElem?_eq_getElem hi]; rfl] at hb
  exact ⟨hk.1, hk.2.1, hk.2.2, by omega⟩
set_option maxHeartbeats 4000000 in
theorem implGraphOK (a : Option Addr) (ms : List Tu.R) (cap : Nat) (w : World) (hm : ms.length ≤ 1048576) (hr : Tu.RM w a ms) :
    Calls Tryz.prog 157 #[.slice a ms.length cap] w fun e w' => e = .returned (.bool (graphB ms)) ∧ Below w.heap.size w w' := by
  have HR := hide hr
  clear hr
  cases hs : twoB ms
  · rw [show graphB ms = false by unfold graphB; rw [hs]; rfl]
    have HS := hide hs
    clear hs
    go_enter Tryz.func157, Tryz.ntmps157
    go_wp2_with fail
    refine (areHops _ ms cap _ hm (unhide HR)).mono ?_
    rintro e w1 ⟨rfl, b1⟩
    rw [unhide HS]
    have HB := hide b1
    clear b1
    go_wp2_with fail
    go_ret
    exact ⟨rfl, unhide HB⟩
  have HS := hide hs
  clear hs
  obtain ⟨G, hG⟩ : ∃ G, graphB ms = G := ⟨_, rfl⟩
  have HG := hide hG
  rw [hG]
  clear hG
  generalize hN : ms.length = n at *
  have HN := hide hN
  clear hN
  go_enter Tryz.func157, Tryz.ntmps157
  go_wp2_with fail
  rw [← unhide HN]
  refine (areHops _ ms cap _ (by have := unhide HN; omega) (unhide HR)).mono ?_
  rintro e w1 ⟨rfl, b1⟩
  rw [unhide HS]
  have HB1 := hide b1
  clear b1
  go_wp2_with fail
  rw [unhide HN]
  go_loopw [10] (fun i wr => ∃ j : Nat, j ≤ n ∧ i = .int .i64 j ∧ Hid (posJ ms j = true) ∧ Hid (Below w.heap.size w wr)) (fun i _ => n - (intOf i).toNat)
  case atStart => exact ⟨0, by omega, rfl, hide (pos_zero ms), HB1⟩
  case round =>
    obtain ⟨j, hj, rfl, hkb, hbl⟩ := hrel
    by_cases hlt : (j : Int) < (n : Int)
    · have k0 : (0 : Int) ≤ (j : Int) := by omega
      have hlen : j < ms.length := by rw [unhide HN]; omega
      obtain ⟨g, off, rfl⟩ := (unhide HR).form (by omega)
      obtain ⟨c0, c1, c2⟩ := ((unhide HR).below (unhide hbl)).at hlen
      have hbs := (unhide hbl).size
      have HY : Hid (1 ≤ (ms.getD j Tu.R.zero).val → posJ ms (j + 1) = true) := hide (fun h => pos_succ hlen (unhide hkb) h)
      have HZ : Hid ((ms.getD j Tu.R.zero).val < 1 → G = false) := hide (fun h => by rw [← unhide HG]; exact pos_no hlen h)
      generalize ms.getD j Tu.R.zero = m at *
      obtain ⟨key, til, val⟩ := m
      dsimp only at c0 c1 c2 HY HZ
      have HBA := hide ((unhide hbl).alloc hbs (.cells #[.int .i64 key, .int .i64 til, .int .i64 val] 99))
      by_cases hv : val < 1
      · have HT := hide (unhide HZ hv)
        go_wp2_with fail
        go_ret
        exact ⟨ret_bool (unhide HT).symm, unhide HBA⟩
      · have HT := hide (unhide HY (by omega))
        go_wp2_with fail
        go_roundw
        case rel => exact ⟨j + 1, by omega, by go_num, HT, HBA⟩
        case measure => simp [intOf]; omega
    · obtain rfl : j = n := by omega
      have HT : Hid (G = true) := hide (by rw [← unhide HG]; unfold graphB; rw [unhide HS, unhide HN, unhide hkb]; rfl)
      go_wp2_with fail
      go_ret
      exact ⟨ret_bool (unhide HT).symm, unhide hbl⟩
set_option maxHeartbeats 2000000 in
theorem graphCode (a : Option Addr) (ms : List Tu.R) (cap : Nat) (f : Int) (w : World) (hm : ms.length ≤ 1048576) (hr : Tu.RM w a ms) :
    Calls Tryz.prog 116 #[.slice a ms.length cap, .int .i64 f] w fun e w' => e = .returned (.int .i64 (codeG ms f)) ∧ Below w.heap.size w w' := by
  have HR := hide hr
  clear hr
  by_cases hbig : (4096 : Int) < ms.length
  · rw [codeG_long hbig]
    go_enter Tryz.func116, Tryz.ntmps116
    go_wp2_with fail
    go_ret
    exact ⟨rfl, Below.refl _ _⟩
  cases hs : graphB ms
  · rw [codeG_bad hbig hs]
    have HS := hide hs
    clear hs
    go_enter Tryz.func116, Tryz.ntmps116
    go_wp2_with fail
    refine (implGraphOK _ ms cap _ hm (unhide HR)).mono ?_
    rintro e w1 ⟨rfl, b1⟩
    rw [unhide HS]
    have HB := hide b1
    clear b1
    go_wp2_with fail
    go_ret
    exact ⟨rfl, unhide HB⟩
  cases hf : inB f 1 8
  · rw [codeG_range hbig hs hf]
    have HS := hide hs
    clear hs
    go_enter Tryz.func116, Tryz.ntmps116
    go_wp2_with fail
    refine (implGraphOK _ ms cap _ hm (unhide HR)).mono ?_
    rintro e w1 ⟨rfl, b1⟩
    rw [unhide HS]
    have HB := hide b1
    clear b1
    go_wp2_with (go_at_call 109; refine (isAddress _ _).mono ?_; rintro e w' ⟨rfl, rfl⟩)
    go_ret
    exact ⟨rfl, unhide HB⟩
  rw [codeG_zero hs hf]
  have HS := hide hs
  clear hs
  go_enter Tryz.func116, Tryz.ntmps116
  go_wp2_with fail
  refine (implGraphOK _ ms cap _ hm (unhide HR)).mono ?_
  rintro e w1 ⟨rfl, b1⟩
  rw [unhide HS]
  have HB := hide b1
  clear b1
  go_wp2_with (go_at_call 109; refine (isAddress _ _).mono ?_; rintro e w' ⟨rfl, rfl⟩)
  go_ret
  exact ⟨rfl, unhide HB⟩
end Wd
end Go.Proofs.YtfooahhdikobeaaGreat
namespace Go.Proofs.YtfooahhdikobeaaGreat
open Go.ChangeShapes Go.WideShapes Go.ChangeAt Go.RowKit
set_option linter.unusedVariables false
set_option linter.unusedSimpArgs false
set_option maxRecDepth 100000
attribute [local go_sem ↓] Go.wp_at_zero Go.wp_at_succ
namespace Nt
open W1 Tu St Tw
/-- Whether the way at a place is there in both directions; its tuple; those of the first t places. -/
def tgO (cs : List Int) (n t : Nat) : Bool := decide (0 < cs.getD t 0) && decide (0 < cs.getD (t % n * n + t / n) 0)
def tgX (cs : List Int) (n t : Nat) : Tu.R := ⟨((100 * (t / n + 1) + (t % n + 1) : Nat) : Int), 0, cs.getD t 0⟩
def tgL (cs : List Int) (n : Nat) : Nat → List Tu.R
  | 0 => []
  | t + 1 => if tgO cs n t = true then tgL cs n t ++ [tgX cs n t] else tgL cs n t
theorem tg_nums {n : Nat} (h1 : 1 ≤ n) (h6 : n ≤ 6) : (∀ i j, i < j → j < n * n → 100 * (i / n + 1) + (i % n + 1) < 100 * (j / n + 1) + (j % n + 1)) ∧ ∀ t, t < n * n → t / n < n ∧ t % n < n := by
  have hn : n = 1 ∨ n = 2 ∨ n = 3 ∨ n = 4 ∨ n = 5 ∨ n = 6 := by omega
  rcases hn with rfl | rfl | rfl | rfl | rfl | rfl <;> exact ⟨fun i j hij hj => by omega, fun t ht => by omega⟩
theorem tgL_mem {cs : List Int} {n : Nat} {m : Tu.R} : ∀ {t : Nat}, m ∈ tgL cs n t → ∃ i, i < t ∧ tgO cs n i = true ∧ m = tgX cs n i
  | 0, h => by simp [tgL] at h
  | t + 1, h => by
    unfold tgL at h
    split at h
    · rename_i ho
      rcases List.mem_append.1 h with h | h
      · obtain ⟨i, hi, h1, h2⟩ := tgL_mem h; exact ⟨i, by omega, h1, h2⟩
      · exact ⟨t, by omega, ho, by simpa using h⟩
    · obtain ⟨i, hi, h1, h2⟩ := tgL_mem h; exact ⟨i, by omega, h1, h2⟩
theorem tgL_len (cs : List Int) (n : Nat) : ∀ t, (tgL cs n t).length ≤ t
  | 0 => Nat.le_refl _
  | t + 1 => by
    have := tgL_len cs n t
    unfold tgL
    split
    · rw [List.length_append, List.length_singleton]; omega
    · omega
theorem while_all {p : Tu.R → Bool} : ∀ {L : List Tu.R}, (∀ m ∈ L, p m = true) → L.takeWhile p = L
  | [], _ => rfl
  | m :: r, h => by rw [List.takeWhile_cons, if_pos (h m (List.mem_cons_self ..)), while_all (fun x hx => h x (List.mem_cons_of_mem _ hx))]
/-- What is put behind all others stands at the end. -/
theorem put_last {L : List Tu.R} {x : Tu.R} (h : ∀ m ∈ L, m.key < x.key) (hl : L.length < 64) : place L x.key = L.length ∧ thereB L x.key = false ∧ putL L x = L ++ [x] := by
  have e : place L x.key = L.length := by
    unfold place placeP
    rw [while_all (fun m hm => by have := h m hm; unfold atKey; simp; omega)]
  have et : thereB L x.key = false := by unfold thereB; rw [e, decide_eq_false (Nat.lt_irrefl _)]; rfl
  refine ⟨e, et, ?_⟩
  unfold putL
  rw [et, e]
  have h64 : ¬ L.length = 64 := by omega
  simp [h64]
theorem tg_lt {cs : List Int} {n t : Nat} (h1 : 1 ≤ n) (h6 : n ≤ 6) (ht : t < n * n) : ∀ m ∈ tgL cs n t, m.key < (tgX cs n t).key := fun m hm => by
  obtain ⟨i, hi, _, rfl⟩ := tgL_mem hm
  have := (tg_nums h1 h6).1 i t hi ht
  show ((100 * (i / n + 1) + (i % n + 1) : Nat) : Int) < ((100 * (t / n + 1) + (t % n + 1) : Nat) : Int)
  omega
theorem tg_short {cs : List Int} {n t : Nat} (h6 : n ≤ 6) (ht : t ≤ n * n) : (tgL cs n t).length ≤ 36 := by
  have := tgL_len cs n t
  have := Nat.mul_le_mul h6 h6
  omega
theorem tg_put {cs : List Int} {n t : Nat} (h1 : 1 ≤ n) (h6 : n ≤ 6) (ht : t < n * n) : putL (tgL cs n t) (tgX cs n t) = tgL cs n t ++ [tgX cs n t] :=
  (put_last (tg_lt h1 h6 ht) (by have := tg_short (cs := cs) h6 (Nat.le_of_lt ht); omega)).2.2
theorem tg_ok {cs : List Int} {n t : Nat} (h1 : 1 ≤ n) (h6 : n ≤ 6) (hc : costB cs n = true) (ht : t < n * n) (ho : tgO cs n t = true) : okR (tgX cs n t) = true ∧ okK (tgX cs n t) = true ∧ 1 ≤ (tgX cs n t).val := by
  unfold costB at hc
  simp only [Bool.and_eq_true, beq_iff_eq] at hc
  have hk := allI_at hc.2 (i := t) (by omega)
  unfold cok at hk
  unfold tgO at ho
  simp only [Bool.and_eq_true, Bool.or_eq_true, decide_eq_true_eq, inB, beq_iff_eq, Bool.not_eq_true', decide_eq_false_iff_not] at hk ho
  obtain ⟨k1, k2⟩ := (tg_nums h1 h6).2 t ht
  have hne : ¬ t / n = t % n := by rcases hk.2 with h | h <;> omega
  have hv1 : hv (tgX cs n t) = ((t / n + 1 : Nat) : Int) := by
    show (((100 * (t / n + 1) + (t % n + 1) : Nat) : Int)).tdiv 100 = _
    rw [Int.tdiv_eq_ediv_of_nonneg (by omega)]; omega
  have ha1 : ha (tgX cs n t) = ((t % n + 1 : Nat) : Int) := by
    show (((100 * (t / n + 1) + (t % n + 1) : Nat) : Int)).tmod 100 = _
    rw [Int.tmod_eq_emod_of_nonneg (by omega)]; omega
  refine ⟨?_, ?_, ?_⟩
  · unfold okR tgX inB
    simp only [Bool.and_eq_true, decide_eq_true_eq]
    omega
  · unfold okK
    rw [hv1, ha1]
    clear hv1 ha1
    generalize t / n = q at *
    generalize t % n = r at *
    simp only [inB, Bool.and_eq_true, decide_eq_true_eq, Bool.not_eq_true', beq_eq_false_iff_ne, ne_eq]
    omega
  · show 1 ≤ cs.getD t 0
    omega
theorem tg_two {cs : List Int} {n : Nat} (h1 : 1 ≤ n) (h6 : n ≤ 6) (hc : costB cs n = true) : ∀ t, t ≤ n * n → twoB (tgL cs n t) = true
  | 0, _ => rfl
  | t + 1, ht => by
    have ih := tg_two h1 h6 hc t (by omega)
    unfold tgL
    split
    · rename_i ho
      obtain ⟨k1, k2, _⟩ := tg_ok h1 h6 hc (by omega) ho
      rw [← tg_put h1 h6 (by omega)]
      exact two_put ih k1 k2
    · exact ih
/-- The true graph is a right one. -/
theorem tg_graph {cs : List Int} {n : Nat} (h1 : 1 ≤ n) (h6 : n ≤ 6) (hc : costB cs n = true) : Wd.graphB (tgL cs n (n * n)) = true :=
  Wd.graph_of (tg_two h1 h6 hc _ (Nat.le_refl _)) (fun m hm => by
    obtain ⟨i, hi, ho, rfl⟩ := tgL_mem hm
    exact (tg_ok h1 h6 hc hi ho).2.2)
end Nt
end Go.Proofs.YtfooahhdikobeaaGreat
namespace Go.Proofs.YtfooahhdikobeaaGreat
open Go.ChangeShapes Go.WideShapes Go.ChangeAt Go.RowKit
set_option linter.unusedVariables false
set_option linter.unusedSimpArgs false
set_option maxRecDepth 100000
attribute [local go_sem ↓] Go.wp_at_zero Go.wp_at_succ
namespace Nt
open W1 Rt
theorem own_bel {w w' : World} {base e k : Nat} {v : Value} {n : Nat} {xs : List Value} (h : w.ownsRow base e k v n xs) (hb : Below w.heap.size w w') : w'.ownsRow base e k v n xs :=
  h.kept (row := none) ⟨hb.os, hb.tape, hb.output, hb.size, fun k hk _ => hb.block k hk⟩ (by rcases hv : v.ownBlock with _ | g; exact .inl rfl; exact .inr (by simp))
theorem NB.under {w w' : World} {B b : Nat} {v1 v2 v3 : Value} {t : Int} (h : NB w b v1 v2 v3 t) (hb : Below B w w') (hg : b < B) : NB w' b v1 v2 v3 t := by
  obtain ⟨h0, h1, h2, h3⟩ := h
  refine ⟨?_, ?_, ?_, ?_⟩ <;> (rw [hb.cell (p := ⟨b, _, none⟩) hg]; assumption)
theorem tg_at {n A B : Nat} (h1 : 1 ≤ n) (h6 : n ≤ 6) (hB : B < n) (hA : A < n) : (A * n + B) / n = A ∧ (A * n + B) % n = B ∧ A * n + B < n * n ∧ plc n ((A : Int) + 1) ((B : Int) + 1) = A * n + B ∧ A * n + n = (A + 1) * n := by
  have hn : n = 1 ∨ n = 2 ∨ n = 3 ∨ n = 4 ∨ n = 5 ∨ n = 6 := by omega
  unfold plc
  rcases hn with rfl | rfl | rfl | rfl | rfl | rfl <;> refine ⟨?_, ?_, ?_, ?_, ?_⟩ <;> omega
set_option maxHeartbeats 16000000 in
theorem trueGraph (a b d : Option Addr) (n l ca cb cd : Nat) (t : Int) (cs : List Int) (w : World) (h1 : 1 ≤ n) (h6 : n ≤ 6) (hC : cs.length = n * n) (hi : In.RM w b cs) :
    Calls Tryz.prog 68 #[.agg #[.slice a n ca, .slice b cs.length cb, .slice d l cd, .int .i64 t]] w fun e w' => ∃ v, e = .returned v ∧ Below w.heap.size w w' ∧ Tu.LstV w' v (tgL cs n (n * n)) w.heap.size w'.heap.size := by
  have HX0 := hide (nb_new w (.slice a n ca) (.slice b cs.length cb) (.slice d l cd) t 31)
  have b0 := bel_new w (.cells #[.slice a n ca, .slice b cs.length cb, .slice d l cd, .int .i64 t] 31)
  have HB0 := hide b0
  obtain ⟨g, off, rfl, hgl, hcc⟩ : ∃ g off, b = some ⟨g, off, none⟩ ∧ g < w.heap.size ∧ ∀ i, i < cs.length → w.cell? ⟨g, off + i, none⟩ = some (.int .i64 (cs.getD i 0)) := by
    have hp : 0 < cs.length := by rw [hC]; exact Nat.mul_pos (by omega) (by omega)
    rcases hi with e | ⟨g, off, e, hc⟩
    · rw [e] at hp; simp at hp
    · exact ⟨g, off, e, World.block_lt_of_cell? _ _ (hc 0 hp), hc⟩
  have HCC := hide hcc
  have hz0 : (w.alloc (.cells #[.slice a n ca, .slice (some ⟨g, off, none⟩) cs.length cb, .slice d l cd, .int .i64 t] 31)).heap.size = w.heap.size + 1 := by simp
  have HCO := hide (fun W x y hx hx' hy hy' h => costOf a (some ⟨g, off, none⟩) d n l ca cb cd t cs x y W h1 h6 hC hx hx' hy hy' h)
  have HAT := hide (fun A B hB hA => tg_at (n := n) (A := A) (B := B) h1 h6 hB hA)
  clear hi hcc hC
  have O0 := hide (Tu.own_nil (w.alloc (.cells #[.slice a n ca, .slice (some ⟨g, off, none⟩) cs.length cb, .slice d l cd, .int .i64 t] 31)) (w.heap.size + 1))
  go_enter Tryz.func68, Tryz.ntmps68
  go_wp2_with fail
  have HI0 : Hid (∀ i, i < cs.length → (w.alloc (.cells #[.slice a n ca, .slice (some ⟨g, off, none⟩) cs.length cb, .slice d l cd, .int .i64 t] 31)).cell? ⟨g, off + i, none⟩ = some (.int .i64 (cs.getD i 0))) := hide (fun i hi => (b0.cell (p := ⟨g, off + i, none⟩) hgl).trans (unhide HCC i hi))
  have HZ0 := hide hz0
  clear HCC b0 hz0
  generalize w.alloc (.cells #[.slice a n ca, .slice (some ⟨g, off, none⟩) cs.length cb, .slice d l cd, .int .i64 t] 31) = w0 at *
  have HRM : Hid (∀ W, Below (w.heap.size + 1) w0 W → In.RM W (some ⟨g, off, none⟩) cs) := hide (fun W hW => .inr ⟨g, off, rfl, fun i hi => (hW.cell (p := ⟨g, off + i, none⟩) (by show g < w.heap.size + 1; omega)).trans (unhide HI0 i hi)⟩)
  have HNB : Hid (∀ W, Below (w.heap.size + 1) w0 W → NB W w.heap.size (.slice a n ca) (.slice (some ⟨g, off, none⟩) cs.length cb) (.slice d l cd) t) := hide (fun W hW => (unhide HX0).under hW (Nat.lt_succ_self _))
  clear HI0 HX0 hgl
  go_loopw [3, 4] (fun v i wr => ∃ A : Nat, A ≤ n ∧ i = .int .i64 ((A : Int) + 1) ∧ Hid (wr.ownsRow (w.heap.size + 1) 99 3 v (tgL cs n (A * n)).length (Tu.flat (tgL cs n (A * n)))) ∧ Hid (Below (w.heap.size + 1) w0 wr)) (fun _ i _ => n + 1 - (intOf i).toNat)
  case atStart => exact ⟨0, by omega, by simp, by simpa [tgL] using O0, hide (Below.refl _ _)⟩
  case round =>
    obtain ⟨A, hA, rfl, how, hbl⟩ := hrel
    obtain ⟨p0, p1, p2, p3⟩ := unhide HNB wr (unhide hbl)
    by_cases hlt : (A : Int) + 1 ≤ (n : Int)
    · have hAn : A < n := by omega
      have hA0 : (0 : Int) ≤ (A : Int) := by omega
      go_wp2_with fail
      clear p0 p1 p2 p3
      rename World => wA
      go_loopw [3, 5] (fun v i wr => ∃ B : Nat, B ≤ n ∧ i = .int .i64 ((B : Int) + 1) ∧ Hid (wr.ownsRow (w.heap.size + 1) 99 3 v (tgL cs n (A * n + B)).length (Tu.flat (tgL cs n (A * n + B)))) ∧ Hid (Below (w.heap.size + 1) w0 wr)) (fun _ i _ => n + 1 - (intOf i).toNat)
      case atStart => exact ⟨0, by omega, by simp, by simpa using how, hbl⟩
      case round =>
        clear how hbl
        obtain ⟨B, hB, rfl, how, hbl⟩ := hrel
        obtain ⟨p0, p1, p2, p3⟩ := unhide HNB wr (unhide hbl)
        by_cases hltB : (B : Int) + 1 ≤ (n : Int)
        · have hBn : B < n := by omega
          have hB0 : (0 : Int) ≤ (B : Int) := by omega
          obtain ⟨e1, e2, e3, e4, e5⟩ := unhide HAT A B hBn hAn
          obtain ⟨f1, f2, f3, f4, f5⟩ := unhide HAT B A hAn hBn
          have HTO : Hid (tgO cs n (A * n + B) = (decide (0 < cs.getD (A * n + B) 0) && decide (0 < cs.getD (B * n + A) 0))) := hide (by unfold tgO; rw [e1, e2])
          have HTX : Hid (tgX cs n (A * n + B) = ⟨100 * ((A : Int) + 1) + ((B : Int) + 1), 0, cs.getD (A * n + B) 0⟩) := hide (by unfold tgX; rw [e1, e2]; simp)
          have HTL : Hid (tgL cs n (A * n + (B + 1)) = if tgO cs n (A * n + B) = true then tgL cs n (A * n + B) ++ [tgX cs n (A * n + B)] else tgL cs n (A * n + B)) := hide rfl
          have hsm := tg_short (cs := cs) h6 (Nat.le_of_lt e3)
          have E4 := hide e4
          have F4 := hide f4
          have hwz : w.heap.size + 1 ≤ wr.heap.size := by have := (unhide hbl).size; rw [unhide HZ0] at this; exact this
          clear e1 e2 e3 e4 e5 f1 f2 f3 f4 f5
          go_wp2_with fail
          refine (unhide HCO wr ((A : Int) + 1) ((B : Int) + 1) (by omega) (by omega) (by omega) (by omega) (unhide HRM wr (unhide hbl))).mono ?_
          rintro e w2 ⟨rfl, b2⟩
          rw [unhide E4]
          have HB2 := hide ((unhide hbl).trans (b2.mono hwz))
          have HW2 := hide (own_bel (unhide how) b2)
          have hw2 : w.heap.size + 1 ≤ w2.heap.size := Nat.le_trans hwz b2.size
          clear b2 p0 p1 p2 p3
          obtain ⟨p0, p1, p2, p3⟩ := unhide HNB w2 (unhide HB2)
          generalize cs.getD (A * n + B) 0 = c1 at *
          by_cases hc1 : 0 < c1
          · go_wp2_with fail
            clear p0 p1 p2 p3
            refine (unhide HCO w2 ((B : Int) + 1) ((A : Int) + 1) (by omega) (by omega) (by omega) (by omega) (unhide HRM w2 (unhide HB2))).mono ?_
            rintro e w3 ⟨rfl, b3⟩
            rw [unhide F4]
            have HB3 := hide ((unhide HB2).trans (b3.mono hw2))
            have HW3 := hide (own_bel (unhide HW2) b3)
            have hw3 : w.heap.size + 1 ≤ w3.heap.size := Nat.le_trans hw2 b3.size
            clear b3 HB2 HW2
            generalize cs.getD (B * n + A) 0 = c2 at *
            by_cases hc2 : 0 < c2
            · have HT : Hid (tgL cs n (A * n + (B + 1)) = tgL cs n (A * n + B) ++ [⟨100 * ((A : Int) + 1) + ((B : Int) + 1), 0, c1⟩]) := hide (by rw [unhide HTL, unhide HTO, unhide HTX, if_pos (by simp [hc1, hc2])])
              go_wp2_with fail
              refine (Tw.keyOfHop ((A : Int) + 1) ((B : Int) + 1) _ (by omega) (by omega) (by omega) (by omega)).mono ?_
              rintro e w4 ⟨rfl, b4⟩
              have HB4 := hide ((unhide HB3).trans (b4.mono hw3))
              have HW4 := hide (own_bel (unhide HW3) b4)
              have hw4 : w.heap.size + 1 ≤ w4.heap.size := Nat.le_trans hw3 b4.size
              clear b4 HB3 HW3
              generalize hky : 100 * ((A : Int) + 1) + ((B : Int) + 1) = ky at *
              clear hky
              go_wp2_with (at_builtin; refine Tu.wpList_apS ((unhide HW4).alloc _) w4.heap.size 0 1 1 [(⟨ky, 0, c1⟩ : Tu.R)] rfl (Tu.rm_new w4 ⟨ky, 0, c1⟩) (by simp only [List.length_cons, List.length_nil]; omega) (by simp; omega) rfl _ _ rfl rfl rfl ?_; intro v' w' ho hg; have HO : Hid (w'.ownsRow (w.heap.size + 1) 99 3 v' (tgL cs n (A * n + (B + 1))).length (Tu.flat (tgL cs n (A * n + (B + 1))))) := hide (by rw [unhide HT]; exact ho); have HB := hide (Tu.below_own ((unhide HB4).alloc hw4 _) ((unhide HW4).alloc _) hg (Nat.le_refl _) (by simp; omega)); clear ho hg)
              go_roundw
              case rel => exact ⟨B + 1, by omega, by go_num, HO, HB⟩
              case measure => simp [intOf]; omega
            · have HO : Hid (w3.ownsRow (w.heap.size + 1) 99 3 u3 (tgL cs n (A * n + (B + 1))).length (Tu.flat (tgL cs n (A * n + (B + 1))))) := hide (by rw [unhide HTL, unhide HTO, if_neg (by simp [hc2])]; exact unhide HW3)
              go_wp2_with fail
              go_roundw
              case rel => exact ⟨B + 1, by omega, by go_num, HO, HB3⟩
              case measure => simp [intOf]; omega
          · have HO : Hid (w2.ownsRow (w.heap.size + 1) 99 3 u3 (tgL cs n (A * n + (B + 1))).length (Tu.flat (tgL cs n (A * n + (B + 1))))) := hide (by rw [unhide HTL, unhide HTO, if_neg (by simp [hc1])]; exact unhide HW2)
            go_wp2_with fail
            clear p0 p1 p2 p3
            go_roundw
            case rel => exact ⟨B + 1, by omega, by go_num, HO, HB2⟩
            case measure => simp [intOf]; omega
        · obtain rfl : B = n := by omega
          have HO : Hid (wr.ownsRow (w.heap.size + 1) 99 3 u3 (tgL cs B ((A + 1) * B)).length (Tu.flat (tgL cs B ((A + 1) * B)))) := hide (by rw [Nat.succ_mul]; exact unhide how)
          go_wp2_with fail
          clear p0 p1 p2 p3
          go_roundw
          case rel => exact ⟨A + 1, by omega, by go_num, HO, hbl⟩
          case measure => simp [intOf]; omega
    · obtain rfl : A = n := by omega
      have HL := hide ((Tu.lst_own rfl (unhide how)).mono (Nat.le_succ _) (Nat.le_refl _))
      have HF := hide ((unhide HB0).trans ((unhide hbl).mono (Nat.le_succ _)))
      go_wp2_with fail
      go_ret
      exact ⟨_, rfl, unhide HF, unhide HL⟩
end Nt
end Go.Proofs.YtfooahhdikobeaaGreat
namespace Go.Proofs.YtfooahhdikobeaaGreat
open Go.ChangeShapes Go.WideShapes Go.ChangeAt Go.RowKit
set_option linter.unusedVariables false
set_option linter.unusedSimpArgs false
set_option maxRecDepth 100000
attribute [local go_sem ↓] Go.wp_at_zero Go.wp_at_succ
namespace Nt
open W1 Rt
theorem l07Key (v a : Int) (w : World) (h0 : 0 ≤ v) (h1 : v ≤ 1000000) (h2 : 0 ≤ a) (h3 : a ≤ 1000000) : Calls Tryz.prog 115 #[.int .i64 v, .int .i64 a] w fun e w' => e = .returned (.int .i64 (100 * v + a)) ∧ w' = w := by
  go_enter Tryz.func115, Tryz.ntmps115
  go_wp2
  go_ret
  exact ⟨rfl, rfl⟩
theorem tg_diag {cs : List Int} {n t : Nat} (hc : costB cs n = true) (ht : t < n * n) (he : t / n = t % n) : tgO cs n t = false := by
  unfold costB at hc
  simp only [Bool.and_eq_true, beq_iff_eq] at hc
  have hk := allI_at hc.2 (i := t) (by omega)
  unfold cok at hk
  simp only [Bool.and_eq_true, Bool.or_eq_true, beq_iff_eq, Bool.not_eq_true', decide_eq_false_iff_not] at hk
  have h0 : cs.getD t 0 = 0 := by rcases hk.2 with h | h; exact absurd he h; exact h
  unfold tgO
  rw [h0]; rfl
/-- A list with an address of its own above a bound. -/
def OG (W : World) (v : Value) (xs : List Tu.R) (lo : Nat) : Prop := ∃ g c, v = .slice (some ⟨g, 0, none⟩) xs.length c ∧ lo ≤ g ∧ g < W.heap.size ∧ Tu.Upto W g xs.length xs.length xs
theorem OG.below {W W' : World} {v : Value} {xs : List Tu.R} {lo : Nat} (h : OG W v xs lo) (hb : Below W.heap.size W W') : OG W' v xs lo := by
  obtain ⟨g, c, e, h1, h2, h3⟩ := h
  exact ⟨g, c, e, h1, Nat.lt_of_lt_of_le h2 hb.size, h3.below hb h2⟩
set_option maxHeartbeats 16000000 in
theorem l14True (a b d : Option Addr) (n l ca cb cd : Nat) (t : Int) (cs : List Int) (w : World) (h1 : 1 ≤ n) (h6 : n ≤ 6) (hC : cs.length = n * n) (hcB : costB cs n = true) (hi : In.RM w b cs) :
    Calls Tryz.prog 65 #[.agg #[.slice a n ca, .slice b cs.length cb, .slice d l cd, .int .i64 t]] w fun e w' => ∃ v, e = .returned v ∧ Below w.heap.size w w' ∧ Tu.LstV w' v (tgL cs n (n * n)) w.heap.size w'.heap.size := by
  have HX0 := hide (nb_new w (.slice a n ca) (.slice b cs.length cb) (.slice d l cd) t 31)
  have b0 := bel_new w (.cells #[.slice a n ca, .slice b cs.length cb, .slice d l cd, .int .i64 t] 31)
  have HB0 := hide b0
  obtain ⟨g, off, rfl, hgl, hcc⟩ : ∃ g off, b = some ⟨g, off, none⟩ ∧ g < w.heap.size ∧ ∀ i, i < cs.length → w.cell? ⟨g, off + i, none⟩ = some (.int .i64 (cs.getD i 0)) := by
    have hp : 0 < cs.length := by rw [hC]; exact Nat.mul_pos (by omega) (by omega)
    rcases hi with e | ⟨g, off, e, hc⟩
    · rw [e] at hp; simp at hp
    · exact ⟨g, off, e, World.block_lt_of_cell? _ _ (hc 0 hp), hc⟩
  have HCC := hide hcc
  have hz0 : (w.alloc (.cells #[.slice a n ca, .slice (some ⟨g, off, none⟩) cs.length cb, .slice d l cd, .int .i64 t] 31)).heap.size = w.heap.size + 1 := by simp
  have HCO := hide (fun W x y hx hx' hy hy' h => l13Cost a (some ⟨g, off, none⟩) d n l ca cb cd t cs x y W h1 h6 hC hx hx' hy hy' h)
  have HDI := hide (fun t ht he => tg_diag (cs := cs) (n := n) (t := t) hcB ht he)
  have HPT := hide (fun t (ht : t < n * n) => put_last (tg_lt (cs := cs) h1 h6 ht) (by have := tg_short (cs := cs) h6 (Nat.le_of_lt ht); omega))
  have HAT := hide (fun A B hB hA => tg_at (n := n) (A := A) (B := B) h1 h6 hB hA)
  clear hi hcc hC
  go_enter Tryz.func65, Tryz.ntmps65
  go_wp2_with fail
  have HI0 : Hid (∀ i, i < cs.length → (w.alloc (.cells #[.slice a n ca, .slice (some ⟨g, off, none⟩) cs.length cb, .slice d l cd, .int .i64 t] 31)).cell? ⟨g, off + i, none⟩ = some (.int .i64 (cs.getD i 0))) := hide (fun i hi => (b0.cell (p := ⟨g, off + i, none⟩) hgl).trans (unhide HCC i hi))
  have HZ0 := hide hz0
  clear HCC b0 hz0
  generalize w.alloc (.cells #[.slice a n ca, .slice (some ⟨g, off, none⟩) cs.length cb, .slice d l cd, .int .i64 t] 31) = w0 at *
  have HRM : Hid (∀ W, Below (w.heap.size + 1) w0 W → In.RM W (some ⟨g, off, none⟩) cs) := hide (fun W hW => .inr ⟨g, off, rfl, fun i hi => (hW.cell (p := ⟨g, off + i, none⟩) (by show g < w.heap.size + 1; omega)).trans (unhide HI0 i hi)⟩)
  have HNB : Hid (∀ W, Below (w.heap.size + 1) w0 W → NB W w.heap.size (.slice a n ca) (.slice (some ⟨g, off, none⟩) cs.length cb) (.slice d l cd) t) := hide (fun W hW => (unhide HX0).under hW (Nat.lt_succ_self _))
  clear HI0 HX0 hgl
  have hs0 : w0.heap.size = w.heap.size + 1 := unhide HZ0
  have B00 : Below (w.heap.size + 1) w0 (w0.alloc (.cells #[] 99)) := (Below.refl _ _).alloc (by omega) _
  have O0 : Hid (OG (w0.alloc (.cells #[] 99)) (.slice (some ⟨w.heap.size + 1, 0, none⟩) 0 0) (tgL cs n (0 * n)) (w.heap.size + 1)) := hide ⟨w.heap.size + 1, 0, by simp [tgL], by omega, by simp; omega, ⟨fun i hi => by simp [tgL] at hi, fun i hi => by simp [tgL] at hi⟩⟩
  have HB00 := hide B00
  clear hs0 B00
  go_wp2_with fail
  go_loopw [3, 4] (fun v i wr => ∃ A : Nat, A ≤ n ∧ i = .int .i64 ((A : Int) + 1) ∧ Hid (OG wr v (tgL cs n (A * n)) (w.heap.size + 1)) ∧ Hid (Below (w.heap.size + 1) w0 wr)) (fun _ i _ => n + 1 - (intOf i).toNat)
  case atStart => exact ⟨0, by omega, by simp, O0, HB00⟩
  case round =>
    obtain ⟨A, hA, rfl, how, hbl⟩ := hrel
    obtain ⟨p0, p1, p2, p3⟩ := unhide HNB wr (unhide hbl)
    by_cases hlt : (A : Int) + 1 ≤ (n : Int)
    · have hAn : A < n := by omega
      have hA0 : (0 : Int) ≤ (A : Int) := by omega
      go_wp2_with fail
      clear p0 p1 p2 p3
      rename World => wA
      go_loopw [3, 5] (fun v i wr => ∃ B : Nat, B ≤ n ∧ i = .int .i64 ((B : Int) + 1) ∧ Hid (OG wr v (tgL cs n (A * n + B)) (w.heap.size + 1)) ∧ Hid (Below (w.heap.size + 1) w0 wr)) (fun _ i _ => n + 1 - (intOf i).toNat)
      case atStart => exact ⟨0, by omega, by simp, by simpa using how, hbl⟩
      case round =>
        clear how hbl
        obtain ⟨B, hB, rfl, how, hbl⟩ := hrel
        obtain ⟨p0, p1, p2, p3⟩ := unhide HNB wr (unhide hbl)
        by_cases hltB : (B : Int) + 1 ≤ (n : Int)
        · have hBn : B < n := by omega
          have hB0 : (0 : Int) ≤ (B : Int) := by omega
          obtain ⟨e1, e2, e3, e4, e5⟩ := unhide HAT A B hBn hAn
          obtain ⟨f1, f2, f3, f4, f5⟩ := unhide HAT B A hAn hBn
          have HTO : Hid (tgO cs n (A * n + B) = (decide (0 < cs.getD (A * n + B) 0) && decide (0 < cs.getD (B * n + A) 0))) := hide (by unfold tgO; rw [e1, e2])
          have HTX : Hid (tgX cs n (A * n + B) = ⟨100 * ((A : Int) + 1) + ((B : Int) + 1), 0, cs.getD (A * n + B) 0⟩) := hide (by unfold tgX; rw [e1, e2]; simp)
          have HTL : Hid (tgL cs n (A * n + (B + 1)) = if tgO cs n (A * n + B) = true then tgL cs n (A * n + B) ++ [tgX cs n (A * n + B)] else tgL cs n (A * n + B)) := hide rfl
          have hsm := tg_short (cs := cs) h6 (Nat.le_of_lt e3)
          have E4 := hide e4
          have F4 := hide f4
          have hwz : w.heap.size + 1 ≤ wr.heap.size := by have := (unhide hbl).size; rw [unhide HZ0] at this; exact this
          have e1' := e1
          have e2' := e2
          have e3' := e3
          clear e1 e2 e3 e4 e5 f1 f2 f3 f4 f5
          have HDD := hide (fun e => unhide HDI (A * n + B) e3' (by rw [e1', e2']; exact e))
          have HPP := hide (unhide HPT (A * n + B) e3')
          clear e1' e2' e3'
          cases hne : ((A : Int) + 1 != (B : Int) + 1)
          · have HO : Hid (OG wr u3 (tgL cs n (A * n + (B + 1))) (w.heap.size + 1)) := hide (by rw [unhide HTL, unhide HDD (by simp at hne; omega), if_neg (by simp)]; exact unhide how)
            go_wp2_with fail
            clear p0 p1 p2 p3
            go_roundw
            case rel => exact ⟨B + 1, by omega, by go_num, HO, hbl⟩
            case measure => simp [intOf]; omega
          have HCA := hide (fun W (hW : Below (w.heap.size + 1) w0 W) => unhide HCO W ((A : Int) + 1) ((B : Int) + 1) (by omega) (by omega) (by omega) (by omega) (unhide HRM W hW))
          have HCB := hide (fun W (hW : Below (w.heap.size + 1) w0 W) => unhide HCO W ((B : Int) + 1) ((A : Int) + 1) (by omega) (by omega) (by omega) (by omega) (unhide HRM W hW))
          rw [unhide E4] at HCA
          rw [unhide F4] at HCB
          generalize cs.getD (A * n + B) 0 = c1 at *
          generalize cs.getD (B * n + A) 0 = c2 at *
          go_wp2_with fail
          refine (unhide HCA wr (unhide hbl)).mono ?_
          rintro e w2 ⟨rfl, b2⟩
          have HB2 := hide ((unhide hbl).trans (b2.mono hwz))
          have HW2 := hide ((unhide how).below b2)
          have hw2 : w.heap.size + 1 ≤ w2.heap.size := Nat.le_trans hwz b2.size
          clear b2 p0 p1 p2 p3
          obtain ⟨p0, p1, p2, p3⟩ := unhide HNB w2 (unhide HB2)
          by_cases hc1 : 0 < c1
          rotate_left
          · have HO : Hid (OG w2 u3 (tgL cs n (A * n + (B + 1))) (w.heap.size + 1)) := hide (by rw [unhide HTL, unhide HTO, if_neg (by simp [hc1])]; exact unhide HW2)
            go_wp2_with fail
            clear p0 p1 p2 p3
            go_roundw
            case rel => exact ⟨B + 1, by omega, by go_num, HO, HB2⟩
            case measure => simp [intOf]; omega
          go_wp2_with fail
          clear p0 p1 p2 p3
          refine (unhide HCB w2 (unhide HB2)).mono ?_
          rintro e w3 ⟨rfl, b3⟩
          have HB3 := hide ((unhide HB2).trans (b3.mono hw2))
          have HW3 := hide ((unhide HW2).below b3)
          have hw3 : w.heap.size + 1 ≤ w3.heap.size := Nat.le_trans hw2 b3.size
          clear b3 HB2 HW2
          by_cases hc2 : 0 < c2
          rotate_left
          · have HO : Hid (OG w3 u3 (tgL cs n (A * n + (B + 1))) (w.heap.size + 1)) := hide (by rw [unhide HTL, unhide HTO, if_neg (by simp [hc2])]; exact unhide HW3)
            go_wp2_with fail
            go_roundw
            case rel => exact ⟨B + 1, by omega, by go_num, HO, HB3⟩
            case measure => simp [intOf]; omega
          have hpl := (unhide HPP).2.2
          have HT : Hid (tgL cs n (A * n + (B + 1)) = St.putL (tgL cs n (A * n + B)) ⟨100 * ((A : Int) + 1) + ((B : Int) + 1), 0, c1⟩) := hide (by rw [unhide HTL, unhide HTO, if_pos (by simp [hc1, hc2]), ← hpl, unhide HTX])
          have HPL : Hid (St.putL (tgL cs n (A * n + B)) ⟨100 * ((A : Int) + 1) + ((B : Int) + 1), 0, c1⟩ = tgL cs n (A * n + B) ++ [⟨100 * ((A : Int) + 1) + ((B : Int) + 1), 0, c1⟩]) := hide (by rw [← unhide HTX]; exact hpl)
          clear hpl HPP
          obtain ⟨gg, cc, hu3, hlo, hgg, hup⟩ := unhide HW3
          have HRO := hide (Tu.rm_of hup)
          have HHO := hide hlo
          have hlen : (tgL cs n (A * n + B)).length ≤ 64 := by omega
          clear hup hlo HW3 how
          subst hu3
          go_wp2_with fail
          refine wp_region_noPanic ?_
          refine wp_region_held_drew (S := fun w' => NB w' w.heap.size (.slice a n ca) (.slice (some ⟨g, off, none⟩) cs.length cb) (.slice d l cd) t) (by kernel_rfl) (unhide HNB w3 (unhide HB3)) (fun hHeld => ?_)
          refine Rg.t 0 39 ?_
          refine Rg.t 1 40 ?_
          refine Rg.t 2 41 ?_
          refine Rg.t (v := .agg #[.slice a n ca, .slice (some ⟨g, off, none⟩) cs.length cb, .slice d l cd, .int .i64 t]) 4 43 ?_ (hv := fun w0 hSw => execNB _ rfl rfl hSw)
          refine Rg.t 5 44 ?_
          refine Rg.t 6 45 ?_
          (refine Rg.o 3 (fun K hK => ?_); go_simp)
          refine (l07Key ((A : Int) + 1) ((B : Int) + 1) _ (by omega) (by omega) (by omega) (by omega)).mono ?_
          rintro e w4 ⟨rfl, hw4⟩
          subst w4
          refine hK.out _ _ (unhide HNB w3 (unhide HB3)) (fun hHeld => ?_)
          clear hK K
          (try simp only [Act.put, List.setIfInBounds_toArray, List.set_cons_zero, List.set_cons_succ])
          (refine Rg.o 7 (fun K hK => ?_); go_simp)
          refine (unhide HCA w3.drew (unhide HB3).drew).mono ?_
          rintro e w5 ⟨rfl, b5⟩
          have HB5 := hide ((unhide HB3).drew.trans (b5.mono (by show w.heap.size + 1 ≤ w3.heap.size; exact hw3)))
          have HR5 := hide (Tu.RM.below (w := w3.drew) (unhide HRO) b5)
          have hw5 : w.heap.size + 1 ≤ w5.heap.size := Nat.le_trans hw3 b5.size
          refine hK.out _ _ (unhide HNB w5 (unhide HB5)) (fun hHeld => ?_)
          clear hK K b5
          (try simp only [Act.put, List.setIfInBounds_toArray, List.set_cons_zero, List.set_cons_succ])
          refine Rg.t 8 47 ?_
          (refine Rg.o 9 (fun K hK => ?_); go_simp)
          refine (St.l03PutC gg 0 (tgL cs n (A * n + B)) cc (100 * ((A : Int) + 1) + ((B : Int) + 1)) 0 c1 w5 hlen (unhide HR5)).mono ?_
          rintro e w6 ⟨v, rfl, b6, lv, sh⟩
          obtain ⟨av, cv, rfl, lst⟩ := lv
          rcases lst with e0 | ⟨g6, rfl, l1, l2, l3, up⟩
          · exfalso; rw [unhide HPL] at e0; simp at e0
          have HB6 := hide ((unhide HB5).trans (b6.mono hw5))
          have HO : Hid (OG w6 (.slice (some ⟨g6, 0, none⟩) (St.putL (tgL cs n (A * n + B)) ⟨100 * ((A : Int) + 1) + ((B : Int) + 1), 0, c1⟩).length cv) (tgL cs n (A * n + (B + 1))) (w.heap.size + 1)) := hide (by rw [unhide HT]; exact ⟨g6, cv, rfl, by omega, l3, up⟩)
          clear l1 l2 l3 up b6 sh
          generalize (St.putL (tgL cs n (A * n + B)) ⟨100 * ((A : Int) + 1) + ((B : Int) + 1), 0, c1⟩).length = ln at *
          refine hK.out _ _ (unhide HNB w6 (unhide HB6)) (fun hHeld => ?_)
          clear hK K
          (try simp only [Act.put, List.setIfInBounds_toArray, List.set_cons_zero, List.set_cons_succ])
          refine Rg.t 10 38 ?_
          refine Rg.t 11 49 ?_
          refine Rg.t 12 50 ?_
          refine Rg.t 13 3 ?_
          refine wpAnyH_done (by kernel_rfl) (NoPanic.normal ?_) _
          clear hHeld
          go_wp2_with fail
          go_roundw
          case rel => exact ⟨B + 1, by omega, by go_num, HO, HB6⟩
          case measure => simp [intOf]; omega
        · obtain rfl : B = n := by omega
          have HO : Hid (OG wr u3 (tgL cs B ((A + 1) * B)) (w.heap.size + 1)) := hide (by rw [Nat.succ_mul]; exact unhide how)
          go_wp2_with fail
          clear p0 p1 p2 p3
          go_roundw
          case rel => exact ⟨A + 1, by omega, by go_num, HO, hbl⟩
          case measure => simp [intOf]; omega
    · obtain rfl : A = n := by omega
      obtain ⟨gg, cc, hv, hlo, hgg, hup⟩ := unhide how
      subst hv
      have HL : Hid (Tu.LstV wr (.slice (some ⟨gg, 0, none⟩) (tgL cs A (A * A)).length cc) (tgL cs A (A * A)) w.heap.size wr.heap.size) := hide ⟨_, _, rfl, .inr ⟨gg, rfl, by omega, hgg, hgg, hup⟩⟩
      have HF := hide ((unhide HB0).trans ((unhide hbl).mono (Nat.le_succ _)))
      go_wp2_with fail
      go_ret
      exact ⟨_, rfl, unhide HF, unhide HL⟩
end Nt
end Go.Proofs.YtfooahhdikobeaaGreat
namespace Go.Proofs.YtfooahhdikobeaaGreat
set_option linter.unusedVariables false
set_option linter.unusedSimpArgs false
namespace Tp
open W1 Tu St Tw
end Tp
end Go.Proofs.YtfooahhdikobeaaGreat
namespace Go.Proofs.YtfooahhdikobeaaGreat
open Go.ChangeShapes Go.WideShapes Go.ChangeAt Go.RowKit
set_option linter.unusedVariables false
set_option maxRecDepth 100000
set_option linter.unusedSimpArgs false
namespace Me
open W1 Tu Tw Go.Maps
/-- How an element reads. -/
def rdR (v : Value) : Option (DataW R × List MemPlace) :=
  match v with
  | .agg cs => (match cs.toList with
    | [.int .i64 a, .int .i64 b, .int .i64 c] => some (.held ⟨a, b, c⟩, [])
    | _ => none)
  | _ => none
theorem rdR_mk (m : R) : rdR m.value = some (.held m, []) := rfl
theorem rdR_inv {v : Value} {m : R} {ps : List MemPlace} (h : rdR v = some (.held m, ps)) : v = m.value := by
  unfold rdR at h
  split at h
  · rename_i cs
    split at h
    · rename_i a b c hl
      cases h
      unfold R.value
      congr 1
      exact Array.toList_inj.1 hl
    · cases h
  · cases h
/-- A key. -/
def kv (v a : Int) : Value := .agg #[.int .i64 v, .int .i64 a]
theorem kv_inj {v a x y : Int} (h : kv v a = kv x y) : v = x ∧ a = y := by unfold kv at h; simpa using h
theorem laidOut : laidOutB Tryz.prog = true := by kernel_rfl
theorem rowK : (194 : TypeId) < Tryz.prog.types.size := of_decide_eq_true (by kernel_rfl)
theorem wideK : (match Tryz.prog.underlying 194 with | some (.array _ _) | some (.struct _) => true | _ => false) = true := by kernel_rfl
theorem law : Keyed Tryz.prog 194 := Keyed.of_law (deep_law_laid laidOut (m := 2) (by omega) rowK (by kernel_rfl) wideK)
theorem keyT : Tryz.prog.keyType 194 = true := by kernel_rfl
theorem cellsK : Tryz.prog.cellsOf 194 = 2 := by kernel_rfl
theorem cellsI : Tryz.prog.cellsOf 3 = 1 := by kernel_rfl
theorem zeroE (w : World) : (zeroValue 99).run Tryz.prog w = .ok R.zero.value w := by kernel_rfl
theorem kv_key {v a : Int} (hw1 : (Lit.int .i64 v).wf = true) (hw : (Lit.int .i64 a).wf = true) : ∃ l, keyOf Tryz.prog 194 (kv v a) = some l := by
  obtain ⟨d, hd⟩ : ∃ d, Tryz.prog.types.size = d + 1 := ⟨Tryz.prog.types.size - 1, (Nat.sub_add_cancel (Nat.lt_of_le_of_lt (Nat.zero_le _) rowK)).symm⟩
  have hf : (kv v a).formed Tryz.prog 194 = true := by simp [kv, Value.formed, Tryz.underlying194, cellsK]
  unfold keyOf
  rw [Tryz.underlying194]
  simp only [keyT, hf, Bool.and_self, if_true, hd]
  simp [kv, Value.cells, Program.keyLits, Tryz.underlying194, cellsK, cellsI, Tryz.underlying3, hw1, hw, List.range_succ, List.mapM_cons]
/-- Block b is a map of at most n entries that holds just what f says. -/
def OM (w : World) (b n : Nat) (f : Int → Int → Option R) : Prop :=
  ∃ D : DataW R, w.ownsMap Tryz.prog 194 rdR b n D ∧ ∀ v a l, keyOf Tryz.prog 194 (kv v a) = some l → has D l = (f v a).isSome ∧ ∀ m, f v a = some m → ∀ z, D.atKey l z = .held m
theorem om_made (w : World) : OM (w.alloc (.map #[] 0)) w.heap.size 0 (fun _ _ => none) := ⟨_, World.ownsMap_made w _ _ _, fun v a l h => ⟨rfl, fun m hm => by cases hm⟩⟩
theorem OM.lt {w : World} {b n : Nat} {f : Int → Int → Option R} (h : OM w b n f) : b < w.heap.size := let ⟨_, h, _⟩ := h; h.lt
theorem OM.drew {w : World} {b n : Nat} {f : Int → Int → Option R} (h : OM w b n f) : OM w.drew b n f := h
theorem OM.below {w w' : World} {b n : Nat} {f : Int → Int → Option R} (h : OM w b n f) (hb : Below w.heap.size w w') : OM w' b n f := by
  obtain ⟨D, h, hf⟩ := h
  exact ⟨D, h.kept (row := none) ⟨hb.os, hb.tape, hb.output, hb.size, fun k hk _ => hb.block k hk⟩ (by simp), hf⟩
theorem OM.setCell {w : World} {b n : Nat} {f : Int → Int → Option R} (h : OM w b n f) {a : Addr} (ha : b ≠ a.block) (u : Value) : OM (w.setCell a u) b n f := by
  obtain ⟨D, h, hf⟩ := h
  exact ⟨D, h.setCell ha u, hf⟩
theorem OM.mono {w : World} {b n n' : Nat} {f : Int → Int → Option R} (h : OM w b n f) (hn : n ≤ n') : OM w b n' f := by
  obtain ⟨D, h, hf⟩ := h
  exact ⟨D, h.mono hn, hf⟩
theorem OM.size {w : World} {b n : Nat} {f : Int → Int → Option R} (h : OM w b n f) : ∃ q : Nat, q ≤ n ∧ ∀ ty, (Builtin.len_ #[205] ty #[.map (some b)]).run Tryz.prog w = .ok (.int .i64 q) w := by
  obtain ⟨D, h, _⟩ := h
  exact ⟨_, h.size_le, fun ty => h.len Tryz.underlying205 ty⟩
theorem OM.look {w : World} {b n : Nat} {f : Int → Int → Option R} (h : OM w b n f) {v a : Int} (hw1 : (Lit.int .i64 v).wf = true) (hw : (Lit.int .i64 a).wf = true) (c : Bool) :
    (Instr.lookup 205 (.map (some b)) (kv v a) c).run Tryz.prog w = .ok (if c then .tuple #[((f v a).getD R.zero).value, .bool (f v a).isSome] else ((f v a).getD R.zero).value) w := by
  obtain ⟨D, h, hf⟩ := h
  obtain ⟨l, hl⟩ := kv_key hw1 hw
  obtain ⟨hh, hv⟩ := hf v a l hl
  have key : ∀ u ps, rdR u = some (D.atKey l (.held R.zero), ps) → u = ((f v a).getD R.zero).value := by
    intro u ps hr
    cases e : f v a with
    | none => rw [e] at hh; rw [atKey_of_not_has hh] at hr; exact rdR_inv hr
    | some m => rw [hv m e] at hr; exact rdR_inv hr
  cases c
  · obtain ⟨u, ps, hrun, hr⟩ := h.lookup law Tryz.underlying205 (zeroE w) (rdR_mk R.zero) hl
    rw [hrun, key u ps hr]; rfl
  · obtain ⟨u, ps, hrun, hr⟩ := h.look_ok law Tryz.underlying205 (zeroE w) (rdR_mk R.zero) hl
    rw [hrun, key u ps hr, hh]; rfl
theorem OM.store {w : World} {b n : Nat} {f : Int → Int → Option R} (h : OM w b n f) (hn : n < maxLen) {v a : Int} (hw1 : (Lit.int .i64 v).wf = true) (hw : (Lit.int .i64 a).wf = true) (m : R) :
    ∃ w', (Instr.mapUpdate 205 (.map (some b)) (kv v a) m.value).run Tryz.prog w = .ok () w' ∧ OM w' b (n + 1) (updT f v a m) ∧ w.grownBy w' (some b) := by
  obtain ⟨D, h, hf⟩ := h
  obtain ⟨l, hl⟩ := kv_key hw1 hw
  obtain ⟨w', hrun, hown, hg⟩ := h.update law Tryz.underlying205 hn hl (rdR_mk m)
  refine ⟨w', hrun, ⟨_, hown, fun x y lx hx => ?_⟩, hg⟩
  unfold updT
  by_cases e : x = v ∧ y = a
  · obtain ⟨rfl, rfl⟩ := e
    rw [hl] at hx; cases hx
    rw [if_pos ⟨rfl, rfl⟩]
    refine ⟨has_put_same h.isMap (law.key hl) _, fun m' hm' z => ?_⟩
    cases hm'
    exact atKey_put_same h.isMap (law.key hl) _ z
  · have hne : lx ≠ l := fun el => e (kv_inj (law.inj (el ▸ hx) hl))
    rw [if_neg e]
    obtain ⟨q1, q2⟩ := hf x y lx hx
    exact ⟨by rw [has_put_other hne]; exact q1, fun m' hm' z => by rw [atKey_put_other hne]; exact q2 m' hm' z⟩
theorem OM.drop {w : World} {b n : Nat} {f : Int → Int → Option R} (h : OM w b n f) {v a : Int} (hw1 : (Lit.int .i64 v).wf = true) (hw : (Lit.int .i64 a).wf = true) (ty : TypeId) :
    ∃ w', (Builtin.delete_ #[205, 194] ty #[.map (some b), kv v a]).run Tryz.prog w = .ok (.tuple #[]) w' ∧ OM w' b n (delT f v a) ∧ w.grownBy w' (some b) := by
  obtain ⟨D, h, hf⟩ := h
  obtain ⟨l, hl⟩ := kv_key hw1 hw
  obtain ⟨w', hrun, hown, hg⟩ := h.drop law Tryz.underlying205 hl ty
  refine ⟨w', hrun, ⟨_, hown, fun x y lx hx => ?_⟩, hg.grown⟩
  unfold delT
  by_cases e : x = v ∧ y = a
  · obtain ⟨rfl, rfl⟩ := e
    rw [hl] at hx; cases hx
    rw [if_pos ⟨rfl, rfl⟩]
    exact ⟨has_del_same, fun m' hm' => by cases hm'⟩
  · have hne : lx ≠ l := fun el => e (kv_inj (law.inj (el ▸ hx) hl))
    rw [if_neg e]
    obtain ⟨q1, q2⟩ := hf x y lx hx
    exact ⟨by rw [has_del_other hne]; exact q1, fun m' hm' z => by rw [atKey_del_other hne]; exact q2 m' hm' z⟩
section
variable {ops : Array Oper} {rest : List Oper} {o : Oper} {a : Act} {Q : Exit → Act → World → Prop}
/-- 'v, ok := m[k]' at the operation. -/
theorem wpList_look (w : World) (hg : o.guard = none) (m x : Operand) (hop : o.op = Op.lookup 205 m x true) (b n : Nat) (f : Int → Int → Option R) (hm : a.eval m = .map (some b)) (h : OM w b n f) (v k : Int) (hw1 : (Lit.int .i64 v).wf = true) (hw : (Lit.int .i64 k).wf = true) (hx : a.eval x = kv v k)
    (hK : wpList Tryz.prog ops Q rest (a.put o.dst (.tuple #[((f v k).getD R.zero).value, .bool (f v k).isSome])) w) : wpList Tryz.prog ops Q (o :: rest) a w := by
  refine wpList_plain hg fun K' hK' => ?_
  have hrun := h.look hw1 hw true
  unfold Oper.wp
  simp [execOp, hop, hm, hx, hrun, Result.andThen]
  exact hK' _ _ hK
/-- .. the answer written out. -/
theorem wpList_lookA (w : World) (hg : o.guard = none) (m x : Operand) (hop : o.op = Op.lookup 205 m x true) (b n : Nat) (f : Int → Int → Option R) (hm : a.eval m = .map (some b)) (h : OM w b n f) (v k : Int) (hw1 : (Lit.int .i64 v).wf = true) (hw : (Lit.int .i64 k).wf = true) (hx : a.eval x = kv v k)
    (ke ti va : Int) (E : Bool) (hA : (f v k).getD R.zero = ⟨ke, ti, va⟩) (hE : (f v k).isSome = E)
    (hK : wpList Tryz.prog ops Q rest (a.put o.dst (.tuple #[.agg #[.int .i64 ke, .int .i64 ti, .int .i64 va], .bool E])) w) : wpList Tryz.prog ops Q (o :: rest) a w :=
  wpList_look w hg m x hop b n f hm h v k hw1 hw hx (by rw [hA, hE]; exact hK)
/-- 'm[k] = v' at the operation. -/
theorem wpList_put (w : World) (hg : o.guard = none) (m x vo : Operand) (hop : o.op = Op.mapUpdate 205 m x vo) (b n : Nat) (f : Int → Int → Option R) (hm : a.eval m = .map (some b)) (h : OM w b n f) (hn : n < maxLen) (v k : Int) (hw1 : (Lit.int .i64 v).wf = true) (hw : (Lit.int .i64 k).wf = true) (r : R) (hx : a.eval x = kv v k) (hv : a.eval vo = r.value)
    (hK : ∀ w', OM w' b (n + 1) (updT f v k r) → w.grownBy w' (some b) → wpList Tryz.prog ops Q rest (a.put o.dst undef) w') : wpList Tryz.prog ops Q (o :: rest) a w := by
  refine wpList_plain hg fun K' hK' => ?_
  obtain ⟨w', hrun, q1, q2⟩ := h.store hn hw1 hw r
  unfold Oper.wp
  simp [execOp, hop, hm, hx, hv, hrun, Result.andThen]
  exact hK' _ _ (hK w' q1 q2)
/-- The same, inside a region that draws its order. -/
theorem wp_put {K : Act → World → Prop} (w : World) (m x vo : Operand) (hop : o.op = Op.mapUpdate 205 m x vo) (hd : o.dst = none) (b n : Nat) (f : Int → Int → Option R) (hm : a.eval m = .map (some b)) (h : OM w b n f) (hn : n < maxLen) (v k : Int) (hw1 : (Lit.int .i64 v).wf = true) (hw : (Lit.int .i64 k).wf = true) (r : R) (hx : a.eval x = kv v k) (hv : a.eval vo = r.value)
    (hK : ∀ w', OM w' b (n + 1) (updT f v k r) → w.grownBy w' (some b) → K (a.put none undef) w') : o.wp Tryz.prog a w K Q := by
  obtain ⟨w', hrun, q1, q2⟩ := h.store hn hw1 hw r
  unfold Oper.wp
  simp [execOp, hop, hm, hx, hv, hrun, Result.andThen]
  show K (a.put o.dst undef) w'
  rw [hd]
  exact hK w' q1 q2
end
end Me
end Go.Proofs.YtfooahhdikobeaaGreat
namespace Go.Proofs.YtfooahhdikobeaaGreat
open Go.ChangeShapes Go.WideShapes Go.ChangeAt Go.RowKit
set_option linter.unusedVariables false
set_option linter.unusedSimpArgs false
set_option maxRecDepth 100000
attribute [local go_sem ↓] Go.wp_at_zero Go.wp_at_succ
namespace Tp
open W1 Tu St Tw Me
theorem ordE_at (f : Int → Int → Option R) {j k : Nat} (hk : k < 8) : ordT f (8 * j + (k + 1)) = ordT f (8 * j + k) ++ (f ((j : Int) + 1) ((k : Int) + 1)).toList := by
  have := ordT_succ f (8 * j + k)
  rw [show (8 * j + k) / 8 = j by omega, show (8 * j + k) % 8 = k by omega] at this
  exact this
set_option maxRecDepth 100000 in
set_option maxHeartbeats 4000000 in
theorem edgesInOrder (b n : Nat) (f : Int → Int → Option R) (w : World) (hn : n ≤ 128) (hom : OM w b n f) :
    Calls Tryz.prog 173 #[.map (some b)] w fun e w' => ∃ v, e = .returned v ∧ Below w.heap.size w w' ∧ LstV w' v (ordT f 64) w.heap.size w'.heap.size := by
  obtain ⟨q, hqn, hlen⟩ := hom.size
  have HOM := hide hom
  clear hom
  obtain ⟨i0, hi, hz0, hz1, hz2⟩ := infoR
  obtain ⟨wm, hmk, hmown, hmgrow⟩ := run_make_own (P := Tryz.prog) w w.heap.size 77 99 i0 _ 3 Tryz.underlying77 hi hz0 hz1 .i64 .i64 q (by rw [hz2]; omega) (by unfold maxLen; omega) (Nat.le_refl _)
  have OW : Hid (wm.ownsRow w.heap.size 99 3 (.slice (some ⟨w.heap.size, 0, none⟩) 0 q) (ordT f (8 * 0)).length (flat (ordT f (8 * 0)))) := hide hmown
  have DM : Hid (Below w.heap.size w wm) := hide ((Below.refl _ _).grown hmgrow (Nat.le_refl _) (fun k hk => by cases hk))
  clear hi hz0 hz1 hz2 hmown hmgrow
  go_enter Tryz.func173, Tryz.ntmps173
  go_wp2_with fail
  clear hmk hlen
  go_loopw [3, 4] (fun v i wr => ∃ j : Nat, j ≤ 8 ∧ i = .int .i64 ((j : Int) + 1) ∧ Hid (wr.ownsRow w.heap.size 99 3 v (ordT f (8 * j)).length (flat (ordT f (8 * j)))) ∧ Hid (Below w.heap.size w wr)) (fun _ i _ => 9 - (intOf i).toNat)
  case atStart => exact ⟨0, by omega, rfl, OW, DM⟩
  case round =>
    obtain ⟨j, hj, rfl, how0, hbl0⟩ := hrel
    by_cases hlt0 : (j : Int) + 1 ≤ 8
    · have HWJ : Hid ((Lit.int .i64 ((j : Int) + 1)).wf = true) := hide (WalkArith.wf_i64 ⟨by omega, by omega⟩)
      go_wp2_with fail
      go_loopw [3, 5] (fun v i wr => ∃ k : Nat, k ≤ 8 ∧ i = .int .i64 ((k : Int) + 1) ∧ Hid (wr.ownsRow w.heap.size 99 3 v (ordT f (8 * j + k)).length (flat (ordT f (8 * j + k)))) ∧ Hid (Below w.heap.size w wr)) (fun _ i _ => 9 - (intOf i).toNat)
      case atStart => exact ⟨0, by omega, rfl, how0, hbl0⟩
      case round =>
        obtain ⟨k, hk, rfl, how, hbl⟩ := hrel
        have hbs := (unhide hbl).size
        have hfl := ordT_len f (8 * j + k)
        by_cases hlt : (k : Int) + 1 ≤ 8
        · have HM := hide ((unhide HOM).below (unhide hbl))
          have HWK : Hid ((Lit.int .i64 ((k : Int) + 1)).wf = true) := hide (WalkArith.wf_i64 ⟨by omega, by omega⟩)
          have HST := hide (ordE_at f (j := j) (k := k) (by omega))
          cases hf : f ((j : Int) + 1) ((k : Int) + 1) with
          | none =>
            rw [hf] at HST
            have HA : Hid ((f ((j : Int) + 1) ((k : Int) + 1)).getD R.zero = ⟨0, 0, 0⟩) := hide (by rw [hf]; rfl)
            have HE : Hid ((f ((j : Int) + 1) ((k : Int) + 1)).isSome = false) := hide (by rw [hf]; rfl)
            clear hf
            have e0 : ordT f (8 * j + (k + 1)) = ordT f (8 * j + k) := by rw [unhide HST]; simp
            rw [← e0] at how
            clear e0
            have HB := hide ((unhide hbl).alloc hbs (.cells #[.int .i64 0, .int .i64 0, .int .i64 0] 99))
            have HO := hide ((unhide how).alloc (.cells #[.int .i64 0, .int .i64 0, .int .i64 0] 99))
            go_wp2_with (at_lookup; refine wpList_lookA _ rfl _ _ rfl b _ _ rfl (unhide HM) ((j : Int) + 1) ((k : Int) + 1) (unhide HWJ) (unhide HWK) rfl 0 0 0 false (unhide HA) (unhide HE) ?_)
            go_roundw
            case rel => exact ⟨k + 1, by omega, by go_num, HO, HB⟩
            case measure => simp [intOf]; omega
          | some m =>
            rw [hf] at HST
            obtain ⟨ke, ti, va⟩ := m
            have HA : Hid ((f ((j : Int) + 1) ((k : Int) + 1)).getD R.zero = ⟨ke, ti, va⟩) := hide (by rw [hf]; rfl)
            have HE : Hid ((f ((j : Int) + 1) ((k : Int) + 1)).isSome = true) := hide (by rw [hf]; rfl)
            clear hf
            have HTF : Hid (ordT f (8 * j + (k + 1)) = ordT f (8 * j + k) ++ [(⟨ke, ti, va⟩ : R)]) := HST
            have HBA := hide ((unhide hbl).alloc hbs (.cells #[.int .i64 ke, .int .i64 ti, .int .i64 va] 99))
            have HOA := hide ((unhide how).alloc (.cells #[.int .i64 ke, .int .i64 ti, .int .i64 va] 99))
            have hs1 : w.heap.size ≤ (wr.alloc (.cells #[.int .i64 ke, .int .i64 ti, .int .i64 va] 99)).heap.size := by simp; omega
            go_wp2_with (first | (at_lookup; refine wpList_lookA _ rfl _ _ rfl b _ _ rfl (unhide HM) ((j : Int) + 1) ((k : Int) + 1) (unhide HWJ) (unhide HWK) rfl ke ti va true (unhide HA) (unhide HE) ?_) | (at_builtin; refine wpList_apS ((unhide HOA).alloc _) (wr.heap.size + 1) 0 1 1 [(⟨ke, ti, va⟩ : R)] rfl (by have := rm_new (wr.alloc (.cells #[.int .i64 ke, .int .i64 ti, .int .i64 va] 99)) ⟨ke, ti, va⟩; simpa using this) (by simp only [List.length_cons, List.length_nil]; omega) (by simp; omega) rfl _ _ rfl rfl rfl ?_; intro v' w' ho hg; have HO : Hid (w'.ownsRow w.heap.size 99 3 v' (ordT f (8 * j + (k + 1))).length (flat (ordT f (8 * j + (k + 1))))) := hide (by rw [unhide HTF]; exact ho); have HB := hide (below_own ((unhide HBA).alloc hs1 _) ((unhide HOA).alloc _) hg (Nat.le_refl _) (by simp; omega)); clear ho hg))
            go_roundw
            case rel => exact ⟨k + 1, by omega, by go_num, HO, HB⟩
            case measure => simp [intOf]; omega
        · obtain rfl : k = 8 := by omega
          have HO : Hid (wr.ownsRow w.heap.size 99 3 u3 (ordT f (8 * (j + 1))).length (flat (ordT f (8 * (j + 1))))) := hide (by rw [show 8 * (j + 1) = 8 * j + 8 by omega]; exact unhide how)
          go_wp2_with fail
          go_roundw
          case rel => exact ⟨j + 1, by omega, by go_num, HO, hbl⟩
          case measure => simp [intOf]; omega
    · obtain rfl : j = 8 := by omega
      have HL := hide (lst_own rfl (unhide how0))
      go_wp2_with fail
      go_ret
      exact ⟨_, rfl, unhide hbl0, unhide HL⟩
end Tp
end Go.Proofs.YtfooahhdikobeaaGreat
