/-
  Of the texts SetYc, GraS, LnkI, Nums, Tim, AdvM, AdvC, RtrO, NetM, RtrM: what this claim needs of them. (put together by mkprune.py)
-/
import Derived.Test.YtfooahhdikobeaaGreatQw4
import Derived.Test.YtfooahhdikobeaaGreatShelf
import Derived.Lib.ItoaNum
import Derived.Laws.BitsAllLaws
import Derived.Laws.Shifts
import Derived.Deep.QuietTactic
import Derived.BigQuiet
namespace Go.Proofs.YtfooahhdikobeaaGreat
open Go.ChangeShapes Go.WideShapes Go.ChangeAt Go.RowKit
set_option linter.unusedVariables false
set_option linter.unusedSimpArgs false
attribute [local go_sem ↓] Go.wp_at_zero Go.wp_at_succ
namespace St
open W1 Tu
set_option maxRecDepth 100000 in
set_option maxHeartbeats 8000000 in
theorem l03PutC (g off : Nat) (ms : List R) (cap : Nat) (key til val : Int) (w : World) (hm : ms.length ≤ 64) (hr : RM w (some ⟨g, off, none⟩) ms) :
    Calls Tryz.prog 114 #[.slice (some ⟨g, off, none⟩) ms.length cap, .agg #[.int .i64 key, .int .i64 til, .int .i64 val]] w fun e w' => ∃ v, e = .returned (.tuple #[v, .int .i64 (putC ms ⟨key, til, val⟩)]) ∧ Below w.heap.size w w' ∧ LstV w' v (putL ms ⟨key, til, val⟩) w.heap.size w'.heap.size ∧ Shp v := by
  have HR := hide hr
  have hl := placeP_le (atKey key) ms
  clear hr
  have HBA : Hid (Below w.heap.size w (w.alloc (.cells #[.int .i64 key, .int .i64 til, .int .i64 val] 99))) := hide ((Below.refl _ _).alloc (Nat.le_refl _) _)
  have X : Hid (Bx (w.alloc (.cells #[.int .i64 key, .int .i64 til, .int .i64 val] 99)) w.heap.size ⟨key, til, val⟩) := hide (by refine ⟨?_, ?_, ?_⟩ <;> simp [World.cell?_alloc_new])
  obtain ⟨p, hp⟩ : ∃ p, place ms key = p := ⟨_, rfl⟩
  have HP := hide hp
  rw [show placeP (atKey key) ms = p from hp] at hl
  clear hp
  obtain ⟨L, hL⟩ : ∃ L, putL ms ⟨key, til, val⟩ = L := ⟨_, rfl⟩
  obtain ⟨C, hC⟩ : ∃ C, putC ms ⟨key, til, val⟩ = C := ⟨_, rfl⟩
  have HLL := hide hL
  have HCC := hide hC
  rw [hL, hC]
  clear hL hC
  obtain ⟨n, hn⟩ : ∃ n, ms.length = n := ⟨_, rfl⟩
  have HN := hide hn
  rw [hn] at hl hm ⊢
  clear hn
  have k0 : (0 : Int) ≤ (p : Int) := by omega
  go_enter Tryz.func114, Tryz.ntmps114
  go_wp2_with fail
  refine (by have := l03Place (some ⟨g, off, none⟩) ms cap key _ (by rw [unhide HN]; omega) ((unhide HR).below (unhide HBA)); rw [unhide HN, unhide HP] at this; exact this : Calls Tryz.prog 125 #[.slice (some ⟨g, off, none⟩) n cap, .int .i64 key] _ _).mono ?_
  rintro e w1 ⟨rfl, hw1⟩
  have HW1 := hide hw1
  have X1 : Hid (Bx w1 w.heap.size ⟨key, til, val⟩) := hide (by rw [hw1]; exact unhide X)
  have HB1 : Hid (Below w.heap.size w w1) := hide (by rw [hw1]; exact unhide HBA)
  have hs1 : w.heap.size < w1.heap.size := by rw [hw1]; simp
  clear hw1 X HBA HW1
  go_wp2_with fail
  refine (l03OwnG g off ms cap n _ (unhide HN) (by rw [unhide HN]; omega) ((unhide HR).below (unhide HB1))).mono ?_
  rintro e w2 ⟨b, c, rfl, b2, hb1, hb2, hc1, hc2, u2⟩
  have HSC : Hid (Shp (.slice (some ⟨b, 0, none⟩) n c)) := hide ⟨_, _, _, rfl, hc1, hc2, .inr ⟨b, rfl⟩⟩
  have X2 := hide ((unhide X1).below b2)
  have U2 := hide u2
  have HB2 := hide ((unhide HB1).trans (b2.mono (unhide HB1).size))
  have hs2 := b2.size
  unfold maxLen at hc2
  clear u2 b2 X1 HB1
  by_cases hlt : (p : Int) < (n : Int)
  · have hlen : p < n := by omega
    have hA := (unhide U2).1 p hlen
    cases ht : thereB ms key
    · have hk : ¬ (ms.getD p R.zero).key = key := by
        intro e
        have := there_yes (unhide HP) (by rw [unhide HN]; exact hlen) e
        rw [ht] at this; cases this
      have HT := hide ht
      clear ht
      obtain ⟨z0, z1, z2⟩ := unhide X2
      dsimp only at z0 z1 z2
      generalize ms.getD p R.zero = m at *
      have hkb : (m.key == key) = false := by simpa using hk
      go_wp2_with fail
      refine wp_region_noPanic ?_
      refine wp_region_held_drew (S := fun w' => Bx w' w.heap.size ⟨key, til, val⟩ ∧ w'.cell? ⟨w.heap.size, 0, none⟩ = some (.int .i64 key) ∧ w'.cell? ⟨b, p * 3, none⟩ = some (.int .i64 m.key)) (by kernel_rfl) (sPut (unhide X2).drew hA.drew) (fun hHeld => ?_)
      refine Rg.t 0 14 ?_
      refine Rg.t 1 15 ?_
      refine Rg.t 2 16 ?_
      refine Rg.t 3 17 ?_
      refine Rg.t 4 18 ?_
      refine Rg.t 5 19 ?_
      refine Rg.t 6 20 ?_
      refine Rg.t 7 21 ?_
      refine Rg.t 8 22 ?_
      refine Rg.t 9 23 ?_
      refine Rg.t 10 24 ?_
      refine Rg.t 11 25 ?_
      refine Rg.t 12 26 ?_
      refine Rg.t 13 27 ?_
      refine wpAnyH_done (by kernel_rfl) (NoPanic.normal ?_) _
      clear hHeld hA hk hkb
      by_cases h64 : n = 64
      · have HE1 : Hid (L = ms) := hide (by rw [← unhide HLL]; unfold putL; rw [if_neg (by rw [unhide HT]; simp), if_pos (by rw [unhide HN]; exact h64)])
        have HE2 : Hid (C = 7) := hide (by rw [← unhide HCC]; unfold putC; rw [if_neg (by rw [unhide HT]; simp), if_pos (by rw [unhide HN]; exact h64)])
        have HLst : Hid (LstV w2.drew (.slice (some ⟨b, 0, none⟩) n c) ms w.heap.size w2.drew.heap.size) := hide ⟨_, c, by rw [unhide HN], .inr ⟨b, rfl, by omega, hb2, hb2, by rw [unhide HN]; exact unhide U2⟩⟩
        have hnb : ((n : Int) == 64) = true := by simp; omega
        subst h64
        go_wp2_with fail
        go_ret2
        rw [unhide HE1, unhide HE2]
        exact ⟨_, rfl, (unhide HB2).drew, unhide HLst, unhide HSC⟩
      · have HE1 : Hid (L = (([] ++ ms.take p) ++ [⟨key, til, val⟩]) ++ ms.drop p) := hide (by rw [← unhide HLL]; unfold putL; rw [if_neg (by rw [unhide HT]; simp), if_neg (by rw [unhide HN]; exact h64), unhide HP, List.nil_append])
        have HE2 : Hid (C = 0) := hide (by rw [← unhide HCC]; unfold putC; rw [if_neg (by rw [unhide HT]; simp), if_neg (by rw [unhide HN]; exact h64)])
        have hnb : ((n : Int) == 64) = false := by simp; omega
        have hn64 : ¬ (n : Int) = 64 := by omega
        have p1 : (p : Int) ≤ (c : Int) := by omega
        have p2 : (p : Int) ≤ (n : Int) := by omega
        have c1 : (n : Int) ≤ (c : Int) := by omega
        have lt1 : Hid ((ms.take p).length = p) := hide (by rw [List.length_take, unhide HN]; omega)
        have ld1 : Hid ((ms.drop p).length = n - p) := hide (by rw [List.length_drop, unhide HN])
        have HD : Hid (∀ W, RM W (some ⟨b, 0, none⟩) ms → RM W (some ⟨b, if c = p then 0 else p * 3, none⟩) (ms.drop p)) := hide (fun W h => by
          split
          · exact .inl (List.drop_eq_nil_of_le (by rw [unhide HN]; omega))
          · have := drop_off h p; rw [Nat.zero_add] at this; exact this)
        have RO : Hid (RM w2 (some ⟨b, 0, none⟩) ms) := hide (rm_of (n := n) (by rw [unhide HN]; exact unhide U2))
        have HV : Hid (Below w2.heap.size w2 w2.drew.drew) := hide ((Below.refl _ _).drew.drew)
        have hcp : ¬ c = p := by omega
        rw [if_neg hcp] at HD
        go_wp2_with fail
        refine wp_region_noPanic ?_
        refine wp_region_held_drew (S := fun w' => Bx w' w.heap.size ⟨key, til, val⟩ ∧ w'.cell? ⟨w.heap.size, 0, none⟩ = some (.int .i64 key) ∧ w'.cell? ⟨w.heap.size, 1, none⟩ = some (.int .i64 til) ∧ w'.cell? ⟨w.heap.size, 2, none⟩ = some (.int .i64 val)) (by kernel_rfl) (sBox (unhide X2).drew) (fun hHeld => ?_)
        refine Rg.t 1 38 ?_
        refine Rg.t 2 39 ?_
        refine Rg.t 3 40 ?_
        refine Rg.t 5 42 ?_
        refine Rg.t 8 45 ?_
        refine Rg.t 9 46 ?_
        refine Rg.t 10 47 ?_
        generalize hV : w2.drew.drew = V at *
        clear hV
        have XV := hide ((unhide X2).below (unhide HV))
        have hVs := (unhide HV).size
        (refine wpAnyH_ready (rs := [0, 6]) (by kernel_rfl) (by simp) ?_; refine AllReadyH.cons (o := _) rfl (fun K hK => ?_) (AllReadyH.cons (o := _) rfl (fun K hK => ?_) AllReadyH.nil))
        · go_simp
          have HV1 := hide ((unhide HV).alloc (unhide HV).size (.cells #[] 99))
          have O0 := hide (own_empty V w2.heap.size hVs)
          have X1 := hide ((unhide X2).below (unhide HV1))
          refine hK.out _ _ (sBox (unhide X1)) (fun hHeld => ?_)
          clear hK K
          (try simp only [Act.put, List.setIfInBounds_toArray, List.set_cons_zero, List.set_cons_succ])
          (refine wpAnyH_ready (rs := [4, 6]) (by kernel_rfl) (by simp) ?_; refine AllReadyH.cons (o := _) rfl (fun K hK => ?_) (AllReadyH.cons (o := _) rfl (fun K hK => ?_) AllReadyH.nil))
          · rw [if_pos (by rfl)]
            refine wp_apS (unhide O0) b 0 p c (ms.take p) (unhide lt1) (take_zero_off ((unhide RO).below (unhide HV1)) p) (by rw [unhide lt1]; simp; omega) (unhide HV1).size _ _ rfl rfl rfl rfl ?_
            intro v4 w4 o4 g4
            have O4 := hide o4
            have HV4 := hide (below_own (unhide HV1) (unhide O0) g4 (Nat.le_refl _) (unhide HV1).size)
            have X4 := hide ((unhide X2).below (unhide HV4))
            clear o4 g4
            refine hK.out _ _ (sBox (unhide X4)) (fun hHeld => ?_)
            clear hK K
            (try simp only [Act.put, List.setIfInBounds_toArray, List.set_cons_zero, List.set_cons_succ])
            (refine Rg.o 6 (fun K hK => ?_); go_simp)
            have HV6 := hide ((unhide HV4).alloc (unhide HV4).size (.cells #[.int .i64 key, .int .i64 til, .int .i64 val] 99))
            have O6 := hide ((unhide O4).alloc (.cells #[.int .i64 key, .int .i64 til, .int .i64 val] 99))
            have RX := hide (rm_new w4 ⟨key, til, val⟩)
            have X6 := hide ((unhide X2).below (unhide HV6))
            refine hK.out _ _ (sBox (unhide X6)) (fun hHeld => ?_)
            clear hK K
            (try simp only [Act.put, List.setIfInBounds_toArray, List.set_cons_zero, List.set_cons_succ])
            (refine Rg.o 7 (fun K hK => ?_); rw [if_pos (by rfl)])
            refine wp_apS (unhide O6) _ 0 1 1 [⟨key, til, val⟩] rfl (unhide RX) (by simp only [List.nil_append, List.length_cons, List.length_nil]; rw [unhide lt1]; omega) (unhide HV6).size _ _ rfl rfl rfl rfl ?_
            intro v7 w7 o7 g7
            have O7 := hide o7
            have HV7 := hide (below_own (unhide HV6) (unhide O6) g7 (Nat.le_refl _) (unhide HV6).size)
            have X7 := hide ((unhide X2).below (unhide HV7))
            clear o7 g7
            refine hK.out _ _ (sBox (unhide X7)) (fun hHeld => ?_)
            clear hK K
            (try simp only [Act.put, List.setIfInBounds_toArray, List.set_cons_zero, List.set_cons_succ])
            (refine Rg.o 11 (fun K hK => ?_); rw [if_pos (by rfl)])
            refine wp_apS (unhide O7) b _ _ _ (ms.drop _) (unhide ld1) (unhide HD _ ((unhide RO).below (unhide HV7))) (by simp only [List.nil_append, List.length_append, List.length_cons, List.length_nil]; rw [unhide ld1, unhide lt1]; omega) (unhide HV7).size _ _ rfl rfl rfl rfl ?_
            intro v8 w8 o8 g8
            have HV8 := hide (below_own (unhide HV7) (unhide O7) g8 (Nat.le_refl _) (unhide HV7).size)
            have X8 := hide ((unhide X2).below (unhide HV8))
            have l8 := (lst_own rfl o8).mono (lo' := w.heap.size) (hi' := w8.heap.size) (by omega) (Nat.le_refl _)
            have HSH := hide (shp_own o8)
            rw [← unhide HE1] at l8
            have HL8 := hide l8
            clear o8 g8 l8
            refine hK.out _ _ (sBox (unhide X8)) (fun hHeld => ?_)
            clear hK K
            (try simp only [Act.put, List.setIfInBounds_toArray, List.set_cons_zero, List.set_cons_succ])
            refine Rg.t 12 4 ?_
            refine Rg.t 13 5 ?_
            refine wpAnyH_done (by kernel_rfl) (NoPanic.normal ?_) _
            have HBF := hide ((unhide HB2).trans ((unhide HV8).mono (unhide HB2).size))
            clear hHeld
            go_wp2_with fail
            go_ret2
            rw [unhide HE2]
            exact ⟨_, rfl, unhide HBF, unhide HL8, unhide HSH⟩
          · go_simp
            have HV5 := hide ((unhide HV1).alloc (unhide HV1).size (.cells #[.int .i64 key, .int .i64 til, .int .i64 val] 99))
            have O5 := hide ((unhide O0).alloc (.cells #[.int .i64 key, .int .i64 til, .int .i64 val] 99))
            have RX0 := rm_new (V.alloc (.cells #[] 99)) ⟨key, til, val⟩
            simp only [World.size_alloc] at RX0
            have X5 := hide ((unhide X2).below (unhide HV5))
            have RX5 := hide RX0
            clear RX0
            refine hK.out _ _ (sBox (unhide X5)) (fun hHeld => ?_)
            clear hK K
            (try simp only [Act.put, List.setIfInBounds_toArray, List.set_cons_zero, List.set_cons_succ])
            (refine Rg.o 4 (fun K hK => ?_); rw [if_pos (by rfl)])
            refine wp_apS (unhide O5) b 0 p c (ms.take p) (unhide lt1) (take_zero_off ((unhide RO).below (unhide HV5)) p) (by rw [unhide lt1]; simp; omega) (unhide HV5).size _ _ rfl rfl rfl rfl ?_
            intro v4 w4 o4 g4
            have O6 := hide o4
            have HV6 := hide (below_own (unhide HV5) (unhide O5) g4 (Nat.le_refl _) (unhide HV5).size)
            have RX := hide (rm_grown (unhide RX5) g4 (by simp [Value.ownBlock]))
            have X6 := hide ((unhide X2).below (unhide HV6))
            clear o4 g4
            refine hK.out _ _ (sBox (unhide X6)) (fun hHeld => ?_)
            clear hK K
            (try simp only [Act.put, List.setIfInBounds_toArray, List.set_cons_zero, List.set_cons_succ])
            (refine Rg.o 7 (fun K hK => ?_); rw [if_pos (by rfl)])
            refine wp_apS (unhide O6) _ 0 1 1 [⟨key, til, val⟩] rfl (unhide RX) (by simp only [List.nil_append, List.length_cons, List.length_nil]; rw [unhide lt1]; omega) (unhide HV6).size _ _ rfl rfl rfl rfl ?_
            intro v7 w7 o7 g7
            have O7 := hide o7
            have HV7 := hide (below_own (unhide HV6) (unhide O6) g7 (Nat.le_refl _) (unhide HV6).size)
            have X7 := hide ((unhide X2).below (unhide HV7))
            clear o7 g7
            refine hK.out _ _ (sBox (unhide X7)) (fun hHeld => ?_)
            clear hK K
            (try simp only [Act.put, List.setIfInBounds_toArray, List.set_cons_zero, List.set_cons_succ])
            (refine Rg.o 11 (fun K hK => ?_); rw [if_pos (by rfl)])
            refine wp_apS (unhide O7) b _ _ _ (ms.drop _) (unhide ld1) (unhide HD _ ((unhide RO).below (unhide HV7))) (by simp only [List.nil_append, List.length_append, List.length_cons, List.length_nil]; rw [unhide ld1, unhide lt1]; omega) (unhide HV7).size _ _ rfl rfl rfl rfl ?_
            intro v8 w8 o8 g8
            have HV8 := hide (below_own (unhide HV7) (unhide O7) g8 (Nat.le_refl _) (unhide HV7).size)
            have X8 := hide ((unhide X2).below (unhide HV8))
            have l8 := (lst_own rfl o8).mono (lo' := w.heap.size) (hi' := w8.heap.size) (by omega) (Nat.le_refl _)
            have HSH := hide (shp_own o8)
            rw [← unhide HE1] at l8
            have HL8 := hide l8
            clear o8 g8 l8
            refine hK.out _ _ (sBox (unhide X8)) (fun hHeld => ?_)
            clear hK K
            (try simp only [Act.put, List.setIfInBounds_toArray, List.set_cons_zero, List.set_cons_succ])
            refine Rg.t 12 4 ?_
            refine Rg.t 13 5 ?_
            refine wpAnyH_done (by kernel_rfl) (NoPanic.normal ?_) _
            have HBF := hide ((unhide HB2).trans ((unhide HV8).mono (unhide HB2).size))
            clear hHeld
            go_wp2_with fail
            go_ret2
            rw [unhide HE2]
            exact ⟨_, rfl, unhide HBF, unhide HL8, unhide HSH⟩
        · go_simp
          have HV1 := hide ((unhide HV).alloc (unhide HV).size (.cells #[.int .i64 key, .int .i64 til, .int .i64 val] 99))
          have RX1 := hide (rm_new V ⟨key, til, val⟩)
          have X1 := hide ((unhide X2).below (unhide HV1))
          refine hK.out _ _ (sBox (unhide X1)) (fun hHeld => ?_)
          clear hK K
          (try simp only [Act.put, List.setIfInBounds_toArray, List.set_cons_zero, List.set_cons_succ])
          (refine Rg.o 0 (fun K hK => ?_); go_simp)
          have HV5 := hide ((unhide HV1).alloc (unhide HV1).size (.cells #[] 99))
          have O50 := own_empty (V.alloc (.cells #[.int .i64 key, .int .i64 til, .int .i64 val] 99)) w2.heap.size (unhide HV1).size
          simp only [World.size_alloc] at O50
          have O5 := hide O50
          clear O50
          have X5 := hide ((unhide X2).below (unhide HV5))
          have RX5 := hide ((unhide RX1).below ((Below.refl _ _).alloc (Nat.le_refl _) (.cells #[] 99)))
          refine hK.out _ _ (sBox (unhide X5)) (fun hHeld => ?_)
          clear hK K
          (try simp only [Act.put, List.setIfInBounds_toArray, List.set_cons_zero, List.set_cons_succ])
          (refine Rg.o 4 (fun K hK => ?_); rw [if_pos (by rfl)])
          refine wp_apS (unhide O5) b 0 p c (ms.take p) (unhide lt1) (take_zero_off ((unhide RO).below (unhide HV5)) p) (by rw [unhide lt1]; simp; omega) (unhide HV5).size _ _ rfl rfl rfl rfl ?_
          intro v4 w4 o4 g4
          have O6 := hide o4
          have HV6 := hide (below_own (unhide HV5) (unhide O5) g4 (Nat.le_refl _) (unhide HV5).size)
          have RX := hide (rm_grown (unhide RX5) g4 (by simp [Value.ownBlock]))
          have X6 := hide ((unhide X2).below (unhide HV6))
          clear o4 g4
          refine hK.out _ _ (sBox (unhide X6)) (fun hHeld => ?_)
          clear hK K
          (try simp only [Act.put, List.setIfInBounds_toArray, List.set_cons_zero, List.set_cons_succ])
          (refine Rg.o 7 (fun K hK => ?_); rw [if_pos (by rfl)])
          refine wp_apS (unhide O6) _ 0 1 1 [⟨key, til, val⟩] rfl (unhide RX) (by simp only [List.nil_append, List.length_cons, List.length_nil]; rw [unhide lt1]; omega) (unhide HV6).size _ _ rfl rfl rfl rfl ?_
          intro v7 w7 o7 g7
          have O7 := hide o7
          have HV7 := hide (below_own (unhide HV6) (unhide O6) g7 (Nat.le_refl _) (unhide HV6).size)
          have X7 := hide ((unhide X2).below (unhide HV7))
          clear o7 g7
          refine hK.out _ _ (sBox (unhide X7)) (fun hHeld => ?_)
          clear hK K
          (try simp only [Act.put, List.setIfInBounds_toArray, List.set_cons_zero, List.set_cons_succ])
          (refine Rg.o 11 (fun K hK => ?_); rw [if_pos (by rfl)])
          refine wp_apS (unhide O7) b _ _ _ (ms.drop _) (unhide ld1) (unhide HD _ ((unhide RO).below (unhide HV7))) (by simp only [List.nil_append, List.length_append, List.length_cons, List.length_nil]; rw [unhide ld1, unhide lt1]; omega) (unhide HV7).size _ _ rfl rfl rfl rfl ?_
          intro v8 w8 o8 g8
          have HV8 := hide (below_own (unhide HV7) (unhide O7) g8 (Nat.le_refl _) (unhide HV7).size)
          have X8 := hide ((unhide X2).below (unhide HV8))
          have l8 := (lst_own rfl o8).mono (lo' := w.heap.size) (hi' := w8.heap.size) (by omega) (Nat.le_refl _)
          have HSH := hide (shp_own o8)
          rw [← unhide HE1] at l8
          have HL8 := hide l8
          clear o8 g8 l8
          refine hK.out _ _ (sBox (unhide X8)) (fun hHeld => ?_)
          clear hK K
          (try simp only [Act.put, List.setIfInBounds_toArray, List.set_cons_zero, List.set_cons_succ])
          refine Rg.t 12 4 ?_
          refine Rg.t 13 5 ?_
          refine wpAnyH_done (by kernel_rfl) (NoPanic.normal ?_) _
          have HBF := hide ((unhide HB2).trans ((unhide HV8).mono (unhide HB2).size))
          clear hHeld
          go_wp2_with fail
          go_ret2
          rw [unhide HE2]
          exact ⟨_, rfl, unhide HBF, unhide HL8, unhide HSH⟩
    · have hk : (ms.getD p R.zero).key = key := by
        have h := ht
        unfold thereB at h; rw [unhide HP] at h
        rw [Bool.and_eq_true] at h
        exact of_decide_eq_true h.2
      have HE1 : Hid (L = ms.set p ⟨key, til, val⟩) := hide (by rw [← unhide HLL, set_parts _ _ _ (by rw [unhide HN]; exact hlen)]; unfold putL; rw [if_pos ht, unhide HP])
      have HE2 : Hid (C = 0) := hide (by rw [← unhide HCC]; unfold putC; rw [if_pos ht])
      have US := Upto.set (w := w2.drew) ⟨key, til, val⟩ (unhide U2) (unhide HN).symm hlen
      have hps : (put w2.drew b (p * 3) ⟨key, til, val⟩).heap.size = w2.heap.size := put_size _ _ _ _
      have HLst : Hid (LstV (put w2.drew b (p * 3) ⟨key, til, val⟩) (.slice (some ⟨b, 0, none⟩) n c) (ms.set p ⟨key, til, val⟩) w.heap.size (put w2.drew b (p * 3) ⟨key, til, val⟩).heap.size) := hide ⟨_, c, by rw [List.length_set, unhide HN], .inr ⟨b, rfl, by omega, by rw [hps]; exact hb2, by rw [hps]; exact hb2, by rw [List.length_set, unhide HN]; exact US⟩⟩
      have HBP : Hid (Below w.heap.size w (put w2.drew b (p * 3) ⟨key, til, val⟩)) := hide (put_below (unhide HB2).drew (by omega))
      obtain ⟨v0, x0⟩ := Option.isSome_iff_exists.1 ((unhide U2).2 (p * 3) (by omega)).1
      obtain ⟨v1, x1⟩ := Option.isSome_iff_exists.1 ((unhide U2).2 (p * 3 + 1) (by omega)).1
      obtain ⟨v2, x2⟩ := Option.isSome_iff_exists.1 ((unhide U2).2 (p * 3 + 2) (by omega)).1
      have y0 := ((unhide U2).2 (p * 3) (by omega)).2
      have y1 := ((unhide U2).2 (p * 3 + 1) (by omega)).2
      have y2 := ((unhide U2).2 (p * 3 + 2) (by omega)).2
      obtain ⟨z0, z1, z2⟩ := unhide X2
      dsimp only at z0 z1 z2
      generalize ms.getD p R.zero = m at *
      obtain ⟨mk, mt, mv⟩ := m
      dsimp only at hk
      subst hk
      clear US hps
      go_wp2_with fail
      refine wp_region_noPanic ?_
      refine wp_region_held_drew (S := fun w' => Bx w' w.heap.size ⟨mk, til, val⟩ ∧ w'.cell? ⟨w.heap.size, 0, none⟩ = some (.int .i64 mk) ∧ w'.cell? ⟨b, p * 3, none⟩ = some (.int .i64 mk)) (by kernel_rfl) (sPut (unhide X2).drew hA.drew) (fun hHeld => ?_)
      refine Rg.t 0 14 ?_
      refine Rg.t 1 15 ?_
      refine Rg.t 2 16 ?_
      refine Rg.t 3 17 ?_
      refine Rg.t 4 18 ?_
      refine Rg.t 5 19 ?_
      refine Rg.t 6 20 ?_
      refine Rg.t 7 21 ?_
      refine Rg.t 8 22 ?_
      refine Rg.t 9 23 ?_
      refine Rg.t 10 24 ?_
      refine Rg.t 11 25 ?_
      refine Rg.t 12 26 ?_
      refine Rg.t 13 27 ?_
      refine wpAnyH_done (by kernel_rfl) (NoPanic.normal ?_) _
      clear hHeld hA
      go_wp2_with fail
      go_ret2
      rw [unhide HE1, unhide HE2]
      exact ⟨_, rfl, unhide HBP, unhide HLst, unhide HSC⟩
  · obtain rfl : n = p := by omega
    have HT := hide (there_no (unhide HP) (by rw [unhide HN]; exact Nat.le_refl _))
    obtain ⟨z0, z1, z2⟩ := unhide X2
    dsimp only at z0 z1 z2
    go_wp2_with fail
    refine wp_region_noPanic ?_
    refine wp_region_held_drew (S := fun w' => True) (by kernel_rfl) trivial (fun hHeld => ?_)
    refine Rg.t 0 14 ?_
    refine Rg.t 1 15 ?_
    refine Rg.t 2 16 ?_
    refine Rg.t 3 17 ?_
    refine Rg.t 4 18 ?_
    refine Rg.s 5 19 ?_
    refine Rg.s 6 20 ?_
    refine Rg.s 7 21 ?_
    refine Rg.s 8 22 ?_
    refine Rg.s 9 23 ?_
    refine Rg.s 10 24 ?_
    refine Rg.s 11 25 ?_
    refine Rg.s 12 26 ?_
    refine Rg.t 13 27 ?_
    refine wpAnyH_done (by kernel_rfl) (NoPanic.normal ?_) _
    clear hHeld
    by_cases h64 : n = 64
    · have HE1 : Hid (L = ms) := hide (by rw [← unhide HLL]; unfold putL; rw [if_neg (by rw [unhide HT]; simp), if_pos (by rw [unhide HN]; exact h64)])
      have HE2 : Hid (C = 7) := hide (by rw [← unhide HCC]; unfold putC; rw [if_neg (by rw [unhide HT]; simp), if_pos (by rw [unhide HN]; exact h64)])
      have HLst : Hid (LstV w2.drew (.slice (some ⟨b, 0, none⟩) n c) ms w.heap.size w2.drew.heap.size) := hide ⟨_, c, by rw [unhide HN], .inr ⟨b, rfl, by omega, hb2, hb2, by rw [unhide HN]; exact unhide U2⟩⟩
      have hnb : ((n : Int) == 64) = true := by simp; omega
      subst h64
      go_wp2_with fail
      go_ret2
      rw [unhide HE1, unhide HE2]
      exact ⟨_, rfl, (unhide HB2).drew, unhide HLst, unhide HSC⟩
    · have HE1 : Hid (L = (([] ++ ms.take n) ++ [⟨key, til, val⟩]) ++ ms.drop n) := hide (by rw [← unhide HLL]; unfold putL; rw [if_neg (by rw [unhide HT]; simp), if_neg (by rw [unhide HN]; exact h64), unhide HP, List.nil_append])
      have HE2 : Hid (C = 0) := hide (by rw [← unhide HCC]; unfold putC; rw [if_neg (by rw [unhide HT]; simp), if_neg (by rw [unhide HN]; exact h64)])
      have hnb : ((n : Int) == 64) = false := by simp; omega
      have hn64 : ¬ (n : Int) = 64 := by omega
      have p1 : (n : Int) ≤ (c : Int) := by omega
      have p2 : (n : Int) ≤ (n : Int) := by omega
      have c1 : (n : Int) ≤ (c : Int) := by omega
      have lt1 : Hid ((ms.take n).length = n) := hide (by rw [List.length_take, unhide HN]; omega)
      have ld1 : Hid ((ms.drop n).length = n - n) := hide (by rw [List.length_drop, unhide HN])
      have HD : Hid (∀ W, RM W (some ⟨b, 0, none⟩) ms → RM W (some ⟨b, if c = n then 0 else n * 3, none⟩) (ms.drop n)) := hide (fun W h => by
        split
        · exact .inl (List.drop_eq_nil_of_le (by rw [unhide HN]; omega))
        · have := drop_off h n; rw [Nat.zero_add] at this; exact this)
      have RO : Hid (RM w2 (some ⟨b, 0, none⟩) ms) := hide (rm_of (n := n) (by rw [unhide HN]; exact unhide U2))
      have HV : Hid (Below w2.heap.size w2 w2.drew.drew) := hide ((Below.refl _ _).drew.drew)
      by_cases hcp : c = n
      · rw [if_pos hcp] at HD
        simp only [Nat.sub_self] at ld1
        subst hcp
        go_wp2_with fail
        refine wp_region_noPanic ?_
        refine wp_region_held_drew (S := fun w' => Bx w' w.heap.size ⟨key, til, val⟩ ∧ w'.cell? ⟨w.heap.size, 0, none⟩ = some (.int .i64 key) ∧ w'.cell? ⟨w.heap.size, 1, none⟩ = some (.int .i64 til) ∧ w'.cell? ⟨w.heap.size, 2, none⟩ = some (.int .i64 val)) (by kernel_rfl) (sBox (unhide X2).drew) (fun hHeld => ?_)
        refine Rg.t 1 38 ?_
        refine Rg.t 2 39 ?_
        refine Rg.t 3 40 ?_
        refine Rg.t 5 42 ?_
        refine Rg.t 8 45 ?_
        refine Rg.t 9 46 ?_
        refine Rg.t 10 47 ?_
        generalize hV : w2.drew.drew = V at *
        clear hV
        have XV := hide ((unhide X2).below (unhide HV))
        have hVs := (unhide HV).size
        (refine wpAnyH_ready (rs := [0, 6]) (by kernel_rfl) (by simp) ?_; refine AllReadyH.cons (o := _) rfl (fun K hK => ?_) (AllReadyH.cons (o := _) rfl (fun K hK => ?_) AllReadyH.nil))
        · go_simp
          have HV1 := hide ((unhide HV).alloc (unhide HV).size (.cells #[] 99))
          have O0 := hide (own_empty V w2.heap.size hVs)
          have X1 := hide ((unhide X2).below (unhide HV1))
          refine hK.out _ _ (sBox (unhide X1)) (fun hHeld => ?_)
          clear hK K
          (try simp only [Act.put, List.setIfInBounds_toArray, List.set_cons_zero, List.set_cons_succ])
          (refine wpAnyH_ready (rs := [4, 6]) (by kernel_rfl) (by simp) ?_; refine AllReadyH.cons (o := _) rfl (fun K hK => ?_) (AllReadyH.cons (o := _) rfl (fun K hK => ?_) AllReadyH.nil))
          · rw [if_pos (by rfl)]
            refine wp_apS (unhide O0) b 0 c c (ms.take c) (unhide lt1) (take_zero_off ((unhide RO).below (unhide HV1)) c) (by rw [unhide lt1]; simp; omega) (unhide HV1).size _ _ rfl rfl rfl rfl ?_
            intro v4 w4 o4 g4
            have O4 := hide o4
            have HV4 := hide (below_own (unhide HV1) (unhide O0) g4 (Nat.le_refl _) (unhide HV1).size)
            have X4 := hide ((unhide X2).below (unhide HV4))
            clear o4 g4
            refine hK.out _ _ (sBox (unhide X4)) (fun hHeld => ?_)
            clear hK K
            (try simp only [Act.put, List.setIfInBounds_toArray, List.set_cons_zero, List.set_cons_succ])
            (refine Rg.o 6 (fun K hK => ?_); go_simp)
            have HV6 := hide ((unhide HV4).alloc (unhide HV4).size (.cells #[.int .i64 key, .int .i64 til, .int .i64 val] 99))
            have O6 := hide ((unhide O4).alloc (.cells #[.int .i64 key, .int .i64 til, .int .i64 val] 99))
            have RX := hide (rm_new w4 ⟨key, til, val⟩)
            have X6 := hide ((unhide X2).below (unhide HV6))
            refine hK.out _ _ (sBox (unhide X6)) (fun hHeld => ?_)
            clear hK K
            (try simp only [Act.put, List.setIfInBounds_toArray, List.set_cons_zero, List.set_cons_succ])
            (refine Rg.o 7 (fun K hK => ?_); rw [if_pos (by rfl)])
            refine wp_apS (unhide O6) _ 0 1 1 [⟨key, til, val⟩] rfl (unhide RX) (by simp only [List.nil_append, List.length_cons, List.length_nil]; rw [unhide lt1]; omega) (unhide HV6).size _ _ rfl rfl rfl rfl ?_
            intro v7 w7 o7 g7
            have O7 := hide o7
            have HV7 := hide (below_own (unhide HV6) (unhide O6) g7 (Nat.le_refl _) (unhide HV6).size)
            have X7 := hide ((unhide X2).below (unhide HV7))
            clear o7 g7
            refine hK.out _ _ (sBox (unhide X7)) (fun hHeld => ?_)
            clear hK K
            (try simp only [Act.put, List.setIfInBounds_toArray, List.set_cons_zero, List.set_cons_succ])
            (refine Rg.o 11 (fun K hK => ?_); rw [if_pos (by rfl)])
            refine wp_apS (unhide O7) b _ _ _ (ms.drop _) (unhide ld1) (unhide HD _ ((unhide RO).below (unhide HV7))) (by simp only [List.nil_append, List.length_append, List.length_cons, List.length_nil]; rw [unhide ld1, unhide lt1]; omega) (unhide HV7).size _ _ rfl rfl rfl rfl ?_
            intro v8 w8 o8 g8
            have HV8 := hide (below_own (unhide HV7) (unhide O7) g8 (Nat.le_refl _) (unhide HV7).size)
            have X8 := hide ((unhide X2).below (unhide HV8))
            have l8 := (lst_own rfl o8).mono (lo' := w.heap.size) (hi' := w8.heap.size) (by omega) (Nat.le_refl _)
            have HSH := hide (shp_own o8)
            rw [← unhide HE1] at l8
            have HL8 := hide l8
            clear o8 g8 l8
            refine hK.out _ _ (sBox (unhide X8)) (fun hHeld => ?_)
            clear hK K
            (try simp only [Act.put, List.setIfInBounds_toArray, List.set_cons_zero, List.set_cons_succ])
            refine Rg.t 12 4 ?_
            refine Rg.t 13 5 ?_
            refine wpAnyH_done (by kernel_rfl) (NoPanic.normal ?_) _
            have HBF := hide ((unhide HB2).trans ((unhide HV8).mono (unhide HB2).size))
            clear hHeld
            go_wp2_with fail
            go_ret2
            rw [unhide HE2]
            exact ⟨_, rfl, unhide HBF, unhide HL8, unhide HSH⟩
          · go_simp
            have HV5 := hide ((unhide HV1).alloc (unhide HV1).size (.cells #[.int .i64 key, .int .i64 til, .int .i64 val] 99))
            have O5 := hide ((unhide O0).alloc (.cells #[.int .i64 key, .int .i64 til, .int .i64 val] 99))
            have RX0 := rm_new (V.alloc (.cells #[] 99)) ⟨key, til, val⟩
            simp only [World.size_alloc] at RX0
            have X5 := hide ((unhide X2).below (unhide HV5))
            have RX5 := hide RX0
            clear RX0
            refine hK.out _ _ (sBox (unhide X5)) (fun hHeld => ?_)
            clear hK K
            (try simp only [Act.put, List.setIfInBounds_toArray, List.set_cons_zero, List.set_cons_succ])
            (refine Rg.o 4 (fun K hK => ?_); rw [if_pos (by rfl)])
            refine wp_apS (unhide O5) b 0 c c (ms.take c) (unhide lt1) (take_zero_off ((unhide RO).below (unhide HV5)) c) (by rw [unhide lt1]; simp; omega) (unhide HV5).size _ _ rfl rfl rfl rfl ?_
            intro v4 w4 o4 g4
            have O6 := hide o4
            have HV6 := hide (below_own (unhide HV5) (unhide O5) g4 (Nat.le_refl _) (unhide HV5).size)
            have RX := hide (rm_grown (unhide RX5) g4 (by simp [Value.ownBlock]))
            have X6 := hide ((unhide X2).below (unhide HV6))
            clear o4 g4
            refine hK.out _ _ (sBox (unhide X6)) (fun hHeld => ?_)
            clear hK K
            (try simp only [Act.put, List.setIfInBounds_toArray, List.set_cons_zero, List.set_cons_succ])
            (refine Rg.o 7 (fun K hK => ?_); rw [if_pos (by rfl)])
            refine wp_apS (unhide O6) _ 0 1 1 [⟨key, til, val⟩] rfl (unhide RX) (by simp only [List.nil_append, List.length_cons, List.length_nil]; rw [unhide lt1]; omega) (unhide HV6).size _ _ rfl rfl rfl rfl ?_
            intro v7 w7 o7 g7
            have O7 := hide o7
            have HV7 := hide (below_own (unhide HV6) (unhide O6) g7 (Nat.le_refl _) (unhide HV6).size)
            have X7 := hide ((unhide X2).below (unhide HV7))
            clear o7 g7
            refine hK.out _ _ (sBox (unhide X7)) (fun hHeld => ?_)
            clear hK K
            (try simp only [Act.put, List.setIfInBounds_toArray, List.set_cons_zero, List.set_cons_succ])
            (refine Rg.o 11 (fun K hK => ?_); rw [if_pos (by rfl)])
            refine wp_apS (unhide O7) b _ _ _ (ms.drop _) (unhide ld1) (unhide HD _ ((unhide RO).below (unhide HV7))) (by simp only [List.nil_append, List.length_append, List.length_cons, List.length_nil]; rw [unhide ld1, unhide lt1]; omega) (unhide HV7).size _ _ rfl rfl rfl rfl ?_
            intro v8 w8 o8 g8
            have HV8 := hide (below_own (unhide HV7) (unhide O7) g8 (Nat.le_refl _) (unhide HV7).size)
            have X8 := hide ((unhide X2).below (unhide HV8))
            have l8 := (lst_own rfl o8).mono (lo' := w.heap.size) (hi' := w8.heap.size) (by omega) (Nat.le_refl _)
            have HSH := hide (shp_own o8)
            rw [← unhide HE1] at l8
            have HL8 := hide l8
            clear o8 g8 l8
            refine hK.out _ _ (sBox (unhide X8)) (fun hHeld => ?_)
            clear hK K
            (try simp only [Act.put, List.setIfInBounds_toArray, List.set_cons_zero, List.set_cons_succ])
            refine Rg.t 12 4 ?_
            refine Rg.t 13 5 ?_
            refine wpAnyH_done (by kernel_rfl) (NoPanic.normal ?_) _
            have HBF := hide ((unhide HB2).trans ((unhide HV8).mono (unhide HB2).size))
            clear hHeld
            go_wp2_with fail
            go_ret2
            rw [unhide HE2]
            exact ⟨_, rfl, unhide HBF, unhide HL8, unhide HSH⟩
        · go_simp
          have HV1 := hide ((unhide HV).alloc (unhide HV).size (.cells #[.int .i64 key, .int .i64 til, .int .i64 val] 99))
          have RX1 := hide (rm_new V ⟨key, til, val⟩)
          have X1 := hide ((unhide X2).below (unhide HV1))
          refine hK.out _ _ (sBox (unhide X1)) (fun hHeld => ?_)
          clear hK K
          (try simp only [Act.put, List.setIfInBounds_toArray, List.set_cons_zero, List.set_cons_succ])
          (refine Rg.o 0 (fun K hK => ?_); go_simp)
          have HV5 := hide ((unhide HV1).alloc (unhide HV1).size (.cells #[] 99))
          have O50 := own_empty (V.alloc (.cells #[.int .i64 key, .int .i64 til, .int .i64 val] 99)) w2.heap.size (unhide HV1).size
          simp only [World.size_alloc] at O50
          have O5 := hide O50
          clear O50
          have X5 := hide ((unhide X2).below (unhide HV5))
          have RX5 := hide ((unhide RX1).below ((Below.refl _ _).alloc (Nat.le_refl _) (.cells #[] 99)))
          refine hK.out _ _ (sBox (unhide X5)) (fun hHeld => ?_)
          clear hK K
          (try simp only [Act.put, List.setIfInBounds_toArray, List.set_cons_zero, List.set_cons_succ])
          (refine Rg.o 4 (fun K hK => ?_); rw [if_pos (by rfl)])
          refine wp_apS (unhide O5) b 0 c c (ms.take c) (unhide lt1) (take_zero_off ((unhide RO).below (unhide HV5)) c) (by rw [unhide lt1]; simp; omega) (unhide HV5).size _ _ rfl rfl rfl rfl ?_
          intro v4 w4 o4 g4
          have O6 := hide o4
          have HV6 := hide (below_own (unhide HV5) (unhide O5) g4 (Nat.le_refl _) (unhide HV5).size)
          have RX := hide (rm_grown (unhide RX5) g4 (by simp [Value.ownBlock]))
          have X6 := hide ((unhide X2).below (unhide HV6))
          clear o4 g4
          refine hK.out _ _ (sBox (unhide X6)) (fun hHeld => ?_)
          clear hK K
          (try simp only [Act.put, List.setIfInBounds_toArray, List.set_cons_zero, List.set_cons_succ])
          (refine Rg.o 7 (fun K hK => ?_); rw [if_pos (by rfl)])
          refine wp_apS (unhide O6) _ 0 1 1 [⟨key, til, val⟩] rfl (unhide RX) (by simp only [List.nil_append, List.length_cons, List.length_nil]; rw [unhide lt1]; omega) (unhide HV6).size _ _ rfl rfl rfl rfl ?_
          intro v7 w7 o7 g7
          have O7 := hide o7
          have HV7 := hide (below_own (unhide HV6) (unhide O6) g7 (Nat.le_refl _) (unhide HV6).size)
          have X7 := hide ((unhide X2).below (unhide HV7))
          clear o7 g7
          refine hK.out _ _ (sBox (unhide X7)) (fun hHeld => ?_)
          clear hK K
          (try simp only [Act.put, List.setIfInBounds_toArray, List.set_cons_zero, List.set_cons_succ])
          (refine Rg.o 11 (fun K hK => ?_); rw [if_pos (by rfl)])
          refine wp_apS (unhide O7) b _ _ _ (ms.drop _) (unhide ld1) (unhide HD _ ((unhide RO).below (unhide HV7))) (by simp only [List.nil_append, List.length_append, List.length_cons, List.length_nil]; rw [unhide ld1, unhide lt1]; omega) (unhide HV7).size _ _ rfl rfl rfl rfl ?_
          intro v8 w8 o8 g8
          have HV8 := hide (below_own (unhide HV7) (unhide O7) g8 (Nat.le_refl _) (unhide HV7).size)
          have X8 := hide ((unhide X2).below (unhide HV8))
          have l8 := (lst_own rfl o8).mono (lo' := w.heap.size) (hi' := w8.heap.size) (by omega) (Nat.le_refl _)
          have HSH := hide (shp_own o8)
          rw [← unhide HE1] at l8
          have HL8 := hide l8
          clear o8 g8 l8
          refine hK.out _ _ (sBox (unhide X8)) (fun hHeld => ?_)
          clear hK K
          (try simp only [Act.put, List.setIfInBounds_toArray, List.set_cons_zero, List.set_cons_succ])
          refine Rg.t 12 4 ?_
          refine Rg.t 13 5 ?_
          refine wpAnyH_done (by kernel_rfl) (NoPanic.normal ?_) _
          have HBF := hide ((unhide HB2).trans ((unhide HV8).mono (unhide HB2).size))
          clear hHeld
          go_wp2_with fail
          go_ret2
          rw [unhide HE2]
          exact ⟨_, rfl, unhide HBF, unhide HL8, unhide HSH⟩
      · rw [if_neg hcp] at HD
        simp only [Nat.sub_self] at ld1
        go_wp2_with fail
        refine wp_region_noPanic ?_
        refine wp_region_held_drew (S := fun w' => Bx w' w.heap.size ⟨key, til, val⟩ ∧ w'.cell? ⟨w.heap.size, 0, none⟩ = some (.int .i64 key) ∧ w'.cell? ⟨w.heap.size, 1, none⟩ = some (.int .i64 til) ∧ w'.cell? ⟨w.heap.size, 2, none⟩ = some (.int .i64 val)) (by kernel_rfl) (sBox (unhide X2).drew) (fun hHeld => ?_)
        refine Rg.t 1 38 ?_
        refine Rg.t 2 39 ?_
        refine Rg.t 3 40 ?_
        refine Rg.t 5 42 ?_
        refine Rg.t 8 45 ?_
        refine Rg.t 9 46 ?_
        refine Rg.t 10 47 ?_
        generalize hV : w2.drew.drew = V at *
        clear hV
        have XV := hide ((unhide X2).below (unhide HV))
        have hVs := (unhide HV).size
        (refine wpAnyH_ready (rs := [0, 6]) (by kernel_rfl) (by simp) ?_; refine AllReadyH.cons (o := _) rfl (fun K hK => ?_) (AllReadyH.cons (o := _) rfl (fun K hK => ?_) AllReadyH.nil))
        · go_simp
          have HV1 := hide ((unhide HV).alloc (unhide HV).size (.cells #[] 99))
          have O0 := hide (own_empty V w2.heap.size hVs)
          have X1 := hide ((unhide X2).below (unhide HV1))
          refine hK.out _ _ (sBox (unhide X1)) (fun hHeld => ?_)
          clear hK K
          (try simp only [Act.put, List.setIfInBounds_toArray, List.set_cons_zero, List.set_cons_succ])
          (refine wpAnyH_ready (rs := [4, 6]) (by kernel_rfl) (by simp) ?_; refine AllReadyH.cons (o := _) rfl (fun K hK => ?_) (AllReadyH.cons (o := _) rfl (fun K hK => ?_) AllReadyH.nil))
          · rw [if_pos (by rfl)]
            refine wp_apS (unhide O0) b 0 n c (ms.take n) (unhide lt1) (take_zero_off ((unhide RO).below (unhide HV1)) n) (by rw [unhide lt1]; simp; omega) (unhide HV1).size _ _ rfl rfl rfl rfl ?_
            intro v4 w4 o4 g4
            have O4 := hide o4
            have HV4 := hide (below_own (unhide HV1) (unhide O0) g4 (Nat.le_refl _) (unhide HV1).size)
            have X4 := hide ((unhide X2).below (unhide HV4))
            clear o4 g4
            refine hK.out _ _ (sBox (unhide X4)) (fun hHeld => ?_)
            clear hK K
            (try simp only [Act.put, List.setIfInBounds_toArray, List.set_cons_zero, List.set_cons_succ])
            (refine Rg.o 6 (fun K hK => ?_); go_simp)
            have HV6 := hide ((unhide HV4).alloc (unhide HV4).size (.cells #[.int .i64 key, .int .i64 til, .int .i64 val] 99))
            have O6 := hide ((unhide O4).alloc (.cells #[.int .i64 key, .int .i64 til, .int .i64 val] 99))
            have RX := hide (rm_new w4 ⟨key, til, val⟩)
            have X6 := hide ((unhide X2).below (unhide HV6))
            refine hK.out _ _ (sBox (unhide X6)) (fun hHeld => ?_)
            clear hK K
            (try simp only [Act.put, List.setIfInBounds_toArray, List.set_cons_zero, List.set_cons_succ])
            (refine Rg.o 7 (fun K hK => ?_); rw [if_pos (by rfl)])
            refine wp_apS (unhide O6) _ 0 1 1 [⟨key, til, val⟩] rfl (unhide RX) (by simp only [List.nil_append, List.length_cons, List.length_nil]; rw [unhide lt1]; omega) (unhide HV6).size _ _ rfl rfl rfl rfl ?_
            intro v7 w7 o7 g7
            have O7 := hide o7
            have HV7 := hide (below_own (unhide HV6) (unhide O6) g7 (Nat.le_refl _) (unhide HV6).size)
            have X7 := hide ((unhide X2).below (unhide HV7))
            clear o7 g7
            refine hK.out _ _ (sBox (unhide X7)) (fun hHeld => ?_)
            clear hK K
            (try simp only [Act.put, List.setIfInBounds_toArray, List.set_cons_zero, List.set_cons_succ])
            (refine Rg.o 11 (fun K hK => ?_); rw [if_pos (by rfl)])
            refine wp_apS (unhide O7) b _ _ _ (ms.drop _) (unhide ld1) (unhide HD _ ((unhide RO).below (unhide HV7))) (by simp only [List.nil_append, List.length_append, List.length_cons, List.length_nil]; rw [unhide ld1, unhide lt1]; omega) (unhide HV7).size _ _ rfl rfl rfl rfl ?_
            intro v8 w8 o8 g8
            have HV8 := hide (below_own (unhide HV7) (unhide O7) g8 (Nat.le_refl _) (unhide HV7).size)
            have X8 := hide ((unhide X2).below (unhide HV8))
            have l8 := (lst_own rfl o8).mono (lo' := w.heap.size) (hi' := w8.heap.size) (by omega) (Nat.le_refl _)
            have HSH := hide (shp_own o8)
            rw [← unhide HE1] at l8
            have HL8 := hide l8
            clear o8 g8 l8
            refine hK.out _ _ (sBox (unhide X8)) (fun hHeld => ?_)
            clear hK K
            (try simp only [Act.put, List.setIfInBounds_toArray, List.set_cons_zero, List.set_cons_succ])
            refine Rg.t 12 4 ?_
            refine Rg.t 13 5 ?_
            refine wpAnyH_done (by kernel_rfl) (NoPanic.normal ?_) _
            have HBF := hide ((unhide HB2).trans ((unhide HV8).mono (unhide HB2).size))
            clear hHeld
            go_wp2_with fail
            go_ret2
            rw [unhide HE2]
            exact ⟨_, rfl, unhide HBF, unhide HL8, unhide HSH⟩
          · go_simp
            have HV5 := hide ((unhide HV1).alloc (unhide HV1).size (.cells #[.int .i64 key, .int .i64 til, .int .i64 val] 99))
            have O5 := hide ((unhide O0).alloc (.cells #[.int .i64 key, .int .i64 til, .int .i64 val] 99))
            have RX0 := rm_new (V.alloc (.cells #[] 99)) ⟨key, til, val⟩
            simp only [World.size_alloc] at RX0
            have X5 := hide ((unhide X2).below (unhide HV5))
            have RX5 := hide RX0
            clear RX0
            refine hK.out _ _ (sBox (unhide X5)) (fun hHeld => ?_)
            clear hK K
            (try simp only [Act.put, List.setIfInBounds_toArray, List.set_cons_zero, List.set_cons_succ])
            (refine Rg.o 4 (fun K hK => ?_); rw [if_pos (by rfl)])
            refine wp_apS (unhide O5) b 0 n c (ms.take n) (unhide lt1) (take_zero_off ((unhide RO).below (unhide HV5)) n) (by rw [unhide lt1]; simp; omega) (unhide HV5).size _ _ rfl rfl rfl rfl ?_
            intro v4 w4 o4 g4
            have O6 := hide o4
            have HV6 := hide (below_own (unhide HV5) (unhide O5) g4 (Nat.le_refl _) (unhide HV5).size)
            have RX := hide (rm_grown (unhide RX5) g4 (by simp [Value.ownBlock]))
            have X6 := hide ((unhide X2).below (unhide HV6))
            clear o4 g4
            refine hK.out _ _ (sBox (unhide X6)) (fun hHeld => ?_)
            clear hK K
            (try simp only [Act.put, List.setIfInBounds_toArray, List.set_cons_zero, List.set_cons_succ])
            (refine Rg.o 7 (fun K hK => ?_); rw [if_pos (by rfl)])
            refine wp_apS (unhide O6) _ 0 1 1 [⟨key, til, val⟩] rfl (unhide RX) (by simp only [List.nil_append, List.length_cons, List.length_nil]; rw [unhide lt1]; omega) (unhide HV6).size _ _ rfl rfl rfl rfl ?_
            intro v7 w7 o7 g7
            have O7 := hide o7
            have HV7 := hide (below_own (unhide HV6) (unhide O6) g7 (Nat.le_refl _) (unhide HV6).size)
            have X7 := hide ((unhide X2).below (unhide HV7))
            clear o7 g7
            refine hK.out _ _ (sBox (unhide X7)) (fun hHeld => ?_)
            clear hK K
            (try simp only [Act.put, List.setIfInBounds_toArray, List.set_cons_zero, List.set_cons_succ])
            (refine Rg.o 11 (fun K hK => ?_); rw [if_pos (by rfl)])
            refine wp_apS (unhide O7) b _ _ _ (ms.drop _) (unhide ld1) (unhide HD _ ((unhide RO).below (unhide HV7))) (by simp only [List.nil_append, List.length_append, List.length_cons, List.length_nil]; rw [unhide ld1, unhide lt1]; omega) (unhide HV7).size _ _ rfl rfl rfl rfl ?_
            intro v8 w8 o8 g8
            have HV8 := hide (below_own (unhide HV7) (unhide O7) g8 (Nat.le_refl _) (unhide HV7).size)
            have X8 := hide ((unhide X2).below (unhide HV8))
            have l8 := (lst_own rfl o8).mono (lo' := w.heap.size) (hi' := w8.heap.size) (by omega) (Nat.le_refl _)
            have HSH := hide (shp_own o8)
            rw [← unhide HE1] at l8
            have HL8 := hide l8
            clear o8 g8 l8
            refine hK.out _ _ (sBox (unhide X8)) (fun hHeld => ?_)
            clear hK K
            (try simp only [Act.put, List.setIfInBounds_toArray, List.set_cons_zero, List.set_cons_succ])
            refine Rg.t 12 4 ?_
            refine Rg.t 13 5 ?_
            refine wpAnyH_done (by kernel_rfl) (NoPanic.normal ?_) _
            have HBF := hide ((unhide HB2).trans ((unhide HV8).mono (unhide HB2).size))
            clear hHeld
            go_wp2_with fail
            go_ret2
            rw [unhide HE2]
            exact ⟨_, rfl, unhide HBF, unhide HL8, unhide HSH⟩
        · go_simp
          have HV1 := hide ((unhide HV).alloc (unhide HV).size (.cells #[.int .i64 key, .int .i64 til, .int .i64 val] 99))
          have RX1 := hide (rm_new V ⟨key, til, val⟩)
          have X1 := hide ((unhide X2).below (unhide HV1))
          refine hK.out _ _ (sBox (unhide X1)) (fun hHeld => ?_)
          clear hK K
          (try simp only [Act.put, List.setIfInBounds_toArray, List.set_cons_zero, List.set_cons_succ])
          (refine Rg.o 0 (fun K hK => ?_); go_simp)
          have HV5 := hide ((unhide HV1).alloc (unhide HV1).size (.cells #[] 99))
          have O50 := own_empty (V.alloc (.cells #[.int .i64 key, .int .i64 til, .int .i64 val] 99)) w2.heap.size (unhide HV1).size
          simp only [World.size_alloc] at O50
          have O5 := hide O50
          clear O50
          have X5 := hide ((unhide X2).below (unhide HV5))
          have RX5 := hide ((unhide RX1).below ((Below.refl _ _).alloc (Nat.le_refl _) (.cells #[] 99)))
          refine hK.out _ _ (sBox (unhide X5)) (fun hHeld => ?_)
          clear hK K
          (try simp only [Act.put, List.setIfInBounds_toArray, List.set_cons_zero, List.set_cons_succ])
          (refine Rg.o 4 (fun K hK => ?_); rw [if_pos (by rfl)])
          refine wp_apS (unhide O5) b 0 n c (ms.take n) (unhide lt1) (take_zero_off ((unhide RO).below (unhide HV5)) n) (by rw [unhide lt1]; simp; omega) (unhide HV5).size _ _ rfl rfl rfl rfl ?_
          intro v4 w4 o4 g4
          have O6 := hide o4
          have HV6 := hide (below_own (unhide HV5) (unhide O5) g4 (Nat.le_refl _) (unhide HV5).size)
          have RX := hide (rm_grown (unhide RX5) g4 (by simp [Value.ownBlock]))
          have X6 := hide ((unhide X2).below (unhide HV6))
          clear o4 g4
          refine hK.out _ _ (sBox (unhide X6)) (fun hHeld => ?_)
          clear hK K
          (try simp only [Act.put, List.setIfInBounds_toArray, List.set_cons_zero, List.set_cons_succ])
          (refine Rg.o 7 (fun K hK => ?_); rw [if_pos (by rfl)])
          refine wp_apS (unhide O6) _ 0 1 1 [⟨key, til, val⟩] rfl (unhide RX) (by simp only [List.nil_append, List.length_cons, List.length_nil]; rw [unhide lt1]; omega) (unhide HV6).size _ _ rfl rfl rfl rfl ?_
          intro v7 w7 o7 g7
          have O7 := hide o7
          have HV7 := hide (below_own (unhide HV6) (unhide O6) g7 (Nat.le_refl _) (unhide HV6).size)
          have X7 := hide ((unhide X2).below (unhide HV7))
          clear o7 g7
          refine hK.out _ _ (sBox (unhide X7)) (fun hHeld => ?_)
          clear hK K
          (try simp only [Act.put, List.setIfInBounds_toArray, List.set_cons_zero, List.set_cons_succ])
          (refine Rg.o 11 (fun K hK => ?_); rw [if_pos (by rfl)])
          refine wp_apS (unhide O7) b _ _ _ (ms.drop _) (unhide ld1) (unhide HD _ ((unhide RO).below (unhide HV7))) (by simp only [List.nil_append, List.length_append, List.length_cons, List.length_nil]; rw [unhide ld1, unhide lt1]; omega) (unhide HV7).size _ _ rfl rfl rfl rfl ?_
          intro v8 w8 o8 g8
          have HV8 := hide (below_own (unhide HV7) (unhide O7) g8 (Nat.le_refl _) (unhide HV7).size)
          have X8 := hide ((unhide X2).below (unhide HV8))
          have l8 := (lst_own rfl o8).mono (lo' := w.heap.size) (hi' := w8.heap.size) (by omega) (Nat.le_refl _)
          have HSH := hide (shp_own o8)
          rw [← unhide HE1] at l8
          have HL8 := hide l8
          clear o8 g8 l8
          refine hK.out _ _ (sBox (unhide X8)) (fun hHeld => ?_)
          clear hK K
          (try simp only [Act.put, List.setIfInBounds_toArray, List.set_cons_zero, List.set_cons_succ])
          refine Rg.t 12 4 ?_
          refine Rg.t 13 5 ?_
          refine wpAnyH_done (by kernel_rfl) (NoPanic.normal ?_) _
          have HBF := hide ((unhide HB2).trans ((unhide HV8).mono (unhide HB2).size))
          clear hHeld
          go_wp2_with fail
          go_ret2
          rw [unhide HE2]
          exact ⟨_, rfl, unhide HBF, unhide HL8, unhide HSH⟩
end St
end Go.Proofs.YtfooahhdikobeaaGreat
namespace Go.Proofs.YtfooahhdikobeaaGreat
open Go.ChangeShapes Go.WideShapes Go.ChangeAt Go.RowKit
set_option linter.unusedVariables false
set_option linter.unusedSimpArgs false
set_option maxRecDepth 100000
attribute [local go_sem ↓] Go.wp_at_zero Go.wp_at_succ
namespace Gr
open W1 Tu St Tw
/-- A slice that lies somewhere. -/
def Fm (v : Value) (n : Nat) : Prop := ∃ g c, v = .slice (some ⟨g, 0, none⟩) n c
theorem fm_lst {w : World} {v : Value} {ms : List R} {lo hi : Nat} (h : LstV w v ms lo hi) (h0 : 0 < ms.length) : Fm v ms.length := by
  obtain ⟨a, c, rfl, h⟩ := h
  rcases h with e | ⟨g, rfl, _⟩
  · rw [e] at h0; simp at h0
  · exact ⟨g, c, rfl⟩
theorem fm_lt {w : World} {v : Value} {ms : List R} {lo hi : Nat} (h : LstV w v ms lo hi) : RM w (match v with | .slice a _ _ => a | _ => none) ms := by
  obtain ⟨a, c, rfl, h⟩ := h
  exact h.rm
theorem l07KeyG (v a : Int) (w : World) (h0 : 0 ≤ v) (h1 : v ≤ 1000000) (h2 : 0 ≤ a) (h3 : a ≤ 1000000) : Calls Tryz.prog 115 #[.int .i64 v, .int .i64 a] w fun e w' => e = .returned (.int .i64 (100 * v + a)) ∧ w' = w := by
  go_enter Tryz.func115, Tryz.ntmps115
  go_wp2
  go_ret
  exact ⟨rfl, rfl⟩
theorem sLk {w : World} {B : Nat} {ad hd sy ci co wl : Int} (h : Lk.At w B 0 ⟨ad, hd, sy, ci, co, wl⟩) : Lk.At w B 0 ⟨ad, hd, sy, ci, co, wl⟩ ∧ w.cell? ⟨B, 0, none⟩ = some (.int .i64 ad) ∧ w.cell? ⟨B, 4, none⟩ = some (.int .i64 co) := by
  refine ⟨h, h.1, ?_⟩
  have := h.2.2.2.2.1
  simpa using this
theorem lk_new (w : World) (ad hd sy ci co wl : Int) : Lk.At (w.alloc (.cells #[.int .i64 ad, .int .i64 hd, .int .i64 sy, .int .i64 ci, .int .i64 co, .int .i64 wl] 166)) w.heap.size 0 ⟨ad, hd, sy, ci, co, wl⟩ := by
  refine ⟨?_, ?_, ?_, ?_, ?_, ?_⟩ <;> simp [World.cell?_alloc_new]
theorem lk_drew {w : World} {B o : Nat} {m : Lk.R} (h : Lk.At w B o m) : Lk.At w.drew B o m := h
/-- The reasons why a link is none of the graph's. -/
theorem lk_off {me now ad hd sy ci co wl st : Int} (hst : Ln.statusV ⟨ad, hd, sy, ci, co, wl⟩ now = st) (h : lkOn me now ⟨ad, hd, sy, ci, co, wl⟩ = false) :
    (st == 2) = false ∨ (st == 2) = true ∧ ((ad != me) = false ∨ (ad != me) = true ∧ ¬ 0 < co) := by
  unfold lkOn at h
  dsimp only at h
  rw [hst] at h
  cases e1 : (st == 2)
  · exact .inl rfl
  · right; refine ⟨rfl, ?_⟩
    cases e2 : (ad != me)
    · exact .inl rfl
    · right; refine ⟨rfl, ?_⟩
      rw [e1, e2] at h
      simpa using h
theorem lk_on {me now ad hd sy ci co wl st : Int} (hst : Ln.statusV ⟨ad, hd, sy, ci, co, wl⟩ now = st) (h : lkOn me now ⟨ad, hd, sy, ci, co, wl⟩ = true) :
    (st == 2) = true ∧ (ad != me) = true ∧ 0 < co := by
  unfold lkOn at h
  dsimp only at h
  rw [hst, Bool.and_eq_true, Bool.and_eq_true, decide_eq_true_eq] at h
  exact ⟨h.2.2, h.1, h.2.1⟩
theorem ed_off {me now key til val : Int} (h : edOn me now ⟨key, til, val⟩ = false) (h0 : 0 ≤ key) : ¬ now < til ∨ now < til ∧ ((key / 100 != me) = false ∨ (key / 100 != me) = true ∧ (key % 100 != me) = false) := by
  unfold edOn hv ha at h
  dsimp only at h
  rw [Int.tdiv_eq_ediv_of_nonneg h0, Int.tmod_eq_emod_of_nonneg h0] at h
  by_cases e1 : now < til
  · right; refine ⟨e1, ?_⟩
    rw [decide_eq_true e1, Bool.true_and] at h
    cases e2 : (key / 100 != me)
    · exact .inl rfl
    · right; refine ⟨rfl, ?_⟩
      rw [e2, Bool.true_and] at h; exact h
  · exact .inl e1
theorem ed_on {me now key til val : Int} (h : edOn me now ⟨key, til, val⟩ = true) (h0 : 0 ≤ key) : now < til ∧ (key / 100 != me) = true ∧ (key % 100 != me) = true := by
  unfold edOn hv ha at h
  dsimp only at h
  rw [Int.tdiv_eq_ediv_of_nonneg h0, Int.tmod_eq_emod_of_nonneg h0, Bool.and_eq_true, Bool.and_eq_true, decide_eq_true_eq] at h
  exact h
set_option maxHeartbeats 8000000 in
theorem l11Graph (me : Int) (a : Option Addr) (ls : List Lk.R) (ca : Nat) (b : Option Addr) (ss : List So.R) (cb : Nat) (c : Option Addr) (es : List R) (cc : Nat) (now : Int) (w : World) (hc : graC me ls ss es = 0) (hr : Lk.RM w a ls) (hr' : RM w c es) :
    Calls Tryz.prog 164 #[.int .i64 me, .slice a ls.length ca, .agg #[.slice b ss.length cb, .slice c es.length cc], .int .i64 now] w fun e w' => ∃ v, e = .returned v ∧ Below w.heap.size w w' ∧ LstV w' v (graph me ls es now) w.heap.size w'.heap.size := by
  obtain ⟨hlb, hme, htop⟩ := gra_zero hc
  have h8 := Ln.links_len hlb
  have h62 := two_len (Tp.top_two htop)
  have HLB := hide hlb
  have HTE := hide (Tp.top_two htop)
  have HT1 := hide (grL_two (now := now) hme hlb)
  have HT2 := hide (grE_two (me := me) (now := now) (unhide HT1 _ (Nat.le_refl _)) (unhide HTE))
  have HGR : Hid (graph me ls es now = grE me now (grL me now ls ls.length) es es.length) := hide rfl
  rw [unhide HGR]
  clear hc hlb htop HGR
  have P0 : Hid (Below w.heap.size w (w.alloc (.cells #[.slice b ss.length cb, .slice c es.length cc] 80))) := hide ((Below.refl _ _).alloc (Nat.le_refl _) _)
  have X0 : Hid (Tp.Bx2 (w.alloc (.cells #[.slice b ss.length cb, .slice c es.length cc] 80)) w.heap.size (.slice b ss.length cb) (.slice c es.length cc)) := hide (Tp.bx2_new w _ _ _)
  have R0 := hide (hr.below (unhide P0))
  have Q0 := hide (hr'.below (unhide P0))
  have E0 : Hid ((w.alloc (.cells #[.slice b ss.length cb, .slice c es.length cc] 80)).heap.size = w.heap.size + 1) := hide (by simp)
  have L0 : Hid (LstV ((w.alloc (.cells #[.slice b ss.length cb, .slice c es.length cc] 80)).alloc (.cells #[] 99)) (.slice (some ⟨w.heap.size + 1, 0, none⟩) 0 0) (grL me now ls 0) (w.alloc (.cells #[.slice b ss.length cb, .slice c es.length cc] 80)).heap.size ((w.alloc (.cells #[.slice b ss.length cb, .slice c es.length cc] 80)).alloc (.cells #[] 99)).heap.size) := hide (by have := lst_own (ms := ([] : List R)) rfl (own_empty (w.alloc (.cells #[.slice b ss.length cb, .slice c es.length cc] 80)) (w.alloc (.cells #[.slice b ss.length cb, .slice c es.length cc] 80)).heap.size (Nat.le_refl _)); rw [unhide E0] at this ⊢; exact this)
  have F0 : Hid (Fm (.slice (some ⟨w.heap.size + 1, 0, none⟩) 0 0) (grL me now ls 0).length) := hide ⟨_, _, rfl⟩
  have P1 : Hid (Below (w.alloc (.cells #[.slice b ss.length cb, .slice c es.length cc] 80)).heap.size (w.alloc (.cells #[.slice b ss.length cb, .slice c es.length cc] 80)) ((w.alloc (.cells #[.slice b ss.length cb, .slice c es.length cc] 80)).alloc (.cells #[] 99))) := hide ((Below.refl _ _).alloc (Nat.le_refl _) _)
  clear hr hr'
  generalize hN : ls.length = N at *
  have HN := hide hN
  clear hN
  generalize hM : es.length = M at *
  have HM := hide hM
  clear hM
  go_enter Tryz.func164, Tryz.ntmps164
  go_wp2_with fail
  generalize hW : w.alloc (.cells #[.slice b ss.length cb, .slice c M cc] 80) = W1 at *
  clear hW
  go_loopw [9, 10] (fun v i wr => ∃ j : Nat, j ≤ N ∧ i = .int .i64 j ∧ Hid (LstV wr v (grL me now ls j) W1.heap.size wr.heap.size) ∧ Hid (Fm v (grL me now ls j).length) ∧ Hid (Below W1.heap.size W1 wr)) (fun _ i _ => N - (intOf i).toNat)
  case atStart => exact ⟨0, by omega, rfl, L0, F0, P1⟩
  case round =>
    obtain ⟨j, hj, rfl, hls, hfm, hbl⟩ := hrel
    have hbs := (unhide hbl).size
    by_cases hlt : (j : Int) < (N : Int)
    · have k0 : (0 : Int) ≤ (j : Int) := by omega
      have hlen : j < ls.length := by rw [unhide HN]; omega
      obtain ⟨g, off, rfl⟩ := (unhide R0).form (by omega)
      have hA := ((unhide R0).below (unhide hbl)).at hlen
      have HY : Hid (lkOn me now (ls.getD j Lk.R.zero) = true → grL me now ls (j + 1) = putL (grL me now ls j) (lkT me (ls.getD j Lk.R.zero))) := hide (fun h => grL_yes hlen h)
      have HZ : Hid (lkOn me now (ls.getD j Lk.R.zero) = false → grL me now ls (j + 1) = grL me now ls j) := hide (fun h => grL_no hlen h)
      have had := Ln.ok_ad (Ri.all_ok (unhide HLB) hlen)
      have HTJ := hide (unhide HT1 j (by omega))
      generalize ls.getD j Lk.R.zero = m at *
      obtain ⟨ad, hd, sy, ci, co, wl⟩ := m
      obtain ⟨c0, c1, c2, c3, c4, c5⟩ := hA
      dsimp only at c0 c1 c2 c3 c4 c5 had
      have HX := hide (lk_new wr ad hd sy ci co wl)
      have B1 : Hid (Below wr.heap.size wr (wr.alloc (.cells #[.int .i64 ad, .int .i64 hd, .int .i64 sy, .int .i64 ci, .int .i64 co, .int .i64 wl] 166))) := hide ((Below.refl _ _).alloc (Nat.le_refl _) _)
      have HL1 := hide ((unhide hls).below (unhide B1))
      have HB1 := hide ((unhide hbl).trans ((unhide B1).mono (unhide hbl).size))
      have hs1 := (unhide B1).size
      have KS := hide (Ln.l06Status ad hd sy ci co wl now)
      obtain ⟨st, hst⟩ : ∃ st, Ln.statusV ⟨ad, hd, sy, ci, co, wl⟩ now = st := ⟨_, rfl⟩
      rw [hst] at KS
      have HST := hide hst
      clear hst B1
      go_wp2_with fail
      generalize hW0 : wr.alloc (.cells #[.int .i64 ad, .int .i64 hd, .int .i64 sy, .int .i64 ci, .int .i64 co, .int .i64 wl] 166) = W0 at *
      clear hW0 c0 c1 c2 c3 c4 c5
      refine (unhide KS _).mono ?_
      rintro e w2 ⟨rfl, b2⟩
      have HX2 := hide ((unhide HX).below b2)
      have HL2 := hide ((unhide HL1).below b2)
      have HB2 := hide ((unhide HB1).trans (b2.mono (unhide HB1).size))
      have hs2 : W0.heap.size ≤ w2.heap.size := b2.size
      clear b2 HX HL1 HB1
      obtain ⟨x0, x4⟩ := (sLk (unhide HX2)).2
      cases hon : lkOn me now ⟨ad, hd, sy, ci, co, wl⟩
      · have E1 := unhide HZ hon
        have HL3 : Hid (LstV w2 u9 (grL me now ls (j + 1)) W1.heap.size w2.heap.size) := hide (by rw [E1]; exact (unhide HL2).mono (Nat.le_refl _) (by omega))
        have HF3 : Hid (Fm u9 (grL me now ls (j + 1)).length) := hide (by rw [E1]; exact unhide hfm)
        have hcs := lk_off (unhide HST) hon
        clear E1 HY HZ hon
        rcases hcs with q1 | ⟨q1, q2 | ⟨q2, q3⟩⟩
        all_goals
          go_wp2_with fail
          go_roundw
          case rel => exact ⟨j + 1, by omega, by go_num, HL3, HF3, HB2⟩
          case measure => simp [intOf]; omega
      · have HE1 := hide (unhide HY hon)
        obtain ⟨q1, q2, q3⟩ := lk_on (unhide HST) hon
        clear HY HZ hon
        have hl1 := two_len (unhide HTJ)
        obtain ⟨L, hL⟩ : ∃ L, grL me now ls j = L := ⟨_, rfl⟩
        rw [hL] at HE1 HTJ HL2 hfm hl1
        clear hL hls
        obtain ⟨gv, cv, ev⟩ := unhide hfm
        subst ev
        have HRL : Hid (RM w2 (some ⟨gv, 0, none⟩) L) := hide (fm_lt (unhide HL2))
        have HNE := hide (put_ne L (lkT me ⟨ad, hd, sy, ci, co, wl⟩))
        go_wp2_with fail
        clear x0 x4
        refine wp_region_noPanic ?_
        refine wp_region_held_drew (S := fun w' => Lk.At w' wr.heap.size 0 ⟨ad, hd, sy, ci, co, wl⟩ ∧ w'.cell? ⟨wr.heap.size, 0, none⟩ = some (.int .i64 ad) ∧ w'.cell? ⟨wr.heap.size, 4, none⟩ = some (.int .i64 co)) (by kernel_rfl) (sLk (lk_drew (unhide HX2))) (fun hHeld => ?_)
        refine Rg.t 0 41 ?_
        refine Rg.t 1 42 ?_
        refine Rg.t 2 43 ?_
        refine Rg.t 3 44 ?_
        refine Rg.t 5 46 ?_
        refine Rg.t 6 47 ?_
        (refine Rg.o 4 (fun K hK => ?_); go_simp)
        refine (l07KeyG me ad _ (by omega) (by omega) (by omega) (by omega)).mono ?_
        rintro e w3 ⟨rfl, hw3⟩
        have b3 : Below w2.heap.size w2 w3 := by rw [hw3]; exact (Below.refl _ _).drew
        have HX3 := hide ((unhide HX2).below b3)
        have HR3 := hide ((unhide HRL).below b3)
        have HB3 := hide ((unhide HB2).trans (b3.mono (unhide HB2).size))
        clear b3 hw3 hHeld
        refine hK.out _ _ (sLk (unhide HX3)) (fun hHeld => ?_)
        clear hK K
        (try simp only [Act.put, List.setIfInBounds_toArray, List.set_cons_zero, List.set_cons_succ])
        refine Rg.t 7 48 ?_
        (refine Rg.o 8 (fun K hK => ?_); go_simp)
        refine (l03PutC gv 0 L cv (100 * me + ad) 0 co _ (by omega) (unhide HR3)).mono ?_
        rintro e w4 ⟨v4, rfl, b4, hl4, hs4⟩
        have HX4 := hide ((unhide HX3).below b4)
        have HB4 := hide ((unhide HB3).trans (b4.mono (unhide HB3).size))
        have HL4 : Hid (LstV w4 v4 (grL me now ls (j + 1)) W1.heap.size w4.heap.size) := hide (by rw [unhide HE1]; exact hl4.mono (unhide HB3).size (Nat.le_refl _))
        have HF4 : Hid (Fm v4 (grL me now ls (j + 1)).length) := hide (fm_lst (unhide HL4) (by rw [unhide HE1]; exact unhide HNE))
        clear b4 hl4 hs4 hHeld
        generalize putC L ⟨100 * me + ad, 0, co⟩ = pc
        refine hK.out _ _ (sLk (unhide HX4)) (fun hHeld => ?_)
        clear hK K
        (try simp only [Act.put, List.setIfInBounds_toArray, List.set_cons_zero, List.set_cons_succ])
        refine Rg.t 9 40 ?_
        refine Rg.t 10 50 ?_
        refine Rg.t 11 51 ?_
        refine Rg.t 12 9 ?_
        refine wpAnyH_done (by kernel_rfl) (NoPanic.normal ?_) _
        clear hHeld
        go_wp2_with fail
        go_roundw
        case rel => exact ⟨j + 1, by omega, by go_num, HL4, HF4, HB4⟩
        case measure => simp [intOf]; omega
    · obtain rfl : j = N := by omega
      have L1 : Hid (LstV wr u9 (grE me now (grL me now ls j) es 0) W1.heap.size wr.heap.size) := hls
      have F1 : Hid (Fm u9 (grE me now (grL me now ls j) es 0).length) := hfm
      clear hls hfm
      obtain ⟨z0, z1⟩ := (unhide X0).below (unhide hbl)
      go_wp2_with fail
      clear z0 z1
      go_loopw [9, 12] (fun v i wr => ∃ k : Nat, k ≤ M ∧ i = .int .i64 k ∧ Hid (LstV wr v (grE me now (grL me now ls j) es k) W1.heap.size wr.heap.size) ∧ Hid (Fm v (grE me now (grL me now ls j) es k).length) ∧ Hid (Below W1.heap.size W1 wr)) (fun _ i _ => M - (intOf i).toNat)
      case atStart => exact ⟨0, by omega, rfl, L1, F1, hbl⟩
      case round =>
        obtain ⟨k, hk, rfl, hls, hfm, hbl⟩ := hrel
        have hbs := (unhide hbl).size
        obtain ⟨z0, z1⟩ := (unhide X0).below (unhide hbl)
        by_cases hlt2 : (k : Int) < (M : Int)
        · have k0 : (0 : Int) ≤ (k : Int) := by omega
          have hlen : k < es.length := by rw [unhide HM]; omega
          obtain ⟨g, off, rfl⟩ := (unhide Q0).form (by omega)
          have hA := ((unhide Q0).below (unhide hbl)).at hlen
          have HY : Hid (edOn me now (es.getD k R.zero) = true → grE me now (grL me now ls j) es (k + 1) = putL (grE me now (grL me now ls j) es k) (edT (es.getD k R.zero))) := hide (fun h => grE_yes hlen h)
          have HZ : Hid (edOn me now (es.getD k R.zero) = false → grE me now (grL me now ls j) es (k + 1) = grE me now (grL me now ls j) es k) := hide (fun h => grE_no hlen h)
          have hbd := ok_bounds (setB_ok (two_set (unhide HTE)) hlen)
          have HTJ := hide (unhide HT2 k (by omega))
          generalize es.getD k R.zero = m at *
          obtain ⟨key, til, val⟩ := m
          obtain ⟨c0, c1, c2⟩ := hA
          dsimp only at c0 c1 c2 hbd
          obtain ⟨hb0, hb1, _⟩ := hbd
          have B1 : Hid (Below wr.heap.size wr (wr.alloc (.cells #[.int .i64 key, .int .i64 til, .int .i64 val] 99))) := hide ((Below.refl _ _).alloc (Nat.le_refl _) _)
          have HL1 := hide ((unhide hls).below (unhide B1))
          have HB1 := hide ((unhide hbl).trans ((unhide B1).mono (unhide hbl).size))
          have hs1 := (unhide B1).size
          clear B1
          cases hon : edOn me now ⟨key, til, val⟩
          · have E1 := unhide HZ hon
            have HL3 : Hid (LstV (wr.alloc (.cells #[.int .i64 key, .int .i64 til, .int .i64 val] 99)) u9 (grE me now (grL me now ls j) es (k + 1)) W1.heap.size (wr.alloc (.cells #[.int .i64 key, .int .i64 til, .int .i64 val] 99)).heap.size) := hide (by rw [E1]; exact (unhide HL1).mono (Nat.le_refl _) (by omega))
            have HF3 : Hid (Fm u9 (grE me now (grL me now ls j) es (k + 1)).length) := hide (by rw [E1]; exact unhide hfm)
            have hcs := ed_off hon hb0
            clear E1 HY HZ hon
            rcases hcs with q1 | ⟨q1, q2 | ⟨q2, q3⟩⟩
            all_goals
              go_wp2_with fail
              go_roundw
              case rel => exact ⟨k + 1, by omega, by go_num, HL3, HF3, HB1⟩
              case measure => simp [intOf]; omega
          · have HE1 := hide (unhide HY hon)
            obtain ⟨q1, q2, q3⟩ := ed_on hon hb0
            clear HY HZ hon
            have hl1 := two_len (unhide HTJ)
            obtain ⟨L, hL⟩ : ∃ L, grE me now (grL me now ls j) es k = L := ⟨_, rfl⟩
            rw [hL] at HE1 HTJ HL1 hfm hl1
            clear hL hls
            obtain ⟨gv, cv, ev⟩ := unhide hfm
            subst ev
            have HRL : Hid (RM (wr.alloc (.cells #[.int .i64 key, .int .i64 til, .int .i64 val] 99)) (some ⟨gv, 0, none⟩) L) := hide (fm_lt (unhide HL1))
            have HNE := hide (put_ne L (edT ⟨key, til, val⟩))
            go_wp2_with fail
            generalize hW0 : wr.alloc (.cells #[.int .i64 key, .int .i64 til, .int .i64 val] 99) = W0 at *
            clear hW0 c0 c1 c2 z0 z1
            refine (l03PutC gv 0 L cv key 0 val _ (by omega) (unhide HRL)).mono ?_
            rintro e w4 ⟨v4, rfl, b4, hl4, hs4⟩
            have HB4 := hide ((unhide HB1).trans (b4.mono (unhide HB1).size))
            have HL4 : Hid (LstV w4 v4 (grE me now (grL me now ls j) es (k + 1)) W1.heap.size w4.heap.size) := hide (by rw [unhide HE1]; exact hl4.mono (unhide HB1).size (Nat.le_refl _))
            have HF4 : Hid (Fm v4 (grE me now (grL me now ls j) es (k + 1)).length) := hide (fm_lst (unhide HL4) (by rw [unhide HE1]; exact unhide HNE))
            clear b4 hl4 hs4
            generalize putC L ⟨key, 0, val⟩ = pc
            go_wp2_with fail
            go_roundw
            case rel => exact ⟨k + 1, by omega, by go_num, HL4, HF4, HB4⟩
            case measure => simp [intOf]; omega
        · obtain rfl : k = M := by omega
          have HBw := hide ((unhide P0).trans ((unhide hbl).mono (unhide P0).size))
          have HL := hide ((unhide hls).mono (lo' := w.heap.size) (unhide P0).size (Nat.le_refl _))
          go_wp2_with fail
          go_ret
          exact ⟨_, rfl, unhide HBw, unhide HL⟩
theorem lstV_nil (W : World) (a : Option Addr) (c lo hi : Nat) : LstV W (.slice a 0 c) [] lo hi := ⟨a, c, rfl, .inl rfl⟩
end Gr
end Go.Proofs.YtfooahhdikobeaaGreat
namespace Go.Proofs.YtfooahhdikobeaaGreat
open Go.ChangeShapes Go.WideShapes Go.ChangeAt Go.RowKit
set_option linter.unusedVariables false
set_option linter.unusedSimpArgs false
attribute [local go_sem ↓] Go.wp_at_zero Go.wp_at_succ
namespace Ln
open W1 Lk
/-- A link in a variable's block. -/
def Bx (w : World) (b : Nat) (m : R) : Prop := w.cell? ⟨b, 0, none⟩ = some (.int .i64 m.ad) ∧ w.cell? ⟨b, 1, none⟩ = some (.int .i64 m.hd) ∧ w.cell? ⟨b, 2, none⟩ = some (.int .i64 m.sy) ∧ w.cell? ⟨b, 3, none⟩ = some (.int .i64 m.ci) ∧ w.cell? ⟨b, 4, none⟩ = some (.int .i64 m.co) ∧ w.cell? ⟨b, 5, none⟩ = some (.int .i64 m.wl)
theorem Bx.below {w w' : World} {b : Nat} {m : R} (h : Bx w b m) (hb : Below w.heap.size w w') : Bx w' b m := by
  have hg : b < w.heap.size := World.block_lt_of_cell? _ _ h.1
  obtain ⟨h0, h1, h2, h3, h4, h5⟩ := h
  refine ⟨?_, ?_, ?_, ?_, ?_, ?_⟩ <;> (rw [hb.cell hg]; assumption)
theorem Bx.lt {w : World} {b : Nat} {m : R} (h : Bx w b m) : b < w.heap.size := World.block_lt_of_cell? _ _ h.1
theorem Bx.drew {w : World} {b : Nat} {m : R} (h : Bx w b m) : Bx w.drew b m := h
theorem bx_new (w : World) (m : R) (t : Nat) : Bx (w.alloc (.cells #[.int .i64 m.ad, .int .i64 m.hd, .int .i64 m.sy, .int .i64 m.ci, .int .i64 m.co, .int .i64 m.wl] t)) w.heap.size m := by
  refine ⟨?_, ?_, ?_, ?_, ?_, ?_⟩ <;> simp [World.cell?_alloc_new]
theorem sBox {w : World} {b : Nat} {ad hd sy ci co wl : Int} (h : Bx w b ⟨ad, hd, sy, ci, co, wl⟩) : Bx w b ⟨ad, hd, sy, ci, co, wl⟩ ∧ w.cell? ⟨b, 0, none⟩ = some (.int .i64 ad) ∧ w.cell? ⟨b, 1, none⟩ = some (.int .i64 hd) ∧ w.cell? ⟨b, 2, none⟩ = some (.int .i64 sy) ∧ w.cell? ⟨b, 3, none⟩ = some (.int .i64 ci) ∧ w.cell? ⟨b, 4, none⟩ = some (.int .i64 co) ∧ w.cell? ⟨b, 5, none⟩ = some (.int .i64 wl) := ⟨h, h⟩
theorem sBox2 {w : World} {b g p : Nat} {m : R} {ad hd sy ci co wl : Int} (h : Bx w b ⟨ad, hd, sy, ci, co, wl⟩) (h' : At w g p m) :
    (Bx w b ⟨ad, hd, sy, ci, co, wl⟩ ∧ At w g p m) ∧ w.cell? ⟨b, 0, none⟩ = some (.int .i64 ad) ∧ w.cell? ⟨b, 1, none⟩ = some (.int .i64 hd) ∧ w.cell? ⟨b, 2, none⟩ = some (.int .i64 sy) ∧ w.cell? ⟨b, 3, none⟩ = some (.int .i64 ci) ∧ w.cell? ⟨b, 4, none⟩ = some (.int .i64 co) ∧ w.cell? ⟨b, 5, none⟩ = some (.int .i64 wl) ∧ w.cell? ⟨g, p, none⟩ = some (.int .i64 m.ad) := ⟨⟨h, h'⟩, h.1, h.2.1, h.2.2.1, h.2.2.2.1, h.2.2.2.2.1, h.2.2.2.2.2, h'.1⟩
set_option maxRecDepth 100000 in
set_option maxHeartbeats 4000000 in
theorem implOK (a : Option Addr) (ms : List R) (cap : Nat) (w : World) (hm : ms.length ≤ 1048576) (hr : RM w a ms) :
    Calls Tryz.prog 197 #[.slice a ms.length cap] w fun e w' => e = .returned (.bool (linksB ms)) ∧ Below w.heap.size w w' := by
  have HR := hide hr
  clear hr
  generalize hN : ms.length = n at *
  have HN := hide hN
  clear hN
  go_enter Tryz.func197, Tryz.ntmps197
  go_wp2
  go_loopw [7] (fun i wr => ∃ j : Nat, j ≤ n ∧ i = .int .i64 j ∧ Hid (allL ms j = true) ∧ Hid (Below w.heap.size w wr)) (fun i _ => n - (intOf i).toNat)
  case atStart => exact ⟨0, by omega, rfl, hide Ri.all_zero, hide (Below.refl _ _)⟩
  case round =>
    obtain ⟨j, hj, rfl, hrl, hbl⟩ := hrel
    by_cases hlt : (j : Int) < (n : Int)
    · have k0 : (0 : Int) ≤ (j : Int) := by omega
      have hlen : j < ms.length := by rw [unhide HN]; omega
      rcases (unhide HR).below (by exact (unhide hbl)) with e0 | ⟨g, off, rfl, hc⟩
      · exfalso; rw [e0] at hlen; simp at hlen
      have HL := hide hlen
      have hA := hc j hlen
      have hsz := (unhide hbl).size
      have HBX := hide (bx_new wr (ms.getD j R.zero) 166)
      have HBL := hide ((unhide hbl).alloc hsz (.cells #[.int .i64 (ms.getD j R.zero).ad, .int .i64 (ms.getD j R.zero).hd, .int .i64 (ms.getD j R.zero).sy, .int .i64 (ms.getD j R.zero).ci, .int .i64 (ms.getD j R.zero).co, .int .i64 (ms.getD j R.zero).wl] 166))
      cases hk : okL (ms.getD j R.zero)
      · clear hc
        have HST := hide (Ri.all_no hlen (Ri.step_bad (key := R.ad) hk))
        have HK := hide hk
        clear hk
        generalize ms.getD j R.zero = m at *
        obtain ⟨ad, hd, sy, ci, co, wl⟩ := m
        obtain ⟨c0, c1, c2, c3, c4, c5⟩ := hA
        dsimp only at c0 c1 c2 c3 c4 c5
        go_wp2_with fail
        generalize hW : wr.alloc (.cells #[.int .i64 ad, .int .i64 hd, .int .i64 sy, .int .i64 ci, .int .i64 co, .int .i64 wl] 166) = W0 at *
        clear hW
        refine wp_region_noPanic ?_
        refine wp_region_held_drew (S := fun w' => Bx w' wr.heap.size ⟨ad, hd, sy, ci, co, wl⟩ ∧ w'.cell? ⟨wr.heap.size, 0, none⟩ = some (.int .i64 ad) ∧ w'.cell? ⟨wr.heap.size, 1, none⟩ = some (.int .i64 hd) ∧ w'.cell? ⟨wr.heap.size, 2, none⟩ = some (.int .i64 sy) ∧ w'.cell? ⟨wr.heap.size, 3, none⟩ = some (.int .i64 ci) ∧ w'.cell? ⟨wr.heap.size, 4, none⟩ = some (.int .i64 co) ∧ w'.cell? ⟨wr.heap.size, 5, none⟩ = some (.int .i64 wl)) (by kernel_rfl) (sBox (unhide HBX).drew) (fun hHeld => ?_)
        refine Rg.t 0 12 ?_
        (refine Rg.o 1 (fun K hK => ?_); go_simp)
        refine (isLink ad hd sy ci co wl _).mono ?_
        rintro e w2 ⟨rfl, b2⟩
        rw [unhide HK]
        refine hK.out _ _ (sBox ((unhide HBX).drew.below b2)) (fun hHeld => ?_)
        clear hK K
        (try simp only [Act.put, List.setIfInBounds_toArray, List.set_cons_zero, List.set_cons_succ])
        refine Rg.t 2 14 ?_
        refine Rg.t 3 15 ?_
        refine Rg.s 4 16 ?_
        refine Rg.s 5 17 ?_
        refine Rg.s 6 18 ?_
        refine Rg.s 7 19 ?_
        refine Rg.s 8 20 ?_
        refine Rg.s 9 21 ?_
        refine Rg.s 10 22 ?_
        refine Rg.s 11 23 ?_
        refine Rg.s 12 24 ?_
        refine Rg.s 13 25 ?_
        refine Rg.s 14 26 ?_
        refine Rg.s 15 27 ?_
        refine Rg.s 16 28 ?_
        refine Rg.t 17 29 ?_
        refine wpAnyH_done (by kernel_rfl) (NoPanic.normal ?_) _
        have hb1 := hide ((unhide HBL).drew.trans (b2.mono (by show w.heap.size ≤ W0.heap.size; exact (unhide HBL).size)))
        go_wp2_with fail
        go_ret
        exact ⟨ret_bool (unhide HST).symm, unhide hb1⟩
      have HK := hide hk
      clear hk
      by_cases hj0 : j = 0
      · subst hj0
        clear hc
        rw [Nat.zero_mul, Nat.add_zero] at hA
        have HST := hide (Ri.all_succ (unhide hrl) (Ri.step_zero (key := R.ad) (unhide HK)))
        generalize ms.getD 0 R.zero = m at *
        obtain ⟨ad, hd, sy, ci, co, wl⟩ := m
        obtain ⟨c0, c1, c2, c3, c4, c5⟩ := hA
        dsimp only at c0 c1 c2 c3 c4 c5
        go_wp2_with fail
        generalize hW : wr.alloc (.cells #[.int .i64 ad, .int .i64 hd, .int .i64 sy, .int .i64 ci, .int .i64 co, .int .i64 wl] 166) = W0 at *
        clear hW
        refine wp_region_noPanic ?_
        refine wp_region_held_drew (S := fun w' => Bx w' wr.heap.size ⟨ad, hd, sy, ci, co, wl⟩ ∧ w'.cell? ⟨wr.heap.size, 0, none⟩ = some (.int .i64 ad) ∧ w'.cell? ⟨wr.heap.size, 1, none⟩ = some (.int .i64 hd) ∧ w'.cell? ⟨wr.heap.size, 2, none⟩ = some (.int .i64 sy) ∧ w'.cell? ⟨wr.heap.size, 3, none⟩ = some (.int .i64 ci) ∧ w'.cell? ⟨wr.heap.size, 4, none⟩ = some (.int .i64 co) ∧ w'.cell? ⟨wr.heap.size, 5, none⟩ = some (.int .i64 wl)) (by kernel_rfl) (sBox (unhide HBX).drew) (fun hHeld => ?_)
        refine Rg.t 0 12 ?_
        (refine Rg.o 1 (fun K hK => ?_); go_simp)
        refine (isLink ad hd sy ci co wl _).mono ?_
        rintro e w2 ⟨rfl, b2⟩
        rw [unhide HK]
        refine hK.out _ _ (sBox ((unhide HBX).drew.below b2)) (fun hHeld => ?_)
        clear hK K
        (try simp only [Act.put, List.setIfInBounds_toArray, List.set_cons_zero, List.set_cons_succ])
        refine Rg.t 2 14 ?_
        refine Rg.t 3 15 ?_
        refine Rg.t 4 16 ?_
        refine Rg.t 5 17 ?_
        refine Rg.t 6 18 ?_
        refine Rg.s 7 19 ?_
        refine Rg.s 8 20 ?_
        refine Rg.s 9 21 ?_
        refine Rg.s 10 22 ?_
        refine Rg.s 11 23 ?_
        refine Rg.s 12 24 ?_
        refine Rg.s 13 25 ?_
        refine Rg.s 14 26 ?_
        refine Rg.s 15 27 ?_
        refine Rg.t 16 28 ?_
        refine Rg.t 17 29 ?_
        refine wpAnyH_done (by kernel_rfl) (NoPanic.normal ?_) _
        have hb1 := hide ((unhide HBL).drew.trans (b2.mono (by show w.heap.size ≤ W0.heap.size; exact (unhide HBL).size)))
        go_wp2_with fail
        go_roundw
        case rel => exact ⟨0 + 1, by omega, by go_num, HST, hb1⟩
        case measure => simp [intOf]; omega
      · obtain ⟨i, hji⟩ : ∃ i, j = i + 1 := ⟨j - 1, by omega⟩
        have HJ := hide hji
        have e1 : (j : Int) - 1 = (i : Int) := by omega
        have i0 : (0 : Int) ≤ (i : Int) := by omega
        have wi : IntKind.i64.wrap (i : Int) = (i : Int) := by rw [IntKind.wrap_i64]; omega
        have i1 : (i : Int) < (n : Int) := by omega
        have j1 : (0 : Int) < (j : Int) := by omega
        have j2 : 0 < j := by omega
        have hP := hide ((hc i (by omega)).below ((Below.refl _ _).alloc (Nat.le_refl _) (.cells #[.int .i64 (ms.getD j R.zero).ad, .int .i64 (ms.getD j R.zero).hd, .int .i64 (ms.getD j R.zero).sy, .int .i64 (ms.getD j R.zero).ci, .int .i64 (ms.getD j R.zero).co, .int .i64 (ms.getD j R.zero).wl] 166)))
        have EJ : ms.getD j R.zero = ms.getD (i + 1) R.zero := by rw [hji]
        clear hc hji
        by_cases hk : (ms.getD i R.zero).ad < (ms.getD j R.zero).ad
        · have HST : Hid (allL ms (j + 1) = true) := hide (Ri.all_succ (unhide hrl) (by rw [unhide HJ]; exact Ri.step_lt (by rw [← EJ]; exact unhide HK) (by rw [← EJ]; exact hk)))
          clear EJ
          generalize ms.getD i R.zero = m0 at *
          obtain ⟨ad0, hd0, sy0, ci0, co0, wl0⟩ := m0
          dsimp only at hk
          generalize ms.getD j R.zero = m at *
          obtain ⟨ad, hd, sy, ci, co, wl⟩ := m
          obtain ⟨c0, c1, c2, c3, c4, c5⟩ := hA
          dsimp only at hk c0 c1 c2 c3 c4 c5
          go_wp2_with fail
          generalize hW : wr.alloc (.cells #[.int .i64 ad, .int .i64 hd, .int .i64 sy, .int .i64 ci, .int .i64 co, .int .i64 wl] 166) = W0 at *
          clear hW
          refine wp_region_noPanic ?_
          refine wp_region_held_drew (S := fun w' => (Bx w' wr.heap.size ⟨ad, hd, sy, ci, co, wl⟩ ∧ At w' g (off + i * 6) ⟨ad0, hd0, sy0, ci0, co0, wl0⟩) ∧ w'.cell? ⟨wr.heap.size, 0, none⟩ = some (.int .i64 ad) ∧ w'.cell? ⟨wr.heap.size, 1, none⟩ = some (.int .i64 hd) ∧ w'.cell? ⟨wr.heap.size, 2, none⟩ = some (.int .i64 sy) ∧ w'.cell? ⟨wr.heap.size, 3, none⟩ = some (.int .i64 ci) ∧ w'.cell? ⟨wr.heap.size, 4, none⟩ = some (.int .i64 co) ∧ w'.cell? ⟨wr.heap.size, 5, none⟩ = some (.int .i64 wl) ∧ w'.cell? ⟨g, off + i * 6, none⟩ = some (.int .i64 ad0)) (by kernel_rfl) (sBox2 (unhide HBX).drew (unhide hP).drew) (fun hHeld => ?_)
          refine Rg.t 0 12 ?_
          (refine Rg.o 1 (fun K hK => ?_); go_simp)
          refine (isLink ad hd sy ci co wl _).mono ?_
          rintro e w2 ⟨rfl, b2⟩
          rw [unhide HK]
          refine hK.out _ _ (sBox2 ((unhide HBX).drew.below b2) ((unhide hP).drew.below b2)) (fun hHeld => ?_)
          clear hK K
          (try simp only [Act.put, List.setIfInBounds_toArray, List.set_cons_zero, List.set_cons_succ])
          refine Rg.t 2 14 ?_
          refine Rg.t 3 15 ?_
          refine Rg.t 4 16 ?_
          refine Rg.t 5 17 ?_
          refine Rg.t 6 18 ?_
          refine Rg.t 7 19 ?_
          refine Rg.t 8 20 ?_
          refine Rg.t 9 21 ?_
          refine Rg.t 10 22 ?_
          refine Rg.t 11 23 ?_
          refine Rg.t 12 24 ?_
          refine Rg.t 13 25 ?_
          refine Rg.t 14 26 ?_
          refine Rg.t 15 27 ?_
          refine Rg.t 16 28 ?_
          refine Rg.t 17 29 ?_
          refine wpAnyH_done (by kernel_rfl) (NoPanic.normal ?_) _
          have hb1 := hide ((unhide HBL).drew.trans (b2.mono (by show w.heap.size ≤ W0.heap.size; exact (unhide HBL).size)))
          go_wp2_with fail
          go_roundw
          case rel => exact ⟨j + 1, by omega, by go_num, HST, hb1⟩
          case measure => simp [intOf]; omega
        · have HST : Hid (linksB ms = false) := hide (Ri.all_no (unhide HL) (show Ri.step R.zero okL R.ad ms j = false by rw [unhide HJ]; exact Ri.step_ge (by rw [← EJ]; omega)))
          clear EJ
          generalize ms.getD i R.zero = m0 at *
          obtain ⟨ad0, hd0, sy0, ci0, co0, wl0⟩ := m0
          dsimp only at hk
          generalize ms.getD j R.zero = m at *
          obtain ⟨ad, hd, sy, ci, co, wl⟩ := m
          obtain ⟨c0, c1, c2, c3, c4, c5⟩ := hA
          dsimp only at hk c0 c1 c2 c3 c4 c5
          go_wp2_with fail
          generalize hW : wr.alloc (.cells #[.int .i64 ad, .int .i64 hd, .int .i64 sy, .int .i64 ci, .int .i64 co, .int .i64 wl] 166) = W0 at *
          clear hW
          refine wp_region_noPanic ?_
          refine wp_region_held_drew (S := fun w' => (Bx w' wr.heap.size ⟨ad, hd, sy, ci, co, wl⟩ ∧ At w' g (off + i * 6) ⟨ad0, hd0, sy0, ci0, co0, wl0⟩) ∧ w'.cell? ⟨wr.heap.size, 0, none⟩ = some (.int .i64 ad) ∧ w'.cell? ⟨wr.heap.size, 1, none⟩ = some (.int .i64 hd) ∧ w'.cell? ⟨wr.heap.size, 2, none⟩ = some (.int .i64 sy) ∧ w'.cell? ⟨wr.heap.size, 3, none⟩ = some (.int .i64 ci) ∧ w'.cell? ⟨wr.heap.size, 4, none⟩ = some (.int .i64 co) ∧ w'.cell? ⟨wr.heap.size, 5, none⟩ = some (.int .i64 wl) ∧ w'.cell? ⟨g, off + i * 6, none⟩ = some (.int .i64 ad0)) (by kernel_rfl) (sBox2 (unhide HBX).drew (unhide hP).drew) (fun hHeld => ?_)
          refine Rg.t 0 12 ?_
          (refine Rg.o 1 (fun K hK => ?_); go_simp)
          refine (isLink ad hd sy ci co wl _).mono ?_
          rintro e w2 ⟨rfl, b2⟩
          rw [unhide HK]
          refine hK.out _ _ (sBox2 ((unhide HBX).drew.below b2) ((unhide hP).drew.below b2)) (fun hHeld => ?_)
          clear hK K
          (try simp only [Act.put, List.setIfInBounds_toArray, List.set_cons_zero, List.set_cons_succ])
          refine Rg.t 2 14 ?_
          refine Rg.t 3 15 ?_
          refine Rg.t 4 16 ?_
          refine Rg.t 5 17 ?_
          refine Rg.t 6 18 ?_
          refine Rg.t 7 19 ?_
          refine Rg.t 8 20 ?_
          refine Rg.t 9 21 ?_
          refine Rg.t 10 22 ?_
          refine Rg.t 11 23 ?_
          refine Rg.t 12 24 ?_
          refine Rg.t 13 25 ?_
          refine Rg.t 14 26 ?_
          refine Rg.t 15 27 ?_
          refine Rg.t 16 28 ?_
          refine Rg.t 17 29 ?_
          refine wpAnyH_done (by kernel_rfl) (NoPanic.normal ?_) _
          have hb1 := hide ((unhide HBL).drew.trans (b2.mono (by show w.heap.size ≤ W0.heap.size; exact (unhide HBL).size)))
          go_wp2_with fail
          go_ret
          exact ⟨ret_bool (unhide HST).symm, unhide hb1⟩
    · obtain rfl : j = n := by omega
      have HO : Hid (linksB ms = true) := hide (by unfold linksB; rw [unhide HN]; exact unhide hrl)
      go_wp2
      go_ret
      exact ⟨ret_bool (unhide HO).symm, unhide hbl⟩
set_option maxHeartbeats 1000000 in
theorem linksCode (a : Option Addr) (ms : List R) (cap : Nat) (w : World) (hm : ms.length ≤ 1048576) (hr : RM w a ms) :
    Calls Tryz.prog 204 #[.slice a ms.length cap] w fun e w' => e = .returned (.int .i64 (codeL ms)) ∧ Below w.heap.size w w' := by
  have HR := hide hr
  clear hr
  by_cases hbig : (4096 : Int) < ms.length
  · rw [code_long (ms := ms) (by omega)]
    go_enter Tryz.func204, Tryz.ntmps204
    go_wp2
    go_ret
    exact ⟨rfl, Below.refl _ _⟩
  cases hs : linksB ms
  · rw [code_bad (by omega) hs]
    have HS := hide hs
    clear hs
    go_enter Tryz.func204, Tryz.ntmps204
    go_wp2_with fail
    refine (implOK _ ms cap _ hm (unhide HR)).mono ?_
    rintro e w1 ⟨rfl, b1⟩
    rw [unhide HS]
    have HB := hide b1
    clear b1
    go_wp2_with fail
    go_ret
    exact ⟨rfl, unhide HB⟩
  rw [code_zero hs]
  have HS := hide hs
  clear hs
  go_enter Tryz.func204, Tryz.ntmps204
  go_wp2_with fail
  refine (implOK _ ms cap _ hm (unhide HR)).mono ?_
  rintro e w1 ⟨rfl, b1⟩
  rw [unhide HS]
  have HB := hide b1
  clear b1
  go_wp2_with fail
  go_ret
  exact ⟨rfl, unhide HB⟩
end Ln
end Go.Proofs.YtfooahhdikobeaaGreat
namespace Go.Proofs.YtfooahhdikobeaaGreat
open Go.ChangeShapes Go.WideShapes Go.ChangeAt Go.RowKit
set_option linter.unusedVariables false
namespace Mtr
open W1
def met (c : Nat) : Int := (257 + (c % 256 : Nat)) * 2 ^ (c / 256) - 256
theorem met_step (c : Nat) : met c < met (c + 1) := by
  unfold met
  have hp : (0 : Int) < 2 ^ (c / 256) := Int.pow_pos (by decide)
  by_cases h : c % 256 = 255
  · have h1 : (c + 1) % 256 = 0 := by omega
    have h2 : (c + 1) / 256 = c / 256 + 1 := by omega
    rw [h, h1, h2, Int.pow_succ]
    generalize (2 : Int) ^ (c / 256) = p at *
    omega
  · have h1 : (c + 1) % 256 = c % 256 + 1 := by omega
    have h2 : (c + 1) / 256 = c / 256 := by omega
    rw [h1, h2]
    have := Int.mul_lt_mul_of_pos_right (show (257 + ((c % 256 : Nat) : Int)) < 257 + ((c % 256 + 1 : Nat) : Int) by omega) hp
    omega
theorem met_mono {a b : Nat} (h : a ≤ b) : met a ≤ met b := by
  induction h with
  | refl => exact Int.le_refl _
  | step _ ih => exact Int.le_trans ih (Int.le_of_lt (met_step _))
theorem met_lo (a : Nat) : 1 ≤ met a := by
  have h0 : met 0 = 1 := by decide
  have := met_mono (Nat.zero_le a)
  omega
theorem met_hi {a : Nat} (h : a ≤ 4095) : met a ≤ 16776960 := by
  have h0 : met 4095 = 16776960 := by decide
  have := met_mono h
  omega
/-- k is the least code whose metric is n or more. -/
def IsCode (n : Int) (k : Nat) : Prop := k ≤ 4095 ∧ n ≤ met k ∧ (k = 0 ∨ met (k - 1) < n)
theorem arith1 (c : Nat) : ((c + 1) * 256 + 256 - 256 - 1) % 256 = 255 ∧ ((c + 1) * 256 + 256 - 256 - 1) / 256 = c := by omega
theorem arith2 {b q : Nat} (h : 257 ≤ q) (h' : q < 512) : (b * 256 + q - 256 - 1) % 256 = q - 257 ∧ (b * 256 + q - 256 - 1) / 256 = b := by omega
/-- The least code whose metric is n or more. -/
def mcode (n : Int) : Nat := cnt met 4096 n
theorem mcode_of {n : Int} {k : Nat} (h : IsCode n k) : mcode n = k :=
  cnt_of _ _ _ _ (by have := h.1; omega) (fun c hc => by
    rcases h.2.2 with e | e
    · omega
    · have := met_mono (show c ≤ k - 1 by omega); omega) (fun c hc _ => by have := met_mono hc; have := h.2.1; omega)
/-- The program's way to the code. -/
theorem fast {n : Nat} (h1 : 1 ≤ n) (h2 : n ≤ 16776960) :
    9 ≤ Lib.bitLen (n + 255) ∧ Lib.bitLen (n + 255) ≤ 24 ∧ 256 ≤ (n + 255) / 2 ^ (Lib.bitLen (n + 255) - 9) ∧ (n + 255) / 2 ^ (Lib.bitLen (n + 255) - 9) ≤ 511 ∧
    IsCode n ((Lib.bitLen (n + 255) - 9) * 256 + (n + 255) / 2 ^ (Lib.bitLen (n + 255) - 9) - 256) ∧ (n ≤ 256 → met ((Lib.bitLen (n + 255) - 9) * 256 + (n + 255) / 2 ^ (Lib.bitLen (n + 255) - 9) - 256) = n) := by
  obtain ⟨l1, l2, l3⟩ := Lib.bitLenAux_bounds 64 (n + 255) (by omega) (by omega)
  have hb : Lib.bitLen (n + 255) = Lib.bitLenAux 64 (n + 255) := by rw [Lib.bitLen]
  rw [← hb] at l1 l2 l3
  clear hb
  generalize Lib.bitLen (n + 255) = L at *
  have a1 : 9 ≤ L := by
    rcases Nat.lt_or_ge L 9 with h | h
    · have := Nat.pow_le_pow_right (n := 2) (by decide) (show L ≤ 8 by omega); omega
    · exact h
  have a2 : L ≤ 24 := by
    rcases Nat.lt_or_ge 24 L with h | h
    · have := Nat.pow_le_pow_right (n := 2) (by decide) (show 24 ≤ L - 1 by omega); omega
    · exact h
  obtain ⟨b, rfl⟩ : ∃ b, L = b + 9 := ⟨L - 9, by omega⟩
  have e1 : b + 9 - 1 = b + 8 := by omega
  have e2 : b + 9 - 9 = b := by omega
  rw [e1, Nat.pow_add] at l2
  rw [Nat.pow_add] at l3
  rw [e2]
  have hp : 0 < 2 ^ b := Nat.two_pow_pos _
  have q1 : 256 ≤ (n + 255) / 2 ^ b := (Nat.le_div_iff_mul_le hp).2 (by omega)
  have q2 : (n + 255) / 2 ^ b < 512 := (Nat.div_lt_iff_lt_mul hp).2 (by omega)
  have dm := Nat.div_add_mod (n + 255) (2 ^ b)
  have ml := Nat.mod_lt (n + 255) hp
  generalize hq : (n + 255) / 2 ^ b = q at *
  refine ⟨a1, a2, q1, by omega, ?_⟩
  have k1 : (b * 256 + q - 256) % 256 = q - 256 := by omega
  have k2 : (b * 256 + q - 256) / 256 = b := by omega
  have hme : met (b * 256 + q - 256) = ((2 ^ b * q + 2 ^ b : Nat) : Int) - 256 := by
    unfold met
    rw [k1, k2]
    have : (257 + ((q - 256 : Nat) : Int)) = (q : Int) + 1 := by omega
    rw [this, Int.add_mul]
    simp [Int.mul_comm]
  refine ⟨⟨by omega, by rw [hme]; omega, ?_⟩, ?_⟩
  · by_cases hz : b * 256 + q - 256 = 0
    · exact .inl hz
    · right
      have hm2 : met (b * 256 + q - 256 - 1) = ((2 ^ b * q : Nat) : Int) - 256 := by
        unfold met
        by_cases hq0 : q = 256
        · subst hq0
          obtain ⟨c, rfl⟩ : ∃ c, b = c + 1 := ⟨b - 1, by omega⟩
          obtain ⟨k3, k4⟩ := arith1 c
          rw [k3, k4, Nat.pow_succ]
          simp
          generalize (2 : Int) ^ c = p
          omega
        · obtain ⟨k3, k4⟩ := arith2 (b := b) (show 257 ≤ q by omega) q2
          rw [k3, k4]
          have : (257 + ((q - 257 : Nat) : Int)) = (q : Int) := by omega
          rw [this]
          simp [Int.mul_comm]
      rw [hm2]
      generalize 2 ^ b * q = pq at *
      omega
  · intro hn
    have hb : b = 0 := by
      rcases Nat.eq_zero_or_pos b with h | h
      · exact h
      · have : 2 ^ 1 ≤ 2 ^ b := Nat.pow_le_pow_right (by decide) h
        omega
    subst hb
    rw [hme]
    simp at *
    omega
theorem mcode_is {n : Int} (h0 : 1 ≤ n) (h1 : n ≤ 16776960) : IsCode n (mcode n) := by
  obtain ⟨c, rfl⟩ := Int.eq_ofNat_of_zero_le (show 0 ≤ n by omega)
  obtain ⟨_, _, _, _, hc, _⟩ := fast (n := c) (by omega) (by omega)
  rw [mcode_of hc]; exact hc
theorem and_mask (j : Nat) (hj : j ≤ 16) (x m : Int) (hm : m = ((2 ^ j - 1 : Nat) : Int)) : bits BinOp.and IntKind.i64 x m = x % ((2 ^ j : Nat) : Int) := by
  subst hm
  have hp : 2 ^ j ≤ 2 ^ 16 := Nat.pow_le_pow_right (by decide) hj
  have hp1 : 0 < 2 ^ j := Nat.two_pow_pos j
  have hd : 2 ^ j ∣ 2 ^ 64 := Nat.pow_dvd_pow 2 (by omega)
  show IntKind.i64.wrap ((BitVec.ofInt 64 x &&& BitVec.ofInt 64 ((2 ^ j - 1 : Nat) : Int)).toNat : Int) = _
  rw [BitVec.toNat_and, ofInt_u64 (2 ^ j - 1) (by omega), Nat.and_two_pow_sub_one_eq_mod, BitVec.toNat_ofInt, IntWalk.i64_left]
  have h1 : (((x % ((2 ^ 64 : Nat) : Int)).toNat % 2 ^ j : Nat) : Int) = x % ((2 ^ j : Nat) : Int) := by
    rw [Int.natCast_emod, Int.toNat_of_nonneg (Int.emod_nonneg _ (by decide)), Int.emod_emod_of_dvd _ (Int.natCast_dvd_natCast.2 hd)]
  rw [h1]
  have h2 := Int.emod_nonneg x (show ((2 ^ j : Nat) : Int) ≠ 0 by omega)
  have h3 := Int.emod_lt_of_pos x (show (0 : Int) < ((2 ^ j : Nat) : Int) by omega)
  unfold wrap64
  generalize x % ((2 ^ j : Nat) : Int) = y at *
  omega
theorem and_255 (x : Int) : bits BinOp.and IntKind.i64 x 255 = x % 256 := and_mask 8 (by decide) x 255 rfl
theorem met_wrap {c : Nat} (hc : c ≤ 4095) : wrap64 (wrap64 ((257 + (c : Int) % 256) * 2 ^ (c / 256)) - 256) = met c := by
  have h0 := met_lo c
  have h1 := met_hi hc
  have e : (257 + (c : Int) % 256) * 2 ^ (c / 256) = met c + 256 := by unfold met; simp
  rw [e]
  unfold wrap64
  omega
set_option maxHeartbeats 400000 in
theorem metricAt (c : Nat) (hc : c ≤ 4095) (w : World) : Calls Tryz.prog 220 #[.int .i64 c] w fun e w' => e = .returned (.int .i64 (met c)) ∧ w' = w := by
  go_enter Tryz.func220, Tryz.ntmps220
  go_wp2
  go_ret
  exact ⟨ret_int (met_wrap hc), rfl⟩
theorem met_wrap2 {c : Nat} (hc : c ≤ 4095) : wrap64 (wrap64 (wrap64 (257 + bits BinOp.and IntKind.i64 c 255) * 2 ^ (c / 256)) - 256) = met c := by
  have e : wrap64 (257 + bits BinOp.and IntKind.i64 c 255) = 257 + (c : Int) % 256 := by rw [and_255]; unfold wrap64; omega
  rw [e]; exact met_wrap hc
set_option maxHeartbeats 400000 in
theorem l02Metric (c : Nat) (hc : c ≤ 4095) (w : World) : Calls Tryz.prog 180 #[.int .i64 c] w fun e w' => e = .returned (.int .i64 (met c)) ∧ w' = w := by
  go_enter Tryz.func180, Tryz.ntmps180
  go_wp2
  go_ret
  exact ⟨ret_int (met_wrap2 hc), rfl⟩
set_option maxHeartbeats 400000 in
theorem leastMetric (n : Int) (h0 : 1 ≤ n) (h1 : n ≤ 16776960) (w : World) : Calls Tryz.prog 221 #[.int .i64 n] w fun e w' => e = .returned (.int .i64 (mcode n)) ∧ w' = w := by
  obtain ⟨c, rfl⟩ := Int.eq_ofNat_of_zero_le (show 0 ≤ n by omega)
  obtain ⟨l1, l2, q1, q2, hc, hx⟩ := fast (n := c) (by omega) (by omega)
  obtain ⟨b, hb⟩ : ∃ b, Lib.bitLen (c + 255) = b + 9 := ⟨_, (Nat.sub_add_cancel l1).symm⟩
  have hL : ((Lib.bitLen ((c : Int) + 256 - 1).toNat : Nat) : Int) = (b : Int) + 9 := by
    rw [show ((c : Int) + 256 - 1).toNat = c + 255 by omega, hb]; rfl
  rw [hb, Nat.add_sub_cancel] at hc q1 q2
  rw [hb] at l2
  clear hb l1 hx
  have HC := hide (mcode_of hc)
  clear hc
  have hd : ((c : Int) + 256 - 1) / 2 ^ b = (((c + 255) / 2 ^ b : Nat) : Int) := by
    rw [show (c : Int) + 256 - 1 = ((c + 255 : Nat) : Int) by omega]; simp
  generalize (c + 255) / 2 ^ b = q at *
  go_enter Tryz.func221, Tryz.ntmps221
  go_wp2_with (go_at_call 224; refine (Tryz.bits_Len ((c : Int) + 256 - 1) _ (by omega) (by omega)).mono ?_; rintro e w' ⟨rfl, rfl⟩; rw [hL])
  go_ret
  exact ⟨ret_int (by rw [unhide HC]; omega), rfl⟩
set_option maxHeartbeats 400000 in
theorem l02MetricCode (n : Int) (h0 : 1 ≤ n) (h1 : n ≤ 16776960) (w : World) : Calls Tryz.prog 181 #[.int .i64 n] w fun e w' => (∃ k : Nat, e = .returned (.int .i64 k) ∧ IsCode n k) ∧ w' = w := by
  go_enter Tryz.func181, Tryz.ntmps181
  go_wp2
  go_loop [3, 4] (fun l h => ∃ a b : Nat, l = .int .i64 a ∧ h = .int .i64 b ∧ a ≤ b ∧ b ≤ 4095 ∧ n ≤ met b ∧ (a = 0 ∨ met (a - 1) < n)) (fun l h => (intOf h - intOf l).toNat)
  case atStart => exact ⟨0, 4095, rfl, rfl, by omega, by omega, by rw [show met 4095 = 16776960 by decide]; exact h1, .inl rfl⟩
  case round =>
    obtain ⟨a, b, rfl, rfl, hab, hb, hm, ha⟩ := hrel
    have HM := hide hm
    have HA := hide ha
    clear hm ha
    by_cases hlt : a < b
    · obtain ⟨m, hm1, hm2⟩ : ∃ m : Nat, a ≤ m ∧ m < b ∧ Hid (((a : Int) + b) / 2 = m) := ⟨(a + b) / 2, by omega, by omega, hide (by omega)⟩
      obtain ⟨hm2, HQ⟩ := hm2
      by_cases hge : n ≤ met m
      · go_wp2_with (go_at_call 180; rw [unhide HQ]; refine (l02Metric m (by omega) _).mono ?_; rintro e w' ⟨rfl, rfl⟩)
        go_round
        case rel => exact ⟨a, m, rfl, rfl, by omega, by omega, hge, unhide HA⟩
        case measure => simp [intOf]; omega
      · go_wp2_with (go_at_call 180; rw [unhide HQ]; refine (l02Metric m (by omega) _).mono ?_; rintro e w' ⟨rfl, rfl⟩)
        go_round
        case rel => exact ⟨m + 1, b, by rfl, rfl, by omega, by omega, unhide HM, .inr (by rw [Nat.add_sub_cancel]; exact hge)⟩
        case measure => simp [intOf]; omega
    · have hab' : a = b := by omega
      subst hab'
      go_wp2
      go_ret
      exact ⟨⟨a, rfl, by omega, unhide HM, unhide HA⟩, rfl⟩
theorem l02MetricCodeE (n : Int) (h0 : 1 ≤ n) (h1 : n ≤ 16776960) (w : World) : Calls Tryz.prog 181 #[.int .i64 n] w fun e w' => e = .returned (.int .i64 (mcode n)) ∧ w' = w :=
  (l02MetricCode n h0 h1 w).mono fun e w' ⟨⟨k, he, hk⟩, hw⟩ => ⟨by rw [mcode_of hk]; exact he, hw⟩
end Mtr
end Go.Proofs.YtfooahhdikobeaaGreat
namespace Go.Proofs.YtfooahhdikobeaaGreat
open Go.ChangeShapes Go.WideShapes Go.ChangeAt Go.RowKit
set_option linter.unusedVariables false
namespace Tim
open W1
/-- The time of a code. -/
def tim (c : Nat) : Int := (8 + (c % 8 : Nat)) * 2 ^ (c / 8) / 8
theorem and_mask (j : Nat) (hj : j ≤ 16) (x m : Int) (hm : m = ((2 ^ j - 1 : Nat) : Int)) : bits BinOp.and IntKind.i64 x m = x % ((2 ^ j : Nat) : Int) := by
  subst hm
  have hp : 2 ^ j ≤ 2 ^ 16 := Nat.pow_le_pow_right (by decide) hj
  have hp1 : 0 < 2 ^ j := Nat.two_pow_pos j
  have hd : 2 ^ j ∣ 2 ^ 64 := Nat.pow_dvd_pow 2 (by omega)
  show IntKind.i64.wrap ((BitVec.ofInt 64 x &&& BitVec.ofInt 64 ((2 ^ j - 1 : Nat) : Int)).toNat : Int) = _
  rw [BitVec.toNat_and, ofInt_u64 (2 ^ j - 1) (by omega), Nat.and_two_pow_sub_one_eq_mod, BitVec.toNat_ofInt, IntWalk.i64_left]
  have h1 : (((x % ((2 ^ 64 : Nat) : Int)).toNat % 2 ^ j : Nat) : Int) = x % ((2 ^ j : Nat) : Int) := by
    rw [Int.natCast_emod, Int.toNat_of_nonneg (Int.emod_nonneg _ (by decide)), Int.emod_emod_of_dvd _ (Int.natCast_dvd_natCast.2 hd)]
  rw [h1]
  have h2 := Int.emod_nonneg x (show ((2 ^ j : Nat) : Int) ≠ 0 by omega)
  have h3 := Int.emod_lt_of_pos x (show (0 : Int) < ((2 ^ j : Nat) : Int) by omega)
  unfold wrap64
  generalize x % ((2 ^ j : Nat) : Int) = y at *
  omega
theorem big {c : Nat} (hc : c ≤ 223) : wrap64 ((8 + (c : Int) % 8) * 2 ^ (c / 8)) = (8 + (c : Int) % 8) * 2 ^ (c / 8) := by
  have h1 : (2 : Int) ^ (c / 8) ≤ 134217728 := by
    have hN : (2 : Nat) ^ (c / 8) ≤ 134217728 := Nat.le_trans (Nat.pow_le_pow_right (n := 2) (by omega) (by omega : c / 8 ≤ 27)) (by decide)
    have h := Int.ofNat_le.2 hN
    rw [Int.natCast_pow] at h
    exact h
  have h0 : (0 : Int) < 2 ^ (c / 8) := Int.pow_pos (by omega)
  have h2 : (8 + (c : Int) % 8) * 2 ^ (c / 8) ≤ 15 * 2 ^ (c / 8) := Int.mul_le_mul_of_nonneg_right (by omega) (by omega)
  have h3 : 0 ≤ (8 + (c : Int) % 8) * 2 ^ (c / 8) := Int.mul_nonneg (by omega) (by omega)
  generalize (8 + (c : Int) % 8) * 2 ^ (c / 8) = x at *
  unfold wrap64
  omega
theorem tim_step (c : Nat) : tim c ≤ tim (c + 1) := by
  unfold tim
  have hp : (0 : Int) < 2 ^ (c / 8) := Int.pow_pos (by decide)
  refine Int.ediv_le_ediv (by decide) ?_
  by_cases h : c % 8 = 7
  · have h1 : (c + 1) % 8 = 0 := by omega
    have h2 : (c + 1) / 8 = c / 8 + 1 := by omega
    rw [h, h1, h2, Int.pow_succ]
    generalize (2 : Int) ^ (c / 8) = p at *
    omega
  · have h1 : (c + 1) % 8 = c % 8 + 1 := by omega
    have h2 : (c + 1) / 8 = c / 8 := by omega
    rw [h1, h2]
    exact Int.mul_le_mul_of_nonneg_right (by omega) (by omega)
theorem tim_mono {a b : Nat} (h : a ≤ b) : tim a ≤ tim b := by
  induction h with
  | refl => exact Int.le_refl _
  | step _ ih => exact Int.le_trans ih (tim_step _)
/-- k is the least code whose time is n or more. -/
def IsTime (n : Int) (k : Nat) : Prop := k ≤ 223 ∧ n ≤ tim k ∧ (k = 0 ∨ tim (k - 1) < n)
/-- The least code whose time is n or more. -/
def tcode (n : Int) : Nat := cnt tim 224 n
theorem tcode_of {n : Int} {k : Nat} (h : IsTime n k) : tcode n = k :=
  cnt_of _ _ _ _ (by have := h.1; omega) (fun c hc => by
    rcases h.2.2 with e | e
    · omega
    · have := tim_mono (show c ≤ k - 1 by omega); omega) (fun c hc _ => by have := tim_mono hc; have := h.2.1; omega)
theorem tcode_ex {n : Int} (h1 : n ≤ 251658240) : ∃ k, k ≤ 223 ∧ (∀ c, c < k → tim c < n) ∧ n ≤ tim k := by
  refine Classical.byContradiction fun hno => ?_
  have hall : ∀ k, k ≤ 224 → ∀ c, c < k → tim c < n := by
    intro k
    induction k with
    | zero => intro _ c hc; omega
    | succ k ih =>
      intro hk c hc
      have ih' := ih (by omega)
      by_cases ek : c = k
      · subst ek
        rcases Int.lt_or_le (tim c) n with hh | hh
        · exact hh
        · exact absurd ⟨c, by omega, ih', hh⟩ hno
      · exact ih' c (by omega)
  have := hall 224 (by omega) 223 (by omega)
  rw [show tim 223 = 251658240 by decide] at this
  omega
theorem tcode_is {n : Int} (h1 : n ≤ 251658240) : IsTime n (tcode n) := by
  obtain ⟨k, hk1, hk2, hk3⟩ := tcode_ex h1
  have h : IsTime n k := ⟨hk1, hk3, by
    by_cases e : k = 0
    · exact .inl e
    · exact .inr (hk2 _ (by omega))⟩
  rw [tcode_of h]; exact h
theorem tcode_lt {n : Int} (h1 : n ≤ 251658240) : tcode n ≤ 223 := (tcode_is h1).1
/-- Whether a time is exact. -/
def exTB (n : Int) : Bool := tim (tcode n) == n
/-- Whether a time may be a hello's. -/
def valB (n : Int) : Bool := inB n 1 10000 && exTB n
set_option maxHeartbeats 400000 in
theorem timeAt (c : Nat) (hc : c ≤ 223) (w : World) : Calls Tryz.prog 223 #[.int .i64 c] w fun e w' => e = .returned (.int .i64 (tim c)) ∧ w' = w := by
  go_enter Tryz.func223, Tryz.ntmps223
  go_wp2
  go_ret
  refine ⟨ret_int ?_, rfl⟩
  have := big hc
  unfold tim
  simp [this]
theorem below_drewN {B : Nat} {w w' : World} (h : Below B w w') (q : Nat) : Below B w (w'.drewN q) := ⟨h.os, h.tape, h.output, h.size, h.block⟩
set_option maxHeartbeats 400000 in
theorem cloT (i : Nat) (hi : i ≤ 223) (n : Int) (b : Nat) (w : World) (hc : w.cell? ⟨b, 0, none⟩ = some (.int .i64 n)) :
    Calls Tryz.prog 226 #[.int .i64 i, .pointer (some ⟨b, 0, none⟩)] w fun e w' => e = .returned (.bool (decide (n ≤ tim i))) ∧ Below w.heap.size w w' := by
  by_cases h : n ≤ tim i
  all_goals
    go_enter Tryz.func226, Tryz.ntmps226
    go_wp2_with fail
    go_quiet ((go_at_call 223; exact Calls.quiet_of_same (timeAt i hi _)))
    go_wp2_with fail
    go_ret
    exact ⟨ret_bool (by simp [h]), below_drewN (Below.refl _ _) _⟩
set_option maxHeartbeats 1000000 in
theorem search (b : Nat) (n : Int) (h1 : n ≤ tim 223) (w : World) (hb : w.cell? ⟨b, 0, none⟩ = some (.int .i64 n)) :
    Calls Tryz.prog 225 #[.int .i64 224, .func (.func 226) #[] #[.pointer (some ⟨b, 0, none⟩)]] w fun e w' => e = .returned (.int .i64 (tcode n)) ∧ Below w.heap.size w w' := by
  have HB := hide hb
  have hblt := World.block_lt_of_cell? _ _ hb
  clear hb
  have H1 := hide h1
  clear h1
  go_enter Tryz.func225, Tryz.ntmps225
  go_wp2
  go_loopw [5, 6] (fun lo hi wr => ∃ low high : Nat, low ≤ high ∧ high ≤ 224 ∧ lo = .int .i64 low ∧ hi = .int .i64 high ∧ Hid (∀ i, i < low → tim i < n) ∧ Hid (∀ i, high ≤ i → i < 224 → n ≤ tim i) ∧ Hid (Below w.heap.size w wr)) (fun lo hi _ => (intOf hi - intOf lo).toNat)
  case atStart => exact ⟨0, 224, by omega, by omega, rfl, rfl, hide (fun i hi => by omega), hide (fun i hi h2 => by omega), hide (Below.refl _ _)⟩
  case round =>
    obtain ⟨low, high, hlh, hhn, rfl, rfl, h1, h2, hbl⟩ := hrel
    by_cases hlt : (low : Int) < (high : Int)
    · obtain ⟨mid, hmid⟩ : ∃ mid : Nat, mid = (low + high) / 2 := ⟨_, rfl⟩
      have hm1 : low ≤ mid := by omega
      have hm2 : mid < high := by omega
      have em : ((low : Int) + (high : Int)) / 2 = (mid : Int) := by omega
      have HC := hide ((unhide hbl).cell (p := ⟨b, 0, none⟩) hblt)
      clear hmid
      go_wp2_with fail
      refine (cloT mid (by omega) n b _ ((unhide HC).trans (unhide HB))).mono ?_
      rintro e w1 ⟨rfl, b1⟩
      have hb1 := hide ((unhide hbl).trans (b1.mono (unhide hbl).size))
      clear b1
      by_cases hp : n ≤ tim mid
      · have HST : Hid (∀ i, mid ≤ i → i < 224 → n ≤ tim i) := hide (fun i hi _ => Int.le_trans hp (tim_mono hi))
        rw [decide_eq_true hp]
        go_wp2_with fail
        exact ⟨⟨low, mid, by omega, by omega, rfl, rfl, h1, HST, hb1⟩, by simp [intOf]; omega⟩
      · have HST : Hid (∀ i, i < mid + 1 → tim i < n) := hide (fun i hi => by have := tim_mono (show i ≤ mid by omega); omega)
        rw [decide_eq_false hp]
        go_wp2_with fail
        exact ⟨⟨mid + 1, high, by omega, by omega, by go_num, rfl, HST, h2, hb1⟩, by simp [intOf]; omega⟩
    · obtain rfl : low = high := by omega
      have HT : Hid (tcode n = low) := hide (cnt_of _ _ _ _ hhn (unhide h1) (unhide h2))
      go_wp2_with fail
      go_ret
      exact ⟨ret_int (by rw [unhide HT]), unhide hbl⟩
set_option maxHeartbeats 400000 in
theorem leastTime (n : Int) (h1 : n ≤ 251658240) (w : World) :
    Calls Tryz.prog 222 #[.int .i64 n] w fun e w' => e = .returned (.int .i64 (tcode n)) ∧ Below w.heap.size w w' := by
  go_enter Tryz.func222, Tryz.ntmps222
  go_wp2_with fail
  refine (search w.heap.size n (by rw [show tim 223 = 251658240 by decide]; exact h1) _ (by simp [World.cell?_alloc_new])).mono ?_
  rintro e w1 ⟨rfl, b1⟩
  go_wp2_with fail
  go_ret
  exact ⟨rfl, ((Below.refl _ _).alloc (Nat.le_refl _) _).trans (b1.mono (by simp))⟩
set_option maxHeartbeats 400000 in
theorem isExactTime (n : Int) (h1 : n ≤ 251658240) (w : World) :
    Calls Tryz.prog 217 #[.int .i64 n] w fun e w' => e = .returned (.bool (exTB n)) ∧ Below w.heap.size w w' := by
  have hlt := tcode_lt h1
  have hlt' : ((tcode n : Nat) : Int) < 224 := by omega
  cases hx : tim (tcode n) == n
  all_goals
    have HX := hide hx
    go_enter Tryz.func217, Tryz.ntmps217
    go_wp2_with fail
    refine (leastTime n h1 _).mono ?_
    rintro e w1 ⟨rfl, b1⟩
    have B1 := hide b1
    clear b1
    generalize hk : tcode n = k at *
    have HK := hide hk
    clear hk
    go_wp2_with (go_at_call 223; refine (timeAt k hlt _).mono ?_; rintro e w' ⟨rfl, rfl⟩)
    go_ret
    exact ⟨ret_bool (by unfold exTB; rw [unhide HK, unhide HX]), unhide B1⟩
set_option maxHeartbeats 400000 in
theorem isValid (n : Int) (w : World) : Calls Tryz.prog 202 #[.int .i64 n] w fun e w' => e = .returned (.bool (valB n)) ∧ Below w.heap.size w w' := by
  cases h : inB n 1 10000
  · go_enter Tryz.func202, Tryz.ntmps202
    go_wp2_with (go_at_call 88; refine (within _ _ _ _).mono ?_; rintro e w' ⟨rfl, rfl⟩)
    go_ret
    exact ⟨ret_bool (by simp [valB, h]), Below.refl _ _⟩
  · have h0 : 1 ≤ n ∧ n ≤ 10000 := by simpa [inB] using h
    have HH := hide h
    go_enter Tryz.func202, Tryz.ntmps202
    go_wp2_with (first | (go_at_call 88; refine (within _ _ _ _).mono ?_; rintro e w' ⟨rfl, rfl⟩) | (go_at_call 217; refine (isExactTime n (by omega) _).mono ?_; rintro e w' ⟨rfl, b1⟩))
    go_ret
    exact ⟨ret_bool (by simp [valB, unhide HH]), b1⟩
end Tim
end Go.Proofs.YtfooahhdikobeaaGreat
namespace Go.Proofs.YtfooahhdikobeaaGreat
open Go.ChangeShapes Go.WideShapes Go.ChangeAt Go.RowKit
set_option linter.unusedVariables false
set_option linter.unusedSimpArgs false
attribute [local go_sem ↓] Go.wp_at_zero Go.wp_at_succ
namespace Av
open W1 Ed
/-- A metric that has a code of its own. -/
def exM (n : Int) : Bool := Mtr.met (Mtr.mcode n) == n
def toldB (n : Int) : Bool := inB n 1 16744192 && exM n
def okN (m : R) : Bool := inB m.ad 1 8 && toldB m.mt
abbrev allN (ms : List R) (j : Nat) : Bool := Ri.all R.zero okN R.ad ms j
/-- Whether an advertisement is right. -/
def tcB (ansn valid : Int) (ms : List R) : Bool := inB ansn 0 65535 && (Tim.valB valid && allN ms ms.length)
theorem ok_ad {m : R} (h : okN m = true) : 1 ≤ m.ad ∧ m.ad ≤ 8 := by
  unfold okN inB at h; simp at h; exact h.1
theorem all_len {ms : List R} (h : allN ms ms.length = true) : ms.length ≤ 8 := by
  have := Ri.all_long (lo := 1) (hi := 8) (fun m hm => ok_ad hm) h; omega
theorem tc_all {ansn valid : Int} {ms : List R} (h : tcB ansn valid ms = true) : allN ms ms.length = true := by
  unfold tcB at h; simp at h; exact h.2.2
set_option maxHeartbeats 400000 in
theorem isTold (n : Int) (w : World) : Calls Tryz.prog 213 #[.int .i64 n] w fun e w' => e = .returned (.bool (toldB n)) ∧ w' = w := by
  cases h : inB n 1 16744192
  · go_enter Tryz.func213, Tryz.ntmps213
    go_wp2_with (go_at_call 88; refine (within _ _ _ _).mono ?_; rintro e w' ⟨rfl, rfl⟩)
    go_ret
    exact ⟨ret_bool (by simp [toldB, h]), rfl⟩
  · have h0 : 1 ≤ n ∧ n ≤ 16744192 := by simpa [inB] using h
    have HH := hide h
    have hk := (Mtr.mcode_is (n := n) (by omega) (by omega)).1
    have E : Hid (toldB n = (Mtr.met (Mtr.mcode n) == n)) := hide (by unfold toldB exM; rw [h]; rfl)
    generalize hq : Mtr.mcode n = k at *
    have HQ := hide hq
    clear hq
    cases hx : Mtr.met k == n
    all_goals
      go_enter Tryz.func213, Tryz.ntmps213
      go_wp2_with (first | (go_at_call 88; refine (within _ _ _ _).mono ?_; rintro e w' ⟨rfl, rfl⟩) | (go_at_call 221; refine (Mtr.leastMetric n (by omega) (by omega) _).mono ?_; rintro e w' ⟨rfl, rfl⟩; rw [unhide HQ]) | (go_at_call 220; refine (Mtr.metricAt k hk _).mono ?_; rintro e w' ⟨rfl, rfl⟩))
      go_ret
      exact ⟨ret_bool (by rw [unhide E, hx]), rfl⟩
set_option maxHeartbeats 1000000 in
theorem isEdge (ad mt : Int) (w : World) :
    Calls Tryz.prog 203 #[.agg #[.int .i64 ad, .int .i64 mt]] w fun e w' => e = .returned (.bool (okN ⟨ad, mt⟩)) ∧ Below w.heap.size w w' := by
  have E : Hid (okN ⟨ad, mt⟩ = (inB ad 1 8 && toldB mt)) := hide rfl
  cases h1 : inB ad 1 8
  rotate_left
  cases h3 : toldB mt
  all_goals
    go_enter Tryz.func203, Tryz.ntmps203
    go_wp2_with (first | (go_at_call 109; refine (isAddress _ _).mono ?_; rintro e w' ⟨rfl, rfl⟩) | (go_at_call 213; refine (isTold _ _).mono ?_; rintro e w' ⟨rfl, rfl⟩))
    go_ret
    exact ⟨ret_bool (by rw [unhide E]; simp [*]), (Below.refl _ _).alloc (Nat.le_refl _) _⟩
set_option maxHeartbeats 400000 in
theorem l04Ex (n : Int) (h0 : 1 ≤ n) (h1 : n ≤ 16744192) (w : World) : Calls Tryz.prog 141 #[.int .i64 n] w fun e w' => e = .returned (.bool (exM n)) ∧ w' = w := by
  have hk := (Mtr.mcode_is (n := n) (by omega) (by omega)).1
  have E : Hid (exM n = (Mtr.met (Mtr.mcode n) == n)) := hide rfl
  generalize hq : Mtr.mcode n = k at *
  have HQ := hide hq
  clear hq
  cases hx : Mtr.met k == n
  all_goals
    go_enter Tryz.func141, Tryz.ntmps141
    go_wp2_with (first | (go_at_call 181; refine (Mtr.l02MetricCodeE n (by omega) (by omega) _).mono ?_; rintro e w' ⟨rfl, rfl⟩; rw [unhide HQ]) | (go_at_call 180; refine (Mtr.l02Metric k hk _).mono ?_; rintro e w' ⟨rfl, rfl⟩))
    go_ret
    exact ⟨ret_bool (by rw [unhide E, hx]), rfl⟩
end Av
end Go.Proofs.YtfooahhdikobeaaGreat
namespace Go.Proofs.YtfooahhdikobeaaGreat
open Go.ChangeShapes Go.WideShapes Go.ChangeAt Go.RowKit
set_option linter.unusedVariables false
set_option linter.unusedSimpArgs false
attribute [local go_sem ↓] Go.wp_at_zero Go.wp_at_succ
namespace Av
open W1 Ed
/-- An edge in a variable's block. -/
def Bx (w : World) (b : Nat) (m : R) : Prop := w.cell? ⟨b, 0, none⟩ = some (.int .i64 m.ad) ∧ w.cell? ⟨b, 1, none⟩ = some (.int .i64 m.mt)
theorem Bx.below {w w' : World} {b : Nat} {m : R} (h : Bx w b m) (hb : Below w.heap.size w w') : Bx w' b m := by
  have hg : b < w.heap.size := World.block_lt_of_cell? _ _ h.1
  obtain ⟨h0, h1⟩ := h
  refine ⟨?_, ?_⟩ <;> (rw [hb.cell hg]; assumption)
theorem Bx.drew {w : World} {b : Nat} {m : R} (h : Bx w b m) : Bx w.drew b m := h
theorem bx_new (w : World) (m : R) (t : Nat) : Bx (w.alloc (.cells #[.int .i64 m.ad, .int .i64 m.mt] t)) w.heap.size m := by
  refine ⟨?_, ?_⟩ <;> simp [World.cell?_alloc_new]
theorem sBox {w : World} {b : Nat} {ad mt : Int} (h : Bx w b ⟨ad, mt⟩) : Bx w b ⟨ad, mt⟩ ∧ w.cell? ⟨b, 0, none⟩ = some (.int .i64 ad) ∧ w.cell? ⟨b, 1, none⟩ = some (.int .i64 mt) := ⟨h, h⟩
theorem sBox2 {w : World} {b g p B : Nat} {m : R} {ad mt will valid : Int} {v : Value} (h : Bx w b ⟨ad, mt⟩) (h' : At w g p m) (hB : Bx3 w B will valid v) :
    (Bx w b ⟨ad, mt⟩ ∧ At w g p m ∧ Bx3 w B will valid v) ∧ w.cell? ⟨b, 0, none⟩ = some (.int .i64 ad) ∧ w.cell? ⟨b, 1, none⟩ = some (.int .i64 mt) ∧ w.cell? ⟨g, p, none⟩ = some (.int .i64 m.ad) ∧ w.cell? ⟨B, 2, none⟩ = some v := ⟨⟨h, h', hB⟩, h.1, h.2, h'.1, hB.2.2⟩
set_option maxRecDepth 100000 in
set_option maxHeartbeats 4000000 in
theorem implOK (will valid : Int) (a : Option Addr) (ms : List R) (cap : Nat) (w : World) (hm : ms.length ≤ 1048576) (hr : RM w a ms) :
    Calls Tryz.prog 170 #[.agg #[.int .i64 will, .int .i64 valid, .slice a ms.length cap]] w fun e w' => e = .returned (.bool (tcB will valid ms)) ∧ Below w.heap.size w w' := by
  cases h1 : inB will 0 65535
  · have HF := hide (show tcB will valid ms = false by unfold tcB; rw [h1]; rfl)
    go_enter Tryz.func170, Tryz.ntmps170
    go_wp2_with (go_at_call 111; refine (isSeq _ _).mono ?_; rintro e w' ⟨rfl, rfl⟩)
    go_ret
    exact ⟨ret_bool (unhide HF).symm, (Below.refl _ _).alloc (Nat.le_refl _) _⟩
  cases h2 : Tim.valB valid
  · have HF := hide (show tcB will valid ms = false by unfold tcB; rw [h1, h2]; rfl)
    go_enter Tryz.func170, Tryz.ntmps170
    go_wp2_with (go_at_call 111; refine (isSeq _ _).mono ?_; rintro e w' ⟨rfl, rfl⟩)
    refine (Tim.isValid valid _).mono ?_
    rintro e w1 ⟨rfl, b1⟩
    have HB1 : Hid (Below w.heap.size w w1) := hide (((Below.refl _ _).alloc (Nat.le_refl _) _).trans (b1.mono (by simp)))
    clear b1
    go_wp2_with fail
    go_ret
    exact ⟨ret_bool (unhide HF).symm, unhide HB1⟩
  have HT : Hid (allN ms ms.length = true → tcB will valid ms = true) := hide (fun h => by unfold tcB; rw [h1, h2, h]; rfl)
  have HF : Hid (allN ms ms.length = false → tcB will valid ms = false) := hide (fun h => by unfold tcB; rw [h1, h2, h]; rfl)
  have HR := hide hr
  clear hr
  generalize hN : ms.length = n at *
  have HN := hide hN
  clear hN
  go_enter Tryz.func170, Tryz.ntmps170
  go_wp2_with (go_at_call 111; refine (isSeq _ _).mono ?_; rintro e w' ⟨rfl, rfl⟩)
  refine (Tim.isValid valid _).mono ?_
  rintro e w1 ⟨rfl, b1⟩
  have HB1 : Hid (Below w.heap.size w w1) := hide (((Below.refl _ _).alloc (Nat.le_refl _) _).trans (b1.mono (by simp)))
  have HX1 := hide ((bx3_new w will valid (.slice a n cap) 203).below b1)
  have hbx := (unhide HX1).2.2
  have HR1 := hide ((unhide HR).below (unhide HB1))
  clear b1 HR
  go_wp2
  clear hbx
  go_loopw [18] (fun i wr => ∃ j : Nat, j ≤ n ∧ i = .int .i64 j ∧ Hid (allN ms j = true) ∧ Hid (Below w1.heap.size w1 wr)) (fun i _ => n - (intOf i).toNat)
  case atStart => exact ⟨0, by omega, rfl, hide Ri.all_zero, hide (Below.refl _ _)⟩
  case round =>
    obtain ⟨j, hj, rfl, hrl, hbl⟩ := hrel
    by_cases hlt : (j : Int) < (n : Int)
    · have k0 : (0 : Int) ≤ (j : Int) := by omega
      have hlen : j < ms.length := by rw [unhide HN]; omega
      have HX := hide ((unhide HX1).below (unhide hbl))
      rcases (unhide HR1).below (by exact (unhide hbl)) with e0 | ⟨g, off, rfl, hc⟩
      · exfalso; rw [e0] at hlen; simp at hlen
      have HL := hide hlen
      have hA := hc j hlen
      have hsz := (unhide hbl).size
      have HBX := hide (bx_new wr (ms.getD j R.zero) 183)
      have HBL := hide ((unhide hbl).alloc hsz (.cells #[.int .i64 (ms.getD j R.zero).ad, .int .i64 (ms.getD j R.zero).mt] 183))
      have HXA := hide ((unhide HX).below ((Below.refl _ _).alloc (Nat.le_refl _) (.cells #[.int .i64 (ms.getD j R.zero).ad, .int .i64 (ms.getD j R.zero).mt] 183)))
      clear HX
      cases hk : okN (ms.getD j R.zero)
      · clear hc
        have HST := hide (unhide HF (by have := Ri.all_no hlen (Ri.step_bad (key := R.ad) hk); exact (unhide HN) ▸ this))
        have HK := hide hk
        clear hk
        generalize ms.getD j R.zero = m at *
        obtain ⟨ad, mt⟩ := m
        obtain ⟨c0, c1⟩ := hA
        dsimp only at c0 c1
        go_wp2_with fail
        generalize hW : wr.alloc (.cells #[.int .i64 ad, .int .i64 mt] 183) = W0 at *
        clear hW
        refine wp_region_noPanic ?_
        refine wp_region_held_drew (S := fun w' => Bx w' wr.heap.size ⟨ad, mt⟩ ∧ w'.cell? ⟨wr.heap.size, 0, none⟩ = some (.int .i64 ad) ∧ w'.cell? ⟨wr.heap.size, 1, none⟩ = some (.int .i64 mt)) (by kernel_rfl) (sBox (unhide HBX).drew) (fun hHeld => ?_)
        refine Rg.t 0 23 ?_
        (refine Rg.o 1 (fun K hK => ?_); go_simp)
        refine (isEdge ad mt _).mono ?_
        rintro e w2 ⟨rfl, b2⟩
        rw [unhide HK]
        refine hK.out _ _ (sBox ((unhide HBX).drew.below b2)) (fun hHeld => ?_)
        clear hK K
        (try simp only [Act.put, List.setIfInBounds_toArray, List.set_cons_zero, List.set_cons_succ])
        refine Rg.t 2 25 ?_
        refine Rg.t 3 26 ?_
        refine Rg.s 4 27 ?_
        refine Rg.s 5 28 ?_
        refine Rg.s 6 29 ?_
        refine Rg.s 7 30 ?_
        refine Rg.s 8 31 ?_
        refine Rg.s 9 32 ?_
        refine Rg.s 10 33 ?_
        refine Rg.s 11 34 ?_
        refine Rg.s 12 35 ?_
        refine Rg.s 13 36 ?_
        refine Rg.s 14 37 ?_
        refine Rg.s 15 38 ?_
        refine Rg.s 16 39 ?_
        refine Rg.s 17 40 ?_
        refine Rg.t 18 41 ?_
        refine wpAnyH_done (by kernel_rfl) (NoPanic.normal ?_) _
        have hb1 := hide ((unhide HB1).trans (((unhide HBL).drew.trans (b2.mono (by show w1.heap.size ≤ W0.heap.size; exact (unhide HBL).size))).mono (unhide HB1).size))
        go_wp2_with fail
        go_ret
        exact ⟨ret_bool (unhide HST).symm, unhide hb1⟩
      have HK := hide hk
      clear hk
      by_cases hj0 : j = 0
      · subst hj0
        clear hc
        rw [Nat.zero_mul, Nat.add_zero] at hA
        have HST := hide (Ri.all_succ (unhide hrl) (Ri.step_zero (key := R.ad) (unhide HK)))
        generalize ms.getD 0 R.zero = m at *
        obtain ⟨ad, mt⟩ := m
        obtain ⟨c0, c1⟩ := hA
        dsimp only at c0 c1
        go_wp2_with fail
        generalize hW : wr.alloc (.cells #[.int .i64 ad, .int .i64 mt] 183) = W0 at *
        clear hW
        refine wp_region_noPanic ?_
        refine wp_region_held_drew (S := fun w' => Bx w' wr.heap.size ⟨ad, mt⟩ ∧ w'.cell? ⟨wr.heap.size, 0, none⟩ = some (.int .i64 ad) ∧ w'.cell? ⟨wr.heap.size, 1, none⟩ = some (.int .i64 mt)) (by kernel_rfl) (sBox (unhide HBX).drew) (fun hHeld => ?_)
        refine Rg.t 0 23 ?_
        (refine Rg.o 1 (fun K hK => ?_); go_simp)
        refine (isEdge ad mt _).mono ?_
        rintro e w2 ⟨rfl, b2⟩
        rw [unhide HK]
        refine hK.out _ _ (sBox ((unhide HBX).drew.below b2)) (fun hHeld => ?_)
        clear hK K
        (try simp only [Act.put, List.setIfInBounds_toArray, List.set_cons_zero, List.set_cons_succ])
        refine Rg.t 2 25 ?_
        refine Rg.t 3 26 ?_
        refine Rg.t 4 27 ?_
        refine Rg.t 5 28 ?_
        refine Rg.t 6 29 ?_
        refine Rg.s 7 30 ?_
        refine Rg.s 8 31 ?_
        refine Rg.s 9 32 ?_
        refine Rg.s 10 33 ?_
        refine Rg.s 11 34 ?_
        refine Rg.s 12 35 ?_
        refine Rg.s 13 36 ?_
        refine Rg.s 14 37 ?_
        refine Rg.s 15 38 ?_
        refine Rg.s 16 39 ?_
        refine Rg.t 17 40 ?_
        refine Rg.t 18 41 ?_
        refine wpAnyH_done (by kernel_rfl) (NoPanic.normal ?_) _
        have hb1 := hide ((unhide HBL).drew.trans (b2.mono (by show w1.heap.size ≤ W0.heap.size; exact (unhide HBL).size)))
        go_wp2_with fail
        go_roundw
        case rel => exact ⟨0 + 1, by omega, by go_num, HST, hb1⟩
        case measure => simp [intOf]; omega
      · obtain ⟨i, hji⟩ : ∃ i, j = i + 1 := ⟨j - 1, by omega⟩
        have HJ := hide hji
        have e1 : (j : Int) - 1 = (i : Int) := by omega
        have i0 : (0 : Int) ≤ (i : Int) := by omega
        have wi : IntKind.i64.wrap (i : Int) = (i : Int) := by rw [IntKind.wrap_i64]; omega
        have i1 : (i : Int) < (n : Int) := by omega
        have j1 : (0 : Int) < (j : Int) := by omega
        have j2 : 0 < j := by omega
        have hP := hide ((hc i (by omega)).below ((Below.refl _ _).alloc (Nat.le_refl _) (.cells #[.int .i64 (ms.getD j R.zero).ad, .int .i64 (ms.getD j R.zero).mt] 183)))
        have EJ : ms.getD j R.zero = ms.getD (i + 1) R.zero := by rw [hji]
        clear hc hji
        by_cases hk : (ms.getD i R.zero).ad < (ms.getD j R.zero).ad
        · have HST : Hid (allN ms (j + 1) = true) := hide (Ri.all_succ (unhide hrl) (by rw [unhide HJ]; exact Ri.step_lt (by rw [← EJ]; exact unhide HK) (by rw [← EJ]; exact hk)))
          clear EJ
          generalize ms.getD j R.zero = m at *
          generalize ms.getD i R.zero = m0 at *
          obtain ⟨ad, mt⟩ := m
          obtain ⟨ad0, mt0⟩ := m0
          dsimp only at hk
          obtain ⟨c0, c1⟩ := hA
          dsimp only at c0 c1
          go_wp2_with fail
          generalize hW : wr.alloc (.cells #[.int .i64 ad, .int .i64 mt] 183) = W0 at *
          clear hW
          refine wp_region_noPanic ?_
          refine wp_region_held_drew (S := fun w' => (Bx w' wr.heap.size ⟨ad, mt⟩ ∧ At w' g (off + i * 2) ⟨ad0, mt0⟩ ∧ Bx3 w' w.heap.size will valid (.slice (some ⟨g, off, none⟩) n cap)) ∧ w'.cell? ⟨wr.heap.size, 0, none⟩ = some (.int .i64 ad) ∧ w'.cell? ⟨wr.heap.size, 1, none⟩ = some (.int .i64 mt) ∧ w'.cell? ⟨g, off + i * 2, none⟩ = some (.int .i64 ad0) ∧ w'.cell? ⟨w.heap.size, 2, none⟩ = some (.slice (some ⟨g, off, none⟩) n cap)) (by kernel_rfl) (sBox2 (unhide HBX).drew (unhide hP).drew (unhide HXA).drew) (fun hHeld => ?_)
          refine Rg.t 0 23 ?_
          (refine Rg.o 1 (fun K hK => ?_); go_simp)
          refine (isEdge ad mt _).mono ?_
          rintro e w2 ⟨rfl, b2⟩
          rw [unhide HK]
          refine hK.out _ _ (sBox2 ((unhide HBX).drew.below b2) ((unhide hP).drew.below b2) ((unhide HXA).drew.below b2)) (fun hHeld => ?_)
          clear hK K
          (try simp only [Act.put, List.setIfInBounds_toArray, List.set_cons_zero, List.set_cons_succ])
          refine Rg.t 2 25 ?_
          refine Rg.t 3 26 ?_
          refine Rg.t 4 27 ?_
          refine Rg.t 5 28 ?_
          refine Rg.t 6 29 ?_
          refine Rg.t 7 30 ?_
          refine Rg.t 8 31 ?_
          refine Rg.t 9 32 ?_
          refine Rg.t 10 33 ?_
          refine Rg.t 11 34 ?_
          refine Rg.t 12 35 ?_
          refine Rg.t 13 36 ?_
          refine Rg.t 14 37 ?_
          refine Rg.t 15 38 ?_
          refine Rg.t 16 39 ?_
          refine Rg.t 17 40 ?_
          refine Rg.t 18 41 ?_
          refine wpAnyH_done (by kernel_rfl) (NoPanic.normal ?_) _
          have hb1 := hide ((unhide HBL).drew.trans (b2.mono (by show w1.heap.size ≤ W0.heap.size; exact (unhide HBL).size)))
          go_wp2_with fail
          go_roundw
          case rel => exact ⟨j + 1, by omega, by go_num, HST, hb1⟩
          case measure => simp [intOf]; omega
        · have HST : Hid (tcB will valid ms = false) := hide (unhide HF (by have := Ri.all_no (unhide HL) (show Ri.step R.zero okN R.ad ms j = false by rw [unhide HJ]; exact Ri.step_ge (by rw [← EJ]; omega)); exact (unhide HN) ▸ this))
          clear EJ
          generalize ms.getD j R.zero = m at *
          generalize ms.getD i R.zero = m0 at *
          obtain ⟨ad, mt⟩ := m
          obtain ⟨ad0, mt0⟩ := m0
          dsimp only at hk
          obtain ⟨c0, c1⟩ := hA
          dsimp only at c0 c1
          go_wp2_with fail
          generalize hW : wr.alloc (.cells #[.int .i64 ad, .int .i64 mt] 183) = W0 at *
          clear hW
          refine wp_region_noPanic ?_
          refine wp_region_held_drew (S := fun w' => (Bx w' wr.heap.size ⟨ad, mt⟩ ∧ At w' g (off + i * 2) ⟨ad0, mt0⟩ ∧ Bx3 w' w.heap.size will valid (.slice (some ⟨g, off, none⟩) n cap)) ∧ w'.cell? ⟨wr.heap.size, 0, none⟩ = some (.int .i64 ad) ∧ w'.cell? ⟨wr.heap.size, 1, none⟩ = some (.int .i64 mt) ∧ w'.cell? ⟨g, off + i * 2, none⟩ = some (.int .i64 ad0) ∧ w'.cell? ⟨w.heap.size, 2, none⟩ = some (.slice (some ⟨g, off, none⟩) n cap)) (by kernel_rfl) (sBox2 (unhide HBX).drew (unhide hP).drew (unhide HXA).drew) (fun hHeld => ?_)
          refine Rg.t 0 23 ?_
          (refine Rg.o 1 (fun K hK => ?_); go_simp)
          refine (isEdge ad mt _).mono ?_
          rintro e w2 ⟨rfl, b2⟩
          rw [unhide HK]
          refine hK.out _ _ (sBox2 ((unhide HBX).drew.below b2) ((unhide hP).drew.below b2) ((unhide HXA).drew.below b2)) (fun hHeld => ?_)
          clear hK K
          (try simp only [Act.put, List.setIfInBounds_toArray, List.set_cons_zero, List.set_cons_succ])
          refine Rg.t 2 25 ?_
          refine Rg.t 3 26 ?_
          refine Rg.t 4 27 ?_
          refine Rg.t 5 28 ?_
          refine Rg.t 6 29 ?_
          refine Rg.t 7 30 ?_
          refine Rg.t 8 31 ?_
          refine Rg.t 9 32 ?_
          refine Rg.t 10 33 ?_
          refine Rg.t 11 34 ?_
          refine Rg.t 12 35 ?_
          refine Rg.t 13 36 ?_
          refine Rg.t 14 37 ?_
          refine Rg.t 15 38 ?_
          refine Rg.t 16 39 ?_
          refine Rg.t 17 40 ?_
          refine Rg.t 18 41 ?_
          refine wpAnyH_done (by kernel_rfl) (NoPanic.normal ?_) _
          have hb1 := hide ((unhide HB1).trans (((unhide HBL).drew.trans (b2.mono (by show w1.heap.size ≤ W0.heap.size; exact (unhide HBL).size))).mono (unhide HB1).size))
          go_wp2_with fail
          go_ret
          exact ⟨ret_bool (unhide HST).symm, unhide hb1⟩
    · obtain rfl : j = n := by omega
      go_wp2
      go_ret
      exact ⟨ret_bool (unhide HT (unhide hrl)).symm, (unhide HB1).trans ((unhide hbl).mono (unhide HB1).size)⟩
set_option maxRecDepth 100000 in
set_option maxHeartbeats 4000000 in
theorem l05Edges (a : Option Addr) (ms : List R) (cap : Nat) (w : World) (hm : ms.length ≤ 1048576) (hr : RM w a ms) :
    Calls Tryz.prog 138 #[.slice a ms.length cap] w fun e w' => e = .returned (.bool (allN ms ms.length)) ∧ ∃ q, w' = w.drewN q := by
  have HT : Hid (allN ms ms.length = true → ms.length ≤ 8) := hide all_len
  have HR := hide hr
  clear hr
  obtain ⟨A, hA⟩ : ∃ A, allN ms ms.length = A := ⟨_, rfl⟩
  have HA := hide hA
  rw [hA]
  clear hA
  generalize hN : ms.length = n at *
  have HN := hide hN
  clear hN
  go_enter Tryz.func138, Tryz.ntmps138
  go_wp2_with fail
  go_loopw [3] (fun i wr => ∃ j : Nat, j ≤ n ∧ i = .int .i64 j ∧ Hid (allN ms j = true) ∧ Hid (∃ q, wr = w.drewN q)) (fun i _ => n - (intOf i).toNat)
  case atStart => exact ⟨0, by omega, rfl, hide Ri.all_zero, hide ⟨0, rfl⟩⟩
  case round =>
    obtain ⟨j, hj, rfl, hrl, hq⟩ := hrel
    have HRr : Hid (RM wr a ms) := hide (by obtain ⟨q, e⟩ := unhide hq; rw [e]; exact unhide HR)
    have HD : Hid (∀ m, ∃ q, wr.drewN m = w.drewN q) := hide (fun m => by obtain ⟨q, e⟩ := unhide hq; exact ⟨_, by rw [e, World.drewN_drewN]⟩)
    by_cases hlt : (j : Int) < (n : Int)
    · have k0 : (0 : Int) ≤ (j : Int) := by omega
      have hlen : j < ms.length := by rw [unhide HN]; omega
      rcases unhide HRr with e0 | ⟨g, off, rfl, hc⟩
      · exfalso; rw [e0] at hlen; simp at hlen
      have HL := hide hlen
      have hA := hc j hlen
      cases hk : okN (ms.getD j R.zero)
      · clear hc
        have HST : Hid (A = false) := hide (by rw [← unhide HA, ← unhide HN]; exact Ri.all_no hlen (Ri.step_bad (key := R.ad) hk))
        generalize ms.getD j R.zero = m at *
        obtain ⟨ad, mt⟩ := m
        obtain ⟨c0, c1⟩ := hA
        dsimp only at c0 c1
        have hk' : (inB ad 1 8 && (inB mt 1 16744192 && exM mt)) = false := hk
        clear hk
        cases h1 : inB ad 1 8
        rotate_left
        cases h2 : inB mt 1 16744192
        rotate_left
        have hmt : 1 ≤ mt ∧ mt ≤ 16744192 := by simpa [inB] using h2
        have h3 : exM mt = false := by rw [h1, h2] at hk'; simpa using hk'
        all_goals
          clear hk'
          go_wp2_with fail
          go_quiet ((first | (go_at_call 124; exact Calls.quiet_of_same (l01Addr _ _)) | (go_at_call 43; exact Calls.quiet_of_same (l01In _ _ _ _)) | (go_at_call 141; exact Calls.quiet_of_same (l04Ex mt (by omega) (by omega) _))))
          go_wp2_with fail
          go_ret
          exact ⟨ret_bool (unhide HST).symm, unhide HD _⟩
      have hk' : (inB (ms.getD j R.zero).ad 1 8 && (inB (ms.getD j R.zero).mt 1 16744192 && exM (ms.getD j R.zero).mt)) = true := hk
      simp only [Bool.and_eq_true] at hk'
      obtain ⟨h1, h2, h3⟩ := hk'
      have hmt : 1 ≤ (ms.getD j R.zero).mt ∧ (ms.getD j R.zero).mt ≤ 16744192 := by simpa [inB] using h2
      have HO := hide hk
      clear hk
      by_cases hj0 : j = 0
      · subst hj0
        clear hc
        rw [Nat.zero_mul, Nat.add_zero] at hA
        have HST := hide (Ri.all_succ (unhide hrl) (Ri.step_zero (key := R.ad) (unhide HO)))
        generalize ms.getD 0 R.zero = m at *
        obtain ⟨ad, mt⟩ := m
        obtain ⟨c0, c1⟩ := hA
        dsimp only at c0 c1 h1 h2 h3 hmt
        go_wp2_with fail
        go_quiet ((first | (go_at_call 124; exact Calls.quiet_of_same (l01Addr _ _)) | (go_at_call 43; exact Calls.quiet_of_same (l01In _ _ _ _)) | (go_at_call 141; exact Calls.quiet_of_same (l04Ex mt (by omega) (by omega) _))))
        go_wp2_with fail
        go_roundw
        case rel => exact ⟨0 + 1, by omega, by go_num, HST, hide (unhide HD _)⟩
        case measure => simp [intOf]; omega
      · obtain ⟨i, hji⟩ : ∃ i, j = i + 1 := ⟨j - 1, by omega⟩
        have HJ := hide hji
        have e1 : (j : Int) - 1 = (i : Int) := by omega
        have i0 : (0 : Int) ≤ (i : Int) := by omega
        have wi : IntKind.i64.wrap (i : Int) = (i : Int) := by rw [IntKind.wrap_i64]; omega
        have i1 : (i : Int) < (n : Int) := by omega
        have j1 : (0 : Int) < (j : Int) := by omega
        have j2 : 0 < j := by omega
        have hP := hc i (by omega)
        have EJ : ms.getD j R.zero = ms.getD (i + 1) R.zero := by rw [hji]
        clear hc hji
        by_cases hk : (ms.getD i R.zero).ad < (ms.getD j R.zero).ad
        · have HST : Hid (allN ms (j + 1) = true) := hide (Ri.all_succ (unhide hrl) (by rw [unhide HJ]; exact Ri.step_lt (by rw [← EJ]; exact unhide HO) (by rw [← EJ]; exact hk)))
          clear EJ
          generalize ms.getD j R.zero = m at *
          generalize ms.getD i R.zero = m0 at *
          obtain ⟨ad, mt⟩ := m
          obtain ⟨ad0, mt0⟩ := m0
          obtain ⟨c0, c1⟩ := hA
          obtain ⟨d0, d1⟩ := hP
          dsimp only at hk c0 c1 d0 d1 h1 h2 h3 hmt
          go_wp2_with fail
          go_quiet ((first | (go_at_call 124; exact Calls.quiet_of_same (l01Addr _ _)) | (go_at_call 43; exact Calls.quiet_of_same (l01In _ _ _ _)) | (go_at_call 141; exact Calls.quiet_of_same (l04Ex mt (by omega) (by omega) _))))
          go_wp2_with fail
          go_roundw
          case rel => exact ⟨j + 1, by omega, by go_num, HST, hide (unhide HD _)⟩
          case measure => simp [intOf]; omega
        · have HST : Hid (A = false) := hide (by rw [← unhide HA, ← unhide HN]; exact Ri.all_no (unhide HL) (show Ri.step R.zero okN R.ad ms j = false by rw [unhide HJ]; exact Ri.step_ge (by rw [← EJ]; omega)))
          clear EJ
          generalize ms.getD j R.zero = m at *
          generalize ms.getD i R.zero = m0 at *
          obtain ⟨ad, mt⟩ := m
          obtain ⟨ad0, mt0⟩ := m0
          obtain ⟨c0, c1⟩ := hA
          obtain ⟨d0, d1⟩ := hP
          dsimp only at hk c0 c1 d0 d1 h1 h2 h3 hmt
          go_wp2_with fail
          go_quiet ((first | (go_at_call 124; exact Calls.quiet_of_same (l01Addr _ _)) | (go_at_call 43; exact Calls.quiet_of_same (l01In _ _ _ _)) | (go_at_call 141; exact Calls.quiet_of_same (l04Ex mt (by omega) (by omega) _))))
          go_wp2_with fail
          go_ret
          exact ⟨ret_bool (unhide HST).symm, unhide HD _⟩
    · obtain rfl : j = n := by omega
      have ht : A = true := by rw [← unhide HA, ← unhide hrl]
      have h8 := unhide HT (unhide hrl)
      have h8' : (j : Int) ≤ 8 := by omega
      have HST := hide ht
      clear ht
      go_wp2
      go_ret
      exact ⟨ret_bool (unhide HST).symm, unhide hq⟩
end Av
end Go.Proofs.YtfooahhdikobeaaGreat
namespace Go.Proofs.YtfooahhdikobeaaGreat
open Go.ChangeShapes Go.WideShapes Go.ChangeAt Go.RowKit
set_option linter.unusedVariables false
set_option linter.unusedSimpArgs false
set_option maxRecDepth 100000
attribute [local go_sem ↓] Go.wp_at_zero Go.wp_at_succ
namespace Rt
open W1
/-- Whether what a router keeps of a link can be advertised. -/
def outB (co sy : Int) : Bool := if (co == 0) = true then sy == 0 else Av.toldB co
def lkB (me : Int) (x : Lk.R) : Bool := !(x.ad == me) && outB x.co x.sy
def twB (me : Int) (m : Tu.R) : Bool := !(Tw.hv m == me) && !(Tw.ha m == me)
def lksB (me : Int) (ls : List Lk.R) : Bool := Ln.linksB ls && ls.all (lkB me)
def twoOf (me : Int) (tw : List Tu.R) : Bool := Tw.twoB tw && tw.all (twB me)
def rtrB (x1 x2 x3 x4 x5 x6 : Int) (ls : List Lk.R) (tw se du : List Tu.R) (ss : List So.R) (es : List Tu.R) (la : List Ed.R) : Bool :=
  inB x1 1 8 && (inB x2 0 7 && (inB x3 0 65535 && (inB x4 0 65535 && (inB x5 0 100000 && (inB x6 0 1000000 && (lksB x1 ls && (twoOf x1 tw && (St.setB se && (St.setB du && (Tp.topB ss es && (!(Tp.hasS ss x1) && Av.allN la la.length)))))))))))
theorem all_no {α : Type} {p : α → Bool} {z : α} {ms : List α} {j : Nat} (h : j < ms.length) (hp : p (ms.getD j z) = false) : ms.all p = false := by
  rw [List.all_eq_false]
  refine ⟨ms.getD j z, ?_, by rw [hp]; simp⟩
  rw [List.getD_eq_getElem?_getD, List.getElem?_eq_getElem h]; exact List.getElem_mem h
theorem all_step {α : Type} {p : α → Bool} {z : α} {ms : List α} {j : Nat} (h : j < ms.length) (ha : (ms.take j).all p = true) (hp : p (ms.getD j z) = true) : (ms.take (j + 1)).all p = true := by
  rw [List.take_add_one, List.getElem?_eq_getElem h, List.all_append, ha]
  rw [List.getD_eq_getElem?_getD, List.getElem?_eq_getElem h] at hp
  simpa using hp
set_option maxHeartbeats 2000000 in
theorem isOutOf (ad hd sy ci co wl : Int) (w : World) :
    Calls Tryz.prog 198 #[.agg #[.int .i64 ad, .int .i64 hd, .int .i64 sy, .int .i64 ci, .int .i64 co, .int .i64 wl]] w fun e w' => e = .returned (.bool (outB co sy)) ∧ Below w.heap.size w w' := by
  have E : Hid (outB co sy = if (co == 0) = true then sy == 0 else Av.toldB co) := hide rfl
  cases h1 : (co == 0)
  · go_enter Tryz.func198, Tryz.ntmps198
    go_wp2_with (go_at_call 213; refine (Av.isTold _ _).mono ?_; rintro e w' ⟨rfl, rfl⟩)
    go_ret
    exact ⟨ret_bool (by rw [unhide E, h1]; simp), (Below.refl _ _).alloc (Nat.le_refl _) _⟩
  · go_enter Tryz.func198, Tryz.ntmps198
    go_wp2_with fail
    go_ret
    exact ⟨ret_bool (by rw [unhide E, h1]; simp), (Below.refl _ _).alloc (Nat.le_refl _) _⟩
set_option maxHeartbeats 4000000 in
theorem areLinksOf (me : Int) (a : Option Addr) (ls : List Lk.R) (cap : Nat) (w : World) (hm : ls.length ≤ 1048576) (hr : Lk.RM w a ls) :
    Calls Tryz.prog 165 #[.int .i64 me, .slice a ls.length cap] w fun e w' => e = .returned (.bool (lksB me ls)) ∧ Below w.heap.size w w' := by
  have HR := hide hr
  clear hr
  have E : Hid (lksB me ls = (Ln.linksB ls && ls.all (lkB me))) := hide rfl
  have KL := hide (fun W => Ln.implOK a ls cap W hm)
  cases hl : Ln.linksB ls
  · have hv : lksB me ls = false := by rw [unhide E, hl]; rfl
    rw [hv]
    rw [hl] at KL
    clear hv hl
    go_enter Tryz.func165, Tryz.ntmps165
    go_wp2_with fail
    refine (unhide KL _ (unhide HR)).mono ?_
    rintro e w1 ⟨rfl, b1⟩
    have HB1 := hide b1
    clear b1
    go_wp2_with fail
    go_ret
    exact ⟨rfl, unhide HB1⟩
  have h8 := Ln.links_len hl
  have HE : Hid (lksB me ls = ls.all (lkB me)) := hide (by rw [unhide E, hl]; rfl)
  rw [hl] at KL
  clear hl E
  obtain ⟨A, hA⟩ : ∃ A, lksB me ls = A := ⟨_, rfl⟩
  rw [hA] at HE ⊢
  clear hA
  generalize hN : ls.length = n at *
  have HN := hide hN
  clear hN
  go_enter Tryz.func165, Tryz.ntmps165
  go_wp2_with fail
  refine (unhide KL _ (unhide HR)).mono ?_
  rintro e w1 ⟨rfl, b1⟩
  have HB1 := hide b1
  clear b1
  go_wp2_with fail
  go_loopw [12] (fun i wr => ∃ j : Nat, j ≤ n ∧ i = .int .i64 j ∧ Hid ((ls.take j).all (lkB me) = true) ∧ Hid (Below w.heap.size w wr)) (fun i _ => n - (intOf i).toNat)
  case atStart => exact ⟨0, by omega, rfl, hide rfl, HB1⟩
  case round =>
    obtain ⟨j, hj, rfl, hal, hbl⟩ := hrel
    have hbs := (unhide hbl).size
    by_cases hlt : (j : Int) < (n : Int)
    · have k0 : (0 : Int) ≤ (j : Int) := by omega
      have hlen : j < ls.length := by rw [unhide HN]; omega
      obtain ⟨g, off, rfl⟩ := (unhide HR).form (by omega)
      have hA := ((unhide HR).below (unhide hbl)).at hlen
      have HY : Hid (lkB me (ls.getD j Lk.R.zero) = true → (ls.take (j + 1)).all (lkB me) = true) := hide (fun h => all_step hlen (unhide hal) h)
      have HZ : Hid (lkB me (ls.getD j Lk.R.zero) = false → A = false) := hide (fun h => by rw [unhide HE]; exact all_no hlen h)
      generalize ls.getD j Lk.R.zero = m at *
      obtain ⟨ad, hd, sy, ci, co, wl⟩ := m
      obtain ⟨c0, c1, c2, c3, c4, c5⟩ := hA
      dsimp only at c0 c1 c2 c3 c4 c5
      have EK : Hid (lkB me ⟨ad, hd, sy, ci, co, wl⟩ = (!(ad == me) && outB co sy)) := hide rfl
      have HB2 := hide ((unhide hbl).alloc hbs (.cells #[.int .i64 ad, .int .i64 hd, .int .i64 sy, .int .i64 ci, .int .i64 co, .int .i64 wl] 166))
      cases q1 : (ad == me)
      · have KO := hide (isOutOf ad hd sy ci co wl)
        cases q2 : outB co sy
        · have hf := unhide HZ (by rw [unhide EK, q1, q2]; rfl)
          rw [q2] at KO
          clear q2 HY HZ EK
          go_wp2_with fail
          generalize hWW : wr.alloc (.cells #[.int .i64 ad, .int .i64 hd, .int .i64 sy, .int .i64 ci, .int .i64 co, .int .i64 wl] 166) = WW at *
          clear hWW c0 c1 c2 c3 c4 c5
          refine (unhide KO _).mono ?_
          rintro e w3 ⟨rfl, b3⟩
          have HB3 := hide ((unhide HB2).trans (b3.mono (unhide HB2).size))
          clear b3
          go_wp2_with fail
          go_ret
          exact ⟨ret_bool hf.symm, unhide HB3⟩
        · have hy := hide (unhide HY (by rw [unhide EK, q1, q2]; rfl))
          rw [q2] at KO
          clear q2 HY HZ EK
          go_wp2_with fail
          generalize hWW : wr.alloc (.cells #[.int .i64 ad, .int .i64 hd, .int .i64 sy, .int .i64 ci, .int .i64 co, .int .i64 wl] 166) = WW at *
          clear hWW c0 c1 c2 c3 c4 c5
          refine (unhide KO _).mono ?_
          rintro e w3 ⟨rfl, b3⟩
          have HB3 := hide ((unhide HB2).trans (b3.mono (unhide HB2).size))
          clear b3
          go_wp2_with fail
          go_roundw
          case rel => exact ⟨j + 1, by omega, by go_num, hy, HB3⟩
          case measure => simp [intOf]; omega
      · have hf := unhide HZ (by rw [unhide EK, q1]; rfl)
        clear HY HZ EK
        go_wp2_with fail
        go_ret
        exact ⟨ret_bool hf.symm, unhide HB2⟩
    · obtain rfl : j = n := by omega
      have e : ls.take j = ls := List.take_of_length_le (by rw [unhide HN]; exact Nat.le_refl _)
      have ht : A = true := by rw [unhide HE, ← e]; exact unhide hal
      have HT := hide ht
      clear e ht
      go_wp2_with fail
      go_ret
      exact ⟨ret_bool (unhide HT).symm, unhide hbl⟩
set_option maxHeartbeats 4000000 in
theorem areTwoOf (me : Int) (a : Option Addr) (tw : List Tu.R) (cap : Nat) (w : World) (hm : tw.length ≤ 1048576) (hr : Tu.RM w a tw) :
    Calls Tryz.prog 166 #[.int .i64 me, .slice a tw.length cap] w fun e w' => e = .returned (.bool (twoOf me tw)) ∧ Below w.heap.size w w' := by
  have HR := hide hr
  clear hr
  have E : Hid (twoOf me tw = (Tw.twoB tw && tw.all (twB me))) := hide rfl
  have KL := hide (fun W => Tw.areHops a tw cap W hm)
  cases hl : Tw.twoB tw
  · have hv : twoOf me tw = false := by rw [unhide E, hl]; rfl
    rw [hv]
    rw [hl] at KL
    clear hv hl
    go_enter Tryz.func166, Tryz.ntmps166
    go_wp2_with fail
    refine (unhide KL _ (unhide HR)).mono ?_
    rintro e w1 ⟨rfl, b1⟩
    have HB1 := hide b1
    clear b1
    go_wp2_with fail
    go_ret
    exact ⟨rfl, unhide HB1⟩
  have h62 := Tw.two_len hl
  have HTW := hide hl
  have HE : Hid (twoOf me tw = tw.all (twB me)) := hide (by rw [unhide E, hl]; rfl)
  rw [hl] at KL
  clear hl E
  obtain ⟨A, hA⟩ : ∃ A, twoOf me tw = A := ⟨_, rfl⟩
  rw [hA] at HE ⊢
  clear hA
  generalize hN : tw.length = n at *
  have HN := hide hN
  clear hN
  go_enter Tryz.func166, Tryz.ntmps166
  go_wp2_with fail
  refine (unhide KL _ (unhide HR)).mono ?_
  rintro e w1 ⟨rfl, b1⟩
  have HB1 := hide b1
  clear b1
  go_wp2_with fail
  go_loopw [13] (fun i wr => ∃ j : Nat, j ≤ n ∧ i = .int .i64 j ∧ Hid ((tw.take j).all (twB me) = true) ∧ Hid (Below w.heap.size w wr)) (fun i _ => n - (intOf i).toNat)
  case atStart => exact ⟨0, by omega, rfl, hide rfl, HB1⟩
  case round =>
    obtain ⟨j, hj, rfl, hal, hbl⟩ := hrel
    have hbs := (unhide hbl).size
    by_cases hlt : (j : Int) < (n : Int)
    · have k0 : (0 : Int) ≤ (j : Int) := by omega
      have hlen : j < tw.length := by rw [unhide HN]; omega
      obtain ⟨g, off, rfl⟩ := (unhide HR).form (by omega)
      have hA := ((unhide HR).below (unhide hbl)).at hlen
      have HY : Hid (twB me (tw.getD j Tu.R.zero) = true → (tw.take (j + 1)).all (twB me) = true) := hide (fun h => all_step hlen (unhide hal) h)
      have HZ : Hid (twB me (tw.getD j Tu.R.zero) = false → A = false) := hide (fun h => by rw [unhide HE]; exact all_no hlen h)
      have hbd := St.ok_bounds (St.setB_ok (Tw.two_set (unhide HTW)) hlen)
      generalize tw.getD j Tu.R.zero = m at *
      obtain ⟨key, til, val⟩ := m
      obtain ⟨c0, c1, c2⟩ := hA
      dsimp only at c0 c1 c2 hbd
      have EK : Hid (twB me ⟨key, til, val⟩ = (!(key.tdiv 100 == me) && !(key.tmod 100 == me))) := hide rfl
      have KH := hide (fun W => Tw.hopOfKey key W (by omega) (by omega))
      obtain ⟨kd, hkd⟩ : ∃ kd, key.tdiv 100 = kd := ⟨_, rfl⟩
      obtain ⟨km, hkm⟩ : ∃ km, key.tmod 100 = km := ⟨_, rfl⟩
      rw [hkd, hkm] at EK KH
      clear hkd hkm hbd
      have HB2 := hide ((unhide hbl).alloc hbs (.cells #[.int .i64 key, .int .i64 til, .int .i64 val] 99))
      go_wp2_with fail
      generalize hWW : wr.alloc (.cells #[.int .i64 key, .int .i64 til, .int .i64 val] 99) = WW at *
      clear hWW c0 c1 c2
      refine (unhide KH _).mono ?_
      rintro e w3 ⟨rfl, b3⟩
      have HB3 := hide (((unhide HB2).trans (b3.mono (unhide HB2).size)).alloc (Nat.le_trans (unhide HB2).size b3.size) (.cells #[.int .i64 kd, .int .i64 km] 145))
      clear b3
      cases q1 : (kd == me)
      · cases q2 : (km == me)
        · have hy := hide (unhide HY (by rw [unhide EK, q1, q2]; rfl))
          clear HY HZ EK
          go_wp2_with fail
          go_roundw
          case rel => exact ⟨j + 1, by omega, by go_num, hy, HB3⟩
          case measure => simp [intOf]; omega
        · have hf := unhide HZ (by rw [unhide EK, q1, q2]; rfl)
          clear HY HZ EK
          go_wp2_with fail
          go_ret
          exact ⟨ret_bool hf.symm, unhide HB3⟩
      · have hf := unhide HZ (by rw [unhide EK, q1]; rfl)
        clear HY HZ EK
        go_wp2_with fail
        go_ret
        exact ⟨ret_bool hf.symm, unhide HB3⟩
    · obtain rfl : j = n := by omega
      have e : tw.take j = tw := List.take_of_length_le (by rw [unhide HN]; exact Nat.le_refl _)
      have ht : A = true := by rw [unhide HE, ← e]; exact unhide hal
      have HT := hide ht
      clear e ht
      go_wp2_with fail
      go_ret
      exact ⟨ret_bool (unhide HT).symm, unhide hbl⟩
end Rt
end Go.Proofs.YtfooahhdikobeaaGreat
namespace Go.Proofs.YtfooahhdikobeaaGreat
open Go.ChangeShapes Go.WideShapes Go.ChangeAt Go.RowKit
set_option linter.unusedVariables false
set_option linter.unusedSimpArgs false
set_option maxRecDepth 100000
attribute [local go_sem ↓] Go.wp_at_zero Go.wp_at_succ
namespace Nt
open W1 Rt
/-- All places below n. -/
def allI (n : Nat) (p : Nat → Bool) : Bool := (List.range n).all p
theorem allI_no {n : Nat} {p : Nat → Bool} {j : Nat} (h : j < n) (hp : p j = false) : allI n p = false := by
  unfold allI
  rw [List.all_eq_false]
  exact ⟨j, List.mem_range.2 h, by rw [hp]; simp⟩
theorem allI_yes {n : Nat} {p : Nat → Bool} (h : ∀ i, i < n → p i = true) : allI n p = true := by
  unfold allI
  rw [List.all_eq_true]
  exact fun i hi => h i (List.mem_range.1 hi)
theorem allI_at {n : Nat} {p : Nat → Bool} (h : allI n p = true) {i : Nat} (hi : i < n) : p i = true := by
  unfold allI at h
  rw [List.all_eq_true] at h
  exact h i (List.mem_range.2 hi)
theorem up_to {p : Nat → Bool} {j : Nat} (h : ∀ i, i < j → p i = true) (hj : p j = true) : ∀ i, i < j + 1 → p i = true := fun i hi => by
  by_cases e : i = j
  · subst e; exact hj
  · exact h i (by omega)
/-- A cost at a place of n routers' rows. -/
def cok (cs : List Int) (n i : Nat) : Bool := inB (cs.getD i 0) 0 256 && (!(decide (i / n = i % n)) || cs.getD i 0 == 0)
def costB (cs : List Int) (n : Nat) : Bool := cs.length == n * n && allI cs.length (cok cs n)
theorem diag {n i : Nat} (h1 : 1 ≤ n) (h6 : n ≤ 6) (hi : i < n * n) : (i % (n + 1) = 0) ↔ (i / n = i % n) := by
  have key : ∀ n, n < 7 → 1 ≤ n → ∀ i, i < 36 → i < n * n → ((i % (n + 1) = 0) ↔ (i / n = i % n)) := by decide +kernel
  exact key n (by omega) h1 i (Nat.lt_of_lt_of_le hi (Nat.mul_le_mul h6 h6)) hi
/-- A frame of n routers at a time. -/
def fok (f : Fm.R) (n : Nat) (t : Int) : Bool := inB f.fr 1 n && (inB f.tt 1 n && (!(f.fr == f.tt) && (inB f.ti t (t + 1) && decide ((f.bs.size : Int) ≤ 900))))
def airB (fs : List Fm.R) (n : Nat) (t : Int) : Bool := decide (fs.length ≤ 200) && allI fs.length fun i => fok (fs.getD i Fm.R.zero) n t
def okM (m : Rm) : Bool := rtrB m.x1 m.x2 m.x3 m.x4 m.x5 m.x6 m.ls m.tw m.se m.du m.ss m.es m.la
def rok (m : Rm) (i : Nat) (t : Int) : Bool := okM m && (m.x1 == (i : Int) + 1 && decide (m.x5 ≤ t))
def rtsB (ms : List Rm) (t : Int) : Bool := allI ms.length fun i => rok (ms.getD i Rm.zero) i t
/-- Whether a net is right. -/
def netB (ms : List Rm) (cs : List Int) (fs : List Fm.R) (t : Int) : Bool := inB t 0 100000 && (inB ms.length 1 6 && (rtsB ms t && (costB cs ms.length && airB fs ms.length t)))
end Nt
end Go.Proofs.YtfooahhdikobeaaGreat
namespace Go.Proofs.YtfooahhdikobeaaGreat
open Go.ChangeShapes Go.WideShapes Go.ChangeAt Go.RowKit
set_option linter.unusedVariables false
set_option linter.unusedSimpArgs false
set_option maxRecDepth 100000
attribute [local go_sem ↓] Go.wp_at_zero Go.wp_at_succ
namespace Rt
open W1
theorem RA.but {w w' : World} {b : Nat} {cs : List Value} (h : RA w b cs) (hb : w'.heap[b]? = w.heap[b]?) : RA w' b cs := by
  have c : ∀ q, w'.cell? ⟨b, q, none⟩ = w.cell? ⟨b, q, none⟩ := fun q => World.cell?_of_block (a := ⟨b, q, none⟩) hb
  have f : ∀ q, w'.frozen? ⟨b, q, none⟩ = w.frozen? ⟨b, q, none⟩ := fun q => World.frozen?_of_block (a := ⟨b, q, none⟩) hb
  exact ⟨fun j u hu => (c _).trans (h.1 j u hu), fun j hj => ⟨by rw [c]; exact (h.2.1 j hj).1, by rw [f]; exact (h.2.1 j hj).2⟩, h.2.2⟩
theorem cells13 : Tryz.prog.cellsOf 114 = 13 := by kernel_rfl
theorem cells_int : Tryz.prog.cellsOf 3 = 1 := by kernel_rfl
theorem cells_lk : Tryz.prog.cellsOf 107 = 1 := by kernel_rfl
theorem cells_tu : Tryz.prog.cellsOf 108 = 1 := by kernel_rfl
theorem cells_so : Tryz.prog.cellsOf 109 = 1 := by kernel_rfl
theorem cells_ed : Tryz.prog.cellsOf 112 = 1 := by kernel_rfl
theorem cells_top : Tryz.prog.cellsOf 111 = 2 := by kernel_rfl
theorem list13 {α : Type} {l : List α} (h : l.length = 13) : ∃ c0 c1 c2 c3 c4 c5 c6 c7 c8 c9 c10 c11 c12, l = [c0, c1, c2, c3, c4, c5, c6, c7, c8, c9, c10, c11, c12] := by
  match l, h with
  | [c0, c1, c2, c3, c4, c5, c6, c7, c8, c9, c10, c11, c12], _ => exact ⟨c0, c1, c2, c3, c4, c5, c6, c7, c8, c9, c10, c11, c12, rfl⟩
theorem list12 {α : Type} {l : List α} (h : l.length = 12) : ∃ x0 x1 x2 x3 x4 x5 x6 x7 x8 x9 x10 x11, l = [x0, x1, x2, x3, x4, x5, x6, x7, x8, x9, x10, x11] := by
  match l, h with
  | [x0, x1, x2, x3, x4, x5, x6, x7, x8, x9, x10, x11], _ => exact ⟨x0, x1, x2, x3, x4, x5, x6, x7, x8, x9, x10, x11, rfl⟩
end Rt
end Go.Proofs.YtfooahhdikobeaaGreat
