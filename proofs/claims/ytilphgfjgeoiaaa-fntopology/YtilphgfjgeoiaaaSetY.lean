/-
  Contracts: SetPut, the model's.
-/
import Derived.Test.YtilphgfjgeoiaaaSetX
namespace Go.Proofs.Ytilphgfjgeoiaaa
open Go.ChangeShapes Go.WideShapes Go.ChangeAt Go.RowKit
set_option linter.unusedVariables false
set_option linter.unusedSimpArgs false
attribute [local go_sem ↓] Go.wp_at_zero Go.wp_at_succ
namespace St
open W1 Tu
theorem Upto.set {w : World} {g n p : Nat} {ms : List R} (x : R) (h : Upto w g n n ms) (hn : n = ms.length) (hp : p < n) : Upto (put w g (p * 3) x) g n n (ms.set p x) := by
  refine ⟨fun i hi => ?_, fun i hi => ⟨put_some _ _ _ _ _ _ (h.2 i hi).1, by rw [put_frozen]; exact (h.2 i hi).2⟩⟩
  by_cases e : i = p
  · subst e
    have : (ms.set i x).getD i R.zero = x := by rw [List.getD_eq_getElem?_getD, List.getElem?_set_self (by omega)]; rfl
    rw [this]
    exact put_at _ _ _ _ (fun k hk => (h.2 _ (by omega)).1)
  · have : (ms.set p x).getD i R.zero = ms.getD i R.zero := by rw [List.getD_eq_getElem?_getD, List.getD_eq_getElem?_getD, List.getElem?_set_ne (by omega)]
    rw [this]
    obtain ⟨h0, h1, h2⟩ := h.1 i (by omega)
    exact ⟨(put_far _ _ _ _ (by omega)).trans h0, (put_far _ _ _ _ (by omega)).trans h1, (put_far _ _ _ _ (by omega)).trans h2⟩
theorem set_parts (ms : List R) (p : Nat) (x : R) (h : p < ms.length) : ms.set p x = ms.take p ++ [x] ++ ms.drop (p + 1) := by
  rw [List.set_eq_take_append_cons_drop, if_pos h, List.append_assoc]; rfl
/-- The model's own copy, in a row that is there even if it is empty. -/
theorem l03OwnG (g off : Nat) (ms : List R) (cap n : Nat) (w : World) (hn : ms.length = n) (hm : ms.length ≤ 4096) (hr : RM w (some ⟨g, off, none⟩) ms) :
    Calls Try.prog 88 #[.slice (some ⟨g, off, none⟩) n cap] w fun e w' => ∃ b c, e = .returned (.slice (some ⟨b, 0, none⟩) n c) ∧ Below w.heap.size w w' ∧ w.heap.size ≤ b ∧ b < w'.heap.size ∧ n ≤ c ∧ c ≤ maxLen ∧ Upto w' b n n ms := by
  have HR := hide (hr.below ((Below.refl _ _).alloc (Nat.le_refl _) (.cells #[] 73)))
  have O0 := hide (own_empty w w.heap.size (Nat.le_refl _))
  have HN := hide hn
  clear hr hn
  obtain ⟨i0, hi, hz0, hz1, hz2⟩ := infoR
  have hm' : n ≤ 4096 := by rw [← unhide HN]; exact hm
  go_enter Try.func88, Try.ntmps88
  go_wp2_with (at_builtin; refine wpList_append_own _ rfl _ _ _ rfl w.heap.size 73 i0 _ 3 24 Try.underlying24 hi hz0 hz1 hz2 rfl (by decide) _ 0 (flat []) rfl (unhide O0) ⟨g, off, none⟩ n cap (flat ms) rfl (by rw [flat_len, unhide HN]) (unhide HR).cells (fun u hu => flat_one_cell hu) (by unfold maxLen; omega) (by omega) (by simp) ?_; intro v' w' ho hg hiff; have HO := hide ho; have HB := hide (below_own ((Below.refl _ _).alloc (Nat.le_refl _) _) (unhide O0) hg (Nat.le_refl _) (by simp)); have HI := hide hiff; clear ho hg hiff)
  go_ret
  have ho := unhide HO
  rw [Nat.zero_add, show flat [] ++ flat ms = flat ms from rfl] at ho
  obtain ⟨hl, ⟨e0, _⟩ | ⟨b, c, cur, e0, h1, h2, h3, h4, _, _⟩⟩ := (⟨ho.1, ho.2⟩ : _ ∧ _)
  · exact absurd ((unhide HI).1 e0).1 (fun h => by cases h)
  · subst e0
    have hlt : b < w'.heap.size := by
      rcases Nat.lt_or_ge b w'.heap.size with h | h
      · exact h
      · rw [Array.getElem?_eq_none h] at h2; cases h2
    exact ⟨_, _, rfl, unhide HB, h1, hlt, h3, h4, upto_own (unhide HN).symm ho⟩
theorem rm_grown {w w' : World} {b : Nat} {row : Option Nat} {ms : List R} (h : RM w (some ⟨b, 0, none⟩) ms) (hg : w.grownBy w' row) (hne : some b ≠ row) : RM w' (some ⟨b, 0, none⟩) ms := by
  rcases h with h | ⟨g, off, e, hc⟩
  · exact .inl h
  · cases e
    refine .inr ⟨_, _, rfl, fun i hi => ?_⟩
    obtain ⟨h0, h1, h2⟩ := hc i hi
    exact ⟨hg.cell h0 hne, hg.cell h1 hne, hg.cell h2 hne⟩
theorem sPut {w : World} {b : Nat} {key til val : Int} {g o : Nat} {m : R} (h : Bx w b ⟨key, til, val⟩) (h' : At w g o m) : Bx w b ⟨key, til, val⟩ ∧ w.cell? ⟨b, 0, none⟩ = some (.int .i64 key) ∧ w.cell? ⟨g, o, none⟩ = some (.int .i64 m.key) := ⟨h, h.1, h'.1⟩
set_option maxRecDepth 100000 in
set_option maxHeartbeats 8000000 in
theorem l03Put (g off : Nat) (ms : List R) (cap : Nat) (key til val : Int) (w : World) (hm : ms.length ≤ 64) (hr : RM w (some ⟨g, off, none⟩) ms) :
    Calls Try.prog 86 #[.slice (some ⟨g, off, none⟩) ms.length cap, .agg #[.int .i64 key, .int .i64 til, .int .i64 val]] w fun e w' => ∃ v, e = .returned (.tuple #[v, .int .i64 (putC ms ⟨key, til, val⟩)]) ∧ Below w.heap.size w w' ∧ LstV w' v (putL ms ⟨key, til, val⟩) w.heap.size w'.heap.size := by
  have HR := hide hr
  have hl := placeP_le (atKey key) ms
  clear hr
  have HBA : Hid (Below w.heap.size w (w.alloc (.cells #[.int .i64 key, .int .i64 til, .int .i64 val] 73))) := hide ((Below.refl _ _).alloc (Nat.le_refl _) _)
  have X : Hid (Bx (w.alloc (.cells #[.int .i64 key, .int .i64 til, .int .i64 val] 73)) w.heap.size ⟨key, til, val⟩) := hide (by refine ⟨?_, ?_, ?_⟩ <;> simp [World.cell?_alloc_new])
  obtain ⟨p, hp⟩ : ∃ p, place ms key = p := ⟨_, rfl⟩
  have HP := hide hp
  rw [show placeP (atKey key) ms = p from hp] at hl
  clear hp
  obtain ⟨L, hL⟩ : ∃ L, putL ms ⟨key, til, val⟩ = L := ⟨_, rfl⟩
  obtain ⟨C, hC⟩ : ∃ C, putC ms ⟨key, til, val⟩ = C := ⟨_, rfl⟩
  have HLL := hide hL
  have HCC := hide hC
  rw [hL, hC]
  clear hL hC
  obtain ⟨n, hn⟩ : ∃ n, ms.length = n := ⟨_, rfl⟩
  have HN := hide hn
  rw [hn] at hl hm ⊢
  clear hn
  have k0 : (0 : Int) ≤ (p : Int) := by omega
  go_enter Try.func86, Try.ntmps86
  go_wp2_with fail
  refine (by have := l03Place (some ⟨g, off, none⟩) ms cap key _ (by rw [unhide HN]; omega) ((unhide HR).below (unhide HBA)); rw [unhide HN, unhide HP] at this; exact this : Calls Try.prog 114 #[.slice (some ⟨g, off, none⟩) n cap, .int .i64 key] _ _).mono ?_
  rintro e w1 ⟨rfl, hw1⟩
  have HW1 := hide hw1
  have X1 : Hid (Bx w1 w.heap.size ⟨key, til, val⟩) := hide (by rw [hw1]; exact unhide X)
  have HB1 : Hid (Below w.heap.size w w1) := hide (by rw [hw1]; exact unhide HBA)
  have hs1 : w.heap.size < w1.heap.size := by rw [hw1]; simp
  clear hw1 X HBA HW1
  go_wp2_with fail
  refine (l03OwnG g off ms cap n _ (unhide HN) (by rw [unhide HN]; omega) ((unhide HR).below (unhide HB1))).mono ?_
  rintro e w2 ⟨b, c, rfl, b2, hb1, hb2, hc1, hc2, u2⟩
  have X2 := hide ((unhide X1).below b2)
  have U2 := hide u2
  have HB2 := hide ((unhide HB1).trans (b2.mono (unhide HB1).size))
  have hs2 := b2.size
  unfold maxLen at hc2
  clear u2 b2 X1 HB1
  by_cases hlt : (p : Int) < (n : Int)
  · have hlen : p < n := by omega
    have hA := (unhide U2).1 p hlen
    cases ht : thereB ms key
    · have hk : ¬ (ms.getD p R.zero).key = key := by
        intro e
        have := there_yes (unhide HP) (by rw [unhide HN]; exact hlen) e
        rw [ht] at this; cases this
      have HT := hide ht
      clear ht
      obtain ⟨z0, z1, z2⟩ := unhide X2
      dsimp only at z0 z1 z2
      generalize ms.getD p R.zero = m at *
      have hkb : (m.key == key) = false := by simpa using hk
      go_wp2_with fail
      refine wp_region_noPanic ?_
      refine wp_region_held_drew (S := fun w' => Bx w' w.heap.size ⟨key, til, val⟩ ∧ w'.cell? ⟨w.heap.size, 0, none⟩ = some (.int .i64 key) ∧ w'.cell? ⟨b, p * 3, none⟩ = some (.int .i64 m.key)) (by kernel_rfl) (sPut (unhide X2).drew hA.drew) (fun hHeld => ?_)
      (refine Rg.tk (i := 0) (d := 14) (v := ?_) rfl rfl (by kernel_rfl) (by kernel_rfl) (by kernel_rfl) (fun _ _ _ h => h) (by rfl) ?_ (by assumption) ?_; rotate_left; (focus (intro w0 hSw; (try dsimp only at hSw); go_simp; (try with_reducible rfl))); (try simp only [Act.put, List.setIfInBounds_toArray, List.set_cons_zero, List.set_cons_succ]))
      (refine Rg.tk (i := 1) (d := 15) (v := ?_) rfl rfl (by kernel_rfl) (by kernel_rfl) (by kernel_rfl) (fun _ _ _ h => h) (by rfl) ?_ (by assumption) ?_; rotate_left; (focus (intro w0 hSw; (try dsimp only at hSw); go_simp; (try with_reducible rfl))); (try simp only [Act.put, List.setIfInBounds_toArray, List.set_cons_zero, List.set_cons_succ]))
      (refine Rg.tk (i := 2) (d := 16) (v := ?_) rfl rfl (by kernel_rfl) (by kernel_rfl) (by kernel_rfl) (fun _ _ _ h => h) (by rfl) ?_ (by assumption) ?_; rotate_left; (focus (intro w0 hSw; (try dsimp only at hSw); go_simp; (try with_reducible rfl))); (try simp only [Act.put, List.setIfInBounds_toArray, List.set_cons_zero, List.set_cons_succ]))
      (refine Rg.tk (i := 3) (d := 17) (v := ?_) rfl rfl (by kernel_rfl) (by kernel_rfl) (by kernel_rfl) (fun _ _ _ h => h) (by rfl) ?_ (by assumption) ?_; rotate_left; (focus (intro w0 hSw; (try dsimp only at hSw); go_simp; (try with_reducible rfl))); (try simp only [Act.put, List.setIfInBounds_toArray, List.set_cons_zero, List.set_cons_succ]))
      (refine Rg.tk (i := 4) (d := 18) (v := ?_) rfl rfl (by kernel_rfl) (by kernel_rfl) (by kernel_rfl) (fun _ _ _ h => h) (by rfl) ?_ (by assumption) ?_; rotate_left; (focus (intro w0 hSw; (try dsimp only at hSw); go_simp; (try with_reducible rfl))); (try simp only [Act.put, List.setIfInBounds_toArray, List.set_cons_zero, List.set_cons_succ]))
      (refine Rg.tk (i := 5) (d := 19) (v := ?_) rfl rfl (by kernel_rfl) (by kernel_rfl) (by kernel_rfl) (fun _ _ _ h => h) (by rfl) ?_ (by assumption) ?_; rotate_left; (focus (intro w0 hSw; (try dsimp only at hSw); go_simp; (try with_reducible rfl))); (try simp only [Act.put, List.setIfInBounds_toArray, List.set_cons_zero, List.set_cons_succ]))
      (refine Rg.tk (i := 6) (d := 20) (v := ?_) rfl rfl (by kernel_rfl) (by kernel_rfl) (by kernel_rfl) (fun _ _ _ h => h) (by rfl) ?_ (by assumption) ?_; rotate_left; (focus (intro w0 hSw; (try dsimp only at hSw); go_simp; (try with_reducible rfl))); (try simp only [Act.put, List.setIfInBounds_toArray, List.set_cons_zero, List.set_cons_succ]))
      (refine Rg.tk (i := 7) (d := 21) (v := ?_) rfl rfl (by kernel_rfl) (by kernel_rfl) (by kernel_rfl) (fun _ _ _ h => h) (by rfl) ?_ (by assumption) ?_; rotate_left; (focus (intro w0 hSw; (try dsimp only at hSw); go_simp; (try with_reducible rfl))); (try simp only [Act.put, List.setIfInBounds_toArray, List.set_cons_zero, List.set_cons_succ]))
      (refine Rg.tk (i := 8) (d := 22) (v := ?_) rfl rfl (by kernel_rfl) (by kernel_rfl) (by kernel_rfl) (fun _ _ _ h => h) (by rfl) ?_ (by assumption) ?_; rotate_left; (focus (intro w0 hSw; (try dsimp only at hSw); go_simp; (try with_reducible rfl))); (try simp only [Act.put, List.setIfInBounds_toArray, List.set_cons_zero, List.set_cons_succ]))
      (refine Rg.tk (i := 9) (d := 23) (v := ?_) rfl rfl (by kernel_rfl) (by kernel_rfl) (by kernel_rfl) (fun _ _ _ h => h) (by rfl) ?_ (by assumption) ?_; rotate_left; (focus (intro w0 hSw; (try dsimp only at hSw); go_simp; (try with_reducible rfl))); (try simp only [Act.put, List.setIfInBounds_toArray, List.set_cons_zero, List.set_cons_succ]))
      (refine Rg.tk (i := 10) (d := 24) (v := ?_) rfl rfl (by kernel_rfl) (by kernel_rfl) (by kernel_rfl) (fun _ _ _ h => h) (by rfl) ?_ (by assumption) ?_; rotate_left; (focus (intro w0 hSw; (try dsimp only at hSw); go_simp; (try with_reducible rfl))); (try simp only [Act.put, List.setIfInBounds_toArray, List.set_cons_zero, List.set_cons_succ]))
      (refine Rg.tk (i := 11) (d := 25) (v := ?_) rfl rfl (by kernel_rfl) (by kernel_rfl) (by kernel_rfl) (fun _ _ _ h => h) (by rfl) ?_ (by assumption) ?_; rotate_left; (focus (intro w0 hSw; (try dsimp only at hSw); go_simp; (try with_reducible rfl))); (try simp only [Act.put, List.setIfInBounds_toArray, List.set_cons_zero, List.set_cons_succ]))
      (refine Rg.tk (i := 12) (d := 26) (v := ?_) rfl rfl (by kernel_rfl) (by kernel_rfl) (by kernel_rfl) (fun _ _ _ h => h) (by rfl) ?_ (by assumption) ?_; rotate_left; (focus (intro w0 hSw; (try dsimp only at hSw); go_simp; (try with_reducible rfl))); (try simp only [Act.put, List.setIfInBounds_toArray, List.set_cons_zero, List.set_cons_succ]))
      (refine Rg.tk (i := 13) (d := 27) (v := ?_) rfl rfl (by kernel_rfl) (by kernel_rfl) (by kernel_rfl) (fun _ _ _ h => h) (by rfl) ?_ (by assumption) ?_; rotate_left; (focus (intro w0 hSw; (try dsimp only at hSw); go_simp; (try with_reducible rfl))); (try simp only [Act.put, List.setIfInBounds_toArray, List.set_cons_zero, List.set_cons_succ]))
      refine wpAnyH_done (by kernel_rfl) (NoPanic.normal ?_) _
      clear hHeld hA hk hkb
      by_cases h64 : n = 64
      · have HE1 : Hid (L = ms) := hide (by rw [← unhide HLL]; unfold putL; rw [if_neg (by rw [unhide HT]; simp), if_pos (by rw [unhide HN]; exact h64)])
        have HE2 : Hid (C = 7) := hide (by rw [← unhide HCC]; unfold putC; rw [if_neg (by rw [unhide HT]; simp), if_pos (by rw [unhide HN]; exact h64)])
        have HLst : Hid (LstV w2.drew (.slice (some ⟨b, 0, none⟩) n c) ms w.heap.size w2.drew.heap.size) := hide ⟨_, c, by rw [unhide HN], .inr ⟨b, rfl, by omega, hb2, hb2, by rw [unhide HN]; exact unhide U2⟩⟩
        have hnb : ((n : Int) == 64) = true := by simp; omega
        subst h64
        go_wp2_with fail
        go_ret2
        rw [unhide HE1, unhide HE2]
        exact ⟨_, rfl, (unhide HB2).drew, unhide HLst⟩
      · have HE1 : Hid (L = (([] ++ ms.take p) ++ [⟨key, til, val⟩]) ++ ms.drop p) := hide (by rw [← unhide HLL]; unfold putL; rw [if_neg (by rw [unhide HT]; simp), if_neg (by rw [unhide HN]; exact h64), unhide HP, List.nil_append])
        have HE2 : Hid (C = 0) := hide (by rw [← unhide HCC]; unfold putC; rw [if_neg (by rw [unhide HT]; simp), if_neg (by rw [unhide HN]; exact h64)])
        have hnb : ((n : Int) == 64) = false := by simp; omega
        have hn64 : ¬ (n : Int) = 64 := by omega
        have p1 : (p : Int) ≤ (c : Int) := by omega
        have p2 : (p : Int) ≤ (n : Int) := by omega
        have c1 : (n : Int) ≤ (c : Int) := by omega
        have lt1 : Hid ((ms.take p).length = p) := hide (by rw [List.length_take, unhide HN]; omega)
        have ld1 : Hid ((ms.drop p).length = n - p) := hide (by rw [List.length_drop, unhide HN])
        have HD : Hid (∀ W, RM W (some ⟨b, 0, none⟩) ms → RM W (some ⟨b, if c = p then 0 else p * 3, none⟩) (ms.drop p)) := hide (fun W h => by
          split
          · exact .inl (List.drop_eq_nil_of_le (by rw [unhide HN]; omega))
          · have := drop_off h p; rw [Nat.zero_add] at this; exact this)
        have RO : Hid (RM w2 (some ⟨b, 0, none⟩) ms) := hide (rm_of (n := n) (by rw [unhide HN]; exact unhide U2))
        have HV : Hid (Below w2.heap.size w2 w2.drew.drew) := hide ((Below.refl _ _).drew.drew)
        have hcp : ¬ c = p := by omega
        rw [if_neg hcp] at HD
        go_wp2_with fail
        refine wp_region_noPanic ?_
        refine wp_region_held_drew (S := fun w' => Bx w' w.heap.size ⟨key, til, val⟩ ∧ w'.cell? ⟨w.heap.size, 0, none⟩ = some (.int .i64 key) ∧ w'.cell? ⟨w.heap.size, 1, none⟩ = some (.int .i64 til) ∧ w'.cell? ⟨w.heap.size, 2, none⟩ = some (.int .i64 val)) (by kernel_rfl) (sBox (unhide X2).drew) (fun hHeld => ?_)
        (refine Rg.tk (i := 1) (d := 38) (v := ?_) rfl rfl (by kernel_rfl) (by kernel_rfl) (by kernel_rfl) (fun _ _ _ h => h) (by rfl) ?_ (by assumption) ?_; rotate_left; (focus (intro w0 hSw; (try dsimp only at hSw); go_simp; (try with_reducible rfl))); (try simp only [Act.put, List.setIfInBounds_toArray, List.set_cons_zero, List.set_cons_succ]))
        (refine Rg.tk (i := 2) (d := 39) (v := ?_) rfl rfl (by kernel_rfl) (by kernel_rfl) (by kernel_rfl) (fun _ _ _ h => h) (by rfl) ?_ (by assumption) ?_; rotate_left; (focus (intro w0 hSw; (try dsimp only at hSw); go_simp; (try with_reducible rfl))); (try simp only [Act.put, List.setIfInBounds_toArray, List.set_cons_zero, List.set_cons_succ]))
        (refine Rg.tk (i := 3) (d := 40) (v := ?_) rfl rfl (by kernel_rfl) (by kernel_rfl) (by kernel_rfl) (fun _ _ _ h => h) (by rfl) ?_ (by assumption) ?_; rotate_left; (focus (intro w0 hSw; (try dsimp only at hSw); go_simp; (try with_reducible rfl))); (try simp only [Act.put, List.setIfInBounds_toArray, List.set_cons_zero, List.set_cons_succ]))
        (refine Rg.tk (i := 5) (d := 42) (v := ?_) rfl rfl (by kernel_rfl) (by kernel_rfl) (by kernel_rfl) (fun _ _ _ h => h) (by rfl) ?_ (by assumption) ?_; rotate_left; (focus (intro w0 hSw; (try dsimp only at hSw); go_simp; (try with_reducible rfl))); (try simp only [Act.put, List.setIfInBounds_toArray, List.set_cons_zero, List.set_cons_succ]))
        (refine Rg.tk (i := 8) (d := 45) (v := ?_) rfl rfl (by kernel_rfl) (by kernel_rfl) (by kernel_rfl) (fun _ _ _ h => h) (by rfl) ?_ (by assumption) ?_; rotate_left; (focus (intro w0 hSw; (try dsimp only at hSw); go_simp; (try with_reducible rfl))); (try simp only [Act.put, List.setIfInBounds_toArray, List.set_cons_zero, List.set_cons_succ]))
        (refine Rg.tk (i := 9) (d := 46) (v := ?_) rfl rfl (by kernel_rfl) (by kernel_rfl) (by kernel_rfl) (fun _ _ _ h => h) (by rfl) ?_ (by assumption) ?_; rotate_left; (focus (intro w0 hSw; (try dsimp only at hSw); go_simp; (try with_reducible rfl))); (try simp only [Act.put, List.setIfInBounds_toArray, List.set_cons_zero, List.set_cons_succ]))
        (refine Rg.tk (i := 10) (d := 47) (v := ?_) rfl rfl (by kernel_rfl) (by kernel_rfl) (by kernel_rfl) (fun _ _ _ h => h) (by rfl) ?_ (by assumption) ?_; rotate_left; (focus (intro w0 hSw; (try dsimp only at hSw); go_simp; (try with_reducible rfl))); (try simp only [Act.put, List.setIfInBounds_toArray, List.set_cons_zero, List.set_cons_succ]))
        generalize hV : w2.drew.drew = V at *
        clear hV
        have XV := hide ((unhide X2).below (unhide HV))
        have hVs := (unhide HV).size
        (refine wpAnyH_ready (rs := [0, 6]) (by kernel_rfl) (by simp) ?_; refine AllReadyH.cons (o := _) rfl (fun K hK => ?_) (AllReadyH.cons (o := _) rfl (fun K hK => ?_) AllReadyH.nil))
        · go_simp
          have HV1 := hide ((unhide HV).alloc (unhide HV).size (.cells #[] 73))
          have O0 := hide (own_empty V w2.heap.size hVs)
          have X1 := hide ((unhide X2).below (unhide HV1))
          refine hK.out _ _ (sBox (unhide X1)) (fun hHeld => ?_)
          clear hK K
          (try simp only [Act.put, List.setIfInBounds_toArray, List.set_cons_zero, List.set_cons_succ])
          (refine wpAnyH_ready (rs := [4, 6]) (by kernel_rfl) (by simp) ?_; refine AllReadyH.cons (o := _) rfl (fun K hK => ?_) (AllReadyH.cons (o := _) rfl (fun K hK => ?_) AllReadyH.nil))
          · rw [if_pos (by rfl)]
            refine wp_apS (unhide O0) b 0 p c (ms.take p) (unhide lt1) (take_zero_off ((unhide RO).below (unhide HV1)) p) (by rw [unhide lt1]; simp; omega) (unhide HV1).size _ _ rfl rfl rfl rfl ?_
            intro v4 w4 o4 g4
            have O4 := hide o4
            have HV4 := hide (below_own (unhide HV1) (unhide O0) g4 (Nat.le_refl _) (unhide HV1).size)
            have X4 := hide ((unhide X2).below (unhide HV4))
            clear o4 g4
            refine hK.out _ _ (sBox (unhide X4)) (fun hHeld => ?_)
            clear hK K
            (try simp only [Act.put, List.setIfInBounds_toArray, List.set_cons_zero, List.set_cons_succ])
            (refine wpAnyH_ready (rs := [6]) (by kernel_rfl) (by simp) ?_; refine AllReadyH.cons (o := _) rfl (fun K hK => ?_) AllReadyH.nil; go_simp)
            have HV6 := hide ((unhide HV4).alloc (unhide HV4).size (.cells #[.int .i64 key, .int .i64 til, .int .i64 val] 73))
            have O6 := hide ((unhide O4).alloc (.cells #[.int .i64 key, .int .i64 til, .int .i64 val] 73))
            have RX := hide (rm_new w4 ⟨key, til, val⟩)
            have X6 := hide ((unhide X2).below (unhide HV6))
            refine hK.out _ _ (sBox (unhide X6)) (fun hHeld => ?_)
            clear hK K
            (try simp only [Act.put, List.setIfInBounds_toArray, List.set_cons_zero, List.set_cons_succ])
            (refine wpAnyH_ready (rs := [7]) (by kernel_rfl) (by simp) ?_; refine AllReadyH.cons (o := _) rfl (fun K hK => ?_) AllReadyH.nil; rw [if_pos (by rfl)])
            refine wp_apS (unhide O6) _ 0 1 1 [⟨key, til, val⟩] rfl (unhide RX) (by simp only [List.nil_append, List.length_cons, List.length_nil]; rw [unhide lt1]; omega) (unhide HV6).size _ _ rfl rfl rfl rfl ?_
            intro v7 w7 o7 g7
            have O7 := hide o7
            have HV7 := hide (below_own (unhide HV6) (unhide O6) g7 (Nat.le_refl _) (unhide HV6).size)
            have X7 := hide ((unhide X2).below (unhide HV7))
            clear o7 g7
            refine hK.out _ _ (sBox (unhide X7)) (fun hHeld => ?_)
            clear hK K
            (try simp only [Act.put, List.setIfInBounds_toArray, List.set_cons_zero, List.set_cons_succ])
            (refine wpAnyH_ready (rs := [11]) (by kernel_rfl) (by simp) ?_; refine AllReadyH.cons (o := _) rfl (fun K hK => ?_) AllReadyH.nil; rw [if_pos (by rfl)])
            refine wp_apS (unhide O7) b _ _ _ (ms.drop _) (unhide ld1) (unhide HD _ ((unhide RO).below (unhide HV7))) (by simp only [List.nil_append, List.length_append, List.length_cons, List.length_nil]; rw [unhide ld1, unhide lt1]; omega) (unhide HV7).size _ _ rfl rfl rfl rfl ?_
            intro v8 w8 o8 g8
            have HV8 := hide (below_own (unhide HV7) (unhide O7) g8 (Nat.le_refl _) (unhide HV7).size)
            have X8 := hide ((unhide X2).below (unhide HV8))
            have l8 := (lst_own rfl o8).mono (lo' := w.heap.size) (hi' := w8.heap.size) (by omega) (Nat.le_refl _)
            rw [← unhide HE1] at l8
            have HL8 := hide l8
            clear o8 g8 l8
            refine hK.out _ _ (sBox (unhide X8)) (fun hHeld => ?_)
            clear hK K
            (try simp only [Act.put, List.setIfInBounds_toArray, List.set_cons_zero, List.set_cons_succ])
            (refine Rg.tk (i := 12) (d := 4) (v := ?_) rfl rfl (by kernel_rfl) (by kernel_rfl) (by kernel_rfl) (fun _ _ _ h => h) (by rfl) ?_ (by assumption) ?_; rotate_left; (focus (intro w0 hSw; (try dsimp only at hSw); go_simp; (try with_reducible rfl))); (try simp only [Act.put, List.setIfInBounds_toArray, List.set_cons_zero, List.set_cons_succ]))
            (refine Rg.tk (i := 13) (d := 5) (v := ?_) rfl rfl (by kernel_rfl) (by kernel_rfl) (by kernel_rfl) (fun _ _ _ h => h) (by rfl) ?_ (by assumption) ?_; rotate_left; (focus (intro w0 hSw; (try dsimp only at hSw); go_simp; (try with_reducible rfl))); (try simp only [Act.put, List.setIfInBounds_toArray, List.set_cons_zero, List.set_cons_succ]))
            refine wpAnyH_done (by kernel_rfl) (NoPanic.normal ?_) _
            have HBF := hide ((unhide HB2).trans ((unhide HV8).mono (unhide HB2).size))
            clear hHeld
            go_wp2_with fail
            go_ret2
            rw [unhide HE2]
            exact ⟨_, rfl, unhide HBF, unhide HL8⟩
          · go_simp
            have HV5 := hide ((unhide HV1).alloc (unhide HV1).size (.cells #[.int .i64 key, .int .i64 til, .int .i64 val] 73))
            have O5 := hide ((unhide O0).alloc (.cells #[.int .i64 key, .int .i64 til, .int .i64 val] 73))
            have RX0 := rm_new (V.alloc (.cells #[] 73)) ⟨key, til, val⟩
            simp only [World.size_alloc] at RX0
            have X5 := hide ((unhide X2).below (unhide HV5))
            have RX5 := hide RX0
            clear RX0
            refine hK.out _ _ (sBox (unhide X5)) (fun hHeld => ?_)
            clear hK K
            (try simp only [Act.put, List.setIfInBounds_toArray, List.set_cons_zero, List.set_cons_succ])
            (refine wpAnyH_ready (rs := [4]) (by kernel_rfl) (by simp) ?_; refine AllReadyH.cons (o := _) rfl (fun K hK => ?_) AllReadyH.nil; rw [if_pos (by rfl)])
            refine wp_apS (unhide O5) b 0 p c (ms.take p) (unhide lt1) (take_zero_off ((unhide RO).below (unhide HV5)) p) (by rw [unhide lt1]; simp; omega) (unhide HV5).size _ _ rfl rfl rfl rfl ?_
            intro v4 w4 o4 g4
            have O6 := hide o4
            have HV6 := hide (below_own (unhide HV5) (unhide O5) g4 (Nat.le_refl _) (unhide HV5).size)
            have RX := hide (rm_grown (unhide RX5) g4 (by simp [Value.ownBlock]))
            have X6 := hide ((unhide X2).below (unhide HV6))
            clear o4 g4
            refine hK.out _ _ (sBox (unhide X6)) (fun hHeld => ?_)
            clear hK K
            (try simp only [Act.put, List.setIfInBounds_toArray, List.set_cons_zero, List.set_cons_succ])
            (refine wpAnyH_ready (rs := [7]) (by kernel_rfl) (by simp) ?_; refine AllReadyH.cons (o := _) rfl (fun K hK => ?_) AllReadyH.nil; rw [if_pos (by rfl)])
            refine wp_apS (unhide O6) _ 0 1 1 [⟨key, til, val⟩] rfl (unhide RX) (by simp only [List.nil_append, List.length_cons, List.length_nil]; rw [unhide lt1]; omega) (unhide HV6).size _ _ rfl rfl rfl rfl ?_
            intro v7 w7 o7 g7
            have O7 := hide o7
            have HV7 := hide (below_own (unhide HV6) (unhide O6) g7 (Nat.le_refl _) (unhide HV6).size)
            have X7 := hide ((unhide X2).below (unhide HV7))
            clear o7 g7
            refine hK.out _ _ (sBox (unhide X7)) (fun hHeld => ?_)
            clear hK K
            (try simp only [Act.put, List.setIfInBounds_toArray, List.set_cons_zero, List.set_cons_succ])
            (refine wpAnyH_ready (rs := [11]) (by kernel_rfl) (by simp) ?_; refine AllReadyH.cons (o := _) rfl (fun K hK => ?_) AllReadyH.nil; rw [if_pos (by rfl)])
            refine wp_apS (unhide O7) b _ _ _ (ms.drop _) (unhide ld1) (unhide HD _ ((unhide RO).below (unhide HV7))) (by simp only [List.nil_append, List.length_append, List.length_cons, List.length_nil]; rw [unhide ld1, unhide lt1]; omega) (unhide HV7).size _ _ rfl rfl rfl rfl ?_
            intro v8 w8 o8 g8
            have HV8 := hide (below_own (unhide HV7) (unhide O7) g8 (Nat.le_refl _) (unhide HV7).size)
            have X8 := hide ((unhide X2).below (unhide HV8))
            have l8 := (lst_own rfl o8).mono (lo' := w.heap.size) (hi' := w8.heap.size) (by omega) (Nat.le_refl _)
            rw [← unhide HE1] at l8
            have HL8 := hide l8
            clear o8 g8 l8
            refine hK.out _ _ (sBox (unhide X8)) (fun hHeld => ?_)
            clear hK K
            (try simp only [Act.put, List.setIfInBounds_toArray, List.set_cons_zero, List.set_cons_succ])
            (refine Rg.tk (i := 12) (d := 4) (v := ?_) rfl rfl (by kernel_rfl) (by kernel_rfl) (by kernel_rfl) (fun _ _ _ h => h) (by rfl) ?_ (by assumption) ?_; rotate_left; (focus (intro w0 hSw; (try dsimp only at hSw); go_simp; (try with_reducible rfl))); (try simp only [Act.put, List.setIfInBounds_toArray, List.set_cons_zero, List.set_cons_succ]))
            (refine Rg.tk (i := 13) (d := 5) (v := ?_) rfl rfl (by kernel_rfl) (by kernel_rfl) (by kernel_rfl) (fun _ _ _ h => h) (by rfl) ?_ (by assumption) ?_; rotate_left; (focus (intro w0 hSw; (try dsimp only at hSw); go_simp; (try with_reducible rfl))); (try simp only [Act.put, List.setIfInBounds_toArray, List.set_cons_zero, List.set_cons_succ]))
            refine wpAnyH_done (by kernel_rfl) (NoPanic.normal ?_) _
            have HBF := hide ((unhide HB2).trans ((unhide HV8).mono (unhide HB2).size))
            clear hHeld
            go_wp2_with fail
            go_ret2
            rw [unhide HE2]
            exact ⟨_, rfl, unhide HBF, unhide HL8⟩
        · go_simp
          have HV1 := hide ((unhide HV).alloc (unhide HV).size (.cells #[.int .i64 key, .int .i64 til, .int .i64 val] 73))
          have RX1 := hide (rm_new V ⟨key, til, val⟩)
          have X1 := hide ((unhide X2).below (unhide HV1))
          refine hK.out _ _ (sBox (unhide X1)) (fun hHeld => ?_)
          clear hK K
          (try simp only [Act.put, List.setIfInBounds_toArray, List.set_cons_zero, List.set_cons_succ])
          (refine wpAnyH_ready (rs := [0]) (by kernel_rfl) (by simp) ?_; refine AllReadyH.cons (o := _) rfl (fun K hK => ?_) AllReadyH.nil; go_simp)
          have HV5 := hide ((unhide HV1).alloc (unhide HV1).size (.cells #[] 73))
          have O50 := own_empty (V.alloc (.cells #[.int .i64 key, .int .i64 til, .int .i64 val] 73)) w2.heap.size (unhide HV1).size
          simp only [World.size_alloc] at O50
          have O5 := hide O50
          clear O50
          have X5 := hide ((unhide X2).below (unhide HV5))
          have RX5 := hide ((unhide RX1).below ((Below.refl _ _).alloc (Nat.le_refl _) (.cells #[] 73)))
          refine hK.out _ _ (sBox (unhide X5)) (fun hHeld => ?_)
          clear hK K
          (try simp only [Act.put, List.setIfInBounds_toArray, List.set_cons_zero, List.set_cons_succ])
          (refine wpAnyH_ready (rs := [4]) (by kernel_rfl) (by simp) ?_; refine AllReadyH.cons (o := _) rfl (fun K hK => ?_) AllReadyH.nil; rw [if_pos (by rfl)])
          refine wp_apS (unhide O5) b 0 p c (ms.take p) (unhide lt1) (take_zero_off ((unhide RO).below (unhide HV5)) p) (by rw [unhide lt1]; simp; omega) (unhide HV5).size _ _ rfl rfl rfl rfl ?_
          intro v4 w4 o4 g4
          have O6 := hide o4
          have HV6 := hide (below_own (unhide HV5) (unhide O5) g4 (Nat.le_refl _) (unhide HV5).size)
          have RX := hide (rm_grown (unhide RX5) g4 (by simp [Value.ownBlock]))
          have X6 := hide ((unhide X2).below (unhide HV6))
          clear o4 g4
          refine hK.out _ _ (sBox (unhide X6)) (fun hHeld => ?_)
          clear hK K
          (try simp only [Act.put, List.setIfInBounds_toArray, List.set_cons_zero, List.set_cons_succ])
          (refine wpAnyH_ready (rs := [7]) (by kernel_rfl) (by simp) ?_; refine AllReadyH.cons (o := _) rfl (fun K hK => ?_) AllReadyH.nil; rw [if_pos (by rfl)])
          refine wp_apS (unhide O6) _ 0 1 1 [⟨key, til, val⟩] rfl (unhide RX) (by simp only [List.nil_append, List.length_cons, List.length_nil]; rw [unhide lt1]; omega) (unhide HV6).size _ _ rfl rfl rfl rfl ?_
          intro v7 w7 o7 g7
          have O7 := hide o7
          have HV7 := hide (below_own (unhide HV6) (unhide O6) g7 (Nat.le_refl _) (unhide HV6).size)
          have X7 := hide ((unhide X2).below (unhide HV7))
          clear o7 g7
          refine hK.out _ _ (sBox (unhide X7)) (fun hHeld => ?_)
          clear hK K
          (try simp only [Act.put, List.setIfInBounds_toArray, List.set_cons_zero, List.set_cons_succ])
          (refine wpAnyH_ready (rs := [11]) (by kernel_rfl) (by simp) ?_; refine AllReadyH.cons (o := _) rfl (fun K hK => ?_) AllReadyH.nil; rw [if_pos (by rfl)])
          refine wp_apS (unhide O7) b _ _ _ (ms.drop _) (unhide ld1) (unhide HD _ ((unhide RO).below (unhide HV7))) (by simp only [List.nil_append, List.length_append, List.length_cons, List.length_nil]; rw [unhide ld1, unhide lt1]; omega) (unhide HV7).size _ _ rfl rfl rfl rfl ?_
          intro v8 w8 o8 g8
          have HV8 := hide (below_own (unhide HV7) (unhide O7) g8 (Nat.le_refl _) (unhide HV7).size)
          have X8 := hide ((unhide X2).below (unhide HV8))
          have l8 := (lst_own rfl o8).mono (lo' := w.heap.size) (hi' := w8.heap.size) (by omega) (Nat.le_refl _)
          rw [← unhide HE1] at l8
          have HL8 := hide l8
          clear o8 g8 l8
          refine hK.out _ _ (sBox (unhide X8)) (fun hHeld => ?_)
          clear hK K
          (try simp only [Act.put, List.setIfInBounds_toArray, List.set_cons_zero, List.set_cons_succ])
          (refine Rg.tk (i := 12) (d := 4) (v := ?_) rfl rfl (by kernel_rfl) (by kernel_rfl) (by kernel_rfl) (fun _ _ _ h => h) (by rfl) ?_ (by assumption) ?_; rotate_left; (focus (intro w0 hSw; (try dsimp only at hSw); go_simp; (try with_reducible rfl))); (try simp only [Act.put, List.setIfInBounds_toArray, List.set_cons_zero, List.set_cons_succ]))
          (refine Rg.tk (i := 13) (d := 5) (v := ?_) rfl rfl (by kernel_rfl) (by kernel_rfl) (by kernel_rfl) (fun _ _ _ h => h) (by rfl) ?_ (by assumption) ?_; rotate_left; (focus (intro w0 hSw; (try dsimp only at hSw); go_simp; (try with_reducible rfl))); (try simp only [Act.put, List.setIfInBounds_toArray, List.set_cons_zero, List.set_cons_succ]))
          refine wpAnyH_done (by kernel_rfl) (NoPanic.normal ?_) _
          have HBF := hide ((unhide HB2).trans ((unhide HV8).mono (unhide HB2).size))
          clear hHeld
          go_wp2_with fail
          go_ret2
          rw [unhide HE2]
          exact ⟨_, rfl, unhide HBF, unhide HL8⟩
    · have hk : (ms.getD p R.zero).key = key := by
        have h := ht
        unfold thereB at h; rw [unhide HP] at h
        rw [Bool.and_eq_true] at h
        exact of_decide_eq_true h.2
      have HE1 : Hid (L = ms.set p ⟨key, til, val⟩) := hide (by rw [← unhide HLL, set_parts _ _ _ (by rw [unhide HN]; exact hlen)]; unfold putL; rw [if_pos ht, unhide HP])
      have HE2 : Hid (C = 0) := hide (by rw [← unhide HCC]; unfold putC; rw [if_pos ht])
      have US := Upto.set (w := w2.drew) ⟨key, til, val⟩ (unhide U2) (unhide HN).symm hlen
      have hps : (put w2.drew b (p * 3) ⟨key, til, val⟩).heap.size = w2.heap.size := put_size _ _ _ _
      have HLst : Hid (LstV (put w2.drew b (p * 3) ⟨key, til, val⟩) (.slice (some ⟨b, 0, none⟩) n c) (ms.set p ⟨key, til, val⟩) w.heap.size (put w2.drew b (p * 3) ⟨key, til, val⟩).heap.size) := hide ⟨_, c, by rw [List.length_set, unhide HN], .inr ⟨b, rfl, by omega, by rw [hps]; exact hb2, by rw [hps]; exact hb2, by rw [List.length_set, unhide HN]; exact US⟩⟩
      have HBP : Hid (Below w.heap.size w (put w2.drew b (p * 3) ⟨key, til, val⟩)) := hide (put_below (unhide HB2).drew (by omega))
      obtain ⟨v0, x0⟩ := Option.isSome_iff_exists.1 ((unhide U2).2 (p * 3) (by omega)).1
      obtain ⟨v1, x1⟩ := Option.isSome_iff_exists.1 ((unhide U2).2 (p * 3 + 1) (by omega)).1
      obtain ⟨v2, x2⟩ := Option.isSome_iff_exists.1 ((unhide U2).2 (p * 3 + 2) (by omega)).1
      have y0 := ((unhide U2).2 (p * 3) (by omega)).2
      have y1 := ((unhide U2).2 (p * 3 + 1) (by omega)).2
      have y2 := ((unhide U2).2 (p * 3 + 2) (by omega)).2
      obtain ⟨z0, z1, z2⟩ := unhide X2
      dsimp only at z0 z1 z2
      generalize ms.getD p R.zero = m at *
      obtain ⟨mk, mt, mv⟩ := m
      dsimp only at hk
      subst hk
      clear US hps
      go_wp2_with fail
      refine wp_region_noPanic ?_
      refine wp_region_held_drew (S := fun w' => Bx w' w.heap.size ⟨mk, til, val⟩ ∧ w'.cell? ⟨w.heap.size, 0, none⟩ = some (.int .i64 mk) ∧ w'.cell? ⟨b, p * 3, none⟩ = some (.int .i64 mk)) (by kernel_rfl) (sPut (unhide X2).drew hA.drew) (fun hHeld => ?_)
      (refine Rg.tk (i := 0) (d := 14) (v := ?_) rfl rfl (by kernel_rfl) (by kernel_rfl) (by kernel_rfl) (fun _ _ _ h => h) (by rfl) ?_ (by assumption) ?_; rotate_left; (focus (intro w0 hSw; (try dsimp only at hSw); go_simp; (try with_reducible rfl))); (try simp only [Act.put, List.setIfInBounds_toArray, List.set_cons_zero, List.set_cons_succ]))
      (refine Rg.tk (i := 1) (d := 15) (v := ?_) rfl rfl (by kernel_rfl) (by kernel_rfl) (by kernel_rfl) (fun _ _ _ h => h) (by rfl) ?_ (by assumption) ?_; rotate_left; (focus (intro w0 hSw; (try dsimp only at hSw); go_simp; (try with_reducible rfl))); (try simp only [Act.put, List.setIfInBounds_toArray, List.set_cons_zero, List.set_cons_succ]))
      (refine Rg.tk (i := 2) (d := 16) (v := ?_) rfl rfl (by kernel_rfl) (by kernel_rfl) (by kernel_rfl) (fun _ _ _ h => h) (by rfl) ?_ (by assumption) ?_; rotate_left; (focus (intro w0 hSw; (try dsimp only at hSw); go_simp; (try with_reducible rfl))); (try simp only [Act.put, List.setIfInBounds_toArray, List.set_cons_zero, List.set_cons_succ]))
      (refine Rg.tk (i := 3) (d := 17) (v := ?_) rfl rfl (by kernel_rfl) (by kernel_rfl) (by kernel_rfl) (fun _ _ _ h => h) (by rfl) ?_ (by assumption) ?_; rotate_left; (focus (intro w0 hSw; (try dsimp only at hSw); go_simp; (try with_reducible rfl))); (try simp only [Act.put, List.setIfInBounds_toArray, List.set_cons_zero, List.set_cons_succ]))
      (refine Rg.tk (i := 4) (d := 18) (v := ?_) rfl rfl (by kernel_rfl) (by kernel_rfl) (by kernel_rfl) (fun _ _ _ h => h) (by rfl) ?_ (by assumption) ?_; rotate_left; (focus (intro w0 hSw; (try dsimp only at hSw); go_simp; (try with_reducible rfl))); (try simp only [Act.put, List.setIfInBounds_toArray, List.set_cons_zero, List.set_cons_succ]))
      (refine Rg.tk (i := 5) (d := 19) (v := ?_) rfl rfl (by kernel_rfl) (by kernel_rfl) (by kernel_rfl) (fun _ _ _ h => h) (by rfl) ?_ (by assumption) ?_; rotate_left; (focus (intro w0 hSw; (try dsimp only at hSw); go_simp; (try with_reducible rfl))); (try simp only [Act.put, List.setIfInBounds_toArray, List.set_cons_zero, List.set_cons_succ]))
      (refine Rg.tk (i := 6) (d := 20) (v := ?_) rfl rfl (by kernel_rfl) (by kernel_rfl) (by kernel_rfl) (fun _ _ _ h => h) (by rfl) ?_ (by assumption) ?_; rotate_left; (focus (intro w0 hSw; (try dsimp only at hSw); go_simp; (try with_reducible rfl))); (try simp only [Act.put, List.setIfInBounds_toArray, List.set_cons_zero, List.set_cons_succ]))
      (refine Rg.tk (i := 7) (d := 21) (v := ?_) rfl rfl (by kernel_rfl) (by kernel_rfl) (by kernel_rfl) (fun _ _ _ h => h) (by rfl) ?_ (by assumption) ?_; rotate_left; (focus (intro w0 hSw; (try dsimp only at hSw); go_simp; (try with_reducible rfl))); (try simp only [Act.put, List.setIfInBounds_toArray, List.set_cons_zero, List.set_cons_succ]))
      (refine Rg.tk (i := 8) (d := 22) (v := ?_) rfl rfl (by kernel_rfl) (by kernel_rfl) (by kernel_rfl) (fun _ _ _ h => h) (by rfl) ?_ (by assumption) ?_; rotate_left; (focus (intro w0 hSw; (try dsimp only at hSw); go_simp; (try with_reducible rfl))); (try simp only [Act.put, List.setIfInBounds_toArray, List.set_cons_zero, List.set_cons_succ]))
      (refine Rg.tk (i := 9) (d := 23) (v := ?_) rfl rfl (by kernel_rfl) (by kernel_rfl) (by kernel_rfl) (fun _ _ _ h => h) (by rfl) ?_ (by assumption) ?_; rotate_left; (focus (intro w0 hSw; (try dsimp only at hSw); go_simp; (try with_reducible rfl))); (try simp only [Act.put, List.setIfInBounds_toArray, List.set_cons_zero, List.set_cons_succ]))
      (refine Rg.tk (i := 10) (d := 24) (v := ?_) rfl rfl (by kernel_rfl) (by kernel_rfl) (by kernel_rfl) (fun _ _ _ h => h) (by rfl) ?_ (by assumption) ?_; rotate_left; (focus (intro w0 hSw; (try dsimp only at hSw); go_simp; (try with_reducible rfl))); (try simp only [Act.put, List.setIfInBounds_toArray, List.set_cons_zero, List.set_cons_succ]))
      (refine Rg.tk (i := 11) (d := 25) (v := ?_) rfl rfl (by kernel_rfl) (by kernel_rfl) (by kernel_rfl) (fun _ _ _ h => h) (by rfl) ?_ (by assumption) ?_; rotate_left; (focus (intro w0 hSw; (try dsimp only at hSw); go_simp; (try with_reducible rfl))); (try simp only [Act.put, List.setIfInBounds_toArray, List.set_cons_zero, List.set_cons_succ]))
      (refine Rg.tk (i := 12) (d := 26) (v := ?_) rfl rfl (by kernel_rfl) (by kernel_rfl) (by kernel_rfl) (fun _ _ _ h => h) (by rfl) ?_ (by assumption) ?_; rotate_left; (focus (intro w0 hSw; (try dsimp only at hSw); go_simp; (try with_reducible rfl))); (try simp only [Act.put, List.setIfInBounds_toArray, List.set_cons_zero, List.set_cons_succ]))
      (refine Rg.tk (i := 13) (d := 27) (v := ?_) rfl rfl (by kernel_rfl) (by kernel_rfl) (by kernel_rfl) (fun _ _ _ h => h) (by rfl) ?_ (by assumption) ?_; rotate_left; (focus (intro w0 hSw; (try dsimp only at hSw); go_simp; (try with_reducible rfl))); (try simp only [Act.put, List.setIfInBounds_toArray, List.set_cons_zero, List.set_cons_succ]))
      refine wpAnyH_done (by kernel_rfl) (NoPanic.normal ?_) _
      clear hHeld hA
      go_wp2_with fail
      go_ret2
      rw [unhide HE1, unhide HE2]
      exact ⟨_, rfl, unhide HBP, unhide HLst⟩
  · obtain rfl : n = p := by omega
    have HT := hide (there_no (unhide HP) (by rw [unhide HN]; exact Nat.le_refl _))
    obtain ⟨z0, z1, z2⟩ := unhide X2
    dsimp only at z0 z1 z2
    go_wp2_with fail
    refine wp_region_noPanic ?_
    refine wp_region_held_drew (S := fun w' => True) (by kernel_rfl) trivial (fun hHeld => ?_)
    (refine Rg.tk (i := 0) (d := 14) (v := ?_) rfl rfl (by kernel_rfl) (by kernel_rfl) (by kernel_rfl) (fun _ _ _ h => h) (by rfl) ?_ (by assumption) ?_; rotate_left; (focus (intro w0 hSw; (try dsimp only at hSw); go_simp; (try with_reducible rfl))); (try simp only [Act.put, List.setIfInBounds_toArray, List.set_cons_zero, List.set_cons_succ]))
    (refine Rg.tk (i := 1) (d := 15) (v := ?_) rfl rfl (by kernel_rfl) (by kernel_rfl) (by kernel_rfl) (fun _ _ _ h => h) (by rfl) ?_ (by assumption) ?_; rotate_left; (focus (intro w0 hSw; (try dsimp only at hSw); go_simp; (try with_reducible rfl))); (try simp only [Act.put, List.setIfInBounds_toArray, List.set_cons_zero, List.set_cons_succ]))
    (refine Rg.tk (i := 2) (d := 16) (v := ?_) rfl rfl (by kernel_rfl) (by kernel_rfl) (by kernel_rfl) (fun _ _ _ h => h) (by rfl) ?_ (by assumption) ?_; rotate_left; (focus (intro w0 hSw; (try dsimp only at hSw); go_simp; (try with_reducible rfl))); (try simp only [Act.put, List.setIfInBounds_toArray, List.set_cons_zero, List.set_cons_succ]))
    (refine Rg.tk (i := 3) (d := 17) (v := ?_) rfl rfl (by kernel_rfl) (by kernel_rfl) (by kernel_rfl) (fun _ _ _ h => h) (by rfl) ?_ (by assumption) ?_; rotate_left; (focus (intro w0 hSw; (try dsimp only at hSw); go_simp; (try with_reducible rfl))); (try simp only [Act.put, List.setIfInBounds_toArray, List.set_cons_zero, List.set_cons_succ]))
    (refine Rg.tk (i := 4) (d := 18) (v := ?_) rfl rfl (by kernel_rfl) (by kernel_rfl) (by kernel_rfl) (fun _ _ _ h => h) (by rfl) ?_ (by assumption) ?_; rotate_left; (focus (intro w0 hSw; (try dsimp only at hSw); go_simp; (try with_reducible rfl))); (try simp only [Act.put, List.setIfInBounds_toArray, List.set_cons_zero, List.set_cons_succ]))
    (refine Rg.sk (i := 5) (d := 19) rfl rfl (by kernel_rfl) (by kernel_rfl) (by kernel_rfl) (fun _ _ _ h => h) (by first | kernel_rfl | rfl) (by assumption) ?_; (try simp only [Act.put, List.setIfInBounds_toArray, List.set_cons_zero, List.set_cons_succ]))
    (refine Rg.sk (i := 6) (d := 20) rfl rfl (by kernel_rfl) (by kernel_rfl) (by kernel_rfl) (fun _ _ _ h => h) (by first | kernel_rfl | rfl) (by assumption) ?_; (try simp only [Act.put, List.setIfInBounds_toArray, List.set_cons_zero, List.set_cons_succ]))
    (refine Rg.sk (i := 7) (d := 21) rfl rfl (by kernel_rfl) (by kernel_rfl) (by kernel_rfl) (fun _ _ _ h => h) (by first | kernel_rfl | rfl) (by assumption) ?_; (try simp only [Act.put, List.setIfInBounds_toArray, List.set_cons_zero, List.set_cons_succ]))
    (refine Rg.sk (i := 8) (d := 22) rfl rfl (by kernel_rfl) (by kernel_rfl) (by kernel_rfl) (fun _ _ _ h => h) (by first | kernel_rfl | rfl) (by assumption) ?_; (try simp only [Act.put, List.setIfInBounds_toArray, List.set_cons_zero, List.set_cons_succ]))
    (refine Rg.sk (i := 9) (d := 23) rfl rfl (by kernel_rfl) (by kernel_rfl) (by kernel_rfl) (fun _ _ _ h => h) (by first | kernel_rfl | rfl) (by assumption) ?_; (try simp only [Act.put, List.setIfInBounds_toArray, List.set_cons_zero, List.set_cons_succ]))
    (refine Rg.sk (i := 10) (d := 24) rfl rfl (by kernel_rfl) (by kernel_rfl) (by kernel_rfl) (fun _ _ _ h => h) (by first | kernel_rfl | rfl) (by assumption) ?_; (try simp only [Act.put, List.setIfInBounds_toArray, List.set_cons_zero, List.set_cons_succ]))
    (refine Rg.sk (i := 11) (d := 25) rfl rfl (by kernel_rfl) (by kernel_rfl) (by kernel_rfl) (fun _ _ _ h => h) (by first | kernel_rfl | rfl) (by assumption) ?_; (try simp only [Act.put, List.setIfInBounds_toArray, List.set_cons_zero, List.set_cons_succ]))
    (refine Rg.sk (i := 12) (d := 26) rfl rfl (by kernel_rfl) (by kernel_rfl) (by kernel_rfl) (fun _ _ _ h => h) (by first | kernel_rfl | rfl) (by assumption) ?_; (try simp only [Act.put, List.setIfInBounds_toArray, List.set_cons_zero, List.set_cons_succ]))
    (refine Rg.tk (i := 13) (d := 27) (v := ?_) rfl rfl (by kernel_rfl) (by kernel_rfl) (by kernel_rfl) (fun _ _ _ h => h) (by rfl) ?_ (by assumption) ?_; rotate_left; (focus (intro w0 hSw; (try dsimp only at hSw); go_simp; (try with_reducible rfl))); (try simp only [Act.put, List.setIfInBounds_toArray, List.set_cons_zero, List.set_cons_succ]))
    refine wpAnyH_done (by kernel_rfl) (NoPanic.normal ?_) _
    clear hHeld
    by_cases h64 : n = 64
    · have HE1 : Hid (L = ms) := hide (by rw [← unhide HLL]; unfold putL; rw [if_neg (by rw [unhide HT]; simp), if_pos (by rw [unhide HN]; exact h64)])
      have HE2 : Hid (C = 7) := hide (by rw [← unhide HCC]; unfold putC; rw [if_neg (by rw [unhide HT]; simp), if_pos (by rw [unhide HN]; exact h64)])
      have HLst : Hid (LstV w2.drew (.slice (some ⟨b, 0, none⟩) n c) ms w.heap.size w2.drew.heap.size) := hide ⟨_, c, by rw [unhide HN], .inr ⟨b, rfl, by omega, hb2, hb2, by rw [unhide HN]; exact unhide U2⟩⟩
      have hnb : ((n : Int) == 64) = true := by simp; omega
      subst h64
      go_wp2_with fail
      go_ret2
      rw [unhide HE1, unhide HE2]
      exact ⟨_, rfl, (unhide HB2).drew, unhide HLst⟩
    · have HE1 : Hid (L = (([] ++ ms.take n) ++ [⟨key, til, val⟩]) ++ ms.drop n) := hide (by rw [← unhide HLL]; unfold putL; rw [if_neg (by rw [unhide HT]; simp), if_neg (by rw [unhide HN]; exact h64), unhide HP, List.nil_append])
      have HE2 : Hid (C = 0) := hide (by rw [← unhide HCC]; unfold putC; rw [if_neg (by rw [unhide HT]; simp), if_neg (by rw [unhide HN]; exact h64)])
      have hnb : ((n : Int) == 64) = false := by simp; omega
      have hn64 : ¬ (n : Int) = 64 := by omega
      have p1 : (n : Int) ≤ (c : Int) := by omega
      have p2 : (n : Int) ≤ (n : Int) := by omega
      have c1 : (n : Int) ≤ (c : Int) := by omega
      have lt1 : Hid ((ms.take n).length = n) := hide (by rw [List.length_take, unhide HN]; omega)
      have ld1 : Hid ((ms.drop n).length = n - n) := hide (by rw [List.length_drop, unhide HN])
      have HD : Hid (∀ W, RM W (some ⟨b, 0, none⟩) ms → RM W (some ⟨b, if c = n then 0 else n * 3, none⟩) (ms.drop n)) := hide (fun W h => by
        split
        · exact .inl (List.drop_eq_nil_of_le (by rw [unhide HN]; omega))
        · have := drop_off h n; rw [Nat.zero_add] at this; exact this)
      have RO : Hid (RM w2 (some ⟨b, 0, none⟩) ms) := hide (rm_of (n := n) (by rw [unhide HN]; exact unhide U2))
      have HV : Hid (Below w2.heap.size w2 w2.drew.drew) := hide ((Below.refl _ _).drew.drew)
      by_cases hcp : c = n
      · rw [if_pos hcp] at HD
        simp only [Nat.sub_self] at ld1
        subst hcp
        go_wp2_with fail
        refine wp_region_noPanic ?_
        refine wp_region_held_drew (S := fun w' => Bx w' w.heap.size ⟨key, til, val⟩ ∧ w'.cell? ⟨w.heap.size, 0, none⟩ = some (.int .i64 key) ∧ w'.cell? ⟨w.heap.size, 1, none⟩ = some (.int .i64 til) ∧ w'.cell? ⟨w.heap.size, 2, none⟩ = some (.int .i64 val)) (by kernel_rfl) (sBox (unhide X2).drew) (fun hHeld => ?_)
        (refine Rg.tk (i := 1) (d := 38) (v := ?_) rfl rfl (by kernel_rfl) (by kernel_rfl) (by kernel_rfl) (fun _ _ _ h => h) (by rfl) ?_ (by assumption) ?_; rotate_left; (focus (intro w0 hSw; (try dsimp only at hSw); go_simp; (try with_reducible rfl))); (try simp only [Act.put, List.setIfInBounds_toArray, List.set_cons_zero, List.set_cons_succ]))
        (refine Rg.tk (i := 2) (d := 39) (v := ?_) rfl rfl (by kernel_rfl) (by kernel_rfl) (by kernel_rfl) (fun _ _ _ h => h) (by rfl) ?_ (by assumption) ?_; rotate_left; (focus (intro w0 hSw; (try dsimp only at hSw); go_simp; (try with_reducible rfl))); (try simp only [Act.put, List.setIfInBounds_toArray, List.set_cons_zero, List.set_cons_succ]))
        (refine Rg.tk (i := 3) (d := 40) (v := ?_) rfl rfl (by kernel_rfl) (by kernel_rfl) (by kernel_rfl) (fun _ _ _ h => h) (by rfl) ?_ (by assumption) ?_; rotate_left; (focus (intro w0 hSw; (try dsimp only at hSw); go_simp; (try with_reducible rfl))); (try simp only [Act.put, List.setIfInBounds_toArray, List.set_cons_zero, List.set_cons_succ]))
        (refine Rg.tk (i := 5) (d := 42) (v := ?_) rfl rfl (by kernel_rfl) (by kernel_rfl) (by kernel_rfl) (fun _ _ _ h => h) (by rfl) ?_ (by assumption) ?_; rotate_left; (focus (intro w0 hSw; (try dsimp only at hSw); go_simp; (try with_reducible rfl))); (try simp only [Act.put, List.setIfInBounds_toArray, List.set_cons_zero, List.set_cons_succ]))
        (refine Rg.tk (i := 8) (d := 45) (v := ?_) rfl rfl (by kernel_rfl) (by kernel_rfl) (by kernel_rfl) (fun _ _ _ h => h) (by rfl) ?_ (by assumption) ?_; rotate_left; (focus (intro w0 hSw; (try dsimp only at hSw); go_simp; (try with_reducible rfl))); (try simp only [Act.put, List.setIfInBounds_toArray, List.set_cons_zero, List.set_cons_succ]))
        (refine Rg.tk (i := 9) (d := 46) (v := ?_) rfl rfl (by kernel_rfl) (by kernel_rfl) (by kernel_rfl) (fun _ _ _ h => h) (by rfl) ?_ (by assumption) ?_; rotate_left; (focus (intro w0 hSw; (try dsimp only at hSw); go_simp; (try with_reducible rfl))); (try simp only [Act.put, List.setIfInBounds_toArray, List.set_cons_zero, List.set_cons_succ]))
        (refine Rg.tk (i := 10) (d := 47) (v := ?_) rfl rfl (by kernel_rfl) (by kernel_rfl) (by kernel_rfl) (fun _ _ _ h => h) (by rfl) ?_ (by assumption) ?_; rotate_left; (focus (intro w0 hSw; (try dsimp only at hSw); go_simp; (try with_reducible rfl))); (try simp only [Act.put, List.setIfInBounds_toArray, List.set_cons_zero, List.set_cons_succ]))
        generalize hV : w2.drew.drew = V at *
        clear hV
        have XV := hide ((unhide X2).below (unhide HV))
        have hVs := (unhide HV).size
        (refine wpAnyH_ready (rs := [0, 6]) (by kernel_rfl) (by simp) ?_; refine AllReadyH.cons (o := _) rfl (fun K hK => ?_) (AllReadyH.cons (o := _) rfl (fun K hK => ?_) AllReadyH.nil))
        · go_simp
          have HV1 := hide ((unhide HV).alloc (unhide HV).size (.cells #[] 73))
          have O0 := hide (own_empty V w2.heap.size hVs)
          have X1 := hide ((unhide X2).below (unhide HV1))
          refine hK.out _ _ (sBox (unhide X1)) (fun hHeld => ?_)
          clear hK K
          (try simp only [Act.put, List.setIfInBounds_toArray, List.set_cons_zero, List.set_cons_succ])
          (refine wpAnyH_ready (rs := [4, 6]) (by kernel_rfl) (by simp) ?_; refine AllReadyH.cons (o := _) rfl (fun K hK => ?_) (AllReadyH.cons (o := _) rfl (fun K hK => ?_) AllReadyH.nil))
          · rw [if_pos (by rfl)]
            refine wp_apS (unhide O0) b 0 c c (ms.take c) (unhide lt1) (take_zero_off ((unhide RO).below (unhide HV1)) c) (by rw [unhide lt1]; simp; omega) (unhide HV1).size _ _ rfl rfl rfl rfl ?_
            intro v4 w4 o4 g4
            have O4 := hide o4
            have HV4 := hide (below_own (unhide HV1) (unhide O0) g4 (Nat.le_refl _) (unhide HV1).size)
            have X4 := hide ((unhide X2).below (unhide HV4))
            clear o4 g4
            refine hK.out _ _ (sBox (unhide X4)) (fun hHeld => ?_)
            clear hK K
            (try simp only [Act.put, List.setIfInBounds_toArray, List.set_cons_zero, List.set_cons_succ])
            (refine wpAnyH_ready (rs := [6]) (by kernel_rfl) (by simp) ?_; refine AllReadyH.cons (o := _) rfl (fun K hK => ?_) AllReadyH.nil; go_simp)
            have HV6 := hide ((unhide HV4).alloc (unhide HV4).size (.cells #[.int .i64 key, .int .i64 til, .int .i64 val] 73))
            have O6 := hide ((unhide O4).alloc (.cells #[.int .i64 key, .int .i64 til, .int .i64 val] 73))
            have RX := hide (rm_new w4 ⟨key, til, val⟩)
            have X6 := hide ((unhide X2).below (unhide HV6))
            refine hK.out _ _ (sBox (unhide X6)) (fun hHeld => ?_)
            clear hK K
            (try simp only [Act.put, List.setIfInBounds_toArray, List.set_cons_zero, List.set_cons_succ])
            (refine wpAnyH_ready (rs := [7]) (by kernel_rfl) (by simp) ?_; refine AllReadyH.cons (o := _) rfl (fun K hK => ?_) AllReadyH.nil; rw [if_pos (by rfl)])
            refine wp_apS (unhide O6) _ 0 1 1 [⟨key, til, val⟩] rfl (unhide RX) (by simp only [List.nil_append, List.length_cons, List.length_nil]; rw [unhide lt1]; omega) (unhide HV6).size _ _ rfl rfl rfl rfl ?_
            intro v7 w7 o7 g7
            have O7 := hide o7
            have HV7 := hide (below_own (unhide HV6) (unhide O6) g7 (Nat.le_refl _) (unhide HV6).size)
            have X7 := hide ((unhide X2).below (unhide HV7))
            clear o7 g7
            refine hK.out _ _ (sBox (unhide X7)) (fun hHeld => ?_)
            clear hK K
            (try simp only [Act.put, List.setIfInBounds_toArray, List.set_cons_zero, List.set_cons_succ])
            (refine wpAnyH_ready (rs := [11]) (by kernel_rfl) (by simp) ?_; refine AllReadyH.cons (o := _) rfl (fun K hK => ?_) AllReadyH.nil; rw [if_pos (by rfl)])
            refine wp_apS (unhide O7) b _ _ _ (ms.drop _) (unhide ld1) (unhide HD _ ((unhide RO).below (unhide HV7))) (by simp only [List.nil_append, List.length_append, List.length_cons, List.length_nil]; rw [unhide ld1, unhide lt1]; omega) (unhide HV7).size _ _ rfl rfl rfl rfl ?_
            intro v8 w8 o8 g8
            have HV8 := hide (below_own (unhide HV7) (unhide O7) g8 (Nat.le_refl _) (unhide HV7).size)
            have X8 := hide ((unhide X2).below (unhide HV8))
            have l8 := (lst_own rfl o8).mono (lo' := w.heap.size) (hi' := w8.heap.size) (by omega) (Nat.le_refl _)
            rw [← unhide HE1] at l8
            have HL8 := hide l8
            clear o8 g8 l8
            refine hK.out _ _ (sBox (unhide X8)) (fun hHeld => ?_)
            clear hK K
            (try simp only [Act.put, List.setIfInBounds_toArray, List.set_cons_zero, List.set_cons_succ])
            (refine Rg.tk (i := 12) (d := 4) (v := ?_) rfl rfl (by kernel_rfl) (by kernel_rfl) (by kernel_rfl) (fun _ _ _ h => h) (by rfl) ?_ (by assumption) ?_; rotate_left; (focus (intro w0 hSw; (try dsimp only at hSw); go_simp; (try with_reducible rfl))); (try simp only [Act.put, List.setIfInBounds_toArray, List.set_cons_zero, List.set_cons_succ]))
            (refine Rg.tk (i := 13) (d := 5) (v := ?_) rfl rfl (by kernel_rfl) (by kernel_rfl) (by kernel_rfl) (fun _ _ _ h => h) (by rfl) ?_ (by assumption) ?_; rotate_left; (focus (intro w0 hSw; (try dsimp only at hSw); go_simp; (try with_reducible rfl))); (try simp only [Act.put, List.setIfInBounds_toArray, List.set_cons_zero, List.set_cons_succ]))
            refine wpAnyH_done (by kernel_rfl) (NoPanic.normal ?_) _
            have HBF := hide ((unhide HB2).trans ((unhide HV8).mono (unhide HB2).size))
            clear hHeld
            go_wp2_with fail
            go_ret2
            rw [unhide HE2]
            exact ⟨_, rfl, unhide HBF, unhide HL8⟩
          · go_simp
            have HV5 := hide ((unhide HV1).alloc (unhide HV1).size (.cells #[.int .i64 key, .int .i64 til, .int .i64 val] 73))
            have O5 := hide ((unhide O0).alloc (.cells #[.int .i64 key, .int .i64 til, .int .i64 val] 73))
            have RX0 := rm_new (V.alloc (.cells #[] 73)) ⟨key, til, val⟩
            simp only [World.size_alloc] at RX0
            have X5 := hide ((unhide X2).below (unhide HV5))
            have RX5 := hide RX0
            clear RX0
            refine hK.out _ _ (sBox (unhide X5)) (fun hHeld => ?_)
            clear hK K
            (try simp only [Act.put, List.setIfInBounds_toArray, List.set_cons_zero, List.set_cons_succ])
            (refine wpAnyH_ready (rs := [4]) (by kernel_rfl) (by simp) ?_; refine AllReadyH.cons (o := _) rfl (fun K hK => ?_) AllReadyH.nil; rw [if_pos (by rfl)])
            refine wp_apS (unhide O5) b 0 c c (ms.take c) (unhide lt1) (take_zero_off ((unhide RO).below (unhide HV5)) c) (by rw [unhide lt1]; simp; omega) (unhide HV5).size _ _ rfl rfl rfl rfl ?_
            intro v4 w4 o4 g4
            have O6 := hide o4
            have HV6 := hide (below_own (unhide HV5) (unhide O5) g4 (Nat.le_refl _) (unhide HV5).size)
            have RX := hide (rm_grown (unhide RX5) g4 (by simp [Value.ownBlock]))
            have X6 := hide ((unhide X2).below (unhide HV6))
            clear o4 g4
            refine hK.out _ _ (sBox (unhide X6)) (fun hHeld => ?_)
            clear hK K
            (try simp only [Act.put, List.setIfInBounds_toArray, List.set_cons_zero, List.set_cons_succ])
            (refine wpAnyH_ready (rs := [7]) (by kernel_rfl) (by simp) ?_; refine AllReadyH.cons (o := _) rfl (fun K hK => ?_) AllReadyH.nil; rw [if_pos (by rfl)])
            refine wp_apS (unhide O6) _ 0 1 1 [⟨key, til, val⟩] rfl (unhide RX) (by simp only [List.nil_append, List.length_cons, List.length_nil]; rw [unhide lt1]; omega) (unhide HV6).size _ _ rfl rfl rfl rfl ?_
            intro v7 w7 o7 g7
            have O7 := hide o7
            have HV7 := hide (below_own (unhide HV6) (unhide O6) g7 (Nat.le_refl _) (unhide HV6).size)
            have X7 := hide ((unhide X2).below (unhide HV7))
            clear o7 g7
            refine hK.out _ _ (sBox (unhide X7)) (fun hHeld => ?_)
            clear hK K
            (try simp only [Act.put, List.setIfInBounds_toArray, List.set_cons_zero, List.set_cons_succ])
            (refine wpAnyH_ready (rs := [11]) (by kernel_rfl) (by simp) ?_; refine AllReadyH.cons (o := _) rfl (fun K hK => ?_) AllReadyH.nil; rw [if_pos (by rfl)])
            refine wp_apS (unhide O7) b _ _ _ (ms.drop _) (unhide ld1) (unhide HD _ ((unhide RO).below (unhide HV7))) (by simp only [List.nil_append, List.length_append, List.length_cons, List.length_nil]; rw [unhide ld1, unhide lt1]; omega) (unhide HV7).size _ _ rfl rfl rfl rfl ?_
            intro v8 w8 o8 g8
            have HV8 := hide (below_own (unhide HV7) (unhide O7) g8 (Nat.le_refl _) (unhide HV7).size)
            have X8 := hide ((unhide X2).below (unhide HV8))
            have l8 := (lst_own rfl o8).mono (lo' := w.heap.size) (hi' := w8.heap.size) (by omega) (Nat.le_refl _)
            rw [← unhide HE1] at l8
            have HL8 := hide l8
            clear o8 g8 l8
            refine hK.out _ _ (sBox (unhide X8)) (fun hHeld => ?_)
            clear hK K
            (try simp only [Act.put, List.setIfInBounds_toArray, List.set_cons_zero, List.set_cons_succ])
            (refine Rg.tk (i := 12) (d := 4) (v := ?_) rfl rfl (by kernel_rfl) (by kernel_rfl) (by kernel_rfl) (fun _ _ _ h => h) (by rfl) ?_ (by assumption) ?_; rotate_left; (focus (intro w0 hSw; (try dsimp only at hSw); go_simp; (try with_reducible rfl))); (try simp only [Act.put, List.setIfInBounds_toArray, List.set_cons_zero, List.set_cons_succ]))
            (refine Rg.tk (i := 13) (d := 5) (v := ?_) rfl rfl (by kernel_rfl) (by kernel_rfl) (by kernel_rfl) (fun _ _ _ h => h) (by rfl) ?_ (by assumption) ?_; rotate_left; (focus (intro w0 hSw; (try dsimp only at hSw); go_simp; (try with_reducible rfl))); (try simp only [Act.put, List.setIfInBounds_toArray, List.set_cons_zero, List.set_cons_succ]))
            refine wpAnyH_done (by kernel_rfl) (NoPanic.normal ?_) _
            have HBF := hide ((unhide HB2).trans ((unhide HV8).mono (unhide HB2).size))
            clear hHeld
            go_wp2_with fail
            go_ret2
            rw [unhide HE2]
            exact ⟨_, rfl, unhide HBF, unhide HL8⟩
        · go_simp
          have HV1 := hide ((unhide HV).alloc (unhide HV).size (.cells #[.int .i64 key, .int .i64 til, .int .i64 val] 73))
          have RX1 := hide (rm_new V ⟨key, til, val⟩)
          have X1 := hide ((unhide X2).below (unhide HV1))
          refine hK.out _ _ (sBox (unhide X1)) (fun hHeld => ?_)
          clear hK K
          (try simp only [Act.put, List.setIfInBounds_toArray, List.set_cons_zero, List.set_cons_succ])
          (refine wpAnyH_ready (rs := [0]) (by kernel_rfl) (by simp) ?_; refine AllReadyH.cons (o := _) rfl (fun K hK => ?_) AllReadyH.nil; go_simp)
          have HV5 := hide ((unhide HV1).alloc (unhide HV1).size (.cells #[] 73))
          have O50 := own_empty (V.alloc (.cells #[.int .i64 key, .int .i64 til, .int .i64 val] 73)) w2.heap.size (unhide HV1).size
          simp only [World.size_alloc] at O50
          have O5 := hide O50
          clear O50
          have X5 := hide ((unhide X2).below (unhide HV5))
          have RX5 := hide ((unhide RX1).below ((Below.refl _ _).alloc (Nat.le_refl _) (.cells #[] 73)))
          refine hK.out _ _ (sBox (unhide X5)) (fun hHeld => ?_)
          clear hK K
          (try simp only [Act.put, List.setIfInBounds_toArray, List.set_cons_zero, List.set_cons_succ])
          (refine wpAnyH_ready (rs := [4]) (by kernel_rfl) (by simp) ?_; refine AllReadyH.cons (o := _) rfl (fun K hK => ?_) AllReadyH.nil; rw [if_pos (by rfl)])
          refine wp_apS (unhide O5) b 0 c c (ms.take c) (unhide lt1) (take_zero_off ((unhide RO).below (unhide HV5)) c) (by rw [unhide lt1]; simp; omega) (unhide HV5).size _ _ rfl rfl rfl rfl ?_
          intro v4 w4 o4 g4
          have O6 := hide o4
          have HV6 := hide (below_own (unhide HV5) (unhide O5) g4 (Nat.le_refl _) (unhide HV5).size)
          have RX := hide (rm_grown (unhide RX5) g4 (by simp [Value.ownBlock]))
          have X6 := hide ((unhide X2).below (unhide HV6))
          clear o4 g4
          refine hK.out _ _ (sBox (unhide X6)) (fun hHeld => ?_)
          clear hK K
          (try simp only [Act.put, List.setIfInBounds_toArray, List.set_cons_zero, List.set_cons_succ])
          (refine wpAnyH_ready (rs := [7]) (by kernel_rfl) (by simp) ?_; refine AllReadyH.cons (o := _) rfl (fun K hK => ?_) AllReadyH.nil; rw [if_pos (by rfl)])
          refine wp_apS (unhide O6) _ 0 1 1 [⟨key, til, val⟩] rfl (unhide RX) (by simp only [List.nil_append, List.length_cons, List.length_nil]; rw [unhide lt1]; omega) (unhide HV6).size _ _ rfl rfl rfl rfl ?_
          intro v7 w7 o7 g7
          have O7 := hide o7
          have HV7 := hide (below_own (unhide HV6) (unhide O6) g7 (Nat.le_refl _) (unhide HV6).size)
          have X7 := hide ((unhide X2).below (unhide HV7))
          clear o7 g7
          refine hK.out _ _ (sBox (unhide X7)) (fun hHeld => ?_)
          clear hK K
          (try simp only [Act.put, List.setIfInBounds_toArray, List.set_cons_zero, List.set_cons_succ])
          (refine wpAnyH_ready (rs := [11]) (by kernel_rfl) (by simp) ?_; refine AllReadyH.cons (o := _) rfl (fun K hK => ?_) AllReadyH.nil; rw [if_pos (by rfl)])
          refine wp_apS (unhide O7) b _ _ _ (ms.drop _) (unhide ld1) (unhide HD _ ((unhide RO).below (unhide HV7))) (by simp only [List.nil_append, List.length_append, List.length_cons, List.length_nil]; rw [unhide ld1, unhide lt1]; omega) (unhide HV7).size _ _ rfl rfl rfl rfl ?_
          intro v8 w8 o8 g8
          have HV8 := hide (below_own (unhide HV7) (unhide O7) g8 (Nat.le_refl _) (unhide HV7).size)
          have X8 := hide ((unhide X2).below (unhide HV8))
          have l8 := (lst_own rfl o8).mono (lo' := w.heap.size) (hi' := w8.heap.size) (by omega) (Nat.le_refl _)
          rw [← unhide HE1] at l8
          have HL8 := hide l8
          clear o8 g8 l8
          refine hK.out _ _ (sBox (unhide X8)) (fun hHeld => ?_)
          clear hK K
          (try simp only [Act.put, List.setIfInBounds_toArray, List.set_cons_zero, List.set_cons_succ])
          (refine Rg.tk (i := 12) (d := 4) (v := ?_) rfl rfl (by kernel_rfl) (by kernel_rfl) (by kernel_rfl) (fun _ _ _ h => h) (by rfl) ?_ (by assumption) ?_; rotate_left; (focus (intro w0 hSw; (try dsimp only at hSw); go_simp; (try with_reducible rfl))); (try simp only [Act.put, List.setIfInBounds_toArray, List.set_cons_zero, List.set_cons_succ]))
          (refine Rg.tk (i := 13) (d := 5) (v := ?_) rfl rfl (by kernel_rfl) (by kernel_rfl) (by kernel_rfl) (fun _ _ _ h => h) (by rfl) ?_ (by assumption) ?_; rotate_left; (focus (intro w0 hSw; (try dsimp only at hSw); go_simp; (try with_reducible rfl))); (try simp only [Act.put, List.setIfInBounds_toArray, List.set_cons_zero, List.set_cons_succ]))
          refine wpAnyH_done (by kernel_rfl) (NoPanic.normal ?_) _
          have HBF := hide ((unhide HB2).trans ((unhide HV8).mono (unhide HB2).size))
          clear hHeld
          go_wp2_with fail
          go_ret2
          rw [unhide HE2]
          exact ⟨_, rfl, unhide HBF, unhide HL8⟩
      · rw [if_neg hcp] at HD
        simp only [Nat.sub_self] at ld1
        go_wp2_with fail
        refine wp_region_noPanic ?_
        refine wp_region_held_drew (S := fun w' => Bx w' w.heap.size ⟨key, til, val⟩ ∧ w'.cell? ⟨w.heap.size, 0, none⟩ = some (.int .i64 key) ∧ w'.cell? ⟨w.heap.size, 1, none⟩ = some (.int .i64 til) ∧ w'.cell? ⟨w.heap.size, 2, none⟩ = some (.int .i64 val)) (by kernel_rfl) (sBox (unhide X2).drew) (fun hHeld => ?_)
        (refine Rg.tk (i := 1) (d := 38) (v := ?_) rfl rfl (by kernel_rfl) (by kernel_rfl) (by kernel_rfl) (fun _ _ _ h => h) (by rfl) ?_ (by assumption) ?_; rotate_left; (focus (intro w0 hSw; (try dsimp only at hSw); go_simp; (try with_reducible rfl))); (try simp only [Act.put, List.setIfInBounds_toArray, List.set_cons_zero, List.set_cons_succ]))
        (refine Rg.tk (i := 2) (d := 39) (v := ?_) rfl rfl (by kernel_rfl) (by kernel_rfl) (by kernel_rfl) (fun _ _ _ h => h) (by rfl) ?_ (by assumption) ?_; rotate_left; (focus (intro w0 hSw; (try dsimp only at hSw); go_simp; (try with_reducible rfl))); (try simp only [Act.put, List.setIfInBounds_toArray, List.set_cons_zero, List.set_cons_succ]))
        (refine Rg.tk (i := 3) (d := 40) (v := ?_) rfl rfl (by kernel_rfl) (by kernel_rfl) (by kernel_rfl) (fun _ _ _ h => h) (by rfl) ?_ (by assumption) ?_; rotate_left; (focus (intro w0 hSw; (try dsimp only at hSw); go_simp; (try with_reducible rfl))); (try simp only [Act.put, List.setIfInBounds_toArray, List.set_cons_zero, List.set_cons_succ]))
        (refine Rg.tk (i := 5) (d := 42) (v := ?_) rfl rfl (by kernel_rfl) (by kernel_rfl) (by kernel_rfl) (fun _ _ _ h => h) (by rfl) ?_ (by assumption) ?_; rotate_left; (focus (intro w0 hSw; (try dsimp only at hSw); go_simp; (try with_reducible rfl))); (try simp only [Act.put, List.setIfInBounds_toArray, List.set_cons_zero, List.set_cons_succ]))
        (refine Rg.tk (i := 8) (d := 45) (v := ?_) rfl rfl (by kernel_rfl) (by kernel_rfl) (by kernel_rfl) (fun _ _ _ h => h) (by rfl) ?_ (by assumption) ?_; rotate_left; (focus (intro w0 hSw; (try dsimp only at hSw); go_simp; (try with_reducible rfl))); (try simp only [Act.put, List.setIfInBounds_toArray, List.set_cons_zero, List.set_cons_succ]))
        (refine Rg.tk (i := 9) (d := 46) (v := ?_) rfl rfl (by kernel_rfl) (by kernel_rfl) (by kernel_rfl) (fun _ _ _ h => h) (by rfl) ?_ (by assumption) ?_; rotate_left; (focus (intro w0 hSw; (try dsimp only at hSw); go_simp; (try with_reducible rfl))); (try simp only [Act.put, List.setIfInBounds_toArray, List.set_cons_zero, List.set_cons_succ]))
        (refine Rg.tk (i := 10) (d := 47) (v := ?_) rfl rfl (by kernel_rfl) (by kernel_rfl) (by kernel_rfl) (fun _ _ _ h => h) (by rfl) ?_ (by assumption) ?_; rotate_left; (focus (intro w0 hSw; (try dsimp only at hSw); go_simp; (try with_reducible rfl))); (try simp only [Act.put, List.setIfInBounds_toArray, List.set_cons_zero, List.set_cons_succ]))
        generalize hV : w2.drew.drew = V at *
        clear hV
        have XV := hide ((unhide X2).below (unhide HV))
        have hVs := (unhide HV).size
        (refine wpAnyH_ready (rs := [0, 6]) (by kernel_rfl) (by simp) ?_; refine AllReadyH.cons (o := _) rfl (fun K hK => ?_) (AllReadyH.cons (o := _) rfl (fun K hK => ?_) AllReadyH.nil))
        · go_simp
          have HV1 := hide ((unhide HV).alloc (unhide HV).size (.cells #[] 73))
          have O0 := hide (own_empty V w2.heap.size hVs)
          have X1 := hide ((unhide X2).below (unhide HV1))
          refine hK.out _ _ (sBox (unhide X1)) (fun hHeld => ?_)
          clear hK K
          (try simp only [Act.put, List.setIfInBounds_toArray, List.set_cons_zero, List.set_cons_succ])
          (refine wpAnyH_ready (rs := [4, 6]) (by kernel_rfl) (by simp) ?_; refine AllReadyH.cons (o := _) rfl (fun K hK => ?_) (AllReadyH.cons (o := _) rfl (fun K hK => ?_) AllReadyH.nil))
          · rw [if_pos (by rfl)]
            refine wp_apS (unhide O0) b 0 n c (ms.take n) (unhide lt1) (take_zero_off ((unhide RO).below (unhide HV1)) n) (by rw [unhide lt1]; simp; omega) (unhide HV1).size _ _ rfl rfl rfl rfl ?_
            intro v4 w4 o4 g4
            have O4 := hide o4
            have HV4 := hide (below_own (unhide HV1) (unhide O0) g4 (Nat.le_refl _) (unhide HV1).size)
            have X4 := hide ((unhide X2).below (unhide HV4))
            clear o4 g4
            refine hK.out _ _ (sBox (unhide X4)) (fun hHeld => ?_)
            clear hK K
            (try simp only [Act.put, List.setIfInBounds_toArray, List.set_cons_zero, List.set_cons_succ])
            (refine wpAnyH_ready (rs := [6]) (by kernel_rfl) (by simp) ?_; refine AllReadyH.cons (o := _) rfl (fun K hK => ?_) AllReadyH.nil; go_simp)
            have HV6 := hide ((unhide HV4).alloc (unhide HV4).size (.cells #[.int .i64 key, .int .i64 til, .int .i64 val] 73))
            have O6 := hide ((unhide O4).alloc (.cells #[.int .i64 key, .int .i64 til, .int .i64 val] 73))
            have RX := hide (rm_new w4 ⟨key, til, val⟩)
            have X6 := hide ((unhide X2).below (unhide HV6))
            refine hK.out _ _ (sBox (unhide X6)) (fun hHeld => ?_)
            clear hK K
            (try simp only [Act.put, List.setIfInBounds_toArray, List.set_cons_zero, List.set_cons_succ])
            (refine wpAnyH_ready (rs := [7]) (by kernel_rfl) (by simp) ?_; refine AllReadyH.cons (o := _) rfl (fun K hK => ?_) AllReadyH.nil; rw [if_pos (by rfl)])
            refine wp_apS (unhide O6) _ 0 1 1 [⟨key, til, val⟩] rfl (unhide RX) (by simp only [List.nil_append, List.length_cons, List.length_nil]; rw [unhide lt1]; omega) (unhide HV6).size _ _ rfl rfl rfl rfl ?_
            intro v7 w7 o7 g7
            have O7 := hide o7
            have HV7 := hide (below_own (unhide HV6) (unhide O6) g7 (Nat.le_refl _) (unhide HV6).size)
            have X7 := hide ((unhide X2).below (unhide HV7))
            clear o7 g7
            refine hK.out _ _ (sBox (unhide X7)) (fun hHeld => ?_)
            clear hK K
            (try simp only [Act.put, List.setIfInBounds_toArray, List.set_cons_zero, List.set_cons_succ])
            (refine wpAnyH_ready (rs := [11]) (by kernel_rfl) (by simp) ?_; refine AllReadyH.cons (o := _) rfl (fun K hK => ?_) AllReadyH.nil; rw [if_pos (by rfl)])
            refine wp_apS (unhide O7) b _ _ _ (ms.drop _) (unhide ld1) (unhide HD _ ((unhide RO).below (unhide HV7))) (by simp only [List.nil_append, List.length_append, List.length_cons, List.length_nil]; rw [unhide ld1, unhide lt1]; omega) (unhide HV7).size _ _ rfl rfl rfl rfl ?_
            intro v8 w8 o8 g8
            have HV8 := hide (below_own (unhide HV7) (unhide O7) g8 (Nat.le_refl _) (unhide HV7).size)
            have X8 := hide ((unhide X2).below (unhide HV8))
            have l8 := (lst_own rfl o8).mono (lo' := w.heap.size) (hi' := w8.heap.size) (by omega) (Nat.le_refl _)
            rw [← unhide HE1] at l8
            have HL8 := hide l8
            clear o8 g8 l8
            refine hK.out _ _ (sBox (unhide X8)) (fun hHeld => ?_)
            clear hK K
            (try simp only [Act.put, List.setIfInBounds_toArray, List.set_cons_zero, List.set_cons_succ])
            (refine Rg.tk (i := 12) (d := 4) (v := ?_) rfl rfl (by kernel_rfl) (by kernel_rfl) (by kernel_rfl) (fun _ _ _ h => h) (by rfl) ?_ (by assumption) ?_; rotate_left; (focus (intro w0 hSw; (try dsimp only at hSw); go_simp; (try with_reducible rfl))); (try simp only [Act.put, List.setIfInBounds_toArray, List.set_cons_zero, List.set_cons_succ]))
            (refine Rg.tk (i := 13) (d := 5) (v := ?_) rfl rfl (by kernel_rfl) (by kernel_rfl) (by kernel_rfl) (fun _ _ _ h => h) (by rfl) ?_ (by assumption) ?_; rotate_left; (focus (intro w0 hSw; (try dsimp only at hSw); go_simp; (try with_reducible rfl))); (try simp only [Act.put, List.setIfInBounds_toArray, List.set_cons_zero, List.set_cons_succ]))
            refine wpAnyH_done (by kernel_rfl) (NoPanic.normal ?_) _
            have HBF := hide ((unhide HB2).trans ((unhide HV8).mono (unhide HB2).size))
            clear hHeld
            go_wp2_with fail
            go_ret2
            rw [unhide HE2]
            exact ⟨_, rfl, unhide HBF, unhide HL8⟩
          · go_simp
            have HV5 := hide ((unhide HV1).alloc (unhide HV1).size (.cells #[.int .i64 key, .int .i64 til, .int .i64 val] 73))
            have O5 := hide ((unhide O0).alloc (.cells #[.int .i64 key, .int .i64 til, .int .i64 val] 73))
            have RX0 := rm_new (V.alloc (.cells #[] 73)) ⟨key, til, val⟩
            simp only [World.size_alloc] at RX0
            have X5 := hide ((unhide X2).below (unhide HV5))
            have RX5 := hide RX0
            clear RX0
            refine hK.out _ _ (sBox (unhide X5)) (fun hHeld => ?_)
            clear hK K
            (try simp only [Act.put, List.setIfInBounds_toArray, List.set_cons_zero, List.set_cons_succ])
            (refine wpAnyH_ready (rs := [4]) (by kernel_rfl) (by simp) ?_; refine AllReadyH.cons (o := _) rfl (fun K hK => ?_) AllReadyH.nil; rw [if_pos (by rfl)])
            refine wp_apS (unhide O5) b 0 n c (ms.take n) (unhide lt1) (take_zero_off ((unhide RO).below (unhide HV5)) n) (by rw [unhide lt1]; simp; omega) (unhide HV5).size _ _ rfl rfl rfl rfl ?_
            intro v4 w4 o4 g4
            have O6 := hide o4
            have HV6 := hide (below_own (unhide HV5) (unhide O5) g4 (Nat.le_refl _) (unhide HV5).size)
            have RX := hide (rm_grown (unhide RX5) g4 (by simp [Value.ownBlock]))
            have X6 := hide ((unhide X2).below (unhide HV6))
            clear o4 g4
            refine hK.out _ _ (sBox (unhide X6)) (fun hHeld => ?_)
            clear hK K
            (try simp only [Act.put, List.setIfInBounds_toArray, List.set_cons_zero, List.set_cons_succ])
            (refine wpAnyH_ready (rs := [7]) (by kernel_rfl) (by simp) ?_; refine AllReadyH.cons (o := _) rfl (fun K hK => ?_) AllReadyH.nil; rw [if_pos (by rfl)])
            refine wp_apS (unhide O6) _ 0 1 1 [⟨key, til, val⟩] rfl (unhide RX) (by simp only [List.nil_append, List.length_cons, List.length_nil]; rw [unhide lt1]; omega) (unhide HV6).size _ _ rfl rfl rfl rfl ?_
            intro v7 w7 o7 g7
            have O7 := hide o7
            have HV7 := hide (below_own (unhide HV6) (unhide O6) g7 (Nat.le_refl _) (unhide HV6).size)
            have X7 := hide ((unhide X2).below (unhide HV7))
            clear o7 g7
            refine hK.out _ _ (sBox (unhide X7)) (fun hHeld => ?_)
            clear hK K
            (try simp only [Act.put, List.setIfInBounds_toArray, List.set_cons_zero, List.set_cons_succ])
            (refine wpAnyH_ready (rs := [11]) (by kernel_rfl) (by simp) ?_; refine AllReadyH.cons (o := _) rfl (fun K hK => ?_) AllReadyH.nil; rw [if_pos (by rfl)])
            refine wp_apS (unhide O7) b _ _ _ (ms.drop _) (unhide ld1) (unhide HD _ ((unhide RO).below (unhide HV7))) (by simp only [List.nil_append, List.length_append, List.length_cons, List.length_nil]; rw [unhide ld1, unhide lt1]; omega) (unhide HV7).size _ _ rfl rfl rfl rfl ?_
            intro v8 w8 o8 g8
            have HV8 := hide (below_own (unhide HV7) (unhide O7) g8 (Nat.le_refl _) (unhide HV7).size)
            have X8 := hide ((unhide X2).below (unhide HV8))
            have l8 := (lst_own rfl o8).mono (lo' := w.heap.size) (hi' := w8.heap.size) (by omega) (Nat.le_refl _)
            rw [← unhide HE1] at l8
            have HL8 := hide l8
            clear o8 g8 l8
            refine hK.out _ _ (sBox (unhide X8)) (fun hHeld => ?_)
            clear hK K
            (try simp only [Act.put, List.setIfInBounds_toArray, List.set_cons_zero, List.set_cons_succ])
            (refine Rg.tk (i := 12) (d := 4) (v := ?_) rfl rfl (by kernel_rfl) (by kernel_rfl) (by kernel_rfl) (fun _ _ _ h => h) (by rfl) ?_ (by assumption) ?_; rotate_left; (focus (intro w0 hSw; (try dsimp only at hSw); go_simp; (try with_reducible rfl))); (try simp only [Act.put, List.setIfInBounds_toArray, List.set_cons_zero, List.set_cons_succ]))
            (refine Rg.tk (i := 13) (d := 5) (v := ?_) rfl rfl (by kernel_rfl) (by kernel_rfl) (by kernel_rfl) (fun _ _ _ h => h) (by rfl) ?_ (by assumption) ?_; rotate_left; (focus (intro w0 hSw; (try dsimp only at hSw); go_simp; (try with_reducible rfl))); (try simp only [Act.put, List.setIfInBounds_toArray, List.set_cons_zero, List.set_cons_succ]))
            refine wpAnyH_done (by kernel_rfl) (NoPanic.normal ?_) _
            have HBF := hide ((unhide HB2).trans ((unhide HV8).mono (unhide HB2).size))
            clear hHeld
            go_wp2_with fail
            go_ret2
            rw [unhide HE2]
            exact ⟨_, rfl, unhide HBF, unhide HL8⟩
        · go_simp
          have HV1 := hide ((unhide HV).alloc (unhide HV).size (.cells #[.int .i64 key, .int .i64 til, .int .i64 val] 73))
          have RX1 := hide (rm_new V ⟨key, til, val⟩)
          have X1 := hide ((unhide X2).below (unhide HV1))
          refine hK.out _ _ (sBox (unhide X1)) (fun hHeld => ?_)
          clear hK K
          (try simp only [Act.put, List.setIfInBounds_toArray, List.set_cons_zero, List.set_cons_succ])
          (refine wpAnyH_ready (rs := [0]) (by kernel_rfl) (by simp) ?_; refine AllReadyH.cons (o := _) rfl (fun K hK => ?_) AllReadyH.nil; go_simp)
          have HV5 := hide ((unhide HV1).alloc (unhide HV1).size (.cells #[] 73))
          have O50 := own_empty (V.alloc (.cells #[.int .i64 key, .int .i64 til, .int .i64 val] 73)) w2.heap.size (unhide HV1).size
          simp only [World.size_alloc] at O50
          have O5 := hide O50
          clear O50
          have X5 := hide ((unhide X2).below (unhide HV5))
          have RX5 := hide ((unhide RX1).below ((Below.refl _ _).alloc (Nat.le_refl _) (.cells #[] 73)))
          refine hK.out _ _ (sBox (unhide X5)) (fun hHeld => ?_)
          clear hK K
          (try simp only [Act.put, List.setIfInBounds_toArray, List.set_cons_zero, List.set_cons_succ])
          (refine wpAnyH_ready (rs := [4]) (by kernel_rfl) (by simp) ?_; refine AllReadyH.cons (o := _) rfl (fun K hK => ?_) AllReadyH.nil; rw [if_pos (by rfl)])
          refine wp_apS (unhide O5) b 0 n c (ms.take n) (unhide lt1) (take_zero_off ((unhide RO).below (unhide HV5)) n) (by rw [unhide lt1]; simp; omega) (unhide HV5).size _ _ rfl rfl rfl rfl ?_
          intro v4 w4 o4 g4
          have O6 := hide o4
          have HV6 := hide (below_own (unhide HV5) (unhide O5) g4 (Nat.le_refl _) (unhide HV5).size)
          have RX := hide (rm_grown (unhide RX5) g4 (by simp [Value.ownBlock]))
          have X6 := hide ((unhide X2).below (unhide HV6))
          clear o4 g4
          refine hK.out _ _ (sBox (unhide X6)) (fun hHeld => ?_)
          clear hK K
          (try simp only [Act.put, List.setIfInBounds_toArray, List.set_cons_zero, List.set_cons_succ])
          (refine wpAnyH_ready (rs := [7]) (by kernel_rfl) (by simp) ?_; refine AllReadyH.cons (o := _) rfl (fun K hK => ?_) AllReadyH.nil; rw [if_pos (by rfl)])
          refine wp_apS (unhide O6) _ 0 1 1 [⟨key, til, val⟩] rfl (unhide RX) (by simp only [List.nil_append, List.length_cons, List.length_nil]; rw [unhide lt1]; omega) (unhide HV6).size _ _ rfl rfl rfl rfl ?_
          intro v7 w7 o7 g7
          have O7 := hide o7
          have HV7 := hide (below_own (unhide HV6) (unhide O6) g7 (Nat.le_refl _) (unhide HV6).size)
          have X7 := hide ((unhide X2).below (unhide HV7))
          clear o7 g7
          refine hK.out _ _ (sBox (unhide X7)) (fun hHeld => ?_)
          clear hK K
          (try simp only [Act.put, List.setIfInBounds_toArray, List.set_cons_zero, List.set_cons_succ])
          (refine wpAnyH_ready (rs := [11]) (by kernel_rfl) (by simp) ?_; refine AllReadyH.cons (o := _) rfl (fun K hK => ?_) AllReadyH.nil; rw [if_pos (by rfl)])
          refine wp_apS (unhide O7) b _ _ _ (ms.drop _) (unhide ld1) (unhide HD _ ((unhide RO).below (unhide HV7))) (by simp only [List.nil_append, List.length_append, List.length_cons, List.length_nil]; rw [unhide ld1, unhide lt1]; omega) (unhide HV7).size _ _ rfl rfl rfl rfl ?_
          intro v8 w8 o8 g8
          have HV8 := hide (below_own (unhide HV7) (unhide O7) g8 (Nat.le_refl _) (unhide HV7).size)
          have X8 := hide ((unhide X2).below (unhide HV8))
          have l8 := (lst_own rfl o8).mono (lo' := w.heap.size) (hi' := w8.heap.size) (by omega) (Nat.le_refl _)
          rw [← unhide HE1] at l8
          have HL8 := hide l8
          clear o8 g8 l8
          refine hK.out _ _ (sBox (unhide X8)) (fun hHeld => ?_)
          clear hK K
          (try simp only [Act.put, List.setIfInBounds_toArray, List.set_cons_zero, List.set_cons_succ])
          (refine Rg.tk (i := 12) (d := 4) (v := ?_) rfl rfl (by kernel_rfl) (by kernel_rfl) (by kernel_rfl) (fun _ _ _ h => h) (by rfl) ?_ (by assumption) ?_; rotate_left; (focus (intro w0 hSw; (try dsimp only at hSw); go_simp; (try with_reducible rfl))); (try simp only [Act.put, List.setIfInBounds_toArray, List.set_cons_zero, List.set_cons_succ]))
          (refine Rg.tk (i := 13) (d := 5) (v := ?_) rfl rfl (by kernel_rfl) (by kernel_rfl) (by kernel_rfl) (fun _ _ _ h => h) (by rfl) ?_ (by assumption) ?_; rotate_left; (focus (intro w0 hSw; (try dsimp only at hSw); go_simp; (try with_reducible rfl))); (try simp only [Act.put, List.setIfInBounds_toArray, List.set_cons_zero, List.set_cons_succ]))
          refine wpAnyH_done (by kernel_rfl) (NoPanic.normal ?_) _
          have HBF := hide ((unhide HB2).trans ((unhide HV8).mono (unhide HB2).size))
          clear hHeld
          go_wp2_with fail
          go_ret2
          rw [unhide HE2]
          exact ⟨_, rfl, unhide HBF, unhide HL8⟩
end St
end Go.Proofs.Ytilphgfjgeoiaaa
