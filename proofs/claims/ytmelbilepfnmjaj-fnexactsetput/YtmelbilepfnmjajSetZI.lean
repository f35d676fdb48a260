/-
  Contract: SetPut, the program's (written by mkput2.py).
-/
import Derived.Test.YtmelbilepfnmjajSetZ
namespace Go.Proofs.Ytmelbilepfnmjaj
open Go.ChangeShapes Go.WideShapes Go.ChangeAt Go.RowKit
set_option linter.unusedVariables false
set_option linter.unusedSimpArgs false
attribute [local go_sem ↓] Go.wp_at_zero Go.wp_at_succ
namespace St
open W1 Tu
theorem segs3 {w : World} {g1 o1 c1 g2 o2 c2 g3 o3 c3 : Nat} {m1 m2 m3 : List R} (h1 : RM w (some ⟨g1, o1, none⟩) m1) (h2 : RM w (some ⟨g2, o2, none⟩) m2) (h3 : RM w (some ⟨g3, o3, none⟩) m3) :
    Segs (w.alloc (.cells #[.slice (some ⟨g1, o1, none⟩) m1.length c1, .slice (some ⟨g2, o2, none⟩) m2.length c2, .slice (some ⟨g3, o3, none⟩) m3.length c3] 26)) w.heap.size [⟨g1, o1, c1, m1⟩, ⟨g2, o2, c2, m2⟩, ⟨g3, o3, c3, m3⟩] := by
  intro i hi
  have hb : Below w.heap.size w (w.alloc (.cells #[.slice (some ⟨g1, o1, none⟩) m1.length c1, .slice (some ⟨g2, o2, none⟩) m2.length c2, .slice (some ⟨g3, o3, none⟩) m3.length c3] 26)) := (Below.refl _ _).alloc (Nat.le_refl _) _
  match i, hi with
  | 0, _ => exact ⟨by simp [World.cell?_alloc_new], h1.below hb⟩
  | 1, _ => exact ⟨by simp [World.cell?_alloc_new], h2.below hb⟩
  | 2, _ => exact ⟨by simp [World.cell?_alloc_new], h3.below hb⟩
set_option maxRecDepth 100000 in
set_option maxHeartbeats 8000000 in
theorem implPut (g off : Nat) (ms : List R) (cap : Nat) (x : R) (w : World) (hcap : cap = ms.length) (hm : ms.length ≤ 1048576) (hr : RM w (some ⟨g, off, none⟩) ms) :
    Calls Try.prog 13 #[.slice (some ⟨g, off, none⟩) ms.length cap, x.value] w fun e w' => ∃ v, e = .returned (.tuple #[v, .int .i64 (putE ms x)]) ∧ Below w.heap.size w w' ∧ LstV w' v (putA ms x) w.heap.size w'.heap.size := by
  subst hcap
  obtain ⟨key, til, val⟩ := x
  unfold R.value
  have HR := hide hr
  clear hr
  have HBA : Hid (Below w.heap.size w (w.alloc (.cells #[.int .i64 key, .int .i64 til, .int .i64 val] 30))) := hide ((Below.refl _ _).alloc (Nat.le_refl _) _)
  have HX : Hid (Bx (w.alloc (.cells #[.int .i64 key, .int .i64 til, .int .i64 val] 30)) w.heap.size ⟨key, til, val⟩) := hide (by refine ⟨?_, ?_, ?_⟩ <;> simp [World.cell?_alloc_new])
  by_cases hc : codeS ms = 0
  rotate_left
  · have h1 : putA ms ⟨key, til, val⟩ = [] := by unfold putA; rw [if_neg (fun h => hc h.1)]
    have h2 : putE ms ⟨key, til, val⟩ = codeS ms := by unfold putE; rw [if_neg hc]
    rw [h1, h2]
    have hcb : (codeS ms == 0) = false := by simpa using hc
    clear h1 h2
    go_enter Try.func13, Try.ntmps13
    go_wp2_with fail
    refine (setCode _ ms _ _ hm ((unhide HR).below (unhide HBA))).mono ?_
    rintro e w1 ⟨rfl, b1⟩
    have hb1 := hide ((unhide HBA).trans (b1.mono (unhide HBA).size))
    clear b1
    go_wp2_with fail
    go_ret2
    exact ⟨_, rfl, unhide hb1, lstV_nil _ _ _ _ _⟩
  have HC := hide hc
  have HS := hide (code_set hc)
  have h64 := setB_len (code_set hc)
  cases hx : okR ⟨key, til, val⟩
  · have h1 : putA ms ⟨key, til, val⟩ = [] := by unfold putA; rw [if_neg (fun h => by rw [hx] at h; cases h.2)]
    have h2 : putE ms ⟨key, til, val⟩ = 1 := by unfold putE; rw [if_pos hc, if_neg (by simp [hx])]
    rw [h1, h2]
    have HXK := hide hx
    clear h1 h2 hc hx
    go_enter Try.func13, Try.ntmps13
    go_wp2_with fail
    refine (setCode _ ms _ _ hm ((unhide HR).below (unhide HBA))).mono ?_
    rintro e w1 ⟨rfl, b1⟩
    rw [unhide HC]
    have hb1 := hide ((unhide HBA).trans (b1.mono (unhide HBA).size))
    obtain ⟨z0, z1, z2⟩ := (unhide HX).below b1
    dsimp only at z0 z1 z2
    clear b1
    go_wp2_with fail
    refine (isTuple key til val _).mono ?_
    rintro e w2 ⟨rfl, b2⟩
    rw [unhide HXK]
    have hb2 := hide ((unhide hb1).trans (b2.mono (unhide hb1).size))
    clear b2 z0 z1 z2
    go_wp2_with fail
    go_ret2
    exact ⟨_, rfl, unhide hb2, lstV_nil _ _ _ _ _⟩
  have h1 : putA ms ⟨key, til, val⟩ = putL ms ⟨key, til, val⟩ := by unfold putA; rw [if_pos ⟨hc, hx⟩]
  have h2 : putE ms ⟨key, til, val⟩ = putC ms ⟨key, til, val⟩ := by unfold putE; rw [if_pos hc, if_pos hx]
  rw [h1, h2]
  have HXK := hide hx
  clear h1 h2 hc hx
  have hl := placeP_le (atKey key) ms
  obtain ⟨p, hp⟩ : ∃ p, place ms key = p := ⟨_, rfl⟩
  have HP := hide hp
  rw [show placeP (atKey key) ms = p from hp] at hl
  clear hp
  obtain ⟨L, hL⟩ : ∃ L, putL ms ⟨key, til, val⟩ = L := ⟨_, rfl⟩
  obtain ⟨C, hC⟩ : ∃ C, putC ms ⟨key, til, val⟩ = C := ⟨_, rfl⟩
  have HLL := hide hL
  have HCC := hide hC
  rw [hL, hC]
  clear hL hC
  obtain ⟨n, hn⟩ : ∃ n, ms.length = n := ⟨_, rfl⟩
  have HN := hide hn
  rw [hn] at hl hm h64 ⊢
  clear hn
  have p0 : (0 : Int) ≤ (p : Int) := by omega
  have p1 : (p : Int) ≤ (n : Int) := by omega
  go_enter Try.func13, Try.ntmps13
  go_wp2_with fail
  refine (by have := setCode (some ⟨g, off, none⟩) ms n _ (by rw [unhide HN]; exact hm) ((unhide HR).below (unhide HBA)); rw [unhide HN, unhide HC] at this; exact this : Calls Try.prog 34 #[.slice (some ⟨g, off, none⟩) n n] _ _).mono ?_
  rintro e w1 ⟨rfl, b1⟩
  have hb1 := hide ((unhide HBA).trans (b1.mono (unhide HBA).size))
  have X1 := hide ((unhide HX).below b1)
  obtain ⟨z0, z1, z2⟩ := unhide X1
  dsimp only at z0 z1 z2
  clear b1
  go_wp2_with fail
  refine (isTuple key til val _).mono ?_
  rintro e w2 ⟨rfl, b2⟩
  rw [unhide HXK]
  have hb2 := hide ((unhide hb1).trans (b2.mono (unhide hb1).size))
  clear z0 z1 z2
  have X2 := hide ((unhide X1).below b2)
  obtain ⟨z0, z1, z2⟩ := unhide X2
  dsimp only at z0 z1 z2
  clear b2
  go_wp2_with fail
  refine (by have := keyPlace g off ms n key w2 ((unhide HR).below (unhide hb2)) (unhide HS); rw [unhide HN, unhide HP] at this; exact this : Calls Try.prog 36 #[.slice (some ⟨g, off, none⟩) n n, .int .i64 key] w2 _).mono ?_
  rintro e w3 ⟨rfl, b3⟩
  have hb3 := hide ((unhide hb2).trans (b3.mono (unhide hb2).size))
  have X3 := hide ((unhide X2).below b3)
  have R3 := hide ((unhide HR).below (unhide hb3))
  clear z0 z1 z2 b3
  obtain ⟨z0, z1, z2⟩ := unhide X3
  dsimp only at z0 z1 z2
  have lt1 : Hid ((ms.take p).length = p) := hide (by rw [List.length_take, unhide HN]; omega)
  have H1 : Hid (RM w3 (some ⟨g, off, none⟩) (ms.take p)) := hide (take_zero_off (unhide R3) p)
  cases ht : thereB ms key
  · have HT := hide ht
    have HE0 : Hid (∀ h : ¬ n = 64, L = ms.take p ++ [⟨key, til, val⟩] ++ ms.drop p) := hide (fun h => by rw [← unhide HLL]; unfold putL; rw [if_neg (by rw [ht]; simp), if_neg (by rw [unhide HN]; exact h), unhide HP])
    have HE00 : Hid (∀ h : ¬ n = 64, C = 0) := hide (fun h => by rw [← unhide HCC]; unfold putC; rw [if_neg (by rw [ht]; simp), if_neg (by rw [unhide HN]; exact h)])
    by_cases h6 : n = 64
    · have HE1 : Hid (L = ms) := hide (by rw [← unhide HLL]; unfold putL; rw [if_neg (by rw [ht]; simp), if_pos (by rw [unhide HN]; exact h6)])
      have HE2 : Hid (C = 7) := hide (by rw [← unhide HCC]; unfold putC; rw [if_neg (by rw [ht]; simp), if_pos (by rw [unhide HN]; exact h6)])
      clear ht HE0 HE00
      by_cases hpn : n = p
      all_goals
        first | subst hpn | skip
        subst h6
        go_wp2_with fail
        refine (copied g off ms _ _ _ (unhide HN) (by rw [unhide HN]; omega) (unhide R3)).mono ?_
        rintro e w6 ⟨v, rfl, b6, l6⟩
        have hb6 := hide ((unhide hb3).trans (b6.mono (unhide hb3).size))
        have HL := hide (l6.mono (unhide hb3).size (Nat.le_refl _))
        clear b6 l6
        go_wp2_with fail
        go_ret2
        rw [unhide HE1, unhide HE2]
        exact ⟨_, rfl, unhide hb6, unhide HL⟩
    have HE1 := hide (unhide HE0 h6)
    have HE2 := hide (unhide HE00 h6)
    have hnb : ((n : Int) == 64) = false := by simp; omega
    have hn64 : ¬ (n : Int) = 64 := by omega
    clear ht HE0 HE00
    by_cases hpn : n = p
    · subst hpn
      have ld1 : Hid ((ms.drop n).length = 0) := hide (by rw [List.length_drop, unhide HN]; omega)
      have HB4 : Hid (Below w3.heap.size w3 (w3.alloc (.cells #[.int .i64 key, .int .i64 til, .int .i64 val] 30)).drew) := hide (((Below.refl _ _).alloc (Nat.le_refl _) _).drew)
      have HSG : Hid (Segs ((w3.alloc (.cells #[.int .i64 key, .int .i64 til, .int .i64 val] 30)).alloc (.cells #[.slice (some ⟨g, off, none⟩) n n, .slice (some ⟨w3.heap.size, 0, none⟩) 1 1, .slice (some ⟨g, off, none⟩) (0) (0)] 26)).drew (w3.heap.size + 1) [⟨g, off, n, ms.take n⟩, ⟨w3.heap.size, 0, 1, [⟨key, til, val⟩]⟩, ⟨g, off, 0, ms.drop n⟩]) := hide (by
        have RX := rm_new w3 ⟨key, til, val⟩
        have hA : Below w3.heap.size w3 (w3.alloc (.cells #[.int .i64 key, .int .i64 til, .int .i64 val] 30)) := (Below.refl _ _).alloc (Nat.le_refl _) _
        have := segs3 (w := w3.alloc (.cells #[.int .i64 key, .int .i64 til, .int .i64 val] 30)) (c1 := n) (c2 := 1) (c3 := 0) (o3 := off) (g3 := g) ((unhide H1).below hA) RX (m3 := ms.drop n) (RM.below (.inl (List.drop_eq_nil_of_le (by rw [unhide HN]; exact Nat.le_refl _))) hA)
        rw [unhide lt1, unhide ld1, World.size_alloc] at this
        exact fun i hi => this i hi)
      have HCL : Hid ((cat [⟨g, off, n, ms.take n⟩, ⟨w3.heap.size, 0, 1, [⟨key, til, val⟩]⟩, ⟨g, off, 0, ms.drop n⟩]).length ≤ 4096) := hide (by simp only [cat, List.flatMap_cons, List.flatMap_nil, List.length_append, List.length_nil, List.length_cons, unhide lt1, unhide ld1]; omega)
      have HEQ : Hid (cat [⟨g, off, n, ms.take n⟩, ⟨w3.heap.size, 0, 1, [⟨key, til, val⟩]⟩, ⟨g, off, 0, ms.drop n⟩] = L) := hide (by rw [unhide HE1]; simp [cat])
      have HBX := hide (((unhide hb3).alloc (unhide hb3).size (.cells #[.int .i64 key, .int .i64 til, .int .i64 val] 30)).alloc ((unhide hb3).alloc (unhide hb3).size (.cells #[.int .i64 key, .int .i64 til, .int .i64 val] 30)).size (.cells #[.slice (some ⟨g, off, none⟩) n n, .slice (some ⟨w3.heap.size, 0, none⟩) 1 1, .slice (some ⟨g, off, none⟩) (0) (0)] 26)).drew
      have X5 : Hid (Bx ((w3.alloc (.cells #[.int .i64 key, .int .i64 til, .int .i64 val] 30)).alloc (.cells #[.slice (some ⟨g, off, none⟩) n n, .slice (some ⟨w3.heap.size, 0, none⟩) 1 1, .slice (some ⟨g, off, none⟩) (0) (0)] 26)).drew w.heap.size ⟨key, til, val⟩) := hide ((unhide X3).below (((Below.refl w3.heap.size w3).alloc (Nat.le_refl _) (.cells #[.int .i64 key, .int .i64 til, .int .i64 val] 30)).alloc ((Below.refl w3.heap.size w3).alloc (Nat.le_refl _) (.cells #[.int .i64 key, .int .i64 til, .int .i64 val] 30)).size (.cells #[.slice (some ⟨g, off, none⟩) n n, .slice (some ⟨w3.heap.size, 0, none⟩) 1 1, .slice (some ⟨g, off, none⟩) (0) (0)] 26)).drew)
      have X4 : Hid (Bx (w3.alloc (.cells #[.int .i64 key, .int .i64 til, .int .i64 val] 30)).drew w.heap.size ⟨key, til, val⟩) := hide ((unhide X3).below (unhide HB4))
      go_wp2_with fail
      refine wp_region_noPanic ?_
      refine wp_region_held_drew (S := fun w' => Bx w' w.heap.size ⟨key, til, val⟩ ∧ w'.cell? ⟨w.heap.size, 0, none⟩ = some (.int .i64 key) ∧ w'.cell? ⟨w.heap.size, 1, none⟩ = some (.int .i64 til) ∧ w'.cell? ⟨w.heap.size, 2, none⟩ = some (.int .i64 val)) (by kernel_rfl) (sBox (unhide X3).drew) (fun hHeld => ?_)
      (refine Rg.tk (i := 0) (d := 40) (v := ?_) rfl rfl (by kernel_rfl) (by kernel_rfl) (by kernel_rfl) (fun _ _ _ h => h) (by rfl) ?_ (by assumption) ?_; rotate_left; (focus (intro w0 hSw; (try dsimp only at hSw); go_simp; (try with_reducible rfl))); (try simp only [Act.put, List.setIfInBounds_toArray, List.set_cons_zero, List.set_cons_succ]))
      (refine Rg.tk (i := 1) (d := 41) (v := ?_) rfl rfl (by kernel_rfl) (by kernel_rfl) (by kernel_rfl) (fun _ _ _ h => h) (by rfl) ?_ (by assumption) ?_; rotate_left; (focus (intro w0 hSw; (try dsimp only at hSw); go_simp; (try with_reducible rfl))); (try simp only [Act.put, List.setIfInBounds_toArray, List.set_cons_zero, List.set_cons_succ]))
      (refine Rg.tk (i := 2) (d := 42) (v := ?_) rfl rfl (by kernel_rfl) (by kernel_rfl) (by kernel_rfl) (fun _ _ _ h => h) (by rfl) ?_ (by assumption) ?_; rotate_left; (focus (intro w0 hSw; (try dsimp only at hSw); go_simp; (try with_reducible rfl))); (try simp only [Act.put, List.setIfInBounds_toArray, List.set_cons_zero, List.set_cons_succ]))
      (refine Rg.tk (i := 3) (d := 43) (v := ?_) rfl rfl (by kernel_rfl) (by kernel_rfl) (by kernel_rfl) (fun _ _ _ h => h) (by rfl) ?_ (by assumption) ?_; rotate_left; (focus (intro w0 hSw; (try dsimp only at hSw); go_simp; (try with_reducible rfl))); (try simp only [Act.put, List.setIfInBounds_toArray, List.set_cons_zero, List.set_cons_succ]))
      (refine Rg.tk (i := 5) (d := 45) (v := ?_) rfl rfl (by kernel_rfl) (by kernel_rfl) (by kernel_rfl) (fun _ _ _ h => h) (by rfl) ?_ (by assumption) ?_; rotate_left; (focus (intro w0 hSw; (try dsimp only at hSw); go_simp; (try with_reducible rfl))); (try simp only [Act.put, List.setIfInBounds_toArray, List.set_cons_zero, List.set_cons_succ]))
      (refine wpAnyH_ready (rs := [4]) (by kernel_rfl) (by simp) ?_; refine AllReadyH.cons (o := _) rfl (fun K hK => ?_) AllReadyH.nil; go_simp)
      refine hK.out _ _ (sBox (unhide X4)) (fun hHeld => ?_)
      clear hK K
      (try simp only [Act.put, List.setIfInBounds_toArray, List.set_cons_zero, List.set_cons_succ])
      (refine wpAnyH_ready (rs := [6]) (by kernel_rfl) (by simp) ?_; refine AllReadyH.cons (o := _) rfl (fun K hK => ?_) AllReadyH.nil; go_simp)
      refine hK.out _ _ (sBox (unhide X5)) (fun hHeld => ?_)
      clear hK K
      (try simp only [Act.put, List.setIfInBounds_toArray, List.set_cons_zero, List.set_cons_succ])
      (refine wpAnyH_ready (rs := [7]) (by kernel_rfl) (by simp) ?_; refine AllReadyH.cons (o := _) rfl (fun K hK => ?_) AllReadyH.nil; go_simp)
      refine (concat (w3.heap.size + 1) 3 _ _ rfl (by omega) (unhide HSG) (unhide HCL)).mono ?_
      rintro e w6 ⟨v, rfl, b6, l6⟩
      rw [unhide HEQ] at l6
      have hb6 := hide ((unhide HBX).trans (b6.mono (unhide HBX).size))
      have HL := hide (l6.mono (unhide HBX).size (Nat.le_refl _))
      have X6 := hide ((unhide X5).below b6)
      clear b6 l6
      refine hK.out _ _ (sBox (unhide X6)) (fun hHeld => ?_)
      clear hK K
      (try simp only [Act.put, List.setIfInBounds_toArray, List.set_cons_zero, List.set_cons_succ])
      (refine Rg.tk (i := 8) (d := 4) (v := ?_) rfl rfl (by kernel_rfl) (by kernel_rfl) (by kernel_rfl) (fun _ _ _ h => h) (by rfl) ?_ (by assumption) ?_; rotate_left; (focus (intro w0 hSw; (try dsimp only at hSw); go_simp; (try with_reducible rfl))); (try simp only [Act.put, List.setIfInBounds_toArray, List.set_cons_zero, List.set_cons_succ]))
      (refine Rg.tk (i := 9) (d := 5) (v := ?_) rfl rfl (by kernel_rfl) (by kernel_rfl) (by kernel_rfl) (fun _ _ _ h => h) (by rfl) ?_ (by assumption) ?_; rotate_left; (focus (intro w0 hSw; (try dsimp only at hSw); go_simp; (try with_reducible rfl))); (try simp only [Act.put, List.setIfInBounds_toArray, List.set_cons_zero, List.set_cons_succ]))
      refine wpAnyH_done (by kernel_rfl) (NoPanic.normal ?_) _
      clear hHeld
      go_wp2_with fail
      go_ret2
      rw [unhide HE2]
      exact ⟨_, rfl, unhide hb6, unhide HL⟩
    · have hpn' : ¬ p = n := fun e => hpn e.symm
      have ld1 : Hid ((ms.drop p).length = n - p) := hide (by rw [List.length_drop, unhide HN])
      have HB4 : Hid (Below w3.heap.size w3 (w3.alloc (.cells #[.int .i64 key, .int .i64 til, .int .i64 val] 30)).drew) := hide (((Below.refl _ _).alloc (Nat.le_refl _) _).drew)
      have HSG : Hid (Segs ((w3.alloc (.cells #[.int .i64 key, .int .i64 til, .int .i64 val] 30)).alloc (.cells #[.slice (some ⟨g, off, none⟩) p n, .slice (some ⟨w3.heap.size, 0, none⟩) 1 1, .slice (some ⟨g, off + p * 3, none⟩) (n - p) (n - p)] 26)).drew (w3.heap.size + 1) [⟨g, off, n, ms.take p⟩, ⟨w3.heap.size, 0, 1, [⟨key, til, val⟩]⟩, ⟨g, off + p * 3, n - p, ms.drop p⟩]) := hide (by
        have RX := rm_new w3 ⟨key, til, val⟩
        have hA : Below w3.heap.size w3 (w3.alloc (.cells #[.int .i64 key, .int .i64 til, .int .i64 val] 30)) := (Below.refl _ _).alloc (Nat.le_refl _) _
        have := segs3 (w := w3.alloc (.cells #[.int .i64 key, .int .i64 til, .int .i64 val] 30)) (c1 := n) (c2 := 1) (c3 := n - p) (o3 := off + p * 3) (g3 := g) ((unhide H1).below hA) RX (m3 := ms.drop p) (RM.below (drop_off (unhide R3) p) hA)
        rw [unhide lt1, unhide ld1, World.size_alloc] at this
        exact fun i hi => this i hi)
      have HCL : Hid ((cat [⟨g, off, n, ms.take p⟩, ⟨w3.heap.size, 0, 1, [⟨key, til, val⟩]⟩, ⟨g, off + p * 3, n - p, ms.drop p⟩]).length ≤ 4096) := hide (by simp only [cat, List.flatMap_cons, List.flatMap_nil, List.length_append, List.length_nil, List.length_cons, unhide lt1, unhide ld1]; omega)
      have HEQ : Hid (cat [⟨g, off, n, ms.take p⟩, ⟨w3.heap.size, 0, 1, [⟨key, til, val⟩]⟩, ⟨g, off + p * 3, n - p, ms.drop p⟩] = L) := hide (by rw [unhide HE1]; simp [cat])
      have HBX := hide (((unhide hb3).alloc (unhide hb3).size (.cells #[.int .i64 key, .int .i64 til, .int .i64 val] 30)).alloc ((unhide hb3).alloc (unhide hb3).size (.cells #[.int .i64 key, .int .i64 til, .int .i64 val] 30)).size (.cells #[.slice (some ⟨g, off, none⟩) p n, .slice (some ⟨w3.heap.size, 0, none⟩) 1 1, .slice (some ⟨g, off + p * 3, none⟩) (n - p) (n - p)] 26)).drew
      have X5 : Hid (Bx ((w3.alloc (.cells #[.int .i64 key, .int .i64 til, .int .i64 val] 30)).alloc (.cells #[.slice (some ⟨g, off, none⟩) p n, .slice (some ⟨w3.heap.size, 0, none⟩) 1 1, .slice (some ⟨g, off + p * 3, none⟩) (n - p) (n - p)] 26)).drew w.heap.size ⟨key, til, val⟩) := hide ((unhide X3).below (((Below.refl w3.heap.size w3).alloc (Nat.le_refl _) (.cells #[.int .i64 key, .int .i64 til, .int .i64 val] 30)).alloc ((Below.refl w3.heap.size w3).alloc (Nat.le_refl _) (.cells #[.int .i64 key, .int .i64 til, .int .i64 val] 30)).size (.cells #[.slice (some ⟨g, off, none⟩) p n, .slice (some ⟨w3.heap.size, 0, none⟩) 1 1, .slice (some ⟨g, off + p * 3, none⟩) (n - p) (n - p)] 26)).drew)
      have X4 : Hid (Bx (w3.alloc (.cells #[.int .i64 key, .int .i64 til, .int .i64 val] 30)).drew w.heap.size ⟨key, til, val⟩) := hide ((unhide X3).below (unhide HB4))
      go_wp2_with fail
      refine wp_region_noPanic ?_
      refine wp_region_held_drew (S := fun w' => Bx w' w.heap.size ⟨key, til, val⟩ ∧ w'.cell? ⟨w.heap.size, 0, none⟩ = some (.int .i64 key) ∧ w'.cell? ⟨w.heap.size, 1, none⟩ = some (.int .i64 til) ∧ w'.cell? ⟨w.heap.size, 2, none⟩ = some (.int .i64 val)) (by kernel_rfl) (sBox (unhide X3).drew) (fun hHeld => ?_)
      (refine Rg.tk (i := 0) (d := 40) (v := ?_) rfl rfl (by kernel_rfl) (by kernel_rfl) (by kernel_rfl) (fun _ _ _ h => h) (by rfl) ?_ (by assumption) ?_; rotate_left; (focus (intro w0 hSw; (try dsimp only at hSw); go_simp; (try with_reducible rfl))); (try simp only [Act.put, List.setIfInBounds_toArray, List.set_cons_zero, List.set_cons_succ]))
      (refine Rg.tk (i := 1) (d := 41) (v := ?_) rfl rfl (by kernel_rfl) (by kernel_rfl) (by kernel_rfl) (fun _ _ _ h => h) (by rfl) ?_ (by assumption) ?_; rotate_left; (focus (intro w0 hSw; (try dsimp only at hSw); go_simp; (try with_reducible rfl))); (try simp only [Act.put, List.setIfInBounds_toArray, List.set_cons_zero, List.set_cons_succ]))
      (refine Rg.tk (i := 2) (d := 42) (v := ?_) rfl rfl (by kernel_rfl) (by kernel_rfl) (by kernel_rfl) (fun _ _ _ h => h) (by rfl) ?_ (by assumption) ?_; rotate_left; (focus (intro w0 hSw; (try dsimp only at hSw); go_simp; (try with_reducible rfl))); (try simp only [Act.put, List.setIfInBounds_toArray, List.set_cons_zero, List.set_cons_succ]))
      (refine Rg.tk (i := 3) (d := 43) (v := ?_) rfl rfl (by kernel_rfl) (by kernel_rfl) (by kernel_rfl) (fun _ _ _ h => h) (by rfl) ?_ (by assumption) ?_; rotate_left; (focus (intro w0 hSw; (try dsimp only at hSw); go_simp; (try with_reducible rfl))); (try simp only [Act.put, List.setIfInBounds_toArray, List.set_cons_zero, List.set_cons_succ]))
      (refine Rg.tk (i := 5) (d := 45) (v := ?_) rfl rfl (by kernel_rfl) (by kernel_rfl) (by kernel_rfl) (fun _ _ _ h => h) (by rfl) ?_ (by assumption) ?_; rotate_left; (focus (intro w0 hSw; (try dsimp only at hSw); go_simp; (try with_reducible rfl))); (try simp only [Act.put, List.setIfInBounds_toArray, List.set_cons_zero, List.set_cons_succ]))
      (refine wpAnyH_ready (rs := [4]) (by kernel_rfl) (by simp) ?_; refine AllReadyH.cons (o := _) rfl (fun K hK => ?_) AllReadyH.nil; go_simp)
      refine hK.out _ _ (sBox (unhide X4)) (fun hHeld => ?_)
      clear hK K
      (try simp only [Act.put, List.setIfInBounds_toArray, List.set_cons_zero, List.set_cons_succ])
      (refine wpAnyH_ready (rs := [6]) (by kernel_rfl) (by simp) ?_; refine AllReadyH.cons (o := _) rfl (fun K hK => ?_) AllReadyH.nil; go_simp)
      refine hK.out _ _ (sBox (unhide X5)) (fun hHeld => ?_)
      clear hK K
      (try simp only [Act.put, List.setIfInBounds_toArray, List.set_cons_zero, List.set_cons_succ])
      (refine wpAnyH_ready (rs := [7]) (by kernel_rfl) (by simp) ?_; refine AllReadyH.cons (o := _) rfl (fun K hK => ?_) AllReadyH.nil; go_simp)
      refine (concat (w3.heap.size + 1) 3 _ _ rfl (by omega) (unhide HSG) (unhide HCL)).mono ?_
      rintro e w6 ⟨v, rfl, b6, l6⟩
      rw [unhide HEQ] at l6
      have hb6 := hide ((unhide HBX).trans (b6.mono (unhide HBX).size))
      have HL := hide (l6.mono (unhide HBX).size (Nat.le_refl _))
      have X6 := hide ((unhide X5).below b6)
      clear b6 l6
      refine hK.out _ _ (sBox (unhide X6)) (fun hHeld => ?_)
      clear hK K
      (try simp only [Act.put, List.setIfInBounds_toArray, List.set_cons_zero, List.set_cons_succ])
      (refine Rg.tk (i := 8) (d := 4) (v := ?_) rfl rfl (by kernel_rfl) (by kernel_rfl) (by kernel_rfl) (fun _ _ _ h => h) (by rfl) ?_ (by assumption) ?_; rotate_left; (focus (intro w0 hSw; (try dsimp only at hSw); go_simp; (try with_reducible rfl))); (try simp only [Act.put, List.setIfInBounds_toArray, List.set_cons_zero, List.set_cons_succ]))
      (refine Rg.tk (i := 9) (d := 5) (v := ?_) rfl rfl (by kernel_rfl) (by kernel_rfl) (by kernel_rfl) (fun _ _ _ h => h) (by rfl) ?_ (by assumption) ?_; rotate_left; (focus (intro w0 hSw; (try dsimp only at hSw); go_simp; (try with_reducible rfl))); (try simp only [Act.put, List.setIfInBounds_toArray, List.set_cons_zero, List.set_cons_succ]))
      refine wpAnyH_done (by kernel_rfl) (NoPanic.normal ?_) _
      clear hHeld
      go_wp2_with fail
      go_ret2
      rw [unhide HE2]
      exact ⟨_, rfl, unhide hb6, unhide HL⟩
  have HT := hide ht
  have hpl : p < n := by
    have h := ht
    unfold thereB at h; rw [unhide HP, Bool.and_eq_true] at h
    have := of_decide_eq_true h.1
    rw [unhide HN] at this; exact this
  have HE1 : Hid (L = ms.take p ++ [⟨key, til, val⟩] ++ ms.drop (p + 1)) := hide (by rw [← unhide HLL]; unfold putL; rw [if_pos ht, unhide HP])
  have HE2 : Hid (C = 0) := hide (by rw [← unhide HCC]; unfold putC; rw [if_pos ht])
  clear ht
  have hpn : ¬ n = p := by omega
  have hq1 : (1 : Int) ≤ ((n - p : Nat) : Int) := by omega
  have hq2 : (1 : Nat) ≤ n - p := by omega
  by_cases hl1 : n - p = 1
  · have ld1 : Hid ((ms.drop (p + 1)).length = 0) := hide (by rw [List.length_drop, unhide HN]; omega)
    have HB4 : Hid (Below w3.heap.size w3 (w3.alloc (.cells #[.int .i64 key, .int .i64 til, .int .i64 val] 30)).drew) := hide (((Below.refl _ _).alloc (Nat.le_refl _) _).drew)
    have HSG : Hid (Segs ((w3.alloc (.cells #[.int .i64 key, .int .i64 til, .int .i64 val] 30)).alloc (.cells #[.slice (some ⟨g, off, none⟩) p n, .slice (some ⟨w3.heap.size, 0, none⟩) 1 1, .slice (some ⟨g, off + p * 3, none⟩) (0) (0)] 26)).drew (w3.heap.size + 1) [⟨g, off, n, ms.take p⟩, ⟨w3.heap.size, 0, 1, [⟨key, til, val⟩]⟩, ⟨g, off + p * 3, 0, ms.drop (p + 1)⟩]) := hide (by
      have RX := rm_new w3 ⟨key, til, val⟩
      have hA : Below w3.heap.size w3 (w3.alloc (.cells #[.int .i64 key, .int .i64 til, .int .i64 val] 30)) := (Below.refl _ _).alloc (Nat.le_refl _) _
      have := segs3 (w := w3.alloc (.cells #[.int .i64 key, .int .i64 til, .int .i64 val] 30)) (c1 := n) (c2 := 1) (c3 := 0) (o3 := off + p * 3) (g3 := g) ((unhide H1).below hA) RX (m3 := ms.drop (p + 1)) (RM.below (.inl (List.drop_eq_nil_of_le (by rw [unhide HN]; omega))) hA)
      rw [unhide lt1, unhide ld1, World.size_alloc] at this
      exact fun i hi => this i hi)
    have HCL : Hid ((cat [⟨g, off, n, ms.take p⟩, ⟨w3.heap.size, 0, 1, [⟨key, til, val⟩]⟩, ⟨g, off + p * 3, 0, ms.drop (p + 1)⟩]).length ≤ 4096) := hide (by simp only [cat, List.flatMap_cons, List.flatMap_nil, List.length_append, List.length_nil, List.length_cons, unhide lt1, unhide ld1]; omega)
    have HEQ : Hid (cat [⟨g, off, n, ms.take p⟩, ⟨w3.heap.size, 0, 1, [⟨key, til, val⟩]⟩, ⟨g, off + p * 3, 0, ms.drop (p + 1)⟩] = L) := hide (by rw [unhide HE1]; simp [cat])
    have HBX := hide (((unhide hb3).alloc (unhide hb3).size (.cells #[.int .i64 key, .int .i64 til, .int .i64 val] 30)).alloc ((unhide hb3).alloc (unhide hb3).size (.cells #[.int .i64 key, .int .i64 til, .int .i64 val] 30)).size (.cells #[.slice (some ⟨g, off, none⟩) p n, .slice (some ⟨w3.heap.size, 0, none⟩) 1 1, .slice (some ⟨g, off + p * 3, none⟩) (0) (0)] 26)).drew
    have X5 : Hid (Bx ((w3.alloc (.cells #[.int .i64 key, .int .i64 til, .int .i64 val] 30)).alloc (.cells #[.slice (some ⟨g, off, none⟩) p n, .slice (some ⟨w3.heap.size, 0, none⟩) 1 1, .slice (some ⟨g, off + p * 3, none⟩) (0) (0)] 26)).drew w.heap.size ⟨key, til, val⟩) := hide ((unhide X3).below (((Below.refl w3.heap.size w3).alloc (Nat.le_refl _) (.cells #[.int .i64 key, .int .i64 til, .int .i64 val] 30)).alloc ((Below.refl w3.heap.size w3).alloc (Nat.le_refl _) (.cells #[.int .i64 key, .int .i64 til, .int .i64 val] 30)).size (.cells #[.slice (some ⟨g, off, none⟩) p n, .slice (some ⟨w3.heap.size, 0, none⟩) 1 1, .slice (some ⟨g, off + p * 3, none⟩) (0) (0)] 26)).drew)
    have X4 : Hid (Bx (w3.alloc (.cells #[.int .i64 key, .int .i64 til, .int .i64 val] 30)).drew w.heap.size ⟨key, til, val⟩) := hide ((unhide X3).below (unhide HB4))
    go_wp2_with fail
    refine wp_region_noPanic ?_
    refine wp_region_held_drew (S := fun w' => Bx w' w.heap.size ⟨key, til, val⟩ ∧ w'.cell? ⟨w.heap.size, 0, none⟩ = some (.int .i64 key) ∧ w'.cell? ⟨w.heap.size, 1, none⟩ = some (.int .i64 til) ∧ w'.cell? ⟨w.heap.size, 2, none⟩ = some (.int .i64 val)) (by kernel_rfl) (sBox (unhide X3).drew) (fun hHeld => ?_)
    (refine Rg.tk (i := 0) (d := 40) (v := ?_) rfl rfl (by kernel_rfl) (by kernel_rfl) (by kernel_rfl) (fun _ _ _ h => h) (by rfl) ?_ (by assumption) ?_; rotate_left; (focus (intro w0 hSw; (try dsimp only at hSw); go_simp; (try with_reducible rfl))); (try simp only [Act.put, List.setIfInBounds_toArray, List.set_cons_zero, List.set_cons_succ]))
    (refine Rg.tk (i := 1) (d := 41) (v := ?_) rfl rfl (by kernel_rfl) (by kernel_rfl) (by kernel_rfl) (fun _ _ _ h => h) (by rfl) ?_ (by assumption) ?_; rotate_left; (focus (intro w0 hSw; (try dsimp only at hSw); go_simp; (try with_reducible rfl))); (try simp only [Act.put, List.setIfInBounds_toArray, List.set_cons_zero, List.set_cons_succ]))
    (refine Rg.tk (i := 2) (d := 42) (v := ?_) rfl rfl (by kernel_rfl) (by kernel_rfl) (by kernel_rfl) (fun _ _ _ h => h) (by rfl) ?_ (by assumption) ?_; rotate_left; (focus (intro w0 hSw; (try dsimp only at hSw); go_simp; (try with_reducible rfl))); (try simp only [Act.put, List.setIfInBounds_toArray, List.set_cons_zero, List.set_cons_succ]))
    (refine Rg.tk (i := 3) (d := 43) (v := ?_) rfl rfl (by kernel_rfl) (by kernel_rfl) (by kernel_rfl) (fun _ _ _ h => h) (by rfl) ?_ (by assumption) ?_; rotate_left; (focus (intro w0 hSw; (try dsimp only at hSw); go_simp; (try with_reducible rfl))); (try simp only [Act.put, List.setIfInBounds_toArray, List.set_cons_zero, List.set_cons_succ]))
    (refine Rg.tk (i := 5) (d := 45) (v := ?_) rfl rfl (by kernel_rfl) (by kernel_rfl) (by kernel_rfl) (fun _ _ _ h => h) (by rfl) ?_ (by assumption) ?_; rotate_left; (focus (intro w0 hSw; (try dsimp only at hSw); go_simp; (try with_reducible rfl))); (try simp only [Act.put, List.setIfInBounds_toArray, List.set_cons_zero, List.set_cons_succ]))
    (refine wpAnyH_ready (rs := [4]) (by kernel_rfl) (by simp) ?_; refine AllReadyH.cons (o := _) rfl (fun K hK => ?_) AllReadyH.nil; go_simp)
    refine hK.out _ _ (sBox (unhide X4)) (fun hHeld => ?_)
    clear hK K
    (try simp only [Act.put, List.setIfInBounds_toArray, List.set_cons_zero, List.set_cons_succ])
    (refine wpAnyH_ready (rs := [6]) (by kernel_rfl) (by simp) ?_; refine AllReadyH.cons (o := _) rfl (fun K hK => ?_) AllReadyH.nil; go_simp)
    refine hK.out _ _ (sBox (unhide X5)) (fun hHeld => ?_)
    clear hK K
    (try simp only [Act.put, List.setIfInBounds_toArray, List.set_cons_zero, List.set_cons_succ])
    (refine wpAnyH_ready (rs := [7]) (by kernel_rfl) (by simp) ?_; refine AllReadyH.cons (o := _) rfl (fun K hK => ?_) AllReadyH.nil; go_simp)
    refine (concat (w3.heap.size + 1) 3 _ _ rfl (by omega) (unhide HSG) (unhide HCL)).mono ?_
    rintro e w6 ⟨v, rfl, b6, l6⟩
    rw [unhide HEQ] at l6
    have hb6 := hide ((unhide HBX).trans (b6.mono (unhide HBX).size))
    have HL := hide (l6.mono (unhide HBX).size (Nat.le_refl _))
    have X6 := hide ((unhide X5).below b6)
    clear b6 l6
    refine hK.out _ _ (sBox (unhide X6)) (fun hHeld => ?_)
    clear hK K
    (try simp only [Act.put, List.setIfInBounds_toArray, List.set_cons_zero, List.set_cons_succ])
    (refine Rg.tk (i := 8) (d := 4) (v := ?_) rfl rfl (by kernel_rfl) (by kernel_rfl) (by kernel_rfl) (fun _ _ _ h => h) (by rfl) ?_ (by assumption) ?_; rotate_left; (focus (intro w0 hSw; (try dsimp only at hSw); go_simp; (try with_reducible rfl))); (try simp only [Act.put, List.setIfInBounds_toArray, List.set_cons_zero, List.set_cons_succ]))
    (refine Rg.tk (i := 9) (d := 5) (v := ?_) rfl rfl (by kernel_rfl) (by kernel_rfl) (by kernel_rfl) (fun _ _ _ h => h) (by rfl) ?_ (by assumption) ?_; rotate_left; (focus (intro w0 hSw; (try dsimp only at hSw); go_simp; (try with_reducible rfl))); (try simp only [Act.put, List.setIfInBounds_toArray, List.set_cons_zero, List.set_cons_succ]))
    refine wpAnyH_done (by kernel_rfl) (NoPanic.normal ?_) _
    clear hHeld
    go_wp2_with fail
    go_ret2
    rw [unhide HE2]
    exact ⟨_, rfl, unhide hb6, unhide HL⟩
  · have ld1 : Hid ((ms.drop (p + 1)).length = n - p - 1) := hide (by rw [List.length_drop, unhide HN]; omega)
    have HB4 : Hid (Below w3.heap.size w3 (w3.alloc (.cells #[.int .i64 key, .int .i64 til, .int .i64 val] 30)).drew) := hide (((Below.refl _ _).alloc (Nat.le_refl _) _).drew)
    have HSG : Hid (Segs ((w3.alloc (.cells #[.int .i64 key, .int .i64 til, .int .i64 val] 30)).alloc (.cells #[.slice (some ⟨g, off, none⟩) p n, .slice (some ⟨w3.heap.size, 0, none⟩) 1 1, .slice (some ⟨g, off + p * 3 + 3, none⟩) (n - p - 1) (n - p - 1)] 26)).drew (w3.heap.size + 1) [⟨g, off, n, ms.take p⟩, ⟨w3.heap.size, 0, 1, [⟨key, til, val⟩]⟩, ⟨g, off + p * 3 + 3, n - p - 1, ms.drop (p + 1)⟩]) := hide (by
      have RX := rm_new w3 ⟨key, til, val⟩
      have hA : Below w3.heap.size w3 (w3.alloc (.cells #[.int .i64 key, .int .i64 til, .int .i64 val] 30)) := (Below.refl _ _).alloc (Nat.le_refl _) _
      have := segs3 (w := w3.alloc (.cells #[.int .i64 key, .int .i64 til, .int .i64 val] 30)) (c1 := n) (c2 := 1) (c3 := n - p - 1) (o3 := off + p * 3 + 3) (g3 := g) ((unhide H1).below hA) RX (m3 := ms.drop (p + 1)) (RM.below ((by have h := drop_off (unhide R3) (p + 1); rw [show off + (p + 1) * 3 = off + p * 3 + 3 by omega] at h; exact h)) hA)
      rw [unhide lt1, unhide ld1, World.size_alloc] at this
      exact fun i hi => this i hi)
    have HCL : Hid ((cat [⟨g, off, n, ms.take p⟩, ⟨w3.heap.size, 0, 1, [⟨key, til, val⟩]⟩, ⟨g, off + p * 3 + 3, n - p - 1, ms.drop (p + 1)⟩]).length ≤ 4096) := hide (by simp only [cat, List.flatMap_cons, List.flatMap_nil, List.length_append, List.length_nil, List.length_cons, unhide lt1, unhide ld1]; omega)
    have HEQ : Hid (cat [⟨g, off, n, ms.take p⟩, ⟨w3.heap.size, 0, 1, [⟨key, til, val⟩]⟩, ⟨g, off + p * 3 + 3, n - p - 1, ms.drop (p + 1)⟩] = L) := hide (by rw [unhide HE1]; simp [cat])
    have HBX := hide (((unhide hb3).alloc (unhide hb3).size (.cells #[.int .i64 key, .int .i64 til, .int .i64 val] 30)).alloc ((unhide hb3).alloc (unhide hb3).size (.cells #[.int .i64 key, .int .i64 til, .int .i64 val] 30)).size (.cells #[.slice (some ⟨g, off, none⟩) p n, .slice (some ⟨w3.heap.size, 0, none⟩) 1 1, .slice (some ⟨g, off + p * 3 + 3, none⟩) (n - p - 1) (n - p - 1)] 26)).drew
    have X5 : Hid (Bx ((w3.alloc (.cells #[.int .i64 key, .int .i64 til, .int .i64 val] 30)).alloc (.cells #[.slice (some ⟨g, off, none⟩) p n, .slice (some ⟨w3.heap.size, 0, none⟩) 1 1, .slice (some ⟨g, off + p * 3 + 3, none⟩) (n - p - 1) (n - p - 1)] 26)).drew w.heap.size ⟨key, til, val⟩) := hide ((unhide X3).below (((Below.refl w3.heap.size w3).alloc (Nat.le_refl _) (.cells #[.int .i64 key, .int .i64 til, .int .i64 val] 30)).alloc ((Below.refl w3.heap.size w3).alloc (Nat.le_refl _) (.cells #[.int .i64 key, .int .i64 til, .int .i64 val] 30)).size (.cells #[.slice (some ⟨g, off, none⟩) p n, .slice (some ⟨w3.heap.size, 0, none⟩) 1 1, .slice (some ⟨g, off + p * 3 + 3, none⟩) (n - p - 1) (n - p - 1)] 26)).drew)
    have X4 : Hid (Bx (w3.alloc (.cells #[.int .i64 key, .int .i64 til, .int .i64 val] 30)).drew w.heap.size ⟨key, til, val⟩) := hide ((unhide X3).below (unhide HB4))
    go_wp2_with fail
    refine wp_region_noPanic ?_
    refine wp_region_held_drew (S := fun w' => Bx w' w.heap.size ⟨key, til, val⟩ ∧ w'.cell? ⟨w.heap.size, 0, none⟩ = some (.int .i64 key) ∧ w'.cell? ⟨w.heap.size, 1, none⟩ = some (.int .i64 til) ∧ w'.cell? ⟨w.heap.size, 2, none⟩ = some (.int .i64 val)) (by kernel_rfl) (sBox (unhide X3).drew) (fun hHeld => ?_)
    (refine Rg.tk (i := 0) (d := 40) (v := ?_) rfl rfl (by kernel_rfl) (by kernel_rfl) (by kernel_rfl) (fun _ _ _ h => h) (by rfl) ?_ (by assumption) ?_; rotate_left; (focus (intro w0 hSw; (try dsimp only at hSw); go_simp; (try with_reducible rfl))); (try simp only [Act.put, List.setIfInBounds_toArray, List.set_cons_zero, List.set_cons_succ]))
    (refine Rg.tk (i := 1) (d := 41) (v := ?_) rfl rfl (by kernel_rfl) (by kernel_rfl) (by kernel_rfl) (fun _ _ _ h => h) (by rfl) ?_ (by assumption) ?_; rotate_left; (focus (intro w0 hSw; (try dsimp only at hSw); go_simp; (try with_reducible rfl))); (try simp only [Act.put, List.setIfInBounds_toArray, List.set_cons_zero, List.set_cons_succ]))
    (refine Rg.tk (i := 2) (d := 42) (v := ?_) rfl rfl (by kernel_rfl) (by kernel_rfl) (by kernel_rfl) (fun _ _ _ h => h) (by rfl) ?_ (by assumption) ?_; rotate_left; (focus (intro w0 hSw; (try dsimp only at hSw); go_simp; (try with_reducible rfl))); (try simp only [Act.put, List.setIfInBounds_toArray, List.set_cons_zero, List.set_cons_succ]))
    (refine Rg.tk (i := 3) (d := 43) (v := ?_) rfl rfl (by kernel_rfl) (by kernel_rfl) (by kernel_rfl) (fun _ _ _ h => h) (by rfl) ?_ (by assumption) ?_; rotate_left; (focus (intro w0 hSw; (try dsimp only at hSw); go_simp; (try with_reducible rfl))); (try simp only [Act.put, List.setIfInBounds_toArray, List.set_cons_zero, List.set_cons_succ]))
    (refine Rg.tk (i := 5) (d := 45) (v := ?_) rfl rfl (by kernel_rfl) (by kernel_rfl) (by kernel_rfl) (fun _ _ _ h => h) (by rfl) ?_ (by assumption) ?_; rotate_left; (focus (intro w0 hSw; (try dsimp only at hSw); go_simp; (try with_reducible rfl))); (try simp only [Act.put, List.setIfInBounds_toArray, List.set_cons_zero, List.set_cons_succ]))
    (refine wpAnyH_ready (rs := [4]) (by kernel_rfl) (by simp) ?_; refine AllReadyH.cons (o := _) rfl (fun K hK => ?_) AllReadyH.nil; go_simp)
    refine hK.out _ _ (sBox (unhide X4)) (fun hHeld => ?_)
    clear hK K
    (try simp only [Act.put, List.setIfInBounds_toArray, List.set_cons_zero, List.set_cons_succ])
    (refine wpAnyH_ready (rs := [6]) (by kernel_rfl) (by simp) ?_; refine AllReadyH.cons (o := _) rfl (fun K hK => ?_) AllReadyH.nil; go_simp)
    refine hK.out _ _ (sBox (unhide X5)) (fun hHeld => ?_)
    clear hK K
    (try simp only [Act.put, List.setIfInBounds_toArray, List.set_cons_zero, List.set_cons_succ])
    (refine wpAnyH_ready (rs := [7]) (by kernel_rfl) (by simp) ?_; refine AllReadyH.cons (o := _) rfl (fun K hK => ?_) AllReadyH.nil; go_simp)
    refine (concat (w3.heap.size + 1) 3 _ _ rfl (by omega) (unhide HSG) (unhide HCL)).mono ?_
    rintro e w6 ⟨v, rfl, b6, l6⟩
    rw [unhide HEQ] at l6
    have hb6 := hide ((unhide HBX).trans (b6.mono (unhide HBX).size))
    have HL := hide (l6.mono (unhide HBX).size (Nat.le_refl _))
    have X6 := hide ((unhide X5).below b6)
    clear b6 l6
    refine hK.out _ _ (sBox (unhide X6)) (fun hHeld => ?_)
    clear hK K
    (try simp only [Act.put, List.setIfInBounds_toArray, List.set_cons_zero, List.set_cons_succ])
    (refine Rg.tk (i := 8) (d := 4) (v := ?_) rfl rfl (by kernel_rfl) (by kernel_rfl) (by kernel_rfl) (fun _ _ _ h => h) (by rfl) ?_ (by assumption) ?_; rotate_left; (focus (intro w0 hSw; (try dsimp only at hSw); go_simp; (try with_reducible rfl))); (try simp only [Act.put, List.setIfInBounds_toArray, List.set_cons_zero, List.set_cons_succ]))
    (refine Rg.tk (i := 9) (d := 5) (v := ?_) rfl rfl (by kernel_rfl) (by kernel_rfl) (by kernel_rfl) (fun _ _ _ h => h) (by rfl) ?_ (by assumption) ?_; rotate_left; (focus (intro w0 hSw; (try dsimp only at hSw); go_simp; (try with_reducible rfl))); (try simp only [Act.put, List.setIfInBounds_toArray, List.set_cons_zero, List.set_cons_succ]))
    refine wpAnyH_done (by kernel_rfl) (NoPanic.normal ?_) _
    clear hHeld
    go_wp2_with fail
    go_ret2
    rw [unhide HE2]
    exact ⟨_, rfl, unhide hb6, unhide HL⟩
end St
end Go.Proofs.Ytmelbilepfnmjaj
