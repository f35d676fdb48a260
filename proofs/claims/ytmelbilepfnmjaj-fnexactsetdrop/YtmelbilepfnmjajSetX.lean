/-
  Contracts: SetDrop, both.
-/
import Derived.Test.YtmelbilepfnmjajSetG
import Derived.Test.YtmelbilepfnmjajSetK
namespace Go.Proofs.Ytmelbilepfnmjaj
open Go.ChangeShapes Go.WideShapes Go.ChangeAt Go.RowKit
set_option linter.unusedVariables false
set_option linter.unusedSimpArgs false
attribute [local go_sem ↓] Go.wp_at_zero Go.wp_at_succ
namespace St
open W1 Tu
theorem take_zero_off {w : World} {g off : Nat} {ms : List R} (h : RM w (some ⟨g, off, none⟩) ms) (n : Nat) : RM w (some ⟨g, off, none⟩) (ms.take n) := by
  have := h.part 0 n
  rw [List.drop_zero, Nat.zero_mul, Nat.add_zero] at this; exact this
theorem drop_off {w : World} {g off : Nat} {ms : List R} (h : RM w (some ⟨g, off, none⟩) ms) (i : Nat) : RM w (some ⟨g, off + i * 3, none⟩) (ms.drop i) := by
  have := h.part i ms.length
  rw [List.take_of_length_le (by simp)] at this; exact this
theorem segs2 {w : World} {g1 o1 c1 g2 o2 c2 : Nat} {m1 m2 : List R} (h1 : RM w (some ⟨g1, o1, none⟩) m1) (h2 : RM w (some ⟨g2, o2, none⟩) m2) :
    Segs (w.alloc (.cells #[.slice (some ⟨g1, o1, none⟩) m1.length c1, .slice (some ⟨g2, o2, none⟩) m2.length c2] 26)) w.heap.size [⟨g1, o1, c1, m1⟩, ⟨g2, o2, c2, m2⟩] := by
  intro i hi
  have hb : Below w.heap.size w (w.alloc (.cells #[.slice (some ⟨g1, o1, none⟩) m1.length c1, .slice (some ⟨g2, o2, none⟩) m2.length c2] 26)) := (Below.refl _ _).alloc (Nat.le_refl _) _
  match i, hi with
  | 0, _ => exact ⟨by simp [World.cell?_alloc_new], h1.below hb⟩
  | 1, _ => exact ⟨by simp [World.cell?_alloc_new], h2.below hb⟩
set_option maxRecDepth 100000 in
set_option maxHeartbeats 4000000 in
theorem implDrop (g off : Nat) (ms : List R) (cap : Nat) (k : Int) (w : World) (hcap : cap = ms.length) (hm : ms.length ≤ 1048576) (hr : RM w (some ⟨g, off, none⟩) ms) :
    Calls Try.prog 18 #[.slice (some ⟨g, off, none⟩) ms.length cap, .int .i64 k] w fun e w' => ∃ v, e = .returned (.tuple #[v, .int .i64 (dropE ms k)]) ∧ Below w.heap.size w w' ∧ LstV w' v (dropA ms k) w.heap.size w'.heap.size := by
  subst hcap
  have HR := hide hr
  clear hr
  by_cases hc : codeS ms = 0
  rotate_left
  · have h1 : dropA ms k = [] := by unfold dropA; rw [if_neg hc]
    have h2 : dropE ms k = codeS ms := by unfold dropE; rw [if_neg hc]
    rw [h1, h2]
    have hcb : (codeS ms == 0) = false := by simpa using hc
    clear h1 h2
    go_enter Try.func18, Try.ntmps18
    go_wp2_with fail
    refine (setCode _ ms _ _ hm (unhide HR)).mono ?_
    rintro e w1 ⟨rfl, b1⟩
    have hb1 := hide b1
    clear b1
    go_wp2_with fail
    go_ret2
    exact ⟨_, rfl, unhide hb1, lstV_nil _ _ _ _ _⟩
  have HC := hide hc
  have HS := hide (code_set hc)
  have h64 := setB_len (code_set hc)
  cases ht : thereB ms k
  · have h1 : dropA ms k = ms := by unfold dropA dropL; rw [if_pos hc, if_neg (by simp [ht])]
    have h2 : dropE ms k = 5 := by unfold dropE dropC; rw [if_pos hc, if_neg (by simp [ht])]
    rw [h1, h2]
    have HT := hide ht
    clear h1 h2 ht hc
    go_enter Try.func18, Try.ntmps18
    go_wp2_with fail
    refine (setCode _ ms _ _ hm (unhide HR)).mono ?_
    rintro e w1 ⟨rfl, b1⟩
    rw [unhide HC]
    have hb1 := hide b1
    clear b1
    go_wp2_with fail
    refine (keyPlace g off ms _ k _ ((unhide HR).below (unhide hb1)) (unhide HS)).mono ?_
    rintro e w2 ⟨rfl, b2⟩
    rw [unhide HT]
    have hb2 := hide ((unhide hb1).trans (b2.mono (unhide hb1).size))
    clear b2
    go_wp2_with fail
    refine (copied g off ms _ _ _ rfl (by omega) ((unhide HR).below (unhide hb2))).mono ?_
    rintro e w3 ⟨v, rfl, b3, l3⟩
    have hb3 := hide ((unhide hb2).trans (b3.mono (unhide hb2).size))
    have HL := hide (l3.mono (unhide hb2).size (Nat.le_refl _))
    clear b3 l3
    go_wp2_with fail
    go_ret2
    exact ⟨_, rfl, unhide hb3, unhide HL⟩
  have h1 : dropA ms k = ms.take (place ms k) ++ ms.drop (place ms k + 1) := by unfold dropA dropL; rw [if_pos hc, if_pos ht]
  have h2 : dropE ms k = 0 := by unfold dropE dropC; rw [if_pos hc, if_pos ht]
  rw [h1, h2]
  have HT := hide ht
  have hpl : place ms k < ms.length := by unfold thereB at ht; simp at ht; exact ht.1
  obtain ⟨p, hp⟩ : ∃ p, place ms k = p := ⟨_, rfl⟩
  have HP := hide hp
  rw [hp] at hpl ⊢
  clear h1 h2 ht hc hp
  obtain ⟨n, hn⟩ : ∃ n, ms.length = n := ⟨_, rfl⟩
  have HN := hide hn
  obtain ⟨q, hq⟩ : ∃ q, q = p + 1 := ⟨_, rfl⟩
  have HQ := hide hq
  have e1 : (p : Int) + 1 = (q : Int) := by omega
  have wq : IntKind.i64.wrap (q : Int) = (q : Int) := by rw [IntKind.wrap_i64]; omega
  have p0 : (0 : Int) ≤ (p : Int) := by omega
  have p1 : (p : Int) ≤ (n : Int) := by omega
  have q0 : (0 : Int) ≤ (q : Int) := by omega
  have q1 : (q : Int) ≤ (n : Int) := by omega
  have hpn : p ≤ n := by omega
  have hqn : q ≤ n := by omega
  have n4 : n ≤ 64 := by omega
  have lt1 : Hid ((ms.take p).length = p) := hide (by rw [List.length_take]; omega)
  have ld1 : Hid ((ms.drop q).length = n - q) := hide (by rw [List.length_drop, hn])
  have HCL : Hid ((cat [⟨g, off, n, ms.take p⟩, ⟨g, if q = n then off else off + q * 3, n - q, ms.drop q⟩]).length ≤ 4096) := hide (by simp only [cat, List.flatMap_cons, List.flatMap_nil, List.length_append, List.length_nil, List.length_take, List.length_drop]; omega)
  have HEQ : Hid (cat [⟨g, off, n, ms.take p⟩, ⟨g, if q = n then off else off + q * 3, n - q, ms.drop q⟩] = ms.take p ++ ms.drop (p + 1)) := hide (by rw [← hq]; simp [cat])
  have HSG : Hid (∀ W, RM W (some ⟨g, off, none⟩) ms → Segs (W.alloc (.cells #[.slice (some ⟨g, off, none⟩) p n, .slice (some ⟨g, if q = n then off else off + q * 3, none⟩) (n - q) (n - q)] 26)).drew W.heap.size [⟨g, off, n, ms.take p⟩, ⟨g, if q = n then off else off + q * 3, n - q, ms.drop q⟩]) := hide (fun W h => by
    have := segs2 (c1 := n) (c2 := n - q) (o2 := if q = n then off else off + q * 3) (take_zero_off h p) (m2 := ms.drop q) (by
      split
      · exact .inl (List.drop_eq_nil_of_le (by omega))
      · exact drop_off h q)
    rw [unhide lt1, unhide ld1] at this
    exact fun i hi => this i hi)
  have wn : IntKind.i64.wrap (n : Int) = (n : Int) := by rw [IntKind.wrap_i64]; omega
  by_cases hqe : n = q
  all_goals
    first | rw [if_pos hqe.symm] at HSG HCL HEQ | rw [if_neg (fun e => hqe e.symm)] at HSG HCL HEQ
    first | (subst hqe; simp only [Nat.sub_self] at HSG HCL HEQ) | skip
    go_enter Try.func18, Try.ntmps18
    rw [hn]
    clear hq hn
    go_wp2_with fail
    refine (by have := setCode (some ⟨g, off, none⟩) ms n w hm (unhide HR); rw [unhide HN] at this; exact this : Calls Try.prog 34 #[.slice (some ⟨g, off, none⟩) n n] w _).mono ?_
    rintro e w1 ⟨rfl, b1⟩
    rw [unhide HC]
    have hb1 := hide b1
    clear b1
    go_wp2_with fail
    refine (by have := keyPlace g off ms n k w1 ((unhide HR).below (unhide hb1)) (unhide HS); rw [unhide HN] at this; exact this : Calls Try.prog 36 #[.slice (some ⟨g, off, none⟩) n n, .int .i64 k] w1 _).mono ?_
    rintro e w2 ⟨rfl, b2⟩
    rw [unhide HT, unhide HP]
    have hb2 := hide ((unhide hb1).trans (b2.mono (unhide hb1).size))
    clear b2
    go_wp2_with fail
    refine wp_region_noPanic ?_
    refine wp_region_held_drew (S := fun _ => True) (by kernel_rfl) trivial (fun hHeld => ?_)
    (refine Rg.tk (i := 0) (d := 24) (v := ?_) rfl rfl (by kernel_rfl) (by kernel_rfl) (by kernel_rfl) (fun _ _ _ h => h) (by rfl) ?_ (by assumption) ?_; rotate_left; (focus (intro w0 hSw; (try dsimp only at hSw); go_simp; (try with_reducible rfl))); (try simp only [Act.put, List.setIfInBounds_toArray, List.set_cons_zero, List.set_cons_succ]))
    (refine Rg.tk (i := 1) (d := 25) (v := ?_) rfl rfl (by kernel_rfl) (by kernel_rfl) (by kernel_rfl) (fun _ _ _ h => h) (by rfl) ?_ (by assumption) ?_; rotate_left; (focus (intro w0 hSw; (try dsimp only at hSw); go_simp; (try with_reducible rfl))); (try simp only [Act.put, List.setIfInBounds_toArray, List.set_cons_zero, List.set_cons_succ]))
    (refine Rg.tk (i := 2) (d := 26) (v := ?_) rfl rfl (by kernel_rfl) (by kernel_rfl) (by kernel_rfl) (fun _ _ _ h => h) (by rfl) ?_ (by assumption) ?_; rotate_left; (focus (intro w0 hSw; (try dsimp only at hSw); go_simp; (try with_reducible rfl))); (try simp only [Act.put, List.setIfInBounds_toArray, List.set_cons_zero, List.set_cons_succ]))
    (refine Rg.tk (i := 3) (d := 27) (v := ?_) rfl rfl (by kernel_rfl) (by kernel_rfl) (by kernel_rfl) (fun _ _ _ h => h) (by rfl) ?_ (by assumption) ?_; rotate_left; (focus (intro w0 hSw; (try dsimp only at hSw); go_simp; (try with_reducible rfl))); (try simp only [Act.put, List.setIfInBounds_toArray, List.set_cons_zero, List.set_cons_succ]))
    (refine Rg.tk (i := 4) (d := 28) (v := ?_) rfl rfl (by kernel_rfl) (by kernel_rfl) (by kernel_rfl) (fun _ _ _ h => h) (by rfl) ?_ (by assumption) ?_; rotate_left; (focus (intro w0 hSw; (try dsimp only at hSw); go_simp; (try with_reducible rfl))); (try simp only [Act.put, List.setIfInBounds_toArray, List.set_cons_zero, List.set_cons_succ]))
    (refine Rg.tk (i := 5) (d := 29) (v := ?_) rfl rfl (by kernel_rfl) (by kernel_rfl) (by kernel_rfl) (fun _ _ _ h => h) (by rfl) ?_ (by assumption) ?_; rotate_left; (focus (intro w0 hSw; (try dsimp only at hSw); go_simp; (try with_reducible rfl))); (try simp only [Act.put, List.setIfInBounds_toArray, List.set_cons_zero, List.set_cons_succ]))
    (refine Rg.tk (i := 6) (d := 30) (v := ?_) rfl rfl (by kernel_rfl) (by kernel_rfl) (by kernel_rfl) (fun _ _ _ h => h) (by rfl) ?_ (by assumption) ?_; rotate_left; (focus (intro w0 hSw; (try dsimp only at hSw); go_simp; (try with_reducible rfl))); (try simp only [Act.put, List.setIfInBounds_toArray, List.set_cons_zero, List.set_cons_succ]))
    (refine wpAnyH_ready (rs := [7]) (by kernel_rfl) (by simp) ?_; refine AllReadyH.cons (o := _) rfl (fun K hK => ?_) AllReadyH.nil; go_simp)
    refine hK.out _ _ trivial (fun hHeld => ?_)
    clear hK K
    (try simp only [Act.put, List.setIfInBounds_toArray, List.set_cons_zero, List.set_cons_succ])
    (refine wpAnyH_ready (rs := [8]) (by kernel_rfl) (by simp) ?_; refine AllReadyH.cons (o := _) rfl (fun K hK => ?_) AllReadyH.nil; go_simp)
    refine (concat w2.heap.size 2 _ _ rfl (by omega) (unhide HSG w2 ((unhide HR).below (unhide hb2))) (unhide HCL)).mono ?_
    rintro e w3 ⟨v, rfl, b3, l3⟩
    rw [unhide HEQ] at l3
    have hb3 := hide (((unhide hb2).alloc (unhide hb2).size _).drew.trans (b3.mono ((unhide hb2).alloc (unhide hb2).size _).drew.size))
    have HL := hide (l3.mono ((unhide hb2).alloc (unhide hb2).size _).drew.size (Nat.le_refl _))
    clear b3 l3
    refine hK.out _ _ trivial (fun hHeld => ?_)
    clear hK K
    (try simp only [Act.put, List.setIfInBounds_toArray, List.set_cons_zero, List.set_cons_succ])
    (refine Rg.tk (i := 9) (d := 4) (v := ?_) rfl rfl (by kernel_rfl) (by kernel_rfl) (by kernel_rfl) (fun _ _ _ h => h) (by rfl) ?_ (by assumption) ?_; rotate_left; (focus (intro w0 hSw; (try dsimp only at hSw); go_simp; (try with_reducible rfl))); (try simp only [Act.put, List.setIfInBounds_toArray, List.set_cons_zero, List.set_cons_succ]))
    (refine Rg.tk (i := 10) (d := 5) (v := ?_) rfl rfl (by kernel_rfl) (by kernel_rfl) (by kernel_rfl) (fun _ _ _ h => h) (by rfl) ?_ (by assumption) ?_; rotate_left; (focus (intro w0 hSw; (try dsimp only at hSw); go_simp; (try with_reducible rfl))); (try simp only [Act.put, List.setIfInBounds_toArray, List.set_cons_zero, List.set_cons_succ]))
    refine wpAnyH_done (by kernel_rfl) (NoPanic.normal ?_) _
    go_wp2_with fail
    go_ret2
    exact ⟨_, rfl, unhide hb3, unhide HL⟩
set_option maxRecDepth 100000 in
set_option maxHeartbeats 4000000 in
theorem l03Drop (g off : Nat) (ms : List R) (cap : Nat) (k : Int) (w : World) (hcap : cap = ms.length) (hm : ms.length ≤ 4096) (hr : RM w (some ⟨g, off, none⟩) ms) :
    Calls Try.prog 39 #[.slice (some ⟨g, off, none⟩) ms.length cap, .int .i64 k] w fun e w' => ∃ v, e = .returned (.tuple #[v, .int .i64 (dropC ms k)]) ∧ Below w.heap.size w w' ∧ LstV w' v (dropL ms k) w.heap.size w'.heap.size := by
  subst hcap
  have HR := hide hr
  have hl := placeP_le (atKey k) ms
  clear hr
  obtain ⟨p, hp⟩ : ∃ p, place ms k = p := ⟨_, rfl⟩
  have HP := hide hp
  rw [show placeP (atKey k) ms = p from hp] at hl
  clear hp
  cases ht : thereB ms k
  · have h1 : dropL ms k = ms := by unfold dropL; rw [if_neg (by simp [ht])]
    have h2 : dropC ms k = 5 := by unfold dropC; rw [if_neg (by simp [ht])]
    rw [h1, h2]
    clear h1 h2
    by_cases hlt : (p : Int) < (ms.length : Int)
    · have hA := (unhide HR).at (i := p) (by omega)
      have k0 : (0 : Int) ≤ (p : Int) := by omega
      have hlen : p < ms.length := by omega
      have hne : ((p : Int) == (ms.length : Int)) = false := by simp; omega
      have hne' : ¬ p = ms.length := by omega
      have hk : ¬ (ms.getD p R.zero).key = k := by
        intro e
        have := there_yes (unhide HP) hlen e
        rw [ht] at this; cases this
      generalize ms.getD p R.zero = m at *
      obtain ⟨key, til, val⟩ := m
      obtain ⟨c0, c1, c2⟩ := hA
      dsimp only at c0 c1 c2 hk
      have hkb : (key == k) = false := by simpa using hk
      go_enter Try.func39, Try.ntmps39
      go_wp2_with fail
      refine (l03Place _ ms _ _ _ hm (unhide HR)).mono ?_
      rintro e w1 ⟨rfl, rfl⟩
      rw [unhide HP]
      go_wp2_with fail
      refine (l03Own g off ms _ _ _ rfl hm (unhide HR)).mono ?_
      rintro e w3 ⟨v, rfl, b3, l3⟩
      have hb3 := hide b3
      have HL := hide l3
      clear b3 l3
      go_wp2_with fail
      go_ret2
      exact ⟨_, rfl, unhide hb3, unhide HL⟩
    · obtain rfl : p = ms.length := by omega
      go_enter Try.func39, Try.ntmps39
      go_wp2_with fail
      refine (l03Place _ ms _ _ _ hm (unhide HR)).mono ?_
      rintro e w1 ⟨rfl, rfl⟩
      rw [unhide HP]
      go_wp2_with fail
      refine (l03Own g off ms _ _ _ rfl hm (unhide HR)).mono ?_
      rintro e w3 ⟨v, rfl, b3, l3⟩
      have hb3 := hide b3
      have HL := hide l3
      clear b3 l3
      go_wp2_with fail
      go_ret2
      exact ⟨_, rfl, unhide hb3, unhide HL⟩
  have h1 : dropL ms k = ms.take p ++ ms.drop (p + 1) := by unfold dropL; rw [if_pos ht, unhide HP]
  have h2 : dropC ms k = 0 := by unfold dropC; rw [if_pos ht]
  rw [h1, h2]
  have hpk : p < ms.length ∧ (ms.getD p R.zero).key = k := by
    have h := ht
    unfold thereB at h; rw [unhide HP] at h
    rw [Bool.and_eq_true] at h
    exact ⟨of_decide_eq_true h.1, of_decide_eq_true h.2⟩
  obtain ⟨hpl, hk⟩ := hpk
  have hA := (unhide HR).at hpl
  clear h1 h2 ht
  generalize ms.getD p R.zero = m at *
  obtain ⟨key, til, val⟩ := m
  obtain ⟨c0, c1, c2⟩ := hA
  dsimp only at c0 c1 c2 hk
  subst hk
  obtain ⟨n, hn⟩ : ∃ n, ms.length = n := ⟨_, rfl⟩
  have HN := hide hn
  obtain ⟨q, hq⟩ : ∃ q, q = p + 1 := ⟨_, rfl⟩
  have e1 : (p : Int) + 1 = (q : Int) := by omega
  have wq : IntKind.i64.wrap (q : Int) = (q : Int) := by rw [IntKind.wrap_i64]; omega
  have wn : IntKind.i64.wrap (n : Int) = (n : Int) := by rw [IntKind.wrap_i64]; omega
  have hne : ((p : Int) == (n : Int)) = false := by simp; omega
  have hne' : ¬ p = n := by omega
  have p0 : (0 : Int) ≤ (p : Int) := by omega
  have p1 : (p : Int) ≤ (n : Int) := by omega
  have p2 : (p : Int) < (n : Int) := by omega
  have q0 : (0 : Int) ≤ (q : Int) := by omega
  have q1 : (q : Int) ≤ (n : Int) := by omega
  have hpn : p ≤ n := by omega
  have hqn : q ≤ n := by omega
  have n4 : n ≤ 4096 := by omega
  have lt1 : Hid ((ms.take p).length = p) := hide (by rw [List.length_take]; omega)
  have ld1 : Hid ((ms.drop q).length = n - q) := hide (by rw [List.length_drop, hn])
  have HEQ : Hid (([] ++ ms.take p) ++ ms.drop q = ms.take p ++ ms.drop (p + 1)) := hide (by rw [← hq]; simp)
  have HD : Hid (∀ W, RM W (some ⟨g, off, none⟩) ms → RM W (some ⟨g, if q = n then off else off + q * 3, none⟩) (ms.drop q)) := hide (fun W h => by
    split
    · exact .inl (List.drop_eq_nil_of_le (by omega))
    · exact drop_off h q)
  by_cases hqe : n = q
  all_goals
    first | rw [if_pos hqe.symm] at HD | rw [if_neg (fun e => hqe e.symm)] at HD
    first | (subst hqe; simp only [Nat.sub_self] at ld1) | skip
    go_enter Try.func39, Try.ntmps39
    rw [hn]
    clear hq hn
    go_wp2_with fail
    refine (by have := l03Place (some ⟨g, off, none⟩) ms n key w hm (unhide HR); rw [unhide HN] at this; exact this : Calls Try.prog 44 #[.slice (some ⟨g, off, none⟩) n n, .int .i64 key] w _).mono ?_
    rintro e w1 ⟨rfl, rfl⟩
    rw [unhide HP]
    go_wp2_with fail
    refine wp_region_noPanic ?_
    refine wp_region_held_drew (S := fun _ => True) (by kernel_rfl) trivial (fun hHeld => ?_)
    (refine Rg.tk (i := 1) (d := 26) (v := ?_) rfl rfl (by kernel_rfl) (by kernel_rfl) (by kernel_rfl) (fun _ _ _ h => h) (by rfl) ?_ (by assumption) ?_; rotate_left; (focus (intro w0 hSw; (try dsimp only at hSw); go_simp; (try with_reducible rfl))); (try simp only [Act.put, List.setIfInBounds_toArray, List.set_cons_zero, List.set_cons_succ]))
    (refine Rg.tk (i := 2) (d := 27) (v := ?_) rfl rfl (by kernel_rfl) (by kernel_rfl) (by kernel_rfl) (fun _ _ _ h => h) (by rfl) ?_ (by assumption) ?_; rotate_left; (focus (intro w0 hSw; (try dsimp only at hSw); go_simp; (try with_reducible rfl))); (try simp only [Act.put, List.setIfInBounds_toArray, List.set_cons_zero, List.set_cons_succ]))
    (refine Rg.tk (i := 3) (d := 28) (v := ?_) rfl rfl (by kernel_rfl) (by kernel_rfl) (by kernel_rfl) (fun _ _ _ h => h) (by rfl) ?_ (by assumption) ?_; rotate_left; (focus (intro w0 hSw; (try dsimp only at hSw); go_simp; (try with_reducible rfl))); (try simp only [Act.put, List.setIfInBounds_toArray, List.set_cons_zero, List.set_cons_succ]))
    (refine Rg.tk (i := 5) (d := 30) (v := ?_) rfl rfl (by kernel_rfl) (by kernel_rfl) (by kernel_rfl) (fun _ _ _ h => h) (by rfl) ?_ (by assumption) ?_; rotate_left; (focus (intro w0 hSw; (try dsimp only at hSw); go_simp; (try with_reducible rfl))); (try simp only [Act.put, List.setIfInBounds_toArray, List.set_cons_zero, List.set_cons_succ]))
    (refine Rg.tk (i := 6) (d := 31) (v := ?_) rfl rfl (by kernel_rfl) (by kernel_rfl) (by kernel_rfl) (fun _ _ _ h => h) (by rfl) ?_ (by assumption) ?_; rotate_left; (focus (intro w0 hSw; (try dsimp only at hSw); go_simp; (try with_reducible rfl))); (try simp only [Act.put, List.setIfInBounds_toArray, List.set_cons_zero, List.set_cons_succ]))
    (refine Rg.tk (i := 7) (d := 32) (v := ?_) rfl rfl (by kernel_rfl) (by kernel_rfl) (by kernel_rfl) (fun _ _ _ h => h) (by rfl) ?_ (by assumption) ?_; rotate_left; (focus (intro w0 hSw; (try dsimp only at hSw); go_simp; (try with_reducible rfl))); (try simp only [Act.put, List.setIfInBounds_toArray, List.set_cons_zero, List.set_cons_succ]))
    (refine Rg.tk (i := 8) (d := 33) (v := ?_) rfl rfl (by kernel_rfl) (by kernel_rfl) (by kernel_rfl) (fun _ _ _ h => h) (by rfl) ?_ (by assumption) ?_; rotate_left; (focus (intro w0 hSw; (try dsimp only at hSw); go_simp; (try with_reducible rfl))); (try simp only [Act.put, List.setIfInBounds_toArray, List.set_cons_zero, List.set_cons_succ]))
    (refine wpAnyH_ready (rs := [0]) (by kernel_rfl) (by simp) ?_; refine AllReadyH.cons (o := _) rfl (fun K hK => ?_) AllReadyH.nil; go_simp)
    have O0 : Hid ((w1.alloc (.cells #[] 30)).drew.ownsRow w1.heap.size 30 3 (.slice (some ⟨w1.heap.size, 0, none⟩) 0 0) ([] : List R).length (flat [])) := hide (own_empty w1 w1.heap.size (Nat.le_refl _))
    have HB0 := hide (((Below.refl w1.heap.size w1).alloc (Nat.le_refl _) (.cells #[] 30)).drew)
    refine hK.out _ _ trivial (fun hHeld => ?_)
    clear hK K
    (try simp only [Act.put, List.setIfInBounds_toArray, List.set_cons_zero, List.set_cons_succ])
    (refine wpAnyH_ready (rs := [4]) (by kernel_rfl) (by simp) ?_; refine AllReadyH.cons (o := _) rfl (fun K hK => ?_) AllReadyH.nil; rw [if_pos (by rfl)])
    refine wp_apS (unhide O0) g off p n (ms.take p) (unhide lt1) (take_zero_off ((unhide HR).below (unhide HB0)) p) (by rw [unhide lt1]; simp; omega) (unhide HB0).size _ _ rfl rfl rfl rfl ?_
    intro v4 w4 o4 g4
    have O4 := hide o4
    have HB4 := hide (below_own (unhide HB0) (unhide O0) g4 (Nat.le_refl _) (unhide HB0).size)
    clear o4 g4
    refine hK.out _ _ trivial (fun hHeld => ?_)
    clear hK K
    (try simp only [Act.put, List.setIfInBounds_toArray, List.set_cons_zero, List.set_cons_succ])
    (refine wpAnyH_ready (rs := [9]) (by kernel_rfl) (by simp) ?_; refine AllReadyH.cons (o := _) rfl (fun K hK => ?_) AllReadyH.nil; rw [if_pos (by rfl)])
    refine wp_apS (unhide O4) g _ _ _ (ms.drop _) (unhide ld1) (unhide HD _ ((unhide HR).below (unhide HB4))) (by rw [unhide ld1, List.nil_append, unhide lt1]; omega) (unhide HB4).size _ _ rfl rfl rfl rfl ?_
    intro v9 w9 o9 g9
    have HB9 := hide (below_own (unhide HB4) (unhide O4) g9 (Nat.le_refl _) (unhide HB4).size)
    have l9 := lst_own rfl o9
    rw [unhide HEQ] at l9
    have HL := hide l9
    clear o9 g9 l9
    refine hK.out _ _ trivial (fun hHeld => ?_)
    clear hK K
    (try simp only [Act.put, List.setIfInBounds_toArray, List.set_cons_zero, List.set_cons_succ])
    (refine Rg.tk (i := 10) (d := 4) (v := ?_) rfl rfl (by kernel_rfl) (by kernel_rfl) (by kernel_rfl) (fun _ _ _ h => h) (by rfl) ?_ (by assumption) ?_; rotate_left; (focus (intro w0 hSw; (try dsimp only at hSw); go_simp; (try with_reducible rfl))); (try simp only [Act.put, List.setIfInBounds_toArray, List.set_cons_zero, List.set_cons_succ]))
    (refine Rg.tk (i := 11) (d := 5) (v := ?_) rfl rfl (by kernel_rfl) (by kernel_rfl) (by kernel_rfl) (fun _ _ _ h => h) (by rfl) ?_ (by assumption) ?_; rotate_left; (focus (intro w0 hSw; (try dsimp only at hSw); go_simp; (try with_reducible rfl))); (try simp only [Act.put, List.setIfInBounds_toArray, List.set_cons_zero, List.set_cons_succ]))
    refine wpAnyH_done (by kernel_rfl) (NoPanic.normal ?_) _
    go_wp2_with fail
    go_ret2
    exact ⟨_, rfl, unhide HB9, unhide HL⟩
set_option maxHeartbeats 2000000 in
theorem specDrop (g off : Nat) (ms : List R) (cap : Nat) (k : Int) (w : World) (hcap : cap = ms.length) (hm : ms.length ≤ 1048576) (hr : RM w (some ⟨g, off, none⟩) ms) :
    Calls Try.prog 17 #[.slice (some ⟨g, off, none⟩) ms.length cap, .int .i64 k] w fun e w' => ∃ v, e = .returned (.tuple #[v, .int .i64 (dropE ms k)]) ∧ Below w.heap.size w w' ∧ LstV w' v (dropA ms k) w.heap.size w'.heap.size := by
  subst hcap
  have HR := hide hr
  clear hr
  by_cases hbig : (4096 : Int) < ms.length
  · have hc := code_long (ms := ms) (by omega)
    have h1 : dropA ms k = [] := by unfold dropA; rw [if_neg (by rw [hc]; omega)]
    have h2 : dropE ms k = 2 := by unfold dropE; rw [hc]; rfl
    rw [h1, h2]
    clear h1 h2 hc
    go_enter Try.func17, Try.ntmps17
    go_wp2_with fail
    go_ret2
    exact ⟨_, rfl, (Below.refl _ _).alloc (Nat.le_refl _) _, lstV_nil _ _ _ _ _⟩
  have hsm : ms.length ≤ 4096 := by omega
  cases hs : setB ms
  · have hc := code_bad (by omega) hs
    have h1 : dropA ms k = [] := by unfold dropA; rw [if_neg (by rw [hc]; omega)]
    have h2 : dropE ms k = 1 := by unfold dropE; rw [hc]; rfl
    rw [h1, h2]
    have HS := hide hs
    clear h1 h2 hc hs
    go_enter Try.func17, Try.ntmps17
    go_wp2_with fail
    refine (specOK _ ms _ _ hm (unhide HR)).mono ?_
    rintro e w1 ⟨rfl, b1⟩
    rw [unhide HS]
    have hb1 := hide b1
    clear b1
    go_wp2_with fail
    go_ret2
    exact ⟨_, rfl, (unhide hb1).alloc (unhide hb1).size _, lstV_nil _ _ _ _ _⟩
  have hc := code_zero hs
  have h1 : dropA ms k = dropL ms k := by unfold dropA; rw [if_pos hc]
  have h2 : dropE ms k = dropC ms k := by unfold dropE; rw [if_pos hc]
  rw [h1, h2]
  have HS := hide hs
  clear h1 h2 hc hs
  go_enter Try.func17, Try.ntmps17
  go_wp2_with fail
  refine (specOK _ ms _ _ hm (unhide HR)).mono ?_
  rintro e w1 ⟨rfl, b1⟩
  rw [unhide HS]
  have hb1 := hide b1
  clear b1
  go_wp2_with fail
  refine (l03Drop g off ms _ k _ rfl hsm ((unhide HR).below (unhide hb1))).mono ?_
  rintro e w2 ⟨v, rfl, b2, hl⟩
  have hb2 := hide ((unhide hb1).trans (b2.mono (unhide hb1).size))
  have HL := hide (hl.mono (unhide hb1).size (Nat.le_refl _))
  clear b2 hl
  go_wp2_with fail
  go_ret2
  exact ⟨_, rfl, unhide hb2, unhide HL⟩
end St
end Go.Proofs.Ytmelbilepfnmjaj
