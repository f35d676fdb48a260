/-
  Contracts: SetDrop, both.
-/
import Derived.Test.YtpknahhdapmcoaaSetG
import Derived.Test.YtpknahhdapmcoaaSetK
namespace Go.Proofs.Ytpknahhdapmcoaa
open Go.ChangeShapes Go.WideShapes Go.ChangeAt Go.RowKit
set_option linter.unusedVariables false
set_option linter.unusedSimpArgs false
attribute [local go_sem ↓] Go.wp_at_zero Go.wp_at_succ
namespace St
open W1 Tu
theorem take_zero_off {w : World} {g off : Nat} {ms : List R} (h : RM w (some ⟨g, off, none⟩) ms) (n : Nat) : RM w (some ⟨g, off, none⟩) (ms.take n) := by
  have := h.part 0 n
  rw [List.drop_zero, Nat.zero_mul, Nat.add_zero] at this; exact this
theorem drop_off {w : World} {g off : Nat} {ms : List R} (h : RM w (some ⟨g, off, none⟩) ms) (i : Nat) : RM w (some ⟨g, off + i * 3, none⟩) (ms.drop i) := by
  have := h.part i ms.length
  rw [List.take_of_length_le (by simp)] at this; exact this
theorem segs2 {w : World} {g1 o1 c1 g2 o2 c2 : Nat} {m1 m2 : List R} (h1 : RM w (some ⟨g1, o1, none⟩) m1) (h2 : RM w (some ⟨g2, o2, none⟩) m2) :
    Segs (w.alloc (.cells #[.slice (some ⟨g1, o1, none⟩) m1.length c1, .slice (some ⟨g2, o2, none⟩) m2.length c2] 38)) w.heap.size [⟨g1, o1, c1, m1⟩, ⟨g2, o2, c2, m2⟩] := by
  intro i hi
  have hb : Below w.heap.size w (w.alloc (.cells #[.slice (some ⟨g1, o1, none⟩) m1.length c1, .slice (some ⟨g2, o2, none⟩) m2.length c2] 38)) := (Below.refl _ _).alloc (Nat.le_refl _) _
  match i, hi with
  | 0, _ => exact ⟨by simp [World.cell?_alloc_new], h1.below hb⟩
  | 1, _ => exact ⟨by simp [World.cell?_alloc_new], h2.below hb⟩
set_option maxRecDepth 100000 in
set_option maxHeartbeats 4000000 in
theorem implDrop (g off : Nat) (ms : List R) (cap : Nat) (k : Int) (w : World) (hcap : cap = ms.length) (hm : ms.length ≤ 1048576) (hr : RM w (some ⟨g, off, none⟩) ms) :
    Calls Try.prog 26 #[.slice (some ⟨g, off, none⟩) ms.length cap, .int .i64 k] w fun e w' => ∃ v, e = .returned (.tuple #[v, .int .i64 (dropE ms k)]) ∧ Below w.heap.size w w' ∧ LstV w' v (dropA ms k) w.heap.size w'.heap.size := by
  subst hcap
  have HR := hide hr
  clear hr
  by_cases hc : codeS ms = 0
  rotate_left
  · have h1 : dropA ms k = [] := by unfold dropA; rw [if_neg hc]
    have h2 : dropE ms k = codeS ms := by unfold dropE; rw [if_neg hc]
    rw [h1, h2]
    have hcb : (codeS ms == 0) = false := by simpa using hc
    clear h1 h2
    go_enter Try.func26, Try.ntmps26
    go_wp2_with fail
    refine (setCode _ ms _ _ hm (unhide HR)).mono ?_
    rintro e w1 ⟨rfl, b1⟩
    have hb1 := hide b1
    clear b1
    go_wp2_with fail
    go_ret2
    exact ⟨_, rfl, unhide hb1, lstV_nil _ _ _ _ _⟩
  have HC := hide hc
  have HS := hide (code_set hc)
  have h64 := setB_len (code_set hc)
  cases ht : thereB ms k
  · have h1 : dropA ms k = ms := by unfold dropA dropL; rw [if_pos hc, if_neg (by simp [ht])]
    have h2 : dropE ms k = 5 := by unfold dropE dropC; rw [if_pos hc, if_neg (by simp [ht])]
    rw [h1, h2]
    have HT := hide ht
    clear h1 h2 ht hc
    go_enter Try.func26, Try.ntmps26
    go_wp2_with fail
    refine (setCode _ ms _ _ hm (unhide HR)).mono ?_
    rintro e w1 ⟨rfl, b1⟩
    rw [unhide HC]
    have hb1 := hide b1
    clear b1
    go_wp2_with fail
    refine (keyPlace g off ms _ k _ ((unhide HR).below (unhide hb1)) (unhide HS)).mono ?_
    rintro e w2 ⟨rfl, b2⟩
    rw [unhide HT]
    have hb2 := hide ((unhide hb1).trans (b2.mono (unhide hb1).size))
    clear b2
    go_wp2_with fail
    refine (copied g off ms _ _ _ rfl (by omega) ((unhide HR).below (unhide hb2))).mono ?_
    rintro e w3 ⟨v, rfl, b3, l3⟩
    have hb3 := hide ((unhide hb2).trans (b3.mono (unhide hb2).size))
    have HL := hide (l3.mono (unhide hb2).size (Nat.le_refl _))
    clear b3 l3
    go_wp2_with fail
    go_ret2
    exact ⟨_, rfl, unhide hb3, unhide HL⟩
  have h1 : dropA ms k = ms.take (place ms k) ++ ms.drop (place ms k + 1) := by unfold dropA dropL; rw [if_pos hc, if_pos ht]
  have h2 : dropE ms k = 0 := by unfold dropE dropC; rw [if_pos hc, if_pos ht]
  rw [h1, h2]
  have HT := hide ht
  have hpl : place ms k < ms.length := by unfold thereB at ht; simp at ht; exact ht.1
  obtain ⟨p, hp⟩ : ∃ p, place ms k = p := ⟨_, rfl⟩
  have HP := hide hp
  rw [hp] at hpl ⊢
  clear h1 h2 ht hc hp
  obtain ⟨n, hn⟩ : ∃ n, ms.length = n := ⟨_, rfl⟩
  have HN := hide hn
  obtain ⟨q, hq⟩ : ∃ q, q = p + 1 := ⟨_, rfl⟩
  have HQ := hide hq
  have e1 : (p : Int) + 1 = (q : Int) := by omega
  have wq : IntKind.i64.wrap (q : Int) = (q : Int) := by rw [IntKind.wrap_i64]; omega
  have p0 : (0 : Int) ≤ (p : Int) := by omega
  have p1 : (p : Int) ≤ (n : Int) := by omega
  have q0 : (0 : Int) ≤ (q : Int) := by omega
  have q1 : (q : Int) ≤ (n : Int) := by omega
  have hpn : p ≤ n := by omega
  have hqn : q ≤ n := by omega
  have n4 : n ≤ 64 := by omega
  have lt1 : Hid ((ms.take p).length = p) := hide (by rw [List.length_take]; omega)
  have ld1 : Hid ((ms.drop q).length = n - q) := hide (by rw [List.length_drop, hn])
  have HCL : Hid ((cat [⟨g, off, n, ms.take p⟩, ⟨g, if q = n then off else off + q * 3, n - q, ms.drop q⟩]).length ≤ 4096) := hide (by simp only [cat, List.flatMap_cons, List.flatMap_nil, List.length_append, List.length_nil, List.length_take, List.length_drop]; omega)
  have HEQ : Hid (cat [⟨g, off, n, ms.take p⟩, ⟨g, if q = n then off else off + q * 3, n - q, ms.drop q⟩] = ms.take p ++ ms.drop (p + 1)) := hide (by rw [← hq]; simp [cat])
  have HSG : Hid (∀ W, RM W (some ⟨g, off, none⟩) ms → Segs (W.alloc (.cells #[.slice (some ⟨g, off, none⟩) p n, .slice (some ⟨g, if q = n then off else off + q * 3, none⟩) (n - q) (n - q)] 38)).drew W.heap.size [⟨g, off, n, ms.take p⟩, ⟨g, if q = n then off else off + q * 3, n - q, ms.drop q⟩]) := hide (fun W h => by
    have := segs2 (c1 := n) (c2 := n - q) (o2 := if q = n then off else off + q * 3) (take_zero_off h p) (m2 := ms.drop q) (by
      split
      · exact .inl (List.drop_eq_nil_of_le (by omega))
      · exact drop_off h q)
    rw [unhide lt1, unhide ld1] at this
    exact fun i hi => this i hi)
  have wn : IntKind.i64.wrap (n : Int) = (n : Int) := by rw [IntKind.wrap_i64]; omega
  by_cases hqe : n = q
  all_goals
    first | rw [if_pos hqe.symm] at HSG HCL HEQ | rw [if_neg (fun e => hqe e.symm)] at HSG HCL HEQ
    first | (subst hqe; simp only [Nat.sub_self] at HSG HCL HEQ) | skip
    go_enter Try.func26, Try.ntmps26
    rw [hn]
    clear hq hn
    go_wp2_with fail
    refine (by have := setCode (some ⟨g, off, none⟩) ms n w hm (unhide HR); rw [unhide HN] at this; exact this : Calls Try.prog 48 #[.slice (some ⟨g, off, none⟩) n n] w _).mono ?_
    rintro e w1 ⟨rfl, b1⟩
    rw [unhide HC]
    have hb1 := hide b1
    clear b1
    go_wp2_with fail
    refine (by have := keyPlace g off ms n k w1 ((unhide HR).below (unhide hb1)) (unhide HS); rw [unhide HN] at this; exact this : Calls Try.prog 50 #[.slice (some ⟨g, off, none⟩) n n, .int .i64 k] w1 _).mono ?_
    rintro e w2 ⟨rfl, b2⟩
    rw [unhide HT, unhide HP]
    have hb2 := hide ((unhide hb1).trans (b2.mono (unhide hb1).size))
    clear b2
    go_wp2_with fail
    refine wp_region_noPanic ?_
    refine wp_region_held_drew (S := fun _ => True) (by kernel_rfl) trivial (fun hHeld => ?_)
    (refine Rg.tk (i := 0) (d := 24) (v := ?_) rfl rfl (by kernel_rfl) (by kernel_rfl) (by kernel_rfl) (fun _ _ _ h => h) (by rfl) ?_ (by assumption) ?_; rotate_left; (focus (intro w0 hSw; (try dsimp only at hSw); go_simp; (try with_reducible rfl))); (try simp only [Act.put, List.setIfInBounds_toArray, List.set_cons_zero, List.set_cons_succ]))
    (refine Rg.tk (i := 1) (d := 25) (v := ?_) rfl rfl (by kernel_rfl) (by kernel_rfl) (by kernel_rfl) (fun _ _ _ h => h) (by rfl) ?_ (by assumption) ?_; rotate_left; (focus (intro w0 hSw; (try dsimp only at hSw); go_simp; (try with_reducible rfl))); (try simp only [Act.put, List.setIfInBounds_toArray, List.set_cons_zero, List.set_cons_succ]))
    (refine Rg.tk (i := 2) (d := 26) (v := ?_) rfl rfl (by kernel_rfl) (by kernel_rfl) (by kernel_rfl) (fun _ _ _ h => h) (by rfl) ?_ (by assumption) ?_; rotate_left; (focus (intro w0 hSw; (try dsimp only at hSw); go_simp; (try with_reducible rfl))); (try simp only [Act.put, List.setIfInBounds_toArray, List.set_cons_zero, List.set_cons_succ]))
    (refine Rg.tk (i := 3) (d := 27) (v := ?_) rfl rfl (by kernel_rfl) (by kernel_rfl) (by kernel_rfl) (fun _ _ _ h => h) (by rfl) ?_ (by assumption) ?_; rotate_left; (focus (intro w0 hSw; (try dsimp only at hSw); go_simp; (try with_reducible rfl))); (try simp only [Act.put, List.setIfInBounds_toArray, List.set_cons_zero, List.set_cons_succ]))
    (refine Rg.tk (i := 4) (d := 28) (v := ?_) rfl rfl (by kernel_rfl) (by kernel_rfl) (by kernel_rfl) (fun _ _ _ h => h) (by rfl) ?_ (by assumption) ?_; rotate_left; (focus (intro w0 hSw; (try dsimp only at hSw); go_simp; (try with_reducible rfl))); (try simp only [Act.put, List.setIfInBounds_toArray, List.set_cons_zero, List.set_cons_succ]))
    (refine Rg.tk (i := 5) (d := 29) (v := ?_) rfl rfl (by kernel_rfl) (by kernel_rfl) (by kernel_rfl) (fun _ _ _ h => h) (by rfl) ?_ (by assumption) ?_; rotate_left; (focus (intro w0 hSw; (try dsimp only at hSw); go_simp; (try with_reducible rfl))); (try simp only [Act.put, List.setIfInBounds_toArray, List.set_cons_zero, List.set_cons_succ]))
    (refine Rg.tk (i := 6) (d := 30) (v := ?_) rfl rfl (by kernel_rfl) (by kernel_rfl) (by kernel_rfl) (fun _ _ _ h => h) (by rfl) ?_ (by assumption) ?_; rotate_left; (focus (intro w0 hSw; (try dsimp only at hSw); go_simp; (try with_reducible rfl))); (try simp only [Act.put, List.setIfInBounds_toArray, List.set_cons_zero, List.set_cons_succ]))
    (refine wpAnyH_ready (rs := [7]) (by kernel_rfl) (by simp) ?_; refine AllReadyH.cons (o := _) rfl (fun K hK => ?_) AllReadyH.nil; go_simp)
    refine hK.out _ _ trivial (fun hHeld => ?_)
    clear hK K
    (try simp only [Act.put, List.setIfInBounds_toArray, List.set_cons_zero, List.set_cons_succ])
    (refine wpAnyH_ready (rs := [8]) (by kernel_rfl) (by simp) ?_; refine AllReadyH.cons (o := _) rfl (fun K hK => ?_) AllReadyH.nil; go_simp)
    refine (concat w2.heap.size 2 _ _ rfl (by omega) (unhide HSG w2 ((unhide HR).below (unhide hb2))) (unhide HCL)).mono ?_
    rintro e w3 ⟨v, rfl, b3, l3⟩
    rw [unhide HEQ] at l3
    have hb3 := hide (((unhide hb2).alloc (unhide hb2).size _).drew.trans (b3.mono ((unhide hb2).alloc (unhide hb2).size _).drew.size))
    have HL := hide (l3.mono ((unhide hb2).alloc (unhide hb2).size _).drew.size (Nat.le_refl _))
    clear b3 l3
    refine hK.out _ _ trivial (fun hHeld => ?_)
    clear hK K
    (try simp only [Act.put, List.setIfInBounds_toArray, List.set_cons_zero, List.set_cons_succ])
    (refine Rg.tk (i := 9) (d := 4) (v := ?_) rfl rfl (by kernel_rfl) (by kernel_rfl) (by kernel_rfl) (fun _ _ _ h => h) (by rfl) ?_ (by assumption) ?_; rotate_left; (focus (intro w0 hSw; (try dsimp only at hSw); go_simp; (try with_reducible rfl))); (try simp only [Act.put, List.setIfInBounds_toArray, List.set_cons_zero, List.set_cons_succ]))
    (refine Rg.tk (i := 10) (d := 5) (v := ?_) rfl rfl (by kernel_rfl) (by kernel_rfl) (by kernel_rfl) (fun _ _ _ h => h) (by rfl) ?_ (by assumption) ?_; rotate_left; (focus (intro w0 hSw; (try dsimp only at hSw); go_simp; (try with_reducible rfl))); (try simp only [Act.put, List.setIfInBounds_toArray, List.set_cons_zero, List.set_cons_succ]))
    refine wpAnyH_done (by kernel_rfl) (NoPanic.normal ?_) _
    go_wp2_with fail
    go_ret2
    exact ⟨_, rfl, unhide hb3, unhide HL⟩
end St
end Go.Proofs.Ytpknahhdapmcoaa
