/-
  Contracts of the program's SetRange at a list of any capacity (FnSet's lists were grown by appends).
-/
import Derived.Test.YtpknahhdapmcoaaSetR
namespace Go.Proofs.Ytpknahhdapmcoaa
open Go.ChangeShapes Go.WideShapes Go.ChangeAt Go.RowKit
set_option linter.unusedVariables false
set_option linter.unusedSimpArgs false
attribute [local go_sem ↓] Go.wp_at_zero Go.wp_at_succ
namespace St
open W1 Tu
set_option maxHeartbeats 4000000 in
theorem implRangeL (g off : Nat) (ms : List R) (cap : Nat) (low high : Int) (w : World) (hcap : ms.length < cap) (hcx : cap ≤ maxLen) (hm : ms.length ≤ 1048576) (hr : RM w (some ⟨g, off, none⟩) ms) :
    Calls Try.prog 28 #[.slice (some ⟨g, off, none⟩) ms.length cap, .int .i64 low, .int .i64 high] w fun e w' => ∃ v, e = .returned (.tuple #[v, .int .i64 (codeS ms)]) ∧ Below w.heap.size w w' ∧ LstV w' v (rangeA ms low high) w.heap.size w'.heap.size := by
  unfold maxLen at hcx
  have HR := hide hr
  clear hr
  have HBA : Hid (Below w.heap.size w ((w.alloc (.cells #[.int .i64 low] 3)).alloc (.cells #[.int .i64 high] 3))) := hide (((Below.refl _ _).alloc (Nat.le_refl _) _).alloc ((Below.refl w.heap.size w).alloc (Nat.le_refl _) _).size _)
  have CL : Hid (((w.alloc (.cells #[.int .i64 low] 3)).alloc (.cells #[.int .i64 high] 3)).cell? ⟨w.heap.size, 0, none⟩ = some (.int .i64 low)) := hide (by rw [World.cell?_alloc_lt _ _ _ (by simp), World.cell?_alloc_new]; rfl)
  have CH : Hid (((w.alloc (.cells #[.int .i64 low] 3)).alloc (.cells #[.int .i64 high] 3)).cell? ⟨w.heap.size + 1, 0, none⟩ = some (.int .i64 high)) := hide (by have := World.cell?_alloc_new (w.alloc (.cells #[.int .i64 low] 3)) #[.int .i64 high] 3 0; simp only [World.size_alloc] at this; rw [this]; rfl)
  have HSZ : Hid (((w.alloc (.cells #[.int .i64 low] 3)).alloc (.cells #[.int .i64 high] 3)).heap.size = w.heap.size + 2) := hide (by simp)
  by_cases hc : codeS ms = 0
  rotate_left
  · have h1 : rangeA ms low high = [] := by unfold rangeA; rw [if_neg hc]
    rw [h1]
    have hcb : (codeS ms == 0) = false := by simpa using hc
    clear h1
    go_enter Try.func28, Try.ntmps28
    go_wp2_with fail
    refine (setCode _ ms _ _ hm ((unhide HR).below (unhide HBA))).mono ?_
    rintro e w1 ⟨rfl, b1⟩
    have hb1 := hide ((unhide HBA).trans (b1.mono (unhide HBA).size))
    clear b1
    go_wp2_with fail
    go_ret2
    exact ⟨_, rfl, unhide hb1, lstV_nil _ _ _ _ _⟩
  have HC := hide hc
  have HS := hide (code_set hc)
  have h64 := setB_len (code_set hc)
  have hl1 := placeP_le (atKey low) ms
  have hl2 := placeP_le (overKey high) ms
  have h1 : rangeA ms low high = (ms.drop (min (place ms low) (placeP (overKey high) ms))).take (placeP (overKey high) ms - min (place ms low) (placeP (overKey high) ms)) := by unfold rangeA; rw [if_pos hc, range_part (unhide HS)]
  rw [h1, hc]
  clear h1 hc
  obtain ⟨f, hf⟩ : ∃ f, placeP (atKey low) ms = f := ⟨_, rfl⟩
  obtain ⟨t, ht⟩ : ∃ t, placeP (overKey high) ms = t := ⟨_, rfl⟩
  have HFF := hide hf
  have HTT := hide ht
  have hf' : place ms low = f := hf
  rw [hf] at hl1
  rw [ht] at hl2
  rw [hf', ht]
  clear hf ht hf'
  obtain ⟨L, hL⟩ : ∃ L, (ms.drop (min f t)).take (t - min f t) = L := ⟨_, rfl⟩
  rw [hL]
  obtain ⟨n, hn⟩ : ∃ n, ms.length = n := ⟨_, rfl⟩
  have HN := hide hn
  rw [hn] at hl1 hl2 hm h64 hcap ⊢
  clear hn
  have f0 : (0 : Int) ≤ (f : Int) := by omega
  have f1 : (f : Int) ≤ (n : Int) := by omega
  have t1 : (t : Int) ≤ (n : Int) := by omega
  have t0 : (0 : Int) ≤ (t : Int) := by omega
  have hmf : ∀ (fn : Fn) (first cap : Array Value) (w : World), (Instr.makeFunc fn first cap).run Try.prog w = .ok (.func fn first cap) w := fun _ _ _ _ => rfl
  have f2 : (f : Int) ≤ (cap : Int) := by omega
  have t2 : (t : Int) ≤ (cap : Int) := by omega
  have n2 : (n : Int) ≤ (cap : Int) := by omega
  have hfc : ¬ cap = f := by omega
  have htc : ¬ cap = t := by omega
  have hfc' : ¬ f = cap := by omega
  have htc' : ¬ t = cap := by omega
  by_cases hft : f ≤ t
  · have hm1 : min f t = f := by omega
    rw [hm1] at hL
    have hfi : (f : Int) ≤ (t : Int) := by omega
    have hfn : ¬ (t : Int) < (f : Int) := by omega
    clear hm1
    · have LLN : Hid (L.length = t - f) := hide (by rw [← hL, List.length_take, List.length_drop, unhide HN]; omega)
      have RD : Hid (∀ W, RM W (some ⟨g, off, none⟩) ms → RM W (some ⟨g, off + f * 3, none⟩) L) := hide (fun W h => by rw [← hL]; exact h.part f (t - f))
      clear hL
      go_enter Try.func28, Try.ntmps28
      go_wp2_with fail
      refine (by have := setCode (some ⟨g, off, none⟩) ms cap _ (by rw [unhide HN]; exact hm) ((unhide HR).below (unhide HBA)); rw [unhide HN, unhide HC] at this; exact this : Calls Try.prog 48 #[.slice (some ⟨g, off, none⟩) n cap] _ _).mono ?_
      rintro e w1 ⟨rfl, b1⟩
      have hs := (unhide HSZ)
      have hb1 := hide ((unhide HBA).trans (b1.mono (unhide HBA).size))
      have CL1 := hide ((b1.cell (p := ⟨w.heap.size, 0, none⟩) (by rw [hs]; show w.heap.size < _; omega)).trans (unhide CL))
      have CH1 := hide ((b1.cell (p := ⟨w.heap.size + 1, 0, none⟩) (by rw [hs]; show w.heap.size + 1 < _; omega)).trans (unhide CH))
      clear b1 hs
      go_wp2_with fail
      refine (by have := firstLo w.heap.size g off low ms cap w1 ((unhide HR).below (unhide hb1)) (unhide HS) (unhide CL1); rw [unhide HN, unhide HFF] at this; exact this : Calls Try.prog 56 #[.slice (some ⟨g, off, none⟩) n cap, .func (.func 57) #[] #[.pointer (some ⟨w.heap.size, 0, none⟩)]] w1 _).mono ?_
      rintro e w2 ⟨rfl, b2⟩
      have hb2 := hide ((unhide hb1).trans (b2.mono (unhide hb1).size))
      have CH2 := hide ((b2.cell (p := ⟨w.heap.size + 1, 0, none⟩) (World.block_lt_of_cell? _ _ (unhide CH1))).trans (unhide CH1))
      clear b2
      go_wp2_with fail
      refine (by have := firstHi (w.heap.size + 1) g off high ms cap w2 ((unhide HR).below (unhide hb2)) (unhide HS) (unhide CH2); rw [unhide HN, unhide HTT] at this; exact this : Calls Try.prog 56 #[.slice (some ⟨g, off, none⟩) n cap, .func (.func 58) #[] #[.pointer (some ⟨w.heap.size + 1, 0, none⟩)]] w2 _).mono ?_
      rintro e w3 ⟨rfl, b3⟩
      have hb3 := hide ((unhide hb2).trans (b3.mono (unhide hb2).size))
      clear b3
      go_wp2_with fail
      refine (copied g _ L _ _ w3 (unhide LLN) (by rw [unhide LLN]; omega) (unhide RD w3 ((unhide HR).below (unhide hb3)))).mono ?_
      rintro e w6 ⟨v, rfl, b6, l6⟩
      have hb6 := hide ((unhide hb3).trans (b6.mono (unhide hb3).size))
      have HL := hide (l6.mono (unhide hb3).size (Nat.le_refl _))
      clear b6 l6
      go_wp2_with fail
      go_ret2
      exact ⟨_, rfl, unhide hb6, unhide HL⟩
  · have hm1 : min f t = t := by omega
    rw [hm1, Nat.sub_self] at hL
    have hfi : (t : Int) < (f : Int) := by omega
    have hfn : ¬ (f : Int) ≤ (t : Int) := by omega
    have hft2 : ¬ (f : Int) < (t : Int) := by omega
    have hft3 : (t : Int) ≤ (f : Int) := by omega
    have htn : ¬ n = t := by omega
    clear hm1
    have LLN : Hid (L.length = 0) := hide (by rw [← hL]; simp)
    have RD : Hid (∀ W, RM W (some ⟨g, off, none⟩) ms → RM W (some ⟨g, off + t * 3, none⟩) L) := hide (fun W h => .inl (List.eq_nil_of_length_eq_zero (unhide LLN)))
    clear hL
    go_enter Try.func28, Try.ntmps28
    go_wp2_with fail
    refine (by have := setCode (some ⟨g, off, none⟩) ms cap _ (by rw [unhide HN]; exact hm) ((unhide HR).below (unhide HBA)); rw [unhide HN, unhide HC] at this; exact this : Calls Try.prog 48 #[.slice (some ⟨g, off, none⟩) n cap] _ _).mono ?_
    rintro e w1 ⟨rfl, b1⟩
    have hs := (unhide HSZ)
    have hb1 := hide ((unhide HBA).trans (b1.mono (unhide HBA).size))
    have CL1 := hide ((b1.cell (p := ⟨w.heap.size, 0, none⟩) (by rw [hs]; show w.heap.size < _; omega)).trans (unhide CL))
    have CH1 := hide ((b1.cell (p := ⟨w.heap.size + 1, 0, none⟩) (by rw [hs]; show w.heap.size + 1 < _; omega)).trans (unhide CH))
    clear b1 hs
    go_wp2_with fail
    refine (by have := firstLo w.heap.size g off low ms cap w1 ((unhide HR).below (unhide hb1)) (unhide HS) (unhide CL1); rw [unhide HN, unhide HFF] at this; exact this : Calls Try.prog 56 #[.slice (some ⟨g, off, none⟩) n cap, .func (.func 57) #[] #[.pointer (some ⟨w.heap.size, 0, none⟩)]] w1 _).mono ?_
    rintro e w2 ⟨rfl, b2⟩
    have hb2 := hide ((unhide hb1).trans (b2.mono (unhide hb1).size))
    have CH2 := hide ((b2.cell (p := ⟨w.heap.size + 1, 0, none⟩) (World.block_lt_of_cell? _ _ (unhide CH1))).trans (unhide CH1))
    clear b2
    go_wp2_with fail
    refine (by have := firstHi (w.heap.size + 1) g off high ms cap w2 ((unhide HR).below (unhide hb2)) (unhide HS) (unhide CH2); rw [unhide HN, unhide HTT] at this; exact this : Calls Try.prog 56 #[.slice (some ⟨g, off, none⟩) n cap, .func (.func 58) #[] #[.pointer (some ⟨w.heap.size + 1, 0, none⟩)]] w2 _).mono ?_
    rintro e w3 ⟨rfl, b3⟩
    have hb3 := hide ((unhide hb2).trans (b3.mono (unhide hb2).size))
    clear b3
    go_wp2_with fail
    refine (copied g _ L _ _ w3 (unhide LLN) (by rw [unhide LLN]; omega) (unhide RD w3 ((unhide HR).below (unhide hb3)))).mono ?_
    rintro e w6 ⟨v, rfl, b6, l6⟩
    have hb6 := hide ((unhide hb3).trans (b6.mono (unhide hb3).size))
    have HL := hide (l6.mono (unhide hb3).size (Nat.le_refl _))
    clear b6 l6
    go_wp2_with fail
    go_ret2
    exact ⟨_, rfl, unhide hb6, unhide HL⟩
theorem implRangeC (g off : Nat) (ms : List R) (cap : Nat) (low high : Int) (w : World) (hcap : ms.length ≤ cap) (hcx : cap ≤ maxLen) (hm : ms.length ≤ 1048576) (hr : RM w (some ⟨g, off, none⟩) ms) :
    Calls Try.prog 28 #[.slice (some ⟨g, off, none⟩) ms.length cap, .int .i64 low, .int .i64 high] w fun e w' => ∃ v, e = .returned (.tuple #[v, .int .i64 (codeS ms)]) ∧ Below w.heap.size w w' ∧ LstV w' v (rangeA ms low high) w.heap.size w'.heap.size := by
  rcases Nat.lt_or_ge ms.length cap with h | h
  · exact implRangeL g off ms cap low high w h hcx hm hr
  · exact implRange g off ms cap low high w (Nat.le_antisymm h hcap) hm hr
end St
end Go.Proofs.Ytpknahhdapmcoaa
