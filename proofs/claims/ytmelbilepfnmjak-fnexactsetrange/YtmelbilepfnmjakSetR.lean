/-
  Contracts: SetRange, both.
-/
import Derived.Test.YtmelbilepfnmjakSetE
import Derived.Test.YtmelbilepfnmjakSetP
import Derived.Test.YtmelbilepfnmjakSetG
namespace Go.Proofs.Ytmelbilepfnmjak
open Go.ChangeShapes Go.WideShapes Go.ChangeAt Go.RowKit
set_option linter.unusedVariables false
set_option linter.unusedSimpArgs false
attribute [local go_sem ↓] Go.wp_at_zero Go.wp_at_succ
namespace St
open W1 Tu
set_option maxHeartbeats 2000000 in
theorem specRange (g off : Nat) (ms : List R) (cap : Nat) (low high : Int) (w : World) (hcap : cap = ms.length) (hm : ms.length ≤ 1048576) (hr : RM w (some ⟨g, off, none⟩) ms) :
    Calls Try.prog 10 #[.slice (some ⟨g, off, none⟩) ms.length cap, .int .i64 low, .int .i64 high] w fun e w' => ∃ v, e = .returned (.tuple #[v, .int .i64 (codeS ms)]) ∧ Below w.heap.size w w' ∧ LstV w' v (rangeA ms low high) w.heap.size w'.heap.size := by
  subst hcap
  have HR := hide hr
  clear hr
  by_cases hbig : (4096 : Int) < ms.length
  · have hc := code_long (ms := ms) (by omega)
    have h1 : rangeA ms low high = [] := by unfold rangeA; rw [if_neg (by rw [hc]; omega)]
    rw [h1, hc]
    clear h1 hc
    go_enter Try.func10, Try.ntmps10
    go_wp2_with fail
    go_ret2
    exact ⟨_, rfl, (Below.refl _ _).alloc (Nat.le_refl _) _, lstV_nil _ _ _ _ _⟩
  have hsm : ms.length ≤ 4096 := by omega
  cases hs : setB ms
  · have hc := code_bad (by omega) hs
    have h1 : rangeA ms low high = [] := by unfold rangeA; rw [if_neg (by rw [hc]; omega)]
    rw [h1, hc]
    have HS := hide hs
    clear h1 hc hs
    go_enter Try.func10, Try.ntmps10
    go_wp2_with fail
    refine (specOK _ ms _ _ hm (unhide HR)).mono ?_
    rintro e w1 ⟨rfl, b1⟩
    rw [unhide HS]
    have hb1 := hide b1
    clear b1
    go_wp2_with fail
    go_ret2
    exact ⟨_, rfl, (unhide hb1).alloc (unhide hb1).size _, lstV_nil _ _ _ _ _⟩
  have hc := code_zero hs
  have h1 : rangeA ms low high = ms.filter (inK low high) := by unfold rangeA; rw [if_pos hc]
  rw [h1, hc]
  have HS := hide hs
  clear h1 hc hs
  generalize hN : ms.length = n at *
  have HN := hide hN
  clear hN
  go_enter Try.func10, Try.ntmps10
  go_wp2_with fail
  refine (by have := specOK (some ⟨g, off, none⟩) ms n w (by rw [unhide HN]; exact hm) (unhide HR); rw [unhide HN, unhide HS] at this; exact this : Calls Try.prog 35 #[.slice (some ⟨g, off, none⟩) n n] w _).mono ?_
  rintro e w1 ⟨rfl, b1⟩
  have hb1 := hide b1
  have O0 := hide (own_empty w1 w.heap.size b1.size)
  have HB0 := hide (b1.alloc b1.size (.cells #[] 62))
  clear b1
  go_wp2_with fail
  go_loopw [8, 9] (fun v i wr => ∃ j : Nat, j ≤ n ∧ i = .int .i64 j ∧ Hid (wr.ownsRow w.heap.size 62 3 v ((ms.take j).filter (inK low high)).length (flat ((ms.take j).filter (inK low high)))) ∧ Hid (Below w.heap.size w wr)) (fun _ i _ => n - (intOf i).toNat)
  case atStart => exact ⟨0, by omega, rfl, O0, HB0⟩
  case round =>
    obtain ⟨j, hj, rfl, how, hbl⟩ := hrel
    by_cases hlt : (j : Int) < (n : Int)
    · have k0 : (0 : Int) ≤ (j : Int) := by omega
      have hlen : j < ms.length := by rw [unhide HN]; omega
      obtain ⟨c0, c1, c2⟩ := ((unhide HR).below (unhide hbl)).at hlen
      have HTF := hide (take_filter (inK low high) ms j hlen)
      have hfl := filter_le (inK low high) ms j
      have hbs := (unhide hbl).size
      generalize ms.getD j R.zero = m at *
      cases hk : inB m.key low high
      · have hkt : inK low high m = false := hk
        rw [hkt, if_neg (by simp), List.append_nil] at HTF
        have HO : Hid (wr.ownsRow w.heap.size 62 3 u8 ((ms.take (j + 1)).filter (inK low high)).length (flat ((ms.take (j + 1)).filter (inK low high)))) := hide (by rw [unhide HTF]; exact unhide how)
        go_wp2_with (go_at_call 36; refine (l01In _ _ _ _).mono ?_; rintro e w' ⟨rfl, rfl⟩)
        go_roundw
        case rel => exact ⟨j + 1, by omega, by go_num, HO, hbl⟩
        case measure => simp [intOf]; omega
      · have hkt : inK low high m = true := hk
        rw [hkt, if_pos rfl] at HTF
        go_wp2_with (first | (go_at_call 36; refine (l01In _ _ _ _).mono ?_; rintro e w' ⟨rfl, rfl⟩) | (at_builtin; refine wpList_apS ((unhide how).alloc _) w'.heap.size 0 1 1 [m] rfl (rm_new w' m) (by simp only [List.length_cons, List.length_nil]; omega) (by simp; omega) rfl _ _ rfl rfl rfl ?_; intro v' w'' ho hg; have HO : Hid (w''.ownsRow w.heap.size 62 3 v' ((ms.take (j + 1)).filter (inK low high)).length (flat ((ms.take (j + 1)).filter (inK low high)))) := hide (by rw [unhide HTF]; exact ho); have HB := hide (below_own ((unhide hbl).alloc hbs _) ((unhide how).alloc _) hg (Nat.le_refl _) (by simp; omega)); clear ho hg))
        go_roundw
        case rel => exact ⟨j + 1, by omega, by go_num, HO, HB⟩
        case measure => simp [intOf]; omega
    · obtain rfl : j = n := by omega
      have hl := lst_own rfl (unhide how)
      have e : ms.take j = ms := List.take_of_length_le (by rw [unhide HN]; exact Nat.le_refl _)
      rw [e] at hl
      have HL := hide hl
      clear hl
      go_wp2_with fail
      go_ret2
      exact ⟨_, rfl, unhide hbl, unhide HL⟩
set_option maxHeartbeats 4000000 in
theorem implRange (g off : Nat) (ms : List R) (cap : Nat) (low high : Int) (w : World) (hcap : cap = ms.length) (hm : ms.length ≤ 1048576) (hr : RM w (some ⟨g, off, none⟩) ms) :
    Calls Try.prog 12 #[.slice (some ⟨g, off, none⟩) ms.length cap, .int .i64 low, .int .i64 high] w fun e w' => ∃ v, e = .returned (.tuple #[v, .int .i64 (codeS ms)]) ∧ Below w.heap.size w w' ∧ LstV w' v (rangeA ms low high) w.heap.size w'.heap.size := by
  subst hcap
  have HR := hide hr
  clear hr
  have HBA : Hid (Below w.heap.size w ((w.alloc (.cells #[.int .i64 low] 3)).alloc (.cells #[.int .i64 high] 3))) := hide (((Below.refl _ _).alloc (Nat.le_refl _) _).alloc ((Below.refl w.heap.size w).alloc (Nat.le_refl _) _).size _)
  have CL : Hid (((w.alloc (.cells #[.int .i64 low] 3)).alloc (.cells #[.int .i64 high] 3)).cell? ⟨w.heap.size, 0, none⟩ = some (.int .i64 low)) := hide (by rw [World.cell?_alloc_lt _ _ _ (by simp), World.cell?_alloc_new]; rfl)
  have CH : Hid (((w.alloc (.cells #[.int .i64 low] 3)).alloc (.cells #[.int .i64 high] 3)).cell? ⟨w.heap.size + 1, 0, none⟩ = some (.int .i64 high)) := hide (by have := World.cell?_alloc_new (w.alloc (.cells #[.int .i64 low] 3)) #[.int .i64 high] 3 0; simp only [World.size_alloc] at this; rw [this]; rfl)
  have HSZ : Hid (((w.alloc (.cells #[.int .i64 low] 3)).alloc (.cells #[.int .i64 high] 3)).heap.size = w.heap.size + 2) := hide (by simp)
  by_cases hc : codeS ms = 0
  rotate_left
  · have h1 : rangeA ms low high = [] := by unfold rangeA; rw [if_neg hc]
    rw [h1]
    have hcb : (codeS ms == 0) = false := by simpa using hc
    clear h1
    go_enter Try.func12, Try.ntmps12
    go_wp2_with fail
    refine (setCode _ ms _ _ hm ((unhide HR).below (unhide HBA))).mono ?_
    rintro e w1 ⟨rfl, b1⟩
    have hb1 := hide ((unhide HBA).trans (b1.mono (unhide HBA).size))
    clear b1
    go_wp2_with fail
    go_ret2
    exact ⟨_, rfl, unhide hb1, lstV_nil _ _ _ _ _⟩
  have HC := hide hc
  have HS := hide (code_set hc)
  have h64 := setB_len (code_set hc)
  have hl1 := placeP_le (atKey low) ms
  have hl2 := placeP_le (overKey high) ms
  have h1 : rangeA ms low high = (ms.drop (min (place ms low) (placeP (overKey high) ms))).take (placeP (overKey high) ms - min (place ms low) (placeP (overKey high) ms)) := by unfold rangeA; rw [if_pos hc, range_part (unhide HS)]
  rw [h1, hc]
  clear h1 hc
  obtain ⟨f, hf⟩ : ∃ f, placeP (atKey low) ms = f := ⟨_, rfl⟩
  obtain ⟨t, ht⟩ : ∃ t, placeP (overKey high) ms = t := ⟨_, rfl⟩
  have HFF := hide hf
  have HTT := hide ht
  have hf' : place ms low = f := hf
  rw [hf] at hl1
  rw [ht] at hl2
  rw [hf', ht]
  clear hf ht hf'
  obtain ⟨L, hL⟩ : ∃ L, (ms.drop (min f t)).take (t - min f t) = L := ⟨_, rfl⟩
  rw [hL]
  obtain ⟨n, hn⟩ : ∃ n, ms.length = n := ⟨_, rfl⟩
  have HN := hide hn
  rw [hn] at hl1 hl2 hm h64 ⊢
  clear hn
  have f0 : (0 : Int) ≤ (f : Int) := by omega
  have f1 : (f : Int) ≤ (n : Int) := by omega
  have t1 : (t : Int) ≤ (n : Int) := by omega
  have t0 : (0 : Int) ≤ (t : Int) := by omega
  have hmf : ∀ (fn : Fn) (first cap : Array Value) (w : World), (Instr.makeFunc fn first cap).run Try.prog w = .ok (.func fn first cap) w := fun _ _ _ _ => rfl
  by_cases hft : f ≤ t
  · have hm1 : min f t = f := by omega
    rw [hm1] at hL
    have hfi : (f : Int) ≤ (t : Int) := by omega
    have hfn : ¬ (t : Int) < (f : Int) := by omega
    clear hm1
    by_cases hnf : n = f
    · subst hnf
      obtain rfl : n = t := by omega
      have LLN : Hid (L.length = 0) := hide (by rw [← hL]; simp)
      have RD : Hid (∀ W, RM W (some ⟨g, off, none⟩) ms → RM W (some ⟨g, off, none⟩) L) := hide (fun W h => .inl (List.eq_nil_of_length_eq_zero (unhide LLN)))
      clear hL
      go_enter Try.func12, Try.ntmps12
      go_wp2_with fail
      refine (by have := setCode (some ⟨g, off, none⟩) ms n _ (by rw [unhide HN]; exact hm) ((unhide HR).below (unhide HBA)); rw [unhide HN, unhide HC] at this; exact this : Calls Try.prog 38 #[.slice (some ⟨g, off, none⟩) n n] _ _).mono ?_
      rintro e w1 ⟨rfl, b1⟩
      have hs := (unhide HSZ)
      have hb1 := hide ((unhide HBA).trans (b1.mono (unhide HBA).size))
      have CL1 := hide ((b1.cell (p := ⟨w.heap.size, 0, none⟩) (by rw [hs]; show w.heap.size < _; omega)).trans (unhide CL))
      have CH1 := hide ((b1.cell (p := ⟨w.heap.size + 1, 0, none⟩) (by rw [hs]; show w.heap.size + 1 < _; omega)).trans (unhide CH))
      clear b1 hs
      go_wp2_with fail
      refine (by have := firstLo w.heap.size g off low ms n w1 ((unhide HR).below (unhide hb1)) (unhide HS) (unhide CL1); rw [unhide HN, unhide HFF] at this; exact this : Calls Try.prog 39 #[.slice (some ⟨g, off, none⟩) n n, .func (.func 40) #[] #[.pointer (some ⟨w.heap.size, 0, none⟩)]] w1 _).mono ?_
      rintro e w2 ⟨rfl, b2⟩
      have hb2 := hide ((unhide hb1).trans (b2.mono (unhide hb1).size))
      have CH2 := hide ((b2.cell (p := ⟨w.heap.size + 1, 0, none⟩) (World.block_lt_of_cell? _ _ (unhide CH1))).trans (unhide CH1))
      clear b2
      go_wp2_with fail
      refine (by have := firstHi (w.heap.size + 1) g off high ms n w2 ((unhide HR).below (unhide hb2)) (unhide HS) (unhide CH2); rw [unhide HN, unhide HTT] at this; exact this : Calls Try.prog 39 #[.slice (some ⟨g, off, none⟩) n n, .func (.func 41) #[] #[.pointer (some ⟨w.heap.size + 1, 0, none⟩)]] w2 _).mono ?_
      rintro e w3 ⟨rfl, b3⟩
      have hb3 := hide ((unhide hb2).trans (b3.mono (unhide hb2).size))
      clear b3
      go_wp2_with fail
      refine (copied g _ L _ _ w3 (unhide LLN) (by rw [unhide LLN]; omega) (unhide RD w3 ((unhide HR).below (unhide hb3)))).mono ?_
      rintro e w6 ⟨v, rfl, b6, l6⟩
      have hb6 := hide ((unhide hb3).trans (b6.mono (unhide hb3).size))
      have HL := hide (l6.mono (unhide hb3).size (Nat.le_refl _))
      clear b6 l6
      go_wp2_with fail
      go_ret2
      exact ⟨_, rfl, unhide hb6, unhide HL⟩
    · have LLN : Hid (L.length = t - f) := hide (by rw [← hL, List.length_take, List.length_drop, unhide HN]; omega)
      have RD : Hid (∀ W, RM W (some ⟨g, off, none⟩) ms → RM W (some ⟨g, off + f * 3, none⟩) L) := hide (fun W h => by rw [← hL]; exact h.part f (t - f))
      clear hL
      go_enter Try.func12, Try.ntmps12
      go_wp2_with fail
      refine (by have := setCode (some ⟨g, off, none⟩) ms n _ (by rw [unhide HN]; exact hm) ((unhide HR).below (unhide HBA)); rw [unhide HN, unhide HC] at this; exact this : Calls Try.prog 38 #[.slice (some ⟨g, off, none⟩) n n] _ _).mono ?_
      rintro e w1 ⟨rfl, b1⟩
      have hs := (unhide HSZ)
      have hb1 := hide ((unhide HBA).trans (b1.mono (unhide HBA).size))
      have CL1 := hide ((b1.cell (p := ⟨w.heap.size, 0, none⟩) (by rw [hs]; show w.heap.size < _; omega)).trans (unhide CL))
      have CH1 := hide ((b1.cell (p := ⟨w.heap.size + 1, 0, none⟩) (by rw [hs]; show w.heap.size + 1 < _; omega)).trans (unhide CH))
      clear b1 hs
      go_wp2_with fail
      refine (by have := firstLo w.heap.size g off low ms n w1 ((unhide HR).below (unhide hb1)) (unhide HS) (unhide CL1); rw [unhide HN, unhide HFF] at this; exact this : Calls Try.prog 39 #[.slice (some ⟨g, off, none⟩) n n, .func (.func 40) #[] #[.pointer (some ⟨w.heap.size, 0, none⟩)]] w1 _).mono ?_
      rintro e w2 ⟨rfl, b2⟩
      have hb2 := hide ((unhide hb1).trans (b2.mono (unhide hb1).size))
      have CH2 := hide ((b2.cell (p := ⟨w.heap.size + 1, 0, none⟩) (World.block_lt_of_cell? _ _ (unhide CH1))).trans (unhide CH1))
      clear b2
      go_wp2_with fail
      refine (by have := firstHi (w.heap.size + 1) g off high ms n w2 ((unhide HR).below (unhide hb2)) (unhide HS) (unhide CH2); rw [unhide HN, unhide HTT] at this; exact this : Calls Try.prog 39 #[.slice (some ⟨g, off, none⟩) n n, .func (.func 41) #[] #[.pointer (some ⟨w.heap.size + 1, 0, none⟩)]] w2 _).mono ?_
      rintro e w3 ⟨rfl, b3⟩
      have hb3 := hide ((unhide hb2).trans (b3.mono (unhide hb2).size))
      clear b3
      go_wp2_with fail
      refine (copied g _ L _ _ w3 (unhide LLN) (by rw [unhide LLN]; omega) (unhide RD w3 ((unhide HR).below (unhide hb3)))).mono ?_
      rintro e w6 ⟨v, rfl, b6, l6⟩
      have hb6 := hide ((unhide hb3).trans (b6.mono (unhide hb3).size))
      have HL := hide (l6.mono (unhide hb3).size (Nat.le_refl _))
      clear b6 l6
      go_wp2_with fail
      go_ret2
      exact ⟨_, rfl, unhide hb6, unhide HL⟩
  · have hm1 : min f t = t := by omega
    rw [hm1, Nat.sub_self] at hL
    have hfi : (t : Int) < (f : Int) := by omega
    have hfn : ¬ (f : Int) ≤ (t : Int) := by omega
    have hft2 : ¬ (f : Int) < (t : Int) := by omega
    have hft3 : (t : Int) ≤ (f : Int) := by omega
    have htn : ¬ n = t := by omega
    clear hm1
    have LLN : Hid (L.length = 0) := hide (by rw [← hL]; simp)
    have RD : Hid (∀ W, RM W (some ⟨g, off, none⟩) ms → RM W (some ⟨g, off + t * 3, none⟩) L) := hide (fun W h => .inl (List.eq_nil_of_length_eq_zero (unhide LLN)))
    clear hL
    go_enter Try.func12, Try.ntmps12
    go_wp2_with fail
    refine (by have := setCode (some ⟨g, off, none⟩) ms n _ (by rw [unhide HN]; exact hm) ((unhide HR).below (unhide HBA)); rw [unhide HN, unhide HC] at this; exact this : Calls Try.prog 38 #[.slice (some ⟨g, off, none⟩) n n] _ _).mono ?_
    rintro e w1 ⟨rfl, b1⟩
    have hs := (unhide HSZ)
    have hb1 := hide ((unhide HBA).trans (b1.mono (unhide HBA).size))
    have CL1 := hide ((b1.cell (p := ⟨w.heap.size, 0, none⟩) (by rw [hs]; show w.heap.size < _; omega)).trans (unhide CL))
    have CH1 := hide ((b1.cell (p := ⟨w.heap.size + 1, 0, none⟩) (by rw [hs]; show w.heap.size + 1 < _; omega)).trans (unhide CH))
    clear b1 hs
    go_wp2_with fail
    refine (by have := firstLo w.heap.size g off low ms n w1 ((unhide HR).below (unhide hb1)) (unhide HS) (unhide CL1); rw [unhide HN, unhide HFF] at this; exact this : Calls Try.prog 39 #[.slice (some ⟨g, off, none⟩) n n, .func (.func 40) #[] #[.pointer (some ⟨w.heap.size, 0, none⟩)]] w1 _).mono ?_
    rintro e w2 ⟨rfl, b2⟩
    have hb2 := hide ((unhide hb1).trans (b2.mono (unhide hb1).size))
    have CH2 := hide ((b2.cell (p := ⟨w.heap.size + 1, 0, none⟩) (World.block_lt_of_cell? _ _ (unhide CH1))).trans (unhide CH1))
    clear b2
    go_wp2_with fail
    refine (by have := firstHi (w.heap.size + 1) g off high ms n w2 ((unhide HR).below (unhide hb2)) (unhide HS) (unhide CH2); rw [unhide HN, unhide HTT] at this; exact this : Calls Try.prog 39 #[.slice (some ⟨g, off, none⟩) n n, .func (.func 41) #[] #[.pointer (some ⟨w.heap.size + 1, 0, none⟩)]] w2 _).mono ?_
    rintro e w3 ⟨rfl, b3⟩
    have hb3 := hide ((unhide hb2).trans (b3.mono (unhide hb2).size))
    clear b3
    go_wp2_with fail
    refine (copied g _ L _ _ w3 (unhide LLN) (by rw [unhide LLN]; omega) (unhide RD w3 ((unhide HR).below (unhide hb3)))).mono ?_
    rintro e w6 ⟨v, rfl, b6, l6⟩
    have hb6 := hide ((unhide hb3).trans (b6.mono (unhide hb3).size))
    have HL := hide (l6.mono (unhide hb3).size (Nat.le_refl _))
    clear b6 l6
    go_wp2_with fail
    go_ret2
    exact ⟨_, rfl, unhide hb6, unhide HL⟩
end St
end Go.Proofs.Ytmelbilepfnmjak
