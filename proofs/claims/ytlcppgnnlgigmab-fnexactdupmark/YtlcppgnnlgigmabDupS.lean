/-
  The model's contracts of marks: l10Ask, l10Key, DupKey, l10Seen, DupSeen.
-/
import Derived.Test.YtlcppgnnlgigmabDupI
import Derived.Laws.BytesArg
import Derived.Laws.BitsAllLaws
namespace Go.Proofs.Ytlcppgnnlgigmab
open Go.ChangeShapes Go.WideShapes Go.ChangeAt Go.RowKit
set_option linter.unusedVariables false
set_option linter.unusedSimpArgs false
set_option maxRecDepth 100000
attribute [local go_sem ↓] Go.wp_at_zero Go.wp_at_succ
namespace Du
open W1 Tu St
theorem or16 {x y : Int} (hx0 : 0 ≤ x) (hx1 : x ≤ 255) (hy0 : 0 ≤ y) (hy1 : y ≤ 65535) : bits BinOp.or IntKind.i64 (x * 65536) y = 65536 * x + y := by
  obtain ⟨X, rfl⟩ := Int.eq_ofNat_of_zero_le hx0
  obtain ⟨Y, rfl⟩ := Int.eq_ofNat_of_zero_le hy0
  have e : ((X : Int) * 65536) = ((2 ^ 16 * X : Nat) : Int) := by omega
  rw [e]
  show IntKind.i64.wrap ((BitVec.ofInt 64 ((2 ^ 16 * X : Nat) : Int) ||| BitVec.ofInt 64 (Y : Int)).toNat : Int) = _
  rw [BitVec.toNat_or, ofInt_u64 (2 ^ 16 * X) (by omega), ofInt_u64 Y (by omega), ← Nat.two_pow_add_eq_or_of_lt (by omega), IntWalk.i64_left]
  unfold wrap64
  omega
set_option maxHeartbeats 1000000 in
theorem l10Ask (og sq : Int) (w : World) : Calls Try.prog 26 #[.int .i64 og, .int .i64 sq] w fun e w' => e = .returned (.bool (askB og sq)) ∧ w' = w := by
  cases h1 : inB og 1 8
  rotate_left
  cases h2 : inB sq 0 65535
  all_goals
    go_enter Try.func26, Try.ntmps26
    go_wp2_with (first | (go_at_call 50; refine (l01Addr _ _).mono ?_; rintro e w' ⟨rfl, rfl⟩) | (go_at_call 36; refine (l01In _ _ _ _).mono ?_; rintro e w' ⟨rfl, rfl⟩))
    go_ret
    refine ⟨ret_bool ?_, rfl⟩
    unfold askB
    simp_all
set_option maxHeartbeats 1000000 in
theorem l10Key (og sq : Int) (w : World) (h : askB og sq = true) : Calls Try.prog 27 #[.int .i64 og, .int .i64 sq] w fun e w' => e = .returned (.int .i64 (keyD og sq)) ∧ w' = w := by
  have hb := ask_bounds h
  have hor : bits BinOp.or IntKind.i64 (og * 65536) sq = keyD og sq := or16 (by omega) (by omega) (by omega) (by omega)
  clear h
  generalize keyD og sq = K at *
  go_enter Try.func27, Try.ntmps27
  go_wp2
  go_ret
  exact ⟨rfl, rfl⟩
set_option maxHeartbeats 1000000 in
theorem specKey (og sq : Int) (w : World) : Calls Try.prog 8 #[.int .i64 og, .int .i64 sq] w fun e w' => e = .returned (.tuple #[.int .i64 (if askB og sq = true then keyD og sq else 0), .int .i64 (if askB og sq = true then 0 else 4)]) ∧ w' = w := by
  cases hh : askB og sq
  · have HH := hide hh
    clear hh
    go_enter Try.func8, Try.ntmps8
    go_wp2_with fail
    refine (l10Ask og sq _).mono ?_
    rintro e w1 ⟨rfl, rfl⟩
    rw [unhide HH]
    go_wp2_with fail
    go_ret2
    exact ⟨rfl, rfl⟩
  · have HH := hide hh
    clear hh
    go_enter Try.func8, Try.ntmps8
    go_wp2_with fail
    refine (l10Ask og sq _).mono ?_
    rintro e w1 ⟨rfl, rfl⟩
    rw [unhide HH]
    go_wp2_with fail
    refine (l10Key og sq _ (unhide HH)).mono ?_
    rintro e w2 ⟨rfl, rfl⟩
    go_wp2_with fail
    go_ret2
    exact ⟨rfl, rfl⟩
theorem sTup {w : World} {b : Nat} {key til val : Int} (h : Bx w b ⟨key, til, val⟩) :
    Bx w b ⟨key, til, val⟩ ∧ w.cell? ⟨b, 0, none⟩ = some (.int .i64 key) ∧ w.cell? ⟨b, 1, none⟩ = some (.int .i64 til) ∧ w.cell? ⟨b, 2, none⟩ = some (.int .i64 val) := ⟨h, h⟩
/-- What is answered of a record that is there. -/
def valD (ms : List R) (k : Int) : Int := (ms.getD (place ms k) R.zero).val
set_option maxHeartbeats 2000000 in
theorem l10Seen (g off : Nat) (ms : List R) (cap : Nat) (og sq now : Int) (w : World) (hm : ms.length ≤ 4096) (ha : askB og sq = true) (hr : RM w (some ⟨g, off, none⟩) ms) :
    Calls Try.prog 31 #[.slice (some ⟨g, off, none⟩) ms.length cap, .int .i64 og, .int .i64 sq, .int .i64 now] w fun e w' => e = .returned (.tuple #[.bool (lastB ms (keyD og sq) now), .bool (lastB ms (keyD og sq) now && (valD ms (keyD og sq) == 1))]) ∧ Below w.heap.size w w' := by
  have HR := hide hr
  have HQ := hide ha
  clear hr ha
  obtain ⟨K, hK⟩ : ∃ K, keyD og sq = K := ⟨_, rfl⟩
  rw [hK]
  have HK := hide hK
  clear hK
  cases ht : thereB ms K
  · have e1 : lastB ms K now = false := by unfold lastB; rw [ht]; rfl
    rw [e1]
    have HT := hide ht
    clear ht e1
    go_enter Try.func31, Try.ntmps31
    go_wp2_with fail
    refine (l10Key og sq _ (unhide HQ)).mono ?_
    rintro e w0 ⟨rfl, rfl⟩
    rw [unhide HK]
    go_wp2_with fail
    refine (l03Find g off ms cap K _ hm (unhide HR)).mono ?_
    rintro e w1 ⟨rfl, b1⟩
    rw [unhide HT, if_neg (by simp)]
    unfold R.value R.zero
    have HB := hide (b1.alloc b1.size (.cells #[.int .i64 0, .int .i64 0, .int .i64 0] 58))
    clear b1
    go_wp2_with fail
    generalize w1.alloc (.cells #[.int .i64 0, .int .i64 0, .int .i64 0] 58) = W0 at *
    refine wp_region_noPanic ?_
    refine wp_region_held_drew (S := fun w' => True) (by kernel_rfl) trivial (fun hHeld => ?_)
    (refine Rg.tk (i := 0) (d := 28) (v := ?_) rfl rfl (by kernel_rfl) (by kernel_rfl) (by kernel_rfl) (fun _ _ _ h => h) (by rfl) ?_ (by assumption) ?_; rotate_left; (focus (intro w0 hSw; (try dsimp only at hSw); go_simp; (try with_reducible rfl))); (try simp only [Act.put, List.setIfInBounds_toArray, List.set_cons_zero, List.set_cons_succ]))
    (refine Rg.tk (i := 1) (d := 29) (v := ?_) rfl rfl (by kernel_rfl) (by kernel_rfl) (by kernel_rfl) (fun _ _ _ h => h) (by rfl) ?_ (by assumption) ?_; rotate_left; (focus (intro w0 hSw; (try dsimp only at hSw); go_simp; (try with_reducible rfl))); (try simp only [Act.put, List.setIfInBounds_toArray, List.set_cons_zero, List.set_cons_succ]))
    (refine Rg.tk (i := 2) (d := 30) (v := ?_) rfl rfl (by kernel_rfl) (by kernel_rfl) (by kernel_rfl) (fun _ _ _ h => h) (by rfl) ?_ (by assumption) ?_; rotate_left; (focus (intro w0 hSw; (try dsimp only at hSw); go_simp; (try with_reducible rfl))); (try simp only [Act.put, List.setIfInBounds_toArray, List.set_cons_zero, List.set_cons_succ]))
    (refine Rg.sk (i := 3) (d := 31) rfl rfl (by kernel_rfl) (by kernel_rfl) (by kernel_rfl) (fun _ _ _ h => h) (by first | kernel_rfl | rfl) (by assumption) ?_; (try simp only [Act.put, List.setIfInBounds_toArray, List.set_cons_zero, List.set_cons_succ]))
    (refine Rg.sk (i := 4) (d := 32) rfl rfl (by kernel_rfl) (by kernel_rfl) (by kernel_rfl) (fun _ _ _ h => h) (by first | kernel_rfl | rfl) (by assumption) ?_; (try simp only [Act.put, List.setIfInBounds_toArray, List.set_cons_zero, List.set_cons_succ]))
    (refine Rg.sk (i := 5) (d := 33) rfl rfl (by kernel_rfl) (by kernel_rfl) (by kernel_rfl) (fun _ _ _ h => h) (by first | kernel_rfl | rfl) (by assumption) ?_; (try simp only [Act.put, List.setIfInBounds_toArray, List.set_cons_zero, List.set_cons_succ]))
    (refine Rg.tk (i := 6) (d := 34) (v := ?_) rfl rfl (by kernel_rfl) (by kernel_rfl) (by kernel_rfl) (fun _ _ _ h => h) (by rfl) ?_ (by assumption) ?_; rotate_left; (focus (intro w0 hSw; (try dsimp only at hSw); go_simp; (try with_reducible rfl))); (try simp only [Act.put, List.setIfInBounds_toArray, List.set_cons_zero, List.set_cons_succ]))
    (refine Rg.tk (i := 7) (d := 8) (v := ?_) rfl rfl (by kernel_rfl) (by kernel_rfl) (by kernel_rfl) (fun _ _ _ h => h) (by rfl) ?_ (by assumption) ?_; rotate_left; (focus (intro w0 hSw; (try dsimp only at hSw); go_simp; (try with_reducible rfl))); (try simp only [Act.put, List.setIfInBounds_toArray, List.set_cons_zero, List.set_cons_succ]))
    (refine Rg.tk (i := 8) (d := 9) (v := ?_) rfl rfl (by kernel_rfl) (by kernel_rfl) (by kernel_rfl) (fun _ _ _ h => h) (by rfl) ?_ (by assumption) ?_; rotate_left; (focus (intro w0 hSw; (try dsimp only at hSw); go_simp; (try with_reducible rfl))); (try simp only [Act.put, List.setIfInBounds_toArray, List.set_cons_zero, List.set_cons_succ]))
    refine wpAnyH_done (by kernel_rfl) (NoPanic.normal ?_) _
    clear hHeld
    go_wp2_with fail
    go_ret2
    exact ⟨rfl, (unhide HB).drew⟩
  · obtain ⟨m, hmm⟩ : ∃ m, ms.getD (place ms K) R.zero = m := ⟨_, rfl⟩
    have e1 : lastB ms K now = decide (now < m.til) := by unfold lastB; rw [ht, hmm]; rfl
    have e2 : valD ms K = m.val := by unfold valD; rw [hmm]
    rw [e1, e2]
    have HT := hide ht
    have HM := hide hmm
    clear ht e1 e2 hmm
    obtain ⟨key, til, val⟩ := m
    dsimp only
    by_cases hl : now < til
    · rw [decide_eq_true hl]
      go_enter Try.func31, Try.ntmps31
      go_wp2_with fail
      refine (l10Key og sq _ (unhide HQ)).mono ?_
      rintro e w0 ⟨rfl, rfl⟩
      rw [unhide HK]
      go_wp2_with fail
      refine (l03Find g off ms cap K _ hm (unhide HR)).mono ?_
      rintro e w1 ⟨rfl, b1⟩
      rw [unhide HT, if_pos rfl, unhide HM]
      unfold R.value
      dsimp only
      have HB := hide (b1.alloc b1.size (.cells #[.int .i64 key, .int .i64 til, .int .i64 val] 58))
      have HX : Hid (Bx (w1.alloc (.cells #[.int .i64 key, .int .i64 til, .int .i64 val] 58)) w1.heap.size ⟨key, til, val⟩) := hide (bx_new w1 ⟨key, til, val⟩ _)
      clear b1
      go_wp2_with fail
      generalize w1.alloc (.cells #[.int .i64 key, .int .i64 til, .int .i64 val] 58) = W0 at *
      refine wp_region_noPanic ?_
      refine wp_region_held_drew (S := fun w' => Bx w' w1.heap.size ⟨key, til, val⟩ ∧ w'.cell? ⟨w1.heap.size, 0, none⟩ = some (.int .i64 key) ∧ w'.cell? ⟨w1.heap.size, 1, none⟩ = some (.int .i64 til) ∧ w'.cell? ⟨w1.heap.size, 2, none⟩ = some (.int .i64 val)) (by kernel_rfl) (sTup (unhide HX).drew) (fun hHeld => ?_)
      (refine Rg.tk (i := 0) (d := 28) (v := ?_) rfl rfl (by kernel_rfl) (by kernel_rfl) (by kernel_rfl) (fun _ _ _ h => h) (by rfl) ?_ (by assumption) ?_; rotate_left; (focus (intro w0 hSw; (try dsimp only at hSw); go_simp; (try with_reducible rfl))); (try simp only [Act.put, List.setIfInBounds_toArray, List.set_cons_zero, List.set_cons_succ]))
      (refine Rg.tk (i := 1) (d := 29) (v := ?_) rfl rfl (by kernel_rfl) (by kernel_rfl) (by kernel_rfl) (fun _ _ _ h => h) (by rfl) ?_ (by assumption) ?_; rotate_left; (focus (intro w0 hSw; (try dsimp only at hSw); go_simp; (try with_reducible rfl))); (try simp only [Act.put, List.setIfInBounds_toArray, List.set_cons_zero, List.set_cons_succ]))
      (refine Rg.tk (i := 2) (d := 30) (v := ?_) rfl rfl (by kernel_rfl) (by kernel_rfl) (by kernel_rfl) (fun _ _ _ h => h) (by rfl) ?_ (by assumption) ?_; rotate_left; (focus (intro w0 hSw; (try dsimp only at hSw); go_simp; (try with_reducible rfl))); (try simp only [Act.put, List.setIfInBounds_toArray, List.set_cons_zero, List.set_cons_succ]))
      (refine Rg.tk (i := 3) (d := 31) (v := ?_) rfl rfl (by kernel_rfl) (by kernel_rfl) (by kernel_rfl) (fun _ _ _ h => h) (by rfl) ?_ (by assumption) ?_; rotate_left; (focus (intro w0 hSw; (try dsimp only at hSw); go_simp; (try with_reducible rfl))); (try simp only [Act.put, List.setIfInBounds_toArray, List.set_cons_zero, List.set_cons_succ]))
      (refine Rg.tk (i := 4) (d := 32) (v := ?_) rfl rfl (by kernel_rfl) (by kernel_rfl) (by kernel_rfl) (fun _ _ _ h => h) (by rfl) ?_ (by assumption) ?_; rotate_left; (focus (intro w0 hSw; (try dsimp only at hSw); go_simp; (try with_reducible rfl))); (try simp only [Act.put, List.setIfInBounds_toArray, List.set_cons_zero, List.set_cons_succ]))
      (refine Rg.tk (i := 5) (d := 33) (v := ?_) rfl rfl (by kernel_rfl) (by kernel_rfl) (by kernel_rfl) (fun _ _ _ h => h) (by rfl) ?_ (by assumption) ?_; rotate_left; (focus (intro w0 hSw; (try dsimp only at hSw); go_simp; (try with_reducible rfl))); (try simp only [Act.put, List.setIfInBounds_toArray, List.set_cons_zero, List.set_cons_succ]))
      (refine Rg.tk (i := 6) (d := 34) (v := ?_) rfl rfl (by kernel_rfl) (by kernel_rfl) (by kernel_rfl) (fun _ _ _ h => h) (by rfl) ?_ (by assumption) ?_; rotate_left; (focus (intro w0 hSw; (try dsimp only at hSw); go_simp; (try with_reducible rfl))); (try simp only [Act.put, List.setIfInBounds_toArray, List.set_cons_zero, List.set_cons_succ]))
      (refine Rg.tk (i := 7) (d := 8) (v := ?_) rfl rfl (by kernel_rfl) (by kernel_rfl) (by kernel_rfl) (fun _ _ _ h => h) (by rfl) ?_ (by assumption) ?_; rotate_left; (focus (intro w0 hSw; (try dsimp only at hSw); go_simp; (try with_reducible rfl))); (try simp only [Act.put, List.setIfInBounds_toArray, List.set_cons_zero, List.set_cons_succ]))
      (refine Rg.tk (i := 8) (d := 9) (v := ?_) rfl rfl (by kernel_rfl) (by kernel_rfl) (by kernel_rfl) (fun _ _ _ h => h) (by rfl) ?_ (by assumption) ?_; rotate_left; (focus (intro w0 hSw; (try dsimp only at hSw); go_simp; (try with_reducible rfl))); (try simp only [Act.put, List.setIfInBounds_toArray, List.set_cons_zero, List.set_cons_succ]))
      refine wpAnyH_done (by kernel_rfl) (NoPanic.normal ?_) _
      clear hHeld
      go_wp2_with fail
      go_ret2
      exact ⟨rfl, (unhide HB).drew⟩
    · have hlf : decide (now < til) = false := decide_eq_false hl
      rw [hlf]
      go_enter Try.func31, Try.ntmps31
      go_wp2_with fail
      refine (l10Key og sq _ (unhide HQ)).mono ?_
      rintro e w0 ⟨rfl, rfl⟩
      rw [unhide HK]
      go_wp2_with fail
      refine (l03Find g off ms cap K _ hm (unhide HR)).mono ?_
      rintro e w1 ⟨rfl, b1⟩
      rw [unhide HT, if_pos rfl, unhide HM]
      unfold R.value
      dsimp only
      have HB := hide (b1.alloc b1.size (.cells #[.int .i64 key, .int .i64 til, .int .i64 val] 58))
      clear b1
      go_wp2_with fail
      generalize w1.alloc (.cells #[.int .i64 key, .int .i64 til, .int .i64 val] 58) = W0 at *
      refine wp_region_noPanic ?_
      refine wp_region_held_drew (S := fun w' => True) (by kernel_rfl) trivial (fun hHeld => ?_)
      (refine Rg.tk (i := 0) (d := 28) (v := ?_) rfl rfl (by kernel_rfl) (by kernel_rfl) (by kernel_rfl) (fun _ _ _ h => h) (by rfl) ?_ (by assumption) ?_; rotate_left; (focus (intro w0 hSw; (try dsimp only at hSw); go_simp; (try with_reducible rfl))); (try simp only [Act.put, List.setIfInBounds_toArray, List.set_cons_zero, List.set_cons_succ]))
      (refine Rg.tk (i := 1) (d := 29) (v := ?_) rfl rfl (by kernel_rfl) (by kernel_rfl) (by kernel_rfl) (fun _ _ _ h => h) (by rfl) ?_ (by assumption) ?_; rotate_left; (focus (intro w0 hSw; (try dsimp only at hSw); go_simp; (try with_reducible rfl))); (try simp only [Act.put, List.setIfInBounds_toArray, List.set_cons_zero, List.set_cons_succ]))
      (refine Rg.tk (i := 2) (d := 30) (v := ?_) rfl rfl (by kernel_rfl) (by kernel_rfl) (by kernel_rfl) (fun _ _ _ h => h) (by rfl) ?_ (by assumption) ?_; rotate_left; (focus (intro w0 hSw; (try dsimp only at hSw); go_simp; (try with_reducible rfl))); (try simp only [Act.put, List.setIfInBounds_toArray, List.set_cons_zero, List.set_cons_succ]))
      (refine Rg.sk (i := 3) (d := 31) rfl rfl (by kernel_rfl) (by kernel_rfl) (by kernel_rfl) (fun _ _ _ h => h) (by first | kernel_rfl | rfl) (by assumption) ?_; (try simp only [Act.put, List.setIfInBounds_toArray, List.set_cons_zero, List.set_cons_succ]))
      (refine Rg.sk (i := 4) (d := 32) rfl rfl (by kernel_rfl) (by kernel_rfl) (by kernel_rfl) (fun _ _ _ h => h) (by first | kernel_rfl | rfl) (by assumption) ?_; (try simp only [Act.put, List.setIfInBounds_toArray, List.set_cons_zero, List.set_cons_succ]))
      (refine Rg.sk (i := 5) (d := 33) rfl rfl (by kernel_rfl) (by kernel_rfl) (by kernel_rfl) (fun _ _ _ h => h) (by first | kernel_rfl | rfl) (by assumption) ?_; (try simp only [Act.put, List.setIfInBounds_toArray, List.set_cons_zero, List.set_cons_succ]))
      (refine Rg.tk (i := 6) (d := 34) (v := ?_) rfl rfl (by kernel_rfl) (by kernel_rfl) (by kernel_rfl) (fun _ _ _ h => h) (by rfl) ?_ (by assumption) ?_; rotate_left; (focus (intro w0 hSw; (try dsimp only at hSw); go_simp; (try with_reducible rfl))); (try simp only [Act.put, List.setIfInBounds_toArray, List.set_cons_zero, List.set_cons_succ]))
      (refine Rg.tk (i := 7) (d := 8) (v := ?_) rfl rfl (by kernel_rfl) (by kernel_rfl) (by kernel_rfl) (fun _ _ _ h => h) (by rfl) ?_ (by assumption) ?_; rotate_left; (focus (intro w0 hSw; (try dsimp only at hSw); go_simp; (try with_reducible rfl))); (try simp only [Act.put, List.setIfInBounds_toArray, List.set_cons_zero, List.set_cons_succ]))
      (refine Rg.tk (i := 8) (d := 9) (v := ?_) rfl rfl (by kernel_rfl) (by kernel_rfl) (by kernel_rfl) (fun _ _ _ h => h) (by rfl) ?_ (by assumption) ?_; rotate_left; (focus (intro w0 hSw; (try dsimp only at hSw); go_simp; (try with_reducible rfl))); (try simp only [Act.put, List.setIfInBounds_toArray, List.set_cons_zero, List.set_cons_succ]))
      refine wpAnyH_done (by kernel_rfl) (NoPanic.normal ?_) _
      clear hHeld
      go_wp2_with fail
      go_ret2
      exact ⟨rfl, (unhide HB).drew⟩
set_option maxHeartbeats 2000000 in
theorem specSeen (g off : Nat) (ms : List R) (cap : Nat) (og sq now : Int) (w : World) (hm : ms.length ≤ 1048576) (hr : RM w (some ⟨g, off, none⟩) ms) :
    Calls Try.prog 11 #[.slice (some ⟨g, off, none⟩) ms.length cap, .int .i64 og, .int .i64 sq, .int .i64 now] w fun e w' => e = .returned (.tuple #[.bool (seenD ms og sq now), .bool (sentD ms og sq now), .int .i64 (codeD ms og sq)]) ∧ Below w.heap.size w w' := by
  have HR := hide hr
  clear hr
  have bad : ∀ c, codeD ms og sq = c → c ≠ 0 → seenD ms og sq now = false ∧ sentD ms og sq now = false := fun c hc h0 => by
    have e1 : seenD ms og sq now = false := by unfold seenD; rw [hc, decide_eq_false h0]; rfl
    exact ⟨e1, by unfold sentD; rw [e1]; rfl⟩
  by_cases hbig : (4096 : Int) < ms.length
  · have hc : codeD ms og sq = 2 := by unfold codeD; rw [code_long (by omega)]; rfl
    obtain ⟨q1, q2⟩ := bad _ hc (by omega)
    rw [hc, q1, q2]
    clear bad hc q1 q2
    go_enter Try.func11, Try.ntmps11
    go_wp2_with fail
    go_ret3
    exact ⟨rfl, Below.refl _ _⟩
  cases hs : setB ms
  · have hc : codeD ms og sq = 1 := by unfold codeD; rw [code_bad (by omega) hs]; rfl
    obtain ⟨q1, q2⟩ := bad _ hc (by omega)
    rw [hc, q1, q2]
    have HS := hide hs
    clear bad hc q1 q2 hs
    go_enter Try.func11, Try.ntmps11
    go_wp2_with fail
    refine (specOK _ ms cap _ hm (unhide HR)).mono ?_
    rintro e w1 ⟨rfl, b1⟩
    rw [unhide HS]
    have HB := hide b1
    clear b1
    go_wp2_with fail
    go_ret3
    exact ⟨rfl, unhide HB⟩
  have hc0 := code_zero hs
  cases ha : askB og sq
  · have hc : codeD ms og sq = 4 := by unfold codeD; rw [hc0, ha]; rfl
    obtain ⟨q1, q2⟩ := bad _ hc (by omega)
    rw [hc, q1, q2]
    have HS := hide hs
    have HA := hide ha
    clear bad hc q1 q2 hs ha hc0
    go_enter Try.func11, Try.ntmps11
    go_wp2_with fail
    refine (specOK _ ms cap _ hm (unhide HR)).mono ?_
    rintro e w1 ⟨rfl, b1⟩
    rw [unhide HS]
    have HB := hide b1
    clear b1
    go_wp2_with fail
    refine (l10Ask og sq _).mono ?_
    rintro e w2 ⟨rfl, rfl⟩
    rw [unhide HA]
    go_wp2_with fail
    go_ret3
    exact ⟨rfl, unhide HB⟩
  · have hc : codeD ms og sq = 0 := codeD_of hc0 ha
    have e1 : seenD ms og sq now = lastB ms (keyD og sq) now := by unfold seenD; rw [hc]; rfl
    have e2 : sentD ms og sq now = (lastB ms (keyD og sq) now && (valD ms (keyD og sq) == 1)) := by unfold sentD valD; rw [e1]; rfl
    rw [hc, e1, e2]
    have HS := hide hs
    have HA := hide ha
    clear bad hc hs ha hc0 e1 e2
    obtain ⟨t1, ht1⟩ : ∃ t1, lastB ms (keyD og sq) now = t1 := ⟨_, rfl⟩
    obtain ⟨t2, ht2⟩ : ∃ t2, (valD ms (keyD og sq) == 1) = t2 := ⟨_, rfl⟩
    rw [ht1, ht2]
    have HT1 := hide ht1
    have HT2 := hide ht2
    clear ht1 ht2
    go_enter Try.func11, Try.ntmps11
    go_wp2_with fail
    refine (specOK _ ms cap _ hm (unhide HR)).mono ?_
    rintro e w1 ⟨rfl, b1⟩
    rw [unhide HS]
    have HB := hide b1
    clear b1
    go_wp2_with fail
    refine (l10Ask og sq _).mono ?_
    rintro e w2 ⟨rfl, rfl⟩
    rw [unhide HA]
    go_wp2_with fail
    refine (l10Seen g off ms cap og sq now _ (by omega) (unhide HA) ((unhide HR).below (unhide HB))).mono ?_
    rintro e w3 ⟨rfl, b3⟩
    have HB3 := hide ((unhide HB).trans (b3.mono (unhide HB).size))
    clear b3
    rw [unhide HT1, unhide HT2]
    go_wp2_with fail
    go_ret3
    exact ⟨rfl, unhide HB3⟩
end Du
end Go.Proofs.Ytlcppgnnlgigmab
