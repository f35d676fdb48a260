/-
  The program's contracts of marks: a key put together and taken apart, whether a mark is one, the code, DupKey, DupSeen.
-/
import Derived.Test.YtlcppgnnlgigmaaDupM
import Derived.OwnWalk
namespace Go.Proofs.Ytlcppgnnlgigmaa
open Go.ChangeShapes Go.WideShapes Go.ChangeAt Go.RowKit
set_option linter.unusedVariables false
set_option linter.unusedSimpArgs false
set_option maxRecDepth 100000
attribute [local go_sem ↓] Go.wp_at_zero Go.wp_at_succ
namespace Du
open W1 Tu St
/-- A mark in a block. -/
def Bm (w : World) (b : Nat) (og sq : Int) : Prop := w.cell? ⟨b, 0, none⟩ = some (.int .i64 og) ∧ w.cell? ⟨b, 1, none⟩ = some (.int .i64 sq)
theorem Bm.lt {w : World} {b : Nat} {og sq : Int} (h : Bm w b og sq) : b < w.heap.size := World.block_lt_of_cell? _ _ h.1
theorem Bm.below {w w' : World} {b : Nat} {og sq : Int} (h : Bm w b og sq) (hb : Below w.heap.size w w') : Bm w' b og sq := ⟨(hb.cell h.lt).trans h.1, (hb.cell h.lt).trans h.2⟩
theorem Bm.drew {w : World} {b : Nat} {og sq : Int} (h : Bm w b og sq) : Bm w.drew b og sq := h
theorem bm_new (w : World) (og sq : Int) (t : Nat) : Bm (w.alloc (.cells #[.int .i64 og, .int .i64 sq] t)) w.heap.size og sq := by constructor <;> simp [World.cell?_alloc_new]
theorem bx_new (w : World) (m : R) (t : Nat) : Bx (w.alloc (.cells #[.int .i64 m.key, .int .i64 m.til, .int .i64 m.val] t)) w.heap.size m := by
  refine ⟨?_, ?_, ?_⟩ <;> simp [World.cell?_alloc_new]
set_option maxHeartbeats 1000000 in
theorem isMark (og sq : Int) (w : World) : Calls Try.prog 74 #[.agg #[.int .i64 og, .int .i64 sq]] w fun e w' => e = .returned (.bool (askB og sq)) ∧ Below w.heap.size w w' := by
  have HB : Hid (Below w.heap.size w (w.alloc (.cells #[.int .i64 og, .int .i64 sq] 110))) := hide ((Below.refl _ _).alloc (Nat.le_refl _) _)
  cases h1 : inB og 1 8
  rotate_left
  cases h2 : inB sq 0 65535
  all_goals
    go_enter Try.func74, Try.ntmps74
    go_wp2_with (first | (go_at_call 101; refine (isAddress _ _).mono ?_; rintro e w' ⟨rfl, rfl⟩) | (go_at_call 61; refine (isSeq _ _).mono ?_; rintro e w' ⟨rfl, rfl⟩))
    go_ret
    refine ⟨ret_bool ?_, unhide HB⟩
    unfold askB
    simp_all
set_option maxHeartbeats 1000000 in
theorem keyOfMark (og sq : Int) (w : World) (h0 : 0 ≤ og) (h1 : og ≤ 1000000) (h2 : 0 ≤ sq) (h3 : sq ≤ 1000000) : Calls Try.prog 67 #[.agg #[.int .i64 og, .int .i64 sq]] w fun e w' => e = .returned (.int .i64 (keyD og sq)) ∧ Below w.heap.size w w' := by
  have HB : Hid (Below w.heap.size w (w.alloc (.cells #[.int .i64 og, .int .i64 sq] 110))) := hide ((Below.refl _ _).alloc (Nat.le_refl _) _)
  unfold keyD
  go_enter Try.func67, Try.ntmps67
  go_wp2
  go_ret
  exact ⟨rfl, unhide HB⟩
set_option maxHeartbeats 1000000 in
theorem markOfKey (k : Int) (w : World) (h0 : 0 ≤ k) (h1 : k ≤ 1000000) : Calls Try.prog 73 #[.int .i64 k] w fun e w' => e = .returned (.agg #[.int .i64 (k.tdiv 65536), .int .i64 (k.tmod 65536)]) ∧ Below w.heap.size w w' := by
  have HB : Hid (Below w.heap.size w w) := hide (Below.refl _ _)
  have e1 : k.tdiv 65536 = k / 65536 := Int.tdiv_eq_ediv_of_nonneg h0
  have e2 : k.tmod 65536 = k % 65536 := Int.tmod_eq_emod_of_nonneg h0
  rw [e1, e2]
  go_enter Try.func73, Try.ntmps73
  go_wp2
  refine bodyPost_ret (v := .agg #[.int .i64 (k / 65536), .int .i64 (k % 65536)]) (by simp [results, Try.results73, go_sem]) rfl ⟨rfl, ?_⟩
  have hB := unhide HB
  (repeat (first | (with_reducible exact hB) | (with_reducible refine Below.drew ?_) | (with_reducible refine Below.setCell ?_ ?_ _; rotate_left; (first | exact Nat.le_refl _ | (simp; done) | (dsimp only; omega))) | (with_reducible refine Below.alloc ?_ ?_ _; rotate_left; (first | exact Nat.le_refl _ | omega | (simp [World.setCell]; omega)))))
set_option maxHeartbeats 1000000 in
theorem markValue (s : Bool) (w : World) : Calls Try.prog 68 #[.bool s] w fun e w' => e = .returned (.int .i64 (bitD s)) ∧ w' = w := by
  cases s
  all_goals
    go_enter Try.func68, Try.ntmps68
    go_wp2
    go_ret
    exact ⟨rfl, rfl⟩
set_option maxHeartbeats 2000000 in
theorem markCode (a : Option Addr) (ms : List R) (cap : Nat) (og sq : Int) (w : World) (hm : ms.length ≤ 1048576) (hr : RM w a ms) :
    Calls Try.prog 64 #[.slice a ms.length cap, .agg #[.int .i64 og, .int .i64 sq]] w fun e w' => e = .returned (.int .i64 (codeD ms og sq)) ∧ Below w.heap.size w w' := by
  have HB : Hid (Below w.heap.size w (w.alloc (.cells #[.int .i64 og, .int .i64 sq] 110))) := hide ((Below.refl _ _).alloc (Nat.le_refl _) _)
  have HV : Hid (Bm (w.alloc (.cells #[.int .i64 og, .int .i64 sq] 110)) w.heap.size og sq) := hide (bm_new _ _ _ _)
  have HR := hide hr
  clear hr
  obtain ⟨c, hc⟩ : ∃ c, codeS ms = c := ⟨_, rfl⟩
  by_cases h0 : c = 0
  · subst h0
    obtain ⟨t, ht⟩ : ∃ t, askB og sq = t := ⟨_, rfl⟩
    have HT : Hid (codeD ms og sq = if t = true then 0 else 4) := hide (by unfold codeD; rw [if_pos hc, ht])
    rw [unhide HT]
    have HC := hide hc
    have HA := hide ht
    clear hc ht
    go_enter Try.func64, Try.ntmps64
    go_wp2_with fail
    refine (setCode _ ms cap _ hm ((unhide HR).below (unhide HB))).mono ?_
    rintro e w1 ⟨rfl, b1⟩
    rw [unhide HC]
    have HB1 := hide ((unhide HB).trans (b1.mono (unhide HB).size))
    obtain ⟨d0, d1⟩ := (unhide HV).below b1
    clear b1
    go_wp2_with fail
    refine (isMark og sq _).mono ?_
    rintro e w2 ⟨rfl, b2⟩
    rw [unhide HA]
    have HB2 := hide ((unhide HB1).trans (b2.mono (unhide HB1).size))
    clear b2 d0 d1
    cases t
    all_goals
      go_wp2_with fail
      go_ret
      exact ⟨rfl, unhide HB2⟩
  · have HT : Hid (codeD ms og sq = c) := hide (by unfold codeD; rw [if_neg (by rw [hc]; exact h0), hc])
    rw [unhide HT]
    have hne : (c != 0) = true := by simpa using h0
    have HC := hide hc
    clear hc h0
    go_enter Try.func64, Try.ntmps64
    go_wp2_with fail
    refine (setCode _ ms cap _ hm ((unhide HR).below (unhide HB))).mono ?_
    rintro e w1 ⟨rfl, b1⟩
    rw [unhide HC]
    have HB1 := hide ((unhide HB).trans (b1.mono (unhide HB).size))
    clear b1
    go_wp2_with fail
    go_ret
    exact ⟨rfl, unhide HB1⟩
set_option maxHeartbeats 1000000 in
theorem implKey (og sq : Int) (w : World) : Calls Try.prog 22 #[.int .i64 og, .int .i64 sq] w fun e w' => e = .returned (.tuple #[.int .i64 (if askB og sq = true then keyD og sq else 0), .int .i64 (if askB og sq = true then 0 else 4)]) ∧ Below w.heap.size w w' := by
  have HB : Hid (Below w.heap.size w (w.alloc (.cells #[.int .i64 og, .int .i64 sq] 110))) := hide ((Below.refl _ _).alloc (Nat.le_refl _) _)
  have HV : Hid (Bm (w.alloc (.cells #[.int .i64 og, .int .i64 sq] 110)) w.heap.size og sq) := hide (bm_new _ _ _ _)
  cases hh : askB og sq
  · have HH := hide hh
    clear hh
    go_enter Try.func22, Try.ntmps22
    go_wp2_with fail
    refine (isMark og sq _).mono ?_
    rintro e w1 ⟨rfl, b1⟩
    rw [unhide HH]
    have HB1 := hide ((unhide HB).trans (b1.mono (unhide HB).size))
    clear b1
    go_wp2_with fail
    go_ret2
    exact ⟨rfl, unhide HB1⟩
  · have hb := ask_bounds hh
    have HH := hide hh
    clear hh
    go_enter Try.func22, Try.ntmps22
    go_wp2_with fail
    refine (isMark og sq _).mono ?_
    rintro e w1 ⟨rfl, b1⟩
    rw [unhide HH]
    have HB1 := hide ((unhide HB).trans (b1.mono (unhide HB).size))
    obtain ⟨d0, d1⟩ := (unhide HV).below b1
    clear b1
    go_wp2_with fail
    refine (keyOfMark og sq _ (by omega) (by omega) (by omega) (by omega)).mono ?_
    rintro e w2 ⟨rfl, b2⟩
    have HB2 := hide ((unhide HB1).trans (b2.mono (unhide HB1).size))
    clear b2
    go_wp2_with fail
    go_ret2
    exact ⟨rfl, unhide HB2⟩
theorem eqMark (o s o2 s2 : Int) (w : World) : (binOp .eql 110 (.agg #[.int .i64 o, .int .i64 s]) (.agg #[.int .i64 o2, .int .i64 s2])).run Try.prog w = .ok (.bool (o == o2 && s == s2)) w := by
  have u3 := Try.underlying3
  have a3 := Try.isAgg3
  have z3 := Try.sizeOf3
  have hS : Try.prog.underlying 110 = some (.struct (Try.prog.fieldsOf 110)) := by kernel_rfl
  have hp : Try.prog.stoodInHeld 110 = false := by kernel_rfl
  rw [run_eql_struct, show (10000 : Nat) = 9999 + 1 from rfl, run_equalIn_agg w 9999 110 _ _ hS hp]
  simp only [Program.fieldsOf, Try.underlying110]
  go_simp
  by_cases h1 : o = o2 <;> by_cases h2 : s = s2 <;> simp [h1, h2]
theorem sMark {w : World} {b c : Nat} {m : R} {og sq : Int} (h : Bx w b m) (h' : Bm w c og sq) :
    (Bx w b m ∧ Bm w c og sq) ∧ w.cell? ⟨b, 0, none⟩ = some (.int .i64 m.key) ∧ w.cell? ⟨b, 1, none⟩ = some (.int .i64 m.til) ∧ w.cell? ⟨b, 2, none⟩ = some (.int .i64 m.val) ∧ w.cell? ⟨c, 0, none⟩ = some (.int .i64 og) ∧ w.cell? ⟨c, 1, none⟩ = some (.int .i64 sq) := ⟨⟨h, h'⟩, h.1, h.2.1, h.2.2, h'.1, h'.2⟩
set_option maxHeartbeats 4000000 in
theorem implSeen (a : Option Addr) (ms : List R) (cap : Nat) (og sq now : Int) (w : World) (hm : ms.length ≤ 1048576) (hr : RM w a ms) :
    Calls Try.prog 21 #[.slice a ms.length cap, .int .i64 og, .int .i64 sq, .int .i64 now] w fun e w' => e = .returned (.tuple #[.bool (seenD ms og sq now), .bool (sentD ms og sq now), .int .i64 (codeD ms og sq)]) ∧ Below w.heap.size w w' := by
  have HB : Hid (Below w.heap.size w (w.alloc (.cells #[.int .i64 og, .int .i64 sq] 110))) := hide ((Below.refl _ _).alloc (Nat.le_refl _) _)
  have HV : Hid (Bm (w.alloc (.cells #[.int .i64 og, .int .i64 sq] 110)) w.heap.size og sq) := hide (bm_new _ _ _ _)
  have HR := hide hr
  clear hr
  obtain ⟨c, hc⟩ : ∃ c, codeD ms og sq = c := ⟨_, rfl⟩
  by_cases h0 : c = 0
  rotate_left
  · have e1 : seenD ms og sq now = false := by unfold seenD; rw [hc, decide_eq_false h0]; rfl
    have e2 : sentD ms og sq now = false := by unfold sentD; rw [e1]; rfl
    rw [hc, e1, e2]
    have hne : (c != 0) = true := by simpa using h0
    have HC := hide hc
    clear hc h0 e1 e2
    go_enter Try.func21, Try.ntmps21
    go_wp2_with fail
    refine (markCode _ ms cap og sq _ hm ((unhide HR).below (unhide HB))).mono ?_
    rintro e w1 ⟨rfl, b1⟩
    rw [unhide HC]
    have HB1 := hide ((unhide HB).trans (b1.mono (unhide HB).size))
    clear b1
    go_wp2_with fail
    go_ret3
    exact ⟨rfl, unhide HB1⟩
  subst h0
  obtain ⟨hc0, hask⟩ := codeD_zero hc
  have HS := hide (code_set hc0)
  have HQ := hide hask
  have h64 := setB_len (code_set hc0)
  have HZ : Hid (seenD ms og sq now = lastB ms (keyD og sq) now) := hide (by unfold seenD; rw [hc]; rfl)
  rw [hc]
  have HC := hide hc
  clear hc hc0 hask
  obtain ⟨va, hva⟩ : ∃ va, seenD ms og sq now = va := ⟨_, rfl⟩
  obtain ⟨vb, hvb⟩ : ∃ vb, sentD ms og sq now = vb := ⟨_, rfl⟩
  have HF : Hid (lastB ms (keyD og sq) now = false → va = false ∧ vb = false) := hide (fun h => by rw [← hva, ← hvb]; unfold sentD; rw [unhide HZ, h]; exact ⟨rfl, rfl⟩)
  have HG : Hid (∀ j, j < ms.length → (ms.getD j R.zero).key = keyD og sq → now < (ms.getD j R.zero).til → va = true ∧ vb = ((ms.getD j R.zero).val == 1)) := hide (fun j hj hk ht => by
    obtain ⟨q1, q2⟩ := last_yes (unhide HS) hj hk ht
    rw [← hva, ← hvb]
    unfold sentD
    rw [unhide HZ, q1, q2]
    exact ⟨rfl, rfl⟩)
  rw [hva, hvb]
  clear hva hvb
  generalize hN : ms.length = n at *
  have HN := hide hN
  clear hN
  go_enter Try.func21, Try.ntmps21
  go_wp2_with fail
  rw [← unhide HN]
  refine (markCode _ ms cap og sq _ (by have := unhide HN; omega) ((unhide HR).below (unhide HB))).mono ?_
  rintro e w1 ⟨rfl, b1⟩
  rw [unhide HC]
  have HB1 := hide ((unhide HB).trans (b1.mono (unhide HB).size))
  have HV1 := hide ((unhide HV).below b1)
  clear b1 HB HV
  go_wp2_with fail
  rw [unhide HN]
  go_loopw [26] (fun i wr => ∃ j : Nat, j ≤ n ∧ i = .int .i64 j ∧ Hid (noneB ms (keyD og sq) now j) ∧ Hid (Below w.heap.size w wr) ∧ Hid (Bm wr w.heap.size og sq)) (fun i _ => n - (intOf i).toNat)
  case atStart => exact ⟨0, by omega, rfl, hide (fun i hi => by omega), HB1, HV1⟩
  case round =>
    obtain ⟨j, hj, rfl, hno, hbl, hbm⟩ := hrel
    by_cases hlt : (j : Int) < (n : Int)
    · have k0 : (0 : Int) ≤ (j : Int) := by omega
      have hlen : j < ms.length := by rw [unhide HN]; omega
      obtain ⟨g, off, rfl⟩ := (unhide HR).form (by omega)
      obtain ⟨c0, c1, c2⟩ := ((unhide HR).below (unhide hbl)).at hlen
      have hbs := (unhide hbl).size
      have hbd := ok_bounds (setB_ok (unhide HS) hlen)
      have HY : Hid (¬ ((ms.getD j R.zero).key = keyD og sq ∧ now < (ms.getD j R.zero).til) → noneB ms (keyD og sq) now (j + 1)) := hide (fun h => none_succ (unhide hno) h)
      have HW := hide (unhide HG j (by omega))
      generalize ms.getD j R.zero = m at *
      have HA := hide ((unhide hbl).alloc hbs (.cells #[.int .i64 m.key, .int .i64 m.til, .int .i64 m.val] 57))
      have HX : Hid (Bx (wr.alloc (.cells #[.int .i64 m.key, .int .i64 m.til, .int .i64 m.val] 57)) wr.heap.size m) := hide (bx_new wr m _)
      have HM := hide ((unhide hbm).below ((Below.refl _ _).alloc (Nat.le_refl _) (.cells #[.int .i64 m.key, .int .i64 m.til, .int .i64 m.val] 57)))
      have HAP := hide (apart (k := m.key) (by omega) (unhide HQ))
      go_wp2_with fail
      generalize hW0 : wr.alloc (.cells #[.int .i64 m.key, .int .i64 m.til, .int .i64 m.val] 57) = W0 at *
      clear hW0 c0 c1 c2
      obtain ⟨v, hv⟩ : ∃ v, m.key.tdiv 65536 = v := ⟨_, rfl⟩
      obtain ⟨u, hu⟩ : ∃ u, m.key.tmod 65536 = u := ⟨_, rfl⟩
      have HE : Hid (m.key.tdiv 65536 = v ∧ m.key.tmod 65536 = u) := hide ⟨hv, hu⟩
      rw [hv, hu] at HAP
      clear hv hu
      have heq := eqMark v u og sq
      by_cases hk : m.key = keyD og sq
      · have hvu := (unhide HAP).2 hk
        have hb : (v == og && u == sq) = true := by rw [hvu.1, hvu.2]; simp
        rw [hb] at heq
        clear hb hvu
        by_cases ht : now < m.til
        · obtain ⟨ev, eb⟩ := unhide HW hk ht
          have HEV := hide ev
          have HEB := hide eb
          clear hk ev eb
          refine wp_region_noPanic ?_
          refine wp_region_held_drew (S := fun w' => (Bx w' wr.heap.size m ∧ Bm w' w.heap.size og sq) ∧ w'.cell? ⟨wr.heap.size, 0, none⟩ = some (.int .i64 m.key) ∧ w'.cell? ⟨wr.heap.size, 1, none⟩ = some (.int .i64 m.til) ∧ w'.cell? ⟨wr.heap.size, 2, none⟩ = some (.int .i64 m.val) ∧ w'.cell? ⟨w.heap.size, 0, none⟩ = some (.int .i64 og) ∧ w'.cell? ⟨w.heap.size, 1, none⟩ = some (.int .i64 sq)) (by kernel_rfl) (sMark (unhide HX).drew (unhide HM).drew) (fun hHeld => ?_)
          (refine Rg.tk (i := 0) (d := 30) (v := ?_) rfl rfl (by kernel_rfl) (by kernel_rfl) (by kernel_rfl) (fun _ _ _ h => h) (by rfl) ?_ (by assumption) ?_; rotate_left; (focus (intro w0 hSw; (try dsimp only at hSw); go_simp; (try with_reducible rfl))); (try simp only [Act.put, List.setIfInBounds_toArray, List.set_cons_zero, List.set_cons_succ]))
          (refine Rg.tk (i := 1) (d := 31) (v := ?_) rfl rfl (by kernel_rfl) (by kernel_rfl) (by kernel_rfl) (fun _ _ _ h => h) (by rfl) ?_ (by assumption) ?_; rotate_left; (focus (intro w0 hSw; (try dsimp only at hSw); go_simp; (try with_reducible rfl))); (try simp only [Act.put, List.setIfInBounds_toArray, List.set_cons_zero, List.set_cons_succ]))
          (refine Rg.tk (i := 3) (d := 33) (v := ?_) rfl rfl (by kernel_rfl) (by kernel_rfl) (by kernel_rfl) (fun _ _ _ h => h) (by rfl) ?_ (by assumption) ?_; rotate_left; (focus (intro w0 hSw; (try dsimp only at hSw); go_simp; (try with_reducible rfl))); (try simp only [Act.put, List.setIfInBounds_toArray, List.set_cons_zero, List.set_cons_succ]))
          (refine wpAnyH_ready (rs := [2]) (by kernel_rfl) (by simp) ?_; refine AllReadyH.cons (o := _) rfl (fun K hK => ?_) AllReadyH.nil; go_simp)
          refine (markOfKey m.key _ (by omega) (by omega)).mono ?_
          rintro e w2 ⟨rfl, b2⟩
          rw [(unhide HE).1, (unhide HE).2]
          have HB2 := hide ((unhide HA).drew.trans (b2.mono (unhide HA).drew.size))
          have HX2 := hide ((unhide HX).drew.below b2)
          have HM2 := hide ((unhide HM).drew.below b2)
          clear b2 hHeld
          refine hK.out _ _ (sMark (unhide HX2) (unhide HM2)) (fun hHeld => ?_)
          clear hK K
          (try simp only [Act.put, List.setIfInBounds_toArray, List.set_cons_zero, List.set_cons_succ])
          (refine Rg.tk (i := 4) (d := 34) (v := ?_) rfl rfl (by kernel_rfl) (by kernel_rfl) (by kernel_rfl) (fun _ _ _ h => h) (by rfl) ?_ (by assumption) ?_; rotate_left; (focus (intro w0 hSw; (try dsimp only at hSw); go_simp; (try with_reducible rfl))); (try simp only [Act.put, List.setIfInBounds_toArray, List.set_cons_zero, List.set_cons_succ]))
          (refine Rg.tk (i := 5) (d := 35) (v := ?_) rfl rfl (by kernel_rfl) (by kernel_rfl) (by kernel_rfl) (fun _ _ _ h => h) (by rfl) ?_ (by assumption) ?_; rotate_left; (focus (intro w0 hSw; (try dsimp only at hSw); go_simp; (try with_reducible rfl))); (try simp only [Act.put, List.setIfInBounds_toArray, List.set_cons_zero, List.set_cons_succ]))
          (refine Rg.tk (i := 6) (d := 36) (v := ?_) rfl rfl (by kernel_rfl) (by kernel_rfl) (by kernel_rfl) (fun _ _ _ h => h) (by rfl) ?_ (by assumption) ?_; rotate_left; (focus (intro w0 hSw; (try dsimp only at hSw); go_simp; (try with_reducible rfl))); (try simp only [Act.put, List.setIfInBounds_toArray, List.set_cons_zero, List.set_cons_succ]))
          (refine Rg.tk (i := 7) (d := 37) (v := ?_) rfl rfl (by kernel_rfl) (by kernel_rfl) (by kernel_rfl) (fun _ _ _ h => h) (by rfl) ?_ (by assumption) ?_; rotate_left; (focus (intro w0 hSw; (try dsimp only at hSw); go_simp; (try with_reducible rfl))); (try simp only [Act.put, List.setIfInBounds_toArray, List.set_cons_zero, List.set_cons_succ]))
          (refine Rg.tk (i := 8) (d := 38) (v := ?_) rfl rfl (by kernel_rfl) (by kernel_rfl) (by kernel_rfl) (fun _ _ _ h => h) (by rfl) ?_ (by assumption) ?_; rotate_left; (focus (intro w0 hSw; (try dsimp only at hSw); go_simp; (try with_reducible rfl))); (try simp only [Act.put, List.setIfInBounds_toArray, List.set_cons_zero, List.set_cons_succ]))
          (refine Rg.tk (i := 9) (d := 39) (v := ?_) rfl rfl (by kernel_rfl) (by kernel_rfl) (by kernel_rfl) (fun _ _ _ h => h) (by rfl) ?_ (by assumption) ?_; rotate_left; (focus (intro w0 hSw; (try dsimp only at hSw); go_simp; (try with_reducible rfl))); (try simp only [Act.put, List.setIfInBounds_toArray, List.set_cons_zero, List.set_cons_succ]))
          (refine Rg.tk (i := 10) (d := 40) (v := ?_) rfl rfl (by kernel_rfl) (by kernel_rfl) (by kernel_rfl) (fun _ _ _ h => h) (by rfl) ?_ (by assumption) ?_; rotate_left; (focus (intro w0 hSw; (try dsimp only at hSw); go_simp; (try with_reducible rfl))); (try simp only [Act.put, List.setIfInBounds_toArray, List.set_cons_zero, List.set_cons_succ]))
          refine wpAnyH_done (by kernel_rfl) (NoPanic.normal ?_) _
          clear hHeld
          go_wp2_with fail
          refine wp_region_noPanic ?_
          refine wp_region_held_drew (S := fun w' => (Bx w' wr.heap.size m ∧ Bm w' w.heap.size og sq) ∧ w'.cell? ⟨wr.heap.size, 0, none⟩ = some (.int .i64 m.key) ∧ w'.cell? ⟨wr.heap.size, 1, none⟩ = some (.int .i64 m.til) ∧ w'.cell? ⟨wr.heap.size, 2, none⟩ = some (.int .i64 m.val) ∧ w'.cell? ⟨w.heap.size, 0, none⟩ = some (.int .i64 og) ∧ w'.cell? ⟨w.heap.size, 1, none⟩ = some (.int .i64 sq)) (by kernel_rfl) (sMark (unhide HX2).drew (unhide HM2).drew) (fun hHeld => ?_)
          (refine Rg.tk (i := 3) (d := 8) (v := ?_) rfl rfl (by kernel_rfl) (by kernel_rfl) (by kernel_rfl) (fun _ _ _ h => h) (by rfl) ?_ (by assumption) ?_; rotate_left; (focus (intro w0 hSw; (try dsimp only at hSw); go_simp; (try with_reducible rfl))); (try simp only [Act.put, List.setIfInBounds_toArray, List.set_cons_zero, List.set_cons_succ]))
          (refine Rg.tk (i := 0) (d := 41) (v := ?_) rfl rfl (by kernel_rfl) (by kernel_rfl) (by kernel_rfl) (fun _ _ _ h => h) (by rfl) ?_ (by assumption) ?_; rotate_left; (focus (intro w0 hSw; (try dsimp only at hSw); go_simp; (try with_reducible rfl))); (try simp only [Act.put, List.setIfInBounds_toArray, List.set_cons_zero, List.set_cons_succ]))
          (refine Rg.tk (i := 1) (d := 42) (v := ?_) rfl rfl (by kernel_rfl) (by kernel_rfl) (by kernel_rfl) (fun _ _ _ h => h) (by rfl) ?_ (by assumption) ?_; rotate_left; (focus (intro w0 hSw; (try dsimp only at hSw); go_simp; (try with_reducible rfl))); (try simp only [Act.put, List.setIfInBounds_toArray, List.set_cons_zero, List.set_cons_succ]))
          (refine Rg.tk (i := 2) (d := 43) (v := ?_) rfl rfl (by kernel_rfl) (by kernel_rfl) (by kernel_rfl) (fun _ _ _ h => h) (by rfl) ?_ (by assumption) ?_; rotate_left; (focus (intro w0 hSw; (try dsimp only at hSw); go_simp; (try with_reducible rfl))); (try simp only [Act.put, List.setIfInBounds_toArray, List.set_cons_zero, List.set_cons_succ]))
          (refine Rg.tk (i := 4) (d := 9) (v := ?_) rfl rfl (by kernel_rfl) (by kernel_rfl) (by kernel_rfl) (fun _ _ _ h => h) (by rfl) ?_ (by assumption) ?_; rotate_left; (focus (intro w0 hSw; (try dsimp only at hSw); go_simp; (try with_reducible rfl))); (try simp only [Act.put, List.setIfInBounds_toArray, List.set_cons_zero, List.set_cons_succ]))
          (refine Rg.tk (i := 5) (d := 10) (v := ?_) rfl rfl (by kernel_rfl) (by kernel_rfl) (by kernel_rfl) (fun _ _ _ h => h) (by rfl) ?_ (by assumption) ?_; rotate_left; (focus (intro w0 hSw; (try dsimp only at hSw); go_simp; (try with_reducible rfl))); (try simp only [Act.put, List.setIfInBounds_toArray, List.set_cons_zero, List.set_cons_succ]))
          refine wpAnyH_done (by kernel_rfl) (NoPanic.normal ?_) _
          clear hHeld
          go_wp2_with fail
          go_ret3
          rw [unhide HEV, unhide HEB]
          exact ⟨rfl, (unhide HB2).drew⟩
        · have HT := hide (unhide HY (fun h => ht h.2))
          clear hk
          refine wp_region_noPanic ?_
          refine wp_region_held_drew (S := fun w' => (Bx w' wr.heap.size m ∧ Bm w' w.heap.size og sq) ∧ w'.cell? ⟨wr.heap.size, 0, none⟩ = some (.int .i64 m.key) ∧ w'.cell? ⟨wr.heap.size, 1, none⟩ = some (.int .i64 m.til) ∧ w'.cell? ⟨wr.heap.size, 2, none⟩ = some (.int .i64 m.val) ∧ w'.cell? ⟨w.heap.size, 0, none⟩ = some (.int .i64 og) ∧ w'.cell? ⟨w.heap.size, 1, none⟩ = some (.int .i64 sq)) (by kernel_rfl) (sMark (unhide HX).drew (unhide HM).drew) (fun hHeld => ?_)
          (refine Rg.tk (i := 0) (d := 30) (v := ?_) rfl rfl (by kernel_rfl) (by kernel_rfl) (by kernel_rfl) (fun _ _ _ h => h) (by rfl) ?_ (by assumption) ?_; rotate_left; (focus (intro w0 hSw; (try dsimp only at hSw); go_simp; (try with_reducible rfl))); (try simp only [Act.put, List.setIfInBounds_toArray, List.set_cons_zero, List.set_cons_succ]))
          (refine Rg.tk (i := 1) (d := 31) (v := ?_) rfl rfl (by kernel_rfl) (by kernel_rfl) (by kernel_rfl) (fun _ _ _ h => h) (by rfl) ?_ (by assumption) ?_; rotate_left; (focus (intro w0 hSw; (try dsimp only at hSw); go_simp; (try with_reducible rfl))); (try simp only [Act.put, List.setIfInBounds_toArray, List.set_cons_zero, List.set_cons_succ]))
          (refine Rg.tk (i := 3) (d := 33) (v := ?_) rfl rfl (by kernel_rfl) (by kernel_rfl) (by kernel_rfl) (fun _ _ _ h => h) (by rfl) ?_ (by assumption) ?_; rotate_left; (focus (intro w0 hSw; (try dsimp only at hSw); go_simp; (try with_reducible rfl))); (try simp only [Act.put, List.setIfInBounds_toArray, List.set_cons_zero, List.set_cons_succ]))
          (refine wpAnyH_ready (rs := [2]) (by kernel_rfl) (by simp) ?_; refine AllReadyH.cons (o := _) rfl (fun K hK => ?_) AllReadyH.nil; go_simp)
          refine (markOfKey m.key _ (by omega) (by omega)).mono ?_
          rintro e w2 ⟨rfl, b2⟩
          rw [(unhide HE).1, (unhide HE).2]
          have HB2 := hide ((unhide HA).drew.trans (b2.mono (unhide HA).drew.size))
          have HX2 := hide ((unhide HX).drew.below b2)
          have HM2 := hide ((unhide HM).drew.below b2)
          clear b2 hHeld
          refine hK.out _ _ (sMark (unhide HX2) (unhide HM2)) (fun hHeld => ?_)
          clear hK K
          (try simp only [Act.put, List.setIfInBounds_toArray, List.set_cons_zero, List.set_cons_succ])
          (refine Rg.tk (i := 4) (d := 34) (v := ?_) rfl rfl (by kernel_rfl) (by kernel_rfl) (by kernel_rfl) (fun _ _ _ h => h) (by rfl) ?_ (by assumption) ?_; rotate_left; (focus (intro w0 hSw; (try dsimp only at hSw); go_simp; (try with_reducible rfl))); (try simp only [Act.put, List.setIfInBounds_toArray, List.set_cons_zero, List.set_cons_succ]))
          (refine Rg.tk (i := 5) (d := 35) (v := ?_) rfl rfl (by kernel_rfl) (by kernel_rfl) (by kernel_rfl) (fun _ _ _ h => h) (by rfl) ?_ (by assumption) ?_; rotate_left; (focus (intro w0 hSw; (try dsimp only at hSw); go_simp; (try with_reducible rfl))); (try simp only [Act.put, List.setIfInBounds_toArray, List.set_cons_zero, List.set_cons_succ]))
          (refine Rg.tk (i := 6) (d := 36) (v := ?_) rfl rfl (by kernel_rfl) (by kernel_rfl) (by kernel_rfl) (fun _ _ _ h => h) (by rfl) ?_ (by assumption) ?_; rotate_left; (focus (intro w0 hSw; (try dsimp only at hSw); go_simp; (try with_reducible rfl))); (try simp only [Act.put, List.setIfInBounds_toArray, List.set_cons_zero, List.set_cons_succ]))
          (refine Rg.tk (i := 7) (d := 37) (v := ?_) rfl rfl (by kernel_rfl) (by kernel_rfl) (by kernel_rfl) (fun _ _ _ h => h) (by rfl) ?_ (by assumption) ?_; rotate_left; (focus (intro w0 hSw; (try dsimp only at hSw); go_simp; (try with_reducible rfl))); (try simp only [Act.put, List.setIfInBounds_toArray, List.set_cons_zero, List.set_cons_succ]))
          (refine Rg.tk (i := 8) (d := 38) (v := ?_) rfl rfl (by kernel_rfl) (by kernel_rfl) (by kernel_rfl) (fun _ _ _ h => h) (by rfl) ?_ (by assumption) ?_; rotate_left; (focus (intro w0 hSw; (try dsimp only at hSw); go_simp; (try with_reducible rfl))); (try simp only [Act.put, List.setIfInBounds_toArray, List.set_cons_zero, List.set_cons_succ]))
          (refine Rg.tk (i := 9) (d := 39) (v := ?_) rfl rfl (by kernel_rfl) (by kernel_rfl) (by kernel_rfl) (fun _ _ _ h => h) (by rfl) ?_ (by assumption) ?_; rotate_left; (focus (intro w0 hSw; (try dsimp only at hSw); go_simp; (try with_reducible rfl))); (try simp only [Act.put, List.setIfInBounds_toArray, List.set_cons_zero, List.set_cons_succ]))
          (refine Rg.tk (i := 10) (d := 40) (v := ?_) rfl rfl (by kernel_rfl) (by kernel_rfl) (by kernel_rfl) (fun _ _ _ h => h) (by rfl) ?_ (by assumption) ?_; rotate_left; (focus (intro w0 hSw; (try dsimp only at hSw); go_simp; (try with_reducible rfl))); (try simp only [Act.put, List.setIfInBounds_toArray, List.set_cons_zero, List.set_cons_succ]))
          refine wpAnyH_done (by kernel_rfl) (NoPanic.normal ?_) _
          clear hHeld
          go_wp2_with fail
          go_roundw
          case rel => exact ⟨j + 1, by omega, by go_num, HT, HB2, HM2⟩
          case measure => simp [intOf]; omega
      · have hb : (v == og && u == sq) = false := by
          cases e : (v == og && u == sq)
          · rfl
          · exact absurd ((unhide HAP).1 (by simpa using e)) hk
        rw [hb] at heq
        have HT := hide (unhide HY (fun h => hk h.1))
        clear hb hk
        refine wp_region_noPanic ?_
        refine wp_region_held_drew (S := fun w' => (Bx w' wr.heap.size m ∧ Bm w' w.heap.size og sq) ∧ w'.cell? ⟨wr.heap.size, 0, none⟩ = some (.int .i64 m.key) ∧ w'.cell? ⟨wr.heap.size, 1, none⟩ = some (.int .i64 m.til) ∧ w'.cell? ⟨wr.heap.size, 2, none⟩ = some (.int .i64 m.val) ∧ w'.cell? ⟨w.heap.size, 0, none⟩ = some (.int .i64 og) ∧ w'.cell? ⟨w.heap.size, 1, none⟩ = some (.int .i64 sq)) (by kernel_rfl) (sMark (unhide HX).drew (unhide HM).drew) (fun hHeld => ?_)
        (refine Rg.tk (i := 0) (d := 30) (v := ?_) rfl rfl (by kernel_rfl) (by kernel_rfl) (by kernel_rfl) (fun _ _ _ h => h) (by rfl) ?_ (by assumption) ?_; rotate_left; (focus (intro w0 hSw; (try dsimp only at hSw); go_simp; (try with_reducible rfl))); (try simp only [Act.put, List.setIfInBounds_toArray, List.set_cons_zero, List.set_cons_succ]))
        (refine Rg.tk (i := 1) (d := 31) (v := ?_) rfl rfl (by kernel_rfl) (by kernel_rfl) (by kernel_rfl) (fun _ _ _ h => h) (by rfl) ?_ (by assumption) ?_; rotate_left; (focus (intro w0 hSw; (try dsimp only at hSw); go_simp; (try with_reducible rfl))); (try simp only [Act.put, List.setIfInBounds_toArray, List.set_cons_zero, List.set_cons_succ]))
        (refine Rg.tk (i := 3) (d := 33) (v := ?_) rfl rfl (by kernel_rfl) (by kernel_rfl) (by kernel_rfl) (fun _ _ _ h => h) (by rfl) ?_ (by assumption) ?_; rotate_left; (focus (intro w0 hSw; (try dsimp only at hSw); go_simp; (try with_reducible rfl))); (try simp only [Act.put, List.setIfInBounds_toArray, List.set_cons_zero, List.set_cons_succ]))
        (refine wpAnyH_ready (rs := [2]) (by kernel_rfl) (by simp) ?_; refine AllReadyH.cons (o := _) rfl (fun K hK => ?_) AllReadyH.nil; go_simp)
        refine (markOfKey m.key _ (by omega) (by omega)).mono ?_
        rintro e w2 ⟨rfl, b2⟩
        rw [(unhide HE).1, (unhide HE).2]
        have HB2 := hide ((unhide HA).drew.trans (b2.mono (unhide HA).drew.size))
        have HX2 := hide ((unhide HX).drew.below b2)
        have HM2 := hide ((unhide HM).drew.below b2)
        clear b2 hHeld
        refine hK.out _ _ (sMark (unhide HX2) (unhide HM2)) (fun hHeld => ?_)
        clear hK K
        (try simp only [Act.put, List.setIfInBounds_toArray, List.set_cons_zero, List.set_cons_succ])
        (refine Rg.tk (i := 4) (d := 34) (v := ?_) rfl rfl (by kernel_rfl) (by kernel_rfl) (by kernel_rfl) (fun _ _ _ h => h) (by rfl) ?_ (by assumption) ?_; rotate_left; (focus (intro w0 hSw; (try dsimp only at hSw); go_simp; (try with_reducible rfl))); (try simp only [Act.put, List.setIfInBounds_toArray, List.set_cons_zero, List.set_cons_succ]))
        (refine Rg.tk (i := 5) (d := 35) (v := ?_) rfl rfl (by kernel_rfl) (by kernel_rfl) (by kernel_rfl) (fun _ _ _ h => h) (by rfl) ?_ (by assumption) ?_; rotate_left; (focus (intro w0 hSw; (try dsimp only at hSw); go_simp; (try with_reducible rfl))); (try simp only [Act.put, List.setIfInBounds_toArray, List.set_cons_zero, List.set_cons_succ]))
        (refine Rg.sk (i := 6) (d := 36) rfl rfl (by kernel_rfl) (by kernel_rfl) (by kernel_rfl) (fun _ _ _ h => h) (by first | kernel_rfl | rfl) (by assumption) ?_; (try simp only [Act.put, List.setIfInBounds_toArray, List.set_cons_zero, List.set_cons_succ]))
        (refine Rg.sk (i := 7) (d := 37) rfl rfl (by kernel_rfl) (by kernel_rfl) (by kernel_rfl) (fun _ _ _ h => h) (by first | kernel_rfl | rfl) (by assumption) ?_; (try simp only [Act.put, List.setIfInBounds_toArray, List.set_cons_zero, List.set_cons_succ]))
        (refine Rg.sk (i := 8) (d := 38) rfl rfl (by kernel_rfl) (by kernel_rfl) (by kernel_rfl) (fun _ _ _ h => h) (by first | kernel_rfl | rfl) (by assumption) ?_; (try simp only [Act.put, List.setIfInBounds_toArray, List.set_cons_zero, List.set_cons_succ]))
        (refine Rg.sk (i := 9) (d := 39) rfl rfl (by kernel_rfl) (by kernel_rfl) (by kernel_rfl) (fun _ _ _ h => h) (by first | kernel_rfl | rfl) (by assumption) ?_; (try simp only [Act.put, List.setIfInBounds_toArray, List.set_cons_zero, List.set_cons_succ]))
        (refine Rg.tk (i := 10) (d := 40) (v := ?_) rfl rfl (by kernel_rfl) (by kernel_rfl) (by kernel_rfl) (fun _ _ _ h => h) (by rfl) ?_ (by assumption) ?_; rotate_left; (focus (intro w0 hSw; (try dsimp only at hSw); go_simp; (try with_reducible rfl))); (try simp only [Act.put, List.setIfInBounds_toArray, List.set_cons_zero, List.set_cons_succ]))
        refine wpAnyH_done (by kernel_rfl) (NoPanic.normal ?_) _
        clear hHeld
        go_wp2_with fail
        go_roundw
        case rel => exact ⟨j + 1, by omega, by go_num, HT, HB2, HM2⟩
        case measure => simp [intOf]; omega
    · obtain rfl : j = n := by omega
      have HT : Hid (va = false ∧ vb = false) := hide (unhide HF (none_all (by rw [unhide HN]; exact unhide hno)))
      go_wp2_with fail
      go_ret3
      rw [(unhide HT).1, (unhide HT).2]
      exact ⟨rfl, unhide hbl⟩
end Du
end Go.Proofs.Ytlcppgnnlgigmaa
