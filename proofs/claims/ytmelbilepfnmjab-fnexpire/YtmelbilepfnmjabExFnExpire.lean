/-
  Proved here: for all slices of bytes, laws.FnExpire returns true (what is old goes, at its time, and nothing else) and leaves the slices as they were. No condition.
-/
import Derived.Test.YtmelbilepfnmjabSrcT
import Derived.Test.YtmelbilepfnmjabSetE
import Derived.Test.YtmelbilepfnmjabSetN
import Derived.Test.YtmelbilepfnmjabAt
namespace Go.Proofs.Ytmelbilepfnmjab.fnExpire
open Go.ChangeShapes Go.WideShapes Go.ChangeAt Go.RowKit
open W1 By Tu St Sr
set_option linter.unusedVariables false
set_option linter.unusedSimpArgs false
attribute [local go_sem ↓] Go.wp_at_zero Go.wp_at_succ
theorem own : ownKnob Try.prog.godebug = none := by kernel_rfl
theorem laidOut : laidOutB Try.prog = true := by kernel_rfl
theorem below_drewN {B : Nat} {w w' : World} (h : Below B w w') (q : Nat) : Below B w (w'.drewN q) := ⟨h.os, h.tape, h.output, h.size, h.block⟩
theorem reads_below {w w' : World} {a : Option Addr} {bs : List UInt8} (h : Reads w a bs) (hb : Below w.heap.size w w') : Reads w' a bs := by
  rcases h with h | ⟨g, off, e, hc⟩
  · exact .inl h
  · exact .inr ⟨g, off, e, fun i hi => (hb.cell (p := ⟨g, off + i, none⟩) (World.block_lt_of_cell? _ _ (hc i hi))).trans (hc i hi)⟩
theorem fold_le : ∀ (t : List R) (a : Int), t.foldl (fun n x => min n x.til) a ≤ a ∧ ∀ x ∈ t, t.foldl (fun n x => min n x.til) a ≤ x.til
  | [], a => ⟨Int.le_refl _, by simp⟩
  | y :: t, a => by
    obtain ⟨h1, h2⟩ := fold_le t (min a y.til)
    rw [List.foldl_cons]
    refine ⟨by omega, fun x hx => ?_⟩
    rcases List.mem_cons.1 hx with rfl | hx
    · omega
    · exact h2 x hx
theorem next_le {ms : List R} {j : Nat} (h : j < ms.length) : nextN ms ≤ (ms.getD j R.zero).til := by
  rw [getD_get h]
  cases ms with
  | nil => simp at h
  | cons m t =>
    unfold nextN
    obtain ⟨h1, h2⟩ := fold_le t m.til
    cases j with
    | zero => exact h1
    | succ j => exact h2 _ (by simp)
theorem filter_get (p : R → Bool) (ms : List R) (j : Nat) (h : j < ms.length) (hp : p (ms.getD j R.zero) = true) :
    ((ms.take j).filter p).length < (ms.filter p).length ∧ (ms.filter p).getD ((ms.take j).filter p).length R.zero = ms.getD j R.zero := by
  have e : ms.filter p = (ms.take j).filter p ++ (ms[j] :: (ms.drop (j + 1)).filter p) := by
    conv => lhs; rw [← List.take_append_drop j ms]
    rw [List.filter_append, List.drop_eq_getElem_cons h, List.filter_cons_of_pos (by rw [getD_get h] at hp; exact hp)]
  rw [e]
  refine ⟨by simp, ?_⟩
  rw [List.getD_eq_getElem?_getD, List.getElem?_append_right (Nat.le_refl _), Nat.sub_self, getD_get h]; rfl

set_option maxRecDepth 100000 in
set_option maxHeartbeats 8000000 in
theorem walk (a : Option Addr) (bs : List UInt8) (cap : Nat) (hm : bs.length ≤ maxLen) (a' : Option Addr) (bs' : List UInt8) (cap' : Nat) (hm' : bs'.length ≤ maxLen) (w : World) (hr : Reads w a bs) (hr' : Reads w a' bs') :
    Calls Try.prog 3 #[.slice a bs.length cap, .slice a' bs'.length cap'] w fun e w' => e = .returned (.bool true) ∧ Below w.heap.size w w' := by
  have HR := hide hr
  have HR' := hide hr'
  clear hr hr'
  unfold maxLen at hm hm'
  by_cases hbig : (1048576 : Int) < bs.length
  · go_enter Try.func3, Try.ntmps3
    go_wp2
    go_ret
    exact ⟨rfl, Below.refl _ _⟩
  by_cases hbig' : (1048576 : Int) < bs'.length
  · go_enter Try.func3, Try.ntmps3
    go_wp2
    go_ret
    exact ⟨rfl, Below.refl _ _⟩
  have hml : bs.length ≤ 1048576 := by omega
  have hml' : bs'.length ≤ 1048576 := by omega
  go_enter Try.func3, Try.ntmps3
  go_wp2_with fail
  refine (setOf a bs cap _ hml (by exact unhide HR)).mono ?_
  rintro e w1 ⟨v, ms, rfl, hv, hset, hl, b1⟩
  obtain ⟨g, c, rfl, hg1, hg2, hrm⟩ := hv
  have B1 := hide b1
  have R1 := hide hrm
  have HS := hide hset
  have hsz : ms.length ≤ 1048576 := by omega
  clear b1 hrm hset
  go_wp2_with fail
  refine (At.choice a' bs' cap' 0 32 _ (by omega) (by omega) (by omega) hml' (by exact reads_below (unhide HR') (unhide B1))).mono ?_
  rintro e w2 ⟨now, rfl, hnow, q1, hw2⟩
  have B2 : Hid (Below w.heap.size w w2) := hide (by rw [hw2]; exact below_drewN (unhide B1) q1)
  have R2 : Hid (RM w2 (some ⟨g, 0, none⟩) ms) := hide (by rw [hw2]; exact unhide R1)
  clear hw2 B1 R1
  go_wp2_with fail
  refine (implExpire g 0 ms c now _ hsz (unhide R2)).mono ?_
  rintro e w3 ⟨v3, rfl, b3, l3⟩
  rw [code_zero (unhide HS)]
  obtain ⟨a3, c3, rfl, L3⟩ := l3
  have B3 := hide ((unhide B2).trans (b3.mono (unhide B2).size))
  have R3 := hide ((unhide R2).below b3)
  have E3 := hide L3.rm
  clear b3 L3 B2 R2
  go_wp2_with fail
  refine (specExpire g 0 ms c now _ hsz (unhide R3)).mono ?_
  rintro e w4 ⟨v4, rfl, b4, l4⟩
  rw [code_zero (unhide HS)]
  obtain ⟨a4, c4, rfl, L4⟩ := l4
  have B4 := hide ((unhide B3).trans (b4.mono (unhide B3).size))
  have R4 := hide ((unhide R3).below b4)
  have E4 := hide ((unhide E3).below b4)
  have D4 := hide L4.rm
  clear b4 L4 B3 R3 E3
  go_wp2_with fail
  refine (implNext g 0 ms c _ hsz (unhide R4)).mono ?_
  rintro e w5 ⟨rfl, b5⟩
  have B5 := hide ((unhide B4).trans (b5.mono (unhide B4).size))
  have R5 := hide ((unhide R4).below b5)
  have E5 := hide ((unhide E4).below b5)
  have D5 := hide ((unhide D4).below b5)
  clear b5 B4 R4 E4 D4
  have hex : expireA ms now = ms.filter (keepT now) := by unfold expireA; rw [if_pos (code_zero (unhide HS))]
  have hnx : nextA ms = nextN ms := by unfold nextA; rw [if_pos (code_zero (unhide HS))]
  have hne : nextE ms = if ms.length = 0 then 5 else 0 := by unfold nextE; rw [if_pos (code_zero (unhide HS))]
  rw [hnx, hne, hex]
  rw [hex] at E5 D5
  clear hex hnx hne
  have hfl : (ms.filter (keepT now)).length ≤ ms.length := List.length_filter_le _ _
  have HX : Hid (∀ j, j < ms.length → nextN ms ≤ (ms.getD j R.zero).til) := hide (fun j h => next_le h)
  have HF : Hid (∀ j, j < ms.length → keepT now (ms.getD j R.zero) = true → ((ms.take j).filter (keepT now)).length < (ms.filter (keepT now)).length ∧ (ms.filter (keepT now)).getD ((ms.take j).filter (keepT now)).length R.zero = ms.getD j R.zero) := hide (fun j h hp => filter_get _ _ _ h hp)
  have HT : Hid (∀ j, j < ms.length → (ms.take (j + 1)).filter (keepT now) = (ms.take j).filter (keepT now) ++ (if keepT now (ms.getD j R.zero) = true then [ms.getD j R.zero] else [])) := hide (fun j h => take_filter _ _ _ h)
  have HA : Hid ((ms.take ms.length).filter (keepT now) = ms.filter (keepT now)) := hide (by rw [List.take_length])
  obtain ⟨fs, hfs⟩ : ∃ fs, ms.filter (keepT now) = fs := ⟨_, rfl⟩
  rw [hfs] at E5 D5 hfl HF HA ⊢
  clear hfs
  obtain ⟨nx, hnx⟩ : ∃ nx, nextN ms = nx := ⟨_, rfl⟩
  rw [hnx] at HX ⊢
  clear hnx
  obtain ⟨k, hk⟩ : ∃ k, fs.length = k := ⟨_, rfl⟩
  have HK := hide hk
  obtain ⟨n, hn⟩ : ∃ n, ms.length = n := ⟨_, rfl⟩
  have HN := hide hn
  have hSame : Hid (Calls Try.prog 11 #[.slice a3 k c3, .slice a4 k c4] w5 fun e w' => e = .returned (.bool true) ∧ Below w5.heap.size w5 w') := hide (by have := sameSet a3 a4 fs c3 c4 w5 (by omega) (unhide E5) (unhide D5); rw [hk] at this; exact this)
  rw [hk] at hfl ⊢
  rw [hn] at hl hsz hfl HX HF HT HA ⊢
  clear hk hn
  by_cases h0 : n = 0
  · subst h0
    obtain rfl : k = 0 := by omega
    go_wp2_with fail
    refine (unhide hSame).mono ?_
    rintro e w6 ⟨rfl, b6⟩
    have B6 := hide ((unhide B5).trans (b6.mono (unhide B5).size))
    clear b6
    go_wp2_with fail
    go_loopw [13, 14] (fun q i wr => w6 = wr ∧ q = .int .i64 0 ∧ i = .int .i64 0) (fun _ _ _ => 0)
    case atStart => exact ⟨rfl, rfl, rfl⟩
    case round =>
      obtain ⟨rfl, rfl, rfl⟩ := hrel
      go_wp2_with fail
      go_ret
      exact ⟨rfl, unhide B6⟩
  have h0i : ¬ (n : Int) = 0 := by omega
  have hp0 : (0 : Int) < (n : Int) := by omega
  have hp1 : 0 < n := by omega
  go_wp2_with fail
  refine (unhide hSame).mono ?_
  rintro e w6 ⟨rfl, b6⟩
  have B6 := hide ((unhide B5).trans (b6.mono (unhide B5).size))
  have R6 := hide ((unhide R5).below b6)
  have E6 := hide ((unhide E5).below b6)
  clear b6 B5 R5 E5 D5 hSame
  go_wp2_with fail
  go_loopw [13, 14] (fun q i wr => ∃ j t : Nat, j ≤ n ∧ i = .int .i64 j ∧ q = .int .i64 t ∧ Hid (t = ((ms.take j).filter (keepT now)).length) ∧ Hid (Below w6.heap.size w6 wr)) (fun _ i _ => n - (intOf i).toNat)
  case atStart => exact ⟨0, 0, by omega, rfl, rfl, hide (by simp), hide (Below.refl _ _)⟩
  case round =>
    obtain ⟨j, t, hj, rfl, rfl, ht, hbl⟩ := hrel
    by_cases hlt : (j : Int) < (n : Int)
    · have k0 : (0 : Int) ≤ (j : Int) := by omega
      have hjn : j < n := by omega
      have hA := ((unhide R6).below (unhide hbl)).at (i := j) (by rw [unhide HN]; exact hjn)
      rw [Nat.zero_add] at hA
      have hnx : nx ≤ (ms.getD j R.zero).til := unhide HX j hjn
      have HTJ := hide (unhide HT j hjn)
      by_cases hkp : (now : Int) < (ms.getD j R.zero).til
      · have hkt : keepT now (ms.getD j R.zero) = true := decide_eq_true hkp
        obtain ⟨h1, h2⟩ := unhide HF j hjn hkt
        rw [← unhide ht] at h1 h2
        have HST : Hid (t + 1 = ((ms.take (j + 1)).filter (keepT now)).length) := hide (by rw [unhide HTJ, hkt, if_pos rfl, List.length_append, ← unhide ht]; rfl)
        rw [unhide HK] at h1
        have hE := (unhide E6).below (unhide hbl)
        obtain ⟨g3, off3, rfl⟩ := hE.form (by rw [unhide HK]; omega)
        have hA3 := hE.at (i := t) (by rw [unhide HK]; exact h1)
        rw [h2] at hA3
        generalize ms.getD j R.zero = m at *
        obtain ⟨key, til, val⟩ := m
        obtain ⟨c0, c1, c2⟩ := hA
        obtain ⟨d0, d1, d2⟩ := hA3
        dsimp only at c0 c1 c2 d0 d1 d2 hnx hkp
        clear h2 hkt hE HTJ
        have t0 : (0 : Int) ≤ (t : Int) := by omega
        have t1 : (t : Int) < (k : Int) := by omega
        have t2 : ¬ (k : Int) ≤ (t : Int) := by omega
        have t3 : ¬ k ≤ t := by omega
        have t4 : decide (k ≤ t) = false := decide_eq_false t3
        have t5 : decide ((k : Int) ≤ (t : Int)) = false := decide_eq_false t2
        have n1 : ¬ til < nx := by omega
        go_wp2_with fail
        refine wp_region_noPanic ?_
        refine wp_region_held_drew (S := fun w' => w'.cell? ⟨g, j * 3, none⟩ = some (.int .i64 key) ∧ w'.cell? ⟨g, j * 3 + 1, none⟩ = some (.int .i64 til) ∧ w'.cell? ⟨g, j * 3 + 2, none⟩ = some (.int .i64 val) ∧ w'.cell? ⟨g3, off3 + t * 3, none⟩ = some (.int .i64 key) ∧ w'.cell? ⟨g3, off3 + t * 3 + 1, none⟩ = some (.int .i64 til) ∧ w'.cell? ⟨g3, off3 + t * 3 + 2, none⟩ = some (.int .i64 val)) (by kernel_rfl) ⟨c0, c1, c2, d0, d1, d2⟩ (fun hHeld => ?_)
        (refine Rg.tk (i := 0) (d := 80) (v := ?_) rfl rfl (by kernel_rfl) (by kernel_rfl) (by kernel_rfl) (fun _ _ _ h => h) (by rfl) ?_ (by assumption) ?_; rotate_left; (focus (intro w0 hSw; (try dsimp only at hSw); go_simp; (try with_reducible rfl))); (try simp only [Act.put, List.setIfInBounds_toArray, List.set_cons_zero, List.set_cons_succ]))
        (refine Rg.tk (i := 1) (d := 81) (v := ?_) rfl rfl (by kernel_rfl) (by kernel_rfl) (by kernel_rfl) (fun _ _ _ h => h) (by rfl) ?_ (by assumption) ?_; rotate_left; (focus (intro w0 hSw; (try dsimp only at hSw); go_simp; (try with_reducible rfl))); (try simp only [Act.put, List.setIfInBounds_toArray, List.set_cons_zero, List.set_cons_succ]))
        (refine Rg.tk (i := 2) (d := 82) (v := ?_) rfl rfl (by kernel_rfl) (by kernel_rfl) (by kernel_rfl) (fun _ _ _ h => h) (by rfl) ?_ (by assumption) ?_; rotate_left; (focus (intro w0 hSw; (try dsimp only at hSw); go_simp; (try with_reducible rfl))); (try simp only [Act.put, List.setIfInBounds_toArray, List.set_cons_zero, List.set_cons_succ]))
        (refine Rg.tk (i := 3) (d := 83) (v := ?_) rfl rfl (by kernel_rfl) (by kernel_rfl) (by kernel_rfl) (fun _ _ _ h => h) (by rfl) ?_ (by assumption) ?_; rotate_left; (focus (intro w0 hSw; (try dsimp only at hSw); go_simp; (try with_reducible rfl))); (try simp only [Act.put, List.setIfInBounds_toArray, List.set_cons_zero, List.set_cons_succ]))
        (refine Rg.tk (i := 4) (d := 84) (v := ?_) rfl rfl (by kernel_rfl) (by kernel_rfl) (by kernel_rfl) (fun _ _ _ h => h) (by rfl) ?_ (by assumption) ?_; rotate_left; (focus (intro w0 hSw; (try dsimp only at hSw); go_simp; (try with_reducible rfl))); (try simp only [Act.put, List.setIfInBounds_toArray, List.set_cons_zero, List.set_cons_succ]))
        (refine Rg.tk (i := 5) (d := 85) (v := ?_) rfl rfl (by kernel_rfl) (by kernel_rfl) (by kernel_rfl) (fun _ _ _ h => h) (by rfl) ?_ (by assumption) ?_; rotate_left; (focus (intro w0 hSw; (try dsimp only at hSw); go_simp; (try with_reducible rfl))); (try simp only [Act.put, List.setIfInBounds_toArray, List.set_cons_zero, List.set_cons_succ]))
        (refine Rg.tk (i := 6) (d := 86) (v := ?_) rfl rfl (by kernel_rfl) (by kernel_rfl) (by kernel_rfl) (fun _ _ _ h => h) (by rfl) ?_ (by assumption) ?_; rotate_left; (focus (intro w0 hSw; (try dsimp only at hSw); go_simp; (try with_reducible rfl))); (try simp only [Act.put, List.setIfInBounds_toArray, List.set_cons_zero, List.set_cons_succ]))
        (refine Rg.tk (i := 7) (d := 87) (v := ?_) rfl rfl (by kernel_rfl) (by kernel_rfl) (by kernel_rfl) (fun _ _ _ h => h) (by rfl) ?_ (by assumption) ?_; rotate_left; (focus (intro w0 hSw; (try dsimp only at hSw); go_simp; (try with_reducible rfl))); (try simp only [Act.put, List.setIfInBounds_toArray, List.set_cons_zero, List.set_cons_succ]))
        (refine Rg.tk (i := 8) (d := 88) (v := ?_) rfl rfl (by kernel_rfl) (by kernel_rfl) (by kernel_rfl) (fun _ _ _ h => h) (by rfl) ?_ (by assumption) ?_; rotate_left; (focus (intro w0 hSw; (try dsimp only at hSw); go_simp; (try with_reducible rfl))); (try simp only [Act.put, List.setIfInBounds_toArray, List.set_cons_zero, List.set_cons_succ]))
        (refine Rg.tk (i := 9) (d := 89) (v := ?_) rfl rfl (by kernel_rfl) (by kernel_rfl) (by kernel_rfl) (fun _ _ _ h => h) (by rfl) ?_ (by assumption) ?_; rotate_left; (focus (intro w0 hSw; (try dsimp only at hSw); go_simp; (try with_reducible rfl))); (try simp only [Act.put, List.setIfInBounds_toArray, List.set_cons_zero, List.set_cons_succ]))
        (refine Rg.tk (i := 10) (d := 90) (v := ?_) rfl rfl (by kernel_rfl) (by kernel_rfl) (by kernel_rfl) (fun _ _ _ h => h) (by rfl) ?_ (by assumption) ?_; rotate_left; (focus (intro w0 hSw; (try dsimp only at hSw); go_simp; (try with_reducible rfl))); (try simp only [Act.put, List.setIfInBounds_toArray, List.set_cons_zero, List.set_cons_succ]))
        (refine Rg.tk (i := 11) (d := 91) (v := ?_) rfl rfl (by kernel_rfl) (by kernel_rfl) (by kernel_rfl) (fun _ _ _ h => h) (by rfl) ?_ (by assumption) ?_; rotate_left; (focus (intro w0 hSw; (try dsimp only at hSw); go_simp; (try with_reducible rfl))); (try simp only [Act.put, List.setIfInBounds_toArray, List.set_cons_zero, List.set_cons_succ]))
        (refine Rg.tk (i := 12) (d := 92) (v := ?_) rfl rfl (by kernel_rfl) (by kernel_rfl) (by kernel_rfl) (fun _ _ _ h => h) (by rfl) ?_ (by assumption) ?_; rotate_left; (focus (intro w0 hSw; (try dsimp only at hSw); go_simp; (try with_reducible rfl))); (try simp only [Act.put, List.setIfInBounds_toArray, List.set_cons_zero, List.set_cons_succ]))
        (refine Rg.tk (i := 13) (d := 93) (v := ?_) rfl rfl (by kernel_rfl) (by kernel_rfl) (by kernel_rfl) (fun _ _ _ h => h) (by rfl) ?_ (by assumption) ?_; rotate_left; (focus (intro w0 hSw; (try dsimp only at hSw); go_simp; (try with_reducible rfl))); (try simp only [Act.put, List.setIfInBounds_toArray, List.set_cons_zero, List.set_cons_succ]))
        (refine Rg.tk (i := 14) (d := 94) (v := ?_) rfl rfl (by kernel_rfl) (by kernel_rfl) (by kernel_rfl) (fun _ _ _ h => h) (by rfl) ?_ (by assumption) ?_; rotate_left; (focus (intro w0 hSw; (try dsimp only at hSw); go_simp; (try with_reducible rfl))); (try simp only [Act.put, List.setIfInBounds_toArray, List.set_cons_zero, List.set_cons_succ]))
        refine wpAnyH_done (by kernel_rfl) (NoPanic.normal ?_) _
        clear hHeld
        go_wp2_with fail
        go_roundw
        case rel => exact ⟨j + 1, t + 1, by omega, by go_num, by go_num, HST, hide (unhide hbl).drew⟩
        case measure => simp [intOf]; omega
      · have hkt : keepT now (ms.getD j R.zero) = false := decide_eq_false hkp
        have HST : Hid (t = ((ms.take (j + 1)).filter (keepT now)).length) := hide (by rw [unhide HTJ, hkt, if_neg (by simp), List.append_nil]; exact unhide ht)
        generalize ms.getD j R.zero = m at *
        obtain ⟨key, til, val⟩ := m
        obtain ⟨c0, c1, c2⟩ := hA
        dsimp only at c0 c1 c2 hnx hkp
        clear hkt HTJ
        have n1 : ¬ til < nx := by omega
        go_wp2_with fail
        go_roundw
        case rel => exact ⟨j + 1, t, by omega, by go_num, rfl, HST, hbl⟩
        case measure => simp [intOf]; omega
    · obtain rfl : j = n := by omega
      have HTK : t = k := by rw [unhide ht, unhide HA, unhide HK]
      subst HTK
      have HF2 := hide ((unhide B6).trans ((unhide hbl).mono (unhide B6).size))
      go_wp2_with fail
      go_ret
      exact ⟨by first | rfl | simp, unhide HF2⟩

set_option maxRecDepth 100000 in
theorem lifted (os : Os) (started : os.Started) (H : Type) (enc : TypeId × Value → H) :
    ReturnsInHanded {} Try.checked os 3 .any (Rows.fnExpireSpec.pre6 enc Try.prog Try.f3 Rows.fnExpireRow.domain false) (Rows.fnExpireSpec.post enc Try.prog Try.f3 false true false false) := by
  refine returnsInHanded_of_change (C := Try.checked) own started (by kernel_rfl) Try.func3
    (ChangeSpec.witness6 (enc := enc) (C := Try.checked) false ⟨#[], #[.slice none 0 0, .slice none 0 0], []⟩ 8 (by kernel_rfl) (by kernel_rfl) (by kernel_rfl) (by kernel_rfl)) ?_
  intro W base args ds gs before hval0 hW hcnd _
  have hval : ∀ (j : Nat) t v, Try.f3.params[j]? = some t → args[j]? = some v → Value.okWide Try.prog W .any base t v := hval0
  have hW' := hW
  obtain ⟨p, q, hA0, hV, rfl, hfz, hnd⟩ := hW
  have hA : DataW.TrodAll enc Try.prog W 0 (fun _ => true) true Try.f3.params.toList args.toList ds p := hA0
  rw [Try.params3] at hA hval
  obtain ⟨v0, vs0, d0, ds0, p0, q0, hargs0, rfl, rfl, h0, r0⟩ := trodAll_cons hA
  obtain ⟨v1, vs1, d1, ds1, p1, q1, hargs1, rfl, rfl, h1, r1⟩ := trodAll_cons r0
  obtain ⟨rfl, rfl, rfl⟩ := trodAll_nil r1
  obtain rfl : args = #[v0, v1] := by cases args; simp_all
  obtain ⟨rfl, rfl⟩ := trodVars_none hV
  have k0 := h0
  have lt0 : ∀ x ∈ p0, x.block < W.heap.size := by obtain ⟨m, hm⟩ := k0; exact DataW.trod_lt m _ _ _ hm
  have k1 := h1
  have lt1 : ∀ x ∈ p1, x.block < W.heap.size := by obtain ⟨m, hm⟩ := k1; exact DataW.trod_lt m _ _ _ hm
  obtain ⟨a0, len0, cap0, rfl⟩ := okWide_slice Try.underlying22 (hval 0 22 v0 rfl rfl)
  obtain ⟨bs0, hlen0, hmx0, hrd0⟩ := Op.open_bytes h0
  subst hlen0
  obtain ⟨a1, len1, cap1, rfl⟩ := okWide_slice Try.underlying22 (hval 1 22 v1 rfl rfl)
  obtain ⟨bs1, hlen1, hmx1, hrd1⟩ := Op.open_bytes h1
  subst hlen1
  clear hA0 hval0
  refine (walk a0 bs0 cap0 hmx0 a1 bs1 cap1 hmx1 W hrd0 hrd1).mono fun e W' ⟨he, bel⟩ => ?_
  subst he
  exact ⟨_, rfl, _, _, _, [], _, [], hW', trodAll_mk1 (shut_bool Try.underlying4 _), (trodAll_cons_mk (Below.trod laidOut (by kernel_rfl) (of_decide_eq_true (by kernel_rfl)) k0 bel lt0) (trodAll_cons_mk (Below.trod laidOut (by kernel_rfl) (of_decide_eq_true (by kernel_rfl)) k1 bel lt1) trodAll_mk0)), rfl, bel.frame _, fun h => by cases h⟩

theorem over : Rows.fnExpireRow.holds Try.pinned (OpenSpec.ofChange Rows.fnExpireSpec) :=
  OpenClaim.holds_of_wide 3 Try.f3 rfl rfl rfl rfl rfl rfl rfl ⟨rfl, rfl, rfl, rfl, rfl⟩ rfl rfl rfl rfl rfl (by kernel_rfl) Try.func3 (by kernel_rfl)
    (of_decide_eq_true (by kernel_rfl)) (by unfold Func.isWrapper; first | (rw [if_pos (by decide +kernel)]; kernel_rfl) | (rw [if_neg (by decide +kernel)]; exact ⟨rfl, rfl⟩))
    (fun os started H enc _ => lifted os started H enc)
end Go.Proofs.Ytmelbilepfnmjab.fnExpire
namespace Go.Proofs.Ytmelbilepfnmjab
/-- For all slices of bytes FnExpire holds: what is old goes, at its time, and nothing else. -/
theorem fnExpire_holds : Rows.FnExpireSaid := fnExpire.over
end Go.Proofs.Ytmelbilepfnmjab
