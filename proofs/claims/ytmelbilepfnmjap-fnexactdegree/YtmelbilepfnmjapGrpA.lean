/-
  The program's contracts: groups: of a list, whether one is in it, how many, which.
-/
import Derived.Test.YtmelbilepfnmjapGrpM
import Derived.Test.YtmelbilepfnmjapLnkV
import Derived.BigQuiet
namespace Go.Proofs.Ytmelbilepfnmjap
open Go.ChangeShapes Go.WideShapes Go.ChangeAt Go.RowKit
set_option linter.unusedVariables false
set_option linter.unusedSimpArgs false
attribute [local go_sem ↓] Go.wp_at_zero Go.wp_at_succ
namespace Gp
open W1 Tw Mr
theorem shl_one {a : Int} (h1 : 1 ≤ a) (h2 : a ≤ 8) : IntKind.u16.wrap (2 ^ min a.toNat 16) = (gN (fun z => z == a) : Int) := by
  rw [gN_one h1 h2, IntKind.wrap_u16, show min a.toNat 16 = a.toNat by omega]
  have : ∀ k : Fin 9, ((2 : Int) ^ k.val) % 65536 = ((2 ^ k.val : Nat) : Int) := by decide
  exact this ⟨a.toNat, by omega⟩
/-- The group of a list. -/
def gL (zs : List Int) : Nat := gN (fun z => zs.contains z)
theorem take_has {zs : List Int} {j : Nat} (h : j < zs.length) (z : Int) : (zs.take (j + 1)).contains z = ((zs.take j).contains z || z == zs.getD j 0) := by
  rw [zs_take h]
  generalize zs.getD j 0 = y
  rw [Bool.eq_iff_iff]; simp
set_option maxHeartbeats 2000000 in
theorem groupOf (a : Option Addr) (zs : List Int) (cap : Nat) (w : World) (hm : zs.length ≤ 1048576) (hr : In.RM w a zs) :
    Calls Try.prog 47 #[.slice a zs.length cap] w fun e w' => e = .returned (.int .u16 (gL zs)) ∧ w' = w := by
  have HR := hide hr
  clear hr
  generalize hN : zs.length = n at *
  have HN := hide hN
  clear hN
  go_enter Try.func47, Try.ntmps47
  go_wp2_with fail
  go_loopw [3, 8] (fun g i wr => w = wr ∧ ∃ j : Nat, j ≤ n ∧ i = .int .i64 j ∧ ∃ x : Int, g = .int .u16 x ∧ Hid (x = gN (fun z => (zs.take j).contains z))) (fun _ i _ => n - (intOf i).toNat)
  case atStart => exact ⟨rfl, 0, by omega, rfl, 0, rfl, hide (by rw [gN_nil (c := fun z => (zs.take 0).contains z) (fun _ _ _ => rfl)]; rfl)⟩
  case round =>
    obtain ⟨rfl, j, hj, rfl, x, rfl, hx⟩ := hrel
    by_cases hlt : (j : Int) < (n : Int)
    · have k0 : (0 : Int) ≤ (j : Int) := by omega
      have hlen : j < zs.length := by rw [unhide HN]; omega
      rcases unhide HR with e0 | ⟨g, off, rfl, hc⟩
      · exfalso; rw [e0] at hlen; simp at hlen
      have c0 := hc j hlen
      clear hc
      have HT := hide (take_has hlen)
      generalize zs.getD j 0 = y at *
      cases hk : inB y 1 8
      · have HE : Hid (x = gN (fun z => (zs.take (j + 1)).contains z)) := hide (by
          rw [unhide hx]; congr 1
          refine gN_congr (fun z h1 h2 => ?_)
          rw [unhide HT]
          have : (z == y) = false := by
            unfold inB at hk
            by_cases e : z = y
            · subst e; rw [decide_eq_true h1, decide_eq_true h2] at hk; cases hk
            · simpa using e
          rw [this, Bool.or_false])
        have HK := hide hk
        clear hk
        go_wp2_with (go_at_call 95; refine (isAddress _ _).mono ?_; rintro e w' ⟨rfl, rfl⟩; rw [unhide HK])
        go_roundw
        case rel => exact ⟨by first | trivial | rfl, j + 1, by omega, by go_num, x, rfl, HE⟩
        case measure => simp [intOf]; omega
      · have hb : 1 ≤ y ∧ y ≤ 8 := by
          unfold inB at hk; rw [Bool.and_eq_true] at hk
          exact ⟨of_decide_eq_true hk.1, of_decide_eq_true hk.2⟩
        have y0 : 0 ≤ y := by omega
        have HE : Hid (bits .or .u16 x (IntKind.u16.wrap (2 ^ min y.toNat 16)) = gN (fun z => (zs.take (j + 1)).contains z)) := hide (by
          rw [unhide hx, shl_one hb.1 hb.2, or_int]; congr 1
          exact gN_congr (fun z _ _ => (unhide HT z).symm))
        have HK := hide hk
        clear hk hb
        go_wp2_with (go_at_call 95; refine (isAddress _ _).mono ?_; rintro e w' ⟨rfl, rfl⟩; rw [unhide HK])
        go_roundw
        case rel => exact ⟨by first | trivial | rfl, j + 1, by omega, by go_num, _, rfl, HE⟩
        case measure => simp [intOf]; omega
    · obtain rfl : j = n := by omega
      have HE : Hid (x = gL zs) := hide (by have := unhide hx; rw [← unhide HN, List.take_length] at this; exact this)
      go_wp2_with fail
      go_ret
      exact ⟨ret_int (unhide HE), rfl⟩
theorem gL_one (a : Int) : gL [a] = gN (fun z => z == a) := gN_congr (fun z _ _ => by rw [Bool.eq_iff_iff]; simp)
theorem gL_lt (zs : List Int) : gL zs < 512 := gN_lt _
set_option maxHeartbeats 2000000 in
theorem has (s : Nat) (a : Int) (w : World) (hs : s < 65536) :
    Calls Try.prog 128 #[.int .u16 s, .int .i64 a] w fun e w' => e = .returned (.bool (hasB s a)) ∧ Below w.heap.size w w' := by
  have P0 : Hid (Below w.heap.size w (w.alloc (.cells #[.int .i64 a] 3))) := hide ((Below.refl _ _).alloc (Nat.le_refl _) _)
  have HN := hide (In.rm_new w a)
  have HH := hide (and_has hs a)
  generalize hb : hasB s a = b at *
  clear hb
  go_enter Try.func128, Try.ntmps128
  go_wp2_with fail
  refine (groupOf _ [a] _ _ (by simp) (unhide HN)).mono ?_
  rintro e w2 ⟨rfl, rfl⟩
  rw [gL_one]
  generalize gN (fun z => z == a) = g at *
  have HX : Hid ((bits BinOp.and IntKind.u16 (s : Int) (g : Int) != 0) = b) := hide (by
    have := unhide HH
    generalize bits BinOp.and IntKind.u16 (s : Int) (g : Int) = x at *
    cases b <;> simp at this <;> simp [this])
  go_wp2_with fail
  go_ret
  exact ⟨ret_bool (unhide HX), unhide P0⟩
theorem pop_int (c : Int → Bool) : Lib.pop8 ((gN c : Int) / 256) + Lib.pop8 ((gN c : Int) % 256) = ((strN c 8).length : Int) ∧ 0 ≤ Lib.pop8 ((gN c : Int) / 256) ∧ Lib.pop8 ((gN c : Int) / 256) ≤ 8 ∧ 0 ≤ Lib.pop8 ((gN c : Int) % 256) ∧ Lib.pop8 ((gN c : Int) % 256) ≤ 8 := by
  have hl := gN_lt c
  have h1 := Lib.pop8_eq ⟨gN c / 256, by omega⟩
  have h2 := Lib.pop8_eq ⟨gN c % 256, by omega⟩
  have l1 := Lib.onesCount_le8 ⟨gN c / 256, by omega⟩
  have l2 := Lib.onesCount_le8 ⟨gN c % 256, by omega⟩
  have h3 := pop_gN c
  have e1 : ((gN c / 256 : Nat) : Int) = (gN c : Int) / 256 := by omega
  have e2 : ((gN c % 256 : Nat) : Int) = (gN c : Int) % 256 := by omega
  simp only [Int.ofNat_eq_natCast, e1, e2] at h1 h2
  simp only at l1 l2
  refine ⟨?_, ?_, ?_, ?_, ?_⟩ <;> omega
/-- The library's table of how many bits a byte has, as the translation spells it. -/
theorem tab_eq : (⟨(([0, 1, 1, 2, 1, 2, 2, 3, 1, 2, 2, 3, 2, 3, 3, 4, 1, 2, 2, 3, 2, 3, 3, 4, 2, 3, 3, 4, 3, 4, 4, 5, 1, 2, 2, 3, 2, 3, 3, 4, 2, 3, 3, 4, 3, 4, 4, 5, 2, 3, 3, 4, 3, 4, 4, 5, 3, 4, 4, 5, 4, 5, 5, 6].append [1, 2, 2, 3, 2, 3, 3, 4, 2, 3, 3, 4, 3, 4, 4, 5, 2, 3, 3, 4, 3, 4, 4, 5, 3, 4, 4, 5, 4, 5, 5, 6, 2, 3, 3, 4, 3, 4, 4, 5, 3, 4, 4, 5, 4, 5, 5, 6, 3, 4, 4, 5, 4, 5, 5, 6, 4, 5, 5, 6, 5, 6, 6, 7]).append ([1, 2, 2, 3, 2, 3, 3, 4, 2, 3, 3, 4, 3, 4, 4, 5, 2, 3, 3, 4, 3, 4, 4, 5, 3, 4, 4, 5, 4, 5, 5, 6, 2, 3, 3, 4, 3, 4, 4, 5, 3, 4, 4, 5, 4, 5, 5, 6, 3, 4, 4, 5, 4, 5, 5, 6, 4, 5, 5, 6, 5, 6, 6, 7].append [2, 3, 3, 4, 3, 4, 4, 5, 3, 4, 4, 5, 4, 5, 5, 6, 3, 4, 4, 5, 4, 5, 5, 6, 4, 5, 5, 6, 5, 6, 6, 7, 3, 4, 4, 5, 4, 5, 5, 6, 4, 5, 5, 6, 5, 6, 6, 7, 4, 5, 5, 6, 5, 6, 6, 7, 5, 6, 6, 7, 6, 7, 7, 8])).toArray⟩ : ByteArray) = Lib.pop8tab := by kernel_rfl
theorem and_255 {x : Int} (h0 : 0 ≤ x) (h1 : x < 512) : bits BinOp.and IntKind.u16 x 255 = x % 256 := by
  have h : ∀ k : Fin 512, bits BinOp.and IntKind.u16 ((k.val : Nat) : Int) 255 = ((k.val : Nat) : Int) % 256 := by decide +kernel
  have := h ⟨x.toNat, by omega⟩
  simp only [Int.toNat_of_nonneg h0] at this
  exact this
set_option maxHeartbeats 2000000 in
theorem ones16 (c : Int → Bool) (w : World) : Calls Try.prog 96 #[.int .u16 (gN c)] w fun e w' => e = .returned (.int .i64 (strN c 8).length) ∧ ∃ m, w' = w.drewN m := by
  have hl := gN_lt c
  have HP := hide (pop_int c)
  generalize hx : (gN c : Int) = x at *
  have x0 : 0 ≤ x := by omega
  have x1 : x < 512 := by omega
  clear hx
  have d0 : 0 ≤ x / 256 := by omega
  have d1 : x / 256 ≤ 255 := by omega
  have d2 := and_255 x0 x1
  go_enter Try.func96, Try.ntmps96
  go_wp2
  rw [tab_eq]
  go_quiet (fail)
  have HE : Hid ((Lib.pop8 (x / 256) + Lib.pop8 (x % 256)) % 256 = ((strN c 8).length : Int)) := hide (by have := unhide HP; omega)
  go_wp2
  go_ret
  exact ⟨ret_int (unhide HE), _, rfl⟩
theorem count (c : Int → Bool) (w : World) : Calls Try.prog 48 #[.int .u16 (gN c)] w fun e w' => e = .returned (.int .i64 (strN c 8).length) ∧ ∃ m, w' = w.drewN m := by
  go_enter Try.func48, Try.ntmps48
  go_wp2_with fail
  refine (ones16 c _).mono ?_
  rintro e w2 ⟨rfl, m, rfl⟩
  go_wp2_with fail
  go_ret
  exact ⟨rfl, _, rfl⟩
set_option maxRecDepth 100000 in
set_option maxHeartbeats 4000000 in
theorem addrs (s : Nat) (w : World) (hs : s < 65536) :
    Calls Try.prog 94 #[.int .u16 s] w fun e w' => ∃ v, e = .returned v ∧ Below w.heap.size w w' ∧ In.LstV w' v (strN (hasB s) 8) w.heap.size w'.heap.size := by
  obtain ⟨c, hc⟩ : ∃ c, hasB s = c := ⟨_, rfl⟩
  have HC : Hid (∀ x, hasB s x = c x) := hide (fun x => by rw [hc])
  rw [hc]
  clear hc
  have O0 : Hid (w.ownsRow w.heap.size 3 1 (.slice none 0 0) (strN c 0).length (In.flat (strN c 0))) := hide (In.own_nil w w.heap.size)
  go_enter Try.func94, Try.ntmps94
  go_wp2_with fail
  go_loopw [3, 4] (fun v i wr => ∃ j : Nat, j ≤ 8 ∧ i = .int .i64 ((j : Int) + 1) ∧ Hid (wr.ownsRow w.heap.size 3 1 v (strN c j).length (In.flat (strN c j))) ∧ Hid (Below w.heap.size w wr)) (fun _ i _ => 9 - (intOf i).toNat)
  case atStart => exact ⟨0, by omega, rfl, O0, hide (Below.refl _ _)⟩
  case round =>
    obtain ⟨j, hj, rfl, how, hbl⟩ := hrel
    have hbs := (unhide hbl).size
    have hfl := strN_len c j
    by_cases hlt : (j : Int) + 1 ≤ 8
    · have HY := hide (fun (h : c ((j : Int) + 1) = true) => strN_yes h)
      have HZ := hide (fun (h : c ((j : Int) + 1) = false) => strN_no h)
      obtain ⟨b, hb⟩ : ∃ b, c ((j : Int) + 1) = b := ⟨_, rfl⟩
      have HB := hide hb
      rw [hb] at HY HZ
      clear hb
      go_wp2_with fail
      refine (has s ((j : Int) + 1) _ hs).mono ?_
      rintro e w5 ⟨rfl, b5⟩
      rw [unhide HC, unhide HB]
      have HB5 := hide ((unhide hbl).trans (b5.mono (unhide hbl).size))
      have HO5 := hide (Ln.own_belowI (unhide how) b5)
      have hs5 := (unhide HB5).size
      clear b5
      cases b
      · have HTF := hide (unhide HZ rfl)
        have HO : Hid (w5.ownsRow w.heap.size 3 1 u3 (strN c (j + 1)).length (In.flat (strN c (j + 1)))) := hide (by rw [unhide HTF]; exact unhide HO5)
        go_wp2_with fail
        go_roundw
        case rel => exact ⟨j + 1, by omega, by go_num, HO, HB5⟩
        case measure => simp [intOf]; omega
      · have HTF := hide (unhide HY rfl)
        go_wp2_with (at_builtin; refine In.wpList_apS ((unhide HO5).alloc _) w5.heap.size 0 1 1 [(j : Int) + 1] rfl (In.rm_new w5 ((j : Int) + 1)) (by simp only [List.length_cons, List.length_nil]; omega) (by simp; omega) rfl _ _ rfl rfl rfl ?_; intro v' w' ho hg; have HO : Hid (w'.ownsRow w.heap.size 3 1 v' (strN c (j + 1)).length (In.flat (strN c (j + 1)))) := hide (by rw [unhide HTF]; exact ho); have HB := hide (In.below_own ((unhide HB5).alloc hs5 _) ((unhide HO5).alloc _) hg (Nat.le_refl _) (by simp; omega)); clear ho hg)
        go_roundw
        case rel => exact ⟨j + 1, by omega, by go_num, HO, HB⟩
        case measure => simp [intOf]; omega
    · obtain rfl : j = 8 := by omega
      have HLs := hide (In.lst_own rfl (unhide how))
      go_wp2_with fail
      go_ret
      exact ⟨_, rfl, unhide hbl, unhide HLs⟩
end Gp
end Go.Proofs.Ytmelbilepfnmjap
