/-
  The model's contracts of marks: l10Ask, l10Key, DupKey, l10Seen, DupSeen.
-/
import Derived.Test.YtlcppgnnlgigmaaDupI
import Derived.Laws.BytesArg
import Derived.Laws.BitsAllLaws
namespace Go.Proofs.Ytlcppgnnlgigmaa
open Go.ChangeShapes Go.WideShapes Go.ChangeAt Go.RowKit
set_option linter.unusedVariables false
set_option linter.unusedSimpArgs false
set_option maxRecDepth 100000
attribute [local go_sem ↓] Go.wp_at_zero Go.wp_at_succ
namespace Du
open W1 Tu St
theorem or16 {x y : Int} (hx0 : 0 ≤ x) (hx1 : x ≤ 255) (hy0 : 0 ≤ y) (hy1 : y ≤ 65535) : bits BinOp.or IntKind.i64 (x * 65536) y = 65536 * x + y := by
  obtain ⟨X, rfl⟩ := Int.eq_ofNat_of_zero_le hx0
  obtain ⟨Y, rfl⟩ := Int.eq_ofNat_of_zero_le hy0
  have e : ((X : Int) * 65536) = ((2 ^ 16 * X : Nat) : Int) := by omega
  rw [e]
  show IntKind.i64.wrap ((BitVec.ofInt 64 ((2 ^ 16 * X : Nat) : Int) ||| BitVec.ofInt 64 (Y : Int)).toNat : Int) = _
  rw [BitVec.toNat_or, ofInt_u64 (2 ^ 16 * X) (by omega), ofInt_u64 Y (by omega), ← Nat.two_pow_add_eq_or_of_lt (by omega), IntWalk.i64_left]
  unfold wrap64
  omega
set_option maxHeartbeats 1000000 in
theorem l10Ask (og sq : Int) (w : World) : Calls Try.prog 71 #[.int .i64 og, .int .i64 sq] w fun e w' => e = .returned (.bool (askB og sq)) ∧ w' = w := by
  cases h1 : inB og 1 8
  rotate_left
  cases h2 : inB sq 0 65535
  all_goals
    go_enter Try.func71, Try.ntmps71
    go_wp2_with (first | (go_at_call 51; refine (l01Addr _ _).mono ?_; rintro e w' ⟨rfl, rfl⟩) | (go_at_call 52; refine (l01In _ _ _ _).mono ?_; rintro e w' ⟨rfl, rfl⟩))
    go_ret
    refine ⟨ret_bool ?_, rfl⟩
    unfold askB
    simp_all
set_option maxHeartbeats 1000000 in
theorem l10Key (og sq : Int) (w : World) (h : askB og sq = true) : Calls Try.prog 127 #[.int .i64 og, .int .i64 sq] w fun e w' => e = .returned (.int .i64 (keyD og sq)) ∧ w' = w := by
  have hb := ask_bounds h
  have hor : bits BinOp.or IntKind.i64 (og * 65536) sq = keyD og sq := or16 (by omega) (by omega) (by omega) (by omega)
  clear h
  generalize keyD og sq = K at *
  go_enter Try.func127, Try.ntmps127
  go_wp2
  go_ret
  exact ⟨rfl, rfl⟩
end Du
end Go.Proofs.Ytlcppgnnlgigmaa
