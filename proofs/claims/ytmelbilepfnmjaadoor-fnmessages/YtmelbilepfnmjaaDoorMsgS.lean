/-
  Contract of the model's l01Message: the bytes of a right message, as a text.
-/
import Derived.Test.YtmelbilepfnmjaaDoorNum
import Derived.Deep.RegionHeld3
import Derived.Deep.DrawnRows
namespace Go.Proofs.YtmelbilepfnmjaaDoor
open Go.ChangeShapes Go.WideShapes Go.ChangeAt Go.RowKit
set_option linter.unusedVariables false
attribute [local go_sem ↓] Go.wp_at_zero Go.wp_at_succ
attribute [local go_sem] Go.strOfNums_size ByteArray.size_append
namespace Ms
open W1 Nu

/-- The bytes of a message, as a text. -/
def msgStr (ty og sq hl hp : Int) (body : ByteArray) : ByteArray :=
  strOfNums [ty] ++ strOfNums [(8 + (body.size : Int)) / 256, (8 + (body.size : Int)) % 256] ++ strOfNums [og] ++ strOfNums [sq / 256, sq % 256] ++ strOfNums [hl] ++ strOfNums [hp] ++ body
/-- The head's eight numbers. -/
def head (ty og sq hl hp : Int) (n : Nat) : List Int := [ty, (8 + (n : Int)) / 256, (8 + (n : Int)) % 256, og, sq / 256, sq % 256, hl, hp]
theorem msgStr_data (ty og sq hl hp : Int) (body : ByteArray) : (msgStr ty og sq hl hp body).data.toList = (head ty og sq hl hp body.size).map (fun n => UInt8.ofNat n.toNat) ++ body.data.toList := by
  simp [msgStr, head, strOfNums, ByteArray.data_append]
theorem msgStr_size (ty og sq hl hp : Int) (body : ByteArray) : (msgStr ty og sq hl hp body).size = 8 + body.size := by
  have := congrArg List.length (msgStr_data ty og sq hl hp body)
  simp [head] at this
  omega
theorem wrapS {x : Int} (h0 : 0 ≤ x) (h1 : x ≤ 1099511627776) : IntKind.i64.wrap x = x := by
  have e := IntWalk.i64_left x
  rw [e]; unfold wrap64; omega
set_option maxRecDepth 100000 in
set_option maxHeartbeats 4000000 in
theorem l01Message (ty og sq hl hp : Int) (body : ByteArray) (w : World) (t0 : 0 ≤ ty) (t1 : ty ≤ 255) (o0 : 0 ≤ og) (o1 : og ≤ 255) (s0 : 0 ≤ sq) (s1 : sq ≤ 65535) (l0 : 0 ≤ hl) (l1 : hl ≤ 255) (p0 : 0 ≤ hp) (p1 : hp ≤ 255) (b1 : (body.size : Int) ≤ 120) :
    Calls Tryd.prog 16 #[.agg #[.int .i64 ty, .int .i64 og, .int .i64 sq, .int .i64 hl, .int .i64 hp, .string body]] w
      fun e w' => e = .returned (.string (msgStr ty og sq hl hp body)) ∧ Below w.heap.size w w' := by
  have hw8 : IntKind.i64.wrap (8 + (body.size : Int)) = 8 + body.size := wrapS (by omega) (by omega)
  have hnb : ¬ (9223372036854775807 < 1 + 2 + 1 + 2 + 1 + 1 + body.size) := by omega
  have hnb2 : ¬ (9223372036854775807 < 8 + body.size) := by omega
  go_enter Tryd.func16, Tryd.ntmps16
  go_wp2_with fail
  have hsz0 : w.heap.size + 1 ≤ (w.alloc (.cells #[.int .i64 ty, .int .i64 og, .int .i64 sq, .int .i64 hl, .int .i64 hp, .string body] 24)).heap.size := by simp
  have hbl0 : Below w.heap.size w (w.alloc (.cells #[.int .i64 ty, .int .i64 og, .int .i64 sq, .int .i64 hl, .int .i64 hp, .string body] 24)) := (Below.refl _ _).alloc (Nat.le_refl _) _
  go_region_held3 (fun w' => w.heap.size + 1 ≤ w'.heap.size ∧ Below w.heap.size w w' ∧ w'.cell? ⟨w.heap.size, 0, none⟩ = some (.int .i64 ty) ∧ w'.cell? ⟨w.heap.size, 1, none⟩ = some (.int .i64 og) ∧ w'.cell? ⟨w.heap.size, 2, none⟩ = some (.int .i64 sq) ∧ w'.cell? ⟨w.heap.size, 3, none⟩ = some (.int .i64 hl) ∧ w'.cell? ⟨w.heap.size, 4, none⟩ = some (.int .i64 hp) ∧ w'.cell? ⟨w.heap.size, 5, none⟩ = some (.string body))
    ((go_split_ands; refine ⟨?_, ?_, ?_, ?_, ?_, ?_, ?_, ?_⟩; (first | assumption | (have := hbel.size; omega)); (first | assumption | (exact Below.drew (by assumption)) | (exact Below.trans (by assumption) (hbel.mono (by omega)))); all_goals (first | assumption | (simp; done) | (rw [hbel.cell (by show w.heap.size < _; omega)]; assumption))))
    (first
      | (go_at_call_of 30 (Value.int .i64 1); refine (num1 _ ?_ ?_ _).mono ?_; omega; omega; rintro e w' ⟨rfl, hbel⟩)
      | (go_at_call_of 30 (Value.int .i64 2); refine (num2 _ ?_ ?_ _).mono ?_; omega; omega; rintro e w' ⟨rfl, hbel⟩))
  have hHeld : Below w.heap.size w w' := by
    have h : w.heap.size + 1 ≤ w'.heap.size ∧ Below w.heap.size w w' ∧ w'.cell? ⟨w.heap.size, 0, none⟩ = some (.int .i64 ty) ∧ w'.cell? ⟨w.heap.size, 1, none⟩ = some (.int .i64 og) ∧ w'.cell? ⟨w.heap.size, 2, none⟩ = some (.int .i64 sq) ∧ w'.cell? ⟨w.heap.size, 3, none⟩ = some (.int .i64 hl) ∧ w'.cell? ⟨w.heap.size, 4, none⟩ = some (.int .i64 hp) ∧ w'.cell? ⟨w.heap.size, 5, none⟩ = some (.string body) := by assumption
    exact h.2.1
  go_wp2
  go_ret
  exact ⟨rfl, hHeld⟩
end Ms
end Go.Proofs.YtmelbilepfnmjaaDoor
