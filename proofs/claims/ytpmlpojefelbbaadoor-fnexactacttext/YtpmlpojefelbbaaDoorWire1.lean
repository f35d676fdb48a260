/-
  Contracts of small functions: ranges, addresses, whether a message is right, a message carried over, its size. For every argument; they change nothing that was there.
-/
import Derived.Test.YtpmlpojefelbbaaDoorRows
import Derived.WalkKit
import Derived.ProofKit
import Derived.OpenShut
import Derived.ShutString
import Derived.ChangeOld
import Derived.Below
namespace Go.Proofs.YtpmlpojefelbbaaDoor
open Go.ChangeShapes Go.WideShapes Go.ChangeAt Go.RowKit
set_option linter.unusedVariables false

namespace W1
theorem hide {p : Prop} (h : p) : Hid p := h
theorem unhide {p : Prop} (h : Hid p) : p := h
theorem ret_bool {a b : Bool} (h : a = b) : Ending.returned (.bool a) = .returned (.bool b) := by rw [h]
theorem ret_int {k : IntKind} {a b : Int} (h : a = b) : Ending.returned (.int k a) = .returned (.int k b) := by rw [h]
theorem bcell {W w1 : World} (hb : Below W.heap.size W w1) : (∀ b o, b < W.heap.size → w1.cell? ⟨b, o, none⟩ = W.cell? ⟨b, o, none⟩) ∧ (∀ b o, b < W.heap.size → w1.frozen? ⟨b, o, none⟩ = W.frozen? ⟨b, o, none⟩) :=
  ⟨fun b o h => hb.cell (p := ⟨b, o, none⟩) h, fun b o h => hb.frozen (p := ⟨b, o, none⟩) h⟩

def inB (n a b : Int) : Bool := decide (a ≤ n) && decide (n ≤ b)
/-- Whether a message is right. -/
def okB (ty og sq hl hp : Int) (body : ByteArray) : Bool :=
  inB ty 1 2 && (inB og 1 8 && (inB sq 0 65535 && (inB hl 0 255 && (inB hp 0 255 && decide ((body.size : Int) ≤ 120)))))

/-- How many of the first N codes stand for less than n. -/
def cnt (f : Nat → Int) (N : Nat) (n : Int) : Nat := ((List.range N).filter fun c => decide (f c < n)).length
theorem cnt_of (f : Nat → Int) (n : Int) : ∀ (N k : Nat), k ≤ N → (∀ c, c < k → f c < n) → (∀ c, k ≤ c → c < N → n ≤ f c) → cnt f N n = k
  | 0, k, hk, _, _ => by simp [cnt]; omega
  | N + 1, k, hk, h1, h2 => by
    unfold cnt
    rw [List.range_succ, List.filter_append, List.length_append]
    by_cases e : k = N + 1
    · have ih := cnt_of f n N N (Nat.le_refl _) (fun c hc => h1 c (by omega)) (fun c h h' => by omega)
      unfold cnt at ih
      rw [ih, List.filter_cons_of_pos (by simpa using h1 N (by omega))]
      simp [e]
    · have ih := cnt_of f n N k (by omega) h1 (fun c h h' => h2 c h (by omega))
      unfold cnt at ih
      rw [ih, List.filter_cons_of_neg (by have := h2 N (by omega) (by omega); simp; omega)]
      simp

/-- Two numbers and a value in a variable's block. -/
def Bx3 (w : World) (b : Nat) (x y : Int) (v : Value) : Prop := w.cell? ⟨b, 0, none⟩ = some (.int .i64 x) ∧ w.cell? ⟨b, 1, none⟩ = some (.int .i64 y) ∧ w.cell? ⟨b, 2, none⟩ = some v
theorem Bx3.under {w w' : World} {B b : Nat} {x y : Int} {v : Value} (h : Bx3 w b x y v) (hb : Below B w w') (hg : b < B) : Bx3 w' b x y v := by
  obtain ⟨h0, h1, h2⟩ := h
  refine ⟨?_, ?_, ?_⟩ <;> (rw [hb.cell hg]; assumption)
theorem Bx3.lt {w : World} {b : Nat} {x y : Int} {v : Value} (h : Bx3 w b x y v) : b < w.heap.size := World.block_lt_of_cell? _ _ h.1
theorem Bx3.below {w w' : World} {b : Nat} {x y : Int} {v : Value} (h : Bx3 w b x y v) (hb : Below w.heap.size w w') : Bx3 w' b x y v := h.under hb h.lt
theorem Bx3.drew {w : World} {b : Nat} {x y : Int} {v : Value} (h : Bx3 w b x y v) : Bx3 w.drew b x y v := h
theorem Bx3.but {w w' : World} {b : Nat} {x y : Int} {v : Value} (h : Bx3 w b x y v) (hb : w'.heap[b]? = w.heap[b]?) : Bx3 w' b x y v :=
  ⟨(World.cell?_of_block (a := ⟨b, 0, none⟩) hb).trans h.1, (World.cell?_of_block (a := ⟨b, 1, none⟩) hb).trans h.2.1, (World.cell?_of_block (a := ⟨b, 2, none⟩) hb).trans h.2.2⟩
theorem bx3_new (w : World) (x y : Int) (v : Value) (t : Nat) : Bx3 (w.alloc (.cells #[.int .i64 x, .int .i64 y, v] t)) w.heap.size x y v := by
  refine ⟨?_, ?_, ?_⟩ <;> simp [World.cell?_alloc_new]

set_option maxHeartbeats 400000 in
theorem within (n a b : Int) (w : World) : Calls Tryd.prog 39 #[.int .i64 n, .int .i64 a, .int .i64 b] w fun e w' => e = .returned (.bool (inB n a b)) ∧ w' = w := by
  by_cases h1 : a ≤ n
  all_goals by_cases h2 : n ≤ b
  all_goals
    go_enter Tryd.func39, Tryd.ntmps39
    go_wp2
    go_ret
    exact ⟨ret_bool (by simp [inB, h1, h2]), rfl⟩
set_option maxHeartbeats 400000 in
theorem l01In (n a b : Int) (w : World) : Calls Tryd.prog 26 #[.int .i64 n, .int .i64 a, .int .i64 b] w fun e w' => e = .returned (.bool (inB n a b)) ∧ w' = w := by
  by_cases h1 : a ≤ n
  all_goals by_cases h2 : n ≤ b
  all_goals
    go_enter Tryd.func26, Tryd.ntmps26
    go_wp2
    go_ret
    exact ⟨ret_bool (by simp [inB, h1, h2]), rfl⟩



/-- What szMessage leaves of a budget. -/
def left (n : Int) (k : Nat) : Int := if n - k < 0 then -1 else n - k
end W1
end Go.Proofs.YtpmlpojefelbbaaDoor
