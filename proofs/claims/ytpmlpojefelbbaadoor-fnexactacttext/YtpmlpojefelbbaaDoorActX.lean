/-
  The program's ActText: its texts.
-/
import Derived.Test.YtpmlpojefelbbaaDoorActI
namespace Go.Proofs.YtpmlpojefelbbaaDoor
open Go.ChangeShapes Go.WideShapes Go.ChangeAt Go.RowKit
set_option linter.unusedVariables false
set_option linter.unusedSimpArgs false
set_option maxRecDepth 100000
attribute [local go_sem ↓] Go.wp_at_zero Go.wp_at_succ
attribute [local go_sem] Go.strOfNums_size ByteArray.size_append
namespace Ac
open W1 Di

/-- Texts put together with a blank between them. -/
def jn (xs : List ByteArray) : ByteArray := ⟨(Lib.join (xs.map (·.data.toList)) [32]).toArray⟩
theorem jn2 (a b : ByteArray) : jn [a, b] = (a ++ s32) ++ b := by
  unfold jn s32
  apply ByteArray.ext
  simp [Lib.join_cons, Lib.joinTail, ByteArray.data_append]
theorem jn3 (a b c : ByteArray) : jn [a, b, c] = (((a ++ s32) ++ b) ++ s32) ++ c := by
  unfold jn s32
  apply ByteArray.ext
  simp [Lib.join_cons, Lib.joinTail, ByteArray.data_append]
theorem jn4 (a b c d : ByteArray) : jn [a, b, c, d] = (((((a ++ s32) ++ b) ++ s32) ++ c) ++ s32) ++ d := by
  unfold jn s32
  apply ByteArray.ext
  simp [Lib.join_cons, Lib.joinTail, ByteArray.data_append]
theorem cells_lit (w : World) (xs : List ByteArray) (t : Nat) : ∀ (j : Nat) x, xs[j]? = some x → (w.alloc (.cells (xs.map Value.string).toArray t)).cell? ⟨w.heap.size, 0 + j, none⟩ = some (.string x) := fun j x h => by
  rw [World.cell?_alloc_new, Nat.zero_add]
  simp [List.getElem?_map, h]
theorem implSpaced (bk c : Nat) (xs : List ByteArray) (w : World) (hcells : ∀ (j : Nat) x, xs[j]? = some x → w.cell? ⟨bk, 0 + j, none⟩ = some (.string x)) (hbk : bk < w.heap.size) (hN : xs.length ≤ 100) (hcap : xs.length ≤ c) (hlen : (jn xs).size ≤ 100000) :
    Calls Tryd.prog 27 #[.slice (some ⟨bk, 0, none⟩) xs.length c] w fun e w' => e = .returned (.string (jn xs)) ∧ Below w.heap.size w w' := by
  have hl : (Lib.join (xs.map (·.data.toList)) [32]).length ≤ 140737488355328 := by
    have : (jn xs).size = (Lib.join (xs.map (·.data.toList)) [32]).length := by unfold jn; simp [ByteArray.size]
    omega
  have KJ := hide (Tryd.strings_Join bk 0 c xs s32 w hcells hbk (by omega) hcap hl)
  go_enter Tryd.func27, Tryd.ntmps27
  go_wp2_with fail
  refine (unhide KJ).mono ?_
  rintro e w1 ⟨rfl, b1⟩
  go_wp2_with fail
  go_ret
  exact ⟨rfl, b1⟩
theorem kind1 (a b n : Int) (l : Option Addr) (zs : List Int) (c : Nat) (by_ : ByteArray) (w : World) :
    Calls Tryd.prog 19 #[.agg #[.int .i64 1, .int .i64 a, .int .i64 b, .int .i64 n, .slice l zs.length c, .string by_]] w fun e w' => e = .returned (.iface 51 (.agg #[.int .i64 n])) ∧ Below w.heap.size w w' := by
  have HX := hide (bx6_new w 1 a b n (.slice l zs.length c) by_ 28)
  have HB0 := hide (bel_new6 w (.cells #[.int .i64 1, .int .i64 a, .int .i64 b, .int .i64 n, .slice l zs.length c, .string by_] 28))
  go_enter Tryd.func19, Tryd.ntmps19
  obtain ⟨p0, p1, p2, p3, p4, p5⟩ := unhide HX
  go_wp2_with fail
  go_ret
  exact ⟨rfl, unhide HB0⟩
theorem kind2 (a b n : Int) (l : Option Addr) (zs : List Int) (c : Nat) (by_ : ByteArray) (w : World) :
    Calls Tryd.prog 19 #[.agg #[.int .i64 2, .int .i64 a, .int .i64 b, .int .i64 n, .slice l zs.length c, .string by_]] w fun e w' => e = .returned (.iface 54 (.agg #[.int .i64 n, .slice l zs.length c])) ∧ Below w.heap.size w w' := by
  have HX := hide (bx6_new w 2 a b n (.slice l zs.length c) by_ 28)
  have HB0 := hide (bel_new6 w (.cells #[.int .i64 2, .int .i64 a, .int .i64 b, .int .i64 n, .slice l zs.length c, .string by_] 28))
  go_enter Tryd.func19, Tryd.ntmps19
  obtain ⟨p0, p1, p2, p3, p4, p5⟩ := unhide HX
  go_wp2_with fail
  go_ret
  exact ⟨rfl, unhide HB0⟩
theorem kind3 (a b n : Int) (l : Option Addr) (zs : List Int) (c : Nat) (by_ : ByteArray) (w : World) :
    Calls Tryd.prog 19 #[.agg #[.int .i64 3, .int .i64 a, .int .i64 b, .int .i64 n, .slice l zs.length c, .string by_]] w fun e w' => e = .returned (.iface 57 (.agg #[.int .i64 a, .int .i64 b, .int .i64 n])) ∧ Below w.heap.size w w' := by
  have HX := hide (bx6_new w 3 a b n (.slice l zs.length c) by_ 28)
  have HB0 := hide (bel_new6 w (.cells #[.int .i64 3, .int .i64 a, .int .i64 b, .int .i64 n, .slice l zs.length c, .string by_] 28))
  go_enter Tryd.func19, Tryd.ntmps19
  obtain ⟨p0, p1, p2, p3, p4, p5⟩ := unhide HX
  go_wp2_with fail
  go_ret
  exact ⟨rfl, unhide HB0⟩
theorem kind4 (a b n : Int) (l : Option Addr) (zs : List Int) (c : Nat) (by_ : ByteArray) (w : World) :
    Calls Tryd.prog 19 #[.agg #[.int .i64 4, .int .i64 a, .int .i64 b, .int .i64 n, .slice l zs.length c, .string by_]] w fun e w' => e = .returned (.iface 59 (.agg #[.int .i64 a, .int .i64 n])) ∧ Below w.heap.size w w' := by
  have HX := hide (bx6_new w 4 a b n (.slice l zs.length c) by_ 28)
  have HB0 := hide (bel_new6 w (.cells #[.int .i64 4, .int .i64 a, .int .i64 b, .int .i64 n, .slice l zs.length c, .string by_] 28))
  go_enter Tryd.func19, Tryd.ntmps19
  obtain ⟨p0, p1, p2, p3, p4, p5⟩ := unhide HX
  go_wp2_with fail
  go_ret
  exact ⟨rfl, unhide HB0⟩
theorem kind5 (a b n : Int) (l : Option Addr) (zs : List Int) (c : Nat) (by_ : ByteArray) (w : World) :
    Calls Tryd.prog 19 #[.agg #[.int .i64 5, .int .i64 a, .int .i64 b, .int .i64 n, .slice l zs.length c, .string by_]] w fun e w' => e = .returned (.iface 61 (.agg #[.int .i64 a, .int .i64 b, .string by_])) ∧ Below w.heap.size w w' := by
  have HX := hide (bx6_new w 5 a b n (.slice l zs.length c) by_ 28)
  have HB0 := hide (bel_new6 w (.cells #[.int .i64 5, .int .i64 a, .int .i64 b, .int .i64 n, .slice l zs.length c, .string by_] 28))
  go_enter Tryd.func19, Tryd.ntmps19
  obtain ⟨p0, p1, p2, p3, p4, p5⟩ := unhide HX
  go_wp2_with fail
  go_ret
  exact ⟨rfl, unhide HB0⟩
theorem kind0 (k a b n : Int) (l : Option Addr) (zs : List Int) (c : Nat) (by_ : ByteArray) (w : World) (h1 : k ≠ 1) (h2 : k ≠ 2) (h3 : k ≠ 3) (h4 : k ≠ 4) (h5 : k ≠ 5) :
    Calls Tryd.prog 19 #[.agg #[.int .i64 k, .int .i64 a, .int .i64 b, .int .i64 n, .slice l zs.length c, .string by_]] w fun e w' => e = .returned .nilIface ∧ Below w.heap.size w w' := by
  have HX := hide (bx6_new w k a b n (.slice l zs.length c) by_ 28)
  have HB0 := hide (bel_new6 w (.cells #[.int .i64 k, .int .i64 a, .int .i64 b, .int .i64 n, .slice l zs.length c, .string by_] 28))
  go_enter Tryd.func19, Tryd.ntmps19
  obtain ⟨p0, p1, p2, p3, p4, p5⟩ := unhide HX
  go_wp2_with fail
  go_ret
  exact ⟨rfl, unhide HB0⟩
theorem ta11 (v : Value) (w : World) : (Instr.typeAssert (.iface 51 v) 20 51 true).run Tryd.prog w = .ok (.tuple #[v, .bool true]) w := by kernel_rfl
theorem ta21 (v : Value) (w : World) : (Instr.typeAssert (.iface 54 v) 20 51 true).run Tryd.prog w = .ok (.tuple #[.agg #[.int .i64 0], .bool false]) w := by kernel_rfl
theorem ta22 (v : Value) (w : World) : (Instr.typeAssert (.iface 54 v) 20 54 true).run Tryd.prog w = .ok (.tuple #[v, .bool true]) w := by kernel_rfl
theorem ta31 (v : Value) (w : World) : (Instr.typeAssert (.iface 57 v) 20 51 true).run Tryd.prog w = .ok (.tuple #[.agg #[.int .i64 0], .bool false]) w := by kernel_rfl
theorem ta32 (v : Value) (w : World) : (Instr.typeAssert (.iface 57 v) 20 54 true).run Tryd.prog w = .ok (.tuple #[.agg #[.int .i64 0, .slice none 0 0], .bool false]) w := by kernel_rfl
theorem ta33 (v : Value) (w : World) : (Instr.typeAssert (.iface 57 v) 20 57 true).run Tryd.prog w = .ok (.tuple #[v, .bool true]) w := by kernel_rfl
theorem ta41 (v : Value) (w : World) : (Instr.typeAssert (.iface 59 v) 20 51 true).run Tryd.prog w = .ok (.tuple #[.agg #[.int .i64 0], .bool false]) w := by kernel_rfl
theorem ta42 (v : Value) (w : World) : (Instr.typeAssert (.iface 59 v) 20 54 true).run Tryd.prog w = .ok (.tuple #[.agg #[.int .i64 0, .slice none 0 0], .bool false]) w := by kernel_rfl
theorem ta43 (v : Value) (w : World) : (Instr.typeAssert (.iface 59 v) 20 57 true).run Tryd.prog w = .ok (.tuple #[.agg #[.int .i64 0, .int .i64 0, .int .i64 0], .bool false]) w := by kernel_rfl
theorem ta44 (v : Value) (w : World) : (Instr.typeAssert (.iface 59 v) 20 59 true).run Tryd.prog w = .ok (.tuple #[v, .bool true]) w := by kernel_rfl
theorem ta51 (v : Value) (w : World) : (Instr.typeAssert (.iface 61 v) 20 51 true).run Tryd.prog w = .ok (.tuple #[.agg #[.int .i64 0], .bool false]) w := by kernel_rfl
theorem ta52 (v : Value) (w : World) : (Instr.typeAssert (.iface 61 v) 20 54 true).run Tryd.prog w = .ok (.tuple #[.agg #[.int .i64 0, .slice none 0 0], .bool false]) w := by kernel_rfl
theorem ta53 (v : Value) (w : World) : (Instr.typeAssert (.iface 61 v) 20 57 true).run Tryd.prog w = .ok (.tuple #[.agg #[.int .i64 0, .int .i64 0, .int .i64 0], .bool false]) w := by kernel_rfl
theorem ta54 (v : Value) (w : World) : (Instr.typeAssert (.iface 61 v) 20 59 true).run Tryd.prog w = .ok (.tuple #[.agg #[.int .i64 0, .int .i64 0], .bool false]) w := by kernel_rfl
theorem ta01 (w : World) : (Instr.typeAssert .nilIface 20 51 true).run Tryd.prog w = .ok (.tuple #[.agg #[.int .i64 0], .bool false]) w := by kernel_rfl
theorem ta02 (w : World) : (Instr.typeAssert .nilIface 20 54 true).run Tryd.prog w = .ok (.tuple #[.agg #[.int .i64 0, .slice none 0 0], .bool false]) w := by kernel_rfl
theorem ta03 (w : World) : (Instr.typeAssert .nilIface 20 57 true).run Tryd.prog w = .ok (.tuple #[.agg #[.int .i64 0, .int .i64 0, .int .i64 0], .bool false]) w := by kernel_rfl
theorem ta04 (w : World) : (Instr.typeAssert .nilIface 20 59 true).run Tryd.prog w = .ok (.tuple #[.agg #[.int .i64 0, .int .i64 0], .bool false]) w := by kernel_rfl

set_option maxHeartbeats 16000000 in
theorem text1 (n : Int) (w : World) (hn : i64B n) (ht : TabP w) :
    Calls Tryd.prog 18 #[.iface 51 (.agg #[.int .i64 n])] w fun e w' => e = .returned (.tuple #[.string (sTicks ++ tx n), .int .i64 0]) ∧ Below w.heap.size w w' := by
  have HP := hide (Lib.tabBelow_of_tabIs ht)
  have zn := tx_size n hn.1 hn.2
  have hE : jn [⟨#[116, 105, 99, 107, 115]⟩, tx n] = sTicks ++ tx n := by
    rw [jn2]
    rw [show (⟨#[116, 105, 99, 107, 115]⟩ : ByteArray) ++ s32 = sTicks from rfl]
  have hL : (jn [⟨#[116, 105, 99, 107, 115]⟩, tx n]).size ≤ 100000 := by
    rw [hE]
    have e1 : sTicks.size ≤ 8 := by decide
    have e2 : s32.size = 1 := rfl
    simp only [ByteArray.size_append]
    omega
  have HE := hide hE
  have HL := hide hL
  clear hE hL
  have HB0 : Hid (Below w.heap.size w (w.alloc (.cells #[.int .i64 n] 51))) := hide (bel_new6 _ _)
  have HC : Hid ((w.alloc (.cells #[.int .i64 n] 51)).cell? ⟨w.heap.size, 0, none⟩ = some (.int .i64 n)) := hide (by simp [World.cell?_alloc_new])
  have t1 := ta11 (.agg #[.int .i64 n])
  go_enter Tryd.func18, Tryd.ntmps18
  have p0 := unhide HC
  go_wp2_with fail
  refine (itoaA n hn.1 hn.2 _ (unhide HP _ (unhide HB0))).mono ?_
  rintro e w1 ⟨rfl, b1⟩
  have HB1 := hide ((unhide HB0).trans (b1.mono (unhide HB0).size))
  clear b1 HB0 HC p0
  have b2 : Below w1.heap.size w1 (w1.alloc (.cells #[.string ⟨#[116, 105, 99, 107, 115]⟩, .string (tx n)] 9)) := bel_new6 _ _
  have HB2 := hide ((unhide HB1).trans (b2.mono (unhide HB1).size))
  have KS := hide (implSpaced w1.heap.size 2 [⟨#[116, 105, 99, 107, 115]⟩, tx n] (w1.alloc (.cells #[.string ⟨#[116, 105, 99, 107, 115]⟩, .string (tx n)] 9)) (cells_lit w1 [⟨#[116, 105, 99, 107, 115]⟩, tx n] 9) (by simp) (by simp) (by simp) (unhide HL))
  go_wp2_with fail
  refine (unhide KS).mono ?_
  rintro e w3 ⟨rfl, b3⟩
  rw [unhide HE]
  have HB3 := hide ((unhide HB2).trans (b3.mono (unhide HB2).size))
  clear b2 b3 HB2 KS
  go_wp2_with fail
  (try rw [Exit.noGoto_ret])
  go_ret2
  exact ⟨rfl, unhide HB3⟩
set_option maxHeartbeats 16000000 in
theorem text4 (a n : Int) (w : World) (ha : i64B a) (hn : i64B n) (ht : TabP w) :
    Calls Tryd.prog 18 #[.iface 59 (.agg #[.int .i64 a, .int .i64 n])] w fun e w' => e = .returned (.tuple #[.string (((sRest ++ tx a) ++ s32) ++ tx n), .int .i64 0]) ∧ Below w.heap.size w w' := by
  have HP := hide (Lib.tabBelow_of_tabIs ht)
  have za := tx_size a ha.1 ha.2
  have zn := tx_size n hn.1 hn.2
  have hE : jn [⟨#[114, 101, 115, 116, 97, 114, 116]⟩, tx a, tx n] = ((sRest ++ tx a) ++ s32) ++ tx n := by
    rw [jn3]
    rw [show (⟨#[114, 101, 115, 116, 97, 114, 116]⟩ : ByteArray) ++ s32 = sRest from rfl]
  have hL : (jn [⟨#[114, 101, 115, 116, 97, 114, 116]⟩, tx a, tx n]).size ≤ 100000 := by
    rw [hE]
    have e1 : sRest.size ≤ 8 := by decide
    have e2 : s32.size = 1 := rfl
    simp only [ByteArray.size_append]
    omega
  have HE := hide hE
  have HL := hide hL
  clear hE hL
  have HB0 : Hid (Below w.heap.size w (w.alloc (.cells #[.int .i64 a, .int .i64 n] 59))) := hide (bel_new6 _ _)
  have HC : Hid ((w.alloc (.cells #[.int .i64 a, .int .i64 n] 59)).cell? ⟨w.heap.size, 0, none⟩ = some (.int .i64 a) ∧ (w.alloc (.cells #[.int .i64 a, .int .i64 n] 59)).cell? ⟨w.heap.size, 1, none⟩ = some (.int .i64 n)) := hide (by refine ⟨?_, ?_⟩ <;> simp [World.cell?_alloc_new])
  have t1 := ta41 (.agg #[.int .i64 a, .int .i64 n])
  have t2 := ta42 (.agg #[.int .i64 a, .int .i64 n])
  have t3 := ta43 (.agg #[.int .i64 a, .int .i64 n])
  have t4 := ta44 (.agg #[.int .i64 a, .int .i64 n])
  go_enter Tryd.func18, Tryd.ntmps18
  obtain ⟨p0, p1⟩ := unhide HC
  go_wp2_with fail
  obtain ⟨w0, hw0⟩ : ∃ W, w.alloc (.cells #[.int .i64 a, .int .i64 n] 59) = W := ⟨_, rfl⟩
  rw [hw0] at HC HB0
  try rw [hw0]
  try rw [hw0] at p0
  clear hw0 p0 p1
  have SQ0 := HC
  refine wp_region_noPanic ?_
  refine wp_region_held_drew (S := fun w' => w'.cell? ⟨w.heap.size, 0, none⟩ = some (.int .i64 a) ∧ w'.cell? ⟨w.heap.size, 1, none⟩ = some (.int .i64 n)) (by kernel_rfl) (unhide SQ0) (fun hHeld => ?_)
  refine Rg.t 0 49 ?_
  refine Rg.t 1 50 ?_
  refine Rg.t 3 52 ?_
  refine Rg.t 4 53 ?_
  (refine Rg.o 2 (fun K hK => ?_); go_simp)
  refine ((itoaA a ha.1 ha.2 w0.drew (unhide HP _ (unhide HB0).drew))).mono ?_
  rintro e w1 ⟨rfl, b_⟩
  have b1 : Below w0.heap.size w0 w1 := (Below.refl _ _).drew.trans b_
  have SQ1 := hide (show w1.cell? ⟨w.heap.size, 0, none⟩ = some (.int .i64 a) ∧ w1.cell? ⟨w.heap.size, 1, none⟩ = some (.int .i64 n) by
    obtain ⟨h0, h1⟩ := unhide SQ0
    have hg := World.block_lt_of_cell? _ _ h0
    exact ⟨(b1.cell (p := ⟨w.heap.size, 0, none⟩) hg).trans h0, (b1.cell (p := ⟨w.heap.size, 1, none⟩) hg).trans h1⟩)
  have HB1 := hide ((unhide HB0).trans (b1.mono (unhide HB0).size))
  clear hHeld SQ0 HB0
  refine hK.out _ _ (unhide SQ1) (fun hHeld => ?_)
  clear hK K
  (try simp only [Act.put, List.setIfInBounds_toArray, List.set_cons_zero, List.set_cons_succ])
  (refine Rg.o 5 (fun K hK => ?_); go_simp)
  refine ((itoaA n hn.1 hn.2 w1 (unhide HP _ (unhide HB1)))).mono ?_
  rintro e w2 ⟨rfl, b_⟩
  have b2 : Below w1.heap.size w1 w2 := b_
  have SQ2 := hide (show w2.cell? ⟨w.heap.size, 0, none⟩ = some (.int .i64 a) ∧ w2.cell? ⟨w.heap.size, 1, none⟩ = some (.int .i64 n) by
    obtain ⟨h0, h1⟩ := unhide SQ1
    have hg := World.block_lt_of_cell? _ _ h0
    exact ⟨(b2.cell (p := ⟨w.heap.size, 0, none⟩) hg).trans h0, (b2.cell (p := ⟨w.heap.size, 1, none⟩) hg).trans h1⟩)
  have HB2 := hide ((unhide HB1).trans (b2.mono (unhide HB1).size))
  clear hHeld SQ1 HB1
  refine hK.out _ _ (unhide SQ2) (fun hHeld => ?_)
  clear hK K
  (try simp only [Act.put, List.setIfInBounds_toArray, List.set_cons_zero, List.set_cons_succ])
  (refine Rg.o 6 (fun K hK => ?_); go_simp)
  have b3 : Below w2.heap.size w2 (w2.alloc (.cells #[.string ⟨#[114, 101, 115, 116, 97, 114, 116]⟩, .string (tx a), .string (tx n)] 9)) := bel_new6 _ _
  have CL := hide (cells_lit w2 [⟨#[114, 101, 115, 116, 97, 114, 116]⟩, tx a, tx n] 9)
  have hzl : w2.heap.size < (w2.alloc (.cells #[.string ⟨#[114, 101, 115, 116, 97, 114, 116]⟩, .string (tx a), .string (tx n)] 9)).heap.size := by simp
  obtain ⟨bk, hbk⟩ : ∃ g, w2.heap.size = g := ⟨_, rfl⟩
  rw [hbk] at CL hzl ⊢
  obtain ⟨w3, hw3⟩ : ∃ W, w2.alloc (.cells #[.string ⟨#[114, 101, 115, 116, 97, 114, 116]⟩, .string (tx a), .string (tx n)] 9) = W := ⟨_, rfl⟩
  have CL2 := hide (show ∀ (j : Nat) x, ([⟨#[114, 101, 115, 116, 97, 114, 116]⟩, tx a, tx n] : List ByteArray)[j]? = some x → w3.cell? ⟨bk, 0 + j, none⟩ = some (.string x) by rw [← hw3]; exact unhide CL)
  rw [hw3] at b3 hzl ⊢
  clear CL hw3 hbk
  have SQ3 := hide (show w3.cell? ⟨w.heap.size, 0, none⟩ = some (.int .i64 a) ∧ w3.cell? ⟨w.heap.size, 1, none⟩ = some (.int .i64 n) by
    obtain ⟨h0, h1⟩ := unhide SQ2
    have hg := World.block_lt_of_cell? _ _ h0
    exact ⟨(b3.cell (p := ⟨w.heap.size, 0, none⟩) hg).trans h0, (b3.cell (p := ⟨w.heap.size, 1, none⟩) hg).trans h1⟩)
  have HB3 := hide ((unhide HB2).trans (b3.mono (unhide HB2).size))
  clear hHeld SQ2 HB2
  refine hK.out _ _ (unhide SQ3) (fun hHeld => ?_)
  clear hK K
  (try simp only [Act.put, List.setIfInBounds_toArray, List.set_cons_zero, List.set_cons_succ])
  (refine Rg.o 7 (fun K hK => ?_); go_simp)
  refine ((implSpaced bk 3 [⟨#[114, 101, 115, 116, 97, 114, 116]⟩, tx a, tx n] w3 (unhide CL2) hzl (by simp) (by simp) (unhide HL))).mono ?_
  rintro e w4 ⟨rfl, b_⟩
  have b4 : Below w3.heap.size w3 w4 := b_
  have SQ4 := hide (show w4.cell? ⟨w.heap.size, 0, none⟩ = some (.int .i64 a) ∧ w4.cell? ⟨w.heap.size, 1, none⟩ = some (.int .i64 n) by
    obtain ⟨h0, h1⟩ := unhide SQ3
    have hg := World.block_lt_of_cell? _ _ h0
    exact ⟨(b4.cell (p := ⟨w.heap.size, 0, none⟩) hg).trans h0, (b4.cell (p := ⟨w.heap.size, 1, none⟩) hg).trans h1⟩)
  have HB4 := hide ((unhide HB3).trans (b4.mono (unhide HB3).size))
  clear hHeld SQ3 HB3
  refine hK.out _ _ (unhide SQ4) (fun hHeld => ?_)
  clear hK K
  (try simp only [Act.put, List.setIfInBounds_toArray, List.set_cons_zero, List.set_cons_succ])
  refine Rg.t 8 2 ?_
  refine Rg.t 9 3 ?_
  clear hHeld
  refine wpAnyH_done (by kernel_rfl) (NoPanic.normal ?_) _
  rw [unhide HE]
  go_wp2_with fail
  (try rw [Exit.noGoto_ret])
  go_ret2
  exact ⟨rfl, unhide HB4⟩

set_option maxHeartbeats 16000000 in
theorem text3 (a b n : Int) (w : World) (ha : i64B a) (hb : i64B b) (hn : i64B n) (ht : TabP w) :
    Calls Tryd.prog 18 #[.iface 57 (.agg #[.int .i64 a, .int .i64 b, .int .i64 n])] w fun e w' => e = .returned (.tuple #[.string (((((sCost ++ tx a) ++ s32) ++ tx b) ++ s32) ++ tx n), .int .i64 0]) ∧ Below w.heap.size w w' := by
  have HP := hide (Lib.tabBelow_of_tabIs ht)
  have za := tx_size a ha.1 ha.2
  have zb := tx_size b hb.1 hb.2
  have zn := tx_size n hn.1 hn.2
  have hE : jn [⟨#[99, 111, 115, 116]⟩, tx a, tx b, tx n] = ((((sCost ++ tx a) ++ s32) ++ tx b) ++ s32) ++ tx n := by
    rw [jn4]
    rw [show (⟨#[99, 111, 115, 116]⟩ : ByteArray) ++ s32 = sCost from rfl]
  have hL : (jn [⟨#[99, 111, 115, 116]⟩, tx a, tx b, tx n]).size ≤ 100000 := by
    rw [hE]
    have e1 : sCost.size ≤ 8 := by decide
    have e2 : s32.size = 1 := rfl
    simp only [ByteArray.size_append]
    omega
  have HE := hide hE
  have HL := hide hL
  clear hE hL
  have HB0 : Hid (Below w.heap.size w (w.alloc (.cells #[.int .i64 a, .int .i64 b, .int .i64 n] 57))) := hide (bel_new6 _ _)
  have HC : Hid ((w.alloc (.cells #[.int .i64 a, .int .i64 b, .int .i64 n] 57)).cell? ⟨w.heap.size, 0, none⟩ = some (.int .i64 a) ∧ (w.alloc (.cells #[.int .i64 a, .int .i64 b, .int .i64 n] 57)).cell? ⟨w.heap.size, 1, none⟩ = some (.int .i64 b) ∧ (w.alloc (.cells #[.int .i64 a, .int .i64 b, .int .i64 n] 57)).cell? ⟨w.heap.size, 2, none⟩ = some (.int .i64 n)) := hide (by refine ⟨?_, ?_, ?_⟩ <;> simp [World.cell?_alloc_new])
  have t1 := ta31 (.agg #[.int .i64 a, .int .i64 b, .int .i64 n])
  have t2 := ta32 (.agg #[.int .i64 a, .int .i64 b, .int .i64 n])
  have t3 := ta33 (.agg #[.int .i64 a, .int .i64 b, .int .i64 n])
  go_enter Tryd.func18, Tryd.ntmps18
  obtain ⟨p0, p1, p2⟩ := unhide HC
  go_wp2_with fail
  obtain ⟨w0, hw0⟩ : ∃ W, w.alloc (.cells #[.int .i64 a, .int .i64 b, .int .i64 n] 57) = W := ⟨_, rfl⟩
  rw [hw0] at HC HB0
  try rw [hw0]
  try rw [hw0] at p0
  clear hw0 p0 p1 p2
  have SQ0 := HC
  refine wp_region_noPanic ?_
  refine wp_region_held_drew (S := fun w' => w'.cell? ⟨w.heap.size, 0, none⟩ = some (.int .i64 a) ∧ w'.cell? ⟨w.heap.size, 1, none⟩ = some (.int .i64 b) ∧ w'.cell? ⟨w.heap.size, 2, none⟩ = some (.int .i64 n)) (by kernel_rfl) (unhide SQ0) (fun hHeld => ?_)
  refine Rg.t 0 35 ?_
  refine Rg.t 1 36 ?_
  refine Rg.t 3 38 ?_
  refine Rg.t 4 39 ?_
  refine Rg.t 6 41 ?_
  refine Rg.t 7 42 ?_
  (refine Rg.o 2 (fun K hK => ?_); go_simp)
  refine ((itoaA a ha.1 ha.2 w0.drew (unhide HP _ (unhide HB0).drew))).mono ?_
  rintro e w1 ⟨rfl, b_⟩
  have b1 : Below w0.heap.size w0 w1 := (Below.refl _ _).drew.trans b_
  have SQ1 := hide (show w1.cell? ⟨w.heap.size, 0, none⟩ = some (.int .i64 a) ∧ w1.cell? ⟨w.heap.size, 1, none⟩ = some (.int .i64 b) ∧ w1.cell? ⟨w.heap.size, 2, none⟩ = some (.int .i64 n) by
    obtain ⟨h0, h1, h2⟩ := unhide SQ0
    have hg := World.block_lt_of_cell? _ _ h0
    exact ⟨(b1.cell (p := ⟨w.heap.size, 0, none⟩) hg).trans h0, (b1.cell (p := ⟨w.heap.size, 1, none⟩) hg).trans h1, (b1.cell (p := ⟨w.heap.size, 2, none⟩) hg).trans h2⟩)
  have HB1 := hide ((unhide HB0).trans (b1.mono (unhide HB0).size))
  clear hHeld SQ0 HB0
  refine hK.out _ _ (unhide SQ1) (fun hHeld => ?_)
  clear hK K
  (try simp only [Act.put, List.setIfInBounds_toArray, List.set_cons_zero, List.set_cons_succ])
  (refine Rg.o 5 (fun K hK => ?_); go_simp)
  refine ((itoaA b hb.1 hb.2 w1 (unhide HP _ (unhide HB1)))).mono ?_
  rintro e w2 ⟨rfl, b_⟩
  have b2 : Below w1.heap.size w1 w2 := b_
  have SQ2 := hide (show w2.cell? ⟨w.heap.size, 0, none⟩ = some (.int .i64 a) ∧ w2.cell? ⟨w.heap.size, 1, none⟩ = some (.int .i64 b) ∧ w2.cell? ⟨w.heap.size, 2, none⟩ = some (.int .i64 n) by
    obtain ⟨h0, h1, h2⟩ := unhide SQ1
    have hg := World.block_lt_of_cell? _ _ h0
    exact ⟨(b2.cell (p := ⟨w.heap.size, 0, none⟩) hg).trans h0, (b2.cell (p := ⟨w.heap.size, 1, none⟩) hg).trans h1, (b2.cell (p := ⟨w.heap.size, 2, none⟩) hg).trans h2⟩)
  have HB2 := hide ((unhide HB1).trans (b2.mono (unhide HB1).size))
  clear hHeld SQ1 HB1
  refine hK.out _ _ (unhide SQ2) (fun hHeld => ?_)
  clear hK K
  (try simp only [Act.put, List.setIfInBounds_toArray, List.set_cons_zero, List.set_cons_succ])
  (refine Rg.o 8 (fun K hK => ?_); go_simp)
  refine ((itoaA n hn.1 hn.2 w2 (unhide HP _ (unhide HB2)))).mono ?_
  rintro e w3 ⟨rfl, b_⟩
  have b3 : Below w2.heap.size w2 w3 := b_
  have SQ3 := hide (show w3.cell? ⟨w.heap.size, 0, none⟩ = some (.int .i64 a) ∧ w3.cell? ⟨w.heap.size, 1, none⟩ = some (.int .i64 b) ∧ w3.cell? ⟨w.heap.size, 2, none⟩ = some (.int .i64 n) by
    obtain ⟨h0, h1, h2⟩ := unhide SQ2
    have hg := World.block_lt_of_cell? _ _ h0
    exact ⟨(b3.cell (p := ⟨w.heap.size, 0, none⟩) hg).trans h0, (b3.cell (p := ⟨w.heap.size, 1, none⟩) hg).trans h1, (b3.cell (p := ⟨w.heap.size, 2, none⟩) hg).trans h2⟩)
  have HB3 := hide ((unhide HB2).trans (b3.mono (unhide HB2).size))
  clear hHeld SQ2 HB2
  refine hK.out _ _ (unhide SQ3) (fun hHeld => ?_)
  clear hK K
  (try simp only [Act.put, List.setIfInBounds_toArray, List.set_cons_zero, List.set_cons_succ])
  (refine Rg.o 9 (fun K hK => ?_); go_simp)
  have b4 : Below w3.heap.size w3 (w3.alloc (.cells #[.string ⟨#[99, 111, 115, 116]⟩, .string (tx a), .string (tx b), .string (tx n)] 9)) := bel_new6 _ _
  have CL := hide (cells_lit w3 [⟨#[99, 111, 115, 116]⟩, tx a, tx b, tx n] 9)
  have hzl : w3.heap.size < (w3.alloc (.cells #[.string ⟨#[99, 111, 115, 116]⟩, .string (tx a), .string (tx b), .string (tx n)] 9)).heap.size := by simp
  obtain ⟨bk, hbk⟩ : ∃ g, w3.heap.size = g := ⟨_, rfl⟩
  rw [hbk] at CL hzl ⊢
  obtain ⟨w4, hw4⟩ : ∃ W, w3.alloc (.cells #[.string ⟨#[99, 111, 115, 116]⟩, .string (tx a), .string (tx b), .string (tx n)] 9) = W := ⟨_, rfl⟩
  have CL2 := hide (show ∀ (j : Nat) x, ([⟨#[99, 111, 115, 116]⟩, tx a, tx b, tx n] : List ByteArray)[j]? = some x → w4.cell? ⟨bk, 0 + j, none⟩ = some (.string x) by rw [← hw4]; exact unhide CL)
  rw [hw4] at b4 hzl ⊢
  clear CL hw4 hbk
  have SQ4 := hide (show w4.cell? ⟨w.heap.size, 0, none⟩ = some (.int .i64 a) ∧ w4.cell? ⟨w.heap.size, 1, none⟩ = some (.int .i64 b) ∧ w4.cell? ⟨w.heap.size, 2, none⟩ = some (.int .i64 n) by
    obtain ⟨h0, h1, h2⟩ := unhide SQ3
    have hg := World.block_lt_of_cell? _ _ h0
    exact ⟨(b4.cell (p := ⟨w.heap.size, 0, none⟩) hg).trans h0, (b4.cell (p := ⟨w.heap.size, 1, none⟩) hg).trans h1, (b4.cell (p := ⟨w.heap.size, 2, none⟩) hg).trans h2⟩)
  have HB4 := hide ((unhide HB3).trans (b4.mono (unhide HB3).size))
  clear hHeld SQ3 HB3
  refine hK.out _ _ (unhide SQ4) (fun hHeld => ?_)
  clear hK K
  (try simp only [Act.put, List.setIfInBounds_toArray, List.set_cons_zero, List.set_cons_succ])
  (refine Rg.o 10 (fun K hK => ?_); go_simp)
  refine ((implSpaced bk 4 [⟨#[99, 111, 115, 116]⟩, tx a, tx b, tx n] w4 (unhide CL2) hzl (by simp) (by simp) (unhide HL))).mono ?_
  rintro e w5 ⟨rfl, b_⟩
  have b5 : Below w4.heap.size w4 w5 := b_
  have SQ5 := hide (show w5.cell? ⟨w.heap.size, 0, none⟩ = some (.int .i64 a) ∧ w5.cell? ⟨w.heap.size, 1, none⟩ = some (.int .i64 b) ∧ w5.cell? ⟨w.heap.size, 2, none⟩ = some (.int .i64 n) by
    obtain ⟨h0, h1, h2⟩ := unhide SQ4
    have hg := World.block_lt_of_cell? _ _ h0
    exact ⟨(b5.cell (p := ⟨w.heap.size, 0, none⟩) hg).trans h0, (b5.cell (p := ⟨w.heap.size, 1, none⟩) hg).trans h1, (b5.cell (p := ⟨w.heap.size, 2, none⟩) hg).trans h2⟩)
  have HB5 := hide ((unhide HB4).trans (b5.mono (unhide HB4).size))
  clear hHeld SQ4 HB4
  refine hK.out _ _ (unhide SQ5) (fun hHeld => ?_)
  clear hK K
  (try simp only [Act.put, List.setIfInBounds_toArray, List.set_cons_zero, List.set_cons_succ])
  refine Rg.t 11 2 ?_
  refine Rg.t 12 3 ?_
  clear hHeld
  refine wpAnyH_done (by kernel_rfl) (NoPanic.normal ?_) _
  rw [unhide HE]
  go_wp2_with fail
  (try rw [Exit.noGoto_ret])
  go_ret2
  exact ⟨rfl, unhide HB5⟩

set_option maxHeartbeats 16000000 in
theorem text2 (n : Int) (l : Option Addr) (zs : List Int) (c : Nat) (w : World) (hn : i64B n) (hm : zs.length ≤ 1048576) (hr : In.RM w l zs) (ht : TabP w) :
    Calls Tryd.prog 18 #[.iface 54 (.agg #[.int .i64 n, .slice l zs.length c])] w fun e w' => e = .returned (.tuple #[.string (if toldB zs = true then ((sLossy ++ tx n) ++ s32) ++ sgT zs zs.length else ByteArray.empty), .int .i64 (if toldB zs = true then 0 else 1)]) ∧ Below w.heap.size w w' := by
  have HR := hide (fun W (h : Below w.heap.size w W) => hr.below h)
  have KT := hide (fun W (h : Below w.heap.size w W) => implTold l zs c W hm (hr.below h))
  clear hr
  cases htb : toldB zs
  · rw [if_neg (by simp), if_neg (by simp)]
    rw [htb] at KT
    clear htb HR
    have HB0 : Hid (Below w.heap.size w (w.alloc (.cells #[.int .i64 n, .slice l zs.length c] 54))) := hide (bel_new6 _ _)
    have HC : Hid ((w.alloc (.cells #[.int .i64 n, .slice l zs.length c] 54)).cell? ⟨w.heap.size, 0, none⟩ = some (.int .i64 n) ∧ (w.alloc (.cells #[.int .i64 n, .slice l zs.length c] 54)).cell? ⟨w.heap.size, 1, none⟩ = some (.slice l zs.length c)) := hide (by refine ⟨?_, ?_⟩ <;> simp [World.cell?_alloc_new])
    have t1 := ta21 (.agg #[.int .i64 n, .slice l zs.length c])
    have t2 := ta22 (.agg #[.int .i64 n, .slice l zs.length c])
    go_enter Tryd.func18, Tryd.ntmps18
    obtain ⟨p0, p1⟩ := unhide HC
    go_wp2_with (first | (go_at_call 29; refine (unhide KT _ (unhide HB0)).mono ?_; rintro e w_ ⟨rfl, rfl⟩))
    (try rw [Exit.noGoto_ret])
    go_ret2
    exact ⟨rfl, unhide HB0⟩
  rw [if_pos rfl, if_pos rfl]
  rw [htb] at KT
  have hT := htb
  unfold toldB at hT
  simp only [Bool.and_eq_true, decide_eq_true_eq] at hT
  obtain ⟨⟨h1, h60⟩, hsg⟩ := hT
  have hsz := sgT_size hsg zs.length (Nat.le_refl _)
  have HSG := hide hsg
  clear htb hsg
  have HP := hide (Lib.tabBelow_of_tabIs ht)
  have zn := tx_size n hn.1 hn.2
  have hE : jn [⟨#[108, 111, 115, 115, 121]⟩, tx n, sgT zs zs.length] = ((sLossy ++ tx n) ++ s32) ++ sgT zs zs.length := by
    rw [jn3]
    rw [show (⟨#[108, 111, 115, 115, 121]⟩ : ByteArray) ++ s32 = sLossy from rfl]
  have hL : (jn [⟨#[108, 111, 115, 115, 121]⟩, tx n, sgT zs zs.length]).size ≤ 100000 := by
    rw [hE]
    have e1 : sLossy.size ≤ 8 := by decide
    have e2 : s32.size = 1 := rfl
    simp only [ByteArray.size_append]
    omega
  have HE := hide hE
  have HL := hide hL
  clear hE hL
  clear hsz
  have HB0 : Hid (Below w.heap.size w (w.alloc (.cells #[.int .i64 n, .slice l zs.length c] 54))) := hide (bel_new6 _ _)
  have HC : Hid ((w.alloc (.cells #[.int .i64 n, .slice l zs.length c] 54)).cell? ⟨w.heap.size, 0, none⟩ = some (.int .i64 n) ∧ (w.alloc (.cells #[.int .i64 n, .slice l zs.length c] 54)).cell? ⟨w.heap.size, 1, none⟩ = some (.slice l zs.length c)) := hide (by refine ⟨?_, ?_⟩ <;> simp [World.cell?_alloc_new])
  have t1 := ta21 (.agg #[.int .i64 n, .slice l zs.length c])
  have t2 := ta22 (.agg #[.int .i64 n, .slice l zs.length c])
  go_enter Tryd.func18, Tryd.ntmps18
  obtain ⟨p0, p1⟩ := unhide HC
  go_wp2_with (first | (go_at_call 29; refine (unhide KT _ (unhide HB0)).mono ?_; rintro e w_ ⟨rfl, rfl⟩))
  clear KT
  obtain ⟨w0, hw0⟩ : ∃ W, w.alloc (.cells #[.int .i64 n, .slice l zs.length c] 54) = W := ⟨_, rfl⟩
  rw [hw0] at HC HB0
  try rw [hw0]
  try rw [hw0] at p0
  clear hw0 p0 p1
  have SQ0 := HC
  refine wp_region_noPanic ?_
  refine wp_region_held_drew (S := fun w' => w'.cell? ⟨w.heap.size, 0, none⟩ = some (.int .i64 n) ∧ w'.cell? ⟨w.heap.size, 1, none⟩ = some (.slice l zs.length c)) (by kernel_rfl) (unhide SQ0) (fun hHeld => ?_)
  refine Rg.t 0 24 ?_
  refine Rg.t 1 25 ?_
  refine Rg.t 3 27 ?_
  refine Rg.t 4 28 ?_
  (refine Rg.o 2 (fun K hK => ?_); go_simp)
  refine ((itoaA n hn.1 hn.2 w0.drew (unhide HP _ (unhide HB0).drew))).mono ?_
  rintro e w1 ⟨rfl, b_⟩
  have b1 : Below w0.heap.size w0 w1 := (Below.refl _ _).drew.trans b_
  have SQ1 := hide (show w1.cell? ⟨w.heap.size, 0, none⟩ = some (.int .i64 n) ∧ w1.cell? ⟨w.heap.size, 1, none⟩ = some (.slice l zs.length c) by
    obtain ⟨h0, h1⟩ := unhide SQ0
    have hg := World.block_lt_of_cell? _ _ h0
    exact ⟨(b1.cell (p := ⟨w.heap.size, 0, none⟩) hg).trans h0, (b1.cell (p := ⟨w.heap.size, 1, none⟩) hg).trans h1⟩)
  have HB1 := hide ((unhide HB0).trans (b1.mono (unhide HB0).size))
  clear hHeld SQ0 HB0
  refine hK.out _ _ (unhide SQ1) (fun hHeld => ?_)
  clear hK K
  (try simp only [Act.put, List.setIfInBounds_toArray, List.set_cons_zero, List.set_cons_succ])
  (refine Rg.o 5 (fun K hK => ?_); go_simp)
  refine ((implSig l zs c w1 (by omega) (by omega) (unhide HSG) (unhide HR _ (unhide HB1)))).mono ?_
  rintro e w2 ⟨rfl, b_⟩
  have b2 : Below w1.heap.size w1 w2 := b_
  have SQ2 := hide (show w2.cell? ⟨w.heap.size, 0, none⟩ = some (.int .i64 n) ∧ w2.cell? ⟨w.heap.size, 1, none⟩ = some (.slice l zs.length c) by
    obtain ⟨h0, h1⟩ := unhide SQ1
    have hg := World.block_lt_of_cell? _ _ h0
    exact ⟨(b2.cell (p := ⟨w.heap.size, 0, none⟩) hg).trans h0, (b2.cell (p := ⟨w.heap.size, 1, none⟩) hg).trans h1⟩)
  have HB2 := hide ((unhide HB1).trans (b2.mono (unhide HB1).size))
  clear hHeld SQ1 HB1
  refine hK.out _ _ (unhide SQ2) (fun hHeld => ?_)
  clear hK K
  (try simp only [Act.put, List.setIfInBounds_toArray, List.set_cons_zero, List.set_cons_succ])
  (refine Rg.o 6 (fun K hK => ?_); go_simp)
  have b3 : Below w2.heap.size w2 (w2.alloc (.cells #[.string ⟨#[108, 111, 115, 115, 121]⟩, .string (tx n), .string (sgT zs zs.length)] 9)) := bel_new6 _ _
  have CL := hide (cells_lit w2 [⟨#[108, 111, 115, 115, 121]⟩, tx n, sgT zs zs.length] 9)
  have hzl : w2.heap.size < (w2.alloc (.cells #[.string ⟨#[108, 111, 115, 115, 121]⟩, .string (tx n), .string (sgT zs zs.length)] 9)).heap.size := by simp
  obtain ⟨bk, hbk⟩ : ∃ g, w2.heap.size = g := ⟨_, rfl⟩
  rw [hbk] at CL hzl ⊢
  obtain ⟨w3, hw3⟩ : ∃ W, w2.alloc (.cells #[.string ⟨#[108, 111, 115, 115, 121]⟩, .string (tx n), .string (sgT zs zs.length)] 9) = W := ⟨_, rfl⟩
  have CL2 := hide (show ∀ (j : Nat) x, ([⟨#[108, 111, 115, 115, 121]⟩, tx n, sgT zs zs.length] : List ByteArray)[j]? = some x → w3.cell? ⟨bk, 0 + j, none⟩ = some (.string x) by rw [← hw3]; exact unhide CL)
  rw [hw3] at b3 hzl ⊢
  clear CL hw3 hbk
  have SQ3 := hide (show w3.cell? ⟨w.heap.size, 0, none⟩ = some (.int .i64 n) ∧ w3.cell? ⟨w.heap.size, 1, none⟩ = some (.slice l zs.length c) by
    obtain ⟨h0, h1⟩ := unhide SQ2
    have hg := World.block_lt_of_cell? _ _ h0
    exact ⟨(b3.cell (p := ⟨w.heap.size, 0, none⟩) hg).trans h0, (b3.cell (p := ⟨w.heap.size, 1, none⟩) hg).trans h1⟩)
  have HB3 := hide ((unhide HB2).trans (b3.mono (unhide HB2).size))
  clear hHeld SQ2 HB2
  refine hK.out _ _ (unhide SQ3) (fun hHeld => ?_)
  clear hK K
  (try simp only [Act.put, List.setIfInBounds_toArray, List.set_cons_zero, List.set_cons_succ])
  (refine Rg.o 7 (fun K hK => ?_); go_simp)
  refine ((implSpaced bk 3 [⟨#[108, 111, 115, 115, 121]⟩, tx n, sgT zs zs.length] w3 (unhide CL2) hzl (by simp) (by simp) (unhide HL))).mono ?_
  rintro e w4 ⟨rfl, b_⟩
  have b4 : Below w3.heap.size w3 w4 := b_
  have SQ4 := hide (show w4.cell? ⟨w.heap.size, 0, none⟩ = some (.int .i64 n) ∧ w4.cell? ⟨w.heap.size, 1, none⟩ = some (.slice l zs.length c) by
    obtain ⟨h0, h1⟩ := unhide SQ3
    have hg := World.block_lt_of_cell? _ _ h0
    exact ⟨(b4.cell (p := ⟨w.heap.size, 0, none⟩) hg).trans h0, (b4.cell (p := ⟨w.heap.size, 1, none⟩) hg).trans h1⟩)
  have HB4 := hide ((unhide HB3).trans (b4.mono (unhide HB3).size))
  clear hHeld SQ3 HB3
  refine hK.out _ _ (unhide SQ4) (fun hHeld => ?_)
  clear hK K
  (try simp only [Act.put, List.setIfInBounds_toArray, List.set_cons_zero, List.set_cons_succ])
  refine Rg.t 8 2 ?_
  refine Rg.t 9 3 ?_
  clear hHeld
  refine wpAnyH_done (by kernel_rfl) (NoPanic.normal ?_) _
  rw [unhide HE]
  go_wp2_with fail
  (try rw [Exit.noGoto_ret])
  go_ret2
  exact ⟨rfl, unhide HB4⟩

theorem text5 (v : Value) (w : World) : Calls Tryd.prog 18 #[.iface 61 v] w fun e w' => e = .returned (.tuple #[.string ByteArray.empty, .int .i64 3]) ∧ Below w.heap.size w w' := by
  have t1 := ta51 v
  have t2 := ta52 v
  have t3 := ta53 v
  have t4 := ta54 v
  go_enter Tryd.func18, Tryd.ntmps18
  go_wp2_with fail
  (try rw [Exit.noGoto_ret])
  go_ret2
  exact ⟨rfl, Below.refl _ _⟩
theorem text0 (w : World) : Calls Tryd.prog 18 #[.nilIface] w fun e w' => e = .returned (.tuple #[.string ByteArray.empty, .int .i64 3]) ∧ Below w.heap.size w w' := by
  have t1 := ta01
  have t2 := ta02
  have t3 := ta03
  have t4 := ta04
  go_enter Tryd.func18, Tryd.ntmps18
  go_wp2_with fail
  (try rw [Exit.noGoto_ret])
  go_ret2
  exact ⟨rfl, Below.refl _ _⟩
set_option maxHeartbeats 4000000 in
theorem act1 (a b n : Int) (l : Option Addr) (zs : List Int) (c : Nat) (by_ : ByteArray) (w : World) (ha : i64B a) (hb : i64B b) (hn : i64B n) (hm : zs.length ≤ 1048576) (hr : In.RM w l zs) (ht : TabP w) :
    Calls Tryd.prog 8 #[.agg #[.int .i64 1, .int .i64 a, .int .i64 b, .int .i64 n, .slice l zs.length c, .string by_]] w fun e w' => e = .returned (.tuple #[.string (sTicks ++ tx n), .int .i64 (0)]) ∧ Below w.heap.size w w' := by
  have HP := hide (Lib.tabBelow_of_tabIs ht)
  have HX := hide (bx6_new w 1 a b n (.slice l zs.length c) by_ 28)
  have HB0 := hide (bel_new6 w (.cells #[.int .i64 1, .int .i64 a, .int .i64 b, .int .i64 n, .slice l zs.length c, .string by_] 28))
  have HR := hide (fun W (h : Below w.heap.size w W) => hr.below h)
  go_enter Tryd.func8, Tryd.ntmps8
  obtain ⟨p0, p1, p2, p3, p4, p5⟩ := unhide HX
  go_wp2_with fail
  refine (kind1 a b n l zs c by_ _).mono ?_
  rintro e w1 ⟨rfl, b1⟩
  have HB1 := hide ((unhide HB0).trans (b1.mono (unhide HB0).size))
  clear b1 HB0 HX p0 p1 p2 p3 p4 p5
  go_wp2_with fail
  refine (text1 n _ hn (unhide HP _ (unhide HB1))).mono ?_
  rintro e w2 ⟨rfl, b2⟩
  have HB2 := hide ((unhide HB1).trans (b2.mono (unhide HB1).size))
  clear b2 HB1
  go_wp2_with fail
  go_ret2
  exact ⟨rfl, unhide HB2⟩
set_option maxHeartbeats 4000000 in
theorem act2 (a b n : Int) (l : Option Addr) (zs : List Int) (c : Nat) (by_ : ByteArray) (w : World) (ha : i64B a) (hb : i64B b) (hn : i64B n) (hm : zs.length ≤ 1048576) (hr : In.RM w l zs) (ht : TabP w) :
    Calls Tryd.prog 8 #[.agg #[.int .i64 2, .int .i64 a, .int .i64 b, .int .i64 n, .slice l zs.length c, .string by_]] w fun e w' => e = .returned (.tuple #[.string (if toldB zs = true then ((sLossy ++ tx n) ++ s32) ++ sgT zs zs.length else ByteArray.empty), .int .i64 (if toldB zs = true then 0 else 1)]) ∧ Below w.heap.size w w' := by
  have HP := hide (Lib.tabBelow_of_tabIs ht)
  have HX := hide (bx6_new w 2 a b n (.slice l zs.length c) by_ 28)
  have HB0 := hide (bel_new6 w (.cells #[.int .i64 2, .int .i64 a, .int .i64 b, .int .i64 n, .slice l zs.length c, .string by_] 28))
  have HR := hide (fun W (h : Below w.heap.size w W) => hr.below h)
  obtain ⟨q1, hq1⟩ : ∃ t, (if toldB zs = true then ((sLossy ++ tx n) ++ s32) ++ sgT zs zs.length else ByteArray.empty) = t := ⟨_, rfl⟩
  obtain ⟨q2, hq2⟩ : ∃ t : Int, (if toldB zs = true then 0 else 1) = t := ⟨_, rfl⟩
  have KQ := hide (fun W (h : In.RM W l zs) (hT : TabP W) => by have h := text2 n l zs c W hn hm h hT; rw [hq1, hq2] at h; exact h)
  rw [hq1, hq2]
  clear hq1 hq2
  go_enter Tryd.func8, Tryd.ntmps8
  obtain ⟨p0, p1, p2, p3, p4, p5⟩ := unhide HX
  go_wp2_with fail
  refine (kind2 a b n l zs c by_ _).mono ?_
  rintro e w1 ⟨rfl, b1⟩
  have HB1 := hide ((unhide HB0).trans (b1.mono (unhide HB0).size))
  clear b1 HB0 HX p0 p1 p2 p3 p4 p5
  go_wp2_with fail
  refine (unhide KQ _ (unhide HR _ (unhide HB1)) (unhide HP _ (unhide HB1))).mono ?_
  rintro e w2 ⟨rfl, b2⟩
  have HB2 := hide ((unhide HB1).trans (b2.mono (unhide HB1).size))
  clear b2 HB1
  go_wp2_with fail
  go_ret2
  exact ⟨rfl, unhide HB2⟩
set_option maxHeartbeats 4000000 in
theorem act3 (a b n : Int) (l : Option Addr) (zs : List Int) (c : Nat) (by_ : ByteArray) (w : World) (ha : i64B a) (hb : i64B b) (hn : i64B n) (hm : zs.length ≤ 1048576) (hr : In.RM w l zs) (ht : TabP w) :
    Calls Tryd.prog 8 #[.agg #[.int .i64 3, .int .i64 a, .int .i64 b, .int .i64 n, .slice l zs.length c, .string by_]] w fun e w' => e = .returned (.tuple #[.string (((((sCost ++ tx a) ++ s32) ++ tx b) ++ s32) ++ tx n), .int .i64 (0)]) ∧ Below w.heap.size w w' := by
  have HP := hide (Lib.tabBelow_of_tabIs ht)
  have HX := hide (bx6_new w 3 a b n (.slice l zs.length c) by_ 28)
  have HB0 := hide (bel_new6 w (.cells #[.int .i64 3, .int .i64 a, .int .i64 b, .int .i64 n, .slice l zs.length c, .string by_] 28))
  have HR := hide (fun W (h : Below w.heap.size w W) => hr.below h)
  go_enter Tryd.func8, Tryd.ntmps8
  obtain ⟨p0, p1, p2, p3, p4, p5⟩ := unhide HX
  go_wp2_with fail
  refine (kind3 a b n l zs c by_ _).mono ?_
  rintro e w1 ⟨rfl, b1⟩
  have HB1 := hide ((unhide HB0).trans (b1.mono (unhide HB0).size))
  clear b1 HB0 HX p0 p1 p2 p3 p4 p5
  go_wp2_with fail
  refine (text3 a b n _ ha hb hn (unhide HP _ (unhide HB1))).mono ?_
  rintro e w2 ⟨rfl, b2⟩
  have HB2 := hide ((unhide HB1).trans (b2.mono (unhide HB1).size))
  clear b2 HB1
  go_wp2_with fail
  go_ret2
  exact ⟨rfl, unhide HB2⟩
set_option maxHeartbeats 4000000 in
theorem act4 (a b n : Int) (l : Option Addr) (zs : List Int) (c : Nat) (by_ : ByteArray) (w : World) (ha : i64B a) (hb : i64B b) (hn : i64B n) (hm : zs.length ≤ 1048576) (hr : In.RM w l zs) (ht : TabP w) :
    Calls Tryd.prog 8 #[.agg #[.int .i64 4, .int .i64 a, .int .i64 b, .int .i64 n, .slice l zs.length c, .string by_]] w fun e w' => e = .returned (.tuple #[.string (((sRest ++ tx a) ++ s32) ++ tx n), .int .i64 (0)]) ∧ Below w.heap.size w w' := by
  have HP := hide (Lib.tabBelow_of_tabIs ht)
  have HX := hide (bx6_new w 4 a b n (.slice l zs.length c) by_ 28)
  have HB0 := hide (bel_new6 w (.cells #[.int .i64 4, .int .i64 a, .int .i64 b, .int .i64 n, .slice l zs.length c, .string by_] 28))
  have HR := hide (fun W (h : Below w.heap.size w W) => hr.below h)
  go_enter Tryd.func8, Tryd.ntmps8
  obtain ⟨p0, p1, p2, p3, p4, p5⟩ := unhide HX
  go_wp2_with fail
  refine (kind4 a b n l zs c by_ _).mono ?_
  rintro e w1 ⟨rfl, b1⟩
  have HB1 := hide ((unhide HB0).trans (b1.mono (unhide HB0).size))
  clear b1 HB0 HX p0 p1 p2 p3 p4 p5
  go_wp2_with fail
  refine (text4 a n _ ha hn (unhide HP _ (unhide HB1))).mono ?_
  rintro e w2 ⟨rfl, b2⟩
  have HB2 := hide ((unhide HB1).trans (b2.mono (unhide HB1).size))
  clear b2 HB1
  go_wp2_with fail
  go_ret2
  exact ⟨rfl, unhide HB2⟩
set_option maxHeartbeats 4000000 in
theorem act5 (a b n : Int) (l : Option Addr) (zs : List Int) (c : Nat) (by_ : ByteArray) (w : World) (ha : i64B a) (hb : i64B b) (hn : i64B n) (hm : zs.length ≤ 1048576) (hr : In.RM w l zs) (ht : TabP w) :
    Calls Tryd.prog 8 #[.agg #[.int .i64 5, .int .i64 a, .int .i64 b, .int .i64 n, .slice l zs.length c, .string by_]] w fun e w' => e = .returned (.tuple #[.string (ByteArray.empty), .int .i64 (3)]) ∧ Below w.heap.size w w' := by
  have HP := hide (Lib.tabBelow_of_tabIs ht)
  have HX := hide (bx6_new w 5 a b n (.slice l zs.length c) by_ 28)
  have HB0 := hide (bel_new6 w (.cells #[.int .i64 5, .int .i64 a, .int .i64 b, .int .i64 n, .slice l zs.length c, .string by_] 28))
  have HR := hide (fun W (h : Below w.heap.size w W) => hr.below h)
  go_enter Tryd.func8, Tryd.ntmps8
  obtain ⟨p0, p1, p2, p3, p4, p5⟩ := unhide HX
  go_wp2_with fail
  refine (kind5 a b n l zs c by_ _).mono ?_
  rintro e w1 ⟨rfl, b1⟩
  have HB1 := hide ((unhide HB0).trans (b1.mono (unhide HB0).size))
  clear b1 HB0 HX p0 p1 p2 p3 p4 p5
  go_wp2_with fail
  refine (text5 _ _).mono ?_
  rintro e w2 ⟨rfl, b2⟩
  have HB2 := hide ((unhide HB1).trans (b2.mono (unhide HB1).size))
  clear b2 HB1
  go_wp2_with fail
  go_ret2
  exact ⟨rfl, unhide HB2⟩
set_option maxHeartbeats 4000000 in
theorem act0 (k : Int) (a b n : Int) (l : Option Addr) (zs : List Int) (c : Nat) (by_ : ByteArray) (w : World) (ha : i64B a) (hb : i64B b) (hn : i64B n) (hm : zs.length ≤ 1048576) (hr : In.RM w l zs) (h1 : k ≠ 1) (h2 : k ≠ 2) (h3 : k ≠ 3) (h4 : k ≠ 4) (h5 : k ≠ 5) (ht : TabP w) :
    Calls Tryd.prog 8 #[.agg #[.int .i64 k, .int .i64 a, .int .i64 b, .int .i64 n, .slice l zs.length c, .string by_]] w fun e w' => e = .returned (.tuple #[.string (ByteArray.empty), .int .i64 (3)]) ∧ Below w.heap.size w w' := by
  have HP := hide (Lib.tabBelow_of_tabIs ht)
  have HX := hide (bx6_new w k a b n (.slice l zs.length c) by_ 28)
  have HB0 := hide (bel_new6 w (.cells #[.int .i64 k, .int .i64 a, .int .i64 b, .int .i64 n, .slice l zs.length c, .string by_] 28))
  have HR := hide (fun W (h : Below w.heap.size w W) => hr.below h)
  go_enter Tryd.func8, Tryd.ntmps8
  obtain ⟨p0, p1, p2, p3, p4, p5⟩ := unhide HX
  go_wp2_with fail
  refine (kind0 k a b n l zs c by_ _ h1 h2 h3 h4 h5).mono ?_
  rintro e w1 ⟨rfl, b1⟩
  have HB1 := hide ((unhide HB0).trans (b1.mono (unhide HB0).size))
  clear b1 HB0 HX p0 p1 p2 p3 p4 p5
  go_wp2_with fail
  refine (text0 _).mono ?_
  rintro e w2 ⟨rfl, b2⟩
  have HB2 := hide ((unhide HB1).trans (b2.mono (unhide HB1).size))
  clear b2 HB1
  go_wp2_with fail
  go_ret2
  exact ⟨rfl, unhide HB2⟩
theorem implAct (k : Int) (a b n : Int) (l : Option Addr) (zs : List Int) (c : Nat) (by_ : ByteArray) (w : World) (ha : i64B a) (hb : i64B b) (hn : i64B n) (hm : zs.length ≤ 1048576) (hr : In.RM w l zs) (ht : TabP w) :
    Calls Tryd.prog 8 #[.agg #[.int .i64 k, .int .i64 a, .int .i64 b, .int .i64 n, .slice l zs.length c, .string by_]] w fun e w' => e = .returned (.tuple #[.string (acT k a b n zs), .int .i64 (acE k zs)]) ∧ Below w.heap.size w w' := by
  unfold acT acE
  by_cases h1 : k = 1
  · subst h1; rw [if_pos rfl, if_pos rfl]; exact act1 a b n l zs c by_ w ha hb hn hm hr ht
  by_cases h2 : k = 2
  · subst h2; rw [if_neg h1, if_pos rfl, if_neg h1, if_pos rfl]; exact act2 a b n l zs c by_ w ha hb hn hm hr ht
  by_cases h3 : k = 3
  · subst h3; rw [if_neg h1, if_neg h2, if_pos rfl, if_neg h1, if_neg h2, if_pos rfl]; exact act3 a b n l zs c by_ w ha hb hn hm hr ht
  by_cases h4 : k = 4
  · subst h4; rw [if_neg h1, if_neg h2, if_neg h3, if_pos rfl, if_neg h1, if_neg h2, if_neg h3, if_pos rfl]; exact act4 a b n l zs c by_ w ha hb hn hm hr ht
  rw [if_neg h1, if_neg h2, if_neg h3, if_neg h4, if_neg h1, if_neg h2, if_neg h3, if_neg h4]
  by_cases h5 : k = 5
  · subst h5; exact act5 a b n l zs c by_ w ha hb hn hm hr ht
  · exact act0 k a b n l zs c by_ w ha hb hn hm hr h1 h2 h3 h4 h5 ht
end Ac
end Go.Proofs.YtpmlpojefelbbaaDoor
