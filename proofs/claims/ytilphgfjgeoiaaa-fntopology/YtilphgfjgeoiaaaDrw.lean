/-
  The model's source of choices, further: a chance, a sequence number, a metric. They change nothing that was there but the source itself.
-/
import Derived.Test.YtilphgfjgeoiaaaSrc
import Derived.Laws.NewBlocks
namespace Go.Proofs.Ytilphgfjgeoiaaa
open Go.ChangeShapes Go.WideShapes Go.ChangeAt Go.RowKit
set_option linter.unusedVariables false
set_option linter.unusedSimpArgs false
attribute [local go_sem ↓] Go.wp_at_zero Go.wp_at_succ
namespace Dw
open W1 By Sr
theorem but_refl (w : World) (p : Nat) : w.grownBy w (some p) := ⟨rfl, rfl, rfl, Nat.le_refl _, fun _ _ _ => rfl⟩
theorem but_trans {w w1 w2 : World} {p : Nat} (h : w.grownBy w1 (some p)) (h' : w1.grownBy w2 (some p)) : w.grownBy w2 (some p) :=
  ⟨h'.os.trans h.os, h'.tape.trans h.tape, h'.output.trans h.output, Nat.le_trans h.size h'.size, fun k hk hne => (h'.block k (Nat.lt_of_lt_of_le hk h.size) hne).trans (h.block k hk hne)⟩
theorem but_wrote {w w' : World} {p : Nat} (h : Wrote w w' p) : w.grownBy w' (some p) := ⟨h.os, h.tape, h.output, Nat.le_of_eq h.size.symm, fun k _ hne => h.block k (fun e => hne (by rw [e]))⟩
theorem but_below {w w' : World} {p : Nat} (h : Below w.heap.size w w') : w.grownBy w' (some p) := ⟨h.os, h.tape, h.output, h.size, fun k hk _ => h.block k hk⟩
theorem but_alloc {w w' : World} {p : Nat} (h : w.grownBy w' (some p)) (o : Obj) : w.grownBy (w'.alloc o) (some p) := but_trans h (but_below ((Below.refl _ _).alloc (Nat.le_refl _) _))
/-- Writes into blocks that are new. -/
theorem but_set {w w' : World} {p b : Nat} (h : w.grownBy w' (some p)) (hb : w.heap.size ≤ b) (o : Nat) (v : Value) : w.grownBy (w'.setCell ⟨b, o, none⟩ v) (some p) :=
  ⟨h.os, h.tape, h.output, by simpa [World.setCell] using h.size, fun k hk hne => (Below.heap_setCell _ _ _ _ (by show k ≠ b; omega)).trans (h.block k hk hne)⟩
theorem but_own {w w1 w2 : World} {p : Nat} {r : Option Nat} (h : w.grownBy w1 (some p)) (hg : w1.grownBy w2 r) (hr : ∀ k, r = some k → w.heap.size ≤ k) : w.grownBy w2 (some p) :=
  ⟨hg.os.trans h.os, hg.tape.trans h.tape, hg.output.trans h.output, Nat.le_trans h.size hg.size, fun k hk hp => (hg.block k (Nat.lt_of_lt_of_le hk h.size) (fun e => by have := hr k e.symm; omega)).trans (h.block k hk hp)⟩
theorem src_lt {w : World} {p : Nat} {a : Option Addr} {bs : List UInt8} {cap n : Nat} (h : Src w p a bs cap n) : p < w.heap.size := World.block_lt_of_cell? _ _ h.code
theorem src_blocks {w w' : World} {p : Nat} {a : Option Addr} {bs : List UInt8} {cap n : Nat} (h : Src w p a bs cap n) (hp : w'.heap[p]? = w.heap[p]?) (hg : bs ≠ [] → ∀ g off, a = some ⟨g, off, none⟩ → w'.heap[g]? = w.heap[g]?) : Src w' p a bs cap n := by
  obtain ⟨i, s, i0, i1, s0, s1, c1, c2⟩ := h.at_
  exact ⟨⟨i, s, i0, i1, s0, s1, (World.cell?_of_block (a := ⟨p, 1, none⟩) hp).trans c1, (World.cell?_of_block (a := ⟨p, 2, none⟩) hp).trans c2⟩, (World.cell?_of_block (a := ⟨p, 0, none⟩) hp).trans h.code, fun o => (World.frozen?_of_block (a := ⟨p, o, none⟩) hp).trans (h.fz o),
    reads_of_cells h.rd (fun e0 g off o e => World.cell?_of_block (a := ⟨g, o, none⟩) (hg e0 g off e)), h.ne, (congrArg Option.isSome (World.cell?_of_block (a := ⟨p, 3, none⟩) hp)).trans h.top⟩
theorem src_below {w w' : World} {p : Nat} {a : Option Addr} {bs : List UInt8} {cap n : Nat} (h : Src w p a bs cap n) (hb : Below w.heap.size w w') : Src w' p a bs cap n :=
  src_blocks h (hb.block p (src_lt h)) (fun e0 g off e => hb.block g (reads_lt h.rd e0 e))
/-- What a growth of another row leaves. -/
theorem src_grown {w w' : World} {p : Nat} {a : Option Addr} {bs : List UInt8} {cap n : Nat} {r : Option Nat} (h : Src w p a bs cap n) (hg : w.grownBy w' r) (hp : some p ≠ r) (hr : bs ≠ [] → ∀ g off, a = some ⟨g, off, none⟩ → some g ≠ r) : Src w' p a bs cap n :=
  src_blocks h (hg.block p (src_lt h) hp) (fun e0 g off e => hg.block g (reads_lt h.rd e0 e) (hr e0 g off e))
set_option maxHeartbeats 400000 in
theorem chance (p : Nat) (a : Option Addr) (bs : List UInt8) (cap n k : Nat) (w : World) (hk0 : 2 ≤ k) (hk1 : k ≤ 256) (hn : n ≤ 1099511627000) (hm : bs.length ≤ 1099511627776) (hs : Src w p a bs cap n) :
    Calls Try.prog 75 #[.pointer (some ⟨p, 0, none⟩), .int .i64 k] w fun e w' => ∃ r : Bool, e = .returned (.bool r) ∧ Wrote w w' p ∧ Src w' p a bs cap (n + 3) := by
  have HS := hide hs
  clear hs
  go_enter Try.func75, Try.ntmps75
  go_wp2_with fail
  refine (next p a bs cap n k _ hk0 (by omega) hn hm (unhide HS)).mono ?_
  rintro e w1 ⟨r, rfl, hr, wr1, s1⟩
  have S1 := hide s1
  have W1 := hide wr1
  clear s1 wr1
  have e1 : ((k : Int) - 1) = ((k - 1 : Nat) : Int) := by omega
  go_wp2_with fail
  go_ret
  exact ⟨_, rfl, unhide W1, unhide S1⟩
set_option maxHeartbeats 1000000 in
theorem seq (p : Nat) (a : Option Addr) (bs : List UInt8) (cap n : Nat) (w : World) (hn : n ≤ 1099511620000) (hm : bs.length ≤ 1099511627776) (hs : Src w p a bs cap n) :
    Calls Try.prog 74 #[.pointer (some ⟨p, 0, none⟩)] w fun e w' => ∃ r : Nat, e = .returned (.int .i64 r) ∧ r ≤ 65535 ∧ w.grownBy w' (some p) ∧ Src w' p a bs cap (n + 12) := by
  have hp := src_lt hs
  have HS := hide hs
  clear hs
  go_enter Try.func74, Try.ntmps74
  go_wp2_with fail
  refine (next p a bs cap n 9 _ (by omega) (by omega) (by omega) hm (unhide HS)).mono ?_
  rintro e w1 ⟨r1, rfl, h1, wr1, s1⟩
  have S1 := hide s1
  have G1 := hide (but_wrote wr1)
  clear s1 wr1
  go_wp2_with fail
  refine (next p a bs cap (n + 3) 4 _ (by omega) (by omega) (by omega) hm (unhide S1)).mono ?_
  rintro e w2 ⟨r2, rfl, h2, wr2, s2⟩
  have S2 := hide s2
  have G2 := hide (but_trans (unhide G1) (but_wrote wr2))
  clear s2 wr2
  go_wp2_with fail
  refine (next p a bs cap (n + 3 + 3) 65536 _ (by omega) (by omega) (by omega) hm (unhide S2)).mono ?_
  rintro e w3 ⟨r3, rfl, h3, wr3, s3⟩
  have hp3 := src_lt s3
  have S3 := hide (src_below s3 ((Below.refl _ _).alloc (Nat.le_refl _) (.cells #[.int .i64 r1, .int .i64 (65535 - r2), .int .i64 r3, .int .i64 32768] 3)))
  have G3 := hide (but_alloc (but_trans (unhide G2) (but_wrote wr3)) (.cells #[.int .i64 r1, .int .i64 (65535 - r2), .int .i64 r3, .int .i64 32768] 3))
  have C3 : Hid (∀ o, (w3.alloc (.cells #[.int .i64 r1, .int .i64 (65535 - r2), .int .i64 r3, .int .i64 32768] 3)).cell? ⟨w3.heap.size, o, none⟩ = (#[.int .i64 r1, .int .i64 (65535 - r2), .int .i64 r3, .int .i64 32768] : Array Value)[o]?) := hide (fun o => World.cell?_alloc_new _ _ _ _)
  clear s3 wr3
  go_wp2_with fail
  generalize w3.alloc (.cells #[.int .i64 r1, .int .i64 (65535 - r2), .int .i64 r3, .int .i64 32768] 3) = u at *
  refine (next p a bs cap (n + 3 + 3 + 3) 4 _ (by omega) (by omega) (by omega) hm (unhide S3)).mono ?_
  rintro e w4 ⟨r4, rfl, h4, wr4, s4⟩
  have hne : w3.heap.size ≠ p := by omega
  have c0 := (wr4.cell hne 0).trans (unhide C3 0)
  have c1 := (wr4.cell hne 1).trans (unhide C3 1)
  have c2 := (wr4.cell hne 2).trans (unhide C3 2)
  have c3 := (wr4.cell hne 3).trans (unhide C3 3)
  have S4 := hide s4
  have G4 := hide (but_trans (unhide G3) (but_wrote wr4))
  clear s4 wr4 C3
  simp at c0 c1 c2 c3
  have h5 : r4 = 0 ∨ r4 = 1 ∨ r4 = 2 ∨ r4 = 3 := by omega
  rcases h5 with rfl | rfl | rfl | rfl
  · go_wp2_with fail
    go_ret
    exact ⟨r1, rfl, by omega, unhide G4, (unhide S4).mono (by omega)⟩
  · go_wp2_with fail
    go_ret
    exact ⟨65535 - r2, ret_int (by omega), by omega, unhide G4, (unhide S4).mono (by omega)⟩
  · go_wp2_with fail
    go_ret
    exact ⟨r3, rfl, by omega, unhide G4, (unhide S4).mono (by omega)⟩
  · go_wp2_with fail
    go_ret
    exact ⟨32768, rfl, by omega, unhide G4, (unhide S4).mono (by omega)⟩
set_option maxHeartbeats 1000000 in
theorem metric (p : Nat) (a : Option Addr) (bs : List UInt8) (cap n : Nat) (w : World) (hn : n ≤ 1099511620000) (hm : bs.length ≤ 1099511627776) (hs : Src w p a bs cap n) :
    Calls Try.prog 76 #[.pointer (some ⟨p, 0, none⟩)] w fun e w' => ∃ r : Nat, e = .returned (.int .i64 r) ∧ 1 ≤ r ∧ r ≤ 256 ∧ w.grownBy w' (some p) ∧ Src w' p a bs cap (n + 9) := by
  have hp := src_lt hs
  have HS := hide hs
  clear hs
  go_enter Try.func76, Try.ntmps76
  go_wp2_with fail
  refine (next p a bs cap n 9 _ (by omega) (by omega) (by omega) hm (unhide HS)).mono ?_
  rintro e w1 ⟨r1, rfl, h1, wr1, s1⟩
  have S1 := hide s1
  have G1 := hide (but_wrote wr1)
  clear s1 wr1
  go_wp2_with fail
  refine (next p a bs cap (n + 3) 256 _ (by omega) (by omega) (by omega) hm (unhide S1)).mono ?_
  rintro e w2 ⟨r2, rfl, h2, wr2, s2⟩
  have hp3 := src_lt s2
  have S2 := hide (src_below s2 ((Below.refl _ _).alloc (Nat.le_refl _) (.cells #[.int .i64 (1 + r1), .int .i64 (1 + r2), .int .i64 256] 3)))
  have G2 := hide (but_alloc (but_trans (unhide G1) (but_wrote wr2)) (.cells #[.int .i64 (1 + r1), .int .i64 (1 + r2), .int .i64 256] 3))
  have C2 : Hid (∀ o, (w2.alloc (.cells #[.int .i64 (1 + r1), .int .i64 (1 + r2), .int .i64 256] 3)).cell? ⟨w2.heap.size, o, none⟩ = (#[.int .i64 (1 + r1), .int .i64 (1 + r2), .int .i64 256] : Array Value)[o]?) := hide (fun o => World.cell?_alloc_new _ _ _ _)
  clear s2 wr2
  go_wp2_with fail
  generalize w2.alloc (.cells #[.int .i64 (1 + r1), .int .i64 (1 + r2), .int .i64 256] 3) = u at *
  refine (next p a bs cap (n + 3 + 3) 9 _ (by omega) (by omega) (by omega) hm (unhide S2)).mono ?_
  rintro e w4 ⟨r4, rfl, h4, wr4, s4⟩
  have hne : w2.heap.size ≠ p := by omega
  have c0 := (wr4.cell hne 0).trans (unhide C2 0)
  have c1 := (wr4.cell hne 1).trans (unhide C2 1)
  have c2 := (wr4.cell hne 2).trans (unhide C2 2)
  have S4 := hide s4
  have G4 := hide (but_trans (unhide G2) (but_wrote wr4))
  clear s4 wr4 C2
  simp at c0 c1 c2
  have ht : (r4 : Int).tdiv 4 = ((r4 / 4 : Nat) : Int) := by rw [Int.tdiv_eq_ediv_of_nonneg (by omega)]; simp
  have h5 : r4 / 4 = 0 ∨ r4 / 4 = 1 ∨ r4 / 4 = 2 := by omega
  rcases h5 with h5 | h5 | h5
  · rw [h5] at ht
    clear h5
    go_wp2_with fail
    go_ret
    exact ⟨1 + r1, ret_int (by simp), by omega, by omega, unhide G4, (unhide S4).mono (by omega)⟩
  · rw [h5] at ht
    clear h5
    go_wp2_with fail
    go_ret
    exact ⟨1 + r2, ret_int (by simp), by omega, by omega, unhide G4, (unhide S4).mono (by omega)⟩
  · rw [h5] at ht
    clear h5
    go_wp2_with fail
    go_ret
    exact ⟨256, rfl, by omega, by omega, unhide G4, (unhide S4).mono (by omega)⟩
end Dw
end Go.Proofs.Ytilphgfjgeoiaaa
