/-
  The program's contracts of two-hop neighbors: whether a set is right, its code, the map of its tuples by hops, those by one forgotten, the map's tuples in order.
-/
import Derived.Test.YtilphgfjgeoiaaaTwoH
import Derived.Test.YtilphgfjgeoiaaaSetD
import Derived.Maps.AppendAt
namespace Go.Proofs.Ytilphgfjgeoiaaa
open Go.ChangeShapes Go.WideShapes Go.ChangeAt Go.RowKit
set_option linter.unusedVariables false
set_option linter.unusedSimpArgs false
attribute [local go_sem ↓] Go.wp_at_zero Go.wp_at_succ
namespace Tw
open W1 Tu St Mt
theorem bx_new (w : World) (m : R) (t : Nat) : Bx (w.alloc (.cells #[.int .i64 m.key, .int .i64 m.til, .int .i64 m.val] t)) w.heap.size m := by
  refine ⟨?_, ?_, ?_⟩ <;> simp [World.cell?_alloc_new]
theorem bx_lt {w : World} {b : Nat} {m : R} (h : Bx w b m) : b < w.heap.size := World.block_lt_of_cell? _ _ h.1
theorem bx_but {w w' : World} {b : Nat} {m : R} (h : Bx w b m) (hb : w'.heap[b]? = w.heap[b]?) : Bx w' b m :=
  ⟨(World.cell?_of_block (a := ⟨b, 0, none⟩) hb).trans h.1, (World.cell?_of_block (a := ⟨b, 1, none⟩) hb).trans h.2.1, (World.cell?_of_block (a := ⟨b, 2, none⟩) hb).trans h.2.2⟩
theorem om_grown {w w' : World} {b : Nat} {B : Nat} {w0 : World} (hB : Below B w0 w) (hBw : B ≤ w0.heap.size) (hb : B ≤ b) (hg : w.grownBy w' (some b)) : Below B w0 w' :=
  ⟨hg.os.trans hB.os, hg.tape.trans hB.tape, hg.output.trans hB.output, Nat.le_trans hB.size hg.size, fun k hk => (hg.block k (Nat.lt_of_lt_of_le hk (Nat.le_trans hBw hB.size)) (by intro e; cases e; omega)).trans (hB.block k hk)⟩
set_option maxRecDepth 100000 in
set_option maxHeartbeats 2000000 in
theorem areHops (a : Option Addr) (ms : List R) (cap : Nat) (w : World) (hm : ms.length ≤ 1048576) (hr : RM w a ms) :
    Calls Try.prog 40 #[.slice a ms.length cap] w fun e w' => e = .returned (.bool (twoB ms)) ∧ Below w.heap.size w w' := by
  have HR := hide hr
  clear hr
  cases hs : setB ms
  · rw [set_no hs]
    have HS := hide hs
    clear hs
    go_enter Try.func40, Try.ntmps40
    go_wp2_with fail
    refine (St.implOK _ ms cap _ hm (unhide HR)).mono ?_
    rintro e w1 ⟨rfl, b1⟩
    rw [unhide HS]
    have HB := hide b1
    clear b1
    go_wp2_with fail
    go_ret
    exact ⟨rfl, unhide HB⟩
  have HS := hide hs
  clear hs
  generalize hN : ms.length = n at *
  have HN := hide hN
  clear hN
  go_enter Try.func40, Try.ntmps40
  go_wp2_with fail
  rw [← unhide HN]
  refine (St.implOK _ ms cap _ (by have := unhide HN; omega) (unhide HR)).mono ?_
  rintro e w1 ⟨rfl, b1⟩
  rw [unhide HS]
  have HB1 := hide b1
  clear b1
  go_wp2_with fail
  rw [unhide HN]
  go_loopw [10] (fun i wr => ∃ j : Nat, j ≤ n ∧ i = .int .i64 j ∧ Hid (keysB ms j = true) ∧ Hid (Below w.heap.size w wr)) (fun i _ => n - (intOf i).toNat)
  case atStart => exact ⟨0, by omega, rfl, hide (keys_zero ms), HB1⟩
  case round =>
    obtain ⟨j, hj, rfl, hkb, hbl⟩ := hrel
    by_cases hlt : (j : Int) < (n : Int)
    · have k0 : (0 : Int) ≤ (j : Int) := by omega
      have hlen : j < ms.length := by rw [unhide HN]; omega
      obtain ⟨g, off, rfl⟩ := (unhide HR).form (by omega)
      obtain ⟨c0, c1, c2⟩ := ((unhide HR).below (unhide hbl)).at hlen
      have hbs := (unhide hbl).size
      have hbd := ok_bounds (setB_ok (unhide HS) hlen)
      have HY : Hid (okK (ms.getD j R.zero) = true → keysB ms (j + 1) = true) := hide (fun h => keys_succ hlen (unhide hkb) h)
      have HZ : Hid (okK (ms.getD j R.zero) = false → twoB ms = false) := hide (fun h => keys_no hlen h)
      generalize ms.getD j R.zero = m at *
      have HBA := hide ((unhide hbl).alloc hbs (.cells #[.int .i64 m.key, .int .i64 m.til, .int .i64 m.val] 73))
      obtain ⟨o, ho⟩ : ∃ o, okK m = o := ⟨_, rfl⟩
      have HO : Hid (hopB (m.key.tdiv 100) (m.key.tmod 100) = o) := hide ho
      rw [ho] at HY HZ
      clear ho
      go_wp2_with fail
      generalize hW : wr.alloc (.cells #[.int .i64 m.key, .int .i64 m.til, .int .i64 m.val] 73) = W0 at *
      clear hW
      refine (hopOfKey m.key _ (by omega) (by omega)).mono ?_
      rintro e w2 ⟨rfl, b2⟩
      have HB2 := hide ((unhide HBA).trans (b2.mono (unhide HBA).size))
      clear b2 c0 c1 c2
      generalize m.key.tdiv 100 = v at *
      generalize m.key.tmod 100 = u at *
      go_wp2_with fail
      refine (isHop v u _).mono ?_
      rintro e w3 ⟨rfl, b3⟩
      rw [unhide HO]
      have HB3 := hide ((unhide HB2).trans (b3.mono (unhide HB2).size))
      clear b3
      cases o
      · have HT := hide (unhide HZ rfl)
        go_wp2_with fail
        go_ret
        exact ⟨ret_bool (unhide HT).symm, unhide HB3⟩
      · have HT := hide (unhide HY rfl)
        go_wp2_with fail
        go_roundw
        case rel => exact ⟨j + 1, by omega, by go_num, HT, HB3⟩
        case measure => simp [intOf]; omega
    · obtain rfl : j = n := by omega
      have HT : Hid (twoB ms = true) := hide (by rw [keys_all (by rw [unhide HN]; exact unhide hkb)]; exact unhide HS)
      go_wp2_with fail
      go_ret
      exact ⟨ret_bool (unhide HT).symm, unhide hbl⟩
end Tw
end Go.Proofs.Ytilphgfjgeoiaaa
