/-
  The program's EncodePacket of a right packet, with its answer's capacity; whether two lists of messages are alike (laws.sameMessages). (written by mkencpc.py)
-/
import Derived.Test.YtpknahhdapmcoaaEncP
import Derived.Deep.AppendLies
namespace Go.Proofs.Ytpknahhdapmcoaa
open Go.ChangeShapes Go.WideShapes Go.ChangeAt Go.RowKit
set_option linter.unusedVariables false
set_option maxRecDepth 100000
set_option linter.unusedSimpArgs false
namespace Ep
open W1 Nu By Ms Mi Ml
set_option maxHeartbeats 4000000 in
theorem implEncPc (a : Option Addr) (ms : List M) (cap : Nat) (w : World) (hm : ms.length ≤ 1048576) (hk : pktB ms = true) (hr : RM w a ms) :
    Calls Try.prog 8 #[.slice a ms.length cap] w fun e w' => ∃ cap' g, e = .returned (.tuple #[.slice (some ⟨g, 0, none⟩) (pB ms ms.length).length cap', .int .i64 0]) ∧ Below w.heap.size w w' ∧ Reads w' (some ⟨g, 0, none⟩) (pB ms ms.length) ∧ (pB ms ms.length).length ≤ cap' ∧ cap' ≤ maxLen := by
  have HR := hide hr
  clear hr
  have hbig : ¬ 4096 < ms.length := by have := (pkt_ok hk).2.1; omega
  have hb' : ¬ (4096 : Int) < ms.length := by omega
  obtain ⟨l1, l6, hok⟩ := pkt_ok hk
  have HK := hide hk
  have HO := hide hok
  clear hok
  obtain ⟨i0, hi, hz0, hz1, hz2⟩ := info5
  have hpb0 : Hid ((pB ms 0).map (fun b => Value.int .u8 b.toNat) = [.int .u8 0, .int .u8 (ms.length : Int)]) := hide (by
    have := u8n (n := (ms.length : Int)) (by omega) (by omega)
    simp [pB]
    omega)
  have hw128 : IntKind.i64.wrap ((ms.length : Int) * 128) = (ms.length : Int) * 128 := wrapS (by omega) (by omega)
  have hw2 : IntKind.i64.wrap (2 + (ms.length : Int) * 128) = 2 + (ms.length : Int) * 128 := wrapS (by omega) (by omega)
  generalize hN : ms.length = n at *
  have HN := hide hN
  clear hN
  go_enter Try.func8, Try.ntmps8
  go_wp2_with fail
  refine (by have := implPkt a ms cap w (by rw [unhide HN]; exact hm) (unhide HR); rw [unhide HN] at this; exact this : Calls Try.prog 13 #[.slice a n cap] w _).mono ?_
  rintro e w1 ⟨rfl, b1⟩
  rw [hk]
  clear hk
  have hmk := run_make (P := Try.prog) w1 22 5 i0 (.int .u8 0) Try.underlying22 hi hz0 .i64 .i64 2 (2 + (n : Int) * 128) (by omega) (by omega) (by rw [hz2]; omega) (by omega)
  rw [hz1, Nat.mul_one] at hmk
  have hown0 : (w1.alloc (.cells (madeCells (Value.int .u8 0).cells (2 + (n : Int) * 128).toNat) 5)).ownsRow w.heap.size 5 1 (.slice (some ⟨w1.heap.size, 0, none⟩) 2 (2 + (n : Int) * 128).toNat) 2 [.int .u8 0, .int .u8 0] := by
    refine ⟨rfl, .inr ⟨w1.heap.size, _, _, rfl, b1.size, heap_alloc_new _ _, by omega, by unfold maxLen; omega, by rw [size_madeCells, Nat.mul_one], ?_⟩⟩
    rw [show (Value.int .u8 0).cells = #[Value.int .u8 0] from rfl, toList_madeCells_one, List.take_replicate]
    rw [show min (2 * 1) (2 + (n : Int) * 128).toNat = 2 by omega]
    rfl
  generalize madeCells (Value.int .u8 0).cells (2 + (n : Int) * 128).toNat = cs0 at *
  have hcap0 : (2 + (n : Int) * 128).toNat = 2 + n * 128 := by omega
  rw [hcap0] at hmk hown0
  have x1 := hown0.cellAt 1 (by omega)
  have y1 := hown0.frozenAt 1
  have hst := (hown0.stored 1 (.int .u8 (n : Int))).1
  have eset : (w1.alloc (.cells cs0 5)).setCell ⟨w1.heap.size, 1, none⟩ (.int .u8 (n : Int)) = w1.alloc (.cells (cs0.setIfInBounds 1 (.int .u8 (n : Int))) 5) := by simp [go_sem]
  rw [eset] at hst
  clear eset
  have OW0 := hide hst
  have B1 := hide b1
  simp at x1
  clear hown0 hst b1 hcap0 hi hz0 hz1 hz2
  go_wp2_with fail
  go_loopw [4, 25] (fun v i wr => ∃ j : Nat, j ≤ n ∧ i = .int .i64 j ∧ Hid (wr.ownsRow w.heap.size 5 1 v (pB ms j).length ((pB ms j).map fun b => Value.int .u8 b.toNat)) ∧ Hid (Below w.heap.size w wr)) (fun _ i _ => n - (intOf i).toNat)
  case atStart =>
    refine ⟨0, by omega, rfl, hide ?_, hide ?_⟩
    · rw [unhide hpb0, show (pB ms 0).length = 2 from by simp [pB]]; exact unhide OW0
    · exact (unhide B1).alloc (unhide B1).size _
  case round =>
    obtain ⟨j, hj, rfl, how, hbl⟩ := hrel
    clear x1 y1 hmk
    by_cases hlt : (j : Int) < (n : Int)
    · have k0 : (0 : Int) ≤ (j : Int) := by omega
      have hlen : j < ms.length := by rw [unhide HN]; omega
      rcases (unhide HR).below (by exact (unhide hbl)) with e0 | ⟨g, off, rfl, hc⟩
      · exfalso; rw [e0] at hlen; simp at hlen
      obtain ⟨c0, c1, c2, c3, c4, c5⟩ := hc j hlen
      clear hc
      have hsn := hide (pB_succ ms j hlen)
      have hmo := unhide HO j (by omega)
      have hSs : (pB ms j).length ≤ 2 + j * 128 := pB_le (unhide HK) j (by omega)
      generalize ms.getD j M.zero = m at *
      obtain ⟨t0, t1, o0, o1, s0, s1, q0, q1, p0, p1, bz⟩ := ok_bounds hmo
      obtain ⟨ty, og, sq, hl, hp, body⟩ := m
      dsimp only at c0 c1 c2 c3 c4 c5 t0 t1 o0 o1 s0 s1 q0 q1 p0 p1 bz
      clear hmo
      have hbs := (unhide hbl).size
      go_wp2_with fail
      refine (appendMessage w.heap.size _ _ _ ty og sq hl hp body _ ((unhide how).alloc _) (by omega) (by simp; omega) (by omega) (by omega) (by omega) (by omega) s0 s1 q0 q1 p0 p1 bz).mono ?_
      rintro e w2 ⟨v2, rfl, own2, grow2⟩
      have hb2 := hide (((unhide hbl).alloc hbs _).grown grow2 (by simp; omega) (fun k hk => ((unhide how).lt k hk).1))
      have hon : Hid (w2.ownsRow w.heap.size 5 1 v2 (pB ms (j + 1)).length ((pB ms (j + 1)).map fun b => Value.int .u8 b.toNat)) := hide (by
        rw [cells_eq (by omega) (by omega) (by omega) (by omega) s0 s1 q0 q1 p0 p1 bz, ← List.map_append] at own2
        rw [unhide hsn]
        have e1 : (pB ms j).length + 8 + body.size = (pB ms j ++ mB ⟨ty, og, sq, hl, hp, body⟩).length := by rw [List.length_append, mB_length]; show _ = _ + (8 + body.size); omega
        rw [e1] at own2
        exact own2)
      clear c0 c1 c2 c3 c4 c5 own2 grow2
      go_wp2_with fail
      go_roundw
      case rel => exact ⟨j + 1, by omega, by go_num, hon, hb2⟩
      case measure => simp [intOf]; omega
    · obtain rfl : j = n := by omega
      have hl2 : 0 < (pB ms j).length := by simp [pB]
      obtain ⟨g9, cap9, rfl, hg9, hlt9⟩ := (unhide how).form hl2
      obtain ⟨hrd, hop⟩ := reads_of_own rfl (unhide how)
      have hc9 : (pB ms j).length ≤ cap9 ∧ cap9 ≤ maxLen := by
        rcases (unhide how).2 with ⟨e, h0⟩ | ⟨g', cap', cur, hv, _, _, h1, h2, _⟩
        · omega
        · cases hv; exact ⟨h1, h2⟩
      have HRD := hide hrd
      have HOP := hide hop
      clear hrd hop
      go_wp2_with fail
      go_ret2
      first | exact ⟨cap9, g9, rfl, unhide hbl, unhide HRD, hc9⟩ | exact ⟨_, ⟨cap9, rfl⟩, unhide hbl, unhide HRD, hc9⟩
attribute [local go_sem ↓] Go.wp_at_zero Go.wp_at_succ
set_option maxHeartbeats 4000000 in
theorem sameMsgs (a b : Option Addr) (ms : List M) (ca cb : Nat) (w : World) (hm : ms.length ≤ 1048576) (hr : RM w a ms) (hr' : RM w b ms) :
    Calls Try.prog 12 #[.slice a ms.length ca, .slice b ms.length cb] w fun e w' => e = .returned (.bool true) ∧ Below w.heap.size w w' := by
  have HR := hide hr
  have HR' := hide hr'
  clear hr hr'
  generalize hN : ms.length = n at *
  have HN := hide hN
  clear hN
  go_enter Try.func12, Try.ntmps12
  go_wp2
  go_loopw [5] (fun i wr => ∃ j : Nat, j ≤ n ∧ i = .int .i64 j ∧ Hid (Below w.heap.size w wr)) (fun i _ => n - (intOf i).toNat)
  case atStart => exact ⟨0, by omega, rfl, hide (Below.refl _ _)⟩
  case round =>
    obtain ⟨j, hj, rfl, hbl⟩ := hrel
    by_cases hlt : (j : Int) < (n : Int)
    · have k0 : (0 : Int) ≤ (j : Int) := by omega
      have hlen : j < ms.length := by rw [unhide HN]; omega
      rcases (unhide HR).below (unhide hbl) with e0 | ⟨g, off, rfl, hc⟩
      · exfalso; rw [e0] at hlen; simp at hlen
      rcases (unhide HR').below (unhide hbl) with e0 | ⟨g', off', rfl, hc'⟩
      · exfalso; rw [e0] at hlen; simp at hlen
      have hA := hc j hlen
      have hA' := hc' j hlen
      clear hc hc'
      generalize ms.getD j M.zero = m at *
      obtain ⟨ty, og, sq, hl, hp, body⟩ := m
      obtain ⟨c0, c1, c2, c3, c4, c5⟩ := hA
      obtain ⟨d0, d1, d2, d3, d4, d5⟩ := hA'
      dsimp only at c0 c1 c2 c3 c4 c5 d0 d1 d2 d3 d4 d5
      go_wp2_with fail
      go_region_held3 (fun w' => w'.cell? ⟨g, off + j * 6, none⟩ = some (.int .i64 ty) ∧ w'.cell? ⟨g, off + j * 6 + 1, none⟩ = some (.int .i64 og) ∧ w'.cell? ⟨g, off + j * 6 + 2, none⟩ = some (.int .i64 sq) ∧ w'.cell? ⟨g, off + j * 6 + 3, none⟩ = some (.int .i64 hl) ∧ w'.cell? ⟨g, off + j * 6 + 4, none⟩ = some (.int .i64 hp) ∧ w'.cell? ⟨g, off + j * 6 + 5, none⟩ = some (.string body) ∧ w'.cell? ⟨g', off' + j * 6, none⟩ = some (.int .i64 ty) ∧ w'.cell? ⟨g', off' + j * 6 + 1, none⟩ = some (.int .i64 og) ∧ w'.cell? ⟨g', off' + j * 6 + 2, none⟩ = some (.int .i64 sq) ∧ w'.cell? ⟨g', off' + j * 6 + 3, none⟩ = some (.int .i64 hl) ∧ w'.cell? ⟨g', off' + j * 6 + 4, none⟩ = some (.int .i64 hp) ∧ w'.cell? ⟨g', off' + j * 6 + 5, none⟩ = some (.string body)) (exact ⟨c0, c1, c2, c3, c4, c5, d0, d1, d2, d3, d4, d5⟩) (fail)
      have hb1 := hide ((unhide hbl).drew)
      go_wp2_with fail
      go_roundw
      case rel => exact ⟨j + 1, by omega, by go_num, hb1⟩
      case measure => simp [intOf]; omega
    · go_wp2
      go_ret
      exact ⟨rfl, unhide hbl⟩
end Ep
end Go.Proofs.Ytpknahhdapmcoaa
