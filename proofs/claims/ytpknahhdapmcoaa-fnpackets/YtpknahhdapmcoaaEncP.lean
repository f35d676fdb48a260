/-
  Contracts of l01Packet and of EncodePacket, the model's and the program's: for every list of messages the bytes that it has, or none and the code; in memory of their own.
-/
import Derived.Test.YtpknahhdapmcoaaMsgS
import Derived.Test.YtpknahhdapmcoaaMsgI
import Derived.Test.YtpknahhdapmcoaaBytes
import Derived.Test.YtpknahhdapmcoaaMsgs
import Derived.Lib.ConvBytes
namespace Go.Proofs.Ytpknahhdapmcoaa
open Go.ChangeShapes Go.WideShapes Go.ChangeAt Go.RowKit
set_option linter.unusedVariables false
set_option linter.unusedSimpArgs false
namespace Ep
open W1 Nu By Ms Mi Ml
/-- The bytes of a message; of a packet; what EncodePacket answers. -/
def mB (m : M) : List UInt8 := (msgStr m.ty m.og m.sq m.hl m.hp m.body).data.toList
def pB (ms : List M) (j : Nat) : List UInt8 := [0, UInt8.ofNat ms.length] ++ (ms.take j).flatMap mB
def encP (ms : List M) : List UInt8 := if 4096 < ms.length then [] else if pktB ms = true then pB ms ms.length else []
def codeP (ms : List M) : Int := if 4096 < ms.length then 2 else if pktB ms = true then 0 else 1
theorem ok_bounds {m : M} (h : m.ok = true) : 1 ≤ m.ty ∧ m.ty ≤ 2 ∧ 1 ≤ m.og ∧ m.og ≤ 8 ∧ 0 ≤ m.sq ∧ m.sq ≤ 65535 ∧ 0 ≤ m.hl ∧ m.hl ≤ 255 ∧ 0 ≤ m.hp ∧ m.hp ≤ 255 ∧ (m.body.size : Int) ≤ 120 := by
  simp [M.ok, okB, inB] at h
  omega
theorem pkt_ok {ms : List M} (h : pktB ms = true) : 1 ≤ ms.length ∧ ms.length ≤ 6 ∧ ∀ j, j < ms.length → (ms.getD j M.zero).ok = true := by
  unfold pktB at h
  simp [inB] at h
  obtain ⟨⟨h1, h2⟩, h3⟩ := h
  refine ⟨by omega, by omega, fun j hj => ?_⟩
  rw [List.getD_eq_getElem?_getD, List.getElem?_eq_getElem hj]
  exact h3 _ (List.getElem_mem hj)
theorem pB_succ (ms : List M) (j : Nat) (h : j < ms.length) : pB ms (j + 1) = pB ms j ++ mB (ms.getD j M.zero) := by
  unfold pB
  rw [List.take_succ_eq_append_getElem h, List.flatMap_append, List.getD_eq_getElem?_getD, List.getElem?_eq_getElem h]
  simp
theorem mB_length (m : M) : (mB m).length = 8 + m.body.size := by
  unfold mB
  have := msgStr_size m.ty m.og m.sq m.hl m.hp m.body
  simp only [Array.length_toList]
  exact this
theorem mB_le {m : M} (h : m.ok = true) : (mB m).length ≤ 128 := by
  rw [mB_length]; have := (ok_bounds h).2.2.2.2.2.2.2.2.2.2; omega
theorem pB_le {ms : List M} (h : pktB ms = true) : ∀ j, j ≤ ms.length → (pB ms j).length ≤ 2 + j * 128
  | 0, _ => by simp [pB]
  | j + 1, hj => by
    rw [pB_succ ms j (by omega), List.length_append]
    have := pB_le h j (by omega)
    have := mB_le ((pkt_ok h).2.2 j (by omega))
    omega

set_option maxHeartbeats 2000000 in
theorem l01Packet (a : Option Addr) (ms : List M) (cap : Nat) (w : World) (hk : pktB ms = true) (hr : RM w a ms) :
    Calls Try.prog 35 #[.slice a ms.length cap] w fun e w' => ∃ S : ByteArray, e = .returned (.string S) ∧ S.data.toList = pB ms ms.length ∧ Below w.heap.size w w' := by
  obtain ⟨l1, l6, hok⟩ := pkt_ok hk
  have HK := hide hk
  have HO := hide hok
  have HR := hide hr
  clear hk hok hr
  have h0 : Hid ((⟨#[0]⟩ ++ strOfNums [(ms.length : Int)] : ByteArray).data.toList = pB ms 0) := hide (by simp [pB, strOfNums, ByteArray.data_append])
  generalize hN : ms.length = n at *
  have HN := hide hN
  clear hN
  go_enter Try.func35, Try.ntmps35
  go_wp2_with fail
  refine (num1 (n : Int) (by omega) (by omega) _).mono ?_
  rintro e w1 ⟨rfl, b1⟩
  have hz1 : (strOfNums [(n : Int)]).size = 1 := strOfNums_size _
  go_wp2_with fail
  go_loopw [3, 4] (fun v i wr => ∃ (j : Nat) (S : ByteArray), j ≤ n ∧ i = .int .i64 j ∧ v = .string S ∧ Hid (S.data.toList = pB ms j) ∧ Hid (Below w.heap.size w wr)) (fun _ i _ => n - (intOf i).toNat)
  case atStart => exact ⟨0, _, by omega, rfl, rfl, h0, hide b1⟩
  case round =>
    obtain ⟨j, S, hj, rfl, rfl, hS, hbl⟩ := hrel
    clear hz1
    by_cases hlt : (j : Int) < (n : Int)
    · have k0 : (0 : Int) ≤ (j : Int) := by omega
      have hlen : j < ms.length := by rw [unhide HN]; omega
      rcases (unhide HR).below (by exact (unhide hbl)) with e0 | ⟨g, off, rfl, hc⟩
      · exfalso; rw [e0] at hlen; simp at hlen
      obtain ⟨c0, c1, c2, c3, c4, c5⟩ := hc j hlen
      clear hc
      have hsn := hide (pB_succ ms j hlen)
      have hmo := unhide HO j (by omega)
      have hSs : S.size ≤ 2 + j * 128 := by have h := congrArg List.length (unhide hS); have h2 := pB_le (unhide HK) j (by omega); simp at h; omega
      have hms := mB_length (ms.getD j M.zero)
      generalize ms.getD j M.zero = m at *
      obtain ⟨t0, t1, o0, o1, s0, s1, q0, q1, p0, p1, bz⟩ := ok_bounds hmo
      obtain ⟨ty, og, sq, hl, hp, body⟩ := m
      dsimp only at c0 c1 c2 c3 c4 c5 t0 t1 o0 o1 s0 s1 q0 q1 p0 p1 bz
      clear hmo
      go_wp2_with fail
      refine (l01Message ty og sq hl hp body _ (by omega) (by omega) (by omega) (by omega) s0 s1 q0 q1 p0 p1 bz).mono ?_
      rintro e w2 ⟨rfl, b2⟩
      have hb2 := hide ((unhide hbl).trans (b2.mono (unhide hbl).size))
      have hmz : (msgStr ty og sq hl hp body).size = 8 + body.size := msgStr_size _ _ _ _ _ _
      have hadd : ¬ (9223372036854775807 < S.size + (8 + body.size)) := by omega
      have hSn : Hid ((S ++ msgStr ty og sq hl hp body).data.toList = pB ms (j + 1)) := hide (by rw [unhide hsn, ByteArray.data_append, Array.toList_append, unhide hS]; rfl)
      clear c0 c1 c2 c3 c4 c5 b2 hms
      go_wp2_with fail
      go_roundw
      case rel => exact ⟨j + 1, _, by omega, by go_num, rfl, hSn, hb2⟩
      case measure => simp [intOf]; omega
    · obtain rfl : j = n := by omega
      go_wp2
      go_ret
      exact ⟨S, rfl, unhide hS, unhide hbl⟩

theorem below_bytes (w : World) (e : TypeId) (s : ByteArray) : Below w.heap.size w (Lib.bytesWorld w e s) :=
  ⟨rfl, rfl, rfl, by rw [Lib.bytesWorld_size]; omega, fun k hk => Lib.bytesWorld_at_old w e s k hk⟩
theorem u8n {n : Int} (h0 : 0 ≤ n) (h1 : n ≤ 255) : ((UInt8.ofNat n.toNat).toNat : Int) = n := by
  rw [UInt8.toNat_ofNat']; omega
theorem cells_eq {ty og sq hl hp : Int} {body : ByteArray} (t0 : 0 ≤ ty) (t1 : ty ≤ 255) (o0 : 0 ≤ og) (o1 : og ≤ 255) (s0 : 0 ≤ sq) (s1 : sq ≤ 65535) (l0 : 0 ≤ hl) (l1 : hl ≤ 255) (p0 : 0 ≤ hp) (p1 : hp ≤ 255) (b1 : (body.size : Int) ≤ 120) :
    ([.int .u8 ty, .int .u8 ((8 + (body.size : Int)) / 256), .int .u8 ((8 + (body.size : Int)) % 256), .int .u8 og, .int .u8 (sq / 256), .int .u8 (sq % 256), .int .u8 hl, .int .u8 hp] ++ Lib.strCells body : List Value) = (msgStr ty og sq hl hp body).data.toList.map fun b => Value.int .u8 b.toNat := by
  rw [msgStr_data, List.map_append]
  congr 1
  simp only [head, List.map_cons, List.map_nil]
  rw [u8n t0 t1, u8n (n := (8 + (body.size : Int)) / 256) (by omega) (by omega), u8n (n := (8 + (body.size : Int)) % 256) (by omega) (by omega), u8n o0 o1, u8n (n := sq / 256) (by omega) (by omega), u8n (n := sq % 256) (by omega) (by omega), u8n l0 l1, u8n p0 p1]
theorem reads_of_own {w : World} {base g cap n : Nat} {bs : List UInt8} (hn : n = bs.length) (h : w.ownsRow base 5 1 (.slice (some ⟨g, 0, none⟩) n cap) n (bs.map fun b => Value.int .u8 b.toNat)) :
    Reads w (some ⟨g, 0, none⟩) bs ∧ Opn w (some ⟨g, 0, none⟩) g bs.length := by
  subst hn
  have hc : ∀ i, i < bs.length → w.cell? ⟨g, 0 + i, none⟩ = some (.int .u8 (bs.getD i 0).toNat) := by
    intro i hi
    rw [Nat.zero_add, h.cellAt i (by omega), List.getElem?_map, List.getElem?_eq_getElem hi]
    simp [List.getD, List.getElem?_eq_getElem hi]
  refine ⟨.inr ⟨g, 0, rfl, hc⟩, .inr ⟨0, rfl, fun i hi => ⟨by rw [hc i hi]; rfl, ?_⟩⟩⟩
  rw [Nat.zero_add]; exact h.frozenAt i

set_option maxHeartbeats 2000000 in
theorem specEncP (a : Option Addr) (ms : List M) (cap : Nat) (w : World) (hm : ms.length ≤ 1048576) (hr : RM w a ms) :
    Calls Try.prog 9 #[.slice a ms.length cap] w fun e w' => ∃ a' cap', e = .returned (.tuple #[.slice a' (encP ms).length cap', .int .i64 (codeP ms)]) ∧ Below w.heap.size w w' ∧ Reads w' a' (encP ms) := by
  have HR := hide hr
  clear hr
  by_cases hbig : 4096 < ms.length
  · have he : encP ms = [] := by unfold encP; rw [if_pos hbig]
    have hc : codeP ms = 2 := by unfold codeP; rw [if_pos hbig]
    rw [he, hc]
    clear he hc
    have hb' : (4096 : Int) < ms.length := by omega
    go_enter Try.func9, Try.ntmps9
    go_wp2_with fail
    go_ret2
    exact ⟨_, _, rfl, (Below.refl _ _).alloc (Nat.le_refl _) _, .inl rfl⟩
  have hb' : ¬ (4096 : Int) < ms.length := by omega
  cases hk : pktB ms
  · have he : encP ms = [] := by unfold encP; rw [if_neg hbig, if_neg (by simp [hk])]
    have hc : codeP ms = 1 := by unfold codeP; rw [if_neg hbig, if_neg (by simp [hk])]
    rw [he, hc]
    clear he hc
    go_enter Try.func9, Try.ntmps9
    go_wp2_with fail
    refine (specPkt a ms cap _ hm (unhide HR)).mono ?_
    rintro e w1 ⟨rfl, b1⟩
    rw [hk]
    go_wp2_with fail
    go_ret2
    exact ⟨_, _, rfl, b1.alloc b1.size _, .inl rfl⟩
  · have he : encP ms = pB ms ms.length := by unfold encP; rw [if_neg hbig, if_pos hk]
    have hc : codeP ms = 0 := by unfold codeP; rw [if_neg hbig, if_pos hk]
    rw [he, hc]
    clear he hc
    have HK := hide hk
    go_enter Try.func9, Try.ntmps9
    go_wp2_with fail
    refine (specPkt a ms cap _ hm (unhide HR)).mono ?_
    rintro e w1 ⟨rfl, b1⟩
    rw [hk]
    clear hk
    go_wp2_with fail
    refine (l01Packet a ms cap _ (unhide HK) ((unhide HR).below b1)).mono ?_
    rintro e w2 ⟨S, rfl, hS, b2⟩
    have HS := hide hS
    clear hS
    have B2 := b1.trans (b2.mono b1.size)
    have hconv := Lib.run_convert_string_bytes (P := Try.prog) w2 9 22 5 S Try.underlying9 Try.underlying22 Try.underlying5
    go_wp2_with fail
    go_ret2
    have hlen : (pB ms ms.length).length = S.size := by rw [← unhide HS]; simp
    refine ⟨some ⟨w2.heap.size, 0, none⟩, grownCap w2 S.size 0 5, by rw [hlen]; rfl, B2.trans ((below_bytes w2 5 S).mono B2.size), .inr ⟨w2.heap.size, 0, rfl, fun i hi => ?_⟩⟩
    rw [Nat.zero_add, Lib.bytesWorld_cell w2 5 S i (by omega), unhide HS]

set_option maxHeartbeats 4000000 in
theorem implEncP (a : Option Addr) (ms : List M) (cap : Nat) (w : World) (hm : ms.length ≤ 1048576) (hr : RM w a ms) :
    Calls Try.prog 8 #[.slice a ms.length cap] w fun e w' => ∃ a' cap' g, e = .returned (.tuple #[.slice a' (encP ms).length cap', .int .i64 (codeP ms)]) ∧ Below w.heap.size w w' ∧ Reads w' a' (encP ms) ∧ w.heap.size ≤ g ∧ Opn w' a' g (encP ms).length := by
  have HR := hide hr
  clear hr
  by_cases hbig : 4096 < ms.length
  · have he : encP ms = [] := by unfold encP; rw [if_pos hbig]
    have hc : codeP ms = 2 := by unfold codeP; rw [if_pos hbig]
    rw [he, hc]
    clear he hc
    have hb' : (4096 : Int) < ms.length := by omega
    go_enter Try.func8, Try.ntmps8
    go_wp2_with fail
    go_ret2
    exact ⟨none, 0, w.heap.size, rfl, Below.refl _ _, .inl rfl, Nat.le_refl _, .inl rfl⟩
  have hb' : ¬ (4096 : Int) < ms.length := by omega
  cases hk : pktB ms
  · have he : encP ms = [] := by unfold encP; rw [if_neg hbig, if_neg (by simp [hk])]
    have hc : codeP ms = 1 := by unfold codeP; rw [if_neg hbig, if_neg (by simp [hk])]
    rw [he, hc]
    clear he hc
    go_enter Try.func8, Try.ntmps8
    go_wp2_with fail
    refine (implPkt a ms cap _ hm (unhide HR)).mono ?_
    rintro e w1 ⟨rfl, b1⟩
    rw [hk]
    go_wp2_with fail
    go_ret2
    exact ⟨none, 0, w.heap.size, rfl, b1, .inl rfl, Nat.le_refl _, .inl rfl⟩
  · have he : encP ms = pB ms ms.length := by unfold encP; rw [if_neg hbig, if_pos hk]
    have hc : codeP ms = 0 := by unfold codeP; rw [if_neg hbig, if_pos hk]
    rw [he, hc]
    clear he hc
    obtain ⟨l1, l6, hok⟩ := pkt_ok hk
    have HK := hide hk
    have HO := hide hok
    clear hok
    obtain ⟨i0, hi, hz0, hz1, hz2⟩ := info5
    have hpb0 : Hid ((pB ms 0).map (fun b => Value.int .u8 b.toNat) = [.int .u8 0, .int .u8 (ms.length : Int)]) := hide (by
      have := u8n (n := (ms.length : Int)) (by omega) (by omega)
      simp [pB]
      omega)
    have hw128 : IntKind.i64.wrap ((ms.length : Int) * 128) = (ms.length : Int) * 128 := wrapS (by omega) (by omega)
    have hw2 : IntKind.i64.wrap (2 + (ms.length : Int) * 128) = 2 + (ms.length : Int) * 128 := wrapS (by omega) (by omega)
    generalize hN : ms.length = n at *
    have HN := hide hN
    clear hN
    go_enter Try.func8, Try.ntmps8
    go_wp2_with fail
    refine (by have := implPkt a ms cap w (by rw [unhide HN]; exact hm) (unhide HR); rw [unhide HN] at this; exact this : Calls Try.prog 13 #[.slice a n cap] w _).mono ?_
    rintro e w1 ⟨rfl, b1⟩
    rw [hk]
    clear hk
    have hmk := run_make (P := Try.prog) w1 22 5 i0 (.int .u8 0) Try.underlying22 hi hz0 .i64 .i64 2 (2 + (n : Int) * 128) (by omega) (by omega) (by rw [hz2]; omega) (by omega)
    rw [hz1, Nat.mul_one] at hmk
    have hown0 : (w1.alloc (.cells (madeCells (Value.int .u8 0).cells (2 + (n : Int) * 128).toNat) 5)).ownsRow w.heap.size 5 1 (.slice (some ⟨w1.heap.size, 0, none⟩) 2 (2 + (n : Int) * 128).toNat) 2 [.int .u8 0, .int .u8 0] := by
      refine ⟨rfl, .inr ⟨w1.heap.size, _, _, rfl, b1.size, heap_alloc_new _ _, by omega, by unfold maxLen; omega, by rw [size_madeCells, Nat.mul_one], ?_⟩⟩
      rw [show (Value.int .u8 0).cells = #[Value.int .u8 0] from rfl, toList_madeCells_one, List.take_replicate]
      rw [show min (2 * 1) (2 + (n : Int) * 128).toNat = 2 by omega]
      rfl
    generalize madeCells (Value.int .u8 0).cells (2 + (n : Int) * 128).toNat = cs0 at *
    have hcap0 : (2 + (n : Int) * 128).toNat = 2 + n * 128 := by omega
    rw [hcap0] at hmk hown0
    have x1 := hown0.cellAt 1 (by omega)
    have y1 := hown0.frozenAt 1
    have hst := (hown0.stored 1 (.int .u8 (n : Int))).1
    have eset : (w1.alloc (.cells cs0 5)).setCell ⟨w1.heap.size, 1, none⟩ (.int .u8 (n : Int)) = w1.alloc (.cells (cs0.setIfInBounds 1 (.int .u8 (n : Int))) 5) := by simp [go_sem]
    rw [eset] at hst
    clear eset
    have OW0 := hide hst
    have B1 := hide b1
    simp at x1
    clear hown0 hst b1 hcap0 hi hz0 hz1 hz2
    go_wp2_with fail
    go_loopw [4, 25] (fun v i wr => ∃ j : Nat, j ≤ n ∧ i = .int .i64 j ∧ Hid (wr.ownsRow w.heap.size 5 1 v (pB ms j).length ((pB ms j).map fun b => Value.int .u8 b.toNat)) ∧ Hid (Below w.heap.size w wr)) (fun _ i _ => n - (intOf i).toNat)
    case atStart =>
      refine ⟨0, by omega, rfl, hide ?_, hide ?_⟩
      · rw [unhide hpb0, show (pB ms 0).length = 2 from by simp [pB]]; exact unhide OW0
      · exact (unhide B1).alloc (unhide B1).size _
    case round =>
      obtain ⟨j, hj, rfl, how, hbl⟩ := hrel
      clear x1 y1 hmk
      by_cases hlt : (j : Int) < (n : Int)
      · have k0 : (0 : Int) ≤ (j : Int) := by omega
        have hlen : j < ms.length := by rw [unhide HN]; omega
        rcases (unhide HR).below (by exact (unhide hbl)) with e0 | ⟨g, off, rfl, hc⟩
        · exfalso; rw [e0] at hlen; simp at hlen
        obtain ⟨c0, c1, c2, c3, c4, c5⟩ := hc j hlen
        clear hc
        have hsn := hide (pB_succ ms j hlen)
        have hmo := unhide HO j (by omega)
        have hSs : (pB ms j).length ≤ 2 + j * 128 := pB_le (unhide HK) j (by omega)
        generalize ms.getD j M.zero = m at *
        obtain ⟨t0, t1, o0, o1, s0, s1, q0, q1, p0, p1, bz⟩ := ok_bounds hmo
        obtain ⟨ty, og, sq, hl, hp, body⟩ := m
        dsimp only at c0 c1 c2 c3 c4 c5 t0 t1 o0 o1 s0 s1 q0 q1 p0 p1 bz
        clear hmo
        have hbs := (unhide hbl).size
        go_wp2_with fail
        refine (appendMessage w.heap.size _ _ _ ty og sq hl hp body _ ((unhide how).alloc _) (by omega) (by simp; omega) (by omega) (by omega) (by omega) (by omega) s0 s1 q0 q1 p0 p1 bz).mono ?_
        rintro e w2 ⟨v2, rfl, own2, grow2⟩
        have hb2 := hide (((unhide hbl).alloc hbs _).grown grow2 (by simp; omega) (fun k hk => ((unhide how).lt k hk).1))
        have hon : Hid (w2.ownsRow w.heap.size 5 1 v2 (pB ms (j + 1)).length ((pB ms (j + 1)).map fun b => Value.int .u8 b.toNat)) := hide (by
          rw [cells_eq (by omega) (by omega) (by omega) (by omega) s0 s1 q0 q1 p0 p1 bz, ← List.map_append] at own2
          rw [unhide hsn]
          have e1 : (pB ms j).length + 8 + body.size = (pB ms j ++ mB ⟨ty, og, sq, hl, hp, body⟩).length := by rw [List.length_append, mB_length]; show _ = _ + (8 + body.size); omega
          rw [e1] at own2
          exact own2)
        clear c0 c1 c2 c3 c4 c5 own2 grow2
        go_wp2_with fail
        go_roundw
        case rel => exact ⟨j + 1, by omega, by go_num, hon, hb2⟩
        case measure => simp [intOf]; omega
      · obtain rfl : j = n := by omega
        have hl2 : 0 < (pB ms j).length := by simp [pB]
        obtain ⟨g9, cap9, rfl, hg9, hlt9⟩ := (unhide how).form hl2
        obtain ⟨hrd, hop⟩ := reads_of_own rfl (unhide how)
        have HRD := hide hrd
        have HOP := hide hop
        clear hrd hop
        go_wp2_with fail
        go_ret2
        exact ⟨some ⟨g9, 0, none⟩, ⟨cap9, rfl⟩, unhide hbl, unhide HRD, g9, hg9, unhide HOP⟩
end Ep
end Go.Proofs.Ytpknahhdapmcoaa
