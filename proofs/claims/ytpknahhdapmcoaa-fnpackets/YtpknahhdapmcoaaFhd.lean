/-
  What the model's heard answers, exactly: a function of the code and of how many bytes were asked.
-/
import Derived.Test.YtpknahhdapmcoaaFhe
import Derived.Test.YtpknahhdapmcoaaFtc
import Derived.Test.YtpknahhdapmcoaaFsp
import Derived.Test.YtpknahhdapmcoaaHelE
import Derived.Test.YtpknahhdapmcoaaAdvE
import Derived.Test.YtpknahhdapmcoaaEncP
namespace Go.Proofs.Ytpknahhdapmcoaa
open Go.ChangeShapes Go.WideShapes Go.ChangeAt Go.RowKit
set_option linter.unusedVariables false
set_option linter.unusedSimpArgs false
attribute [local go_sem ↓] Go.wp_at_zero Go.wp_at_succ
namespace Fd
open W1 By Fs Cn Fm Fp Ml Ep
open Sr (Wrote_trans reads_lt)
open Dw (but_refl but_trans but_wrote but_below but_alloc but_set but_own)
/-- The numbers of the bytes of a packet of one message. -/
def pN (m : M) : List Int := (pB [m] 1).map fun b => (b.toNat : Int)
def heardZ (bs : List UInt8) (n : Nat) : List Int :=
  if (msgA bs n).1 = 2 then spA bs (Ft.tcN bs (Fh.helN bs (msgN bs n))) (pN ⟨(msgA bs n).1, (msgA bs n).2.1, (msgA bs n).2.2.1, (msgA bs n).2.2.2.1 + 2, (msgA bs n).2.2.2.2.1, strOfNums (Av.tcNums (Ft.tcV bs (Fh.helN bs (msgN bs n))).1 (Ft.tcV bs (Fh.helN bs (msgN bs n))).2.1 (Ft.tcV bs (Fh.helN bs (msgN bs n))).2.2 (Ft.tcV bs (Fh.helN bs (msgN bs n))).2.2.length)⟩)
  else spA bs (Fh.helN bs (msgN bs n)) (pN ⟨(msgA bs n).1, (msgA bs n).2.1, (msgA bs n).2.2.1, (msgA bs n).2.2.2.1, (msgA bs n).2.2.2.2.1, strOfNums (Hl.helNums (Fh.helV bs (msgN bs n)).1 (Fh.helV bs (msgN bs n)).2.1 (Fh.helV bs (msgN bs n)).2.2 (Fh.helV bs (msgN bs n)).2.2.length)⟩)
theorem heard_hel {bs : List UInt8} {n : Nat} {ty og sq hl hq x y : Int} {body : ByteArray} {ms : List Nb.R} (e : (ty, og, sq, hl, hq, body) = msgA bs n) (e1 : (x, y, ms) = Fh.helV bs (msgN bs n)) (h : ¬ ty = 2) :
    heardZ bs n = spA bs (Fh.helN bs (msgN bs n)) (pN ⟨ty, og, sq, hl, hq, strOfNums (Hl.helNums x y ms ms.length)⟩) := by
  unfold heardZ; rw [← e, ← e1, if_neg h]
theorem heard_tc {bs : List UInt8} {n : Nat} {ty og sq hl hq x y : Int} {body : ByteArray} {ms : List Ed.R} (e : (ty, og, sq, hl, hq, body) = msgA bs n) (e1 : (x, y, ms) = Ft.tcV bs (Fh.helN bs (msgN bs n))) (h : ty = 2) :
    heardZ bs n = spA bs (Ft.tcN bs (Fh.helN bs (msgN bs n))) (pN ⟨ty, og, sq, hl + 2, hq, strOfNums (Av.tcNums x y ms ms.length)⟩) := by
  unfold heardZ; rw [← e, ← e1, if_pos h]
theorem hop_small {bs : List UInt8} {n : Nat} {ty og sq hl hq : Int} {body : ByteArray} (e : (ty, og, sq, hl, hq, body) = msgA bs n) : 0 ≤ hl ∧ hl ≤ 8 := by
  have h : hl = (nx bs (n + 4) 9 : Int) := congrArg (fun t : Int × Int × Int × Int × Int × ByteArray => t.2.2.2.1) e
  have := nx_lt bs (n + 4) (k := 9) (by omega)
  omega
theorem msgN_le (bs : List UInt8) (n : Nat) : msgN bs n ≤ n + 16 := by
  have := nx_lt bs (n + 6) (k := 9) (by omega)
  unfold msgN; omega
theorem helA_le (bs : List UInt8) (n : Nat) : ∀ j, (Fh.helA bs n j).2 ≤ n + 2 + 6 * j
  | 0 => by show n + 2 ≤ _; omega
  | j + 1 => by
    have h := helA_le bs n j
    rw [Fh.helA, Fh.hstep]
    split
    · split <;> (dsimp only; omega)
    · dsimp only; omega
theorem helN_le (bs : List UInt8) (n : Nat) : Fh.helN bs n ≤ n + 50 := helA_le bs n 8
theorem tcA_le (bs : List UInt8) (n : Nat) : ∀ j, (Ft.tcA bs n j).2 ≤ n + 7 + 4 * j
  | 0 => by show n + 7 ≤ _; omega
  | j + 1 => by
    have h := tcA_le bs n j
    rw [Ft.tcA, Ft.tstep]
    split <;> (dsimp only; omega)
theorem tcN_le (bs : List UInt8) (n : Nat) : Ft.tcN bs n ≤ n + 39 := tcA_le bs n 8
theorem ok_other {ty og sq hl hq hl' : Int} {body body' : ByteArray} (h : okB ty og sq hl hq body = true) (h1 : 0 ≤ hl') (h2 : hl' ≤ 255) (h3 : (body'.size : Int) ≤ 120) : pktB [⟨ty, og, sq, hl', hq, body'⟩] = true := by
  simp [okB, inB] at h
  simp [pktB, M.ok, okB, inB]
  omega
theorem pN_len (m : M) : (pN m).length = 10 + m.body.size := by
  unfold pN pB
  rw [List.length_map, List.length_append, List.take_of_length_le (by simp), List.flatMap_cons, List.flatMap_nil, List.append_nil, mB_length]
  simp; omega
theorem pN_in (m : M) : ∀ z ∈ pN m, 0 ≤ z ∧ z ≤ 255 := by
  intro z hz
  unfold pN at hz
  obtain ⟨b, _, rfl⟩ := List.mem_map.1 hz
  have := b.toNat_lt
  omega
theorem nums_pN {S : ByteArray} {m : M} (h : S.data.toList = pB [m] [m].length) : nums S = pN m := by unfold nums pN; rw [h]; rfl
/-- A message in a variable's block. -/
def MW (w : World) (b : Nat) (m : M) : Prop := w.heap[b]? = some (.cells #[.int .i64 m.ty, .int .i64 m.og, .int .i64 m.sq, .int .i64 m.hl, .int .i64 m.hp, .string m.body] 58 (0, 0))
theorem MW.cells {w : World} {b : Nat} {ty og sq hl hp : Int} {body : ByteArray} (h : MW w b ⟨ty, og, sq, hl, hp, body⟩) : w.cell? ⟨b, 0, none⟩ = some (.int .i64 ty) ∧ w.cell? ⟨b, 1, none⟩ = some (.int .i64 og) ∧ w.cell? ⟨b, 2, none⟩ = some (.int .i64 sq) ∧ w.cell? ⟨b, 3, none⟩ = some (.int .i64 hl) ∧ w.cell? ⟨b, 4, none⟩ = some (.int .i64 hp) ∧ w.cell? ⟨b, 5, none⟩ = some (.string body) := by
  unfold MW at h; refine ⟨?_, ?_, ?_, ?_, ?_, ?_⟩ <;> simp [World.cell?, h]
theorem MW.free {w : World} {b : Nat} {m : M} (h : MW w b m) (i : Nat) : w.frozen? ⟨b, i, none⟩ = false := by unfold MW at h; simp [World.frozen?, h]
theorem MW.lt {w : World} {b : Nat} {m : M} (h : MW w b m) : b < w.heap.size := lt_of_block h
theorem MW.kept {w w' : World} {b : Nat} {m : M} (h : MW w b m) (hg : w'.heap[b]? = w.heap[b]?) : MW w' b m := hg.trans h
theorem MW.body {w : World} {b : Nat} {ty og sq hl hp : Int} {body : ByteArray} (h : MW w b ⟨ty, og, sq, hl, hp, body⟩) (s : ByteArray) : MW (w.setCell ⟨b, 5, none⟩ (.string s)) b ⟨ty, og, sq, hl, hp, s⟩ := Hl.heap_set (.string s) h
theorem MW.hop {w : World} {b : Nat} {ty og sq hl hp : Int} {body : ByteArray} (h : MW w b ⟨ty, og, sq, hl, hp, body⟩) (x : Int) : MW (w.setCell ⟨b, 3, none⟩ (.int .i64 x)) b ⟨ty, og, sq, x, hp, body⟩ := Hl.heap_set (.int .i64 x) h
theorem mw_new (w : World) (m : M) : MW (w.alloc (.cells #[.int .i64 m.ty, .int .i64 m.og, .int .i64 m.sq, .int .i64 m.hl, .int .i64 m.hp, .string m.body] 58)) w.heap.size m := heap_alloc_new w _
theorem rm_one (w : World) (m : M) : RM (w.alloc (.cells #[.int .i64 m.ty, .int .i64 m.og, .int .i64 m.sq, .int .i64 m.hl, .int .i64 m.hp, .string m.body] 58)) (some ⟨w.heap.size, 0, none⟩) [m] := by
  refine .inr ⟨w.heap.size, 0, rfl, fun i hi => ?_⟩
  have h0 : i = 0 := by simpa using hi
  subst h0
  obtain ⟨ty, og, sq, hl, hp, body⟩ := m
  obtain ⟨h0, h1, h2, h3, h4, h5⟩ := (mw_new w ⟨ty, og, sq, hl, hp, body⟩).cells
  exact ⟨h0, h1, h2, h3, h4, h5⟩
set_option maxRecDepth 100000 in
set_option maxHeartbeats 8000000 in
theorem heard (p : Nat) (a : Option Addr) (bs : List UInt8) (cap n : Nat) (w : World) (hn : n ≤ 1099511400000) (hm : bs.length ≤ 1099511627776) (hs : Fr w p a bs cap n) :
    Calls Try.prog 39 #[.pointer (some ⟨p, 0, none⟩)] w fun e w' => ∃ g' c', e = .returned (.slice (some ⟨g', 0, none⟩) (heardZ bs n).length c') ∧ St w' g' (heardZ bs n) ∧ w.grownBy w' (some p) ∧ (heardZ bs n).length ≤ c' ∧ c' ≤ maxLen := by
  have hp := src_lt hs
  have RL : Hid (bs ≠ [] → ∀ g off, a = some ⟨g, off, none⟩ → g < w.heap.size) := hide (fun e0 g off e => reads_lt hs.rd e0 e)
  have HS := hide hs
  clear hs
  go_enter Try.func39, Try.ntmps39
  go_wp2_with fail
  refine (Fm.drawMessage p a bs cap n _ (by omega) hm (unhide HS)).mono ?_
  rintro e w1 ⟨ty, og, sq, hl, hq, body, hre, rfl, hok, g1, s1⟩
  have EM := hide hre
  have OK := hide hok
  obtain ⟨hl0, hl8⟩ := hop_small hre
  have hN1 := msgN_le bs n
  have hty : ty = 1 ∨ ty = 2 := by simp [okB, inB] at hok; omega
  have hp1 := src_lt s1
  have hw1 : w.heap.size ≤ w1.heap.size := g1.size
  have T1 : Hid (MW (w1.alloc (.cells #[.int .i64 ty, .int .i64 og, .int .i64 sq, .int .i64 hl, .int .i64 hq, .string body] 58)) w1.heap.size ⟨ty, og, sq, hl, hq, body⟩) := hide (mw_new w1 ⟨ty, og, sq, hl, hq, body⟩)
  have G1 := hide (but_alloc g1 (.cells #[.int .i64 ty, .int .i64 og, .int .i64 sq, .int .i64 hl, .int .i64 hq, .string body] 58))
  have S1 := hide (src_below s1 ((Below.refl _ _).alloc (Nat.le_refl _) (.cells #[.int .i64 ty, .int .i64 og, .int .i64 sq, .int .i64 hl, .int .i64 hq, .string body] 58)))
  clear hre hok g1 s1 HS
  go_wp2_with fail
  obtain ⟨B, hB⟩ : ∃ B, w1.heap.size = B := ⟨_, rfl⟩
  rw [hB] at T1 hp1 hw1 ⊢
  generalize w1.alloc (.cells #[.int .i64 ty, .int .i64 og, .int .i64 sq, .int .i64 hl, .int .i64 hq, .string body] 58) = V1 at *
  clear hB
  have hBp : B ≠ p := by omega
  have HRB : Hid (bs ≠ [] → ∀ g off, a = some ⟨g, off, none⟩ → g ≠ B) := hide (fun e0 g off e => by have := unhide RL e0 g off e; omega)
  refine (Fh.drawHello p a bs cap (msgN bs n) _ (by omega) hm (unhide S1)).mono ?_
  rintro e w2 ⟨x, y, g, ms, c, EH, rfl, hh, hlst, g2, s2⟩
  have HH := hide hh
  have h8 := Hl.hel_len hh
  have hN2 := helN_le bs (msgN bs n)
  have T2 := hide ((unhide T1).kept (g2.block B (unhide T1).lt (by simpa using hBp)))
  have G2 := hide (but_trans (unhide G1) g2)
  have S2 := hide s2
  have L2 := hide hlst
  clear hh hlst g2 s2 T1 G1 S1
  go_wp2_with fail
  refine (Hl.l04Encode x y g ms c _ (unhide HH) (unhide L2).rm).mono ?_
  rintro e w3 ⟨rfl, b3⟩
  have hsz : ((strOfNums (Hl.helNums x y ms ms.length)).size : Int) ≤ 120 := by rw [strOfNums_size]; have := Hl.helNums_len x y ms ms.length; omega
  have HSZ := hide hsz
  have T3 := hide ((unhide T2).kept (b3.block B (unhide T2).lt))
  have G3 := hide (but_trans (unhide G2) (but_below b3))
  have S3 := hide (src_below (unhide S2) b3)
  clear b3 T2 G2 S2 L2 hsz
  obtain ⟨s, hs⟩ : ∃ s, strOfNums (Hl.helNums x y ms ms.length) = s := ⟨_, rfl⟩
  have HE := hide hs
  rw [hs] at HSZ ⊢
  clear hs
  obtain ⟨x0, x1, x2, x3, x4, x5⟩ := (unhide T3).cells
  have y5 := (unhide T3).free 5
  have T4 := hide ((unhide T3).body s)
  have G4 := hide (but_set (unhide G3) hw1 5 (.string s))
  have S4 := hide (src_set (unhide S3) hBp (unhide HRB) 5 (.string s))
  have z0 := (unhide T4).cells.1
  rcases hty with rfl | rfl
  · obtain ⟨x0', x1', x2', x3', x4', x5'⟩ := (unhide T4).cells
    have hVs : (w3.setCell ⟨B, 5, none⟩ (.string s)).heap.size = w3.heap.size := by simp [World.setCell]
    go_wp2_with fail
    clear x0 x1 x2 x3 x4 x5 y5 z0 x0' x1' x2' x3' x4' x5'
    generalize w3.setCell ⟨B, 5, none⟩ (.string s) = V4 at *
    rw [← hVs]
    have hPK := hide (ok_other (body' := s) (hl' := hl) (unhide OK) (by omega) (by omega) (unhide HSZ))
    have R5 : Hid (RM (V4.alloc (.cells #[.int .i64 1, .int .i64 og, .int .i64 sq, .int .i64 hl, .int .i64 hq, .string s] 58)) (some ⟨V4.heap.size, 0, none⟩) [⟨1, og, sq, hl, hq, s⟩]) := hide (rm_one V4 ⟨1, og, sq, hl, hq, s⟩)
    have G5 := hide (but_alloc (unhide G4) (.cells #[.int .i64 1, .int .i64 og, .int .i64 sq, .int .i64 hl, .int .i64 hq, .string s] 58))
    have S5 := hide (src_below (unhide S4) ((Below.refl _ _).alloc (Nat.le_refl _) (.cells #[.int .i64 1, .int .i64 og, .int .i64 sq, .int .i64 hl, .int .i64 hq, .string s] 58)))
    have hlp := Ep.l01Packet (some ⟨V4.heap.size, 0, none⟩) [⟨1, og, sq, hl, hq, s⟩] 1 (V4.alloc (.cells #[.int .i64 1, .int .i64 og, .int .i64 sq, .int .i64 hl, .int .i64 hq, .string s] 58)) (unhide hPK) (unhide R5)
    refine hlp.mono ?_
    clear hlp
    rintro e w9 ⟨Z, rfl, hZ, b9⟩
    have G9 := hide (but_trans (unhide G5) (but_below b9))
    have S9 := hide (src_below (unhide S5) b9)
    have NZ := hide (nums_pN hZ)
    have hZs : Z.size = 10 + (s).size := by rw [← nums_len, nums_pN hZ, pN_len]
    have hZ1 : (Z.size : Int) ≤ 130 := by have := unhide HSZ; omega
    have hZ2 : 2 ≤ Z.size := by omega
    have hconv := Lib.run_convert_string_bytes (P := Try.prog) w9 9 22 5 Z Try.underlying9 Try.underlying22 Try.underlying5
    have CV := hide (cv_new w9 Z (by omega))
    have hp9 := src_lt (unhide S9)
    have G10 := hide (but_trans (unhide G9) (but_below (Ep.below_bytes w9 5 Z)))
    have S10 := hide (src_below (unhide S9) (Ep.below_bytes w9 5 Z))
    have hsp := hide (spoilt p a bs cap (Fh.helN bs (msgN bs n)) w (Lib.bytesWorld w9 5 Z) w9.heap.size (grownCap w9 Z.size 0 5) (nums Z) (by rw [nums_len]; omega) (by rw [nums_len]; omega) (nums_in Z) (by omega) hm (unhide S10) (unhide CV) (by omega) (unhide G10) (unhide G9).size)
    rw [nums_len] at hsp
    clear hZ b9 hZs hZ1 hZ2
    go_wp2_with fail
    refine (unhide hsp).mono ?_
    rintro e w11 ⟨gg, cc, rfl, hst, g11, hc11⟩
    have HC11 := hide hc11
    clear hc11
    rw [unhide NZ] at hst HC11 ⊢
    have HST := hide hst
    have G11 := hide g11
    clear hst g11 hconv
    go_wp2_with fail
    go_ret
    have he : heardZ bs n = spA bs (Fh.helN bs (msgN bs n)) (pN ⟨1, og, sq, hl, hq, s⟩) := by rw [heard_hel (unhide EM) (unhide EH) (by omega), unhide HE]
    rw [he]
    exact ⟨gg, cc, rfl, unhide HST, unhide G11, unhide HC11⟩
  · go_wp2_with fail
    clear x0 x1 x2 x3 x4 x5 y5 z0
    generalize w3.setCell ⟨B, 5, none⟩ (.string s) = V4 at *
    refine (Ft.drawTc p a bs cap (Fh.helN bs (msgN bs n)) _ (by omega) hm (unhide S4)).mono ?_
    rintro e w5 ⟨x', y', g', ms', c', ET, rfl, hh, hlst, g5, s5⟩
    have HT := hide hh
    have h8' := Av.tc_len hh
    have hN3 := tcN_le bs (Fh.helN bs (msgN bs n))
    have T5 := hide ((unhide T4).kept (g5.block B (unhide T4).lt (by simpa using hBp)))
    have G5 := hide (but_trans (unhide G4) g5)
    have S5 := hide s5
    have L5 := hide hlst
    clear hh hlst g5 s5 T4 G4 S4
    go_wp2_with fail
    refine (Av.l05Encode x' y' g' ms' c' _ (unhide HT) (unhide L5).rm).mono ?_
    rintro e w6 ⟨rfl, b6⟩
    have hsz : ((strOfNums (Av.tcNums x' y' ms' ms'.length)).size : Int) ≤ 120 := by rw [strOfNums_size]; have := Av.tcNums_len x' y' ms' ms'.length; omega
    have HSZ' := hide hsz
    have T6 := hide ((unhide T5).kept (b6.block B (unhide T5).lt))
    have G6 := hide (but_trans (unhide G5) (but_below b6))
    have S6 := hide (src_below (unhide S5) b6)
    clear b6 T5 G5 S5 L5 hsz
    obtain ⟨t, ht⟩ : ∃ t, strOfNums (Av.tcNums x' y' ms' ms'.length) = t := ⟨_, rfl⟩
    have HE' := hide ht
    rw [ht] at HSZ' ⊢
    clear ht
    obtain ⟨x0, x1, x2, x3, x4, x5⟩ := (unhide T6).cells
    have y5 := (unhide T6).free 5
    have y3 := (unhide T6).free 3
    have T7 := hide (((unhide T6).body t).hop (hl + 2))
    have G7 := hide (but_set (but_set (unhide G6) hw1 5 (.string t)) hw1 3 (.int .i64 (hl + 2)))
    have S7 := hide (src_set (src_set (unhide S6) hBp (unhide HRB) 5 (.string t)) hBp (unhide HRB) 3 (.int .i64 (hl + 2)))
    have whl : IntKind.i64.wrap (hl + 2) = hl + 2 := by rw [IntKind.wrap_i64]; omega
    have z3 := ((unhide T6).body t).cells.2.2.2.1
    have f3 := ((unhide T6).body t).free 3
    obtain ⟨x0', x1', x2', x3', x4', x5'⟩ := (unhide T7).cells
    have hVs : ((w6.setCell ⟨B, 5, none⟩ (.string t)).setCell ⟨B, 3, none⟩ (.int .i64 (hl + 2))).heap.size = w6.heap.size := by simp [World.setCell]
    go_wp2_with fail
    clear x0 x1 x2 x3 x4 x5 y5 y3 z3 f3 x0' x1' x2' x3' x4' x5'
    generalize (w6.setCell ⟨B, 5, none⟩ (.string t)).setCell ⟨B, 3, none⟩ (.int .i64 (hl + 2)) = V4 at *
    rw [← hVs]
    have hPK := hide (ok_other (body' := t) (hl' := (hl + 2)) (unhide OK) (by omega) (by omega) (unhide HSZ'))
    have R5 : Hid (RM (V4.alloc (.cells #[.int .i64 2, .int .i64 og, .int .i64 sq, .int .i64 (hl + 2), .int .i64 hq, .string t] 58)) (some ⟨V4.heap.size, 0, none⟩) [⟨2, og, sq, (hl + 2), hq, t⟩]) := hide (rm_one V4 ⟨2, og, sq, (hl + 2), hq, t⟩)
    have G5 := hide (but_alloc (unhide G7) (.cells #[.int .i64 2, .int .i64 og, .int .i64 sq, .int .i64 (hl + 2), .int .i64 hq, .string t] 58))
    have S5 := hide (src_below (unhide S7) ((Below.refl _ _).alloc (Nat.le_refl _) (.cells #[.int .i64 2, .int .i64 og, .int .i64 sq, .int .i64 (hl + 2), .int .i64 hq, .string t] 58)))
    have hlp := Ep.l01Packet (some ⟨V4.heap.size, 0, none⟩) [⟨2, og, sq, (hl + 2), hq, t⟩] 1 (V4.alloc (.cells #[.int .i64 2, .int .i64 og, .int .i64 sq, .int .i64 (hl + 2), .int .i64 hq, .string t] 58)) (unhide hPK) (unhide R5)
    refine hlp.mono ?_
    clear hlp
    rintro e w9 ⟨Z, rfl, hZ, b9⟩
    have G9 := hide (but_trans (unhide G5) (but_below b9))
    have S9 := hide (src_below (unhide S5) b9)
    have NZ := hide (nums_pN hZ)
    have hZs : Z.size = 10 + (t).size := by rw [← nums_len, nums_pN hZ, pN_len]
    have hZ1 : (Z.size : Int) ≤ 130 := by have := unhide HSZ'; omega
    have hZ2 : 2 ≤ Z.size := by omega
    have hconv := Lib.run_convert_string_bytes (P := Try.prog) w9 9 22 5 Z Try.underlying9 Try.underlying22 Try.underlying5
    have CV := hide (cv_new w9 Z (by omega))
    have hp9 := src_lt (unhide S9)
    have G10 := hide (but_trans (unhide G9) (but_below (Ep.below_bytes w9 5 Z)))
    have S10 := hide (src_below (unhide S9) (Ep.below_bytes w9 5 Z))
    have hsp := hide (spoilt p a bs cap (Ft.tcN bs (Fh.helN bs (msgN bs n))) w (Lib.bytesWorld w9 5 Z) w9.heap.size (grownCap w9 Z.size 0 5) (nums Z) (by rw [nums_len]; omega) (by rw [nums_len]; omega) (nums_in Z) (by omega) hm (unhide S10) (unhide CV) (by omega) (unhide G10) (unhide G9).size)
    rw [nums_len] at hsp
    clear hZ b9 hZs hZ1 hZ2
    go_wp2_with fail
    refine (unhide hsp).mono ?_
    rintro e w11 ⟨gg, cc, rfl, hst, g11, hc11⟩
    have HC11 := hide hc11
    clear hc11
    rw [unhide NZ] at hst HC11 ⊢
    have HST := hide hst
    have G11 := hide g11
    clear hst g11 hconv
    go_wp2_with fail
    go_ret
    have he : heardZ bs n = spA bs (Ft.tcN bs (Fh.helN bs (msgN bs n))) (pN ⟨2, og, sq, (hl + 2), hq, t⟩) := by rw [heard_tc (unhide EM) (unhide ET) rfl, unhide HE']
    rw [he]
    exact ⟨gg, cc, rfl, unhide HST, unhide G11, unhide HC11⟩
/-- The bytes that HeardOf answers. -/
def heardB (bs : List UInt8) : List UInt8 := (heardZ bs 0).map fun z => UInt8.ofNat z.toNat
theorem heard_in (bs : List UInt8) (n : Nat) : ∀ z ∈ heardZ bs n, 0 ≤ z ∧ z ≤ 255 := by
  unfold heardZ
  split
  · exact sp_in (pN_in _)
  · exact sp_in (pN_in _)
theorem reads_heard {w : World} {g : Nat} {zs : List Int} (h : St w g zs) (hz : ∀ z ∈ zs, 0 ≤ z ∧ z ≤ 255) : Reads w (some ⟨g, 0, none⟩) (zs.map fun z => UInt8.ofNat z.toNat) := by
  refine .inr ⟨g, 0, rfl, fun i hi => ?_⟩
  rw [List.length_map] at hi
  have hb := hz _ (List.getElem_mem hi)
  rw [h i hi, List.getD_eq_getElem?_getD, List.getD_eq_getElem?_getD, List.getElem?_map, List.getElem?_eq_getElem hi]
  show some (Value.int .u8 zs[i]) = some (Value.int .u8 ((UInt8.ofNat zs[i].toNat).toNat : Int))
  rw [Ep.u8n hb.1 hb.2]
set_option maxRecDepth 100000 in
set_option maxHeartbeats 1000000 in
theorem heardOf (a : Option Addr) (bs : List UInt8) (cap : Nat) (w : World) (hm : bs.length ≤ 1048576) (hr : Reads w a bs) :
    Calls Try.prog 14 #[.slice a bs.length cap] w fun e w' => ∃ g' c', e = .returned (.slice (some ⟨g', 0, none⟩) (heardB bs).length c') ∧ Reads w' (some ⟨g', 0, none⟩) (heardB bs) ∧ Below w.heap.size w w' ∧ (heardB bs).length ≤ c' ∧ c' ≤ maxLen := by
  have HR := hide hr
  clear hr
  go_enter Try.func14, Try.ntmps14
  go_wp2_with fail
  refine (Fs.source a bs cap _ hm (unhide HR)).mono ?_
  rintro e w1 ⟨p, rfl, hp, b1, s1⟩
  have B1 := hide b1
  have S1 := hide s1
  clear b1 s1
  go_wp2_with fail
  refine (heard p a bs cap 0 w1 (by omega) (by omega) (unhide S1)).mono ?_
  rintro e w2 ⟨g, c, rfl, hst, g2, hc⟩
  have HST := hide hst
  have HC := hide hc
  have D2 : Hid (Below w.heap.size w w2) := hide ((unhide B1).grown g2 (unhide B1).size (fun k hk => by cases hk; omega))
  clear hst g2 hc
  go_wp2_with fail
  go_ret
  have hl : (heardB bs).length = (heardZ bs 0).length := by unfold heardB; rw [List.length_map]
  rw [hl]
  exact ⟨g, c, rfl, reads_heard (unhide HST) (heard_in bs 0), unhide D2, unhide HC⟩
end Fd
end Go.Proofs.Ytpknahhdapmcoaa
