/-
  The model's source of choices, exactly: its state is the number of bytes asked of it; what byte, next and the small draws answer is a function of the code and that number.
-/
import Derived.Test.YtpknahhdapmcoaaDrw
namespace Go.Proofs.Ytpknahhdapmcoaa
open Go.ChangeShapes Go.WideShapes Go.ChangeAt Go.RowKit
set_option linter.unusedVariables false
set_option linter.unusedSimpArgs false
attribute [local go_sem ↓] Go.wp_at_zero Go.wp_at_succ
namespace Fs
open W1 By Sr Dw
/-- The seed when j bytes were asked. -/
def seedA (bs : List UInt8) : Nat → Int
  | 0 => (bs.length : Int) % 1000
  | j + 1 => if j < bs.length then (seedA bs j * 31 + fldN bs j + 7) % 2147483648 else if 3000 < j + 1 then seedA bs j else (seedA bs j * 1103515245 + 12345) % 2147483648
/-- The byte that is asked when j were. -/
def byteA (bs : List UInt8) (j : Nat) : Int := if j < bs.length then fldN bs j else if 3000 < j + 1 then 0 else (seedA bs j * 1103515245 + 12345) % 2147483648 / 65536 % 256
theorem seed_in (bs : List UInt8) : ∀ j, 0 ≤ seedA bs j ∧ seedA bs j < 2147483648
  | 0 => by show 0 ≤ (bs.length : Int) % 1000 ∧ (bs.length : Int) % 1000 < 2147483648; omega
  | j + 1 => by
    have h := seed_in bs j
    unfold seedA
    split
    · omega
    · split <;> omega
theorem byte_lim (bs : List UInt8) (j : Nat) : 0 ≤ byteA bs j ∧ byteA bs j ≤ 255 := by
  have h0 := fldN_lo bs j
  have h1 := fldN_hi bs j
  unfold byteA
  split
  · omega
  · split <;> omega
theorem byte_in {bs : List UInt8} {j : Nat} (h : j < bs.length) : byteA bs j = fldN bs j := by unfold byteA; rw [if_pos h]
theorem byte_end {bs : List UInt8} {j : Nat} (h : ¬ j < bs.length) (h' : 3000 < j + 1) : byteA bs j = 0 := by unfold byteA; rw [if_neg h, if_pos h']
theorem byte_mid {bs : List UInt8} {j : Nat} (h : ¬ j < bs.length) (h' : ¬ 3000 < j + 1) : byteA bs j = (seedA bs j * 1103515245 + 12345) % 2147483648 / 65536 % 256 := by unfold byteA; rw [if_neg h, if_neg h']
theorem seed_inn {bs : List UInt8} {j : Nat} (h : j < bs.length) : seedA bs (j + 1) = (seedA bs j * 31 + fldN bs j + 7) % 2147483648 := by rw [seedA, if_pos h]
theorem seed_end {bs : List UInt8} {j : Nat} (h : ¬ j < bs.length) (h' : 3000 < j + 1) : seedA bs (j + 1) = seedA bs j := by rw [seedA, if_neg h, if_pos h']
theorem seed_mid {bs : List UInt8} {j : Nat} (h : ¬ j < bs.length) (h' : ¬ 3000 < j + 1) : seedA bs (j + 1) = (seedA bs j * 1103515245 + 12345) % 2147483648 := by rw [seedA, if_neg h, if_neg h']
/-- Block p is a source over the bytes bs, of which n bytes were asked. -/
structure Fr (w : World) (p : Nat) (a : Option Addr) (bs : List UInt8) (cap n : Nat) : Prop where
  at1 : w.cell? ⟨p, 1, none⟩ = some (.int .i64 (n : Int))
  at2 : w.cell? ⟨p, 2, none⟩ = some (.int .i64 (seedA bs n))
  code : w.cell? ⟨p, 0, none⟩ = some (.slice a bs.length cap)
  fz : ∀ o, w.frozen? ⟨p, o, none⟩ = false
  rd : Reads w a bs
  ne : bs ≠ [] → ∀ g off, a = some ⟨g, off, none⟩ → g ≠ p
theorem Fr.set {w : World} {p : Nat} {a : Option Addr} {bs : List UInt8} {cap n : Nat} (h : Fr w p a bs cap n) {w' : World} {m : Nat}
    (h1 : w'.cell? ⟨p, 1, none⟩ = some (.int .i64 (m : Int))) (h2 : w'.cell? ⟨p, 2, none⟩ = some (.int .i64 (seedA bs m))) (h0 : w'.cell? ⟨p, 0, none⟩ = w.cell? ⟨p, 0, none⟩)
    (hw : Wrote w w' p) : Fr w' p a bs cap m :=
  ⟨h1, h2, by rw [h0]; exact h.code, fun o => by rw [hw.frozen]; exact h.fz o, reads_of_cells h.rd (fun e0 g off o e => hw.cell (h.ne e0 g off e) o), h.ne⟩
theorem src_lt {w : World} {p : Nat} {a : Option Addr} {bs : List UInt8} {cap n : Nat} (h : Fr w p a bs cap n) : p < w.heap.size := World.block_lt_of_cell? _ _ h.code
theorem src_blocks {w w' : World} {p : Nat} {a : Option Addr} {bs : List UInt8} {cap n : Nat} (h : Fr w p a bs cap n) (hp : w'.heap[p]? = w.heap[p]?) (hg : bs ≠ [] → ∀ g off, a = some ⟨g, off, none⟩ → w'.heap[g]? = w.heap[g]?) : Fr w' p a bs cap n :=
  ⟨(World.cell?_of_block (a := ⟨p, 1, none⟩) hp).trans h.at1, (World.cell?_of_block (a := ⟨p, 2, none⟩) hp).trans h.at2, (World.cell?_of_block (a := ⟨p, 0, none⟩) hp).trans h.code, fun o => (World.frozen?_of_block (a := ⟨p, o, none⟩) hp).trans (h.fz o),
    reads_of_cells h.rd (fun e0 g off o e => World.cell?_of_block (a := ⟨g, o, none⟩) (hg e0 g off e)), h.ne⟩
theorem src_below {w w' : World} {p : Nat} {a : Option Addr} {bs : List UInt8} {cap n : Nat} (h : Fr w p a bs cap n) (hb : Below w.heap.size w w') : Fr w' p a bs cap n :=
  src_blocks h (hb.block p (src_lt h)) (fun e0 g off e => hb.block g (reads_lt h.rd e0 e))
theorem src_grown {w w' : World} {p : Nat} {a : Option Addr} {bs : List UInt8} {cap n : Nat} {r : Option Nat} (h : Fr w p a bs cap n) (hg : w.grownBy w' r) (hp : some p ≠ r) (hr : bs ≠ [] → ∀ g off, a = some ⟨g, off, none⟩ → some g ≠ r) : Fr w' p a bs cap n :=
  src_blocks h (hg.block p (src_lt h) hp) (fun e0 g off e => hg.block g (reads_lt h.rd e0 e) (hr e0 g off e))
set_option maxHeartbeats 2000000 in
theorem byte (p : Nat) (a : Option Addr) (bs : List UInt8) (cap n : Nat) (w : World) (hn : n ≤ 1099511627776) (hm : bs.length ≤ 1099511627776) (hs : Fr w p a bs cap n) :
    Calls Try.prog 78 #[.pointer (some ⟨p, 0, none⟩)] w fun e w' => e = .returned (.int .i64 (byteA bs n)) ∧ Wrote w w' p ∧ Fr w' p a bs cap (n + 1) := by
  obtain ⟨i, s, HI, HSD, i0, i1, s0, s1, c1, c2⟩ : ∃ i s : Int, Hid (i = n) ∧ Hid (s = seedA bs n) ∧ 0 ≤ i ∧ i ≤ n ∧ 0 ≤ s ∧ s < 2147483648 ∧ w.cell? ⟨p, 1, none⟩ = some (.int .i64 i) ∧ w.cell? ⟨p, 2, none⟩ = some (.int .i64 s) := ⟨_, _, hide rfl, hide rfl, by omega, by omega, (seed_in bs n).1, (seed_in bs n).2, hs.at1, hs.at2⟩
  have c0 := hs.code
  have f1 := hs.fz 1
  have f2 := hs.fz 2
  have HS := hide hs
  have hrd := hs.rd
  have hne := hs.ne
  clear hs
  by_cases hlt : i + 1 ≤ (bs.length : Int)
  · obtain ⟨k, rfl⟩ := Int.eq_ofNat_of_zero_le i0
    rcases hrd with e0 | ⟨g, off, rfl, hc⟩
    · exfalso; rw [e0] at hlt; simp at hlt; omega
    have hk : k < bs.length := by omega
    have cg : w.cell? ⟨g, off + k, none⟩ = some (.int .u8 (fldN bs k)) := hc k hk
    have hgp : ¬ g = p := hne (by intro e0; rw [e0] at hk; simp at hk) g off rfl
    have v0 := fldN_lo bs k
    have v1 := fldN_hi bs k
    obtain ⟨v, hv⟩ : ∃ v, fldN bs k = v := ⟨_, rfl⟩
    rw [hv] at cg v0 v1
    have HV := hide hv
    clear hv
    clear hc hne
    obtain ⟨len, hL⟩ : ∃ len, bs.length = len := ⟨_, rfl⟩
    have HKL := hide hk
    rw [hL] at hlt hk c0 hm
    have HL := hide hL
    clear hL
    have k0 : (0 : Int) ≤ (k : Int) := by omega
    have k1 : (k : Int) < (len : Int) := by omega
    go_enter Try.func78, Try.ntmps78
    go_wp2_with fail
    have d0 : (w.setCell ⟨p, 1, none⟩ (.int .i64 ((k : Int) + 1))).cell? ⟨p, 0, none⟩ = some (.slice (some ⟨g, off, none⟩) len cap) := by rw [World.cell?_setCell_other _ _ _ _ (by simp)]; exact c0
    have d1 : (w.setCell ⟨p, 1, none⟩ (.int .i64 ((k : Int) + 1))).cell? ⟨p, 1, none⟩ = some (.int .i64 ((k : Int) + 1)) := World.cell?_setCell_same _ _ _ c1
    have d2 : (w.setCell ⟨p, 1, none⟩ (.int .i64 ((k : Int) + 1))).cell? ⟨p, 2, none⟩ = some (.int .i64 s) := by rw [World.cell?_setCell_other _ _ _ _ (by simp)]; exact c2
    have dg : (w.setCell ⟨p, 1, none⟩ (.int .i64 ((k : Int) + 1))).cell? ⟨g, off + k, none⟩ = some (.int .u8 v) := by rw [World.cell?_setCell_other _ _ _ _ (by simp [hgp])]; exact cg
    have hf2 : (w.setCell ⟨p, 1, none⟩ (.int .i64 ((k : Int) + 1))).frozen? ⟨p, 2, none⟩ = false := by rw [World.frozen?_setCell]; exact f2
    have hW : Hid (Wrote w (w.setCell ⟨p, 1, none⟩ (.int .i64 ((k : Int) + 1))) p) := hide ((Wrote.refl w p).set 1 _)
    clear c0 c1 c2 cg f1 f2
    generalize w.setCell ⟨p, 1, none⟩ (.int .i64 ((k : Int) + 1)) = u at *
    have hw1 : IntKind.i64.wrap (s * 31) = s * 31 := wrapI (by omega) (by omega)
    have hw2 : IntKind.i64.wrap (k : Int) = (k : Int) := wrapI (by omega) (by omega)
    have hw3 : IntKind.i64.wrap v = v := wrapI (by omega) (by omega)
    have hw4 : IntKind.i64.wrap (s * 31 + v) = s * 31 + v := wrapI (by omega) (by omega)
    have hw5 : IntKind.i64.wrap (s * 31 + v + 7) = s * 31 + v + 7 := wrapI (by omega) (by omega)
    have htm : (s * 31 + v + 7).tmod 2147483648 = (s * 31 + v + 7) % 2147483648 := Int.tmod_eq_emod_of_nonneg (by omega)
    go_region
    go_wp2_with fail
    have e0 : (u.setCell ⟨p, 2, none⟩ (.int .i64 ((s * 31 + v + 7) % 2147483648))).cell? ⟨p, 0, none⟩ = some (.slice (some ⟨g, off, none⟩) len cap) := by rw [World.cell?_setCell_other _ _ _ _ (by simp)]; exact d0
    have e1 : (u.setCell ⟨p, 2, none⟩ (.int .i64 ((s * 31 + v + 7) % 2147483648))).cell? ⟨p, 1, none⟩ = some (.int .i64 ((k : Int) + 1)) := by rw [World.cell?_setCell_other _ _ _ _ (by simp)]; exact d1
    have e2 : (u.setCell ⟨p, 2, none⟩ (.int .i64 ((s * 31 + v + 7) % 2147483648))).cell? ⟨p, 2, none⟩ = some (.int .i64 ((s * 31 + v + 7) % 2147483648)) := World.cell?_setCell_same _ _ _ d2
    have eg : (u.setCell ⟨p, 2, none⟩ (.int .i64 ((s * 31 + v + 7) % 2147483648))).cell? ⟨g, off + k, none⟩ = some (.int .u8 v) := by rw [World.cell?_setCell_other _ _ _ _ (by simp [hgp])]; exact dg
    have hW2 : Hid (Wrote w (u.setCell ⟨p, 2, none⟩ (.int .i64 ((s * 31 + v + 7) % 2147483648))) p) := hide ((unhide hW).set 2 _)
    go_region
    go_wp2_with fail
    clear d0 d1 d2 dg hf2 hW
    generalize u.setCell ⟨p, 2, none⟩ (.int .i64 ((s * 31 + v + 7) % 2147483648)) = u2 at *
    go_region
    go_wp2_with fail
    go_ret
    have hs' := unhide HS
    obtain rfl : k = n := by have := unhide HI; omega
    refine ⟨ret_int ((unhide HV).symm.trans (byte_in (unhide HKL)).symm), (unhide hW2).drew.drew.drew, hs'.set (m := k + 1) ?_ ?_ (by rw [hs'.code, unhide HL]; exact e0) (unhide hW2).drew.drew.drew⟩
    · exact e1
    · rw [seed_inn (unhide HKL), unhide HV, ← unhide HSD]; exact e2
  · obtain ⟨len, hL⟩ : ∃ len, bs.length = len := ⟨_, rfl⟩
    have hge : ¬ n < bs.length := by have := unhide HI; omega
    have HGE := hide hge
    clear hge
    rw [hL] at hlt c0 hm
    have HL := hide hL
    clear hL
    have d0 : (w.setCell ⟨p, 1, none⟩ (.int .i64 (i + 1))).cell? ⟨p, 0, none⟩ = some (.slice a len cap) := by rw [World.cell?_setCell_other _ _ _ _ (by simp)]; exact c0
    have d1 : (w.setCell ⟨p, 1, none⟩ (.int .i64 (i + 1))).cell? ⟨p, 1, none⟩ = some (.int .i64 (i + 1)) := World.cell?_setCell_same _ _ _ c1
    have d2 : (w.setCell ⟨p, 1, none⟩ (.int .i64 (i + 1))).cell? ⟨p, 2, none⟩ = some (.int .i64 s) := by rw [World.cell?_setCell_other _ _ _ _ (by simp)]; exact c2
    have hf2 : (w.setCell ⟨p, 1, none⟩ (.int .i64 (i + 1))).frozen? ⟨p, 2, none⟩ = false := by rw [World.frozen?_setCell]; exact f2
    have hW : Hid (Wrote w (w.setCell ⟨p, 1, none⟩ (.int .i64 (i + 1))) p) := hide ((Wrote.refl w p).set 1 _)
    clear hrd hne
    go_enter Try.func78, Try.ntmps78
    go_wp2_with fail
    clear c0 c1 c2 f1 f2
    generalize w.setCell ⟨p, 1, none⟩ (.int .i64 (i + 1)) = u at *
    go_region
    by_cases h3 : 3000 < i + 1
    · go_wp2_with fail
      go_ret
      have hs' := unhide HS
      have hn3 : 3000 < n + 1 := by have := unhide HI; omega
      refine ⟨ret_int (byte_end (unhide HGE) hn3).symm, (unhide hW).drew, hs'.set (m := n + 1) ?_ ?_ (by rw [hs'.code, unhide HL]; exact d0) (unhide hW).drew⟩
      · rw [show ((n + 1 : Nat) : Int) = i + 1 by have := unhide HI; omega]; exact d1
      · rw [seed_end (unhide HGE) hn3, ← unhide HSD]; exact d2
    · have hw1 : IntKind.i64.wrap (s * 1103515245) = s * 1103515245 := wrapI (by omega) (by omega)
      have hw2 : IntKind.i64.wrap (s * 1103515245 + 12345) = s * 1103515245 + 12345 := wrapI (by omega) (by omega)
      have htm : (s * 1103515245 + 12345).tmod 2147483648 = (s * 1103515245 + 12345) % 2147483648 := Int.tmod_eq_emod_of_nonneg (by omega)
      go_wp2_with fail
      go_ret
      have hs' := unhide HS
      have e0 : (u.setCell ⟨p, 2, none⟩ (.int .i64 ((s * 1103515245 + 12345) % 2147483648))).cell? ⟨p, 0, none⟩ = some (.slice a len cap) := by rw [World.cell?_setCell_other _ _ _ _ (by simp)]; exact d0
      have e1 : (u.setCell ⟨p, 2, none⟩ (.int .i64 ((s * 1103515245 + 12345) % 2147483648))).cell? ⟨p, 1, none⟩ = some (.int .i64 (i + 1)) := by rw [World.cell?_setCell_other _ _ _ _ (by simp)]; exact d1
      have e2 : (u.setCell ⟨p, 2, none⟩ (.int .i64 ((s * 1103515245 + 12345) % 2147483648))).cell? ⟨p, 2, none⟩ = some (.int .i64 ((s * 1103515245 + 12345) % 2147483648)) := World.cell?_setCell_same _ _ _ d2
      have hW2 := ((unhide hW).set 2 (.int .i64 ((s * 1103515245 + 12345) % 2147483648))).drew
      have hn3 : ¬ 3000 < n + 1 := by have := unhide HI; omega
      refine ⟨ret_int (by rw [byte_mid (unhide HGE) hn3, ← unhide HSD]), hW2, hs'.set (m := n + 1) ?_ ?_ (by rw [hs'.code, unhide HL]; exact e0) hW2⟩
      · rw [show ((n + 1 : Nat) : Int) = i + 1 by have := unhide HI; omega]; exact e1
      · rw [seed_mid (unhide HGE) hn3, ← unhide HSD]; exact e2
/-- What next(k) answers, k at most 256, when n bytes were asked. -/
def nx (bs : List UInt8) (n k : Nat) : Nat := (byteA bs n % k).toNat
theorem nx_lt (bs : List UInt8) (n : Nat) {k : Nat} (h : 0 < k) : nx bs n k < k := by
  have h0 := Int.emod_nonneg (byteA bs n) (show (k : Int) ≠ 0 by omega)
  have h1 := Int.emod_lt_of_pos (byteA bs n) (show (0 : Int) < k by omega)
  unfold nx; omega
theorem nx_eq (bs : List UInt8) (n : Nat) {k : Nat} (h : 0 < k) : byteA bs n % k = (nx bs n k : Int) := by
  have h0 := Int.emod_nonneg (byteA bs n) (show (k : Int) ≠ 0 by omega)
  unfold nx; omega
/-- What next(k) answers, k more than 256. -/
def nx3 (bs : List UInt8) (n k : Nat) : Nat := ((byteA bs n * 65536 + byteA bs (n + 1) * 256 + byteA bs (n + 1 + 1)) % k).toNat
theorem nx3_lt (bs : List UInt8) (n : Nat) {k : Nat} (h : 0 < k) : nx3 bs n k < k := by
  have h0 := Int.emod_nonneg (byteA bs n * 65536 + byteA bs (n + 1) * 256 + byteA bs (n + 1 + 1)) (show (k : Int) ≠ 0 by omega)
  have h1 := Int.emod_lt_of_pos (byteA bs n * 65536 + byteA bs (n + 1) * 256 + byteA bs (n + 1 + 1)) (show (0 : Int) < k by omega)
  unfold nx3; omega
theorem nx3_eq (bs : List UInt8) (n : Nat) {k : Nat} (h : 0 < k) : (byteA bs n * 65536 + byteA bs (n + 1) * 256 + byteA bs (n + 1 + 1)) % k = (nx3 bs n k : Int) := by
  have h0 := Int.emod_nonneg (byteA bs n * 65536 + byteA bs (n + 1) * 256 + byteA bs (n + 1 + 1)) (show (k : Int) ≠ 0 by omega)
  unfold nx3; omega
set_option maxHeartbeats 1000000 in
theorem next (p : Nat) (a : Option Addr) (bs : List UInt8) (cap n k : Nat) (w : World) (hk0 : 2 ≤ k) (hk1 : k ≤ 256) (hn : n ≤ 1099511627000) (hm : bs.length ≤ 1099511627776) (hs : Fr w p a bs cap n) :
    Calls Try.prog 59 #[.pointer (some ⟨p, 0, none⟩), .int .i64 k] w fun e w' => ∃ r : Nat, r = nx bs n k ∧ e = .returned (.int .i64 r) ∧ r < k ∧ Wrote w w' p ∧ Fr w' p a bs cap (n + 1) := by
  have HS := hide hs
  clear hs
  go_enter Try.func59, Try.ntmps59
  go_wp2_with fail
  refine (byte p a bs cap n _ (by omega) hm (by exact unhide HS)).mono ?_
  rintro e w1 ⟨rfl, W1, S1⟩
  have HW := hide W1
  have HS1 := hide S1
  obtain ⟨r0, r1⟩ := byte_lim bs n
  have HE := hide (nx_eq bs n (show 0 < k by omega))
  clear W1 S1
  generalize byteA bs n = r at *
  go_wp2_with fail
  go_ret
  exact ⟨_, rfl, ret_int (unhide HE), nx_lt bs n (by omega), unhide HW, unhide HS1⟩
set_option maxHeartbeats 1000000 in
theorem next3 (p : Nat) (a : Option Addr) (bs : List UInt8) (cap n k : Nat) (w : World) (hk0 : 257 ≤ k) (hk1 : k ≤ 16777216) (hn : n ≤ 1099511627000) (hm : bs.length ≤ 1099511627776) (hs : Fr w p a bs cap n) :
    Calls Try.prog 59 #[.pointer (some ⟨p, 0, none⟩), .int .i64 k] w fun e w' => ∃ r : Nat, r = nx3 bs n k ∧ e = .returned (.int .i64 r) ∧ r < k ∧ Wrote w w' p ∧ Fr w' p a bs cap (n + 1 + 1 + 1) := by
  have HS := hide hs
  clear hs
  go_enter Try.func59, Try.ntmps59
  go_wp2_with fail
  refine (byte p a bs cap n _ (by omega) hm (by exact unhide HS)).mono ?_
  rintro e w1 ⟨rfl, W1, S1⟩
  have HW := hide W1
  have HS1 := hide S1
  clear W1 S1
  obtain ⟨r0, r1⟩ := byte_lim bs n
  obtain ⟨r, hr⟩ : ∃ r, byteA bs n = r := ⟨_, rfl⟩
  rw [hr] at r0 r1 ⊢
  have HR := hide hr
  clear hr
  go_wp2_with fail
  refine (byte p a bs cap (n + 1) _ (by omega) hm (by exact unhide HS1)).mono ?_
  rintro e w2 ⟨rfl, W2, S2⟩
  have HW2 := hide (Wrote_trans (unhide HW) W2)
  have HS2 := hide S2
  clear W2 S2
  obtain ⟨r0', r1'⟩ := byte_lim bs (n + 1)
  obtain ⟨r', hr⟩ : ∃ r, byteA bs (n + 1) = r := ⟨_, rfl⟩
  rw [hr] at r0' r1' ⊢
  have HR' := hide hr
  clear hr
  go_wp2_with fail
  refine (byte p a bs cap (n + 1 + 1) _ (by omega) hm (by exact unhide HS2)).mono ?_
  rintro e w3 ⟨rfl, W3, S3⟩
  have HW3 := hide (Wrote_trans (unhide HW2) W3)
  have HS3 := hide S3
  clear W3 S3
  obtain ⟨r0'', r1''⟩ := byte_lim bs (n + 1 + 1)
  obtain ⟨r'', hr⟩ : ∃ r, byteA bs (n + 1 + 1) = r := ⟨_, rfl⟩
  rw [hr] at r0'' r1'' ⊢
  have HR'' := hide hr
  clear hr
  go_wp2_with fail
  go_ret
  have he := nx3_eq bs n (show 0 < k by omega)
  rw [unhide HR, unhide HR', unhide HR''] at he
  exact ⟨_, rfl, ret_int he, nx3_lt bs n (by omega), unhide HW3, unhide HS3⟩
theorem addr (p : Nat) (a : Option Addr) (bs : List UInt8) (cap n : Nat) (w : World) (hn : n ≤ 1099511627000) (hm : bs.length ≤ 1099511627776) (hs : Fr w p a bs cap n) :
    Calls Try.prog 79 #[.pointer (some ⟨p, 0, none⟩)] w fun e w' => ∃ r : Nat, r = 1 + nx bs n 8 ∧ e = .returned (.int .i64 r) ∧ 1 ≤ r ∧ r ≤ 8 ∧ Wrote w w' p ∧ Fr w' p a bs cap (n + 1) := by
  have HS := hide hs
  clear hs
  go_enter Try.func79, Try.ntmps79
  go_wp2_with fail
  refine (next p a bs cap n 8 _ (by omega) (by omega) hn hm (by exact unhide HS)).mono ?_
  rintro e w1 ⟨r, hre, rfl, r1, W1, S1⟩
  have HE := hide hre
  have HW := hide W1
  have HS1 := hide S1
  clear W1 S1 hre
  go_wp2_with fail
  go_ret
  exact ⟨1 + r, by rw [unhide HE], ret_int (by simp), by omega, by omega, unhide HW, unhide HS1⟩
set_option maxHeartbeats 1000000 in
theorem source (a : Option Addr) (bs : List UInt8) (cap : Nat) (w : World) (hm : bs.length ≤ 1048576) (hr : Reads w a bs) :
    Calls Try.prog 31 #[.slice a bs.length cap] w fun e w' => ∃ p, e = .returned (.pointer (some ⟨p, 0, none⟩)) ∧ w.heap.size ≤ p ∧ Below w.heap.size w w' ∧ Fr w' p a bs cap 0 := by
  have HR := hide hr
  clear hr
  go_enter Try.func31, Try.ntmps31
  go_wp2_with fail
  go_ret
  have hr := unhide HR
  have hcell : ∀ k, (w.alloc (.cells #[.slice a bs.length cap, .int .i64 0, .int .i64 ((bs.length : Int) % 1000)] 80)).cell? ⟨w.heap.size, k, none⟩ = (#[.slice a bs.length cap, .int .i64 0, .int .i64 ((bs.length : Int) % 1000)] : Array Value)[k]? := fun k => by rw [World.cell?_alloc_new]
  refine ⟨w.heap.size, rfl, Nat.le_refl _, (Below.refl _ _).alloc (Nat.le_refl _) _, hcell 1, hcell 2, hcell 0, fun o => ?_, reads_new hr _, fun e0 g off ea => ?_⟩
  · exact frozen_new _ _ _ _
  · have := reads_lt hr e0 ea
    omega
set_option maxHeartbeats 400000 in
theorem chance (p : Nat) (a : Option Addr) (bs : List UInt8) (cap n k : Nat) (w : World) (hk0 : 2 ≤ k) (hk1 : k ≤ 256) (hn : n ≤ 1099511627000) (hm : bs.length ≤ 1099511627776) (hs : Fr w p a bs cap n) :
    Calls Try.prog 86 #[.pointer (some ⟨p, 0, none⟩), .int .i64 k] w fun e w' => ∃ r : Bool, r = decide (nx bs n k + 1 = k) ∧ e = .returned (.bool r) ∧ Wrote w w' p ∧ Fr w' p a bs cap (n + 1) := by
  have HS := hide hs
  clear hs
  go_enter Try.func86, Try.ntmps86
  go_wp2_with fail
  refine (next p a bs cap n k _ hk0 (by omega) hn hm (unhide HS)).mono ?_
  rintro e w1 ⟨r, hre, rfl, hr, wr1, s1⟩
  have HE := hide hre
  clear hre
  have S1 := hide s1
  have W1 := hide wr1
  clear s1 wr1
  have e1 : ((k : Int) - 1) = ((k - 1 : Nat) : Int) := by omega
  go_wp2_with fail
  go_ret
  refine ⟨_, ?_, rfl, unhide W1, unhide S1⟩
  rw [← unhide HE, Bool.eq_iff_iff, beq_iff_eq, decide_eq_true_iff]; omega
/-- A drawn sequence number. -/
def seqA (bs : List UInt8) (n : Nat) : Nat := match nx bs (n + 5) 4 with | 0 => nx bs n 9 | 1 => 65535 - nx bs (n + 1) 4 | 2 => nx3 bs (n + 2) 65536 | _ => 32768
/-- A drawn metric. -/
def metA (bs : List UInt8) (n : Nat) : Nat := match nx bs (n + 2) 9 / 4 with | 0 => 1 + nx bs n 9 | 1 => 1 + nx bs (n + 1) 256 | _ => 256
set_option maxHeartbeats 1000000 in
theorem seq (p : Nat) (a : Option Addr) (bs : List UInt8) (cap n : Nat) (w : World) (hn : n ≤ 1099511620000) (hm : bs.length ≤ 1099511627776) (hs : Fr w p a bs cap n) :
    Calls Try.prog 88 #[.pointer (some ⟨p, 0, none⟩)] w fun e w' => ∃ r : Nat, r = seqA bs n ∧ e = .returned (.int .i64 r) ∧ r ≤ 65535 ∧ w.grownBy w' (some p) ∧ Fr w' p a bs cap (n + 6) := by
  have hp := src_lt hs
  have HS := hide hs
  clear hs
  go_enter Try.func88, Try.ntmps88
  go_wp2_with fail
  refine (next p a bs cap n 9 _ (by omega) (by omega) (by omega) hm (unhide HS)).mono ?_
  rintro e w1 ⟨r1, hre, rfl, h1, wr1, s1⟩
  have Er1 := hide hre
  clear hre
  have S1 := hide s1
  have G1 := hide (but_wrote wr1)
  clear s1 wr1
  go_wp2_with fail
  refine (next p a bs cap (n + 1) 4 _ (by omega) (by omega) (by omega) hm (unhide S1)).mono ?_
  rintro e w2 ⟨r2, hre, rfl, h2, wr2, s2⟩
  have Er2 := hide hre
  clear hre
  have S2 := hide s2
  have G2 := hide (but_trans (unhide G1) (but_wrote wr2))
  clear s2 wr2
  go_wp2_with fail
  refine (next3 p a bs cap (n + 2) 65536 _ (by omega) (by omega) (by omega) hm (unhide S2)).mono ?_
  rintro e w3 ⟨r3, hre, rfl, h3, wr3, s3⟩
  have Er3 := hide hre
  clear hre
  have hp3 := src_lt s3
  have S3 := hide (src_below s3 ((Below.refl _ _).alloc (Nat.le_refl _) (.cells #[.int .i64 r1, .int .i64 (65535 - r2), .int .i64 r3, .int .i64 32768] 3)))
  have G3 := hide (but_alloc (but_trans (unhide G2) (but_wrote wr3)) (.cells #[.int .i64 r1, .int .i64 (65535 - r2), .int .i64 r3, .int .i64 32768] 3))
  have C3 : Hid (∀ o, (w3.alloc (.cells #[.int .i64 r1, .int .i64 (65535 - r2), .int .i64 r3, .int .i64 32768] 3)).cell? ⟨w3.heap.size, o, none⟩ = (#[.int .i64 r1, .int .i64 (65535 - r2), .int .i64 r3, .int .i64 32768] : Array Value)[o]?) := hide (fun o => World.cell?_alloc_new _ _ _ _)
  clear s3 wr3
  go_wp2_with fail
  generalize w3.alloc (.cells #[.int .i64 r1, .int .i64 (65535 - r2), .int .i64 r3, .int .i64 32768] 3) = u at *
  refine (next p a bs cap (n + 5) 4 _ (by omega) (by omega) (by omega) hm (unhide S3)).mono ?_
  rintro e w4 ⟨r4, hre, rfl, h4, wr4, s4⟩
  have Er4 := hide hre
  clear hre
  have hne : w3.heap.size ≠ p := by omega
  have c0 := (wr4.cell hne 0).trans (unhide C3 0)
  have c1 := (wr4.cell hne 1).trans (unhide C3 1)
  have c2 := (wr4.cell hne 2).trans (unhide C3 2)
  have c3 := (wr4.cell hne 3).trans (unhide C3 3)
  have S4 := hide s4
  have G4 := hide (but_trans (unhide G3) (but_wrote wr4))
  clear s4 wr4 C3
  simp at c0 c1 c2 c3
  have h5 : r4 = 0 ∨ r4 = 1 ∨ r4 = 2 ∨ r4 = 3 := by omega
  rcases h5 with rfl | rfl | rfl | rfl
  · go_wp2_with fail
    go_ret
    exact ⟨r1, by rw [seqA, ← unhide Er1, ← unhide Er4]; rfl, rfl, by omega, unhide G4, unhide S4⟩
  · go_wp2_with fail
    go_ret
    exact ⟨65535 - r2, by rw [seqA, ← unhide Er2, ← unhide Er4]; rfl, ret_int (by omega), by omega, unhide G4, unhide S4⟩
  · go_wp2_with fail
    go_ret
    exact ⟨r3, by rw [seqA, ← unhide Er3, ← unhide Er4]; rfl, rfl, by omega, unhide G4, unhide S4⟩
  · go_wp2_with fail
    go_ret
    exact ⟨32768, by rw [seqA, ← unhide Er4]; rfl, rfl, by omega, unhide G4, unhide S4⟩
set_option maxHeartbeats 1000000 in
theorem metric (p : Nat) (a : Option Addr) (bs : List UInt8) (cap n : Nat) (w : World) (hn : n ≤ 1099511620000) (hm : bs.length ≤ 1099511627776) (hs : Fr w p a bs cap n) :
    Calls Try.prog 87 #[.pointer (some ⟨p, 0, none⟩)] w fun e w' => ∃ r : Nat, r = metA bs n ∧ e = .returned (.int .i64 r) ∧ 1 ≤ r ∧ r ≤ 256 ∧ w.grownBy w' (some p) ∧ Fr w' p a bs cap (n + 3) := by
  have hp := src_lt hs
  have HS := hide hs
  clear hs
  go_enter Try.func87, Try.ntmps87
  go_wp2_with fail
  refine (next p a bs cap n 9 _ (by omega) (by omega) (by omega) hm (unhide HS)).mono ?_
  rintro e w1 ⟨r1, hre, rfl, h1, wr1, s1⟩
  have Er1 := hide hre
  clear hre
  have S1 := hide s1
  have G1 := hide (but_wrote wr1)
  clear s1 wr1
  go_wp2_with fail
  refine (next p a bs cap (n + 1) 256 _ (by omega) (by omega) (by omega) hm (unhide S1)).mono ?_
  rintro e w2 ⟨r2, hre, rfl, h2, wr2, s2⟩
  have Er2 := hide hre
  clear hre
  have hp3 := src_lt s2
  have S2 := hide (src_below s2 ((Below.refl _ _).alloc (Nat.le_refl _) (.cells #[.int .i64 (1 + r1), .int .i64 (1 + r2), .int .i64 256] 3)))
  have G2 := hide (but_alloc (but_trans (unhide G1) (but_wrote wr2)) (.cells #[.int .i64 (1 + r1), .int .i64 (1 + r2), .int .i64 256] 3))
  have C2 : Hid (∀ o, (w2.alloc (.cells #[.int .i64 (1 + r1), .int .i64 (1 + r2), .int .i64 256] 3)).cell? ⟨w2.heap.size, o, none⟩ = (#[.int .i64 (1 + r1), .int .i64 (1 + r2), .int .i64 256] : Array Value)[o]?) := hide (fun o => World.cell?_alloc_new _ _ _ _)
  clear s2 wr2
  go_wp2_with fail
  generalize w2.alloc (.cells #[.int .i64 (1 + r1), .int .i64 (1 + r2), .int .i64 256] 3) = u at *
  refine (next p a bs cap (n + 2) 9 _ (by omega) (by omega) (by omega) hm (unhide S2)).mono ?_
  rintro e w4 ⟨r4, hre, rfl, h4, wr4, s4⟩
  have Er4 := hide hre
  clear hre
  have hne : w2.heap.size ≠ p := by omega
  have c0 := (wr4.cell hne 0).trans (unhide C2 0)
  have c1 := (wr4.cell hne 1).trans (unhide C2 1)
  have c2 := (wr4.cell hne 2).trans (unhide C2 2)
  have S4 := hide s4
  have G4 := hide (but_trans (unhide G2) (but_wrote wr4))
  clear s4 wr4 C2
  simp at c0 c1 c2
  have ht : (r4 : Int).tdiv 4 = ((r4 / 4 : Nat) : Int) := by rw [Int.tdiv_eq_ediv_of_nonneg (by omega)]; simp
  have h5 : r4 / 4 = 0 ∨ r4 / 4 = 1 ∨ r4 / 4 = 2 := by omega
  rcases h5 with h5 | h5 | h5
  · have HH5 := hide h5
    rw [h5] at ht
    clear h5
    go_wp2_with fail
    go_ret
    exact ⟨1 + r1, by rw [metA, ← unhide Er1, ← unhide Er4, unhide HH5]; rfl, ret_int (by simp), by omega, by omega, unhide G4, unhide S4⟩
  · have HH5 := hide h5
    rw [h5] at ht
    clear h5
    go_wp2_with fail
    go_ret
    exact ⟨1 + r2, by rw [metA, ← unhide Er2, ← unhide Er4, unhide HH5]; rfl, ret_int (by simp), by omega, by omega, unhide G4, unhide S4⟩
  · have HH5 := hide h5
    rw [h5] at ht
    clear h5
    go_wp2_with fail
    go_ret
    exact ⟨256, by rw [metA, ← unhide Er4, unhide HH5]; rfl, rfl, by omega, by omega, unhide G4, unhide S4⟩
end Fs
end Go.Proofs.Ytpknahhdapmcoaa
