/-
  Contracts: a drawn tuple, a drawn set: right ones, whatever the source has.
-/
import Derived.Test.YtmelbilepfnmjabSrc
import Derived.Test.YtmelbilepfnmjabSetY
import Derived.Test.YtmelbilepfnmjabSetL
namespace Go.Proofs.Ytmelbilepfnmjab
open Go.ChangeShapes Go.WideShapes Go.ChangeAt Go.RowKit
set_option linter.unusedVariables false
set_option linter.unusedSimpArgs false
attribute [local go_sem ↓] Go.wp_at_zero Go.wp_at_succ
namespace Sr
open W1 By Tu St
theorem but_refl (w : World) (p : Nat) : w.grownBy w (some p) := ⟨rfl, rfl, rfl, Nat.le_refl _, fun _ _ _ => rfl⟩
theorem but_trans {w w1 w2 : World} {p : Nat} (h : w.grownBy w1 (some p)) (h' : w1.grownBy w2 (some p)) : w.grownBy w2 (some p) :=
  ⟨h'.os.trans h.os, h'.tape.trans h.tape, h'.output.trans h.output, Nat.le_trans h.size h'.size, fun k hk hne => (h'.block k (Nat.lt_of_lt_of_le hk h.size) hne).trans (h.block k hk hne)⟩
theorem but_wrote {w w' : World} {p : Nat} (h : Wrote w w' p) : w.grownBy w' (some p) := ⟨h.os, h.tape, h.output, Nat.le_of_eq h.size.symm, fun k _ hne => h.block k (fun e => hne (by rw [e]))⟩
theorem but_below {w w' : World} {p : Nat} (h : Below w.heap.size w w') : w.grownBy w' (some p) := ⟨h.os, h.tape, h.output, h.size, fun k hk _ => h.block k hk⟩
theorem Src.lt {w : World} {p : Nat} {a : Option Addr} {bs : List UInt8} {cap n : Nat} (h : Src w p a bs cap n) : p < w.heap.size := World.block_lt_of_cell? _ _ h.code
theorem Src.below {w w' : World} {p : Nat} {a : Option Addr} {bs : List UInt8} {cap n : Nat} (h : Src w p a bs cap n) (hb : Below w.heap.size w w') : Src w' p a bs cap n := by
  have hp := h.lt
  obtain ⟨i, s, i0, i1, s0, s1, c1, c2⟩ := h.at_
  exact ⟨⟨i, s, i0, i1, s0, s1, (hb.cell (p := ⟨p, 1, none⟩) hp).trans c1, (hb.cell (p := ⟨p, 2, none⟩) hp).trans c2⟩, (hb.cell (p := ⟨p, 0, none⟩) hp).trans h.code, fun o => (hb.frozen (p := ⟨p, o, none⟩) hp).trans (h.fz o),
    reads_of_cells h.rd (fun e0 g off o e => hb.cell (p := ⟨g, o, none⟩) (reads_lt h.rd e0 e)), h.ne, (congrArg Option.isSome (hb.cell (p := ⟨p, 3, none⟩) hp)).trans h.top⟩
theorem Src.blocks {w w' : World} {p : Nat} {a : Option Addr} {bs : List UInt8} {cap n : Nat} (h : Src w p a bs cap n) (hp : w'.heap[p]? = w.heap[p]?) (hg : bs ≠ [] → ∀ g off, a = some ⟨g, off, none⟩ → w'.heap[g]? = w.heap[g]?) : Src w' p a bs cap n := by
  obtain ⟨i, s, i0, i1, s0, s1, c1, c2⟩ := h.at_
  exact ⟨⟨i, s, i0, i1, s0, s1, (World.cell?_of_block (a := ⟨p, 1, none⟩) hp).trans c1, (World.cell?_of_block (a := ⟨p, 2, none⟩) hp).trans c2⟩, (World.cell?_of_block (a := ⟨p, 0, none⟩) hp).trans h.code, fun o => (World.frozen?_of_block (a := ⟨p, o, none⟩) hp).trans (h.fz o),
    reads_of_cells h.rd (fun e0 g off o e => World.cell?_of_block (a := ⟨g, o, none⟩) (hg e0 g off e)), h.ne, (congrArg Option.isSome (World.cell?_of_block (a := ⟨p, 3, none⟩) hp)).trans h.top⟩
theorem set3_far (w : World) (b k : Nat) (x y z : Value) (h : b ≠ k) : (((w.setCell ⟨b, 0, none⟩ x).setCell ⟨b, 1, none⟩ y).setCell ⟨b, 2, none⟩ z).heap[k]? = w.heap[k]? := by
  simp only [World.setCell, Array.getElem?_modify]
  simp [h]
theorem bx_wrote {w w' : World} {p b : Nat} {m : R} (h : Bx w b m) (hw : Wrote w w' p) (hne : b ≠ p) : Bx w' b m := ⟨(hw.cell hne _).trans h.1, (hw.cell hne _).trans h.2.1, (hw.cell hne _).trans h.2.2⟩
set_option maxHeartbeats 1000000 in
theorem tuple (p : Nat) (a : Option Addr) (bs : List UInt8) (cap n : Nat) (w : World) (hn : n ≤ 1099511620000) (hm : bs.length ≤ 1099511627776) (hs : Src w p a bs cap n) :
    Calls Try.prog 66 #[.pointer (some ⟨p, 0, none⟩)] w fun e w' => ∃ key til val : Nat, e = .returned (.agg #[.int .i64 key, .int .i64 til, .int .i64 val]) ∧ key < 12 ∧ til < 30 ∧ val < 9 ∧ w.grownBy w' (some p) ∧ Src w' p a bs cap (n + 9) := by
  have hp := hs.lt
  have hpe : w.heap.size ≠ p := by omega
  have HBA : Hid (Below w.heap.size w (w.alloc (.cells #[.int .i64 0, .int .i64 0, .int .i64 0] 32))) := hide ((Below.refl _ _).alloc (Nat.le_refl _) _)
  have X : Hid (Bx (w.alloc (.cells #[.int .i64 0, .int .i64 0, .int .i64 0] 32)) w.heap.size R.zero) := hide (by refine ⟨?_, ?_, ?_⟩ <;> simp [World.cell?_alloc_new, R.zero])
  have F0 : Hid (∀ o, (w.alloc (.cells #[.int .i64 0, .int .i64 0, .int .i64 0] 32)).frozen? ⟨w.heap.size, o, none⟩ = false) := hide (fun o => by simp)
  have S0 := hide (hs.below (unhide HBA))
  have RL : Hid (bs ≠ [] → ∀ g off, a = some ⟨g, off, none⟩ → g < w.heap.size) := hide (fun e0 g off e => reads_lt hs.rd e0 e)
  clear hs
  go_enter Try.func66, Try.ntmps66
  go_wp2_with fail
  refine (next p a bs cap n 12 _ (by omega) (by omega) (by omega) hm (unhide S0)).mono ?_
  rintro e w1 ⟨key, rfl, hk, wr1, s1⟩
  have S1 := hide s1
  have W1 := hide wr1
  clear s1 wr1
  go_wp2_with fail
  refine (next p a bs cap (n + 3) 30 _ (by omega) (by omega) (by omega) hm (unhide S1)).mono ?_
  rintro e w2 ⟨til, rfl, ht, wr2, s2⟩
  have S2 := hide s2
  have W2 := hide (Wrote_trans (unhide W1) wr2)
  clear s2 wr2
  go_wp2_with fail
  refine (next p a bs cap (n + 3 + 3) 9 _ (by omega) (by omega) (by omega) hm (unhide S2)).mono ?_
  rintro e w3 ⟨val, rfl, hv, wr3, s3⟩
  have S3 := hide s3
  have W3 := hide (Wrote_trans (unhide W2) wr3)
  clear s3 wr3
  obtain ⟨x0, x1, x2⟩ := bx_wrote (unhide X) (unhide W3) hpe
  have y0 := ((unhide W3).frozen ⟨w.heap.size, 0, none⟩).trans (unhide F0 0)
  have y1 := ((unhide W3).frozen ⟨w.heap.size, 1, none⟩).trans (unhide F0 1)
  have y2 := ((unhide W3).frozen ⟨w.heap.size, 2, none⟩).trans (unhide F0 2)
  have HG := hide (but_trans (but_below (p := p) (unhide HBA)) (but_wrote (unhide W3)))
  go_wp2_with fail
  refine bodyPost_ret (v := .agg #[.int .i64 key, .int .i64 til, .int .i64 val]) (by simp [results, Try.results66, go_sem, x0, x1, x2]) rfl ⟨key, til, val, rfl, hk, ht, hv, ?_, ?_⟩
  · have hg := unhide HG
    exact ⟨hg.os, hg.tape, hg.output, by simp [World.setCell]; exact hg.size, fun k hk hne => (set3_far _ _ _ _ _ _ (by omega)).trans (hg.block k hk hne)⟩
  · exact (unhide S3).blocks (set3_far _ _ _ _ _ _ hpe) (fun e0 g off e => set3_far _ _ _ _ _ _ (by have := unhide RL e0 g off e; omega))
/-- A value that is a list of tuples in new memory. -/
def IsSet (W : World) (v : Value) (ms : List R) (lo : Nat) : Prop := ∃ g c, v = .slice (some ⟨g, 0, none⟩) ms.length c ∧ lo ≤ g ∧ g < W.heap.size ∧ RM W (some ⟨g, 0, none⟩) ms
theorem small_ok {key til val : Nat} (h1 : key < 12) (h2 : til < 30) (h3 : val < 9) : okR ⟨key, til, val⟩ = true := by
  unfold okR inB
  dsimp only
  rw [decide_eq_true (by omega), decide_eq_true (by omega), decide_eq_true (by omega), decide_eq_true (by omega), decide_eq_true (by omega), decide_eq_true (by omega)]; rfl
set_option maxHeartbeats 2000000 in
theorem set (p : Nat) (a : Option Addr) (bs : List UInt8) (cap n : Nat) (w : World) (hn : n ≤ 1099511600000) (hm : bs.length ≤ 1099511627776) (hs : Src w p a bs cap n) :
    Calls Try.prog 30 #[.pointer (some ⟨p, 0, none⟩)] w fun e w' => ∃ (v : Value) (ms : List R), e = .returned v ∧ IsSet w' v ms w.heap.size ∧ setB ms = true ∧ ms.length ≤ 10 ∧ w.grownBy w' (some p) ∧ Src w' p a bs cap (n + 99) := by
  have hp := hs.lt
  have HBA : Hid (Below w.heap.size w (w.alloc (.cells #[] 32))) := hide ((Below.refl _ _).alloc (Nat.le_refl _) _)
  have S0 := hide (hs.below (unhide HBA))
  have hz0 : w.heap.size < (w.alloc (.cells #[] 32)).heap.size := by simp
  clear hs
  go_enter Try.func30, Try.ntmps30
  go_wp2_with fail
  refine (next p a bs cap n 10 _ (by omega) (by omega) (by omega) hm (unhide S0)).mono ?_
  rintro e w1 ⟨t, rfl, ht, wr1, s1⟩
  have S1 := hide s1
  have G1 := hide (but_trans (but_below (p := p) (unhide HBA)) (but_wrote wr1))
  have hz1 : w.heap.size < w1.heap.size := by rw [wr1.size]; exact hz0
  clear s1 wr1 S0 HBA
  go_wp2_with fail
  go_loopw [3, 4] (fun v i wr => ∃ (j : Nat) (ms : List R) (g c : Nat), j ≤ t ∧ i = .int .i64 ((t - j : Nat) : Int) ∧ v = .slice (some ⟨g, 0, none⟩) ms.length c ∧ ms.length ≤ j ∧ w.heap.size ≤ g ∧ Hid (g < wr.heap.size) ∧ Hid (setB ms = true) ∧ Hid (RM wr (some ⟨g, 0, none⟩) ms) ∧ Hid (w.grownBy wr (some p)) ∧ Hid (Src wr p a bs cap (n + 3 + 9 * j))) (fun _ i _ => (intOf i).toNat)
  case atStart => exact ⟨0, [], w.heap.size, 0, by omega, by simp, rfl, by simp, Nat.le_refl _, hide hz1, hide rfl, hide (.inl rfl), G1, S1⟩
  case round =>
    obtain ⟨j, ms, g, c, hj, rfl, rfl, hl, hg, hgl, hset, hrm, hgr, hsr⟩ := hrel
    by_cases hlt : (0 : Int) < ((t - j : Nat) : Int)
    · go_wp2_with fail
      refine (tuple p a bs cap (n + 3 + 9 * j) _ (by omega) hm (unhide hsr)).mono ?_
      rintro e w2 ⟨key, til, val, rfl, h1, h2, h3, g2, s2⟩
      have R2 := hide (rm_grown (unhide hrm) g2 (by intro e; cases e; omega))
      have S2 := hide s2
      have G2 := hide (but_trans (unhide hgr) g2)
      have hz2 : Hid (g < w2.heap.size) := hide (Nat.lt_of_lt_of_le (unhide hgl) g2.size)
      have HOK := hide (small_ok h1 h2 h3)
      clear g2 s2
      go_wp2_with fail
      refine (l03Put g 0 ms c key til val _ (by omega) (unhide R2)).mono ?_
      rintro e w3 ⟨v, rfl, b3, l3⟩
      have hps : Hid (setB (putL ms ⟨key, til, val⟩) = true) := hide (put_set (unhide hset) (unhide HOK) (by omega))
      have hpl := put_le ms ⟨key, til, val⟩
      have hpn := put_ne ms ⟨key, til, val⟩
      obtain ⟨a3, c3, rfl, L3⟩ := l3
      rcases L3 with h0 | ⟨g3, rfl, h4, h5, h6, hu⟩
      · rw [h0] at hpn; simp at hpn
      have R3 := hide (rm_of hu)
      have S3 := hide ((unhide S2).below b3)
      have G3 := hide (but_trans (unhide G2) (but_below b3))
      have hz3 : Hid (g3 < w3.heap.size) := hide h6
      have hw2 := (unhide G2).size
      clear b3 hu
      generalize putL ms ⟨key, til, val⟩ = ms' at *
      go_wp2_with fail
      go_roundw
      case rel => exact ⟨j + 1, ms', g3, c3, by omega, by first | go_num | (congr 1; omega), rfl, by omega, by omega, hz3, hps, R3, G3, by rw [show n + 3 + 9 * (j + 1) = n + 3 + 9 * j + 9 by omega]; exact S3⟩
      case measure => simp [intOf]; omega
    · go_wp2_with fail
      go_ret
      exact ⟨_, rfl, ms, ⟨g, c, rfl, hg, unhide hgl, unhide hrm⟩, unhide hset, by omega, unhide hgr, (unhide hsr).mono (by omega)⟩
theorem setOf (a : Option Addr) (bs : List UInt8) (cap : Nat) (w : World) (hm : bs.length ≤ 1048576) (hr : Reads w a bs) :
    Calls Try.prog 6 #[.slice a bs.length cap] w fun e w' => ∃ (v : Value) (ms : List R), e = .returned v ∧ IsSet w' v ms w.heap.size ∧ setB ms = true ∧ ms.length ≤ 10 ∧ Below w.heap.size w w' := by
  have HR := hide hr
  clear hr
  go_enter Try.func6, Try.ntmps6
  go_wp2_with fail
  refine (source a bs cap w hm (unhide HR)).mono ?_
  rintro e w1 ⟨p, rfl, hp, b1, s1⟩
  have B1 := hide b1
  have S1 := hide s1
  clear b1 s1
  go_wp2_with fail
  refine (set p a bs cap 0 w1 (by omega) (by omega) (unhide S1)).mono ?_
  rintro e w2 ⟨v, ms, rfl, hv, hset, hl, g2, s2⟩
  obtain ⟨g, c, rfl, h1, h2, h3⟩ := hv
  have hb := unhide B1
  have B2 : Hid (Below w.heap.size w w2) := hide (hb.grown g2 hb.size (fun k hk => by cases hk; exact hp))
  have HS := hide hset
  have HV : Hid (IsSet w2 (.slice (some ⟨g, 0, none⟩) ms.length c) ms w.heap.size) := hide ⟨g, c, rfl, Nat.le_trans hb.size h1, h2, h3⟩
  clear g2 s2 h3 hset hb
  go_wp2_with fail
  go_ret
  first | exact ⟨_, ms, rfl, unhide HV, unhide HS, hl, unhide B2⟩ | exact ⟨_, rfl, ms, unhide HV, unhide HS, hl, unhide B2⟩
set_option maxRecDepth 100000 in
set_option maxHeartbeats 2000000 in
theorem sameSet (a b : Option Addr) (ms : List R) (ca cb : Nat) (w : World) (hm : ms.length ≤ 1048576) (hr : RM w a ms) (hr' : RM w b ms) :
    Calls Try.prog 11 #[.slice a ms.length ca, .slice b ms.length cb] w fun e w' => e = .returned (.bool true) ∧ Below w.heap.size w w' := by
  have HR := hide hr
  have HR' := hide hr'
  clear hr hr'
  generalize hN : ms.length = n at *
  have HN := hide hN
  clear hN
  go_enter Try.func11, Try.ntmps11
  go_wp2
  go_loopw [5] (fun i wr => ∃ j : Nat, j ≤ n ∧ i = .int .i64 j ∧ Hid (Below w.heap.size w wr)) (fun i _ => n - (intOf i).toNat)
  case atStart => exact ⟨0, by omega, rfl, hide (Below.refl _ _)⟩
  case round =>
    obtain ⟨j, hj, rfl, hbl⟩ := hrel
    by_cases hlt : (j : Int) < (n : Int)
    · have k0 : (0 : Int) ≤ (j : Int) := by omega
      have hlen : j < ms.length := by rw [unhide HN]; omega
      obtain ⟨g, off, rfl⟩ := (unhide HR).form (by omega)
      obtain ⟨g', off', rfl⟩ := (unhide HR').form (by omega)
      obtain ⟨c0, c1, c2⟩ := ((unhide HR).below (unhide hbl)).at hlen
      obtain ⟨d0, d1, d2⟩ := ((unhide HR').below (unhide hbl)).at hlen
      generalize ms.getD j R.zero = m at *
      obtain ⟨key, til, val⟩ := m
      dsimp only at c0 c1 c2 d0 d1 d2
      go_wp2_with fail
      go_region_held3 (fun w' => w'.cell? ⟨g, off + j * 3, none⟩ = some (.int .i64 key) ∧ w'.cell? ⟨g, off + j * 3 + 1, none⟩ = some (.int .i64 til) ∧ w'.cell? ⟨g, off + j * 3 + 2, none⟩ = some (.int .i64 val) ∧ w'.cell? ⟨g', off' + j * 3, none⟩ = some (.int .i64 key) ∧ w'.cell? ⟨g', off' + j * 3 + 1, none⟩ = some (.int .i64 til) ∧ w'.cell? ⟨g', off' + j * 3 + 2, none⟩ = some (.int .i64 val)) (exact ⟨c0, c1, c2, d0, d1, d2⟩) (fail)
      have hb1 := hide ((unhide hbl).drew)
      go_wp2_with fail
      go_roundw
      case rel => exact ⟨j + 1, by omega, by go_num, hb1⟩
      case measure => simp [intOf]; omega
    · go_wp2
      go_ret
      exact ⟨rfl, unhide hbl⟩
end Sr
end Go.Proofs.Ytmelbilepfnmjab
