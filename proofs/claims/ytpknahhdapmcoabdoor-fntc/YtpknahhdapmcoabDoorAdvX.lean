/-
  An advertisement's bytes tell it again; cut they tell none. The laws' look at whether two advertisements are alike.
-/
import Derived.Test.YtpknahhdapmcoabDoorAdvV
import Derived.Deep.QuietTactic
import Derived.BigQuiet
namespace Go.Proofs.YtpknahhdapmcoabDoor
open Go.ChangeShapes Go.WideShapes Go.ChangeAt Go.RowKit
set_option linter.unusedVariables false
set_option linter.unusedSimpArgs false
attribute [local go_sem ↓] Go.wp_at_zero Go.wp_at_succ
namespace Av
open W1 Ed De
theorem fld_nums {zs : List Int} (h : ∀ z ∈ zs, 0 ≤ z ∧ z ≤ 255) (i : Nat) : fld (strOfNums zs).data.toList i = zs.getD i 0 := by
  unfold fld strOfNums
  simp only [List.getD_eq_getElem?_getD]
  by_cases hi : i < zs.length
  · have hz := h zs[i] (List.getElem_mem hi)
    simp [hi]
    omega
  · simp [hi]
theorem nums_in {x y : Int} {ms : List R} (h : tcB x y ms = true) : ∀ z ∈ tcNums x y ms ms.length, 0 ≤ z ∧ z ≤ 255 := by
  have h8 := tc_len h
  have hx := tc_ansn h
  have hy := tc_valid h
  have ht := Tim.tcode_lt (n := y) (by omega)
  intro z hz
  unfold tcNums at hz
  rw [List.take_length] at hz
  rcases List.mem_append.1 hz with h1 | h1
  · simp at h1
    rcases h1 with rfl | rfl | rfl | rfl <;> omega
  · obtain ⟨m, hm, h2⟩ := List.mem_flatMap.1 h1
    obtain ⟨i, hi, rfl⟩ := List.mem_iff_getElem.1 hm
    have hok := Ri.all_ok (tc_all h) (j := i) hi
    rw [List.getD_eq_getElem?_getD, List.getElem?_eq_getElem hi] at hok
    simp only [Option.getD_some] at hok
    have ha := ok_ad hok
    have hmt := ok_mt hok
    have hc := (Mtr.mcode_is (n := ms[i].mt) (by omega) (by omega)).1
    unfold edNums at h2
    simp at h2
    rcases h2 with rfl | rfl | rfl <;> omega
theorem flat_at : ∀ (ms : List R) (k r : Nat), k < ms.length → r < 3 → ((ms.flatMap edNums).getD (3 * k + r) 0) = (edNums (ms.getD k R.zero)).getD r 0
  | [], k, r, hk, _ => by simp at hk
  | m :: t, 0, r, _, hr => by
    rw [List.flatMap_cons, List.getD_eq_getElem?_getD, List.getElem?_append_left (by simp [edNums]; omega), ← List.getD_eq_getElem?_getD]
    simp
  | m :: t, k + 1, r, hk, hr => by
    rw [List.flatMap_cons, List.getD_eq_getElem?_getD, List.getElem?_append_right (by simp [edNums]; omega), ← List.getD_eq_getElem?_getD]
    have e : 3 * (k + 1) + r - (edNums m).length = 3 * k + r := by simp [edNums]; omega
    rw [e, flat_at t k r (by simpa using hk) hr]
    simp
theorem flat_len : ∀ l : List R, (l.flatMap edNums).length = 3 * l.length
  | [] => rfl
  | m :: t => by rw [List.flatMap_cons, List.length_append, flat_len t]; simp [edNums]; omega
theorem nums_at {x y : Int} {ms : List R} {k r : Nat} (hk : k < ms.length) (hr : r < 3) : (tcNums x y ms ms.length).getD (4 + (3 * k + r)) 0 = (edNums (ms.getD k R.zero)).getD r 0 := by
  unfold tcNums
  rw [List.take_length, List.getD_eq_getElem?_getD, List.getElem?_append_right (by simp), ← List.getD_eq_getElem?_getD]
  have e : 4 + (3 * k + r) - [x / 256, x % 256, (Tim.tcode y : Int), (ms.length : Int)].length = 3 * k + r := by simp
  rw [e]; exact flat_at ms k r hk hr
/-- The bytes of a right one. -/
def encB (x y : Int) (ms : List R) : List UInt8 := (strOfNums (tcNums x y ms ms.length)).data.toList
theorem enc_len (x y : Int) (ms : List R) : (encB x y ms).length = 4 + 3 * ms.length := by
  have h : (tcNums x y ms ms.length).length = 4 + 3 * ms.length := by
    unfold tcNums
    rw [List.take_length, List.length_append, flat_len]; rfl
  unfold encB strOfNums
  simpa using h
theorem enc_fld {x y : Int} {ms : List R} (h : tcB x y ms = true) (i : Nat) : fld (encB x y ms) i = (tcNums x y ms ms.length).getD i 0 := fld_nums (nums_in h) i
theorem enc_head {x y : Int} {ms : List R} (h : tcB x y ms = true) : two (encB x y ms) 0 = x ∧ fld (encB x y ms) 2 = (Tim.tcode y : Int) ∧ fld (encB x y ms) 3 = (ms.length : Int) := by
  have hx := tc_ansn h
  refine ⟨?_, ?_, ?_⟩
  · unfold two; rw [enc_fld h, enc_fld h]; unfold tcNums; simp; omega
  · rw [enc_fld h]; unfold tcNums; simp
  · rw [enc_fld h]; unfold tcNums; simp
theorem enc_edge {x y : Int} {ms : List R} (h : tcB x y ms = true) {k : Nat} (hk : k < ms.length) : fld (encB x y ms) (4 + 3 * k) = (ms.getD k R.zero).ad ∧ two (encB x y ms) (5 + 3 * k) = (Mtr.mcode (ms.getD k R.zero).mt : Int) := by
  have h0 := nums_at (x := x) (y := y) hk (r := 0) (by omega)
  have h1 := nums_at (x := x) (y := y) hk (r := 1) (by omega)
  have h2 := nums_at (x := x) (y := y) hk (r := 2) (by omega)
  refine ⟨?_, ?_⟩
  · rw [enc_fld h, show 4 + 3 * k = 4 + (3 * k + 0) by omega, h0]; rfl
  · unfold two
    rw [enc_fld h, enc_fld h, show 5 + 3 * k = 4 + (3 * k + 1) by omega, show 4 + (3 * k + 1) + 1 = 4 + (3 * k + 2) by omega, h1, h2]
    show 256 * ((Mtr.mcode (ms.getD k R.zero).mt : Int) / 256) + (Mtr.mcode (ms.getD k R.zero).mt : Int) % 256 = _
    omega
theorem dec_enc {x y : Int} {ms : List R} (h : tcB x y ms = true) : decG (encB x y ms) = true ∧ decX (encB x y ms) = x ∧ decY (encB x y ms) = y ∧ decL (encB x y ms) = ms ∧ decE (encB x y ms) = 0 := by
  have h8 := tc_len h
  have hy := tc_valid h
  have ht := Tim.tcode_lt (n := y) (by omega)
  obtain ⟨e0, e2, e3⟩ := enc_head h
  have hl := enc_len x y ms
  have hn : nOf (encB x y ms) = ms.length := by unfold nOf; rw [e3]; omega
  have htm : timOf (encB x y ms) = y := by unfold timOf; rw [e2, Int.toNat_natCast]; exact tc_exact h
  have hg : grps (encB x y ms) ms.length = ms := by
    apply List.ext_getElem?
    intro k
    by_cases hk : k < ms.length
    · have hd := grps_at (encB x y ms) ms.length k hk
      have hok := Ri.all_ok (tc_all h) hk
      have hgr : grp (encB x y ms) k = ms.getD k R.zero := by
        obtain ⟨f1, f2⟩ := enc_edge h hk
        unfold grp
        rw [f1, f2, Int.toNat_natCast, ok_ex hok]
      rw [hgr] at hd
      rw [List.getD_eq_getElem?_getD, List.getD_eq_getElem?_getD, List.getElem?_eq_getElem (by rw [grps_len]; exact hk), List.getElem?_eq_getElem hk] at hd
      rw [List.getElem?_eq_getElem (by rw [grps_len]; exact hk), List.getElem?_eq_getElem hk]
      simpa using hd
    · rw [List.getElem?_eq_none (by rw [grps_len]; omega), List.getElem?_eq_none (by omega)]
  have hc : codesB (encB x y ms) ms.length = true := codes_of (fun k hk => by
    have hok := Ri.all_ok (tc_all h) hk
    have hmt := ok_mt hok
    rw [(enc_edge h hk).2]
    have := (Mtr.mcode_is (n := (ms.getD k R.zero).mt) (by omega) (by omega)).1
    omega)
  have hG : decG (encB x y ms) = true := by
    unfold decG lenB exB
    rw [hn, htm, hg, hc, e0, h, e2, e3, decide_eq_true (by omega), decide_eq_true (by omega), decide_eq_true (by omega), Int.toNat_natCast]; simp
  obtain ⟨d1, d2, d3⟩ := dec_yes hG
  refine ⟨hG, by rw [d1, e0], by rw [d2, htm], by rw [d3, hn, hg], ?_⟩
  unfold decE
  rw [if_neg (by omega), if_pos hG]
theorem dec_cut {bs : List UInt8} (hl : lenB bs = true) (hs : bs.length ≤ 65536) {k : Nat} (hk : k < bs.length) : decX (bs.take k) = 0 ∧ decY (bs.take k) = 0 ∧ decL (bs.take k) = [] ∧ decE (bs.take k) = 3 := by
  have hn := len_eq hl
  have hnn := n_eq bs
  have hG : decG (bs.take k) = false := by
    unfold decG
    have hlb : lenB (bs.take k) = false := by
      unfold lenB
      have htl : (bs.take k).length = k := by rw [List.length_take]; omega
      rw [htl]
      by_cases h4 : 4 ≤ k
      · have hf : fld (bs.take k) 3 = fld bs 3 := by
          unfold fld; rw [List.getD_eq_getElem?_getD, List.getD_eq_getElem?_getD, List.getElem?_take_of_lt (by omega)]
        rw [hf, decide_eq_false (p := (k : Int) = _) (by omega), Bool.and_false]
      · rw [decide_eq_false h4]; rfl
    rw [hlb]; rfl
  obtain ⟨d1, d2, d3⟩ := dec_no hG
  refine ⟨d1, d2, d3, ?_⟩
  unfold decE
  have htl : (bs.take k).length = k := by rw [List.length_take]; omega
  rw [htl, if_neg (by omega), if_neg (by rw [hG]; simp)]
theorem lenB_enc {x y : Int} {ms : List R} (h : tcB x y ms = true) : lenB (encB x y ms) = true := by
  have := (dec_enc h).1
  unfold decG at this
  rw [Bool.and_eq_true] at this
  exact this.1
theorem edge_self {x y : Int} {ms : List R} (h : tcB x y ms = true) {k : Nat} (hk : k < ms.length) : (∀ i, i < k → (ms.getD i R.zero).ad ≠ (ms.getD k R.zero).ad) := fun i hi => by
  have := Ri.rises (tc_all h) k i hi hk; omega
set_option maxHeartbeats 1000000 in
theorem sameEdges (a b : Option Addr) (ms : List R) (ca cb : Nat) (w : World) (hm : ms.length ≤ 1048576) (hr : RM w a ms) (hr' : RM w b ms) :
    Calls Tryd.prog 55 #[.slice a ms.length ca, .slice b ms.length cb] w fun e w' => e = .returned (.bool true) ∧ ∃ q, w' = w.drewN q := by
  have HR := hide hr
  have HR' := hide hr'
  clear hr hr'
  generalize hN : ms.length = n at *
  have HN := hide hN
  clear hN
  have hnn : ((n : Int) != (n : Int)) = false := by simp
  go_enter Tryd.func55, Tryd.ntmps55
  go_wp2_with fail
  go_loopw [5] (fun i wr => ∃ j : Nat, j ≤ n ∧ i = .int .i64 j ∧ Hid (∃ q, wr = w.drewN q)) (fun i _ => n - (intOf i).toNat)
  case atStart => exact ⟨0, by omega, rfl, hide ⟨0, rfl⟩⟩
  case round =>
    obtain ⟨j, hj, rfl, hq⟩ := hrel
    have HA : Hid (RM wr a ms) := hide (by obtain ⟨q, e⟩ := unhide hq; rw [e]; exact unhide HR)
    have HB : Hid (RM wr b ms) := hide (by obtain ⟨q, e⟩ := unhide hq; rw [e]; exact unhide HR')
    have HD : Hid (∀ m, ∃ q, wr.drewN m = w.drewN q) := hide (fun m => by obtain ⟨q, e⟩ := unhide hq; exact ⟨_, by rw [e, World.drewN_drewN]⟩)
    by_cases hlt : (j : Int) < (n : Int)
    · have k0 : (0 : Int) ≤ (j : Int) := by omega
      have hlen : j < ms.length := by rw [unhide HN]; omega
      rcases unhide HA with e0 | ⟨g, off, rfl, hc⟩
      · exfalso; rw [e0] at hlen; simp at hlen
      rcases unhide HB with e0 | ⟨g', off', rfl, hc'⟩
      · exfalso; rw [e0] at hlen; simp at hlen
      obtain ⟨c0, c1⟩ := hc j hlen
      obtain ⟨d0, d1⟩ := hc' j hlen
      clear hc hc' hlen
      generalize ms.getD j R.zero = m at *
      obtain ⟨ad, mt⟩ := m
      dsimp only at c0 c1 d0 d1
      go_wp2_with fail
      go_quiet (fail)
      go_wp2_with fail
      go_roundw
      case rel => exact ⟨j + 1, by omega, by go_num, hide (unhide HD _)⟩
      case measure => simp [intOf]; omega
    · go_wp2_with fail
      go_ret
      exact ⟨rfl, unhide hq⟩
set_option maxHeartbeats 1000000 in
theorem sameTc (x y : Int) (a b : Option Addr) (ms : List R) (ca cb : Nat) (w : World) (hm : ms.length ≤ 1048576) (hr : RM w a ms) (hr' : RM w b ms) :
    Calls Tryd.prog 21 #[.agg #[.int .i64 x, .int .i64 y, .slice a ms.length ca], .agg #[.int .i64 x, .int .i64 y, .slice b ms.length cb]] w fun e w' => e = .returned (.bool true) ∧ Below w.heap.size w w' := by
  have HR := hide hr
  have HR' := hide hr'
  clear hr hr'
  have hx : (x == x) = true := by simp
  have hy : (y == y) = true := by simp
  go_enter Tryd.func21, Tryd.ntmps21
  go_wp2_with fail
  refine (sameEdges a b ms ca cb _ hm ((unhide HR).below (by repeat (first | exact Below.refl _ _ | refine Below.alloc ?_ (by simp <;> omega) _))) ((unhide HR').below (by repeat (first | exact Below.refl _ _ | refine Below.alloc ?_ (by simp <;> omega) _)))).mono ?_
  rintro e w1 ⟨rfl, q, rfl⟩
  go_wp2_with fail
  go_ret
  refine ⟨rfl, Tim.below_drewN ?_ _⟩
  repeat (first | exact Below.refl _ _ | refine Below.alloc ?_ (by simp <;> omega) _)
end Av
end Go.Proofs.YtpknahhdapmcoabDoor
