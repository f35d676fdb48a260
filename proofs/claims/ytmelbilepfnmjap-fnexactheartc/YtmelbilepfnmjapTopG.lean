/-
  Contracts of the program over lists of sources: copied, put together (slices.Concat, slices.Grow), one put among them (sourcesWith). (written by mktopg.py)
-/
import Derived.Test.YtmelbilepfnmjapTopA
import Derived.Test.YtmelbilepfnmjapSetGc
import Derived.Lib.AppendZeros
namespace Go.Proofs.Ytmelbilepfnmjap
open Go.ChangeShapes Go.WideShapes Go.ChangeAt Go.RowKit
set_option linter.unusedVariables false
set_option linter.unusedSimpArgs false
set_option maxRecDepth 100000
attribute [local go_sem ↓] Go.wp_at_zero Go.wp_at_succ
namespace Tp
open W1 So
theorem copied (g off : Nat) (ms : List R) (cap n : Nat) (w : World) (hn : ms.length = n) (hm : ms.length ≤ 4096) (hr : RM w (some ⟨g, off, none⟩) ms) :
    Calls Try.prog 69 #[.slice (some ⟨g, off, none⟩) n cap] w fun e w' => ∃ v, e = .returned v ∧ Below w.heap.size w w' ∧ LstV w' v ms w.heap.size w'.heap.size := by
  have HR := hide hr
  have O0 := hide (own_nil w w.heap.size)
  clear hr
  go_enter Try.func69, Try.ntmps69
  go_wp2_with (at_builtin; refine wpList_apS (unhide O0) g off n cap ms hn (unhide HR) (by simp; omega) (by simp) rfl _ _ rfl rfl rfl ?_; intro v' w' ho hg; have HL := hide (lst_own rfl ho); have HB := hide (below_own (Below.refl _ _) (unhide O0) hg (Nat.le_refl _) (Nat.le_refl _)); clear ho hg)
  go_ret
  exact ⟨_, rfl, unhide HB, unhide HL⟩
theorem grow0 (w : World) : Calls Try.prog 138 #[.slice none 0 0, .int .i64 0] w fun e w' => ∃ v, e = .returned v ∧ Below w.heap.size w w' ∧ w'.ownsRow w.heap.size 67 3 v ([] : List R).length (flat []) := by
  have O0 := hide (own_nil w w.heap.size)
  go_enter Try.func138, Try.ntmps138
  go_wp2
  go_ret
  exact ⟨_, rfl, Below.refl _ _, unhide O0⟩
set_option maxHeartbeats 1000000 in
theorem growN (n : Nat) (w : World) (h0 : 0 < n) (hn : n ≤ 4096) : Calls Try.prog 138 #[.slice none 0 0, .int .i64 n] w fun e w' => ∃ v, e = .returned v ∧ Below w.heap.size w w' ∧ w'.ownsRow w.heap.size 67 3 v ([] : List R).length (flat []) := by
  obtain ⟨i0, hi, hz0, hz1, hz2⟩ := infoR
  have hrz : ∀ ty, (Builtin.append_ #[40, 3] ty #[.slice none 0 0, .int .i64 n]).run Try.prog w = _ := fun ty => Lib.run_append_nil_zeros w 40 3 ty 67 i0 _ .i64 .i64 Try.underlying40 Try.underlying3 hi hz0 n h0 (by rw [hz1]; decide) (by omega) (by rw [hz2]; omega)
  have hge : n ≤ grownCap w n 0 67 := grownCap_ge w _ _ _
  have hle := grownCap_le_maxLen w n 0 67 (by unfold maxLen; omega)
  obtain ⟨G, hG⟩ : ∃ G, G = grownCap w n 0 67 := ⟨_, rfl⟩
  rw [← hG] at hrz hge hle
  have hcs : (Builtin.zeroCells (Value.agg #[.int .i64 0, .int .i64 0, .int .i64 0]).cells n ++ Builtin.zeroCells (Value.agg #[.int .i64 0, .int .i64 0, .int .i64 0]).cells (G - n)).size = G * 3 := by
    rw [Array.size_append, size_zeroCells, size_zeroCells, show (Value.agg #[.int .i64 0, .int .i64 0, .int .i64 0]).cells.size = 3 from rfl]; omega
  generalize Builtin.zeroCells (Value.agg #[.int .i64 0, .int .i64 0, .int .i64 0]).cells n ++ Builtin.zeroCells (Value.agg #[.int .i64 0, .int .i64 0, .int .i64 0]).cells (G - n) = cs at *
  have O1 := hide (World.ownsRow_made (base := w.heap.size) (e := 67) (size := 3) w.drew cs G (Nat.le_refl _) hle hcs)
  have HB := hide ((Below.refl w.heap.size w).drew.alloc (Nat.le_refl _) (.cells cs 67))
  clear hcs hi hz0 hz1 hz2 hG
  unfold maxLen at hle
  have z0 : (0 : Int) < n := by omega
  go_enter Try.func138, Try.ntmps138
  go_wp2_with (at_builtin; refine Lib.wpList_append_run _ rfl _ _ _ _ rfl _ _ rfl rfl _ _ (hrz _) ?_)
  go_ret
  exact ⟨_, rfl, unhide HB, unhide O1⟩
/-- One of the lists that are put together. -/
structure Seg where
  g : Nat
  off : Nat
  cap : Nat
  ms : List R
def Seg.zero : Seg := ⟨0, 0, 0, []⟩
def cat (ss : List Seg) : List R := ss.flatMap Seg.ms
/-- The lists stand in block h, and read so. -/
def Segs (w : World) (h : Nat) (ss : List Seg) : Prop := ∀ i, i < ss.length → w.cell? ⟨h, i, none⟩ = some (.slice (some ⟨(ss.getD i Seg.zero).g, (ss.getD i Seg.zero).off, none⟩) (ss.getD i Seg.zero).ms.length (ss.getD i Seg.zero).cap) ∧ RM w (some ⟨(ss.getD i Seg.zero).g, (ss.getD i Seg.zero).off, none⟩) (ss.getD i Seg.zero).ms
theorem Segs.below {w w' : World} {h : Nat} {ss : List Seg} (hs : Segs w h ss) (hb : Below w.heap.size w w') : Segs w' h ss := fun i hi => by
  obtain ⟨h1, h2⟩ := hs i hi
  exact ⟨(hb.cell (p := ⟨h, i, none⟩) (World.block_lt_of_cell? _ _ h1)).trans h1, h2.below hb⟩
theorem cat_succ (ss : List Seg) (j : Nat) (h : j < ss.length) : cat (ss.take (j + 1)) = cat (ss.take j) ++ (ss.getD j Seg.zero).ms := by
  unfold cat
  rw [List.take_add_one, List.getElem?_eq_getElem h, List.flatMap_append, List.getD_eq_getElem?_getD, List.getElem?_eq_getElem h]; simp
theorem cat_le (ss : List Seg) (j : Nat) : (cat (ss.take j)).length ≤ (cat ss).length := by
  have e : cat ss = cat (ss.take j) ++ cat (ss.drop j) := by unfold cat; rw [← List.flatMap_append, List.take_append_drop]
  rw [e, List.length_append]; omega
theorem growA (n : Nat) (w : World) (hn : n ≤ 4096) : Calls Try.prog 138 #[.slice none 0 0, .int .i64 n] w fun e w' => ∃ v, e = .returned v ∧ Below w.heap.size w w' ∧ w'.ownsRow w.heap.size 67 3 v ([] : List R).length (flat []) := by
  by_cases h0 : n = 0
  · subst h0; exact grow0 w
  · exact growN n w (by omega) hn
set_option maxHeartbeats 4000000 in
theorem concat (h m : Nat) (ss : List Seg) (w : World) (hm : ss.length = m) (hm8 : m ≤ 8) (hs : Segs w h ss) (hl : (cat ss).length ≤ 4096) :
    Calls Try.prog 116 #[.slice (some ⟨h, 0, none⟩) m m] w fun e w' => ∃ v, e = .returned v ∧ Below w.heap.size w w' ∧ LstV w' v (cat ss) w.heap.size w'.heap.size := by
  have HS := hide hs
  have HM := hide hm
  have HL := hide hl
  clear hs hm hl
  go_enter Try.func116, Try.ntmps116
  go_wp2
  go_loopw [3, 11] (fun z i wr => w = wr ∧ ∃ j : Nat, j ≤ m ∧ i = .int .i64 j ∧ ∃ q : Nat, z = .int .i64 q ∧ Hid (q = (cat (ss.take j)).length)) (fun _ i _ => m - (intOf i).toNat)
  case atStart => exact ⟨rfl, 0, by omega, rfl, 0, rfl, hide (by simp [cat])⟩
  case round =>
    obtain ⟨rfl, j, hj, rfl, q, rfl, hq⟩ := hrel
    have hql : q ≤ 4096 := by rw [unhide hq]; exact Nat.le_trans (cat_le ss j) (unhide HL)
    by_cases hlt : (j : Int) < (m : Int)
    · have k0 : (0 : Int) ≤ (j : Int) := by omega
      have hlen : j < ss.length := by rw [unhide HM]; omega
      have hc := (unhide HS j hlen).1
      have hsn := cat_succ ss j hlen
      have hnl := Nat.le_trans (cat_le ss (j + 1)) (unhide HL)
      rw [hsn, List.length_append] at hnl
      have HQ : Hid (q + (ss.getD j Seg.zero).ms.length = (cat (ss.take (j + 1))).length) := hide (by rw [hsn, List.length_append, unhide hq])
      have hq2 : q + (ss.getD j Seg.zero).ms.length ≤ 4096 := by rw [unhide hq]; exact hnl
      clear hsn hnl
      generalize ss.getD j Seg.zero = s at *
      have hnn : ¬ ((q : Int) + (s.ms.length : Int) < 0) := by omega
      go_wp2_with fail
      go_roundw
      case rel => exact ⟨by first | trivial | rfl, j + 1, by omega, by go_num, q + s.ms.length, by go_num, HQ⟩
      case measure => simp [intOf]; omega
    · obtain rfl : j = m := by omega
      go_wp2_with fail
      refine (growA q _ hql).mono ?_
      rintro e w1 ⟨v1, rfl, b1, o1⟩
      have B1 := hide b1
      have O1 := hide o1
      clear b1 o1
      go_wp2_with fail
      go_loopw [6, 27] (fun v i w2 => ∃ t : Nat, t ≤ j ∧ i = .int .i64 t ∧ Hid (w2.ownsRow w.heap.size 67 3 v (cat (ss.take t)).length (flat (cat (ss.take t)))) ∧ Hid (Below w.heap.size w w2)) (fun _ i _ => j - (intOf i).toNat)
      case atStart => exact ⟨0, by omega, rfl, O1, B1⟩
      case round =>
        obtain ⟨t, ht, rfl, how, hbl⟩ := hrel
        by_cases hlt2 : (t : Int) < (j : Int)
        · have k0 : (0 : Int) ≤ (t : Int) := by omega
          have hlen : t < ss.length := by rw [unhide HM]; omega
          obtain ⟨hc, hrm⟩ := (unhide HS).below (unhide hbl) t hlen
          have HRM := hide hrm
          have HSN := hide (cat_succ ss t hlen)
          have hnl := Nat.le_trans (cat_le ss (t + 1)) (unhide HL)
          rw [unhide HSN, List.length_append] at hnl
          clear hrm
          have hbs := (unhide hbl).size
          generalize ss.getD t Seg.zero = s at *
          go_wp2_with (at_builtin; refine wpList_apS (unhide how) s.g s.off s.ms.length s.cap s.ms rfl (unhide HRM) (by omega) hbs rfl _ _ rfl rfl rfl ?_; intro v' w' ho hg; have HO : Hid (w'.ownsRow w.heap.size 67 3 v' (cat (ss.take (t + 1))).length (flat (cat (ss.take (t + 1))))) := hide (by rw [unhide HSN]; exact ho); have HB := hide (below_own (unhide hbl) (unhide how) hg (Nat.le_refl _) hbs); clear ho hg)
          go_roundw
          case rel => exact ⟨t + 1, by omega, by go_num, HO, HB⟩
          case measure => simp [intOf]; omega
        · obtain rfl : t = j := by omega
          have hl := lst_own rfl (unhide how)
          rw [List.take_of_length_le (by rw [unhide HM]; exact Nat.le_refl _)] at hl
          have HLL := hide hl
          clear hl
          go_wp2_with fail
          go_ret
          exact ⟨_, rfl, unhide hbl, unhide HLL⟩
theorem take_zero_off {w : World} {g off : Nat} {ms : List R} (h : RM w (some ⟨g, off, none⟩) ms) (n : Nat) : RM w (some ⟨g, off, none⟩) (ms.take n) := by
  have := h.part 0 n
  rw [List.drop_zero, Nat.zero_mul, Nat.add_zero] at this; exact this
theorem drop_off {w : World} {g off : Nat} {ms : List R} (h : RM w (some ⟨g, off, none⟩) ms) (i : Nat) : RM w (some ⟨g, off + i * 3, none⟩) (ms.drop i) := by
  have := h.part i ms.length
  rw [List.take_of_length_le (by simp)] at this; exact this
theorem segs3 {w : World} {g1 o1 c1 g2 o2 c2 g3 o3 c3 : Nat} {m1 m2 m3 : List R} (h1 : RM w (some ⟨g1, o1, none⟩) m1) (h2 : RM w (some ⟨g2, o2, none⟩) m2) (h3 : RM w (some ⟨g3, o3, none⟩) m3) :
    Segs (w.alloc (.cells #[.slice (some ⟨g1, o1, none⟩) m1.length c1, .slice (some ⟨g2, o2, none⟩) m2.length c2, .slice (some ⟨g3, o3, none⟩) m3.length c3] 40)) w.heap.size [⟨g1, o1, c1, m1⟩, ⟨g2, o2, c2, m2⟩, ⟨g3, o3, c3, m3⟩] := by
  intro i hi
  have hb : Below w.heap.size w (w.alloc (.cells #[.slice (some ⟨g1, o1, none⟩) m1.length c1, .slice (some ⟨g2, o2, none⟩) m2.length c2, .slice (some ⟨g3, o3, none⟩) m3.length c3] 40)) := (Below.refl _ _).alloc (Nat.le_refl _) _
  match i, hi with
  | 0, _ => exact ⟨by simp [World.cell?_alloc_new], h1.below hb⟩
  | 1, _ => exact ⟨by simp [World.cell?_alloc_new], h2.below hb⟩
  | 2, _ => exact ⟨by simp [World.cell?_alloc_new], h3.below hb⟩
theorem szS3 (W : World) : (sizeOf (Try.prog.elem 40)).run Try.prog W = .ok 3 W := by kernel_rfl
theorem slice_from (g off n cap p : Nat) (hp : p ≤ n) : ∃ o1, (∀ W, (Instr.slice 40 (.slice (some ⟨g, off, none⟩) n cap) (some (.int .i64 (p : Int))) none none).run Try.prog W = .ok (.slice (some ⟨g, o1, none⟩) (n - p) (cap - p)) W) ∧ (cap ≠ p → o1 = off + p * 3) := by
  refine ⟨if cap = p then off else off + p * 3, fun W => ?_, fun h => if_neg h⟩
  rw [run_slice_l W 40 (some ⟨g, off, none⟩) n cap (by kernel_rfl) .i64 (p : Int) (by omega) (by omega), szS3]
  simp only [Result.andThen, sliced, Int.toNat_natCast]
  split <;> simp [plain_add]
theorem slice_to (g off n cap p : Nat) (hp : p ≤ cap) (W : World) : (Instr.slice 40 (.slice (some ⟨g, off, none⟩) n cap) none (some (.int .i64 (p : Int))) none).run Try.prog W = .ok (.slice (some ⟨g, off, none⟩) p cap) W := by
  rw [run_slice_h W 40 (some ⟨g, off, none⟩) n cap (by kernel_rfl) .i64 (p : Int) (by omega) (by omega), szS3]
  simp only [Result.andThen, sliced, Int.toNat_natCast]
  split <;> simp [plain_add]
theorem rm_from {w : World} {g off o1 cap p : Nat} {ss : List R} (h : RM w (some ⟨g, off, none⟩) ss) (hc : ss.length ≤ cap) (hp : p ≤ ss.length) (ho : cap ≠ p → o1 = off + p * 3) : RM w (some ⟨g, o1, none⟩) (ss.drop p) := by
  by_cases e : cap = p
  · exact .inl (List.drop_eq_nil_of_le (by omega))
  · rw [ho e]; exact drop_off h p
set_option maxHeartbeats 8000000 in
theorem sourcesWith (g off : Nat) (ss : List R) (cap : Nat) (ad an til : Int) (w : World) (hcap : ss.length ≤ cap) (hs : srcB ss = true) (hr : RM w (some ⟨g, off, none⟩) ss) :
    Calls Try.prog 74 #[.slice (some ⟨g, off, none⟩) ss.length cap, .agg #[.int .i64 ad, .int .i64 an, .int .i64 til]] w fun e w' => ∃ v, e = .returned v ∧ Below w.heap.size w w' ∧ LstV w' v (withS ss ⟨ad, an, til⟩) w.heap.size w'.heap.size := by
  have h8 := src_len hs
  have HU := hide (up_src hs)
  have HW := hide (with_place (unhide HU) ⟨ad, an, til⟩)
  have HBA : Hid (Below w.heap.size w (w.alloc (.cells #[.int .i64 ad, .int .i64 an, .int .i64 til] 67))) := hide ((Below.refl _ _).alloc (Nat.le_refl _) _)
  have HX : Hid (Bx (w.alloc (.cells #[.int .i64 ad, .int .i64 an, .int .i64 til] 67)) w.heap.size ⟨ad, an, til⟩) := hide (bx_new w ⟨ad, an, til⟩ _)
  have HR := hide (hr.below (unhide HBA))
  clear hr hs
  obtain ⟨A, hA⟩ : ∃ A, withS ss ⟨ad, an, til⟩ = A := ⟨_, rfl⟩
  rw [hA] at HW ⊢
  clear hA
  dsimp only at HW
  obtain ⟨p, hp⟩ : ∃ p, placeS ss ad = p := ⟨_, rfl⟩
  have hpl := place_le ss ad
  rw [hp] at hpl HW
  have HP := hide hp
  clear hp
  obtain ⟨t, ht⟩ : ∃ t, thereS ss ad = t := ⟨_, rfl⟩
  have hpt : t = true → p < ss.length := fun e => by
    subst e; unfold thereS at ht; rw [Bool.and_eq_true] at ht; have := of_decide_eq_true ht.1; rw [unhide HP] at this; exact this
  rw [ht] at HW
  have HT := hide ht
  clear ht
  obtain ⟨n, hN⟩ : ∃ n, ss.length = n := ⟨_, rfl⟩
  have HN := hide hN
  rw [hN] at hcap h8 hpl hpt ⊢
  clear hN
  obtain ⟨o1, hs1, ho1⟩ := slice_from g off n cap p hpl
  have HO1 := hide ho1
  clear ho1
  have hs0 := slice_to g off n cap p (by omega)
  have lt1 : Hid ((ss.take p).length = p) := hide (by rw [List.length_take, unhide HN]; omega)
  cases t
  · go_enter Try.func74, Try.ntmps74
    go_wp2_with fail
    refine (by have := sourcePlace (some ⟨g, off, none⟩) ss cap ad _ (unhide HR) (unhide HU) (by rw [unhide HN]; omega); rw [unhide HN, unhide HP, unhide HT] at this; exact this : Calls Try.prog 84 #[.slice (some ⟨g, off, none⟩) n cap, .int .i64 ad] (w.alloc (.cells #[.int .i64 ad, .int .i64 an, .int .i64 til] 67)) _).mono ?_
    rintro e w3 ⟨rfl, b3⟩
    have hb3 := hide ((unhide HBA).trans (b3.mono (unhide HBA).size))
    have X3 := hide ((unhide HX).below b3)
    have R3 := hide ((unhide HR).below b3)
    clear b3
    obtain ⟨z0, z1, z2⟩ := unhide X3
    dsimp only at z0 z1 z2
    have H1 : Hid (RM w3 (some ⟨g, off, none⟩) (ss.take p)) := hide (take_zero_off (unhide R3) p)
    have H3 : Hid (RM w3 (some ⟨g, o1, none⟩) (ss.drop p)) := hide (rm_from (unhide R3) (by rw [unhide HN]; exact hcap) (by rw [unhide HN]; exact hpl) (unhide HO1))
    have ld1 : Hid ((ss.drop p).length = n - p) := hide (by rw [List.length_drop, unhide HN])
    have HB4 : Hid (Below w3.heap.size w3 (w3.alloc (.cells #[.int .i64 ad, .int .i64 an, .int .i64 til] 67)).drew) := hide (((Below.refl _ _).alloc (Nat.le_refl _) _).drew)
    have HSG : Hid (Segs ((w3.alloc (.cells #[.int .i64 ad, .int .i64 an, .int .i64 til] 67)).alloc (.cells #[.slice (some ⟨g, off, none⟩) p cap, .slice (some ⟨w3.heap.size, 0, none⟩) 1 1, .slice (some ⟨g, o1, none⟩) (n - p) (cap - p)] 40)).drew (w3.heap.size + 1) [⟨g, off, cap, ss.take p⟩, ⟨w3.heap.size, 0, 1, [⟨ad, an, til⟩]⟩, ⟨g, o1, cap - p, ss.drop p⟩]) := hide (by
      have RX := rm_new w3 ⟨ad, an, til⟩
      have hA : Below w3.heap.size w3 (w3.alloc (.cells #[.int .i64 ad, .int .i64 an, .int .i64 til] 67)) := (Below.refl _ _).alloc (Nat.le_refl _) _
      have := segs3 (w := w3.alloc (.cells #[.int .i64 ad, .int .i64 an, .int .i64 til] 67)) (c1 := cap) (c2 := 1) (c3 := cap - p) (o3 := o1) (g3 := g) ((unhide H1).below hA) RX (m3 := ss.drop p) ((unhide H3).below hA)
      rw [unhide lt1, unhide ld1, World.size_alloc] at this
      exact fun i hi => this i hi)
    have HCL : Hid ((cat [⟨g, off, cap, ss.take p⟩, ⟨w3.heap.size, 0, 1, [⟨ad, an, til⟩]⟩, ⟨g, o1, cap - p, ss.drop p⟩]).length ≤ 4096) := hide (by simp only [cat, List.flatMap_cons, List.flatMap_nil, List.length_append, List.length_nil, List.length_cons, unhide lt1, unhide ld1]; omega)
    have HEQ : Hid (cat [⟨g, off, cap, ss.take p⟩, ⟨w3.heap.size, 0, 1, [⟨ad, an, til⟩]⟩, ⟨g, o1, cap - p, ss.drop p⟩] = A) := hide (by rw [← unhide HW]; simp [cat])
    have HBX := hide (((unhide hb3).alloc (unhide hb3).size (.cells #[.int .i64 ad, .int .i64 an, .int .i64 til] 67)).alloc ((unhide hb3).alloc (unhide hb3).size (.cells #[.int .i64 ad, .int .i64 an, .int .i64 til] 67)).size (.cells #[.slice (some ⟨g, off, none⟩) p cap, .slice (some ⟨w3.heap.size, 0, none⟩) 1 1, .slice (some ⟨g, o1, none⟩) (n - p) (cap - p)] 40)).drew
    have X5 : Hid (Bx ((w3.alloc (.cells #[.int .i64 ad, .int .i64 an, .int .i64 til] 67)).alloc (.cells #[.slice (some ⟨g, off, none⟩) p cap, .slice (some ⟨w3.heap.size, 0, none⟩) 1 1, .slice (some ⟨g, o1, none⟩) (n - p) (cap - p)] 40)).drew w.heap.size ⟨ad, an, til⟩) := hide ((unhide X3).below (((Below.refl w3.heap.size w3).alloc (Nat.le_refl _) (.cells #[.int .i64 ad, .int .i64 an, .int .i64 til] 67)).alloc ((Below.refl w3.heap.size w3).alloc (Nat.le_refl _) (.cells #[.int .i64 ad, .int .i64 an, .int .i64 til] 67)).size _).drew)
    have X4 : Hid (Bx (w3.alloc (.cells #[.int .i64 ad, .int .i64 an, .int .i64 til] 67)).drew w.heap.size ⟨ad, an, til⟩) := hide ((unhide X3).below (unhide HB4))
    go_wp2_with fail
    refine wp_region_noPanic ?_
    refine wp_region_held_drew (S := fun w' => Bx w' w.heap.size ⟨ad, an, til⟩ ∧ w'.cell? ⟨w.heap.size, 0, none⟩ = some (.int .i64 ad) ∧ w'.cell? ⟨w.heap.size, 1, none⟩ = some (.int .i64 an) ∧ w'.cell? ⟨w.heap.size, 2, none⟩ = some (.int .i64 til)) (by kernel_rfl) (sBox (unhide X3).drew) (fun hHeld => ?_)
    (refine Rg.tk (i := 0) (d := 21) (v := ?_) rfl rfl (by kernel_rfl) (by kernel_rfl) (by kernel_rfl) (fun _ _ _ h => h) (by rfl) ?_ (by assumption) ?_; rotate_left; (focus (intro w0 hSw; (try dsimp only at hSw); go_simp; (try with_reducible rfl))); (try simp only [Act.put, List.setIfInBounds_toArray, List.set_cons_zero, List.set_cons_succ]))
    (refine Rg.tk (i := 1) (d := 22) (v := ?_) rfl rfl (by kernel_rfl) (by kernel_rfl) (by kernel_rfl) (fun _ _ _ h => h) (by rfl) ?_ (by assumption) ?_; rotate_left; (focus (intro w0 hSw; (try dsimp only at hSw); go_simp; (try with_reducible rfl))); (try simp only [Act.put, List.setIfInBounds_toArray, List.set_cons_zero, List.set_cons_succ]))
    (refine Rg.tk (i := 2) (d := 23) (v := ?_) rfl rfl (by kernel_rfl) (by kernel_rfl) (by kernel_rfl) (fun _ _ _ h => h) (by rfl) ?_ (by assumption) ?_; rotate_left; (focus (intro w0 hSw; (try dsimp only at hSw); go_simp; (try with_reducible rfl))); (try simp only [Act.put, List.setIfInBounds_toArray, List.set_cons_zero, List.set_cons_succ]))
    (refine Rg.tk (i := 3) (d := 24) (v := ?_) rfl rfl (by kernel_rfl) (by kernel_rfl) (by kernel_rfl) (fun _ _ _ h => h) (by rfl) ?_ (by assumption) ?_; rotate_left; (focus (intro w0 hSw; (try dsimp only at hSw); go_simp; (try with_reducible rfl))); (try simp only [Act.put, List.setIfInBounds_toArray, List.set_cons_zero, List.set_cons_succ]))
    (refine Rg.tk (i := 5) (d := 26) (v := ?_) rfl rfl (by kernel_rfl) (by kernel_rfl) (by kernel_rfl) (fun _ _ _ h => h) (by rfl) ?_ (by assumption) ?_; rotate_left; (focus (intro w0 hSw; (try dsimp only at hSw); go_simp; (try with_reducible rfl))); (try simp only [Act.put, List.setIfInBounds_toArray, List.set_cons_zero, List.set_cons_succ]))
    (refine wpAnyH_ready (rs := [4]) (by kernel_rfl) (by simp) ?_; refine AllReadyH.cons (o := _) rfl (fun K hK => ?_) AllReadyH.nil; go_simp)
    refine hK.out _ _ (sBox (unhide X4)) (fun hHeld => ?_)
    clear hK K
    (try simp only [Act.put, List.setIfInBounds_toArray, List.set_cons_zero, List.set_cons_succ])
    (refine wpAnyH_ready (rs := [6]) (by kernel_rfl) (by simp) ?_; refine AllReadyH.cons (o := _) rfl (fun K hK => ?_) AllReadyH.nil; go_simp)
    refine hK.out _ _ (sBox (unhide X5)) (fun hHeld => ?_)
    clear hK K
    (try simp only [Act.put, List.setIfInBounds_toArray, List.set_cons_zero, List.set_cons_succ])
    (refine wpAnyH_ready (rs := [7]) (by kernel_rfl) (by simp) ?_; refine AllReadyH.cons (o := _) rfl (fun K hK => ?_) AllReadyH.nil; go_simp)
    refine (concat (w3.heap.size + 1) 3 _ _ rfl (by omega) (unhide HSG) (unhide HCL)).mono ?_
    rintro e w6 ⟨v, rfl, b6, l6⟩
    rw [unhide HEQ] at l6
    have hb6 := hide ((unhide HBX).trans (b6.mono (unhide HBX).size))
    have HL := hide (l6.mono (unhide HBX).size (Nat.le_refl _))
    have X6 := hide ((unhide X5).below b6)
    clear b6 l6
    refine hK.out _ _ (sBox (unhide X6)) (fun hHeld => ?_)
    clear hK K
    (try simp only [Act.put, List.setIfInBounds_toArray, List.set_cons_zero, List.set_cons_succ])
    (refine Rg.tk (i := 8) (d := 4) (v := ?_) rfl rfl (by kernel_rfl) (by kernel_rfl) (by kernel_rfl) (fun _ _ _ h => h) (by rfl) ?_ (by assumption) ?_; rotate_left; (focus (intro w0 hSw; (try dsimp only at hSw); go_simp; (try with_reducible rfl))); (try simp only [Act.put, List.setIfInBounds_toArray, List.set_cons_zero, List.set_cons_succ]))
    refine wpAnyH_done (by kernel_rfl) (NoPanic.normal ?_) _
    clear hHeld
    go_wp2_with fail
    go_ret
    exact ⟨_, rfl, unhide hb6, unhide HL⟩
  · have hlt := hpt rfl
    obtain ⟨o2, hs2, ho2⟩ := slice_from g o1 (n - p) (cap - p) 1 (by omega)
    rw [Nat.sub_sub, Nat.sub_sub] at hs2
    have hs3 : ∀ W, (Instr.slice 40 (.slice (some ⟨g, o1, none⟩) (n - p) (cap - p)) (some (.int .i64 1)) none none).run Try.prog W = .ok (.slice (some ⟨g, o2, none⟩) (n - (p + 1)) (cap - (p + 1))) W := hs2
    clear hs2
    have HO2 := hide ho2
    clear ho2
    go_enter Try.func74, Try.ntmps74
    go_wp2_with fail
    refine (by have := sourcePlace (some ⟨g, off, none⟩) ss cap ad _ (unhide HR) (unhide HU) (by rw [unhide HN]; omega); rw [unhide HN, unhide HP, unhide HT] at this; exact this : Calls Try.prog 84 #[.slice (some ⟨g, off, none⟩) n cap, .int .i64 ad] (w.alloc (.cells #[.int .i64 ad, .int .i64 an, .int .i64 til] 67)) _).mono ?_
    rintro e w3 ⟨rfl, b3⟩
    have hb3 := hide ((unhide HBA).trans (b3.mono (unhide HBA).size))
    have X3 := hide ((unhide HX).below b3)
    have R3 := hide ((unhide HR).below b3)
    clear b3
    obtain ⟨z0, z1, z2⟩ := unhide X3
    dsimp only at z0 z1 z2
    have H1 : Hid (RM w3 (some ⟨g, off, none⟩) (ss.take p)) := hide (take_zero_off (unhide R3) p)
    have H3 : Hid (RM w3 (some ⟨g, o2, none⟩) (ss.drop (p + 1))) := hide (by
      have h1 := rm_from (o1 := o1) (unhide R3) (cap := cap) (p := p) (by rw [unhide HN]; exact hcap) (by rw [unhide HN]; exact hpl) (unhide HO1)
      have h2 := rm_from (o1 := o2) h1 (cap := cap - p) (p := 1) (by rw [List.length_drop, unhide HN]; omega) (by rw [List.length_drop, unhide HN]; omega) (unhide HO2)
      rw [List.drop_drop] at h2; exact h2)
    have ld1 : Hid ((ss.drop (p + 1)).length = n - (p + 1)) := hide (by rw [List.length_drop, unhide HN])
    have HB4 : Hid (Below w3.heap.size w3 (w3.alloc (.cells #[.int .i64 ad, .int .i64 an, .int .i64 til] 67)).drew) := hide (((Below.refl _ _).alloc (Nat.le_refl _) _).drew)
    have HSG : Hid (Segs ((w3.alloc (.cells #[.int .i64 ad, .int .i64 an, .int .i64 til] 67)).alloc (.cells #[.slice (some ⟨g, off, none⟩) p cap, .slice (some ⟨w3.heap.size, 0, none⟩) 1 1, .slice (some ⟨g, o2, none⟩) (n - (p + 1)) (cap - (p + 1))] 40)).drew (w3.heap.size + 1) [⟨g, off, cap, ss.take p⟩, ⟨w3.heap.size, 0, 1, [⟨ad, an, til⟩]⟩, ⟨g, o2, cap - (p + 1), ss.drop (p + 1)⟩]) := hide (by
      have RX := rm_new w3 ⟨ad, an, til⟩
      have hA : Below w3.heap.size w3 (w3.alloc (.cells #[.int .i64 ad, .int .i64 an, .int .i64 til] 67)) := (Below.refl _ _).alloc (Nat.le_refl _) _
      have := segs3 (w := w3.alloc (.cells #[.int .i64 ad, .int .i64 an, .int .i64 til] 67)) (c1 := cap) (c2 := 1) (c3 := cap - (p + 1)) (o3 := o2) (g3 := g) ((unhide H1).below hA) RX (m3 := ss.drop (p + 1)) ((unhide H3).below hA)
      rw [unhide lt1, unhide ld1, World.size_alloc] at this
      exact fun i hi => this i hi)
    have HCL : Hid ((cat [⟨g, off, cap, ss.take p⟩, ⟨w3.heap.size, 0, 1, [⟨ad, an, til⟩]⟩, ⟨g, o2, cap - (p + 1), ss.drop (p + 1)⟩]).length ≤ 4096) := hide (by simp only [cat, List.flatMap_cons, List.flatMap_nil, List.length_append, List.length_nil, List.length_cons, unhide lt1, unhide ld1]; omega)
    have HEQ : Hid (cat [⟨g, off, cap, ss.take p⟩, ⟨w3.heap.size, 0, 1, [⟨ad, an, til⟩]⟩, ⟨g, o2, cap - (p + 1), ss.drop (p + 1)⟩] = A) := hide (by rw [← unhide HW]; simp [cat])
    have HBX := hide (((unhide hb3).alloc (unhide hb3).size (.cells #[.int .i64 ad, .int .i64 an, .int .i64 til] 67)).alloc ((unhide hb3).alloc (unhide hb3).size (.cells #[.int .i64 ad, .int .i64 an, .int .i64 til] 67)).size (.cells #[.slice (some ⟨g, off, none⟩) p cap, .slice (some ⟨w3.heap.size, 0, none⟩) 1 1, .slice (some ⟨g, o2, none⟩) (n - (p + 1)) (cap - (p + 1))] 40)).drew
    have X5 : Hid (Bx ((w3.alloc (.cells #[.int .i64 ad, .int .i64 an, .int .i64 til] 67)).alloc (.cells #[.slice (some ⟨g, off, none⟩) p cap, .slice (some ⟨w3.heap.size, 0, none⟩) 1 1, .slice (some ⟨g, o2, none⟩) (n - (p + 1)) (cap - (p + 1))] 40)).drew w.heap.size ⟨ad, an, til⟩) := hide ((unhide X3).below (((Below.refl w3.heap.size w3).alloc (Nat.le_refl _) (.cells #[.int .i64 ad, .int .i64 an, .int .i64 til] 67)).alloc ((Below.refl w3.heap.size w3).alloc (Nat.le_refl _) (.cells #[.int .i64 ad, .int .i64 an, .int .i64 til] 67)).size _).drew)
    have X4 : Hid (Bx (w3.alloc (.cells #[.int .i64 ad, .int .i64 an, .int .i64 til] 67)).drew w.heap.size ⟨ad, an, til⟩) := hide ((unhide X3).below (unhide HB4))
    go_wp2_with fail
    refine wp_region_noPanic ?_
    refine wp_region_held_drew (S := fun w' => Bx w' w.heap.size ⟨ad, an, til⟩ ∧ w'.cell? ⟨w.heap.size, 0, none⟩ = some (.int .i64 ad) ∧ w'.cell? ⟨w.heap.size, 1, none⟩ = some (.int .i64 an) ∧ w'.cell? ⟨w.heap.size, 2, none⟩ = some (.int .i64 til)) (by kernel_rfl) (sBox (unhide X3).drew) (fun hHeld => ?_)
    (refine Rg.tk (i := 0) (d := 21) (v := ?_) rfl rfl (by kernel_rfl) (by kernel_rfl) (by kernel_rfl) (fun _ _ _ h => h) (by rfl) ?_ (by assumption) ?_; rotate_left; (focus (intro w0 hSw; (try dsimp only at hSw); go_simp; (try with_reducible rfl))); (try simp only [Act.put, List.setIfInBounds_toArray, List.set_cons_zero, List.set_cons_succ]))
    (refine Rg.tk (i := 1) (d := 22) (v := ?_) rfl rfl (by kernel_rfl) (by kernel_rfl) (by kernel_rfl) (fun _ _ _ h => h) (by rfl) ?_ (by assumption) ?_; rotate_left; (focus (intro w0 hSw; (try dsimp only at hSw); go_simp; (try with_reducible rfl))); (try simp only [Act.put, List.setIfInBounds_toArray, List.set_cons_zero, List.set_cons_succ]))
    (refine Rg.tk (i := 2) (d := 23) (v := ?_) rfl rfl (by kernel_rfl) (by kernel_rfl) (by kernel_rfl) (fun _ _ _ h => h) (by rfl) ?_ (by assumption) ?_; rotate_left; (focus (intro w0 hSw; (try dsimp only at hSw); go_simp; (try with_reducible rfl))); (try simp only [Act.put, List.setIfInBounds_toArray, List.set_cons_zero, List.set_cons_succ]))
    (refine Rg.tk (i := 3) (d := 24) (v := ?_) rfl rfl (by kernel_rfl) (by kernel_rfl) (by kernel_rfl) (fun _ _ _ h => h) (by rfl) ?_ (by assumption) ?_; rotate_left; (focus (intro w0 hSw; (try dsimp only at hSw); go_simp; (try with_reducible rfl))); (try simp only [Act.put, List.setIfInBounds_toArray, List.set_cons_zero, List.set_cons_succ]))
    (refine Rg.tk (i := 5) (d := 26) (v := ?_) rfl rfl (by kernel_rfl) (by kernel_rfl) (by kernel_rfl) (fun _ _ _ h => h) (by rfl) ?_ (by assumption) ?_; rotate_left; (focus (intro w0 hSw; (try dsimp only at hSw); go_simp; (try with_reducible rfl))); (try simp only [Act.put, List.setIfInBounds_toArray, List.set_cons_zero, List.set_cons_succ]))
    (refine wpAnyH_ready (rs := [4]) (by kernel_rfl) (by simp) ?_; refine AllReadyH.cons (o := _) rfl (fun K hK => ?_) AllReadyH.nil; go_simp)
    refine hK.out _ _ (sBox (unhide X4)) (fun hHeld => ?_)
    clear hK K
    (try simp only [Act.put, List.setIfInBounds_toArray, List.set_cons_zero, List.set_cons_succ])
    (refine wpAnyH_ready (rs := [6]) (by kernel_rfl) (by simp) ?_; refine AllReadyH.cons (o := _) rfl (fun K hK => ?_) AllReadyH.nil; go_simp)
    refine hK.out _ _ (sBox (unhide X5)) (fun hHeld => ?_)
    clear hK K
    (try simp only [Act.put, List.setIfInBounds_toArray, List.set_cons_zero, List.set_cons_succ])
    (refine wpAnyH_ready (rs := [7]) (by kernel_rfl) (by simp) ?_; refine AllReadyH.cons (o := _) rfl (fun K hK => ?_) AllReadyH.nil; go_simp)
    refine (concat (w3.heap.size + 1) 3 _ _ rfl (by omega) (unhide HSG) (unhide HCL)).mono ?_
    rintro e w6 ⟨v, rfl, b6, l6⟩
    rw [unhide HEQ] at l6
    have hb6 := hide ((unhide HBX).trans (b6.mono (unhide HBX).size))
    have HL := hide (l6.mono (unhide HBX).size (Nat.le_refl _))
    have X6 := hide ((unhide X5).below b6)
    clear b6 l6
    refine hK.out _ _ (sBox (unhide X6)) (fun hHeld => ?_)
    clear hK K
    (try simp only [Act.put, List.setIfInBounds_toArray, List.set_cons_zero, List.set_cons_succ])
    (refine Rg.tk (i := 8) (d := 4) (v := ?_) rfl rfl (by kernel_rfl) (by kernel_rfl) (by kernel_rfl) (fun _ _ _ h => h) (by rfl) ?_ (by assumption) ?_; rotate_left; (focus (intro w0 hSw; (try dsimp only at hSw); go_simp; (try with_reducible rfl))); (try simp only [Act.put, List.setIfInBounds_toArray, List.set_cons_zero, List.set_cons_succ]))
    refine wpAnyH_done (by kernel_rfl) (NoPanic.normal ?_) _
    clear hHeld
    go_wp2_with fail
    go_ret
    exact ⟨_, rfl, unhide hb6, unhide HL⟩
end Tp
end Go.Proofs.Ytmelbilepfnmjap
