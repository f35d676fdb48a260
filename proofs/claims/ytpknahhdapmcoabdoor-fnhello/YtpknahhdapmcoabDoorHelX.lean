/-
  A hello's bytes tell it again; cut they tell none. Who is symmetric, address by address. The laws' look at whether two hellos are alike.
-/
import Derived.Test.YtpknahhdapmcoabDoorHelH
import Derived.Test.YtpknahhdapmcoabDoorHelN
import Derived.Test.YtpknahhdapmcoabDoorHelS
import Derived.Deep.QuietTactic
import Derived.BigQuiet
namespace Go.Proofs.YtpknahhdapmcoabDoor
open Go.ChangeShapes Go.WideShapes Go.ChangeAt Go.RowKit
set_option linter.unusedVariables false
set_option linter.unusedSimpArgs false
attribute [local go_sem ↓] Go.wp_at_zero Go.wp_at_succ
namespace Hl
open W1 Nb De
theorem fld_nums {zs : List Int} (h : ∀ z ∈ zs, 0 ≤ z ∧ z ≤ 255) (i : Nat) : fld (strOfNums zs).data.toList i = zs.getD i 0 := by
  unfold fld strOfNums
  simp only [List.getD_eq_getElem?_getD]
  by_cases hi : i < zs.length
  · have hz := h zs[i] (List.getElem_mem hi)
    simp [hi]
    omega
  · simp [hi]
theorem bit_lo (b : Bool) : 0 ≤ bitI b := by unfold bitI; split <;> omega
theorem bit_hi (b : Bool) : bitI b ≤ 1 := by unfold bitI; split <;> omega
theorem nums_in {x y : Int} {ms : List R} (h : helB x y ms = true) : ∀ z ∈ helNums x y ms ms.length, 0 ≤ z ∧ z ≤ 255 := by
  have h8 := hel_len h
  have hx := hel_will h
  have hy := hel_valid h
  have ht := Tim.tcode_lt (n := y) (by omega)
  intro z hz
  unfold helNums at hz
  rw [List.take_length] at hz
  rcases List.mem_append.1 hz with h1 | h1
  · simp at h1
    rcases h1 with rfl | rfl | rfl <;> omega
  · obtain ⟨m, hm, h2⟩ := List.mem_flatMap.1 h1
    obtain ⟨i, hi, rfl⟩ := List.mem_iff_getElem.1 hm
    have hok := Ri.all_ok (hel_all h) (j := i) hi
    rw [List.getD_eq_getElem?_getD, List.getElem?_eq_getElem hi] at hok
    simp only [Option.getD_some] at hok
    have ha := ok_ad hok
    have hs := ok_st hok
    have hmt := ok_mt hok
    have hc := (Mtr.mcode_is (n := ms[i].mt) (by omega) (by omega)).1
    have b0 := bit_lo (ms[i]'hi).mp
    have b1 := bit_hi (ms[i]'hi).mp
    unfold nbNums at h2
    simp at h2
    rcases h2 with rfl | rfl | rfl | rfl <;> omega
theorem flat_at : ∀ (ms : List R) (k r : Nat), k < ms.length → r < 4 → ((ms.flatMap nbNums).getD (4 * k + r) 0) = (nbNums (ms.getD k R.zero)).getD r 0
  | [], k, r, hk, _ => by simp at hk
  | m :: t, 0, r, _, hr => by
    rw [List.flatMap_cons, List.getD_eq_getElem?_getD, List.getElem?_append_left (by simp [nbNums]; omega), ← List.getD_eq_getElem?_getD]
    simp
  | m :: t, k + 1, r, hk, hr => by
    rw [List.flatMap_cons, List.getD_eq_getElem?_getD, List.getElem?_append_right (by simp [nbNums]; omega), ← List.getD_eq_getElem?_getD]
    have e : 4 * (k + 1) + r - (nbNums m).length = 4 * k + r := by simp [nbNums]; omega
    rw [e, flat_at t k r (by simpa using hk) hr]
    simp
theorem flat_len : ∀ l : List R, (l.flatMap nbNums).length = 4 * l.length
  | [] => rfl
  | m :: t => by rw [List.flatMap_cons, List.length_append, flat_len t]; simp [nbNums]; omega
theorem nums_at {x y : Int} {ms : List R} {k r : Nat} (hk : k < ms.length) (hr : r < 4) : (helNums x y ms ms.length).getD (3 + (4 * k + r)) 0 = (nbNums (ms.getD k R.zero)).getD r 0 := by
  unfold helNums
  rw [List.take_length, List.getD_eq_getElem?_getD, List.getElem?_append_right (by simp), ← List.getD_eq_getElem?_getD]
  have e : 3 + (4 * k + r) - [x, (Tim.tcode y : Int), (ms.length : Int)].length = 4 * k + r := by simp
  rw [e]; exact flat_at ms k r hk hr
/-- The bytes of a right one. -/
def encB (x y : Int) (ms : List R) : List UInt8 := (strOfNums (helNums x y ms ms.length)).data.toList
theorem enc_len (x y : Int) (ms : List R) : (encB x y ms).length = 3 + 4 * ms.length := by
  have h : (helNums x y ms ms.length).length = 3 + 4 * ms.length := by
    unfold helNums
    rw [List.take_length, List.length_append, flat_len]; rfl
  unfold encB strOfNums
  simpa using h
theorem enc_fld {x y : Int} {ms : List R} (h : helB x y ms = true) (i : Nat) : fld (encB x y ms) i = (helNums x y ms ms.length).getD i 0 := fld_nums (nums_in h) i
theorem enc_head {x y : Int} {ms : List R} (h : helB x y ms = true) : fld (encB x y ms) 0 = x ∧ fld (encB x y ms) 1 = (Tim.tcode y : Int) ∧ fld (encB x y ms) 2 = (ms.length : Int) := by
  refine ⟨?_, ?_, ?_⟩ <;> (rw [enc_fld h]; unfold helNums; simp)
theorem enc_nb {x y : Int} {ms : List R} (h : helB x y ms = true) {k : Nat} (hk : k < ms.length) : grp (encB x y ms) k = ms.getD k R.zero ∧ two (encB x y ms) (5 + 4 * k) ≤ 4095 := by
  have h0 := nums_at (x := x) (y := y) hk (r := 0) (by omega)
  have h1 := nums_at (x := x) (y := y) hk (r := 1) (by omega)
  have h2 := nums_at (x := x) (y := y) hk (r := 2) (by omega)
  have h3 := nums_at (x := x) (y := y) hk (r := 3) (by omega)
  have hok := Ri.all_ok (hel_all h) hk
  have hs := ok_st hok
  have hmt := ok_mt hok
  have hx := ok_ex hok
  have hc := (Mtr.mcode_is (n := (ms.getD k R.zero).mt) (by omega) (by omega)).1
  have f0 : fld (encB x y ms) (3 + 4 * k) = (ms.getD k R.zero).ad := by rw [enc_fld h, show 3 + 4 * k = 3 + (4 * k + 0) by omega, h0]; rfl
  have f1 : fld (encB x y ms) (4 + 4 * k) = (ms.getD k R.zero).st + 128 * bitI (ms.getD k R.zero).mp := by rw [enc_fld h, show 4 + 4 * k = 3 + (4 * k + 1) by omega, h1]; rfl
  have f2 : two (encB x y ms) (5 + 4 * k) = (Mtr.mcode (ms.getD k R.zero).mt : Int) := by
    unfold two
    rw [enc_fld h, enc_fld h, show 5 + 4 * k = 3 + (4 * k + 2) by omega, show 3 + (4 * k + 2) + 1 = 3 + (4 * k + 3) by omega, h2, h3]
    show 256 * ((Mtr.mcode (ms.getD k R.zero).mt : Int) / 256) + (Mtr.mcode (ms.getD k R.zero).mt : Int) % 256 = _
    omega
  refine ⟨?_, by rw [f2]; omega⟩
  unfold grp
  rw [f0, f1, f2, Int.toNat_natCast, hx]
  generalize ms.getD k R.zero = m at *
  obtain ⟨ad, st, mt, mp⟩ := m
  dsimp only at *
  cases mp
  · have e : bitI false = 0 := rfl
    rw [e, show (st + 128 * 0) % 128 = st by omega, decide_eq_false (by omega)]
  · have e : bitI true = 1 := rfl
    rw [e, show (st + 128 * 1) % 128 = st by omega, decide_eq_true (by omega)]
theorem dec_enc {x y : Int} {ms : List R} (h : helB x y ms = true) : decG (encB x y ms) = true ∧ decX (encB x y ms) = x ∧ decY (encB x y ms) = y ∧ decL (encB x y ms) = ms ∧ decE (encB x y ms) = 0 := by
  have h8 := hel_len h
  have hy := hel_valid h
  have ht := Tim.tcode_lt (n := y) (by omega)
  obtain ⟨e0, e1, e2⟩ := enc_head h
  have hl := enc_len x y ms
  have hn : nOf (encB x y ms) = ms.length := by unfold nOf; rw [e2]; omega
  have htm : timOf (encB x y ms) = y := by unfold timOf; rw [e1, Int.toNat_natCast]; exact hel_exact h
  have hg : grps (encB x y ms) ms.length = ms := by
    apply List.ext_getElem?
    intro k
    by_cases hk : k < ms.length
    · have hd := grps_at (encB x y ms) ms.length k hk
      rw [(enc_nb h hk).1] at hd
      rw [List.getD_eq_getElem?_getD, List.getD_eq_getElem?_getD, List.getElem?_eq_getElem (by rw [grps_len]; exact hk), List.getElem?_eq_getElem hk] at hd
      rw [List.getElem?_eq_getElem (by rw [grps_len]; exact hk), List.getElem?_eq_getElem hk]
      simpa using hd
    · rw [List.getElem?_eq_none (by rw [grps_len]; omega), List.getElem?_eq_none (by omega)]
  have hc : codesB (encB x y ms) ms.length = true := codes_of (fun k hk => (enc_nb h hk).2)
  have hG : decG (encB x y ms) = true := by
    unfold decG lenB exB
    rw [hn, htm, hg, hc, e0, h, e1, e2, decide_eq_true (by omega), decide_eq_true (by omega), decide_eq_true (by omega), Int.toNat_natCast]; simp
  obtain ⟨d1, d2, d3⟩ := dec_yes hG
  refine ⟨hG, by rw [d1, e0], by rw [d2, htm], by rw [d3, hn, hg], ?_⟩
  unfold decE
  rw [if_neg (by omega), if_pos hG]
theorem dec_cut {bs : List UInt8} (hl : lenB bs = true) (hs : bs.length ≤ 65536) {k : Nat} (hk : k < bs.length) : decX (bs.take k) = 0 ∧ decY (bs.take k) = 0 ∧ decL (bs.take k) = [] ∧ decE (bs.take k) = 3 := by
  have hn := len_eq hl
  have hnn := n_eq bs
  have hG : decG (bs.take k) = false := by
    unfold decG
    have hlb : lenB (bs.take k) = false := by
      unfold lenB
      have htl : (bs.take k).length = k := by rw [List.length_take]; omega
      rw [htl]
      by_cases h4 : 3 ≤ k
      · have hf : fld (bs.take k) 2 = fld bs 2 := by
          unfold fld; rw [List.getD_eq_getElem?_getD, List.getD_eq_getElem?_getD, List.getElem?_take_of_lt (by omega)]
        rw [hf, decide_eq_false (p := (k : Int) = _) (by omega), Bool.and_false]
      · rw [decide_eq_false h4]; rfl
    rw [hlb]; rfl
  obtain ⟨d1, d2, d3⟩ := dec_no hG
  refine ⟨d1, d2, d3, ?_⟩
  unfold decE
  have htl : (bs.take k).length = k := by rw [List.length_take]; omega
  rw [htl, if_neg (by omega), if_neg (by rw [hG]; simp)]
theorem lenB_enc {x y : Int} {ms : List R} (h : helB x y ms = true) : lenB (encB x y ms) = true := by
  have := (dec_enc h).1
  unfold decG at this
  rw [Bool.and_eq_true] at this
  exact this.1
/-- How many of some numbers are below one. -/
def cntL (zs : List Int) (i : Int) : Nat := (zs.filter fun z => decide (z < i)).length
theorem cnt_none {zs : List Int} {i : Int} (h : ∀ z ∈ zs, i ≤ z) : cntL zs i = 0 := by
  unfold cntL
  rw [List.length_eq_zero_iff, List.filter_eq_nil_iff]
  intro z hz; have := h z hz; simp; omega
theorem cnt_all {zs : List Int} {i : Int} (h : ∀ z ∈ zs, z < i) : cntL zs i = zs.length := by
  unfold cntL
  rw [List.filter_eq_self.2]
  intro z hz; simpa using h z hz
theorem cnt_at {i : Int} : ∀ {zs : List Int}, zs.Pairwise (· < ·) → i ∈ zs → zs[cntL zs i]? = some i
  | [], _, h => by cases h
  | z :: t, hp, h => by
    rw [List.pairwise_cons] at hp
    rcases List.mem_cons.1 h with rfl | h
    · rw [cnt_none (fun a ha => by rcases List.mem_cons.1 ha with rfl | ha; exact Int.le_refl _; have := hp.1 a ha; omega)]; rfl
    · have hz := hp.1 i h
      have e : cntL (z :: t) i = cntL t i + 1 := by unfold cntL; rw [List.filter_cons_of_pos (by simpa using hz)]; rfl
      rw [e]; simpa using cnt_at hp.2 h
theorem cnt_in {i : Int} : ∀ {zs : List Int}, zs.Pairwise (· < ·) → i ∈ zs → cntL zs (i + 1) = cntL zs i + 1
  | [], _, h => by cases h
  | z :: t, hp, h => by
    rw [List.pairwise_cons] at hp
    rcases List.mem_cons.1 h with rfl | h
    · have e1 : cntL (i :: t) (i + 1) = cntL t (i + 1) + 1 := by unfold cntL; rw [List.filter_cons_of_pos (by simp; omega)]; rfl
      rw [e1, cnt_none (fun a ha => by have := hp.1 a ha; omega), cnt_none (fun a ha => by rcases List.mem_cons.1 ha with rfl | ha; exact Int.le_refl _; have := hp.1 a ha; omega)]
    · have hz := hp.1 i h
      have e : ∀ k, z < k → cntL (z :: t) k = cntL t k + 1 := fun k hk => by unfold cntL; rw [List.filter_cons_of_pos (by simpa using hk)]; rfl
      rw [e _ hz, e _ (by omega), cnt_in hp.2 h]
theorem cnt_out {i : Int} : ∀ {zs : List Int}, i ∉ zs → cntL zs (i + 1) = cntL zs i
  | [], _ => rfl
  | z :: t, h => by
    have h1 : z ≠ i := fun e => h (by rw [e]; exact List.mem_cons_self)
    have ih := cnt_out (zs := t) (i := i) (fun hm => h (List.mem_cons_of_mem _ hm))
    unfold cntL at ih ⊢
    by_cases c : z < i
    · rw [List.filter_cons_of_pos (by simp; omega), List.filter_cons_of_pos (by simpa using c), List.length_cons, List.length_cons, ih]
    · rw [List.filter_cons_of_neg (by simp; omega), List.filter_cons_of_neg (by simpa using c), ih]
theorem ad_pair {ms : List R} (h : allN ms ms.length = true) : ms.Pairwise (fun a b => a.ad < b.ad) := by
  rw [List.pairwise_iff_getElem]
  intro i j hi hj hij
  have := Ri.rises h j i hij hj
  rw [List.getD_eq_getElem?_getD, List.getD_eq_getElem?_getD, List.getElem?_eq_getElem hi, List.getElem?_eq_getElem hj] at this
  simpa using this
theorem sym_pair {ms : List R} (h : allN ms ms.length = true) : (symN ms ms.length).Pairwise (· < ·) := by
  unfold symN
  rw [List.take_length, List.pairwise_map]
  exact List.Pairwise.filter _ (ad_pair h)
theorem sym_mem {ms : List R} {i : Int} : i ∈ symN ms ms.length ↔ ∃ m ∈ ms, isSym m = true ∧ m.ad = i := by
  unfold symN
  rw [List.take_length]
  simp [List.mem_map, List.mem_filter, and_assoc]
/-- The neighbor with an address, and whether that address is told as symmetric. -/
theorem sym_nb {x y : Int} {ms : List R} (h : helB x y ms = true) (i : Int) : (nbE x y ms i = 0 ∧ (i ∈ symN ms ms.length ↔ (nbA x y ms i).st = 2)) ∨ (nbE x y ms i = 5 ∧ i ∉ symN ms ms.length) := by
  have hp := ad_pair (hel_all h)
  unfold nbE nbA nbF
  rw [if_pos h, if_pos h]
  cases hf : ms.find? (isAd i) with
  | none =>
    right
    refine ⟨rfl, fun hm => ?_⟩
    obtain ⟨m, h1, _, h3⟩ := sym_mem.1 hm
    have := List.find?_eq_none.1 hf m h1
    unfold isAd at this
    simp [h3] at this
  | some m =>
    left
    have hm := List.mem_of_find?_eq_some hf
    have ha : m.ad = i := by have := List.find?_some hf; unfold isAd at this; simpa using this
    refine ⟨rfl, ?_⟩
    show i ∈ symN ms ms.length ↔ m.st = 2
    constructor
    · intro hs
      obtain ⟨m', h1, h2, h3⟩ := sym_mem.1 hs
      have e : m' = m := by
        obtain ⟨a, ha1, rfl⟩ := List.mem_iff_getElem.1 h1
        obtain ⟨b, hb1, rfl⟩ := List.mem_iff_getElem.1 hm
        rcases Nat.lt_trichotomy a b with c | c | c
        · have := List.pairwise_iff_getElem.1 hp a b ha1 hb1 c; omega
        · subst c; rfl
        · have := List.pairwise_iff_getElem.1 hp b a hb1 ha1 c; omega
      rw [← e]; unfold isSym at h2; simpa using h2
    · intro hs
      exact sym_mem.2 ⟨m, hm, by unfold isSym; simpa using hs, ha⟩
theorem sym_in {x y : Int} {ms : List R} (h : helB x y ms = true) {i : Int} (hi : i ∈ symN ms ms.length) : 1 ≤ i ∧ i ≤ 8 := by
  obtain ⟨m, h1, _, rfl⟩ := sym_mem.1 hi
  obtain ⟨k, hk, rfl⟩ := List.mem_iff_getElem.1 h1
  have := ok_ad (Ri.all_ok (hel_all h) hk)
  rw [List.getD_eq_getElem?_getD, List.getElem?_eq_getElem hk] at this
  exact this
theorem s22 {w : World} {b c : Nat} {x y x' y' : Int} {v v' : Value} (h : Bx3 w b x y v) (h' : Bx3 w c x' y' v') : w.cell? ⟨b, 2, none⟩ = some v ∧ w.cell? ⟨c, 2, none⟩ = some v' := ⟨h.2.2, h'.2.2⟩
set_option maxRecDepth 100000 in
set_option maxHeartbeats 1000000 in
theorem sameHello (x y : Int) (a b : Option Addr) (ms : List R) (ca cb : Nat) (w : World) (hm : ms.length ≤ 1048576) (hr : RM w a ms) (hr' : RM w b ms) :
    Calls Tryd.prog 10 #[.agg #[.int .i64 x, .int .i64 y, .slice a ms.length ca], .agg #[.int .i64 x, .int .i64 y, .slice b ms.length cb]] w fun e w' => e = .returned (.bool true) ∧ Below w.heap.size w w' := by
  generalize hN : ms.length = n at *
  have HN := hide hN
  clear hN
  have A0 : Hid (Below w.heap.size w ((w.alloc (.cells #[.int .i64 x, .int .i64 y, .slice a n ca] 25)).alloc (.cells #[.int .i64 x, .int .i64 y, .slice b n cb] 25))) := hide (((Below.refl _ _).alloc (Nat.le_refl _) _).alloc (by simp) _)
  have X0 : Hid (Bx3 ((w.alloc (.cells #[.int .i64 x, .int .i64 y, .slice a n ca] 25)).alloc (.cells #[.int .i64 x, .int .i64 y, .slice b n cb] 25)) w.heap.size x y (.slice a n ca)) := hide ((bx3_new w x y _ _).below ((Below.refl _ _).alloc (Nat.le_refl _) _))
  have Y0 : Hid (Bx3 ((w.alloc (.cells #[.int .i64 x, .int .i64 y, .slice a n ca] 25)).alloc (.cells #[.int .i64 x, .int .i64 y, .slice b n cb] 25)) (w.heap.size + 1) x y (.slice b n cb)) := hide (by
    have h := bx3_new (w.alloc (.cells #[.int .i64 x, .int .i64 y, .slice a n ca] 25)) x y (.slice b n cb) 25
    rw [World.size_alloc] at h; exact h)
  have HR := hide (hr.below (unhide A0))
  have HR' := hide (hr'.below (unhide A0))
  clear hr hr'
  have hx : (x != x) = false := by simp
  have hy : (y != y) = false := by simp
  have hnn : ((n : Int) != (n : Int)) = false := by simp
  go_enter Tryd.func10, Tryd.ntmps10
  go_wp2_with fail
  generalize hW : (w.alloc (.cells #[.int .i64 x, .int .i64 y, .slice a n ca] 25)).alloc (.cells #[.int .i64 x, .int .i64 y, .slice b n cb] 25) = W0 at *
  clear hW hx hy hnn
  go_loopw [5] (fun i wr => ∃ j : Nat, j ≤ n ∧ i = .int .i64 j ∧ Hid (∃ q, wr = W0.drewN q)) (fun i _ => n - (intOf i).toNat)
  case atStart => exact ⟨0, by omega, rfl, hide ⟨0, rfl⟩⟩
  case round =>
    obtain ⟨j, hj, rfl, hq⟩ := hrel
    have HA : Hid (RM wr a ms) := hide (by obtain ⟨q, e⟩ := unhide hq; rw [e]; exact unhide HR)
    have HB : Hid (RM wr b ms) := hide (by obtain ⟨q, e⟩ := unhide hq; rw [e]; exact unhide HR')
    have XX : Bx3 wr w.heap.size x y (.slice a n ca) := by obtain ⟨q, e⟩ := unhide hq; rw [e]; exact unhide X0
    have YY : Bx3 wr (w.heap.size + 1) x y (.slice b n cb) := by obtain ⟨q, e⟩ := unhide hq; rw [e]; exact unhide Y0
    have HD : Hid (∀ m, ∃ q, wr.drewN m = W0.drewN q) := hide (fun m => by obtain ⟨q, e⟩ := unhide hq; exact ⟨_, by rw [e, World.drewN_drewN]⟩)
    have x2 := XX.2.2
    have y2 := YY.2.2
    clear XX YY
    by_cases hlt : (j : Int) < (n : Int)
    · have k0 : (0 : Int) ≤ (j : Int) := by omega
      have hlen : j < ms.length := by rw [unhide HN]; omega
      rcases unhide HA with e0 | ⟨g, off, rfl, hc⟩
      · exfalso; rw [e0] at hlen; simp at hlen
      rcases unhide HB with e0 | ⟨g', off', rfl, hc'⟩
      · exfalso; rw [e0] at hlen; simp at hlen
      obtain ⟨c0, c1, c2, c3⟩ := hc j hlen
      obtain ⟨d0, d1, d2, d3⟩ := hc' j hlen
      clear hc hc' hlen
      generalize ms.getD j R.zero = m at *
      obtain ⟨ad, st, mt, mp⟩ := m
      dsimp only at c0 c1 c2 c3 d0 d1 d2 d3
      go_wp2_with fail
      go_quiet (fail)
      go_wp2_with fail
      go_roundw
      case rel => exact ⟨j + 1, by omega, by go_num, hide (unhide HD _)⟩
      case measure => simp [intOf]; omega
    · go_wp2_with fail
      go_ret
      exact ⟨rfl, by obtain ⟨q, e⟩ := unhide hq; rw [e]; exact Tim.below_drewN (unhide A0) _⟩
end Hl
end Go.Proofs.YtpknahhdapmcoabDoor
