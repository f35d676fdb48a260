/-
  Of the texts Mg1, Mg2: what this claim needs of them. (put together by mkprune.py)
-/
import Derived.Test.YtpknmiccgbjoiabGreatQa5
namespace Go.Proofs.YtpknmiccgbjoiabGreat
set_option linter.unusedVariables false
namespace Mr
open W1
/-- By whom an address is two hops off; the strict two-hop neighbors. -/
def viaF (ms : List Tu.R) (ls : List Lk.R) (now : Int) (z : Int) : List Int := Tw.viaL (Tw.findT ms) ls z now ls.length
def strF (ms : List Tu.R) (ls : List Lk.R) (me now : Int) : List Int := Tw.strN (Tw.condS ms ls me now) 8
/-- How many of a list one reaches. -/
def cntV (via : Int → List Int) (L : List Int) (a : Int) : Nat := (L.filter (fun z => (via z).contains a)).length
theorem zs_take {zs : List Int} {i : Nat} (h : i < zs.length) : zs.take (i + 1) = zs.take i ++ [zs.getD i 0] := by
  rw [List.take_add_one, List.getElem?_eq_getElem h, List.getD_eq_getElem?_getD, List.getElem?_eq_getElem h]; rfl
theorem cnt_yes {via : Int → List Int} {L : List Int} {a : Int} {j : Nat} (h : j < L.length) (hk : (via (L.getD j 0)).contains a = true) : cntV via (L.take (j + 1)) a = cntV via (L.take j) a + 1 := by
  unfold cntV; rw [zs_take h, List.filter_append, List.filter_cons_of_pos (p := fun z => (via z).contains a) hk]; simp
theorem cnt_no {via : Int → List Int} {L : List Int} {a : Int} {j : Nat} (h : j < L.length) (hk : (via (L.getD j 0)).contains a = false) : cntV via (L.take (j + 1)) a = cntV via (L.take j) a := by
  unfold cntV; rw [zs_take h, List.filter_append, List.filter_cons_of_neg (by rw [hk]; simp)]; simp
theorem cnt_le (via : Int → List Int) (L : List Int) (a : Int) (j : Nat) : cntV via (L.take j) a ≤ j := by
  unfold cntV
  have := List.length_filter_le (fun z => (via z).contains a) (L.take j)
  have := List.length_take_le j L
  omega
/-- Whether relays reach an address; who is left. -/
def hitV (via : Int → List Int) (rs : List Int) (z : Int) : Bool := rs.any (fun r => (via z).contains r)
def leftV (via : Int → List Int) (L rs : List Int) : List Int := L.filter (fun z => !hitV via rs z)
theorem hit_step {via : Int → List Int} {rs : List Int} {z : Int} {k : Nat} (h : k < rs.length) : hitV via (rs.take (k + 1)) z = (hitV via (rs.take k) z || (via z).contains (rs.getD k 0)) := by
  unfold hitV; rw [zs_take h, List.any_append]; simp
theorem left_yes {via : Int → List Int} {L rs : List Int} {j : Nat} (h : j < L.length) (hk : hitV via rs (L.getD j 0) = false) : leftV via (L.take (j + 1)) rs = leftV via (L.take j) rs ++ [L.getD j 0] := by
  unfold leftV; rw [zs_take h, List.filter_append, List.filter_cons_of_pos (by rw [hk]; rfl)]; rfl
theorem left_no {via : Int → List Int} {L rs : List Int} {j : Nat} (h : j < L.length) (hk : hitV via rs (L.getD j 0) = true) : leftV via (L.take (j + 1)) rs = leftV via (L.take j) rs := by
  unfold leftV; rw [zs_take h, List.filter_append, List.filter_cons_of_neg (by rw [hk]; simp)]; simp
theorem left_len (via : Int → List Int) (L rs : List Int) : (leftV via L rs).length ≤ L.length := List.length_filter_le _ _
/-- One put in behind all that are not above it, from the end on. -/
def tailN (out : List Int) (x : Int) : Nat := (out.reverse.takeWhile (fun y => decide (x < y))).length
def insV (out : List Int) (x : Int) : List Int := out.take (out.length - tailN out x) ++ [x] ++ out.drop (out.length - tailN out x)
def sortV (L : List Int) : List Int := L.foldl insV []
theorem sort_step {L : List Int} {j : Nat} (h : j < L.length) : sortV (L.take (j + 1)) = insV (sortV (L.take j)) (L.getD j 0) := by
  unfold sortV; rw [zs_take h, List.foldl_append]; rfl
theorem ins_len (out : List Int) (x : Int) : (insV out x).length = out.length + 1 := by
  unfold insV; simp; omega
theorem sort_len (L : List Int) : ∀ j, j ≤ L.length → (sortV (L.take j)).length = j
  | 0, _ => by simp [sortV]
  | j + 1, h => by rw [sort_step (by omega), ins_len, sort_len L j (by omega)]
theorem take_tail : ∀ (L : List Int) (x : Int) (k : Nat), k ≤ L.length → (∀ i, i < k → x < L.getD i 0) → (k < L.length → ¬ x < L.getD k 0) → (L.takeWhile (fun y => decide (x < y))).length = k
  | [], _, 0, _, _, _ => rfl
  | [], _, k + 1, h, _, _ => by simp at h
  | y :: t, x, 0, _, _, h2 => by
    have := h2 (by simp)
    simp at this
    rw [List.takeWhile_cons_of_neg (by simp; omega)]; rfl
  | y :: t, x, k + 1, h, h1, h2 => by
    have h0 := h1 0 (by omega)
    simp at h0
    rw [List.takeWhile_cons_of_pos (by simpa using h0), List.length_cons, take_tail t x k (by simp at h; omega) (fun i hi => by have := h1 (i + 1) (by omega); simpa using this) (fun hk => by have := h2 (by simp; omega); simpa using this)]
theorem rev_get {L : List Int} {i : Nat} (h : i < L.length) : L.reverse.getD i 0 = L.getD (L.length - 1 - i) 0 := by
  rw [List.getD_eq_getElem?_getD, List.getD_eq_getElem?_getD, List.getElem?_reverse h]
/-- The place, found from the end on. -/
theorem tail_of {out : List Int} {x : Int} {k : Nat} (hk : k ≤ out.length) (h1 : ∀ i, k ≤ i → i < out.length → x < out.getD i 0) (h2 : 0 < k → ¬ x < out.getD (k - 1) 0) : out.length - tailN out x = k := by
  have : tailN out x = out.length - k := by
    unfold tailN
    refine take_tail _ x _ (by rw [List.length_reverse]; omega) (fun i hi => ?_) (fun hlt => ?_)
    · rw [rev_get (by omega)]; exact h1 _ (by omega) (by omega)
    · rw [List.length_reverse] at hlt
      rw [rev_get (by omega), show out.length - 1 - (out.length - k) = k - 1 by omega]; exact h2 (by omega)
  omega
/-- Rising lists of addresses without two alike are told by who is in them. -/
theorem ins_mem {out : List Int} {x z : Int} : z ∈ insV out x ↔ z = x ∨ z ∈ out := by
  unfold insV
  rw [List.mem_append, List.mem_append, List.mem_singleton]
  constructor
  · rintro ((h | h) | h)
    · exact .inr (List.mem_of_mem_take h)
    · exact .inl h
    · exact .inr (List.mem_of_mem_drop h)
  · rintro (h | h)
    · exact .inl (.inr h)
    · rw [← List.take_append_drop (out.length - tailN out x) out, List.mem_append] at h
      rcases h with h | h
      · exact .inl (.inl h)
      · exact .inr h
abbrev UpI (L : List Int) : Prop := L.Pairwise (fun a b => a < b)
theorem tw_mem {x z : Int} : ∀ (L : List Int), z ∈ L.takeWhile (fun y => decide (x < y)) → x < z
  | [], h => by cases h
  | y :: t, h => by
    by_cases hy : x < y
    · rw [List.takeWhile_cons_of_pos (by simpa using hy)] at h
      rcases List.mem_cons.1 h with rfl | h
      · exact hy
      · exact tw_mem t h
    · rw [List.takeWhile_cons_of_neg (by simpa using hy)] at h; cases h
theorem rev_tail (out : List Int) (x : Int) : ∀ z ∈ out.drop (out.length - tailN out x), x < z := by
  intro z hz
  have h1 := List.takeWhile_append_dropWhile (p := fun y => decide (x < y)) (l := out.reverse)
  have h2 := congrArg List.reverse h1
  rw [List.reverse_append, List.reverse_reverse] at h2
  have hl : out.length - tailN out x = ((out.reverse.dropWhile (fun y => decide (x < y))).reverse).length := by
    have h3 := congrArg List.length h1
    rw [List.length_append, List.length_reverse] at h3
    rw [List.length_reverse]; unfold tailN; omega
  rw [hl] at hz
  have h4 := congrArg (List.drop ((out.reverse.dropWhile (fun y => decide (x < y))).reverse).length) h2
  rw [List.drop_left] at h4
  rw [← h4, List.mem_reverse] at hz
  exact tw_mem _ hz
theorem take_low {out : List Int} {x : Int} (h : UpI out) : ∀ z ∈ out.take (out.length - tailN out x), z ≤ x := by
  intro z hz
  obtain ⟨i, hi, rfl⟩ := List.getElem_of_mem hz
  rw [List.getElem_take]
  have hik : i < out.length - tailN out x ∧ i < out.length := by simp at hi; omega
  have hlt : tailN out x < out.length := by omega
  have hstop : ¬ x < out.getD (out.length - 1 - tailN out x) 0 := by
    have h4 : out.reverse.getD (tailN out x) 0 = out.getD (out.length - 1 - tailN out x) 0 := rev_get hlt
    rw [← h4]
    unfold tailN
    have hne : out.reverse.dropWhile (fun y => decide (x < y)) ≠ [] := by
      intro e
      have h1 := List.takeWhile_append_dropWhile (p := fun y => decide (x < y)) (l := out.reverse)
      rw [e, List.append_nil] at h1
      have := congrArg List.length h1
      rw [List.length_reverse] at this
      unfold tailN at hlt; omega
    have h1 := List.takeWhile_append_dropWhile (p := fun y => decide (x < y)) (l := out.reverse)
    have hh := List.head_dropWhile_not (fun y => decide (x < y)) hne
    have hg : out.reverse.getD ((out.reverse.takeWhile (fun y => decide (x < y))).length) 0 = (out.reverse.dropWhile (fun y => decide (x < y))).head hne := by
      conv => lhs; arg 1; rw [← h1]
      rw [List.getD_eq_getElem?_getD, List.getElem?_append_right (Nat.le_refl _), Nat.sub_self, ← List.head?_eq_getElem?, List.head?_eq_some_head hne]; rfl
    rw [hg]
    simpa using hh
  have hle : out[i] ≤ out.getD (out.length - 1 - tailN out x) 0 := by
    rw [List.getD_eq_getElem?_getD, List.getElem?_eq_getElem (by omega)]
    show out[i] ≤ out[out.length - 1 - tailN out x]
    by_cases e : i = out.length - 1 - tailN out x
    · subst e; exact Int.le_refl _
    · exact Int.le_of_lt ((List.pairwise_iff_getElem.1 h) i _ hik.2 (by omega) (by omega))
  omega
theorem ins_up {out : List Int} {x : Int} (h : UpI out) (hx : x ∉ out) : UpI (insV out x) := by
  unfold insV
  rw [UpI, List.append_assoc, List.pairwise_append]
  refine ⟨h.sublist (List.take_sublist _ _), ?_, fun a ha b hb => ?_⟩
  · rw [List.singleton_append, List.pairwise_cons]
    exact ⟨fun z hz => rev_tail out x z hz, h.sublist (List.drop_sublist _ _)⟩
  · have h1 := take_low h a ha
    have h2 : a ≠ x := fun e => hx (by rw [← e]; exact List.mem_of_mem_take ha)
    rw [List.singleton_append, List.mem_cons] at hb
    rcases hb with rfl | hb
    · omega
    · have := rev_tail out x b hb; omega
theorem sort_up : ∀ (L : List Int), L.Nodup → ∀ j, j ≤ L.length → UpI (sortV (L.take j)) ∧ ∀ z, z ∈ sortV (L.take j) ↔ z ∈ L.take j
  | L, hn, 0, _ => by simp [sortV, UpI]
  | L, hn, j + 1, h => by
    obtain ⟨h1, h2⟩ := sort_up L hn j (by omega)
    rw [sort_step (by omega)]
    have hx : L.getD j 0 ∉ L.take j := by
      intro hm
      obtain ⟨i, hi, e⟩ := List.getElem_of_mem hm
      have hij : i < j ∧ i < L.length := by simp at hi; omega
      rw [List.getElem_take] at e
      rw [List.getD_eq_getElem?_getD, List.getElem?_eq_getElem (by omega)] at e
      have := (List.pairwise_iff_getElem.1 hn) i j hij.2 (by omega) hij.1
      exact this e
    refine ⟨ins_up h1 (fun hm => hx ((h2 _).1 hm)), fun z => ?_⟩
    rw [ins_mem, h2, zs_take (by omega), List.mem_append, List.mem_singleton]
    exact Or.comm
theorem up_str : ∀ (L : List Int) (n : Nat), UpI L → (∀ z ∈ L, 1 ≤ z) → L.filter (fun z => decide (z ≤ (n : Int))) = Tw.strN (fun a => L.contains a) n
  | L, 0, _, h1 => by
    rw [Tw.filter_none (fun z hz => by have := h1 z hz; simp; omega)]; rfl
  | L, n + 1, h, h1 => by
    have ih := up_str L n h h1
    have key : L.filter (fun z => decide (z ≤ ((n + 1 : Nat) : Int))) = L.filter (fun z => decide (z ≤ (n : Int))) ++ (if L.contains ((n : Int) + 1) = true then [(n : Int) + 1] else []) := by
      clear ih h1
      induction L with
      | nil => rfl
      | cons m t iht =>
        obtain ⟨p1, p2⟩ := List.pairwise_cons.1 h
        have ih2 := iht p2
        rcases Int.lt_trichotomy m ((n : Int) + 1) with hk | hk | hk
        · rw [List.filter_cons_of_pos (by simp; omega), List.filter_cons_of_pos (by simp; omega), ih2, List.contains_cons, show ((n : Int) + 1 == m) = false by simp; omega]; rfl
        · subst hk
          rw [List.filter_cons_of_pos (by simp), List.filter_cons_of_neg (by simp; omega), Tw.filter_none (fun z hz => by have := p1 z hz; simp; omega), Tw.filter_none (fun z hz => by have := p1 z hz; simp; omega)]
          simp
        · rw [List.filter_cons_of_neg (by simp; omega), List.filter_cons_of_neg (by simp; omega), ih2, List.contains_cons, show ((n : Int) + 1 == m) = false by simp; omega]; rfl
    rw [key, ih]
    cases hc : L.contains ((n : Int) + 1)
    · rw [Tw.strN_no (c := fun a => L.contains a) hc]; simp
    · rw [Tw.strN_yes (c := fun a => L.contains a) hc]; simp
theorem str_congr {c d : Int → Bool} (n : Nat) (h : ∀ z, c z = d z) : Tw.strN c n = Tw.strN d n := by rw [show c = d from funext h]
theorem sort_str {L : List Int} (hn : L.Nodup) (hr : ∀ z ∈ L, 1 ≤ z ∧ z ≤ 8) : sortV L = Tw.strN (fun a => L.contains a) 8 := by
  obtain ⟨h1, h2⟩ := sort_up L hn L.length (Nat.le_refl _)
  rw [List.take_length] at h1 h2
  have h3 := up_str (sortV L) 8 h1 (fun z hz => (hr z ((h2 z).1 hz)).1)
  rw [List.filter_eq_self.2 (fun z hz => by have := (hr z ((h2 z).1 hz)).2; simp; omega)] at h3
  rw [h3]
  refine str_congr 8 (fun z => ?_)
  have : z ∈ sortV L ↔ z ∈ L := h2 z
  rw [Bool.eq_iff_iff]; simp [this]
end Mr
end Go.Proofs.YtpknmiccgbjoiabGreat
namespace Go.Proofs.YtpknmiccgbjoiabGreat
open Go.ChangeShapes Go.WideShapes Go.ChangeAt Go.RowKit
set_option linter.unusedVariables false
set_option linter.unusedSimpArgs false
attribute [local go_sem ↓] Go.wp_at_zero Go.wp_at_succ
namespace Mr
open W1 Tu St Tw
def bitV (b : Bool) : Int := if b then 1 else 0
theorem bitC (b : Bool) (w : World) : Calls Tryz.prog 54 #[.bool b] w fun e w' => e = .returned (.int .i64 (bitV b)) ∧ w' = w := by
  cases b
  · go_enter Tryz.func54, Tryz.ntmps54
    go_wp2
    go_ret
    exact ⟨rfl, rfl⟩
  · go_enter Tryz.func54, Tryz.ntmps54
    go_wp2
    go_ret
    exact ⟨rfl, rfl⟩
theorem cnt_bit {via : Int → List Int} {L : List Int} {a : Int} {j : Nat} (h : j < L.length) : (cntV via (L.take (j + 1)) a : Int) = (cntV via (L.take j) a : Int) + bitV ((via (L.getD j 0)).contains a) := by
  cases hk : (via (L.getD j 0)).contains a
  · rw [cnt_no h hk]; simp [bitV]
  · rw [cnt_yes h hk]; simp [bitV]
theorem via_len (ms : List R) (ls : List Lk.R) (now z : Int) : (viaF ms ls now z).length ≤ ls.length := viaL_len _ _ _ _ _
theorem str_rng {ms : List R} {ls : List Lk.R} {me now : Int} : ∀ z ∈ strF ms ls me now, 1 ≤ z ∧ z ≤ 8 := by
  intro z hz
  unfold strF strN at hz
  simp only [List.mem_map, List.mem_filter, List.mem_range] at hz
  obtain ⟨t, ⟨h1, _⟩, rfl⟩ := hz
  omega
theorem str_len (ms : List R) (ls : List Lk.R) (me now : Int) : (strF ms ls me now).length ≤ 8 := strN_len _ 8
theorem getD_mem {zs : List Int} {j : Nat} (h : j < zs.length) : zs.getD j 0 ∈ zs := by
  rw [List.getD_eq_getElem?_getD, List.getElem?_eq_getElem h]; exact List.getElem_mem h
set_option maxRecDepth 100000 in
set_option maxHeartbeats 4000000 in
theorem l08Gain (g0 o0 : Nat) (ms : List R) (cap : Nat) (a : Option Addr) (ls : List Lk.R) (capl : Nat) (now addr : Int) (b : Option Addr) (zs : List Int) (capz : Nat) (w : World) (hz : ∀ z ∈ zs, 1 ≤ z ∧ z ≤ 8) (hzl : zs.length ≤ 64) (hs : setB ms = true) (hok : Ln.linksB ls = true) (hr0 : RM w (some ⟨g0, o0, none⟩) ms) (hr : Lk.RM w a ls) (hrz : In.RM w b zs) :
    Calls Tryz.prog 91 #[.slice (some ⟨g0, o0, none⟩) ms.length cap, .slice a ls.length capl, .int .i64 now, .int .i64 addr, .slice b zs.length capz] w fun e w' => e = .returned (.int .i64 (cntV (viaF ms ls now) zs addr : Nat)) ∧ Below w.heap.size w w' := by
  have HR := hide hr
  have HM := hide hr0
  have HS := hide hs
  have HOK := hide hok
  have HZ := hide hrz
  have HG := hide hz
  have h8 := Ln.links_len hok
  clear hr hr0 hs hok hrz hz
  obtain ⟨via, hv⟩ : ∃ via, viaF ms ls now = via := ⟨_, rfl⟩
  have HVL : Hid (∀ z, (via z).length ≤ ls.length) := hide (fun z => by rw [← hv]; exact via_len ms ls now z)
  have HV := hide hv
  rw [hv]
  clear hv
  generalize hN : zs.length = n at *
  have HN := hide hN
  clear hN
  have P0 := hide (Below.refl w.heap.size w)
  go_enter Tryz.func91, Tryz.ntmps91
  go_wp2_with fail
  go_loopw [11, 12] (fun c i wr => ∃ j : Nat, j ≤ n ∧ i = .int .i64 j ∧ c = .int .i64 (cntV via (zs.take j) addr : Nat) ∧ Hid (Below w.heap.size w wr)) (fun _ i _ => n - (intOf i).toNat)
  case atStart => exact ⟨0, by omega, rfl, rfl, P0⟩
  case round =>
    obtain ⟨j, hj, rfl, rfl, hbl⟩ := hrel
    have hcl := cnt_le via zs addr j
    by_cases hlt : (j : Int) < (n : Int)
    · have k0 : (0 : Int) ≤ (j : Int) := by omega
      have hlen : j < zs.length := by rw [unhide HN]; omega
      have hzr := unhide HG _ (getD_mem hlen)
      have HC := hide (cnt_bit (via := via) (a := addr) hlen)
      have HMr := hide ((unhide HM).below (unhide hbl))
      have HLr := hide ((unhide HR).below (unhide hbl))
      rcases (unhide HZ).below (unhide hbl) with e0 | ⟨g, off, rfl, hc⟩
      · exfalso; rw [e0] at hlen; simp at hlen
      have c0 := hc j hlen
      clear hc
      generalize zs.getD j 0 = z at *
      generalize cntV via (zs.take j) addr = c at *
      go_wp2_with fail
      refine (l07Via g0 o0 ms cap _ ls capl z now _ hzr.1 hzr.2 (unhide HS) (unhide HOK) (unhide HMr) (unhide HLr)).mono ?_
      rintro e w1 ⟨v1, rfl, b1, hl1⟩
      obtain ⟨a1, c1, rfl, l1⟩ := hl1
      have hvz : viaL (findT ms) ls z now ls.length = via z := by rw [← unhide HV]; rfl
      rw [hvz] at l1 ⊢
      have HB1 := hide ((unhide hbl).trans (b1.mono (unhide hbl).size))
      have HL1 := hide l1
      clear b1 l1 hvz
      have hvl := unhide HVL z
      generalize via z = vz at *
      go_wp2_with fail
      refine (l07Has a1 vz c1 addr _ (by omega) (unhide HL1).rm).mono ?_
      rintro e w2 ⟨rfl, hw2⟩
      rw [hw2]
      clear hw2
      generalize vz.contains addr = q at *
      go_wp2_with fail
      refine (bitC q _).mono ?_
      rintro e w3 ⟨rfl, hw3⟩
      rw [hw3]
      clear hw3
      have hbq : 0 ≤ bitV q ∧ bitV q ≤ 1 := by cases q <;> simp [bitV]
      generalize bitV q = bq at *
      go_wp2_with fail
      go_roundw
      case rel => exact ⟨j + 1, by omega, by go_num, by rw [unhide HC], HB1⟩
      case measure => simp [intOf]; omega
    · obtain rfl : j = n := by omega
      have HT : Hid (cntV via (zs.take j) addr = cntV via zs addr) := hide (by rw [← unhide HN, List.take_length])
      go_wp2_with fail
      go_ret
      exact ⟨by rw [unhide HT]; rfl, unhide hbl⟩
set_option maxRecDepth 100000 in
set_option maxHeartbeats 4000000 in
theorem l08Degree (g0 o0 : Nat) (ms : List R) (cap : Nat) (a : Option Addr) (ls : List Lk.R) (capl : Nat) (me now addr : Int) (w : World) (hok : twoB ms = true ∧ Ln.linksB ls = true) (hr0 : RM w (some ⟨g0, o0, none⟩) ms) (hr : Lk.RM w a ls) :
    Calls Tryz.prog 161 #[.slice (some ⟨g0, o0, none⟩) ms.length cap, .slice a ls.length capl, .int .i64 me, .int .i64 now, .int .i64 addr] w fun e w' => e = .returned (.int .i64 (cntV (viaF ms ls now) (strF ms ls me now) addr : Nat)) ∧ Below w.heap.size w w' := by
  have HR := hide hr
  have HM := hide hr0
  have HOK := hide hok
  have h8 := Ln.links_len hok.2
  clear hr hr0 hok
  obtain ⟨via, hv⟩ : ∃ via, viaF ms ls now = via := ⟨_, rfl⟩
  have HVL : Hid (∀ z, (via z).length ≤ ls.length) := hide (fun z => by rw [← hv]; exact via_len ms ls now z)
  have HV := hide hv
  rw [hv]
  clear hv
  have hzl := str_len ms ls me now
  have HG := hide (str_rng (ms := ms) (ls := ls) (me := me) (now := now))
  obtain ⟨zs, hzs⟩ : ∃ zs, strF ms ls me now = zs := ⟨_, rfl⟩
  rw [hzs] at hzl HG ⊢
  have HZS := hide hzs
  clear hzs
  go_enter Tryz.func161, Tryz.ntmps161
  go_wp2_with fail
  refine (l07Strict g0 o0 ms cap _ ls capl me now _ (unhide HOK) (unhide HM) (unhide HR)).mono ?_
  rintro e w0 ⟨v0, rfl, b0, hl0⟩
  obtain ⟨b, capz, rfl, l0⟩ := hl0
  have hzz : strN (condS ms ls me now) 8 = zs := unhide HZS
  rw [hzz] at l0 ⊢
  have HZ := hide l0.rm
  have P0 := hide b0
  clear l0 b0 hzz
  generalize hN : zs.length = n at *
  have HN := hide hN
  clear hN
  go_wp2_with fail
  go_loopw [11, 13] (fun c i wr => ∃ j : Nat, j ≤ n ∧ i = .int .i64 j ∧ c = .int .i64 (cntV via (zs.take j) addr : Nat) ∧ Hid (Below w0.heap.size w0 wr)) (fun _ i _ => n - (intOf i).toNat)
  case atStart => exact ⟨0, by omega, rfl, rfl, hide (Below.refl _ _)⟩
  case round =>
    obtain ⟨j, hj, rfl, rfl, hbl0⟩ := hrel
    have hcl := cnt_le via zs addr j
    have hbl := hide ((unhide P0).trans ((unhide hbl0).mono (unhide P0).size))
    by_cases hlt : (j : Int) < (n : Int)
    · have k0 : (0 : Int) ≤ (j : Int) := by omega
      have hlen : j < zs.length := by rw [unhide HN]; omega
      have hzr := unhide HG _ (getD_mem hlen)
      have HC := hide (cnt_bit (via := via) (a := addr) hlen)
      have HMr := hide ((unhide HM).below (unhide hbl))
      have HLr := hide ((unhide HR).below (unhide hbl))
      rcases (unhide HZ).below (unhide hbl0) with e0 | ⟨g, off, rfl, hc⟩
      · exfalso; rw [e0] at hlen; simp at hlen
      have c0 := hc j hlen
      clear hc
      generalize zs.getD j 0 = z at *
      generalize cntV via (zs.take j) addr = c at *
      go_wp2_with fail
      refine (l07Via g0 o0 ms cap _ ls capl z now _ hzr.1 hzr.2 (two_set (unhide HOK).1) (unhide HOK).2 (unhide HMr) (unhide HLr)).mono ?_
      rintro e w1 ⟨v1, rfl, b1, hl1⟩
      obtain ⟨a1, c1, rfl, l1⟩ := hl1
      have hvz : viaL (findT ms) ls z now ls.length = via z := by rw [← unhide HV]; rfl
      rw [hvz] at l1 ⊢
      have HB1 := hide ((unhide hbl0).trans (b1.mono (unhide hbl0).size))
      have HL1 := hide l1
      clear b1 l1 hvz
      have hvl := unhide HVL z
      generalize via z = vz at *
      go_wp2_with fail
      refine (l07Has a1 vz c1 addr _ (by omega) (unhide HL1).rm).mono ?_
      rintro e w2 ⟨rfl, hw2⟩
      rw [hw2]
      clear hw2
      generalize vz.contains addr = q at *
      go_wp2_with fail
      refine (bitC q _).mono ?_
      rintro e w3 ⟨rfl, hw3⟩
      rw [hw3]
      clear hw3
      have hbq : 0 ≤ bitV q ∧ bitV q ≤ 1 := by cases q <;> simp [bitV]
      generalize bitV q = bq at *
      go_wp2_with fail
      go_roundw
      case rel => exact ⟨j + 1, by omega, by go_num, by rw [unhide HC], HB1⟩
      case measure => simp [intOf]; omega
    · obtain rfl : j = n := by omega
      have HT : Hid (cntV via (zs.take j) addr = cntV via zs addr) := hide (by rw [← unhide HN, List.take_length])
      go_wp2_with fail
      go_ret
      exact ⟨by rw [unhide HT]; rfl, unhide hbl⟩
end Mr
end Go.Proofs.YtpknmiccgbjoiabGreat
namespace Go.Proofs.YtpknmiccgbjoiabGreat
open Go.ChangeShapes Go.WideShapes Go.ChangeAt Go.RowKit
set_option linter.unusedVariables false
set_option linter.unusedSimpArgs false
attribute [local go_sem ↓] Go.wp_at_zero Go.wp_at_succ
namespace Mr
open W1 Tu St Tw
theorem near_of {w : World} {v : Value} {a : Option Addr} {zs : List Int} {lo hi : Nat} (h : In.Lst w a zs lo hi) (hv : ∀ g, v.ownBlock = some g → g < lo) : NearOk w v a zs := by
  rcases h with e | ⟨g2, rfl, h1, h2, h3, h4⟩
  · exact .inl e
  · exact .inr ⟨g2, 0, rfl, fun e => by have := hv _ e; omega, h3, In.rm_of h4⟩
set_option maxRecDepth 100000 in
set_option maxHeartbeats 4000000 in
theorem l08Left (g0 o0 : Nat) (ms : List R) (cap : Nat) (a : Option Addr) (ls : List Lk.R) (capl : Nat) (me now : Int) (b : Option Addr) (rs : List Int) (capr : Nat) (w : World) (hrl : rs.length ≤ 64) (hok : twoB ms = true ∧ Ln.linksB ls = true) (hr0 : RM w (some ⟨g0, o0, none⟩) ms) (hr : Lk.RM w a ls) (hrr : In.RM w b rs) :
    Calls Tryz.prog 47 #[.slice (some ⟨g0, o0, none⟩) ms.length cap, .slice a ls.length capl, .int .i64 me, .int .i64 now, .slice b rs.length capr] w fun e w' => ∃ v, e = .returned v ∧ Below w.heap.size w w' ∧ In.LstV w' v (leftV (viaF ms ls now) (strF ms ls me now) rs) w.heap.size w'.heap.size := by
  have HR0 := hide hr
  have HM0 := hide hr0
  have HB0 := hide hrr
  have HOK := hide hok
  have h8 := Ln.links_len hok.2
  clear hr hr0 hok hrr
  obtain ⟨via, hv⟩ : ∃ via, viaF ms ls now = via := ⟨_, rfl⟩
  have HVL : Hid (∀ z, (via z).length ≤ ls.length) := hide (fun z => by rw [← hv]; exact via_len ms ls now z)
  have HV := hide hv
  rw [hv]
  clear hv
  have hzl := str_len ms ls me now
  have HG := hide (str_rng (ms := ms) (ls := ls) (me := me) (now := now))
  obtain ⟨zs, hzs⟩ : ∃ zs, strF ms ls me now = zs := ⟨_, rfl⟩
  rw [hzs] at hzl HG ⊢
  have HZS := hide hzs
  clear hzs
  have P0 := hide ((Below.refl w.heap.size w).alloc (Nat.le_refl _) (.cells #[] 3))
  have HM := hide ((unhide HM0).below (unhide P0))
  have HL := hide ((unhide HR0).below (unhide P0))
  have O1 : Hid ((w.alloc (.cells #[] 3)).ownsRow w.heap.size 3 1 (.slice (some ⟨w.heap.size, 0, none⟩) 0 0) (leftV via (zs.take 0) rs).length (In.flat (leftV via (zs.take 0) rs))) := hide (In.own_empty w w.heap.size (Nat.le_refl _))
  go_enter Tryz.func47, Tryz.ntmps47
  go_wp2_with fail
  refine (l07Strict g0 o0 ms cap _ ls capl me now _ (unhide HOK) (unhide HM) (unhide HL)).mono ?_
  rintro e w2 ⟨v2, rfl, b2, hl2⟩
  obtain ⟨a2, c2, rfl, l2⟩ := hl2
  have hzz : strN (condS ms ls me now) 8 = zs := unhide HZS
  rw [hzz] at l2 ⊢
  have HN2 : Hid (NearOk w2 (.slice (some ⟨w.heap.size, 0, none⟩) 0 0) a2 zs) := hide (near_of l2 (fun g e => by simp [Value.ownBlock] at e; simp; omega))
  have HB2 := hide ((unhide P0).trans (b2.mono (unhide P0).size))
  have O2 := hide (Ln.own_belowI (unhide O1) b2)
  clear b2 l2 P0 HM HL O1 hzz
  generalize hN : zs.length = n at *
  have HN := hide hN
  generalize hQ : rs.length = m at *
  have HQ := hide hQ
  clear hN hQ
  go_wp2_with fail
  go_loopw [11, 13] (fun v i wr => ∃ j : Nat, j ≤ n ∧ i = .int .i64 j ∧ Hid (wr.ownsRow w.heap.size 3 1 v (leftV via (zs.take j) rs).length (In.flat (leftV via (zs.take j) rs))) ∧ Hid (Below w.heap.size w wr) ∧ Hid (NearOk wr v a2 zs)) (fun _ i _ => n - (intOf i).toNat)
  case atStart => exact ⟨0, by omega, rfl, O2, HB2, HN2⟩
  case round =>
    obtain ⟨j, hj, rfl, how, hbl, hnr⟩ := hrel
    have hbs := (unhide hbl).size
    have hfl : (leftV via (zs.take j) rs).length ≤ 8 := by
      have h1 := left_len via (zs.take j) rs
      have h2 := List.length_take_le j zs
      omega
    by_cases hlt : (j : Int) < (n : Int)
    · have k0 : (0 : Int) ≤ (j : Int) := by omega
      have hlen : j < zs.length := by rw [unhide HN]; omega
      have hzr := unhide HG _ (getD_mem hlen)
      have HY := hide (fun (h : hitV via rs (zs.getD j 0) = false) => left_yes (via := via) (rs := rs) hlen h)
      have HZ := hide (fun (h : hitV via rs (zs.getD j 0) = true) => left_no (via := via) (rs := rs) hlen h)
      have HMr := hide ((unhide HM0).below (unhide hbl))
      have HLr := hide ((unhide HR0).below (unhide hbl))
      have HBr := hide ((unhide HB0).below (unhide hbl))
      rcases unhide hnr with e0 | ⟨g, off, rfl, hne, hgl, hrm⟩
      · exfalso; rw [e0] at hlen; simp at hlen
      have c0 := hrm.at hlen
      have HAT : Hid (∀ W : World, In.RM W (some ⟨g, off, none⟩) zs → W.cell? ⟨g, off + j, none⟩ = some (.int .i64 (zs.getD j 0))) := hide (fun W h => h.at hlen)
      clear hrm hne hgl
      generalize zs.getD j 0 = z at *
      go_wp2_with fail
      refine (l07Via g0 o0 ms cap _ ls capl z now _ hzr.1 hzr.2 (two_set (unhide HOK).1) (unhide HOK).2 (unhide HMr) (unhide HLr)).mono ?_
      rintro e w5 ⟨v5, rfl, b5, hl5⟩
      obtain ⟨a5, c5, rfl, l5⟩ := hl5
      have hvz : viaL (findT ms) ls z now ls.length = via z := by rw [← unhide HV]; rfl
      rw [hvz] at l5 ⊢
      have HB5 := hide ((unhide hbl).trans (b5.mono (unhide hbl).size))
      have HO5 := hide (Ln.own_belowI (unhide how) b5)
      have HN5 := hide ((unhide hnr).below b5)
      have HR5 := hide ((unhide HBr).below b5)
      have HV5 := hide l5.rm
      have hs5 := (unhide HB5).size
      clear b5 l5 hvz c0 HBr
      have hvl := unhide HVL z
      obtain ⟨vz, hvv⟩ : ∃ vz, via z = vz := ⟨_, rfl⟩
      have HVV := hide hvv
      rw [hvv] at hvl HV5 ⊢
      clear hvv
      have HST : Hid (∀ k, k < rs.length → hitV via (rs.take (k + 1)) z = (hitV via (rs.take k) z || vz.contains (rs.getD k 0))) := hide (fun k hk => by rw [← unhide HVV]; exact hit_step hk)
      go_wp2_with fail
      go_loopw [15, 16] (fun h k w6 => w5 = w6 ∧ ∃ t : Nat, t ≤ m ∧ k = .int .i64 t ∧ ∃ q : Bool, h = .bool q ∧ Hid (hitV via (rs.take t) z = q)) (fun _ k _ => m - (intOf k).toNat)
      case atStart => exact ⟨rfl, 0, by omega, rfl, false, rfl, hide rfl⟩
      case round =>
        obtain ⟨rfl, t, ht, rfl, q, rfl, hq⟩ := hrel
        by_cases hlt2 : (t : Int) < (m : Int)
        · have k1 : (0 : Int) ≤ (t : Int) := by omega
          have hlen2 : t < rs.length := by rw [unhide HQ]; omega
          have HS1 := hide (unhide HST t hlen2)
          rw [unhide hq] at HS1
          cases q
          · rcases unhide HR5 with e0 | ⟨g6, off6, rfl, hc6⟩
            · exfalso; rw [e0] at hlen2; simp at hlen2
            have c6 := hc6 t hlen2
            clear hc6
            generalize rs.getD t 0 = r at *
            go_wp2_with fail
            refine (l07Has a5 vz c5 r _ (by omega) (unhide HV5)).mono ?_
            rintro e w7 ⟨rfl, hw7⟩
            rw [hw7]
            clear hw7
            have HS2 : Hid (hitV via (rs.take (t + 1)) z = vz.contains r) := hide (by rw [unhide HS1]; rfl)
            generalize vz.contains r = q2 at *
            go_wp2_with fail
            go_roundw
            case rel => exact ⟨by first | trivial | rfl, t + 1, by omega, by go_num, q2, rfl, HS2⟩
            case measure => simp [intOf]; omega
          · have HS2 : Hid (hitV via (rs.take (t + 1)) z = true) := hide (by rw [unhide HS1]; rfl)
            go_wp2_with fail
            go_roundw
            case rel => exact ⟨by first | trivial | rfl, t + 1, by omega, by go_num, true, rfl, HS2⟩
            case measure => simp [intOf]; omega
        · obtain rfl : t = m := by omega
          have HH : Hid (hitV via rs z = q) := hide (by have := unhide hq; rw [← unhide HQ, List.take_length] at this; exact this)
          cases q
          · have HTF := hide (unhide HY (unhide HH))
            have c0 := unhide HAT _ (unhide HN5).rm
            go_wp2_with (at_builtin; refine wpList_apL ((unhide HO5).alloc _) w5.heap.size 0 1 1 [z] rfl (by omega) (In.rm_new w5 z) (by simp only [List.length_cons, List.length_nil]; omega) (by simp; omega) rfl _ _ rfl rfl rfl ?_; intro v' w' ho hg hv; have HO : Hid (w'.ownsRow w.heap.size 3 1 v' (leftV via (zs.take (j + 1)) rs).length (In.flat (leftV via (zs.take (j + 1)) rs))) := hide (by rw [unhide HTF]; exact ho); have HB := hide (In.below_own ((unhide HB5).alloc hs5 _) ((unhide HO5).alloc _) hg (Nat.le_refl _) (by simp; omega)); have HN := hide (((unhide HN5).below ((Below.refl _ _).alloc (Nat.le_refl _) _)).grown hg hv); clear ho hg hv)
            go_roundw
            case rel => exact ⟨j + 1, by omega, by go_num, HO, HB, HN⟩
            case measure => simp [intOf]; omega
          · have HTF := hide (unhide HZ (unhide HH))
            have HO : Hid (w5.ownsRow w.heap.size 3 1 u11 (leftV via (zs.take (j + 1)) rs).length (In.flat (leftV via (zs.take (j + 1)) rs))) := hide (by rw [unhide HTF]; exact unhide HO5)
            go_wp2_with fail
            go_roundw
            case rel => exact ⟨j + 1, by omega, by go_num, HO, HB5, HN5⟩
            case measure => simp [intOf]; omega
    · obtain rfl : j = n := by omega
      have HE : Hid (leftV via (zs.take j) rs = leftV via zs rs) := hide (by rw [← unhide HN, List.take_length])
      have HLs := hide (In.lst_own rfl (unhide how))
      rw [unhide HE] at HLs
      go_wp2_with fail
      go_ret
      exact ⟨_, rfl, unhide hbl, unhide HLs⟩
end Mr
end Go.Proofs.YtpknmiccgbjoiabGreat
namespace Go.Proofs.YtpknmiccgbjoiabGreat
open Go.ChangeShapes Go.WideShapes Go.ChangeAt Go.RowKit
set_option linter.unusedVariables false
set_option linter.unusedSimpArgs false
attribute [local go_sem ↓] Go.wp_at_zero Go.wp_at_succ
namespace Mr
open W1 Tu St Tw
/-- append to a row of one's own, inside a region that draws its order. -/
theorem wp_apI {o : Oper} {a : Act} {K : Act → World → Prop} {Q : Exit → Act → World → Prop} {w : World} {base d : Nat} {v : Value} {xs : List Int} (hown : w.ownsRow base 3 1 v xs.length (In.flat xs)) (g off m c : Nat) (zs : List Int) (hm : zs.length = m) (hr : In.RM w (some ⟨g, off, none⟩) zs) (hlen : xs.length + zs.length ≤ 4194304) (hbase : base ≤ w.heap.size)
    (s x : Operand) (ho : o.op = .call { callee := .builtin .append, args := #[s, x], argTypes := #[23, 23] }) (hd : o.dst = some d) (hs : a.eval s = v) (hx : a.eval x = .slice (some ⟨g, off, none⟩) m c)
    (h : ∀ v' w', w'.ownsRow base 3 1 v' (xs ++ zs).length (In.flat (xs ++ zs)) → w.grownBy w' v.ownBlock → K (a.put (some d) v') w') : o.wp Tryz.prog a w K Q := by
  subst hm
  obtain ⟨i0, hi, hz0, hz1, hz2⟩ := In.infoI
  refine wp_append_own w s x _ ho base 3 i0 _ 1 8 Tryz.underlying23 hi hz0 hz1 hz2 rfl (by decide) v xs.length (In.flat xs) hs hown ⟨g, off, none⟩ zs.length c (In.flat zs) hx (In.flat_len zs) hr.cells (fun u hu => In.flat_one_cell hu) (by unfold maxLen; omega) (by omega) hbase (fun v' w' h1 h2 _ => ?_)
  rw [hd]
  refine h v' w' ?_ h2
  rw [List.length_append, In.flat_append]; exact h1
theorem rmI_grown {w w' : World} {b : Nat} {row : Option Nat} {zs : List Int} (h : In.RM w (some ⟨b, 0, none⟩) zs) (hg : w.grownBy w' row) (hne : some b ≠ row) : In.RM w' (some ⟨b, 0, none⟩) zs := by
  rcases h with h | ⟨g, off, e, hc⟩
  · exact .inl h
  · cases e
    exact .inr ⟨_, _, rfl, fun i hi => hg.cell (hc i hi) hne⟩
theorem rmI_take {w : World} {g off : Nat} {zs : List Int} (h : In.RM w (some ⟨g, off, none⟩) zs) (n : Nat) : In.RM w (some ⟨g, off, none⟩) (zs.take n) := by
  refine .inr ⟨g, off, rfl, fun i hi => ?_⟩
  have hl : i < n ∧ i < zs.length := by simp at hi; omega
  have := h.at hl.2
  rw [List.getD_eq_getElem?_getD, List.getElem?_take_of_lt hl.1, ← List.getD_eq_getElem?_getD]; exact this
theorem rmI_drop {w : World} {g off : Nat} {zs : List Int} (h : In.RM w (some ⟨g, off, none⟩) zs) (n : Nat) : In.RM w (some ⟨g, off + n, none⟩) (zs.drop n) := by
  refine .inr ⟨g, off + n, rfl, fun i hi => ?_⟩
  have hl : n + i < zs.length := by simp at hi; omega
  have := h.at hl
  rw [List.getD_eq_getElem?_getD, List.getElem?_drop, ← List.getD_eq_getElem?_getD, Nat.add_assoc]; exact this
theorem own_base {w : World} {b b' : Nat} {v : Value} {n : Nat} {xs : List Value} (h : w.ownsRow b 3 1 v n xs) (hle : b' ≤ b) : w.ownsRow b' 3 1 v n xs := by
  obtain ⟨h1, h2 | ⟨g, c, cur, e, hb, h3⟩⟩ := h
  · exact ⟨h1, .inl h2⟩
  · exact ⟨h1, .inr ⟨g, c, cur, e, Nat.le_trans hle hb, h3⟩⟩
theorem own_form {w : World} {b : Nat} {v : Value} {n : Nat} {xs : List Value} (h : w.ownsRow b 3 1 v n xs) (hn : 0 < n) : ∃ g c, v = .slice (some ⟨g, 0, none⟩) n c ∧ n ≤ c ∧ c ≤ maxLen := by
  obtain ⟨h1, ⟨_, h2⟩ | ⟨g, c, cur, e, hb, h3, h4, h5, _⟩⟩ := h
  · omega
  · exact ⟨g, c, e, h4, h5⟩
set_option maxRecDepth 100000 in
set_option maxHeartbeats 8000000 in
theorem l08Sorted (a : Option Addr) (L : List Int) (cap : Nat) (w : World) (hL : L.length ≤ 64) (hr : In.RM w a L) :
    Calls Tryz.prog 93 #[.slice a L.length cap] w fun e w' => ∃ v, e = .returned v ∧ Below w.heap.size w w' ∧ In.LstV w' v (sortV L) w.heap.size w'.heap.size := by
  have HR := hide hr
  clear hr
  generalize hN : L.length = n at *
  have HN := hide hN
  clear hN
  have P0 := hide ((Below.refl w.heap.size w).alloc (Nat.le_refl _) (.cells #[] 3))
  have O1 : Hid ((w.alloc (.cells #[] 3)).ownsRow w.heap.size 3 1 (.slice (some ⟨w.heap.size, 0, none⟩) 0 0) 0 (In.flat (sortV (L.take 0)))) := hide (In.own_empty w w.heap.size (Nat.le_refl _))
  go_enter Tryz.func93, Tryz.ntmps93
  go_wp2_with fail
  go_loopw [3, 4] (fun v i wo => ∃ j : Nat, j ≤ n ∧ i = .int .i64 j ∧ ∃ g c : Nat, v = .slice (some ⟨g, 0, none⟩) j c ∧ j ≤ c ∧ Hid (c ≤ maxLen) ∧ Hid (wo.ownsRow w.heap.size 3 1 (.slice (some ⟨g, 0, none⟩) j c) j (In.flat (sortV (L.take j)))) ∧ Hid (Below w.heap.size w wo)) (fun _ i _ => n - (intOf i).toNat)
  case atStart => exact ⟨0, by omega, rfl, w.heap.size, 0, rfl, by omega, hide (Nat.zero_le _), O1, P0⟩
  case round =>
    rename World => wo
    obtain ⟨j, hj, rfl, g, c, rfl, hjc, hcm, how, hbl⟩ := hrel
    have hbs := (unhide hbl).size
    by_cases hlt : (j : Int) < (n : Int)
    · have k0 : (0 : Int) ≤ (j : Int) := by omega
      have hlen : j < L.length := by rw [unhide HN]; omega
      have HSL := hide (sort_len L j (by omega))
      have HSS := hide (sort_step hlen)
      have HLr := hide ((unhide HR).below (unhide hbl))
      rcases unhide HLr with e0 | ⟨gl, ol, rfl, hc⟩
      · exfalso; rw [e0] at hlen; simp at hlen
      clear hc
      have HX : Hid (∀ W : World, In.RM W (some ⟨gl, ol, none⟩) L → W.cell? ⟨gl, ol + j, none⟩ = some (.int .i64 (L.getD j 0))) := hide (fun W h => h.at hlen)
      have HU := hide (In.rm_of (n := j) (by rw [unhide HSL]; exact In.upto_own (unhide HSL).symm (unhide how)))
      have hcm' := unhide hcm
      unfold maxLen at hcm'
      generalize L.getD j 0 = x at *
      generalize sortV (L.take j) = SS at *
      go_wp2_with fail
      go_loopw [5] (fun k w6 => ∃ t : Nat, t ≤ j ∧ k = .int .i64 t ∧ Hid (∀ i, t ≤ i → i < j → x < SS.getD i 0) ∧ Hid (Below wo.heap.size wo w6)) (fun k _ => (intOf k).toNat)
      case atStart => exact ⟨j, Nat.le_refl _, rfl, hide (fun i h1 h2 => absurd h1 (by omega)), hide (Below.refl _ _)⟩
      case round =>
        rename World => w6
        obtain ⟨t, ht, rfl, hup, hb6⟩ := hrel
        have HL6 := hide ((unhide HLr).below (unhide hb6))
        have HU6 := hide ((unhide HU).below (unhide hb6))
        have HB6 := hide ((unhide hbl).trans ((unhide hb6).mono hbs))
        have hs6 := (unhide HB6).size
        rcases t with _ | t
        · have HT : Hid (SS.length - tailN SS x = 0) := hide (tail_of (Nat.zero_le _) (fun i _ h2 => unhide hup i (Nat.zero_le _) (by rw [← unhide HSL]; exact h2)) (fun h => absurd h (by omega)))
          go_wp2_with fail
          refine wp_region_noPanic ?_
          refine wp_region_held_drew (S := fun w' => w'.cell? ⟨gl, ol + j, none⟩ = some (.int .i64 x)) (by kernel_rfl) (unhide HX _ ((unhide HL6).below ((Below.refl _ _).drew))) (fun hHeld => ?_)
          refine Rg.t 0 15 ?_
          refine Rg.t 1 16 ?_
          refine Rg.t 2 17 ?_
          refine Rg.s 3 18 ?_
          refine Rg.s 4 19 ?_
          refine Rg.s 5 20 ?_
          refine Rg.s 6 21 ?_
          refine Rg.s 7 22 ?_
          refine Rg.s 8 23 ?_
          refine Rg.s 9 24 ?_
          refine Rg.s 10 25 ?_
          refine Rg.s 11 26 ?_
          refine Rg.s 12 27 ?_
          refine Rg.t 13 28 ?_
          refine wpAnyH_done (by kernel_rfl) (NoPanic.normal ?_) _
          clear hHeld
          have HE1 : Hid (sortV (L.take (j + 1)) = (([] ++ SS.take 0) ++ [x]) ++ SS.drop 0) := hide (by rw [unhide HSS]; unfold insV; rw [unhide HT, List.nil_append])
          have HSL1 : Hid ((sortV (L.take (j + 1))).length = j + 1) := hide (sort_len L (j + 1) (by rw [unhide HN]; omega))
          have p1 : (0 : Int) ≤ (c : Int) := by omega
          have p2 : (0 : Int) ≤ (j : Int) := by omega
          have p0 : (0 : Int) ≤ (0 : Int) := by omega
          have c1 : (j : Int) ≤ (c : Int) := by omega
          have lt1 : Hid ((SS.take 0).length = 0) := hide (by rw [List.length_take, unhide HSL]; omega)
          have ld1 : Hid ((SS.drop 0).length = j - 0) := hide (by rw [List.length_drop, unhide HSL])
          have HD : Hid (∀ W, In.RM W (some ⟨g, 0, none⟩) SS → In.RM W (some ⟨g, if c = 0 then 0 else 0, none⟩) (SS.drop 0)) := hide (fun W h => by
            split
            · exact .inl (List.drop_eq_nil_of_le (by rw [unhide HSL]; omega))
            · have := rmI_drop h 0; rw [Nat.zero_add] at this; exact this)
          have HV : Hid (Below w6.heap.size w6 w6.drew.drew) := hide ((Below.refl _ _).drew.drew)
          by_cases hcp : c = 0
          · rw [if_pos hcp] at HD
            rw [show j - 0 = 0 by omega] at ld1
            subst hcp
            go_wp2_with fail
            refine wp_region_noPanic ?_
            refine wp_region_held_drew (S := fun w' => w'.cell? ⟨gl, ol + j, none⟩ = some (.int .i64 x)) (by kernel_rfl) (unhide HX _ ((unhide HL6).below (unhide HV))) (fun hHeld => ?_)
            refine Rg.t 1 32 ?_
            refine Rg.t 2 33 ?_
            refine Rg.t 3 34 ?_
            refine Rg.t 5 36 ?_
            refine Rg.t 6 37 ?_
            refine Rg.t 7 38 ?_
            refine Rg.t 8 39 ?_
            refine Rg.t 11 42 ?_
            refine Rg.t 12 43 ?_
            refine Rg.t 13 44 ?_
            generalize hV : w6.drew.drew = V at *
            clear hV
            have hVs := (unhide HV).size
            (refine wpAnyH_ready (rs := [0, 9]) (by kernel_rfl) (by simp) ?_; refine AllReadyH.cons (o := _) rfl (fun K hK => ?_) (AllReadyH.cons (o := _) rfl (fun K hK => ?_) AllReadyH.nil))
            · go_simp
              have HV1 := hide ((unhide HV).alloc (unhide HV).size (.cells #[] 3))
              have O0 := hide (In.own_empty V w6.heap.size hVs)
              refine hK.out _ _ (unhide HX _ ((unhide HL6).below (unhide HV1))) (fun hHeld => ?_)
              clear hK K
              (try simp only [Act.put, List.setIfInBounds_toArray, List.set_cons_zero, List.set_cons_succ])
              (refine wpAnyH_ready (rs := [4, 9]) (by kernel_rfl) (by simp) ?_; refine AllReadyH.cons (o := _) rfl (fun K hK => ?_) (AllReadyH.cons (o := _) rfl (fun K hK => ?_) AllReadyH.nil))
              · rw [if_pos (by rfl)]
                refine wp_apI (unhide O0) g 0 0 0 (SS.take 0) (unhide lt1) (rmI_take ((unhide HU6).below (unhide HV1)) 0) (by rw [unhide lt1]; simp <;> omega) (unhide HV1).size _ _ rfl rfl rfl rfl ?_
                intro v4 w4 o4 g4
                have O4 := hide o4
                have HV4 := hide (In.below_own (unhide HV1) (unhide O0) g4 (Nat.le_refl _) (unhide HV1).size)
                clear o4 g4
                refine hK.out _ _ (unhide HX _ ((unhide HL6).below (unhide HV4))) (fun hHeld => ?_)
                clear hK K
                (try simp only [Act.put, List.setIfInBounds_toArray, List.set_cons_zero, List.set_cons_succ])
                (refine Rg.o 9 (fun K hK => ?_); go_simp)
                have HV6 := hide ((unhide HV4).alloc (unhide HV4).size (.cells #[.int .i64 x] 3))
                have O6 := hide ((unhide O4).alloc (.cells #[.int .i64 x] 3))
                have RX := hide (In.rm_new w4 x)
                refine hK.out _ _ (unhide HX _ ((unhide HL6).below (unhide HV6))) (fun hHeld => ?_)
                clear hK K
                (try simp only [Act.put, List.setIfInBounds_toArray, List.set_cons_zero, List.set_cons_succ])
                (refine Rg.o 10 (fun K hK => ?_); rw [if_pos (by rfl)])
                refine wp_apI (unhide O6) _ 0 1 1 [x] rfl (unhide RX) (by simp only [List.nil_append, List.length_cons, List.length_nil]; rw [unhide lt1]; omega) (unhide HV6).size _ _ rfl rfl rfl rfl ?_
                intro v7 w7 o7 g7
                have O7 := hide o7
                have HV7 := hide (In.below_own (unhide HV6) (unhide O6) g7 (Nat.le_refl _) (unhide HV6).size)
                clear o7 g7
                refine hK.out _ _ (unhide HX _ ((unhide HL6).below (unhide HV7))) (fun hHeld => ?_)
                clear hK K
                (try simp only [Act.put, List.setIfInBounds_toArray, List.set_cons_zero, List.set_cons_succ])
                (refine Rg.o 14 (fun K hK => ?_); rw [if_pos (by rfl)])
                refine wp_apI (unhide O7) g _ _ _ (SS.drop _) (unhide ld1) (unhide HD _ ((unhide HU6).below (unhide HV7))) (by simp only [List.nil_append, List.length_append, List.length_cons, List.length_nil]; rw [unhide ld1, unhide lt1]; omega) (unhide HV7).size _ _ rfl rfl rfl rfl ?_
                intro v8 w8 o8 g8
                have HV8 := hide (In.below_own (unhide HV7) (unhide O7) g8 (Nat.le_refl _) (unhide HV7).size)
                rw [← unhide HE1, unhide HSL1] at o8
                obtain ⟨g9, c9, rfl, hc9, hm9⟩ := own_form o8 (by omega)
                have HO9 := hide (own_base (b' := w.heap.size) o8 hs6)
                have HM9 := hide hm9
                clear o8 g8 hm9
                refine hK.out _ _ (unhide HX _ ((unhide HL6).below (unhide HV8))) (fun hHeld => ?_)
                clear hK K
                (try simp only [Act.put, List.setIfInBounds_toArray, List.set_cons_zero, List.set_cons_succ])
                refine Rg.t 15 3 ?_
                refine wpAnyH_done (by kernel_rfl) (NoPanic.normal ?_) _
                have HBF := hide ((unhide HB6).trans ((unhide HV8).mono hs6))
                clear hHeld
                go_wp2_with fail
                go_roundw
                case rel => exact ⟨j + 1, by omega, by go_num, g9, c9, rfl, hc9, HM9, HO9, HBF⟩
                case measure => simp [intOf]; omega
              · go_simp
                have HV5 := hide ((unhide HV1).alloc (unhide HV1).size (.cells #[.int .i64 x] 3))
                have O5 := hide ((unhide O0).alloc (.cells #[.int .i64 x] 3))
                have RX0 := In.rm_new (V.alloc (.cells #[] 3)) x
                simp only [World.size_alloc] at RX0
                have RX5 := hide RX0
                clear RX0
                refine hK.out _ _ (unhide HX _ ((unhide HL6).below (unhide HV5))) (fun hHeld => ?_)
                clear hK K
                (try simp only [Act.put, List.setIfInBounds_toArray, List.set_cons_zero, List.set_cons_succ])
                (refine Rg.o 4 (fun K hK => ?_); rw [if_pos (by rfl)])
                refine wp_apI (unhide O5) g 0 0 0 (SS.take 0) (unhide lt1) (rmI_take ((unhide HU6).below (unhide HV5)) 0) (by rw [unhide lt1]; simp <;> omega) (unhide HV5).size _ _ rfl rfl rfl rfl ?_
                intro v4 w4 o4 g4
                have O6 := hide o4
                have HV6 := hide (In.below_own (unhide HV5) (unhide O5) g4 (Nat.le_refl _) (unhide HV5).size)
                have RX := hide (rmI_grown (unhide RX5) g4 (by simp [Value.ownBlock]))
                clear o4 g4
                refine hK.out _ _ (unhide HX _ ((unhide HL6).below (unhide HV6))) (fun hHeld => ?_)
                clear hK K
                (try simp only [Act.put, List.setIfInBounds_toArray, List.set_cons_zero, List.set_cons_succ])
                (refine Rg.o 10 (fun K hK => ?_); rw [if_pos (by rfl)])
                refine wp_apI (unhide O6) _ 0 1 1 [x] rfl (unhide RX) (by simp only [List.nil_append, List.length_cons, List.length_nil]; rw [unhide lt1]; omega) (unhide HV6).size _ _ rfl rfl rfl rfl ?_
                intro v7 w7 o7 g7
                have O7 := hide o7
                have HV7 := hide (In.below_own (unhide HV6) (unhide O6) g7 (Nat.le_refl _) (unhide HV6).size)
                clear o7 g7
                refine hK.out _ _ (unhide HX _ ((unhide HL6).below (unhide HV7))) (fun hHeld => ?_)
                clear hK K
                (try simp only [Act.put, List.setIfInBounds_toArray, List.set_cons_zero, List.set_cons_succ])
                (refine Rg.o 14 (fun K hK => ?_); rw [if_pos (by rfl)])
                refine wp_apI (unhide O7) g _ _ _ (SS.drop _) (unhide ld1) (unhide HD _ ((unhide HU6).below (unhide HV7))) (by simp only [List.nil_append, List.length_append, List.length_cons, List.length_nil]; rw [unhide ld1, unhide lt1]; omega) (unhide HV7).size _ _ rfl rfl rfl rfl ?_
                intro v8 w8 o8 g8
                have HV8 := hide (In.below_own (unhide HV7) (unhide O7) g8 (Nat.le_refl _) (unhide HV7).size)
                rw [← unhide HE1, unhide HSL1] at o8
                obtain ⟨g9, c9, rfl, hc9, hm9⟩ := own_form o8 (by omega)
                have HO9 := hide (own_base (b' := w.heap.size) o8 hs6)
                have HM9 := hide hm9
                clear o8 g8 hm9
                refine hK.out _ _ (unhide HX _ ((unhide HL6).below (unhide HV8))) (fun hHeld => ?_)
                clear hK K
                (try simp only [Act.put, List.setIfInBounds_toArray, List.set_cons_zero, List.set_cons_succ])
                refine Rg.t 15 3 ?_
                refine wpAnyH_done (by kernel_rfl) (NoPanic.normal ?_) _
                have HBF := hide ((unhide HB6).trans ((unhide HV8).mono hs6))
                clear hHeld
                go_wp2_with fail
                go_roundw
                case rel => exact ⟨j + 1, by omega, by go_num, g9, c9, rfl, hc9, HM9, HO9, HBF⟩
                case measure => simp [intOf]; omega
            · go_simp
              have HV1 := hide ((unhide HV).alloc (unhide HV).size (.cells #[.int .i64 x] 3))
              have RX1 := hide (In.rm_new V x)
              refine hK.out _ _ (unhide HX _ ((unhide HL6).below (unhide HV1))) (fun hHeld => ?_)
              clear hK K
              (try simp only [Act.put, List.setIfInBounds_toArray, List.set_cons_zero, List.set_cons_succ])
              (refine Rg.o 0 (fun K hK => ?_); go_simp)
              have HV5 := hide ((unhide HV1).alloc (unhide HV1).size (.cells #[] 3))
              have O50 := In.own_empty (V.alloc (.cells #[.int .i64 x] 3)) w6.heap.size (unhide HV1).size
              simp only [World.size_alloc] at O50
              have O5 := hide O50
              clear O50
              have RX5 := hide ((unhide RX1).below ((Below.refl _ _).alloc (Nat.le_refl _) (.cells #[] 3)))
              refine hK.out _ _ (unhide HX _ ((unhide HL6).below (unhide HV5))) (fun hHeld => ?_)
              clear hK K
              (try simp only [Act.put, List.setIfInBounds_toArray, List.set_cons_zero, List.set_cons_succ])
              (refine Rg.o 4 (fun K hK => ?_); rw [if_pos (by rfl)])
              refine wp_apI (unhide O5) g 0 0 0 (SS.take 0) (unhide lt1) (rmI_take ((unhide HU6).below (unhide HV5)) 0) (by rw [unhide lt1]; simp <;> omega) (unhide HV5).size _ _ rfl rfl rfl rfl ?_
              intro v4 w4 o4 g4
              have O6 := hide o4
              have HV6 := hide (In.below_own (unhide HV5) (unhide O5) g4 (Nat.le_refl _) (unhide HV5).size)
              have RX := hide (rmI_grown (unhide RX5) g4 (by simp [Value.ownBlock]))
              clear o4 g4
              refine hK.out _ _ (unhide HX _ ((unhide HL6).below (unhide HV6))) (fun hHeld => ?_)
              clear hK K
              (try simp only [Act.put, List.setIfInBounds_toArray, List.set_cons_zero, List.set_cons_succ])
              (refine Rg.o 10 (fun K hK => ?_); rw [if_pos (by rfl)])
              refine wp_apI (unhide O6) _ 0 1 1 [x] rfl (unhide RX) (by simp only [List.nil_append, List.length_cons, List.length_nil]; rw [unhide lt1]; omega) (unhide HV6).size _ _ rfl rfl rfl rfl ?_
              intro v7 w7 o7 g7
              have O7 := hide o7
              have HV7 := hide (In.below_own (unhide HV6) (unhide O6) g7 (Nat.le_refl _) (unhide HV6).size)
              clear o7 g7
              refine hK.out _ _ (unhide HX _ ((unhide HL6).below (unhide HV7))) (fun hHeld => ?_)
              clear hK K
              (try simp only [Act.put, List.setIfInBounds_toArray, List.set_cons_zero, List.set_cons_succ])
              (refine Rg.o 14 (fun K hK => ?_); rw [if_pos (by rfl)])
              refine wp_apI (unhide O7) g _ _ _ (SS.drop _) (unhide ld1) (unhide HD _ ((unhide HU6).below (unhide HV7))) (by simp only [List.nil_append, List.length_append, List.length_cons, List.length_nil]; rw [unhide ld1, unhide lt1]; omega) (unhide HV7).size _ _ rfl rfl rfl rfl ?_
              intro v8 w8 o8 g8
              have HV8 := hide (In.below_own (unhide HV7) (unhide O7) g8 (Nat.le_refl _) (unhide HV7).size)
              rw [← unhide HE1, unhide HSL1] at o8
              obtain ⟨g9, c9, rfl, hc9, hm9⟩ := own_form o8 (by omega)
              have HO9 := hide (own_base (b' := w.heap.size) o8 hs6)
              have HM9 := hide hm9
              clear o8 g8 hm9
              refine hK.out _ _ (unhide HX _ ((unhide HL6).below (unhide HV8))) (fun hHeld => ?_)
              clear hK K
              (try simp only [Act.put, List.setIfInBounds_toArray, List.set_cons_zero, List.set_cons_succ])
              refine Rg.t 15 3 ?_
              refine wpAnyH_done (by kernel_rfl) (NoPanic.normal ?_) _
              have HBF := hide ((unhide HB6).trans ((unhide HV8).mono hs6))
              clear hHeld
              go_wp2_with fail
              go_roundw
              case rel => exact ⟨j + 1, by omega, by go_num, g9, c9, rfl, hc9, HM9, HO9, HBF⟩
              case measure => simp [intOf]; omega
          · rw [if_neg hcp] at HD
            go_wp2_with fail
            refine wp_region_noPanic ?_
            refine wp_region_held_drew (S := fun w' => w'.cell? ⟨gl, ol + j, none⟩ = some (.int .i64 x)) (by kernel_rfl) (unhide HX _ ((unhide HL6).below (unhide HV))) (fun hHeld => ?_)
            refine Rg.t 1 32 ?_
            refine Rg.t 2 33 ?_
            refine Rg.t 3 34 ?_
            refine Rg.t 5 36 ?_
            refine Rg.t 6 37 ?_
            refine Rg.t 7 38 ?_
            refine Rg.t 8 39 ?_
            refine Rg.t 11 42 ?_
            refine Rg.t 12 43 ?_
            refine Rg.t 13 44 ?_
            generalize hV : w6.drew.drew = V at *
            clear hV
            have hVs := (unhide HV).size
            (refine wpAnyH_ready (rs := [0, 9]) (by kernel_rfl) (by simp) ?_; refine AllReadyH.cons (o := _) rfl (fun K hK => ?_) (AllReadyH.cons (o := _) rfl (fun K hK => ?_) AllReadyH.nil))
            · go_simp
              have HV1 := hide ((unhide HV).alloc (unhide HV).size (.cells #[] 3))
              have O0 := hide (In.own_empty V w6.heap.size hVs)
              refine hK.out _ _ (unhide HX _ ((unhide HL6).below (unhide HV1))) (fun hHeld => ?_)
              clear hK K
              (try simp only [Act.put, List.setIfInBounds_toArray, List.set_cons_zero, List.set_cons_succ])
              (refine wpAnyH_ready (rs := [4, 9]) (by kernel_rfl) (by simp) ?_; refine AllReadyH.cons (o := _) rfl (fun K hK => ?_) (AllReadyH.cons (o := _) rfl (fun K hK => ?_) AllReadyH.nil))
              · rw [if_pos (by rfl)]
                refine wp_apI (unhide O0) g 0 0 c (SS.take 0) (unhide lt1) (rmI_take ((unhide HU6).below (unhide HV1)) 0) (by rw [unhide lt1]; simp <;> omega) (unhide HV1).size _ _ rfl rfl rfl rfl ?_
                intro v4 w4 o4 g4
                have O4 := hide o4
                have HV4 := hide (In.below_own (unhide HV1) (unhide O0) g4 (Nat.le_refl _) (unhide HV1).size)
                clear o4 g4
                refine hK.out _ _ (unhide HX _ ((unhide HL6).below (unhide HV4))) (fun hHeld => ?_)
                clear hK K
                (try simp only [Act.put, List.setIfInBounds_toArray, List.set_cons_zero, List.set_cons_succ])
                (refine Rg.o 9 (fun K hK => ?_); go_simp)
                have HV6 := hide ((unhide HV4).alloc (unhide HV4).size (.cells #[.int .i64 x] 3))
                have O6 := hide ((unhide O4).alloc (.cells #[.int .i64 x] 3))
                have RX := hide (In.rm_new w4 x)
                refine hK.out _ _ (unhide HX _ ((unhide HL6).below (unhide HV6))) (fun hHeld => ?_)
                clear hK K
                (try simp only [Act.put, List.setIfInBounds_toArray, List.set_cons_zero, List.set_cons_succ])
                (refine Rg.o 10 (fun K hK => ?_); rw [if_pos (by rfl)])
                refine wp_apI (unhide O6) _ 0 1 1 [x] rfl (unhide RX) (by simp only [List.nil_append, List.length_cons, List.length_nil]; rw [unhide lt1]; omega) (unhide HV6).size _ _ rfl rfl rfl rfl ?_
                intro v7 w7 o7 g7
                have O7 := hide o7
                have HV7 := hide (In.below_own (unhide HV6) (unhide O6) g7 (Nat.le_refl _) (unhide HV6).size)
                clear o7 g7
                refine hK.out _ _ (unhide HX _ ((unhide HL6).below (unhide HV7))) (fun hHeld => ?_)
                clear hK K
                (try simp only [Act.put, List.setIfInBounds_toArray, List.set_cons_zero, List.set_cons_succ])
                (refine Rg.o 14 (fun K hK => ?_); rw [if_pos (by rfl)])
                refine wp_apI (unhide O7) g _ _ _ (SS.drop _) (unhide ld1) (unhide HD _ ((unhide HU6).below (unhide HV7))) (by simp only [List.nil_append, List.length_append, List.length_cons, List.length_nil]; rw [unhide ld1, unhide lt1]; omega) (unhide HV7).size _ _ rfl rfl rfl rfl ?_
                intro v8 w8 o8 g8
                have HV8 := hide (In.below_own (unhide HV7) (unhide O7) g8 (Nat.le_refl _) (unhide HV7).size)
                rw [← unhide HE1, unhide HSL1] at o8
                obtain ⟨g9, c9, rfl, hc9, hm9⟩ := own_form o8 (by omega)
                have HO9 := hide (own_base (b' := w.heap.size) o8 hs6)
                have HM9 := hide hm9
                clear o8 g8 hm9
                refine hK.out _ _ (unhide HX _ ((unhide HL6).below (unhide HV8))) (fun hHeld => ?_)
                clear hK K
                (try simp only [Act.put, List.setIfInBounds_toArray, List.set_cons_zero, List.set_cons_succ])
                refine Rg.t 15 3 ?_
                refine wpAnyH_done (by kernel_rfl) (NoPanic.normal ?_) _
                have HBF := hide ((unhide HB6).trans ((unhide HV8).mono hs6))
                clear hHeld
                go_wp2_with fail
                go_roundw
                case rel => exact ⟨j + 1, by omega, by go_num, g9, c9, rfl, hc9, HM9, HO9, HBF⟩
                case measure => simp [intOf]; omega
              · go_simp
                have HV5 := hide ((unhide HV1).alloc (unhide HV1).size (.cells #[.int .i64 x] 3))
                have O5 := hide ((unhide O0).alloc (.cells #[.int .i64 x] 3))
                have RX0 := In.rm_new (V.alloc (.cells #[] 3)) x
                simp only [World.size_alloc] at RX0
                have RX5 := hide RX0
                clear RX0
                refine hK.out _ _ (unhide HX _ ((unhide HL6).below (unhide HV5))) (fun hHeld => ?_)
                clear hK K
                (try simp only [Act.put, List.setIfInBounds_toArray, List.set_cons_zero, List.set_cons_succ])
                (refine Rg.o 4 (fun K hK => ?_); rw [if_pos (by rfl)])
                refine wp_apI (unhide O5) g 0 0 c (SS.take 0) (unhide lt1) (rmI_take ((unhide HU6).below (unhide HV5)) 0) (by rw [unhide lt1]; simp <;> omega) (unhide HV5).size _ _ rfl rfl rfl rfl ?_
                intro v4 w4 o4 g4
                have O6 := hide o4
                have HV6 := hide (In.below_own (unhide HV5) (unhide O5) g4 (Nat.le_refl _) (unhide HV5).size)
                have RX := hide (rmI_grown (unhide RX5) g4 (by simp [Value.ownBlock]))
                clear o4 g4
                refine hK.out _ _ (unhide HX _ ((unhide HL6).below (unhide HV6))) (fun hHeld => ?_)
                clear hK K
                (try simp only [Act.put, List.setIfInBounds_toArray, List.set_cons_zero, List.set_cons_succ])
                (refine Rg.o 10 (fun K hK => ?_); rw [if_pos (by rfl)])
                refine wp_apI (unhide O6) _ 0 1 1 [x] rfl (unhide RX) (by simp only [List.nil_append, List.length_cons, List.length_nil]; rw [unhide lt1]; omega) (unhide HV6).size _ _ rfl rfl rfl rfl ?_
                intro v7 w7 o7 g7
                have O7 := hide o7
                have HV7 := hide (In.below_own (unhide HV6) (unhide O6) g7 (Nat.le_refl _) (unhide HV6).size)
                clear o7 g7
                refine hK.out _ _ (unhide HX _ ((unhide HL6).below (unhide HV7))) (fun hHeld => ?_)
                clear hK K
                (try simp only [Act.put, List.setIfInBounds_toArray, List.set_cons_zero, List.set_cons_succ])
                (refine Rg.o 14 (fun K hK => ?_); rw [if_pos (by rfl)])
                refine wp_apI (unhide O7) g _ _ _ (SS.drop _) (unhide ld1) (unhide HD _ ((unhide HU6).below (unhide HV7))) (by simp only [List.nil_append, List.length_append, List.length_cons, List.length_nil]; rw [unhide ld1, unhide lt1]; omega) (unhide HV7).size _ _ rfl rfl rfl rfl ?_
                intro v8 w8 o8 g8
                have HV8 := hide (In.below_own (unhide HV7) (unhide O7) g8 (Nat.le_refl _) (unhide HV7).size)
                rw [← unhide HE1, unhide HSL1] at o8
                obtain ⟨g9, c9, rfl, hc9, hm9⟩ := own_form o8 (by omega)
                have HO9 := hide (own_base (b' := w.heap.size) o8 hs6)
                have HM9 := hide hm9
                clear o8 g8 hm9
                refine hK.out _ _ (unhide HX _ ((unhide HL6).below (unhide HV8))) (fun hHeld => ?_)
                clear hK K
                (try simp only [Act.put, List.setIfInBounds_toArray, List.set_cons_zero, List.set_cons_succ])
                refine Rg.t 15 3 ?_
                refine wpAnyH_done (by kernel_rfl) (NoPanic.normal ?_) _
                have HBF := hide ((unhide HB6).trans ((unhide HV8).mono hs6))
                clear hHeld
                go_wp2_with fail
                go_roundw
                case rel => exact ⟨j + 1, by omega, by go_num, g9, c9, rfl, hc9, HM9, HO9, HBF⟩
                case measure => simp [intOf]; omega
            · go_simp
              have HV1 := hide ((unhide HV).alloc (unhide HV).size (.cells #[.int .i64 x] 3))
              have RX1 := hide (In.rm_new V x)
              refine hK.out _ _ (unhide HX _ ((unhide HL6).below (unhide HV1))) (fun hHeld => ?_)
              clear hK K
              (try simp only [Act.put, List.setIfInBounds_toArray, List.set_cons_zero, List.set_cons_succ])
              (refine Rg.o 0 (fun K hK => ?_); go_simp)
              have HV5 := hide ((unhide HV1).alloc (unhide HV1).size (.cells #[] 3))
              have O50 := In.own_empty (V.alloc (.cells #[.int .i64 x] 3)) w6.heap.size (unhide HV1).size
              simp only [World.size_alloc] at O50
              have O5 := hide O50
              clear O50
              have RX5 := hide ((unhide RX1).below ((Below.refl _ _).alloc (Nat.le_refl _) (.cells #[] 3)))
              refine hK.out _ _ (unhide HX _ ((unhide HL6).below (unhide HV5))) (fun hHeld => ?_)
              clear hK K
              (try simp only [Act.put, List.setIfInBounds_toArray, List.set_cons_zero, List.set_cons_succ])
              (refine Rg.o 4 (fun K hK => ?_); rw [if_pos (by rfl)])
              refine wp_apI (unhide O5) g 0 0 c (SS.take 0) (unhide lt1) (rmI_take ((unhide HU6).below (unhide HV5)) 0) (by rw [unhide lt1]; simp <;> omega) (unhide HV5).size _ _ rfl rfl rfl rfl ?_
              intro v4 w4 o4 g4
              have O6 := hide o4
              have HV6 := hide (In.below_own (unhide HV5) (unhide O5) g4 (Nat.le_refl _) (unhide HV5).size)
              have RX := hide (rmI_grown (unhide RX5) g4 (by simp [Value.ownBlock]))
              clear o4 g4
              refine hK.out _ _ (unhide HX _ ((unhide HL6).below (unhide HV6))) (fun hHeld => ?_)
              clear hK K
              (try simp only [Act.put, List.setIfInBounds_toArray, List.set_cons_zero, List.set_cons_succ])
              (refine Rg.o 10 (fun K hK => ?_); rw [if_pos (by rfl)])
              refine wp_apI (unhide O6) _ 0 1 1 [x] rfl (unhide RX) (by simp only [List.nil_append, List.length_cons, List.length_nil]; rw [unhide lt1]; omega) (unhide HV6).size _ _ rfl rfl rfl rfl ?_
              intro v7 w7 o7 g7
              have O7 := hide o7
              have HV7 := hide (In.below_own (unhide HV6) (unhide O6) g7 (Nat.le_refl _) (unhide HV6).size)
              clear o7 g7
              refine hK.out _ _ (unhide HX _ ((unhide HL6).below (unhide HV7))) (fun hHeld => ?_)
              clear hK K
              (try simp only [Act.put, List.setIfInBounds_toArray, List.set_cons_zero, List.set_cons_succ])
              (refine Rg.o 14 (fun K hK => ?_); rw [if_pos (by rfl)])
              refine wp_apI (unhide O7) g _ _ _ (SS.drop _) (unhide ld1) (unhide HD _ ((unhide HU6).below (unhide HV7))) (by simp only [List.nil_append, List.length_append, List.length_cons, List.length_nil]; rw [unhide ld1, unhide lt1]; omega) (unhide HV7).size _ _ rfl rfl rfl rfl ?_
              intro v8 w8 o8 g8
              have HV8 := hide (In.below_own (unhide HV7) (unhide O7) g8 (Nat.le_refl _) (unhide HV7).size)
              rw [← unhide HE1, unhide HSL1] at o8
              obtain ⟨g9, c9, rfl, hc9, hm9⟩ := own_form o8 (by omega)
              have HO9 := hide (own_base (b' := w.heap.size) o8 hs6)
              have HM9 := hide hm9
              clear o8 g8 hm9
              refine hK.out _ _ (unhide HX _ ((unhide HL6).below (unhide HV8))) (fun hHeld => ?_)
              clear hK K
              (try simp only [Act.put, List.setIfInBounds_toArray, List.set_cons_zero, List.set_cons_succ])
              refine Rg.t 15 3 ?_
              refine wpAnyH_done (by kernel_rfl) (NoPanic.normal ?_) _
              have HBF := hide ((unhide HB6).trans ((unhide HV8).mono hs6))
              clear hHeld
              go_wp2_with fail
              go_roundw
              case rel => exact ⟨j + 1, by omega, by go_num, g9, c9, rfl, hc9, HM9, HO9, HBF⟩
              case measure => simp [intOf]; omega
        · have hlt2 : t < j := by omega
          have ec : ((t + 1 : Nat) : Int) = (t : Int) + 1 := by omega
          rw [ec]
          have HY : Hid (∀ W : World, In.RM W (some ⟨g, 0, none⟩) SS → W.cell? ⟨g, t, none⟩ = some (.int .i64 (SS.getD t 0))) := hide (fun W h => by have := h.at (i := t) (by rw [unhide HSL]; exact hlt2); rw [Nat.zero_add] at this; exact this)
          have k1 : (0 : Int) ≤ (t : Int) := by omega
          have k2 : (0 : Int) < (t : Int) + 1 := by omega
          have k3 : (t : Int) < (j : Int) := by omega
          have HUP : Hid (x < SS.getD t 0 → ∀ i, t ≤ i → i < j → x < SS.getD i 0) := hide (fun h i h1 h2 => by
            by_cases e : i = t
            · subst e; exact h
            · exact unhide hup i (by omega) h2)
          have HTT : Hid (¬ x < SS.getD t 0 → SS.length - tailN SS x = t + 1) := hide (fun h => tail_of (by rw [unhide HSL]; omega) (fun i h1 h2 => unhide hup i h1 (by rw [← unhide HSL]; exact h2)) (fun _ => by rw [Nat.add_sub_cancel]; exact h))
          generalize SS.getD t 0 = y at *
          by_cases hxy : x < y
          · have HUQ := hide (unhide HUP hxy)
            go_wp2_with fail
            refine wp_region_noPanic ?_
            refine wp_region_held_drew (S := fun w' => w'.cell? ⟨g, t, none⟩ = some (.int .i64 y) ∧ w'.cell? ⟨gl, ol + j, none⟩ = some (.int .i64 x)) (by kernel_rfl) ⟨unhide HY _ ((unhide HU6).below ((Below.refl _ _).drew)), unhide HX _ ((unhide HL6).below ((Below.refl _ _).drew))⟩ (fun hHeld => ?_)
            refine Rg.t 0 15 ?_
            refine Rg.t 1 16 ?_
            refine Rg.t 2 17 ?_
            refine Rg.t 3 18 ?_
            refine Rg.t 4 19 ?_
            (refine Rg.tk (i := 5) (d := 20) (v := .int .i64 t) rfl rfl (by kernel_rfl) (by kernel_rfl) (by kernel_rfl) (fun _ _ _ h => h) (by rfl) ?_ (by assumption) ?_; (focus (intro w0 hSw; (try dsimp only at hSw); go_simp)); (try simp only [Act.put, List.setIfInBounds_toArray, List.set_cons_zero, List.set_cons_succ]))
            · exact IntWalk.i64_in _ (by omega)
            refine Rg.t (v := .pointer (some ⟨g, t, none⟩)) 6 21 ?_
            refine Rg.t 7 22 ?_
            refine Rg.t 8 23 ?_
            refine Rg.t 9 24 ?_
            refine Rg.t 10 25 ?_
            refine Rg.t 11 26 ?_
            refine Rg.t 12 27 ?_
            refine Rg.t 13 28 ?_
            refine wpAnyH_done (by kernel_rfl) (NoPanic.normal ?_) _
            clear hHeld
            have HB7 := hide ((unhide hb6).drew)
            go_wp2_with fail
            go_roundw
            case rel => exact ⟨t, by omega, by go_num, HUQ, HB7⟩
            case measure => simp [intOf] <;> omega
          · have HT := hide (unhide HTT hxy)
            go_wp2_with fail
            refine wp_region_noPanic ?_
            refine wp_region_held_drew (S := fun w' => w'.cell? ⟨g, t, none⟩ = some (.int .i64 y) ∧ w'.cell? ⟨gl, ol + j, none⟩ = some (.int .i64 x)) (by kernel_rfl) ⟨unhide HY _ ((unhide HU6).below ((Below.refl _ _).drew)), unhide HX _ ((unhide HL6).below ((Below.refl _ _).drew))⟩ (fun hHeld => ?_)
            refine Rg.t 0 15 ?_
            refine Rg.t 1 16 ?_
            refine Rg.t 2 17 ?_
            refine Rg.t 3 18 ?_
            refine Rg.t 4 19 ?_
            (refine Rg.tk (i := 5) (d := 20) (v := .int .i64 t) rfl rfl (by kernel_rfl) (by kernel_rfl) (by kernel_rfl) (fun _ _ _ h => h) (by rfl) ?_ (by assumption) ?_; (focus (intro w0 hSw; (try dsimp only at hSw); go_simp)); (try simp only [Act.put, List.setIfInBounds_toArray, List.set_cons_zero, List.set_cons_succ]))
            · exact IntWalk.i64_in _ (by omega)
            refine Rg.t (v := .pointer (some ⟨g, t, none⟩)) 6 21 ?_
            refine Rg.t 7 22 ?_
            refine Rg.t 8 23 ?_
            refine Rg.t 9 24 ?_
            refine Rg.t 10 25 ?_
            refine Rg.t 11 26 ?_
            refine Rg.t (v := .bool false) 12 27 ?_
            refine Rg.t 13 28 ?_
            refine wpAnyH_done (by kernel_rfl) (NoPanic.normal ?_) _
            clear hHeld hxy HUP HTT HY
            have HE1 : Hid (sortV (L.take (j + 1)) = (([] ++ SS.take (t + 1)) ++ [x]) ++ SS.drop (t + 1)) := hide (by rw [unhide HSS]; unfold insV; rw [unhide HT, List.nil_append])
            have HSL1 : Hid ((sortV (L.take (j + 1))).length = j + 1) := hide (sort_len L (j + 1) (by rw [unhide HN]; omega))
            have p1 : ((t : Int) + 1) ≤ (c : Int) := by omega
            have p2 : ((t : Int) + 1) ≤ (j : Int) := by omega
            have p0 : (0 : Int) ≤ ((t : Int) + 1) := by omega
            have c1 : (j : Int) ≤ (c : Int) := by omega
            have lt1 : Hid ((SS.take (t + 1)).length = (t + 1)) := hide (by rw [List.length_take, unhide HSL]; omega)
            have ld1 : Hid ((SS.drop (t + 1)).length = j - (t + 1)) := hide (by rw [List.length_drop, unhide HSL])
            have HD : Hid (∀ W, In.RM W (some ⟨g, 0, none⟩) SS → In.RM W (some ⟨g, if c = (t + 1) then 0 else (t + 1), none⟩) (SS.drop (t + 1))) := hide (fun W h => by
              split
              · exact .inl (List.drop_eq_nil_of_le (by rw [unhide HSL]; omega))
              · have := rmI_drop h (t + 1); rw [Nat.zero_add] at this; exact this)
            have HV : Hid (Below w6.heap.size w6 w6.drew.drew) := hide ((Below.refl _ _).drew.drew)
            by_cases hcp : c = (t + 1)
            · rw [if_pos hcp] at HD
              rw [show j - (t + 1) = 0 by omega] at ld1
              subst hcp
              go_wp2_with fail
              refine wp_region_noPanic ?_
              refine wp_region_held_drew (S := fun w' => w'.cell? ⟨gl, ol + j, none⟩ = some (.int .i64 x)) (by kernel_rfl) (unhide HX _ ((unhide HL6).below (unhide HV))) (fun hHeld => ?_)
              refine Rg.t 1 32 ?_
              refine Rg.t 2 33 ?_
              refine Rg.t 3 34 ?_
              refine Rg.t 5 36 ?_
              refine Rg.t 6 37 ?_
              refine Rg.t 7 38 ?_
              refine Rg.t 8 39 ?_
              refine Rg.t 11 42 ?_
              refine Rg.t 12 43 ?_
              refine Rg.t 13 44 ?_
              generalize hV : w6.drew.drew = V at *
              clear hV
              have hVs := (unhide HV).size
              (refine wpAnyH_ready (rs := [0, 9]) (by kernel_rfl) (by simp) ?_; refine AllReadyH.cons (o := _) rfl (fun K hK => ?_) (AllReadyH.cons (o := _) rfl (fun K hK => ?_) AllReadyH.nil))
              · go_simp
                have HV1 := hide ((unhide HV).alloc (unhide HV).size (.cells #[] 3))
                have O0 := hide (In.own_empty V w6.heap.size hVs)
                refine hK.out _ _ (unhide HX _ ((unhide HL6).below (unhide HV1))) (fun hHeld => ?_)
                clear hK K
                (try simp only [Act.put, List.setIfInBounds_toArray, List.set_cons_zero, List.set_cons_succ])
                (refine wpAnyH_ready (rs := [4, 9]) (by kernel_rfl) (by simp) ?_; refine AllReadyH.cons (o := _) rfl (fun K hK => ?_) (AllReadyH.cons (o := _) rfl (fun K hK => ?_) AllReadyH.nil))
                · rw [if_pos (by rfl)]
                  refine wp_apI (unhide O0) g 0 (t + 1) (t + 1) (SS.take (t + 1)) (unhide lt1) (rmI_take ((unhide HU6).below (unhide HV1)) (t + 1)) (by rw [unhide lt1]; simp <;> omega) (unhide HV1).size _ _ rfl rfl rfl rfl ?_
                  intro v4 w4 o4 g4
                  have O4 := hide o4
                  have HV4 := hide (In.below_own (unhide HV1) (unhide O0) g4 (Nat.le_refl _) (unhide HV1).size)
                  clear o4 g4
                  refine hK.out _ _ (unhide HX _ ((unhide HL6).below (unhide HV4))) (fun hHeld => ?_)
                  clear hK K
                  (try simp only [Act.put, List.setIfInBounds_toArray, List.set_cons_zero, List.set_cons_succ])
                  (refine Rg.o 9 (fun K hK => ?_); go_simp)
                  have HV6 := hide ((unhide HV4).alloc (unhide HV4).size (.cells #[.int .i64 x] 3))
                  have O6 := hide ((unhide O4).alloc (.cells #[.int .i64 x] 3))
                  have RX := hide (In.rm_new w4 x)
                  refine hK.out _ _ (unhide HX _ ((unhide HL6).below (unhide HV6))) (fun hHeld => ?_)
                  clear hK K
                  (try simp only [Act.put, List.setIfInBounds_toArray, List.set_cons_zero, List.set_cons_succ])
                  (refine Rg.o 10 (fun K hK => ?_); rw [if_pos (by rfl)])
                  refine wp_apI (unhide O6) _ 0 1 1 [x] rfl (unhide RX) (by simp only [List.nil_append, List.length_cons, List.length_nil]; rw [unhide lt1]; omega) (unhide HV6).size _ _ rfl rfl rfl rfl ?_
                  intro v7 w7 o7 g7
                  have O7 := hide o7
                  have HV7 := hide (In.below_own (unhide HV6) (unhide O6) g7 (Nat.le_refl _) (unhide HV6).size)
                  clear o7 g7
                  refine hK.out _ _ (unhide HX _ ((unhide HL6).below (unhide HV7))) (fun hHeld => ?_)
                  clear hK K
                  (try simp only [Act.put, List.setIfInBounds_toArray, List.set_cons_zero, List.set_cons_succ])
                  (refine Rg.o 14 (fun K hK => ?_); rw [if_pos (by rfl)])
                  refine wp_apI (unhide O7) g _ _ _ (SS.drop _) (unhide ld1) (unhide HD _ ((unhide HU6).below (unhide HV7))) (by simp only [List.nil_append, List.length_append, List.length_cons, List.length_nil]; rw [unhide ld1, unhide lt1]; omega) (unhide HV7).size _ _ rfl rfl rfl rfl ?_
                  intro v8 w8 o8 g8
                  have HV8 := hide (In.below_own (unhide HV7) (unhide O7) g8 (Nat.le_refl _) (unhide HV7).size)
                  rw [← unhide HE1, unhide HSL1] at o8
                  obtain ⟨g9, c9, rfl, hc9, hm9⟩ := own_form o8 (by omega)
                  have HO9 := hide (own_base (b' := w.heap.size) o8 hs6)
                  have HM9 := hide hm9
                  clear o8 g8 hm9
                  refine hK.out _ _ (unhide HX _ ((unhide HL6).below (unhide HV8))) (fun hHeld => ?_)
                  clear hK K
                  (try simp only [Act.put, List.setIfInBounds_toArray, List.set_cons_zero, List.set_cons_succ])
                  refine Rg.t 15 3 ?_
                  refine wpAnyH_done (by kernel_rfl) (NoPanic.normal ?_) _
                  have HBF := hide ((unhide HB6).trans ((unhide HV8).mono hs6))
                  clear hHeld
                  go_wp2_with fail
                  go_roundw
                  case rel => exact ⟨j + 1, by omega, by go_num, g9, c9, rfl, hc9, HM9, HO9, HBF⟩
                  case measure => simp [intOf]; omega
                · go_simp
                  have HV5 := hide ((unhide HV1).alloc (unhide HV1).size (.cells #[.int .i64 x] 3))
                  have O5 := hide ((unhide O0).alloc (.cells #[.int .i64 x] 3))
                  have RX0 := In.rm_new (V.alloc (.cells #[] 3)) x
                  simp only [World.size_alloc] at RX0
                  have RX5 := hide RX0
                  clear RX0
                  refine hK.out _ _ (unhide HX _ ((unhide HL6).below (unhide HV5))) (fun hHeld => ?_)
                  clear hK K
                  (try simp only [Act.put, List.setIfInBounds_toArray, List.set_cons_zero, List.set_cons_succ])
                  (refine Rg.o 4 (fun K hK => ?_); rw [if_pos (by rfl)])
                  refine wp_apI (unhide O5) g 0 (t + 1) (t + 1) (SS.take (t + 1)) (unhide lt1) (rmI_take ((unhide HU6).below (unhide HV5)) (t + 1)) (by rw [unhide lt1]; simp <;> omega) (unhide HV5).size _ _ rfl rfl rfl rfl ?_
                  intro v4 w4 o4 g4
                  have O6 := hide o4
                  have HV6 := hide (In.below_own (unhide HV5) (unhide O5) g4 (Nat.le_refl _) (unhide HV5).size)
                  have RX := hide (rmI_grown (unhide RX5) g4 (by simp [Value.ownBlock]))
                  clear o4 g4
                  refine hK.out _ _ (unhide HX _ ((unhide HL6).below (unhide HV6))) (fun hHeld => ?_)
                  clear hK K
                  (try simp only [Act.put, List.setIfInBounds_toArray, List.set_cons_zero, List.set_cons_succ])
                  (refine Rg.o 10 (fun K hK => ?_); rw [if_pos (by rfl)])
                  refine wp_apI (unhide O6) _ 0 1 1 [x] rfl (unhide RX) (by simp only [List.nil_append, List.length_cons, List.length_nil]; rw [unhide lt1]; omega) (unhide HV6).size _ _ rfl rfl rfl rfl ?_
                  intro v7 w7 o7 g7
                  have O7 := hide o7
                  have HV7 := hide (In.below_own (unhide HV6) (unhide O6) g7 (Nat.le_refl _) (unhide HV6).size)
                  clear o7 g7
                  refine hK.out _ _ (unhide HX _ ((unhide HL6).below (unhide HV7))) (fun hHeld => ?_)
                  clear hK K
                  (try simp only [Act.put, List.setIfInBounds_toArray, List.set_cons_zero, List.set_cons_succ])
                  (refine Rg.o 14 (fun K hK => ?_); rw [if_pos (by rfl)])
                  refine wp_apI (unhide O7) g _ _ _ (SS.drop _) (unhide ld1) (unhide HD _ ((unhide HU6).below (unhide HV7))) (by simp only [List.nil_append, List.length_append, List.length_cons, List.length_nil]; rw [unhide ld1, unhide lt1]; omega) (unhide HV7).size _ _ rfl rfl rfl rfl ?_
                  intro v8 w8 o8 g8
                  have HV8 := hide (In.below_own (unhide HV7) (unhide O7) g8 (Nat.le_refl _) (unhide HV7).size)
                  rw [← unhide HE1, unhide HSL1] at o8
                  obtain ⟨g9, c9, rfl, hc9, hm9⟩ := own_form o8 (by omega)
                  have HO9 := hide (own_base (b' := w.heap.size) o8 hs6)
                  have HM9 := hide hm9
                  clear o8 g8 hm9
                  refine hK.out _ _ (unhide HX _ ((unhide HL6).below (unhide HV8))) (fun hHeld => ?_)
                  clear hK K
                  (try simp only [Act.put, List.setIfInBounds_toArray, List.set_cons_zero, List.set_cons_succ])
                  refine Rg.t 15 3 ?_
                  refine wpAnyH_done (by kernel_rfl) (NoPanic.normal ?_) _
                  have HBF := hide ((unhide HB6).trans ((unhide HV8).mono hs6))
                  clear hHeld
                  go_wp2_with fail
                  go_roundw
                  case rel => exact ⟨j + 1, by omega, by go_num, g9, c9, rfl, hc9, HM9, HO9, HBF⟩
                  case measure => simp [intOf]; omega
              · go_simp
                have HV1 := hide ((unhide HV).alloc (unhide HV).size (.cells #[.int .i64 x] 3))
                have RX1 := hide (In.rm_new V x)
                refine hK.out _ _ (unhide HX _ ((unhide HL6).below (unhide HV1))) (fun hHeld => ?_)
                clear hK K
                (try simp only [Act.put, List.setIfInBounds_toArray, List.set_cons_zero, List.set_cons_succ])
                (refine Rg.o 0 (fun K hK => ?_); go_simp)
                have HV5 := hide ((unhide HV1).alloc (unhide HV1).size (.cells #[] 3))
                have O50 := In.own_empty (V.alloc (.cells #[.int .i64 x] 3)) w6.heap.size (unhide HV1).size
                simp only [World.size_alloc] at O50
                have O5 := hide O50
                clear O50
                have RX5 := hide ((unhide RX1).below ((Below.refl _ _).alloc (Nat.le_refl _) (.cells #[] 3)))
                refine hK.out _ _ (unhide HX _ ((unhide HL6).below (unhide HV5))) (fun hHeld => ?_)
                clear hK K
                (try simp only [Act.put, List.setIfInBounds_toArray, List.set_cons_zero, List.set_cons_succ])
                (refine Rg.o 4 (fun K hK => ?_); rw [if_pos (by rfl)])
                refine wp_apI (unhide O5) g 0 (t + 1) (t + 1) (SS.take (t + 1)) (unhide lt1) (rmI_take ((unhide HU6).below (unhide HV5)) (t + 1)) (by rw [unhide lt1]; simp <;> omega) (unhide HV5).size _ _ rfl rfl rfl rfl ?_
                intro v4 w4 o4 g4
                have O6 := hide o4
                have HV6 := hide (In.below_own (unhide HV5) (unhide O5) g4 (Nat.le_refl _) (unhide HV5).size)
                have RX := hide (rmI_grown (unhide RX5) g4 (by simp [Value.ownBlock]))
                clear o4 g4
                refine hK.out _ _ (unhide HX _ ((unhide HL6).below (unhide HV6))) (fun hHeld => ?_)
                clear hK K
                (try simp only [Act.put, List.setIfInBounds_toArray, List.set_cons_zero, List.set_cons_succ])
                (refine Rg.o 10 (fun K hK => ?_); rw [if_pos (by rfl)])
                refine wp_apI (unhide O6) _ 0 1 1 [x] rfl (unhide RX) (by simp only [List.nil_append, List.length_cons, List.length_nil]; rw [unhide lt1]; omega) (unhide HV6).size _ _ rfl rfl rfl rfl ?_
                intro v7 w7 o7 g7
                have O7 := hide o7
                have HV7 := hide (In.below_own (unhide HV6) (unhide O6) g7 (Nat.le_refl _) (unhide HV6).size)
                clear o7 g7
                refine hK.out _ _ (unhide HX _ ((unhide HL6).below (unhide HV7))) (fun hHeld => ?_)
                clear hK K
                (try simp only [Act.put, List.setIfInBounds_toArray, List.set_cons_zero, List.set_cons_succ])
                (refine Rg.o 14 (fun K hK => ?_); rw [if_pos (by rfl)])
                refine wp_apI (unhide O7) g _ _ _ (SS.drop _) (unhide ld1) (unhide HD _ ((unhide HU6).below (unhide HV7))) (by simp only [List.nil_append, List.length_append, List.length_cons, List.length_nil]; rw [unhide ld1, unhide lt1]; omega) (unhide HV7).size _ _ rfl rfl rfl rfl ?_
                intro v8 w8 o8 g8
                have HV8 := hide (In.below_own (unhide HV7) (unhide O7) g8 (Nat.le_refl _) (unhide HV7).size)
                rw [← unhide HE1, unhide HSL1] at o8
                obtain ⟨g9, c9, rfl, hc9, hm9⟩ := own_form o8 (by omega)
                have HO9 := hide (own_base (b' := w.heap.size) o8 hs6)
                have HM9 := hide hm9
                clear o8 g8 hm9
                refine hK.out _ _ (unhide HX _ ((unhide HL6).below (unhide HV8))) (fun hHeld => ?_)
                clear hK K
                (try simp only [Act.put, List.setIfInBounds_toArray, List.set_cons_zero, List.set_cons_succ])
                refine Rg.t 15 3 ?_
                refine wpAnyH_done (by kernel_rfl) (NoPanic.normal ?_) _
                have HBF := hide ((unhide HB6).trans ((unhide HV8).mono hs6))
                clear hHeld
                go_wp2_with fail
                go_roundw
                case rel => exact ⟨j + 1, by omega, by go_num, g9, c9, rfl, hc9, HM9, HO9, HBF⟩
                case measure => simp [intOf]; omega
            · rw [if_neg hcp] at HD
              go_wp2_with fail
              refine wp_region_noPanic ?_
              refine wp_region_held_drew (S := fun w' => w'.cell? ⟨gl, ol + j, none⟩ = some (.int .i64 x)) (by kernel_rfl) (unhide HX _ ((unhide HL6).below (unhide HV))) (fun hHeld => ?_)
              refine Rg.t 1 32 ?_
              refine Rg.t 2 33 ?_
              refine Rg.t 3 34 ?_
              refine Rg.t 5 36 ?_
              refine Rg.t 6 37 ?_
              refine Rg.t 7 38 ?_
              refine Rg.t 8 39 ?_
              refine Rg.t 11 42 ?_
              refine Rg.t 12 43 ?_
              refine Rg.t 13 44 ?_
              generalize hV : w6.drew.drew = V at *
              clear hV
              have hVs := (unhide HV).size
              (refine wpAnyH_ready (rs := [0, 9]) (by kernel_rfl) (by simp) ?_; refine AllReadyH.cons (o := _) rfl (fun K hK => ?_) (AllReadyH.cons (o := _) rfl (fun K hK => ?_) AllReadyH.nil))
              · go_simp
                have HV1 := hide ((unhide HV).alloc (unhide HV).size (.cells #[] 3))
                have O0 := hide (In.own_empty V w6.heap.size hVs)
                refine hK.out _ _ (unhide HX _ ((unhide HL6).below (unhide HV1))) (fun hHeld => ?_)
                clear hK K
                (try simp only [Act.put, List.setIfInBounds_toArray, List.set_cons_zero, List.set_cons_succ])
                (refine wpAnyH_ready (rs := [4, 9]) (by kernel_rfl) (by simp) ?_; refine AllReadyH.cons (o := _) rfl (fun K hK => ?_) (AllReadyH.cons (o := _) rfl (fun K hK => ?_) AllReadyH.nil))
                · rw [if_pos (by rfl)]
                  refine wp_apI (unhide O0) g 0 (t + 1) c (SS.take (t + 1)) (unhide lt1) (rmI_take ((unhide HU6).below (unhide HV1)) (t + 1)) (by rw [unhide lt1]; simp <;> omega) (unhide HV1).size _ _ rfl rfl rfl rfl ?_
                  intro v4 w4 o4 g4
                  have O4 := hide o4
                  have HV4 := hide (In.below_own (unhide HV1) (unhide O0) g4 (Nat.le_refl _) (unhide HV1).size)
                  clear o4 g4
                  refine hK.out _ _ (unhide HX _ ((unhide HL6).below (unhide HV4))) (fun hHeld => ?_)
                  clear hK K
                  (try simp only [Act.put, List.setIfInBounds_toArray, List.set_cons_zero, List.set_cons_succ])
                  (refine Rg.o 9 (fun K hK => ?_); go_simp)
                  have HV6 := hide ((unhide HV4).alloc (unhide HV4).size (.cells #[.int .i64 x] 3))
                  have O6 := hide ((unhide O4).alloc (.cells #[.int .i64 x] 3))
                  have RX := hide (In.rm_new w4 x)
                  refine hK.out _ _ (unhide HX _ ((unhide HL6).below (unhide HV6))) (fun hHeld => ?_)
                  clear hK K
                  (try simp only [Act.put, List.setIfInBounds_toArray, List.set_cons_zero, List.set_cons_succ])
                  (refine Rg.o 10 (fun K hK => ?_); rw [if_pos (by rfl)])
                  refine wp_apI (unhide O6) _ 0 1 1 [x] rfl (unhide RX) (by simp only [List.nil_append, List.length_cons, List.length_nil]; rw [unhide lt1]; omega) (unhide HV6).size _ _ rfl rfl rfl rfl ?_
                  intro v7 w7 o7 g7
                  have O7 := hide o7
                  have HV7 := hide (In.below_own (unhide HV6) (unhide O6) g7 (Nat.le_refl _) (unhide HV6).size)
                  clear o7 g7
                  refine hK.out _ _ (unhide HX _ ((unhide HL6).below (unhide HV7))) (fun hHeld => ?_)
                  clear hK K
                  (try simp only [Act.put, List.setIfInBounds_toArray, List.set_cons_zero, List.set_cons_succ])
                  (refine Rg.o 14 (fun K hK => ?_); rw [if_pos (by rfl)])
                  refine wp_apI (unhide O7) g _ _ _ (SS.drop _) (unhide ld1) (unhide HD _ ((unhide HU6).below (unhide HV7))) (by simp only [List.nil_append, List.length_append, List.length_cons, List.length_nil]; rw [unhide ld1, unhide lt1]; omega) (unhide HV7).size _ _ rfl rfl rfl rfl ?_
                  intro v8 w8 o8 g8
                  have HV8 := hide (In.below_own (unhide HV7) (unhide O7) g8 (Nat.le_refl _) (unhide HV7).size)
                  rw [← unhide HE1, unhide HSL1] at o8
                  obtain ⟨g9, c9, rfl, hc9, hm9⟩ := own_form o8 (by omega)
                  have HO9 := hide (own_base (b' := w.heap.size) o8 hs6)
                  have HM9 := hide hm9
                  clear o8 g8 hm9
                  refine hK.out _ _ (unhide HX _ ((unhide HL6).below (unhide HV8))) (fun hHeld => ?_)
                  clear hK K
                  (try simp only [Act.put, List.setIfInBounds_toArray, List.set_cons_zero, List.set_cons_succ])
                  refine Rg.t 15 3 ?_
                  refine wpAnyH_done (by kernel_rfl) (NoPanic.normal ?_) _
                  have HBF := hide ((unhide HB6).trans ((unhide HV8).mono hs6))
                  clear hHeld
                  go_wp2_with fail
                  go_roundw
                  case rel => exact ⟨j + 1, by omega, by go_num, g9, c9, rfl, hc9, HM9, HO9, HBF⟩
                  case measure => simp [intOf]; omega
                · go_simp
                  have HV5 := hide ((unhide HV1).alloc (unhide HV1).size (.cells #[.int .i64 x] 3))
                  have O5 := hide ((unhide O0).alloc (.cells #[.int .i64 x] 3))
                  have RX0 := In.rm_new (V.alloc (.cells #[] 3)) x
                  simp only [World.size_alloc] at RX0
                  have RX5 := hide RX0
                  clear RX0
                  refine hK.out _ _ (unhide HX _ ((unhide HL6).below (unhide HV5))) (fun hHeld => ?_)
                  clear hK K
                  (try simp only [Act.put, List.setIfInBounds_toArray, List.set_cons_zero, List.set_cons_succ])
                  (refine Rg.o 4 (fun K hK => ?_); rw [if_pos (by rfl)])
                  refine wp_apI (unhide O5) g 0 (t + 1) c (SS.take (t + 1)) (unhide lt1) (rmI_take ((unhide HU6).below (unhide HV5)) (t + 1)) (by rw [unhide lt1]; simp <;> omega) (unhide HV5).size _ _ rfl rfl rfl rfl ?_
                  intro v4 w4 o4 g4
                  have O6 := hide o4
                  have HV6 := hide (In.below_own (unhide HV5) (unhide O5) g4 (Nat.le_refl _) (unhide HV5).size)
                  have RX := hide (rmI_grown (unhide RX5) g4 (by simp [Value.ownBlock]))
                  clear o4 g4
                  refine hK.out _ _ (unhide HX _ ((unhide HL6).below (unhide HV6))) (fun hHeld => ?_)
                  clear hK K
                  (try simp only [Act.put, List.setIfInBounds_toArray, List.set_cons_zero, List.set_cons_succ])
                  (refine Rg.o 10 (fun K hK => ?_); rw [if_pos (by rfl)])
                  refine wp_apI (unhide O6) _ 0 1 1 [x] rfl (unhide RX) (by simp only [List.nil_append, List.length_cons, List.length_nil]; rw [unhide lt1]; omega) (unhide HV6).size _ _ rfl rfl rfl rfl ?_
                  intro v7 w7 o7 g7
                  have O7 := hide o7
                  have HV7 := hide (In.below_own (unhide HV6) (unhide O6) g7 (Nat.le_refl _) (unhide HV6).size)
                  clear o7 g7
                  refine hK.out _ _ (unhide HX _ ((unhide HL6).below (unhide HV7))) (fun hHeld => ?_)
                  clear hK K
                  (try simp only [Act.put, List.setIfInBounds_toArray, List.set_cons_zero, List.set_cons_succ])
                  (refine Rg.o 14 (fun K hK => ?_); rw [if_pos (by rfl)])
                  refine wp_apI (unhide O7) g _ _ _ (SS.drop _) (unhide ld1) (unhide HD _ ((unhide HU6).below (unhide HV7))) (by simp only [List.nil_append, List.length_append, List.length_cons, List.length_nil]; rw [unhide ld1, unhide lt1]; omega) (unhide HV7).size _ _ rfl rfl rfl rfl ?_
                  intro v8 w8 o8 g8
                  have HV8 := hide (In.below_own (unhide HV7) (unhide O7) g8 (Nat.le_refl _) (unhide HV7).size)
                  rw [← unhide HE1, unhide HSL1] at o8
                  obtain ⟨g9, c9, rfl, hc9, hm9⟩ := own_form o8 (by omega)
                  have HO9 := hide (own_base (b' := w.heap.size) o8 hs6)
                  have HM9 := hide hm9
                  clear o8 g8 hm9
                  refine hK.out _ _ (unhide HX _ ((unhide HL6).below (unhide HV8))) (fun hHeld => ?_)
                  clear hK K
                  (try simp only [Act.put, List.setIfInBounds_toArray, List.set_cons_zero, List.set_cons_succ])
                  refine Rg.t 15 3 ?_
                  refine wpAnyH_done (by kernel_rfl) (NoPanic.normal ?_) _
                  have HBF := hide ((unhide HB6).trans ((unhide HV8).mono hs6))
                  clear hHeld
                  go_wp2_with fail
                  go_roundw
                  case rel => exact ⟨j + 1, by omega, by go_num, g9, c9, rfl, hc9, HM9, HO9, HBF⟩
                  case measure => simp [intOf]; omega
              · go_simp
                have HV1 := hide ((unhide HV).alloc (unhide HV).size (.cells #[.int .i64 x] 3))
                have RX1 := hide (In.rm_new V x)
                refine hK.out _ _ (unhide HX _ ((unhide HL6).below (unhide HV1))) (fun hHeld => ?_)
                clear hK K
                (try simp only [Act.put, List.setIfInBounds_toArray, List.set_cons_zero, List.set_cons_succ])
                (refine Rg.o 0 (fun K hK => ?_); go_simp)
                have HV5 := hide ((unhide HV1).alloc (unhide HV1).size (.cells #[] 3))
                have O50 := In.own_empty (V.alloc (.cells #[.int .i64 x] 3)) w6.heap.size (unhide HV1).size
                simp only [World.size_alloc] at O50
                have O5 := hide O50
                clear O50
                have RX5 := hide ((unhide RX1).below ((Below.refl _ _).alloc (Nat.le_refl _) (.cells #[] 3)))
                refine hK.out _ _ (unhide HX _ ((unhide HL6).below (unhide HV5))) (fun hHeld => ?_)
                clear hK K
                (try simp only [Act.put, List.setIfInBounds_toArray, List.set_cons_zero, List.set_cons_succ])
                (refine Rg.o 4 (fun K hK => ?_); rw [if_pos (by rfl)])
                refine wp_apI (unhide O5) g 0 (t + 1) c (SS.take (t + 1)) (unhide lt1) (rmI_take ((unhide HU6).below (unhide HV5)) (t + 1)) (by rw [unhide lt1]; simp <;> omega) (unhide HV5).size _ _ rfl rfl rfl rfl ?_
                intro v4 w4 o4 g4
                have O6 := hide o4
                have HV6 := hide (In.below_own (unhide HV5) (unhide O5) g4 (Nat.le_refl _) (unhide HV5).size)
                have RX := hide (rmI_grown (unhide RX5) g4 (by simp [Value.ownBlock]))
                clear o4 g4
                refine hK.out _ _ (unhide HX _ ((unhide HL6).below (unhide HV6))) (fun hHeld => ?_)
                clear hK K
                (try simp only [Act.put, List.setIfInBounds_toArray, List.set_cons_zero, List.set_cons_succ])
                (refine Rg.o 10 (fun K hK => ?_); rw [if_pos (by rfl)])
                refine wp_apI (unhide O6) _ 0 1 1 [x] rfl (unhide RX) (by simp only [List.nil_append, List.length_cons, List.length_nil]; rw [unhide lt1]; omega) (unhide HV6).size _ _ rfl rfl rfl rfl ?_
                intro v7 w7 o7 g7
                have O7 := hide o7
                have HV7 := hide (In.below_own (unhide HV6) (unhide O6) g7 (Nat.le_refl _) (unhide HV6).size)
                clear o7 g7
                refine hK.out _ _ (unhide HX _ ((unhide HL6).below (unhide HV7))) (fun hHeld => ?_)
                clear hK K
                (try simp only [Act.put, List.setIfInBounds_toArray, List.set_cons_zero, List.set_cons_succ])
                (refine Rg.o 14 (fun K hK => ?_); rw [if_pos (by rfl)])
                refine wp_apI (unhide O7) g _ _ _ (SS.drop _) (unhide ld1) (unhide HD _ ((unhide HU6).below (unhide HV7))) (by simp only [List.nil_append, List.length_append, List.length_cons, List.length_nil]; rw [unhide ld1, unhide lt1]; omega) (unhide HV7).size _ _ rfl rfl rfl rfl ?_
                intro v8 w8 o8 g8
                have HV8 := hide (In.below_own (unhide HV7) (unhide O7) g8 (Nat.le_refl _) (unhide HV7).size)
                rw [← unhide HE1, unhide HSL1] at o8
                obtain ⟨g9, c9, rfl, hc9, hm9⟩ := own_form o8 (by omega)
                have HO9 := hide (own_base (b' := w.heap.size) o8 hs6)
                have HM9 := hide hm9
                clear o8 g8 hm9
                refine hK.out _ _ (unhide HX _ ((unhide HL6).below (unhide HV8))) (fun hHeld => ?_)
                clear hK K
                (try simp only [Act.put, List.setIfInBounds_toArray, List.set_cons_zero, List.set_cons_succ])
                refine Rg.t 15 3 ?_
                refine wpAnyH_done (by kernel_rfl) (NoPanic.normal ?_) _
                have HBF := hide ((unhide HB6).trans ((unhide HV8).mono hs6))
                clear hHeld
                go_wp2_with fail
                go_roundw
                case rel => exact ⟨j + 1, by omega, by go_num, g9, c9, rfl, hc9, HM9, HO9, HBF⟩
                case measure => simp [intOf]; omega
    · obtain rfl : j = n := by omega
      have HE : Hid (sortV (L.take j) = sortV L) := hide (by rw [← unhide HN, List.take_length])
      have HLs := hide (In.lst_own (by rw [sort_len L j (by rw [unhide HN]; exact Nat.le_refl _)]) (unhide how))
      rw [unhide HE] at HLs
      go_wp2_with fail
      go_ret
      exact ⟨_, rfl, unhide hbl, unhide HLs⟩
end Mr
end Go.Proofs.YtpknmiccgbjoiabGreat
namespace Go.Proofs.YtpknmiccgbjoiabGreat
open Go.ChangeShapes Go.WideShapes Go.ChangeAt Go.RowKit
set_option linter.unusedVariables false
set_option linter.unusedSimpArgs false
attribute [local go_sem ↓] Go.wp_at_zero Go.wp_at_succ
namespace Mr
open W1 Tu St Tw
/-- More of those that are left, the greater will, the greater degree. -/
def betV (via : Int → List Int) (S L : List Int) (x y : Lk.R) : Bool :=
  if cntV via L x.ad = cntV via L y.ad then (if x.wl = y.wl then decide (cntV via S y.ad < cntV via S x.ad) else decide (y.wl < x.wl)) else decide (cntV via L y.ad < cntV via L x.ad)
theorem cnt_len (via : Int → List Int) (L : List Int) (a : Int) : cntV via L a ≤ L.length := List.length_filter_le _ _
set_option maxRecDepth 100000 in
set_option maxHeartbeats 8000000 in
theorem l08Better (g0 o0 : Nat) (ms : List R) (cap : Nat) (gl ol : Nat) (ls : List Lk.R) (capl : Nat) (me now : Int) (b : Option Addr) (zs : List Int) (capz : Nat) (i k : Nat) (w : World) (hz : ∀ z ∈ zs, 1 ≤ z ∧ z ≤ 8) (hzl : zs.length ≤ 64) (hok : twoB ms = true ∧ Ln.linksB ls = true) (hi : i < ls.length) (hk : k < ls.length) (hr0 : RM w (some ⟨g0, o0, none⟩) ms) (hr : Lk.RM w (some ⟨gl, ol, none⟩) ls) (hrz : In.RM w b zs) :
    Calls Tryz.prog 92 #[.slice (some ⟨g0, o0, none⟩) ms.length cap, .slice (some ⟨gl, ol, none⟩) ls.length capl, .int .i64 me, .int .i64 now, .slice b zs.length capz, .int .i64 i, .int .i64 k] w fun e w' => e = .returned (.bool (betV (viaF ms ls now) (strF ms ls me now) zs (ls.getD i Lk.R.zero) (ls.getD k Lk.R.zero))) ∧ Below w.heap.size w w' := by
  have HR := hide hr
  have HM := hide hr0
  have HOK := hide hok
  have HZ := hide hrz
  have HG := hide hz
  have h8 := Ln.links_len hok.2
  have AX : Hid (∀ W, Lk.RM W (some ⟨gl, ol, none⟩) ls → Lk.At W gl (ol + i * 6) (ls.getD i Lk.R.zero)) := hide (fun W h => h.at hi)
  have AY : Hid (∀ W, Lk.RM W (some ⟨gl, ol, none⟩) ls → Lk.At W gl (ol + k * 6) (ls.getD k Lk.R.zero)) := hide (fun W h => h.at hk)
  have i0 : (0 : Int) ≤ (i : Int) := by omega
  have i1 : (i : Int) < (ls.length : Int) := by omega
  have k0 : (0 : Int) ≤ (k : Int) := by omega
  have k1 : (k : Int) < (ls.length : Int) := by omega
  clear hr hr0 hok hrz hz
  obtain ⟨X, hX⟩ : ∃ X, ls.getD i Lk.R.zero = X := ⟨_, rfl⟩
  obtain ⟨Y, hY⟩ : ∃ Y, ls.getD k Lk.R.zero = Y := ⟨_, rfl⟩
  rw [hX] at AX ⊢
  rw [hY] at AY ⊢
  clear hX hY
  have hq1 := cnt_len (viaF ms ls now) zs X.ad
  have hq2 := cnt_len (viaF ms ls now) zs Y.ad
  have hq3 := Nat.le_trans (cnt_len (viaF ms ls now) (strF ms ls me now) X.ad) (str_len ms ls me now)
  have hq4 := Nat.le_trans (cnt_len (viaF ms ls now) (strF ms ls me now) Y.ad) (str_len ms ls me now)
  obtain ⟨q, hq⟩ : ∃ q, betV (viaF ms ls now) (strF ms ls me now) zs X Y = q := ⟨_, rfl⟩
  rw [hq]
  unfold betV at hq
  obtain ⟨cx, hcx⟩ : ∃ cx, cntV (viaF ms ls now) zs X.ad = cx := ⟨_, rfl⟩
  obtain ⟨cy, hcy⟩ : ∃ cy, cntV (viaF ms ls now) zs Y.ad = cy := ⟨_, rfl⟩
  obtain ⟨dx, hdx⟩ : ∃ dx, cntV (viaF ms ls now) (strF ms ls me now) X.ad = dx := ⟨_, rfl⟩
  obtain ⟨dy, hdy⟩ : ∃ dy, cntV (viaF ms ls now) (strF ms ls me now) Y.ad = dy := ⟨_, rfl⟩
  rw [hcx, hcy, hdx, hdy] at hq
  rw [hcx] at hq1
  rw [hcy] at hq2
  rw [hdx] at hq3
  rw [hdy] at hq4
  have HCX := hide hcx
  have HCY := hide hcy
  have HDX := hide hdx
  have HDY := hide hdy
  have HQ := hide hq
  clear hcx hcy hdx hdy hq
  obtain ⟨c0, c1, c2, c3, c4, c5⟩ := unhide AX _ (unhide HR)
  go_enter Tryz.func92, Tryz.ntmps92
  go_wp2_with fail
  refine (by have := l08Gain g0 o0 ms cap _ ls capl now X.ad b zs capz _ (unhide HG) hzl (two_set (unhide HOK).1) (unhide HOK).2 (unhide HM) (unhide HR) (unhide HZ); rw [unhide HCX] at this; exact this : Calls Tryz.prog 91 #[.slice (some ⟨g0, o0, none⟩) ms.length cap, .slice (some ⟨gl, ol, none⟩) ls.length capl, .int .i64 now, .int .i64 X.ad, .slice b zs.length capz] _ _).mono ?_
  rintro e w1 ⟨rfl, b1⟩
  have HB1 := hide b1
  have HM1 := hide ((unhide HM).below b1)
  have HR1 := hide ((unhide HR).below b1)
  have HZ1 := hide ((unhide HZ).below b1)
  clear b1 c0 c1 c2 c3 c4 c5 HM HR HZ
  obtain ⟨c0, c1, c2, c3, c4, c5⟩ := unhide AY _ (unhide HR1)
  go_wp2_with fail
  refine (by have := l08Gain g0 o0 ms cap _ ls capl now Y.ad b zs capz _ (unhide HG) hzl (two_set (unhide HOK).1) (unhide HOK).2 (unhide HM1) (unhide HR1) (unhide HZ1); rw [unhide HCY] at this; exact this : Calls Tryz.prog 91 #[.slice (some ⟨g0, o0, none⟩) ms.length cap, .slice (some ⟨gl, ol, none⟩) ls.length capl, .int .i64 now, .int .i64 Y.ad, .slice b zs.length capz] _ _).mono ?_
  rintro e w2 ⟨rfl, b2⟩
  have HB2 := hide ((unhide HB1).trans (b2.mono (unhide HB1).size))
  have HM2 := hide ((unhide HM1).below b2)
  have HR2 := hide ((unhide HR1).below b2)
  clear b2 c0 c1 c2 c3 c4 c5 HM1 HR1 HZ1
  by_cases e1 : cx = cy
  rotate_left
  · have HT : Hid (decide (cy < cx) = q) := hide (by have := unhide HQ; rw [if_neg e1] at this; exact this)
    have f1 : ((cx : Int) != (cy : Int)) = true := by simp; omega
    have f2 : decide ((cy : Int) < (cx : Int)) = q := by rw [← unhide HT]; exact decide_eq_decide.2 (by omega)
    have F2 := hide f2
    clear f2 HQ
    go_wp2_with fail
    go_ret
    exact ⟨ret_bool (unhide HT), unhide HB2⟩
  have HQ1 : Hid ((if X.wl = Y.wl then decide (dy < dx) else decide (Y.wl < X.wl)) = q) := hide (by have := unhide HQ; rw [if_pos e1] at this; exact this)
  have f1 : ((cx : Int) != (cy : Int)) = false := by simp; omega
  clear HQ
  have HS2 : Hid (w2.drew.cell? ⟨gl, ol + i * 6 + 5, none⟩ = some (.int .i64 X.wl) ∧ w2.drew.cell? ⟨gl, ol + k * 6 + 5, none⟩ = some (.int .i64 Y.wl)) := hide ⟨(unhide AX _ (unhide HR2)).2.2.2.2.2, (unhide AY _ (unhide HR2)).2.2.2.2.2⟩
  by_cases e2 : X.wl = Y.wl
  rotate_left
  · have HT : Hid (decide (Y.wl < X.wl) = q) := hide (by have := unhide HQ1; rw [if_neg e2] at this; exact this)
    have f2 : (X.wl != Y.wl) = true := by simpa using e2
    clear HQ1
    go_wp2_with fail
    refine wp_region_noPanic ?_
    refine wp_region_held_drew (S := fun w' => w'.cell? ⟨gl, ol + i * 6 + 5, none⟩ = some (.int .i64 X.wl) ∧ w'.cell? ⟨gl, ol + k * 6 + 5, none⟩ = some (.int .i64 Y.wl)) (by kernel_rfl) (unhide HS2) (fun hHeld => ?_)
    refine Rg.t 0 43 ?_
    refine Rg.t 1 44 ?_
    refine Rg.t 2 45 ?_
    refine Rg.t 3 46 ?_
    refine Rg.t 4 47 ?_
    refine Rg.t 5 48 ?_
    refine Rg.t 6 49 ?_
    refine Rg.t 7 50 ?_
    refine Rg.t 8 51 ?_
    refine Rg.t 9 52 ?_
    refine Rg.t 10 53 ?_
    refine wpAnyH_done (by kernel_rfl) (NoPanic.normal ?_) _
    clear hHeld
    go_wp2_with fail
    refine wp_region_noPanic ?_
    refine wp_region_held_drew (S := fun w' => w'.cell? ⟨gl, ol + i * 6 + 5, none⟩ = some (.int .i64 X.wl) ∧ w'.cell? ⟨gl, ol + k * 6 + 5, none⟩ = some (.int .i64 Y.wl)) (by kernel_rfl) (unhide HS2) (fun hHeld => ?_)
    refine Rg.t 0 54 ?_
    refine Rg.t 1 55 ?_
    refine Rg.t 2 56 ?_
    refine Rg.t 3 57 ?_
    refine Rg.t 4 58 ?_
    refine Rg.t 5 59 ?_
    refine Rg.t 6 60 ?_
    refine Rg.t 7 61 ?_
    refine Rg.t 8 62 ?_
    refine Rg.t 9 63 ?_
    refine Rg.t 10 64 ?_
    refine Rg.t 11 14 ?_
    refine wpAnyH_done (by kernel_rfl) (NoPanic.normal ?_) _
    clear hHeld
    go_wp2_with fail
    go_ret
    exact ⟨ret_bool (unhide HT), (unhide HB2).drew.drew⟩
  have HT : Hid (decide (dy < dx) = q) := hide (by have := unhide HQ1; rw [if_pos e2] at this; exact this)
  have f2 : (X.wl != Y.wl) = false := by simpa using e2
  have F2 : Hid (decide ((dy : Int) < (dx : Int)) = q) := hide (by rw [← unhide HT]; exact decide_eq_decide.2 (by omega))
  have HA : Hid (∀ W, Lk.RM W (some ⟨gl, ol, none⟩) ls → W.cell? ⟨gl, ol + i * 6, none⟩ = some (.int .i64 X.ad) ∧ W.cell? ⟨gl, ol + k * 6, none⟩ = some (.int .i64 Y.ad)) := hide (fun W h => ⟨(unhide AX _ h).1, (unhide AY _ h).1⟩)
  clear HQ1
  go_wp2_with fail
  refine wp_region_noPanic ?_
  refine wp_region_held_drew (S := fun w' => w'.cell? ⟨gl, ol + i * 6 + 5, none⟩ = some (.int .i64 X.wl) ∧ w'.cell? ⟨gl, ol + k * 6 + 5, none⟩ = some (.int .i64 Y.wl)) (by kernel_rfl) (unhide HS2) (fun hHeld => ?_)
  refine Rg.t 0 43 ?_
  refine Rg.t 1 44 ?_
  refine Rg.t 2 45 ?_
  refine Rg.t 3 46 ?_
  refine Rg.t 4 47 ?_
  refine Rg.t 5 48 ?_
  refine Rg.t 6 49 ?_
  refine Rg.t 7 50 ?_
  refine Rg.t 8 51 ?_
  refine Rg.t 9 52 ?_
  refine Rg.t 10 53 ?_
  refine wpAnyH_done (by kernel_rfl) (NoPanic.normal ?_) _
  clear hHeld
  go_wp2_with fail
  refine wp_region_noPanic ?_
  refine wp_region_held_drew (S := fun w' => w'.cell? ⟨gl, ol + i * 6, none⟩ = some (.int .i64 X.ad) ∧ w'.cell? ⟨gl, ol + k * 6, none⟩ = some (.int .i64 Y.ad)) (by kernel_rfl) (unhide HA w2.drew.drew (unhide HR2)) (fun hHeld => ?_)
  refine Rg.t 0 65 ?_
  refine Rg.t 1 66 ?_
  refine Rg.t 2 67 ?_
  refine Rg.t 3 68 ?_
  refine Rg.t 4 69 ?_
  refine Rg.t 5 70 ?_
  refine Rg.t 6 71 ?_
  refine Rg.t 7 72 ?_
  refine Rg.t 8 73 ?_
  refine Rg.t 10 75 ?_
  refine Rg.t 11 76 ?_
  refine Rg.t 12 77 ?_
  refine Rg.t 13 78 ?_
  refine Rg.t 14 79 ?_
  refine Rg.t 15 80 ?_
  refine Rg.t 16 81 ?_
  refine Rg.t 17 82 ?_
  refine Rg.t 18 83 ?_
  (refine Rg.o 9 (fun K hK => ?_); go_simp)
  have HBD := hide ((unhide HB2).drew.drew)
  have HM3 : Hid (RM w2.drew.drew (some ⟨g0, o0, none⟩) ms) := hide (unhide HM2)
  have HR3 : Hid (Lk.RM w2.drew.drew (some ⟨gl, ol, none⟩) ls) := hide (unhide HR2)
  generalize hV : w2.drew.drew = V at *
  clear hV
  refine (by have := l08Degree g0 o0 ms cap _ ls capl me now X.ad _ (unhide HOK) (unhide HM3) (unhide HR3); rw [unhide HDX] at this; exact this : Calls Tryz.prog 161 #[.slice (some ⟨g0, o0, none⟩) ms.length cap, .slice (some ⟨gl, ol, none⟩) ls.length capl, .int .i64 me, .int .i64 now, .int .i64 X.ad] _ _).mono ?_
  rintro e w4 ⟨rfl, b4⟩
  have HB4 := hide ((unhide HBD).trans (b4.mono (unhide HBD).size))
  have HM4 := hide ((unhide HM3).below b4)
  have HR4 := hide ((unhide HR3).below b4)
  clear b4
  refine hK.out _ _ (unhide HA _ (unhide HR4)) (fun hHeld => ?_)
  clear hK K
  (try simp only [Act.put, List.setIfInBounds_toArray, List.set_cons_zero, List.set_cons_succ])
  (refine Rg.o 19 (fun K hK => ?_); go_simp)
  refine (by have := l08Degree g0 o0 ms cap _ ls capl me now Y.ad _ (unhide HOK) (unhide HM4) (unhide HR4); rw [unhide HDY] at this; exact this : Calls Tryz.prog 161 #[.slice (some ⟨g0, o0, none⟩) ms.length cap, .slice (some ⟨gl, ol, none⟩) ls.length capl, .int .i64 me, .int .i64 now, .int .i64 Y.ad] _ _).mono ?_
  rintro e w5 ⟨rfl, b5⟩
  have HB5 := hide ((unhide HB4).trans (b5.mono (unhide HB4).size))
  have HR5 := hide ((unhide HR4).below b5)
  clear b5
  refine hK.out _ _ (unhide HA _ (unhide HR5)) (fun hHeld => ?_)
  clear hK K
  (try simp only [Act.put, List.setIfInBounds_toArray, List.set_cons_zero, List.set_cons_succ])
  refine Rg.t 20 85 ?_
  refine Rg.t 21 14 ?_
  refine wpAnyH_done (by kernel_rfl) (NoPanic.normal ?_) _
  clear hHeld
  go_wp2_with fail
  go_ret
  exact ⟨ret_bool (unhide HT), unhide HB5⟩
end Mr
end Go.Proofs.YtpknmiccgbjoiabGreat
namespace Go.Proofs.YtpknmiccgbjoiabGreat
set_option linter.unusedVariables false
namespace Mr
open W1
/-- Those that are always willing. -/
def alwB (now : Int) (m : Lk.R) : Bool := (Ln.statusV m now == 2) && (m.wl == 7)
def alwV (ls : List Lk.R) (now : Int) (j : Nat) : List Int := ((ls.take j).filter (alwB now)).map (·.ad)
theorem alw_yes {ls : List Lk.R} {now : Int} {j : Nat} (h : j < ls.length) (hs : alwB now (ls.getD j Lk.R.zero) = true) : alwV ls now (j + 1) = alwV ls now j ++ [(ls.getD j Lk.R.zero).ad] := by
  unfold alwV; rw [Tw.ls_take h, List.filter_append, List.filter_cons_of_pos hs, List.map_append]; rfl
theorem alw_no {ls : List Lk.R} {now : Int} {j : Nat} (h : j < ls.length) (hs : alwB now (ls.getD j Lk.R.zero) = false) : alwV ls now (j + 1) = alwV ls now j := by
  unfold alwV; rw [Tw.ls_take h, List.filter_append, List.filter_cons_of_neg (by rw [hs]; simp)]; simp
theorem alw_len (ls : List Lk.R) (now : Int) (j : Nat) : (alwV ls now j).length ≤ j := by
  unfold alwV
  have := List.length_filter_le (alwB now) (ls.take j)
  have := List.length_take_le j ls
  rw [List.length_map]; omega
/-- Those that alone reach one. -/
def oneB (via : Int → List Int) (out : List Int) (z : Int) : Bool := ((via z).length == 1) && !out.contains ((via z).getD 0 0)
def oneS (via : Int → List Int) (out : List Int) (z : Int) : List Int := if oneB via out z = true then out ++ [(via z).getD 0 0] else out
def onesV (via : Int → List Int) (S out : List Int) : List Int := S.foldl (oneS via) out
theorem ones_step {via : Int → List Int} {S out : List Int} {j : Nat} (h : j < S.length) : onesV via (S.take (j + 1)) out = oneS via (onesV via (S.take j) out) (S.getD j 0) := by
  unfold onesV; rw [zs_take h, List.foldl_append]; rfl
theorem ones_len (via : Int → List Int) (S out : List Int) : ∀ j, j ≤ S.length → (onesV via (S.take j) out).length ≤ out.length + j
  | 0, _ => by simp [onesV]
  | j + 1, h => by
    rw [ones_step (by omega)]
    have := ones_len via S out j (by omega)
    unfold oneS; split
    · rw [List.length_append, List.length_singleton]; omega
    · omega
/-- The best of the first links. -/
def pickV (via : Int → List Int) (S L : List Int) (ls : List Lk.R) : Nat → Option Nat
  | 0 => none
  | j + 1 => if (decide (0 < cntV via L (ls.getD j Lk.R.zero).ad) && (match pickV via S L ls j with | none => true | some b => betV via S L (ls.getD j Lk.R.zero) (ls.getD b Lk.R.zero))) = true then some j else pickV via S L ls j
def idxV (o : Option Nat) : Int := match o with | none => -1 | some b => b
theorem pick_first {via : Int → List Int} {S L : List Int} {ls : List Lk.R} {j : Nat} (h : pickV via S L ls j = none) : pickV via S L ls (j + 1) = if decide (0 < cntV via L (ls.getD j Lk.R.zero).ad) = true then some j else none := by
  rw [pickV, h]; simp
theorem pick_next {via : Int → List Int} {S L : List Int} {ls : List Lk.R} {j b : Nat} (h : pickV via S L ls j = some b) : pickV via S L ls (j + 1) = if (decide (0 < cntV via L (ls.getD j Lk.R.zero).ad) && betV via S L (ls.getD j Lk.R.zero) (ls.getD b Lk.R.zero)) = true then some j else some b := by
  rw [pickV, h]
theorem pick_lt {via : Int → List Int} {S L : List Int} {ls : List Lk.R} : ∀ {j b : Nat}, pickV via S L ls j = some b → b < j ∧ 0 < cntV via L (ls.getD b Lk.R.zero).ad
  | 0, b, h => by cases h
  | j + 1, b, h => by
    cases hp : pickV via S L ls j with
    | none =>
      rw [pick_first hp] at h
      by_cases hc : 0 < cntV via L (ls.getD j Lk.R.zero).ad
      · rw [if_pos (by simpa using hc)] at h; cases h; exact ⟨by omega, hc⟩
      · rw [if_neg (by simpa using hc)] at h; cases h
    | some b' =>
      rw [pick_next hp] at h
      split at h
      · rename_i hc
        cases h
        rw [Bool.and_eq_true] at hc
        exact ⟨by omega, by simpa using hc.1⟩
      · cases h
        have := pick_lt hp
        exact ⟨by omega, this.2⟩
theorem pick_none {via : Int → List Int} {S L : List Int} {ls : List Lk.R} : ∀ {j : Nat}, pickV via S L ls j = none → ∀ i, i < j → cntV via L (ls.getD i Lk.R.zero).ad = 0
  | 0, _, i, hi => by omega
  | j + 1, h, i, hi => by
    cases hp : pickV via S L ls j with
    | none =>
      rw [pick_first hp] at h
      by_cases hc : 0 < cntV via L (ls.getD j Lk.R.zero).ad
      · rw [if_pos (by simpa using hc)] at h; cases h
      · by_cases e : i = j
        · subst e; omega
        · exact pick_none hp i (by omega)
    | some b' =>
      rw [pick_next hp] at h
      split at h <;> cases h
/-- Chosen one after another, as long as one is left. -/
def grdV (via : Int → List Int) (S : List Int) (ls : List Lk.R) : Nat → List Int → List Int
  | 0, out => out
  | f + 1, out => match pickV via S (leftV via S out) ls ls.length with | none => out | some b => grdV via S ls f (out ++ [(ls.getD b Lk.R.zero).ad])
def fldV (via : Int → List Int) (S : List Int) (ls : List Lk.R) (now : Int) : List Int := sortV (grdV via S ls 8 (onesV via S (alwV ls now ls.length)))
theorem hit_app {via : Int → List Int} {rs : List Int} {a z : Int} : hitV via (rs ++ [a]) z = (hitV via rs z || (via z).contains a) := by
  unfold hitV; rw [List.any_append]; simp
theorem left_app (via : Int → List Int) (S rs : List Int) (a : Int) : leftV via S (rs ++ [a]) = (leftV via S rs).filter (fun z => !(via z).contains a) := by
  unfold leftV
  rw [List.filter_filter]
  congr 1
  funext z
  rw [hit_app]
  cases hitV via rs z <;> cases (via z).contains a <;> rfl
theorem cnt_not (via : Int → List Int) (L : List Int) (a : Int) : (L.filter (fun z => !(via z).contains a)).length + cntV via L a = L.length := by
  unfold cntV
  induction L with
  | nil => rfl
  | cons z t ih =>
    cases h : (via z).contains a
    · rw [List.filter_cons_of_pos (by rw [h]; rfl), List.filter_cons_of_neg (by rw [h]; simp), List.length_cons, List.length_cons]; omega
    · rw [List.filter_cons_of_neg (by rw [h]; simp), List.filter_cons_of_pos (by rw [h]), List.length_cons, List.length_cons]; omega
theorem left_less {via : Int → List Int} {S rs : List Int} {a : Int} (h : 0 < cntV via (leftV via S rs) a) : (leftV via S (rs ++ [a])).length < (leftV via S rs).length := by
  rw [left_app]
  have := cnt_not via (leftV via S rs) a
  omega
theorem grd_end {via : Int → List Int} {S : List Int} {ls : List Lk.R} {r : List Int} : ∀ {f : Nat}, (leftV via S r).length = 0 → grdV via S ls f r = r
  | 0, _ => rfl
  | f + 1, h => by
    unfold grdV
    cases hp : pickV via S (leftV via S r) ls ls.length with
    | none => rfl
    | some b =>
      have := (pick_lt hp).2
      have := cnt_len via (leftV via S r) (ls.getD b Lk.R.zero).ad
      omega
theorem grd_step {via : Int → List Int} {S : List Int} {ls : List Lk.R} {r : List Int} {f b : Nat} (hp : pickV via S (leftV via S r) ls ls.length = some b) : grdV via S ls (f + 1) r = grdV via S ls f (r ++ [(ls.getD b Lk.R.zero).ad]) := by
  rw [grdV, hp]
/-- One who is left is reached by a neighbor. -/
theorem pick_some {via : Int → List Int} {S L : List Int} {ls : List Lk.R} (hv : ∀ z ∈ L, ∃ i, i < ls.length ∧ (via z).contains (ls.getD i Lk.R.zero).ad = true) (hL : 0 < L.length) : ∃ b, pickV via S L ls ls.length = some b := by
  cases hp : pickV via S L ls ls.length with
  | some b => exact ⟨b, rfl⟩
  | none =>
    exfalso
    cases L with
    | nil => simp at hL
    | cons z t =>
      obtain ⟨i, hi, hc⟩ := hv z (by simp)
      have := pick_none hp i hi
      unfold cntV at this
      rw [List.filter_cons_of_pos (by exact hc), List.length_cons] at this
      omega
theorem via_link {ms : List Tu.R} {ls : List Lk.R} {now z : Int} (h : 0 < (viaF ms ls now z).length) : ∃ i, i < ls.length ∧ (viaF ms ls now z).contains (ls.getD i Lk.R.zero).ad = true := by
  obtain ⟨a, ha⟩ : ∃ a, a ∈ viaF ms ls now z := List.exists_mem_of_length_pos h
  have ha' := ha
  unfold viaF Tw.viaL at ha
  rw [List.take_length, List.mem_map] at ha
  obtain ⟨m, hm, rfl⟩ := ha
  obtain ⟨i, hi, e⟩ := List.getElem_of_mem (List.mem_filter.1 hm).1
  refine ⟨i, hi, ?_⟩
  rw [List.getD_eq_getElem?_getD, List.getElem?_eq_getElem hi, e]
  exact List.contains_iff_mem.2 ha'
theorem str_via {ms : List Tu.R} {ls : List Lk.R} {me now : Int} : ∀ z ∈ strF ms ls me now, 0 < (viaF ms ls now z).length := by
  intro z hz
  unfold strF Tw.strN at hz
  simp only [List.mem_map, List.mem_filter, List.mem_range] at hz
  obtain ⟨t, ⟨_, h2⟩, rfl⟩ := hz
  unfold Tw.condS at h2
  simp only [Bool.and_eq_true, decide_eq_true_eq] at h2
  exact h2.2.2
theorem left_mem {via : Int → List Int} {S rs : List Int} {z : Int} (h : z ∈ leftV via S rs) : z ∈ S := (List.mem_filter.1 h).1
end Mr
end Go.Proofs.YtpknmiccgbjoiabGreat
namespace Go.Proofs.YtpknmiccgbjoiabGreat
open Go.ChangeShapes Go.WideShapes Go.ChangeAt Go.RowKit
set_option linter.unusedVariables false
set_option linter.unusedSimpArgs false
attribute [local go_sem ↓] Go.wp_at_zero Go.wp_at_succ
namespace Mr
open W1 Tu St Tw
def lenS : Value → Nat
  | .slice _ n _ => n
  | _ => 0
theorem own_list {w : World} {base : Nat} {v : Value} {zs : List Int} (h : w.ownsRow base 3 1 v zs.length (In.flat zs)) : ∃ a c, v = .slice a zs.length c ∧ In.RM w a zs := by
  obtain ⟨a, c, e, l⟩ := In.lst_own rfl h
  exact ⟨a, c, e, l.rm⟩
theorem own_lt {w : World} {base n : Nat} {v : Value} {xs : List Value} (h : w.ownsRow base 3 1 v n xs) : ∀ g, v.ownBlock = some g → g < w.heap.size := fun g e => (h.lt g e).2
set_option maxRecDepth 100000 in
set_option maxHeartbeats 16000000 in
theorem l08Flood (g0 o0 : Nat) (ms : List R) (cap : Nat) (a : Option Addr) (ls : List Lk.R) (capl : Nat) (me now : Int) (w : World) (hok : twoB ms = true ∧ Ln.linksB ls = true) (hr0 : RM w (some ⟨g0, o0, none⟩) ms) (hr : Lk.RM w a ls) :
    Calls Tryz.prog 48 #[.slice (some ⟨g0, o0, none⟩) ms.length cap, .slice a ls.length capl, .int .i64 me, .int .i64 now] w fun e w' => ∃ v, e = .returned v ∧ Below w.heap.size w w' ∧ In.LstV w' v (fldV (viaF ms ls now) (strF ms ls me now) ls now) w.heap.size w'.heap.size := by
  have HR0 := hide hr
  have HM0 := hide hr0
  have HOK := hide hok
  have h8 := Ln.links_len hok.2
  clear hr hr0 hok
  have HSV : Hid (∀ z ∈ strF ms ls me now, ∃ i, i < ls.length ∧ (viaF ms ls now z).contains (ls.getD i Lk.R.zero).ad = true) := hide (fun z hz => via_link (str_via z hz))
  obtain ⟨via, hv⟩ : ∃ via, viaF ms ls now = via := ⟨_, rfl⟩
  have HVL : Hid (∀ z, (via z).length ≤ ls.length) := hide (fun z => by rw [← hv]; exact via_len ms ls now z)
  have HV := hide hv
  rw [hv] at HSV ⊢
  clear hv
  have hzl := str_len ms ls me now
  have HG := hide (str_rng (ms := ms) (ls := ls) (me := me) (now := now))
  obtain ⟨zs, hzs⟩ : ∃ zs, strF ms ls me now = zs := ⟨_, rfl⟩
  rw [hzs] at hzl HG HSV ⊢
  have HZS := hide hzs
  clear hzs
  obtain ⟨A, hA⟩ : ∃ A, alwV ls now ls.length = A := ⟨_, rfl⟩
  obtain ⟨G, hG⟩ : ∃ G, grdV via zs ls 8 (onesV via zs A) = G := ⟨_, rfl⟩
  have hF : fldV via zs ls now = sortV G := by unfold fldV; rw [hA, hG]
  rw [hF]
  have HA := hide hA
  have HGG := hide hG
  have hAl : A.length ≤ 8 := by rw [← hA]; exact Nat.le_trans (alw_len ls now ls.length) h8
  clear hA hG hF
  have P0 := hide ((Below.refl w.heap.size w).alloc (Nat.le_refl _) (.cells #[] 3))
  have O1 : Hid ((w.alloc (.cells #[] 3)).ownsRow w.heap.size 3 1 (.slice (some ⟨w.heap.size, 0, none⟩) 0 0) (alwV ls now 0).length (In.flat (alwV ls now 0))) := hide (In.own_empty w w.heap.size (Nat.le_refl _))
  go_enter Tryz.func48, Tryz.ntmps48
  go_wp2_with fail
  go_loopw [9, 10] (fun v i wr => ∃ j : Nat, j ≤ ls.length ∧ i = .int .i64 j ∧ Hid (wr.ownsRow w.heap.size 3 1 v (alwV ls now j).length (In.flat (alwV ls now j))) ∧ Hid (Below w.heap.size w wr)) (fun _ i _ => ls.length - (intOf i).toNat)
  case atStart => exact ⟨0, by omega, rfl, O1, P0⟩
  case round =>
    obtain ⟨j, hj, rfl, how, hbl⟩ := hrel
    have hbs := (unhide hbl).size
    by_cases hlt : (j : Int) < (ls.length : Int)
    · have k0 : (0 : Int) ≤ (j : Int) := by omega
      have hlen : j < ls.length := by omega
      obtain ⟨gl, ol, rfl⟩ := (unhide HR0).form (by omega)
      obtain ⟨c0, c1, c2, c3, c4, c5⟩ := ((unhide HR0).below (unhide hbl)).at hlen
      have HY := hide (fun (h : alwB now (ls.getD j Lk.R.zero) = true) => alw_yes hlen h)
      have HZ := hide (fun (h : alwB now (ls.getD j Lk.R.zero) = false) => alw_no hlen h)
      have HBQ : Hid (alwB now (ls.getD j Lk.R.zero) = ((Ln.statusV (ls.getD j Lk.R.zero) now == 2) && ((ls.getD j Lk.R.zero).wl == 7))) := hide rfl
      generalize ls.getD j Lk.R.zero = m at *
      have hfl := alw_len ls now j
      have HBA := hide ((unhide hbl).alloc hbs (.cells #[.int .i64 m.ad, .int .i64 m.hd, .int .i64 m.sy, .int .i64 m.ci, .int .i64 m.co, .int .i64 m.wl] 129))
      have HOA := hide ((unhide how).alloc (.cells #[.int .i64 m.ad, .int .i64 m.hd, .int .i64 m.sy, .int .i64 m.ci, .int .i64 m.co, .int .i64 m.wl] 129))
      have HX := hide (Ln.bx_new wr m 129)
      obtain ⟨d0, d1, d2, d3, d4, d5⟩ := unhide HX
      go_wp2_with fail
      generalize hW : wr.alloc (.cells #[.int .i64 m.ad, .int .i64 m.hd, .int .i64 m.sy, .int .i64 m.ci, .int .i64 m.co, .int .i64 m.wl] 129) = W0 at *
      clear hW
      refine (Ln.l06Status _ _ _ _ _ _ now _).mono ?_
      rintro e w3 ⟨rfl, b3⟩
      have HB3 := hide ((unhide HBA).trans (b3.mono (unhide HBA).size))
      have HO3 := hide (Ln.own_belowI (unhide HOA) b3)
      clear d0 d1 d2 d3 d4 d5 c0 c1 c2 c3 c4 c5
      obtain ⟨d0, d1, d2, d3, d4, d5⟩ := (unhide HX).below b3
      have hs3 := (unhide HB3).size
      clear b3
      have e2 : Ln.statusV ⟨m.ad, m.hd, m.sy, m.ci, m.co, m.wl⟩ now = Ln.statusV m now := rfl
      rw [e2]
      clear e2
      have hno : alwB now m = false → Hid (w3.ownsRow w.heap.size 3 1 u9 (alwV ls now (j + 1)).length (In.flat (alwV ls now (j + 1)))) := fun h => hide (by rw [unhide HZ h]; exact unhide HO3)
      have HNO3 := hide hno
      clear hno
      cases hsy : (Ln.statusV m now == 2)
      · have HO := unhide HNO3 (by rw [unhide HBQ, hsy]; rfl)
        clear HBQ HY HZ HNO3
        generalize Ln.statusV m now = sv at *
        go_wp2_with fail
        go_roundw
        case rel => exact ⟨j + 1, by omega, by go_num, HO, HB3⟩
        case measure => simp [intOf]; omega
      cases hwl : (m.wl == 7)
      · have HO := unhide HNO3 (by rw [unhide HBQ, hsy, hwl]; rfl)
        clear HBQ HY HZ HNO3
        generalize Ln.statusV m now = sv at *
        go_wp2_with fail
        go_roundw
        case rel => exact ⟨j + 1, by omega, by go_num, HO, HB3⟩
        case measure => simp [intOf]; omega
      · have HTF := hide (unhide HY (by rw [unhide HBQ, hsy, hwl]; rfl))
        clear HBQ HY HZ HNO3
        generalize Ln.statusV m now = sv at *
        go_wp2_with (at_builtin; refine In.wpList_apS ((unhide HO3).alloc _) w3.heap.size 0 1 1 [m.ad] rfl (In.rm_new w3 m.ad) (by simp only [List.length_cons, List.length_nil]; omega) (by simp; omega) rfl _ _ rfl rfl rfl ?_; intro v' w' ho hg; have HO : Hid (w'.ownsRow w.heap.size 3 1 v' (alwV ls now (j + 1)).length (In.flat (alwV ls now (j + 1)))) := hide (by rw [unhide HTF]; exact ho); have HB := hide (In.below_own ((unhide HB3).alloc hs3 _) ((unhide HO3).alloc _) hg (Nat.le_refl _) (by simp; omega)); clear ho hg)
        go_roundw
        case rel => exact ⟨j + 1, by omega, by go_num, HO, HB⟩
        case measure => simp [intOf]; omega
    · obtain rfl : j = ls.length := by omega
      have O2 : Hid (wr.ownsRow w.heap.size 3 1 u9 (onesV via (zs.take 0) A).length (In.flat (onesV via (zs.take 0) A))) := hide (by have := unhide how; rw [unhide HA] at this; exact this)
      have HM1 := hide ((unhide HM0).below (unhide hbl))
      have HL1 := hide ((unhide HR0).below (unhide hbl))
      have HOL := hide (own_lt (unhide how))
      clear how
      go_wp2_with fail
      refine (l07Strict g0 o0 ms cap _ ls capl me now _ (unhide HOK) (unhide HM1) (unhide HL1)).mono ?_
      rintro e w2 ⟨v2, rfl, b2, hl2⟩
      obtain ⟨a2, c2, rfl, l2⟩ := hl2
      have hzz : strN (condS ms ls me now) 8 = zs := unhide HZS
      rw [hzz] at l2 ⊢
      have HN2 : Hid (NearOk w2 u9 a2 zs) := hide (near_of l2 (unhide HOL))
      have HB2 := hide ((unhide hbl).trans (b2.mono (unhide hbl).size))
      have O3 := hide (Ln.own_belowI (unhide O2) b2)
      clear b2 l2 HM1 HL1 O2 hzz hbl HOL
      generalize hQ : zs.length = m at *
      have HQ := hide hQ
      clear hQ
      go_wp2_with fail
      go_loopw [9, 13] (fun v i wr => ∃ j : Nat, j ≤ m ∧ i = .int .i64 j ∧ Hid (wr.ownsRow w.heap.size 3 1 v (onesV via (zs.take j) A).length (In.flat (onesV via (zs.take j) A))) ∧ Hid (Below w.heap.size w wr) ∧ Hid (NearOk wr v a2 zs)) (fun _ i _ => m - (intOf i).toNat)
      case atStart => exact ⟨0, by omega, rfl, O3, HB2, HN2⟩
      case round =>
        obtain ⟨j, hj, rfl, how, hbl, hnr⟩ := hrel
        have hbs := (unhide hbl).size
        have hfl := ones_len via zs A j (by rw [unhide HQ]; exact hj)
        by_cases hlt : (j : Int) < (m : Int)
        · have k0 : (0 : Int) ≤ (j : Int) := by omega
          have hlen : j < zs.length := by rw [unhide HQ]; omega
          have hzr := unhide HG _ (getD_mem hlen)
          have HST := hide (ones_step (via := via) (out := A) hlen)
          have HMr := hide ((unhide HM0).below (unhide hbl))
          have HLr := hide ((unhide HR0).below (unhide hbl))
          rcases unhide hnr with e0 | ⟨g, off, rfl, hne, hgl, hrm⟩
          · exfalso; rw [e0] at hlen; simp at hlen
          have c0 := hrm.at hlen
          clear hrm hne hgl
          generalize zs.getD j 0 = z at *
          generalize onesV via (zs.take j) A = r at *
          go_wp2_with fail
          refine (l07Via g0 o0 ms cap _ ls capl z now _ hzr.1 hzr.2 (two_set (unhide HOK).1) (unhide HOK).2 (unhide HMr) (unhide HLr)).mono ?_
          rintro e w5 ⟨v5, rfl, b5, hl5⟩
          obtain ⟨a5, c5, rfl, l5⟩ := hl5
          have hvz : viaL (findT ms) ls z now ls.length = via z := by rw [← unhide HV]; rfl
          rw [hvz] at l5 ⊢
          have HB5 := hide ((unhide hbl).trans (b5.mono (unhide hbl).size))
          have HO5 := hide (Ln.own_belowI (unhide how) b5)
          have HN5 := hide ((unhide hnr).below b5)
          have HV5 := hide l5.rm
          have hs5 := (unhide HB5).size
          clear b5 l5 hvz c0 how hbl hnr
          have hvl := unhide HVL z
          have HOB : Hid (oneB via r z = (((via z).length == 1) && !r.contains ((via z).getD 0 0))) := hide rfl
          have HOS : Hid (oneS via r z = if oneB via r z = true then r ++ [(via z).getD 0 0] else r) := hide rfl
          rw [unhide HOB] at HOS
          rw [unhide HOS] at HST
          clear HOB HOS
          generalize via z = vz at *
          by_cases hv1 : vz.length = 1
          rotate_left
          · have HT : Hid (onesV via (zs.take (j + 1)) A = r) := hide (by rw [unhide HST, if_neg (by rw [show (vz.length == 1) = false by simpa using hv1]; simp)])
            have HO : Hid (w5.ownsRow w.heap.size 3 1 u9 (onesV via (zs.take (j + 1)) A).length (In.flat (onesV via (zs.take (j + 1)) A))) := hide (by rw [unhide HT]; exact unhide HO5)
            have f1 : ((vz.length : Int) == 1) = false := by simp; omega
            clear HST
            go_wp2_with fail
            go_roundw
            case rel => exact ⟨j + 1, by omega, by go_num, HO, HB5, HN5⟩
            case measure => simp [intOf]; omega
          obtain ⟨y, rfl⟩ : ∃ y, vz = [y] := List.length_eq_one_iff.1 hv1
          rcases unhide HV5 with e0 | ⟨g5, o5, rfl, hc5⟩
          · cases e0
          have cy : w5.cell? ⟨g5, o5, none⟩ = some (.int .i64 y) := hc5 0 (by simp)
          clear hc5
          have HST2 : Hid (onesV via (zs.take (j + 1)) A = if r.contains y = true then r else r ++ [y]) := hide (by
            have e : (List.getD [y] 0 0 : Int) = y := rfl
            rw [unhide HST, e]
            cases r.contains y <;> rfl)
          obtain ⟨ao, co, rfl, hro⟩ := own_list (unhide HO5)
          have HRO := hide hro
          clear hro HST
          go_wp2_with fail
          refine (l07Has ao r co y _ (by omega) (unhide HRO)).mono ?_
          rintro e w7 ⟨rfl, hw7⟩
          rw [hw7]
          clear hw7
          obtain ⟨q, hq⟩ : ∃ q, r.contains y = q := ⟨_, rfl⟩
          rw [hq] at HST2 ⊢
          clear hq
          cases q
          · have HTF : Hid (onesV via (zs.take (j + 1)) A = r ++ [y]) := hide (by rw [unhide HST2]; rfl)
            go_wp2_with (at_builtin; refine wpList_apL ((unhide HO5).alloc _) w5.heap.size 0 1 1 [y] rfl (by omega) (In.rm_new w5 y) (by simp only [List.length_cons, List.length_nil]; omega) (by simp; omega) rfl _ _ rfl rfl rfl ?_; intro v' w' ho hg hv; have HO : Hid (w'.ownsRow w.heap.size 3 1 v' (onesV via (zs.take (j + 1)) A).length (In.flat (onesV via (zs.take (j + 1)) A))) := hide (by rw [unhide HTF]; exact ho); have HB := hide (In.below_own ((unhide HB5).alloc hs5 _) ((unhide HO5).alloc _) hg (Nat.le_refl _) (by simp; omega)); have HN := hide (((unhide HN5).below ((Below.refl _ _).alloc (Nat.le_refl _) _)).grown hg hv); clear ho hg hv)
            go_roundw
            case rel => exact ⟨j + 1, by omega, by go_num, HO, HB, HN⟩
            case measure => simp [intOf]; omega
          · have HTF : Hid (onesV via (zs.take (j + 1)) A = r) := hide (by rw [unhide HST2]; rfl)
            have HO : Hid (w5.ownsRow w.heap.size 3 1 (.slice ao r.length co) (onesV via (zs.take (j + 1)) A).length (In.flat (onesV via (zs.take (j + 1)) A))) := hide (by rw [unhide HTF]; exact unhide HO5)
            go_wp2_with fail
            go_roundw
            case rel => exact ⟨j + 1, by omega, by go_num, HO, HB5, HN5⟩
            case measure => simp [intOf]; omega
        · obtain rfl : j = m := by omega
          have hr1 : (onesV via zs A).length ≤ 16 := by
            have := hfl
            rw [← unhide HQ, List.take_length] at this
            have := unhide HQ
            omega
          have how2 := unhide how
          rw [← unhide HQ, List.take_length] at how2
          have HGR : Hid (grdV via zs ls 8 (onesV via zs A) = G) := HGG
          have HFL : Hid ((leftV via zs (onesV via zs A)).length ≤ 8) := hide (Nat.le_trans (left_len via zs _) (by rw [unhide HQ]; exact hzl))
          generalize onesV via zs A = r at *
          obtain ⟨ao, co, rfl, hro⟩ := own_list how2
          have O4 := hide how2
          have HRO := hide hro
          clear hro how2 how hnr hfl
          have HMr := hide ((unhide HM0).below (unhide hbl))
          have HLr := hide ((unhide HR0).below (unhide hbl))
          have hzs' : strF ms ls me now = zs := unhide HZS
          go_wp2_with fail
          refine (by have := l08Left g0 o0 ms cap _ ls capl me now ao r co _ (by omega) (unhide HOK) (unhide HMr) (unhide HLr) (unhide HRO); rw [unhide HV, unhide HZS] at this; exact this : Calls Tryz.prog 47 _ _ _).mono ?_
          rintro e w6 ⟨v6, rfl, b6, hl6⟩
          obtain ⟨al, cl, rfl, l6⟩ := hl6
          have HB6 := hide ((unhide hbl).trans (b6.mono (unhide hbl).size))
          have O6 := hide (Ln.own_belowI (unhide O4) b6)
          have HL6 := hide l6.rm
          clear b6 l6 hbl O4 HRO HMr HLr hzs'
          go_wp2_with fail
          go_loopw [9, 15] (fun v l wr => ∃ (r : List Int) (f : Nat), Hid (wr.ownsRow w.heap.size 3 1 v r.length (In.flat r)) ∧ Hid (Below w.heap.size w wr) ∧ (∃ al cl, l = .slice al (leftV via zs r).length cl ∧ Hid (In.RM wr al (leftV via zs r))) ∧ Hid (grdV via zs ls f r = G) ∧ Hid ((leftV via zs r).length ≤ f) ∧ r.length + f ≤ 24) (fun _ l _ => lenS l)
          case atStart => exact ⟨r, 8, O6, HB6, ⟨al, cl, rfl, HL6⟩, HGR, HFL, by omega⟩
          case round =>
            rename World => wo
            obtain ⟨r, f, how, hbl, ⟨al, cl, rfl, hrl⟩, hgr, hff, hrf⟩ := hrel
            have hbs := (unhide hbl).size
            have HLM : Hid (∀ z ∈ leftV via zs r, z ∈ zs) := hide (fun z hz => left_mem hz)
            have HLS : Hid (∀ a, 0 < cntV via (leftV via zs r) a → (leftV via zs (r ++ [a])).length < (leftV via zs r).length) := hide (fun a h => left_less h)
            have HGS : Hid (∀ b, pickV via zs (leftV via zs r) ls ls.length = some b → ∀ f, grdV via zs ls (f + 1) r = grdV via zs ls f (r ++ [(ls.getD b Lk.R.zero).ad])) := hide (fun b h f => grd_step h)
            have HGE : Hid ((leftV via zs r).length = 0 → G = r) := hide (fun h => by rw [← unhide hgr]; exact grd_end h)
            have hLl : (leftV via zs r).length ≤ 8 := Nat.le_trans (left_len via zs r) (by rw [unhide HQ]; exact hzl)
            generalize leftV via zs r = Lf at *
            rcases hL0 : Lf.length with _ | nn
            · have HE := hide (unhide HGE hL0)
              obtain ⟨ao, co, rfl, hro⟩ := own_list (unhide how)
              have HRO := hide hro
              clear hro HLM HLS HGS HGE
              go_wp2_with fail
              refine (l08Sorted ao r co _ (by omega) (unhide HRO)).mono ?_
              rintro e w7 ⟨v7, rfl, b7, l7⟩
              have HB7 := hide ((unhide hbl).trans (b7.mono hbs))
              have HL7 := hide (l7.mono (lo' := w.heap.size) hbs (Nat.le_refl _))
              rw [← unhide HE] at HL7
              clear b7 l7
              go_wp2_with fail
              go_ret
              exact ⟨_, rfl, unhide HB7, unhide HL7⟩
            · have hL1 : 0 < Lf.length := by omega
              rcases f with _ | f
              · exfalso; have := unhide hff; omega
              obtain ⟨gl, ol, rfl⟩ := (unhide HR0).form (by
                cases hz : Lf with
                | nil => rw [hz] at hL0; simp at hL0
                | cons z t => obtain ⟨i, hi, _⟩ := unhide HSV z (unhide HLM z (by rw [hz]; simp)); omega)
              have HP := hide (pick_some (S := zs) (fun z hz => unhide HSV z (unhide HLM z hz)) (by omega : 0 < Lf.length))
              have HGL : Hid (∀ z ∈ Lf, 1 ≤ z ∧ z ≤ 8) := hide (fun z hz => unhide HG z (unhide HLM z hz))
              clear HGE
              rw [← hL0]
              clear hL0
              go_wp2_with fail
              go_loopw [16, 17] (fun q i w7 => ∃ t : Nat, t ≤ ls.length ∧ i = .int .i64 t ∧ (∃ o, q = .int .i64 (idxV o) ∧ Hid (pickV via zs Lf ls t = o)) ∧ Hid (Below wo.heap.size wo w7)) (fun _ i _ => ls.length - (intOf i).toNat)
              case atStart => exact ⟨0, by omega, rfl, ⟨none, rfl, hide rfl⟩, hide (Below.refl _ _)⟩
              case round =>
                rename World => w7
                obtain ⟨t, ht, rfl, ⟨o, rfl, hpo⟩, hb7⟩ := hrel
                have HBL := hide ((unhide hbl).trans ((unhide hb7).mono hbs))
                have HM7 := hide ((unhide HM0).below (unhide HBL))
                have HR7 := hide ((unhide HR0).below (unhide HBL))
                have HLf := hide ((unhide hrl).below (unhide hb7))
                have hs7 := (unhide hb7).size
                by_cases hlt2 : (t : Int) < (ls.length : Int)
                · have k1 : (0 : Int) ≤ (t : Int) := by omega
                  have hlen2 : t < ls.length := by omega
                  obtain ⟨d0, d1, d2, d3, d4, d5⟩ := (unhide HR7).at hlen2
                  have HPF := hide (fun (h : pickV via zs Lf ls t = none) => pick_first h)
                  have HPN := hide (fun b (h : pickV via zs Lf ls t = some b) => pick_next h)
                  have HBT : Hid (∀ b capz w', b < ls.length → RM w' (some ⟨g0, o0, none⟩) ms → Lk.RM w' (some ⟨gl, ol, none⟩) ls → In.RM w' al Lf → Calls Tryz.prog 92 #[.slice (some ⟨g0, o0, none⟩) ms.length cap, .slice (some ⟨gl, ol, none⟩) ls.length capl, .int .i64 me, .int .i64 now, .slice al Lf.length capz, .int .i64 t, .int .i64 (b : Nat)] w' fun e w'' => e = .returned (.bool (betV via zs Lf (ls.getD t Lk.R.zero) (ls.getD b Lk.R.zero))) ∧ Below w'.heap.size w' w'') := hide (fun b capz w' hb h1 h2 h3 => by
                    have := l08Better g0 o0 ms cap gl ol ls capl me now al Lf capz t b w' (unhide HGL) (by omega) (unhide HOK) hlen2 hb h1 h2 h3
                    rw [unhide HV, unhide HZS] at this
                    exact this)
                  generalize ls.getD t Lk.R.zero = X at *
                  go_wp2_with fail
                  refine (by have := l08Gain g0 o0 ms cap _ ls capl now X.ad al Lf cl _ (unhide HGL) (by omega) (two_set (unhide HOK).1) (unhide HOK).2 (unhide HM7) (unhide HR7) (unhide HLf); rw [unhide HV] at this; exact this : Calls Tryz.prog 91 _ _ _).mono ?_
                  rintro e w8 ⟨rfl, b8⟩
                  have hb8 := hide ((unhide hb7).trans (b8.mono (unhide hb7).size))
                  have HM8 := hide ((unhide HM7).below b8)
                  have HR8 := hide ((unhide HR7).below b8)
                  have HLf8 := hide ((unhide HLf).below b8)
                  clear b8 d0 d1 d2 d3 d4 d5
                  have hcl := cnt_len via Lf X.ad
                  generalize cntV via Lf X.ad = cx at *
                  rcases cx with _ | cx
                  · have HP1 : Hid (pickV via zs Lf ls (t + 1) = o) := hide (by
                      cases o with
                      | none => rw [unhide HPF (unhide hpo)]; rfl
                      | some b => rw [unhide HPN b (unhide hpo)]; rfl)
                    clear HPF HPN HBT
                    go_wp2_with fail
                    go_roundw
                    case rel => exact ⟨t + 1, by omega, by go_num, ⟨o, rfl, HP1⟩, hb8⟩
                    case measure => simp [intOf]; omega
                  have hcx : (0 : Int) < ((cx + 1 : Nat) : Int) := by omega
                  rcases o with _ | b
                  · have HP1 : Hid (pickV via zs Lf ls (t + 1) = some t) := hide (by rw [unhide HPF (unhide hpo)]; simp)
                    clear HPF HPN HBT
                    unfold idxV
                    dsimp only
                    go_wp2_with fail
                    go_roundw
                    case rel => exact ⟨t + 1, by omega, by go_num, ⟨some t, rfl, HP1⟩, hb8⟩
                    case measure => simp [intOf]; omega
                  have hbt := (pick_lt (unhide hpo)).1
                  have HB2 := hide (fun capz w' => unhide HBT b capz w' (by omega))
                  have HP1 := hide (unhide HPN b (unhide hpo))
                  clear HPF HPN HBT
                  have hbn : ¬ ((b : Int) < 0) := by omega
                  generalize betV via zs Lf X (ls.getD b Lk.R.zero) = bq at *
                  unfold idxV
                  dsimp only
                  go_wp2_with fail
                  refine (unhide HB2 cl _ (unhide HM8) (unhide HR8) (unhide HLf8)).mono ?_
                  rintro e w9 ⟨rfl, b9⟩
                  have hb9 := hide ((unhide hb8).trans (b9.mono (unhide hb8).size))
                  clear b9
                  cases bq
                  · have HP2 : Hid (pickV via zs Lf ls (t + 1) = some b) := hide (by rw [unhide HP1]; simp)
                    clear HP1
                    go_wp2_with fail
                    go_roundw
                    case rel => exact ⟨t + 1, by omega, by go_num, ⟨some b, rfl, HP2⟩, hb9⟩
                    case measure => simp [intOf]; omega
                  · have HP2 : Hid (pickV via zs Lf ls (t + 1) = some t) := hide (by rw [unhide HP1]; simp)
                    clear HP1
                    go_wp2_with fail
                    go_roundw
                    case rel => exact ⟨t + 1, by omega, by go_num, ⟨some t, rfl, HP2⟩, hb9⟩
                    case measure => simp [intOf]; omega
                · obtain rfl : t = ls.length := by omega
                  obtain ⟨b, hb⟩ := unhide HP
                  obtain rfl : o = some b := (unhide hpo).symm.trans hb
                  have hbl2 := (pick_lt hb).1
                  have hgp := (pick_lt hb).2
                  have HGN := hide (unhide HGS b hb f)
                  have HLN := hide (unhide HLS _ hgp)
                  have kb : (0 : Int) ≤ (b : Int) := by omega
                  have kn : (b : Int) < (ls.length : Int) := by omega
                  obtain ⟨d0, d1, d2, d3, d4, d5⟩ := (unhide HR7).at hbl2
                  clear hb hgp HP HGS HLS hpo
                  generalize ls.getD b Lk.R.zero = X at *
                  have HO7 := hide (Ln.own_belowI (unhide how) (unhide hb7))
                  have hsw := (unhide HBL).size
                  unfold idxV
                  dsimp only
                  go_wp2_with (at_builtin; refine In.wpList_apS ((unhide HO7).alloc _) w7.heap.size 0 1 1 [X.ad] rfl (In.rm_new w7 X.ad) (by simp only [List.length_cons, List.length_nil]; omega) (by simp; omega) rfl _ _ rfl rfl rfl ?_; intro v' w' ho hg; have HO : Hid (w'.ownsRow w.heap.size 3 1 v' (r ++ [X.ad]).length (In.flat (r ++ [X.ad]))) := hide ho; have HB := hide (In.below_own ((unhide HBL).alloc hsw _) ((unhide HO7).alloc _) hg (Nat.le_refl _) (by simp; omega)); clear ho hg)
                  obtain ⟨ao, co, rfl, hro⟩ := own_list (unhide HO)
                  have HRO := hide hro
                  clear hro
                  have HMr := hide ((unhide HM0).below (unhide HB))
                  have HLr := hide ((unhide HR0).below (unhide HB))
                  have hrl2 : (r ++ [X.ad]).length ≤ 64 := by simp only [List.length_append, List.length_cons, List.length_nil]; omega
                  have HGF : Hid (grdV via zs ls f (r ++ [X.ad]) = G) := hide (by rw [← unhide HGN]; exact unhide hgr)
                  have HFF : Hid ((leftV via zs (r ++ [X.ad])).length ≤ f) := hide (by have h1 := unhide HLN; have h2 := unhide hff; omega)
                  have hrf2 : (r ++ [X.ad]).length + f ≤ 24 := by simp only [List.length_append, List.length_cons, List.length_nil]; omega
                  generalize r ++ [X.ad] = r2 at *
                  refine (by have := l08Left g0 o0 ms cap _ ls capl me now ao r2 co _ hrl2 (unhide HOK) (unhide HMr) (unhide HLr) (unhide HRO); rw [unhide HV, unhide HZS] at this; exact this : Calls Tryz.prog 47 _ _ _).mono ?_
                  rintro e w9 ⟨v9, rfl, b9, hl9⟩
                  obtain ⟨al9, cl9, rfl, l9⟩ := hl9
                  have HB9 := hide ((unhide HB).trans (b9.mono (unhide HB).size))
                  have O9 := hide (Ln.own_belowI (unhide HO) b9)
                  have HL9 := hide l9.rm
                  clear b9 l9
                  go_wp2_with fail
                  go_roundw
                  case rel => exact ⟨r2, f, O9, HB9, ⟨al9, cl9, rfl, HL9⟩, HGF, HFF, hrf2⟩
                  case measure => simp only [lenS]; exact unhide HLN
end Mr
end Go.Proofs.YtpknmiccgbjoiabGreat
namespace Go.Proofs.YtpknmiccgbjoiabGreat
open Go.ChangeShapes Go.WideShapes Go.ChangeAt Go.RowKit
set_option linter.unusedVariables false
set_option linter.unusedSimpArgs false
attribute [local go_sem ↓] Go.wp_at_zero Go.wp_at_succ
namespace Mr
open W1 Tu St Tw
def fldA (ms : List R) (ls : List Lk.R) (me now : Int) : List Int := if codeTL ms ls = 0 then fldV (viaF ms ls now) (strF ms ls me now) ls now else []
end Mr
end Go.Proofs.YtpknmiccgbjoiabGreat
namespace Go.Proofs.YtpknmiccgbjoiabGreat
open Go.ChangeShapes Go.WideShapes Go.ChangeAt Go.RowKit
set_option linter.unusedVariables false
set_option linter.unusedSimpArgs false
attribute [local go_sem ↓] Go.wp_at_zero Go.wp_at_succ
namespace Mr
open W1 Tu St Tw
/-- The code of a call with relays. -/
def codeM (ms : List R) (ls : List Lk.R) (rs : List Int) : Int := if 4096 < rs.length then 2 else if codeTL ms ls = 0 then (if 8 < rs.length then 6 else 0) else codeTL ms ls
theorem codeM_zero {ms : List R} {ls : List Lk.R} {rs : List Int} (h : codeM ms ls rs = 0) : codeTL ms ls = 0 ∧ rs.length ≤ 8 := by
  unfold codeM at h
  split at h
  · cases h
  · split at h
    · split at h
      · cases h
      · exact ⟨by assumption, by omega⟩
    · exact absurd h (by assumption)
def covA (ms : List R) (ls : List Lk.R) (me now : Int) (rs : List Int) : Bool := decide (codeM ms ls rs = 0) && ((leftV (viaF ms ls now) (strF ms ls me now) rs).length == 0)
end Mr
end Go.Proofs.YtpknmiccgbjoiabGreat
