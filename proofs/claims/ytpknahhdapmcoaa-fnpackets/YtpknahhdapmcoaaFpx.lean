/-
  A packet's bytes tell it again; cut or drawn out they tell none; what is told of any bytes has just these.
-/
import Derived.Test.YtpknahhdapmcoaaEncP
import Derived.Test.YtpknahhdapmcoaaDecP
namespace Go.Proofs.Ytpknahhdapmcoaa
open Go.ChangeShapes Go.WideShapes Go.ChangeAt Go.RowKit
set_option linter.unusedVariables false
set_option maxRecDepth 100000
namespace Fx
open W1 By De Ms Ml Ep Pa
theorem fld_head {zs : List Int} {rest : List UInt8} (h : ∀ z ∈ zs, 0 ≤ z ∧ z ≤ 255) {i : Nat} (hi : i < zs.length) : fld (zs.map (fun n => UInt8.ofNat n.toNat) ++ rest) i = zs.getD i 0 := by
  unfold fld
  have hz := h zs[i] (List.getElem_mem hi)
  rw [List.getD_eq_getElem?_getD, List.getD_eq_getElem?_getD, List.getElem?_append_left (by simpa using hi), List.getElem?_map, List.getElem?_eq_getElem hi]
  simp
  omega
variable {m : M}
theorem mB_eq (m : M) : mB m = (head m.ty m.og m.sq m.hl m.hp m.body.size).map (fun n => UInt8.ofNat n.toNat) ++ m.body.data.toList := by
  unfold mB; rw [msgStr_data]
theorem head_in (h : m.ok = true) : ∀ z ∈ head m.ty m.og m.sq m.hl m.hp m.body.size, 0 ≤ z ∧ z ≤ 255 := by
  obtain ⟨t0, t1, o0, o1, s0, s1, l0, l1, p0, p1, bz⟩ := ok_bounds h
  intro z hz
  unfold head at hz
  simp at hz
  rcases hz with rfl | rfl | rfl | rfl | rfl | rfl | rfl | rfl <;> omega
theorem flds (h : m.ok = true) (t : List UInt8) : fld (mB m ++ t) 0 = m.ty ∧ two (mB m ++ t) 1 = 8 + m.body.size ∧ fld (mB m ++ t) 3 = m.og ∧ two (mB m ++ t) 4 = m.sq ∧ fld (mB m ++ t) 6 = m.hl ∧ fld (mB m ++ t) 7 = m.hp := by
  obtain ⟨t0, t1, o0, o1, s0, s1, l0, l1, p0, p1, bz⟩ := ok_bounds h
  have hf : ∀ i, i < 8 → fld (mB m ++ t) i = (head m.ty m.og m.sq m.hl m.hp m.body.size).getD i 0 := fun i hi => by
    rw [mB_eq, List.append_assoc]; exact fld_head (head_in h) (by simpa [head] using hi)
  unfold two
  rw [hf 0 (by omega), hf 1 (by omega), hf (1 + 1) (by omega), hf 3 (by omega), hf 4 (by omega), hf (4 + 1) (by omega), hf 6 (by omega), hf 7 (by omega)]
  refine ⟨rfl, ?_, rfl, ?_, rfl, rfl⟩
  · show 256 * ((8 + (m.body.size : Int)) / 256) + (8 + (m.body.size : Int)) % 256 = _; omega
  · show 256 * (m.sq / 256) + m.sq % 256 = _; omega
theorem body_of (h : m.ok = true) (t : List UInt8) : bodyOf (mB m ++ t) = m.body := by
  unfold bodyOf
  rw [(flds h t).2.1]
  apply ByteArray.ext
  apply Array.ext'
  show ((mB m ++ t).take ((8 + (m.body.size : Int)).toNat)).drop 8 = m.body.data.toList
  rw [show (8 + (m.body.size : Int)).toNat = (mB m).length by rw [mB_length]; omega, List.take_left, mB_eq]
  have hl8 : ((head m.ty m.og m.sq m.hl m.hp m.body.size).map (fun n => UInt8.ofNat n.toNat)).length = 8 := by simp [head]
  rw [← hl8, List.drop_left]
theorem dec_yes (h : m.ok = true) (t : List UInt8) : decB (mB m ++ t) = true ∧ msgOf (mB m ++ t) = m := by
  obtain ⟨f0, f1, f3, f4, f6, f7⟩ := flds h t
  have hl' := mB_length m
  have hb := body_of h t
  constructor
  · unfold decB
    have ho : okB m.ty m.og m.sq m.hl m.hp m.body = true := h
    rw [f0, f1, f3, f4, f6, f7, hb, ho, List.length_append, decide_eq_true (by omega), decide_eq_true (by omega), decide_eq_true (by omega)]; rfl
  · unfold msgOf; rw [f0, f3, f4, f6, f7, hb]
theorem dec_cut (h : m.ok = true) {k : Nat} (hk : k < (mB m).length) : decB ((mB m).take k) = false := by
  have hl' := mB_length m
  have htl : ((mB m).take k).length = k := by rw [List.length_take]; omega
  unfold decB
  rw [htl]
  by_cases h8 : 8 ≤ k
  · have ht : two ((mB m).take k) 1 = 8 + m.body.size := by
      have h1 := (flds h []).2.1
      rw [List.append_nil] at h1
      rw [← h1]
      unfold two fld
      rw [List.getD_eq_getElem?_getD, List.getD_eq_getElem?_getD, List.getD_eq_getElem?_getD, List.getD_eq_getElem?_getD, List.getElem?_take_of_lt (by omega), List.getElem?_take_of_lt (by omega)]
    rw [ht, decide_eq_false (p := (8 : Int) + m.body.size ≤ k) (by omega)]; simp
  · rw [decide_eq_false h8]; rfl
/-- The bytes behind the head. -/
def bB (ms : List M) : List UInt8 := ms.flatMap mB
theorem bB_cons (m : M) (ms : List M) : bB (m :: ms) = mB m ++ bB ms := by unfold bB; rw [List.flatMap_cons]
theorem pB_all (ms : List M) : pB ms ms.length = [0, UInt8.ofNat ms.length] ++ bB ms := by unfold pB bB; rw [List.take_length]
theorem drop_mB (h : m.ok = true) (t : List UInt8) : (mB m ++ t).drop (two (mB m ++ t) 1).toNat = t := by
  rw [(flds h t).2.1, show (8 + (m.body.size : Int)).toNat = (mB m).length by rw [mB_length]; omega, List.drop_left]
theorem pars_all : ∀ (ms : List M) (acc : List M) (t : List UInt8), (∀ m ∈ ms, m.ok = true) → pars ms.length (bB ms ++ t) acc = if t = [] then some (acc ++ ms) else none
  | [], acc, t, _ => by
    show pars 0 ([] ++ t) acc = _
    rw [List.nil_append, List.append_nil]; unfold pars; rfl
  | m :: ms, acc, t, h => by
    have hm := h m (List.mem_cons_self ..)
    have hd := dec_yes hm (bB ms ++ t)
    rw [bB_cons, List.append_assoc, List.length_cons, pars_yes _ _ _ hd.1, drop_mB hm, hd.2, pars_all ms _ t (fun x hx => h x (List.mem_cons_of_mem _ hx))]
    simp
theorem pars_cut : ∀ (ms : List M) (acc : List M) (j : Nat), (∀ m ∈ ms, m.ok = true) → j < (bB ms).length → pars ms.length ((bB ms).take j) acc = none
  | [], acc, j, _, hj => by simp [bB] at hj
  | m :: ms, acc, j, h, hj => by
    have hm := h m (List.mem_cons_self ..)
    rw [bB_cons] at hj ⊢
    rw [List.length_append] at hj
    rw [List.length_cons]
    by_cases hl : j < (mB m).length
    · rw [List.take_append_of_le_length (by omega)]
      exact pars_no _ _ _ (dec_cut hm hl)
    · rw [List.take_append, List.take_of_length_le (by omega)]
      have hd := dec_yes hm ((bB ms).take (j - (mB m).length))
      rw [pars_yes _ _ _ hd.1, drop_mB hm]
      exact pars_cut ms _ _ (fun x hx => h x (List.mem_cons_of_mem _ hx)) (by omega)
theorem all_ok {ms : List M} (h : pktB ms = true) : 1 ≤ ms.length ∧ ms.length ≤ 6 ∧ ∀ m ∈ ms, m.ok = true := by
  unfold pktB at h; simp [inB] at h
  exact ⟨by omega, by omega, h.2⟩
theorem head_of {ms : List M} (h : pktB ms = true) (t : List UInt8) : headB ([0, UInt8.ofNat ms.length] ++ t) = true ∧ (fld ([0, UInt8.ofNat ms.length] ++ t) 1).toNat = ms.length := by
  obtain ⟨h1, h6, _⟩ := all_ok h
  have f1 : fld ([0, UInt8.ofNat ms.length] ++ t) 1 = (ms.length : Int) := by unfold fld; simp; omega
  have f0 : fld ([0, UInt8.ofNat ms.length] ++ t) 0 = 0 := by unfold fld; simp
  refine ⟨?_, by rw [f1]; rfl⟩
  unfold headB
  rw [f0, f1]
  unfold inB
  simp; omega
theorem dec_back {ms : List M} (h : pktB ms = true) : decP (pB ms ms.length) = some ms := by
  have hh := head_of h (bB ms)
  unfold decP
  rw [pB_all, if_pos hh.1, hh.2]
  have := pars_all ms [] [] (all_ok h).2.2
  rw [List.append_nil, if_pos rfl, List.nil_append] at this
  exact this
theorem dec_long {ms : List M} (h : pktB ms = true) : decP (pB ms ms.length ++ [0]) = none := by
  have hh := head_of h (bB ms ++ [0])
  unfold decP
  rw [pB_all, List.append_assoc, if_pos hh.1, hh.2]
  have := pars_all ms [] [0] (all_ok h).2.2
  rw [if_neg (by simp)] at this
  exact this
theorem dec_short {ms : List M} (h : pktB ms = true) {k : Nat} (hk : k < (pB ms ms.length).length) : decP ((pB ms ms.length).take k) = none := by
  unfold decP
  rw [pB_all] at hk ⊢
  by_cases h2 : 2 ≤ k
  · have e : ([0, UInt8.ofNat ms.length] ++ bB ms).take k = [0, UInt8.ofNat ms.length] ++ (bB ms).take (k - 2) := by
      rw [List.take_append, List.take_of_length_le (by simp; omega)]; rfl
    have hh := head_of h ((bB ms).take (k - 2))
    rw [e, if_pos hh.1, hh.2]
    exact pars_cut ms [] (k - 2) (all_ok h).2.2 (by simp at hk; omega)
  · have hl : (([0, UInt8.ofNat ms.length] ++ bB ms).take k).length = k := by rw [List.length_take]; omega
    rw [if_neg]
    unfold headB
    rw [hl, decide_eq_false h2]; simp
theorem u8_of (b : UInt8) : UInt8.ofNat ((b.toNat : Int)).toNat = b := by simp
theorem dec_bytes {bs : List UInt8} (h : decB bs = true) : (msgOf bs).ok = true ∧ bs = mB (msgOf bs) ++ bs.drop (two bs 1).toNat := by
  have hk : (8 ≤ bs.length) ∧ (8 ≤ two bs 1) ∧ (two bs 1 ≤ bs.length) ∧ (msgOf bs).ok = true := by
    unfold decB at h; simp at h
    exact ⟨by omega, h.2.1, h.2.2.1, h.2.2.2⟩
  obtain ⟨k1, k2, k3, k4⟩ := hk
  refine ⟨k4, ?_⟩
  obtain ⟨n, hn⟩ : ∃ n : Nat, two bs 1 = n := ⟨(two bs 1).toNat, by omega⟩
  have hbl : (bodyOf bs).size = n - 8 := by
    unfold bodyOf
    show (((bs.take (two bs 1).toNat).drop 8).toArray).size = _
    rw [hn]; simp; omega
  have e8 : (bs.take 8) = (head (msgOf bs).ty (msgOf bs).og (msgOf bs).sq (msgOf bs).hl (msgOf bs).hp (msgOf bs).body.size).map (fun n => UInt8.ofNat n.toNat) := by
    match bs, k1 with
    | b0 :: b1 :: b2 :: b3 :: b4 :: b5 :: b6 :: b7 :: rest, _ =>
      have hs : ((bodyOf (b0 :: b1 :: b2 :: b3 :: b4 :: b5 :: b6 :: b7 :: rest)).size : Int) = (n : Int) - 8 := by rw [hbl]; omega
      have h2 : (n : Int) = 256 * (b1.toNat : Int) + (b2.toNat : Int) := by rw [← hn]; rfl
      have q1 := b1.toNat_lt
      have q2 := b2.toNat_lt
      have q4 := b4.toNat_lt
      have q5 := b5.toNat_lt
      have s1 : ((8 + ((bodyOf (b0 :: b1 :: b2 :: b3 :: b4 :: b5 :: b6 :: b7 :: rest)).size : Int)) / 256) = (b1.toNat : Int) := by omega
      have s2 : ((8 + ((bodyOf (b0 :: b1 :: b2 :: b3 :: b4 :: b5 :: b6 :: b7 :: rest)).size : Int)) % 256) = (b2.toNat : Int) := by omega
      have s3 : (256 * (b4.toNat : Int) + (b5.toNat : Int)) / 256 = (b4.toNat : Int) := by omega
      have s4 : (256 * (b4.toNat : Int) + (b5.toNat : Int)) % 256 = (b5.toNat : Int) := by omega
      show [b0, b1, b2, b3, b4, b5, b6, b7] = [UInt8.ofNat ((b0.toNat : Int)).toNat, UInt8.ofNat ((8 + ((bodyOf (b0 :: b1 :: b2 :: b3 :: b4 :: b5 :: b6 :: b7 :: rest)).size : Int)) / 256).toNat, UInt8.ofNat ((8 + ((bodyOf (b0 :: b1 :: b2 :: b3 :: b4 :: b5 :: b6 :: b7 :: rest)).size : Int)) % 256).toNat, UInt8.ofNat ((b3.toNat : Int)).toNat, UInt8.ofNat ((256 * (b4.toNat : Int) + (b5.toNat : Int)) / 256).toNat, UInt8.ofNat ((256 * (b4.toNat : Int) + (b5.toNat : Int)) % 256).toNat, UInt8.ofNat ((b6.toNat : Int)).toNat, UInt8.ofNat ((b7.toNat : Int)).toNat]
      rw [s1, s2, s3, s4, u8_of, u8_of, u8_of, u8_of, u8_of, u8_of, u8_of, u8_of]
  have eb : (msgOf bs).body.data.toList = (bs.take n).drop 8 := by
    show (bodyOf bs).data.toList = _
    unfold bodyOf
    show ((bs.take (two bs 1).toNat).drop 8) = _
    rw [hn]; rfl
  rw [mB_eq, ← e8, eb, hn]
  show bs = bs.take 8 ++ (bs.take n).drop 8 ++ bs.drop n
  have e1 : bs.take 8 = (bs.take n).take 8 := by rw [List.take_take]; congr 1; omega
  rw [e1, List.take_append_drop, List.take_append_drop]
theorem pars_back : ∀ (k : Nat) (bs : List UInt8) (acc ms : List M), pars k bs acc = some ms → ∃ ns, ms = acc ++ ns ∧ ns.length = k ∧ (∀ n ∈ ns, n.ok = true) ∧ bs = bB ns
  | 0, bs, acc, ms, h => by
    unfold pars at h
    split at h
    · rename_i e; cases h; exact ⟨[], by simp, rfl, (fun n hn => by cases hn), e⟩
    · cases h
  | k + 1, bs, acc, ms, h => by
    cases hd : decB bs
    · rw [pars_no _ _ _ hd] at h; cases h
    · rw [pars_yes _ _ _ hd] at h
      obtain ⟨ns, h1, h2, h3, h4⟩ := pars_back k _ _ _ h
      obtain ⟨o1, o2⟩ := dec_bytes hd
      refine ⟨msgOf bs :: ns, by rw [h1]; simp, by simp [h2], fun n hn => ?_, ?_⟩
      · rcases List.mem_cons.1 hn with rfl | hn
        · exact o1
        · exact h3 n hn
      · rw [bB_cons, ← h4]; exact o2
theorem dec_enc {bs : List UInt8} {ms : List M} (h : decP bs = some ms) : pktB ms = true ∧ pB ms ms.length = bs := by
  unfold decP at h
  split at h
  · rename_i hh
    obtain ⟨h2, h0, k1, k6⟩ := head_true hh
    obtain ⟨ns, e1, e2, e3, e4⟩ := pars_back _ _ _ _ h
    rw [List.nil_append] at e1
    subst e1
    refine ⟨?_, ?_⟩
    · unfold pktB inB
      rw [Bool.and_eq_true, Bool.and_eq_true]
      exact ⟨⟨decide_eq_true (by omega), decide_eq_true (by omega)⟩, List.all_eq_true.2 e3⟩
    · rw [pB_all, ← e4, e2]
      match bs, h2 with
      | b0 :: b1 :: rest, _ =>
        have e0 : b0 = 0 := by
          have : (b0.toNat : Int) = 0 := h0
          have h' : b0.toNat = 0 := by omega
          exact UInt8.toNat_inj.1 (by rw [h']; rfl)
        subst e0
        show [0, UInt8.ofNat ((b1.toNat : Int)).toNat] ++ rest = _
        rw [u8_of]; rfl
  · cases h
end Fx
end Go.Proofs.Ytpknahhdapmcoaa
