/-
  What a packet's bytes read as, and the contract of the model's l01Parse.
-/
import Derived.Test.YtpknahhdapmcoaaDecI
import Derived.Test.YtpknahhdapmcoaaMsgs
import Derived.Deep.AppendLies
namespace Go.Proofs.Ytpknahhdapmcoaa
open Go.ChangeShapes Go.WideShapes Go.ChangeAt Go.RowKit
set_option linter.unusedVariables false
set_option maxRecDepth 100000
set_option linter.unusedSimpArgs false
namespace Pa
open W1 By De Ml
/-- The first message of the bytes; the messages, k more of them, behind those that were read. -/
def msgOf (bs : List UInt8) : M := ⟨fld bs 0, fld bs 3, two bs 4, fld bs 6, fld bs 7, bodyOf bs⟩
def pars : Nat → List UInt8 → List M → Option (List M)
  | 0, bs, acc => if bs = [] then some acc else none
  | k + 1, bs, acc => if decB bs = true then pars k (bs.drop (two bs 1).toNat) (acc ++ [msgOf bs]) else none
theorem pars_yes (k : Nat) (bs : List UInt8) (acc : List M) (h : decB bs = true) : pars (k + 1) bs acc = pars k (bs.drop (two bs 1).toNat) (acc ++ [msgOf bs]) := by
  conv => lhs; unfold pars
  rw [if_pos h]
theorem pars_no (k : Nat) (bs : List UInt8) (acc : List M) (h : decB bs = false) : pars (k + 1) bs acc = none := by
  unfold pars; rw [if_neg (by simp [h])]
theorem dec_len {bs : List UInt8} (h : decB bs = true) : 8 ≤ two bs 1 ∧ two bs 1 ≤ bs.length := by
  unfold decB at h; simp at h; exact ⟨h.2.1, h.2.2.1⟩
/-- Messages as cells. -/
def mc (m : M) : List Value := [.int .i64 m.ty, .int .i64 m.og, .int .i64 m.sq, .int .i64 m.hl, .int .i64 m.hp, .string m.body]
def mcs (ms : List M) : List Value := ms.flatMap mc
theorem mcs_len (ms : List M) : (mcs ms).length = ms.length * 6 := by
  induction ms with
  | nil => rfl
  | cons m r ih => simp [mcs, mc] at ih ⊢; omega
theorem mcs_snoc (ms : List M) (m : M) : mcs (ms ++ [m]) = mcs ms ++ mc m := by simp [mcs]
theorem mcs_at : ∀ (ms : List M) (i k : Nat), i < ms.length → k < 6 → (mcs ms)[i * 6 + k]? = (mc (ms.getD i M.zero))[k]?
  | [], i, k, h, _ => by simp at h
  | m :: r, 0, k, _, hk => by
    show (mc m ++ mcs r)[0 * 6 + k]? = (mc m)[k]?
    rw [List.getElem?_append_left (by simp [mc]; omega)]; simp
  | m :: r, i + 1, k, h, hk => by
    show (mc m ++ mcs r)[(i + 1) * 6 + k]? = _
    rw [List.getElem?_append_right (by simp [mc]; omega)]
    have : (i + 1) * 6 + k - (mc m).length = i * 6 + k := by simp [mc]; omega
    rw [this]
    exact mcs_at r i k (by simpa using h) hk
/-- A row that the call owns is a list of messages that may be written. -/
theorem upto_of_own {w : World} {base g cap : Nat} {ms : List M} (h : w.ownsRow base 58 6 (.slice (some ⟨g, 0, none⟩) ms.length cap) ms.length (mcs ms)) : Upto w g ms.length ms.length ms := by
  have c : ∀ i k, i < ms.length → k < 6 → w.cell? ⟨g, i * 6 + k, none⟩ = (mc (ms.getD i M.zero))[k]? := fun i k hi hk => by rw [h.cellAt (i * 6 + k) (by omega), mcs_at ms i k hi hk]
  refine ⟨fun i hi => ⟨c i 0 hi (by omega), c i 1 hi (by omega), c i 2 hi (by omega), c i 3 hi (by omega), c i 4 hi (by omega), c i 5 hi (by omega)⟩, fun i hi => ⟨?_, h.frozenAt i⟩⟩
  rw [h.cellAt i (by omega), List.getElem?_eq_getElem (by rw [mcs_len]; omega)]; rfl

theorem heap_new_at (w : World) (o : Obj) (n : Nat) (h : n = w.heap.size) : (w.alloc o).heap[n]? = some o := by subst h; exact heap_alloc_new w o
theorem nextV_yes {bs : List UInt8} (h : decB bs = true) : nextV bs = .tuple #[.agg #[.int .i64 (fld bs 0), .int .i64 (fld bs 3), .int .i64 (two bs 4), .int .i64 (fld bs 6), .int .i64 (fld bs 7), .string (bodyOf bs)], .int .i64 (two bs 1), .bool true] := by unfold nextV; rw [if_pos h]
theorem extract_tail (s : ByteArray) (n : Nat) : (s.extract n s.size).data.toList = s.data.toList.drop n := by
  rw [ByteArray.data_extract, Array.toList_extract]
  apply List.take_of_length_le
  rw [List.length_drop]
  have : s.data.toList.length = s.size := by simp
  omega
set_option maxRecDepth 100000 in
set_option maxHeartbeats 4000000 in
theorem parseLoop (s : ByteArray) (w : World) (hm : s.size ≤ 65536) (h2 : 2 ≤ s.size) (hz : fld s.data.toList 0 = 0) (hk1 : 1 ≤ fld s.data.toList 1) (hk6 : fld s.data.toList 1 ≤ 6) :
    Calls Try.prog 40 #[.string s] w fun e w' => Below w.heap.size w w' ∧ ((∃ ms g cap, pars (fld s.data.toList 1).toNat (s.data.toList.drop 2) [] = some ms ∧ e = .returned (.tuple #[.slice (some ⟨g, 0, none⟩) ms.length cap, .bool true]) ∧ w.heap.size ≤ g ∧ g < w'.heap.size ∧ Upto w' g ms.length ms.length ms) ∨
      (∃ a cap, pars (fld s.data.toList 1).toNat (s.data.toList.drop 2) [] = none ∧ e = .returned (.tuple #[.slice a 0 cap, .bool false]))) := by
  obtain ⟨i0, hi, hz0, hz1, hz2⟩ := infoM
  have z0 : (0 : Int) < s.size := by omega
  have z1 : (1 : Int) < s.size := by omega
  have z2 : (2 : Int) ≤ s.size := by omega
  have e0 := fld_at s 0 (by omega)
  have e1 := fld_at s 1 (by omega)
  rw [hz] at e0
  have hne : ¬ s = ByteArray.empty := by intro e; rw [e] at z0; simp at z0
  have wf1 := wrapF s.data.toList 1
  have hin : inB (fld s.data.toList 1) 1 6 = true := by unfold inB; simp; omega
  generalize hK : fld s.data.toList 1 = K at *
  have HK := hide hK
  clear hK hz
  go_enter Try.func40, Try.ntmps40
  go_wp2_with (go_at_call 44; refine (l01In _ _ _ _).mono ?_; rintro e w ⟨rfl, rfl⟩)
  have hex := hide (extract_tail s 2)
  go_loopw [0, 5, 6] (fun t v i wr => ∃ (j : Nat) (T : ByteArray) (acc : List M), (j : Int) ≤ K ∧ i = .int .i64 j ∧ t = .string T ∧ T.size ≤ 65536 ∧ Hid (pars K.toNat (s.data.toList.drop 2) [] = pars (K.toNat - j) T.data.toList acc) ∧ Hid (acc.length = j) ∧ Hid (wr.ownsRow w.heap.size 58 6 v acc.length (mcs acc)) ∧ Hid (∃ a c, v = .slice a acc.length c) ∧ Hid (Below w.heap.size w wr)) (fun _ _ i _ => (K - intOf i).toNat)
  case atStart =>
    refine ⟨0, s.extract 2 s.size, [], by omega, rfl, by simp, by simp [ByteArray.size_extract]; omega, hide ?_, hide rfl, hide ?_, hide ⟨_, _, rfl⟩, hide ((Below.refl _ _).alloc (Nat.le_refl _) _)⟩
    · rw [unhide hex]; rfl
    · exact World.ownsRow_lit _ #[] 0 (Nat.le_refl _) (by decide) rfl
  case round =>
    obtain ⟨j, T, acc, hj, rfl, rfl, hT, hpr, hal, how, hsl, hbl⟩ := hrel
    clear e0 e1 hne wf1 hin z0 z1 z2
    have hTl : T.data.toList.length = T.size := by simp
    have HTL := hide hTl
    clear hTl
    by_cases hlt : (j : Int) < K
    · go_wp2_with fail
      refine (l01Next T _ (by omega)).mono ?_
      rintro e w1 ⟨rfl, b1⟩
      have hb1 := hide ((unhide hbl).trans (b1.mono (unhide hbl).size))
      have ho1 : Hid (w1.ownsRow w.heap.size 58 6 _ acc.length (mcs acc)) := hide ((unhide how).kept (row := none) ⟨b1.os, b1.tape, b1.output, b1.size, fun k hk _ => b1.block k hk⟩ (by cases h : Value.ownBlock _; exact .inl rfl; exact .inr (by simp)))
      have hsz1 : w.heap.size ≤ w1.heap.size := (unhide hb1).size
      obtain ⟨f, hf⟩ : ∃ f, K.toNat - j = f + 1 := ⟨K.toNat - j - 1, by omega⟩
      have hf2 : K.toNat - (j + 1) = f := by omega
      cases hd : decB T.data.toList
      · rw [nextV_no hd]
        have hfin : Hid (pars K.toNat (s.data.toList.drop 2) [] = none) := hide ((unhide hpr).trans (by rw [hf]; exact pars_no f _ acc hd))
        clear hd b1
        go_wp2_with fail
        go_ret2
        exact ⟨(unhide hb1).alloc (unhide hb1).size _ |>.alloc (by simp; omega) _, .inr ⟨_, _, unhide hfin, rfl⟩⟩
      · rw [nextV_yes hd]
        obtain ⟨d8, dl⟩ := dec_len hd
        have dl' : two T.data.toList 1 ≤ (T.size : Int) := by rw [unhide HTL] at dl; exact dl
        have d0 : (0 : Int) ≤ two T.data.toList 1 := by omega
        have hstep : Hid (pars K.toNat (s.data.toList.drop 2) [] = pars f (T.data.toList.drop (two T.data.toList 1).toNat) (acc ++ [msgOf T.data.toList])) := hide ((unhide hpr).trans (by rw [hf]; exact pars_yes f _ acc hd))
        have hacc : acc.length ≤ 6 := by rw [unhide hal]; omega
        clear hd b1 dl
        go_wp2_with (first | (at_builtin; refine wpList_append_lies _ rfl _ _ 23 rfl w.heap.size 58 i0 _ 6 56 Try.underlying23 hi hz0 hz1 hz2 rfl (by decide) _ acc.length (mcs acc) rfl (((unhide ho1).alloc _).alloc _) ⟨w1.heap.size + 1, 0, none⟩ 1 1 [.int .i64 (fld T.data.toList 0), .int .i64 (fld T.data.toList 3), .int .i64 (two T.data.toList 4), .int .i64 (fld T.data.toList 6), .int .i64 (fld T.data.toList 7), .string (bodyOf T.data.toList)] rfl rfl (World.news_of_block (cs := #[.int .i64 (fld T.data.toList 0), .int .i64 (fld T.data.toList 3), .int .i64 (two T.data.toList 4), .int .i64 (fld T.data.toList 6), .int .i64 (fld T.data.toList 7), .string (bodyOf T.data.toList)]) (t := 58) (fr := (0, 0)) (heap_new_at _ _ _ (by simp))) (by simp [Value.oneCell']) (by omega) (by unfold maxLen; omega) (by omega) (by simp; omega) (w1.heap.size + 2) (by simp) ?_; intro g2 cap2 w2 own2 grow2 hat2 hlt2) | fail)
        have hb2 := hide ((((unhide hb1).alloc (unhide hb1).size _).alloc (by simp; omega) _).grown grow2 (by simp; omega) (fun k hk => ((unhide ho1).lt k hk).1))
        refine ⟨⟨j + 1, _, acc ++ [msgOf T.data.toList], by omega, by go_num, rfl, by simp [ByteArray.size_extract]; omega, hide ?_, hide (by rw [List.length_append, unhide hal]; rfl), hide ?_, hide ⟨_, _, by rw [List.length_append]; rfl⟩, hb2⟩, by simp [intOf]; omega⟩
        · rw [hf2, extract_tail]; exact unhide hstep
        · rw [mcs_snoc, List.length_append]; exact own2
    · obtain rfl : (j : Int) = K := by omega
      have hend : Hid (pars (j : Int).toNat (s.data.toList.drop 2) [] = pars 0 T.data.toList acc) := hide ((unhide hpr).trans (by rw [show (j : Int).toNat - j = 0 by omega]))
      obtain ⟨av, cv, rfl⟩ := unhide hsl
      by_cases hT0 : T.data.toList = []
      · have hTT : T = ⟨#[]⟩ := by apply ByteArray.ext; apply Array.ext'; exact hT0
        subst hTT
        have hfin : Hid (pars j (s.data.toList.drop 2) [] = some acc) := hide (by have h := unhide hend; rw [Int.toNat_natCast] at h; rw [h]; rfl)
        have hap : 0 < acc.length := by rw [unhide hal]; omega
        obtain ⟨g9, c9, e9, hg9, hl9⟩ := (unhide how).form hap
        cases e9
        have hup := hide (upto_of_own (unhide how))
        go_wp2_with fail
        go_ret2
        exact ⟨unhide hbl, .inl ⟨acc, unhide hfin, g9, ⟨_, rfl⟩, hg9, hl9, unhide hup⟩⟩
      · have hne : (T.toList == []) = false := by rw [ByteArray.toList_eq]; simpa using hT0
        have hfin : Hid (pars j (s.data.toList.drop 2) [] = none) := hide (by have h := unhide hend; rw [Int.toNat_natCast] at h; rw [h]; unfold pars; rw [if_neg hT0])
        go_wp2_with fail
        go_ret2
        exact ⟨(unhide hbl).alloc (unhide hbl).size _, .inr ⟨unhide hfin, _, _, rfl⟩⟩
end Pa
end Go.Proofs.Ytpknahhdapmcoaa
