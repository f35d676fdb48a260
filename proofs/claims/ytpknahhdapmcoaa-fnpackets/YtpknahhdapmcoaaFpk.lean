/-
  A drawn packet: a right one, in a row of its own.
-/
import Derived.Test.YtpknahhdapmcoaaFmg
import Derived.Test.YtpknahhdapmcoaaPars
import Derived.Test.YtpknahhdapmcoaaCnv
namespace Go.Proofs.Ytpknahhdapmcoaa
open Go.ChangeShapes Go.WideShapes Go.ChangeAt Go.RowKit
set_option linter.unusedVariables false
set_option linter.unusedSimpArgs false
attribute [local go_sem ↓] Go.wp_at_zero Go.wp_at_succ
namespace Fk
open W1 By Fs Fm Ml Pa
open Sr (Wrote_trans reads_lt)
open Dw (but_refl but_trans but_wrote but_below but_alloc but_set but_own)
theorem own_otherM {p : Nat} {w w' : World} {base : Nat} {v : Value} {n : Nat} {xs : List Value} (h : w.ownsRow base 58 6 v n xs) (hb : w.grownBy w' (some p)) (hp : p < base) : w'.ownsRow base 58 6 v n xs := by
  refine h.kept (row := some p) hb ?_
  cases hv : v.ownBlock with
  | none => exact .inl rfl
  | some k =>
    refine .inr (fun e => ?_)
    have := (h.lt k hv).1
    have := Option.some.inj e
    omega
theorem msgN_le (bs : List UInt8) (n : Nat) : msgN bs n ≤ n + 16 := by
  have := nx_lt bs (n + 6) (k := 9) (by omega)
  unfold msgN; omega
set_option maxRecDepth 100000 in
set_option maxHeartbeats 4000000 in
theorem drawPacket (p : Nat) (a : Option Addr) (bs : List UInt8) (cap n : Nat) (w : World) (hn : n ≤ 1099511400000) (hm : bs.length ≤ 1099511627776) (hs : Fr w p a bs cap n) :
    Calls Try.prog 32 #[.pointer (some ⟨p, 0, none⟩)] w fun e w' => ∃ (g : Nat) (ms : List M) (c : Nat), e = .returned (.slice (some ⟨g, 0, none⟩) ms.length c) ∧ pktB ms = true ∧ w'.ownsRow w.heap.size 58 6 (.slice (some ⟨g, 0, none⟩) ms.length c) ms.length (mcs ms) ∧ w.grownBy w' (some p) := by
  obtain ⟨i0, hi, hz0, hz1, hz2⟩ := infoM
  have HI := hide (And.intro hi (And.intro hz0 (And.intro hz1 hz2)))
  clear hi hz0 hz1 hz2
  have hp := src_lt hs
  have RL : Hid (bs ≠ [] → ∀ g off, a = some ⟨g, off, none⟩ → g < w.heap.size) := hide (fun e0 g off e => reads_lt hs.rd e0 e)
  have S0 := hide (src_below hs ((Below.refl _ _).alloc (Nat.le_refl _) (.cells #[] 58)))
  have G0 : Hid (w.grownBy (w.alloc (.cells #[] 58)) (some p)) := hide (but_alloc (but_refl _ _) _)
  have O0 : Hid ((w.alloc (.cells #[] 58)).ownsRow w.heap.size 58 6 (.slice (some ⟨w.heap.size, 0, none⟩) 0 0) ([] : List M).length (mcs [])) := hide (World.ownsRow_made w #[] 0 (Nat.le_refl _) (Nat.zero_le _) (by simp))
  clear hs
  go_enter Try.func32, Try.ntmps32
  go_wp2_with fail
  generalize hW : w.alloc (.cells #[] 58) = W0 at *
  clear hW
  refine (next p a bs cap n 4 _ (by omega) (by omega) (by omega) hm (unhide S0)).mono ?_
  rintro e w1 ⟨r, hre, rfl, hr, wr1, s1⟩
  have O1 := hide (own_otherM (unhide O0) (but_wrote wr1) hp)
  have G1 := hide (but_trans (unhide G0) (but_wrote wr1))
  have S1 := hide s1
  clear hre s1 wr1 S0 G0 O0
  go_wp2_with fail
  go_loopw [3, 4] (fun v i wr => ∃ (j : Nat) (acc : List M) (g c q : Nat), j ≤ 1 + r ∧ i = .int .i64 ((1 + r : Nat) - j : Nat) ∧ v = .slice (some ⟨g, 0, none⟩) acc.length c ∧ Hid (acc.length = j) ∧ Hid (∀ m ∈ acc, m.ok = true) ∧ q ≤ n + 1 + 16 * j ∧ Hid (wr.ownsRow w.heap.size 58 6 (.slice (some ⟨g, 0, none⟩) acc.length c) acc.length (mcs acc)) ∧ Hid (w.grownBy wr (some p)) ∧ Hid (Fr wr p a bs cap q)) (fun _ i _ => (intOf i).toNat)
  case atStart => exact ⟨0, [], w.heap.size, 0, n + 1, by omega, by go_num, rfl, hide rfl, hide (fun m hm => by cases hm), by omega, O1, G1, S1⟩
  case round =>
    obtain ⟨j, acc, g, c, q, hj, rfl, rfl, hal, hok, hq, how, hgr, hsr⟩ := hrel
    by_cases hlt : j < 1 + r
    · have h0 : (0 : Int) < ((1 + r - j : Nat) : Int) := by omega
      go_wp2_with fail
      refine (Fm.drawMessage p a bs cap q _ (by omega) hm (unhide hsr)).mono ?_
      rintro e w2 ⟨ty, og, sq, hl, hq', body, hre, rfl, hokm, g2, s2⟩
      have O2 := hide ((own_otherM (unhide how) g2 hp).alloc (.cells #[.int .i64 ty, .int .i64 og, .int .i64 sq, .int .i64 hl, .int .i64 hq', .string body] 58))
      have G2 := hide (but_alloc (but_trans (unhide hgr) g2) (.cells #[.int .i64 ty, .int .i64 og, .int .i64 sq, .int .i64 hl, .int .i64 hq', .string body] 58))
      have S2 := hide (src_below s2 ((Below.refl _ _).alloc (Nat.le_refl _) (.cells #[.int .i64 ty, .int .i64 og, .int .i64 sq, .int .i64 hl, .int .i64 hq', .string body] 58)))
      have C2 : Hid (∀ k, (w2.alloc (.cells #[.int .i64 ty, .int .i64 og, .int .i64 sq, .int .i64 hl, .int .i64 hq', .string body] 58)).cell? ⟨w2.heap.size, k, none⟩ = (#[.int .i64 ty, .int .i64 og, .int .i64 sq, .int .i64 hl, .int .i64 hq', .string body] : Array Value)[k]?) := hide (fun k => World.cell?_alloc_new _ _ _ _)
      have HM := hide hokm
      have hqn := msgN_le bs q
      have hs2 : w.heap.size ≤ w2.heap.size := Nat.le_trans (unhide hgr).size g2.size
      clear hre hokm g2 s2 how hgr hsr
      go_wp2_with (at_builtin; refine wpList_append_own _ rfl _ _ 23 rfl w.heap.size 58 i0 _ 6 56 Try.underlying23 (unhide HI).1 (unhide HI).2.1 (unhide HI).2.2.1 (unhide HI).2.2.2 rfl (by decide) _ acc.length (mcs acc) rfl (unhide O2) ⟨w2.heap.size, 0, none⟩ 1 1 (mc ⟨ty, og, sq, hl, hq', body⟩) rfl rfl (fun k u hk => by rw [Cn.plain_add, Nat.zero_add, unhide C2 k]; simpa [mc] using hk) (fun u hu => by simp [mc] at hu; rcases hu with rfl | rfl | rfl | rfl | rfl | rfl <;> rfl) (by have := unhide hal; unfold maxLen; omega) (by have := unhide hal; omega) (by simp; omega) ?_; intro v3 w3 o3 g3 _; (obtain ⟨gq, cq, rfl, _, _⟩ := o3.form (by simp)); have O3 : Hid (w3.ownsRow w.heap.size 58 6 (.slice (some ⟨gq, 0, none⟩) (acc.length + 1) cq) (acc ++ [(⟨ty, og, sq, hl, hq', body⟩ : M)]).length (mcs (acc ++ [(⟨ty, og, sq, hl, hq', body⟩ : M)]))) := hide (by rw [mcs_snoc, List.length_append]; exact o3); have G3 := hide (but_own (unhide G2) g3 (fun k hk => ((unhide O2).lt k hk).1)); have S3 := hide (src_grown (unhide S2) g3 (fun e => by have := ((unhide O2).lt p e.symm).1; omega) (fun e0 g off e e1 => by have := unhide RL e0 g off e; have := ((unhide O2).lt g e1.symm).1; omega)); clear o3 g3)
      have hl2 : (acc ++ [(⟨ty, og, sq, hl, hq', body⟩ : M)]).length = acc.length + 1 := by rw [List.length_append]; rfl
      have HOK2 : Hid (∀ m ∈ acc ++ [(⟨ty, og, sq, hl, hq', body⟩ : M)], m.ok = true) := hide (fun m hmm => by
        rcases List.mem_append.1 hmm with h | h
        · exact unhide hok m h
        · rw [List.mem_singleton] at h; rw [h]; exact unhide HM)
      generalize acc ++ [(⟨ty, og, sq, hl, hq', body⟩ : M)] = acc' at *
      rw [← hl2] at O3 ⊢
      go_roundw
      case rel => exact ⟨j + 1, acc', gq, cq, msgN bs q, by omega, by go_num, rfl, hide (by rw [hl2, unhide hal]), HOK2, by omega, O3, G3, S3⟩
      case measure => simp [intOf]; omega
    · have hj' : 1 + r - j = 0 := by omega
      rw [hj']
      go_wp2_with fail
      go_ret
      have hpk : pktB acc = true := by
        unfold pktB inB
        rw [unhide hal, decide_eq_true (by omega), decide_eq_true (by omega), List.all_eq_true.2 (fun m h => unhide hok m h)]; rfl
      exact ⟨g, acc, c, rfl, hpk, unhide how, unhide hgr⟩
set_option maxRecDepth 100000 in
set_option maxHeartbeats 1000000 in
theorem packetOf (a : Option Addr) (bs : List UInt8) (cap : Nat) (w : World) (hm : bs.length ≤ 1048576) (hr : Reads w a bs) :
    Calls Try.prog 7 #[.slice a bs.length cap] w fun e w' => ∃ (g : Nat) (ms : List M) (c : Nat), e = .returned (.slice (some ⟨g, 0, none⟩) ms.length c) ∧ pktB ms = true ∧ RM w' (some ⟨g, 0, none⟩) ms ∧ Below w.heap.size w w' := by
  have HR := hide hr
  clear hr
  go_enter Try.func7, Try.ntmps7
  go_wp2_with fail
  refine (Fs.source a bs cap _ hm (unhide HR)).mono ?_
  rintro e w1 ⟨p, rfl, hp, b1, s1⟩
  have B1 := hide b1
  have S1 := hide s1
  clear b1 s1
  go_wp2_with fail
  refine (drawPacket p a bs cap 0 w1 (by omega) (by omega) (unhide S1)).mono ?_
  rintro e w2 ⟨g, ms, c, rfl, hpk, how, g2⟩
  have HPK := hide hpk
  have HRM := hide (rm_of (upto_of_own how))
  have D2 : Hid (Below w.heap.size w w2) := hide ((unhide B1).grown g2 (unhide B1).size (fun k hk => by cases hk; omega))
  clear hpk how g2
  go_wp2_with fail
  go_ret
  exact ⟨g, ms, c, rfl, unhide HPK, unhide HRM, unhide D2⟩
end Fk
end Go.Proofs.Ytpknahhdapmcoaa
