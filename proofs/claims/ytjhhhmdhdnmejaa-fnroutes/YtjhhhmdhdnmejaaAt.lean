/-
  The laws' choice out of n by bytes: it is a number of its range; it changes nothing. And a slice of bytes that came in: what it reads as.
-/
import Derived.Test.YtjhhhmdhdnmejaaBytes
namespace Go.Proofs.Ytjhhhmdhdnmejaa
open Go.ChangeShapes Go.WideShapes Go.ChangeAt Go.RowKit
set_option linter.unusedVariables false
namespace At
open W1 By
theorem wrapA {x : Int} (h0 : -9223372036854775808 ≤ x) (h1 : x ≤ 9223372036854775807) : IntKind.i64.wrap x = x := by
  have e := IntWalk.i64_left x
  rw [e]; unfold wrap64; omega
set_option maxHeartbeats 800000 in
theorem choice (a : Option Addr) (bs : List UInt8) (cap : Nat) (i n : Nat) (w : World) (hi : i ≤ 255) (hn0 : 2 ≤ n) (hn : n ≤ 1000000) (hm : bs.length ≤ 1048576) (hr : Reads w a bs) :
    Calls Try.prog 8 #[.slice a bs.length cap, .int .i64 i, .int .i64 n] w fun e w' => ∃ r : Nat, e = .returned (.int .i64 r) ∧ r < n ∧ ∃ q, w' = w.drewN q := by
  rcases hr with e0 | ⟨g, off, rfl, hc⟩
  · subst e0
    go_enter Try.func8, Try.ntmps8
    go_wp2
    go_ret
    refine ⟨i * 7 % n, ret_int (by simp), Nat.mod_lt _ (by omega), 0, rfl⟩
  · by_cases hz : bs.length = 0
    · go_enter Try.func8, Try.ntmps8
      go_wp2
      go_ret
      refine ⟨i * 7 % n, ret_int (by simp), Nat.mod_lt _ (by omega), 0, rfl⟩
    · have hx := hc (i % bs.length) (Nat.mod_lt _ (by omega))
      have hy := hc ((i + 1) % bs.length) (Nat.mod_lt _ (by omega))
      have vx := (bs.getD (i % bs.length) 0).toNat_lt
      have vy := (bs.getD ((i + 1) % bs.length) 0).toNat_lt
      generalize (bs.getD (i % bs.length) 0).toNat = x at *
      generalize (bs.getD ((i + 1) % bs.length) 0).toNat = y at *
      clear hc
      generalize bs.length = len at *
      have hj1 : i % len < len := Nat.mod_lt _ (by omega)
      have hk1 : (i + 1) % len < len := Nat.mod_lt _ (by omega)
      have hd : i / len ≤ i := Nat.div_le_self _ _
      have tj : (i : Int).tmod (len : Int) = ((i % len : Nat) : Int) := by rw [Int.tmod_eq_emod_of_nonneg (by omega)]; simp
      have tk : ((i : Int) + 1).tmod (len : Int) = (((i + 1) % len : Nat) : Int) := by rw [Int.tmod_eq_emod_of_nonneg (by omega)]; simp
      have td : (i : Int).tdiv (len : Int) = ((i / len : Nat) : Int) := by rw [Int.tdiv_eq_ediv_of_nonneg (by omega)]; simp
      generalize i % len = j at *
      generalize (i + 1) % len = k at *
      generalize i / len = d at *
      have hz' : ¬ (len : Int) = 0 := by omega
      have j0 : (0 : Int) ≤ (j : Int) := by omega
      have k0 : (0 : Int) ≤ (k : Int) := by omega
      have j1 : (j : Int) < (len : Int) := by omega
      have k1 : (k : Int) < (len : Int) := by omega
      have hwi : IntKind.i64.wrap ((i : Int) + 1) = (i : Int) + 1 := wrapA (by omega) (by omega)
      have hwx : IntKind.i64.wrap (x : Int) = (x : Int) := wrapA (by omega) (by omega)
      have hwy : IntKind.i64.wrap (y : Int) = (y : Int) := wrapA (by omega) (by omega)
      have hwj : IntKind.i64.wrap (j : Int) = (j : Int) := wrapA (by omega) (by omega)
      have hwk : IntKind.i64.wrap (k : Int) = (k : Int) := wrapA (by omega) (by omega)
      have hwd : IntKind.i64.wrap (d : Int) = (d : Int) := wrapA (by omega) (by omega)
      have hw1 : IntKind.i64.wrap ((x : Int) * 31) = (x : Int) * 31 := wrapA (by omega) (by omega)
      have hw2 : IntKind.i64.wrap ((x : Int) * 31 + y) = (x : Int) * 31 + y := wrapA (by omega) (by omega)
      have hw3 : IntKind.i64.wrap ((x : Int) * 31 + y + d) = (x : Int) * 31 + y + d := wrapA (by omega) (by omega)
      go_enter Try.func8, Try.ntmps8
      go_wp2
      go_quiet (fail)
      go_wp2
      go_ret
      exact ⟨(x * 31 + y + d) % n, ret_int (by simp), Nat.mod_lt _ (by omega), _, rfl⟩
end At
namespace Op
open W1 By
/-- A slice of bytes that came in: what it reads as. -/
theorem open_bytes {H : Type} {enc : TypeId × Value → H} {W : World} {a : Option Addr} {len cap : Nat} {d : DataW H} {p : List MemPlace}
    (h : DataW.Trod enc Try.prog W 0 (fun _ => true) true 22 (.slice a len cap) d p) : ∃ bs : List UInt8, bs.length = len ∧ len ≤ maxLen ∧ Reads W a bs := by
  obtain ⟨fuel, hf⟩ := h
  rcases open_ints Try.underlying22 Try.underlying5 (by kernel_rfl) hf with ⟨hcs, _⟩ | ⟨x, l, c, zs, hcs, _, hl, hm, hz, _, hcell, hwz⟩
  · simp [Value.cells] at hcs
    obtain ⟨rfl, rfl, rfl⟩ := hcs
    exact ⟨[], rfl, Nat.zero_le _, .inl rfl⟩
  · simp [Value.cells] at hcs
    obtain ⟨rfl, rfl, rfl⟩ := hcs
    have hz' : zs.length = cap := by simpa using hz
    refine ⟨(zs.take len).map fun z => UInt8.ofNat z.toNat, by simp; omega, Nat.le_trans hl hm, ?_⟩
    by_cases h0 : len = 0
    · subst h0; exact .inl (by simp)
    obtain ⟨b, off, spot⟩ := x
    have hc0 := hcell 0 (by omega)
    have hspot : spot = none := by simpa [Addr.add] using World.cell?_spot hc0
    subst hspot
    refine .inr ⟨b, off, rfl, fun i hi => ?_⟩
    have hi' : i < len := by simp at hi; omega
    have hc := hcell i (by omega)
    have e1 : (⟨b, off, none⟩ : Addr).add i = ⟨b, off + i, none⟩ := by simp [Addr.add]
    rw [e1] at hc
    rw [hc]
    have hzi : i < zs.length := by omega
    have hw := hwz _ (List.getElem_mem hzi)
    have hb : 0 ≤ zs[i] ∧ zs[i] ≤ 255 := by simpa [Lit.wf, IntKind.min, IntKind.max, IntKind.signed, IntKind.bits] using hw
    have e2 : zs.getD i 0 = zs[i] := by rw [List.getD_eq_getElem?_getD, List.getElem?_eq_getElem hzi]; rfl
    have e3 : ((zs.take len).map fun z => UInt8.ofNat z.toNat).getD i 0 = UInt8.ofNat zs[i].toNat := by
      rw [List.getD_eq_getElem?_getD, List.getElem?_map, List.getElem?_take_of_lt hi', List.getElem?_eq_getElem hzi]; rfl
    rw [e2, e3]
    congr 2
    rw [UInt8.toNat_ofNat']
    omega
end Op
end Go.Proofs.Ytjhhhmdhdnmejaa
