/-
  An act that came in: its size, its copy, whether two are alike.
-/
import Derived.Test.YtpmlpojefelbbaaDoorActM
import Derived.Deep.MidRow
namespace Go.Proofs.YtpmlpojefelbbaaDoor
open Go.ChangeShapes Go.WideShapes Go.ChangeAt Go.RowKit
set_option linter.unusedVariables false
set_option linter.unusedSimpArgs false
set_option maxRecDepth 100000
attribute [local go_sem ↓] Go.wp_at_zero Go.wp_at_succ
attribute [local go_sem] Go.strOfNums_size ByteArray.size_append
namespace Ac
open W1

theorem szI (a : Option Addr) (n cap : Nat) (L : Int) (w : World) (hL : 0 ≤ L) (hL1 : L ≤ 1048576) (hm : n ≤ maxLen) :
    Calls Tryd.prog 14 #[.slice a n cap, .int .i64 L] w fun e w' => ∃ r : Int, e = .returned (.int .i64 r) ∧ w' = w ∧ (r < 0 ∨ (0 ≤ r ∧ r = L - n)) := by
  unfold maxLen at hm
  by_cases h0 : L - n < 0
  all_goals
    go_enter Tryd.func14, Tryd.ntmps14
    go_wp2
    go_ret
  · exact ⟨_, rfl, rfl, .inl (by omega)⟩
  · exact ⟨_, rfl, rfl, .inr ⟨by omega, rfl⟩⟩
set_option maxHeartbeats 2000000 in
theorem szA (k a b n : Int) (l : Option Addr) (zs : List Int) (c : Nat) (by_ : ByteArray) (w : World) (hm : zs.length ≤ maxLen) (hs : by_.size ≤ maxLen) :
    Calls Tryd.prog 5 #[.agg #[.int .i64 k, .int .i64 a, .int .i64 b, .int .i64 n, .slice l zs.length c, .string by_], .int .i64 1048576] w fun e w' => ∃ r : Int, e = .returned (.int .i64 r) ∧ Below w.heap.size w w' ∧ (r < 0 ∨ (0 ≤ r ∧ r = 1048576 - zs.length - by_.size)) := by
  have HB0 := hide (bel_new6 w (.cells #[.int .i64 k, .int .i64 a, .int .i64 b, .int .i64 n, .slice l zs.length c, .string by_] 24))
  have HX := hide (bx6_new w k a b n (.slice l zs.length c) by_ 24)
  have KZ := hide (fun W => szI l zs.length c 1048576 W (by omega) (by omega) hm)
  unfold maxLen at hm hs
  go_enter Tryd.func5, Tryd.ntmps5
  obtain ⟨p0, p1, p2, p3, p4, p5⟩ := unhide HX
  go_wp2_with fail
  refine (unhide KZ _).mono ?_
  rintro e w1 ⟨r, rfl, rfl, hr⟩
  rcases hr with hr | ⟨hr, hr1⟩
  · go_wp2_with fail
    go_ret
    exact ⟨_, rfl, unhide HB0, .inl (by omega)⟩
  · have hnn : ¬ r < 0 := by omega
    by_cases h2 : r - by_.size < 0
    · have HR1 := hide hr1
      have hw : IntKind.i64.wrap (r - (by_.size : Int)) = r - (by_.size : Int) := by rw [IntKind.wrap_i64]; omega
      clear hr1
      go_wp2_with fail
      go_ret
      exact ⟨_, rfl, unhide HB0, .inl (by omega)⟩
    · have HR1 := hide hr1
      have hw : IntKind.i64.wrap (r - (by_.size : Int)) = r - (by_.size : Int) := by rw [IntKind.wrap_i64]; omega
      clear hr1
      go_wp2_with fail
      go_ret
      exact ⟨_, rfl, unhide HB0, .inr ⟨by omega, by have := unhide HR1; omega⟩⟩
theorem upto_set {w : World} {g n j : Nat} {ms : List Int} {p : Addr} {v : Value} (h : In.Upto w g n j ms) (hne : p.block ≠ g) : In.Upto (w.setCell p v) g n j ms :=
  h.of_block (Below.heap_setCell _ _ _ _ (fun e => hne e.symm))
theorem infoA : Tryd.prog.underlying 28 = some (Tryd.prog.underlying 28).get! ∧ ((Tryd.prog.underlying 28).get!).isRow = true ∧ (Tryd.prog.info? 28).map (·.size) = some 6 := ⟨by kernel_rfl, by kernel_rfl, by kernel_rfl⟩
theorem bx_range {w : World} {g : Nat} {k a b n : Int} {v : Value} {s : ByteArray} (h : Bx6 w g k a b n v s) : w.rangeAt g 0 [.int .i64 k, .int .i64 a, .int .i64 b, .int .i64 n, v, .string s] := fun j u hu => by
  obtain ⟨h0, h1, h2, h3, h4, h5⟩ := h
  match j, hu with
  | 0, hu => cases hu; exact h0
  | 1, hu => cases hu; exact h1
  | 2, hu => cases hu; exact h2
  | 3, hu => cases hu; exact h3
  | 4, hu => cases hu; exact h4
  | 5, hu => cases hu; exact h5
  | j + 6, hu => simp at hu
theorem range_bx {w : World} {g : Nat} {k a b n : Int} {v : Value} {s : ByteArray} (h : w.rangeAt g 0 [.int .i64 k, .int .i64 a, .int .i64 b, .int .i64 n, v, .string s]) : Bx6 w g k a b n v s :=
  ⟨h 0 _ rfl, h 1 _ rfl, h 2 _ rfl, h 3 _ rfl, h 4 _ rfl, h 5 _ rfl⟩
theorem there6 (w : World) (a b c d e f : Value) (t : Nat) : (w.alloc (.cells #[a, b, c, d, e, f] t)).there w.heap.size 0 6 := fun k hk => by
  refine ⟨?_, by simp⟩
  rw [World.cell?_alloc_new, Nat.zero_add]
  rw [Array.getElem?_eq_getElem (by simpa using hk)]; rfl
theorem there_sc {w : World} {b n : Nat} {p : Addr} {v : Value} (h : w.there b 0 n) : (w.setCell p v).there b 0 n := fun k hk => by
  obtain ⟨u, hu⟩ := Option.isSome_iff_exists.1 (h k hk).1
  obtain ⟨v', hv⟩ := cell?_setCell_some (p := p) (x := v) hu
  exact ⟨by rw [hv]; rfl, by rw [World.frozen?_setCell]; exact (h k hk).2⟩
theorem there_bel {w w' : World} {B b n : Nat} (h : w.there b 0 n) (hb : Below B w w') (hl : b < B) : w'.there b 0 n := fun k hk => ⟨by rw [hb.cell (p := ⟨b, 0 + k, none⟩) hl]; exact (h k hk).1, by rw [hb.frozen (p := ⟨b, 0 + k, none⟩) hl]; exact (h k hk).2⟩
theorem bel_sc {B : Nat} {w0 : World} {b : Nat} (hb : B ≤ b) : ∀ (vs : List Value) (o : Nat) (w : World), Below B w0 w → Below B w0 (w.setCells b o vs)
  | [], _, w, h => h
  | v :: r, o, w, h => bel_sc hb r (o + 1) _ (h.setCell (p := ⟨b, o, none⟩) hb v)
theorem heap_sc {b k : Nat} (hk : k ≠ b) : ∀ (vs : List Value) (o : Nat) (w : World), (w.setCells b o vs).heap[k]? = w.heap[k]?
  | [], _, w => rfl
  | v :: r, o, w => (heap_sc hk r (o + 1) _).trans (Below.heap_setCell _ _ _ _ hk)
theorem storeA {ops : Array Oper} {rest : List Oper} {op : Oper} {x0 : Act} {w : World} {Q : Exit → Act → World → Prop} (x y : Operand) (hgd : op.guard = none) (ho : op.op = .store 28 x y) {g : Nat} {k a b n : Int} {v : Value} {s : ByteArray} (h1 : v.oneCell' = true) (ht : w.there g 0 6) (hx : x0.eval x = .pointer (some ⟨g, 0, none⟩)) (hy : x0.eval y = .agg #[.int .i64 k, .int .i64 a, .int .i64 b, .int .i64 n, v, .string s])
    (hk : ∀ w', Bx6 w' g k a b n v s → (∀ B w0, Below B w0 w → B ≤ g → Below B w0 w') → (∀ k, k ≠ g → w'.heap[k]? = w.heap[k]?) → wpList Tryd.prog ops Q rest (x0.put op.dst undef) w') : wpList Tryd.prog ops Q (op :: rest) x0 w :=
  wpList_store_mid hgd 28 x y ho g 0 #[.int .i64 k, .int .i64 a, .int .i64 b, .int .i64 n, v, .string s] hx hy ht infoA.2.2 (all_oneCell_toArray (cs := [.int .i64 k, .int .i64 a, .int .i64 b, .int .i64 n, v, .string s]) (by intro u hu; simp only [List.mem_cons, List.not_mem_nil, or_false] at hu; rcases hu with rfl | rfl | rfl | rfl | rfl | rfl <;> first | rfl | assumption)) (hk _ (range_bx (World.rangeAt_setCells_same w g 0 _ ht)) (fun B w0 h hb => bel_sc hb _ _ _ h) (fun k hk => heap_sc hk _ _ _))
theorem resultsA {fn : Func} {p : Tmp} (h : fn.results = #[.cell p 28]) (tmps : Array Value) (w : World) {g : Nat} {k a b n : Int} {v : Value} {s : ByteArray} (hp : tmps.getD p undef = .pointer (some ⟨g, 0, none⟩)) (hg : Bx6 w g k a b n v s) : (results fn tmps).run Tryd.prog w = .ok (.agg #[.int .i64 k, .int .i64 a, .int .i64 b, .int .i64 n, v, .string s]) w := by
  have hp' : tmps[p]?.getD undef = .pointer (some ⟨g, 0, none⟩) := by simpa using hp
  simp only [results, h]
  simp [Sem.run_bind, hp', asAddr, run_loadVar_mid w g 0 28 [.int .i64 k, .int .i64 a, .int .i64 b, .int .i64 n, v, .string s] _ (bx_range hg) infoA.1 infoA.2.1 infoA.2.2, Result.andThen]
set_option maxHeartbeats 4000000 in
theorem toA (k a b n : Int) (l : Option Addr) (zs : List Int) (c : Nat) (by_ : ByteArray) (w : World) (hm : zs.length ≤ 1048576) (hr : In.RM w l zs) :
    Calls Tryd.prog 7 #[.agg #[.int .i64 k, .int .i64 a, .int .i64 b, .int .i64 n, .slice l zs.length c, .string by_]] w fun e w' => ∃ g, e = .returned (.agg #[.int .i64 k, .int .i64 a, .int .i64 b, .int .i64 n, .slice (some ⟨g, 0, none⟩) zs.length zs.length, .string by_]) ∧ Below w.heap.size w w' ∧ In.RM w' (some ⟨g, 0, none⟩) zs := by
  have HR := hide hr
  have z1 : (w.alloc (.cells #[.int .i64 k, .int .i64 a, .int .i64 b, .int .i64 n, .slice l zs.length c, .string by_] 24)).heap.size = w.heap.size + 1 := by simp
  have T0 : ((w.alloc (.cells #[.int .i64 k, .int .i64 a, .int .i64 b, .int .i64 n, .slice l zs.length c, .string by_] 24)).alloc (.cells #[.int .i64 0, .int .i64 0, .int .i64 0, .int .i64 0, .slice none 0 0, .string ByteArray.empty] 28)).there (w.heap.size + 1) 0 6 := by have h := there6 (w.alloc (.cells #[.int .i64 k, .int .i64 a, .int .i64 b, .int .i64 n, .slice l zs.length c, .string by_] 24)) (.int .i64 0) (.int .i64 0) (.int .i64 0) (.int .i64 0) (.slice none 0 0) (.string ByteArray.empty) 28; rw [z1] at h; exact h
  have HT0 := hide T0
  clear hr T0
  go_enter Tryd.func7, Tryd.ntmps7
  go_wp2_with fail
  refine (In.toS l zs c _ hm ((unhide HR).below (by repeat (first | exact Below.refl _ _ | refine Below.setCell ?_ (by simp <;> omega) _ | refine Below.alloc ?_ (by simp <;> omega) _)))).mono ?_
  rintro e w1 ⟨g, rfl, b1, hg, hz, u1⟩
  have U1 := hide u1
  clear u1
  obtain ⟨hc, hf⟩ := bcell b1
  have hz1 := b1.size
  simp at hz1 hg
  have HT1 : Hid (w1.there (w.heap.size + 1) 0 6) := hide (there_bel (by repeat (first | exact unhide HT0 | refine there_sc ?_ | refine there_bel ?_ (bel_new6 _ _) (by simp))) b1 (by simp))
  have B1 : Hid (Below w.heap.size w w1) := hide ((by repeat (first | exact Below.refl _ _ | refine Below.setCell ?_ (by simp <;> omega) _ | refine Below.alloc ?_ (by simp <;> omega) _) : Below w.heap.size w _).trans (b1.mono (by simp <;> omega)))
  clear b1 HT0
  go_wp2_with (refine storeA _ _ rfl rfl rfl (there_sc (there_sc (unhide HT1))) rfl rfl ?_; intro w9 n9 bb9 k9; clear hc hf)
  refine bodyPost_ret (v := .agg #[.int .i64 k, .int .i64 a, .int .i64 b, .int .i64 n, .slice (some ⟨g, 0, none⟩) zs.length zs.length, .string by_]) (resultsA rfl _ _ rfl n9) rfl ⟨g, rfl, bb9 _ _ ?_ (by omega), In.rm_of (n := zs.length) ?_⟩
  · exact ((unhide B1).setCell (p := ⟨w.heap.size + 1 + 1, 4, none⟩) (by show w.heap.size ≤ w.heap.size + 1 + 1; omega) _).setCell (p := ⟨w.heap.size + 1 + 1, 5, none⟩) (by show w.heap.size ≤ w.heap.size + 1 + 1; omega) _
  · exact (upto_set (upto_set (unhide U1) (by show w.heap.size + 1 + 1 ≠ g; omega)) (by show w.heap.size + 1 + 1 ≠ g; omega)).of_block (k9 g (by omega))
set_option maxHeartbeats 4000000 in
theorem eqA (k a b n : Int) (l l2 : Option Addr) (zs : List Int) (c c2 : Nat) (by_ : ByteArray) (w : World) (hm : zs.length ≤ 1048576) (hr : In.RM w l zs) (hr2 : In.RM w l2 zs) :
    Calls Tryd.prog 9 #[.agg #[.int .i64 k, .int .i64 a, .int .i64 b, .int .i64 n, .slice l zs.length c, .string by_], .agg #[.int .i64 k, .int .i64 a, .int .i64 b, .int .i64 n, .slice l2 zs.length c2, .string by_]] w fun e w' => e = .returned (.bool true) ∧ Below w.heap.size w w' := by
  have b0 := bel_new6 w (.cells #[.int .i64 k, .int .i64 a, .int .i64 b, .int .i64 n, .slice l zs.length c, .string by_] 28)
  have z1 : (w.alloc (.cells #[.int .i64 k, .int .i64 a, .int .i64 b, .int .i64 n, .slice l zs.length c, .string by_] 28)).heap.size = w.heap.size + 1 := by simp
  have b1 := bel_new6 (w.alloc (.cells #[.int .i64 k, .int .i64 a, .int .i64 b, .int .i64 n, .slice l zs.length c, .string by_] 28)) (.cells #[.int .i64 k, .int .i64 a, .int .i64 b, .int .i64 n, .slice l2 zs.length c2, .string by_] 28)
  have HB := hide (b0.trans (b1.mono (by omega)))
  have X1 := hide ((bx6_new w k a b n (.slice l zs.length c) by_ 28).below b1)
  have X2 := hide (bx6_new (w.alloc (.cells #[.int .i64 k, .int .i64 a, .int .i64 b, .int .i64 n, .slice l zs.length c, .string by_] 28)) k a b n (.slice l2 zs.length c2) by_ 28)
  rw [z1] at X2
  have R1 := hide (hr.below (unhide HB))
  have R2 := hide (hr2.below (unhide HB))
  clear b0 b1 hr hr2 z1
  have ka : (k != k) = false := by simp
  go_enter Tryd.func9, Tryd.ntmps9
  obtain ⟨p0, p1, p2, p3, p4, p5⟩ := unhide X1
  obtain ⟨q0, q1, q2, q3, q4, q5⟩ := unhide X2
  go_wp2_with fail
  refine (In.eqS _ _ zs _ _ _ hm (unhide R1) (unhide R2)).mono ?_
  rintro e w1 ⟨rfl, b1⟩
  have HB1 := hide ((unhide HB).trans (b1.mono (unhide HB).size))
  have Y1 := hide ((unhide X1).below b1)
  have Y2 := hide ((unhide X2).below b1)
  clear b1 X1 X2 R1 R2 HB p0 p1 p2 p3 p4 p5 q0 q1 q2 q3 q4 q5
  obtain ⟨p0, p1, p2, p3, p4, p5⟩ := unhide Y1
  obtain ⟨q0, q1, q2, q3, q4, q5⟩ := unhide Y2
  go_wp2_with fail
  go_ret
  exact ⟨rfl, unhide HB1⟩
theorem cellsAct : Tryd.prog.cellsOf 24 = 6 := by kernel_rfl
theorem cellsIn : Tryd.prog.cellsOf 22 = 1 := by kernel_rfl
theorem cellsI_ : Tryd.prog.cellsOf 3 = 1 := by kernel_rfl
theorem cellsS_ : Tryd.prog.cellsOf 9 = 1 := by kernel_rfl
theorem list6_ {α : Type} {l : List α} (h : l.length = 6) : ∃ c0 c1 c2 c3 c4 c5, l = [c0, c1, c2, c3, c4, c5] := by
  match l, h with
  | [c0, c1, c2, c3, c4, c5], _ => exact ⟨c0, c1, c2, c3, c4, c5, rfl⟩
/-- A list of numbers within a struct that came in. -/
theorem open_ints_cell {H : Type} {enc : TypeId × Value → H} {W : World} {v : Value} {fuel : Nat} {y : DataW H × List MemPlace}
    (hf : DataW.trod enc Tryd.prog W 0 (fun _ => true) true fuel 22 [v] = some y) : ∃ a len cap, ∃ zs : List Int, v = .slice a len cap ∧ zs.length = len ∧ len ≤ maxLen ∧ In.RM W a zs := by
  obtain ⟨a, len, cap, hv⟩ : ∃ a len cap, v = .slice a len cap := by
    rcases open_ints Tryd.underlying22 Tryd.underlying3 (by kernel_rfl) hf with ⟨hcs, _⟩ | ⟨x, l, c, zs, hcs, _⟩
    · simp at hcs; exact ⟨_, _, _, hcs⟩
    · simp at hcs; exact ⟨_, _, _, hcs⟩
  subst hv
  obtain ⟨zs, h1, h2, h3⟩ := In.open_list (a := a) (len := len) (cap := cap) (d := y.1) (p := y.2) ⟨fuel, hf⟩
  exact ⟨a, len, cap, zs, rfl, h1, h2, h3⟩
theorem wf64 {n : Int} (h : (Lit.int .i64 n).wf = true) : i64B n := by
  have h2 : IntKind.i64.min ≤ n ∧ n ≤ 9223372036854775807 := by simpa [Lit.wf] using h
  exact ⟨h2.1, h2.2⟩
/-- An act that came in by value. -/
theorem open_act {H : Type} {enc : TypeId × Value → H} {W : World} {r : Reach} {b0 : Nat} {v : Value} {d : DataW H} {p : List MemPlace}
    (hv : Value.okWide Tryd.prog W r b0 24 v) (h : DataW.Trod enc Tryd.prog W 0 (fun _ => true) true 24 v d p) :
    ∃ (k a b n : Int) (l : Option Addr) (len c : Nat) (by_ : ByteArray) (zs : List Int), v = .agg #[.int .i64 k, .int .i64 a, .int .i64 b, .int .i64 n, .slice l len c, .string by_] ∧ zs.length = len ∧ i64B a ∧ i64B b ∧ i64B n ∧ len ≤ maxLen ∧ by_.size ≤ maxLen ∧ In.RM W l zs := by
  obtain ⟨cs, rfl, hsz⟩ := okWide_struct Tryd.underlying24 hv
  obtain ⟨l⟩ := cs
  obtain ⟨c0, c1, c2, c3, c4, c5, rfl⟩ := list6_ (hsz.trans cellsAct)
  obtain ⟨fuel, hf⟩ := h
  obtain ⟨xs, n, _, _, _, hlen, hf⟩ := DataW.trod_struct Tryd.underlying24 hf
  obtain ⟨x0, x1, x2, x3, x4, x5, rfl⟩ := list6_ hlen
  have k0 := hf 0 _ rfl
  have k1 := hf 1 _ rfl
  have k2 := hf 2 _ rfl
  have k3 := hf 3 _ rfl
  have k4 := hf 4 _ rfl
  have k5 := hf 5 _ rfl
  clear hf hsz hv hlen
  simp [Value.cells, cellsIn, cellsI_, cellsS_] at k0 k1 k2 k3 k4 k5
  obtain ⟨a0, e0, _, w0⟩ := DataW.trod_int Tryd.underlying3 k0
  obtain ⟨a1, e1, _, w1⟩ := DataW.trod_int Tryd.underlying3 k1
  obtain ⟨a2, e2, _, w2⟩ := DataW.trod_int Tryd.underlying3 k2
  obtain ⟨a3, e3, _, w3⟩ := DataW.trod_int Tryd.underlying3 k3
  obtain ⟨a5, e5, _, w5⟩ := DataW.trod_string Tryd.underlying9 k5
  simp at e0 e1 e2 e3 e5
  subst e0 e1 e2 e3 e5
  obtain ⟨g, len, cap, zs, rfl, h1, h2, h3⟩ := open_ints_cell k4
  exact ⟨a0, a1, a2, a3, g, len, cap, a5, zs, rfl, h1, wf64 w1, wf64 w2, wf64 w3, h2, w5, h3⟩

end Ac
end Go.Proofs.YtpmlpojefelbbaaDoor
