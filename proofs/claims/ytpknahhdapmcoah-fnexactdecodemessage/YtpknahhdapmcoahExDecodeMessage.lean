/-
  Proved here: for every slice of bytes, laws.FnExactDecodeMessage returns true (the program's DecodeMessage answers as its model and leaves its argument alone) and leaves the slice as it was. No condition.
-/
import Derived.Test.YtpknahhdapmcoahDecM
namespace Go.Proofs.Ytpknahhdapmcoah.fnExactDecodeMessage
open Go.ChangeShapes Go.WideShapes Go.ChangeAt Go.RowKit
open W1 By De
set_option linter.unusedVariables false
theorem own : ownKnob Try.prog.godebug = none := by kernel_rfl
theorem laidOut : laidOutB Try.prog = true := by kernel_rfl

set_option maxHeartbeats 2000000 in
theorem walk (a : Option Addr) (bs : List UInt8) (cap : Nat) (w : World) (hm : bs.length ≤ maxLen) (hr : Reads w a bs) :
    Calls Try.prog 3 #[.slice a bs.length cap] w fun e w' => e = .returned (.bool true) ∧ Below w.heap.size w w' := by
  have HR := hide hr
  clear hr
  unfold maxLen at hm
  by_cases hbig : (1048576 : Int) < bs.length
  · go_enter Try.func3, Try.ntmps3
    go_wp2
    go_ret
    exact ⟨rfl, Below.refl _ _⟩
  have hml : bs.length ≤ 1048576 := by omega
  have hmx : bs.length ≤ maxLen := by unfold maxLen; omega
  obtain ⟨ty, og, sq, hl, hp, body, nn, cd, hdv⟩ := decV_form bs
  have HDV := hide hdv
  clear hdv
  go_enter Try.func3, Try.ntmps3
  go_wp2_with fail
  refine (toByteS a bs cap _ hml (unhide HR)).mono ?_
  rintro e w1 ⟨g1, rfl, b1, hg1, r1, _⟩
  have R1 := hide r1
  clear r1
  go_wp2_with fail
  refine (specDec g1 bs bs.length _ hml (Nat.le_refl _) hmx (unhide R1)).mono ?_
  rintro e w2 ⟨rfl, b2⟩
  rw [unhide HDV]
  have B2 := b1.trans (b2.mono b1.size)
  have B2a := B2.alloc B2.size (.cells #[.int .i64 ty, .int .i64 og, .int .i64 sq, .int .i64 hl, .int .i64 hp, .string body] 24)
  have R2 := hide (reads_below (unhide HR) B2a)
  clear R1
  go_wp2_with fail
  refine (toByteS a bs cap _ hml (unhide R2)).mono ?_
  rintro e w3 ⟨g3, rfl, b3, hg3, r3, _⟩
  have R3 := hide r3
  clear r3
  have B3 := B2a.trans (b3.mono B2a.size)
  go_wp2_with fail
  refine (implDec g3 bs bs.length _ hml (Nat.le_refl _) hmx (unhide R3)).mono ?_
  rintro e w4 ⟨rfl, b4⟩
  rw [unhide HDV]
  have B4 := B3.trans (b4.mono B3.size)
  have R4 := hide (reads_below (unhide R3) b4)
  have hz4 : w2.heap.size + 1 ≤ w4.heap.size := by have := b3.size; have := b4.size; simp at *; omega
  have hM : ∀ k, w4.cell? ⟨w2.heap.size, k, none⟩ = (#[.int .i64 ty, .int .i64 og, .int .i64 sq, .int .i64 hl, .int .i64 hp, .string body] : Array Value)[k]? := fun k => by
    rw [b4.cell (p := ⟨w2.heap.size, k, none⟩) (by have := b3.size; simp at this; show w2.heap.size < _; omega), b3.cell (p := ⟨w2.heap.size, k, none⟩) (by simp), World.cell?_alloc_new]
  have m0 := hM 0
  have m1 := hM 1
  have m2 := hM 2
  have m3 := hM 3
  have m4 := hM 4
  have m5 := hM 5
  clear hM
  simp at m0 m1 m2 m3 m4 m5
  have hne : ¬ w2.heap.size = w4.heap.size := by omega
  have dm : ∀ (o : Obj) (k : Nat), (w4.alloc o).cell? ⟨w2.heap.size, k, none⟩ = w4.cell? ⟨w2.heap.size, k, none⟩ := fun o k => World.cell?_alloc_lt _ _ _ (by show w2.heap.size < _; omega)
  clear R3
  go_wp2_with fail
  refine (eqMessage ty og sq hl hp body _).mono ?_
  rintro e w5 ⟨rfl, b5⟩
  have B5 := B4.trans ((((Below.refl _ _).alloc (Nat.le_refl _) _).trans (b5.mono (by simp))).mono B4.size)
  have R5 := hide (reads_below (reads_alloc (unhide R4) _) b5)
  have H5 := hide (reads_below (unhide HR) B5)
  clear m0 m1 m2 m3 m4 m5 dm R4 R2
  go_wp2_with fail
  refine (toByteS a bs cap _ hml (unhide H5)).mono ?_
  rintro e w6 ⟨g6, rfl, b6, hg6, r6, _⟩
  have R6 := hide (reads_below (unhide R5) b6)
  have S6 := hide r6
  clear r6 R5
  go_wp2_with fail
  refine (eqSame _ _ _ _ bs _ (unhide R6) (unhide S6) hmx).mono ?_
  rintro e w7 ⟨rfl, q7, rfl⟩
  have hfin : Below w.heap.size w (w6.drewN q7) := below_drewN (B5.trans (b6.mono B5.size)) q7
  have HF := hide hfin
  clear hfin
  go_wp2
  go_ret
  exact ⟨rfl, unhide HF⟩

/-- A slice of bytes that came in: what it reads as. -/
theorem open_bytes {H : Type} {enc : TypeId × Value → H} {W : World} {a : Option Addr} {len cap : Nat} {d : DataW H} {p : List MemPlace}
    (h : DataW.Trod enc Try.prog W 0 (fun _ => true) true 22 (.slice a len cap) d p) : ∃ bs : List UInt8, bs.length = len ∧ len ≤ maxLen ∧ Reads W a bs := by
  obtain ⟨fuel, hf⟩ := h
  rcases open_ints Try.underlying22 Try.underlying5 (by kernel_rfl) hf with ⟨hcs, _⟩ | ⟨x, l, c, zs, hcs, _, hl, hm, hz, _, hcell, hwz⟩
  · simp [Value.cells] at hcs
    obtain ⟨rfl, rfl, rfl⟩ := hcs
    exact ⟨[], rfl, Nat.zero_le _, .inl rfl⟩
  · simp [Value.cells] at hcs
    obtain ⟨rfl, rfl, rfl⟩ := hcs
    have hz' : zs.length = cap := by simpa using hz
    refine ⟨(zs.take len).map fun z => UInt8.ofNat z.toNat, by simp; omega, Nat.le_trans hl hm, ?_⟩
    by_cases h0 : len = 0
    · subst h0; exact .inl (by simp)
    obtain ⟨b, off, spot⟩ := x
    have hc0 := hcell 0 (by omega)
    have hspot : spot = none := by simpa [Addr.add] using World.cell?_spot hc0
    subst hspot
    refine .inr ⟨b, off, rfl, fun i hi => ?_⟩
    have hi' : i < len := by simp at hi; omega
    have hc := hcell i (by omega)
    have e1 : (⟨b, off, none⟩ : Addr).add i = ⟨b, off + i, none⟩ := by simp [Addr.add]
    rw [e1] at hc
    rw [hc]
    have hzi : i < zs.length := by omega
    have hw := hwz _ (List.getElem_mem hzi)
    have hb : 0 ≤ zs[i] ∧ zs[i] ≤ 255 := by simpa [Lit.wf, IntKind.min, IntKind.max, IntKind.signed, IntKind.bits] using hw
    have e2 : zs.getD i 0 = zs[i] := by rw [List.getD_eq_getElem?_getD, List.getElem?_eq_getElem hzi]; rfl
    have e3 : ((zs.take len).map fun z => UInt8.ofNat z.toNat).getD i 0 = UInt8.ofNat zs[i].toNat := by
      rw [List.getD_eq_getElem?_getD, List.getElem?_map, List.getElem?_take_of_lt hi', List.getElem?_eq_getElem hzi]; rfl
    rw [e2, e3]
    congr 2
    rw [UInt8.toNat_ofNat']
    omega

set_option maxRecDepth 100000 in
theorem lifted (os : Os) (started : os.Started) (H : Type) (enc : TypeId × Value → H) :
    ReturnsInHanded {} Try.checked os 3 .any (Rows.fnExactDecodeMessageSpec.pre6 enc Try.prog Try.f3 Rows.fnExactDecodeMessageRow.domain false) (Rows.fnExactDecodeMessageSpec.post enc Try.prog Try.f3 false true false false) := by
  refine returnsInHanded_of_change (C := Try.checked) own started (by kernel_rfl) Try.func3
    (ChangeSpec.witness6 (enc := enc) (C := Try.checked) false ⟨#[], #[.slice none 0 0], []⟩ 8 (by kernel_rfl) (by kernel_rfl) (by kernel_rfl) (by kernel_rfl)) ?_
  intro W base args ds gs before hval0 hW hcnd _
  have hval : ∀ (j : Nat) t v, Try.f3.params[j]? = some t → args[j]? = some v → Value.okWide Try.prog W .any base t v := hval0
  have hW' := hW
  obtain ⟨p, q, hA0, hV, rfl, hfz, hnd⟩ := hW
  have hA : DataW.TrodAll enc Try.prog W 0 (fun _ => true) true Try.f3.params.toList args.toList ds p := hA0
  rw [Try.params3] at hA hval
  obtain ⟨v0, vs0, d0, ds0, p0, q0, hargs, rfl, rfl, h0, r0⟩ := trodAll_cons hA
  obtain ⟨rfl, rfl, rfl⟩ := trodAll_nil r0
  obtain rfl : args = #[v0] := by cases args; simp_all
  obtain ⟨rfl, rfl⟩ := trodVars_none hV
  obtain ⟨a0, len0, cap0, rfl⟩ := okWide_slice Try.underlying22 (hval 0 22 v0 rfl rfl)
  have k0 := h0
  have lt0 : ∀ x ∈ p0, x.block < W.heap.size := by obtain ⟨m, hm⟩ := k0; exact DataW.trod_lt m _ _ _ hm
  obtain ⟨bs, hlen, hmx, hrd⟩ := open_bytes h0
  subst hlen
  clear hA0 hval0
  refine (walk a0 bs cap0 W hmx hrd).mono fun e W' ⟨he, bel⟩ => ?_
  subst he
  exact ⟨_, rfl, _, _, _, [], _, [], hW', trodAll_mk1 (shut_bool Try.underlying4 _), (trodAll_cons_mk (Below.trod laidOut (by kernel_rfl) (of_decide_eq_true (by kernel_rfl)) k0 bel lt0) trodAll_mk0), rfl, bel.frame _, fun h => by cases h⟩

theorem over : Rows.fnExactDecodeMessageRow.holds Try.pinned (OpenSpec.ofChange Rows.fnExactDecodeMessageSpec) :=
  OpenClaim.holds_of_wide 3 Try.f3 rfl rfl rfl rfl rfl rfl rfl ⟨rfl, rfl, rfl, rfl, rfl⟩ rfl rfl rfl rfl rfl (by kernel_rfl) Try.func3 (by kernel_rfl)
    (of_decide_eq_true (by kernel_rfl)) (by unfold Func.isWrapper; first | (rw [if_pos (by decide +kernel)]; kernel_rfl) | (rw [if_neg (by decide +kernel)]; exact ⟨rfl, rfl⟩))
    (fun os started H enc _ => lifted os started H enc)
end Go.Proofs.Ytpknahhdapmcoah.fnExactDecodeMessage
namespace Go.Proofs.Ytpknahhdapmcoah
/-- For every slice of bytes the program's DecodeMessage answers as its model. -/
theorem fnExactDecodeMessage_holds : Rows.FnExactDecodeMessageSaid := fnExactDecodeMessage.over
end Go.Proofs.Ytpknahhdapmcoah
