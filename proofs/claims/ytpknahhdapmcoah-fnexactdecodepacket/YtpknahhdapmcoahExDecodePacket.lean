/-
  Proved here: for every slice of bytes, laws.FnExactDecodePacket returns true (the program's DecodePacket answers as its model, leaves its argument alone, and answers in memory of its own) and leaves the slice as it was. No condition.
-/
import Derived.Test.YtpknahhdapmcoahDecP
import Derived.Test.YtpknahhdapmcoahHeld
namespace Go.Proofs.Ytpknahhdapmcoah.fnExactDecodePacket
open Go.ChangeShapes Go.WideShapes Go.ChangeAt Go.RowKit
open W1 By De Ml Pa Mk
set_option linter.unusedVariables false
theorem own : ownKnob Try.prog.godebug = none := by kernel_rfl
theorem laidOut : laidOutB Try.prog = true := by kernel_rfl
/-- The list reads so, wherever it lies. -/
theorem fresh_rm {w w' : World} {a : Option Addr} {ms : List M} (h : Fresh w w' a ms) : RM w' a ms := by
  rcases h with rfl | ⟨g, rfl, _, _, hu⟩
  · exact .inl rfl
  · exact rm_of hu
theorem fresh_below {w w' w'' : World} {a : Option Addr} {ms : List M} (h : Fresh w w' a ms) (hb : Below w'.heap.size w' w'') : Fresh w w'' a ms := by
  rcases h with rfl | ⟨g, rfl, h1, h2, hu⟩
  · exact .inl rfl
  · exact .inr ⟨g, rfl, h1, Nat.lt_of_lt_of_le h2 hb.size, hu.below hb h2⟩
theorem opn_below {w w' : World} {a : Option Addr} {g n : Nat} (h : Opn w a g n) (hb : Below w.heap.size w w') : Opn w' a g n := by
  rcases h with h | ⟨off, rfl, hc⟩
  · exact .inl h
  · refine .inr ⟨off, rfl, fun i hi => ?_⟩
    have hlt : g < w.heap.size := by obtain ⟨v, hv⟩ := Option.isSome_iff_exists.1 (hc i hi).1; exact World.block_lt_of_cell? _ _ hv
    rw [hb.cell (p := ⟨g, off + i, none⟩) hlt, hb.frozen (p := ⟨g, off + i, none⟩) hlt]; exact hc i hi
theorem below_drewN {B : Nat} {w w' : World} (h : Below B w w') (q : Nat) : Below B w (w'.drewN q) := ⟨h.os, h.tape, h.output, h.size, h.block⟩
/-- Marks on a list in new memory, whether it has messages or not. -/
theorem markF (a : Option Addr) (c : Nat) (ms : List M) (w0 w : World) (hn : ms.length ≤ 1048576) (h : Fresh w0 w a ms) :
    Calls Try.prog 20 #[.slice a ms.length c, .int .i64 1] w fun e w' => e = .returned (.int .i64 (1 + 6 * (ms.length : Int))) ∧ Below w0.heap.size w w' ∧ w.heap.size ≤ w'.heap.size ∧ Fresh w0 w' a (marks ms.length) ∧ ∀ k, k < w.heap.size → (∀ g, a = some ⟨g, 0, none⟩ → 0 < ms.length → k ≠ g) → w'.heap[k]? = w.heap[k]? := by
  rcases h with rfl | ⟨g, rfl, h1, h2, hu⟩
  · refine (markS0 a c w).mono ?_
    rintro e w' ⟨rfl, rfl⟩
    exact ⟨rfl, Below.refl _ _, Nat.le_refl _, .inl rfl, fun _ _ _ => rfl⟩
  · by_cases h0 : ms.length = 0
    · obtain rfl : ms = [] := List.eq_nil_of_length_eq_zero h0
      refine (markS0 _ c w).mono ?_
      rintro e w' ⟨rfl, rfl⟩
      exact ⟨rfl, Below.refl _ _, Nat.le_refl _, .inl rfl, fun _ _ _ => rfl⟩
    refine (markS g ms.length c ms w hn h2 hu).mono ?_
    rintro e w' ⟨rfl, gr, hu'⟩
    have hml : (marks ms.length).length = ms.length := by simp [marks]
    exact ⟨rfl, ⟨gr.os, gr.tape, gr.output, gr.size, fun k hk => gr.block k (by omega) (fun e => by cases e; omega)⟩, gr.size, .inr ⟨g, rfl, h1, Nat.lt_of_lt_of_le h2 gr.size, by rw [hml]; exact hu'⟩, fun k hk hne => gr.block k hk (fun e => hne g rfl (by omega) (by cases e; rfl))⟩
theorem heldF (a : Option Addr) (c n : Nat) (w0 w : World) (hn : n ≤ 1048576) (h : Fresh w0 w a (marks n)) :
    Calls Try.prog 25 #[.slice a n c, .int .i64 1] w fun e w' => e = .returned (.int .i64 (1 + 6 * (n : Int))) ∧ Below w.heap.size w w' := by
  by_cases h0 : n = 0
  · subst h0
    refine (heldS0 a c w).mono ?_
    rintro e w' ⟨rfl, rfl⟩
    exact ⟨rfl, Below.refl _ _⟩
  have hml : (marks n).length = n := by simp [marks]
  rcases h with h | ⟨g, rfl, h1, h2, hu⟩
  · rw [h] at hml; simp at hml; omega
  · rw [hml] at hu
    exact heldS g n c w hn hu
theorem pars_len : ∀ (k : Nat) (bs : List UInt8) (acc ms : List M), pars k bs acc = some ms → ms.length = acc.length + k
  | 0, bs, acc, ms, h => by
    unfold pars at h
    split at h
    · cases h; rfl
    · cases h
  | k + 1, bs, acc, ms, h => by
    unfold pars at h
    split at h
    · have := pars_len k _ _ _ h
      rw [this, List.length_append]; simp; omega
    · cases h
theorem ms_len (bs : List UInt8) : (msP bs).length ≤ 6 := by
  unfold msP
  split
  · simp
  · unfold msO decP
    split
    · rename_i h
      have h6 := (head_true h).2.2.2
      have h1 := (head_true h).2.2.1
      cases hp : pars (fld bs 1).toNat (bs.drop 2) [] with
      | none => simp
      | some ms => have := pars_len _ _ _ _ hp; simp at this ⊢; omega
    · simp
/-- A list of messages between two bounds. -/
def Lst (W : World) (a : Option Addr) (ms : List M) (lo hi : Nat) : Prop := ms = [] ∨ ∃ g, a = some ⟨g, 0, none⟩ ∧ lo ≤ g ∧ g < hi ∧ g < W.heap.size ∧ Upto W g ms.length ms.length ms
theorem lst_of {w w' : World} {a : Option Addr} {ms : List M} (h : Fresh w w' a ms) : Lst w' a ms w.heap.size w'.heap.size := by
  rcases h with h | ⟨g, e, h1, h2, hu⟩
  · exact .inl h
  · exact .inr ⟨g, e, h1, h2, h2, hu⟩
theorem Lst.rm {W : World} {a : Option Addr} {ms : List M} {lo hi : Nat} (h : Lst W a ms lo hi) : RM W a ms := by
  rcases h with rfl | ⟨g, rfl, _, _, _, hu⟩
  · exact .inl rfl
  · exact rm_of hu
theorem Lst.below {W W' : World} {a : Option Addr} {ms : List M} {lo hi : Nat} (h : Lst W a ms lo hi) (hb : Below W.heap.size W W') : Lst W' a ms lo hi := by
  rcases h with rfl | ⟨g, rfl, h1, h2, h3, hu⟩
  · exact .inl rfl
  · exact .inr ⟨g, rfl, h1, h2, Nat.lt_of_lt_of_le h3 hb.size, hu.below hb h3⟩
theorem Lst.but {W W' : World} {a : Option Addr} {ms : List M} {lo hi : Nat} {p : Nat → Prop} (h : Lst W a ms lo hi) (hs : W.heap.size ≤ W'.heap.size) (hb : ∀ k, k < W.heap.size → p k → W'.heap[k]? = W.heap[k]?) (hp : ∀ k, lo ≤ k → k < hi → p k) : Lst W' a ms lo hi := by
  rcases h with rfl | ⟨g, rfl, h1, h2, h3, hu⟩
  · exact .inl rfl
  · exact .inr ⟨g, rfl, h1, h2, Nat.lt_of_lt_of_le h3 hs, Mk.Upto.of_block hu (hb g h3 (hp g h1 h2))⟩
theorem Lst.fresh {W w0 : World} {a : Option Addr} {ms : List M} {hi : Nat} (h : Lst W a ms w0.heap.size hi) : Fresh w0 W a ms := by
  rcases h with h | ⟨g, e, h1, _, h3, hu⟩
  · exact .inl h
  · exact .inr ⟨g, e, h1, h3, hu⟩

set_option maxHeartbeats 8000000 in
theorem walk (a : Option Addr) (bs : List UInt8) (cap : Nat) (w : World) (hm : bs.length ≤ maxLen) (hr : Reads w a bs) :
    Calls Try.prog 6 #[.slice a bs.length cap] w fun e w' => e = .returned (.bool true) ∧ Below w.heap.size w w' := by
  have HR := hide hr
  clear hr
  unfold maxLen at hm
  by_cases hbig : (1048576 : Int) < bs.length
  · go_enter Try.func6, Try.ntmps6
    go_wp2
    go_ret
    exact ⟨rfl, Below.refl _ _⟩
  have hml : bs.length ≤ 1048576 := by omega
  have hmx : bs.length ≤ maxLen := by unfold maxLen; omega
  have hl6 := ms_len bs
  go_enter Try.func6, Try.ntmps6
  go_wp2_with fail
  refine (toByteS a bs cap _ hml (unhide HR)).mono ?_
  rintro e w1 ⟨g1, rfl, b1, hg1, r1, _⟩
  have R1 := hide r1
  clear r1
  go_wp2_with fail
  refine (specDecP g1 bs bs.length _ hml (unhide R1)).mono ?_
  rintro e w2 ⟨aw, cw, rfl, b2, fw⟩
  have B2 := b1.trans (b2.mono b1.size)
  generalize hms : msP bs = ms at *
  have HMS := hide hms
  clear hms
  generalize hcd : cdP bs = cd at *
  have HCD := hide hcd
  clear hcd
  have W2 := hide (lst_of fw)
  clear fw R1
  have hml6 : ms.length ≤ 1048576 := by omega
  go_wp2_with fail
  refine (toByteS a bs cap _ hml (Pa.reads_below (unhide HR) B2)).mono ?_
  rintro e w3 ⟨g3, rfl, b3, hg3, r3, o3⟩
  have R3 := hide r3
  have O3 := hide o3
  have B3 := B2.trans (b3.mono B2.size)
  have W3 := hide ((unhide W2).below b3)
  have L3 : Hid (0 < bs.length → g3 < w3.heap.size) := hide (fun h0 => by
    rcases r3 with h | ⟨g', off', e, hc⟩
    · rw [h] at h0; simp at h0
    · cases e; exact World.block_lt_of_cell? _ _ (hc 0 h0))
  clear r3 o3 W2
  go_wp2_with fail
  refine (implDecP g3 bs _ hml (unhide R3)).mono ?_
  rintro e w4 ⟨ag, cg, rfl, b4, fg⟩
  rw [unhide HMS] at fg
  rw [unhide HMS, unhide HCD]
  have B4 := B3.trans (b4.mono B3.size)
  have W4 := hide ((unhide W3).below b4)
  have R4 := hide (Pa.reads_below (unhide R3) b4)
  have O4 := hide (opn_below (unhide O3) b4)
  have G4 := hide (lst_of fg)
  clear fg W3 R3 O3
  go_wp2_with fail
  refine (eqS _ _ ms _ _ _ hml6 (unhide G4).rm (unhide W4).rm).mono ?_
  rintro e w5 ⟨rfl, b5⟩
  have B5 := B4.trans (b5.mono B4.size)
  have W5 := hide ((unhide W4).below b5)
  have R5 := hide (Pa.reads_below (unhide R4) b5)
  have O5 := hide (opn_below (unhide O4) b5)
  have G5 := hide ((unhide G4).below b5)
  clear W4 R4 O4 G4
  go_wp2_with fail
  refine (toByteS a bs cap _ hml (Pa.reads_below (unhide HR) B5)).mono ?_
  rintro e w6 ⟨g6, rfl, b6, hg6, r6, _⟩
  have S6 := hide r6
  have B6 := B5.trans (b6.mono B5.size)
  have W6 := hide ((unhide W5).below b6)
  have R6 := hide (Pa.reads_below (unhide R5) b6)
  have O6 := hide (opn_below (unhide O5) b6)
  have G6 := hide ((unhide G5).below b6)
  clear r6 W5 R5 O5 G5
  go_wp2_with fail
  refine (eqSame _ _ _ _ bs _ (unhide R6) (unhide S6) hmx).mono ?_
  rintro e w7 ⟨rfl, q7, rfl⟩
  have B7 := below_drewN B6 q7
  go_wp2_with fail
  obtain ⟨q3, oq3, hq2, hq3⟩ : ∃ q3, Opn (w6.drewN q7) (some ⟨g3, 0, none⟩) q3 bs.length ∧ w2.heap.size ≤ q3 ∧ (q3 < w3.heap.size ∨ w4.heap.size ≤ q3) := by
    by_cases h0 : bs.length = 0
    · exact ⟨w6.heap.size, .inl h0, by have := b3.size; have := b4.size; have := b5.size; have := b6.size; omega, .inr (by have := b5.size; have := b6.size; omega)⟩
    · exact ⟨g3, unhide O6, hg3, .inl (unhide L3 (by omega))⟩
  refine (By.mark (some ⟨g3, 0, none⟩) bs.length bs.length q3 1 (by omega) (by omega) (w6.drewN q7) (by omega) oq3).mono ?_
  rintro e w8 ⟨rfl, wr8, _⟩
  clear oq3
  have B8 := B7.trans (wr8.below (B := w.heap.size) (by have := B2.size; omega))
  have hz8 : w6.heap.size ≤ w8.heap.size := by rw [wr8.size]; exact Nat.le_refl _
  have W8 := hide ((unhide W6).but (p := (· ≠ q3)) hz8 (fun k _ hne => wr8.block k hne) (fun k _ h2 => by omega))
  have G8 := hide ((unhide G6).but (p := (· ≠ q3)) hz8 (fun k _ hne => wr8.block k hne) (fun k h1 h2 => by omega))
  clear W6 R6 O6 G6 S6 wr8
  have hp1 : ¬ (1 + (bs.length : Int) < 0) := by omega
  go_wp2_with fail
  refine (eqS _ _ ms _ _ _ hml6 (unhide G8).rm (unhide W8).rm).mono ?_
  rintro e w9 ⟨rfl, b9⟩
  have B9 := B8.trans (b9.mono B8.size)
  have W9 := hide ((unhide W8).below b9)
  have G9 := hide ((unhide G8).below b9)
  clear W8 G8
  go_wp2_with fail
  refine (markF ag cg ms w3 _ hml6 (unhide G9).fresh).mono ?_
  rintro e w10 ⟨rfl, b10, hz10, f10, k10⟩
  have B10 := B9.trans (b10.mono (by have := B3.size; omega))
  have W10 := hide ((unhide W9).but (p := fun k => k < w2.heap.size) hz10 (fun k hk h2 => k10 k hk (fun g e h0 => by
    rcases unhide G9 with h | ⟨g', e', h1', _, _, _⟩
    · rw [h] at h0; simp at h0
    · rw [e'] at e; cases e; have := b3.size; omega)) (fun k _ h2 => h2))
  have F10 := hide f10
  clear f10 k10 W9 G9 b10
  go_wp2_with fail
  refine (heldF ag cg ms.length w3 _ hml6 (unhide F10)).mono ?_
  rintro e w11 ⟨rfl, b11⟩
  have B11 := B10.trans (b11.mono B10.size)
  have W11 := hide ((unhide W10).below b11)
  have F11 := hide (fresh_below (unhide F10) b11)
  have hp2 : ¬ (1 + 6 * (ms.length : Int) < 0) := by omega
  clear W10 F10
  go_wp2_with fail
  refine (toByteS a bs cap _ hml (Pa.reads_below (unhide HR) B11)).mono ?_
  rintro e w12 ⟨g12, rfl, b12, hg12, r12, _⟩
  have R12 := hide r12
  have B12 := B11.trans (b12.mono B11.size)
  have W12 := hide ((unhide W11).below b12)
  have F12 := hide (fresh_below (unhide F11) b12)
  clear r12 W11 F11
  go_wp2_with fail
  refine (implDecP g12 bs _ hml (unhide R12)).mono ?_
  rintro e w13 ⟨ah, ch, rfl, b13, fh⟩
  rw [unhide HMS] at fh
  rw [unhide HMS, unhide HCD]
  have B13 := B12.trans (b13.mono B12.size)
  have W13 := hide ((unhide W12).below b13)
  have F13 := hide (fresh_below (unhide F12) b13)
  have H13 := hide (fresh_rm fh)
  clear fh W12 F12 R12
  go_wp2_with fail
  refine (eqS _ _ ms _ _ _ hml6 (unhide H13) (unhide W13).rm).mono ?_
  rintro e w14 ⟨rfl, b14⟩
  have B14 := B13.trans (b14.mono B13.size)
  have F14 := hide (fresh_below (unhide F13) b14)
  clear W13 F13 H13
  go_wp2_with fail
  refine (heldF ag cg ms.length w3 _ hml6 (unhide F14)).mono ?_
  rintro e w15 ⟨rfl, b15⟩
  have HF := hide (B14.trans (b15.mono B14.size))
  go_wp2_with fail
  go_ret
  exact ⟨rfl, unhide HF⟩


/-- A slice of bytes that came in: what it reads as. -/
theorem open_bytes {H : Type} {enc : TypeId × Value → H} {W : World} {a : Option Addr} {len cap : Nat} {d : DataW H} {p : List MemPlace}
    (h : DataW.Trod enc Try.prog W 0 (fun _ => true) true 22 (.slice a len cap) d p) : ∃ bs : List UInt8, bs.length = len ∧ len ≤ maxLen ∧ Reads W a bs := by
  obtain ⟨fuel, hf⟩ := h
  rcases open_ints Try.underlying22 Try.underlying5 (by kernel_rfl) hf with ⟨hcs, _⟩ | ⟨x, l, c, zs, hcs, _, hl, hm, hz, _, hcell, hwz⟩
  · simp [Value.cells] at hcs
    obtain ⟨rfl, rfl, rfl⟩ := hcs
    exact ⟨[], rfl, Nat.zero_le _, .inl rfl⟩
  · simp [Value.cells] at hcs
    obtain ⟨rfl, rfl, rfl⟩ := hcs
    have hz' : zs.length = cap := by simpa using hz
    refine ⟨(zs.take len).map fun z => UInt8.ofNat z.toNat, by simp; omega, Nat.le_trans hl hm, ?_⟩
    by_cases h0 : len = 0
    · subst h0; exact .inl (by simp)
    obtain ⟨b, off, spot⟩ := x
    have hc0 := hcell 0 (by omega)
    have hspot : spot = none := by simpa [Addr.add] using World.cell?_spot hc0
    subst hspot
    refine .inr ⟨b, off, rfl, fun i hi => ?_⟩
    have hi' : i < len := by simp at hi; omega
    have hc := hcell i (by omega)
    have e1 : (⟨b, off, none⟩ : Addr).add i = ⟨b, off + i, none⟩ := by simp [Addr.add]
    rw [e1] at hc
    rw [hc]
    have hzi : i < zs.length := by omega
    have hw := hwz _ (List.getElem_mem hzi)
    have hb : 0 ≤ zs[i] ∧ zs[i] ≤ 255 := by simpa [Lit.wf, IntKind.min, IntKind.max, IntKind.signed, IntKind.bits] using hw
    have e2 : zs.getD i 0 = zs[i] := by rw [List.getD_eq_getElem?_getD, List.getElem?_eq_getElem hzi]; rfl
    have e3 : ((zs.take len).map fun z => UInt8.ofNat z.toNat).getD i 0 = UInt8.ofNat zs[i].toNat := by
      rw [List.getD_eq_getElem?_getD, List.getElem?_map, List.getElem?_take_of_lt hi', List.getElem?_eq_getElem hzi]; rfl
    rw [e2, e3]
    congr 2
    rw [UInt8.toNat_ofNat']
    omega

set_option maxRecDepth 100000 in
theorem lifted (os : Os) (started : os.Started) (H : Type) (enc : TypeId × Value → H) :
    ReturnsInHanded {} Try.checked os 6 .any (Rows.fnExactDecodePacketSpec.pre6 enc Try.prog Try.f6 Rows.fnExactDecodePacketRow.domain false) (Rows.fnExactDecodePacketSpec.post enc Try.prog Try.f6 false true false false) := by
  refine returnsInHanded_of_change (C := Try.checked) own started (by kernel_rfl) Try.func6
    (ChangeSpec.witness6 (enc := enc) (C := Try.checked) false ⟨#[], #[.slice none 0 0], []⟩ 8 (by kernel_rfl) (by kernel_rfl) (by kernel_rfl) (by kernel_rfl)) ?_
  intro W base args ds gs before hval0 hW hcnd _
  have hval : ∀ (j : Nat) t v, Try.f6.params[j]? = some t → args[j]? = some v → Value.okWide Try.prog W .any base t v := hval0
  have hW' := hW
  obtain ⟨p, q, hA0, hV, rfl, hfz, hnd⟩ := hW
  have hA : DataW.TrodAll enc Try.prog W 0 (fun _ => true) true Try.f6.params.toList args.toList ds p := hA0
  rw [Try.params6] at hA hval
  obtain ⟨v0, vs0, d0, ds0, p0, q0, hargs, rfl, rfl, h0, r0⟩ := trodAll_cons hA
  obtain ⟨rfl, rfl, rfl⟩ := trodAll_nil r0
  obtain rfl : args = #[v0] := by cases args; simp_all
  obtain ⟨rfl, rfl⟩ := trodVars_none hV
  obtain ⟨a0, len0, cap0, rfl⟩ := okWide_slice Try.underlying22 (hval 0 22 v0 rfl rfl)
  have k0 := h0
  have lt0 : ∀ x ∈ p0, x.block < W.heap.size := by obtain ⟨m, hm⟩ := k0; exact DataW.trod_lt m _ _ _ hm
  obtain ⟨bs, hlen, hmx, hrd⟩ := open_bytes h0
  subst hlen
  clear hA0 hval0
  refine (walk a0 bs cap0 W hmx hrd).mono fun e W' ⟨he, bel⟩ => ?_
  subst he
  exact ⟨_, rfl, _, _, _, [], _, [], hW', trodAll_mk1 (shut_bool Try.underlying4 _), (trodAll_cons_mk (Below.trod laidOut (by kernel_rfl) (of_decide_eq_true (by kernel_rfl)) k0 bel lt0) trodAll_mk0), rfl, bel.frame _, fun h => by cases h⟩

theorem over : Rows.fnExactDecodePacketRow.holds Try.pinned (OpenSpec.ofChange Rows.fnExactDecodePacketSpec) :=
  OpenClaim.holds_of_wide 6 Try.f6 rfl rfl rfl rfl rfl rfl rfl ⟨rfl, rfl, rfl, rfl, rfl⟩ rfl rfl rfl rfl rfl (by kernel_rfl) Try.func6 (by kernel_rfl)
    (of_decide_eq_true (by kernel_rfl)) (by unfold Func.isWrapper; first | (rw [if_pos (by decide +kernel)]; kernel_rfl) | (rw [if_neg (by decide +kernel)]; exact ⟨rfl, rfl⟩))
    (fun os started H enc _ => lifted os started H enc)
end Go.Proofs.Ytpknahhdapmcoah.fnExactDecodePacket
namespace Go.Proofs.Ytpknahhdapmcoah
/-- For every slice of bytes the program's DecodePacket answers as its model. -/
theorem fnExactDecodePacket_holds : Rows.FnExactDecodePacketSaid := fnExactDecodePacket.over
end Go.Proofs.Ytpknahhdapmcoah
