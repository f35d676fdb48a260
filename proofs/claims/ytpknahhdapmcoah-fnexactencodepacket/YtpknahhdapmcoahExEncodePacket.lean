/-
  Proved here: for every list of messages, laws.FnExactEncodePacket returns true (the program's EncodePacket answers as its model, leaves its argument alone, and answers in memory of its own) and leaves the list as it was. No condition.
-/
import Derived.Test.YtpknahhdapmcoahExPacketOK
import Derived.Test.YtpknahhdapmcoahEncP
import Derived.Test.YtpknahhdapmcoahMarks
namespace Go.Proofs.Ytpknahhdapmcoah.fnExactEncodePacket
open Go.ChangeShapes Go.WideShapes Go.ChangeAt Go.RowKit
open W1 By Ml Ep Mk
set_option linter.unusedVariables false
theorem own : ownKnob Try.prog.godebug = none := by kernel_rfl
theorem laidOut : laidOutB Try.prog = true := by kernel_rfl
theorem enc_len (ms : List M) : (encP ms).length ≤ 1024 := by
  unfold encP
  split
  · simp
  · split
    · rename_i h; have := pB_le h ms.length (Nat.le_refl _); have := (pkt_ok h).2.1; omega
    · simp
theorem reads_below {w w' : World} {a : Option Addr} {bs : List UInt8} (h : Reads w a bs) (hb : Below w.heap.size w w') : Reads w' a bs := by
  rcases h with h | ⟨g, off, rfl, hc⟩
  · exact .inl h
  · refine .inr ⟨g, off, rfl, fun i hi => ?_⟩
    rw [hb.cell (World.block_lt_of_cell? _ _ (hc i hi))]; exact hc i hi
theorem marks_below {w w' : World} {a : Option Addr} {n : Nat} {k : Int} (h : Marks w a n k) (hb : Below w.heap.size w w') : Marks w' a n k := by
  rcases h with h | ⟨g, off, rfl, hc⟩
  · exact .inl h
  · refine .inr ⟨g, off, rfl, fun i hi => ?_⟩
    rw [hb.cell (World.block_lt_of_cell? _ _ (hc i hi))]; exact hc i hi
/-- The slice, if it has bytes, lies in no block that the test strikes. -/
def Apart (a : Option Addr) (n : Nat) (p : Nat → Prop) : Prop := ∀ g off, a = some ⟨g, off, none⟩ → 0 < n → p g
theorem reads_lt {w : World} {a : Option Addr} {bs : List UInt8} (h : Reads w a bs) : Apart a bs.length (· < w.heap.size) := by
  intro g off e h0
  rcases h with rfl | ⟨g', off', e', hc⟩
  · simp at h0
  · rw [e'] at e; cases e
    exact World.block_lt_of_cell? _ _ (hc 0 h0)
theorem opn_at {w : World} {a : Option Addr} {g n : Nat} (h : Opn w a g n) : Apart a n (· = g) := by
  intro g' off e h0
  rcases h with rfl | ⟨off', e', _⟩
  · omega
  · rw [e'] at e; cases e; rfl
theorem reads_but {w w' : World} {a : Option Addr} {bs : List UInt8} {g : Nat} (h : Reads w a bs) (hb : ∀ k, k < w.heap.size → k ≠ g → w'.heap[k]? = w.heap[k]?) (ha : Apart a bs.length (· ≠ g)) : Reads w' a bs := by
  rcases h with h | ⟨g', off, rfl, hc⟩
  · exact .inl h
  · by_cases h0 : 0 < bs.length
    · refine .inr ⟨g', off, rfl, fun i hi => ?_⟩
      rw [World.cell?_of_block (a := ⟨g', off + i, none⟩) (hb g' (World.block_lt_of_cell? _ _ (hc i hi)) (ha g' off rfl h0))]; exact hc i hi
    · exact .inl (by cases bs with | nil => rfl | cons x y => simp at h0)
theorem opn_but {w w' : World} {a : Option Addr} {g q n : Nat} (h : Opn w a g n) (hb : ∀ k, k < w.heap.size → k ≠ q → w'.heap[k]? = w.heap[k]?) (hne : g ≠ q) : Opn w' a g n := by
  rcases h with h | ⟨off, rfl, hc⟩
  · exact .inl h
  · refine .inr ⟨off, rfl, fun i hi => ?_⟩
    have hlt : g < w.heap.size := by obtain ⟨v, hv⟩ := Option.isSome_iff_exists.1 (hc i hi).1; exact World.block_lt_of_cell? _ _ hv
    rw [World.cell?_of_block (a := ⟨g, off + i, none⟩) (hb g hlt hne), World.frozen?_of_block (a := ⟨g, off + i, none⟩) (hb g hlt hne)]; exact hc i hi
theorem opn_below {w w' : World} {a : Option Addr} {g n : Nat} (h : Opn w a g n) (hb : Below w.heap.size w w') : Opn w' a g n := by
  rcases h with h | ⟨off, rfl, hc⟩
  · exact .inl h
  · refine .inr ⟨off, rfl, fun i hi => ?_⟩
    have hlt : g < w.heap.size := by obtain ⟨v, hv⟩ := Option.isSome_iff_exists.1 (hc i hi).1; exact World.block_lt_of_cell? _ _ hv
    rw [hb.cell (p := ⟨g, off + i, none⟩) hlt, hb.frozen (p := ⟨g, off + i, none⟩) hlt]; exact hc i hi
theorem below_drewN {B : Nat} {w w' : World} (h : Below B w w') (q : Nat) : Below B w (w'.drewN q) := ⟨h.os, h.tape, h.output, h.size, h.block⟩
theorem below_grown {B g : Nat} {w0 w w' : World} (h : Below B w0 w) (hg : w.grownBy w' (some g)) (hB : B ≤ g) (hz : B ≤ w.heap.size) : Below B w0 w' := h.grown hg hz (fun k hk => by cases hk; exact hB)

set_option maxHeartbeats 8000000 in
theorem walk (a : Option Addr) (ms : List M) (cap : Nat) (w : World) (hm : ms.length ≤ maxLen) (hb : ∀ m ∈ ms, m.body.size ≤ maxLen) (hr : RM w a ms) :
    Calls Try.prog 5 #[.slice a ms.length cap] w fun e w' => e = .returned (.bool true) ∧ Below w.heap.size w w' := by
  have HR := hide hr
  have HM := hide hm
  have HB := hide hb
  clear hr hb hm
  have hel := enc_len ms
  go_enter Try.func5, Try.ntmps5
  go_wp2_with fail
  refine (szS a ms cap _ (unhide HM) (unhide HB) (unhide HR)).mono ?_
  rintro e w1 ⟨r, rfl, b1, hr0 | ⟨hr0, hml⟩⟩
  · go_wp2_with fail
    go_ret
    exact ⟨rfl, b1⟩
  have hnn : ¬ r < 0 := by omega
  go_wp2_with fail
  refine (toS a ms cap _ hml ((unhide HR).below b1)).mono ?_
  rintro e w2 ⟨g2, rfl, b2, hg2, hz2, u2⟩
  have U2 := hide u2
  clear u2
  have B2 := b1.trans (b2.mono b1.size)
  go_wp2_with fail
  refine (specEncP _ ms _ _ hml (rm_of (unhide U2))).mono ?_
  rintro e w3 ⟨aw, cw, rfl, b3, r3⟩
  have B3 := B2.trans (b3.mono B2.size)
  generalize hbs : encP ms = bs at *
  have HBS := hide hbs
  clear hbs
  generalize hcd : codeP ms = cd at *
  have HCD := hide hcd
  clear hcd
  have R3 := hide r3
  clear r3 U2
  go_wp2_with fail
  refine (toS a ms cap _ hml ((unhide HR).below B3)).mono ?_
  rintro e w4 ⟨g4, rfl, b4, hg4, hz4, u4⟩
  have U4 := hide u4
  have A4 := hide (reads_lt (unhide R3))
  have R4 := hide (reads_below (unhide R3) b4)
  clear u4 R3
  have B4 := B3.trans (b4.mono B3.size)
  go_wp2_with fail
  refine (implEncP _ ms _ _ hml (rm_of (unhide U4))).mono ?_
  rintro e w5 ⟨ag, cg, g5, rfl, b5, r5, hg5, o5⟩
  rw [unhide HBS] at r5 o5
  rw [unhide HBS, unhide HCD]
  have B5 := B4.trans (b5.mono B4.size)
  have R5 := hide (reads_below (unhide R4) b5)
  have G5 := hide r5
  have O5 := hide o5
  have U5 := hide ((unhide U4).below b5 hz4)
  have hz5 : g4 < w5.heap.size := Nat.lt_of_lt_of_le hz4 b5.size
  clear r5 o5 R4 U4
  go_wp2_with fail
  refine (eqSame ag aw cg cw bs _ (unhide G5) (unhide R5) (by unfold maxLen; omega)).mono ?_
  rintro e w6 ⟨rfl, q6, rfl⟩
  have B6 := below_drewN B5 q6
  go_wp2_with fail
  refine (toS a ms cap _ hml ((unhide HR).below B6)).mono ?_
  rintro e w7 ⟨g7, rfl, b7, hg7, hz7, u7⟩
  have U7 := hide u7
  have X7 := hide ((unhide U5).below (w := w5.drewN q6) b7 hz5)
  have R7 := hide (reads_below (w := w5.drewN q6) (unhide R5) b7)
  have G7 := hide (reads_below (w := w5.drewN q6) (unhide G5) b7)
  have O7 := hide (opn_below (w := w5.drewN q6) (unhide O5) b7)
  clear u7 U5 R5 G5
  have B7 := B6.trans (b7.mono B6.size)
  have hz7' : g4 < w7.heap.size := Nat.lt_of_lt_of_le hz5 b7.size
  go_wp2_with fail
  refine (eqS _ _ ms _ _ _ hml (rm_of (unhide X7)) (rm_of (unhide U7))).mono ?_
  rintro e w8 ⟨rfl, b8⟩
  have B8 := B7.trans (b8.mono B7.size)
  have X8 := hide ((unhide X7).below b8 hz7')
  have R8 := hide (reads_below (unhide R7) b8)
  have G8 := hide (reads_below (unhide G7) b8)
  have O8 := hide (opn_below (unhide O7) b8)
  have hz8 : g4 < w8.heap.size := Nat.lt_of_lt_of_le hz7' b8.size
  have hw45 : w4.heap.size ≤ g5 := hg5
  have AG := hide (opn_at (unhide O5))
  clear X7 R7 G7 O7 U7 O5
  go_wp2_with fail
  refine (markS g4 ms.length _ ms _ hml hz8 (unhide X8)).mono ?_
  rintro e w9 ⟨rfl, gr9, _⟩
  have hk9 : ∀ k, k < w8.heap.size → k ≠ g4 → w9.heap[k]? = w8.heap[k]? := fun k hk hne => gr9.block k hk (fun e => hne (by cases e; rfl))
  have B9 := below_grown B8 gr9 (by have := B3.size; omega) B8.size
  have R9 := hide (reads_but (unhide R8) hk9 (fun g off e h0 => by have := unhide A4 g off e h0; omega))
  have G9 := hide (reads_but (unhide G8) hk9 (fun g off e h0 => by have := unhide AG g off e h0; omega))
  have O9 := hide (opn_but (unhide O8) hk9 (by omega))
  clear X8 R8 G8 O8 gr9 hk9
  have hp9 : ¬ (1 + 6 * (ms.length : Int) < 0) := by omega
  go_wp2_with fail
  refine (eqSame ag aw cg cw bs _ (unhide G9) (unhide R9) (by unfold maxLen; omega)).mono ?_
  rintro e w10 ⟨rfl, q10, rfl⟩
  go_wp2_with fail
  refine (By.mark ag bs.length cg g5 1 (by omega) (by omega) (w9.drewN q10) (by omega) (unhide O9)).mono ?_
  rintro e w11 ⟨rfl, wr11, mk11⟩
  have R11 := hide (reads_but (w := w9.drewN q10) (unhide R9) (fun k _ hne => wr11.block k hne) (fun g off e h0 => by have := unhide A4 g off e h0; omega))
  have B11 := (below_drewN B9 q10).trans (wr11.below (B := w.heap.size) (by have := B4.size; omega))
  have M11 := hide mk11
  clear mk11 wr11 R9 G9 O9
  go_wp2_with fail
  refine (By.held ag bs.length cg 1 (by omega) (by omega) _ (by omega) (unhide M11)).mono ?_
  rintro e w12 ⟨rfl, rfl⟩
  have hp1 : ¬ (1 + (bs.length : Int) < 0) := by omega
  go_wp2_with fail
  refine (toS a ms cap _ hml ((unhide HR).below B11)).mono ?_
  rintro e w13 ⟨g13, rfl, b13, hg13, hz13, u13⟩
  have U13 := hide u13
  have R13 := hide (reads_below (unhide R11) b13)
  have M13 := hide (marks_below (unhide M11) b13)
  have B13 := B11.trans (b13.mono B11.size)
  clear u13 R11 M11
  go_wp2_with fail
  refine (implEncP _ ms _ _ hml (rm_of (unhide U13))).mono ?_
  rintro e w14 ⟨ah, ch, g14, rfl, b14, r14, hg14, o14⟩
  rw [unhide HBS] at r14 o14
  rw [unhide HBS, unhide HCD]
  have B14 := B13.trans (b14.mono B13.size)
  have R14 := hide (reads_below (unhide R13) b14)
  have M14 := hide (marks_below (unhide M13) b14)
  have H14 := hide r14
  clear r14 o14 R13 M13 U13
  go_wp2_with fail
  refine (eqSame ah aw ch cw bs _ (unhide H14) (unhide R14) (by unfold maxLen; omega)).mono ?_
  rintro e w15 ⟨rfl, q15, rfl⟩
  go_wp2_with fail
  refine (By.held ag bs.length cg 1 (by omega) (by omega) (w14.drewN q15) (by omega) (unhide M14)).mono ?_
  rintro e w16 ⟨rfl, rfl⟩
  have HF := hide (below_drewN B14 q15)
  go_wp2
  go_ret
  exact ⟨rfl, unhide HF⟩

set_option maxRecDepth 100000 in
theorem lifted (os : Os) (started : os.Started) (H : Type) (enc : TypeId × Value → H) :
    ReturnsInHanded {} Try.checked os 5 .any (Rows.fnExactEncodePacketSpec.pre6 enc Try.prog Try.f5 Rows.fnExactEncodePacketRow.domain false) (Rows.fnExactEncodePacketSpec.post enc Try.prog Try.f5 false true false false) := by
  refine returnsInHanded_of_change (C := Try.checked) own started (by kernel_rfl) Try.func5
    (ChangeSpec.witness6 (enc := enc) (C := Try.checked) false ⟨#[], #[.slice none 0 0], []⟩ 8 (by kernel_rfl) (by kernel_rfl) (by kernel_rfl) (by kernel_rfl)) ?_
  intro W base args ds gs before hval0 hW hcnd _
  have hval : ∀ (j : Nat) t v, Try.f5.params[j]? = some t → args[j]? = some v → Value.okWide Try.prog W .any base t v := hval0
  have hW' := hW
  obtain ⟨p, q, hA0, hV, rfl, hfz, hnd⟩ := hW
  have hA : DataW.TrodAll enc Try.prog W 0 (fun _ => true) true Try.f5.params.toList args.toList ds p := hA0
  rw [Try.params5] at hA hval
  obtain ⟨v0, vs0, d0, ds0, p0, q0, hargs, rfl, rfl, h0, r0⟩ := trodAll_cons hA
  obtain ⟨rfl, rfl, rfl⟩ := trodAll_nil r0
  obtain rfl : args = #[v0] := by cases args; simp_all
  obtain ⟨rfl, rfl⟩ := trodVars_none hV
  obtain ⟨a0, len0, cap0, rfl⟩ := okWide_slice Try.underlying31 (hval 0 31 v0 rfl rfl)
  have k0 := h0
  have lt0 : ∀ x ∈ p0, x.block < W.heap.size := by obtain ⟨m, hm⟩ := k0; exact DataW.trod_lt m _ _ _ hm
  obtain ⟨ms, hlen, hmx, hbd, hrd⟩ := Op.open_msgs h0
  subst hlen
  clear hA0 hval0
  refine (walk a0 ms cap0 W hmx hbd hrd).mono fun e W' ⟨he, bel⟩ => ?_
  subst he
  exact ⟨_, rfl, _, _, _, [], _, [], hW', trodAll_mk1 (shut_bool Try.underlying4 _), (trodAll_cons_mk (Below.trod laidOut (by kernel_rfl) (of_decide_eq_true (by kernel_rfl)) k0 bel lt0) trodAll_mk0), rfl, bel.frame _, fun h => by cases h⟩

theorem over : Rows.fnExactEncodePacketRow.holds Try.pinned (OpenSpec.ofChange Rows.fnExactEncodePacketSpec) :=
  OpenClaim.holds_of_wide 5 Try.f5 rfl rfl rfl rfl rfl rfl rfl ⟨rfl, rfl, rfl, rfl, rfl⟩ rfl rfl rfl rfl rfl (by kernel_rfl) Try.func5 (by kernel_rfl)
    (of_decide_eq_true (by kernel_rfl)) (by unfold Func.isWrapper; first | (rw [if_pos (by decide +kernel)]; kernel_rfl) | (rw [if_neg (by decide +kernel)]; exact ⟨rfl, rfl⟩))
    (fun os started H enc _ => lifted os started H enc)
end Go.Proofs.Ytpknahhdapmcoah.fnExactEncodePacket
namespace Go.Proofs.Ytpknahhdapmcoah
/-- For every list of messages the program's EncodePacket answers as its model. -/
theorem fnExactEncodePacket_holds : Rows.FnExactEncodePacketSaid := fnExactEncodePacket.over
end Go.Proofs.Ytpknahhdapmcoah
