/-
  Proved here: for every list of messages, laws.FnExactPacketOK returns true (the program's PacketOK answers as its model and leaves its argument alone) and leaves the list as it was. No condition.
-/
import Derived.Test.YtpknahhdapmcoahMsgs
import Derived.Deep.Slices
namespace Go.Proofs.Ytpknahhdapmcoah
open Go.ChangeShapes Go.WideShapes Go.ChangeAt Go.RowKit
open W1 Ml
namespace Op
theorem cellsM : Try.prog.cellsOf 51 = 6 := by kernel_rfl
theorem cellsI : Try.prog.cellsOf 3 = 1 := by kernel_rfl
theorem cellsS : Try.prog.cellsOf 9 = 1 := by kernel_rfl
theorem list6 {α : Type} {l : List α} (h : l.length = 6) : ∃ c0 c1 c2 c3 c4 c5, l = [c0, c1, c2, c3, c4, c5] := by
  match l, h with
  | [c0, c1, c2, c3, c4, c5], _ => exact ⟨c0, c1, c2, c3, c4, c5, rfl⟩
theorem plain_add (b off k : Nat) : (⟨b, off, none⟩ : Addr).add k = ⟨b, off + k, none⟩ := by unfold Addr.add; split <;> simp_all
/-- Six cells that read as a message. -/
theorem open_six {H : Type} {enc : TypeId × Value → H} {W : World} {base n : Nat} {spare : Nat → Bool} {held : Bool} {c : List Value} {y : DataW H × List MemPlace} (hl : c.length = 6)
    (h : DataW.trod enc Try.prog W base spare held n 51 c = some y) : ∃ m : M, c = [.int .i64 m.ty, .int .i64 m.og, .int .i64 m.sq, .int .i64 m.hl, .int .i64 m.hp, .string m.body] ∧ m.body.size ≤ maxLen := by
  obtain ⟨c0, c1, c2, c3, c4, c5, rfl⟩ := list6 hl
  obtain ⟨xs, n, _, _, _, hlen, hf⟩ := DataW.trod_struct Try.underlying51 h
  obtain ⟨x0, x1, x2, x3, x4, x5, rfl⟩ := list6 hlen
  have k0 := hf 0 _ rfl
  have k1 := hf 1 _ rfl
  have k2 := hf 2 _ rfl
  have k3 := hf 3 _ rfl
  have k4 := hf 4 _ rfl
  have k5 := hf 5 _ rfl
  simp [cellsI, cellsS] at k0 k1 k2 k3 k4 k5
  obtain ⟨a0, e0, _, _⟩ := DataW.trod_int Try.underlying3 k0
  obtain ⟨a1, e1, _, _⟩ := DataW.trod_int Try.underlying3 k1
  obtain ⟨a2, e2, _, _⟩ := DataW.trod_int Try.underlying3 k2
  obtain ⟨a3, e3, _, _⟩ := DataW.trod_int Try.underlying3 k3
  obtain ⟨a4, e4, _, _⟩ := DataW.trod_int Try.underlying3 k4
  obtain ⟨a5, e5, _, w5⟩ := DataW.trod_string Try.underlying9 k5
  simp at e0 e1 e2 e3 e4 e5
  subst e0 e1 e2 e3 e4 e5
  exact ⟨⟨a0, a1, a2, a3, a4, a5⟩, rfl, w5⟩
/-- A slice of messages that came in: what it reads as. -/
theorem open_msgs {H : Type} {enc : TypeId × Value → H} {W : World} {a : Option Addr} {len cap : Nat} {d : DataW H} {p : List MemPlace}
    (h : DataW.Trod enc Try.prog W 0 (fun _ => true) true 31 (.slice a len cap) d p) : ∃ ms : List M, ms.length = len ∧ len ≤ maxLen ∧ (∀ m ∈ ms, m.body.size ≤ maxLen) ∧ RM W a ms := by
  obtain ⟨fuel, hf⟩ := h
  rcases Deep.open_slice Try.underlying31 hf with ⟨hcs, _⟩ | ⟨x, l, c, m, n, D, Pl, hcs, _, hl, hm, hmm, _, hx⟩
  · simp [Value.cells] at hcs
    obtain ⟨rfl, rfl, rfl⟩ := hcs
    exact ⟨[], rfl, Nat.zero_le _, by simp, .inl rfl⟩
  · simp [Value.cells] at hcs
    obtain ⟨rfl, rfl, rfl⟩ := hcs
    simp at hmm
    subst hmm
    rw [cellsM] at hx
    by_cases h0 : len = 0
    · subst h0; exact ⟨[], rfl, Nat.zero_le _, by simp, .inl rfl⟩
    obtain ⟨b, off, spot⟩ := x
    have hsp : spot = none := by
      obtain ⟨cs', h1, _⟩ := hx 0 (by omega)
      obtain ⟨_, hlen, hc⟩ := World.cells?_some h1
      have h2 := hc 0 (by omega)
      rw [List.getElem?_eq_getElem (by omega)] at h2
      simpa [Addr.add] using World.cell?_spot h2
    subst hsp
    have hex : ∀ i, i < len → ∃ m : M, At W b (off + i * 6) m ∧ m.body.size ≤ maxLen := by
      intro i hi
      obtain ⟨cs', h1, h2⟩ := hx i (by omega)
      obtain ⟨_, hlen, hc⟩ := World.cells?_some h1
      obtain ⟨m, rfl, hb⟩ := open_six hlen h2
      have q0 := hc 0 (by omega)
      have q1 := hc 1 (by omega)
      have q2 := hc 2 (by omega)
      have q3 := hc 3 (by omega)
      have q4 := hc 4 (by omega)
      have q5 := hc 5 (by omega)
      rw [plain_add, plain_add] at q0 q1 q2 q3 q4 q5
      exact ⟨m, ⟨q0, q1, q2, q3, q4, q5⟩, hb⟩
    have hin : Inhabited M := ⟨M.zero⟩
    obtain ⟨V, hV⟩ := Deep.choose_lt hex
    refine ⟨(List.range len).map V, by simp, Nat.le_trans hl hm, fun m hmem => ?_, .inr ⟨b, off, rfl, fun i hi => ?_⟩⟩
    · obtain ⟨i, hi, rfl⟩ := List.mem_map.1 hmem
      exact (hV i (List.mem_range.1 hi)).2
    · have hi' : i < len := by simpa using hi
      have e : ((List.range len).map V).getD i M.zero = V i := by
        rw [List.getD_eq_getElem?_getD, List.getElem?_map, List.getElem?_range hi']; rfl
      rw [e]
      exact (hV i hi').1
end Op
end Go.Proofs.Ytpknahhdapmcoah
namespace Go.Proofs.Ytpknahhdapmcoah.fnExactPacketOK
open Go.ChangeShapes Go.WideShapes Go.ChangeAt Go.RowKit
open W1 Ml
set_option linter.unusedVariables false
theorem own : ownKnob Try.prog.godebug = none := by kernel_rfl
theorem laidOut : laidOutB Try.prog = true := by kernel_rfl

set_option maxHeartbeats 2000000 in
theorem walk (a : Option Addr) (ms : List M) (cap : Nat) (w : World) (hm : ms.length ≤ maxLen) (hb : ∀ m ∈ ms, m.body.size ≤ maxLen) (hr : RM w a ms) :
    Calls Try.prog 4 #[.slice a ms.length cap] w fun e w' => e = .returned (.bool true) ∧ Below w.heap.size w w' := by
  have HR := hide hr
  have HM := hide hm
  have HB := hide hb
  clear hr hb hm
  go_enter Try.func4, Try.ntmps4
  go_wp2_with fail
  refine (szS a ms cap _ (unhide HM) (unhide HB) (unhide HR)).mono ?_
  rintro e w1 ⟨r, rfl, b1, hr0 | ⟨hr0, hml⟩⟩
  · go_wp2_with fail
    go_ret
    exact ⟨rfl, b1⟩
  have hnn : ¬ r < 0 := by omega
  have R1 := hide ((unhide HR).below b1)
  go_wp2_with fail
  refine (toS a ms cap _ hml (unhide R1)).mono ?_
  rintro e w2 ⟨g2, rfl, b2, hg2, hz2, u2⟩
  have U2 := hide u2
  clear u2
  have B2 := b1.trans (b2.mono b1.size)
  go_wp2_with fail
  refine (specPkt _ ms _ _ hml (rm_of (unhide U2))).mono ?_
  rintro e w3 ⟨rfl, b3⟩
  have B3 := B2.trans (b3.mono B2.size)
  have R3 := hide ((unhide HR).below B3)
  clear U2 R1
  go_wp2_with fail
  refine (toS a ms cap _ hml (unhide R3)).mono ?_
  rintro e w4 ⟨g4, rfl, b4, hg4, hz4, u4⟩
  have U4 := hide u4
  clear u4 R3
  have B4 := B3.trans (b4.mono B3.size)
  go_wp2_with fail
  refine (implPkt _ ms _ _ hml (rm_of (unhide U4))).mono ?_
  rintro e w5 ⟨rfl, b5⟩
  have B5 := B4.trans (b5.mono B4.size)
  have R5 := hide ((unhide HR).below B5)
  have U5 := hide ((rm_of (unhide U4)).below b5)
  clear U4
  generalize pktB ms = pk
  cases pk
  all_goals
    go_wp2_with fail
    refine (toS a ms cap _ hml (unhide R5)).mono ?_
    rintro e w6 ⟨g6, rfl, b6, hg6, hz6, u6⟩
    have U6 := hide u6
    clear u6
    have B6 := B5.trans (b6.mono B5.size)
    have V6 := hide ((unhide U5).below b6)
    go_wp2_with fail
    refine (eqS _ _ ms _ _ _ hml (unhide V6) (rm_of (unhide U6))).mono ?_
    rintro e w7 ⟨rfl, b7⟩
    have HF := hide (B6.trans (b7.mono B6.size))
    go_wp2_with fail
    go_ret
    exact ⟨rfl, unhide HF⟩

set_option maxRecDepth 100000 in
theorem lifted (os : Os) (started : os.Started) (H : Type) (enc : TypeId × Value → H) :
    ReturnsInHanded {} Try.checked os 4 .any (Rows.fnExactPacketOKSpec.pre6 enc Try.prog Try.f4 Rows.fnExactPacketOKRow.domain false) (Rows.fnExactPacketOKSpec.post enc Try.prog Try.f4 false true false false) := by
  refine returnsInHanded_of_change (C := Try.checked) own started (by kernel_rfl) Try.func4
    (ChangeSpec.witness6 (enc := enc) (C := Try.checked) false ⟨#[], #[.slice none 0 0], []⟩ 8 (by kernel_rfl) (by kernel_rfl) (by kernel_rfl) (by kernel_rfl)) ?_
  intro W base args ds gs before hval0 hW hcnd _
  have hval : ∀ (j : Nat) t v, Try.f4.params[j]? = some t → args[j]? = some v → Value.okWide Try.prog W .any base t v := hval0
  have hW' := hW
  obtain ⟨p, q, hA0, hV, rfl, hfz, hnd⟩ := hW
  have hA : DataW.TrodAll enc Try.prog W 0 (fun _ => true) true Try.f4.params.toList args.toList ds p := hA0
  rw [Try.params4] at hA hval
  obtain ⟨v0, vs0, d0, ds0, p0, q0, hargs, rfl, rfl, h0, r0⟩ := trodAll_cons hA
  obtain ⟨rfl, rfl, rfl⟩ := trodAll_nil r0
  obtain rfl : args = #[v0] := by cases args; simp_all
  obtain ⟨rfl, rfl⟩ := trodVars_none hV
  obtain ⟨a0, len0, cap0, rfl⟩ := okWide_slice Try.underlying31 (hval 0 31 v0 rfl rfl)
  have k0 := h0
  have lt0 : ∀ x ∈ p0, x.block < W.heap.size := by obtain ⟨m, hm⟩ := k0; exact DataW.trod_lt m _ _ _ hm
  obtain ⟨ms, hlen, hmx, hbd, hrd⟩ := Op.open_msgs h0
  subst hlen
  clear hA0 hval0
  refine (walk a0 ms cap0 W hmx hbd hrd).mono fun e W' ⟨he, bel⟩ => ?_
  subst he
  exact ⟨_, rfl, _, _, _, [], _, [], hW', trodAll_mk1 (shut_bool Try.underlying4 _), (trodAll_cons_mk (Below.trod laidOut (by kernel_rfl) (of_decide_eq_true (by kernel_rfl)) k0 bel lt0) trodAll_mk0), rfl, bel.frame _, fun h => by cases h⟩

theorem over : Rows.fnExactPacketOKRow.holds Try.pinned (OpenSpec.ofChange Rows.fnExactPacketOKSpec) :=
  OpenClaim.holds_of_wide 4 Try.f4 rfl rfl rfl rfl rfl rfl rfl ⟨rfl, rfl, rfl, rfl, rfl⟩ rfl rfl rfl rfl rfl (by kernel_rfl) Try.func4 (by kernel_rfl)
    (of_decide_eq_true (by kernel_rfl)) (by unfold Func.isWrapper; first | (rw [if_pos (by decide +kernel)]; kernel_rfl) | (rw [if_neg (by decide +kernel)]; exact ⟨rfl, rfl⟩))
    (fun os started H enc _ => lifted os started H enc)
end Go.Proofs.Ytpknahhdapmcoah.fnExactPacketOK
namespace Go.Proofs.Ytpknahhdapmcoah
/-- For every list of messages the program's PacketOK answers as its model. -/
theorem fnExactPacketOK_holds : Rows.FnExactPacketOKSaid := fnExactPacketOK.over
end Go.Proofs.Ytpknahhdapmcoah
