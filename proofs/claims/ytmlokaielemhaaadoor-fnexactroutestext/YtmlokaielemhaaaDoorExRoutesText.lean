/-
  Proved here: for every argument, laws.FnExactRoutesText returns true (the program's RoutesText answers as its model, leaves its arguments alone, and answers in memory of its own), and leaves what came in as it was. No condition. (The walk is written by mklaw.py.)
-/
import Derived.Test.YtmlokaielemhaaaDoorRouX
import Derived.Test.YtmlokaielemhaaaDoorCards
import Derived.Test.YtmlokaielemhaaaDoorTie
import Derived.OpenVars
import Derived.Deep.DeepHandedRow
import Derived.Lib.LaidTab
namespace Go.Proofs.YtmlokaielemhaaaDoor.fnExactRoutesText
open Go.ChangeShapes Go.WideShapes Go.ChangeAt Go.RowKit
open W1 Rw
set_option linter.unusedVariables false
theorem own : ownKnob Tryd.prog.godebug = none := by kernel_rfl
theorem laidOut : laidOutB Tryd.prog = true := by kernel_rfl
theorem sH1 {w : World} {b : Nat} {x y : Int} {v : Value} (h : Bx3 w b x y v) : Bx3 w b x y v ∧ w.cell? ⟨b, 0, none⟩ = some (.int .i64 x) ∧ w.cell? ⟨b, 1, none⟩ = some (.int .i64 y) ∧ w.cell? ⟨b, 2, none⟩ = some v := ⟨h, h⟩
theorem sH2 {w : World} {b b' : Nat} {x y x' y' : Int} {v v' : Value} (h : Bx3 w b x y v) (h' : Bx3 w b' x' y' v') :
    (Bx3 w b x y v ∧ Bx3 w b' x' y' v') ∧ w.cell? ⟨b, 0, none⟩ = some (.int .i64 x) ∧ w.cell? ⟨b, 1, none⟩ = some (.int .i64 y) ∧ w.cell? ⟨b, 2, none⟩ = some v ∧ w.cell? ⟨b', 0, none⟩ = some (.int .i64 x') ∧ w.cell? ⟨b', 1, none⟩ = some (.int .i64 y') ∧ w.cell? ⟨b', 2, none⟩ = some v' := ⟨⟨h, h'⟩, h.1, h.2.1, h.2.2, h'.1, h'.2.1, h'.2.2⟩

set_option maxRecDepth 100000 in
set_option maxHeartbeats 8000000 in
theorem walk (a : Option Addr) (ms : List Ro.R) (cap : Nat) (hm_ms : ms.length ≤ maxLen) (w : World) (hr_ms : Ro.RM w a ms) (hp : TabP w) :
    Calls Tryd.prog 3 #[.slice a ms.length cap] w fun e w' => e = .returned (.bool true) ∧ Below w.heap.size w w' := by
  have HTP := hide (Lib.tabBelow_of_tabIs hp)
  clear hp
  have HR_ms := hide hr_ms
  clear hr_ms
  go_enter Tryd.func3, Tryd.ntmps3
  have B1 : Below w.heap.size w w := Below.refl _ _
  go_wp2_with fail
  refine (Ro.szS a ms.length cap 1048576 _ (by omega) (by omega) hm_ms).mono ?_
  rintro e w2 ⟨r2, rfl, hw2, hr01⟩
  have b2 : Below w.heap.size w w2 := by rw [hw2]; exact Below.refl _ _
  clear hw2
  have B2 : Below w.heap.size w w2 := b2
  have sz2 : w.heap.size ≤ w2.heap.size := b2.size
  rcases hr01 with hr0 | ⟨hr0, hr1⟩
  · go_wp2_with fail
    go_ret
    exact ⟨rfl, B2⟩
  have hnn2 : ¬ r2 < 0 := by omega
  have hml_ms : ms.length ≤ 1048576 := by omega
  have hrl2 : r2 ≤ 1048576 := by omega
  clear hr1 hm_ms
  have hol : (txtA ms).length ≤ 1048576 := (Nat.le_trans (txt_len ms) hml_ms)
  go_wp2_with fail
  refine (Ro.toS a ms cap _ hml_ms ((unhide HR_ms).below B2)).mono ?_
  rintro e w3 ⟨g3, rfl, b3, hg3, hz3, u3⟩
  have B3 := B2.trans (b3.mono B2.size)
  have sz3 : w2.heap.size ≤ w3.heap.size := b3.size
  have Sa3 : Hid (Ro.Lst w3 (some ⟨g3, 0, none⟩) ms w2.heap.size w3.heap.size) := hide (.inr ⟨g3, rfl, hg3, hz3, hz3, u3⟩)
  clear u3
  go_wp2_with fail
  refine (specText _ ms _ _ hml_ms (unhide Sa3).rm).mono ?_
  rintro e w4 ⟨v4, rfl, b4, l4⟩
  have B4 := B3.trans (b4.mono B3.size)
  have sz4 : w3.heap.size ≤ w4.heap.size := b4.size
  have Sa4 := hide ((unhide Sa3).below b4)
  clear Sa3
  obtain ⟨a4, c4, rfl, L4⟩ := l4
  have W4 := hide L4
  clear L4
  obtain ⟨cd, hcd⟩ : ∃ cd, codeR ms = cd := ⟨_, rfl⟩
  have HC := hide hcd
  rw [hcd]
  clear hcd
  have hne : (cd != cd) = false := by simp
  clear Sa4
  go_wp2_with fail
  refine (Ro.toS a ms cap _ hml_ms ((unhide HR_ms).below B4)).mono ?_
  rintro e w5 ⟨g5, rfl, b5, hg5, hz5, u5⟩
  have B5 := B4.trans (b5.mono B4.size)
  have sz5 : w4.heap.size ≤ w5.heap.size := b5.size
  have W5 := hide ((unhide W4).below b5)
  clear W4
  have Xa5 : Hid (Ro.Lst w5 (some ⟨g5, 0, none⟩) ms w4.heap.size w5.heap.size) := hide (.inr ⟨g5, rfl, hg5, hz5, hz5, u5⟩)
  clear u5
  go_wp2_with fail
  refine (implText _ ms _ _ hml_ms (unhide Xa5).rm (unhide HTP _ B5)).mono ?_
  rintro e w6 ⟨v6, rfl, b6, l6⟩
  have B6 := B5.trans (b6.mono B5.size)
  have sz6 : w5.heap.size ≤ w6.heap.size := b6.size
  have W6 := hide ((unhide W5).below b6)
  have Xa6 := hide ((unhide Xa5).below b6)
  clear W5 Xa5
  obtain ⟨a6, c6, rfl, L6⟩ := l6
  have G6 := hide L6
  clear L6
  rw [unhide HC]
  go_wp2_with fail
  refine (Ss.eqS _ _ (txtA ms) _ _ _ hol (unhide G6).rm (unhide W6).rm).mono ?_
  rintro e w7 ⟨rfl, b7⟩
  have B7 := B6.trans (b7.mono B6.size)
  have sz7 : w6.heap.size ≤ w7.heap.size := b7.size
  have W7 := hide ((unhide W6).below b7)
  have Xa7 := hide ((unhide Xa6).below b7)
  have G7 := hide ((unhide G6).below b7)
  clear W6 Xa6 G6
  go_wp2_with fail
  refine (Ro.toS a ms cap _ hml_ms ((unhide HR_ms).below B7)).mono ?_
  rintro e w8 ⟨g8, rfl, b8, hg8, hz8, u8⟩
  have B8 := B7.trans (b8.mono B7.size)
  have sz8 : w7.heap.size ≤ w8.heap.size := b8.size
  have W8 := hide ((unhide W7).below b8)
  have Xa8 := hide ((unhide Xa7).below b8)
  have G8 := hide ((unhide G7).below b8)
  clear W7 Xa7 G7
  have Y8 : Hid (Ro.Lst w8 (some ⟨g8, 0, none⟩) ms w7.heap.size w8.heap.size) := hide (.inr ⟨g8, rfl, hg8, hz8, hz8, u8⟩)
  clear u8
  go_wp2_with fail
  refine (Ro.eqS _ _ ms _ _ _ hml_ms (unhide Xa8).rm (unhide Y8).rm).mono ?_
  rintro e w9 ⟨rfl, b9⟩
  have B9 := B8.trans (b9.mono B8.size)
  have sz9 : w8.heap.size ≤ w9.heap.size := b9.size
  have W9 := hide ((unhide W8).below b9)
  have Xa9 := hide ((unhide Xa8).below b9)
  have G9 := hide ((unhide G8).below b9)
  have Y9 := hide ((unhide Y8).below b9)
  clear W8 Xa8 G8 Y8
  clear Y9
  go_wp2_with fail
  refine (Ro.markF _ _ _ _ (1) ms _ (by omega) (by omega) hml_ms (unhide Xa9)).mono ?_
  rintro e w10 ⟨rfl, sz10, b10, f10, k10⟩
  have sB10 := B9.size
  have B10 := B9.trans (b10.mono (by omega))
  have W10 := hide ((unhide W9).but (p := fun k => k < w4.heap.size ∨ w5.heap.size ≤ k) sz10 (fun k hk h => k10 k hk h) (fun k h1 h2 => by omega))
  have G10 := hide ((unhide G9).but (p := fun k => k < w4.heap.size ∨ w5.heap.size ≤ k) sz10 (fun k hk h => k10 k hk h) (fun k h1 h2 => by omega))
  clear W9 Xa9 G9 f10 k10 b10
  have hpk : ¬ (1 + 4 * (ms.length : Int) < 0) := by omega
  go_wp2_with fail
  refine (Ss.eqS _ _ (txtA ms) _ _ _ hol (unhide G10).rm (unhide W10).rm).mono ?_
  rintro e w11 ⟨rfl, b11⟩
  have B11 := B10.trans (b11.mono B10.size)
  have sz11 : w10.heap.size ≤ w11.heap.size := b11.size
  have W11 := hide ((unhide W10).below b11)
  have G11 := hide ((unhide G10).below b11)
  clear W10 G10
  go_wp2_with fail
  refine (Ss.markF _ _ _ _ 1 (txtA ms) _ (by omega) (by omega) hol (unhide G11)).mono ?_
  rintro e w12 ⟨rfl, sz12, b12, f12, k12⟩
  have sB12 := B11.size
  have B12 := B11.trans (b12.mono (by omega))
  have W12 := hide ((unhide W11).but (p := fun k => k < w5.heap.size ∨ w6.heap.size ≤ k) sz12 (fun k hk h => k12 k hk h) (fun k h1 h2 => by omega))
  have M12 := hide f12
  clear W11 G11 f12 k12 b12
  have hpm : ¬ (1 + 1 * ((txtA ms).length : Int) < 0) := by omega
  go_wp2_with fail
  refine (Ss.heldF _ _ (txtA ms).length _ _ 1 _ (by omega) (by omega) hol (unhide M12)).mono ?_
  rintro e w13 ⟨rfl, b13⟩
  have B13 := B12.trans (b13.mono B12.size)
  have sz13 : w12.heap.size ≤ w13.heap.size := b13.size
  have W13 := hide ((unhide W12).below b13)
  have M13 := hide ((unhide M12).below b13)
  clear W12 M12
  go_wp2_with fail
  refine (Ro.toS a ms cap _ hml_ms ((unhide HR_ms).below B13)).mono ?_
  rintro e w14 ⟨g14, rfl, b14, hg14, hz14, u14⟩
  have B14 := B13.trans (b14.mono B13.size)
  have sz14 : w13.heap.size ≤ w14.heap.size := b14.size
  have W14 := hide ((unhide W13).below b14)
  have M14 := hide ((unhide M13).below b14)
  clear W13 M13
  have Za14 : Hid (Ro.Lst w14 (some ⟨g14, 0, none⟩) ms w13.heap.size w14.heap.size) := hide (.inr ⟨g14, rfl, hg14, hz14, hz14, u14⟩)
  clear u14
  go_wp2_with fail
  refine (implText _ ms _ _ hml_ms (unhide Za14).rm (unhide HTP _ B14)).mono ?_
  rintro e w15 ⟨v15, rfl, b15, l15⟩
  have B15 := B14.trans (b15.mono B14.size)
  have sz15 : w14.heap.size ≤ w15.heap.size := b15.size
  have W15 := hide ((unhide W14).below b15)
  have M15 := hide ((unhide M14).below b15)
  have Za15 := hide ((unhide Za14).below b15)
  clear W14 M14 Za14
  obtain ⟨a15, c15, rfl, L15⟩ := l15
  have H15 := hide L15
  clear L15
  rw [unhide HC]
  go_wp2_with fail
  refine (Ss.eqS _ _ (txtA ms) _ _ _ hol (unhide H15).rm (unhide W15).rm).mono ?_
  rintro e w16 ⟨rfl, b16⟩
  have B16 := B15.trans (b16.mono B15.size)
  have sz16 : w15.heap.size ≤ w16.heap.size := b16.size
  have W16 := hide ((unhide W15).below b16)
  have M16 := hide ((unhide M15).below b16)
  have Za16 := hide ((unhide Za15).below b16)
  have H16 := hide ((unhide H15).below b16)
  clear W15 M15 Za15 H15
  go_wp2_with fail
  refine (Ss.heldF _ _ (txtA ms).length _ _ 1 _ (by omega) (by omega) hol (unhide M16)).mono ?_
  rintro e w17 ⟨rfl, b17⟩
  have B17 := B16.trans (b17.mono B16.size)
  have sz17 : w16.heap.size ≤ w17.heap.size := b17.size
  have W17 := hide ((unhide W16).below b17)
  have M17 := hide ((unhide M16).below b17)
  have Za17 := hide ((unhide Za16).below b17)
  have H17 := hide ((unhide H16).below b17)
  clear W16 M16 Za16 H16
  have HF := hide B17
  go_wp2_with fail
  go_ret
  exact ⟨rfl, unhide HF⟩

set_option maxRecDepth 100000
theorem gTab : Tryd.prog.globalNamed "internal/strconv.uint64pow10" = some 0 := by kernel_rfl
theorem gType : (Tryd.prog.globals[0]?).map (·.type) = some 63 := by kernel_rfl
theorem cellsA : Tryd.prog.cellsOf 63 = 20 := by kernel_rfl
theorem cellsU : Tryd.prog.cellsOf 56 = 1 := by kernel_rfl
theorem table {W : World} (h : laidMetH Tryd.prog Rows.fnExactRoutesTextRow.laid W) : TabP W := by
  have h1 := h.filter (fun x => x.1 == "internal/strconv.uint64pow10")
  have e : (Rows.fnExactRoutesTextRow.laid.filter (fun x => x.1 == "internal/strconv.uint64pow10")) = [("internal/strconv.uint64pow10", Lib.tabData .u64 Lib.pow10Tab)] := by kernel_rfl
  rw [e] at h1
  exact Lib.tabIs_of_head gTab gType Tryd.underlying63 Tryd.underlying56 cellsU cellsA (laidMetH_iff.1 h1).1

/-- What the walk gives, for every argument and every world that holds the tables. -/
theorem contract (H : Type) (enc : TypeId × Value → H) (W : World) (base : Nat) (args : Array Value) (ds gs : List (DataW H)) (before : List MemPlace)
    (hval0 : ∀ (j : Nat) t v, Tryd.f3.params[j]? = some t → args[j]? = some v → Value.okWide Tryd.prog W .any base t v)
    (hW : DataW.Whole enc Tryd.prog Tryd.f3.params.toList Rows.fnExactRoutesTextSpec.vars false W args.toList ds gs before) (hL : laidMetH Tryd.prog Rows.fnExactRoutesTextRow.laid W) :
    Calls Tryd.prog 3 args W fun e W' => ∃ v, e = .returned v ∧ Rows.fnExactRoutesTextSpec.post enc Tryd.prog Tryd.f3 false true false false W args v W' := by
  have hval := hval0
  have hW' := hW
  obtain ⟨p, q, hA0, hV, rfl, hfz, hnd⟩ := hW
  have hA : DataW.TrodAll enc Tryd.prog W 0 (fun _ => true) true Tryd.f3.params.toList args.toList ds p := hA0
  rw [Tryd.params3] at hA hval
  obtain ⟨v0, vs0, d0, ds0, p0, q0, hargs0, rfl, rfl, h0, r0⟩ := trodAll_cons hA
  obtain ⟨rfl, rfl, rfl⟩ := trodAll_nil r0
  obtain rfl : args = #[v0] := by cases args; simp_all
  obtain ⟨rfl, rfl⟩ := trodVars_none hV
  have k0 := h0
  have lt0 : ∀ x ∈ p0, x.block < W.heap.size := by obtain ⟨m, hm⟩ := k0; exact DataW.trod_lt m _ _ _ hm
  obtain ⟨a0, len0, cap0, rfl⟩ := okWide_slice Tryd.underlying22 (hval 0 22 v0 rfl rfl)
  obtain ⟨ms0, hlen0, hmx0, hrd0⟩ := Ro.open_list h0
  subst hlen0
  clear hA0 hval0
  have hT := table hL
  refine (walk a0 ms0 cap0 hmx0 W hrd0 hT).mono fun e W' ⟨he, bel⟩ => ?_
  subst he
  exact ⟨_, rfl, _, _, _, [], _, [], hW', trodAll_mk1 (shut_bool Tryd.underlying4 _), (trodAll_cons_mk (Below.trod laidOut (by kernel_rfl) (of_decide_eq_true (by kernel_rfl)) k0 bel lt0) trodAll_mk0), rfl, bel.frame _, fun h => by cases h⟩

def d32 : List Int := [0, 1, 28, 2, 29, 14, 24, 3, 30, 22, 20, 15, 25, 17, 4, 8, 31, 27, 13, 23, 21, 19, 16, 7, 26, 12, 18, 6, 11, 5, 10, 9]
def d64 : List Int := [0, 1, 56, 2, 57, 49, 28, 3, 61, 58, 42, 50, 38, 29, 17, 4, 62, 47, 59, 36, 45, 43, 51, 22, 53, 39, 33, 30, 24, 18, 12, 5, 63, 55, 48, 27, 60, 41, 37, 16, 46, 35, 44, 21, 52, 32, 23, 11, 54, 26, 40, 15, 34, 20, 31, 10, 25, 14, 19, 9, 13, 8, 7, 6]
/-- A block whose cells are these numbers. -/
def laidAs (k : IntKind) (zs : List Int) : Obj → Obj
  | .cells _ t frozen => .cells (zs.map fun z => Value.int k z).toArray t frozen
  | o => o
theorem laid_met (os : Os) : laidMet Tryd.prog Rows.fnExactRoutesTextRow.laid (({ World.holding Tryd.prog os ⟨#[], #[], []⟩ with heap := (((World.holding Tryd.prog os ⟨#[], #[], []⟩).heap.modify 0 (laidAs .u64 Lib.pow10Tab)).modify 1 (laidAs .u8 d32)).modify 2 (laidAs .u8 d64) } : World).forCall (fun _ _ => 0) ⟨#[], #[.slice none 0 0], []⟩).memory :=
  laidMet_of_run' 8 (by kernel_rfl) (by kernel_rfl)
theorem whole_of_map {α β γ : Type} {o : Option (α × β × γ)} {a : α} {b : β} (h : o.map (fun x => (x.1, x.2.1)) = some (a, b)) : ∃ c, o = some (a, b, c) := by
  cases o with
  | none => cases h
  | some x => obtain ⟨x1, x2, x3⟩ := x; cases h; exact ⟨x3, rfl⟩
theorem reads (os : Os) {H : Type} (enc : TypeId × Value → H) : ∃ places, DataW.whole enc Tryd.prog (({ World.holding Tryd.prog os ⟨#[], #[], []⟩ with heap := (((World.holding Tryd.prog os ⟨#[], #[], []⟩).heap.modify 0 (laidAs .u64 Lib.pow10Tab)).modify 1 (laidAs .u8 d32)).modify 2 (laidAs .u8 d64) } : World).forCall (fun _ _ => 0) ⟨#[], #[.slice none 0 0], []⟩).memory Tryd.f3.params.toList Rows.fnExactRoutesTextSpec.vars false #[.slice none 0 0].toList 8 = some ([.nil], [], places) :=
  whole_of_map (by kernel_rfl)

set_option maxRecDepth 100000 in
theorem lifted (os : Os) (started : os.Started) (H : Type) (enc : TypeId × Value → H) (F : Stop.Interp) :
    ReturnsInHanded {} Tryd.checked os 3 .any ((OpenSpec.ofChange Rows.fnExactRoutesTextSpec).preRow enc Tryd.prog Tryd.f3 Rows.fnExactRoutesTextRow.domain false Rows.fnExactRoutesTextRow.laid) (((OpenSpec.ofChange Rows.fnExactRoutesTextSpec).at F).post enc Tryd.prog Tryd.f3 false true false false) := by
  obtain ⟨places, hx⟩ := reads os enc
  refine returnsInHanded_of_row (C := Tryd.checked) (s := OpenSpec.ofChange Rows.fnExactRoutesTextSpec) own started (by kernel_rfl) Tryd.func3
    (witness_row_at (enc := enc) (C := Tryd.checked) false ({ World.holding Tryd.prog os ⟨#[], #[], []⟩ with heap := (((World.holding Tryd.prog os ⟨#[], #[], []⟩).heap.modify 0 (laidAs .u64 Lib.pow10Tab)).modify 1 (laidAs .u8 d32)).modify 2 (laidAs .u8 d64) } : World) #[.slice none 0 0] rfl (by kernel_rfl) (by kernel_rfl) (by kernel_rfl)
      (OpenSpec.preRow_of_cond 8 hx (by kernel_rfl) (fun k hk => by cases hk) (by kernel_rfl) (laid_met os))) ?_
  intro W base args ds gs before hval hW _ _ _ hL _ _
  exact contract H enc W base args ds gs before hval hW hL

theorem said : Rows.FnExactRoutesTextSaid :=
  OpenClaim.holds_of_cond 3 Tryd.f3 rfl rfl rfl rfl rfl rfl rfl ⟨rfl, rfl, rfl, rfl, rfl⟩ rfl rfl rfl rfl rfl (by kernel_rfl) Tryd.func3 (by kernel_rfl)
    (of_decide_eq_true (by kernel_rfl)) (by unfold Func.isWrapper; first | (rw [if_pos (by decide +kernel)]; kernel_rfl) | (rw [if_neg (by decide +kernel)]; exact ⟨rfl, rfl⟩))
    (fun os started H enc _ F => by rw [OpenClaim.pre_eq_preRow]; exact lifted os started H enc F)

theorem plain (f : FuncId) (fn : Func) (hf : Tryd.pinned.checked.prog.funcNamed "loop.example/g00419/laws.FnExactRoutesText" = some f) (hfn : Tryd.pinned.checked.prog.funcs[f]? = some fn) :
    false = Tryd.pinned.checked.prog.looks [] ∧ ∀ (j : Nat) t, fn.params[j]? = some t → Tryd.pinned.checked.prog.wantsStandIn t = false := by
  obtain rfl : f = 3 := Option.some.inj ((show Tryd.prog.funcNamed "loop.example/g00419/laws.FnExactRoutesText" = some 3 by kernel_rfl).symm.trans hf) |>.symm
  obtain rfl : fn = Tryd.f3 := (Option.some.inj (Tryd.func3.symm.trans hfn)).symm
  refine ⟨by kernel_rfl, fun j t ht => ?_⟩
  rw [Tryd.params3] at ht
  have e := Array.mem_of_getElem? ht
  simp at e
  subst e
  exact (show Tryd.prog.wantsStandIn 22 = false by kernel_rfl)
end Go.Proofs.YtmlokaielemhaaaDoor.fnExactRoutesText
namespace Go.Proofs.YtmlokaielemhaaaDoor
/-- The card: at every argument the program's RoutesText answers as its model. -/
theorem fnExactRoutesText_card : Rows.FnExactRoutesTextCardSaid :=
  Claim7.holds_tied_plain_at .later [] _ _ _ _ fnExactRoutesText.said (fun _ h => by cases h) (by kernel_rfl) (fun _ h => by cases h) fnExactRoutesText_row_tie rfl ⟨rfl, rfl⟩ (by kernel_rfl) rfl fnExactRoutesText.plain (by kernel_rfl)
end Go.Proofs.YtmlokaielemhaaaDoor
