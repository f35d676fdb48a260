/-
  Proved here: for every act, laws.FnExactActText returns true (the program's ActText answers as its model, and leaves its argument alone), and leaves what came in as it was. No condition.
-/
import Derived.Test.YtpmlpojefelbbaaDoorActS
import Derived.Test.YtpmlpojefelbbaaDoorActX
import Derived.Test.YtpmlpojefelbbaaDoorStrAct
import Derived.Test.YtpmlpojefelbbaaDoorRg
import Derived.Deep.DeepHandedRow
import Derived.Lib.LaidTab
import Derived.OpenVars
import Derived.Test.YtpmlpojefelbbaaDoorTie
import Derived.Test.YtpmlpojefelbbaaDoorCards
namespace Go.Proofs.YtpmlpojefelbbaaDoor.fnExactActText
open Go.ChangeShapes Go.WideShapes Go.ChangeAt Go.RowKit
open W1 Ac
set_option linter.unusedVariables false
set_option linter.unusedSimpArgs false
theorem own : ownKnob Tryd.prog.godebug = none := by kernel_rfl
theorem laidOut : laidOutB Tryd.prog = true := by kernel_rfl
theorem infoAW : Tryd.prog.underlying 24 = some (Tryd.prog.underlying 24).get! ∧ ((Tryd.prog.underlying 24).get!).isRow = true ∧ (Tryd.prog.info? 24).map (·.size) = some 6 := ⟨by kernel_rfl, by kernel_rfl, by kernel_rfl⟩
theorem execA {op : Oper} {x0 : Act} {w : World} (x : Operand) (ho : op.op = .load 28 x) {g : Nat} {k a b n : Int} {v : Value} {s : ByteArray} (hx : x0.eval x = .pointer (some ⟨g, 0, none⟩)) (h : Bx6 w g k a b n v s) : (execOp x0.eval op).run Tryd.prog w = .ok (.value (.agg #[.int .i64 k, .int .i64 a, .int .i64 b, .int .i64 n, v, .string s])) w := by
  unfold execOp
  simp only [ho, hx, Instr.loadAt, Instr.sureAddr, Sem.run_bind, Sem.run_pure, Result.andThen_ok, run_loadVar_mid w g 0 28 [.int .i64 k, .int .i64 a, .int .i64 b, .int .i64 n, v, .string s] _ (bx_range h) infoA.1 infoA.2.1 infoA.2.2]
theorem execAW {op : Oper} {x0 : Act} {w : World} (x : Operand) (ho : op.op = .load 24 x) {g : Nat} {k a b n : Int} {v : Value} {s : ByteArray} (hx : x0.eval x = .pointer (some ⟨g, 0, none⟩)) (h : Bx6 w g k a b n v s) : (execOp x0.eval op).run Tryd.prog w = .ok (.value (.agg #[.int .i64 k, .int .i64 a, .int .i64 b, .int .i64 n, v, .string s])) w := by
  unfold execOp
  simp only [ho, hx, Instr.loadAt, Instr.sureAddr, Sem.run_bind, Sem.run_pure, Result.andThen_ok, run_loadVar_mid w g 0 24 [.int .i64 k, .int .i64 a, .int .i64 b, .int .i64 n, v, .string s] _ (bx_range h) infoAW.1 infoAW.2.1 infoAW.2.2]
set_option maxRecDepth 100000 in
set_option maxHeartbeats 32000000 in
theorem walk (k a b n : Int) (l : Option Addr) (zs : List Int) (c : Nat) (by_ : ByteArray) (ha : i64B a) (hb : i64B b) (hn : i64B n) (hmx : zs.length ≤ maxLen) (hsx : by_.size ≤ maxLen) (w : World) (hr : In.RM w l zs) (hT : TabP w) :
    Calls Tryd.prog 3 #[.agg #[.int .i64 k, .int .i64 a, .int .i64 b, .int .i64 n, .slice l zs.length c, .string by_]] w fun e w' => e = .returned (.bool true) ∧ Below w.heap.size w w' := by
  have HP := hide (Lib.tabBelow_of_tabIs hT)
  have b0 := bel_new6 w (.cells #[.int .i64 k, .int .i64 a, .int .i64 b, .int .i64 n, .slice l zs.length c, .string by_] 24)
  have HB0 := hide b0
  have Q0 := hide (bx6_new w k a b n (.slice l zs.length c) by_ 24)
  have HR0 := hide (hr.below b0)
  have KZ := hide (fun W => szA k a b n l zs c by_ W hmx hsx)
  clear hr b0 hT
  obtain ⟨TT, hTT⟩ : ∃ t, acT k a b n zs = t := ⟨_, rfl⟩
  obtain ⟨EE, hEE⟩ : ∃ t, acE k zs = t := ⟨_, rfl⟩
  have KS := hide (fun (W : World) l2 c2 (hm : zs.length ≤ 1048576) (h : In.RM W l2 zs) => by have h := specAct k a b n l2 zs c2 by_ W ha hb hn hm h; rw [hTT, hEE] at h; exact h)
  have KI := hide (fun (W : World) l2 c2 (hm : zs.length ≤ 1048576) (h : In.RM W l2 zs) (hT : TabP W) => by have h := implAct k a b n l2 zs c2 by_ W ha hb hn hm h hT; rw [hTT, hEE] at h; exact h)
  have nE : (EE != EE) = false := by simp
  clear hTT hEE ha hb hn hsx hmx
  go_enter Tryd.func3, Tryd.ntmps3
  obtain ⟨p0, p1, p2, p3, p4, p5⟩ := unhide Q0
  go_wp2_with fail
  clear p0 p1 p2 p3 p4 p5
  generalize hW_ : w.alloc (.cells #[.int .i64 k, .int .i64 a, .int .i64 b, .int .i64 n, .slice l zs.length c, .string by_] 24) = w0 at *
  clear hW_
  refine (unhide KZ _).mono ?_
  rintro e w1 ⟨r, rfl, b1, hz⟩
  have HB1 := hide ((unhide HB0).trans (b1.mono (unhide HB0).size))
  rcases hz with hz | ⟨hz0, hz1⟩
  · go_wp2_with fail
    go_ret
    exact ⟨rfl, unhide HB1⟩
  have hnn : ¬ r < 0 := by omega
  have hm : zs.length ≤ 1048576 := by omega
  have Q1 := hide ((unhide Q0).below b1)
  have HR1 := hide ((unhide HR0).below b1)
  clear hz0 hz1 b1 Q0 HR0 HB0 KZ
  obtain ⟨p0, p1, p2, p3, p4, p5⟩ := unhide Q1
  go_wp2_with fail
  clear p0 p1 p2 p3 p4 p5

  refine (toA k a b n l zs c by_ _ hm (unhide HR1)).mono ?_
  rintro e w2 ⟨gS, rfl, b2, r_⟩
  have HB2 := hide ((unhide HB1).trans (b2.mono (unhide HB1).size))
  have Q2 := hide ((unhide Q1).below b2)
  have HR2 := hide ((unhide HR1).below b2)
  have S2 := hide r_
  clear r_
  clear Q1 HR1 HB1 b2
  go_wp2_with fail
  refine (unhide KS _ _ _ hm (unhide S2)).mono ?_
  rintro e w3 ⟨rfl, b3⟩
  have HB3 := hide ((unhide HB2).trans (b3.mono (unhide HB2).size))
  have Q3 := hide ((unhide Q2).below b3)
  have HR3 := hide ((unhide HR2).below b3)
  clear S2
  clear Q2 HR2 HB2 b3
  obtain ⟨k0_0, k0_1, k0_2, k0_3, k0_4, k0_5⟩ := unhide Q3
  go_wp2_with fail
  clear k0_0 k0_1 k0_2 k0_3 k0_4 k0_5
  refine (toA k a b n l zs c by_ _ hm (unhide HR3)).mono ?_
  rintro e w4 ⟨gX, rfl, b4, r_⟩
  have HB4 := hide ((unhide HB3).trans (b4.mono (unhide HB3).size))
  have Q4 := hide ((unhide Q3).below b4)
  have HR4 := hide ((unhide HR3).below b4)
  have X4 := hide r_
  clear r_
  clear Q3 HR3 HB3 b4
  have b5 := bel_new6 w4 (.cells #[.int .i64 k, .int .i64 a, .int .i64 b, .int .i64 n, .slice (some ⟨gX, 0, none⟩) zs.length zs.length, .string by_] 28)
  have HB5 := hide ((unhide HB4).trans (b5.mono (unhide HB4).size))
  have Q5 := hide ((unhide Q4).below b5)
  have HR5 := hide ((unhide HR4).below b5)
  have X5 := hide ((unhide X4).below b5)
  have V5 := hide (bx6_new w4 k a b n (.slice (some ⟨gX, 0, none⟩) zs.length zs.length) by_ 28)
  clear HB4 Q4 HR4 X4 b5
  obtain ⟨k0_0, k0_1, k0_2, k0_3, k0_4, k0_5⟩ := unhide V5
  go_wp2_with fail
  clear k0_0 k0_1 k0_2 k0_3 k0_4 k0_5
  generalize hW_ : w4.alloc (.cells #[.int .i64 k, .int .i64 a, .int .i64 b, .int .i64 n, .slice (some ⟨gX, 0, none⟩) zs.length zs.length, .string by_] 28) = w5 at *
  clear hW_
  refine (unhide KI _ _ _ hm (unhide X5) (unhide HP _ (unhide HB5))).mono ?_
  rintro e w6 ⟨rfl, b6⟩
  have HB6 := hide ((unhide HB5).trans (b6.mono (unhide HB5).size))
  have Q6 := hide ((unhide Q5).below b6)
  have HR6 := hide ((unhide HR5).below b6)
  have X6 := hide ((unhide X5).below b6)
  have V6 := hide ((unhide V5).below b6)
  clear Q5 HR5 X5 V5 HB5 b6
  go_wp2_with fail
  refine wp_region_noPanic ?_
  refine wp_region_held_drew (S := fun w' => (w'.cell? ⟨w4.heap.size, 0, none⟩ = some (.int .i64 k) ∧ w'.cell? ⟨w4.heap.size, 1, none⟩ = some (.int .i64 a) ∧ w'.cell? ⟨w4.heap.size, 2, none⟩ = some (.int .i64 b) ∧ w'.cell? ⟨w4.heap.size, 3, none⟩ = some (.int .i64 n) ∧ w'.cell? ⟨w4.heap.size, 4, none⟩ = some (.slice (some ⟨gX, 0, none⟩) zs.length zs.length) ∧ w'.cell? ⟨w4.heap.size, 5, none⟩ = some (.string by_)) ∧ (w'.cell? ⟨w.heap.size, 0, none⟩ = some (.int .i64 k) ∧ w'.cell? ⟨w.heap.size, 1, none⟩ = some (.int .i64 a) ∧ w'.cell? ⟨w.heap.size, 2, none⟩ = some (.int .i64 b) ∧ w'.cell? ⟨w.heap.size, 3, none⟩ = some (.int .i64 n) ∧ w'.cell? ⟨w.heap.size, 4, none⟩ = some (.slice l zs.length c) ∧ w'.cell? ⟨w.heap.size, 5, none⟩ = some (.string by_))) (by kernel_rfl) (⟨unhide V6, unhide Q6⟩) (fun hHeld => ?_)
  refine Rg.t (v := .agg #[.int .i64 k, .int .i64 a, .int .i64 b, .int .i64 n, .slice (some ⟨gX, 0, none⟩) zs.length zs.length, .string by_]) 0 35 ?_ (hv := fun w0 hSw => execA _ rfl rfl hSw.1)
  refine Rg.t (v := .agg #[.int .i64 k, .int .i64 a, .int .i64 b, .int .i64 n, .slice l zs.length c, .string by_]) 1 36 ?_ (hv := fun w0 hSw => execAW _ rfl rfl hSw.2)
  (refine Rg.o 2 (fun K hK => ?_); go_simp)
  refine (toA k a b n l zs c by_ w6.drew hm (unhide HR6)).mono ?_
  rintro e w7 ⟨gY, rfl, b_, r_⟩
  have b7 : Below w6.heap.size w6 w7 := (Below.refl _ _).drew.trans b_
  have HB7 := hide ((unhide HB6).trans (b7.mono (unhide HB6).size))
  have Y7 := hide r_
  have Q7 := hide ((unhide Q6).below b7)
  have X7 := hide ((unhide X6).below b7)
  have V7 := hide ((unhide V6).below b7)
  clear HB6 Q6 HR6 X6 V6 b7 b_ r_ hHeld
  refine hK.out _ _ (⟨unhide V7, unhide Q7⟩) (fun hHeld => ?_)
  clear hK K
  (try simp only [Act.put, List.setIfInBounds_toArray, List.set_cons_zero, List.set_cons_succ])
  (refine Rg.o 3 (fun K hK => ?_); go_simp)
  refine (eqA k a b n _ _ zs _ _ by_ w7 hm (unhide X7) (unhide Y7)).mono ?_
  rintro e w8 ⟨rfl, b8⟩
  have HB8 := hide ((unhide HB7).trans (b8.mono (unhide HB7).size))
  have Q8 := hide ((unhide Q7).below b8)
  have V8 := hide ((unhide V7).below b8)
  clear HB7 Q7 X7 Y7 V7 b8 hHeld
  refine hK.out _ _ (⟨unhide V8, unhide Q8⟩) (fun hHeld => ?_)
  clear hK K
  (try simp only [Act.put, List.setIfInBounds_toArray, List.set_cons_zero, List.set_cons_succ])
  refine Rg.t 4 39 ?_
  refine wpAnyH_done (by kernel_rfl) (NoPanic.normal ?_) _
  clear hHeld
  go_wp2_with fail
  go_ret
  exact ⟨rfl, unhide HB8⟩

set_option maxRecDepth 100000
theorem gTab : Tryd.prog.globalNamed "internal/strconv.uint64pow10" = some 0 := by kernel_rfl
theorem gType : (Tryd.prog.globals[0]?).map (·.type) = some 100 := by kernel_rfl
theorem cellsA : Tryd.prog.cellsOf 100 = 20 := by kernel_rfl
theorem cellsU : Tryd.prog.cellsOf 89 = 1 := by kernel_rfl
theorem table {W : World} (h : laidMetH Tryd.prog Rows.fnExactActTextRow.laid W) : TabP W := by
  have h1 := h.filter (fun x => x.1 == "internal/strconv.uint64pow10")
  have e : (Rows.fnExactActTextRow.laid.filter (fun x => x.1 == "internal/strconv.uint64pow10")) = [("internal/strconv.uint64pow10", Lib.tabData .u64 Lib.pow10Tab)] := by kernel_rfl
  rw [e] at h1
  exact Lib.tabIs_of_head gTab gType Tryd.underlying100 Tryd.underlying89 cellsU cellsA (laidMetH_iff.1 h1).1

/-- What the walk gives, for every argument and every world that holds the tables. -/
theorem contract (H : Type) (enc : TypeId × Value → H) (W : World) (base : Nat) (args : Array Value) (ds gs : List (DataW H)) (before : List MemPlace)
    (hval0 : ∀ (j : Nat) t v, Tryd.f3.params[j]? = some t → args[j]? = some v → Value.okWide Tryd.prog W .any base t v)
    (hW : DataW.Whole enc Tryd.prog Tryd.f3.params.toList Rows.fnExactActTextSpec.vars false W args.toList ds gs before) (hL : laidMetH Tryd.prog Rows.fnExactActTextRow.laid W) :
    Calls Tryd.prog 3 args W fun e W' => ∃ v, e = .returned v ∧ Rows.fnExactActTextSpec.post enc Tryd.prog Tryd.f3 false true false false W args v W' := by
  have hval := hval0
  have hW' := hW
  obtain ⟨p, q, hA0, hV, rfl, hfz, hnd⟩ := hW
  have hA : DataW.TrodAll enc Tryd.prog W 0 (fun _ => true) true Tryd.f3.params.toList args.toList ds p := hA0
  rw [Tryd.params3] at hA hval
  obtain ⟨v0, vs0, d0, ds0, p0, q0, hargs0, rfl, rfl, h0, r0⟩ := trodAll_cons hA
  obtain ⟨rfl, rfl, rfl⟩ := trodAll_nil r0
  obtain rfl : args = #[v0] := by cases args; simp_all
  obtain ⟨rfl, rfl⟩ := trodVars_none hV
  have k0 := h0
  have lt0 : ∀ x ∈ p0, x.block < W.heap.size := by obtain ⟨m, hm⟩ := k0; exact DataW.trod_lt m _ _ _ hm
  obtain ⟨k0_, a0_, b0_, n0_, l0, len0, cap0, by0, zs0, rfl, hlen0, ha0, hb0, hn0, hmx0, hsx0, hrd0⟩ := Ac.open_act (hval 0 24 v0 rfl rfl) h0
  subst hlen0
  clear hA0 hval0
  have hT := table hL
  refine (walk k0_ a0_ b0_ n0_ l0 zs0 cap0 by0 ha0 hb0 hn0 hmx0 hsx0 W hrd0 hT).mono fun e W' ⟨he, bel⟩ => ?_
  subst he
  exact ⟨_, rfl, _, _, _, [], _, [], hW', trodAll_mk1 (shut_bool Tryd.underlying4 _), (trodAll_cons_mk (Below.trod laidOut (by kernel_rfl) (of_decide_eq_true (by kernel_rfl)) k0 bel lt0) trodAll_mk0), rfl, bel.frame _, fun h => by cases h⟩

def d32 : List Int := [0, 1, 28, 2, 29, 14, 24, 3, 30, 22, 20, 15, 25, 17, 4, 8, 31, 27, 13, 23, 21, 19, 16, 7, 26, 12, 18, 6, 11, 5, 10, 9]
def d64 : List Int := [0, 1, 56, 2, 57, 49, 28, 3, 61, 58, 42, 50, 38, 29, 17, 4, 62, 47, 59, 36, 45, 43, 51, 22, 53, 39, 33, 30, 24, 18, 12, 5, 63, 55, 48, 27, 60, 41, 37, 16, 46, 35, 44, 21, 52, 32, 23, 11, 54, 26, 40, 15, 34, 20, 31, 10, 25, 14, 19, 9, 13, 8, 7, 6]
/-- A block whose cells are these numbers. -/
def laidAs (k : IntKind) (zs : List Int) : Obj → Obj
  | .cells _ t frozen => .cells (zs.map fun z => Value.int k z).toArray t frozen
  | o => o
theorem laid_met (os : Os) : laidMet Tryd.prog Rows.fnExactActTextRow.laid (({ World.holding Tryd.prog os ⟨#[], #[], []⟩ with heap := (((World.holding Tryd.prog os ⟨#[], #[], []⟩).heap.modify 0 (laidAs .u64 Lib.pow10Tab)).modify 4 (laidAs .u8 d32)).modify 5 (laidAs .u8 d64) } : World).forCall (fun _ _ => 0) ⟨#[], #[.agg #[.int .i64 0, .int .i64 0, .int .i64 0, .int .i64 0, .slice none 0 0, .string ByteArray.empty]], []⟩).memory :=
  laidMet_of_run' 8 (by kernel_rfl) (by kernel_rfl)
theorem whole_of_map {α β γ : Type} {o : Option (α × β × γ)} {a : α} {b : β} (h : o.map (fun x => (x.1, x.2.1)) = some (a, b)) : ∃ c, o = some (a, b, c) := by
  cases o with
  | none => cases h
  | some x => obtain ⟨x1, x2, x3⟩ := x; cases h; exact ⟨x3, rfl⟩
theorem reads (os : Os) {H : Type} (enc : TypeId × Value → H) : ∃ places, DataW.whole enc Tryd.prog (({ World.holding Tryd.prog os ⟨#[], #[], []⟩ with heap := (((World.holding Tryd.prog os ⟨#[], #[], []⟩).heap.modify 0 (laidAs .u64 Lib.pow10Tab)).modify 4 (laidAs .u8 d32)).modify 5 (laidAs .u8 d64) } : World).forCall (fun _ _ => 0) ⟨#[], #[.agg #[.int .i64 0, .int .i64 0, .int .i64 0, .int .i64 0, .slice none 0 0, .string ByteArray.empty]], []⟩).memory Tryd.f3.params.toList Rows.fnExactActTextSpec.vars false #[.agg #[.int .i64 0, .int .i64 0, .int .i64 0, .int .i64 0, .slice none 0 0, .string ByteArray.empty]].toList 8 = some ([.agg [.lit (.int .i64 0), .lit (.int .i64 0), .lit (.int .i64 0), .lit (.int .i64 0), .nil, .lit (.string [])]], [], places) :=
  whole_of_map (by kernel_rfl)

set_option maxRecDepth 100000 in
theorem lifted (os : Os) (started : os.Started) (H : Type) (enc : TypeId × Value → H) (F : Stop.Interp) :
    ReturnsInHanded {} Tryd.checked os 3 .any ((OpenSpec.ofChange Rows.fnExactActTextSpec).preRow enc Tryd.prog Tryd.f3 Rows.fnExactActTextRow.domain false Rows.fnExactActTextRow.laid) (((OpenSpec.ofChange Rows.fnExactActTextSpec).at F).post enc Tryd.prog Tryd.f3 false true false false) := by
  obtain ⟨places, hx⟩ := reads os enc
  refine returnsInHanded_of_row (C := Tryd.checked) (s := OpenSpec.ofChange Rows.fnExactActTextSpec) own started (by kernel_rfl) Tryd.func3
    (witness_row_at (enc := enc) (C := Tryd.checked) false ({ World.holding Tryd.prog os ⟨#[], #[], []⟩ with heap := (((World.holding Tryd.prog os ⟨#[], #[], []⟩).heap.modify 0 (laidAs .u64 Lib.pow10Tab)).modify 4 (laidAs .u8 d32)).modify 5 (laidAs .u8 d64) } : World) #[.agg #[.int .i64 0, .int .i64 0, .int .i64 0, .int .i64 0, .slice none 0 0, .string ByteArray.empty]] rfl (by kernel_rfl) (by kernel_rfl) (by kernel_rfl)
      (OpenSpec.preRow_of_cond 8 hx (by kernel_rfl) (fun k hk => by cases hk) (by kernel_rfl) (laid_met os))) ?_
  intro W base args ds gs before hval hW _ _ _ hL _ _
  exact contract H enc W base args ds gs before hval hW hL

theorem said : Rows.FnExactActTextSaid :=
  OpenClaim.holds_of_cond 3 Tryd.f3 rfl rfl rfl rfl rfl rfl rfl ⟨rfl, rfl, rfl, rfl, rfl⟩ rfl rfl rfl rfl rfl (by kernel_rfl) Tryd.func3 (by kernel_rfl)
    (of_decide_eq_true (by kernel_rfl)) (by unfold Func.isWrapper; first | (rw [if_pos (by decide +kernel)]; kernel_rfl) | (rw [if_neg (by decide +kernel)]; exact ⟨rfl, rfl⟩))
    (fun os started H enc _ F => by rw [OpenClaim.pre_eq_preRow]; exact lifted os started H enc F)

theorem plain (f : FuncId) (fn : Func) (hf : Tryd.pinned.checked.prog.funcNamed "loop.example/g00419/laws.FnExactActText" = some f) (hfn : Tryd.pinned.checked.prog.funcs[f]? = some fn) :
    true = Tryd.pinned.checked.prog.looks [] ∧ ∀ (j : Nat) t, fn.params[j]? = some t → Tryd.pinned.checked.prog.wantsStandIn t = false := by
  obtain rfl : f = 3 := Option.some.inj ((show Tryd.prog.funcNamed "loop.example/g00419/laws.FnExactActText" = some 3 by kernel_rfl).symm.trans hf) |>.symm
  obtain rfl : fn = Tryd.f3 := (Option.some.inj (Tryd.func3.symm.trans hfn)).symm
  refine ⟨by kernel_rfl, fun j t ht => ?_⟩
  rw [Tryd.params3] at ht
  have e := Array.mem_of_getElem? ht
  simp at e
  subst e
  exact (show Tryd.prog.wantsStandIn 24 = false by kernel_rfl)
end Go.Proofs.YtpmlpojefelbbaaDoor.fnExactActText
namespace Go.Proofs.YtpmlpojefelbbaaDoor
/-- At every act the program's ActText answers as its model. -/
theorem fnExactActText_card : Rows.FnExactActTextCardSaid :=
  Claim7.holds_tied_plain_at .later [] _ _ _ _ fnExactActText.said (fun _ h => by cases h) (by kernel_rfl) (fun _ h => by cases h) fnExactActText_row_tie rfl ⟨rfl, rfl⟩ (by kernel_rfl) rfl fnExactActText.plain (by kernel_rfl)
end Go.Proofs.YtpmlpojefelbbaaDoor
