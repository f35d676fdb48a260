/-
  Proved here: for all slices of bytes, laws.FnMessages returns true (a message is read back from its bytes, with what stands behind it left; cut it is none) and leaves the slices as they were. No condition but the tables that the card ties to the program's text.
-/
import Derived.Test.YtmelbilepfnmjaaDoorMsgD
import Derived.Test.YtmelbilepfnmjaaDoorMsgX
import Derived.Test.YtmelbilepfnmjaaDoorTxtI
import Derived.Test.YtmelbilepfnmjaaDoorAt
import Derived.Test.YtmelbilepfnmjaaDoorCards
import Derived.Test.YtmelbilepfnmjaaDoorTie
import Derived.OpenVars
import Derived.Deep.DeepHandedRow
import Derived.Lib.LaidTab
namespace Go.Proofs.YtmelbilepfnmjaaDoor.fnMessages
open Go.ChangeShapes Go.WideShapes Go.ChangeAt Go.RowKit
open W1 By De Sr En Mx Md
set_option linter.unusedVariables false
set_option linter.unusedSimpArgs false
attribute [local go_sem ↓] Go.wp_at_zero Go.wp_at_succ
theorem own : ownKnob Tryd.prog.godebug = none := by kernel_rfl
theorem laidOut : laidOutB Tryd.prog = true := by kernel_rfl
abbrev TabP (w : World) : Prop := Tx.Tab w
/-- A message in a variable's block. -/
def MB (w : World) (b : Nat) (ty og sq hl hq : Int) (body : ByteArray) : Prop := (w.cell? ⟨b, 0, none⟩ = some (.int .i64 ty) ∧ w.cell? ⟨b, 1, none⟩ = some (.int .i64 og) ∧ w.cell? ⟨b, 2, none⟩ = some (.int .i64 sq)) ∧ w.cell? ⟨b, 3, none⟩ = some (.int .i64 hl) ∧ w.cell? ⟨b, 4, none⟩ = some (.int .i64 hq) ∧ w.cell? ⟨b, 5, none⟩ = some (.string body)
theorem MB.lt {w : World} {b : Nat} {ty og sq hl hq : Int} {body : ByteArray} (h : MB w b ty og sq hl hq body) : b < w.heap.size := World.block_lt_of_cell? _ _ h.1.1
theorem MB.below {w w' : World} {b : Nat} {ty og sq hl hq : Int} {body : ByteArray} (h : MB w b ty og sq hl hq body) (hb : Below w.heap.size w w') : MB w' b ty og sq hl hq body := by
  have hg := h.lt
  obtain ⟨⟨h0, h1, h2⟩, h3, h4, h5⟩ := h
  refine ⟨⟨?_, ?_, ?_⟩, ?_, ?_, ?_⟩ <;> (rw [hb.cell hg]; assumption)
theorem mb_new (w : World) (ty og sq hl hq : Int) (body : ByteArray) (t : Nat) : MB (w.alloc (.cells #[.int .i64 ty, .int .i64 og, .int .i64 sq, .int .i64 hl, .int .i64 hq, .string body] t)) w.heap.size ty og sq hl hq body := by
  refine ⟨⟨?_, ?_, ?_⟩, ?_, ?_, ?_⟩ <;> simp [World.cell?_alloc_new]
set_option maxRecDepth 100000 in
set_option maxHeartbeats 8000000 in
theorem walk (a : Option Addr) (bs : List UInt8) (cap : Nat) (hm0 : bs.length ≤ maxLen) (a' : Option Addr) (bs' : List UInt8) (cap' : Nat) (hm0' : bs'.length ≤ maxLen) (w : World) (hr : Reads w a bs) (hr' : Reads w a' bs') (hp : TabP w) :
    Calls Tryd.prog 3 #[.slice a bs.length cap, .slice a' bs'.length cap'] w fun e w' => e = .returned (.bool true) ∧ Below w.heap.size w w' := by
  unfold maxLen at hm0 hm0'
  by_cases hb : (1048576 : Int) < bs.length
  · go_enter Tryd.func3, Tryd.ntmps3
    go_wp2
    go_ret
    exact ⟨rfl, Below.refl _ _⟩
  by_cases hb' : (1048576 : Int) < bs'.length
  · go_enter Tryd.func3, Tryd.ntmps3
    go_wp2
    go_ret
    exact ⟨rfl, Below.refl _ _⟩
  have hbm : bs.length ≤ 1048576 := by omega
  have hbm' : bs'.length ≤ 1048576 := by omega
  have HTP := hide (Lib.tabBelow_of_tabIs hp)
  have HR := hide hr
  have HR' := hide hr'
  clear hr hr' hp
  go_enter Tryd.func3, Tryd.ntmps3
  go_wp2_with fail
  refine (messageOf a bs cap _ hbm (unhide HR)).mono ?_
  rintro e w1 ⟨ty, og, sq, hl, hq, body, rfl, hok, b1⟩
  have HOK := hide hok
  have hsz : body.size ≤ 120 := by have := (okB_bounds hok).2.2.2.2.2.2.2.2.2.2; omega
  have B2 := hide (b1.alloc b1.size (.cells #[.int .i64 ty, .int .i64 og, .int .i64 sq, .int .i64 hl, .int .i64 hq, .string body] 24))
  have T2 := hide (mb_new w1 ty og sq hl hq body 24)
  have HEL := hide (enc_len hok)
  have HD7 := hide (dec_yes hok [7] (by simp))
  have HCU : Hid (∀ k, k < (enc ty og sq hl hq body).length → decV ((enc ty og sq hl hq body).take k) = .tuple #[.agg #[.int .i64 0, .int .i64 0, .int .i64 0, .int .i64 0, .int .i64 0, .string ⟨#[]⟩], .int .i64 0, .int .i64 3]) := hide (fun k hk => dec_cut hok hk)
  have HTX : Hid (∃ tx, Tx.textV ty og sq hl hq body = .tuple #[.string tx, .int .i64 0]) := hide ⟨_, by unfold Tx.textV; rw [if_pos hok]⟩
  have HCO : Hid (code ty og sq hl hq body = 0) := hide (by unfold code; rw [if_pos hok])
  have hlt1 := b1.size
  clear b1 hok
  obtain ⟨⟨z0, z1, z2⟩, z3, z4, z5⟩ := unhide T2
  go_wp2_with fail
  generalize hW : w1.alloc (.cells #[.int .i64 ty, .int .i64 og, .int .i64 sq, .int .i64 hl, .int .i64 hq, .string body] 24) = W2 at *
  clear hW
  refine (implEncC ty og sq hl hq body _ (unhide HOK)).mono ?_
  rintro e w3 ⟨cb, gb, rfl, b3, r3, c3a, c3b⟩
  have B3 := hide ((unhide B2).trans (b3.mono (unhide B2).size))
  have T3 := hide ((unhide T2).below b3)
  have R3 := hide r3
  clear b3 r3 z0 z1 z2 z3 z4 z5
  obtain ⟨⟨z0, z1, z2⟩, z3, z4, z5⟩ := unhide T3
  go_wp2_with fail
  refine (specEnc ty og sq hl hq body _).mono ?_
  rintro e w4 ⟨aw, cw, rfl, b4, r4⟩
  rw [unhide HCO]
  have B4 := hide ((unhide B3).trans (b4.mono (unhide B3).size))
  have T4 := hide ((unhide T3).below b4)
  have R4 := hide (reads_under (unhide R3) b4)
  have Q4 := hide r4
  clear b4 r4 z0 z1 z2 z3 z4 z5
  generalize hE : enc ty og sq hl hq body = E at *
  clear hE
  have hEl : E.length = 8 + body.size := unhide HEL
  have hE0 : 0 < E.length := by omega
  have hE1 : E.length ≤ 128 := by omega
  have hE8 : 8 ≤ E.length := by omega
  have HEE := hide hEl
  clear hEl
  obtain ⟨gw, ow, rfl⟩ : ∃ gw ow, aw = some ⟨gw, ow, none⟩ := by
    rcases unhide Q4 with e | ⟨g', o', e, _⟩
    · rw [e] at hE0; simp at hE0
    · exact ⟨g', o', e⟩
  have B5 := hide ((unhide B4).alloc (unhide B4).size (.cells #[] 5))
  have T5 := hide ((unhide T4).below ((Below.refl _ _).alloc (Nat.le_refl _) (.cells #[] 5)))
  have R5 := hide (reads_under (unhide R4) ((Below.refl _ _).alloc (Nat.le_refl _) (.cells #[] 5)))
  have Q5 := hide (reads_under (unhide Q4) ((Below.refl _ _).alloc (Nat.le_refl _) (.cells #[] 5)))
  have O5 : Hid ((w4.alloc (.cells #[] 5)).ownsRow w4.heap.size 5 1 (.slice (some ⟨w4.heap.size, 0, none⟩) 0 0) ([] : List Int).length (U8.fl [])) := hide (World.ownsRow_made w4 #[] 0 (Nat.le_refl _) (Nat.zero_le _) (by simp))
  have D5 : Hid (Below w4.heap.size w4 (w4.alloc (.cells #[] 5))) := hide ((Below.refl _ _).alloc (Nat.le_refl _) _)
  have Z5 := hide (r8_of (unhide R5))
  have hgb : gb < w4.heap.size := by
    rcases unhide R4 with e | ⟨g', o', e, hc⟩
    · rw [e] at hE0; simp at hE0
    · cases e; exact World.block_lt_of_cell? _ _ (hc 0 hE0)
  go_wp2_with (at_builtin; first | (refine U8.wpList_ap (unhide O7) w6.heap.size 0 1 1 [(7 : Int)] rfl (unhide R7) (by simp; omega) (by exact (unhide D7).size) rfl _ _ rfl rfl rfl ?_; intro v8 w8 o8 g8; (obtain ⟨g8b, c8b, rfl, _, _⟩ := o8.form (by simp)); have O8 := hide o8; have D8 := hide (U8.below_own (unhide D7) (unhide O7) g8 (Nat.le_refl _) (unhide D7).size); clear o8 g8) | (refine U8.wpList_ap (unhide O5) gb 0 E.length cb (E.map fun b => (b.toNat : Int)) (by simp) (unhide Z5) (by simp; omega) (by simp) rfl _ _ rfl rfl rfl ?_; intro v6 w6 o6 g6; (obtain ⟨g6b, c6b, rfl, _, _⟩ := o6.form (by simp; omega)); have O6 : Hid (w6.ownsRow w4.heap.size 5 1 (.slice (some ⟨g6b, 0, none⟩) E.length c6b) (E.map fun b => (b.toNat : Int)).length (U8.fl (E.map fun b => (b.toNat : Int)))) := hide (by have h := o6; simp only [List.nil_append, List.length_map] at h ⊢; exact h); have D6 := hide (U8.below_own (unhide D5) (unhide O5) g6 (Nat.le_refl _) (unhide D5).size); have O7 := hide ((unhide O6).alloc (.cells #[.int .u8 7] 5)); have D7 := hide ((unhide D6).alloc (unhide D6).size (.cells #[.int .u8 7] 5)); have R7 := hide (U8.r8_new w6 [(7 : Int)] #[.int .u8 7] rfl); clear o6 g6; (try simp only [List.nil_append, List.length_map])))
  have hl8 : (List.map (fun b : UInt8 => (b.toNat : Int)) E ++ [7]).length = E.length + 1 := by simp
  have O8' : Hid (w8.ownsRow w4.heap.size 5 1 (.slice (some ⟨g8b, 0, none⟩) (E.length + 1) c8b) (E.length + 1) ((E ++ [(7 : UInt8)]).map fun b : UInt8 => Value.int .u8 (b.toNat : Int))) := hide (by
    have h := unhide O8
    rw [hl8] at h
    have e : U8.fl (List.map (fun b : UInt8 => (b.toNat : Int)) E ++ [7]) = (E ++ [(7 : UInt8)]).map fun b : UInt8 => Value.int .u8 (b.toNat : Int) := by unfold U8.fl; simp
    rw [e] at h; exact h)
  have C8 := cap_of (unhide O8')
  have R8 := hide (reads_of_own (bs := E ++ [(7 : UInt8)]) (by simp) (unhide O8')).1
  have HDC : Hid (Calls Tryd.prog 7 #[.slice (some ⟨g8b, 0, none⟩) (E.length + 1) c8b] w8 fun e w' => e = .returned (.tuple #[.agg #[.int .i64 ty, .int .i64 og, .int .i64 sq, .int .i64 hl, .int .i64 hq, .string body], .int .i64 (E.length : Int), .int .i64 0]) ∧ Below w8.heap.size w8 w') := hide (by
    have h := implDec g8b (E ++ [7]) c8b w8 (by simp; omega) (by simpa using C8.1) C8.2 (unhide R8)
    rw [unhide HD7, show (E ++ [(7 : UInt8)]).length = E.length + 1 by simp] at h
    exact h)
  refine (unhide HDC).mono ?_
  rintro e w9 ⟨rfl, b9⟩
  have D9 := hide ((unhide D8).trans (b9.mono (unhide D8).size))
  have B9 := hide ((unhide B4).trans ((unhide D9).mono (unhide B4).size))
  have T9 := hide ((unhide T4).below (unhide D9))
  have R9 := hide (reads_under (unhide R4) (unhide D9))
  have Q9 := hide (reads_under (unhide Q4) (unhide D9))
  clear b9 HDC R8 O8' O8 D8 C8 hl8 B5 T5 R5 Q5 O5 D5 Z5 O6 D6 O7 D7 R7
  have B10 := hide ((unhide B9).alloc (unhide B9).size (.cells #[.int .i64 ty, .int .i64 og, .int .i64 sq, .int .i64 hl, .int .i64 hq, .string body] 24))
  have A10 : Hid (Below w9.heap.size w9 (w9.alloc (.cells #[.int .i64 ty, .int .i64 og, .int .i64 sq, .int .i64 hl, .int .i64 hq, .string body] 24))) := hide ((Below.refl _ _).alloc (Nat.le_refl _) _)
  have T10 := hide ((unhide T9).below (unhide A10))
  have R10 := hide (reads_under (unhide R9) (unhide A10))
  have Q10 := hide (reads_under (unhide Q9) (unhide A10))
  have X10 := hide (mb_new w9 ty og sq hl hq body 24)
  have P10 := hide (reads_under (unhide HR') (unhide B10))
  go_wp2_with fail
  generalize hW : w9.alloc (.cells #[.int .i64 ty, .int .i64 og, .int .i64 sq, .int .i64 hl, .int .i64 hq, .string body] 24) = W10 at *
  clear hW
  refine (Go.Proofs.YtmelbilepfnmjaaDoor.At.choice a' bs' cap' 0 E.length _ (by omega) (by omega) (by omega) hbm' (unhide P10)).mono ?_
  rintro e w11 ⟨k, rfl, hk, q, rfl⟩
  have bq : Below W10.heap.size W10 (W10.drewN q) := ⟨rfl, rfl, rfl, Nat.le_refl _, fun _ _ => rfl⟩
  have B11 := hide ((unhide B10).trans (bq.mono (unhide B10).size))
  have T11 := hide ((unhide T10).below bq)
  have X11 := hide ((unhide X10).below bq)
  have R11 := hide (reads_under (unhide R10) bq)
  have Q11 := hide (reads_under (unhide Q10) bq)
  generalize W10.drewN q = w11 at *
  clear bq B10 T10 X10 R10 Q10 P10 A10
  have hck : ((k : Nat) : Int) ≤ (cb : Int) := by omega
  have htl : (E.take k).length = k := by rw [List.length_take]; omega
  have HDC : Hid (Calls Tryd.prog 7 #[.slice (some ⟨gb, 0, none⟩) k cb] w11 fun e w' => e = .returned (.tuple #[.agg #[.int .i64 0, .int .i64 0, .int .i64 0, .int .i64 0, .int .i64 0, .string ⟨#[]⟩], .int .i64 0, .int .i64 3]) ∧ Below w11.heap.size w11 w') := hide (by
    have h := implDec gb (E.take k) cb w11 (by rw [htl]; omega) (by rw [htl]; omega) c3b (reads_take (unhide R11) k)
    rw [unhide HCU k hk, htl] at h
    exact h)
  clear htl
  go_wp2_with fail
  refine (unhide HDC).mono ?_
  rintro e w12 ⟨rfl, b12⟩
  have D12 : Hid (Below w11.heap.size w11 (w12.alloc (.cells #[.int .i64 0, .int .i64 0, .int .i64 0, .int .i64 0, .int .i64 0, .string ⟨#[]⟩] 24))) := hide (b12.alloc b12.size (.cells #[.int .i64 0, .int .i64 0, .int .i64 0, .int .i64 0, .int .i64 0, .string ⟨#[]⟩] 24))
  have B13 := hide ((unhide B11).trans ((unhide D12).mono (unhide B11).size))
  have T13 := hide ((unhide T11).below (unhide D12))
  have X13 := hide ((unhide X11).below (unhide D12))
  have R13 := hide (reads_under (unhide R11) (unhide D12))
  have Q13 := hide (reads_under (unhide Q11) (unhide D12))
  clear b12 HDC D12 B11 T11 X11 R11 Q11
  obtain ⟨⟨z0, z1, z2⟩, z3, z4, z5⟩ := unhide T13
  go_wp2_with fail
  generalize hW : w12.alloc (.cells #[.int .i64 0, .int .i64 0, .int .i64 0, .int .i64 0, .int .i64 0, .string ⟨#[]⟩] 24) = W13 at *
  clear hW
  obtain ⟨tx, htx⟩ := unhide HTX
  have HTXX := hide htx
  clear htx HTX
  refine (Tx.implV ty og sq hl hq body _ (unhide HTP _ (unhide B13))).mono ?_
  rintro e w14 ⟨rfl, b14⟩
  rw [unhide HTXX]
  have B14 := hide ((unhide B13).trans (b14.mono (unhide B13).size))
  have T14 := hide ((unhide T13).below b14)
  have X14 := hide ((unhide X13).below b14)
  have R14 := hide (reads_under (unhide R13) b14)
  have Q14 := hide (reads_under (unhide Q13) b14)
  clear b14 z0 z1 z2 z3 z4 z5 B13 T13 X13 R13 Q13
  obtain ⟨⟨z0, z1, z2⟩, z3, z4, z5⟩ := unhide T14
  go_wp2_with fail
  refine (Tx.specV ty og sq hl hq body _).mono ?_
  rintro e w15 ⟨rfl, b15⟩
  rw [unhide HTXX]
  have B15 := hide ((unhide B14).trans (b15.mono (unhide B14).size))
  have T15 := hide ((unhide T14).below b15)
  have X15 := hide ((unhide X14).below b15)
  have R15 := hide (reads_under (unhide R14) b15)
  have Q15 := hide (reads_under (unhide Q14) b15)
  clear b15 z0 z1 z2 z3 z4 z5 B14 T14 X14 R14 Q14
  have hcv1 := conv_all (cap := cb) (unhide R15)
  have hcv2 := conv_all (cap := cw) (unhide Q15)
  obtain ⟨⟨z0, z1, z2⟩, z3, z4, z5⟩ := unhide T15
  obtain ⟨⟨x0, x1, x2⟩, x3, x4, x5⟩ := unhide X15
  have hee : ((E.length : Int) == (E.length : Int)) = true := by simp
  go_wp2_with fail
  refine (W1.implOK ty og sq hl hq body _).mono ?_
  rintro e w16 ⟨rfl, b16⟩
  rw [unhide HOK]
  have HF := hide ((unhide B15).trans (b16.mono (unhide B15).size))
  clear b16 z0 z1 z2 z3 z4 z5 x0 x1 x2 x3 x4 x5 hcv1 hcv2
  go_wp2_with fail
  go_ret
  exact ⟨rfl, unhide HF⟩

set_option maxRecDepth 100000
theorem gTab : Tryd.prog.globalNamed "internal/strconv.uint64pow10" = some 0 := by kernel_rfl
theorem gType : (Tryd.prog.globals[0]?).map (·.type) = some 64 := by kernel_rfl
theorem cellsA : Tryd.prog.cellsOf 64 = 20 := by kernel_rfl
theorem cellsU : Tryd.prog.cellsOf 58 = 1 := by kernel_rfl
theorem table {W : World} (h : laidMetH Tryd.prog Rows.fnMessagesRow.laid W) : TabP W := by
  have h1 := h.filter (fun x => x.1 == "internal/strconv.uint64pow10")
  have e : (Rows.fnMessagesRow.laid.filter (fun x => x.1 == "internal/strconv.uint64pow10")) = [("internal/strconv.uint64pow10", Lib.tabData .u64 Lib.pow10Tab)] := by kernel_rfl
  rw [e] at h1
  exact Lib.tabIs_of_head gTab gType Tryd.underlying64 Tryd.underlying58 cellsU cellsA (laidMetH_iff.1 h1).1

/-- What the walk gives, for every argument and every world that holds the tables. -/
theorem contract (H : Type) (enc : TypeId × Value → H) (W : World) (base : Nat) (args : Array Value) (ds gs : List (DataW H)) (before : List MemPlace)
    (hval0 : ∀ (j : Nat) t v, Tryd.f3.params[j]? = some t → args[j]? = some v → Value.okWide Tryd.prog W .any base t v)
    (hW : DataW.Whole enc Tryd.prog Tryd.f3.params.toList Rows.fnMessagesSpec.vars false W args.toList ds gs before) (hL : laidMetH Tryd.prog Rows.fnMessagesRow.laid W) :
    Calls Tryd.prog 3 args W fun e W' => ∃ v, e = .returned v ∧ Rows.fnMessagesSpec.post enc Tryd.prog Tryd.f3 false true false false W args v W' := by
  have hval := hval0
  have hW' := hW
  obtain ⟨p, q, hA0, hV, rfl, hfz, hnd⟩ := hW
  have hA : DataW.TrodAll enc Tryd.prog W 0 (fun _ => true) true Tryd.f3.params.toList args.toList ds p := hA0
  rw [Tryd.params3] at hA hval
  obtain ⟨v0, vs0, d0, ds0, p0, q0, hargs0, rfl, rfl, h0, r0⟩ := trodAll_cons hA
  obtain ⟨v1, vs1, d1, ds1, p1, q1, hargs1, rfl, rfl, h1, r1⟩ := trodAll_cons r0
  obtain ⟨rfl, rfl, rfl⟩ := trodAll_nil r1
  obtain rfl : args = #[v0, v1] := by cases args; simp_all
  obtain ⟨rfl, rfl⟩ := trodVars_none hV
  have k0 := h0
  have lt0 : ∀ x ∈ p0, x.block < W.heap.size := by obtain ⟨m, hm⟩ := k0; exact DataW.trod_lt m _ _ _ hm
  have k1 := h1
  have lt1 : ∀ x ∈ p1, x.block < W.heap.size := by obtain ⟨m, hm⟩ := k1; exact DataW.trod_lt m _ _ _ hm
  obtain ⟨a0, len0, cap0, rfl⟩ := okWide_slice Tryd.underlying22 (hval 0 22 v0 rfl rfl)
  obtain ⟨bs0, hlen0, hmx0, hrd0⟩ := Op.open_bytes h0
  subst hlen0
  obtain ⟨a1, len1, cap1, rfl⟩ := okWide_slice Tryd.underlying22 (hval 1 22 v1 rfl rfl)
  obtain ⟨bs1, hlen1, hmx1, hrd1⟩ := Op.open_bytes h1
  subst hlen1
  clear hA0 hval0
  have hT := table hL
  refine (walk a0 bs0 cap0 hmx0 a1 bs1 cap1 hmx1 W hrd0 hrd1 hT).mono fun e W' ⟨he, bel⟩ => ?_
  subst he
  exact ⟨_, rfl, _, _, _, [], _, [], hW', trodAll_mk1 (shut_bool Tryd.underlying4 _), (trodAll_cons_mk (Below.trod laidOut (by kernel_rfl) (of_decide_eq_true (by kernel_rfl)) k0 bel lt0) (trodAll_cons_mk (Below.trod laidOut (by kernel_rfl) (of_decide_eq_true (by kernel_rfl)) k1 bel lt1) trodAll_mk0)), rfl, bel.frame _, fun h => by cases h⟩

def d32 : List Int := [0, 1, 28, 2, 29, 14, 24, 3, 30, 22, 20, 15, 25, 17, 4, 8, 31, 27, 13, 23, 21, 19, 16, 7, 26, 12, 18, 6, 11, 5, 10, 9]
def d64 : List Int := [0, 1, 56, 2, 57, 49, 28, 3, 61, 58, 42, 50, 38, 29, 17, 4, 62, 47, 59, 36, 45, 43, 51, 22, 53, 39, 33, 30, 24, 18, 12, 5, 63, 55, 48, 27, 60, 41, 37, 16, 46, 35, 44, 21, 52, 32, 23, 11, 54, 26, 40, 15, 34, 20, 31, 10, 25, 14, 19, 9, 13, 8, 7, 6]
/-- A block whose cells are these numbers. -/
def laidAs (k : IntKind) (zs : List Int) : Obj → Obj
  | .cells _ t frozen => .cells (zs.map fun z => Value.int k z).toArray t frozen
  | o => o
theorem laid_met (os : Os) : laidMet Tryd.prog Rows.fnMessagesRow.laid (({ World.holding Tryd.prog os ⟨#[], #[], []⟩ with heap := (((World.holding Tryd.prog os ⟨#[], #[], []⟩).heap.modify 0 (laidAs .u64 Lib.pow10Tab)).modify 1 (laidAs .u8 d32)).modify 2 (laidAs .u8 d64) } : World).forCall (fun _ _ => 0) ⟨#[], #[.slice none 0 0, .slice none 0 0], []⟩).memory :=
  laidMet_of_run' 8 (by kernel_rfl) (by kernel_rfl)
theorem whole_of_map {α β γ : Type} {o : Option (α × β × γ)} {a : α} {b : β} (h : o.map (fun x => (x.1, x.2.1)) = some (a, b)) : ∃ c, o = some (a, b, c) := by
  cases o with
  | none => cases h
  | some x => obtain ⟨x1, x2, x3⟩ := x; cases h; exact ⟨x3, rfl⟩
theorem reads (os : Os) {H : Type} (enc : TypeId × Value → H) : ∃ places, DataW.whole enc Tryd.prog (({ World.holding Tryd.prog os ⟨#[], #[], []⟩ with heap := (((World.holding Tryd.prog os ⟨#[], #[], []⟩).heap.modify 0 (laidAs .u64 Lib.pow10Tab)).modify 1 (laidAs .u8 d32)).modify 2 (laidAs .u8 d64) } : World).forCall (fun _ _ => 0) ⟨#[], #[.slice none 0 0, .slice none 0 0], []⟩).memory Tryd.f3.params.toList Rows.fnMessagesSpec.vars false #[.slice none 0 0, .slice none 0 0].toList 8 = some ([.nil, .nil], [], places) :=
  whole_of_map (by kernel_rfl)

set_option maxRecDepth 100000 in
theorem lifted (os : Os) (started : os.Started) (H : Type) (enc : TypeId × Value → H) (F : Stop.Interp) :
    ReturnsInHanded {} Tryd.checked os 3 .any ((OpenSpec.ofChange Rows.fnMessagesSpec).preRow enc Tryd.prog Tryd.f3 Rows.fnMessagesRow.domain false Rows.fnMessagesRow.laid) (((OpenSpec.ofChange Rows.fnMessagesSpec).at F).post enc Tryd.prog Tryd.f3 false true false false) := by
  obtain ⟨places, hx⟩ := reads os enc
  refine returnsInHanded_of_row (C := Tryd.checked) (s := OpenSpec.ofChange Rows.fnMessagesSpec) own started (by kernel_rfl) Tryd.func3
    (witness_row_at (enc := enc) (C := Tryd.checked) false ({ World.holding Tryd.prog os ⟨#[], #[], []⟩ with heap := (((World.holding Tryd.prog os ⟨#[], #[], []⟩).heap.modify 0 (laidAs .u64 Lib.pow10Tab)).modify 1 (laidAs .u8 d32)).modify 2 (laidAs .u8 d64) } : World) #[.slice none 0 0, .slice none 0 0] rfl (by kernel_rfl) (by kernel_rfl) (by kernel_rfl)
      (OpenSpec.preRow_of_cond 8 hx (by kernel_rfl) (fun k hk => by cases hk) (by kernel_rfl) (laid_met os))) ?_
  intro W base args ds gs before hval hW _ _ _ hL _ _
  exact contract H enc W base args ds gs before hval hW hL

theorem said : Rows.FnMessagesSaid :=
  OpenClaim.holds_of_cond 3 Tryd.f3 rfl rfl rfl rfl rfl rfl rfl ⟨rfl, rfl, rfl, rfl, rfl⟩ rfl rfl rfl rfl rfl (by kernel_rfl) Tryd.func3 (by kernel_rfl)
    (of_decide_eq_true (by kernel_rfl)) (by unfold Func.isWrapper; first | (rw [if_pos (by decide +kernel)]; kernel_rfl) | (rw [if_neg (by decide +kernel)]; exact ⟨rfl, rfl⟩))
    (fun os started H enc _ F => by rw [OpenClaim.pre_eq_preRow]; exact lifted os started H enc F)

theorem plain (f : FuncId) (fn : Func) (hf : Tryd.pinned.checked.prog.funcNamed "loop.example/g00419/laws.FnMessages" = some f) (hfn : Tryd.pinned.checked.prog.funcs[f]? = some fn) :
    false = Tryd.pinned.checked.prog.looks [] ∧ ∀ (j : Nat) t, fn.params[j]? = some t → Tryd.pinned.checked.prog.wantsStandIn t = false := by
  obtain rfl : f = 3 := Option.some.inj ((show Tryd.prog.funcNamed "loop.example/g00419/laws.FnMessages" = some 3 by kernel_rfl).symm.trans hf) |>.symm
  obtain rfl : fn = Tryd.f3 := (Option.some.inj (Tryd.func3.symm.trans hfn)).symm
  refine ⟨by kernel_rfl, fun j t ht => ?_⟩
  rw [Tryd.params3] at ht
  have e : t = 22 := by have := Array.mem_of_getElem? ht; simpa using this
  subst e
  exact (show Tryd.prog.wantsStandIn 22 = false by kernel_rfl)
end Go.Proofs.YtmelbilepfnmjaaDoor.fnMessages
namespace Go.Proofs.YtmelbilepfnmjaaDoor
/-- The card: for all slices of bytes FnMessages holds: a message is read back from its bytes; cut it is none. -/
theorem fnMessages_card : Rows.FnMessagesCardSaid :=
  Claim7.holds_tied_plain_at .later [] _ _ _ _ fnMessages.said (fun _ h => by cases h) (by kernel_rfl) (fun _ h => by cases h) fnMessages_row_tie rfl ⟨rfl, rfl⟩ (by kernel_rfl) rfl fnMessages.plain (by kernel_rfl)
end Go.Proofs.YtmelbilepfnmjaaDoor
