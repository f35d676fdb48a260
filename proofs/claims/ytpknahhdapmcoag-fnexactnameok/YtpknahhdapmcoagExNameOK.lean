/-
  Proved here: for every text, laws.FnExactNameOK returns true (the program's NameOK answers as its model at every text) and leaves the text as it was. No condition.
-/
import Derived.Test.YtpknahhdapmcoagRows
import Derived.WalkKit
import Derived.ProofKit
import Derived.OpenShut
import Derived.ShutString
import Derived.Below
namespace Go.Proofs.Ytpknahhdapmcoag.fnExactNameOK
open Go.ChangeShapes Go.WideShapes Go.ChangeAt Go.RowKit
open Go.ChangeMaps (open_string shut_string)
set_option linter.unusedVariables false

theorem own : ownKnob Try.prog.godebug = none := by kernel_rfl

def letB (c : Int) : Bool := (decide (97 ≤ c) && decide (c ≤ 122)) || (decide (65 ≤ c) && decide (c ≤ 90)) || decide (c = 95)
def digB (c : Int) : Bool := decide (48 ≤ c) && decide (c ≤ 57)
def inB (n a b : Int) : Bool := decide (a ≤ n) && decide (n ≤ b)

theorem hide {p : Prop} (h : p) : Hid p := h
theorem unhide {p : Prop} (h : Hid p) : p := h
theorem ret_bool {a b : Bool} (h : a = b) : Ending.returned (.bool a) = .returned (.bool b) := by rw [h]

set_option maxHeartbeats 400000 in
theorem isDigit (c : Int) (w : World) : Calls Try.prog 19 #[.int .u8 c] w fun e w' => e = .returned (.bool (digB c)) ∧ w' = w := by
  by_cases h1 : 48 ≤ c
  all_goals by_cases h2 : c ≤ 57
  all_goals
    go_enter Try.func19, Try.ntmps19
    go_wp2
    go_ret
    exact ⟨ret_bool (by simp [digB, h1, h2]), rfl⟩

set_option maxHeartbeats 400000 in
theorem l00Digit (c : Int) (w : World) : Calls Try.prog 28 #[.int .u8 c] w fun e w' => e = .returned (.bool (digB c)) ∧ w' = w := by
  by_cases h1 : 48 ≤ c
  all_goals by_cases h2 : c ≤ 57
  all_goals
    go_enter Try.func28, Try.ntmps28
    go_wp2
    go_ret
    exact ⟨ret_bool (by simp [digB, h1, h2]), rfl⟩

set_option maxHeartbeats 400000 in
theorem isLetter (c : Int) (w : World) : Calls Try.prog 20 #[.int .u8 c] w fun e w' => e = .returned (.bool (letB c)) ∧ w' = w := by
  by_cases h1 : 97 ≤ c
  all_goals by_cases h2 : c ≤ 122
  all_goals by_cases h3 : 65 ≤ c
  all_goals by_cases h4 : c ≤ 90
  all_goals by_cases h5 : c = 95
  all_goals first
    | (exfalso; omega)
    | (go_enter Try.func20, Try.ntmps20
       go_wp2
       go_ret
       exact ⟨ret_bool (by first | (simp [letB, *]; done) | (rw [Bool.eq_iff_iff]; simp [letB]; omega)), rfl⟩)

set_option maxHeartbeats 400000 in
theorem l00Letter (c : Int) (w : World) : Calls Try.prog 27 #[.int .u8 c] w fun e w' => e = .returned (.bool (letB c)) ∧ w' = w := by
  by_cases h1 : 97 ≤ c
  all_goals by_cases h2 : c ≤ 122
  all_goals by_cases h3 : 65 ≤ c
  all_goals by_cases h4 : c ≤ 90
  all_goals by_cases h5 : c = 95
  all_goals first
    | (exfalso; omega)
    | (go_enter Try.func27, Try.ntmps27
       go_wp2
       go_ret
       exact ⟨ret_bool (by first | (simp [letB, *]; done) | (rw [Bool.eq_iff_iff]; simp [letB]; omega)), rfl⟩)

set_option maxHeartbeats 400000 in
theorem within (n a b : Int) (w : World) : Calls Try.prog 18 #[.int .i64 n, .int .i64 a, .int .i64 b] w fun e w' => e = .returned (.bool (inB n a b)) ∧ w' = w := by
  by_cases h1 : a ≤ n
  all_goals by_cases h2 : n ≤ b
  all_goals
    go_enter Try.func18, Try.ntmps18
    go_wp2
    go_ret
    exact ⟨ret_bool (by simp [inB, h1, h2]), rfl⟩

/-- Every sign from place k on is a letter or a digit. -/
def allB (s : ByteArray) (k : Nat) : Bool := (s.data.toList.drop k).all fun c => letB c.toNat || digB c.toNat
def nameB (s : ByteArray) : Bool := inB s.size 1 40 && !digB (s.data.toList.headD 0).toNat && allB s 0

theorem allB_end (s : ByteArray) (k : Nat) (h : s.size ≤ k) : allB s k = true := by
  unfold allB
  rw [List.drop_eq_nil_of_le (by simpa using h)]; rfl
theorem allB_step (s : ByteArray) (k : Nat) (h : k < s.size) : allB s k = ((letB s[k].toNat || digB s[k].toNat) && allB s (k + 1)) := by
  unfold allB
  rw [List.drop_eq_getElem_cons (by simpa using h)]; rfl
theorem head_eq (s : ByteArray) (h : 0 < s.size) : s.data.toList.headD 0 = s[0] := by
  cases e : s.data.toList with
  | nil => have : s.data.toList.length = 0 := by rw [e]; rfl
           rw [Array.length_toList] at this; exact absurd this (by have : s.data.size = s.size := rfl; omega)
  | cons a r => have h0 : s.data.toList[0]? = some a := by rw [e]; rfl
                show a = s.data[0]
                rw [Array.getElem?_toList, Array.getElem?_eq_getElem (by exact h)] at h0
                exact (Option.some.inj h0).symm

set_option maxHeartbeats 400000 in
theorem implName (s : ByteArray) (w : World) (hs : s.size ≤ maxLen) :
    Calls Try.prog 7 #[.string s] w fun e w' => e = .returned (.bool (nameB s)) ∧ w' = w := by
  unfold maxLen at hs
  cases hin : inB s.size 1 40
  · have hfin : Hid (nameB s = false) := hide (by simp [nameB, hin])
    go_enter Try.func7, Try.ntmps7
    go_wp2_with (first | (go_at_call 18; refine (within _ _ _ _).mono ?_; rintro e w' ⟨rfl, rfl⟩) | (go_at_call 19; refine (isDigit _ _).mono ?_; rintro e w' ⟨rfl, rfl⟩) | (go_at_call 20; refine (isLetter _ _).mono ?_; rintro e w' ⟨rfl, rfl⟩))
    go_ret
    exact ⟨ret_bool (unhide hfin).symm, rfl⟩
  · have hp : 0 < s.size := by simp [inB] at hin; omega
    cases hd : digB s[0].toNat
    · have hfin : Hid (nameB s = allB s 0) := hide (by unfold nameB; rw [head_eq s hp, hin, hd]; rfl)
      go_enter Try.func7, Try.ntmps7
      go_wp2_with (first | (go_at_call 18; refine (within _ _ _ _).mono ?_; rintro e w' ⟨rfl, rfl⟩) | (go_at_call 19; refine (isDigit _ _).mono ?_; rintro e w' ⟨rfl, rfl⟩) | (go_at_call 20; refine (isLetter _ _).mono ?_; rintro e w' ⟨rfl, rfl⟩))
      go_loop [15] (fun i => ∃ k : Nat, k ≤ s.size ∧ i = .int .i64 k ∧ Hid (nameB s = allB s k)) (fun i => s.size - (intOf i).toNat)
      case atStart => exact ⟨0, Nat.zero_le _, rfl, hfin⟩
      case round =>
        obtain ⟨k, hk, rfl, hrel⟩ := hrel
        clear hfin
        by_cases hlt : k < s.size
        · have hst : Hid _ := hide (allB_step s k hlt)
          cases hl : letB s[k].toNat
          all_goals cases hdg : digB s[k].toNat
          · go_wp2_with (first | (go_at_call 18; refine (within _ _ _ _).mono ?_; rintro e w' ⟨rfl, rfl⟩) | (go_at_call 19; refine (isDigit _ _).mono ?_; rintro e w' ⟨rfl, rfl⟩) | (go_at_call 20; refine (isLetter _ _).mono ?_; rintro e w' ⟨rfl, rfl⟩))
            go_ret
            exact ⟨ret_bool (by rw [unhide hrel, unhide hst, hl, hdg]; rfl), rfl⟩
          all_goals
            go_wp2_with (first | (go_at_call 18; refine (within _ _ _ _).mono ?_; rintro e w' ⟨rfl, rfl⟩) | (go_at_call 19; refine (isDigit _ _).mono ?_; rintro e w' ⟨rfl, rfl⟩) | (go_at_call 20; refine (isLetter _ _).mono ?_; rintro e w' ⟨rfl, rfl⟩))
            go_round
            case rel => exact ⟨k + 1, by omega, by go_num, hide (by rw [unhide hrel, unhide hst, hl, hdg]; rfl)⟩
            case measure => simp [intOf]; omega
        · go_wp2
          go_ret
          exact ⟨ret_bool (by rw [unhide hrel, allB_end s k (by omega)]), rfl⟩
    · have hfin : Hid (nameB s = false) := hide (by unfold nameB; rw [head_eq s hp, hin, hd]; rfl)
      go_enter Try.func7, Try.ntmps7
      go_wp2_with (first | (go_at_call 18; refine (within _ _ _ _).mono ?_; rintro e w' ⟨rfl, rfl⟩) | (go_at_call 19; refine (isDigit _ _).mono ?_; rintro e w' ⟨rfl, rfl⟩) | (go_at_call 20; refine (isLetter _ _).mono ?_; rintro e w' ⟨rfl, rfl⟩))
      go_ret
      exact ⟨ret_bool (unhide hfin).symm, rfl⟩

theorem nameB_at (s : ByteArray) (hp : 0 < s.size) : nameB s = (inB s.size 1 40 && letB s[0].toNat && allB s 1) := by
  unfold nameB
  rw [head_eq s hp, allB_step s 0 hp]
  have : letB s[0].toNat = true → digB s[0].toNat = false := by
    intro h; simp [letB, digB] at *; omega
  cases h1 : letB s[0].toNat <;> cases h2 : digB s[0].toNat <;> simp_all

set_option maxHeartbeats 400000 in
theorem specWord (s : ByteArray) (w : World) (hs : s.size ≤ maxLen) :
    Calls Try.prog 17 #[.string s] w fun e w' => e = .returned (.bool (nameB s)) ∧ w' = w := by
  unfold maxLen at hs
  by_cases hp : 0 < s.size
  · by_cases hq : s.size ≤ 40
    · have hin : inB s.size 1 40 = true := by simp [inB]; omega
      cases hd : letB s[0].toNat
      · have hfin : Hid (nameB s = false) := hide (by rw [nameB_at s hp, hin, hd]; rfl)
        clear hin
        go_enter Try.func17, Try.ntmps17
        go_wp2_with (first | (go_at_call 28; refine (l00Digit _ _).mono ?_; rintro e w' ⟨rfl, rfl⟩) | (go_at_call 27; refine (l00Letter _ _).mono ?_; rintro e w' ⟨rfl, rfl⟩))
        go_ret
        exact ⟨ret_bool (unhide hfin).symm, rfl⟩
      · have hfin : Hid (nameB s = allB s 1) := hide (by rw [nameB_at s hp, hin, hd]; rfl)
        clear hin
        go_enter Try.func17, Try.ntmps17
        go_wp2_with (first | (go_at_call 28; refine (l00Digit _ _).mono ?_; rintro e w' ⟨rfl, rfl⟩) | (go_at_call 27; refine (l00Letter _ _).mono ?_; rintro e w' ⟨rfl, rfl⟩))
        go_loop [3] (fun i => ∃ k : Nat, k ≤ s.size ∧ i = .int .i64 k ∧ Hid (nameB s = allB s k)) (fun i => s.size - (intOf i).toNat)
        case atStart => exact ⟨1, hp, rfl, hfin⟩
        case round =>
          obtain ⟨k, hk, rfl, hrel⟩ := hrel
          clear hfin
          by_cases hlt : k < s.size
          · have hst : Hid _ := hide (allB_step s k hlt)
            cases hl : letB s[k].toNat
            all_goals cases hdg : digB s[k].toNat
            · go_wp2_with (first | (go_at_call 28; refine (l00Digit _ _).mono ?_; rintro e w' ⟨rfl, rfl⟩) | (go_at_call 27; refine (l00Letter _ _).mono ?_; rintro e w' ⟨rfl, rfl⟩))
              go_ret
              exact ⟨ret_bool (by rw [unhide hrel, unhide hst, hl, hdg]; rfl), rfl⟩
            all_goals
              go_wp2_with (first | (go_at_call 28; refine (l00Digit _ _).mono ?_; rintro e w' ⟨rfl, rfl⟩) | (go_at_call 27; refine (l00Letter _ _).mono ?_; rintro e w' ⟨rfl, rfl⟩))
              go_round
              case rel => exact ⟨k + 1, by omega, by go_num, hide (by rw [unhide hrel, unhide hst, hl, hdg]; rfl)⟩
              case measure => simp [intOf]; omega
          · go_wp2
            go_ret
            exact ⟨ret_bool (by rw [unhide hrel, allB_end s k (by omega)]), rfl⟩
    · have hfin : Hid (nameB s = false) := hide (by simp [nameB, inB]; omega)
      go_enter Try.func17, Try.ntmps17
      go_wp2_with (first | (go_at_call 28; refine (l00Digit _ _).mono ?_; rintro e w' ⟨rfl, rfl⟩) | (go_at_call 27; refine (l00Letter _ _).mono ?_; rintro e w' ⟨rfl, rfl⟩))
      go_ret
      exact ⟨ret_bool (unhide hfin).symm, rfl⟩
  · have hfin : Hid (nameB s = false) := hide (by simp [nameB, inB]; omega)
    go_enter Try.func17, Try.ntmps17
    go_wp2_with (first | (go_at_call 28; refine (l00Digit _ _).mono ?_; rintro e w' ⟨rfl, rfl⟩) | (go_at_call 27; refine (l00Letter _ _).mono ?_; rintro e w' ⟨rfl, rfl⟩))
    go_ret
    exact ⟨ret_bool (unhide hfin).symm, rfl⟩

set_option maxHeartbeats 400000 in
theorem specName (s : ByteArray) (w : World) (hs : s.size ≤ maxLen) :
    Calls Try.prog 6 #[.string s] w fun e w' => e = .returned (.bool (nameB s)) ∧ w' = w := by
  go_enter Try.func6, Try.ntmps6
  go_wp2_with (go_at_call 17; refine (specWord _ _ hs).mono ?_; rintro e w' ⟨rfl, rfl⟩)
  go_ret
  exact ⟨rfl, rfl⟩

theorem walk (a0 : ByteArray) (w0 : a0.size ≤ maxLen) (w : World) :
    Calls Try.prog 3 #[.string a0] w fun e w' => e = .returned (.bool true) ∧ Grown w w' := by
  have hs := w0
  unfold maxLen at hs
  cases hn : nameB a0
  all_goals
    by_cases hb : (1048576 : Int) < a0.size
    all_goals
      go_enter Try.func3, Try.ntmps3
      go_wp2_with (first | (go_at_call 6; refine (specName _ _ w0).mono ?_; rintro e w' ⟨rfl, rfl⟩) | (go_at_call 7; refine (implName _ _ w0).mono ?_; rintro e w' ⟨rfl, rfl⟩))
      go_ret
      exact ⟨rfl, Grown.refl _⟩

/-! ### THE ROW's STEP: WRITTEN OUT: LEAVE IT -/
set_option maxRecDepth 100000 in
theorem lifted (os : Os) (started : os.Started) (H : Type) (enc : TypeId × Value → H) :
    ReturnsInHanded {} Try.checked os 3 .any (Rows.fnExactNameOKSpec.pre6 enc Try.prog Try.f3 Rows.fnExactNameOKRow.domain false) (Rows.fnExactNameOKSpec.post enc Try.prog Try.f3 false true false false) := by
  refine returnsInHanded_of_change (C := Try.checked) own started (by kernel_rfl) Try.func3
    (ChangeSpec.witness6 (enc := enc) (C := Try.checked) false ⟨#[], #[.string ByteArray.empty], []⟩ 8 (by kernel_rfl) (by kernel_rfl) (by kernel_rfl) (by kernel_rfl)) ?_
  intro W base args ds gs before hval0 hW hcnd _
  have hval : ∀ (j : Nat) t v, Try.f3.params[j]? = some t → args[j]? = some v → Value.okWide Try.prog W .any base t v := hval0
  have hW' := hW
  obtain ⟨p, q, hA0, hV, rfl, hfz, hnd⟩ := hW
  have hA : DataW.TrodAll enc Try.prog W 0 (fun _ => true) true Try.f3.params.toList args.toList ds p := hA0
  rw [Try.params3] at hA hval
  obtain ⟨v0, vs0, d0, ds0, p0, q0, hargs, rfl, rfl, h0, r0⟩ := trodAll_cons hA
  obtain ⟨rfl, rfl, rfl⟩ := trodAll_nil r0
  obtain rfl : args = #[v0] := by cases args; simp_all
  obtain ⟨rfl, rfl⟩ := trodVars_none hV
  obtain ⟨a0, rfl, rfl, rfl, w0⟩ := open_string Try.underlying9 (hval 0 9 v0 rfl rfl) h0
  clear hA0 hval0
  simp only [List.append_nil] at hW'
  refine (walk a0 w0 W).mono fun e W' ⟨he, hg⟩ => ?_
  subst he
  exact ⟨_, rfl, post_of_same (pa := []) (pv := []) hW' (fun _ _ _ => (trodAll_cons_mk (shut_bool Try.underlying4 _) trodAll_mk0)) (fun sp _ => (trodAll_cons_mk (shut_string Try.underlying9 w0) trodAll_mk0)) (fun _ _ => rfl) rfl
    (hg.frame _) hg.2.1 (ok_one (by kernel_rfl) rfl (okWide_bool_mk Try.underlying4 _))⟩

theorem over : Rows.fnExactNameOKRow.holds Try.pinned (OpenSpec.ofChange Rows.fnExactNameOKSpec) :=
  OpenClaim.holds_of_wide 3 Try.f3 rfl rfl rfl rfl rfl rfl rfl ⟨rfl, rfl, rfl, rfl, rfl⟩ rfl rfl rfl rfl rfl (by kernel_rfl) Try.func3 (by kernel_rfl)
    (of_decide_eq_true (by kernel_rfl)) (by unfold Func.isWrapper; first | (rw [if_pos (by decide +kernel)]; kernel_rfl) | (rw [if_neg (by decide +kernel)]; exact ⟨rfl, rfl⟩))
    (fun os started H enc _ => lifted os started H enc)

/-- The statement. -/
theorem proved : Rows.FnExactNameOKSaid :=
  over
end Go.Proofs.Ytpknahhdapmcoag.fnExactNameOK
namespace Go.Proofs.Ytpknahhdapmcoag
/-- For every text the program's NameOK answers as its model. -/
theorem fnExactNameOK_holds : Rows.FnExactNameOKSaid := fnExactNameOK.proved
end Go.Proofs.Ytpknahhdapmcoag
