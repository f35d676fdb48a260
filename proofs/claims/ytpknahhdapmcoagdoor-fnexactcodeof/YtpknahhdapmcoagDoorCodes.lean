/-
  Contracts of CodeWord and CodeOf, the program's and the model's: for every code and every word, where the program's table of words lies as its initialiser lays it. They change nothing that was there.
-/
import Derived.Test.YtpknahhdapmcoagDoorCards
import Derived.Test.YtpknahhdapmcoagDoorTie
import Derived.WalkKit
import Derived.ProofKit
import Derived.OpenShut
import Derived.ShutString
import Derived.ChangeOld
import Derived.Below
import Derived.OpenVars
import Derived.Deep.DeepHandedRow
import Derived.Lib.LaidTab
namespace Go.Proofs.YtpknahhdapmcoagDoor
open Go.ChangeShapes Go.WideShapes Go.ChangeAt Go.RowKit
set_option linter.unusedVariables false
namespace Codes
theorem hide {p : Prop} (h : p) : Hid p := h
theorem unhide {p : Prop} (h : Hid p) : p := h
theorem ret_bool {a b : Bool} (h : a = b) : Ending.returned (.bool a) = .returned (.bool b) := by rw [h]
theorem ret_int {k : IntKind} {a b : Int} (h : a = b) : Ending.returned (.int k a) = .returned (.int k b) := by rw [h]
theorem ret_string {a b : ByteArray} (h : a = b) : Ending.returned (.string a) = .returned (.string b) := by rw [h]
theorem bcell {W w1 : World} (hb : Below W.heap.size W w1) : (∀ b o, b < W.heap.size → w1.cell? ⟨b, o, none⟩ = W.cell? ⟨b, o, none⟩) ∧ (∀ b o, b < W.heap.size → w1.frozen? ⟨b, o, none⟩ = W.frozen? ⟨b, o, none⟩) :=
  ⟨fun b o h => hb.cell (p := ⟨b, o, none⟩) h, fun b o h => hb.frozen (p := ⟨b, o, none⟩) h⟩

/-- The words, in their codes' order. -/
def words : List (List UInt8) := [[111, 107], [98, 97, 100], [108, 111, 110, 103], [102, 111, 114, 109], [114, 97, 110, 103, 101], [110, 111, 110, 101], [109, 97, 110, 121], [102, 117, 108, 108], [116, 119, 105, 99, 101], [115, 101, 108, 102], [111, 108, 100], [115, 116, 97, 108, 101], [110, 97, 109, 101], [108, 111, 111, 112], [112, 108, 97, 99, 101], [98, 117, 115, 121], [108, 105, 110, 107], [111, 114, 100, 101, 114], [116, 121, 112, 101], [101, 110, 100]]
def word (c : Int) : ByteArray := if 0 ≤ c ∧ c ≤ 19 then ⟨(words.getD c.toNat []).toArray⟩ else ⟨#[]⟩
/-- The table lies where the program's variable is. -/
def Table (w : World) : Prop := ∀ k : Nat, k < 20 → w.cell? ⟨0, k, none⟩ = some (.string (word k))

theorem Table.stays {w w' : World} (h : Table w) (hb : Below w.heap.size w w') : Table w' := fun k hk => by
  have hz := World.block_lt_of_cell? _ _ (h k hk)
  rw [hb.cell hz]; exact h k hk

/-- An array of texts that reads as a list of texts holds them, cell for cell. -/
theorem cells_of_strs {H : Type} {enc : TypeId × Value → H} {P : Program} {w : World} {base : Nat} {sp : Nat → Bool} {held : Bool} {fuel : Nat} {t e : TypeId} {n : Nat} {cs : List Value} {bs : List (List UInt8)} {p : List MemPlace}
    (ht : P.underlying t = some (.array n e)) (he : P.underlying e = some .string) (hce : P.cellsOf e = 1) (hct : P.cellsOf t = n)
    (h : DataW.trod enc P w base sp held fuel t cs = some (.agg (bs.map fun b => .lit (.string b)), p)) : cs = bs.map fun b => Value.string ⟨b.toArray⟩ := by
  cases fuel with
  | zero => simp [DataW.trod] at h
  | succ fuel =>
    simp only [DataW.trod, ht, hce, hct, Nat.mul_one] at h
    split at h
    · rename_i hl
      obtain ⟨xs, hm, hx⟩ := Option.map_eq_some_iff.1 h
      have hxs : xs.map (·.1) = bs.map fun b => (DataW.lit (.string b) : DataW H) := by
        have := congrArg Prod.fst hx
        simpa using this
      have hxl : xs.length = n := by simpa using Lib.mapM_length hm
      have hzl : bs.length = n := by
        have := congrArg List.length hxs
        simp at this
        omega
      apply List.ext_getElem?
      intro i
      by_cases hi : i < n
      · obtain ⟨b, hb, hf⟩ := Lib.mapM_at hm i i (by simp [hi])
        obtain ⟨z, hc, rfl, _⟩ := DataW.trod_string he hf
        have h1 : cs[i]? = some (.string z) := by
          have := congrArg (·[0]?) hc
          simpa [List.getElem?_take, List.getElem?_drop] using this
        have h2 : (xs.map (·.1))[i]? = some (DataW.lit (.string z.data.toList) : DataW H) := by simp [hb]
        rw [hxs] at h2
        simp only [List.getElem?_map, Option.map_eq_some_iff, DataW.lit.injEq, Lit.string.injEq] at h2
        obtain ⟨z', hz', e2⟩ := h2
        have e3 : z = ⟨z'.toArray⟩ := by rw [e2]
        rw [h1, List.getElem?_map, hz', e3]; rfl
      · rw [List.getElem?_eq_none (by omega), List.getElem?_eq_none (by simp; omega)]
    · cases h

theorem gTab : Tryd.prog.globalNamed "loop.example/g00419/impl.codeWords" = some 0 := by kernel_rfl
theorem gType : (Tryd.prog.globals[0]?).map (·.type) = some 28 := by kernel_rfl
theorem cellsA : Tryd.prog.cellsOf 28 = 20 := by kernel_rfl
theorem cellsS : Tryd.prog.cellsOf 9 = 1 := by kernel_rfl
theorem word_at : ∀ k : Nat, k < 20 → (words.map fun b => Value.string ⟨b.toArray⟩)[k]? = some (.string (word k)) := by
  intro k hk
  have e : word k = ⟨(words.getD k []).toArray⟩ := by
    unfold word
    rw [if_pos (by omega)]; simp
  rw [e, List.getElem?_map]
  have hl : k < words.length := hk
  rw [List.getElem?_eq_getElem hl]
  simp [List.getD, List.getElem?_eq_getElem hl]
/-- What the row's list gives. -/
theorem table {W : World} (h : laidMetH Tryd.prog [("loop.example/g00419/impl.codeWords", Rows.laid_loop_example_g00419_impl_codeWords)] W) : Table W := by
  obtain ⟨⟨ps, ⟨g', t', cs, fuel, p, q, hg', ht', hvar, hd, _, _⟩, _⟩, _⟩ := laidMetH_iff.1 h
  obtain rfl := Option.some.inj (gTab.symm.trans hg')
  obtain rfl := Option.some.inj (gType.symm.trans ht')
  have hc := cells_of_strs (bs := words) Tryd.underlying28 Tryd.underlying9 cellsS cellsA hd
  intro k hk
  have := World.var?_cell gTab hvar k
  rw [this]
  have h2 := word_at k hk
  rw [← hc] at h2
  simpa using h2

def inB (n a b : Int) : Bool := decide (a ≤ n) && decide (n ≤ b)
theorem within (n a b : Int) (w : World) : Calls Tryd.prog 9 #[.int .i64 n, .int .i64 a, .int .i64 b] w fun e w' => e = .returned (.bool (inB n a b)) ∧ w' = w := by
  by_cases h1 : a ≤ n
  all_goals by_cases h2 : n ≤ b
  all_goals
    go_enter Tryd.func9, Tryd.ntmps9
    go_wp2
    go_ret
    exact ⟨ret_bool (by simp [inB, h1, h2]), rfl⟩

theorem word_out {c : Int} (h : ¬(0 ≤ c ∧ c ≤ 19)) : word c = ⟨#[]⟩ := by unfold word; rw [if_neg h]

set_option maxHeartbeats 400000 in
theorem implWord (c : Int) (w : World) (hT : Table w) :
    Calls Tryd.prog 6 #[.int .i64 c] w fun e w' => e = .returned (.string (word c)) ∧ w' = w := by
  by_cases h : 0 ≤ c ∧ c ≤ 19
  · obtain ⟨k, rfl⟩ := Int.eq_ofNat_of_zero_le h.1
    have hk : (k : Int) < 20 := by omega
    have hin : inB k 0 19 = true := by simp [inB]; omega
    have hc := hT k (by omega)
    clear hT
    go_enter Tryd.func6, Tryd.ntmps6
    go_wp2_with (go_at_call 9; refine (within _ _ _ _).mono ?_; rintro e w' ⟨rfl, rfl⟩)
    go_ret
    exact ⟨rfl, rfl⟩
  · have hin : inB c 0 19 = false := by simp [inB]; omega
    have hfin := hide (word_out h)
    clear h
    go_enter Tryd.func6, Tryd.ntmps6
    go_wp2_with (go_at_call 9; refine (within _ _ _ _).mono ?_; rintro e w' ⟨rfl, rfl⟩)
    go_ret
    exact ⟨ret_string (unhide hfin).symm, rfl⟩


set_option maxHeartbeats 400000 in
theorem specWord (c : Int) (w : World) :
    Calls Tryd.prog 5 #[.int .i64 c] w fun e w' => e = .returned (.string (word c)) ∧ Below w.heap.size w w' := by
  by_cases h : 0 ≤ c ∧ c ≤ 19
  · obtain ⟨k, rfl⟩ := Int.eq_ofNat_of_zero_le h.1
    have hk : (k : Int) < 20 := by omega
    have hc : ([Value.string ⟨#[111, 107]⟩, Value.string ⟨#[98, 97, 100]⟩, Value.string ⟨#[108, 111, 110, 103]⟩, Value.string ⟨#[102, 111, 114, 109]⟩, Value.string ⟨#[114, 97, 110, 103, 101]⟩, Value.string ⟨#[110, 111, 110, 101]⟩, Value.string ⟨#[109, 97, 110, 121]⟩, Value.string ⟨#[102, 117, 108, 108]⟩, Value.string ⟨#[116, 119, 105, 99, 101]⟩, Value.string ⟨#[115, 101, 108, 102]⟩, Value.string ⟨#[111, 108, 100]⟩, Value.string ⟨#[115, 116, 97, 108, 101]⟩, Value.string ⟨#[110, 97, 109, 101]⟩, Value.string ⟨#[108, 111, 111, 112]⟩, Value.string ⟨#[112, 108, 97, 99, 101]⟩, Value.string ⟨#[98, 117, 115, 121]⟩, Value.string ⟨#[108, 105, 110, 107]⟩, Value.string ⟨#[111, 114, 100, 101, 114]⟩, Value.string ⟨#[116, 121, 112, 101]⟩, Value.string ⟨#[101, 110, 100]⟩] : List Value)[k]? = some (.string (word k)) := word_at k (by omega)
    clear h
    go_enter Tryd.func5, Tryd.ntmps5
    go_wp2
    go_ret
    exact ⟨rfl, (Below.refl _ _).alloc (Nat.le_refl _) _⟩
  · have hfin := hide (word_out h)
    by_cases h1 : c < 0
    all_goals
      have h2 : c < 0 ∨ 20 ≤ c := by omega
      clear h
      go_enter Tryd.func5, Tryd.ntmps5
      go_wp2
      go_ret
      exact ⟨ret_string (unhide hfin).symm, (Below.refl _ _).alloc (Nat.le_refl _) _⟩

/-- The first code from 20 - f on whose word it is, or -1. -/
def idx (s : ByteArray) : Nat → Int
  | 0 => -1
  | f + 1 => if (word ((20 - (f + 1) : Nat) : Int)).toList == s.toList then ((20 - (f + 1) : Nat) : Int) else idx s f
theorem idx_hit (s : ByteArray) (k : Nat) (hk : k < 20) (h : ((word (k : Int)).toList == s.toList) = true) : idx s (20 - k) = k := by
  obtain ⟨f, hf⟩ : ∃ f, 20 - k = f + 1 := ⟨19 - k, by omega⟩
  have e : 20 - (f + 1) = k := by omega
  rw [hf]; unfold idx; rw [e, if_pos h]
theorem idx_miss (s : ByteArray) (k : Nat) (hk : k < 20) (h : ((word (k : Int)).toList == s.toList) = false) : idx s (20 - k) = idx s (20 - (k + 1)) := by
  obtain ⟨f, hf⟩ : ∃ f, 20 - k = f + 1 := ⟨19 - k, by omega⟩
  have e : 20 - (f + 1) = k := by omega
  have e2 : 20 - (k + 1) = f := by omega
  rw [hf, e2]; conv => lhs; unfold idx
  rw [e, if_neg (by simp [h])]

set_option maxHeartbeats 400000 in
theorem implOf (s : ByteArray) (w : World) (hT : Table w) :
    Calls Tryd.prog 8 #[.string s] w fun e w' => e = .returned (.int .i64 (idx s 20)) ∧ w' = w := by
  have HT := hide hT
  clear hT
  go_enter Tryd.func8, Tryd.ntmps8
  go_wp2
  go_loop [4] (fun i => ∃ k : Nat, k ≤ 20 ∧ i = .int .i64 k ∧ Hid (idx s 20 = idx s (20 - k))) (fun i => 20 - (intOf i).toNat)
  case atStart => exact ⟨0, by omega, rfl, hide rfl⟩
  case round =>
    obtain ⟨k, hk, rfl, hrel⟩ := hrel
    by_cases hlt : (k : Int) < 20
    · have hc := unhide HT k (by omega)
      cases hw : (word k).toList == s.toList
      · have hm := hide (idx_miss s k (by omega) hw)
        go_wp2
        go_round
        case rel => exact ⟨k + 1, by omega, by go_num, hide ((unhide hrel).trans (unhide hm))⟩
        case measure => simp [intOf]; omega
      · have hm := hide (idx_hit s k (by omega) hw)
        go_wp2
        go_ret
        exact ⟨ret_int ((unhide hrel).trans (unhide hm)).symm, rfl⟩
    · have e : k = 20 := by omega
      subst e
      go_wp2
      go_ret
      exact ⟨ret_int (unhide hrel).symm, rfl⟩
set_option maxHeartbeats 400000 in
theorem specOf (s : ByteArray) (w : World) :
    Calls Tryd.prog 7 #[.string s] w fun e w' => e = .returned (.int .i64 (idx s 20)) ∧ Below w.heap.size w w' := by
  go_enter Tryd.func7, Tryd.ntmps7
  go_wp2
  go_loopw [3] (fun i wr => ∃ k : Nat, k ≤ 20 ∧ i = .int .i64 k ∧ Hid (idx s 20 = idx s (20 - k)) ∧ Below w.heap.size w wr) (fun i _ => 20 - (intOf i).toNat)
  case atStart => exact ⟨0, by omega, rfl, hide rfl, Below.refl _ _⟩
  case round =>
    obtain ⟨k, hk, rfl, hrel, hb⟩ := hrel
    by_cases hlt : (k : Int) ≤ 19
    · cases hw : (word k).toList == s.toList
      · have hm := hide (idx_miss s k (by omega) hw)
        go_wp2_with (go_at_call 5; refine (specWord _ _).mono ?_; rintro e w' ⟨rfl, b1⟩)
        go_roundw
        case rel => exact ⟨k + 1, by omega, by go_num, hide ((unhide hrel).trans (unhide hm)), hb.trans (b1.mono hb.size)⟩
        case measure => simp [intOf]; omega
      · have hm := hide (idx_hit s k (by omega) hw)
        go_wp2_with (go_at_call 5; refine (specWord _ _).mono ?_; rintro e w' ⟨rfl, b1⟩)
        go_ret
        exact ⟨ret_int ((unhide hrel).trans (unhide hm)).symm, hb.trans (b1.mono hb.size)⟩
    · have e : k = 20 := by omega
      subst e
      go_wp2
      go_ret
      exact ⟨ret_int (unhide hrel).symm, hb⟩
end Codes
end Go.Proofs.YtpknahhdapmcoagDoor
