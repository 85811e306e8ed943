/- The document's own answers on numbers as bytes (isPrim, In, numberText), each by its contract. -/
import Derived.Test.YtmmgihaoahhkjaaKParse
namespace Go.Proofs.Ytmmgihaoahhkjaa
set_option maxRecDepth 20000
open Go.ChangeShapes Go.WideShapes Go.ChangeAt Go.RowKit
set_option linter.unusedVariables false



theorem rin_yes (n : Int) (h : -1152921504606846976 ≤ n ∧ n ≤ 1152921504606846976) (w : World) :
    Calls Try.prog 75 #[.int .i64 n] w fun e w' => e = .returned (.bool true) ∧ w' = w := by
  obtain ⟨h1, h2⟩ := h
  have h3 : -n ≤ 1152921504606846976 := by omega
  by_cases h0 : n = 0
  · subst h0
    go_enter Try.func75, Try.ntmps75
    go_wp2
    go_ret
    exact ⟨rfl, rfl⟩
  · have h4 : ¬ n = -n := by omega
    go_enter Try.func75, Try.ntmps75
    go_wp2
    go_ret
    exact ⟨rfl, rfl⟩

theorem rin_no (n : Int) (h : ¬ (-1152921504606846976 ≤ n ∧ n ≤ 1152921504606846976)) (hb : -4611686018427387904 ≤ n ∧ n ≤ 4611686018427387904) (w : World) :
    Calls Try.prog 75 #[.int .i64 n] w fun e w' => e = .returned (.bool false) ∧ w' = w := by
  obtain ⟨b1, b2⟩ := hb
  have h0 : ¬ n = 0 := by omega
  have h00 : (n == 0) = false := by simpa using h0
  by_cases h1 : n ≤ 1152921504606846976
  · have h3 : 1152921504606846976 < -n := by omega
    go_enter Try.func75, Try.ntmps75
    go_wp2
    all_goals
      go_ret
      exact Lf.retb (by simp; try omega) rfl
  · have h2 : 1152921504606846976 < n := by omega
    go_enter Try.func75, Try.ntmps75
    go_wp2
    all_goals
      go_ret
      exact Lf.retb (by simp; try omega) rfl

theorem rets {a b : ByteArray} (h : a = b) : Ending.returned (.string a) = .returned (.string b) := by rw [h]

/-- one byte as a text -/
theorem conv1 (w : World) (z : Int) (b : UInt8) (hz : z = b.toNat) :
    (convert 135 9 (.slice (some ⟨w.heap.size, 0, none⟩) 1 1)).run Try.prog (w.alloc (.cells #[.int .u8 z] 5)) = .ok (.string (bs [b])) (w.alloc (.cells #[.int .u8 z] 5)) := by
  subst hz
  refine run_convert_bytes_back (w.alloc (.cells #[.int .u8 b.toNat] 5)) 135 9 5 ⟨w.heap.size, 0, none⟩ 1 [b] Try.underlying135 Try.underlying5 Try.underlying9 fun j hj => ?_
  match j, hj with
  | 0, _ => simp [Addr.add]

theorem bs_append (a b : List UInt8) : bs a ++ bs b = bs (a ++ b) := by
  apply ByteArray.ext
  rw [ByteArray.data_append]
  apply Array.ext'
  simp [bs]

theorem u8int (x : Nat) (h : x < 256) : (x : Int) = (x.toUInt8).toNat := by rw [toU8 x h]







end Go.Proofs.Ytmmgihaoahhkjaa

/- The document's own In by its contract, for every number of 64 bits. -/
namespace Go.Proofs.Ytmmgihaoahhkjaa
set_option maxRecDepth 20000
open Go.ChangeShapes Go.WideShapes Go.ChangeAt Go.RowKit
set_option linter.unusedVariables false

theorem rin_far (a : Int) (w : World) (hw : I64 a) (h : ¬ (-1152921504606846976 ≤ a ∧ a ≤ 1152921504606846976)) :
    Calls Try.prog 75 #[.int .i64 a] w fun e w' => e = .returned (.bool false) ∧ w' = w := by
  obtain ⟨w1, w2⟩ := hw
  have h0 : (a == 0) = false := beq_eq_false_iff_ne.2 (by omega)
  by_cases h1 : 1152921504606846976 < a
  · clear h
    go_enter Try.func75, Try.ntmps75
    go_wp2
    go_ret
    exact Lf.retb (by simp) rfl
  · by_cases h2 : a = -9223372036854775808
    · subst h2
      clear h h1 w1 w2 h0
      have hv : wrap64 9223372036854775808 = -9223372036854775808 := by unfold wrap64; decide
      go_enter Try.func75, Try.ntmps75
      go_wp2
      go_ret
      first | exact ⟨rfl, rfl⟩ | exact Lf.retb (by rw [hv]; decide) rfl
    · have h3 : 1152921504606846976 < -a := by omega
      have h4 : a ≤ 1152921504606846976 := by omega
      have w3 : -9223372036854775807 ≤ a := by omega
      clear h h1 h2
      go_enter Try.func75, Try.ntmps75
      go_wp2
      go_ret
      exact Lf.retb (by simp) rfl

theorem rin_all (a : Int) (w : World) (hw : I64 a) :
    Calls Try.prog 75 #[.int .i64 a] w fun e w' => e = .returned (.bool (decide (-1152921504606846976 ≤ a ∧ a ≤ 1152921504606846976))) ∧ w' = w := by
  by_cases h : -1152921504606846976 ≤ a ∧ a ≤ 1152921504606846976
  · rw [decide_eq_true h]; exact rin_yes a h w
  · rw [decide_eq_false h]; exact rin_far a w hw h

end Go.Proofs.Ytmmgihaoahhkjaa
