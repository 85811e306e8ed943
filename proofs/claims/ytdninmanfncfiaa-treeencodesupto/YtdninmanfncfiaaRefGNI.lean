/- The document's own In by its contract, for every number of 64 bits. -/
import Derived.Test.YtdninmanfncfiaaRefNum
namespace Go.Proofs.Ytdninmanfncfiaa
open Go.ChangeShapes Go.WideShapes Go.ChangeAt Go.RowKit
set_option linter.unusedVariables false

theorem rin_far (a : Int) (w : World) (hw : I64 a) (h : ¬ (-1152921504606846976 ≤ a ∧ a ≤ 1152921504606846976)) :
    Calls Try.prog 20 #[.int .i64 a] w fun e w' => e = .returned (.bool false) ∧ w' = w := by
  obtain ⟨w1, w2⟩ := hw
  have h0 : (a == 0) = false := beq_eq_false_iff_ne.2 (by omega)
  by_cases h1 : 1152921504606846976 < a
  · clear h
    go_enter Try.func20, Try.ntmps20
    go_wp2
    go_ret
    exact Lf.retb (by simp) rfl
  · by_cases h2 : a = -9223372036854775808
    · subst h2
      clear h h1 w1 w2 h0
      have hv : wrap64 9223372036854775808 = -9223372036854775808 := by unfold wrap64; decide
      go_enter Try.func20, Try.ntmps20
      go_wp2
      go_ret
      first | exact ⟨rfl, rfl⟩ | exact Lf.retb (by rw [hv]; decide) rfl
    · have h3 : 1152921504606846976 < -a := by omega
      have h4 : a ≤ 1152921504606846976 := by omega
      have w3 : -9223372036854775807 ≤ a := by omega
      clear h h1 h2
      go_enter Try.func20, Try.ntmps20
      go_wp2
      go_ret
      exact Lf.retb (by simp) rfl

theorem rin_all (a : Int) (w : World) (hw : I64 a) :
    Calls Try.prog 20 #[.int .i64 a] w fun e w' => e = .returned (.bool (decide (-1152921504606846976 ≤ a ∧ a ≤ 1152921504606846976))) ∧ w' = w := by
  by_cases h : -1152921504606846976 ≤ a ∧ a ≤ 1152921504606846976
  · rw [decide_eq_true h]; exact rin_yes a h w
  · rw [decide_eq_false h]; exact rin_far a w hw h

end Go.Proofs.Ytdninmanfncfiaa
