/- The document's own count of what a type is made of. -/
import Derived.Test.YtjhhcdiipbjiaabKindF
namespace Go.Proofs.Ytjhhcdiipbjiaab
open Go.ChangeShapes Go.WideShapes Go.ChangeAt Go.RowKit
set_option linter.unusedVariables false

def madeF (t : Int) : Int := if 1 ≤ t ∧ t ≤ 15 then partsF t else -1

def tab : Array Value := #[.int .i64 0, .int .i64 0, .int .i64 0, .int .i64 0, .int .i64 0, .int .i64 0, .int .i64 0, .int .i64 0, .int .i64 0, .int .i64 1, .int .i64 1, .int .i64 2, .int .i64 2, .int .i64 2, .int .i64 2, .int .i64 1]

theorem tab_at (i : Nat) (h1 : 1 ≤ i) (h2 : i ≤ 15) : tab[i]? = some (.int .i64 (partsF i)) := by
  rcases (show i = 1 ∨ i = 2 ∨ i = 3 ∨ i = 4 ∨ i = 5 ∨ i = 6 ∨ i = 7 ∨ i = 8 ∨ i = 9 ∨ i = 10 ∨ i = 11 ∨ i = 12 ∨ i = 13 ∨ i = 14 ∨ i = 15 from by omega) with rfl | rfl | rfl | rfl | rfl | rfl | rfl | rfl | rfl | rfl | rfl | rfl | rfl | rfl | rfl <;> rfl

theorem run_tab (t : Int) (h1 : 1 ≤ t) (h2 : t ≤ 15) (w : World) : (Instr.index 82 (.agg tab) (.int .i64 t)).run Try.prog w = .ok (.int .i64 (partsF t)) w := by
  obtain ⟨i, rfl⟩ := Int.eq_ofNat_of_zero_le (show 0 ≤ t from by omega)
  have h3 : (0 : Int) ≤ (i : Int) ∧ (i : Int) < 16 := by omega
  have h4 := tab_at i (by omega) (by omega)
  simp [Instr.index, run_underlying Try.underlying82, asIntOf, go_sem, h4]
  intro h
  omega

theorem rmade_any (t : Int) (w : World) :
    Calls Try.prog 68 #[.int .i64 t] w fun e w' => e = .returned (.int .i64 (madeF t)) ∧ w' = w := by
  by_cases h : 1 ≤ t ∧ t ≤ 15
  · obtain ⟨h1, h2⟩ := h
    have hix := run_tab t h1 h2
    have hm : madeF t = partsF t := by rw [madeF, if_pos ⟨h1, h2⟩]
    rw [hm]
    unfold tab at hix
    clear hm
    generalize partsF t = q at *
    go_enter Try.func68, Try.ntmps68
    go_wp2_with fail
    go_ret
    exact ⟨rfl, rfl⟩
  · have hm : madeF t = -1 := by rw [madeF, if_neg h]
    rw [hm]
    rcases (show t < 1 ∨ (1 ≤ t ∧ 15 < t) from by omega) with h1 | ⟨h1, h2⟩
    all_goals
      clear hm
      go_enter Try.func68, Try.ntmps68
      go_wp2
      go_ret
      exact ⟨rfl, rfl⟩

end Go.Proofs.Ytjhhcdiipbjiaab
