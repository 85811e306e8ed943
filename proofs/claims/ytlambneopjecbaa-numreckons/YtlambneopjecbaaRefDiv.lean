/- The document's own quotient and rest (Ediv of package touchstoneref) by a contract: for all numbers of 64 bits it returns what the plain function says. -/
import Derived.Test.YtlambneopjecbaaRef
namespace Go.Proofs.Ytlambneopjecbaa.Re
open Go.ChangeShapes Go.WideShapes Go.ChangeAt Go.RowKit Nu

theorem t_fix (a m : Int) : (a.tmod m + m) % m = a % m := by
  have h := Int.mul_tdiv_add_tmod a m
  have e : a.tmod m + m = a + m * (1 - a.tdiv m) := by rw [Int.mul_sub]; omega
  rw [e, Int.add_mul_emod_self_left]
theorem e_fix (a m : Int) : (a % m + m) % m = a % m := by rw [Int.add_emod_right, Int.emod_emod]
theorem t_quo (a : Int) {b : Int} (hb : b ≠ 0) : (a - a % b).tdiv b = a / b := by
  have h := Int.mul_ediv_add_emod a b
  rw [show a - a % b = b * (a / b) from by omega, Int.mul_tdiv_cancel_left _ hb]
theorem t_pos (a : Int) {m : Int} (hm : 0 < m) : -m < a.tmod m ∧ a.tmod m < m := by
  have h := (Ar.t_bounds a (b := m) (by omega)).2.1
  omega

theorem ret3' {a b c d e f : Int} {w w' : World} (h1 : a = d) (h2 : b = e) (h3 : c = f) (hw : w' = w) : Ending.returned (.tuple #[.int .i64 a, .int .i64 b, .int .i64 c]) = .returned (.tuple #[.int .i64 d, .int .i64 e, .int .i64 f]) ∧ w' = w := by
  cases h1; cases h2; cases h3; exact ⟨rfl, hw⟩

theorem ediv_pos (a b : Int) (w : World) (ha : -1152921504606846976 ≤ a ∧ a ≤ 1152921504606846976) (hb : 0 < b ∧ b ≤ 1152921504606846976) :
    Calls Try.prog 16 #[.int .i64 a, .int .i64 b] w fun e w' => e = .returned (.tuple #[.int .i64 (a / b), .int .i64 (a % b), .int .i64 0]) ∧ w' = w := by
  obtain ⟨ha1, ha2⟩ := ha
  obtain ⟨hb1, hb2⟩ := hb
  have hz : (b == 0) = false := beq_eq_false_iff_ne.2 (by omega)
  obtain ⟨f1, f2⟩ := t_pos a hb1
  obtain ⟨g1, g2⟩ := Ar.rest_bd (a := a) (b := b) (by omega)
  have g3 : a % b < b := by omega
  have x1 := t_fix a b
  have x2 := e_fix a b
  have x3 := t_quo a (b := b) (by omega)
  obtain ⟨q1, q2⟩ := Ar.quo_bd (b := b) ⟨ha1, ha2⟩
  clear g2
  by_cases hp : 0 ≤ a
  · go_enter Try.func16, Try.ntmps16
    go_wp2_with fail
    refine (in_yes _ _ ⟨ha1, ha2⟩).mono ?_; rintro e w' ⟨rfl, rfl⟩
    go_wp2_with fail
    refine (in_yes _ _ ⟨by omega, by omega⟩).mono ?_; rintro e w' ⟨rfl, rfl⟩
    go_wp2
    go_ret3
    refine ret3' ?_ ?_ rfl rfl
    · first | rfl | exact x3 | (rw [x1]; exact x3) | (rw [x2]; exact x3)
    · first | exact x1 | exact x2 | rfl
  · have hp' : a < 0 := by omega
    clear hp
    go_enter Try.func16, Try.ntmps16
    go_wp2_with fail
    refine (in_yes _ _ ⟨ha1, ha2⟩).mono ?_; rintro e w' ⟨rfl, rfl⟩
    go_wp2_with fail
    refine (in_yes _ _ ⟨by omega, by omega⟩).mono ?_; rintro e w' ⟨rfl, rfl⟩
    go_wp2
    go_ret3
    refine ret3' ?_ ?_ rfl rfl
    · first | rfl | exact x3 | (rw [x1]; exact x3) | (rw [x2]; exact x3)
    · first | exact x1 | exact x2 | rfl

theorem ediv_neg (a b : Int) (w : World) (ha : -1152921504606846976 ≤ a ∧ a ≤ 1152921504606846976) (hb : -1152921504606846976 ≤ b ∧ b < 0) :
    Calls Try.prog 16 #[.int .i64 a, .int .i64 b] w fun e w' => e = .returned (.tuple #[.int .i64 (a / b), .int .i64 (a % b), .int .i64 0]) ∧ w' = w := by
  obtain ⟨ha1, ha2⟩ := ha
  obtain ⟨hb1, hb2⟩ := hb
  have hz : (b == 0) = false := beq_eq_false_iff_ne.2 (by omega)
  obtain ⟨f1, f2⟩ := t_pos a (m := -b) (by omega)
  rw [Int.tmod_neg a b] at f1 f2
  obtain ⟨g1, g2⟩ := Ar.rest_bd (a := a) (b := b) (by omega)
  have g3 : a % b < -b := by omega
  have x1 := t_fix a (-b)
  have x2 := e_fix a (-b)
  rw [Int.emod_neg a b] at x1 x2
  rw [Int.emod_neg, Int.tmod_neg] at x1
  rw [Int.emod_neg] at x2
  have x3 := t_quo a (b := b) (by omega)
  obtain ⟨q1, q2⟩ := Ar.quo_bd (b := b) ⟨ha1, ha2⟩
  clear g2
  by_cases hp : 0 ≤ a
  · go_enter Try.func16, Try.ntmps16
    go_wp2_with fail
    refine (in_yes _ _ ⟨ha1, ha2⟩).mono ?_; rintro e w' ⟨rfl, rfl⟩
    go_wp2_with fail
    refine (in_yes _ _ ⟨by omega, by omega⟩).mono ?_; rintro e w' ⟨rfl, rfl⟩
    go_wp2
    go_ret3
    refine ret3' ?_ ?_ rfl rfl
    · first | rfl | exact x3 | (rw [x1]; exact x3) | (rw [x2]; exact x3)
    · first | exact x1 | exact x2 | rfl
  · have hp' : a < 0 := by omega
    clear hp
    go_enter Try.func16, Try.ntmps16
    go_wp2_with fail
    refine (in_yes _ _ ⟨ha1, ha2⟩).mono ?_; rintro e w' ⟨rfl, rfl⟩
    go_wp2_with fail
    refine (in_yes _ _ ⟨by omega, by omega⟩).mono ?_; rintro e w' ⟨rfl, rfl⟩
    go_wp2
    go_ret3
    refine ret3' ?_ ?_ rfl rfl
    · first | rfl | exact x3 | (rw [x1]; exact x3) | (rw [x2]; exact x3)
    · first | exact x1 | exact x2 | rfl

theorem ediv_any (a b : Int) (w : World) (wa : -9223372036854775808 ≤ a ∧ a ≤ 9223372036854775807) (wb : -9223372036854775808 ≤ b ∧ b ≤ 9223372036854775807) :
    Calls Try.prog 16 #[.int .i64 a, .int .i64 b] w fun e w' => e = .returned (.tuple #[.int .i64 (Ar.edivF a b).1, .int .i64 (Ar.edivF a b).2.1, .int .i64 (Ar.edivF a b).2.2]) ∧ w' = w := by
  rcases Ar.ediv_cases a b with ⟨ha, hb, hn, e⟩ | ⟨ha, hb, hn, e⟩ | ⟨hn, e⟩ <;> rw [e]
  · have hb' := Ar.inB_true hb
    by_cases hp : 0 < b
    · exact ediv_pos a b w (Ar.inB_true ha) ⟨hp, hb'.2⟩
    · exact ediv_neg a b w (Ar.inB_true ha) ⟨hb'.1, by omega⟩
  · subst hn
    clear e hb wa wb
    have ha' := Ar.inB_true ha
    clear ha
    go_enter Try.func16, Try.ntmps16
    go_wp2_with fail
    refine (in_yes _ _ ha').mono ?_; rintro e w' ⟨rfl, rfl⟩
    go_wp2_with fail
    refine (in_zero _).mono ?_; rintro e w' ⟨rfl, rfl⟩
    go_wp2
    go_ret3
    exact ⟨rfl, rfl⟩
  · clear e
    by_cases ha : -1152921504606846976 ≤ a ∧ a ≤ 1152921504606846976
    · have hb : ¬ (-1152921504606846976 ≤ b ∧ b ≤ 1152921504606846976) := fun c => hn ⟨Ar.inB_mk ha, Ar.inB_mk c⟩
      clear hn
      go_enter Try.func16, Try.ntmps16
      go_wp2_with fail
      refine (in_yes _ _ ha).mono ?_; rintro e w' ⟨rfl, rfl⟩
      go_wp2_with fail
      refine (in_no _ _ wb hb).mono ?_; rintro e w' ⟨rfl, rfl⟩
      go_wp2
      go_ret3
      exact ⟨rfl, rfl⟩
    · clear hn
      go_enter Try.func16, Try.ntmps16
      go_wp2_with fail
      refine (in_no _ _ wa ha).mono ?_; rintro e w' ⟨rfl, rfl⟩
      go_wp2
      go_ret3
      exact ⟨rfl, rfl⟩

end Go.Proofs.Ytlambneopjecbaa.Re
