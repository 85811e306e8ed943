/- The document's own answers on numbers (In, Abs, Add, Sub, Ediv of package touchstoneref), each by a contract: for all numbers of 64 bits they return what the plain functions say. -/
import Derived.Test.YtlambneopjecbaaNum
import Derived.WalkLawsBesides
namespace Go.Proofs.Ytlambneopjecbaa.Re
open Go.ChangeShapes Go.WideShapes Go.ChangeAt Go.RowKit Nu

theorem ret2' {a b c d : Int} {w w' : World} (h : a = c) (h' : b = d) (hw : w' = w) : Ending.returned (.tuple #[.int .i64 a, .int .i64 b]) = .returned (.tuple #[.int .i64 c, .int .i64 d]) ∧ w' = w := by
  cases h; cases h'; exact ⟨rfl, hw⟩

theorem in_zero (w : World) : Calls Try.prog 18 #[.int .i64 0] w fun e w' => e = .returned (.bool true) ∧ w' = w := by
  go_enter Try.func18, Try.ntmps18
  go_wp2
  go_ret
  exact ⟨rfl, rfl⟩

theorem in_yes (a : Int) (w : World) (h : -1152921504606846976 ≤ a ∧ a ≤ 1152921504606846976) :
    Calls Try.prog 18 #[.int .i64 a] w fun e w' => e = .returned (.bool true) ∧ w' = w := by
  by_cases hz : a = 0
  · subst hz; exact in_zero w
  · obtain ⟨h1, h2⟩ := h
    have h3 : -a ≤ 1152921504606846976 := by omega
    have h4 : (a == 0) = false := beq_eq_false_iff_ne.2 hz
    have h5 : (a != -a) = true := bne_iff_ne.2 (by omega)
    clear hz
    go_enter Try.func18, Try.ntmps18
    go_wp2
    go_ret
    exact ⟨rfl, rfl⟩

theorem in_no (a : Int) (w : World) (hw : -9223372036854775808 ≤ a ∧ a ≤ 9223372036854775807) (h : ¬ (-1152921504606846976 ≤ a ∧ a ≤ 1152921504606846976)) :
    Calls Try.prog 18 #[.int .i64 a] w fun e w' => e = .returned (.bool false) ∧ w' = w := by
  obtain ⟨w1, w2⟩ := hw
  have h0 : (a == 0) = false := beq_eq_false_iff_ne.2 (by omega)
  by_cases h1 : 1152921504606846976 < a
  · clear h
    go_enter Try.func18, Try.ntmps18
    go_wp2
    go_ret
    exact retb (by simp) rfl
  · by_cases h2 : a = -9223372036854775808
    · subst h2
      clear h h1 w1 w2 h0
      have hv : wrap64 9223372036854775808 = -9223372036854775808 := by unfold wrap64; decide
      go_enter Try.func18, Try.ntmps18
      go_wp2
      go_ret
      first | exact ⟨rfl, rfl⟩ | exact retb (by rw [hv]; decide) rfl
    · have h3 : 1152921504606846976 < -a := by omega
      have h4 : a ≤ 1152921504606846976 := by omega
      have w3 : -9223372036854775807 ≤ a := by omega
      clear h h1 h2
      go_enter Try.func18, Try.ntmps18
      go_wp2
      go_ret
      exact retb (by simp) rfl

theorem abs_any (a : Int) (w : World) (hw : -9223372036854775808 ≤ a ∧ a ≤ 9223372036854775807) :
    Calls Try.prog 14 #[.int .i64 a] w fun e w' => e = .returned (.tuple #[.int .i64 (Ar.absF a).1, .int .i64 (Ar.absF a).2]) ∧ w' = w := by
  by_cases ha : -1152921504606846976 ≤ a ∧ a ≤ 1152921504606846976
  · have e1 : Ar.absF a = ((a.natAbs : Int), 0) := by unfold Ar.absF; rw [if_pos (Ar.inB_mk ha)]
    rw [e1]
    clear e1 hw
    obtain ⟨ha1, ha2⟩ := ha
    go_enter Try.func14, Try.ntmps14
    go_wp2_with fail
    refine (in_yes _ _ ⟨ha1, ha2⟩).mono ?_; rintro e w' ⟨rfl, rfl⟩
    go_wp2
    all_goals go_ret2
    all_goals exact ret2' (by omega) rfl rfl
  · have e1 : Ar.absF a = (0, 2) := by unfold Ar.absF; rw [if_neg (by simp [Ar.inB_no ha])]
    rw [e1]
    clear e1
    go_enter Try.func14, Try.ntmps14
    go_wp2_with fail
    refine (in_no _ _ hw ha).mono ?_; rintro e w' ⟨rfl, rfl⟩
    go_wp2
    go_ret2
    exact ⟨rfl, rfl⟩

theorem add_in (a b : Int) (w : World) (ha : -1152921504606846976 ≤ a ∧ a ≤ 1152921504606846976) (hb : -1152921504606846976 ≤ b ∧ b ≤ 1152921504606846976) :
    Calls Try.prog 8 #[.int .i64 a, .int .i64 b] w fun e w' => e = .returned (.tuple #[.int .i64 (Ar.addF a b).1, .int .i64 (Ar.addF a b).2]) ∧ w' = w := by
  have hok : -1152921504606846976 ≤ a + b ∧ a + b ≤ 1152921504606846976 → Ar.addF a b = (a + b, 0) := fun h => Ar.pairF_ok (Ar.inB_mk ha) (Ar.inB_mk hb) (Ar.inB_mk h)
  have hov : ¬ (-1152921504606846976 ≤ a + b ∧ a + b ≤ 1152921504606846976) → Ar.addF a b = (0, 11) := fun h => Ar.pairF_over (Ar.inB_mk ha) (Ar.inB_mk hb) (fun c => h (Ar.inB_true c))
  obtain ⟨ha1, ha2⟩ := ha
  obtain ⟨hb1, hb2⟩ := hb
  by_cases hp : 0 < b
  · by_cases h : 1152921504606846976 - b < a
    · rw [hov (by omega)]
      clear hok hov
      go_enter Try.func8, Try.ntmps8
      go_wp2_with fail
      refine (in_yes _ _ ⟨ha1, ha2⟩).mono ?_; rintro e w' ⟨rfl, rfl⟩
      go_wp2_with fail
      refine (in_yes _ _ ⟨hb1, hb2⟩).mono ?_; rintro e w' ⟨rfl, rfl⟩
      go_wp2
      go_ret2
      exact ⟨rfl, rfl⟩
    · rw [hok (by omega)]
      clear hok hov
      go_enter Try.func8, Try.ntmps8
      go_wp2_with fail
      refine (in_yes _ _ ⟨ha1, ha2⟩).mono ?_; rintro e w' ⟨rfl, rfl⟩
      go_wp2_with fail
      refine (in_yes _ _ ⟨hb1, hb2⟩).mono ?_; rintro e w' ⟨rfl, rfl⟩
      go_wp2
      go_ret2
      exact ⟨rfl, rfl⟩
  · by_cases hn : b < 0
    · by_cases h : a < -1152921504606846976 - b
      · rw [hov (by omega)]
        clear hok hov
        go_enter Try.func8, Try.ntmps8
        go_wp2_with fail
        refine (in_yes _ _ ⟨ha1, ha2⟩).mono ?_; rintro e w' ⟨rfl, rfl⟩
        go_wp2_with fail
        refine (in_yes _ _ ⟨hb1, hb2⟩).mono ?_; rintro e w' ⟨rfl, rfl⟩
        go_wp2
        go_ret2
        exact ⟨rfl, rfl⟩
      · rw [hok (by omega)]
        clear hok hov
        go_enter Try.func8, Try.ntmps8
        go_wp2_with fail
        refine (in_yes _ _ ⟨ha1, ha2⟩).mono ?_; rintro e w' ⟨rfl, rfl⟩
        go_wp2_with fail
        refine (in_yes _ _ ⟨hb1, hb2⟩).mono ?_; rintro e w' ⟨rfl, rfl⟩
        go_wp2
        go_ret2
        exact ⟨rfl, rfl⟩
    · have hz : b = 0 := by omega
      subst hz
      rw [hok (by omega)]
      clear hok hov
      go_enter Try.func8, Try.ntmps8
      go_wp2_with fail
      refine (in_yes _ _ ⟨ha1, ha2⟩).mono ?_; rintro e w' ⟨rfl, rfl⟩
      go_wp2_with fail
      refine (in_yes _ _ ⟨hb1, hb2⟩).mono ?_; rintro e w' ⟨rfl, rfl⟩
      go_wp2
      go_ret2
      exact ret2' (by omega) rfl rfl

theorem add_any (a b : Int) (w : World) (wa : -9223372036854775808 ≤ a ∧ a ≤ 9223372036854775807) (wb : -9223372036854775808 ≤ b ∧ b ≤ 9223372036854775807) :
    Calls Try.prog 8 #[.int .i64 a, .int .i64 b] w fun e w' => e = .returned (.tuple #[.int .i64 (Ar.addF a b).1, .int .i64 (Ar.addF a b).2]) ∧ w' = w := by
  by_cases ha : -1152921504606846976 ≤ a ∧ a ≤ 1152921504606846976
  · by_cases hb : -1152921504606846976 ≤ b ∧ b ≤ 1152921504606846976
    · exact add_in a b w ha hb
    · rw [show Ar.addF a b = (0, 2) from Ar.pairF_out (fun c => hb (Ar.inB_true c.2))]
      obtain ⟨ha1, ha2⟩ := ha
      go_enter Try.func8, Try.ntmps8
      go_wp2_with fail
      refine (in_yes _ _ ⟨ha1, ha2⟩).mono ?_; rintro e w' ⟨rfl, rfl⟩
      go_wp2_with fail
      refine (in_no _ _ wb hb).mono ?_; rintro e w' ⟨rfl, rfl⟩
      go_wp2
      go_ret2
      exact ⟨rfl, rfl⟩
  · rw [show Ar.addF a b = (0, 2) from Ar.pairF_out (fun c => ha (Ar.inB_true c.1))]
    go_enter Try.func8, Try.ntmps8
    go_wp2_with fail
    refine (in_no _ _ wa ha).mono ?_; rintro e w' ⟨rfl, rfl⟩
    go_wp2
    go_ret2
    exact ⟨rfl, rfl⟩

theorem sub_any (a b : Int) (w : World) (wa : -9223372036854775808 ≤ a ∧ a ≤ 9223372036854775807) (wb : -9223372036854775808 ≤ b ∧ b ≤ 9223372036854775807) :
    Calls Try.prog 10 #[.int .i64 a, .int .i64 b] w fun e w' => e = .returned (.tuple #[.int .i64 (Ar.subF a b).1, .int .i64 (Ar.subF a b).2]) ∧ w' = w := by
  by_cases ha : -1152921504606846976 ≤ a ∧ a ≤ 1152921504606846976
  · by_cases hb : -1152921504606846976 ≤ b ∧ b ≤ 1152921504606846976
    · have hA : Hid (∀ w, Calls Try.prog 8 #[.int .i64 a, .int .i64 (-b)] w fun e w' => e = .returned (.tuple #[.int .i64 (Ar.subF a b).1, .int .i64 (Ar.subF a b).2]) ∧ w' = w) := by
        intro w
        have h := add_in a (-b) w ha (by omega)
        have e : Ar.addF a (-b) = Ar.subF a b := by
          unfold Ar.addF Ar.subF
          rw [show a + -b = a - b from by omega]
          by_cases hr : Ar.inB (a - b) = true
          · rw [Ar.pairF_ok (Ar.inB_mk ha) (Ar.inB_mk (by omega)) hr, Ar.pairF_ok (Ar.inB_mk ha) (Ar.inB_mk hb) hr]
          · rw [Ar.pairF_over (Ar.inB_mk ha) (Ar.inB_mk (by omega)) hr, Ar.pairF_over (Ar.inB_mk ha) (Ar.inB_mk hb) hr]
        rw [e] at h
        exact h
      generalize (Ar.subF a b).1 = x at *
      generalize (Ar.subF a b).2 = xe at *
      obtain ⟨ha1, ha2⟩ := ha
      obtain ⟨hb1, hb2⟩ := hb
      go_enter Try.func10, Try.ntmps10
      go_wp2_with fail
      refine (in_yes _ _ ⟨ha1, ha2⟩).mono ?_; rintro e w' ⟨rfl, rfl⟩
      go_wp2_with fail
      refine (in_yes _ _ ⟨hb1, hb2⟩).mono ?_; rintro e w' ⟨rfl, rfl⟩
      go_wp2_with fail
      refine (hA _).mono ?_; rintro e w' ⟨rfl, rfl⟩
      go_wp2
      go_ret2
      exact ⟨rfl, rfl⟩
    · rw [show Ar.subF a b = (0, 2) from Ar.pairF_out (fun c => hb (Ar.inB_true c.2))]
      obtain ⟨ha1, ha2⟩ := ha
      go_enter Try.func10, Try.ntmps10
      go_wp2_with fail
      refine (in_yes _ _ ⟨ha1, ha2⟩).mono ?_; rintro e w' ⟨rfl, rfl⟩
      go_wp2_with fail
      refine (in_no _ _ wb hb).mono ?_; rintro e w' ⟨rfl, rfl⟩
      go_wp2
      go_ret2
      exact ⟨rfl, rfl⟩
  · rw [show Ar.subF a b = (0, 2) from Ar.pairF_out (fun c => ha (Ar.inB_true c.1))]
    go_enter Try.func10, Try.ntmps10
    go_wp2_with fail
    refine (in_no _ _ wa ha).mono ?_; rintro e w' ⟨rfl, rfl⟩
    go_wp2
    go_ret2
    exact ⟨rfl, rfl⟩

end Go.Proofs.Ytlambneopjecbaa.Re
