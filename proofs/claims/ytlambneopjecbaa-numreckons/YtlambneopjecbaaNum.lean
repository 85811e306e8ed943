/- The functions of package num that call few others (In, kept, size, Add, Sub, Abs), each by a contract: for all numbers of 64 bits it returns what the plain functions say, and the world stays as it was. -/
import Derived.Test.YtlambneopjecbaaRows
import Derived.Test.YtlambneopjecbaaMath
import Derived.WalkKit
import Derived.ProofKit
import Derived.OpenShut
import Derived.Deep.QuietTactic
import Derived.BigQuiet
namespace Go.Proofs.Ytlambneopjecbaa.Nu
open Go.ChangeShapes Go.WideShapes Go.ChangeAt Go.RowKit

theorem ret2 {a b c d : Int} {w w' : World} (h : (a, b) = (c, d)) (hw : w' = w) : Ending.returned (.tuple #[.int .i64 a, .int .i64 b]) = .returned (.tuple #[.int .i64 c, .int .i64 d]) ∧ w' = w := by
  cases h; exact ⟨rfl, hw⟩

theorem ret1 {k : IntKind} {a b : Int} {w w' : World} (h : a = b) (hw : w' = w) : Ending.returned (.int k a) = .returned (.int k b) ∧ w' = w := by
  rw [h]; exact ⟨rfl, hw⟩

theorem retb {a b : Bool} {w w' : World} (h : a = b) (hw : w' = w) : Ending.returned (.bool a) = .returned (.bool b) ∧ w' = w := by
  rw [h]; exact ⟨rfl, hw⟩

theorem in_yes (a : Int) (w : World) (h : -1152921504606846976 ≤ a ∧ a ≤ 1152921504606846976) :
    Calls Try.prog 17 #[.int .i64 a] w fun e w' => e = .returned (.bool true) ∧ w' = w := by
  obtain ⟨h1, h2⟩ := h
  go_enter Try.func17, Try.ntmps17
  go_wp2
  go_ret
  exact ⟨rfl, rfl⟩

theorem in_no (a : Int) (w : World) (h : ¬ (-1152921504606846976 ≤ a ∧ a ≤ 1152921504606846976)) :
    Calls Try.prog 17 #[.int .i64 a] w fun e w' => e = .returned (.bool false) ∧ w' = w := by
  by_cases h1 : -1152921504606846976 ≤ a
  · have h2 : 1152921504606846976 < a := by omega
    go_enter Try.func17, Try.ntmps17
    go_wp2
    go_ret
    exact retb (by simp; omega) rfl
  · have h2 : a < -1152921504606846976 := by omega
    go_enter Try.func17, Try.ntmps17
    go_wp2
    go_ret
    exact ⟨rfl, rfl⟩

theorem size_any (a : Int) (w : World) (h : -1152921504606846976 ≤ a ∧ a ≤ 1152921504606846976) :
    Calls Try.prog 23 #[.int .i64 a] w fun e w' => e = .returned (.int .u64 (a.natAbs : Int)) ∧ w' = w := by
  obtain ⟨h1, h2⟩ := h
  by_cases h3 : a < 0
  · go_enter Try.func23, Try.ntmps23
    go_wp2
    go_ret
    exact ret1 (by omega) rfl
  · have h4 : 0 ≤ a := by omega
    go_enter Try.func23, Try.ntmps23
    go_wp2
    go_ret
    exact ret1 (by omega) rfl

theorem kept_any (a : Int) (w : World) :
    Calls Try.prog 21 #[.int .i64 a] w fun e w' => e = .returned (.tuple #[.int .i64 (if Ar.inB a = true then a else 0), .int .i64 (if Ar.inB a = true then 0 else 11)]) ∧ w' = w := by
  by_cases h : -1152921504606846976 ≤ a ∧ a ≤ 1152921504606846976
  · rw [if_pos (Ar.inB_mk h), if_pos (Ar.inB_mk h)]
    go_enter Try.func21, Try.ntmps21
    go_wp2_with (go_at_call 17; refine (in_yes _ _ h).mono ?_; rintro e w' ⟨rfl, rfl⟩)
    go_ret2
    exact ⟨rfl, rfl⟩
  · have h' := Ar.inB_no h
    rw [if_neg (by simp [h']), if_neg (by simp [h'])]
    go_enter Try.func21, Try.ntmps21
    go_wp2_with (go_at_call 17; refine (in_no _ _ h).mono ?_; rintro e w' ⟨rfl, rfl⟩)
    go_ret2
    exact ⟨rfl, rfl⟩

theorem add_any (a b : Int) (w : World) :
    Calls Try.prog 7 #[.int .i64 a, .int .i64 b] w fun e w' => e = .returned (.tuple #[.int .i64 (Ar.addF a b).1, .int .i64 (Ar.addF a b).2]) ∧ w' = w := by
  by_cases ha : -1152921504606846976 ≤ a ∧ a ≤ 1152921504606846976
  · by_cases hb : -1152921504606846976 ≤ b ∧ b ≤ 1152921504606846976
    · have e1 : (Ar.addF a b).1 = if Ar.inB (a + b) = true then a + b else 0 := by
        unfold Ar.addF Ar.pairF; rw [if_pos ⟨Ar.inB_mk ha, Ar.inB_mk hb⟩]; split <;> rfl
      have e2 : (Ar.addF a b).2 = if Ar.inB (a + b) = true then 0 else 11 := by
        unfold Ar.addF Ar.pairF; rw [if_pos ⟨Ar.inB_mk ha, Ar.inB_mk hb⟩]; split <;> rfl
      rw [e1, e2]
      clear e1 e2
      obtain ⟨ha1, ha2⟩ := ha
      obtain ⟨hb1, hb2⟩ := hb
      go_enter Try.func7, Try.ntmps7
      go_wp2_with fail
      refine (in_yes _ _ ⟨ha1, ha2⟩).mono ?_; rintro e w' ⟨rfl, rfl⟩
      go_wp2_with fail
      refine (in_yes _ _ ⟨hb1, hb2⟩).mono ?_; rintro e w' ⟨rfl, rfl⟩
      go_wp2_with fail
      refine (kept_any _ _).mono ?_; rintro e w' ⟨rfl, rfl⟩
      go_wp2
      all_goals go_ret2
      all_goals exact ⟨rfl, rfl⟩
    · have e1 : Ar.addF a b = (0, 2) := Ar.pairF_out (fun c => hb (Ar.inB_true c.2))
      rw [e1]
      clear e1
      obtain ⟨ha1, ha2⟩ := ha
      go_enter Try.func7, Try.ntmps7
      go_wp2_with fail
      refine (in_yes _ _ ⟨ha1, ha2⟩).mono ?_; rintro e w' ⟨rfl, rfl⟩
      go_wp2_with fail
      refine (in_no _ _ hb).mono ?_; rintro e w' ⟨rfl, rfl⟩
      go_wp2
      go_ret2
      exact ⟨rfl, rfl⟩
  · have e1 : Ar.addF a b = (0, 2) := Ar.pairF_out (fun c => ha (Ar.inB_true c.1))
    rw [e1]
    clear e1
    go_enter Try.func7, Try.ntmps7
    go_wp2_with fail
    refine (in_no _ _ ha).mono ?_; rintro e w' ⟨rfl, rfl⟩
    go_wp2
    go_ret2
    exact ⟨rfl, rfl⟩

theorem sub_any (a b : Int) (w : World) :
    Calls Try.prog 9 #[.int .i64 a, .int .i64 b] w fun e w' => e = .returned (.tuple #[.int .i64 (Ar.subF a b).1, .int .i64 (Ar.subF a b).2]) ∧ w' = w := by
  by_cases ha : -1152921504606846976 ≤ a ∧ a ≤ 1152921504606846976
  · by_cases hb : -1152921504606846976 ≤ b ∧ b ≤ 1152921504606846976
    · have e1 : (Ar.subF a b).1 = if Ar.inB (a - b) = true then a - b else 0 := by
        unfold Ar.subF Ar.pairF; rw [if_pos ⟨Ar.inB_mk ha, Ar.inB_mk hb⟩]; split <;> rfl
      have e2 : (Ar.subF a b).2 = if Ar.inB (a - b) = true then 0 else 11 := by
        unfold Ar.subF Ar.pairF; rw [if_pos ⟨Ar.inB_mk ha, Ar.inB_mk hb⟩]; split <;> rfl
      rw [e1, e2]
      clear e1 e2
      obtain ⟨ha1, ha2⟩ := ha
      obtain ⟨hb1, hb2⟩ := hb
      go_enter Try.func9, Try.ntmps9
      go_wp2_with fail
      refine (in_yes _ _ ⟨ha1, ha2⟩).mono ?_; rintro e w' ⟨rfl, rfl⟩
      go_wp2_with fail
      refine (in_yes _ _ ⟨hb1, hb2⟩).mono ?_; rintro e w' ⟨rfl, rfl⟩
      go_wp2_with fail
      refine (kept_any _ _).mono ?_; rintro e w' ⟨rfl, rfl⟩
      go_wp2
      all_goals go_ret2
      all_goals exact ⟨rfl, rfl⟩
    · have e1 : Ar.subF a b = (0, 2) := Ar.pairF_out (fun c => hb (Ar.inB_true c.2))
      rw [e1]
      clear e1
      obtain ⟨ha1, ha2⟩ := ha
      go_enter Try.func9, Try.ntmps9
      go_wp2_with fail
      refine (in_yes _ _ ⟨ha1, ha2⟩).mono ?_; rintro e w' ⟨rfl, rfl⟩
      go_wp2_with fail
      refine (in_no _ _ hb).mono ?_; rintro e w' ⟨rfl, rfl⟩
      go_wp2
      go_ret2
      exact ⟨rfl, rfl⟩
  · have e1 : Ar.subF a b = (0, 2) := Ar.pairF_out (fun c => ha (Ar.inB_true c.1))
    rw [e1]
    clear e1
    go_enter Try.func9, Try.ntmps9
    go_wp2_with fail
    refine (in_no _ _ ha).mono ?_; rintro e w' ⟨rfl, rfl⟩
    go_wp2
    go_ret2
    exact ⟨rfl, rfl⟩

theorem abs_any (a : Int) (w : World) :
    Calls Try.prog 13 #[.int .i64 a] w fun e w' => e = .returned (.tuple #[.int .i64 (Ar.absF a).1, .int .i64 (Ar.absF a).2]) ∧ w' = w := by
  by_cases ha : -1152921504606846976 ≤ a ∧ a ≤ 1152921504606846976
  · have e1 : Ar.absF a = ((a.natAbs : Int), 0) := by unfold Ar.absF; rw [if_pos (Ar.inB_mk ha)]
    rw [e1]
    clear e1
    have hb : (a.natAbs : Int) ≤ 1152921504606846976 := by omega
    go_enter Try.func13, Try.ntmps13
    go_wp2_with fail
    refine (in_yes _ _ ha).mono ?_; rintro e w' ⟨rfl, rfl⟩
    go_wp2_with fail
    refine (size_any _ _ ha).mono ?_; rintro e w' ⟨rfl, rfl⟩
    go_wp2
    go_ret2
    exact ⟨rfl, rfl⟩
  · have e1 : Ar.absF a = (0, 2) := by unfold Ar.absF; rw [if_neg (by simp [Ar.inB_no ha])]
    rw [e1]
    clear e1
    go_enter Try.func13, Try.ntmps13
    go_wp2_with fail
    refine (in_no _ _ ha).mono ?_; rintro e w' ⟨rfl, rfl⟩
    go_wp2
    go_ret2
    exact ⟨rfl, rfl⟩

theorem ret3 {a b c d e f : Int} {w w' : World} (h : (a, b, c) = (d, e, f)) (hw : w' = w) : Ending.returned (.tuple #[.int .i64 a, .int .i64 b, .int .i64 c]) = .returned (.tuple #[.int .i64 d, .int .i64 e, .int .i64 f]) ∧ w' = w := by
  cases h; exact ⟨rfl, hw⟩

theorem ediv_in (a b : Int) (w : World) (ha : -1152921504606846976 ≤ a ∧ a ≤ 1152921504606846976) (hb : -1152921504606846976 ≤ b ∧ b ≤ 1152921504606846976) (hn : b ≠ 0) :
    Calls Try.prog 15 #[.int .i64 a, .int .i64 b] w fun e w' => e = .returned (.tuple #[.int .i64 (a / b), .int .i64 (a % b), .int .i64 0]) ∧ ∃ n, w' = w.drewN n := by
  obtain ⟨r1, r2, r3⟩ := Ar.t_rest a hn
  obtain ⟨t1, t2, t3, t4, t5⟩ := Ar.t_bounds a hn
  have hq : -1152921504606846976 ≤ a.tdiv b ∧ a.tdiv b ≤ 1152921504606846976 := by omega
  have hr : -1152921504606846976 ≤ a.tmod b ∧ a.tmod b ≤ 1152921504606846976 := by omega
  have hz : (b == 0) = false := beq_eq_false_iff_ne.2 hn
  clear t1 t2 t5
  obtain ⟨ha1, ha2⟩ := ha
  obtain ⟨hb1, hb2⟩ := hb
  obtain ⟨hq1, hq2⟩ := hq
  obtain ⟨hr1, hr2⟩ := hr
  by_cases hs : 0 ≤ a.tmod b
  · obtain ⟨e1, e2⟩ := r1 hs
    rw [e1, e2]
    clear e1 e2 r1 r2 r3 t3 t4
    go_enter Try.func15, Try.ntmps15
    go_wp2_with fail
    refine (in_yes _ _ ⟨ha1, ha2⟩).mono ?_; rintro e w' ⟨rfl, rfl⟩
    go_wp2_with fail
    refine (in_yes _ _ ⟨hb1, hb2⟩).mono ?_; rintro e w' ⟨rfl, rfl⟩
    go_wp2
    go_quiet (fail)
    go_wp2
    go_ret3
    exact ⟨rfl, _, rfl⟩
  · have hs' : a.tmod b < 0 := by omega
    have ha0 : a < 0 := by omega
    by_cases hp : 0 < b
    · obtain ⟨e1, e2⟩ := r2 hs' hp
      rw [e1, e2]
      clear e1 e2 r1 r2 r3 t3 t4
      go_enter Try.func15, Try.ntmps15
      go_wp2_with fail
      refine (in_yes _ _ ⟨ha1, ha2⟩).mono ?_; rintro e w' ⟨rfl, rfl⟩
      go_wp2_with fail
      refine (in_yes _ _ ⟨hb1, hb2⟩).mono ?_; rintro e w' ⟨rfl, rfl⟩
      go_wp2
      go_quiet (fail)
      go_wp2
      go_ret3
      exact ⟨rfl, _, rfl⟩
    · have hp' : b < 0 := by omega
      obtain ⟨e1, e2⟩ := r3 hs' hp'
      rw [e1, e2]
      clear e1 e2 r1 r2 r3 t3 t4
      go_enter Try.func15, Try.ntmps15
      go_wp2_with fail
      refine (in_yes _ _ ⟨ha1, ha2⟩).mono ?_; rintro e w' ⟨rfl, rfl⟩
      go_wp2_with fail
      refine (in_yes _ _ ⟨hb1, hb2⟩).mono ?_; rintro e w' ⟨rfl, rfl⟩
      go_wp2
      go_quiet (fail)
      go_wp2
      go_ret3
      exact ⟨rfl, _, rfl⟩

theorem ediv_any (a b : Int) (w : World) :
    Calls Try.prog 15 #[.int .i64 a, .int .i64 b] w fun e w' => e = .returned (.tuple #[.int .i64 (Ar.edivF a b).1, .int .i64 (Ar.edivF a b).2.1, .int .i64 (Ar.edivF a b).2.2]) ∧ ∃ n, w' = w.drewN n := by
  rcases Ar.ediv_cases a b with ⟨ha, hb, hn, e⟩ | ⟨ha, hb, hn, e⟩ | ⟨hn, e⟩ <;> rw [e]
  · exact ediv_in a b w (Ar.inB_true ha) (Ar.inB_true hb) hn
  · subst hn
    clear e hb
    have ha' := Ar.inB_true ha
    clear ha
    go_enter Try.func15, Try.ntmps15
    go_wp2_with fail
    refine (in_yes _ _ ha').mono ?_; rintro e w' ⟨rfl, rfl⟩
    go_wp2_with fail
    refine (in_yes _ _ ⟨by omega, by omega⟩).mono ?_; rintro e w' ⟨rfl, rfl⟩
    go_wp2
    go_ret3
    exact ⟨rfl, 0, rfl⟩
  · clear e
    by_cases ha : -1152921504606846976 ≤ a ∧ a ≤ 1152921504606846976
    · have hb : ¬ (-1152921504606846976 ≤ b ∧ b ≤ 1152921504606846976) := fun c => hn ⟨Ar.inB_mk ha, Ar.inB_mk c⟩
      clear hn
      go_enter Try.func15, Try.ntmps15
      go_wp2_with fail
      refine (in_yes _ _ ha).mono ?_; rintro e w' ⟨rfl, rfl⟩
      go_wp2_with fail
      refine (in_no _ _ hb).mono ?_; rintro e w' ⟨rfl, rfl⟩
      go_wp2
      go_ret3
      exact ⟨rfl, 0, rfl⟩
    · clear hn
      go_enter Try.func15, Try.ntmps15
      go_wp2_with fail
      refine (in_no _ _ ha).mono ?_; rintro e w' ⟨rfl, rfl⟩
      go_wp2
      go_ret3
      exact ⟨rfl, 0, rfl⟩

theorem reckons_law (w : World) : Calls Try.prog 19 #[] w fun e w' => e = .returned (.bool true) ∧ ∃ n, w' = w.drewN n := by
  go_enter Try.func19, Try.ntmps19
  go_wp2_with fail
  refine (ediv_in (-7) 2 _ ⟨by omega, by omega⟩ ⟨by omega, by omega⟩ (by omega)).mono ?_; rintro e w' ⟨rfl, n, rfl⟩
  go_wp2
  go_ret
  exact ⟨rfl, _, rfl⟩

theorem reckons_keep (w : World) : Calls Try.prog 20 #[] w fun e w' => e = .returned (.bool true) ∧ ∃ n, w' = w.drewN n := by
  go_enter Try.func20, Try.ntmps20
  go_wp2_with fail
  refine (ediv_in (-7) 2 _ ⟨by omega, by omega⟩ ⟨by omega, by omega⟩ (by omega)).mono ?_; rintro e w' ⟨rfl, n, rfl⟩
  go_wp2
  go_ret
  exact ⟨rfl, _, rfl⟩

end Go.Proofs.Ytlambneopjecbaa.Nu
