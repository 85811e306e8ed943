/- branch by its contract: what a primitive tells of a value of a type. -/
import Derived.Test.YtdninmanfncfiadTellG
import Derived.Test.YtdninmanfncfiadHasI
import Derived.OwnWalk
namespace Go.Proofs.Ytdninmanfncfiad
set_option maxRecDepth 20000
open Go.ChangeShapes Go.WideShapes Go.ChangeAt Go.RowKit
set_option linter.unusedVariables false

set_option maxRecDepth 100000 in
set_option maxHeartbeats 1000000 in
theorem br_unit (a : Option Addr) (l c : Nat) (W : World) : Calls Try.prog 47 #[tyV 1 a l c, .int .i64 20] W fun e w' => e = .returned (.tuple #[.int .i64 0, .slice none 0 0, .bool true]) ∧ W.grownBy w' none := by
  unfold tyV
  go_enter Try.func47, Try.ntmps47
  go_wp2_with fail
  go_ret3
  exact ⟨rfl, Lf.gb _⟩

set_option maxRecDepth 100000 in
set_option maxHeartbeats 1000000 in
theorem br_false (a : Option Addr) (l c : Nat) (W : World) : Calls Try.prog 47 #[tyV 2 a l c, .int .i64 22] W fun e w' => e = .returned (.tuple #[.int .i64 0, .slice none 0 0, .bool true]) ∧ W.grownBy w' none := by
  unfold tyV
  go_enter Try.func47, Try.ntmps47
  go_wp2_with fail
  go_ret3
  exact ⟨rfl, Lf.gb _⟩

set_option maxRecDepth 100000 in
set_option maxHeartbeats 1000000 in
theorem br_true (a : Option Addr) (l c : Nat) (W : World) : Calls Try.prog 47 #[tyV 2 a l c, .int .i64 21] W fun e w' => e = .returned (.tuple #[.int .i64 1, .slice none 0 0, .bool true]) ∧ W.grownBy w' none := by
  unfold tyV
  go_enter Try.func47, Try.ntmps47
  go_wp2_with fail
  go_ret3
  exact ⟨rfl, Lf.gb _⟩

set_option maxRecDepth 100000 in
set_option maxHeartbeats 1000000 in
theorem br_none (a : Option Addr) (l c : Nat) (W : World) : Calls Try.prog 47 #[tyV 9 a l c, .int .i64 27] W fun e w' => e = .returned (.tuple #[.int .i64 0, .slice none 0 0, .bool true]) ∧ W.grownBy w' none := by
  unfold tyV
  go_enter Try.func47, Try.ntmps47
  go_wp2_with fail
  go_ret3
  exact ⟨rfl, Lf.gb _⟩

set_option maxRecDepth 100000 in
set_option maxHeartbeats 1000000 in
theorem br_some (a : Option Addr) (l c : Nat) (W : World) : Calls Try.prog 47 #[tyV 9 a l c, .int .i64 26] W fun e w' => e = .returned (.tuple #[.int .i64 0, .slice a l c, .bool true]) ∧ W.grownBy w' none := by
  unfold tyV
  go_enter Try.func47, Try.ntmps47
  go_wp2_with fail
  go_quiet (fail)
  go_wp2_with fail
  go_ret3
  exact ⟨rfl, grow_drewN (Lf.gb _)⟩

set_option maxRecDepth 100000 in
set_option maxHeartbeats 1000000 in
theorem br_pair (a : Option Addr) (l c : Nat) (W : World) : Calls Try.prog 47 #[tyV 11 a l c, .int .i64 23] W fun e w' => e = .returned (.tuple #[.int .i64 0, .slice a l c, .bool true]) ∧ W.grownBy w' none := by
  unfold tyV
  go_enter Try.func47, Try.ntmps47
  go_wp2_with fail
  go_quiet (fail)
  go_wp2_with fail
  go_ret3
  exact ⟨rfl, grow_drewN (Lf.gb _)⟩

set_option maxRecDepth 100000 in
set_option maxHeartbeats 1000000 in
theorem br_left (b o c : Nat) (hc : 2 ≤ c) (W : World) : Calls Try.prog 47 #[tyV 12 (some ⟨b, o, none⟩) 2 c, .int .i64 24] W fun e w' => e = .returned (.tuple #[.int .i64 0, .slice (some ⟨b, o, none⟩) 1 c, .bool true]) ∧ W.grownBy w' none := by
  have hc1 : 1 ≤ c := by omega
  unfold tyV
  go_enter Try.func47, Try.ntmps47
  go_wp2_with fail
  go_quiet (fail)
  go_wp2_with fail
  go_ret3
  exact ⟨rfl, grow_drewN (Lf.gb _)⟩

set_option maxRecDepth 100000 in
set_option maxHeartbeats 1000000 in
theorem br_right (b o c : Nat) (hc : 2 ≤ c) (W : World) : Calls Try.prog 47 #[tyV 12 (some ⟨b, o, none⟩) 2 c, .int .i64 25] W fun e w' => e = .returned (.tuple #[.int .i64 1, .slice (some ⟨b, o + 2, none⟩) 1 (c - 1), .bool true]) ∧ W.grownBy w' none := by
  have hc1 : 1 ≤ c := by omega
  unfold tyV
  go_enter Try.func47, Try.ntmps47
  go_wp2_with fail
  go_quiet (fail)
  go_wp2_with fail
  go_ret3
  exact ⟨rfl, grow_drewN (Lf.gb _)⟩

set_option maxRecDepth 100000 in
set_option maxHeartbeats 1000000 in
theorem br_no1 (a : Option Addr) (l c : Nat) (W : World) (p : Int) (h20 : p ≠ 20) : Calls Try.prog 47 #[tyV 1 a l c, .int .i64 p] W fun e w' => e = .returned (.tuple #[.int .i64 0, .slice none 0 0, .bool false]) ∧ W.grownBy w' none := by
  have b20 : (p == 20) = false := by simpa using h20
  clear h20
  unfold tyV
  go_enter Try.func47, Try.ntmps47
  go_wp2_with fail
  go_ret3
  exact ⟨rfl, Lf.gb _⟩

set_option maxRecDepth 100000 in
set_option maxHeartbeats 1000000 in
theorem br_no2 (a : Option Addr) (l c : Nat) (W : World) (p : Int) (h21 : p ≠ 21) (h22 : p ≠ 22) : Calls Try.prog 47 #[tyV 2 a l c, .int .i64 p] W fun e w' => e = .returned (.tuple #[.int .i64 0, .slice none 0 0, .bool false]) ∧ W.grownBy w' none := by
  have b21 : (p == 21) = false := by simpa using h21
  have b22 : (p == 22) = false := by simpa using h22
  clear h21 h22
  unfold tyV
  go_enter Try.func47, Try.ntmps47
  go_wp2_with fail
  go_ret3
  exact ⟨rfl, Lf.gb _⟩

set_option maxRecDepth 100000 in
set_option maxHeartbeats 1000000 in
theorem br_no9 (a : Option Addr) (l c : Nat) (W : World) (p : Int) (h26 : p ≠ 26) (h27 : p ≠ 27) : Calls Try.prog 47 #[tyV 9 a l c, .int .i64 p] W fun e w' => e = .returned (.tuple #[.int .i64 0, .slice none 0 0, .bool false]) ∧ W.grownBy w' none := by
  have b26 : (p == 26) = false := by simpa using h26
  have b27 : (p == 27) = false := by simpa using h27
  clear h26 h27
  unfold tyV
  go_enter Try.func47, Try.ntmps47
  go_wp2_with fail
  go_ret3
  exact ⟨rfl, Lf.gb _⟩

set_option maxRecDepth 100000 in
set_option maxHeartbeats 1000000 in
theorem br_no11 (a : Option Addr) (l c : Nat) (W : World) (p : Int) (h23 : p ≠ 23) : Calls Try.prog 47 #[tyV 11 a l c, .int .i64 p] W fun e w' => e = .returned (.tuple #[.int .i64 0, .slice none 0 0, .bool false]) ∧ W.grownBy w' none := by
  have b23 : (p == 23) = false := by simpa using h23
  clear h23
  unfold tyV
  go_enter Try.func47, Try.ntmps47
  go_wp2_with fail
  go_ret3
  exact ⟨rfl, Lf.gb _⟩

set_option maxRecDepth 100000 in
set_option maxHeartbeats 1000000 in
theorem br_no12 (a : Option Addr) (l c : Nat) (W : World) (p : Int) (h24 : p ≠ 24) (h25 : p ≠ 25) : Calls Try.prog 47 #[tyV 12 a l c, .int .i64 p] W fun e w' => e = .returned (.tuple #[.int .i64 0, .slice none 0 0, .bool false]) ∧ W.grownBy w' none := by
  have b24 : (p == 24) = false := by simpa using h24
  have b25 : (p == 25) = false := by simpa using h25
  clear h24 h25
  unfold tyV
  go_enter Try.func47, Try.ntmps47
  go_wp2_with fail
  go_ret3
  exact ⟨rfl, Lf.gb _⟩

set_option maxRecDepth 100000 in
set_option maxHeartbeats 1000000 in
theorem br_no (a : Option Addr) (l c : Nat) (W : World) (t p : Int) (h1 : t ≠ 1) (h2 : t ≠ 2) (h9 : t ≠ 9) (h11 : t ≠ 11) (h12 : t ≠ 12) : Calls Try.prog 47 #[tyV t a l c, .int .i64 p] W fun e w' => e = .returned (.tuple #[.int .i64 0, .slice none 0 0, .bool false]) ∧ W.grownBy w' none := by
  have b1 : (t == 1) = false := by simpa using h1
  have b2 : (t == 2) = false := by simpa using h2
  have b9 : (t == 9) = false := by simpa using h9
  have b11 : (t == 11) = false := by simpa using h11
  have b12 : (t == 12) = false := by simpa using h12
  clear h1 h2 h9 h11 h12
  unfold tyV
  go_enter Try.func47, Try.ntmps47
  go_wp2_with fail
  go_ret3
  exact ⟨rfl, Lf.gb _⟩

/-- what branch answers -/
def BranchPost (ok : Nat → Prop) (T : Ty) (p : Int) (W : World) (e : Ending) (w' : World) : Prop :=
  W.grownBy w' none ∧ ((branchF T p = none ∧ e = .returned (.tuple #[.int .i64 0, .slice none 0 0, .bool false])) ∨
    ∃ m ts ta tc V, branchF T p = some (m, ts) ∧ e = .returned (.tuple #[.int .i64 m, .slice ta ts.length tc, .bool true]) ∧ I64 m ∧ RowT ok W ts ta V ∧ (∃ d, ∀ U ∈ ts, formedB d U = true) ∧ ts.length ≤ 2)

theorem branch_any {ok : Nat → Prop} {W : World} {T : Ty} {tv : Value} (hT : LiesT ok W T tv) {d : Nat} (hf : formedB d T = true) (p : Int) : Calls Try.prog 47 #[tv, .int .i64 p] W (BranchPost ok T p W) := by
  have hcap := hT
  obtain ⟨a, c, V, rfl, it, hR⟩ := hT.inv
  have hcp := hcap.cap
  obtain ⟨hlen, hfa⟩ := formed_args2 hf
  have I0 : I64 0 := ⟨by omega, by omega⟩
  have I1 : I64 1 := ⟨by omega, by omega⟩
  obtain ⟨t, args⟩ := T
  simp only [Ty.t, Ty.args] at *
  have hno : branchF (.nd t args) p = none → (Calls Try.prog 47 #[tyV t a args.length c, .int .i64 p] W fun e w' => e = .returned (.tuple #[.int .i64 0, .slice none 0 0, .bool false]) ∧ W.grownBy w' none) → Calls Try.prog 47 #[tyV t a args.length c, .int .i64 p] W (BranchPost ok (.nd t args) p W) := fun h1 h2 => h2.mono fun e w' ⟨he, hg⟩ => ⟨hg, .inl ⟨h1, he⟩⟩
  have hnil : ∀ m, I64 m → branchF (.nd t args) p = some (m, []) → (Calls Try.prog 47 #[tyV t a args.length c, .int .i64 p] W fun e w' => e = .returned (.tuple #[.int .i64 m, .slice none 0 0, .bool true]) ∧ W.grownBy w' none) → Calls Try.prog 47 #[tyV t a args.length c, .int .i64 p] W (BranchPost ok (.nd t args) p W) := fun m im h1 h2 => h2.mono fun e w' ⟨he, hg⟩ => ⟨hg, .inr ⟨m, [], none, 0, fun _ => .int .i64 0, h1, he, im, RowT.nil _ _ _ _, ⟨0, fun U hU => by simp at hU⟩, by simp⟩⟩
  by_cases h1 : t = 1
  · subst h1
    by_cases q : p = 20
    · subst q; exact hnil 0 I0 rfl (br_unit _ _ _ _)
    · exact hno (by simp [branchF, Ty.t, q]) (br_no1 _ _ _ _ _ q)
  by_cases h2 : t = 2
  · subst h2
    by_cases q : p = 22
    · subst q; exact hnil 0 I0 rfl (br_false _ _ _ _)
    by_cases q2 : p = 21
    · subst q2; exact hnil 1 I1 rfl (br_true _ _ _ _)
    exact hno (by simp [branchF, Ty.t, q, q2]) (br_no2 _ _ _ _ _ q2 q)
  by_cases h9 : t = 9
  · subst h9
    by_cases q : p = 27
    · subst q; exact hnil 0 I0 rfl (br_none _ _ _ _)
    by_cases q2 : p = 26
    · subst q2
      have hl1 : args.length = 1 := by simp [partsF] at hlen; omega
      exact (br_some _ _ _ _).mono fun e w' ⟨he, hg⟩ => ⟨hg, .inr ⟨0, args, a, c, V, rfl, he, I0, hR, ⟨_, hfa⟩, by omega⟩⟩
    exact hno (by simp [branchF, Ty.t, q, q2]) (br_no9 _ _ _ _ _ q2 q)
  by_cases h11 : t = 11
  · subst h11
    by_cases q : p = 23
    · subst q
      have hl2 : args.length = 2 := by simp [partsF] at hlen; omega
      exact (br_pair _ _ _ _).mono fun e w' ⟨he, hg⟩ => ⟨hg, .inr ⟨0, args, a, c, V, rfl, he, I0, hR, ⟨_, hfa⟩, by omega⟩⟩
    exact hno (by simp [branchF, Ty.t, q]) (br_no11 _ _ _ _ _ q)
  by_cases h12 : t = 12
  · subst h12
    have hl2 : args.length = 2 := by simp [partsF] at hlen; omega
    obtain ⟨A, B, rfl⟩ : ∃ A B, args = [A, B] := by
      match args, hl2 with
      | [A, B], _ => exact ⟨A, B, rfl⟩
    obtain ⟨b, o, rfl, _, t0, a0, l0, c0, hv0, e0, e1⟩ := hR.2.1 0 (by simp)
    obtain ⟨b', o', hbo, hok1, t1, a1, l1, c1, hv1, e2, e3⟩ := hR.2.1 1 (by simp)
    simp only [Option.some.injEq, Addr.mk.injEq, and_true] at hbo
    obtain ⟨rfl, rfl⟩ := hbo
    simp only [List.length_cons, List.length_nil] at hcp
    by_cases q : p = 24
    · subst q
      refine (br_left b o c (by omega) W).mono fun e w' ⟨he, hg⟩ => ⟨hg, .inr ⟨0, [A], some ⟨b, o, none⟩, c, V, rfl, he, I0, ⟨by simp [maxLen], fun i hi => ?_, fun i hi => ?_⟩, ⟨d + 1, fun U hU => hfa U (by simp at hU; simp [hU])⟩, by simp⟩⟩
      · obtain rfl : i = 0 := by simp at hi; omega
        exact hR.2.1 0 (by simp)
      · obtain rfl : i = 0 := by simp at hi; omega
        exact hR.2.2 0 (by simp)
    by_cases q2 : p = 25
    · subst q2
      refine (br_right b o c (by omega) W).mono fun e w' ⟨he, hg⟩ => ⟨hg, .inr ⟨1, [B], some ⟨b, o + 2, none⟩, c - 1, fun i => V (i + 1), rfl, he, I1, ⟨by simp [maxLen], fun i hi => ?_, fun i hi => ?_⟩, ⟨d + 1, fun U hU => hfa U (by simp at hU; simp [hU])⟩, by simp⟩⟩
      · obtain rfl : i = 0 := by simp at hi; omega
        exact ⟨b, o + 2, rfl, hok1, t1, a1, l1, c1, hv1, by simpa using e2, by simpa using e3⟩
      · obtain rfl : i = 0 := by simp at hi; omega
        exact hR.2.2 1 (by simp)
    exact hno (by simp [branchF, Ty.t, q, q2]) (br_no12 _ _ _ _ _ q q2)
  exact hno (by simp [branchF, Ty.t, h1, h2, h9, h11, h12]) (br_no _ _ _ _ _ _ h1 h2 h9 h11 h12)

end Go.Proofs.Ytdninmanfncfiad
