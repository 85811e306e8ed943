/- The library's Mul64 and num.Mul by contracts: for all numbers of 64 bits Mul returns the product, or says that it is not within the bounds, and the world stays as it was. -/
import Derived.Test.YtlambneopjecbaaNum
import Derived.Lib.Mul64
import Derived.Laws.Bits64b
namespace Go.Proofs.Ytlambneopjecbaa.Nu
open Go.ChangeShapes Go.WideShapes Go.ChangeAt Go.RowKit

namespace Halves
theorem low {a : Nat} (h : a < 18446744073709551616) : bits .and .u64 (a : Int) 4294967295 = ((a % 4294967296 : Nat) : Int) := by
  have e := bits_and_u64_nat a 4294967295 h (by omega)
  rw [show a &&& 4294967295 = a % 4294967296 from Nat.and_two_pow_sub_one_eq_mod a 32] at e
  exact e
theorem high (a : Nat) : (a : Int) / 4294967296 = ((a / 4294967296 : Nat) : Int) := by omega
theorem prod (a b : Nat) : (a : Int) * (b : Int) = ((a * b : Nat) : Int) := (Int.natCast_mul a b).symm
theorem sum (a b : Nat) : (a : Int) + (b : Int) = ((a + b : Nat) : Int) := (Int.natCast_add a b).symm
theorem stays {a : Nat} (h : a < 18446744073709551616) : IntKind.u64.wrap (a : Int) = (a : Int) := by rw [IntKind.wrap_u64]; omega
theorem turns (a : Nat) : IntKind.u64.wrap (a : Int) = ((a % 18446744073709551616 : Nat) : Int) := by rw [IntKind.wrap_u64]; omega
end Halves

set_option maxHeartbeats 1000000 in
theorem mul64_any (x y : Nat) (hx : x < 18446744073709551616) (hy : y < 18446744073709551616) (w : World) :
    Calls Try.prog 22 #[.int .u64 x, .int .u64 y] w fun e w' => e = .returned (.tuple #[.int .u64 ((x * y / 18446744073709551616 : Nat) : Int), .int .u64 ((x * y % 18446744073709551616 : Nat) : Int)]) ∧ w' = w := by
  obtain ⟨b1, b2, b3, hhi⟩ := Lib.mul64_hi x y hx hy
  have p1 := Lib.half_mul_le (a := x / 4294967296) (b := y / 4294967296) (by omega) (by omega)
  have p2 := Lib.half_mul_le (a := x / 4294967296) (b := y % 4294967296) (by omega) (by omega)
  have p3 := Lib.half_mul_le (a := x % 4294967296) (b := y / 4294967296) (by omega) (by omega)
  have q1 : x / 4294967296 * (y / 4294967296) < 18446744073709551616 := by omega
  have q2 : x / 4294967296 * (y % 4294967296) < 18446744073709551616 := by omega
  have q3 : x % 4294967296 * (y / 4294967296) < 18446744073709551616 := by omega
  have s1 : x / 4294967296 * (y / 4294967296) + (x / 4294967296 * (y % 4294967296) + x % 4294967296 * (y % 4294967296) / 4294967296) / 4294967296 < 18446744073709551616 := by omega
  have s2 : x / 4294967296 * (y / 4294967296) + (x / 4294967296 * (y % 4294967296) + x % 4294967296 * (y % 4294967296) / 4294967296) / 4294967296 + ((x / 4294967296 * (y % 4294967296) + x % 4294967296 * (y % 4294967296) / 4294967296) % 4294967296 + x % 4294967296 * (y / 4294967296)) / 4294967296 < 18446744073709551616 := by omega
  have HH : Hid (_ = _) := hhi
  clear hhi
  go_enter Try.func22, Try.ntmps22
  go_wp2
  simp only [Halves.low hx, Halves.low hy, Halves.high, Halves.prod, Halves.sum, Halves.stays b1, Halves.stays q2, Halves.stays b2, Halves.low b2, Halves.stays q3, Halves.stays b3, Halves.stays q1, Halves.stays s1, Halves.stays s2, Halves.turns (x * y)]
  rw [HH.out]
  go_ret2
  exact ⟨rfl, rfl⟩

/-! The walks of Mul, a way each: both numbers are within the bounds, and Mul64 has answered hi and lo. -/
theorem mul_high (a b : Int) (hi lo : Nat) (w : World) (ha : -1152921504606846976 ≤ a ∧ a ≤ 1152921504606846976) (hb : -1152921504606846976 ≤ b ∧ b ≤ 1152921504606846976) (hM : Hid (∀ w, Calls Try.prog 22 #[.int .u64 (a.natAbs : Int), .int .u64 (b.natAbs : Int)] w fun e w' => e = .returned (.tuple #[.int .u64 (hi : Int), .int .u64 (lo : Int)]) ∧ w' = w)) (h0 : ((hi : Int) != 0) = true) :
    Calls Try.prog 11 #[.int .i64 a, .int .i64 b] w fun e w' => e = .returned (.tuple #[.int .i64 (0), .int .i64 11]) ∧ w' = w := by
  go_enter Try.func11, Try.ntmps11
  go_wp2_with fail
  refine (in_yes _ _ ha).mono ?_; rintro e w' ⟨rfl, rfl⟩
  go_wp2_with fail
  refine (in_yes _ _ hb).mono ?_; rintro e w' ⟨rfl, rfl⟩
  go_wp2_with fail
  refine (size_any _ _ ha).mono ?_; rintro e w' ⟨rfl, rfl⟩
  go_wp2_with fail
  refine (size_any _ _ hb).mono ?_; rintro e w' ⟨rfl, rfl⟩
  go_wp2_with fail
  refine (hM _).mono ?_; rintro e w' ⟨rfl, rfl⟩
  go_wp2
  go_ret2
  exact ⟨rfl, rfl⟩

theorem mul_low (a b : Int) (lo : Nat) (w : World) (ha : -1152921504606846976 ≤ a ∧ a ≤ 1152921504606846976) (hb : -1152921504606846976 ≤ b ∧ b ≤ 1152921504606846976) (hM : Hid (∀ w, Calls Try.prog 22 #[.int .u64 (a.natAbs : Int), .int .u64 (b.natAbs : Int)] w fun e w' => e = .returned (.tuple #[.int .u64 (0 : Int), .int .u64 (lo : Int)]) ∧ w' = w)) (h0 : (1152921504606846976 : Int) < (lo : Int)) :
    Calls Try.prog 11 #[.int .i64 a, .int .i64 b] w fun e w' => e = .returned (.tuple #[.int .i64 (0), .int .i64 11]) ∧ w' = w := by
  go_enter Try.func11, Try.ntmps11
  go_wp2_with fail
  refine (in_yes _ _ ha).mono ?_; rintro e w' ⟨rfl, rfl⟩
  go_wp2_with fail
  refine (in_yes _ _ hb).mono ?_; rintro e w' ⟨rfl, rfl⟩
  go_wp2_with fail
  refine (size_any _ _ ha).mono ?_; rintro e w' ⟨rfl, rfl⟩
  go_wp2_with fail
  refine (size_any _ _ hb).mono ?_; rintro e w' ⟨rfl, rfl⟩
  go_wp2_with fail
  refine (hM _).mono ?_; rintro e w' ⟨rfl, rfl⟩
  go_wp2
  go_ret2
  exact ⟨rfl, rfl⟩

theorem mul_pos (a b : Int) (lo : Nat) (w : World) (ha : -1152921504606846976 ≤ a ∧ a ≤ 1152921504606846976) (hb : -1152921504606846976 ≤ b ∧ b ≤ 1152921504606846976) (hM : Hid (∀ w, Calls Try.prog 22 #[.int .u64 (a.natAbs : Int), .int .u64 (b.natAbs : Int)] w fun e w' => e = .returned (.tuple #[.int .u64 (0 : Int), .int .u64 (lo : Int)]) ∧ w' = w)) (h0 : (lo : Int) ≤ 1152921504606846976) (h : (a < 0 ∧ b < 0) ∨ (0 ≤ a ∧ 0 ≤ b)) :
    Calls Try.prog 11 #[.int .i64 a, .int .i64 b] w fun e w' => e = .returned (.tuple #[.int .i64 ((lo : Int)), .int .i64 0]) ∧ w' = w := by
  rcases h with ⟨na, nb⟩ | ⟨na, nb⟩
  · have da : decide (a < 0) = true := by simp; omega
    have db : decide (b < 0) = true := by simp; omega
    go_enter Try.func11, Try.ntmps11
    go_wp2_with fail
    refine (in_yes _ _ ha).mono ?_; rintro e w' ⟨rfl, rfl⟩
    go_wp2_with fail
    refine (in_yes _ _ hb).mono ?_; rintro e w' ⟨rfl, rfl⟩
    go_wp2_with fail
    refine (size_any _ _ ha).mono ?_; rintro e w' ⟨rfl, rfl⟩
    go_wp2_with fail
    refine (size_any _ _ hb).mono ?_; rintro e w' ⟨rfl, rfl⟩
    go_wp2_with fail
    refine (hM _).mono ?_; rintro e w' ⟨rfl, rfl⟩
    go_wp2
    go_ret2
    exact ⟨rfl, rfl⟩
  · have da : decide (a < 0) = false := by simp; omega
    have db : decide (b < 0) = false := by simp; omega
    go_enter Try.func11, Try.ntmps11
    go_wp2_with fail
    refine (in_yes _ _ ha).mono ?_; rintro e w' ⟨rfl, rfl⟩
    go_wp2_with fail
    refine (in_yes _ _ hb).mono ?_; rintro e w' ⟨rfl, rfl⟩
    go_wp2_with fail
    refine (size_any _ _ ha).mono ?_; rintro e w' ⟨rfl, rfl⟩
    go_wp2_with fail
    refine (size_any _ _ hb).mono ?_; rintro e w' ⟨rfl, rfl⟩
    go_wp2_with fail
    refine (hM _).mono ?_; rintro e w' ⟨rfl, rfl⟩
    go_wp2
    go_ret2
    exact ⟨rfl, rfl⟩

theorem mul_neg (a b : Int) (lo : Nat) (w : World) (ha : -1152921504606846976 ≤ a ∧ a ≤ 1152921504606846976) (hb : -1152921504606846976 ≤ b ∧ b ≤ 1152921504606846976) (hM : Hid (∀ w, Calls Try.prog 22 #[.int .u64 (a.natAbs : Int), .int .u64 (b.natAbs : Int)] w fun e w' => e = .returned (.tuple #[.int .u64 (0 : Int), .int .u64 (lo : Int)]) ∧ w' = w)) (h0 : (lo : Int) ≤ 1152921504606846976) (h : (a < 0 ∧ 0 ≤ b) ∨ (0 ≤ a ∧ b < 0)) :
    Calls Try.prog 11 #[.int .i64 a, .int .i64 b] w fun e w' => e = .returned (.tuple #[.int .i64 (-(lo : Int)), .int .i64 0]) ∧ w' = w := by
  rcases h with ⟨na, nb⟩ | ⟨na, nb⟩
  · have da : decide (a < 0) = true := by simp; omega
    have db : decide (b < 0) = false := by simp; omega
    go_enter Try.func11, Try.ntmps11
    go_wp2_with fail
    refine (in_yes _ _ ha).mono ?_; rintro e w' ⟨rfl, rfl⟩
    go_wp2_with fail
    refine (in_yes _ _ hb).mono ?_; rintro e w' ⟨rfl, rfl⟩
    go_wp2_with fail
    refine (size_any _ _ ha).mono ?_; rintro e w' ⟨rfl, rfl⟩
    go_wp2_with fail
    refine (size_any _ _ hb).mono ?_; rintro e w' ⟨rfl, rfl⟩
    go_wp2_with fail
    refine (hM _).mono ?_; rintro e w' ⟨rfl, rfl⟩
    go_wp2
    go_ret2
    exact ⟨rfl, rfl⟩
  · have da : decide (a < 0) = false := by simp; omega
    have db : decide (b < 0) = true := by simp; omega
    go_enter Try.func11, Try.ntmps11
    go_wp2_with fail
    refine (in_yes _ _ ha).mono ?_; rintro e w' ⟨rfl, rfl⟩
    go_wp2_with fail
    refine (in_yes _ _ hb).mono ?_; rintro e w' ⟨rfl, rfl⟩
    go_wp2_with fail
    refine (size_any _ _ ha).mono ?_; rintro e w' ⟨rfl, rfl⟩
    go_wp2_with fail
    refine (size_any _ _ hb).mono ?_; rintro e w' ⟨rfl, rfl⟩
    go_wp2_with fail
    refine (hM _).mono ?_; rintro e w' ⟨rfl, rfl⟩
    go_wp2
    go_ret2
    exact ⟨rfl, rfl⟩

theorem mul_any (a b : Int) (w : World) :
    Calls Try.prog 11 #[.int .i64 a, .int .i64 b] w fun e w' => e = .returned (.tuple #[.int .i64 (Ar.mulF a b).1, .int .i64 (Ar.mulF a b).2]) ∧ w' = w := by
  by_cases ha : -1152921504606846976 ≤ a ∧ a ≤ 1152921504606846976
  · by_cases hb : -1152921504606846976 ≤ b ∧ b ≤ 1152921504606846976
    · have hM := fun w => mul64_any a.natAbs b.natAbs (by omega) (by omega) w
      have hin := Ar.mul_in a b
      by_cases hp : a.natAbs * b.natAbs ≤ 1152921504606846976
      · have e0 : Ar.mulF a b = (a * b, 0) := Ar.pairF_ok (Ar.inB_mk ha) (Ar.inB_mk hb) (hin.2 hp)
        rw [e0]
        have e1 : a.natAbs * b.natAbs / 18446744073709551616 = 0 := by omega
        have e2 : a.natAbs * b.natAbs % 18446744073709551616 = a.natAbs * b.natAbs := by omega
        rw [e1, e2] at hM
        by_cases hs : (a < 0 ∧ b < 0) ∨ (0 ≤ a ∧ 0 ≤ b)
        · rw [Ar.mul_same hs]
          exact mul_pos a b _ w ha hb hM (by omega) hs
        · have hs' : (a < 0 ∧ 0 ≤ b) ∨ (0 ≤ a ∧ b < 0) := by omega
          rw [Ar.mul_other hs']
          exact mul_neg a b _ w ha hb hM (by omega) hs'
      · have e0 : Ar.mulF a b = (0, 11) := Ar.pairF_over (Ar.inB_mk ha) (Ar.inB_mk hb) (fun c => hp (hin.1 c))
        rw [e0]
        by_cases h0 : a.natAbs * b.natAbs / 18446744073709551616 = 0
        · have e2 : a.natAbs * b.natAbs % 18446744073709551616 = a.natAbs * b.natAbs := by omega
          rw [h0, e2] at hM
          exact mul_low a b _ w ha hb hM (by omega)
        · exact mul_high a b _ _ w ha hb hM (by rw [bne_iff_ne]; omega)
    · have e1 : Ar.mulF a b = (0, 2) := Ar.pairF_out (fun c => hb (Ar.inB_true c.2))
      rw [e1]
      clear e1
      obtain ⟨ha1, ha2⟩ := ha
      go_enter Try.func11, Try.ntmps11
      go_wp2_with fail
      refine (in_yes _ _ ⟨ha1, ha2⟩).mono ?_; rintro e w' ⟨rfl, rfl⟩
      go_wp2_with fail
      refine (in_no _ _ hb).mono ?_; rintro e w' ⟨rfl, rfl⟩
      go_wp2
      go_ret2
      exact ⟨rfl, rfl⟩
  · have e1 : Ar.mulF a b = (0, 2) := Ar.pairF_out (fun c => ha (Ar.inB_true c.1))
    rw [e1]
    clear e1
    go_enter Try.func11, Try.ntmps11
    go_wp2_with fail
    refine (in_no _ _ ha).mono ?_; rintro e w' ⟨rfl, rfl⟩
    go_wp2
    go_ret2
    exact ⟨rfl, rfl⟩

end Go.Proofs.Ytlambneopjecbaa.Nu
