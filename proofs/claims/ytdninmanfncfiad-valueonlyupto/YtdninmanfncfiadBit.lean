/- Bits of numbers of 64 bits, and numbers as bytes. -/
import Derived.Test.YtdninmanfncfiadMem
import Derived.Lib.AppendStr
namespace Go.Proofs.Ytdninmanfncfiad
open Go.RowKit

theorem wrap_i64_nat (n : Nat) (h : n < 9223372036854775808) : IntKind.i64.wrap (n : Int) = (n : Int) := by
  have e : (n : Int) % 2 ^ 64 = n := Int.emod_eq_of_lt (by omega) (by omega)
  simp only [IntKind.wrap, IntKind.bits, IntKind.signed, e]
  rw [if_neg]
  simp
  omega

theorem ofInt64 (a : Nat) (h : a < 9223372036854775808) : (BitVec.ofInt 64 (a : Int)).toNat = a := by
  rw [BitVec.ofInt_natCast, BitVec.toNat_ofNat]; exact Nat.mod_eq_of_lt (by omega)

theorem and_i64_nat (a b : Nat) (ha : a < 9223372036854775808) (hb : b < 9223372036854775808) : bits .and .i64 (a : Int) (b : Int) = ((a &&& b : Nat) : Int) := by
  have hx : a &&& b < 2 ^ 63 := Nat.and_lt_two_pow _ (by omega)
  show IntKind.i64.wrap ((BitVec.ofInt 64 (a : Int) &&& BitVec.ofInt 64 (b : Int)).toNat : Int) = _
  rw [BitVec.toNat_and, ofInt64 a ha, ofInt64 b hb]
  exact wrap_i64_nat _ (by omega)

theorem or_i64_nat (a b : Nat) (ha : a < 9223372036854775808) (hb : b < 9223372036854775808) : bits .or .i64 (a : Int) (b : Int) = ((a ||| b : Nat) : Int) := by
  have hx : a ||| b < 2 ^ 63 := Nat.or_lt_two_pow (by omega) (by omega)
  show IntKind.i64.wrap ((BitVec.ofInt 64 (a : Int) ||| BitVec.ofInt 64 (b : Int)).toNat : Int) = _
  rw [BitVec.toNat_or, ofInt64 a ha, ofInt64 b hb]
  exact wrap_i64_nat _ (by omega)

theorem and63 (a : Nat) (h : a < 9223372036854775808) : bits .and .i64 (a : Int) 63 = ((a % 64 : Nat) : Int) := by
  have := and_i64_nat a 63 h (by omega)
  rw [show a &&& 63 = a % 64 from Nat.and_two_pow_sub_one_eq_mod a 6] at this
  exact this

theorem and127 (a : Nat) (h : a < 9223372036854775808) : bits .and .i64 (a : Int) 127 = ((a % 128 : Nat) : Int) := by
  have := and_i64_nat a 127 h (by omega)
  rw [show a &&& 127 = a % 128 from Nat.and_two_pow_sub_one_eq_mod a 7] at this
  exact this

theorem and64 (a : Nat) (h : a < 256) : bits .and .i64 (a : Int) 64 = ((a / 64 % 2 * 64 : Nat) : Int) := by
  have := and_i64_nat a 64 (by omega) (by omega)
  rw [show a &&& 64 = a / 64 % 2 * 64 from by
    have : ∀ x : Fin 256, x.val &&& 64 = x.val / 64 % 2 * 64 := by decide +kernel
    exact this ⟨a, h⟩] at this
  exact this

theorem or0 (a : Nat) (h : a < 64) : bits .or .i64 0 (a : Int) = (a : Int) := by
  have := or_i64_nat 0 a (by omega) (by omega)
  rw [Nat.zero_or] at this
  exact this

theorem or64 (a : Nat) (h : a < 64) : bits .or .i64 64 (a : Int) = ((64 + a : Nat) : Int) := by
  have := or_i64_nat 64 a (by omega) (by omega)
  rw [← Nat.two_pow_add_eq_or_of_lt (i := 6) h 1] at this
  exact this

theorem or128 (a : Nat) (h : a < 128) : bits .or .i64 (a : Int) 128 = ((128 + a : Nat) : Int) := by
  have := or_i64_nat a 128 (by omega) (by omega)
  rw [Nat.or_comm, ← Nat.two_pow_add_eq_or_of_lt (i := 7) h 1] at this
  exact this

/-- what is left of a number, 7 bits a byte; all but the last one have 128 more -/
def encT (last m : Nat) : List UInt8 := if m = 0 then [last.toUInt8] else (128 + last).toUInt8 :: encT (m % 128) (m / 128)
  termination_by m
  decreasing_by omega

/-- a number as bytes -/
def encN (n : Int) : List UInt8 := encT ((if n < 0 then 64 else 0) + n.natAbs % 64) (n.natAbs / 64)

theorem encT_len (m : Nat) : ∀ last, 1 ≤ (encT last m).length ∧ (∀ k, m < 128 ^ k → (encT last m).length ≤ k + 1) := by
  induction m using Nat.strongRecOn with
  | _ m ih =>
    intro last
    rw [encT]
    by_cases h : m = 0
    · simp [h]
    · rw [if_neg h]
      refine ⟨by simp, fun k hk => ?_⟩
      cases k with
      | zero => simp at hk; omega
      | succ k =>
        have := (ih (m / 128) (by omega) (m % 128)).2 k (by rw [Nat.pow_succ] at hk; omega)
        simp; omega

theorem encN_len (n : Int) (h : I64 n) : 1 ≤ (encN n).length ∧ (encN n).length ≤ 10 := by
  obtain ⟨h1, h2⟩ := h
  have := encT_len (n.natAbs / 64) ((if n < 0 then 64 else 0) + n.natAbs % 64)
  exact ⟨this.1, this.2 9 (by show _ < 9223372036854775808; omega)⟩

end Go.Proofs.Ytdninmanfncfiad
