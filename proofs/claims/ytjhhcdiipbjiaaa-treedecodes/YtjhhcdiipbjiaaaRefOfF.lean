/- The document's own reading of a number (numberOf), in plain data. -/
import Derived.Test.YtjhhcdiipbjiaaaRefNum
namespace Go.Proofs.Ytjhhcdiipbjiaaa
open Go.ChangeShapes Go.WideShapes Go.ChangeAt Go.RowKit
set_option linter.unusedVariables false

theorem grow_undrew {w w' : World} {r : Option Nat} (h : w.drew.grownBy w' r) : w.grownBy w' r := ⟨h.os, h.tape, h.output, h.size, h.block⟩

def rnumF (l : List UInt8) : Int × Nat := match pNum l with
  | some (m, l') => (m, l.length - l'.length)
  | none => (0, 0)

theorem andu8 (f : UInt8) : bits .and .u8 (f.toNat : Int) 64 = ((f.toNat / 64 % 2 * 64 : Nat) : Int) := by
  have : ∀ x : Fin 256, bits .and .u8 (x.val : Int) 64 = ((x.val / 64 % 2 * 64 : Nat) : Int) := by decide +kernel
  exact this ⟨f.toNat, f.toNat_lt⟩

theorem bytes_cell (w : World) (l : List UInt8) (cap : Nat) (fr : Nat × Nat) (i : Nat) (h : i < l.length) :
    (w.drew.alloc (.cells (bytesRow (bs l) cap) 5 fr)).cell? ⟨w.heap.size, i, none⟩ = some (.int .u8 (l[i].toNat : Int)) := by
  rw [cell_of_row _ w.heap.size i (bytesRow (bs l) cap) 5 fr (heap_alloc_new w.drew _)]
  unfold bytesRow
  rw [Array.getElem?_append_left (by simp [bs]; exact h)]
  simp [bs, h]

/-- the sign of a number that begins with f -/
def sgn (f : UInt8) (size : Nat) : Int := if f.toNat / 64 % 2 = 1 then -(size : Int) else size

theorem fin_yes {f : UInt8} {l0 : List UInt8} {size i : Nat} (hi : i < (f :: l0).length) (hb : -1152921504606846976 ≤ sgn f size ∧ sgn f size ≤ 1152921504606846976) (he : encN (sgn f size) = (f :: l0).take (i + 1)) :
    rnumF (f :: l0) = (sgn f size, i + 1) := by
  have h1 : f :: l0 = encN (sgn f size) ++ (f :: l0).drop (i + 1) := by rw [he, List.take_append_drop]
  unfold rnumF
  rw [h1, pNum_complete _ _ hb, ← h1]
  simp only [List.length_drop]
  congr 1
  omega

theorem fin_no {f last : UInt8} {l0 : List UInt8} {size i : Nat} (hi : i < (f :: l0).length) (hT : numTail 8 6 (f.toNat % 64) f l0 = some (size, last, (f :: l0).drop (i + 1)))
    (hn : ¬ ((-1152921504606846976 ≤ sgn f size ∧ sgn f size ≤ 1152921504606846976) ∧ encN (sgn f size) = (f :: l0).take (i + 1))) : rnumF (f :: l0) = (0, 0) := by
  have hp : pNum (f :: l0) = none := by
    cases hq : pNum (f :: l0) with
    | none => rfl
    | some r =>
      obtain ⟨m, l'⟩ := r
      obtain ⟨h1, h2⟩ := pNum_sound hq
      rw [pNum, hT] at hq
      simp only at hq
      split at hq
      · simp at hq
      · simp only [Option.some.injEq, Prod.mk.injEq] at hq
        obtain ⟨e1, e2⟩ := hq
        have e1' : sgn f size = m := e1
        refine absurd ⟨by rw [e1']; exact h1, ?_⟩ hn
        rw [e1']
        have hl := congrArg List.length h2
        rw [List.length_append, ← e2, List.length_drop] at hl
        rw [h2, ← e2]
        rw [List.take_append_of_le_length (by omega), List.take_of_length_le (by omega)]
  unfold rnumF
  rw [hp]

theorem none_of {f : UInt8} {l0 : List UInt8} (h : numTail 8 6 (f.toNat % 64) f l0 = none) : rnumF (f :: l0) = (0, 0) := by
  have hp : pNum (f :: l0) = none := by rw [pNum, h]
  unfold rnumF; rw [hp]

theorem big_of {f last : UInt8} {l0 l1 : List UInt8} {size : Nat} (h : numTail 8 6 (f.toNat % 64) f l0 = some (size, last, l1)) (hs : 1152921504606846976 < size) : rnumF (f :: l0) = (0, 0) := by
  have hp : pNum (f :: l0) = none := by rw [pNum, h]; simp only; rw [if_pos (.inr (.inl hs))]
  unfold rnumF; rw [hp]

/-- where reading stands at the i-th byte, i > 0 -/
def RN (f : UInt8) (l0 : List UInt8) (i : Nat) (size : Nat) : Prop := ∃ last : UInt8, 1 ≤ i ∧ i ≤ 9 ∧ 128 ≤ last.toNat ∧ size < 2 ^ (6 + 7 * (i - 1)) ∧ numTail (9 - i) (6 + 7 * (i - 1)) size last ((f :: l0).drop i) = numTail 8 6 (f.toNat % 64) f l0

theorem rn_end {f : UInt8} {l0 : List UInt8} {i size : Nat} (h : RN f l0 i size) (hi : (f :: l0).length ≤ i) : rnumF (f :: l0) = (0, 0) := by
  obtain ⟨last, h1, h2, h3, h4, h5⟩ := h
  apply none_of
  rw [← h5, List.drop_of_length_le hi]
  cases hk : 9 - i with
  | zero => rw [numTail.eq_def]; simp; omega
  | succ k => exact numTail_nil _ _ _ _ (by omega)

theorem rn_nine {f : UInt8} {l0 : List UInt8} {i size : Nat} (h : RN f l0 i size) (hi : 8 < i) : rnumF (f :: l0) = (0, 0) := by
  obtain ⟨last, h1, h2, h3, h4, h5⟩ := h
  apply none_of
  rw [← h5, show 9 - i = 0 from by omega, numTail.eq_def]; simp; omega

theorem drop_cons {f : UInt8} {l0 : List UInt8} {i : Nat} (hi : i < (f :: l0).length) : (f :: l0).drop i = (f :: l0)[i] :: (f :: l0).drop (i + 1) := List.drop_eq_getElem_cons hi

theorem rn_step {f : UInt8} {l0 : List UInt8} {i size : Nat} (h : RN f l0 i size) (hi : i < (f :: l0).length) (h8 : i ≤ 8) :
    numTail (8 - i) (6 + 7 * i) (size + ((f :: l0)[i]).toNat % 128 * 2 ^ (6 + 7 * (i - 1))) (f :: l0)[i] ((f :: l0).drop (i + 1)) = numTail 8 6 (f.toNat % 64) f l0 ∧
    size + ((f :: l0)[i]).toNat % 128 * 2 ^ (6 + 7 * (i - 1)) < 2 ^ (6 + 7 * i) := by
  obtain ⟨last, h1, h2, h3, h4, h5⟩ := h
  rw [drop_cons hi, show 9 - i = (8 - i) + 1 from by omega, numTail_cons _ _ _ _ _ _ (by omega), show 6 + 7 * (i - 1) + 7 = 6 + 7 * i from by omega] at h5
  refine ⟨h5, ?_⟩
  have e : 6 + 7 * i = 6 + 7 * (i - 1) + 7 := by omega
  have hp0 : 0 < 2 ^ (6 + 7 * (i - 1)) := Nat.pow_pos (by omega)
  have hx : ((f :: l0)[i]).toNat % 128 * 2 ^ (6 + 7 * (i - 1)) + 2 ^ (6 + 7 * (i - 1)) ≤ 128 * 2 ^ (6 + 7 * (i - 1)) := by
    have := Nat.mul_le_mul_right (2 ^ (6 + 7 * (i - 1))) (show ((f :: l0)[i]).toNat % 128 + 1 ≤ 128 by omega)
    rw [Nat.add_mul, Nat.one_mul] at this; exact this
  have e2 : (2 : Nat) ^ (6 + 7 * i) = 2 ^ (6 + 7 * (i - 1)) * 128 := by rw [e]; exact Nat.pow_add 2 (6 + 7 * (i - 1)) 7
  rw [e2]
  omega

theorem rn_next {f : UInt8} {l0 : List UInt8} {i size : Nat} (h : RN f l0 i size) (hi : i < (f :: l0).length) (h8 : i ≤ 8) (hc : 128 ≤ ((f :: l0)[i]).toNat) : RN f l0 (i + 1) (size + ((f :: l0)[i]).toNat % 128 * 2 ^ (6 + 7 * (i - 1))) := by
  obtain ⟨a, b⟩ := rn_step h hi h8
  refine ⟨(f :: l0)[i], by omega, by omega, hc, ?_, ?_⟩
  · rw [show i + 1 - 1 = i from rfl]; exact b
  · rw [show i + 1 - 1 = i from rfl, show 9 - (i + 1) = 8 - i from by omega]; exact a

theorem rn_fin {f : UInt8} {l0 : List UInt8} {i size : Nat} (h : RN f l0 i size) (hi : i < (f :: l0).length) (h8 : i ≤ 8) (hc : ((f :: l0)[i]).toNat < 128) : numTail 8 6 (f.toNat % 64) f l0 = some (size + ((f :: l0)[i]).toNat % 128 * 2 ^ (6 + 7 * (i - 1)), (f :: l0)[i], (f :: l0).drop (i + 1)) := by
  rw [← (rn_step h hi h8).1, numTail_lo _ _ _ _ _ hc]

theorem rn_big {f : UInt8} {l0 : List UInt8} {size : Nat} (h : RN f l0 8 size) (hi : 8 < (f :: l0).length) (hb : 63 < ((f :: l0)[8]).toNat % 128) : rnumF (f :: l0) = (0, 0) := by
  by_cases hc : ((f :: l0)[8]).toNat < 128
  · refine big_of (rn_fin h hi (by omega) hc) ?_
    have : (2 : Nat) ^ (6 + 7 * (8 - 1)) = 36028797018963968 := by decide +kernel
    rw [this]
    omega
  · apply none_of
    rw [← (rn_step h hi (by omega)).1, show 8 - 8 = 0 from rfl, numTail.eq_def]; simp only; rw [if_neg hc]

theorem pow_k (i : Nat) (h : 1 ≤ i) (h9 : i ≤ 9) : (2 : Nat) ^ (6 + 7 * (i - 1)) ≤ 4611686018427387904 ∧ 1 ≤ (2 : Nat) ^ (6 + 7 * (i - 1)) ∧ (i ≤ 8 → (2 : Nat) ^ (6 + 7 * (i - 1)) ≤ 36028797018963968 ∧ (2 : Nat) ^ (6 + 7 * (i - 1)) * 128 = 2 ^ (6 + 7 * i)) ∧ (i ≤ 7 → (2 : Nat) ^ (6 + 7 * (i - 1)) ≤ 281474976710656) := by
  have : ∀ k : Fin 9, (2 : Nat) ^ (6 + 7 * k.val) ≤ 4611686018427387904 ∧ 1 ≤ (2 : Nat) ^ (6 + 7 * k.val) ∧ (k.val ≤ 7 → (2 : Nat) ^ (6 + 7 * k.val) ≤ 36028797018963968) ∧ (k.val ≤ 6 → (2 : Nat) ^ (6 + 7 * k.val) ≤ 281474976710656) := by decide +kernel
  have hh := this ⟨i - 1, by omega⟩
  refine ⟨hh.1, hh.2.1, fun h8 => ⟨hh.2.2.1 (by show i - 1 ≤ 7; omega), ?_⟩, fun h7 => hh.2.2.2 (by show i - 1 ≤ 6; omega)⟩
  rw [show 6 + 7 * i = 6 + 7 * (i - 1) + 7 from by omega]; exact (Nat.pow_add 2 (6 + 7 * (i - 1)) 7).symm

end Go.Proofs.Ytjhhcdiipbjiaaa
