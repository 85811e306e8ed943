/- The document's own reading of a tree as a type, as a plain function, and that it comes to the same. -/
import Derived.Test.YtjhhcdiipbjiaabParseT
namespace Go.Proofs.Ytjhhcdiipbjiaab
open Go.ChangeShapes Go.WideShapes Go.ChangeAt Go.RowKit

mutual
/-- typeOf: the type, and what is left -/
def typeF (D : Nat) (L : Int) : Tr → Ty × Int
  | .nd k n p s args => if primHere k n s = true ∧ D ≠ 0 ∧ 0 ≤ L - 1 then (.nd p (typeFs (D - 1) (L - 1) args).1, (typeFs (D - 1) (L - 1) args).2) else (.nd 0 [], L - 1)
def typeFs (D : Nat) (L : Int) : List Tr → List Ty × Int
  | [] => ([], L)
  | t :: ts => ((typeF D L t).1 :: (typeFs D (typeF D L t).2 ts).1, (typeFs D (typeF D L t).2 ts).2)
end

mutual
theorem typeF_left : ∀ (t : Tr) (D : Nat) (L : Int), L - t.size ≤ (typeF D L t).2 ∧ (typeF D L t).2 ≤ L
  | .nd k n p s args, D, L => by
    have h := typeFs_left args (D - 1) (L - 1)
    rw [typeF, Tr.size]
    split
    · simp only; omega
    · simp only; omega
theorem typeFs_left : ∀ (l : List Tr) (D : Nat) (L : Int), L - sizes l ≤ (typeFs D L l).2 ∧ (typeFs D L l).2 ≤ L
  | [], D, L => by simp [typeFs, sizes]
  | t :: ts, D, L => by
    have h1 := typeF_left t D L
    have h2 := typeFs_left ts D (typeF D L t).2
    rw [typeFs, sizes]
    simp only
    omega
end

theorem typeFs_len : ∀ (l : List Tr) (D : Nat) (L : Int), (typeFs D L l).1.length = l.length
  | [], D, L => by simp [typeFs]
  | t :: ts, D, L => by rw [typeFs]; simp [typeFs_len ts]

theorem typeFs_snoc : ∀ (l : List Tr) (x : Tr) (D : Nat) (L : Int), typeFs D L (l ++ [x]) = ((typeFs D L l).1 ++ [(typeF D (typeFs D L l).2 x).1], (typeF D (typeFs D L l).2 x).2)
  | [], x, D, L => by simp [typeFs]
  | t :: ts, x, D, L => by
    rw [List.cons_append, typeFs, typeFs_snoc ts x, typeFs]
    simp

mutual
theorem typeF_good : ∀ (t : Tr) (D d : Nat) (L : Int), formedB d (typeF D L t).1 = true → primB t = true ∧ typeF D L t = (readT t, L - t.size) ∧ (t.size : Int) ≤ L
  | .nd k n p s args, D, d, L => by
    intro h
    by_cases hc : primHere k n s = true ∧ D ≠ 0 ∧ 0 ≤ L - 1
    · have e : typeF D L (.nd k n p s args) = (.nd p (typeFs (D - 1) (L - 1) args).1, (typeFs (D - 1) (L - 1) args).2) := by rw [typeF, if_pos hc]
      rw [e] at h ⊢
      simp only [formedB, Bool.and_eq_true] at h
      obtain ⟨h1, h2, h3⟩ := typeFs_good args (D - 1) (d + 1) (L - 1) h.2 hc.2.2
      refine ⟨by simp [primB, hc.1, h1], ?_, ?_⟩
      · rw [h2, readT, Tr.size]
        simp only [Prod.mk.injEq, true_and]
        push_cast
        omega
      · rw [Tr.size]; push_cast; omega
    · have e : typeF D L (.nd k n p s args) = (.nd 0 [], L - 1) := by rw [typeF, if_neg hc]
      rw [e] at h
      simp [formedB, isTypeB] at h
theorem typeFs_good : ∀ (l : List Tr) (D d : Nat) (L : Int), formedBs d (typeFs D L l).1 = true → 0 ≤ L → primBs l = true ∧ typeFs D L l = (readTs l, L - sizes l) ∧ (sizes l : Int) ≤ L
  | [], D, d, L => by
    intro _ h0
    simp [typeFs, primBs, readTs, sizes, h0]
  | t :: ts, D, d, L => by
    intro h h0
    rw [typeFs] at h ⊢
    simp only [formedBs, Bool.and_eq_true] at h
    obtain ⟨a1, a2, a3⟩ := typeF_good t D d L h.1
    rw [a2] at h ⊢
    obtain ⟨b1, b2, b3⟩ := typeFs_good ts D d (L - t.size) h.2 (by omega)
    simp only at b2 ⊢
    rw [b2]
    refine ⟨by simp [primBs, a1, b1], ?_, ?_⟩
    · simp only [readTs, sizes, Prod.mk.injEq, true_and]
      push_cast
      omega
    · rw [sizes]; push_cast; omega
end

mutual
theorem typeF_prim : ∀ (t : Tr) (D d : Nat) (L : Int), primB t = true → formedB d (readT t) = true → 25 ≤ d + D → (t.size : Int) ≤ L → typeF D L t = (readT t, L - t.size)
  | .nd k n p s args, D, d, L => by
    intro hp hf hd hL
    simp only [primB, Bool.and_eq_true] at hp
    rw [readT] at hf
    simp only [formedB, Bool.and_eq_true, decide_eq_true_eq] at hf
    rw [Tr.size] at hL
    have hc : primHere k n s = true ∧ D ≠ 0 ∧ 0 ≤ L - 1 := ⟨hp.1, by omega, by push_cast at hL; omega⟩
    rw [typeF, if_pos hc, typeFs_prim args (D - 1) (d + 1) (L - 1) hp.2 hf.2 (by omega) (by push_cast at hL; omega), readT, Tr.size]
    simp only [Prod.mk.injEq, true_and]
    push_cast
    omega
theorem typeFs_prim : ∀ (l : List Tr) (D d : Nat) (L : Int), primBs l = true → formedBs d (readTs l) = true → 25 ≤ d + D → (sizes l : Int) ≤ L → typeFs D L l = (readTs l, L - sizes l)
  | [], D, d, L => by
    intro _ _ _ _
    simp [typeFs, readTs, sizes]
  | t :: ts, D, d, L => by
    intro hp hf hd hL
    simp only [primBs, Bool.and_eq_true] at hp
    simp only [readTs, formedBs, Bool.and_eq_true] at hf
    rw [sizes] at hL
    push_cast at hL
    rw [typeFs, typeF_prim t D d L hp.1 hf.1 hd (by omega)]
    simp only
    rw [typeFs_prim ts D d (L - t.size) hp.2 hf.2 hd (by omega)]
    simp only [readTs, sizes, Prod.mk.injEq, true_and]
    push_cast
    omega
end

/-- what the document reads as a good type is what Parse reads -/
theorem type_parse (t : Tr) : goodTy (typeF 24 300 t).1 = parseB t ∧ (parseB t = true → (typeF 24 300 t).1 = readT t) := by
  by_cases h : goodTy (typeF 24 300 t).1 = true
  · obtain ⟨h1, _, _⟩ := goodTy_formed h
    obtain ⟨a1, a2, a3⟩ := typeF_good t 24 1 300 h1
    have e : (typeF 24 300 t).1 = readT t := by rw [a2]
    have hp : parseB t = true := by
      rw [e] at h
      simp only [parseB, readAt, a1, h, Bool.true_and, Bool.and_true, decide_eq_true_eq]
      omega
    exact ⟨by rw [h, hp], fun _ => e⟩
  · have hp : parseB t = false := by
      cases hq : parseB t with
      | false => rfl
      | true =>
        have hq2 := hq
        simp only [parseB, readAt, Bool.and_eq_true, decide_eq_true_eq] at hq2
        obtain ⟨⟨b1, b2⟩, b3⟩ := hq2
        have e := typeF_prim t 24 1 300 b1 (goodTy_formed b3).1 (by omega) (by omega)
        rw [e] at h
        exact absurd b3 h
    refine ⟨?_, fun hq => by rw [hp] at hq; cases hq⟩
    rw [hp]
    cases hg : goodTy (typeF 24 300 t).1 with
    | false => rfl
    | true => exact absurd hg h

end Go.Proofs.Ytjhhcdiipbjiaab
