/- The tree of a value as it is told with a count that leaves off behind MaxNodes: plain data. -/
import Derived.Test.YtdninmanfncfiadTellF
namespace Go.Proofs.Ytdninmanfncfiad
set_option linter.unusedVariables false

mutual
def cntV : Va → Nat
  | .mk _ _ _ _ args _ _ => cntVs args + 1
def cntVs : List Va → Nat
  | [] => 0
  | x :: xs => cntV x + cntVs xs
end

mutual
/-- the count behind it, and the tree -/
def tellV (c : Nat) : Va → Nat × Tr
  | .mk k n a s args ty co => ((tellVs (c + 1) args).1, writtenF (.mk k n a s args ty co) (tellVs (c + 1) args).2)
def tellVs (c : Nat) : List Va → Nat × List Tr
  | [] => (c, [])
  | x :: xs => if 300 < c then (c, []) else ((tellVs (tellV c x).1 xs).1, (tellV c x).2 :: (tellVs (tellV c x).1 xs).2)
end

theorem cntV_pos (x : Va) : 1 ≤ cntV x := by cases x; simp [cntV]

mutual
/-- where there are not too many, it is the whole tree -/
theorem tell_full : ∀ (x : Va) (c : Nat), c + cntV x ≤ 301 → tellV c x = (c + cntV x, dataT x)
  | .mk k n a s args ty co, c => by
    intro h
    rw [cntV] at h
    have ih := tells_full args (c + 1) (by omega)
    rw [tellV, ih, cntV, dataT]
    simp only [Prod.mk.injEq, and_true]
    omega
theorem tells_full : ∀ (xs : List Va) (c : Nat), c + cntVs xs ≤ 301 → tellVs c xs = (c + cntVs xs, dataTs xs)
  | [], c => by intro _; simp [tellVs, cntVs, dataTs]
  | x :: xs, c => by
    intro h
    rw [cntVs] at h
    have h1 := cntV_pos x
    have ih := tell_full x c (by omega)
    have ih2 := tells_full xs (c + cntV x) (by omega)
    rw [tellVs, if_neg (by omega), ih, ih2, cntVs, dataTs]
    simp only [Prod.mk.injEq, and_true]
    omega
end

mutual
/-- the count never goes beyond the first that is one too many -/
theorem tell_most : ∀ (x : Va) (c : Nat), c ≤ 300 → c < (tellV c x).1 ∧ (tellV c x).1 ≤ 301 ∧ (301 ≤ c + cntV x → (tellV c x).1 = 301)
  | .mk k n a s args ty co, c => by
    intro h
    rw [tellV, cntV]
    by_cases hc : c + 1 ≤ 300
    · obtain ⟨h1, h2, h3⟩ := tells_most args (c + 1) (by omega)
      exact ⟨by simp only; omega, by simp only; omega, fun hh => by simp only; exact h3 (by omega)⟩
    · have e : c + 1 = 301 := by omega
      rw [e]
      cases args with
      | nil => simp [tellVs, cntVs]; omega
      | cons x xs => simp [tellVs]; omega
theorem tells_most : ∀ (xs : List Va) (c : Nat), c ≤ 300 → c ≤ (tellVs c xs).1 ∧ (tellVs c xs).1 ≤ 301 ∧ (301 ≤ c + cntVs xs → (tellVs c xs).1 = 301)
  | [], c => by intro h; simp [tellVs, cntVs]; omega
  | x :: xs, c => by
    intro h
    obtain ⟨h1, h2, h3⟩ := tell_most x c h
    rw [tellVs, if_neg (by omega), cntVs]
    simp only
    by_cases hc : (tellV c x).1 ≤ 300
    · obtain ⟨k1, k2, k3⟩ := tells_most xs (tellV c x).1 hc
      refine ⟨by omega, k2, fun hh => ?_⟩
      by_cases hx : 301 ≤ c + cntV x
      · have := h3 hx; omega
      · have e := tell_full x c (by omega)
        rw [e] at k3 ⊢
        exact k3 (by simp only; omega)
    · have e : (tellV c x).1 = 301 := by omega
      rw [e]
      cases xs with
      | nil => simp [tellVs]; omega
      | cons y ys => simp [tellVs]; omega
end

end Go.Proofs.Ytdninmanfncfiad
