/- The small functions of package tree, each by a contract: what is wrong with a node by itself. -/
import Derived.Test.YtdninmanfncfiadBase
namespace Go.Proofs.Ytdninmanfncfiad.Lf
open Go.ChangeShapes Go.WideShapes Go.ChangeAt Go.RowKit

def isKindB (k : Int) : Bool := decide (0 ≤ k ∧ k ≤ 3)
def isPrimB (k : Int) : Bool := decide (1 ≤ k ∧ k ≤ 15 ∨ 20 ≤ k ∧ k ≤ 28 ∨ 40 ≤ k ∧ k ≤ 95)
def moreB (k n p : Int) (s : ByteArray) (l : Nat) : Bool :=
  if k = 0 then decide (p ≠ 0 ∨ s.size ≠ 0 ∨ l ≠ 0) else if k = 1 then decide (n ≠ 0 ∨ p ≠ 0 ∨ l ≠ 0) else if k = 2 then decide (n ≠ 0 ∨ s.size ≠ 0) else decide (n ≠ 0 ∨ p ≠ 0 ∨ s.size ≠ 0)
def wrongF (k n p : Int) (s : ByteArray) (l : Nat) : Int :=
  if isKindB k = false then 3 else if k = 2 ∧ isPrimB p = false then 3 else if moreB k n p s l = true then 1
  else if n < -1152921504606846976 ∨ 1152921504606846976 < n then 2 else if 200 < s.size then 4 else 0

theorem isKind_any (k : Int) (w : World) :
    Calls Try.prog 89 #[.int .i64 k] w fun e w' => e = .returned (.bool (isKindB k)) ∧ w' = w := by
  go_enter Try.func89, Try.ntmps89
  go_wp2
  all_goals
    go_ret
    exact retb (by simp [isKindB]; try omega) rfl

theorem isPrim_any (k : Int) (w : World) :
    Calls Try.prog 90 #[.int .i64 k] w fun e w' => e = .returned (.bool (isPrimB k)) ∧ w' = w := by
  go_enter Try.func90, Try.ntmps90
  go_wp2
  all_goals
    go_ret
    refine retb ?_ rfl
    rw [Bool.eq_iff_iff]
    simp [isPrimB]
    try omega

theorem hasMore_any (k n p : Int) (s : ByteArray) (a : Option Addr) (l c : Nat) (w : World) (hl : l ≤ maxLen) :
    Calls Try.prog 91 #[.agg #[.int .i64 k, .int .i64 n, .int .i64 p, .string s, .slice a l c]] w fun e w' => e = .returned (.bool (moreB k n p s l)) ∧ w.grownBy w' none := by
  unfold maxLen at hl
  have hs : Hid (s.toList = [] ↔ s.size = 0) := nil_iff s
  go_enter Try.func91, Try.ntmps91
  go_wp2
  all_goals
    go_ret
    refine retb ?_ (gb _)
    have hs' := hs.out
    clear hs
    rw [Bool.eq_iff_iff]
    simp_all [moreB]
    try omega

theorem wrong_any (k n p : Int) (s : ByteArray) (a : Option Addr) (l c : Nat) (w : World) (hl : l ≤ maxLen) (hs : s.size ≤ maxLen) :
    Calls Try.prog 71 #[.agg #[.int .i64 k, .int .i64 n, .int .i64 p, .string s, .slice a l c]] w fun e w' => e = .returned (.int .i64 (wrongF k n p s l)) ∧ w.grownBy w' none := by
  unfold maxLen at hs
  go_enter Try.func71, Try.ntmps71
  go_wp2_with (first
    | (go_at_call 89; refine (isKind_any _ _).mono ?_; rintro e w' ⟨rfl, rfl⟩)
    | (go_at_call 90; refine (isPrim_any _ _).mono ?_; rintro e w' ⟨rfl, rfl⟩)
    | (go_at_call 91; refine (hasMore_any _ _ _ _ _ _ _ _ hl).mono ?_; rintro e w' ⟨rfl, hg⟩; have hc := gcell hg; have hz : w.heap.size < w'.heap.size := (by have := hg.size; simp at this; omega)))
  all_goals
    go_ret
    refine reti ?_ (by first | exact gb _ | exact gbt (gb _) (by assumption))
    unfold wrongF
    simp_all <;> omega

end Go.Proofs.Ytdninmanfncfiad.Lf
