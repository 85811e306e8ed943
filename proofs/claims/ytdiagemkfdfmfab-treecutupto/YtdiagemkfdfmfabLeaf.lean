/- The small functions of package tree, each by a contract: what is wrong with a node by itself. -/
import Derived.Test.YtdiagemkfdfmfabRows
import Derived.WalkKit
import Derived.ProofKit
import Derived.OpenShut
import Derived.Deep.QuietTactic
import Derived.BigQuiet
namespace Go.Proofs.Ytdiagemkfdfmfab.Lf
open Go.ChangeShapes Go.WideShapes Go.ChangeAt Go.RowKit

def isKindB (k : Int) : Bool := decide (0 ≤ k ∧ k ≤ 3)
def isPrimB (k : Int) : Bool := decide (1 ≤ k ∧ k ≤ 15 ∨ 20 ≤ k ∧ k ≤ 28 ∨ 40 ≤ k ∧ k ≤ 95)
def moreB (k n p : Int) (s : ByteArray) (l : Nat) : Bool :=
  if k = 0 then decide (p ≠ 0 ∨ s.size ≠ 0 ∨ l ≠ 0) else if k = 1 then decide (n ≠ 0 ∨ p ≠ 0 ∨ l ≠ 0) else if k = 2 then decide (n ≠ 0 ∨ s.size ≠ 0) else decide (n ≠ 0 ∨ p ≠ 0 ∨ s.size ≠ 0)
def wrongF (k n p : Int) (s : ByteArray) (l : Nat) : Int :=
  if isKindB k = false then 3 else if k = 2 ∧ isPrimB p = false then 3 else if moreB k n p s l = true then 1
  else if n < -1152921504606846976 ∨ 1152921504606846976 < n then 2 else if 200 < s.size then 4 else 0

theorem nil_iff (s : ByteArray) : s.toList = [] ↔ s.size = 0 := by
  rw [ByteArray.toList_eq]; exact (List.length_eq_zero_iff (l := s.data.toList)).symm.trans (by rw [Array.length_toList]; rfl)

theorem retb {a b : Bool} {p : Prop} (h : a = b) (hw : p) : Ending.returned (.bool a) = .returned (.bool b) ∧ p := by
  rw [h]; exact ⟨rfl, hw⟩
theorem reti {k : IntKind} {a b : Int} {p : Prop} (h : a = b) (hw : p) : Ending.returned (.int k a) = .returned (.int k b) ∧ p := by
  rw [h]; exact ⟨rfl, hw⟩

theorem isKind_any (k : Int) (w : World) :
    Calls Try.prog 24 #[.int .i64 k] w fun e w' => e = .returned (.bool (isKindB k)) ∧ w' = w := by
  go_enter Try.func24, Try.ntmps24
  go_wp2
  all_goals
    go_ret
    exact retb (by simp [isKindB]; try omega) rfl

theorem isPrim_any (k : Int) (w : World) :
    Calls Try.prog 25 #[.int .i64 k] w fun e w' => e = .returned (.bool (isPrimB k)) ∧ w' = w := by
  go_enter Try.func25, Try.ntmps25
  go_wp2
  all_goals
    go_ret
    refine retb ?_ rfl
    rw [Bool.eq_iff_iff]
    simp [isPrimB]
    try omega

theorem hide {p : Prop} (h : p) : Hid p := h

theorem gb {w : World} (o : Obj) : w.grownBy (w.alloc o) none := World.grownBy_alloc w o none

theorem hasMore_any (k n p : Int) (s : ByteArray) (a : Option Addr) (l c : Nat) (w : World) (hl : l ≤ maxLen) :
    Calls Try.prog 26 #[.agg #[.int .i64 k, .int .i64 n, .int .i64 p, .string s, .slice a l c]] w fun e w' => e = .returned (.bool (moreB k n p s l)) ∧ w.grownBy w' none := by
  unfold maxLen at hl
  have hs : Hid (s.toList = [] ↔ s.size = 0) := nil_iff s
  go_enter Try.func26, Try.ntmps26
  go_wp2
  all_goals
    go_ret
    refine retb ?_ (gb _)
    have hs' := hs.out
    clear hs
    rw [Bool.eq_iff_iff]
    simp_all [moreB]
    try omega

theorem gbt {a b c : World} (h : a.grownBy b none) (k : b.grownBy c none) : a.grownBy c none :=
  ⟨k.os.trans h.os, k.tape.trans h.tape, k.output.trans h.output, Nat.le_trans h.size k.size, fun i hi _ => (k.block i (Nat.lt_of_lt_of_le hi h.size) (by simp)).trans (h.block i hi (by simp))⟩

/-- behind a call that leaves what was there: its cells read as before -/
theorem gcell {w w' : World} (h : w.grownBy w' none) : ∀ b o, b < w.heap.size → w'.cell? ⟨b, o, none⟩ = w.cell? ⟨b, o, none⟩ :=
  fun b o hb => World.cell?_of_block (h.block b hb (by simp))

theorem wrong_any (k n p : Int) (s : ByteArray) (a : Option Addr) (l c : Nat) (w : World) (hl : l ≤ maxLen) (hs : s.size ≤ maxLen) :
    Calls Try.prog 18 #[.agg #[.int .i64 k, .int .i64 n, .int .i64 p, .string s, .slice a l c]] w fun e w' => e = .returned (.int .i64 (wrongF k n p s l)) ∧ w.grownBy w' none := by
  unfold maxLen at hs
  go_enter Try.func18, Try.ntmps18
  go_wp2_with (first
    | (go_at_call 24; refine (isKind_any _ _).mono ?_; rintro e w' ⟨rfl, rfl⟩)
    | (go_at_call 25; refine (isPrim_any _ _).mono ?_; rintro e w' ⟨rfl, rfl⟩)
    | (go_at_call 26; refine (hasMore_any _ _ _ _ _ _ _ _ hl).mono ?_; rintro e w' ⟨rfl, hg⟩; have hc := gcell hg; have hz : w.heap.size < w'.heap.size := (by have := hg.size; simp at this; omega)))
  all_goals
    go_ret
    refine reti ?_ (by first | exact gb _ | exact gbt (gb _) (by assumption))
    unfold wrongF
    simp_all <;> omega

end Go.Proofs.Ytdiagemkfdfmfab.Lf
