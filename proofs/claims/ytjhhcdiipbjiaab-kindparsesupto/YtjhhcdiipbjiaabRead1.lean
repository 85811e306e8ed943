/- kind.read by its contract, where it says no at once. -/
import Derived.Test.YtjhhcdiipbjiaabReadF
namespace Go.Proofs.Ytjhhcdiipbjiaab
open Go.ChangeShapes Go.WideShapes Go.ChangeAt Go.RowKit
set_option linter.unusedVariables false

set_option maxRecDepth 100000 in
set_option maxHeartbeats 1000000 in
theorem read_no {cb : Nat} {t : Tr} {k n p : Int} {s : ByteArray} {a : Option Addr} {l c : Nat} (m : Nat) (w2 : World) (hcb : CountAt w2 cb m) (hm : m ≤ 300) (hl : l ≤ maxLen) (hT : readAt m t = false) (hw : m = 300 ∨ primHere k n s = false) :
    Calls Try.prog 55 #[nodeV k n p s a l c, .pointer (some ⟨cb, 0, none⟩)] w2 (ReadPost m t cb w2) := by
  have hs : Hid (s.toList = [] ↔ s.size = 0) := Lf.nil_iff s
  have c1 := cell_of_one hcb
  have c2 := free_of_one hcb
  have l1 : cb < w2.heap.size := lt_of_block hcb
  have l2 : cb < w2.heap.size + 1 := by omega
  have l3 : cb < w2.heap.size + 1 + 1 := by omega
  have HT := Lf.hide hT
  clear hcb hT
  unfold nodeV
  by_cases hm3 : m = 300
  · have hm' : (300 : Int) < (m : Int) + 1 := by omega
    clear hw
    go_enter Try.func55, Try.ntmps55
    go_wp2_with fail
    refine bodyPost_ret (v := .tuple #[tyV 0 none 0 0, .bool false]) (by simp [results, Try.results55, go_sem, tyV]) rfl ⟨?_, .inr ⟨HT.out, rfl⟩⟩
    exact grow_trans (grow_trans (grow_set (grow_refl _ _) _ _ _) (grow_any (Lf.gb _))) (grow_any (Lf.gb _))
  · have hm' : (m : Int) + 1 ≤ 300 := by omega
    have hp : primHere k n s = false := by
      rcases hw with h | h
      · exact absurd h hm3
      · exact h
    have hq : ¬ (k = 2 ∧ n = 0 ∧ s.size = 0) := by simpa [primHere] using hp
    rcases (show k ≠ 2 ∨ (k = 2 ∧ n ≠ 0) ∨ (k = 2 ∧ n = 0 ∧ s.size ≠ 0) from by omega) with h | ⟨rfl, h⟩ | ⟨rfl, rfl, h⟩
    · have h1 : (k == 2) = false := by simpa using h
      clear hw hp hq
      go_enter Try.func55, Try.ntmps55
      go_wp2_with fail
      refine bodyPost_ret (v := .tuple #[tyV 0 none 0 0, .bool false]) (by simp [results, Try.results55, go_sem, tyV]) rfl ⟨?_, .inr ⟨HT.out, rfl⟩⟩
      exact grow_trans (grow_trans (grow_set (grow_refl _ _) _ _ _) (grow_any (Lf.gb _))) (grow_any (Lf.gb _))
    · have h1 : (n == 0) = false := by simpa using h
      clear hw hp hq
      go_enter Try.func55, Try.ntmps55
      go_wp2_with fail
      refine bodyPost_ret (v := .tuple #[tyV 0 none 0 0, .bool false]) (by simp [results, Try.results55, go_sem, tyV]) rfl ⟨?_, .inr ⟨HT.out, rfl⟩⟩
      exact grow_trans (grow_trans (grow_set (grow_refl _ _) _ _ _) (grow_any (Lf.gb _))) (grow_any (Lf.gb _))
    · have h1 : s.toList.isEmpty = false := by
        have := hs.out
        cases hl : s.toList with
        | nil => exact absurd (this.1 hl) h
        | cons x y => rfl
      clear hw hp hq hs
      go_enter Try.func55, Try.ntmps55
      go_wp2_with fail
      refine bodyPost_ret (v := .tuple #[tyV 0 none 0 0, .bool false]) (by simp [results, Try.results55, go_sem, tyV]) rfl ⟨?_, .inr ⟨HT.out, rfl⟩⟩
      exact grow_trans (grow_trans (grow_set (grow_refl _ _) _ _ _) (grow_any (Lf.gb _))) (grow_any (Lf.gb _))

end Go.Proofs.Ytjhhcdiipbjiaab
