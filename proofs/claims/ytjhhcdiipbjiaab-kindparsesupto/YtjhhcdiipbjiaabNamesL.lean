/- names by its contract: package kind answers. -/
import Derived.Test.YtjhhcdiipbjiaabParseT
namespace Go.Proofs.Ytjhhcdiipbjiaab
open Go.ChangeShapes Go.WideShapes Go.ChangeAt Go.RowKit
set_option linter.unusedVariables false

theorem lies_natL (w : World) : Lies (· < w.heap.size) w (.nd 2 0 4 emptyB []) (nodeV 2 0 4 ⟨#[]⟩ none 0 0) :=
  Lies.mk (fun _ => .int .i64 0) (by simp [maxLen]) (Nat.zero_le _) ⟨by omega, by omega⟩ ⟨by omega, by omega⟩ ⟨by omega, by omega⟩ (fun i hi => by simp at hi) (fun i hi => by simp at hi)

theorem parse_natL : parseB (.nd 2 0 4 emptyB []) = true := by
  have h : emptyB.size = 0 := rfl
  simp [parseB, readAt, primB, primHere, primBs, h, Tr.size, sizes, readT, readTs, goodTy, formedB, formedBs, isTypeB, partsF, keyedF, keyedFs, keyHere, Ty.size, tysizes]

theorem good_natL : goodTy (.nd 4 []) = true := by
  simp [goodTy, formedB, formedBs, isTypeB, partsF, keyedF, keyedFs, keyHere, Ty.size, tysizes]

set_option maxHeartbeats 400000 in
theorem namesL_any (w : World) : Calls Try.prog 30 #[] w fun e w' => e = .returned (.bool true) ∧ w.grownBy w' none := by
  have HP := Lf.hide (parse_any (lies_natL w))
  unfold nodeV at HP
  go_enter Try.func30, Try.ntmps30
  go_wp2_with fail
  refine HP.out.mono ?_; rintro e w1 ⟨hg1, hp1⟩
  rcases hp1 with ⟨_, u, rfl, hLu⟩ | ⟨hno, _⟩
  · obtain ⟨a, c, V, rfl, it, hR⟩ := hLu.inv
    have hrd : readT (.nd 2 0 4 emptyB []) = .nd 4 [] := by simp [readT, readTs]
    rw [hrd] at hLu ⊢
    have HL := Lf.hide (kgood_any ((hLu.okMono (ok' := (· < w1.heap.size)) (fun b hb _ => hb)).grow (Lf.gb (.cells #[.int .i64 4, .slice a 0 c] 39))))
    have HG1 := Lf.hide hg1
    rw [good_natL] at HL
    clear hLu hR it hg1 hrd HP
    simp only [Ty.t, Ty.args, List.length_nil] at HL ⊢
    unfold tyV at HL ⊢
    go_wp2_with fail
    refine HL.out.mono ?_; rintro e w2 ⟨rfl, hg2⟩
    have HG2 := Lf.hide hg2
    clear hg2
    go_wp2_with fail
    go_ret
    exact ⟨rfl, Lf.gbt HG1.out (Lf.gbt (Lf.gb _) HG2.out)⟩
  · rw [parse_natL] at hno; cases hno

end Go.Proofs.Ytjhhcdiipbjiaab
