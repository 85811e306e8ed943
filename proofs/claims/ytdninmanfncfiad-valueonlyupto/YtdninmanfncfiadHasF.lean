/- What a value that fits a type is like, but for its Args: fitsTypes and fits by their contracts. -/
import Derived.Test.YtdninmanfncfiadHasC
import Derived.Deep.RegionHeld3
import Derived.Deep.DeepCutAuto
namespace Go.Proofs.Ytdninmanfncfiad
open Go.ChangeShapes Go.WideShapes Go.ChangeAt Go.RowKit
set_option linter.unusedVariables false

set_option maxRecDepth 100000 in
set_option maxHeartbeats 1000000 in
theorem fitsT_any {w : World} {T : Ty} {u : Value} {types : List Ty} {ta : Option Addr} {tc : Nat} {VT : Nat → Value} (hT : LiesT (fun _ => True) w T u) (hR : RowT (fun _ => True) w types ta VT) (hz : tysizes types ≤ 50000000) (W : World) (hW : w.grownBy W none) :
    Calls Try.prog 53 #[u, .slice ta types.length tc] W fun e w' => e = .returned (.bool (fitsTF T types)) ∧ W.grownBy w' none := by
  obtain ⟨a, c, V, rfl, it, hRT⟩ := hT.inv
  have hl := hR.1
  unfold maxLen at hl
  have HR := Lf.hide hR
  have HRT := Lf.hide hRT
  have HW := Lf.hide hW
  have HZ := Lf.hide hz
  by_cases h8 : T.t = 8
  · have hF : fitsTF T types = oneGood types := by unfold fitsTF; rw [if_pos h8]
    rw [hF]
    by_cases h1 : types.length = 1
    · obtain ⟨x, rfl⟩ := List.length_eq_one_iff.1 h1
      obtain ⟨b1, o1, t', a', l', c', rfl, _, hv, e0, e1⟩ := ((HR.out.2.1 0 (by simp)).same (sameAll HW.out)).cells
      have hG : ∀ W2, W.grownBy W2 none → Calls Try.prog 16 #[tyV t' a' l' c'] W2 fun e w' => e = .returned (.bool (goodTy x)) ∧ W2.grownBy w' none := fun W2 h2 => by
        have h3 := HR.out.2.2 0 (by simp)
        rw [hv] at h3
        exact kgood_any (LiesT.up h3 (Lf.gbt HW.out h2))
      have HG := Lf.hide hG
      rw [Nat.zero_mul, Nat.add_zero] at e0 e1
      have q1 : b1 < W.heap.size := World.block_lt_of_cell? W _ e0
      rw [show oneGood [x] = goodTy x from rfl]
      generalize goodTy x = r at *
      clear hG hT hR hRT hW hz it hF h1 hv HR HRT HZ
      have HGB := Lf.hide (Lf.gb (w := W) (.cells #[.int .i64 T.t, .slice a T.args.length c] 24))
      rw [h8] at HGB ⊢
      clear h8
      unfold tyV at HG ⊢
      simp only [List.length_singleton] at hl ⊢
      go_enter Try.func53, Try.ntmps53
      go_wp2_with fail
      refine (HG.out _ HGB.out).mono ?_; rintro e w1 ⟨rfl, hg⟩
      have HG1 := Lf.hide (Lf.gbt HGB.out hg)
      clear hg
      go_wp2_with fail
      go_ret
      exact ⟨rfl, HG1.out⟩
    · have hF2 := oneGood_no h1
      rw [hF2]
      have z1 : ¬ (types.length : Int) = 1 := by omega
      have z2 : ((types.length : Int) == 1) = false := by rw [beq_eq_false_iff_ne]; exact z1
      clear hT hR hRT hW hz it hF hF2 h1 HR HRT HZ HW
      rw [h8]
      clear h8
      unfold tyV
      go_enter Try.func53, Try.ntmps53
      go_wp2_with fail
      go_ret
      exact ⟨rfl, Lf.gb _⟩
  · by_cases h14 : T.t = 14
    · have hF : fitsTF T types = sameTs types T.args := by unfold fitsTF; rw [if_neg h8, if_pos h14]
      rw [hF]
      have HE := Lf.hide (fun W2 (h2 : W.grownBy W2 none) => eqTypes_any (ca := tc) (cb := c) HR.out HRT.out HZ.out W2 (Lf.gbt HW.out h2))
      generalize sameTs types T.args = r at *
      have hl2 := HRT.out.1
      unfold maxLen at hl2
      clear hT hR hRT hW hz it hF h8 HR HRT HZ HW
      have HGB := Lf.hide (Lf.gb (w := W) (.cells #[.int .i64 T.t, .slice a T.args.length c] 24))
      rw [h14] at HGB ⊢
      clear h14
      unfold tyV
      go_enter Try.func53, Try.ntmps53
      go_wp2_with fail
      refine (HE.out _ HGB.out).mono ?_; rintro e w1 ⟨rfl, hg⟩
      have HG1 := Lf.hide (Lf.gbt HGB.out hg)
      clear hg
      go_wp2_with fail
      go_ret
      exact ⟨rfl, HG1.out⟩
    · have hF : fitsTF T types = decide (types.length = 0) := by unfold fitsTF; rw [if_neg h8, if_neg h14]
      rw [hF]
      have k1 : (T.t == 8) = false := by simpa using h8
      have k2 : (T.t == 14) = false := by simpa using h14
      clear hT hR hRT hW hz it hF HR HRT HZ HW
      unfold tyV
      go_enter Try.func53, Try.ntmps53
      go_wp2_with fail
      go_ret
      refine Lf.retb ?_ (Lf.gb _)
      rw [Bool.eq_iff_iff]
      simp

end Go.Proofs.Ytdninmanfncfiad
