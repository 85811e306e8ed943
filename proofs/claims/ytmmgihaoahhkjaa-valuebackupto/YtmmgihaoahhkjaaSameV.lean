/- Same of values without Types and Code, by its contract. -/
import Derived.Test.YtmmgihaoahhkjaaSideP
import Derived.Test.YtmmgihaoahhkjaaSameN
import Derived.Test.YtmmgihaoahhkjaaOrd
namespace Go.Proofs.Ytmmgihaoahhkjaa
open Go.ChangeShapes Go.WideShapes Go.ChangeAt Go.RowKit
set_option linter.unusedVariables false

theorem ent_same1v : ∀ args w, (callFunc 39 args).run Try.prog w = .ok (.enter 39 args) w := fun args w => by simp [go_sem]

set_option maxRecDepth 100000 in
set_option maxHeartbeats 1000000 in
theorem sameV_any {w : World} {x y : Va} {u v : Value} (hx : LiesV (fun _ => True) w x u) (hy : LiesV (fun _ => True) w y v) (px : Plain x) (py : Plain y) (hz : x.size ≤ 20000000) (W : World) (hW : w.grownBy W none) :
    Calls Try.prog 14 #[u, v] W fun e w' => e = .returned (.bool (decide (sbsV sameC x y = 0))) ∧ W.grownBy w' none := by
  obtain ⟨k1, n1, a1, s1, aa1, al1, ac1, ta1, tl1, tc1, na1, nl1, nc1, rfl⟩ := hx.vaV
  obtain ⟨k2, n2, a2, s2, aa2, al2, ac2, ta2, tl2, tc2, na2, nl2, nc2, rfl⟩ := hy.vaV
  have HX := Lf.hide (LiesV.up hx hW)
  have HY := Lf.hide (LiesV.up hy hW)
  have HZ := Lf.hide hz
  have hS : ∀ (W2 : World) (b c : Nat) (ca cb : Nat), W.grownBy W2 none → 1 ≤ ca → 1 ≤ cb → W2.heap[b]? = some (.cells #[.int .i64 k1, .int .i64 n1, .int .i64 a1, .string s1, .slice aa1 al1 ac1, .slice ta1 tl1 tc1, .slice na1 nl1 nc1] 28 (0, 0)) → W2.heap[c]? = some (.cells #[.int .i64 k2, .int .i64 n2, .int .i64 a2, .string s2, .slice aa2 al2 ac2, .slice ta2 tl2 tc2, .slice na2 nl2 nc2] 28 (0, 0)) →
      Calls Try.prog 37 #[.slice (some ⟨b, 0, none⟩) 1 ca, .slice (some ⟨c, 0, none⟩) 1 cb, .func (.func 38) #[] #[], .func (.func 39) #[] #[]] W2 fun e w' => e = .returned (.int .i64 (sbsV sameC x y)) ∧ W2.grownBy w' none := by
    intro W2 b c ca cb hg h1 h2 hb hc
    have h := sideP_any Plain (fun x h => h.args) sameC 39 ent_same1v (w0 := W2) (xs := [x]) (ys := [y]) (ca := ca) (cb := cb) h1 h2 (rowOneV hb (LiesV.up HX.out hg)) (rowOneV hc (LiesV.up HY.out hg)) (fun z hz => by simp at hz; subst hz; exact px) (fun z hz => by simp at hz; subst hz; exact py) (fun x y u v W3 p1 p2 h3 hx hy _ => same1_any hx hy p1 p2 W3) (by have := HZ.out; simp [vsizes]; omega)
    rw [sbsVs_one] at h
    exact h
  have HS := Lf.hide hS
  clear hS hx hy hz hW px py
  generalize sbsV sameC x y = r at *
  unfold vaV at *
  go_enter Try.func14, Try.ntmps14
  go_wp2_with fail
  refine (HS.out _ _ _ 1 1 (Lf.gbt (Lf.gbt (Lf.gbt (Lf.gb _) (Lf.gb _)) (Lf.gb _)) (Lf.gb _)) (Nat.le_refl _) (Nat.le_refl _) (new_3of4 _ _ _ _ _) (new_4of4 _ _ _ _ _)).mono ?_; rintro e w1 ⟨rfl, hg⟩
  have HG := Lf.hide (Lf.gbt (Lf.gbt (Lf.gbt (Lf.gbt (Lf.gb _) (Lf.gb _)) (Lf.gb _)) (Lf.gb _)) hg)
  clear hg
  go_wp2_with fail
  go_ret
  exact Lf.retb (by rw [Bool.eq_iff_iff]; simp) HG.out

end Go.Proofs.Ytmmgihaoahhkjaa
