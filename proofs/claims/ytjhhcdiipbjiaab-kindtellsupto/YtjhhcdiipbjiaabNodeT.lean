/- kind.Node by its contract. -/
import Derived.Test.YtjhhcdiipbjiaabWritten
namespace Go.Proofs.Ytjhhcdiipbjiaab
open Go.ChangeShapes Go.WideShapes Go.ChangeAt Go.RowKit
set_option linter.unusedVariables false

def TNodePost (T : Ty) (w : World) (e : Ending) (w' : World) : Prop :=
  w.grownBy w' none ∧ ((goodTy T = true ∧ ∃ u, e = .returned (.tuple #[u, .int .i64 0]) ∧ Lies (w.heap.size ≤ ·) w' (writeT T) u) ∨ (goodTy T = false ∧ e = .returned (.tuple #[nodeV 0 0 0 ⟨#[]⟩ none 0 0, .int .i64 1])))

set_option maxRecDepth 100000 in
set_option maxHeartbeats 1000000 in
theorem tnode_any {w : World} {T : Ty} {v : Value} (hL : LiesT (· < w.heap.size) w T v) : Calls Try.prog 15 #[v] w (TNodePost T w) := by
  obtain ⟨a, c, V, rfl, it, hR⟩ := hL.inv
  have hA : ∀ w3, w.grownBy w3 none → Calls Try.prog 18 #[tyV T.t a T.args.length c] w3 fun e w' => e = .returned (.bool (goodTy T)) ∧ w3.grownBy w' none := fun w3 hg => kgood_any (hL.grow hg)
  have hg0 : w.grownBy ((w.alloc (.cells #[.int .i64 T.t, .slice a T.args.length c] 39)).alloc (.cells #[.int .i64 0, .int .i64 0, .int .i64 0, .string ⟨#[]⟩, .slice none 0 0] 24)) none := Lf.gbt (Lf.gb _) (Lf.gb _)
  have HA := Lf.hide (hA _ hg0)
  have e1 := heap_alloc_new w (.cells #[.int .i64 T.t, .slice a T.args.length c] 39)
  have e2 := heap_alloc_new (w.alloc (.cells #[.int .i64 T.t, .slice a T.args.length c] 39)) (.cells #[.int .i64 0, .int .i64 0, .int .i64 0, .string ⟨#[]⟩, .slice none 0 0] 24)
  rw [World.size_alloc] at e2
  have HB := Lf.hide (heap_keep (o := .cells #[.int .i64 0, .int .i64 0, .int .i64 0, .string ⟨#[]⟩, .slice none 0 0] 24) e1)
  have HR := Lf.hide e2
  have HG0 := Lf.hide hg0
  have HW : Hid (goodTy T = true → ∀ w3, w.grownBy w3 none → Calls Try.prog 38 #[tyV T.t a T.args.length c] w3 (WrittenPost T w3)) := fun h w3 hg => written_any hL w3 hg (by have := (goodTy_formed h).2.1; omega)
  clear hL hR it hA hg0 e1 e2
  unfold tyV at HA HW ⊢
  go_enter Try.func15, Try.ntmps15
  go_wp2_with fail
  refine HA.out.mono ?_; rintro e w1 ⟨rfl, hg1⟩
  have hb1 := (hg1.block _ (lt_of_block HB.out) (by simp)).trans HB.out
  have hr1 := (hg1.block _ (lt_of_block HR.out) (by simp)).trans HR.out
  have x0 := cell0_of hb1
  have x1 := cell1_of hb1
  obtain ⟨r0, r1, r2, r3, r4⟩ := box5 hr1
  obtain ⟨f0, f1, f2, f3, f4⟩ := box5f hr1
  have HR1 := Lf.hide hr1
  have HG1 := Lf.hide (Lf.gbt HG0.out hg1)
  clear hg1 hb1 hr1 HA
  cases hgd : goodTy T with
  | false =>
    have HD := Lf.hide hgd
    clear hgd
    go_wp2_with fail
    change bodyPost _ _ _ _ _ (set5 w1 (w.heap.size + 1) (.int .i64 0) (.int .i64 0) (.int .i64 0) (.string ⟨#[]⟩) (.slice none 0 0))
    have hb' := set5_block HR1.out (.int .i64 0) (.int .i64 0) (.int .i64 0) (.string ⟨#[]⟩) (.slice none 0 0)
    have hg' := grow_new HG1.out (set5_grow w1 (w.heap.size + 1) (.int .i64 0) (.int .i64 0) (.int .i64 0) (.string ⟨#[]⟩) (.slice none 0 0)) (by omega)
    generalize set5 w1 (w.heap.size + 1) (.int .i64 0) (.int .i64 0) (.int .i64 0) (.string ⟨#[]⟩) (.slice none 0 0) = wf at *
    obtain ⟨z0, z1, z2, z3, z4⟩ := box5 hb'
    exact bodyPost_ret (v := .tuple #[nodeV 0 0 0 ⟨#[]⟩ none 0 0, .int .i64 1]) (by simp [results, Try.results15, go_sem, z0, z1, z2, z3, z4, nodeV]) rfl ⟨hg', .inr ⟨HD.out, rfl⟩⟩
  | true =>
    have HD := Lf.hide hgd
    clear hgd
    go_wp2_with fail
    refine (HW.out HD.out _ HG1.out).mono ?_; rintro e w2 ⟨hg2, u, rfl, hLu⟩
    obtain ⟨ku, nu, pu, su, au, lu, cu, rfl⟩ := hLu.nodeV
    have hr2 := (hg2.block _ (lt_of_block HR1.out) (by simp)).trans HR1.out
    obtain ⟨s0, s1, s2, s3, s4⟩ := box5 hr2
    obtain ⟨p0, p1, p2, p3, p4⟩ := box5f hr2
    have HR2 := Lf.hide hr2
    have hz1 : w.heap.size + 1 + 1 ≤ w1.heap.size := lt_of_block HR1.out
    have HG2 := Lf.hide (Lf.gbt HG1.out hg2)
    have HLU := Lf.hide hLu
    clear hr2 hg2 hLu r0 r1 r2 r3 r4 f0 f1 f2 f3 f4
    unfold nodeV
    go_wp2_with fail
    change bodyPost _ _ _ _ _ (set5 w2 (w.heap.size + 1) (.int .i64 ku) (.int .i64 nu) (.int .i64 pu) (.string su) (.slice au lu cu))
    have hb' := set5_block HR2.out (.int .i64 ku) (.int .i64 nu) (.int .i64 pu) (.string su) (.slice au lu cu)
    have hgs := set5_grow w2 (w.heap.size + 1) (.int .i64 ku) (.int .i64 nu) (.int .i64 pu) (.string su) (.slice au lu cu)
    have hg' := grow_new HG2.out hgs (by omega)
    generalize set5 w2 (w.heap.size + 1) (.int .i64 ku) (.int .i64 nu) (.int .i64 pu) (.string su) (.slice au lu cu) = wf at *
    obtain ⟨z0, z1, z2, z3, z4⟩ := box5 hb'
    refine bodyPost_ret (v := .tuple #[nodeV ku nu pu su au lu cu, .int .i64 0]) (by simp [results, Try.results15, go_sem, z0, z1, z2, z3, z4, nodeV]) rfl ⟨hg', .inl ⟨HD.out, _, rfl, ?_⟩⟩
    exact (HLU.out.same (w' := wf) (fun b o hb hlt => World.cell?_of_block (hgs.block b hlt (by have : w1.heap.size ≤ b := hb; simp; omega)))).okMono (fun b _ hb => by have : w1.heap.size ≤ b := hb; show _ ≤ b; omega)

end Go.Proofs.Ytjhhcdiipbjiaab
