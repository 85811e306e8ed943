/- How Order compares two values by themselves. -/
import Derived.Test.YtdninmanfncfiadSideC
import Derived.Deep.RegionHeld3
import Derived.Deep.DeepCutAuto
namespace Go.Proofs.Ytdninmanfncfiad
open Go.ChangeShapes Go.WideShapes Go.ChangeAt Go.RowKit
set_option linter.unusedVariables false

set_option maxRecDepth 100000 in
set_option maxHeartbeats 2000000 in
/-- how Order compares two values by themselves -/
theorem ord1_any {w : World} {x y : Va} {u v : Value} (hx : LiesV (fun _ => True) w x u) (hy : LiesV (fun _ => True) w y v) (W : World) :
    Calls Try.prog 78 #[u, v] W fun e w' => e = .returned (.int .i64 (ordC x y)) ∧ W.grownBy w' none := by
  obtain ⟨aa, ac, ta, tc, na, nc, _, _, _, rfl, _, _, _, _⟩ := hx.inv
  obtain ⟨aa2, ac2, ta2, tc2, na2, nc2, _, _, _, rfl, _, _, _, _⟩ := hy.inv
  clear hx hy
  have HO := Lf.hide or2_any
  have hr : ordC x y = if cmpI x.n y.n ≠ 0 then cmpI x.n y.n else cmpS x.s y.s := rfl
  rw [hr]
  have H1 := Lf.hide (fun w => cmpI_any x.n y.n w)
  have H2 := Lf.hide (fun w => cmpS_any x.s y.s w)
  clear hr
  generalize cmpI x.n y.n = c1 at *
  generalize cmpS x.s y.s = c2 at *
  unfold vaV
  generalize hr : (if c1 ≠ 0 then c1 else c2) = r
  have HR := Lf.hide hr
  clear hr HO
  have HO : Hid (∀ (w0 : World) (T : TypeId) (H : Nat), w0.heap.size = H → Calls Try.prog 79 #[.slice (some ⟨H, 0, none⟩) 2 2] (w0.alloc (.cells #[.int .i64 c1, .int .i64 c2] T)).drew fun e w' => e = .returned (.int .i64 r) ∧ w0.grownBy w' none) := fun w0 T H hH => by
    rw [← HR.out]; exact or2_new w0 T c1 c2 H hH
  clear HR
  go_enter Try.func78, Try.ntmps78
  go_wp2_with fail
  have hbx : ((W.alloc (.cells #[.int .i64 x.k, .int .i64 x.n, .int .i64 x.a, .string x.s, .slice aa x.args.length ac, .slice ta x.types.length tc, .slice na x.code.length nc] 30)).alloc (.cells #[.int .i64 y.k, .int .i64 y.n, .int .i64 y.a, .string y.s, .slice aa2 y.args.length ac2, .slice ta2 y.types.length tc2, .slice na2 y.code.length nc2] 30)).heap[W.heap.size]? = some (.cells #[.int .i64 x.k, .int .i64 x.n, .int .i64 x.a, .string x.s, .slice aa x.args.length ac, .slice ta x.types.length tc, .slice na x.code.length nc] 30 (0, 0)) := res_new _ _ _
  have hby : ((W.alloc (.cells #[.int .i64 x.k, .int .i64 x.n, .int .i64 x.a, .string x.s, .slice aa x.args.length ac, .slice ta x.types.length tc, .slice na x.code.length nc] 30)).alloc (.cells #[.int .i64 y.k, .int .i64 y.n, .int .i64 y.a, .string y.s, .slice aa2 y.args.length ac2, .slice ta2 y.types.length tc2, .slice na2 y.code.length nc2] 30)).heap[W.heap.size + 1]? = some (.cells #[.int .i64 y.k, .int .i64 y.n, .int .i64 y.a, .string y.s, .slice aa2 y.args.length ac2, .slice ta2 y.types.length tc2, .slice na2 y.code.length nc2] 30 (0, 0)) := by
    have := heap_alloc_new (W.alloc (.cells #[.int .i64 x.k, .int .i64 x.n, .int .i64 x.a, .string x.s, .slice aa x.args.length ac, .slice ta x.types.length tc, .slice na x.code.length nc] 30)) (.cells #[.int .i64 y.k, .int .i64 y.n, .int .i64 y.a, .string y.s, .slice aa2 y.args.length ac2, .slice ta2 y.types.length tc2, .slice na2 y.code.length nc2] 30)
    rwa [show (W.alloc (.cells #[.int .i64 x.k, .int .i64 x.n, .int .i64 x.a, .string x.s, .slice aa x.args.length ac, .slice ta x.types.length tc, .slice na x.code.length nc] 30)).heap.size = W.heap.size + 1 from by simp] at this
  have hgW : W.grownBy ((W.alloc (.cells #[.int .i64 x.k, .int .i64 x.n, .int .i64 x.a, .string x.s, .slice aa x.args.length ac, .slice ta x.types.length tc, .slice na x.code.length nc] 30)).alloc (.cells #[.int .i64 y.k, .int .i64 y.n, .int .i64 y.a, .string y.s, .slice aa2 y.args.length ac2, .slice ta2 y.types.length tc2, .slice na2 y.code.length nc2] 30)) none := Lf.gbt (Lf.gb _) (Lf.gb _)
  generalize (W.alloc (.cells #[.int .i64 x.k, .int .i64 x.n, .int .i64 x.a, .string x.s, .slice aa x.args.length ac, .slice ta x.types.length tc, .slice na x.code.length nc] 30)).alloc (.cells #[.int .i64 y.k, .int .i64 y.n, .int .i64 y.a, .string y.s, .slice aa2 y.args.length ac2, .slice ta2 y.types.length tc2, .slice na2 y.code.length nc2] 30) = W2 at *
  have keepx : ∀ W3 : World, W2.grownBy W3 none → W3.heap[W.heap.size]? = _ := fun W3 h => (h.block _ (Array.getElem?_eq_some_iff.1 hbx).1 (by simp)).trans hbx
  have keepy : ∀ W3 : World, W2.grownBy W3 none → W3.heap[W.heap.size + 1]? = _ := fun W3 h => (h.block _ (Array.getElem?_eq_some_iff.1 hby).1 (by simp)).trans hby
  have c1x : ∀ W3 : World, W2.grownBy W3 none → W3.cell? ⟨W.heap.size, 1, none⟩ = some (.int .i64 x.n) := fun W3 h => (box7 (keepx W3 h)).2.1
  have c3x : ∀ W3 : World, W2.grownBy W3 none → W3.cell? ⟨W.heap.size, 3, none⟩ = some (.string x.s) := fun W3 h => (box7 (keepx W3 h)).2.2.2.1
  have c1y : ∀ W3 : World, W2.grownBy W3 none → W3.cell? ⟨W.heap.size + 1, 1, none⟩ = some (.int .i64 y.n) := fun W3 h => (box7 (keepy W3 h)).2.1
  have c3y : ∀ W3 : World, W2.grownBy W3 none → W3.cell? ⟨W.heap.size + 1, 3, none⟩ = some (.string y.s) := fun W3 h => (box7 (keepy W3 h)).2.2.2.1
  have HGW := Lf.hide hgW
  clear keepx keepy hbx hby hgW
  go_region_held3 (fun w' => W2.grownBy w' none) (first | assumption | exact grow_drew (grow_refl _ _) | exact Lf.gbt (by assumption) (Lf.gb _)) (first
    | (go_at_call 64; refine (H1.out _).mono ?_; rintro e w' ⟨rfl, rfl⟩)
    | (go_at_call 80; refine (H2.out _).mono ?_; rintro e w' ⟨rfl, rfl⟩)
    | (go_at_call 79; refine (HO.out _ _ _ (by simp)).mono ?_; rintro e w' ⟨rfl, hg⟩))
  all_goals
    go_wp2_with fail
    go_ret
    exact ⟨rfl, Lf.gbt HGW.out (by assumption)⟩

end Go.Proofs.Ytdninmanfncfiad
