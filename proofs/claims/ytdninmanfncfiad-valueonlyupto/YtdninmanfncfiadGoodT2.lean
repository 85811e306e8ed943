/- kind.Good by its contract. -/
import Derived.Test.YtdninmanfncfiadGoodT
namespace Go.Proofs.Ytdninmanfncfiad
open Go.ChangeShapes Go.WideShapes Go.ChangeAt Go.RowKit
set_option linter.unusedVariables false

theorem grow_fresh {w W w' : World} {b : Nat} (h : w.grownBy W none) (hb : w.heap.size ≤ b) (hg : W.grownBy w' (some b)) : w.grownBy w' none :=
  ⟨hg.os.trans h.os, hg.tape.trans h.tape, hg.output.trans h.output, Nat.le_trans h.size hg.size, fun i hi hr => (hg.block i (Nat.lt_of_lt_of_le hi h.size) (by simp; omega)).trans (h.block i hi hr)⟩

theorem goodTy_formed {T : Ty} (h : goodTy T = true) : formedB 1 T = true ∧ T.size ≤ 300 ∧ keyedF T = true := by
  simp only [goodTy, Bool.and_eq_true, decide_eq_true_eq] at h
  exact ⟨h.1.1, h.1.2, h.2⟩

set_option maxHeartbeats 400000 in
theorem kgood_any {w : World} {T : Ty} {v : Value} (hL : LiesT (· < w.heap.size) w T v) :
    Calls Try.prog 16 #[v] w fun e w' => e = .returned (.bool (goodTy T)) ∧ w.grownBy w' none := by
  obtain ⟨a, c, V, rfl, it, hR⟩ := hL.inv
  have hgW : w.grownBy ((w.alloc (.cells #[.int .i64 T.t, .slice a T.args.length c] 24)).alloc (.cells #[.int .i64 0] 3)) none := Lf.gbt (Lf.gb _) (Lf.gb _)
  have hcnt : CountAt ((w.alloc (.cells #[.int .i64 T.t, .slice a T.args.length c] 24)).alloc (.cells #[.int .i64 0] 3)) (w.heap.size + 1) 0 := by
    have := heap_alloc_new (w.alloc (.cells #[.int .i64 T.t, .slice a T.args.length c] 24)) (.cells #[.int .i64 0] 3)
    rw [World.size_alloc] at this
    exact this
  have hL2 : LiesT (· ≠ w.heap.size + 1) ((w.alloc (.cells #[.int .i64 T.t, .slice a T.args.length c] 24)).alloc (.cells #[.int .i64 0] 3)) T (tyV T.t a T.args.length c) :=
    (hL.same (fun b o hb _ => World.cell?_of_block (hgW.block b hb (by simp)))).okMono (fun b _ hb => by have : b < w.heap.size := hb; show b ≠ _; omega)
  have hF := formed_any hL2 1 0 _ (Same.refl _ _) (Nat.le_refl _) hcnt (by omega) (by omega)
  have HK : Hid (formedAt 1 0 T = true → ∀ w3, w.grownBy w3 none → Calls Try.prog 42 #[tyV T.t a T.args.length c] w3 fun e w' => e = .returned (.bool (keyedF T)) ∧ w3.grownBy w' none) := by
    intro h w3 hg3
    simp only [formedAt, Bool.and_eq_true, decide_eq_true_eq] at h
    exact keyed_any hL 1 w3 hg3 h.1 (by omega)
  have hgood : goodTy T = (formedAt 1 0 T && keyedF T) := by simp [goodTy, formedAt]
  have HGD := Lf.hide hgood
  have HGW := Lf.hide hgW
  clear hL hR it hcnt hL2 hgood hgW
  unfold FormedPost at hF
  rw [show (((1 : Nat)) : Int) = 1 from rfl] at hF
  generalize formedAt 1 0 T = fa at *
  cases fa with
  | false =>
    have HF := Lf.hide hF
    clear hF HK
    unfold tyV at HF ⊢
    go_enter Try.func16, Try.ntmps16
    go_wp2_with fail
    refine HF.out.mono ?_; rintro e w1 ⟨rfl, hg, _⟩
    have HG := Lf.hide (grow_fresh HGW.out (by omega) hg)
    clear hg
    go_wp2_with fail
    go_ret
    exact ⟨by rw [HGD.out]; rfl, HG.out⟩
  | true =>
    have HF := Lf.hide hF
    have HK2 := Lf.hide (HK.out rfl)
    clear hF HK
    unfold tyV at HF HK2 ⊢
    go_enter Try.func16, Try.ntmps16
    go_wp2_with fail
    refine HF.out.mono ?_; rintro e w1 ⟨rfl, hg, _⟩
    have hbx : w1.heap[w.heap.size]? = some (.cells #[.int .i64 T.t, .slice a T.args.length c] 24 (0, 0)) := (hg.block w.heap.size (by simp; omega) (by simp)).trans (heap_keep (heap_alloc_new _ _))
    have x0 := cell0_of hbx
    have x1 := cell1_of hbx
    have HG := Lf.hide (grow_fresh HGW.out (by omega) hg)
    clear hg hbx
    go_wp2_with fail
    refine (HK2.out _ HG.out).mono ?_; rintro e w2 ⟨rfl, hg2⟩
    have HG2 := Lf.hide hg2
    clear hg2
    go_wp2_with fail
    go_ret
    exact ⟨by rw [HGD.out]; simp, Lf.gbt HG.out HG2.out⟩

end Go.Proofs.Ytdninmanfncfiad
