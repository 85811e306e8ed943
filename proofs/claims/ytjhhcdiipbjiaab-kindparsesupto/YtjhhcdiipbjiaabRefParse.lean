/- The document's own ParseType, by its contract. -/
import Derived.Test.YtjhhcdiipbjiaabRefType2
namespace Go.Proofs.Ytjhhcdiipbjiaab
open Go.ChangeShapes Go.WideShapes Go.ChangeAt Go.RowKit
set_option linter.unusedVariables false

set_option maxRecDepth 100000 in
set_option maxHeartbeats 1000000 in
theorem rparse_any {w : World} {t : Tr} {v : Value} (hL : Lies (· < w.heap.size) w t v) (hz : t.size ≤ 100000000) : Calls Try.prog 32 #[v] w (ParsePost t w) := by
  obtain ⟨k, n, p, s, a, l, c, rfl, hl⟩ := hL.form
  have hgW : w.grownBy (((w.alloc (.cells #[.int .i64 k, .int .i64 n, .int .i64 p, .string s, .slice a l c] 24)).alloc (.cells #[.int .i64 0, .slice none 0 0] 39)).alloc (.cells #[.int .i64 300] 3)) none := Lf.gbt (Lf.gb _) (Lf.gbt (Lf.gb _) (Lf.gb _))
  have hcnt : LeftAt (((w.alloc (.cells #[.int .i64 k, .int .i64 n, .int .i64 p, .string s, .slice a l c] 24)).alloc (.cells #[.int .i64 0, .slice none 0 0] 39)).alloc (.cells #[.int .i64 300] 3)) (w.heap.size + 1 + 1) 300 := by
    have := heap_alloc_new ((w.alloc (.cells #[.int .i64 k, .int .i64 n, .int .i64 p, .string s, .slice a l c] 24)).alloc (.cells #[.int .i64 0, .slice none 0 0] 39)) (.cells #[.int .i64 300] 3)
    simp only [World.size_alloc] at this
    exact this
  have hrb : (((w.alloc (.cells #[.int .i64 k, .int .i64 n, .int .i64 p, .string s, .slice a l c] 24)).alloc (.cells #[.int .i64 0, .slice none 0 0] 39)).alloc (.cells #[.int .i64 300] 3)).heap[w.heap.size + 1]? = some (.cells #[.int .i64 0, .slice none 0 0] 39 (0, 0)) := by
    have := heap_alloc_new (w.alloc (.cells #[.int .i64 k, .int .i64 n, .int .i64 p, .string s, .slice a l c] 24)) (.cells #[.int .i64 0, .slice none 0 0] 39)
    simp only [World.size_alloc] at this
    exact heap_keep this
  have hL2 : Lies (· ≠ w.heap.size + 1 + 1) (((w.alloc (.cells #[.int .i64 k, .int .i64 n, .int .i64 p, .string s, .slice a l c] 24)).alloc (.cells #[.int .i64 0, .slice none 0 0] 39)).alloc (.cells #[.int .i64 300] 3)) t (nodeV k n p s a l c) :=
    (hL.same (fun b o hb _ => World.cell?_of_block (hgW.block b hb (by simp)))).okMono (fun b _ hb => by have : b < w.heap.size := hb; show b ≠ _; omega)
  have hF := type_any hL2 24 300 _ (Same.refl _ _) (Nat.le_refl _) hcnt (by omega) (by omega) (by omega) (by omega)
  obtain ⟨htp1, htp2⟩ := type_parse t
  rw [show (24 : Int).toNat = 24 from rfl] at hF
  have HGW := Lf.hide hgW
  have HRB := Lf.hide hrb
  have HF := Lf.hide hF
  have HTP1 := Lf.hide htp1
  have HTP2 := Lf.hide htp2
  clear hL hcnt hL2 hgW hrb hF htp1 htp2 hz
  unfold maxLen at hl
  unfold nodeV at HF ⊢
  go_enter Try.func32, Try.ntmps32
  go_wp2_with fail
  refine HF.out.mono ?_; rintro e w1 ⟨hg1, u, rfl, hLu, _⟩
  have hb1 : w1.heap[w.heap.size + 1]? = _ := (hg1.block _ (lt_of_block HRB.out) (by simp)).trans HRB.out
  have hG1 := grow_fresh HGW.out (by omega) hg1
  have HB1 := Lf.hide hb1
  have lq : w.heap.size + 1 < w1.heap.size := lt_of_block hb1
  obtain ⟨kt, at', lt', ct', rfl⟩ := hLu.tyV
  have hLu2 : LiesT (w.heap.size + 1 + 1 + 1 ≤ ·) w1 (typeF 24 300 t).1 (tyV kt at' lt' ct') := hLu.okMono (fun b _ hb => by simp only [World.size_alloc] at hb; exact hb)
  have hgd := rgood_any (hLu2.okMono (ok' := fun _ => True) (fun _ _ _ => trivial)) (w1.alloc (.cells #[.int .i64 kt, .slice at' lt' ct'] 39)) (Lf.gb _)
  rw [HTP1.out] at hgd
  have HGD := Lf.hide hgd
  have HLU := Lf.hide hLu2
  have HG1 := Lf.hide hG1
  clear hgd hLu hLu2 hG1 hg1 hb1 HF
  unfold tyV at HGD ⊢
  go_wp2_with fail
  refine HGD.out.mono ?_; rintro e w2 ⟨rfl, hg2⟩
  have hb2 : w2.heap[w.heap.size + 1]? = _ := (hg2.block _ (by rw [World.size_alloc]; omega) (by simp)).trans (heap_keep HB1.out)
  have q2' := free2_of hb2
  have q0' := cell0_of hb2
  have q1' := cell1_of hb2
  have ht2 : w2.heap[w1.heap.size]? = some (.cells #[.int .i64 kt, .slice at' lt' ct'] 39 (0, 0)) := (hg2.block _ (by rw [World.size_alloc]; omega) (by simp)).trans (heap_alloc_new _ _)
  have t0 := cell0_of ht2
  have t1 := cell1_of ht2
  have HB2 := Lf.hide hb2
  have HG2 := Lf.hide (Lf.gbt HG1.out (Lf.gbt (Lf.gb _) hg2))
  have HGG := Lf.hide (Lf.gbt (Lf.gb _) hg2)
  clear hg2 hb2 ht2 HGD
  cases hgt : parseB t with
  | true =>
    have HGT := Lf.hide hgt
    clear hgt
    go_wp2_with fail
    change bodyPost _ _ _ _ _ (set2 w2 (w.heap.size + 1) (.int .i64 kt) (.slice at' lt' ct'))
    have hb' := set2_block HB2.out (.int .i64 kt) (.slice at' lt' ct')
    have hg' := grow_set2 HG2.out (b := w.heap.size + 1) (by omega) (.int .i64 kt) (.slice at' lt' ct')
    have hgs := set2_grow w2 (w.heap.size + 1) (.int .i64 kt) (.slice at' lt' ct')
    generalize set2 w2 (w.heap.size + 1) (.int .i64 kt) (.slice at' lt' ct') = wf at *
    have z0 := cell0_of hb'
    have z1 := cell1_of hb'
    refine bodyPost_ret (v := .tuple #[tyV kt at' lt' ct', .int .i64 0]) (by simp [results, Try.results32, go_sem, z0, z1, tyV]) rfl ⟨hg', .inl ⟨HGT.out, _, rfl, ?_⟩⟩
    have h0 := HLU.out
    rw [HTP2.out HGT.out] at h0
    have h1 := h0.same (w' := w2) (fun b o _ hlt => World.cell?_of_block (HGG.out.block b hlt (by simp)))
    exact (h1.same (w' := wf) (fun b o hb hlt => World.cell?_of_block (hgs.block b hlt (by have : w.heap.size + 1 + 1 + 1 ≤ b := hb; simp; omega)))).okMono (fun b _ hb => by have : w.heap.size + 1 + 1 + 1 ≤ b := hb; show _ ≤ b; omega)
  | false =>
    have HGT := Lf.hide hgt
    clear hgt
    go_wp2_with fail
    change bodyPost _ _ _ _ _ (set2 w2 (w.heap.size + 1) (.int .i64 0) (.slice none 0 0))
    have hb' := set2_block HB2.out (.int .i64 0) (.slice none 0 0)
    have hg' := grow_set2 HG2.out (b := w.heap.size + 1) (by omega) (.int .i64 0) (.slice none 0 0)
    generalize set2 w2 (w.heap.size + 1) (.int .i64 0) (.slice none 0 0) = wf at *
    have z0 := cell0_of hb'
    have z1 := cell1_of hb'
    exact bodyPost_ret (v := .tuple #[tyV 0 none 0 0, .int .i64 1]) (by simp [results, Try.results32, go_sem, z0, z1, tyV]) rfl ⟨hg', .inr ⟨HGT.out, rfl⟩⟩

end Go.Proofs.Ytjhhcdiipbjiaab
