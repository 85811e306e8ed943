/- kind.Parse by its contract. -/
import Derived.Test.YtjhhcdiipbjiaabRead2
namespace Go.Proofs.Ytjhhcdiipbjiaab
open Go.ChangeShapes Go.WideShapes Go.ChangeAt Go.RowKit
set_option linter.unusedVariables false

def parseB (t : Tr) : Bool := readAt 0 t && goodTy (readT t)

def ParsePost (t : Tr) (w : World) (e : Ending) (w' : World) : Prop :=
  w.grownBy w' none ∧ ((parseB t = true ∧ ∃ u, e = .returned (.tuple #[u, .int .i64 0]) ∧ LiesT (w.heap.size ≤ ·) w' (readT t) u) ∨ (parseB t = false ∧ e = .returned (.tuple #[tyV 0 none 0 0, .int .i64 1])))

theorem Lies.grow {w w' : World} {t : Tr} {v : Value} (h : Lies (· < w.heap.size) w t v) (hg : w.grownBy w' none) : Lies (· < w'.heap.size) w' t v :=
  (h.same (w' := w') (fun b o hb _ => World.cell?_of_block (hg.block b hb (by simp)))).okMono (fun b hb _ => hb)

theorem Lies.form {ok : Nat → Prop} {w : World} {t : Tr} {v : Value} (h : Lies ok w t v) : ∃ k n p s a l c, v = nodeV k n p s a l c ∧ l ≤ maxLen := by
  cases h with
  | mk V hl => exact ⟨_, _, _, _, _, _, _, rfl, hl⟩

set_option maxRecDepth 100000 in
set_option maxHeartbeats 1000000 in
theorem parse_any {w : World} {t : Tr} {v : Value} (hL : Lies (· < w.heap.size) w t v) : Calls Try.prog 31 #[v] w (ParsePost t w) := by
  obtain ⟨k, n, p, s, a, l, c, rfl, hl⟩ := hL.form
  have hgW : w.grownBy (((w.alloc (.cells #[.int .i64 k, .int .i64 n, .int .i64 p, .string s, .slice a l c] 24)).alloc (.cells #[.int .i64 0, .slice none 0 0] 39)).alloc (.cells #[.int .i64 0] 3)) none := Lf.gbt (Lf.gb _) (Lf.gbt (Lf.gb _) (Lf.gb _))
  have hcnt : CountAt (((w.alloc (.cells #[.int .i64 k, .int .i64 n, .int .i64 p, .string s, .slice a l c] 24)).alloc (.cells #[.int .i64 0, .slice none 0 0] 39)).alloc (.cells #[.int .i64 0] 3)) (w.heap.size + 1 + 1) 0 := by
    have := heap_alloc_new ((w.alloc (.cells #[.int .i64 k, .int .i64 n, .int .i64 p, .string s, .slice a l c] 24)).alloc (.cells #[.int .i64 0, .slice none 0 0] 39)) (.cells #[.int .i64 0] 3)
    simp only [World.size_alloc] at this
    exact this
  have hrb : (((w.alloc (.cells #[.int .i64 k, .int .i64 n, .int .i64 p, .string s, .slice a l c] 24)).alloc (.cells #[.int .i64 0, .slice none 0 0] 39)).alloc (.cells #[.int .i64 0] 3)).heap[w.heap.size + 1]? = some (.cells #[.int .i64 0, .slice none 0 0] 39 (0, 0)) := by
    have := heap_alloc_new (w.alloc (.cells #[.int .i64 k, .int .i64 n, .int .i64 p, .string s, .slice a l c] 24)) (.cells #[.int .i64 0, .slice none 0 0] 39)
    simp only [World.size_alloc] at this
    exact heap_keep this
  have hL2 : Lies (· ≠ w.heap.size + 1 + 1) (((w.alloc (.cells #[.int .i64 k, .int .i64 n, .int .i64 p, .string s, .slice a l c] 24)).alloc (.cells #[.int .i64 0, .slice none 0 0] 39)).alloc (.cells #[.int .i64 0] 3)) t (nodeV k n p s a l c) :=
    (hL.same (fun b o hb _ => World.cell?_of_block (hgW.block b hb (by simp)))).okMono (fun b _ hb => by have : b < w.heap.size := hb; show b ≠ _; omega)
  have hF := read_any hL2 0 _ (Same.refl _ _) (Nat.le_refl _) hcnt (by omega)
  have HGW := Lf.hide hgW
  have HRB := Lf.hide hrb
  have HF := Lf.hide hF
  clear hL hcnt hL2 hgW hrb hF
  unfold maxLen at hl
  unfold nodeV at HF ⊢
  go_enter Try.func31, Try.ntmps31
  go_wp2_with fail
  refine HF.out.mono ?_; rintro e w1 ⟨hg1, hp1⟩
  have hb1 : w1.heap[w.heap.size + 1]? = _ := (hg1.block _ (lt_of_block HRB.out) (by simp)).trans HRB.out
  have hG1 := grow_fresh HGW.out (by omega) hg1
  have HB1 := Lf.hide hb1
  have q2 := free2_of hb1
  have q0 := cell0_of hb1
  have q1 := cell1_of hb1
  have lq : w.heap.size + 1 < w1.heap.size := lt_of_block hb1
  rcases hp1 with ⟨hra, u, rfl, hLu, _⟩ | ⟨hra, rfl⟩
  · obtain ⟨kt, at', lt', ct', rfl⟩ := hLu.tyV
    have hLu2 : LiesT (w.heap.size + 1 + 1 + 1 ≤ ·) w1 (readT t) (tyV kt at' lt' ct') := hLu.okMono (fun b _ hb => by simp only [World.size_alloc] at hb; exact hb)
    have hgd := kgood_any ((hLu2.okMono (ok' := (· < w1.heap.size)) (fun b hb _ => hb)).grow (Lf.gb (.cells #[.int .i64 kt, .slice at' lt' ct'] 39)))
    have HGD := Lf.hide hgd
    have HLU := Lf.hide hLu2
    have HG1 := Lf.hide hG1
    have hpb : parseB t = goodTy (readT t) := by simp [parseB, hra]
    have HPB := Lf.hide hpb
    clear hgd hLu hLu2 hG1 hg1 hra hpb hb1 HF
    unfold tyV at HGD ⊢
    go_wp2_with fail
    refine HGD.out.mono ?_; rintro e w2 ⟨rfl, hg2⟩
    have hb2 : w2.heap[w.heap.size + 1]? = _ := (hg2.block _ (by rw [World.size_alloc]; omega) (by simp)).trans (heap_keep HB1.out)
    have q2' := free2_of hb2
    have q0' := cell0_of hb2
    have q1' := cell1_of hb2
    have ht2 : w2.heap[w1.heap.size]? = some (.cells #[.int .i64 kt, .slice at' lt' ct'] 39 (0, 0)) := (hg2.block _ (by rw [World.size_alloc]; omega) (by simp)).trans (heap_alloc_new _ _)
    have t0 := cell0_of ht2
    have t1 := cell1_of ht2
    have HB2 := Lf.hide hb2
    have HG2 := Lf.hide (Lf.gbt HG1.out (Lf.gbt (Lf.gb _) hg2))
    have HGG := Lf.hide (Lf.gbt (Lf.gb _) hg2)
    clear hg2 hb2 ht2 HGD q0 q1 q2
    cases hgt : goodTy (readT t) with
    | true =>
      have HGT := Lf.hide hgt
      clear hgt
      go_wp2_with fail
      change bodyPost _ _ _ _ _ (set2 w2 (w.heap.size + 1) (.int .i64 kt) (.slice at' lt' ct'))
      have hb' := set2_block HB2.out (.int .i64 kt) (.slice at' lt' ct')
      have hg' := grow_set2 HG2.out (b := w.heap.size + 1) (by omega) (.int .i64 kt) (.slice at' lt' ct')
      have hgs := set2_grow w2 (w.heap.size + 1) (.int .i64 kt) (.slice at' lt' ct')
      generalize set2 w2 (w.heap.size + 1) (.int .i64 kt) (.slice at' lt' ct') = wf at *
      have z0 := cell0_of hb'
      have z1 := cell1_of hb'
      refine bodyPost_ret (v := .tuple #[tyV kt at' lt' ct', .int .i64 0]) (by simp [results, Try.results31, go_sem, z0, z1, tyV]) rfl ⟨hg', .inl ⟨by rw [HPB.out, HGT.out], _, rfl, ?_⟩⟩
      have h1 := HLU.out.same (w' := w2) (fun b o _ hlt => World.cell?_of_block (HGG.out.block b hlt (by simp)))
      exact (h1.same (w' := wf) (fun b o hb hlt => World.cell?_of_block (hgs.block b hlt (by have : w.heap.size + 1 + 1 + 1 ≤ b := hb; simp; omega)))).okMono (fun b _ hb => by have : w.heap.size + 1 + 1 + 1 ≤ b := hb; show _ ≤ b; omega)
    | false =>
      have HGT := Lf.hide hgt
      clear hgt
      go_wp2_with fail
      change bodyPost _ _ _ _ _ (set2 w2 (w.heap.size + 1) (.int .i64 0) (.slice none 0 0))
      have hb' := set2_block HB2.out (.int .i64 0) (.slice none 0 0)
      have hg' := grow_set2 HG2.out (b := w.heap.size + 1) (by omega) (.int .i64 0) (.slice none 0 0)
      generalize set2 w2 (w.heap.size + 1) (.int .i64 0) (.slice none 0 0) = wf at *
      have z0 := cell0_of hb'
      have z1 := cell1_of hb'
      exact bodyPost_ret (v := .tuple #[tyV 0 none 0 0, .int .i64 1]) (by simp [results, Try.results31, go_sem, z0, z1, tyV]) rfl ⟨hg', .inr ⟨by rw [HPB.out, HGT.out], rfl⟩⟩
  · have hpb : parseB t = false := by simp [parseB, hra]
    have HPB := Lf.hide hpb
    have HG1 := Lf.hide hG1
    clear hpb hG1 hg1 hra hb1 HF
    unfold tyV
    go_wp2_with fail
    change bodyPost _ _ _ _ _ ((set2 w1 (w.heap.size + 1) (.int .i64 0) (.slice none 0 0)).alloc (.cells #[.int .i64 0, .slice none 0 0] 39))
    have hb' := heap_keep (o := .cells #[.int .i64 0, .slice none 0 0] 39) (set2_block HB1.out (.int .i64 0) (.slice none 0 0))
    have hg' := Lf.gbt (grow_set2 HG1.out (b := w.heap.size + 1) (by omega) (.int .i64 0) (.slice none 0 0)) (Lf.gb (.cells #[.int .i64 0, .slice none 0 0] 39))
    generalize (set2 w1 (w.heap.size + 1) (.int .i64 0) (.slice none 0 0)).alloc (.cells #[.int .i64 0, .slice none 0 0] 39) = wf at *
    have z0 := cell0_of hb'
    have z1 := cell1_of hb'
    exact bodyPost_ret (v := .tuple #[tyV 0 none 0 0, .int .i64 1]) (by simp [results, Try.results31, go_sem, z0, z1, tyV]) rfl ⟨hg', .inr ⟨HPB.out, rfl⟩⟩

end Go.Proofs.Ytjhhcdiipbjiaab
