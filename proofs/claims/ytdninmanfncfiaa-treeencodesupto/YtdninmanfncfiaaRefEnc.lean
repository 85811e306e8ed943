/- The document's own EncodeNode by its contract. -/
import Derived.Test.YtdninmanfncfiaaRefText
import Derived.Test.YtdninmanfncfiaaRefGN
import Derived.Test.YtdninmanfncfiaaSame
namespace Go.Proofs.Ytdninmanfncfiaa
open Go.ChangeShapes Go.WideShapes Go.ChangeAt Go.RowKit
set_option linter.unusedVariables false

theorem box_noneE {w w' : World} {g : Nat} {o : Obj} (h : w.heap[g]? = some o) (hg : w.grownBy w' none) : w'.heap[g]? = some o := by
  rw [hg.block g (Array.getElem?_eq_some_iff.1 h).1 (by simp)]; exact h

set_option maxHeartbeats 1000000 in
theorem renc_no {w : World} {t : Tr} {v : Value} (hL : Lies (fun _ => True) w t v) (hz : t.size ≤ 1048576) (hgood : goodF t ≠ 0) (W : World) (hW : w.grownBy W none) :
    Calls Try.prog 24 #[v] W fun e w' => e = .returned (.tuple #[.string ⟨#[]⟩, .int .i64 (goodF t)]) ∧ W.grownBy w' none := by
  obtain ⟨k, n, p, st, a, q, c, rfl⟩ := hL.nodeV
  have HGD := Lf.hide (fun W2 (h2 : W.grownBy W2 none) => rgood_any hL hz W2 (Lf.gbt hW h2))
  have hx1 : (goodF t == 0) = false := by simpa using hgood
  clear hL hz hW
  generalize goodF t = x at *
  unfold nodeV at HGD ⊢
  go_enter Try.func24, Try.ntmps24
  go_wp2_with fail
  refine (HGD.out _ (Lf.gb _)).mono ?_; rintro e w1 ⟨rfl, hg1⟩
  have HG1 := Lf.hide (Lf.gbt (Lf.gb _) hg1)
  clear hg1
  go_wp2_with fail
  go_ret2
  exact ⟨rfl, HG1.out⟩

set_option maxHeartbeats 1000000 in
theorem renc_yes {w : World} {t : Tr} {v : Value} (hL : Lies (fun _ => True) w t v) (hz : t.size ≤ 1048576) (hgood : goodF t = 0) (W : World) (hW : w.grownBy W none) :
    Calls Try.prog 24 #[v] W fun e w' => e = .returned (.tuple #[.string (bs (encTr t)), .int .i64 0]) ∧ W.grownBy w' none := by
  obtain ⟨k, n, p, st, a, q, c, rfl⟩ := hL.nodeV
  have hlen : firstW 1 t = 0 ∧ (encTr t).length ≤ 64500 := by
    obtain ⟨h1, h2⟩ := goodF_zero hgood
    have := encTr_bound 1 t h1 (by omega); exact ⟨h1, by omega⟩
  have HGD := Lf.hide (fun W2 (h2 : W.grownBy W2 none) => rgood_any hL hz W2 (Lf.gbt hW h2))
  have HT := Lf.hide (fun W2 (h2 : W.grownBy W2 none) => rnode_any hL 1 W2 hlen.1 (by omega) (Lf.gbt hW h2))
  rw [hgood] at HGD
  clear hL hz hW hgood hlen
  generalize bs (encTr t) = s at *
  unfold nodeV at HGD HT ⊢
  go_enter Try.func24, Try.ntmps24
  go_wp2_with fail
  refine (HGD.out _ (Lf.gb _)).mono ?_; rintro e w1 ⟨rfl, hg1⟩
  have HB1 := Lf.hide (box_noneE (heap_alloc_new _ _) hg1)
  obtain ⟨x0, x1, x2, x3, x4⟩ := box5 HB1.out
  have HG1 := Lf.hide (Lf.gbt (Lf.gb _) hg1)
  clear hg1
  go_wp2_with fail
  refine (HT.out _ HG1.out).mono ?_; rintro e w2 ⟨rfl, hg2⟩
  have HG2 := Lf.hide (Lf.gbt HG1.out hg2)
  clear hg2
  go_wp2_with fail
  go_ret2
  exact ⟨rfl, HG2.out⟩

/-- either way -/
theorem renc_any {w : World} {t : Tr} {v : Value} (hL : Lies (fun _ => True) w t v) (hz : t.size ≤ 1048576) (W : World) (hW : w.grownBy W none) :
    Calls Try.prog 24 #[v] W fun e w' => e = .returned (.tuple #[.string (if goodF t = 0 then bs (encTr t) else ⟨#[]⟩), .int .i64 (goodF t)]) ∧ W.grownBy w' none := by
  by_cases h : goodF t = 0
  · rw [if_pos h]; have := renc_yes hL hz h W hW; rw [h]; exact this
  · rw [if_neg h]; exact renc_no hL hz h W hW

end Go.Proofs.Ytdninmanfncfiaa
