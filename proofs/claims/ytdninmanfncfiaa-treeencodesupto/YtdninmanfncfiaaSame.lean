/- That two nodes are alike, and that tree answers at all, by their contracts. -/
import Derived.Test.YtdninmanfncfiaaDecode
import Derived.Test.YtdninmanfncfiaaAlike
namespace Go.Proofs.Ytdninmanfncfiaa
open Go.ChangeShapes Go.WideShapes Go.ChangeAt Go.RowKit
set_option linter.unusedVariables false

theorem enc_grows : encTr (.nd 0 (-1) 0 (bs []) []) = [0, 65] := by
  rw [encTr, if_pos rfl]
  unfold encN
  rw [show (-1 : Int).natAbs / 64 = 0 from rfl, encT, if_pos rfl]
  rfl

theorem good_leaf {k n p : Int} {s : ByteArray} (h : Lf.wrongF k n p s 0 = 0) : goodF (.nd k n p s []) = 0 := by
  have h1 : firstW 1 (.nd k n p s []) = 0 := by
    rw [firstW, if_neg (show ¬ 24 < 1 by omega), List.length_nil, if_neg (by simpa using h)]; simp [firstWs]
  unfold goodF
  rw [if_neg (by simpa using h1)]
  simp [Tr.size, sizes]

theorem grows_any (w : World) : Calls Try.prog 27 #[] w fun e w' => e = .returned (.bool true) ∧ w.grownBy w' none := by
  have hE := encode_yes (w := w) (t := .nd 0 (-1) 0 (bs []) []) (v := nodeV 0 (-1) 0 (bs []) none 0 0) (lies_leaf (by rw [bs_size]; simp) ⟨by omega, by omega⟩ ⟨by omega, by omega⟩ ⟨by omega, by omega⟩) (good_leaf (wrongF_mk _ _ _ _ _ (by decide) (by decide) (by rfl) (by omega) (by rw [bs_size]; simp)))
  rw [enc_grows] at hE
  have HE := Lf.hide hE
  clear hE
  go_enter Try.func27, Try.ntmps27
  go_wp2_with fail
  refine HE.out.mono ?_; rintro e w1 ⟨rfl, hg⟩
  have HG := Lf.hide hg
  clear hg
  go_wp2_with fail
  go_ret
  exact ⟨rfl, HG.out⟩

/-- what is read as a tree is good, and has just these bytes -/
theorem decode_good {l : List UInt8} {t : Tr} (h : pDecode l = .ok t) : goodF t = 0 ∧ encTr t = l := by
  unfold pDecode at h
  cases hq : pNode 24 0 l with
  | error e => rw [hq] at h; simp at h
  | ok r =>
    obtain ⟨t', n', l'⟩ := r
    rw [hq] at h
    simp only at h
    by_cases hl' : l' = []
    · rw [if_pos hl'] at h
      injection h with h
      subst h; subst hl'
      obtain ⟨a1, a2, a3, a4⟩ := pNode_sound 24 (by omega) 0 l t' n' [] (by omega) hq
      rw [show 25 - 24 = 1 from rfl] at a4
      refine ⟨?_, by rw [a1]; simp⟩
      unfold goodF
      rw [if_neg (by simpa using a4), if_neg (by omega)]
    · rw [if_neg hl'] at h; simp at h

theorem decode_complete {t : Tr} (h : goodF t = 0) : pDecode (encTr t) = .ok t := by
  obtain ⟨h1, h2⟩ := goodF_zero h
  have := pNode_complete 24 (by omega) t 0 [] h1 (by omega)
  rw [List.append_nil] at this
  unfold pDecode
  rw [this]
  simp

theorem decode_more {t : Tr} (h : goodF t = 0) (x : UInt8) : pDecode (encTr t ++ [x]) = .error 1 := by
  obtain ⟨h1, h2⟩ := goodF_zero h
  have := pNode_complete 24 (by omega) t 0 [x] h1 (by omega)
  unfold pDecode
  rw [this]
  simp

theorem decode_cut {t : Tr} (h : goodF t = 0) {a b : List UInt8} (he : encTr t = a ++ b) (hb : b ≠ []) : pDecode a = .error 1 := by
  obtain ⟨h1, h2⟩ := goodF_zero h
  unfold pDecode
  rw [pNode_cut 24 (by omega) t 0 a b h1 (by omega) he hb]

end Go.Proofs.Ytdninmanfncfiaa
