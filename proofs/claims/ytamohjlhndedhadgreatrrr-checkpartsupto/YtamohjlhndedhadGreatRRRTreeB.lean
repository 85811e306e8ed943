import Derived.Test.YtamohjlhndedhadGreatRRRTreeA
import Derived.Deep.RegionWith
namespace Go.Proofs.YtamohjlhndedhadGreatRRR
set_option maxRecDepth 20000
open Go.ChangeShapes Go.WideShapes Go.ChangeAt Go.RowKit
def PutPost (B : Nat) (w : World) (vb : Value) (l : List UInt8) (e : Ending) (w' : World) : Prop := ∃ v', e = .returned v' /\ Owns B w' v' l /\ Gr w vb w' v'
theorem wrong_zero {k n p : Int} {s : ByteArray} {l : Nat} (h : Lf.wrongF k n p s l = 0) : (0 <= k /\ k <= 3) /\ (k = 2 -> Lf.isPrimB p = true) /\ Lf.moreB k n p s l = false /\ (-1152921504606846976 <= n /\ n <= 1152921504606846976) /\ s.size <= 200 := by
 unfold Lf.wrongF at h
 by_cases h1 : Lf.isKindB k = false
 ·simp [h1] at h
 rw [if_neg h1] at h
 by_cases h2 : k = 2 /\ Lf.isPrimB p = false
 ·simp [h2] at h
 rw [if_neg h2] at h
 by_cases h3 : Lf.moreB k n p s l = true
 ·simp [h3] at h
 rw [if_neg h3] at h
 by_cases h4 : n < -1152921504606846976 \/ 1152921504606846976 < n
 ·rw [if_pos h4] at h; omega
 rw [if_neg h4] at h
 by_cases h5 : 200 < s.size
 ·rw [if_pos h5] at h; omega
 refine ⟨by simpa [Lf.isKindB] using h1, fun e => ?_, by simpa using h3, by omega, by omega⟩
 simpa [e] using h2
theorem PutPost.mk {B : Nat} {w w' : World} {vb v' : Value} {l l' : List UInt8} (ho : Owns B w' v' l') (hg : Gr w vb w' v') (hl : l' = l) : PutPost B w vb l (.returned v') w' := by
 subst hl; exact ⟨v', rfl, ho, hg⟩
theorem goodF_zero {t : Tr} (h : goodF t = 0) : firstW 1 t = 0 /\ t.size <= 300 := by
 unfold goodF at h
 by_cases h0 : firstW 1 t = 0
 ·rw [if_neg (by simpa using h0)] at h
  by_cases h1 : 300 < t.size
  ·rw [if_pos h1] at h; omega
  ·exact ⟨h0, by omega⟩
 ·rw [if_pos h0] at h; exact absurd h h0
end Go.Proofs.YtamohjlhndedhadGreatRRR
