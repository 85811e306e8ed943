import Derived.Test.YtamohjlhndedhadGreatRRRCheckF
namespace Go.Proofs.YtamohjlhndedhadGreatRRR
set_option linter.unusedVariables false
set_option linter.unusedSimpArgs false
theorem code_ok {n : Tr} {s ts : List Ty} {f : Bool} (h : codeF n s = .ok f ts) : goodF n = 0 /\ n.k0 = 3 /\ s.length <= 40 /\ s.all goodTy = true /\ rowG (stepF 300) n.args0 false s = .ok f ts := by
 unfold codeF at h
 by_cases h1 : goodF n = 0
 ·by_cases h2 : n.k0 = 3
  ·by_cases h3 : 40 < s.length
   ·simp [h1, h2, h3] at h
   ·by_cases h4 : s.all goodTy = true
    ·rw [if_neg (by simp [h1]), if_neg (by simp [h2]), if_neg h3, if_pos h4] at h
     exact ⟨h1, h2, by omega, h4, h⟩
    ·rw [if_neg (by simp [h1]), if_neg (by simp [h2]), if_neg h3, if_neg h4] at h
     cases h
  ·rw [if_neg (by simp [h1]), if_pos h2] at h
   cases h
 ·rw [if_pos h1] at h
  cases h
theorem code_good {n : Tr} {s ts : List Ty} {f : Bool} (h : codeF n s = .ok f ts) : ts.length <= 40 /\ ts.all goodTy = true /\ (f = true -> ts = []) := by
 obtain ⟨_, _, h3, h4, h5⟩ := code_ok h
 exact rowG_good (noTys_step 300) _ _ _ h3 h4 (by simp) h5
theorem firstWs_app (d : Nat) : ∀ (a b : List Tr), firstWs d a = 0 -> firstWs d b = 0 -> firstWs d (a ++ b) = 0
 | [], b, _, h => h
 | t :: a, b, h, h2 => by
  simp only [firstWs] at h
  by_cases ht : firstW d t = 0
  ·simp only [ht, ne_eq, not_true_eq_false, if_false] at h
   simp only [List.cons_append, firstWs, ht, ne_eq, not_true_eq_false, if_false]
   exact firstWs_app d a b h h2
  ·rw [if_pos ht] at h; exact absurd h ht
theorem good_firsts {n : Tr} (h : goodF n = 0) : firstWs 2 n.args0 = 0 /\ n.size <= 300 := by
 obtain ⟨k, m, p, s, args⟩ := n
 unfold goodF at h
 by_cases h1 : firstW 1 (.nd k m p s args) = 0
 ·rw [if_neg (by simp [h1])] at h
  by_cases h2 : 300 < (Tr.nd k m p s args).size
  ·rw [if_pos h2] at h; cases h
  ·refine ⟨?_, by omega⟩
   rw [firstW, if_neg (by omega)] at h1
   by_cases h3 : Lf.wrongF k m p s args.length = 0
   ·rw [if_neg (by simp [h3])] at h1; exact h1
   ·rw [if_pos h3] at h1; exact absurd h1 h3
 ·rw [if_pos h1] at h; exact absurd h h1
theorem good_both {a b : Tr} (ha : goodF a = 0) (hb : goodF b = 0) (hz : a.size + b.size <= 300) : goodF (.nd 3 0 0 ⟨#[]⟩ (a.args0 ++ b.args0)) = 0 := by
 obtain ⟨a1, _⟩ := good_firsts ha
 obtain ⟨b1, _⟩ := good_firsts hb
 have hs : (Tr.nd 3 0 0 ⟨#[]⟩ (a.args0 ++ b.args0)).size <= 300 := by
  obtain ⟨_, _, _, _, x⟩ := a
  obtain ⟨_, _, _, _, y⟩ := b
  simp only [Tr.size, Tr.args0, sizes_append] at hz ⊢
  omega
 have hw : Lf.wrongF 3 0 0 ⟨#[]⟩ (a.args0 ++ b.args0).length = 0 := by
  simp [Lf.wrongF, Lf.isKindB, Lf.moreB]
  rfl
 have h1 : firstW 1 (.nd 3 0 0 ⟨#[]⟩ (a.args0 ++ b.args0)) = 0 := by
  rw [firstW, if_neg (by omega), if_neg (fun h => h hw)]
  exact firstWs_app 2 _ _ a1 b1
 unfold goodF
 rw [if_neg (by simp [h1]), if_neg (by omega)]
theorem code_parts {a b : Tr} {s xs ys : List Ty} {f : Bool} (ha : codeF a s = .ok false xs) (hb : codeF b xs = .ok f ys) (hz : a.size + b.size <= 300) : codeF (.nd 3 0 0 ⟨#[]⟩ (a.args0 ++ b.args0)) s = .ok f ys := by
 obtain ⟨g1, k1, l1, t1, r1⟩ := code_ok ha
 obtain ⟨g2, k2, l2, t2, r2⟩ := code_ok hb
 unfold codeF
 rw [if_neg (by rw [good_both g1 g2 hz]; simp), if_neg (by simp [Tr.k0]), if_neg (by omega), if_pos t1]
 show rowG (stepF 300) (a.args0 ++ b.args0) false s = _
 rw [rowG_append, r1]
 exact r2
end Go.Proofs.YtamohjlhndedhadGreatRRR
