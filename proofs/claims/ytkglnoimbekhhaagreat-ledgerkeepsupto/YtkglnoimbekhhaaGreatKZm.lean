import Derived.Test.YtkglnoimbekhhaaGreatKZd
namespace Go.Proofs.YtkglnoimbekhhaaGreat
set_option linter.unusedVariables false
set_option linter.unusedSimpArgs false
theorem code_ok {n:Tr} {s ts:List Ty} {f:Bool} (h:codeF n s = .ok f ts):goodF n = 0 /\ n.k0 = 3 /\ s.length <= 40 /\ s.all gYq = true /\ rowG (stepF 300) n.args0 false s = .ok f ts:=by
 unfold codeF at h
 by_cases h1:goodF n = 0
 ·by_cases h2:n.k0 = 3
  ·by_cases h3:40 < s.length
   ·simp [h1,h2,h3] at h
   ·by_cases h4:s.all gYq = true
    ·rw [if_neg (by simp [h1]),if_neg (by simp [h2]),if_neg h3,if_pos h4] at h
     exact ⟨h1,h2,by omega,h4,h⟩
    ·rw [if_neg (by simp [h1]),if_neg (by simp [h2]),if_neg h3,if_neg h4] at h
     cases h
  ·rw [if_neg (by simp [h1]),if_pos h2] at h
   cases h
 ·rw [if_pos h1] at h
  cases h
theorem code_good {n:Tr} {s ts:List Ty} {f:Bool} (h:codeF n s = .ok f ts):ts.length <= 40 /\ ts.all gYq = true /\ (f = true -> ts = []):=by
 obtain ⟨_,_,h3,h4,h5⟩:=code_ok h
 exact rowG_good (noTys_step 300) _ _ _ h3 h4 (by simp) h5
theorem good_firsts {n:Tr} (h:goodF n = 0):firstWs 2 n.args0 = 0 /\ n.size <= 300:=by
 obtain ⟨k,m,p,s,args⟩:=n
 unfold goodF at h
 by_cases h1:firstW 1 (.nd k m p s args) = 0
 ·rw [if_neg (by simp [h1])] at h
  by_cases h2:300 < (Tr.nd k m p s args).size
  ·rw [if_pos h2] at h;cases h
  ·refine ⟨?_,by omega⟩
   rw [firstW,if_neg (by omega)] at h1
   by_cases h3:Lf.wrongF k m p s args.length = 0
   ·rw [if_neg (by simp [h3])] at h1;exact h1
   ·rw [if_pos h3] at h1;exact absurd h1 h3
 ·rw [if_pos h1] at h;exact absurd h h1
end Go.Proofs.YtkglnoimbekhhaaGreat
