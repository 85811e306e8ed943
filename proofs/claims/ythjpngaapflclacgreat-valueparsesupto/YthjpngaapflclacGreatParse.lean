import Derived.Test.YthjpngaapflclacGreatNumber
namespace Go.Proofs.YthjpngaapflclacGreat
set_option maxRecDepth 20000
set_option linter.unusedVariables false
def pSeq (f : Nat -> List UInt8 -> Except Int (Tr × Nat × List UInt8)) : Nat -> Nat -> List UInt8 -> Except Int (List Tr × Nat × List UInt8)
 | 0, n, l => .ok ([], n, l)
 | k + 1, n, l => match f n l with
  | .error e => .error e
  | .ok (t, n', l') => match pSeq f k n' l' with
   | .error e => .error e
   | .ok (ts, n'', l'') => .ok (t :: ts, n'', l'')
def pArgs (f : Nat -> List UInt8 -> Except Int (Tr × Nat × List UInt8)) (n : Nat) (l : List UInt8) : Except Int (List Tr × Nat × List UInt8) :=
 match pCount l with
 | none => .error 1
 | some (c, l') => pSeq f c n l'
def pNode : Nat -> Nat -> List UInt8 -> Except Int (Tr × Nat × List UInt8)
 | 0, _, _ => .error 4
 | d + 1, n, l => if n = 300 then .error 4 else match l with
  | [] => .error 1
  | b :: l =>
   if b.toNat = 0 then match pNum l with
    | none => .error 1
    | some (m, l') => .ok (.nd 0 m 0 (bs []) [], n + 1, l')
   else if b.toNat = 1 then match pText l with
    | none => .error 1
    | some (s, l') => .ok (.nd 1 0 0 (bs s) [], n + 1, l')
   else if b.toNat = 2 then match l with
    | [] => .error 1
    | p :: l => if Lf.isPrimB p.toNat = false then .error 1 else match pArgs (fun n l => pNode d n l) (n + 1) l with
     | .error e => .error e
     | .ok (ts, n', l') => .ok (.nd 2 0 p.toNat (bs []) ts, n', l')
   else if b.toNat = 3 then match pArgs (fun n l => pNode d n l) (n + 1) l with
    | .error e => .error e
    | .ok (ts, n', l') => .ok (.nd 3 0 0 (bs []) ts, n', l')
   else .error 1
theorem bs_data (l : List UInt8) : (bs l).data.toList = l := by simp [bs]
theorem pCount_sound {l l' : List UInt8} {c : Nat} (h : pCount l = some (c, l')) : c <= 1152921504606846976 /\ l = encN c ++ l' := by
 unfold pCount at h
 cases hq : pNum l with
 | none => rw [hq] at h; simp at h
 | some r =>
  obtain ⟨x, l1⟩ := r
  obtain ⟨h1, h2⟩ := pNum_sound hq
  rw [hq] at h
  simp only at h
  by_cases hx : x < 0
  ·rw [if_pos hx] at h; simp at h
  ·rw [if_neg hx] at h
   simp only [Option.some.injEq, Prod.mk.injEq] at h
   obtain ⟨rfl, rfl⟩ := h
   rw [Int.toNat_of_nonneg (by omega)]
   exact ⟨by omega, h2⟩
theorem pText_sound {l s l' : List UInt8} (h : pText l = some (s, l')) : s.length <= 200 /\ l = encN s.length ++ s ++ l' := by
 unfold pText at h
 cases hq : pCount l with
 | none => rw [hq] at h; simp at h
 | some r =>
  obtain ⟨m, l1⟩ := r
  obtain ⟨h1, h2⟩ := pCount_sound hq
  rw [hq] at h
  simp only at h
  by_cases hc : 200 < m \/ l1.length < m
  ·rw [if_pos hc] at h; simp at h
  rw [if_neg hc] at h
  simp only [Option.some.injEq, Prod.mk.injEq] at h
  obtain ⟨rfl, rfl⟩ := h
  have hl : (l1.take m).length = m := by rw [List.length_take]; omega
  rw [hl]
  exact ⟨by omega, by rw [List.append_assoc, List.take_append_drop]; exact h2⟩
def Sound (d : Nat) (n : Nat) (l : List UInt8) (t : Tr) (n' : Nat) (l' : List UInt8) : Prop := l = encTr t ++ l' /\ n' = n + t.size /\ n' <= 300 /\ firstW (25 - d) t = 0
theorem pSeq_sound {d : Nat} {f : Nat -> List UInt8 -> Except Int (Tr × Nat × List UInt8)} (hf : ∀ n l t n' l', n <= 300 -> f n l = .ok (t, n', l') -> Sound d n l t n' l') :
 ∀ (k n : Nat) (l : List UInt8) (ts : List Tr) (n' : Nat) (l' : List UInt8), n <= 300 -> pSeq f k n l = .ok (ts, n', l') -> l = encTrs ts ++ l' /\ n' = n + sizes ts /\ n' <= 300 /\ firstWs (25 - d) ts = 0 /\ ts.length = k := by
 intro k
 induction k with
 | zero =>
  intro n l ts n' l' hn h
  simp only [pSeq, Except.ok.injEq, Prod.mk.injEq] at h
  obtain ⟨rfl, rfl, rfl⟩ := h
  exact ⟨by simp [encTrs], by simp [sizes], hn, by simp [firstWs], rfl⟩
 | succ k ih =>
  intro n l ts n' l' hn h
  rw [pSeq] at h
  cases h1 : f n l with
  | error e => rw [h1] at h; simp at h
  | ok r =>
   obtain ⟨t, n1, l1⟩ := r
   rw [h1] at h
   simp only at h
   cases h2 : pSeq f k n1 l1 with
   | error e => rw [h2] at h; simp at h
   | ok r =>
    obtain ⟨ts1, n2, l2⟩ := r
    rw [h2] at h
    simp only [Except.ok.injEq, Prod.mk.injEq] at h
    obtain ⟨rfl, rfl, rfl⟩ := h
    obtain ⟨a1, a2, a3, a4⟩ := hf n l t n1 l1 hn h1
    obtain ⟨b1, b2, b3, b4, b5⟩ := ih n1 l1 ts1 n2 l2 a3 h2
    refine ⟨by rw [a1, b1, encTrs]; simp, by rw [b2, a2, sizes]; omega, b3, ?_, by simp [b5]⟩
    rw [firstWs, a4]; simpa using b4
theorem wrongF_mk (k n p : Int) (s : ByteArray) (l : Nat) (h1 : Lf.isKindB k = true) (h2 : ¬ (k = 2 /\ Lf.isPrimB p = false)) (h3 : Lf.moreB k n p s l = false) (h4 : -1152921504606846976 <= n /\ n <= 1152921504606846976) (h5 : s.size <= 200) : Lf.wrongF k n p s l = 0 := by
 unfold Lf.wrongF
 rw [if_neg (by simp [h1]), if_neg h2, if_neg (by simp [h3]), if_neg (by omega), if_neg (by omega)]
theorem pArgs_sound {d : Nat} {f : Nat -> List UInt8 -> Except Int (Tr × Nat × List UInt8)} (hf : ∀ n l t n' l', n <= 300 -> f n l = .ok (t, n', l') -> Sound d n l t n' l') {n : Nat} {l : List UInt8} {ts : List Tr} {n' : Nat} {l' : List UInt8} (hn : n <= 300)
 (h : pArgs f n l = .ok (ts, n', l')) : l = encN ts.length ++ encTrs ts ++ l' /\ n' = n + sizes ts /\ n' <= 300 /\ firstWs (25 - d) ts = 0 := by
 unfold pArgs at h
 cases hq : pCount l with
 | none => rw [hq] at h; simp at h
 | some r =>
  obtain ⟨c, l1⟩ := r
  obtain ⟨h1, h2⟩ := pCount_sound hq
  rw [hq] at h
  obtain ⟨b1, b2, b3, b4, b5⟩ := pSeq_sound hf c n l1 ts n' l' hn h
  subst b5
  exact ⟨by rw [h2, b1]; simp, b2, b3, b4⟩
theorem pNode_sound (d : Nat) : d <= 24 -> ∀ (n : Nat) (l : List UInt8) (t : Tr) (n' : Nat) (l' : List UInt8), n <= 300 -> pNode d n l = .ok (t, n', l') -> Sound d n l t n' l' := by
 induction d with
 | zero => intro _ n l t n' l' hn h; simp [pNode] at h
 | succ d ih =>
  intro hd n l t n' l' hn h
  have ih := ih (by omega)
  rw [pNode.eq_def] at h
  simp only at h
  by_cases h300 : n = 300
  ·rw [if_pos h300] at h; simp at h
  rw [if_neg h300] at h
  have hF : ∀ (k m p : Int) (s : ByteArray) (args : List Tr), Lf.wrongF k m p s args.length = 0 -> firstWs (25 - d) args = 0 -> firstW (25 - (d + 1)) (.nd k m p s args) = 0 := by
   intro k m p s args hw hs
   rw [firstW, if_neg (by omega), if_neg (by simpa using hw), show 25 - (d + 1) + 1 = 25 - d from by omega]
   exact hs
  cases l with
  | nil => simp at h
  | cons b l =>
   simp only at h
   by_cases h0 : b.toNat = 0
   ·rw [if_pos h0] at h
    cases hq : pNum l with
    | none => rw [hq] at h; simp at h
    | some r =>
     obtain ⟨m, l1⟩ := r
     obtain ⟨a1, a2⟩ := pNum_sound hq
     rw [hq] at h
     simp only [Except.ok.injEq, Prod.mk.injEq] at h
     obtain ⟨rfl, rfl, rfl⟩ := h
     refine ⟨?_, by simp [Tr.size, sizes], by omega, ?_⟩
     ·rw [encTr, if_pos rfl, a2, u8_eq h0]; rfl
     ·exact hF 0 m 0 (bs []) [] (wrongF_mk _ _ _ _ _ (by decide) (by decide) (by rfl) a1 (by rw [bs_size]; simp)) (by simp [firstWs])
   rw [if_neg h0] at h
   by_cases h1 : b.toNat = 1
   ·rw [if_pos h1] at h
    cases hq : pText l with
    | none => rw [hq] at h; simp at h
    | some r =>
     obtain ⟨s, l1⟩ := r
     obtain ⟨a1, a2⟩ := pText_sound hq
     rw [hq] at h
     simp only [Except.ok.injEq, Prod.mk.injEq] at h
     obtain ⟨rfl, rfl, rfl⟩ := h
     refine ⟨?_, by simp [Tr.size, sizes], by omega, ?_⟩
     ·rw [encTr, if_neg (by decide), if_pos rfl, a2, u8_eq h1, bs_size, bs_data]; rfl
     ·exact hF 1 0 0 (bs s) [] (wrongF_mk _ _ _ _ _ (by decide) (by decide) (by rfl) (by omega) (by rw [bs_size]; exact a1)) (by simp [firstWs])
   rw [if_neg h1] at h
   by_cases h2 : b.toNat = 2
   ·rw [if_pos h2] at h
    cases l with
    | nil => simp at h
    | cons p l =>
     simp only at h
     by_cases hp : Lf.isPrimB p.toNat = false
     ·rw [if_pos hp] at h; simp at h
     rw [if_neg hp] at h
     cases hq : pArgs (fun n l => pNode d n l) (n + 1) l with
     | error e => rw [hq] at h; simp at h
     | ok r =>
      obtain ⟨ts, n1, l1⟩ := r
      obtain ⟨a1, a2, a3, a4⟩ := pArgs_sound ih (by omega) hq
      rw [hq] at h
      simp only [Except.ok.injEq, Prod.mk.injEq] at h
      obtain ⟨rfl, rfl, rfl⟩ := h
      refine ⟨?_, by rw [a2, Tr.size]; omega, a3, ?_⟩
      ·rw [encTr, if_neg (by decide), if_neg (by decide), if_pos rfl, a1, u8_eq h2]
       simp only [List.cons_append, Int.toNat_natCast]
       rw [← u8_eq (a := p) rfl]
       rfl
      ·exact hF 2 0 p.toNat (bs []) ts (wrongF_mk _ _ _ _ _ (by decide) (by simpa using hp) (by rfl) (by omega) (by rw [bs_size]; simp)) a4
   rw [if_neg h2] at h
   by_cases h3 : b.toNat = 3
   ·rw [if_pos h3] at h
    cases hq : pArgs (fun n l => pNode d n l) (n + 1) l with
    | error e => rw [hq] at h; simp at h
    | ok r =>
     obtain ⟨ts, n1, l1⟩ := r
     obtain ⟨a1, a2, a3, a4⟩ := pArgs_sound ih (by omega) hq
     rw [hq] at h
     simp only [Except.ok.injEq, Prod.mk.injEq] at h
     obtain ⟨rfl, rfl, rfl⟩ := h
     refine ⟨?_, by rw [a2, Tr.size]; omega, a3, ?_⟩
     ·rw [encTr, if_neg (by decide), if_neg (by decide), if_neg (by decide), a1, u8_eq h3]
      rfl
     ·exact hF 3 0 0 (bs []) ts (wrongF_mk _ _ _ _ _ (by decide) (by decide) (by rfl) (by omega) (by rw [bs_size]; simp)) a4
   ·rw [if_neg h3] at h; simp at h
end Go.Proofs.YthjpngaapflclacGreat
