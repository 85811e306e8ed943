/- Trees read from bytes, in plain data: what is read as a tree has just these bytes; a good tree's bytes are read as it; a beginning of them is no tree. -/
import Derived.Test.YtmmgihaoahhkjaaNumber
namespace Go.Proofs.Ytmmgihaoahhkjaa
set_option maxRecDepth 20000
set_option linter.unusedVariables false

/-- one after the other -/
def pSeq (f : Nat → List UInt8 → Except Int (Tr × Nat × List UInt8)) : Nat → Nat → List UInt8 → Except Int (List Tr × Nat × List UInt8)
  | 0, n, l => .ok ([], n, l)
  | k + 1, n, l => match f n l with
    | .error e => .error e
    | .ok (t, n', l') => match pSeq f k n' l' with
      | .error e => .error e
      | .ok (ts, n'', l'') => .ok (t :: ts, n'', l'')

def pArgs (f : Nat → List UInt8 → Except Int (Tr × Nat × List UInt8)) (n : Nat) (l : List UInt8) : Except Int (List Tr × Nat × List UInt8) :=
  match pCount l with
  | none => .error 1
  | some (c, l') => pSeq f c n l'

/-- a node: so many levels are left, so many nodes have been read -/
def pNode : Nat → Nat → List UInt8 → Except Int (Tr × Nat × List UInt8)
  | 0, _, _ => .error 4
  | d + 1, n, l => if n = 300 then .error 4 else match l with
    | [] => .error 1
    | b :: l =>
      if b.toNat = 0 then match pNum l with
        | none => .error 1
        | some (m, l') => .ok (.nd 0 m 0 (bs []) [], n + 1, l')
      else if b.toNat = 1 then match pText l with
        | none => .error 1
        | some (s, l') => .ok (.nd 1 0 0 (bs s) [], n + 1, l')
      else if b.toNat = 2 then match l with
        | [] => .error 1
        | p :: l => if Lf.isPrimB p.toNat = false then .error 1 else match pArgs (fun n l => pNode d n l) (n + 1) l with
          | .error e => .error e
          | .ok (ts, n', l') => .ok (.nd 2 0 p.toNat (bs []) ts, n', l')
      else if b.toNat = 3 then match pArgs (fun n l => pNode d n l) (n + 1) l with
          | .error e => .error e
          | .ok (ts, n', l') => .ok (.nd 3 0 0 (bs []) ts, n', l')
      else .error 1

theorem bs_data (l : List UInt8) : (bs l).data.toList = l := by simp [bs]

theorem pCount_sound {l l' : List UInt8} {c : Nat} (h : pCount l = some (c, l')) : c ≤ 1152921504606846976 ∧ l = encN c ++ l' := by
  unfold pCount at h
  cases hq : pNum l with
  | none => rw [hq] at h; simp at h
  | some r =>
    obtain ⟨x, l1⟩ := r
    obtain ⟨h1, h2⟩ := pNum_sound hq
    rw [hq] at h
    simp only at h
    by_cases hx : x < 0
    · rw [if_pos hx] at h; simp at h
    · rw [if_neg hx] at h
      simp only [Option.some.injEq, Prod.mk.injEq] at h
      obtain ⟨rfl, rfl⟩ := h
      rw [Int.toNat_of_nonneg (by omega)]
      exact ⟨by omega, h2⟩

theorem pCount_complete (c : Nat) (l' : List UInt8) (h : c ≤ 1152921504606846976) : pCount (encN c ++ l') = some (c, l') := by
  unfold pCount
  rw [pNum_complete c l' ⟨by omega, by omega⟩]
  simp only
  rw [if_neg (by omega)]
  rfl

theorem pCount_cut {c : Nat} {a b : List UInt8} (h : c ≤ 1152921504606846976) (he : encN c = a ++ b) (hb : b ≠ []) : pCount a = none := by
  unfold pCount
  rw [pNum_cut ⟨by omega, by omega⟩ he hb]

theorem pText_sound {l s l' : List UInt8} (h : pText l = some (s, l')) : s.length ≤ 200 ∧ l = encN s.length ++ s ++ l' := by
  unfold pText at h
  cases hq : pCount l with
  | none => rw [hq] at h; simp at h
  | some r =>
    obtain ⟨m, l1⟩ := r
    obtain ⟨h1, h2⟩ := pCount_sound hq
    rw [hq] at h
    simp only at h
    by_cases hc : 200 < m ∨ l1.length < m
    · rw [if_pos hc] at h; simp at h
    rw [if_neg hc] at h
    simp only [Option.some.injEq, Prod.mk.injEq] at h
    obtain ⟨rfl, rfl⟩ := h
    have hl : (l1.take m).length = m := by rw [List.length_take]; omega
    rw [hl]
    exact ⟨by omega, by rw [List.append_assoc, List.take_append_drop]; exact h2⟩

theorem pText_complete (s l' : List UInt8) (h : s.length ≤ 200) : pText (encN s.length ++ s ++ l') = some (s, l') := by
  unfold pText
  rw [List.append_assoc, pCount_complete s.length _ (by omega)]
  simp only
  rw [if_neg (by simp; omega)]
  simp

theorem append_cut {α : Type} {x y a b : List α} (h : x ++ y = a ++ b) (hb : b ≠ []) : (∃ z, x = a ++ z ∧ z ≠ []) ∨ (∃ c, a = x ++ c ∧ y = c ++ b) := by
  rcases List.append_eq_append_iff.1 h with ⟨c, h1, h2⟩ | ⟨c, h1, h2⟩
  · exact .inr ⟨c, h1, h2⟩
  · by_cases hc : c = []
    · subst hc
      exact .inr ⟨[], by simpa using h1.symm, by simpa using h2.symm⟩
    · exact .inl ⟨c, h1, hc⟩

theorem pText_cut {s a b : List UInt8} (h : s.length ≤ 200) (he : encN s.length ++ s = a ++ b) (hb : b ≠ []) : pText a = none := by
  unfold pText
  rcases append_cut he hb with ⟨z, hz, hz0⟩ | ⟨c, h1, h2⟩
  · rw [pCount_cut (by omega) hz hz0]
  · rw [h1, pCount_complete s.length _ (by omega)]
    simp only
    have : c.length < s.length := by
      rw [h2, List.length_append]
      have := List.length_pos_iff.2 hb
      omega
    rw [if_pos (by omega)]

/-- what is read as a tree -/
def Sound (d : Nat) (n : Nat) (l : List UInt8) (t : Tr) (n' : Nat) (l' : List UInt8) : Prop := l = encTr t ++ l' ∧ n' = n + t.size ∧ n' ≤ 300 ∧ firstW (25 - d) t = 0

theorem pSeq_sound {d : Nat} {f : Nat → List UInt8 → Except Int (Tr × Nat × List UInt8)} (hf : ∀ n l t n' l', n ≤ 300 → f n l = .ok (t, n', l') → Sound d n l t n' l') :
    ∀ (k n : Nat) (l : List UInt8) (ts : List Tr) (n' : Nat) (l' : List UInt8), n ≤ 300 → pSeq f k n l = .ok (ts, n', l') → l = encTrs ts ++ l' ∧ n' = n + sizes ts ∧ n' ≤ 300 ∧ firstWs (25 - d) ts = 0 ∧ ts.length = k := by
  intro k
  induction k with
  | zero =>
    intro n l ts n' l' hn h
    simp only [pSeq, Except.ok.injEq, Prod.mk.injEq] at h
    obtain ⟨rfl, rfl, rfl⟩ := h
    exact ⟨by simp [encTrs], by simp [sizes], hn, by simp [firstWs], rfl⟩
  | succ k ih =>
    intro n l ts n' l' hn h
    rw [pSeq] at h
    cases h1 : f n l with
    | error e => rw [h1] at h; simp at h
    | ok r =>
      obtain ⟨t, n1, l1⟩ := r
      rw [h1] at h
      simp only at h
      cases h2 : pSeq f k n1 l1 with
      | error e => rw [h2] at h; simp at h
      | ok r =>
        obtain ⟨ts1, n2, l2⟩ := r
        rw [h2] at h
        simp only [Except.ok.injEq, Prod.mk.injEq] at h
        obtain ⟨rfl, rfl, rfl⟩ := h
        obtain ⟨a1, a2, a3, a4⟩ := hf n l t n1 l1 hn h1
        obtain ⟨b1, b2, b3, b4, b5⟩ := ih n1 l1 ts1 n2 l2 a3 h2
        refine ⟨by rw [a1, b1, encTrs]; simp, by rw [b2, a2, sizes]; omega, b3, ?_, by simp [b5]⟩
        rw [firstWs, a4]; simpa using b4

theorem wrongF_mk (k n p : Int) (s : ByteArray) (l : Nat) (h1 : Lf.isKindB k = true) (h2 : ¬ (k = 2 ∧ Lf.isPrimB p = false)) (h3 : Lf.moreB k n p s l = false) (h4 : -1152921504606846976 ≤ n ∧ n ≤ 1152921504606846976) (h5 : s.size ≤ 200) : Lf.wrongF k n p s l = 0 := by
  unfold Lf.wrongF
  rw [if_neg (by simp [h1]), if_neg h2, if_neg (by simp [h3]), if_neg (by omega), if_neg (by omega)]

theorem pArgs_sound {d : Nat} {f : Nat → List UInt8 → Except Int (Tr × Nat × List UInt8)} (hf : ∀ n l t n' l', n ≤ 300 → f n l = .ok (t, n', l') → Sound d n l t n' l') {n : Nat} {l : List UInt8} {ts : List Tr} {n' : Nat} {l' : List UInt8} (hn : n ≤ 300)
    (h : pArgs f n l = .ok (ts, n', l')) : l = encN ts.length ++ encTrs ts ++ l' ∧ n' = n + sizes ts ∧ n' ≤ 300 ∧ firstWs (25 - d) ts = 0 := by
  unfold pArgs at h
  cases hq : pCount l with
  | none => rw [hq] at h; simp at h
  | some r =>
    obtain ⟨c, l1⟩ := r
    obtain ⟨h1, h2⟩ := pCount_sound hq
    rw [hq] at h
    obtain ⟨b1, b2, b3, b4, b5⟩ := pSeq_sound hf c n l1 ts n' l' hn h
    subst b5
    exact ⟨by rw [h2, b1]; simp, b2, b3, b4⟩

theorem pNode_sound (d : Nat) : d ≤ 24 → ∀ (n : Nat) (l : List UInt8) (t : Tr) (n' : Nat) (l' : List UInt8), n ≤ 300 → pNode d n l = .ok (t, n', l') → Sound d n l t n' l' := by
  induction d with
  | zero => intro _ n l t n' l' hn h; simp [pNode] at h
  | succ d ih =>
    intro hd n l t n' l' hn h
    have ih := ih (by omega)
    rw [pNode.eq_def] at h
    simp only at h
    by_cases h300 : n = 300
    · rw [if_pos h300] at h; simp at h
    rw [if_neg h300] at h
    have hF : ∀ (k m p : Int) (s : ByteArray) (args : List Tr), Lf.wrongF k m p s args.length = 0 → firstWs (25 - d) args = 0 → firstW (25 - (d + 1)) (.nd k m p s args) = 0 := by
      intro k m p s args hw hs
      rw [firstW, if_neg (by omega), if_neg (by simpa using hw), show 25 - (d + 1) + 1 = 25 - d from by omega]
      exact hs
    cases l with
    | nil => simp at h
    | cons b l =>
      simp only at h
      by_cases h0 : b.toNat = 0
      · rw [if_pos h0] at h
        cases hq : pNum l with
        | none => rw [hq] at h; simp at h
        | some r =>
          obtain ⟨m, l1⟩ := r
          obtain ⟨a1, a2⟩ := pNum_sound hq
          rw [hq] at h
          simp only [Except.ok.injEq, Prod.mk.injEq] at h
          obtain ⟨rfl, rfl, rfl⟩ := h
          refine ⟨?_, by simp [Tr.size, sizes], by omega, ?_⟩
          · rw [encTr, if_pos rfl, a2, u8_eq h0]; rfl
          · exact hF 0 m 0 (bs []) [] (wrongF_mk _ _ _ _ _ (by decide) (by decide) (by rfl) a1 (by rw [bs_size]; simp)) (by simp [firstWs])
      rw [if_neg h0] at h
      by_cases h1 : b.toNat = 1
      · rw [if_pos h1] at h
        cases hq : pText l with
        | none => rw [hq] at h; simp at h
        | some r =>
          obtain ⟨s, l1⟩ := r
          obtain ⟨a1, a2⟩ := pText_sound hq
          rw [hq] at h
          simp only [Except.ok.injEq, Prod.mk.injEq] at h
          obtain ⟨rfl, rfl, rfl⟩ := h
          refine ⟨?_, by simp [Tr.size, sizes], by omega, ?_⟩
          · rw [encTr, if_neg (by decide), if_pos rfl, a2, u8_eq h1, bs_size, bs_data]; rfl
          · exact hF 1 0 0 (bs s) [] (wrongF_mk _ _ _ _ _ (by decide) (by decide) (by rfl) (by omega) (by rw [bs_size]; exact a1)) (by simp [firstWs])
      rw [if_neg h1] at h
      by_cases h2 : b.toNat = 2
      · rw [if_pos h2] at h
        cases l with
        | nil => simp at h
        | cons p l =>
          simp only at h
          by_cases hp : Lf.isPrimB p.toNat = false
          · rw [if_pos hp] at h; simp at h
          rw [if_neg hp] at h
          cases hq : pArgs (fun n l => pNode d n l) (n + 1) l with
          | error e => rw [hq] at h; simp at h
          | ok r =>
            obtain ⟨ts, n1, l1⟩ := r
            obtain ⟨a1, a2, a3, a4⟩ := pArgs_sound ih (by omega) hq
            rw [hq] at h
            simp only [Except.ok.injEq, Prod.mk.injEq] at h
            obtain ⟨rfl, rfl, rfl⟩ := h
            refine ⟨?_, by rw [a2, Tr.size]; omega, a3, ?_⟩
            · rw [encTr, if_neg (by decide), if_neg (by decide), if_pos rfl, a1, u8_eq h2]
              simp only [List.cons_append, Int.toNat_natCast]
              rw [← u8_eq (a := p) rfl]
              rfl
            · exact hF 2 0 p.toNat (bs []) ts (wrongF_mk _ _ _ _ _ (by decide) (by simpa using hp) (by rfl) (by omega) (by rw [bs_size]; simp)) a4
      rw [if_neg h2] at h
      by_cases h3 : b.toNat = 3
      · rw [if_pos h3] at h
        cases hq : pArgs (fun n l => pNode d n l) (n + 1) l with
        | error e => rw [hq] at h; simp at h
        | ok r =>
          obtain ⟨ts, n1, l1⟩ := r
          obtain ⟨a1, a2, a3, a4⟩ := pArgs_sound ih (by omega) hq
          rw [hq] at h
          simp only [Except.ok.injEq, Prod.mk.injEq] at h
          obtain ⟨rfl, rfl, rfl⟩ := h
          refine ⟨?_, by rw [a2, Tr.size]; omega, a3, ?_⟩
          · rw [encTr, if_neg (by decide), if_neg (by decide), if_neg (by decide), a1, u8_eq h3]
            rfl
          · exact hF 3 0 0 (bs []) ts (wrongF_mk _ _ _ _ _ (by decide) (by decide) (by rfl) (by omega) (by rw [bs_size]; simp)) a4
      · rw [if_neg h3] at h; simp at h

theorem bs_of (s : ByteArray) : bs s.data.toList = s := by
  apply ByteArray.ext; simp [bs]

theorem bs_nil {s : ByteArray} (h : s.size = 0) : s = bs [] := by
  rw [← bs_of s, List.eq_nil_of_length_eq_zero (l := s.data.toList) (by simpa using h)]

/-- a good node, kind by kind -/
theorem good_cases {k m p : Int} {s : ByteArray} {args : List Tr} (h : Lf.wrongF k m p s args.length = 0) :
    (-1152921504606846976 ≤ m ∧ m ≤ 1152921504606846976) ∧ s.size ≤ 200 ∧
    ((k = 0 ∧ p = 0 ∧ s = bs [] ∧ args = []) ∨ (k = 1 ∧ m = 0 ∧ p = 0 ∧ args = []) ∨ (k = 2 ∧ m = 0 ∧ s = bs [] ∧ Lf.isPrimB p = true) ∨ (k = 3 ∧ m = 0 ∧ p = 0 ∧ s = bs [])) := by
  obtain ⟨hk, hp, hm, hN, hs⟩ := wrong_zero h
  refine ⟨hN, hs, ?_⟩
  unfold Lf.moreB at hm
  rcases (show k = 0 ∨ k = 1 ∨ k = 2 ∨ k = 3 from by omega) with rfl | rfl | rfl | rfl
  · simp at hm
    exact .inl ⟨rfl, hm.1, bs_nil (by rw [hm.2.1]; rfl), hm.2.2⟩
  · simp at hm
    exact .inr (.inl ⟨rfl, hm.1, hm.2.1, hm.2.2⟩)
  · simp at hm
    exact .inr (.inr (.inl ⟨rfl, hm.1, bs_nil (by rw [hm.2]; rfl), hp rfl⟩))
  · simp at hm
    exact .inr (.inr (.inr ⟨rfl, hm.1, hm.2.1, bs_nil (by rw [hm.2.2]; rfl)⟩))

theorem firstWs_cons {d : Nat} {t : Tr} {ts : List Tr} (h : firstWs d (t :: ts) = 0) : firstW d t = 0 ∧ firstWs d ts = 0 := by
  have h1 := firstWs_zero h t (by simp)
  rw [firstWs, if_neg (by simpa using h1)] at h
  exact ⟨h1, h⟩

theorem pSeq_complete {e : Nat} {f : Nat → List UInt8 → Except Int (Tr × Nat × List UInt8)} (hf : ∀ t n l', firstW e t = 0 → n + t.size ≤ 300 → f n (encTr t ++ l') = .ok (t, n + t.size, l')) :
    ∀ (ts : List Tr) (n : Nat) (l' : List UInt8), firstWs e ts = 0 → n + sizes ts ≤ 300 → pSeq f ts.length n (encTrs ts ++ l') = .ok (ts, n + sizes ts, l') := by
  intro ts
  induction ts with
  | nil => intro n l' _ _; simp [pSeq, encTrs, sizes]
  | cons t ts ih =>
    intro n l' h hn
    obtain ⟨h1, h2⟩ := firstWs_cons h
    rw [sizes] at hn
    rw [List.length_cons, pSeq, encTrs, List.append_assoc, hf t n _ h1 (by omega)]
    simp only
    rw [ih (n + t.size) l' h2 (by omega)]
    simp only [sizes, Nat.add_assoc]

theorem pArgs_complete {e : Nat} {f : Nat → List UInt8 → Except Int (Tr × Nat × List UInt8)} (hf : ∀ t n l', firstW e t = 0 → n + t.size ≤ 300 → f n (encTr t ++ l') = .ok (t, n + t.size, l'))
    (ts : List Tr) (n : Nat) (l' : List UInt8) (h : firstWs e ts = 0) (hn : n + sizes ts ≤ 300) : pArgs f n (encN ts.length ++ encTrs ts ++ l') = .ok (ts, n + sizes ts, l') := by
  have := length_le_sizes ts
  unfold pArgs
  rw [List.append_assoc, pCount_complete ts.length _ (by omega)]
  exact pSeq_complete hf ts n l' h hn

theorem pSeq_cut {e : Nat} {f : Nat → List UInt8 → Except Int (Tr × Nat × List UInt8)} (hf : ∀ t n l', firstW e t = 0 → n + t.size ≤ 300 → f n (encTr t ++ l') = .ok (t, n + t.size, l'))
    (hc : ∀ t n a b, firstW e t = 0 → n + t.size ≤ 300 → encTr t = a ++ b → b ≠ [] → f n a = .error 1) :
    ∀ (ts : List Tr) (n : Nat) (a b : List UInt8), firstWs e ts = 0 → n + sizes ts ≤ 300 → encTrs ts = a ++ b → b ≠ [] → pSeq f ts.length n a = .error 1 := by
  intro ts
  induction ts with
  | nil => intro n a b _ _ he hb; simp [encTrs] at he; exact absurd he.2 hb
  | cons t ts ih =>
    intro n a b h hn he hb
    obtain ⟨h1, h2⟩ := firstWs_cons h
    rw [sizes] at hn
    rw [encTrs] at he
    rw [List.length_cons, pSeq]
    rcases append_cut he hb with ⟨z, hz, hz0⟩ | ⟨c, e1, e2⟩
    · rw [hc t n a z h1 (by omega) hz hz0]
    · rw [e1, hf t n c h1 (by omega)]
      simp only
      rw [ih (n + t.size) c b h2 (by omega) e2 hb]

theorem pArgs_cut {e : Nat} {f : Nat → List UInt8 → Except Int (Tr × Nat × List UInt8)} (hf : ∀ t n l', firstW e t = 0 → n + t.size ≤ 300 → f n (encTr t ++ l') = .ok (t, n + t.size, l'))
    (hc : ∀ t n a b, firstW e t = 0 → n + t.size ≤ 300 → encTr t = a ++ b → b ≠ [] → f n a = .error 1)
    (ts : List Tr) (n : Nat) (a b : List UInt8) (h : firstWs e ts = 0) (hn : n + sizes ts ≤ 300) (he : encN ts.length ++ encTrs ts = a ++ b) (hb : b ≠ []) : pArgs f n a = .error 1 := by
  have := length_le_sizes ts
  unfold pArgs
  rcases append_cut he hb with ⟨z, hz, hz0⟩ | ⟨c, e1, e2⟩
  · rw [pCount_cut (by omega) hz hz0]
  · rw [e1, pCount_complete ts.length _ (by omega)]
    exact pSeq_cut hf hc ts n c b h hn e2 hb

theorem prim_u8 {p : Int} (h : Lf.isPrimB p = true) : ((p.toNat.toUInt8).toNat : Int) = p := by
  obtain ⟨h1, h2⟩ := prim_range h
  rw [toU8 _ (by omega)]; omega

theorem pNode_complete (d : Nat) : d ≤ 24 → ∀ (t : Tr) (n : Nat) (l' : List UInt8), firstW (25 - d) t = 0 → n + t.size ≤ 300 → pNode d n (encTr t ++ l') = .ok (t, n + t.size, l') := by
  induction d with
  | zero => intro _ t n l' h; cases t; exact absurd (firstW_zero h).1 (by omega)
  | succ d ih =>
    intro hd t n l' h hn
    have ih := ih (by omega)
    cases t with
    | nd k m p s args =>
      obtain ⟨_, hw, hs⟩ := firstW_zero h
      rw [show 25 - (d + 1) + 1 = 25 - d from by omega] at hs
      rw [Tr.size] at hn ⊢
      obtain ⟨hm, hsz, hk⟩ := good_cases hw
      rw [pNode.eq_def]
      simp only
      rw [if_neg (by omega), encTr]
      rcases hk with ⟨rfl, rfl, rfl, rfl⟩ | ⟨rfl, rfl, rfl, rfl⟩ | ⟨rfl, rfl, rfl, hp⟩ | ⟨rfl, rfl, rfl, rfl⟩
      · rw [if_pos rfl]
        simp only [List.cons_append]
        rw [if_pos (by decide), pNum_complete m l' hm]
        simp [sizes]
      · rw [if_neg (by decide), if_pos rfl]
        simp only [List.cons_append]
        rw [if_neg (by decide), if_pos (by decide)]
        have hz : s.data.toList.length = s.size := by simp
        have := pText_complete s.data.toList l' (by omega)
        rw [hz] at this
        rw [this]
        simp only [bs_of]
        simp [sizes]
      · rw [if_neg (by decide), if_neg (by decide), if_pos rfl]
        simp only [List.cons_append]
        rw [if_neg (by decide), if_neg (by decide), if_pos (by decide)]
        rw [prim_u8 hp, if_neg (by simp [hp]), pArgs_complete ih args (n + 1) l' hs (by omega)]
        simp only [Except.ok.injEq, Prod.mk.injEq, and_true, true_and]; omega
      · rw [if_neg (by decide), if_neg (by decide), if_neg (by decide)]
        simp only [List.cons_append]
        rw [if_neg (by decide), if_neg (by decide), if_neg (by decide), if_pos (by decide), pArgs_complete ih args (n + 1) l' hs (by omega)]
        simp only [Except.ok.injEq, Prod.mk.injEq, and_true, true_and]; omega

theorem pNode_cut (d : Nat) : d ≤ 24 → ∀ (t : Tr) (n : Nat) (a b : List UInt8), firstW (25 - d) t = 0 → n + t.size ≤ 300 → encTr t = a ++ b → b ≠ [] → pNode d n a = .error 1 := by
  induction d with
  | zero => intro _ t n a b h; cases t; exact absurd (firstW_zero h).1 (by omega)
  | succ d ih =>
    intro hd t n a b h hn he hb
    have ih := ih (by omega)
    have hcp := pNode_complete d (by omega)
    cases t with
    | nd k m p s args =>
      obtain ⟨_, hw, hs⟩ := firstW_zero h
      rw [show 25 - (d + 1) + 1 = 25 - d from by omega] at hs
      rw [Tr.size] at hn
      obtain ⟨hm, hsz, hk⟩ := good_cases hw
      rw [pNode.eq_def]
      simp only
      rw [if_neg (by omega)]
      rw [encTr] at he
      cases a with
      | nil => rfl
      | cons c a =>
        rw [List.cons_append] at he
        injection he with he1 he2
        subst he1
        simp only
        rcases hk with ⟨rfl, rfl, rfl, rfl⟩ | ⟨rfl, rfl, rfl, rfl⟩ | ⟨rfl, rfl, rfl, hp⟩ | ⟨rfl, rfl, rfl, rfl⟩
        · rw [if_pos rfl] at he2
          rw [if_pos (by decide), pNum_cut hm he2 hb]
        · rw [if_neg (by decide), if_pos rfl] at he2
          rw [if_neg (by decide), if_pos (by decide)]
          have hz : s.data.toList.length = s.size := by simp
          rw [← hz] at he2
          rw [pText_cut (by omega) he2 hb]
        · rw [if_neg (by decide), if_neg (by decide), if_pos rfl] at he2
          rw [if_neg (by decide), if_neg (by decide), if_pos (by decide)]
          cases a with
          | nil => rfl
          | cons q a =>
            rw [List.cons_append] at he2
            injection he2 with he3 he4
            subst he3
            simp only
            rw [prim_u8 hp, if_neg (by simp [hp]), pArgs_cut hcp ih args (n + 1) a b hs (by omega) he4 hb]
        · rw [if_neg (by decide), if_neg (by decide), if_neg (by decide)] at he2
          rw [if_neg (by decide), if_neg (by decide), if_neg (by decide), if_pos (by decide), pArgs_cut hcp ih args (n + 1) a b hs (by omega) he2 hb]

end Go.Proofs.Ytmmgihaoahhkjaa
