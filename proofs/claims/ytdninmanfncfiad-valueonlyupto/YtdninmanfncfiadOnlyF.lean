/- A good tree that is read as a value is that value's tree: plain data. -/
import Derived.Test.YtdninmanfncfiadTellG
namespace Go.Proofs.Ytdninmanfncfiad
set_option linter.unusedVariables false

theorem wr_parts {k n p : Int} {s : ByteArray} {l : Nat} (h : Lf.wrongF k n p s l = 0) : (0 ≤ k ∧ k ≤ 3) ∧ Lf.moreB k n p s l = false := by
  unfold Lf.wrongF at h
  split at h
  · cases h
  · rename_i hk
    have hk2 : Lf.isKindB k = true := by simpa using hk
    unfold Lf.isKindB at hk2
    simp only [decide_eq_true_eq] at hk2
    refine ⟨hk2, ?_⟩
    split at h
    · cases h
    · split at h
      · cases h
      · rename_i hm; simpa using hm

/-- a leaf of a number -/
theorem more0 {n p : Int} {s : ByteArray} {l : List Tr} (h : Lf.moreB 0 n p s l.length = false) : p = 0 ∧ s = ⟨#[]⟩ ∧ l = [] := by
  simp [Lf.moreB] at h
  exact ⟨h.1, h.2.1.trans rfl, h.2.2⟩
theorem more1 {n p : Int} {s : ByteArray} {l : List Tr} (h : Lf.moreB 1 n p s l.length = false) : n = 0 ∧ p = 0 ∧ l = [] := by
  simp [Lf.moreB] at h
  exact h
theorem more2 {n p : Int} {s : ByteArray} {l : Nat} (h : Lf.moreB 2 n p s l = false) : n = 0 ∧ s = ⟨#[]⟩ := by
  simp [Lf.moreB] at h
  exact ⟨h.1, h.2.trans rfl⟩
theorem more3 {n p : Int} {s : ByteArray} {l : Nat} (h : Lf.moreB 3 n p s l = false) : n = 0 ∧ p = 0 ∧ s = ⟨#[]⟩ := by
  simp [Lf.moreB] at h
  exact ⟨h.1, h.2.1, h.2.2.trans rfl⟩

/-- what has a primitive is of the kind Prim -/
theorem prim_kind {k n p : Int} {s : ByteArray} {l : List Tr} (hk : 0 ≤ k ∧ k ≤ 3) (h : Lf.moreB k n p s l.length = false) (hp : p ≠ 0) : k = 2 ∧ n = 0 ∧ s = ⟨#[]⟩ := by
  rcases (show k = 0 ∨ k = 1 ∨ k = 2 ∨ k = 3 from by omega) with rfl | rfl | rfl | rfl
  · exact absurd (more0 h).1 hp
  · exact absurd (more1 h).2.1 hp
  · exact ⟨rfl, more2 h⟩
  · exact absurd (more3 h).2.1 hp

theorem first_parts {e : Nat} {k n p : Int} {s : ByteArray} {l : List Tr} (h : firstW e (.nd k n p s l) = 0) : (0 ≤ k ∧ k ≤ 3) ∧ Lf.moreB k n p s l.length = false ∧ firstWs (e + 1) l = 0 := by
  rw [firstW] at h
  split at h
  · cases h
  · split at h
    · rename_i h1; exact absurd h h1
    · rename_i h1
      have h2 : Lf.wrongF k n p s l.length = 0 := by simpa using h1
      exact ⟨(wr_parts h2).1, (wr_parts h2).2, h⟩

theorem branch_parts {T : Ty} {p m : Int} {ts : List Ty} (h : branchF T p = some (m, ts)) : (T.t = 1 ∧ p = 20 ∧ m = 0 ∧ ts = []) ∨ (T.t = 2 ∧ p = 22 ∧ m = 0 ∧ ts = []) ∨ (T.t = 2 ∧ p = 21 ∧ m = 1 ∧ ts = []) ∨ (T.t = 9 ∧ p = 27 ∧ m = 0 ∧ ts = []) ∨ (T.t = 9 ∧ p = 26 ∧ m = 0 ∧ ts = T.args) ∨ (T.t = 11 ∧ p = 23 ∧ m = 0 ∧ ts = T.args) ∨ (T.t = 12 ∧ p = 24 ∧ m = 0 ∧ ts = T.args.take 1) ∨ (T.t = 12 ∧ p = 25 ∧ m = 1 ∧ ts = T.args.drop 1) := by
  unfold branchF at h
  repeat' split at h
  all_goals first
    | (simp only [Option.some.injEq, Prod.mk.injEq] at h; obtain ⟨rfl, rfl⟩ := h; rename_i q; simp [q])
    | cases h

theorem readTs_nil {l : List Tr} {ys : List Va} (h : readTs l [] = some ys) : l = [] ∧ ys = [] := by
  cases l with
  | nil => simp [readTs] at h; exact ⟨rfl, h⟩
  | cons t l => simp [readTs] at h

theorem readTs_length : ∀ (l : List Tr) (ts : List Ty) (ys : List Va), readTs l ts = some ys → ys.length = ts.length
  | [], [], ys => by intro h; simp [readTs] at h; subst h; rfl
  | [], _ :: _, ys => by intro h; simp [readTs] at h
  | _ :: _, [], ys => by intro h; simp [readTs] at h
  | t :: l, T :: ts, ys => by
    intro h
    rw [readTs] at h
    cases hx : readT t T with
    | none => rw [hx] at h; cases h
    | some x =>
      rw [hx] at h
      simp only [Option.map_eq_some_iff] at h
      obtain ⟨zs, h1, rfl⟩ := h
      simp [readTs_length l ts zs h1]

theorem leaf_data (t m : Int) (s : ByteArray) (ys : List Va) : dataT (leafVa t m s ys) = writtenF (leafVa t m s ys) (dataTs ys) := by rw [dataT_eq]; rfl

mutual
theorem read_only : ∀ (t : Tr) (T : Ty) (x : Va) (e d : Nat), readT t T = some x → formedB d T = true → firstW e t = 0 → dataT x = t
  | .nd k n p s args, T, x, e, d => by
    intro h hf hw
    obtain ⟨hk, hm, hws⟩ := first_parts hw
    obtain ⟨hlen, hfa⟩ := formed_args2 hf
    rw [readT] at h
    split at h
    · rename_i ht
      split at h
      · rename_i hk0
        subst hk0
        obtain ⟨rfl, rfl, rfl⟩ := more0 hm
        simp only [Option.some.injEq] at h
        subst h
        rw [leaf_data]
        rcases ht with q | q | q | q <;> (rw [q]; rfl)
      · cases h
    · split at h
      · rename_i ht
        split at h
        · rename_i hk1
          subst hk1
          obtain ⟨rfl, rfl, rfl⟩ := more1 hm
          simp only [Option.some.injEq] at h
          subst h
          rfl
        · cases h
      · split at h
        · rename_i ht
          split at h
          · rename_i hk3
            subst hk3
            obtain ⟨rfl, rfl, rfl⟩ := more3 hm
            simp only [Option.map_eq_some_iff] at h
            obtain ⟨ys, h1, rfl⟩ := h
            have hl1 : T.args.length = 1 := by rw [ht] at hlen; simp [partsF] at hlen; omega
            have hin : tyAt T.args 0 ∈ T.args := by unfold tyAt; rw [List.getElem?_eq_getElem (by omega)]; exact List.getElem_mem _
            have ih := reads_only args _ ys (e + 1) (d + 1) h1 (fun U hU => by rw [List.eq_of_mem_replicate hU]; exact hfa _ hin) hws
            rw [leaf_data, ih]
            rfl
          · cases h
        · split at h
          · rename_i ht
            split at h
            · rename_i hk3
              subst hk3
              obtain ⟨rfl, rfl, rfl⟩ := more3 hm
              simp only [Option.map_eq_some_iff] at h
              obtain ⟨ys, h1, rfl⟩ := h
              have ih := elts_only args _ ys (e + 1) (d + 1) h1 hfa hws
              rw [leaf_data]
              show Tr.nd 3 0 0 ⟨#[]⟩ ((dataTs ys).map eltT) = _
              rw [ih]
            · cases h
          · split at h
            · cases h
            · rename_i m ts hbr
              simp only [Option.map_eq_some_iff] at h
              obtain ⟨ys, h1, rfl⟩ := h
              have hsub : ∀ U ∈ ts, U ∈ T.args := by
                intro U hU
                rcases branch_parts hbr with ⟨_, _, _, q⟩ | ⟨_, _, _, q⟩ | ⟨_, _, _, q⟩ | ⟨_, _, _, q⟩ | ⟨_, _, _, q⟩ | ⟨_, _, _, q⟩ | ⟨_, _, _, q⟩ | ⟨_, _, _, q⟩ <;> rw [q] at hU
                · simp at hU
                · simp at hU
                · simp at hU
                · simp at hU
                · exact hU
                · exact hU
                · exact List.mem_of_mem_take hU
                · exact List.mem_of_mem_drop hU
              have ih := reads_only args ts ys (e + 1) (d + 1) h1 (fun U hU => hfa U (hsub U hU)) hws
              have hyl := readTs_length _ _ _ h1
              have hdl := dataTs_len ys
              rw [leaf_data]
              rcases branch_parts hbr with ⟨q, rfl, rfl, rfl⟩ | ⟨q, rfl, rfl, rfl⟩ | ⟨q, rfl, rfl, rfl⟩ | ⟨q, rfl, rfl, rfl⟩ | ⟨q, rfl, rfl, rfl⟩ | ⟨q, rfl, rfl, rfl⟩ | ⟨q, rfl, rfl, rfl⟩ | ⟨q, rfl, rfl, rfl⟩
              all_goals
                obtain ⟨rfl, rfl, rfl⟩ := prim_kind hk hm (by omega)
                rw [q]
              · obtain ⟨rfl, rfl⟩ := readTs_nil h1; rfl
              · obtain ⟨rfl, rfl⟩ := readTs_nil h1; rfl
              · obtain ⟨rfl, rfl⟩ := readTs_nil h1; rfl
              · obtain ⟨rfl, rfl⟩ := readTs_nil h1; rfl
              · have hl1 : T.args.length = 1 := by rw [q] at hlen; simp [partsF] at hlen; omega
                show primT (if (dataTs ys).length = 0 then 27 else 26) (dataTs ys) = _
                rw [if_neg (by omega), ih]; rfl
              · show primT 23 (dataTs ys) = _
                rw [ih]; rfl
              · show primT 24 (dataTs ys) = _
                rw [ih]; rfl
              · show primT 25 (dataTs ys) = _
                rw [ih]; rfl
theorem reads_only : ∀ (l : List Tr) (ts : List Ty) (xs : List Va) (e d : Nat), readTs l ts = some xs → (∀ U ∈ ts, formedB d U = true) → firstWs e l = 0 → dataTs xs = l
  | [], [], xs, _, _ => by intro h _ _; simp [readTs] at h; subst h; rfl
  | [], _ :: _, xs, _, _ => by intro h; simp [readTs] at h
  | _ :: _, [], xs, _, _ => by intro h; simp [readTs] at h
  | t :: l, T :: ts, xs, e, d => by
    intro h hf hw
    rw [firstWs] at hw
    have hw1 : firstW e t = 0 := by
      by_cases q : firstW e t = 0
      · exact q
      · rw [if_pos q] at hw; exact hw
    rw [if_neg (by simpa using hw1)] at hw
    rw [readTs] at h
    cases hx : readT t T with
    | none => rw [hx] at h; cases h
    | some x =>
      rw [hx] at h
      simp only [Option.map_eq_some_iff] at h
      obtain ⟨ys, h1, rfl⟩ := h
      rw [dataTs, read_only t T x e d hx (hf T (by simp)) hw1, reads_only l ts ys e d h1 (fun U hU => hf U (by simp [hU])) hw]
theorem elts_only : ∀ (l : List Tr) (us : List Ty) (xs : List Va) (e d : Nat), readEs l us = some xs → (∀ U ∈ us, formedB d U = true) → firstWs e l = 0 → (dataTs xs).map eltT = l
  | [], us, xs, _, _ => by intro h _ _; simp [readEs] at h; subst h; rfl
  | .nd k n p s args :: l, us, xs, e, d => by
    intro h hf hw
    rw [firstWs] at hw
    have hw1 : firstW e (.nd k n p s args) = 0 := by
      by_cases q : firstW e (.nd k n p s args) = 0
      · exact q
      · rw [if_pos q] at hw; exact hw
    rw [if_neg (by simpa using hw1)] at hw
    obtain ⟨hk, hm, hws⟩ := first_parts hw1
    rw [readEs] at h
    cases hx : readTs args us with
    | none => rw [hx] at h; cases h
    | some ys =>
      rw [hx] at h
      simp only at h
      split at h
      · rename_i hp
        subst hp
        obtain ⟨rfl, rfl, rfl⟩ := prim_kind hk hm (by omega)
        simp only [Option.map_eq_some_iff] at h
        obtain ⟨zs, h1, rfl⟩ := h
        have i1 := reads_only args us ys (e + 1) d hx hf hws
        have i2 := elts_only l us zs e d h1 hf hw
        rw [dataTs, List.map_cons, i2, leaf_data]
        show Tr.nd 2 0 28 ⟨#[]⟩ (dataTs ys) :: l = _
        rw [i1]
      · cases h
end

end Go.Proofs.Ytdninmanfncfiad
