/- The trees that the document's own dataNode makes, and the values that its guess makes, as plain data. -/
import Derived.Test.YthjpngaapflclacGreatValA
import Derived.Test.YthjpngaapflclacGreatTellA
import Derived.Test.YthjpngaapflclacGreatBasis
import Derived.Laws.OwnMore
namespace Go.Proofs.YthjpngaapflclacGreat
set_option linter.unusedVariables false

/-- values whose tree the document's own dataNode makes -/
inductive DOk : Va → Prop
  | mk {x : Va} (h1 : x.k = 1 ∨ x.k = 2 → x.args = []) (h2 : x.k = 2 ∨ x.k = 12 → x.n = 0 ∨ x.n = 1) (h9 : x.k = 9 → x.args.length ≤ 1) (hk : 1 ≤ x.k ∧ x.k ≤ 15 ∧ x.k ≠ 8 ∧ x.k ≠ 14 ∧ x.k ≠ 15)
      (hr : ∀ y ∈ x.args, DOk y) : DOk x

theorem has_some {T : Ty} {x : Va} {d : Nat} (hf : formedB d T = true) (hv : hasV x T = true) : x.k = T.t ∧ (T.t = 1 ∨ T.t = 2 → x.args = []) ∧ (T.t = 2 ∨ T.t = 12 → x.n = 0 ∨ x.n = 1) ∧ (T.t = 9 → x.args.length ≤ 1) := by
  obtain ⟨hfi, ts, hts, hh⟩ := hasV_parts hv
  have hk : x.k = T.t := by
    unfold fitsF at hfi
    simp only [Bool.and_eq_true, decide_eq_true_eq] at hfi
    exact hfi.1.1.1.1.1
  obtain ⟨t1, t2⟩ := formed_type hf
  refine ⟨hk, fun h => no_args hf (by omega) hts, fun h => ?_, fun h => ?_⟩
  · unfold fitsF fitsNF at hfi
    rw [if_pos h] at hfi
    simp only [Bool.and_eq_true, decide_eq_true_eq] at hfi
    exact hfi.1.1.1.1.2
  · rw [has_many hf (.inl h) hk.symm] at hv
    simp only [Bool.and_eq_true, Bool.not_eq_true', Bool.and_eq_false_imp, decide_eq_true_eq, decide_eq_false_iff_not] at hv
    have := hv.1.1.2 h
    omega

mutual
theorem dok_pack : ∀ (x : Va) (T : Ty) (d : Nat), hasV x T = true → packT T = true → formedB d T = true → DOk x
  | .mk k n a s args ty co, T, d => by
    intro hx hp hf
    obtain ⟨hk, h1, h2, h9⟩ := has_some hf hx
    obtain ⟨hf1, ts, hts, hh⟩ := hasV_parts hx
    obtain ⟨t1, t2⟩ := formed_type hf
    obtain ⟨hp1, _⟩ := pack_parts hp
    refine .mk (by rw [hk]; exact h1) (by rw [hk]; exact h2) (by rw [hk]; exact h9) (by rw [hk]; omega) ?_
    exact doks_pack args ts hh (ts_ok hx hp hf hts)
theorem doks_pack : ∀ (xs : List Va) (ts : List Ty), hasVs xs ts = true → (∀ U ∈ ts, packT U = true ∧ ∃ d, formedB d U = true) → ∀ y ∈ xs, DOk y
  | [], _ => by intro _ _ y hy; simp at hy
  | x :: xs, [] => by intro h; simp [hasVs] at h
  | x :: xs, T :: ts => by
    intro h hU y hy
    simp only [hasVs, Bool.and_eq_true] at h
    obtain ⟨hp, d, hf⟩ := hU T (by simp)
    rcases List.mem_cons.1 hy with he | hy
    · rw [he]; exact dok_pack x T d h.1 hp hf
    · exact doks_pack xs ts h.2 (fun U hu => hU U (by simp [hu])) y hy
end

/-- the number that guess takes -/
def guessN (T : Ty) (n p : Int) : Int := if T.t = 2 then 22 - p else if T.t = 12 then p - 24 else n

/-- of which type guess takes the i-th of the Args -/
def guessT (T : Ty) (N : Int) (i : Nat) : Option Ty :=
  if T.t = 9 ∨ T.t = 10 then some (tyAt T.args 0) else if T.t = 13 then some (.nd 11 T.args) else if T.t = 11 ∧ i < 2 then some (tyAt T.args i)
  else if T.t = 12 ∧ (N = 0 ∨ N = 1) then some (tyAt T.args N.toNat) else none

mutual
/-- the value that would be told so -/
def guessF : Tr → Ty → Va
  | .nd k n p s args, T => match guessFs args T (guessN T n p) 0 with
    | none => zeroVa
    | some l => .mk T.t (guessN T n p) 0 s l [] []
def guessFs : List Tr → Ty → Int → Nat → Option (List Va)
  | [], _, _, _ => some []
  | t :: l, T, N, i => match guessT T N i with
    | none => none
    | some U => (guessFs l T N (i + 1)).map (guessF t U :: ·)
end

theorem guessF_eq (k n p : Int) (s : ByteArray) (args : List Tr) (T : Ty) : guessF (.nd k n p s args) T = (match guessFs args T (guessN T n p) 0 with
    | none => zeroVa
    | some l => .mk T.t (guessN T n p) 0 s l [] []) := by rw [guessF]

theorem guessFs_none {T : Ty} {N : Int} (h : ∀ i, guessT T N i = none) : ∀ (l : List Tr) (i : Nat), l ≠ [] → guessFs l T N i = none
  | [], _, hn => absurd rfl hn
  | t :: l, i, _ => by rw [guessFs, h i]

theorem guessFs_same {T : Ty} {N : Int} {U : Ty} (h : ∀ i, guessT T N i = some U) : ∀ (l : List Tr) (i : Nat), guessFs l T N i = some (l.map fun t => guessF t U)
  | [], _ => by rw [guessFs]; rfl
  | t :: l, i => by rw [guessFs, h i, guessFs_same h l (i + 1)]; rfl

theorem guessFs_len : ∀ (l : List Tr) (T : Ty) (N : Int) (i : Nat) (xs : List Va), guessFs l T N i = some xs → xs.length = l.length
  | [], _, _, _, xs, h => by rw [guessFs] at h; cases h; rfl
  | t :: l, T, N, i, xs, h => by
    rw [guessFs] at h
    cases hg : guessT T N i with
    | none => rw [hg] at h; cases h
    | some U =>
      rw [hg] at h
      simp only [Option.map_eq_some_iff] at h
      obtain ⟨ys, hy, rfl⟩ := h
      simp [guessFs_len l T N (i + 1) ys hy]

theorem zero_no (T : Ty) (h : 1 ≤ T.t) : hasV zeroVa T = false := has_kind (by simp [zeroVa, Va.k]; omega)

theorem sizes_lt {t : Tr} {l : List Tr} (h : t ∈ l) : t.size ≤ sizes l := by
  induction l with
  | nil => simp at h
  | cons a l ih =>
    simp [sizes]
    rcases List.mem_cons.1 h with rfl | h
    · omega
    · have := ih h; omega

theorem firstWs_mem {d : Nat} : ∀ {l : List Tr}, firstWs d l = 0 → ∀ t ∈ l, firstW d t = 0
  | [], _, t, ht => by simp at ht
  | a :: l, h, t, ht => by
    rw [firstWs] at h
    by_cases h1 : firstW d a = 0
    · rw [if_neg (by simpa using h1)] at h
      rcases List.mem_cons.1 ht with rfl | ht
      · exact h1
      · exact firstWs_mem h t ht
    · rw [if_pos h1] at h; exact absurd h h1

theorem bare_empty {b : ByteArray} (h : b.size = 0) : b = ⟨#[]⟩ := by
  have h2 : b.data = #[] := Array.eq_empty_of_size_eq_zero h
  cases b with
  | mk d => simp at h2; rw [h2]

/-- what is read of a type is guessed -/
theorem guess_of_read : ∀ (m : Nat) (t : Tr) (T : Ty) (x : Va) (e d : Nat), t.size ≤ m → readT t T = some x → formedB d T = true → firstW e t = 0 → guessF t T = x
  | 0, t, _, _, _, _, h => by have := size_pos t; omega
  | m + 1, .nd k n p s args, T, x, e, d, hm => by
    intro hr hf hw
    obtain ⟨hk, hmore, hws⟩ := first_parts hw
    obtain ⟨t1, t2⟩ := formed_type hf
    obtain ⟨hlen, hfa⟩ := formed_args2 hf
    rw [Tr.size] at hm
    have IH : ∀ t ∈ args, ∀ (U : Ty) (y : Va) (d : Nat), readT t U = some y → formedB d U = true → guessF t U = y := fun t ht U y d' hr' hf' => guess_of_read m t U y (e + 1) d' (by have := sizes_lt ht; omega) hr' hf' (firstWs_mem hws t ht)
    have IHs : ∀ (l : List Tr) (ts : List Ty) (ys : List Va), (∀ t ∈ l, t ∈ args) → readTs l ts = some ys → (∀ U ∈ ts, ∃ d, formedB d U = true) → ∀ (N : Int) (i : Nat), (∀ j (h : j < ts.length), guessT T N (i + j) = some ts[j]) → guessFs l T N i = some ys := by
      intro l
      induction l with
      | nil =>
        intro ts ys _ hr _ N i hg
        cases ts with
        | nil => rw [readTs] at hr; cases hr; rw [guessFs]
        | cons U ts => rw [readTs] at hr; cases hr
      | cons t l ih =>
        intro ts ys hsub hr hfs N i hg
        cases ts with
        | nil => rw [readTs] at hr; cases hr
        | cons U ts =>
          rw [readTs] at hr
          cases h1 : readT t U with
          | none => rw [h1] at hr; cases hr
          | some y =>
            rw [h1] at hr
            simp only [Option.map_eq_some_iff] at hr
            obtain ⟨zs, hz, rfl⟩ := hr
            have hg0 := hg 0 (by simp)
            simp only [Nat.add_zero, List.getElem_cons_zero] at hg0
            obtain ⟨d', hd'⟩ := hfs U (by simp)
            rw [guessFs, hg0, ih ts zs (fun t ht => hsub t (by simp [ht])) hz (fun V hV => hfs V (by simp [hV])) N (i + 1) (fun j h => by have := hg (j + 1) (by simpa using h); simpa [Nat.add_assoc, Nat.add_comm, Nat.add_left_comm] using this)]
            simp [IH t (hsub t (by simp)) U y d' h1 hd']
    rw [readT] at hr
    by_cases hN : T.t = 3 ∨ T.t = 4 ∨ T.t = 5 ∨ T.t = 7
    · rw [if_pos hN] at hr
      by_cases h0 : k = 0
      · rw [if_pos h0] at hr
        subst h0
        obtain ⟨rfl, rfl, rfl⟩ := more0 hmore
        cases hr
        rw [guessF_eq, guessFs]
        simp [guessN, leafVa, show ¬ T.t = 2 from by omega, show ¬ T.t = 12 from by omega]
      · rw [if_neg h0] at hr; cases hr
    · rw [if_neg hN] at hr
      by_cases h6 : T.t = 6
      · rw [if_pos h6] at hr
        by_cases h1 : k = 1
        · rw [if_pos h1] at hr
          subst h1
          obtain ⟨rfl, rfl, rfl⟩ := more1 hmore
          cases hr
          rw [guessF_eq, guessFs]
          simp [guessN, leafVa, h6]
        · rw [if_neg h1] at hr; cases hr
      · rw [if_neg h6] at hr
        by_cases h10 : T.t = 10
        · rw [if_pos h10] at hr
          by_cases h3 : k = 3
          · rw [if_pos h3] at hr
            subst h3
            obtain ⟨rfl, rfl, rfl⟩ := more3 hmore
            simp only [Option.map_eq_some_iff] at hr
            obtain ⟨ys, hy, rfl⟩ := hr
            have hl1 : T.args.length = 1 := by rw [h10] at hlen; simp [partsF] at hlen; omega
            have hmem : tyAt T.args 0 ∈ T.args := by rw [tyAt_get (by omega)]; exact List.getElem_mem _
            have hq := IHs args _ ys (fun t h => h) hy (fun U hU => ⟨d + 1, by rw [List.mem_replicate] at hU; rw [hU.2]; exact hfa _ hmem⟩) (guessN T 0 0) 0 (fun j h => by simp [guessT, h10])
            rw [guessF_eq, hq]
            simp [leafVa, guessN, h10]
          · rw [if_neg h3] at hr; cases hr
        · rw [if_neg h10] at hr
          by_cases h13 : T.t = 13
          · rw [if_pos h13] at hr
            by_cases h3 : k = 3
            · rw [if_pos h3] at hr
              subst h3
              obtain ⟨rfl, rfl, rfl⟩ := more3 hmore
              simp only [Option.map_eq_some_iff] at hr
              obtain ⟨ys, hy, rfl⟩ := hr
              have hl2 : T.args.length = 2 := by rw [h13] at hlen; simp [partsF] at hlen; omega
              have hE : ∀ (l : List Tr) (ys : List Va), (∀ t ∈ l, t ∈ args) → readEs l T.args = some ys → ∀ i, guessFs l T (guessN T 0 0) i = some ys := by
                intro l
                induction l with
                | nil => intro ys _ h i; rw [readEs] at h; cases h; rw [guessFs]
                | cons t l ih =>
                  intro ys hsub h i
                  obtain ⟨k', n', p', s', args'⟩ := t
                  rw [readEs] at h
                  cases h1 : readTs args' T.args with
                  | none => rw [h1] at h; cases h
                  | some zs =>
                    rw [h1] at h
                    simp only at h
                    by_cases hp : p' = 28
                    · rw [if_pos hp] at h
                      simp only [Option.map_eq_some_iff] at h
                      obtain ⟨ws, hw2, rfl⟩ := h
                      have hmem : (Tr.nd k' n' p' s' args') ∈ args := hsub _ (by simp)
                      have hfw := firstWs_mem hws _ hmem
                      obtain ⟨hk', hm', _⟩ := first_parts hfw
                      obtain ⟨e1, e2, e3⟩ := prim_kind hk' hm' (by omega)
                      subst e1 e2 e3
                      have hrd : readT (.nd 2 0 23 ⟨#[]⟩ args') (.nd 11 T.args) = some (leafVa 11 0 ⟨#[]⟩ zs) := by
                        generalize T.args = us at h1 ⊢
                        rw [readT]
                        simp [Ty.t, branchF, Ty.args, h1]
                      have hgs : guessF (.nd 2 0 p' ⟨#[]⟩ args') (.nd 11 T.args) = leafVa 11 0 ⟨#[]⟩ zs := by
                        have hfw' : firstW (e + 1) (.nd 2 0 23 ⟨#[]⟩ args') = 0 := by
                          have h0 := hfw
                          rw [firstW] at h0 ⊢
                          by_cases hd : 24 < e + 1
                          · rw [if_pos hd] at h0; cases h0
                          · rw [if_neg hd] at h0 ⊢
                            have hwp : Lf.wrongF 2 0 23 ⟨#[]⟩ args'.length = 0 := wrong_prim 23 (by decide) _
                            have hwq : Lf.wrongF 2 0 p' ⟨#[]⟩ args'.length = 0 := by rw [hp]; exact wrong_prim 28 (by decide) _
                            rw [hwq] at h0
                            rw [hwp]
                            exact h0
                        have hsz : (Tr.nd 2 0 23 ⟨#[]⟩ args').size ≤ m := by
                          have := sizes_lt hmem
                          rw [Tr.size] at this ⊢
                          omega
                        have hdd : ∃ d', formedB d' (.nd 11 T.args) = true := ⟨d, by
                          obtain ⟨t', a'⟩ := T
                          simp only [Ty.t] at h13
                          subst h13
                          simp only [formedB, Bool.and_eq_true, isTypeB, decide_eq_true_eq] at hf ⊢
                          exact ⟨⟨hf.1.1, by omega, by have := hf.1.2.2; simp only [Ty.args]; simpa [partsF] using this⟩, hf.2⟩⟩
                        obtain ⟨d', hdd⟩ := hdd
                        have := guess_of_read m _ _ _ (e + 1) d' hsz hrd hdd hfw'
                        rw [guessF_eq] at this ⊢
                        exact this
                      rw [guessFs, show guessT T (guessN T 0 0) i = some (.nd 11 T.args) from by simp [guessT, h13], ih ws (fun t ht => hsub t (by simp [ht])) hw2 (i + 1)]
                      simp [hgs]
                    · rw [if_neg hp] at h; cases h
              rw [guessF_eq, hE args ys (fun t h => h) hy 0]
              simp [leafVa, guessN, h13]
            · rw [if_neg h3] at hr; cases hr
          · rw [if_neg h13] at hr
            cases hb : branchF T p with
            | none => rw [hb] at hr; cases hr
            | some q =>
              obtain ⟨mm, ts⟩ := q
              rw [hb] at hr
              simp only [Option.map_eq_some_iff] at hr
              obtain ⟨ys, hy, rfl⟩ := hr
              have hbp := branch_parts hb
              have hp0 : p ≠ 0 := by rcases hbp with h | h | h | h | h | h | h | h <;> omega
              obtain ⟨e1, e2, e3⟩ := prim_kind hk hmore hp0
              subst e1 e2 e3
              have hmain : ∀ (N : Int), guessN T 0 p = N → N = mm → (∀ U ∈ ts, U ∈ T.args) → (∀ j (h : j < ts.length), guessT T N (0 + j) = some ts[j]) → guessF (.nd 2 0 p ⟨#[]⟩ args) T = leafVa T.t mm ⟨#[]⟩ ys := by
                intro N hN1 hN2 hsub hgt
                have hq := IHs args ts ys (fun t h => h) hy (fun U hU => ⟨d + 1, hfa U (hsub U hU)⟩) N 0 hgt
                rw [guessF_eq, hN1, hq, hN2]
                rfl
              rcases hbp with ⟨h1, hp, hm0, hts⟩ | ⟨h1, hp, hm0, hts⟩ | ⟨h1, hp, hm0, hts⟩ | ⟨h1, hp, hm0, hts⟩ | ⟨h1, hp, hm0, hts⟩ | ⟨h1, hp, hm0, hts⟩ | ⟨h1, hp, hm0, hts⟩ | ⟨h1, hp, hm0, hts⟩
              · exact hmain _ rfl (by simp [guessN, h1, hm0]) (by simp [hts]) (by simp [hts])
              · exact hmain _ rfl (by simp [guessN, h1, hm0, hp]) (by simp [hts]) (by simp [hts])
              · exact hmain _ rfl (by simp [guessN, h1, hm0, hp]) (by simp [hts]) (by simp [hts])
              · exact hmain _ rfl (by simp [guessN, h1, hm0]) (by simp [hts]) (by simp [hts])
              · have hl1 : T.args.length = 1 := by rw [h1] at hlen; simp [partsF] at hlen; omega
                refine hmain _ rfl (by simp [guessN, h1, hm0]) (by simp [hts]) (fun j h => ?_)
                subst hts
                have : j = 0 := by omega
                subst this
                simp [guessT, h1, tyAt_get h]
              · have hl2 : T.args.length = 2 := by rw [h1] at hlen; simp [partsF] at hlen; omega
                refine hmain _ rfl (by simp [guessN, h1, hm0]) (by simp [hts]) (fun j h => ?_)
                subst hts
                simp [guessT, h1, show j < 2 from by omega, tyAt_get h]
              · have hl2 : T.args.length = 2 := by rw [h1] at hlen; simp [partsF] at hlen; omega
                refine hmain _ rfl (by simp [guessN, h1, hm0, hp]) (fun U hU => by rw [hts] at hU; exact List.mem_of_mem_take hU) (fun j h => ?_)
                subst hts
                have : j = 0 := by simp at h; omega
                subst this
                simp [guessT, guessN, h1, hp, tyAt_get (show 0 < T.args.length from by omega)]
              · have hl2 : T.args.length = 2 := by rw [h1] at hlen; simp [partsF] at hlen; omega
                refine hmain _ rfl (by simp [guessN, h1, hm0, hp]) (fun U hU => by rw [hts] at hU; exact List.mem_of_mem_drop hU) (fun j h => ?_)
                subst hts
                have : j = 0 := by simp at h; omega
                subst this
                simp [guessT, guessN, h1, hp, tyAt_get (show 1 < T.args.length from by omega)]

/-- a value's tree, given those of its Args, by what counts of it -/
def wrF (k n : Int) (s : ByteArray) (l : List Tr) : Tr :=
  if k = 1 then primT 20 [] else if k = 2 then primT (if n = 0 then 22 else 21) []
  else if k = 3 ∨ k = 4 ∨ k = 5 ∨ k = 7 then .nd 0 n 0 ⟨#[]⟩ [] else if k = 6 then .nd 1 0 0 s []
  else if k = 9 then primT (if l.length = 0 then 27 else 26) l else if k = 11 then primT 23 l
  else if k = 12 then primT (if n = 0 then 24 else 25) l else if k = 10 then .nd 3 0 0 ⟨#[]⟩ l
  else if k = 13 then .nd 3 0 0 ⟨#[]⟩ (l.map eltT) else .nd (-1) 0 0 ⟨#[]⟩ []

theorem written_wr (x : Va) (l : List Tr) : writtenF x l = wrF x.k x.n x.s l := rfl

theorem tysR_10 {T : Ty} {x : Va} {ts : List Ty} (h : T.t = 10) (hts : argTys T x = some ts) : ts = List.replicate x.args.length (tyAt T.args 0) := by
  unfold argTys at hts
  simp only at hts
  rw [if_neg (by omega), if_neg (by omega), if_pos h] at hts
  split at hts
  · exact (Option.some.inj hts).symm
  · cases hts
theorem tysR_13 {T : Ty} {x : Va} {ts : List Ty} (h : T.t = 13) (hts : argTys T x = some ts) : ts = List.replicate x.args.length (.nd 11 T.args) := by
  unfold argTys at hts
  simp only at hts
  rw [if_neg (by omega), if_neg (by omega), if_neg (by omega), if_pos h] at hts
  split at hts
  · exact (Option.some.inj hts).symm
  · cases hts
theorem tysR_9 {T : Ty} {x : Va} {ts : List Ty} (h : T.t = 9) (h0 : x.args.length ≠ 0) (hts : argTys T x = some ts) : ts = T.args := by
  unfold argTys at hts
  simp only at hts
  rw [if_neg (by omega), if_neg (by omega), if_neg (by omega), if_neg (by omega), if_neg (by omega), if_neg (by omega)] at hts
  split at hts
  · exact (Option.some.inj hts).symm
  · cases hts
theorem tysR_12 {T : Ty} {x : Va} {ts : List Ty} (h : T.t = 12) (hts : argTys T x = some ts) : ts = [tyAt T.args x.n.toNat] ∧ x.args.length = 1 := by
  unfold argTys at hts
  simp only at hts
  rw [if_neg (by omega), if_neg (by omega), if_neg (by omega), if_neg (by omega), if_pos h] at hts
  split at hts
  · exact ⟨(Option.some.inj hts).symm, by assumption⟩
  · cases hts

theorem dataTs_map (l : List Va) : dataTs l = l.map dataT := by
  induction l with
  | nil => rw [dataTs]; rfl
  | cons x l ih => rw [dataTs, ih]; rfl

theorem readTs_of : ∀ (l : List Tr) (ts : List Ty) (ys : List Va), l.length = ts.length → l.length = ys.length → (∀ i (h1 : i < l.length) (h2 : i < ts.length) (h3 : i < ys.length), readT l[i] ts[i] = some ys[i]) → readTs l ts = some ys
  | [], [], [], _, _, _ => by rw [readTs]
  | t :: l, T :: ts, y :: ys, h1, h2, h => by
    have h0 := h 0 (by simp) (by simp) (by simp)
    simp only [List.getElem_cons_zero] at h0
    rw [readTs, h0, readTs_of l ts ys (by simpa using h1) (by simpa using h2) (fun i a b c => by have := h (i + 1) (by simpa using a) (by simpa using b) (by simpa using c); simpa using this)]
    rfl
  | [], _ :: _, _, h1, _, _ => by simp at h1
  | _ :: _, [], _, h1, _, _ => by simp at h1
  | [], [], _ :: _, _, h, _ => by simp at h
  | _ :: _, _ :: _, [], _, h, _ => by simp at h

theorem guessFs_get {T : Ty} {N : Int} : ∀ (l : List Tr) (i : Nat) (ys : List Va), guessFs l T N i = some ys → ∀ j (h : j < l.length) (h' : j < ys.length), ∃ U, guessT T N (i + j) = some U ∧ ys[j] = guessF l[j] U
  | [], _, _, _, j, h, _ => by simp at h
  | t :: l, i, ys, hg, j, h, h' => by
    rw [guessFs] at hg
    cases hU : guessT T N i with
    | none => rw [hU] at hg; cases hg
    | some U =>
      rw [hU] at hg
      simp only [Option.map_eq_some_iff] at hg
      obtain ⟨zs, hz, rfl⟩ := hg
      cases j with
      | zero => exact ⟨U, by simpa using hU, rfl⟩
      | succ j =>
        obtain ⟨V, hV, he⟩ := guessFs_get l (i + 1) zs hz j (by simpa using h) (by simpa using h')
        exact ⟨V, by rw [← hV]; congr 1; omega, by simpa using he⟩

/-- what is guessed, is of the type and has that tree is read so -/
theorem read_of_guess : ∀ (m : Nat) (t : Tr) (T : Ty) (d : Nat), t.size ≤ m → formedB d T = true → hasV (guessF t T) T = true → dataT (guessF t T) = t → readT t T = some (guessF t T)
  | 0, t, _, _, h => by have := size_pos t; omega
  | m + 1, .nd k n p s args, T, d, hm => by
    intro hf hv hd
    obtain ⟨t1, t2⟩ := formed_type hf
    obtain ⟨hlen, hfa⟩ := formed_args2 hf
    rw [Tr.size] at hm
    cases hgs : guessFs args T (guessN T n p) 0 with
    | none =>
      rw [guessF_eq, hgs] at hv
      have := zero_no T t1
      rw [this] at hv; cases hv
    | some ys =>
      have hG : guessF (.nd k n p s args) T = .mk T.t (guessN T n p) 0 s ys [] [] := by rw [guessF_eq, hgs]
      rw [hG] at hv hd ⊢
      have hyl := guessFs_len args T _ 0 ys hgs
      have hget := guessFs_get args 0 ys hgs
      simp only [Nat.zero_add] at hget
      rw [dataT_eq, written_wr] at hd
      change wrF T.t (guessN T n p) s (dataTs ys) = _ at hd
      have hnone : (∀ i, guessT T (guessN T n p) i = none) → args = [] ∧ ys = [] := by
        intro h
        by_cases ha : args = []
        · exact ⟨ha, List.eq_nil_of_length_eq_zero (by rw [hyl, ha]; rfl)⟩
        · rw [guessFs_none h args 0 ha] at hgs; cases hgs
      obtain ⟨hfi, ts, hts, hhs⟩ := hasV_parts hv
      have hsz : T.t ≠ 6 → s = ⟨#[]⟩ := by
        intro h6
        unfold fitsF at hfi
        simp only [Bool.and_eq_true, decide_eq_true_eq, Bool.or_eq_true] at hfi
        rcases hfi.1.1.2 with h | h
        · exact bare_empty h
        · exact absurd h.1 h6
      have IH : ∀ j (h : j < args.length) (h' : j < ys.length) (U : Ty) (d' : Nat), ys[j] = guessF args[j] U → formedB d' U = true → hasV ys[j] U = true → dataT ys[j] = args[j] → readT args[j] U = some ys[j] := by
        intro j h h' U d' he hf' hv' hd'
        rw [he] at hv' hd' ⊢
        exact read_of_guess m args[j] U d' (by have := sizes_lt (List.getElem_mem h); omega) hf' hv' hd'
      have hvs : ∀ j (h : j < ys.length) (h' : j < ts.length), hasV ys[j] ts[j] = true := by
        have hl := argTys_len hts
        simp only [Va.args] at hl
        rw [show (Va.mk T.t (guessN T n p) 0 s ys [] []).args = ys from rfl, hasVs_zip ys ts hl, List.all_eq_true] at hhs
        intro j h h'
        have hj : j < (ts.zip ys).length := by rw [List.length_zip]; omega
        have := hhs (ts.zip ys)[j] (List.getElem_mem hj)
        simpa [hasP] using this
      have hdat : ∀ (l : List Tr), dataTs ys = l → ∀ j (h : j < ys.length) (h' : j < l.length), dataT ys[j] = l[j] := by
        intro l hl j h h'
        subst hl
        simp [dataTs_map]
      rw [readT]
      by_cases hN : T.t = 3 ∨ T.t = 4 ∨ T.t = 5 ∨ T.t = 7
      · rw [if_pos hN]
        obtain ⟨ha, hy⟩ := hnone (fun i => by unfold guessT; rw [if_neg (by omega), if_neg (by omega), if_neg (by omega), if_neg (by omega)])
        subst ha hy
        have hgn : guessN T n p = n := by unfold guessN; rw [if_neg (by omega), if_neg (by omega)]
        rw [hgn] at hd ⊢
        unfold wrF at hd
        rw [if_neg (by omega), if_neg (by omega), if_pos hN] at hd
        simp only [Tr.nd.injEq] at hd
        rw [if_pos hd.1.symm, hsz (by omega)]
        rfl
      · rw [if_neg hN]
        by_cases h6 : T.t = 6
        · rw [if_pos h6]
          obtain ⟨ha, hy⟩ := hnone (fun i => by unfold guessT; rw [if_neg (by omega), if_neg (by omega), if_neg (by omega), if_neg (by omega)])
          subst ha hy
          have hgn : guessN T n p = n := by unfold guessN; rw [if_neg (by omega), if_neg (by omega)]
          rw [hgn] at hd ⊢
          unfold wrF at hd
          rw [if_neg (by omega), if_neg (by omega), if_neg (by omega), if_pos h6] at hd
          simp only [Tr.nd.injEq] at hd
          rw [if_pos hd.1.symm, h6, ← hd.2.1]
          rfl
        · rw [if_neg h6]
          have hs0 := hsz h6
          subst hs0
          by_cases h10 : T.t = 10
          · rw [if_pos h10]
            have hl1 : T.args.length = 1 := by rw [h10] at hlen; simp [partsF] at hlen; omega
            have hgn : guessN T n p = n := by unfold guessN; rw [if_neg (by omega), if_neg (by omega)]
            rw [hgn] at hd hv hts hget ⊢
            unfold wrF at hd
            rw [if_neg (by omega), if_neg (by omega), if_neg (by omega), if_neg (by omega), if_neg (by omega), if_neg (by omega), if_neg (by omega), if_pos h10] at hd
            simp only [Tr.nd.injEq] at hd
            obtain ⟨hk, hn, hp, _, hda⟩ := hd
            rw [if_pos hk.symm, ← hn, h10]
            have hts2 : ts = List.replicate ys.length (tyAt T.args 0) := tysR_10 h10 hts
            have hrd : readTs args (List.replicate args.length (tyAt T.args 0)) = some ys := by
              refine readTs_of _ _ _ (by simp) hyl.symm (fun i a b c => ?_)
              obtain ⟨U, hU, he⟩ := hget i a c
              have hU2 : U = tyAt T.args 0 := by unfold guessT at hU; rw [if_pos (by omega)] at hU; exact (Option.some.inj hU).symm
              subst hU2
              rw [List.getElem_replicate]
              refine IH i a c _ (d + 1) he (hfa _ (by rw [tyAt_get (by omega)]; exact List.getElem_mem _)) ?_ (hdat args hda i c a)
              have := hvs i c (by rw [hts2]; simpa using c)
              simp only [hts2, List.getElem_replicate] at this
              exact this
            rw [hrd]
            rfl
          · rw [if_neg h10]
            by_cases h13 : T.t = 13
            · rw [if_pos h13]
              have hl2 : T.args.length = 2 := by rw [h13] at hlen; simp [partsF] at hlen; omega
              have hgn : guessN T n p = n := by unfold guessN; rw [if_neg (by omega), if_neg (by omega)]
              rw [hgn] at hd hv hts hget ⊢
              unfold wrF at hd
              rw [if_neg (by omega), if_neg (by omega), if_neg (by omega), if_neg (by omega), if_neg (by omega), if_neg (by omega), if_neg (by omega), if_neg (by omega), if_pos h13] at hd
              simp only [Tr.nd.injEq] at hd
              obtain ⟨hk, hn, hp, _, hda⟩ := hd
              rw [if_pos hk.symm, ← hn, h13]
              have hts2 : ts = List.replicate ys.length (.nd 11 T.args) := tysR_13 h13 hts
              have hf11 : formedB d (.nd 11 T.args) = true := by
                obtain ⟨t', a'⟩ := T
                simp only [Ty.t] at h13
                subst h13
                simp only [formedB, Bool.and_eq_true, isTypeB, decide_eq_true_eq] at hf ⊢
                exact ⟨⟨hf.1.1, by omega, by have := hf.1.2.2; simp only [Ty.args]; simpa [partsF] using this⟩, hf.2⟩
              have hE : ∀ (l : List Tr) (zs : List Va), l.length = zs.length → (∀ i (a : i < l.length) (c : i < zs.length), ∃ (q : Nat) (a2 : q < args.length) (c2 : q < ys.length), l[i] = args[q] ∧ zs[i] = ys[q]) → readEs l T.args = some zs := by
                intro l
                induction l with
                | nil => intro zs h _; cases zs with
                  | nil => rw [readEs]
                  | cons z zs => simp at h
                | cons t l ih =>
                  intro zs h hq
                  cases zs with
                  | nil => simp at h
                  | cons z zs =>
                    obtain ⟨q, a2, c2, e1, e2⟩ := hq 0 (by simp) (by simp)
                    simp only [List.getElem_cons_zero] at e1 e2
                    obtain ⟨U, hU, he⟩ := hget q a2 c2
                    have hU2 : U = .nd 11 T.args := by unfold guessT at hU; rw [if_neg (by omega), if_pos h13] at hU; exact (Option.some.inj hU).symm
                    subst hU2
                    have hvq : hasV ys[q] (.nd 11 T.args) = true := by
                      have := hvs q c2 (by rw [hts2]; simpa using c2)
                      simp only [hts2, List.getElem_replicate] at this
                      exact this
                    have hdq : eltT (dataT ys[q]) = args[q] := by
                      have : (dataTs ys).map eltT = args := hda
                      have h3 : ((dataTs ys).map eltT)[q]? = args[q]? := by rw [this]
                      simp only [dataTs_map, List.getElem?_map, List.getElem?_eq_getElem c2, List.getElem?_eq_getElem a2, Option.map_some, Option.some.injEq] at h3
                      exact h3
                    obtain ⟨w1, w2, w3, w4⟩ := has_some hf11 hvq
                    simp only [Ty.t] at w1
                    have hb : bareB false false false 2 0 false ys[q] = true := by
                      cases hb : bareB false false false 2 0 false ys[q] with
                      | true => rfl
                      | false => rw [has_pair_no hf11 rfl hb] at hvq; cases hvq
                    obtain ⟨u1, u2, y1, y2, ea, eb, ev⟩ := has_pair hf11 rfl w1.symm hb
                    -- the pair's own tree
                    have hdt : dataT ys[q] = primT 23 (dataTs ys[q].args) := by
                      rw [dataT_eq]; unfold writtenF
                      rw [if_neg (by omega), if_neg (by omega), if_neg (by omega), if_neg (by omega), if_neg (by omega), if_pos w1]
                    have haq : args[q] = .nd 2 0 28 ⟨#[]⟩ (dataTs ys[q].args) := by rw [← hdq, hdt]; rfl
                    have hrq : readT (.nd 2 0 23 ⟨#[]⟩ (dataTs ys[q].args)) (.nd 11 T.args) = some ys[q] := by
                      have hgq : guessF (.nd 2 0 23 ⟨#[]⟩ (dataTs ys[q].args)) (.nd 11 T.args) = ys[q] := by
                        have h7 := he
                        rw [haq] at h7
                        generalize ys[q] = yq at h7 ⊢
                        generalize dataTs yq.args = dl at h7 ⊢
                        rw [h7, guessF_eq, guessF_eq]
                        rfl
                      have hszq : (Tr.nd 2 0 23 ⟨#[]⟩ (dataTs ys[q].args)).size ≤ m := by
                        have h5 := sizes_lt (List.getElem_mem a2)
                        rw [haq, Tr.size] at h5
                        rw [Tr.size]
                        omega
                      have := read_of_guess m (.nd 2 0 23 ⟨#[]⟩ (dataTs ys[q].args)) (.nd 11 T.args) d hszq hf11 (by rw [hgq]; exact hvq) (by rw [hgq, hdt]; rfl)
                      rw [hgq] at this
                      exact this
                    have hrs : ∃ ws, readTs (dataTs ys[q].args) T.args = some ws ∧ leafVa 11 0 ⟨#[]⟩ ws = ys[q] := by
                      generalize T.args = us at hrq
                      rw [readT] at hrq
                      simpa [Ty.t, branchF, Ty.args] using hrq
                    obtain ⟨ws, hw1, hw2⟩ := hrs
                    rw [e1, haq, readEs, hw1]
                    simp only [if_true]
                    rw [ih zs (by simpa using h) (fun i a c => by have := hq (i + 1) (by simpa using a) (by simpa using c); simpa using this)]
                    simp [hw2, e2]
              have hrd : readEs args T.args = some ys := hE args ys hyl.symm (fun i a c => ⟨i, a, c, rfl, rfl⟩)
              rw [hrd]
              rfl
            · rw [if_neg h13]
              have hbr : ∃ ts', branchF T p = some (guessN T n p, ts') ∧ readTs args ts' = some ys := by
                have hread : ∀ ts', ts'.length = ys.length → (∀ U ∈ ts', U ∈ T.args) → dataTs ys = args → (∀ j (h : j < ts'.length) (h' : j < ts.length), ts'[j] = ts[j]) → (∀ j (h : j < ts'.length), guessT T (guessN T n p) j = some ts'[j]) → readTs args ts' = some ys := by
                  intro ts' hl' hsub hda hsame hgt
                  have hl := argTys_len hts
                  simp only [Va.args] at hl
                  refine readTs_of _ _ _ (by omega) hyl.symm (fun i a b c => ?_)
                  obtain ⟨U, hU, he⟩ := hget i a c
                  rw [hgt i b] at hU
                  have hU2 := Option.some.inj hU
                  rw [← hU2] at he
                  refine IH i a c _ (d + 1) he (hfa _ (hsub _ (List.getElem_mem b))) ?_ (hdat args hda i c a)
                  rw [hsame i b (by omega)]
                  exact hvs i c (by omega)
                by_cases h1 : T.t = 1
                · obtain ⟨ha, hy⟩ := hnone (fun i => by unfold guessT; rw [if_neg (by omega), if_neg (by omega), if_neg (by omega), if_neg (by omega)])
                  subst ha hy
                  unfold wrF at hd
                  rw [if_pos h1] at hd
                  simp only [primT, Tr.nd.injEq] at hd
                  refine ⟨[], ?_, by rw [readTs]⟩
                  unfold branchF
                  rw [if_pos ⟨h1, hd.2.2.1.symm⟩]
                  simp [guessN, h1, ← hd.2.1]
                · by_cases h2 : T.t = 2
                  · obtain ⟨ha, hy⟩ := hnone (fun i => by unfold guessT; rw [if_neg (by omega), if_neg (by omega), if_neg (by omega), if_neg (by omega)])
                    subst ha hy
                    have hn01 := (has_some hf hv).2.2.1 (.inl h2)
                    simp only [Va.n] at hn01
                    have hgn : guessN T n p = 22 - p := by unfold guessN; rw [if_pos h2]
                    rw [hgn] at hn01 ⊢
                    refine ⟨[], ?_, by rw [readTs]⟩
                    unfold branchF
                    rw [if_neg (by omega)]
                    rcases hn01 with h | h
                    · rw [if_pos ⟨h2, by omega⟩, h]
                    · rw [if_neg (by omega), if_pos ⟨h2, by omega⟩, h]
                  · by_cases h9 : T.t = 9
                    · have hl1 : T.args.length = 1 := by rw [h9] at hlen; simp [partsF] at hlen; omega
                      have hle := (has_some hf hv).2.2.2 h9
                      simp only [Va.args] at hle
                      have hgn : guessN T n p = n := by unfold guessN; rw [if_neg (by omega), if_neg (by omega)]
                      rw [hgn] at hd hread hget ⊢
                      unfold wrF at hd
                      rw [if_neg (by omega), if_neg (by omega), if_neg (by omega), if_neg (by omega), if_pos h9] at hd
                      simp only [primT, Tr.nd.injEq] at hd
                      obtain ⟨_, hn0, hp, _, hda⟩ := hd
                      have hdl : (dataTs ys).length = ys.length := dataTs_len ys
                      by_cases h0 : ys.length = 0
                      · have hy : ys = [] := List.eq_nil_of_length_eq_zero h0
                        subst hy
                        have ha : args = [] := List.eq_nil_of_length_eq_zero (by omega)
                        subst ha
                        rw [if_pos (by omega)] at hp
                        refine ⟨[], ?_, by rw [readTs]⟩
                        unfold branchF
                        rw [if_neg (by omega), if_neg (by omega), if_neg (by omega), if_pos ⟨h9, hp.symm⟩, ← hn0]
                      · rw [if_neg (by omega)] at hp
                        have hts2 : ts = T.args := tysR_9 (x := .mk T.t n 0 ⟨#[]⟩ ys [] []) h9 h0 (by rw [hgn] at hts; exact hts)
                        refine ⟨T.args, ?_, ?_⟩
                        · unfold branchF
                          rw [if_neg (by omega), if_neg (by omega), if_neg (by omega), if_neg (by omega), if_pos ⟨h9, hp.symm⟩, ← hn0]
                        · refine hread T.args (by omega) (fun U h => h) hda (fun j h h' => by simp [hts2]) (fun j h => ?_)
                          have : j = 0 := by omega
                          subst this
                          unfold guessT
                          rw [if_pos (.inl h9), tyAt_get h]
                    · by_cases h11 : T.t = 11
                      · have hl2 : T.args.length = 2 := by rw [h11] at hlen; simp [partsF] at hlen; omega
                        have hgn : guessN T n p = n := by unfold guessN; rw [if_neg (by omega), if_neg (by omega)]
                        rw [hgn] at hd hread hget ⊢
                        unfold wrF at hd
                        rw [if_neg (by omega), if_neg (by omega), if_neg (by omega), if_neg (by omega), if_neg (by omega), if_pos h11] at hd
                        simp only [primT, Tr.nd.injEq] at hd
                        obtain ⟨_, hn0, hp, _, hda⟩ := hd
                        have hl := argTys_len hts
                        have hts2 : ts = T.args := tys_11 h11 hts
                        simp only [Va.args] at hl
                        refine ⟨T.args, ?_, ?_⟩
                        · unfold branchF
                          rw [if_neg (by omega), if_neg (by omega), if_neg (by omega), if_neg (by omega), if_neg (by omega), if_pos ⟨h11, hp.symm⟩, ← hn0]
                        · refine hread T.args (by rw [hl, hts2]) (fun U h => h) hda (fun j h h' => by simp [hts2]) (fun j h => ?_)
                          unfold guessT
                          rw [if_neg (by omega), if_neg (by omega), if_pos ⟨h11, by omega⟩, tyAt_get h]
                      · by_cases h12 : T.t = 12
                        · have hl2 : T.args.length = 2 := by rw [h12] at hlen; simp [partsF] at hlen; omega
                          have hn01 := (has_some hf hv).2.2.1 (.inr h12)
                          simp only [Va.n] at hn01
                          have hgn : guessN T n p = p - 24 := by unfold guessN; rw [if_neg (by omega), if_pos h12]
                          unfold wrF at hd
                          rw [if_neg (by omega), if_neg (by omega), if_neg (by omega), if_neg (by omega), if_neg (by omega), if_neg (by omega), if_pos h12] at hd
                          simp only [primT, Tr.nd.injEq] at hd
                          obtain ⟨_, hn0, hp, _, hda⟩ := hd
                          have hts2 : ts = [tyAt T.args (guessN T n p).toNat] ∧ ys.length = 1 := tysR_12 h12 hts
                          obtain ⟨hts2, hyl1⟩ := hts2
                          obtain ⟨u1, u2, eu⟩ := two_of hl2
                          rcases hn01 with h | h
                          · refine ⟨[u1], ?_, ?_⟩
                            · unfold branchF
                              rw [if_neg (by omega), if_neg (by omega), if_neg (by omega), if_neg (by omega), if_neg (by omega), if_neg (by omega), if_pos ⟨h12, by omega⟩, h, eu]
                              rfl
                            · refine hread [u1] (by simp [hyl1]) (fun U hU => by rw [eu]; simp at hU; simp [hU]) hda (fun j a b => ?_) (fun j a => ?_)
                              · have : j = 0 := by simpa using a
                                subst this
                                simp [hts2, h, eu, tyAt]
                              · have : j = 0 := by simpa using a
                                subst this
                                unfold guessT
                                rw [if_neg (by omega), if_neg (by omega), if_neg (by omega), if_pos ⟨h12, .inl h⟩, h]
                                simp [eu, tyAt]
                          · refine ⟨[u2], ?_, ?_⟩
                            · unfold branchF
                              rw [if_neg (by omega), if_neg (by omega), if_neg (by omega), if_neg (by omega), if_neg (by omega), if_neg (by omega), if_neg (by omega), if_pos ⟨h12, by omega⟩, h, eu]
                              rfl
                            · refine hread [u2] (by simp [hyl1]) (fun U hU => by rw [eu]; simp at hU; simp [hU]) hda (fun j a b => ?_) (fun j a => ?_)
                              · have : j = 0 := by simpa using a
                                subst this
                                simp [hts2, h, eu, tyAt]
                              · have : j = 0 := by simpa using a
                                subst this
                                unfold guessT
                                rw [if_neg (by omega), if_neg (by omega), if_neg (by omega), if_pos ⟨h12, .inr h⟩, h]
                                simp [eu, tyAt]
                        · -- 8, 14, 15: no tree has one
                          obtain ⟨ha, hy⟩ := hnone (fun i => by unfold guessT; rw [if_neg (by omega), if_neg (by omega), if_neg (by omega), if_neg (by omega)])
                          subst ha hy
                          exfalso
                          have h3 : T.t = 8 ∨ T.t = 14 ∨ T.t = 15 := by omega
                          rcases h3 with h | h | h
                          · have := has_op_no (x := .mk T.t (guessN T n p) 0 ⟨#[]⟩ [] [] []) h (by simp [bareB, Va.args])
                            rw [this] at hv; cases hv
                          · rw [has_lam hf h rfl] at hv
                            simp [bareB, Va.types] at hv
                          · have := has_tick_no (x := .mk T.t (guessN T n p) 0 ⟨#[]⟩ [] [] []) hf h (by simp [bareB, Va.args])
                            rw [this] at hv; cases hv
              obtain ⟨ts', hb, hr⟩ := hbr
              rw [hb]
              simp only
              rw [hr]
              rfl

end Go.Proofs.YthjpngaapflclacGreat

/- What the document's own dataNode keeps as it goes: the blocks of its own, and the list that it makes. -/
namespace Go.Proofs.YthjpngaapflclacGreat
set_option maxRecDepth 20000
open Go.ChangeShapes Go.WideShapes Go.ChangeAt Go.RowKit
set_option linter.unusedVariables false

structure DnInv (w2 w : World) (B : Obj) (k p : Int) (lv : Value) (ts : List Tr) (vs : List Value) : Prop where
  grown : w2.grownBy w none
  vbx : w.heap[w2.heap.size]? = some B
  res : w.heap[w2.heap.size + 1]? = some (.cells #[.int .i64 0, .int .i64 0, .int .i64 0, .string ⟨#[]⟩, .slice none 0 0] 30 (0, 0))
  blk : w.heap[w2.heap.size + 1 + 1]? = some (.cells #[.int .i64 k, .int .i64 0, .int .i64 p, .string ⟨#[]⟩, lv] 30 (0, 0))
  list : ListOk (w2.heap.size + 1 + 1 + 1) w lv ts vs
  hz : w2.heap.size + 1 + 1 + 1 ≤ w.heap.size

theorem lt_blkD {w : World} {b : Nat} {o : Obj} (h : w.heap[b]? = some o) : b < w.heap.size := (Array.getElem?_eq_some_iff.1 h).1

theorem DnInv.call {w2 w w' : World} {B : Obj} {k p : Int} {lv : Value} {ts : List Tr} {vs : List Value} (h : DnInv w2 w B k p lv ts vs) (hg : w.grownBy w' none) : DnInv w2 w' B k p lv ts vs :=
  ⟨Lf.gbt h.grown hg, (hg.block _ (lt_blkD h.vbx) (by simp)).trans h.vbx, (hg.block _ (lt_blkD h.res) (by simp)).trans h.res, (hg.block _ (lt_blkD h.blk) (by simp)).trans h.blk, h.list.keep (rb := w2.heap.size) (grow_any hg) (by omega), Nat.le_trans h.hz hg.size⟩

theorem own_neD {w : World} {H : Nat} {v : Value} {vs : List Value} (h : OwnsL H w v vs) {b : Nat} (hb : b < H) : some b ≠ v.ownBlock := fun e => by
  have := (World.ownsRow.lt h b e.symm).1
  omega

theorem DnInv.push {w2 w w' : World} {S : Nat} {B : Obj} {k p : Int} {lv lv' u : Value} {ts : List Tr} {vs : List Value} {t : Tr} (h : DnInv w2 w B k p lv ts vs) (hS : w2.heap.size + 1 + 1 + 1 ≤ S)
    (hvS : ∀ k, lv.ownBlock = some k → k < S) (hL : Lies (S ≤ ·) w t u) (hg : Gr w lv w' lv') (ho : OwnsL (w2.heap.size + 1 + 1 + 1) w' lv' (vs ++ [u])) : DnInv w2 (w'.setCell ⟨w2.heap.size + 1 + 1, 4, none⟩ lv') B k p lv' (ts ++ [t]) (vs ++ [u]) := by
  have hset : w'.grownBy (w'.setCell ⟨w2.heap.size + 1 + 1, 4, none⟩ lv') (some (w2.heap.size + 1 + 1)) := grow_set (grow_refl _ _) _ _ _
  have kb : w'.heap[w2.heap.size + 1 + 1]? = _ := (hg.block (lt_blkD h.blk) (own_neD h.list.own (by omega))).trans h.blk
  have kr : w'.heap[w2.heap.size + 1]? = _ := (hg.block (lt_blkD h.res) (own_neD h.list.own (by omega))).trans h.res
  have kv : w'.heap[w2.heap.size]? = _ := (hg.block (lt_blkD h.vbx) (own_neD h.list.own (by omega))).trans h.vbx
  refine ⟨?_, (hset.block _ (lt_blkD kv) (by simp; omega)).trans kv, (hset.block _ (lt_blkD kr) (by simp)).trans kr, (set_one kb lv').2.2.2, (h.list.push hS hvS hL hg ho).keep hset (by omega), ?_⟩
  · refine ⟨hg.1.os.trans h.grown.os, hg.1.tape.trans h.grown.tape, hg.1.output.trans h.grown.output, Nat.le_trans h.grown.size (Nat.le_trans hg.1.size hset.size), fun i hi hr => ?_⟩
    rw [hset.block i (by have := h.grown.size; have := hg.1.size; omega) (by simp; omega), hg.block (by have := h.grown.size; omega) (own_neD h.list.own (by omega))]
    exact h.grown.block i hi hr
  · have := h.hz; have := hg.1.size; have := hset.size; omega

theorem set_zero {w : World} {g : Nat} {T : TypeId} {x0 x1 x2 x3 x4 : Value} (h : w.heap[g]? = some (.cells #[x0, x1, x2, x3, x4] T (0, 0))) (u : Value) : (w.setCell ⟨g, 0, none⟩ u).heap[g]? = some (.cells #[u, x1, x2, x3, x4] T (0, 0)) := by
  simp [World.setCell, Array.getElem?_modify, h]

/-- the node's own Kind or P is set -/
theorem DnInv.set {w2 w : World} {B : Obj} {k p k' p' : Int} {lv : Value} {ts : List Tr} {vs : List Value} {o : Nat} {x : Value} (h : DnInv w2 w B k p lv ts vs)
    (hb : (w.setCell ⟨w2.heap.size + 1 + 1, o, none⟩ x).heap[w2.heap.size + 1 + 1]? = some (.cells #[.int .i64 k', .int .i64 0, .int .i64 p', .string ⟨#[]⟩, lv] 30 (0, 0))) : DnInv w2 (w.setCell ⟨w2.heap.size + 1 + 1, o, none⟩ x) B k' p' lv ts vs := by
  have hset : w.grownBy (w.setCell ⟨w2.heap.size + 1 + 1, o, none⟩ x) (some (w2.heap.size + 1 + 1)) := grow_set (grow_refl _ _) _ _ _
  refine ⟨grow_new h.grown hset (by omega), (hset.block _ (lt_blkD h.vbx) (by simp; omega)).trans h.vbx, (hset.block _ (lt_blkD h.res) (by simp)).trans h.res, hb, h.list.keep hset (by omega), ?_⟩
  have := h.hz; have := hset.size; omega
theorem DnInv.setK {w2 w : World} {B : Obj} {k p : Int} {lv : Value} {ts : List Tr} {vs : List Value} (h : DnInv w2 w B k p lv ts vs) (k' : Int) : DnInv w2 (w.setCell ⟨w2.heap.size + 1 + 1, 0, none⟩ (.int .i64 k')) B k' p lv ts vs := h.set (set_zero h.blk _)
theorem DnInv.setP {w2 w : World} {B : Obj} {k p : Int} {lv : Value} {ts : List Tr} {vs : List Value} (h : DnInv w2 w B k p lv ts vs) (p' : Int) : DnInv w2 (w.setCell ⟨w2.heap.size + 1 + 1, 2, none⟩ (.int .i64 p')) B k p' lv ts vs := h.set (set_one h.blk _).2.1

theorem flat_set : ∀ (vs : List Value), (∀ u ∈ vs, (nodeCells u).length = 5) → ∀ (i : Nat) (k n p : Int) (s : ByteArray) (a : Option Addr) (l c : Nat) (q : Int), vs[i]? = some (nodeV k n p s a l c) → (flat vs).set (i * 5 + 2) (.int .i64 q) = flat (vs.set i (nodeV k n q s a l c))
  | [], _, i, _, _, _, _, _, _, _, _, h => by simp at h
  | x :: vs, hx, 0, k, n, p, s, a, l, c, q, h => by
    simp at h; subst h
    simp [flat, nodeCells, nodeV]
  | x :: vs, hx, i + 1, k, n, p, s, a, l, c, q, h => by
    have h5 := hx x (by simp)
    have ih := flat_set vs (fun u hu => hx u (by simp [hu])) i k n p s a l c q (by simpa using h)
    simp only [flat, List.flatMap_cons, List.set_cons_succ] at ih ⊢
    rw [List.set_append_right _ _ (by omega), h5, show (i + 1) * 5 + 2 - 5 = i * 5 + 2 from by omega, ih]

/-- one of the list's nodes gets another P -/
theorem DnInv.elt {w2 w : World} {B : Obj} {k p : Int} {g cap n : Nat} {ts : List Tr} {vs : List Value} {i : Nat} (h : DnInv w2 w B k p (.slice (some ⟨g, 0, none⟩) n cap) ts vs) (hn : n = ts.length) (hi : i < ts.length) :
    w.frozen? ⟨g, i * 5 + 2, none⟩ = false ∧ (∃ y, w.cell? ⟨g, i * 5 + 2, none⟩ = some (.int .i64 y)) ∧ ∃ vs', DnInv w2 (w.setCell ⟨g, i * 5 + 2, none⟩ (.int .i64 28)) B k p (.slice (some ⟨g, 0, none⟩) n cap) (ts.set i (eltT ts[i])) vs' := by
  have ho := h.list.own
  have hlen := h.list.len
  have h5 : ∀ u ∈ vs, (nodeCells u).length = 5 := by
    intro u hu
    obtain ⟨j, hj, rfl⟩ := List.getElem_of_mem hu
    obtain ⟨_, _, _, _, _, _, _, e⟩ := (h.list.lies j ts[j] vs[j] (List.getElem?_eq_getElem _) (List.getElem?_eq_getElem hj)).nodeV
    rw [e]; rfl
  have hvi : i < vs.length := by omega
  have hLi := h.list.lies i ts[i] vs[i] (List.getElem?_eq_getElem hi) (List.getElem?_eq_getElem hvi)
  obtain ⟨k1, n1, p1, s1, a1, l1, c1, e1⟩ := hLi.nodeV
  unfold OwnsL at ho
  rw [hlen, ← hn] at ho
  have hst := World.ownsRow.stored ho (i * 5 + 2) (.int .i64 28)
  have hgB : w2.heap.size + 1 + 1 + 1 ≤ g := (World.ownsRow.lt ho g rfl).1
  have hcell : w.cell? ⟨g, i * 5 + 2, none⟩ = some (.int .i64 p1) := by
    rw [World.ownsRow.cellAt ho _ (by rw [hn]; omega), flat_get vs h5 i 2 vs[i] (List.getElem?_eq_getElem hvi) (by omega), e1]
    rfl
  refine ⟨World.ownsRow.frozenAt ho _, ⟨p1, hcell⟩, vs.set i (nodeV k1 n1 28 s1 a1 l1 c1), ?_⟩
  have hset := hst.2
  refine ⟨grow_new h.grown hset (by omega), (hset.block _ (lt_blkD h.vbx) (by simp; omega)).trans h.vbx, (hset.block _ (lt_blkD h.res) (by simp; omega)).trans h.res, (hset.block _ (lt_blkD h.blk) (by simp; omega)).trans h.blk, ⟨?_, by simp [hlen], ?_⟩, ?_⟩
  · unfold OwnsL
    rw [List.length_set, hlen, ← hn, ← flat_set vs h5 i k1 n1 p1 s1 a1 l1 c1 28 (by rw [List.getElem?_eq_getElem hvi, e1])]
    exact hst.1
  · intro j t u ht hu
    have hsm : ∀ t u, Lies (fun b => w2.heap.size + 1 + 1 + 1 ≤ b ∧ some b ≠ (Value.slice (some ⟨g, 0, none⟩) n cap).ownBlock) w t u → Lies (fun b => w2.heap.size + 1 + 1 + 1 ≤ b ∧ some b ≠ (Value.slice (some ⟨g, 0, none⟩) n cap).ownBlock) (w.setCell ⟨g, i * 5 + 2, none⟩ (.int .i64 28)) t u := fun t u hl => hl.same (fun b o hb hlt => World.cell?_of_block (hset.block b hlt hb.2))
    by_cases hj : j = i
    · subst hj
      rw [List.getElem?_set_self hi] at ht
      rw [List.getElem?_set_self hvi] at hu
      simp only [Option.some.injEq] at ht hu
      subst ht; subst hu
      have h2 := hsm _ _ hLi
      rw [e1] at h2
      generalize hg1 : nodeV k1 n1 p1 s1 a1 l1 c1 = uu at h2
      generalize ts[j] = tt at h2
      cases h2 with
      | mk V hl hS ik iN ip hc hr =>
        unfold nodeV at hg1
        simp only [Value.agg.injEq, Array.mk.injEq, List.cons.injEq, Value.slice.injEq, Value.int.injEq, Value.string.injEq, true_and, and_true] at hg1
        obtain ⟨rfl, rfl, rfl, rfl, rfl, rfl, rfl⟩ := hg1
        exact .mk V hl hS ik iN ⟨by decide, by decide⟩ hc hr
    · rw [List.getElem?_set_ne (Ne.symm hj)] at ht hu
      exact hsm _ _ (h.list.lies j t u ht hu)
  · have := h.hz; have := hset.size; omega

/-- the world ahead of the loop -/
def dw0 (w : World) (B : Obj) : World :=
  ((w.alloc B).alloc (.cells #[.int .i64 0, .int .i64 0, .int .i64 0, .string ⟨#[]⟩, .slice none 0 0] 30)).alloc (.cells #[.int .i64 2, .int .i64 0, .int .i64 0, .string ⟨#[]⟩, .slice none 0 0] 30)

theorem dw0_inv (w : World) (B : Obj) : DnInv w (dw0 w B) B 2 0 (.slice none 0 0) [] [] := by
  have e0 := heap_alloc_new w B
  have e1 := heap_alloc_new (w.alloc B) (.cells #[.int .i64 0, .int .i64 0, .int .i64 0, .string ⟨#[]⟩, .slice none 0 0] 30)
  have e2 := heap_alloc_new ((w.alloc B).alloc (.cells #[.int .i64 0, .int .i64 0, .int .i64 0, .string ⟨#[]⟩, .slice none 0 0] 30)) (.cells #[.int .i64 2, .int .i64 0, .int .i64 0, .string ⟨#[]⟩, .slice none 0 0] 30)
  simp only [World.size_alloc] at e1 e2
  refine ⟨Lf.gbt (Lf.gb _) (Lf.gbt (Lf.gb _) (Lf.gb _)), heap_keep (heap_keep e0), heap_keep e1, e2, ListOk.nil _ _, ?_⟩
  unfold dw0
  simp only [World.size_alloc]
  exact Nat.le_refl _

def DataPost (x : Va) (w2 : World) (e : Ending) (w' : World) : Prop := w2.grownBy w' none ∧ ∃ u, e = .returned u ∧ Lies (w2.heap.size ≤ ·) w' (dataT x) u

/-- the node as it is handed back -/
theorem DnInv.lies {w2 w wf : World} {B : Obj} {k p : Int} {lv : Value} {ts : List Tr} {vs : List Value} (h : DnInv w2 w B k p lv ts vs) (hgs : w.grownBy wf (some (w2.heap.size + 1))) (ik : I64 k) (ip : I64 p) (hlen : ts.length ≤ maxLen) {la : Option Addr} {l c : Nat} (hlv : lv = .slice la l c) : Lies (w2.heap.size ≤ ·) wf (.nd k 0 p ⟨#[]⟩ ts) (nodeV k 0 p ⟨#[]⟩ la l c) := by
  obtain ⟨a1, c1, V1, hv1, hd1, hd2⟩ := h.list.done
  rw [hlv] at hv1
  simp only [Value.slice.injEq] at hv1
  obtain ⟨rfl, rfl, rfl⟩ := hv1
  have hsm : Same (w2.heap.size + 1 + 1 + 1 ≤ ·) w wf := fun b o hb hlt => World.cell?_of_block (hgs.block b hlt (by have : w2.heap.size + 1 + 1 + 1 ≤ b := hb; simp; omega))
  exact (Lies.mk (ok := (w2.heap.size + 1 + 1 + 1 ≤ ·)) V1 hlen (Nat.zero_le _) ik ⟨by omega, by omega⟩ ip (fun i hi => (hd1 i hi).same hsm) (fun i hi => (hd2 i hi).same hsm)).okMono (fun b _ hb => by have : w2.heap.size + 1 + 1 + 1 ≤ b := hb; show _ ≤ b; omega)

end Go.Proofs.YthjpngaapflclacGreat
