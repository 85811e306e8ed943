/- A value's tree, and a tree read as a value, as plain data: what tells a value is read as it was. -/
import Derived.Test.YtmmgihaoahhkjaaValA
import Derived.Test.YtmmgihaoahhkjaaTreeA
namespace Go.Proofs.Ytmmgihaoahhkjaa
set_option linter.unusedVariables false

def primT (p : Int) (args : List Tr) : Tr := .nd 2 0 p ⟨#[]⟩ args
def eltT : Tr → Tr
  | .nd k n p s args => .nd k n 28 s args
def Tr.k0 : Tr → Int
  | .nd k _ _ _ _ => k
def Tr.n0 : Tr → Int
  | .nd _ n _ _ _ => n
def Tr.p0 : Tr → Int
  | .nd _ _ p _ _ => p
def Tr.s0 : Tr → ByteArray
  | .nd _ _ _ s _ => s
def Tr.args0 : Tr → List Tr
  | .nd _ _ _ _ l => l

/-- the tree of a value, given those of its Args -/
def writtenF (x : Va) (l : List Tr) : Tr :=
  if x.k = 1 then primT 20 [] else if x.k = 2 then primT (if x.n = 0 then 22 else 21) []
  else if x.k = 3 ∨ x.k = 4 ∨ x.k = 5 ∨ x.k = 7 then .nd 0 x.n 0 ⟨#[]⟩ [] else if x.k = 6 then .nd 1 0 0 x.s []
  else if x.k = 9 then primT (if l.length = 0 then 27 else 26) l else if x.k = 11 then primT 23 l
  else if x.k = 12 then primT (if x.n = 0 then 24 else 25) l else if x.k = 10 then .nd 3 0 0 ⟨#[]⟩ l
  else if x.k = 13 then .nd 3 0 0 ⟨#[]⟩ (l.map eltT) else .nd (-1) 0 0 ⟨#[]⟩ []

mutual
/-- the tree of a value -/
def dataT : Va → Tr
  | .mk k n a s args ty co => writtenF (.mk k n a s args ty co) (dataTs args)
def dataTs : List Va → List Tr
  | [] => []
  | x :: xs => dataT x :: dataTs xs
end

/-- what a primitive tells: a number, and the types of the Args -/
def branchF (T : Ty) (p : Int) : Option (Int × List Ty) :=
  if T.t = 1 ∧ p = 20 then some (0, []) else if T.t = 2 ∧ p = 22 then some (0, []) else if T.t = 2 ∧ p = 21 then some (1, [])
  else if T.t = 9 ∧ p = 27 then some (0, []) else if T.t = 9 ∧ p = 26 then some (0, T.args) else if T.t = 11 ∧ p = 23 then some (0, T.args)
  else if T.t = 12 ∧ p = 24 then some (0, T.args.take 1) else if T.t = 12 ∧ p = 25 then some (1, T.args.drop 1) else none

def leafVa (t n : Int) (s : ByteArray) (l : List Va) : Va := .mk t n 0 s l [] []

mutual
/-- what a tree tells of a type -/
def readT : Tr → Ty → Option Va
  | .nd k n p s args, T =>
    if T.t = 3 ∨ T.t = 4 ∨ T.t = 5 ∨ T.t = 7 then (if k = 0 then some (leafVa T.t n ⟨#[]⟩ []) else none)
    else if T.t = 6 then (if k = 1 then some (leafVa 6 0 s []) else none)
    else if T.t = 10 then (if k = 3 then (readTs args (List.replicate args.length (tyAt T.args 0))).map (leafVa 10 0 ⟨#[]⟩) else none)
    else if T.t = 13 then (if k = 3 then (readEs args T.args).map (leafVa 13 0 ⟨#[]⟩) else none)
    else match branchF T p with
      | none => none
      | some (m, ts) => (readTs args ts).map (leafVa T.t m ⟨#[]⟩)
/-- one of each of these types -/
def readTs : List Tr → List Ty → Option (List Va)
  | [], [] => some []
  | t :: l, T :: ts => match readT t T with
    | none => none
    | some x => (readTs l ts).map (x :: ·)
  | [], _ :: _ => none
  | _ :: _, [] => none
/-- the pairs of a map -/
def readEs : List Tr → List Ty → Option (List Va)
  | [], _ => some []
  | .nd k n p s args :: l, ts => match readTs args ts with
    | none => none
    | some ys => if p = 28 then (readEs l ts).map (leafVa 11 0 ⟨#[]⟩ ys :: ·) else none
end

theorem Va.eta (x : Va) : x = .mk x.k x.n x.a x.s x.args x.types x.code := by cases x; rfl

theorem pack_parts {T : Ty} (hc : packT T = true) : (T.t ≠ 8 ∧ T.t ≠ 14 ∧ T.t ≠ 15) ∧ ∀ y ∈ T.args, packT y = true := by
  obtain ⟨t, targs⟩ := T
  simp only [packT, allF, Bool.and_eq_true, innAll, Bool.not_true, Bool.false_or] at hc
  obtain ⟨hcb, hca⟩ := hc
  simp only [packB, decide_eq_true_eq] at hcb
  rw [allFs_all, List.all_eq_true] at hca
  exact ⟨hcb, hca⟩

theorem formed_type {d : Nat} {T : Ty} (h : formedB d T = true) : 1 ≤ T.t ∧ T.t ≤ 15 := by
  obtain ⟨t, args⟩ := T
  simp only [formedB, Bool.and_eq_true, isTypeB, decide_eq_true_eq] at h
  exact h.1.2.1

/-- what is known of a value of a type that can be told -/
theorem pack_fits {T : Ty} {x : Va} (hv : hasV x T = true) (hc : packT T = true) :
    x.k = T.t ∧ x.a = 0 ∧ x.types = [] ∧ x.code = [] ∧ (T.t ≠ 6 → x.s = ⟨#[]⟩) ∧ fitsNF T.t x.n = true ∧ ∃ ts, argTys T x = some ts ∧ hasVs x.args ts = true := by
  obtain ⟨hcb, hca⟩ := pack_parts hc
  obtain ⟨hf, ts, hts, hhs⟩ := hasV_parts hv
  unfold fitsF at hf
  simp only [Bool.and_eq_true, decide_eq_true_eq, Bool.or_eq_true] at hf
  obtain ⟨⟨⟨⟨⟨hk, hN⟩, ha⟩, hsz⟩, hty⟩, hco⟩ := hf
  have ha0 : x.a = 0 := by
    rcases ha with h | h
    · exact h
    · exact absurd h.1 (by omega)
  have hty0 : x.types = [] := by
    unfold fitsTF at hty
    rw [if_neg (by omega), if_neg (by omega)] at hty
    exact List.eq_nil_of_length_eq_zero (by simpa using hty)
  have hco0 : x.code = [] := by
    rcases hco with h | h
    · exact List.eq_nil_of_length_eq_zero h
    · exact absurd h (by omega)
  refine ⟨hk, ha0, hty0, hco0, fun h6 => ?_, hN, ts, hts, hhs⟩
  have h0 : x.s.size = 0 := by
    rcases hsz with h | h
    · exact h
    · exact absurd h.1 h6
  have h2 : x.s.data = #[] := Array.eq_empty_of_size_eq_zero h0
  cases hx : x.s with
  | mk d => rw [hx] at h2; simp at h2; rw [h2]

theorem leaf_eq {x : Va} {t n : Int} {s : ByteArray} (hk : x.k = t) (hn : x.n = n) (ha : x.a = 0) (hs : x.s = s) (ht : x.types = []) (hc : x.code = []) : leafVa t n s x.args = x := by
  rw [Va.eta x, hk, hn, ha, hs, ht, hc]; rfl

theorem dataTs_len : ∀ l : List Va, (dataTs l).length = l.length
  | [] => rfl
  | x :: l => by simp [dataTs, dataTs_len l]

theorem dataT_eq (x : Va) : dataT x = writtenF x (dataTs x.args) := by cases x; rw [dataT]; rfl

/-- values of types without parts have no Args -/
theorem no_args {T : Ty} {x : Va} {d : Nat} {ts : List Ty} (hf : formedB d T = true) (ht : T.t ≤ 7) (hts : argTys T x = some ts) : x.args = [] := by
  obtain ⟨hlen, _⟩ := formed_args2 hf
  obtain ⟨h1, _⟩ := formed_type hf
  have hp : partsF T.t = 0 := by unfold partsF; rw [if_neg (by omega), if_neg (by omega)]
  unfold argTys at hts
  simp only at hts
  rw [if_neg (by omega), if_neg (by omega), if_neg (by omega), if_neg (by omega), if_neg (by omega), if_neg (by omega)] at hts
  split at hts
  · rename_i h
    exact List.eq_nil_of_length_eq_zero (by omega)
  · cases hts

/-- what is read of a written value, given that its Args are read as they were -/
theorem read_written {T : Ty} {x : Va} {d : Nat} (hv : hasV x T = true) (hp : packT T = true) (hf : formedB d T = true)
    (IH : ∀ ts d, hasVs x.args ts = true → (∀ U ∈ ts, packT U = true ∧ formedB d U = true) → readTs (dataTs x.args) ts = some x.args)
    (IE : ∀ us d, hasVs x.args (List.replicate x.args.length (.nd 11 us)) = true → (∀ U ∈ us, packT U = true ∧ formedB d U = true) → us.length = 2 → readEs ((dataTs x.args).map eltT) us = some x.args) :
    readT (writtenF x (dataTs x.args)) T = some x := by
  obtain ⟨hk, ha, hty, hco, hs, hN, ts, hts, hhs⟩ := pack_fits hv hp
  obtain ⟨hpt, hpa⟩ := pack_parts hp
  obtain ⟨hlen, hfa⟩ := formed_args2 hf
  have h15 := formed_type hf
  have hall : ∀ U ∈ T.args, packT U = true ∧ formedB (d + 1) U = true := fun U hU => ⟨hpa U hU, hfa U hU⟩
  by_cases h7 : T.t ≤ 7
  · have h0 := no_args hf h7 hts
    rcases (show T.t = 1 ∨ T.t = 2 ∨ T.t = 3 ∨ T.t = 4 ∨ T.t = 5 ∨ T.t = 6 ∨ T.t = 7 from by omega) with h | h | h | h | h | h | h
    all_goals
      have hk2 : x.k = T.t := hk
      rw [h] at hk hN
    · have hn : x.n = 0 := by simpa [fitsNF] using hN
      have e := leaf_eq hk hn ha (hs (by omega)) hty hco
      rw [h0] at e
      simp [writtenF, hk, primT, readT, h, branchF, readTs, e]
    · have hn : x.n = 0 ∨ x.n = 1 := by simpa [fitsNF] using hN
      rcases hn with hn | hn
      · have e := leaf_eq hk hn ha (hs (by omega)) hty hco
        rw [h0] at e
        simp [writtenF, hk, hn, primT, readT, h, branchF, readTs, e]
      · have e := leaf_eq hk hn ha (hs (by omega)) hty hco
        rw [h0] at e
        simp [writtenF, hk, hn, primT, readT, h, branchF, readTs, e]
    · have e := leaf_eq hk rfl ha (hs (by omega)) hty hco
      rw [h0] at e
      simp [writtenF, hk, readT, h, e]
    · have e := leaf_eq hk rfl ha (hs (by omega)) hty hco
      rw [h0] at e
      simp [writtenF, hk, readT, h, e]
    · have e := leaf_eq hk rfl ha (hs (by omega)) hty hco
      rw [h0] at e
      simp [writtenF, hk, readT, h, e]
    · have hn : x.n = 0 := by simpa [fitsNF] using hN
      have e := leaf_eq hk hn ha rfl hty hco
      rw [h0] at e
      simp [writtenF, hk, readT, h, e]
    · have e := leaf_eq hk rfl ha (hs (by omega)) hty hco
      rw [h0] at e
      simp [writtenF, hk, readT, h, e]
  · have hs0 := hs (by omega)
    rcases (show T.t = 9 ∨ T.t = 10 ∨ T.t = 11 ∨ T.t = 12 ∨ T.t = 13 from by omega) with h | h | h | h | h
    all_goals
      rw [h] at hk hN
    · have hn : x.n = 0 := by simpa [fitsNF] using hN
      have e := leaf_eq hk hn ha hs0 hty hco
      have hdl := dataTs_len x.args
      by_cases h0 : x.args.length = 0
      · have h00 : x.args = [] := List.eq_nil_of_length_eq_zero h0
        rw [h00] at e
        simp [writtenF, hk, h00, dataTs, primT, readT, h, branchF, readTs, e]
      · have hts2 : ts = T.args := by
          unfold argTys at hts
          simp only at hts
          rw [if_neg (by omega), if_neg (by omega), if_neg (by omega), if_neg (by omega), if_neg (by omega), if_neg (by omega)] at hts
          split at hts
          · exact (Option.some.inj hts).symm
          · cases hts
        subst hts2
        have hr := IH T.args (d + 1) hhs hall
        have hne : ¬ (dataTs x.args).length = 0 := by omega
        have hw : writtenF x (dataTs x.args) = primT 26 (dataTs x.args) := by
          unfold writtenF
          rw [if_neg (by omega), if_neg (by omega), if_neg (by omega), if_neg (by omega), if_pos hk, if_neg hne]
        rw [hw]
        simp [primT, readT, h, branchF, hr, e]
    · have hn : x.n = 0 := by simpa [fitsNF] using hN
      have e := leaf_eq hk hn ha hs0 hty hco
      have hts2 : ts = List.replicate x.args.length (tyAt T.args 0) := by
        unfold argTys at hts
        simp only at hts
        rw [if_neg (by omega), if_neg (by omega), if_pos h] at hts
        split at hts
        · exact (Option.some.inj hts).symm
        · cases hts
      subst hts2
      have hl1 : T.args.length = 1 := by rw [h] at hlen; simp [partsF] at hlen; omega
      have hin : tyAt T.args 0 ∈ T.args := by unfold tyAt; rw [List.getElem?_eq_getElem (by omega)]; exact List.getElem_mem _
      have hr := IH _ (d + 1) hhs (fun U hU => by rw [List.eq_of_mem_replicate hU]; exact hall _ hin)
      have hw : writtenF x (dataTs x.args) = .nd 3 0 0 ⟨#[]⟩ (dataTs x.args) := by
        unfold writtenF
        rw [if_neg (by omega), if_neg (by omega), if_neg (by omega), if_neg (by omega), if_neg (by omega), if_neg (by omega), if_neg (by omega), if_pos hk]
      rw [hw]
      simp [readT, h, dataTs_len, hr, e]
    · have hn : x.n = 0 := by simpa [fitsNF] using hN
      have e := leaf_eq hk hn ha hs0 hty hco
      have hts2 : ts = T.args := by
        unfold argTys at hts
        simp only at hts
        rw [if_neg (by omega), if_neg (by omega), if_neg (by omega), if_neg (by omega), if_neg (by omega), if_neg (by omega)] at hts
        split at hts
        · exact (Option.some.inj hts).symm
        · cases hts
      subst hts2
      have hr := IH T.args (d + 1) hhs hall
      have hw : writtenF x (dataTs x.args) = primT 23 (dataTs x.args) := by
        unfold writtenF
        rw [if_neg (by omega), if_neg (by omega), if_neg (by omega), if_neg (by omega), if_neg (by omega), if_pos hk]
      rw [hw]
      simp [primT, readT, h, branchF, hr, e]
    · have hn : x.n = 0 ∨ x.n = 1 := by simpa [fitsNF] using hN
      have hl2 : T.args.length = 2 := by rw [h] at hlen; simp [partsF] at hlen; omega
      have hts2 : ts = [tyAt T.args x.n.toNat] := by
        unfold argTys at hts
        simp only at hts
        rw [if_neg (by omega), if_neg (by omega), if_neg (by omega), if_neg (by omega), if_pos h] at hts
        split at hts
        · exact (Option.some.inj hts).symm
        · cases hts
      subst hts2
      obtain ⟨A, B, hAB⟩ : ∃ A B, T.args = [A, B] := by
        match T.args, hl2 with
        | [A, B], _ => exact ⟨A, B, rfl⟩
      rcases hn with hn | hn
      · have e := leaf_eq hk hn ha hs0 hty hco
        have ht : tyAt T.args x.n.toNat = A := by rw [hn, hAB]; rfl
        rw [ht] at hhs
        have hr := IH [A] (d + 1) hhs (fun U hU => by simp at hU; subst hU; exact hall U (by rw [hAB]; simp))
        have hw : writtenF x (dataTs x.args) = primT 24 (dataTs x.args) := by
          unfold writtenF
          rw [if_neg (by omega), if_neg (by omega), if_neg (by omega), if_neg (by omega), if_neg (by omega), if_neg (by omega), if_pos hk, if_pos hn]
        rw [hw]
        simp [primT, readT, h, branchF, hAB, hr, e]
      · have e := leaf_eq hk hn ha hs0 hty hco
        have ht : tyAt T.args x.n.toNat = B := by rw [hn, hAB]; rfl
        rw [ht] at hhs
        have hr := IH [B] (d + 1) hhs (fun U hU => by simp at hU; subst hU; exact hall U (by rw [hAB]; simp))
        have hw : writtenF x (dataTs x.args) = primT 25 (dataTs x.args) := by
          unfold writtenF
          rw [if_neg (by omega), if_neg (by omega), if_neg (by omega), if_neg (by omega), if_neg (by omega), if_neg (by omega), if_pos hk, if_neg (by omega)]
        rw [hw]
        simp [primT, readT, h, branchF, hAB, hr, e]
    · have hn : x.n = 0 := by simpa [fitsNF] using hN
      have e := leaf_eq hk hn ha hs0 hty hco
      have hl2 : T.args.length = 2 := by rw [h] at hlen; simp [partsF] at hlen; omega
      have hts2 : ts = List.replicate x.args.length (.nd 11 T.args) := by
        unfold argTys at hts
        simp only at hts
        rw [if_neg (by omega), if_neg (by omega), if_neg (by omega), if_pos h] at hts
        split at hts
        · exact (Option.some.inj hts).symm
        · cases hts
      subst hts2
      have hr := IE T.args (d + 1) hhs hall hl2
      have hw : writtenF x (dataTs x.args) = .nd 3 0 0 ⟨#[]⟩ ((dataTs x.args).map eltT) := by
        unfold writtenF
        rw [if_neg (by omega), if_neg (by omega), if_neg (by omega), if_neg (by omega), if_neg (by omega), if_neg (by omega), if_neg (by omega), if_neg (by omega), if_pos hk]
      rw [hw]
      simp [readT, h, hr, e]

theorem tys_11 {T : Ty} {x : Va} {ts : List Ty} (h : T.t = 11) (hts : argTys T x = some ts) : ts = T.args := by
  unfold argTys at hts
  simp only at hts
  rw [if_neg (by omega), if_neg (by omega), if_neg (by omega), if_neg (by omega), if_neg (by omega), if_neg (by omega)] at hts
  split at hts
  · exact (Option.some.inj hts).symm
  · cases hts

/-- a pair of two types that can be told -/
theorem pair_pack {us : List Ty} {d : Nat} (h : ∀ U ∈ us, packT U = true ∧ formedB d U = true) : packT (.nd 11 us) = true := by
  simp only [packT, allF, innAll, Bool.not_true, Bool.false_or, Bool.and_eq_true]
  refine ⟨by decide, ?_⟩
  rw [allFs_all, List.all_eq_true]
  exact fun U hU => (h U hU).1

mutual
theorem read_back : ∀ (x : Va) (T : Ty) (d : Nat), hasV x T = true → packT T = true → formedB d T = true → readT (dataT x) T = some x
  | .mk k n a s args ty co, T, d => by
    intro hv hp hf
    rw [dataT_eq]
    exact read_written hv hp hf (fun ts d h1 h2 => reads_back args ts d h1 h2) (fun us d h1 h2 h3 => elts_back args us d h1 h2 h3)
theorem reads_back : ∀ (xs : List Va) (ts : List Ty) (d : Nat), hasVs xs ts = true → (∀ U ∈ ts, packT U = true ∧ formedB d U = true) → readTs (dataTs xs) ts = some xs
  | [], [], _ => by intros; simp [dataTs, readTs]
  | [], _ :: _, _ => by intro h; simp [hasVs] at h
  | _ :: _, [], _ => by intro h; simp [hasVs] at h
  | x :: xs, T :: ts, d => by
    intro hv hp
    simp only [hasVs, Bool.and_eq_true] at hv
    have h1 := read_back x T d hv.1 (hp T (by simp)).1 (hp T (by simp)).2
    have h2 := reads_back xs ts d hv.2 (fun U hU => hp U (by simp [hU]))
    simp [dataTs, readTs, h1, h2]
theorem elts_back : ∀ (xs : List Va) (us : List Ty) (d : Nat), hasVs xs (List.replicate xs.length (.nd 11 us)) = true → (∀ U ∈ us, packT U = true ∧ formedB d U = true) → us.length = 2 → readEs ((dataTs xs).map eltT) us = some xs
  | [], _, _ => by intros; simp [dataTs, readEs]
  | .mk k n a s args ty co :: xs, us, d => by
    intro hv hp hl
    simp only [List.length_cons, List.replicate_succ, hasVs, Bool.and_eq_true] at hv
    obtain ⟨hk, ha, hty, hco, hs, hN, ts, hts, hhs⟩ := pack_fits hv.1 (pair_pack hp)
    have hn : (Va.mk k n a s args ty co).n = 0 := by simpa [fitsNF, Ty.t] using hN
    have hts2 : ts = us := by
      exact tys_11 rfl hts
    subst hts2
    have h1 := reads_back args ts d hhs hp
    have h2 := elts_back xs ts d hv.2 hp hl
    have hk2 : (Va.mk k n a s args ty co).k = 11 := hk
    have e := leaf_eq hk2 hn ha (hs (by simp [Ty.t])) hty hco
    have hw : dataT (.mk k n a s args ty co) = primT 23 (dataTs args) := by
      rw [dataT_eq]
      unfold writtenF
      rw [if_neg (by omega), if_neg (by omega), if_neg (by omega), if_neg (by omega), if_neg (by omega), if_pos hk2]
      rfl
    have e2 : leafVa 11 0 ⟨#[]⟩ args = .mk k n a s args ty co := e
    simp [dataTs, hw, primT, eltT, readEs, h1, h2, e2]
end

end Go.Proofs.Ytmmgihaoahhkjaa

/- The tree of a value as it is told with a count that leaves off behind MaxNodes: plain data. -/
namespace Go.Proofs.Ytmmgihaoahhkjaa
set_option linter.unusedVariables false

mutual
def cntV : Va → Nat
  | .mk _ _ _ _ args _ _ => cntVs args + 1
def cntVs : List Va → Nat
  | [] => 0
  | x :: xs => cntV x + cntVs xs
end

mutual
/-- the count behind it, and the tree -/
def tellV (c : Nat) : Va → Nat × Tr
  | .mk k n a s args ty co => ((tellVs (c + 1) args).1, writtenF (.mk k n a s args ty co) (tellVs (c + 1) args).2)
def tellVs (c : Nat) : List Va → Nat × List Tr
  | [] => (c, [])
  | x :: xs => if 300 < c then (c, []) else ((tellVs (tellV c x).1 xs).1, (tellV c x).2 :: (tellVs (tellV c x).1 xs).2)
end

theorem cntV_pos (x : Va) : 1 ≤ cntV x := by cases x; simp [cntV]

mutual
/-- where there are not too many, it is the whole tree -/
theorem tell_full : ∀ (x : Va) (c : Nat), c + cntV x ≤ 301 → tellV c x = (c + cntV x, dataT x)
  | .mk k n a s args ty co, c => by
    intro h
    rw [cntV] at h
    have ih := tells_full args (c + 1) (by omega)
    rw [tellV, ih, cntV, dataT]
    simp only [Prod.mk.injEq, and_true]
    omega
theorem tells_full : ∀ (xs : List Va) (c : Nat), c + cntVs xs ≤ 301 → tellVs c xs = (c + cntVs xs, dataTs xs)
  | [], c => by intro _; simp [tellVs, cntVs, dataTs]
  | x :: xs, c => by
    intro h
    rw [cntVs] at h
    have h1 := cntV_pos x
    have ih := tell_full x c (by omega)
    have ih2 := tells_full xs (c + cntV x) (by omega)
    rw [tellVs, if_neg (by omega), ih, ih2, cntVs, dataTs]
    simp only [Prod.mk.injEq, and_true]
    omega
end

mutual
/-- the count never goes beyond the first that is one too many -/
theorem tell_most : ∀ (x : Va) (c : Nat), c ≤ 300 → c < (tellV c x).1 ∧ (tellV c x).1 ≤ 301 ∧ (301 ≤ c + cntV x → (tellV c x).1 = 301)
  | .mk k n a s args ty co, c => by
    intro h
    rw [tellV, cntV]
    by_cases hc : c + 1 ≤ 300
    · obtain ⟨h1, h2, h3⟩ := tells_most args (c + 1) (by omega)
      exact ⟨by simp only; omega, by simp only; omega, fun hh => by simp only; exact h3 (by omega)⟩
    · have e : c + 1 = 301 := by omega
      rw [e]
      cases args with
      | nil => simp [tellVs, cntVs]; omega
      | cons x xs => simp [tellVs]; omega
theorem tells_most : ∀ (xs : List Va) (c : Nat), c ≤ 300 → c ≤ (tellVs c xs).1 ∧ (tellVs c xs).1 ≤ 301 ∧ (301 ≤ c + cntVs xs → (tellVs c xs).1 = 301)
  | [], c => by intro h; simp [tellVs, cntVs]; omega
  | x :: xs, c => by
    intro h
    obtain ⟨h1, h2, h3⟩ := tell_most x c h
    rw [tellVs, if_neg (by omega), cntVs]
    simp only
    by_cases hc : (tellV c x).1 ≤ 300
    · obtain ⟨k1, k2, k3⟩ := tells_most xs (tellV c x).1 hc
      refine ⟨by omega, k2, fun hh => ?_⟩
      by_cases hx : 301 ≤ c + cntV x
      · have := h3 hx; omega
      · have e := tell_full x c (by omega)
        rw [e] at k3 ⊢
        exact k3 (by simp only; omega)
    · have e : (tellV c x).1 = 301 := by omega
      rw [e]
      cases xs with
      | nil => simp [tellVs]; omega
      | cons y ys => simp [tellVs]; omega
end

end Go.Proofs.Ytmmgihaoahhkjaa

/- What Good says of a value's tree: the same of what was told before it was left off as of the whole. -/
namespace Go.Proofs.Ytmmgihaoahhkjaa
set_option linter.unusedVariables false

/-- nothing is wrong with it but that it may be too deep -/
def AllOk (t : Tr) : Prop := ∀ d, firstW d t = 0 ∨ firstW d t = 4

theorem firsts_ok : ∀ {l : List Tr}, (∀ t ∈ l, AllOk t) → ∀ d, firstWs d l = 0 ∨ firstWs d l = 4
  | [], _, d => by simp [firstWs]
  | t :: l, h, d => by
    rw [firstWs]
    rcases h t (by simp) d with h1 | h1
    · rw [if_neg (by simpa using h1)]; exact firsts_ok (fun z hz => h z (by simp [hz])) d
    · rw [if_pos (by rw [h1]; decide)]; exact .inr h1

theorem node_ok {k n p : Int} {s : ByteArray} {l : List Tr} (hw : Lf.wrongF k n p s l.length = 0) (h : ∀ t ∈ l, AllOk t) : AllOk (.nd k n p s l) := by
  intro d
  rw [firstW]
  by_cases hd : 24 < d
  · rw [if_pos hd]; exact .inr rfl
  · rw [if_neg hd, if_neg (by simpa using hw)]; exact firsts_ok h (d + 1)

theorem wrong_prim (p : Int) (h : Lf.isPrimB p = true) (l : Nat) : Lf.wrongF 2 0 p ⟨#[]⟩ l = 0 := by
  unfold Lf.wrongF
  rw [if_neg (by decide), if_neg (by rw [h]; simp), if_neg (by simp [Lf.moreB]; rfl), if_neg (by omega), if_neg (by decide)]

theorem wrong_seq (l : Nat) : Lf.wrongF 3 0 0 ⟨#[]⟩ l = 0 := by
  unfold Lf.wrongF
  rw [if_neg (by decide), if_neg (by omega), if_neg (by simp [Lf.moreB]; rfl), if_neg (by omega), if_neg (by decide)]

theorem wrong_int (n : Int) (h : -1152921504606846976 ≤ n ∧ n ≤ 1152921504606846976) : Lf.wrongF 0 n 0 ⟨#[]⟩ 0 = 0 := by
  unfold Lf.wrongF
  rw [if_neg (by decide), if_neg (by omega), if_neg (by simp [Lf.moreB]; rfl), if_neg (by omega), if_neg (by decide)]

theorem wrong_text (s : ByteArray) (h : s.size ≤ 200) : Lf.wrongF 1 0 0 s 0 = 0 := by
  unfold Lf.wrongF
  rw [if_neg (by decide), if_neg (by omega), if_neg (by simp [Lf.moreB]), if_neg (by omega), if_neg (by omega)]

theorem prim_ok {p : Int} {l : List Tr} (hp : Lf.isPrimB p = true) (h : ∀ t ∈ l, AllOk t) : AllOk (primT p l) := node_ok (wrong_prim p hp _) h

theorem elt_size (t : Tr) : (eltT t).size = t.size := by cases t; simp [eltT, Tr.size]
theorem elts_size : ∀ l : List Tr, sizes (l.map eltT) = sizes l
  | [] => rfl
  | t :: l => by simp [sizes, elt_size, elts_size l]

/-- the types of the Args of a value that can be told -/
theorem ts_ok {T : Ty} {x : Va} {d : Nat} {ts : List Ty} (hv : hasV x T = true) (hp : packT T = true) (hf : formedB d T = true) (hts : argTys T x = some ts) : ∀ U ∈ ts, packT U = true ∧ ∃ d', formedB d' U = true := by
  obtain ⟨hk, ha, hty, hco, hs, hN, ts', hts', hhs⟩ := pack_fits hv hp
  obtain ⟨hpt, hpa⟩ := pack_parts hp
  obtain ⟨hlen, hfa⟩ := formed_args2 hf
  have hall : ∀ U ∈ T.args, packT U = true ∧ ∃ d', formedB d' U = true := fun U hU => ⟨hpa U hU, d + 1, hfa U hU⟩
  unfold argTys at hts
  simp only at hts
  rw [if_neg (by omega)] at hts
  intro U hU
  split at hts
  · simp only [Option.some.injEq] at hts; subst hts; simp at hU
  · split at hts
    · rename_i h10
      split at hts
      · simp only [Option.some.injEq] at hts
        subst hts
        rw [List.eq_of_mem_replicate hU]
        have hl1 : T.args.length = 1 := by rw [h10] at hlen; simp [partsF] at hlen; omega
        exact hall _ (by unfold tyAt; rw [List.getElem?_eq_getElem (by omega)]; exact List.getElem_mem _)
      · cases hts
    · split at hts
      · rename_i h13
        split at hts
        · simp only [Option.some.injEq] at hts
          subst hts
          rw [List.eq_of_mem_replicate hU]
          refine ⟨pair_pack (d := d + 1) (fun V hV => ⟨hpa V hV, hfa V hV⟩), d, ?_⟩
          obtain ⟨t, args⟩ := T
          simp only [Ty.t] at h13
          subst h13
          simp only [formedB, Bool.and_eq_true, decide_eq_true_eq, Ty.args] at hf ⊢
          refine ⟨⟨hf.1.1, by decide, ?_⟩, hf.2⟩
          have := hf.1.2.2
          simp [partsF] at this ⊢
          exact this
        · cases hts
      · split at hts
        · rename_i h12
          split at hts
          · simp only [Option.some.injEq] at hts
            subst hts
            simp only [List.mem_singleton] at hU
            subst hU
            have hl2 : T.args.length = 2 := by rw [h12] at hlen; simp [partsF] at hlen; omega
            have hn : x.n = 0 ∨ x.n = 1 := by rw [h12] at hN; simpa [fitsNF] using hN
            exact hall _ (by unfold tyAt; rw [List.getElem?_eq_getElem (by omega)]; exact List.getElem_mem _)
          · cases hts
        · rw [if_neg (by omega)] at hts
          split at hts
          · simp only [Option.some.injEq] at hts; subst hts; exact hall U hU
          · cases hts

def PairTr (t : Tr) : Prop := ∃ l', t = primT 23 l' ∧ ∀ u ∈ l', AllOk u

theorem text_short {T : Ty} {x : Va} (hv : hasV x T = true) (h6 : T.t = 6) : x.s.size ≤ 200 := by
  obtain ⟨hf, _⟩ := hasV_parts hv
  unfold fitsF at hf
  simp only [Bool.and_eq_true, decide_eq_true_eq, Bool.or_eq_true] at hf
  rcases hf.1.1.2 with h | h
  · omega
  · exact h.2

/-- what is written of a value, of trees that are fine -/
theorem written_ok {T : Ty} {x : Va} {d : Nat} (hv : hasV x T = true) (hp : packT T = true) (hf : formedB d T = true) (l : List Tr) (h0 : x.args = [] → l = []) (hl : ∀ t ∈ l, AllOk t) (hm : T.t = 13 → ∀ t ∈ l, PairTr t) :
    AllOk (writtenF x l) ∧ (writtenF x l).size = sizes l + 1 ∧ (T.t = 11 → PairTr (writtenF x l)) := by
  obtain ⟨hk, ha, hty, hco, hs, hN, ts, hts, hhs⟩ := pack_fits hv hp
  obtain ⟨hpt, hpa⟩ := pack_parts hp
  have h15 := formed_type hf
  by_cases h7 : T.t ≤ 7
  · have hl0 := h0 (no_args hf h7 hts)
    subst hl0
    rcases (show T.t = 1 ∨ T.t = 2 ∨ T.t = 3 ∨ T.t = 4 ∨ T.t = 5 ∨ T.t = 6 ∨ T.t = 7 from by omega) with h | h | h | h | h | h | h
    all_goals
      rw [h] at hk hN
      refine ⟨?_, ?_, fun e => by omega⟩
    · simp only [writtenF, hk, if_true]; exact prim_ok rfl hl
    · simp [writtenF, hk, primT, Tr.size, sizes]
    · have e : writtenF x [] = primT (if x.n = 0 then 22 else 21) [] := by unfold writtenF; rw [if_neg (by omega), if_pos hk]
      rw [e]; split <;> exact prim_ok rfl hl
    · have e : writtenF x [] = primT (if x.n = 0 then 22 else 21) [] := by unfold writtenF; rw [if_neg (by omega), if_pos hk]
      rw [e]; simp [primT, Tr.size, sizes]
    all_goals first
      | (have e : writtenF x [] = .nd 0 x.n 0 ⟨#[]⟩ [] := (by unfold writtenF; rw [if_neg (by omega), if_neg (by omega), if_pos (by omega)])
         rw [e]
         first
           | exact node_ok (wrong_int x.n (by simp [fitsNF, inB, amountB, addrB] at hN; omega)) hl
           | simp [Tr.size, sizes])
      | (have e : writtenF x [] = .nd 1 0 0 x.s [] := (by unfold writtenF; rw [if_neg (by omega), if_neg (by omega), if_neg (by omega), if_pos (by omega)])
         rw [e]
         first
           | exact node_ok (wrong_text x.s (text_short hv h)) hl
           | simp [Tr.size, sizes])
  · rcases (show T.t = 9 ∨ T.t = 10 ∨ T.t = 11 ∨ T.t = 12 ∨ T.t = 13 from by omega) with h | h | h | h | h
    all_goals
      rw [h] at hk hN
    · have e : writtenF x l = primT (if l.length = 0 then 27 else 26) l := by unfold writtenF; rw [if_neg (by omega), if_neg (by omega), if_neg (by omega), if_neg (by omega), if_pos hk]
      rw [e]
      exact ⟨by split <;> exact prim_ok rfl hl, by simp [primT, Tr.size], fun e => by omega⟩
    · have e : writtenF x l = .nd 3 0 0 ⟨#[]⟩ l := by unfold writtenF; rw [if_neg (by omega), if_neg (by omega), if_neg (by omega), if_neg (by omega), if_neg (by omega), if_neg (by omega), if_neg (by omega), if_pos hk]
      rw [e]
      exact ⟨node_ok (wrong_seq _) hl, by simp [Tr.size], fun e => by omega⟩
    · have e : writtenF x l = primT 23 l := by unfold writtenF; rw [if_neg (by omega), if_neg (by omega), if_neg (by omega), if_neg (by omega), if_neg (by omega), if_pos hk]
      rw [e]
      exact ⟨prim_ok rfl hl, by simp [primT, Tr.size], fun _ => ⟨l, rfl, hl⟩⟩
    · have e : writtenF x l = primT (if x.n = 0 then 24 else 25) l := by unfold writtenF; rw [if_neg (by omega), if_neg (by omega), if_neg (by omega), if_neg (by omega), if_neg (by omega), if_neg (by omega), if_pos hk]
      rw [e]
      exact ⟨by split <;> exact prim_ok rfl hl, by simp [primT, Tr.size], fun e => by omega⟩
    · have e : writtenF x l = .nd 3 0 0 ⟨#[]⟩ (l.map eltT) := by unfold writtenF; rw [if_neg (by omega), if_neg (by omega), if_neg (by omega), if_neg (by omega), if_neg (by omega), if_neg (by omega), if_neg (by omega), if_neg (by omega), if_pos hk]
      rw [e]
      refine ⟨node_ok (wrong_seq _) (fun t ht => ?_), by simp [Tr.size, elts_size], fun e => by omega⟩
      obtain ⟨u, hu, rfl⟩ := List.mem_map.1 ht
      obtain ⟨l', rfl, hl'⟩ := hm h u hu
      exact prim_ok (p := 28) rfl hl'

theorem tys_13 {T : Ty} {x : Va} {ts : List Ty} (h : T.t = 13) (hts : argTys T x = some ts) : ∀ U ∈ ts, U.t = 11 := by
  unfold argTys at hts
  simp only at hts
  rw [if_neg (by omega), if_neg (by omega), if_neg (by omega), if_pos h] at hts
  split at hts
  · simp only [Option.some.injEq] at hts
    subst hts
    intro U hU
    rw [List.eq_of_mem_replicate hU]; rfl
  · cases hts

theorem tellVs_nil (c : Nat) : (tellVs c []).2 = [] := by simp [tellVs]

mutual
/-- what was told is fine, and as large as it counts -/
theorem tell_ok : ∀ (x : Va) (T : Ty) (d c : Nat), hasV x T = true → packT T = true → formedB d T = true → AllOk (tellV c x).2 ∧ (tellV c x).2.size + c = (tellV c x).1 ∧ (T.t = 11 → PairTr (tellV c x).2)
  | .mk k n a s args ty co, T, d, c => by
    intro hv hp hf
    obtain ⟨hk, ha, hty, hco, hs, hN, ts, hts, hhs⟩ := pack_fits hv hp
    obtain ⟨h1, h2, h3⟩ := tells_ok args ts (c + 1) hhs (ts_ok hv hp hf hts)
    obtain ⟨w1, w2, w3⟩ := written_ok hv hp hf (tellVs (c + 1) args).2 (fun e => by have e' : args = [] := e; rw [e', tellVs_nil]) h1 (fun h t ht => h3 (tys_13 h hts) t ht)
    rw [tellV]
    exact ⟨w1, by simp only; rw [w2]; omega, w3⟩
theorem tells_ok : ∀ (xs : List Va) (ts : List Ty) (c : Nat), hasVs xs ts = true → (∀ U ∈ ts, packT U = true ∧ ∃ d, formedB d U = true) → (∀ t ∈ (tellVs c xs).2, AllOk t) ∧ sizes (tellVs c xs).2 + c = (tellVs c xs).1 ∧ ((∀ U ∈ ts, U.t = 11) → ∀ t ∈ (tellVs c xs).2, PairTr t)
  | [], _, c => by intros; simp [tellVs, sizes]
  | _ :: _, [], _ => by intro h; simp [hasVs] at h
  | x :: xs, T :: ts, c => by
    intro hv hp
    simp only [hasVs, Bool.and_eq_true] at hv
    obtain ⟨hpt, d, hft⟩ := hp T (by simp)
    obtain ⟨a1, a2, a3⟩ := tell_ok x T d c hv.1 hpt hft
    obtain ⟨b1, b2, b3⟩ := tells_ok xs ts (tellV c x).1 hv.2 (fun U hU => hp U (by simp [hU]))
    rw [tellVs]
    split
    · simp [sizes]
    · refine ⟨?_, ?_, ?_⟩
      · intro t ht
        rcases List.mem_cons.1 ht with rfl | ht
        · exact a1
        · exact b1 t ht
      · simp only [sizes]; omega
      · intro h t ht
        rcases List.mem_cons.1 ht with rfl | ht
        · exact a3 (h T (by simp))
        · exact b3 (fun U hU => h U (by simp [hU])) t ht
end

theorem dataTs_nil : dataTs [] = [] := by simp [dataTs]

mutual
/-- the whole tree is fine, and as large as it counts -/
theorem data_ok : ∀ (x : Va) (T : Ty) (d : Nat), hasV x T = true → packT T = true → formedB d T = true → AllOk (dataT x) ∧ (dataT x).size = cntV x ∧ (T.t = 11 → PairTr (dataT x))
  | .mk k n a s args ty co, T, d => by
    intro hv hp hf
    obtain ⟨hk, ha, hty, hco, hs, hN, ts, hts, hhs⟩ := pack_fits hv hp
    obtain ⟨h1, h2, h3⟩ := datas_ok args ts hhs (ts_ok hv hp hf hts)
    obtain ⟨w1, w2, w3⟩ := written_ok hv hp hf (dataTs args) (fun e => by have e' : args = [] := e; rw [e', dataTs_nil]) h1 (fun h t ht => h3 (tys_13 h hts) t ht)
    rw [dataT, cntV]
    exact ⟨w1, by rw [w2]; omega, w3⟩
theorem datas_ok : ∀ (xs : List Va) (ts : List Ty), hasVs xs ts = true → (∀ U ∈ ts, packT U = true ∧ ∃ d, formedB d U = true) → (∀ t ∈ dataTs xs, AllOk t) ∧ sizes (dataTs xs) = cntVs xs ∧ ((∀ U ∈ ts, U.t = 11) → ∀ t ∈ dataTs xs, PairTr t)
  | [], _ => by intros; simp [dataTs, sizes, cntVs]
  | _ :: _, [] => by intro h; simp [hasVs] at h
  | x :: xs, T :: ts => by
    intro hv hp
    simp only [hasVs, Bool.and_eq_true] at hv
    obtain ⟨hpt, d, hft⟩ := hp T (by simp)
    obtain ⟨a1, a2, a3⟩ := data_ok x T d hv.1 hpt hft
    obtain ⟨b1, b2, b3⟩ := datas_ok xs ts hv.2 (fun U hU => hp U (by simp [hU]))
    rw [dataTs, cntVs]
    refine ⟨?_, ?_, ?_⟩
    · intro t ht
      rcases List.mem_cons.1 ht with rfl | ht
      · exact a1
      · exact b1 t ht
    · simp only [sizes]; omega
    · intro h t ht
      rcases List.mem_cons.1 ht with rfl | ht
      · exact a3 (h T (by simp))
      · exact b3 (fun U hU => h U (by simp [hU])) t ht
end

/-- what is told of a value -/
def toldF (x : Va) : Tr := (tellV 0 x).2

theorem long_four {t : Tr} (h : AllOk t) (hs : 300 < t.size) : goodF t = 4 := by
  unfold goodF
  rcases h 1 with h1 | h1
  · rw [if_neg (by simpa using h1), if_pos hs]
  · rw [if_pos (by rw [h1]; decide), h1]

/-- Good says the same of what was told as of the whole, and where it is good it is the whole -/
theorem told_good {x : Va} {T : Ty} {d : Nat} (hv : hasV x T = true) (hp : packT T = true) (hf : formedB d T = true) : goodF (toldF x) = goodF (dataT x) ∧ (goodF (toldF x) = 0 → toldF x = dataT x) ∧ (toldF x).size ≤ 301 := by
  obtain ⟨a1, a2, _⟩ := tell_ok x T d 0 hv hp hf
  obtain ⟨b1, b2, _⟩ := data_ok x T d hv hp hf
  obtain ⟨c1, c2, c3⟩ := tell_most x 0 (by omega)
  unfold toldF
  by_cases h : cntV x ≤ 301
  · have e := tell_full x 0 (by omega)
    rw [e]
    exact ⟨rfl, fun _ => rfl, by simp only; omega⟩
  · have h1 := c3 (by omega)
    have g1 := long_four a1 (by omega)
    have g2 := long_four b1 (by omega)
    rw [g1, g2]
    exact ⟨rfl, fun e => absurd e (by decide), by omega⟩

end Go.Proofs.Ytmmgihaoahhkjaa

/- A good tree that is read as a value is that value's tree: plain data. -/
namespace Go.Proofs.Ytmmgihaoahhkjaa
set_option linter.unusedVariables false

theorem wr_parts {k n p : Int} {s : ByteArray} {l : Nat} (h : Lf.wrongF k n p s l = 0) : (0 ≤ k ∧ k ≤ 3) ∧ Lf.moreB k n p s l = false := by
  unfold Lf.wrongF at h
  split at h
  · cases h
  · rename_i hk
    have hk2 : Lf.isKindB k = true := by simpa using hk
    unfold Lf.isKindB at hk2
    simp only [decide_eq_true_eq] at hk2
    refine ⟨hk2, ?_⟩
    split at h
    · cases h
    · split at h
      · cases h
      · rename_i hm; simpa using hm

/-- a leaf of a number -/
theorem more0 {n p : Int} {s : ByteArray} {l : List Tr} (h : Lf.moreB 0 n p s l.length = false) : p = 0 ∧ s = ⟨#[]⟩ ∧ l = [] := by
  simp [Lf.moreB] at h
  exact ⟨h.1, h.2.1.trans rfl, h.2.2⟩
theorem more1 {n p : Int} {s : ByteArray} {l : List Tr} (h : Lf.moreB 1 n p s l.length = false) : n = 0 ∧ p = 0 ∧ l = [] := by
  simp [Lf.moreB] at h
  exact h
theorem more2 {n p : Int} {s : ByteArray} {l : Nat} (h : Lf.moreB 2 n p s l = false) : n = 0 ∧ s = ⟨#[]⟩ := by
  simp [Lf.moreB] at h
  exact ⟨h.1, h.2.trans rfl⟩
theorem more3 {n p : Int} {s : ByteArray} {l : Nat} (h : Lf.moreB 3 n p s l = false) : n = 0 ∧ p = 0 ∧ s = ⟨#[]⟩ := by
  simp [Lf.moreB] at h
  exact ⟨h.1, h.2.1, h.2.2.trans rfl⟩

/-- what has a primitive is of the kind Prim -/
theorem prim_kind {k n p : Int} {s : ByteArray} {l : List Tr} (hk : 0 ≤ k ∧ k ≤ 3) (h : Lf.moreB k n p s l.length = false) (hp : p ≠ 0) : k = 2 ∧ n = 0 ∧ s = ⟨#[]⟩ := by
  rcases (show k = 0 ∨ k = 1 ∨ k = 2 ∨ k = 3 from by omega) with rfl | rfl | rfl | rfl
  · exact absurd (more0 h).1 hp
  · exact absurd (more1 h).2.1 hp
  · exact ⟨rfl, more2 h⟩
  · exact absurd (more3 h).2.1 hp

theorem first_parts {e : Nat} {k n p : Int} {s : ByteArray} {l : List Tr} (h : firstW e (.nd k n p s l) = 0) : (0 ≤ k ∧ k ≤ 3) ∧ Lf.moreB k n p s l.length = false ∧ firstWs (e + 1) l = 0 := by
  rw [firstW] at h
  split at h
  · cases h
  · split at h
    · rename_i h1; exact absurd h h1
    · rename_i h1
      have h2 : Lf.wrongF k n p s l.length = 0 := by simpa using h1
      exact ⟨(wr_parts h2).1, (wr_parts h2).2, h⟩

theorem branch_parts {T : Ty} {p m : Int} {ts : List Ty} (h : branchF T p = some (m, ts)) : (T.t = 1 ∧ p = 20 ∧ m = 0 ∧ ts = []) ∨ (T.t = 2 ∧ p = 22 ∧ m = 0 ∧ ts = []) ∨ (T.t = 2 ∧ p = 21 ∧ m = 1 ∧ ts = []) ∨ (T.t = 9 ∧ p = 27 ∧ m = 0 ∧ ts = []) ∨ (T.t = 9 ∧ p = 26 ∧ m = 0 ∧ ts = T.args) ∨ (T.t = 11 ∧ p = 23 ∧ m = 0 ∧ ts = T.args) ∨ (T.t = 12 ∧ p = 24 ∧ m = 0 ∧ ts = T.args.take 1) ∨ (T.t = 12 ∧ p = 25 ∧ m = 1 ∧ ts = T.args.drop 1) := by
  unfold branchF at h
  repeat' split at h
  all_goals first
    | (simp only [Option.some.injEq, Prod.mk.injEq] at h; obtain ⟨rfl, rfl⟩ := h; rename_i q; simp [q])
    | cases h

theorem readTs_nil {l : List Tr} {ys : List Va} (h : readTs l [] = some ys) : l = [] ∧ ys = [] := by
  cases l with
  | nil => simp [readTs] at h; exact ⟨rfl, h⟩
  | cons t l => simp [readTs] at h

theorem readTs_length : ∀ (l : List Tr) (ts : List Ty) (ys : List Va), readTs l ts = some ys → ys.length = ts.length
  | [], [], ys => by intro h; simp [readTs] at h; subst h; rfl
  | [], _ :: _, ys => by intro h; simp [readTs] at h
  | _ :: _, [], ys => by intro h; simp [readTs] at h
  | t :: l, T :: ts, ys => by
    intro h
    rw [readTs] at h
    cases hx : readT t T with
    | none => rw [hx] at h; cases h
    | some x =>
      rw [hx] at h
      simp only [Option.map_eq_some_iff] at h
      obtain ⟨zs, h1, rfl⟩ := h
      simp [readTs_length l ts zs h1]

theorem leaf_data (t m : Int) (s : ByteArray) (ys : List Va) : dataT (leafVa t m s ys) = writtenF (leafVa t m s ys) (dataTs ys) := by rw [dataT_eq]; rfl

mutual
theorem read_only : ∀ (t : Tr) (T : Ty) (x : Va) (e d : Nat), readT t T = some x → formedB d T = true → firstW e t = 0 → dataT x = t
  | .nd k n p s args, T, x, e, d => by
    intro h hf hw
    obtain ⟨hk, hm, hws⟩ := first_parts hw
    obtain ⟨hlen, hfa⟩ := formed_args2 hf
    rw [readT] at h
    split at h
    · rename_i ht
      split at h
      · rename_i hk0
        subst hk0
        obtain ⟨rfl, rfl, rfl⟩ := more0 hm
        simp only [Option.some.injEq] at h
        subst h
        rw [leaf_data]
        rcases ht with q | q | q | q <;> (rw [q]; rfl)
      · cases h
    · split at h
      · rename_i ht
        split at h
        · rename_i hk1
          subst hk1
          obtain ⟨rfl, rfl, rfl⟩ := more1 hm
          simp only [Option.some.injEq] at h
          subst h
          rfl
        · cases h
      · split at h
        · rename_i ht
          split at h
          · rename_i hk3
            subst hk3
            obtain ⟨rfl, rfl, rfl⟩ := more3 hm
            simp only [Option.map_eq_some_iff] at h
            obtain ⟨ys, h1, rfl⟩ := h
            have hl1 : T.args.length = 1 := by rw [ht] at hlen; simp [partsF] at hlen; omega
            have hin : tyAt T.args 0 ∈ T.args := by unfold tyAt; rw [List.getElem?_eq_getElem (by omega)]; exact List.getElem_mem _
            have ih := reads_only args _ ys (e + 1) (d + 1) h1 (fun U hU => by rw [List.eq_of_mem_replicate hU]; exact hfa _ hin) hws
            rw [leaf_data, ih]
            rfl
          · cases h
        · split at h
          · rename_i ht
            split at h
            · rename_i hk3
              subst hk3
              obtain ⟨rfl, rfl, rfl⟩ := more3 hm
              simp only [Option.map_eq_some_iff] at h
              obtain ⟨ys, h1, rfl⟩ := h
              have ih := elts_only args _ ys (e + 1) (d + 1) h1 hfa hws
              rw [leaf_data]
              show Tr.nd 3 0 0 ⟨#[]⟩ ((dataTs ys).map eltT) = _
              rw [ih]
            · cases h
          · split at h
            · cases h
            · rename_i m ts hbr
              simp only [Option.map_eq_some_iff] at h
              obtain ⟨ys, h1, rfl⟩ := h
              have hsub : ∀ U ∈ ts, U ∈ T.args := by
                intro U hU
                rcases branch_parts hbr with ⟨_, _, _, q⟩ | ⟨_, _, _, q⟩ | ⟨_, _, _, q⟩ | ⟨_, _, _, q⟩ | ⟨_, _, _, q⟩ | ⟨_, _, _, q⟩ | ⟨_, _, _, q⟩ | ⟨_, _, _, q⟩ <;> rw [q] at hU
                · simp at hU
                · simp at hU
                · simp at hU
                · simp at hU
                · exact hU
                · exact hU
                · exact List.mem_of_mem_take hU
                · exact List.mem_of_mem_drop hU
              have ih := reads_only args ts ys (e + 1) (d + 1) h1 (fun U hU => hfa U (hsub U hU)) hws
              have hyl := readTs_length _ _ _ h1
              have hdl := dataTs_len ys
              rw [leaf_data]
              rcases branch_parts hbr with ⟨q, rfl, rfl, rfl⟩ | ⟨q, rfl, rfl, rfl⟩ | ⟨q, rfl, rfl, rfl⟩ | ⟨q, rfl, rfl, rfl⟩ | ⟨q, rfl, rfl, rfl⟩ | ⟨q, rfl, rfl, rfl⟩ | ⟨q, rfl, rfl, rfl⟩ | ⟨q, rfl, rfl, rfl⟩
              all_goals
                obtain ⟨rfl, rfl, rfl⟩ := prim_kind hk hm (by omega)
                rw [q]
              · obtain ⟨rfl, rfl⟩ := readTs_nil h1; rfl
              · obtain ⟨rfl, rfl⟩ := readTs_nil h1; rfl
              · obtain ⟨rfl, rfl⟩ := readTs_nil h1; rfl
              · obtain ⟨rfl, rfl⟩ := readTs_nil h1; rfl
              · have hl1 : T.args.length = 1 := by rw [q] at hlen; simp [partsF] at hlen; omega
                show primT (if (dataTs ys).length = 0 then 27 else 26) (dataTs ys) = _
                rw [if_neg (by omega), ih]; rfl
              · show primT 23 (dataTs ys) = _
                rw [ih]; rfl
              · show primT 24 (dataTs ys) = _
                rw [ih]; rfl
              · show primT 25 (dataTs ys) = _
                rw [ih]; rfl
theorem reads_only : ∀ (l : List Tr) (ts : List Ty) (xs : List Va) (e d : Nat), readTs l ts = some xs → (∀ U ∈ ts, formedB d U = true) → firstWs e l = 0 → dataTs xs = l
  | [], [], xs, _, _ => by intro h _ _; simp [readTs] at h; subst h; rfl
  | [], _ :: _, xs, _, _ => by intro h; simp [readTs] at h
  | _ :: _, [], xs, _, _ => by intro h; simp [readTs] at h
  | t :: l, T :: ts, xs, e, d => by
    intro h hf hw
    rw [firstWs] at hw
    have hw1 : firstW e t = 0 := by
      by_cases q : firstW e t = 0
      · exact q
      · rw [if_pos q] at hw; exact hw
    rw [if_neg (by simpa using hw1)] at hw
    rw [readTs] at h
    cases hx : readT t T with
    | none => rw [hx] at h; cases h
    | some x =>
      rw [hx] at h
      simp only [Option.map_eq_some_iff] at h
      obtain ⟨ys, h1, rfl⟩ := h
      rw [dataTs, read_only t T x e d hx (hf T (by simp)) hw1, reads_only l ts ys e d h1 (fun U hU => hf U (by simp [hU])) hw]
theorem elts_only : ∀ (l : List Tr) (us : List Ty) (xs : List Va) (e d : Nat), readEs l us = some xs → (∀ U ∈ us, formedB d U = true) → firstWs e l = 0 → (dataTs xs).map eltT = l
  | [], us, xs, _, _ => by intro h _ _; simp [readEs] at h; subst h; rfl
  | .nd k n p s args :: l, us, xs, e, d => by
    intro h hf hw
    rw [firstWs] at hw
    have hw1 : firstW e (.nd k n p s args) = 0 := by
      by_cases q : firstW e (.nd k n p s args) = 0
      · exact q
      · rw [if_pos q] at hw; exact hw
    rw [if_neg (by simpa using hw1)] at hw
    obtain ⟨hk, hm, hws⟩ := first_parts hw1
    rw [readEs] at h
    cases hx : readTs args us with
    | none => rw [hx] at h; cases h
    | some ys =>
      rw [hx] at h
      simp only at h
      split at h
      · rename_i hp
        subst hp
        obtain ⟨rfl, rfl, rfl⟩ := prim_kind hk hm (by omega)
        simp only [Option.map_eq_some_iff] at h
        obtain ⟨zs, h1, rfl⟩ := h
        have i1 := reads_only args us ys (e + 1) d hx hf hws
        have i2 := elts_only l us zs e d h1 hf hw
        rw [dataTs, List.map_cons, i2, leaf_data]
        show Tr.nd 2 0 28 ⟨#[]⟩ (dataTs ys) :: l = _
        rw [i1]
      · cases h
end

end Go.Proofs.Ytmmgihaoahhkjaa
