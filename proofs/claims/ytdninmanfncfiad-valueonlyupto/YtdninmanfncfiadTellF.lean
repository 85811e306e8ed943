/- A value's tree, and a tree read as a value, as plain data: what tells a value is read as it was. -/
import Derived.Test.YtdninmanfncfiadOrdF
namespace Go.Proofs.Ytdninmanfncfiad
set_option linter.unusedVariables false

def primT (p : Int) (args : List Tr) : Tr := .nd 2 0 p ⟨#[]⟩ args
def eltT : Tr → Tr
  | .nd k n p s args => .nd k n 28 s args
def Tr.k0 : Tr → Int
  | .nd k _ _ _ _ => k
def Tr.n0 : Tr → Int
  | .nd _ n _ _ _ => n
def Tr.p0 : Tr → Int
  | .nd _ _ p _ _ => p
def Tr.s0 : Tr → ByteArray
  | .nd _ _ _ s _ => s
def Tr.args0 : Tr → List Tr
  | .nd _ _ _ _ l => l

/-- the tree of a value, given those of its Args -/
def writtenF (x : Va) (l : List Tr) : Tr :=
  if x.k = 1 then primT 20 [] else if x.k = 2 then primT (if x.n = 0 then 22 else 21) []
  else if x.k = 3 ∨ x.k = 4 ∨ x.k = 5 ∨ x.k = 7 then .nd 0 x.n 0 ⟨#[]⟩ [] else if x.k = 6 then .nd 1 0 0 x.s []
  else if x.k = 9 then primT (if l.length = 0 then 27 else 26) l else if x.k = 11 then primT 23 l
  else if x.k = 12 then primT (if x.n = 0 then 24 else 25) l else if x.k = 10 then .nd 3 0 0 ⟨#[]⟩ l
  else if x.k = 13 then .nd 3 0 0 ⟨#[]⟩ (l.map eltT) else .nd (-1) 0 0 ⟨#[]⟩ []

mutual
/-- the tree of a value -/
def dataT : Va → Tr
  | .mk k n a s args ty co => writtenF (.mk k n a s args ty co) (dataTs args)
def dataTs : List Va → List Tr
  | [] => []
  | x :: xs => dataT x :: dataTs xs
end

/-- what a primitive tells: a number, and the types of the Args -/
def branchF (T : Ty) (p : Int) : Option (Int × List Ty) :=
  if T.t = 1 ∧ p = 20 then some (0, []) else if T.t = 2 ∧ p = 22 then some (0, []) else if T.t = 2 ∧ p = 21 then some (1, [])
  else if T.t = 9 ∧ p = 27 then some (0, []) else if T.t = 9 ∧ p = 26 then some (0, T.args) else if T.t = 11 ∧ p = 23 then some (0, T.args)
  else if T.t = 12 ∧ p = 24 then some (0, T.args.take 1) else if T.t = 12 ∧ p = 25 then some (1, T.args.drop 1) else none

def leafVa (t n : Int) (s : ByteArray) (l : List Va) : Va := .mk t n 0 s l [] []

mutual
/-- what a tree tells of a type -/
def readT : Tr → Ty → Option Va
  | .nd k n p s args, T =>
    if T.t = 3 ∨ T.t = 4 ∨ T.t = 5 ∨ T.t = 7 then (if k = 0 then some (leafVa T.t n ⟨#[]⟩ []) else none)
    else if T.t = 6 then (if k = 1 then some (leafVa 6 0 s []) else none)
    else if T.t = 10 then (if k = 3 then (readTs args (List.replicate args.length (tyAt T.args 0))).map (leafVa 10 0 ⟨#[]⟩) else none)
    else if T.t = 13 then (if k = 3 then (readEs args T.args).map (leafVa 13 0 ⟨#[]⟩) else none)
    else match branchF T p with
      | none => none
      | some (m, ts) => (readTs args ts).map (leafVa T.t m ⟨#[]⟩)
/-- one of each of these types -/
def readTs : List Tr → List Ty → Option (List Va)
  | [], [] => some []
  | t :: l, T :: ts => match readT t T with
    | none => none
    | some x => (readTs l ts).map (x :: ·)
  | [], _ :: _ => none
  | _ :: _, [] => none
/-- the pairs of a map -/
def readEs : List Tr → List Ty → Option (List Va)
  | [], _ => some []
  | .nd k n p s args :: l, ts => match readTs args ts with
    | none => none
    | some ys => if p = 28 then (readEs l ts).map (leafVa 11 0 ⟨#[]⟩ ys :: ·) else none
end

theorem Va.eta (x : Va) : x = .mk x.k x.n x.a x.s x.args x.types x.code := by cases x; rfl

theorem pack_parts {T : Ty} (hc : packT T = true) : (T.t ≠ 8 ∧ T.t ≠ 14 ∧ T.t ≠ 15) ∧ ∀ y ∈ T.args, packT y = true := by
  obtain ⟨t, targs⟩ := T
  simp only [packT, allF, Bool.and_eq_true, innAll, Bool.not_true, Bool.false_or] at hc
  obtain ⟨hcb, hca⟩ := hc
  simp only [packB, decide_eq_true_eq] at hcb
  rw [allFs_all, List.all_eq_true] at hca
  exact ⟨hcb, hca⟩

theorem formed_type {d : Nat} {T : Ty} (h : formedB d T = true) : 1 ≤ T.t ∧ T.t ≤ 15 := by
  obtain ⟨t, args⟩ := T
  simp only [formedB, Bool.and_eq_true, isTypeB, decide_eq_true_eq] at h
  exact h.1.2.1

/-- what is known of a value of a type that can be told -/
theorem pack_fits {T : Ty} {x : Va} (hv : hasV x T = true) (hc : packT T = true) :
    x.k = T.t ∧ x.a = 0 ∧ x.types = [] ∧ x.code = [] ∧ (T.t ≠ 6 → x.s = ⟨#[]⟩) ∧ fitsNF T.t x.n = true ∧ ∃ ts, argTys T x = some ts ∧ hasVs x.args ts = true := by
  obtain ⟨hcb, hca⟩ := pack_parts hc
  obtain ⟨hf, ts, hts, hhs⟩ := hasV_parts hv
  unfold fitsF at hf
  simp only [Bool.and_eq_true, decide_eq_true_eq, Bool.or_eq_true] at hf
  obtain ⟨⟨⟨⟨⟨hk, hN⟩, ha⟩, hsz⟩, hty⟩, hco⟩ := hf
  have ha0 : x.a = 0 := by
    rcases ha with h | h
    · exact h
    · exact absurd h.1 (by omega)
  have hty0 : x.types = [] := by
    unfold fitsTF at hty
    rw [if_neg (by omega), if_neg (by omega)] at hty
    exact List.eq_nil_of_length_eq_zero (by simpa using hty)
  have hco0 : x.code = [] := by
    rcases hco with h | h
    · exact List.eq_nil_of_length_eq_zero h
    · exact absurd h (by omega)
  refine ⟨hk, ha0, hty0, hco0, fun h6 => ?_, hN, ts, hts, hhs⟩
  have h0 : x.s.size = 0 := by
    rcases hsz with h | h
    · exact h
    · exact absurd h.1 h6
  have h2 : x.s.data = #[] := Array.eq_empty_of_size_eq_zero h0
  cases hx : x.s with
  | mk d => rw [hx] at h2; simp at h2; rw [h2]

theorem leaf_eq {x : Va} {t n : Int} {s : ByteArray} (hk : x.k = t) (hn : x.n = n) (ha : x.a = 0) (hs : x.s = s) (ht : x.types = []) (hc : x.code = []) : leafVa t n s x.args = x := by
  rw [Va.eta x, hk, hn, ha, hs, ht, hc]; rfl

theorem dataTs_len : ∀ l : List Va, (dataTs l).length = l.length
  | [] => rfl
  | x :: l => by simp [dataTs, dataTs_len l]

theorem dataT_eq (x : Va) : dataT x = writtenF x (dataTs x.args) := by cases x; rw [dataT]; rfl

/-- values of types without parts have no Args -/
theorem no_args {T : Ty} {x : Va} {d : Nat} {ts : List Ty} (hf : formedB d T = true) (ht : T.t ≤ 7) (hts : argTys T x = some ts) : x.args = [] := by
  obtain ⟨hlen, _⟩ := formed_args2 hf
  obtain ⟨h1, _⟩ := formed_type hf
  have hp : partsF T.t = 0 := by unfold partsF; rw [if_neg (by omega), if_neg (by omega)]
  unfold argTys at hts
  simp only at hts
  rw [if_neg (by omega), if_neg (by omega), if_neg (by omega), if_neg (by omega), if_neg (by omega), if_neg (by omega)] at hts
  split at hts
  · rename_i h
    exact List.eq_nil_of_length_eq_zero (by omega)
  · cases hts

/-- what is read of a written value, given that its Args are read as they were -/
theorem read_written {T : Ty} {x : Va} {d : Nat} (hv : hasV x T = true) (hp : packT T = true) (hf : formedB d T = true)
    (IH : ∀ ts d, hasVs x.args ts = true → (∀ U ∈ ts, packT U = true ∧ formedB d U = true) → readTs (dataTs x.args) ts = some x.args)
    (IE : ∀ us d, hasVs x.args (List.replicate x.args.length (.nd 11 us)) = true → (∀ U ∈ us, packT U = true ∧ formedB d U = true) → us.length = 2 → readEs ((dataTs x.args).map eltT) us = some x.args) :
    readT (writtenF x (dataTs x.args)) T = some x := by
  obtain ⟨hk, ha, hty, hco, hs, hN, ts, hts, hhs⟩ := pack_fits hv hp
  obtain ⟨hpt, hpa⟩ := pack_parts hp
  obtain ⟨hlen, hfa⟩ := formed_args2 hf
  have h15 := formed_type hf
  have hall : ∀ U ∈ T.args, packT U = true ∧ formedB (d + 1) U = true := fun U hU => ⟨hpa U hU, hfa U hU⟩
  by_cases h7 : T.t ≤ 7
  · have h0 := no_args hf h7 hts
    rcases (show T.t = 1 ∨ T.t = 2 ∨ T.t = 3 ∨ T.t = 4 ∨ T.t = 5 ∨ T.t = 6 ∨ T.t = 7 from by omega) with h | h | h | h | h | h | h
    all_goals
      have hk2 : x.k = T.t := hk
      rw [h] at hk hN
    · have hn : x.n = 0 := by simpa [fitsNF] using hN
      have e := leaf_eq hk hn ha (hs (by omega)) hty hco
      rw [h0] at e
      simp [writtenF, hk, primT, readT, h, branchF, readTs, e]
    · have hn : x.n = 0 ∨ x.n = 1 := by simpa [fitsNF] using hN
      rcases hn with hn | hn
      · have e := leaf_eq hk hn ha (hs (by omega)) hty hco
        rw [h0] at e
        simp [writtenF, hk, hn, primT, readT, h, branchF, readTs, e]
      · have e := leaf_eq hk hn ha (hs (by omega)) hty hco
        rw [h0] at e
        simp [writtenF, hk, hn, primT, readT, h, branchF, readTs, e]
    · have e := leaf_eq hk rfl ha (hs (by omega)) hty hco
      rw [h0] at e
      simp [writtenF, hk, readT, h, e]
    · have e := leaf_eq hk rfl ha (hs (by omega)) hty hco
      rw [h0] at e
      simp [writtenF, hk, readT, h, e]
    · have e := leaf_eq hk rfl ha (hs (by omega)) hty hco
      rw [h0] at e
      simp [writtenF, hk, readT, h, e]
    · have hn : x.n = 0 := by simpa [fitsNF] using hN
      have e := leaf_eq hk hn ha rfl hty hco
      rw [h0] at e
      simp [writtenF, hk, readT, h, e]
    · have e := leaf_eq hk rfl ha (hs (by omega)) hty hco
      rw [h0] at e
      simp [writtenF, hk, readT, h, e]
  · have hs0 := hs (by omega)
    rcases (show T.t = 9 ∨ T.t = 10 ∨ T.t = 11 ∨ T.t = 12 ∨ T.t = 13 from by omega) with h | h | h | h | h
    all_goals
      rw [h] at hk hN
    · have hn : x.n = 0 := by simpa [fitsNF] using hN
      have e := leaf_eq hk hn ha hs0 hty hco
      have hdl := dataTs_len x.args
      by_cases h0 : x.args.length = 0
      · have h00 : x.args = [] := List.eq_nil_of_length_eq_zero h0
        rw [h00] at e
        simp [writtenF, hk, h00, dataTs, primT, readT, h, branchF, readTs, e]
      · have hts2 : ts = T.args := by
          unfold argTys at hts
          simp only at hts
          rw [if_neg (by omega), if_neg (by omega), if_neg (by omega), if_neg (by omega), if_neg (by omega), if_neg (by omega)] at hts
          split at hts
          · exact (Option.some.inj hts).symm
          · cases hts
        subst hts2
        have hr := IH T.args (d + 1) hhs hall
        have hne : ¬ (dataTs x.args).length = 0 := by omega
        have hw : writtenF x (dataTs x.args) = primT 26 (dataTs x.args) := by
          unfold writtenF
          rw [if_neg (by omega), if_neg (by omega), if_neg (by omega), if_neg (by omega), if_pos hk, if_neg hne]
        rw [hw]
        simp [primT, readT, h, branchF, hr, e]
    · have hn : x.n = 0 := by simpa [fitsNF] using hN
      have e := leaf_eq hk hn ha hs0 hty hco
      have hts2 : ts = List.replicate x.args.length (tyAt T.args 0) := by
        unfold argTys at hts
        simp only at hts
        rw [if_neg (by omega), if_neg (by omega), if_pos h] at hts
        split at hts
        · exact (Option.some.inj hts).symm
        · cases hts
      subst hts2
      have hl1 : T.args.length = 1 := by rw [h] at hlen; simp [partsF] at hlen; omega
      have hin : tyAt T.args 0 ∈ T.args := by unfold tyAt; rw [List.getElem?_eq_getElem (by omega)]; exact List.getElem_mem _
      have hr := IH _ (d + 1) hhs (fun U hU => by rw [List.eq_of_mem_replicate hU]; exact hall _ hin)
      have hw : writtenF x (dataTs x.args) = .nd 3 0 0 ⟨#[]⟩ (dataTs x.args) := by
        unfold writtenF
        rw [if_neg (by omega), if_neg (by omega), if_neg (by omega), if_neg (by omega), if_neg (by omega), if_neg (by omega), if_neg (by omega), if_pos hk]
      rw [hw]
      simp [readT, h, dataTs_len, hr, e]
    · have hn : x.n = 0 := by simpa [fitsNF] using hN
      have e := leaf_eq hk hn ha hs0 hty hco
      have hts2 : ts = T.args := by
        unfold argTys at hts
        simp only at hts
        rw [if_neg (by omega), if_neg (by omega), if_neg (by omega), if_neg (by omega), if_neg (by omega), if_neg (by omega)] at hts
        split at hts
        · exact (Option.some.inj hts).symm
        · cases hts
      subst hts2
      have hr := IH T.args (d + 1) hhs hall
      have hw : writtenF x (dataTs x.args) = primT 23 (dataTs x.args) := by
        unfold writtenF
        rw [if_neg (by omega), if_neg (by omega), if_neg (by omega), if_neg (by omega), if_neg (by omega), if_pos hk]
      rw [hw]
      simp [primT, readT, h, branchF, hr, e]
    · have hn : x.n = 0 ∨ x.n = 1 := by simpa [fitsNF] using hN
      have hl2 : T.args.length = 2 := by rw [h] at hlen; simp [partsF] at hlen; omega
      have hts2 : ts = [tyAt T.args x.n.toNat] := by
        unfold argTys at hts
        simp only at hts
        rw [if_neg (by omega), if_neg (by omega), if_neg (by omega), if_neg (by omega), if_pos h] at hts
        split at hts
        · exact (Option.some.inj hts).symm
        · cases hts
      subst hts2
      obtain ⟨A, B, hAB⟩ : ∃ A B, T.args = [A, B] := by
        match T.args, hl2 with
        | [A, B], _ => exact ⟨A, B, rfl⟩
      rcases hn with hn | hn
      · have e := leaf_eq hk hn ha hs0 hty hco
        have ht : tyAt T.args x.n.toNat = A := by rw [hn, hAB]; rfl
        rw [ht] at hhs
        have hr := IH [A] (d + 1) hhs (fun U hU => by simp at hU; subst hU; exact hall U (by rw [hAB]; simp))
        have hw : writtenF x (dataTs x.args) = primT 24 (dataTs x.args) := by
          unfold writtenF
          rw [if_neg (by omega), if_neg (by omega), if_neg (by omega), if_neg (by omega), if_neg (by omega), if_neg (by omega), if_pos hk, if_pos hn]
        rw [hw]
        simp [primT, readT, h, branchF, hAB, hr, e]
      · have e := leaf_eq hk hn ha hs0 hty hco
        have ht : tyAt T.args x.n.toNat = B := by rw [hn, hAB]; rfl
        rw [ht] at hhs
        have hr := IH [B] (d + 1) hhs (fun U hU => by simp at hU; subst hU; exact hall U (by rw [hAB]; simp))
        have hw : writtenF x (dataTs x.args) = primT 25 (dataTs x.args) := by
          unfold writtenF
          rw [if_neg (by omega), if_neg (by omega), if_neg (by omega), if_neg (by omega), if_neg (by omega), if_neg (by omega), if_pos hk, if_neg (by omega)]
        rw [hw]
        simp [primT, readT, h, branchF, hAB, hr, e]
    · have hn : x.n = 0 := by simpa [fitsNF] using hN
      have e := leaf_eq hk hn ha hs0 hty hco
      have hl2 : T.args.length = 2 := by rw [h] at hlen; simp [partsF] at hlen; omega
      have hts2 : ts = List.replicate x.args.length (.nd 11 T.args) := by
        unfold argTys at hts
        simp only at hts
        rw [if_neg (by omega), if_neg (by omega), if_neg (by omega), if_pos h] at hts
        split at hts
        · exact (Option.some.inj hts).symm
        · cases hts
      subst hts2
      have hr := IE T.args (d + 1) hhs hall hl2
      have hw : writtenF x (dataTs x.args) = .nd 3 0 0 ⟨#[]⟩ ((dataTs x.args).map eltT) := by
        unfold writtenF
        rw [if_neg (by omega), if_neg (by omega), if_neg (by omega), if_neg (by omega), if_neg (by omega), if_neg (by omega), if_neg (by omega), if_neg (by omega), if_pos hk]
      rw [hw]
      simp [readT, h, hr, e]

theorem tys_11 {T : Ty} {x : Va} {ts : List Ty} (h : T.t = 11) (hts : argTys T x = some ts) : ts = T.args := by
  unfold argTys at hts
  simp only at hts
  rw [if_neg (by omega), if_neg (by omega), if_neg (by omega), if_neg (by omega), if_neg (by omega), if_neg (by omega)] at hts
  split at hts
  · exact (Option.some.inj hts).symm
  · cases hts

/-- a pair of two types that can be told -/
theorem pair_pack {us : List Ty} {d : Nat} (h : ∀ U ∈ us, packT U = true ∧ formedB d U = true) : packT (.nd 11 us) = true := by
  simp only [packT, allF, innAll, Bool.not_true, Bool.false_or, Bool.and_eq_true]
  refine ⟨by decide, ?_⟩
  rw [allFs_all, List.all_eq_true]
  exact fun U hU => (h U hU).1

mutual
theorem read_back : ∀ (x : Va) (T : Ty) (d : Nat), hasV x T = true → packT T = true → formedB d T = true → readT (dataT x) T = some x
  | .mk k n a s args ty co, T, d => by
    intro hv hp hf
    rw [dataT_eq]
    exact read_written hv hp hf (fun ts d h1 h2 => reads_back args ts d h1 h2) (fun us d h1 h2 h3 => elts_back args us d h1 h2 h3)
theorem reads_back : ∀ (xs : List Va) (ts : List Ty) (d : Nat), hasVs xs ts = true → (∀ U ∈ ts, packT U = true ∧ formedB d U = true) → readTs (dataTs xs) ts = some xs
  | [], [], _ => by intros; simp [dataTs, readTs]
  | [], _ :: _, _ => by intro h; simp [hasVs] at h
  | _ :: _, [], _ => by intro h; simp [hasVs] at h
  | x :: xs, T :: ts, d => by
    intro hv hp
    simp only [hasVs, Bool.and_eq_true] at hv
    have h1 := read_back x T d hv.1 (hp T (by simp)).1 (hp T (by simp)).2
    have h2 := reads_back xs ts d hv.2 (fun U hU => hp U (by simp [hU]))
    simp [dataTs, readTs, h1, h2]
theorem elts_back : ∀ (xs : List Va) (us : List Ty) (d : Nat), hasVs xs (List.replicate xs.length (.nd 11 us)) = true → (∀ U ∈ us, packT U = true ∧ formedB d U = true) → us.length = 2 → readEs ((dataTs xs).map eltT) us = some xs
  | [], _, _ => by intros; simp [dataTs, readEs]
  | .mk k n a s args ty co :: xs, us, d => by
    intro hv hp hl
    simp only [List.length_cons, List.replicate_succ, hasVs, Bool.and_eq_true] at hv
    obtain ⟨hk, ha, hty, hco, hs, hN, ts, hts, hhs⟩ := pack_fits hv.1 (pair_pack hp)
    have hn : (Va.mk k n a s args ty co).n = 0 := by simpa [fitsNF, Ty.t] using hN
    have hts2 : ts = us := by
      exact tys_11 rfl hts
    subst hts2
    have h1 := reads_back args ts d hhs hp
    have h2 := elts_back xs ts d hv.2 hp hl
    have hk2 : (Va.mk k n a s args ty co).k = 11 := hk
    have e := leaf_eq hk2 hn ha (hs (by simp [Ty.t])) hty hco
    have hw : dataT (.mk k n a s args ty co) = primT 23 (dataTs args) := by
      rw [dataT_eq]
      unfold writtenF
      rw [if_neg (by omega), if_neg (by omega), if_neg (by omega), if_neg (by omega), if_neg (by omega), if_pos hk2]
      rfl
    have e2 : leafVa 11 0 ⟨#[]⟩ args = .mk k n a s args ty co := e
    simp [dataTs, hw, primT, eltT, readEs, h1, h2, e2]
end

end Go.Proofs.Ytdninmanfncfiad
