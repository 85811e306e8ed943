/- What Good says of a value's tree: the same of what was told before it was left off as of the whole. -/
import Derived.Test.YtdninmanfncfiadTellC
import Derived.Test.YtdninmanfncfiadMem
namespace Go.Proofs.Ytdninmanfncfiad
set_option linter.unusedVariables false

/-- nothing is wrong with it but that it may be too deep -/
def AllOk (t : Tr) : Prop := ∀ d, firstW d t = 0 ∨ firstW d t = 4

theorem firsts_ok : ∀ {l : List Tr}, (∀ t ∈ l, AllOk t) → ∀ d, firstWs d l = 0 ∨ firstWs d l = 4
  | [], _, d => by simp [firstWs]
  | t :: l, h, d => by
    rw [firstWs]
    rcases h t (by simp) d with h1 | h1
    · rw [if_neg (by simpa using h1)]; exact firsts_ok (fun z hz => h z (by simp [hz])) d
    · rw [if_pos (by rw [h1]; decide)]; exact .inr h1

theorem node_ok {k n p : Int} {s : ByteArray} {l : List Tr} (hw : Lf.wrongF k n p s l.length = 0) (h : ∀ t ∈ l, AllOk t) : AllOk (.nd k n p s l) := by
  intro d
  rw [firstW]
  by_cases hd : 24 < d
  · rw [if_pos hd]; exact .inr rfl
  · rw [if_neg hd, if_neg (by simpa using hw)]; exact firsts_ok h (d + 1)

theorem wrong_prim (p : Int) (h : Lf.isPrimB p = true) (l : Nat) : Lf.wrongF 2 0 p ⟨#[]⟩ l = 0 := by
  unfold Lf.wrongF
  rw [if_neg (by decide), if_neg (by rw [h]; simp), if_neg (by simp [Lf.moreB]; rfl), if_neg (by omega), if_neg (by decide)]

theorem wrong_seq (l : Nat) : Lf.wrongF 3 0 0 ⟨#[]⟩ l = 0 := by
  unfold Lf.wrongF
  rw [if_neg (by decide), if_neg (by omega), if_neg (by simp [Lf.moreB]; rfl), if_neg (by omega), if_neg (by decide)]

theorem wrong_int (n : Int) (h : -1152921504606846976 ≤ n ∧ n ≤ 1152921504606846976) : Lf.wrongF 0 n 0 ⟨#[]⟩ 0 = 0 := by
  unfold Lf.wrongF
  rw [if_neg (by decide), if_neg (by omega), if_neg (by simp [Lf.moreB]; rfl), if_neg (by omega), if_neg (by decide)]

theorem wrong_text (s : ByteArray) (h : s.size ≤ 200) : Lf.wrongF 1 0 0 s 0 = 0 := by
  unfold Lf.wrongF
  rw [if_neg (by decide), if_neg (by omega), if_neg (by simp [Lf.moreB]), if_neg (by omega), if_neg (by omega)]

theorem prim_ok {p : Int} {l : List Tr} (hp : Lf.isPrimB p = true) (h : ∀ t ∈ l, AllOk t) : AllOk (primT p l) := node_ok (wrong_prim p hp _) h

theorem elt_size (t : Tr) : (eltT t).size = t.size := by cases t; simp [eltT, Tr.size]
theorem elts_size : ∀ l : List Tr, sizes (l.map eltT) = sizes l
  | [] => rfl
  | t :: l => by simp [sizes, elt_size, elts_size l]

/-- the types of the Args of a value that can be told -/
theorem ts_ok {T : Ty} {x : Va} {d : Nat} {ts : List Ty} (hv : hasV x T = true) (hp : packT T = true) (hf : formedB d T = true) (hts : argTys T x = some ts) : ∀ U ∈ ts, packT U = true ∧ ∃ d', formedB d' U = true := by
  obtain ⟨hk, ha, hty, hco, hs, hN, ts', hts', hhs⟩ := pack_fits hv hp
  obtain ⟨hpt, hpa⟩ := pack_parts hp
  obtain ⟨hlen, hfa⟩ := formed_args2 hf
  have hall : ∀ U ∈ T.args, packT U = true ∧ ∃ d', formedB d' U = true := fun U hU => ⟨hpa U hU, d + 1, hfa U hU⟩
  unfold argTys at hts
  simp only at hts
  rw [if_neg (by omega)] at hts
  intro U hU
  split at hts
  · simp only [Option.some.injEq] at hts; subst hts; simp at hU
  · split at hts
    · rename_i h10
      split at hts
      · simp only [Option.some.injEq] at hts
        subst hts
        rw [List.eq_of_mem_replicate hU]
        have hl1 : T.args.length = 1 := by rw [h10] at hlen; simp [partsF] at hlen; omega
        exact hall _ (by unfold tyAt; rw [List.getElem?_eq_getElem (by omega)]; exact List.getElem_mem _)
      · cases hts
    · split at hts
      · rename_i h13
        split at hts
        · simp only [Option.some.injEq] at hts
          subst hts
          rw [List.eq_of_mem_replicate hU]
          refine ⟨pair_pack (d := d + 1) (fun V hV => ⟨hpa V hV, hfa V hV⟩), d, ?_⟩
          obtain ⟨t, args⟩ := T
          simp only [Ty.t] at h13
          subst h13
          simp only [formedB, Bool.and_eq_true, decide_eq_true_eq, Ty.args] at hf ⊢
          refine ⟨⟨hf.1.1, by decide, ?_⟩, hf.2⟩
          have := hf.1.2.2
          simp [partsF] at this ⊢
          exact this
        · cases hts
      · split at hts
        · rename_i h12
          split at hts
          · simp only [Option.some.injEq] at hts
            subst hts
            simp only [List.mem_singleton] at hU
            subst hU
            have hl2 : T.args.length = 2 := by rw [h12] at hlen; simp [partsF] at hlen; omega
            have hn : x.n = 0 ∨ x.n = 1 := by rw [h12] at hN; simpa [fitsNF] using hN
            exact hall _ (by unfold tyAt; rw [List.getElem?_eq_getElem (by omega)]; exact List.getElem_mem _)
          · cases hts
        · rw [if_neg (by omega)] at hts
          split at hts
          · simp only [Option.some.injEq] at hts; subst hts; exact hall U hU
          · cases hts

def PairTr (t : Tr) : Prop := ∃ l', t = primT 23 l' ∧ ∀ u ∈ l', AllOk u

theorem text_short {T : Ty} {x : Va} (hv : hasV x T = true) (h6 : T.t = 6) : x.s.size ≤ 200 := by
  obtain ⟨hf, _⟩ := hasV_parts hv
  unfold fitsF at hf
  simp only [Bool.and_eq_true, decide_eq_true_eq, Bool.or_eq_true] at hf
  rcases hf.1.1.2 with h | h
  · omega
  · exact h.2

/-- what is written of a value, of trees that are fine -/
theorem written_ok {T : Ty} {x : Va} {d : Nat} (hv : hasV x T = true) (hp : packT T = true) (hf : formedB d T = true) (l : List Tr) (h0 : x.args = [] → l = []) (hl : ∀ t ∈ l, AllOk t) (hm : T.t = 13 → ∀ t ∈ l, PairTr t) :
    AllOk (writtenF x l) ∧ (writtenF x l).size = sizes l + 1 ∧ (T.t = 11 → PairTr (writtenF x l)) := by
  obtain ⟨hk, ha, hty, hco, hs, hN, ts, hts, hhs⟩ := pack_fits hv hp
  obtain ⟨hpt, hpa⟩ := pack_parts hp
  have h15 := formed_type hf
  by_cases h7 : T.t ≤ 7
  · have hl0 := h0 (no_args hf h7 hts)
    subst hl0
    rcases (show T.t = 1 ∨ T.t = 2 ∨ T.t = 3 ∨ T.t = 4 ∨ T.t = 5 ∨ T.t = 6 ∨ T.t = 7 from by omega) with h | h | h | h | h | h | h
    all_goals
      rw [h] at hk hN
      refine ⟨?_, ?_, fun e => by omega⟩
    · simp only [writtenF, hk, if_true]; exact prim_ok rfl hl
    · simp [writtenF, hk, primT, Tr.size, sizes]
    · have e : writtenF x [] = primT (if x.n = 0 then 22 else 21) [] := by unfold writtenF; rw [if_neg (by omega), if_pos hk]
      rw [e]; split <;> exact prim_ok rfl hl
    · have e : writtenF x [] = primT (if x.n = 0 then 22 else 21) [] := by unfold writtenF; rw [if_neg (by omega), if_pos hk]
      rw [e]; simp [primT, Tr.size, sizes]
    all_goals first
      | (have e : writtenF x [] = .nd 0 x.n 0 ⟨#[]⟩ [] := (by unfold writtenF; rw [if_neg (by omega), if_neg (by omega), if_pos (by omega)])
         rw [e]
         first
           | exact node_ok (wrong_int x.n (by simp [fitsNF, inB, amountB, addrB] at hN; omega)) hl
           | simp [Tr.size, sizes])
      | (have e : writtenF x [] = .nd 1 0 0 x.s [] := (by unfold writtenF; rw [if_neg (by omega), if_neg (by omega), if_neg (by omega), if_pos (by omega)])
         rw [e]
         first
           | exact node_ok (wrong_text x.s (text_short hv h)) hl
           | simp [Tr.size, sizes])
  · rcases (show T.t = 9 ∨ T.t = 10 ∨ T.t = 11 ∨ T.t = 12 ∨ T.t = 13 from by omega) with h | h | h | h | h
    all_goals
      rw [h] at hk hN
    · have e : writtenF x l = primT (if l.length = 0 then 27 else 26) l := by unfold writtenF; rw [if_neg (by omega), if_neg (by omega), if_neg (by omega), if_neg (by omega), if_pos hk]
      rw [e]
      exact ⟨by split <;> exact prim_ok rfl hl, by simp [primT, Tr.size], fun e => by omega⟩
    · have e : writtenF x l = .nd 3 0 0 ⟨#[]⟩ l := by unfold writtenF; rw [if_neg (by omega), if_neg (by omega), if_neg (by omega), if_neg (by omega), if_neg (by omega), if_neg (by omega), if_neg (by omega), if_pos hk]
      rw [e]
      exact ⟨node_ok (wrong_seq _) hl, by simp [Tr.size], fun e => by omega⟩
    · have e : writtenF x l = primT 23 l := by unfold writtenF; rw [if_neg (by omega), if_neg (by omega), if_neg (by omega), if_neg (by omega), if_neg (by omega), if_pos hk]
      rw [e]
      exact ⟨prim_ok rfl hl, by simp [primT, Tr.size], fun _ => ⟨l, rfl, hl⟩⟩
    · have e : writtenF x l = primT (if x.n = 0 then 24 else 25) l := by unfold writtenF; rw [if_neg (by omega), if_neg (by omega), if_neg (by omega), if_neg (by omega), if_neg (by omega), if_neg (by omega), if_pos hk]
      rw [e]
      exact ⟨by split <;> exact prim_ok rfl hl, by simp [primT, Tr.size], fun e => by omega⟩
    · have e : writtenF x l = .nd 3 0 0 ⟨#[]⟩ (l.map eltT) := by unfold writtenF; rw [if_neg (by omega), if_neg (by omega), if_neg (by omega), if_neg (by omega), if_neg (by omega), if_neg (by omega), if_neg (by omega), if_neg (by omega), if_pos hk]
      rw [e]
      refine ⟨node_ok (wrong_seq _) (fun t ht => ?_), by simp [Tr.size, elts_size], fun e => by omega⟩
      obtain ⟨u, hu, rfl⟩ := List.mem_map.1 ht
      obtain ⟨l', rfl, hl'⟩ := hm h u hu
      exact prim_ok (p := 28) rfl hl'

theorem tys_13 {T : Ty} {x : Va} {ts : List Ty} (h : T.t = 13) (hts : argTys T x = some ts) : ∀ U ∈ ts, U.t = 11 := by
  unfold argTys at hts
  simp only at hts
  rw [if_neg (by omega), if_neg (by omega), if_neg (by omega), if_pos h] at hts
  split at hts
  · simp only [Option.some.injEq] at hts
    subst hts
    intro U hU
    rw [List.eq_of_mem_replicate hU]; rfl
  · cases hts

theorem tellVs_nil (c : Nat) : (tellVs c []).2 = [] := by simp [tellVs]

mutual
/-- what was told is fine, and as large as it counts -/
theorem tell_ok : ∀ (x : Va) (T : Ty) (d c : Nat), hasV x T = true → packT T = true → formedB d T = true → AllOk (tellV c x).2 ∧ (tellV c x).2.size + c = (tellV c x).1 ∧ (T.t = 11 → PairTr (tellV c x).2)
  | .mk k n a s args ty co, T, d, c => by
    intro hv hp hf
    obtain ⟨hk, ha, hty, hco, hs, hN, ts, hts, hhs⟩ := pack_fits hv hp
    obtain ⟨h1, h2, h3⟩ := tells_ok args ts (c + 1) hhs (ts_ok hv hp hf hts)
    obtain ⟨w1, w2, w3⟩ := written_ok hv hp hf (tellVs (c + 1) args).2 (fun e => by have e' : args = [] := e; rw [e', tellVs_nil]) h1 (fun h t ht => h3 (tys_13 h hts) t ht)
    rw [tellV]
    exact ⟨w1, by simp only; rw [w2]; omega, w3⟩
theorem tells_ok : ∀ (xs : List Va) (ts : List Ty) (c : Nat), hasVs xs ts = true → (∀ U ∈ ts, packT U = true ∧ ∃ d, formedB d U = true) → (∀ t ∈ (tellVs c xs).2, AllOk t) ∧ sizes (tellVs c xs).2 + c = (tellVs c xs).1 ∧ ((∀ U ∈ ts, U.t = 11) → ∀ t ∈ (tellVs c xs).2, PairTr t)
  | [], _, c => by intros; simp [tellVs, sizes]
  | _ :: _, [], _ => by intro h; simp [hasVs] at h
  | x :: xs, T :: ts, c => by
    intro hv hp
    simp only [hasVs, Bool.and_eq_true] at hv
    obtain ⟨hpt, d, hft⟩ := hp T (by simp)
    obtain ⟨a1, a2, a3⟩ := tell_ok x T d c hv.1 hpt hft
    obtain ⟨b1, b2, b3⟩ := tells_ok xs ts (tellV c x).1 hv.2 (fun U hU => hp U (by simp [hU]))
    rw [tellVs]
    split
    · simp [sizes]
    · refine ⟨?_, ?_, ?_⟩
      · intro t ht
        rcases List.mem_cons.1 ht with rfl | ht
        · exact a1
        · exact b1 t ht
      · simp only [sizes]; omega
      · intro h t ht
        rcases List.mem_cons.1 ht with rfl | ht
        · exact a3 (h T (by simp))
        · exact b3 (fun U hU => h U (by simp [hU])) t ht
end

theorem dataTs_nil : dataTs [] = [] := by simp [dataTs]

mutual
/-- the whole tree is fine, and as large as it counts -/
theorem data_ok : ∀ (x : Va) (T : Ty) (d : Nat), hasV x T = true → packT T = true → formedB d T = true → AllOk (dataT x) ∧ (dataT x).size = cntV x ∧ (T.t = 11 → PairTr (dataT x))
  | .mk k n a s args ty co, T, d => by
    intro hv hp hf
    obtain ⟨hk, ha, hty, hco, hs, hN, ts, hts, hhs⟩ := pack_fits hv hp
    obtain ⟨h1, h2, h3⟩ := datas_ok args ts hhs (ts_ok hv hp hf hts)
    obtain ⟨w1, w2, w3⟩ := written_ok hv hp hf (dataTs args) (fun e => by have e' : args = [] := e; rw [e', dataTs_nil]) h1 (fun h t ht => h3 (tys_13 h hts) t ht)
    rw [dataT, cntV]
    exact ⟨w1, by rw [w2]; omega, w3⟩
theorem datas_ok : ∀ (xs : List Va) (ts : List Ty), hasVs xs ts = true → (∀ U ∈ ts, packT U = true ∧ ∃ d, formedB d U = true) → (∀ t ∈ dataTs xs, AllOk t) ∧ sizes (dataTs xs) = cntVs xs ∧ ((∀ U ∈ ts, U.t = 11) → ∀ t ∈ dataTs xs, PairTr t)
  | [], _ => by intros; simp [dataTs, sizes, cntVs]
  | _ :: _, [] => by intro h; simp [hasVs] at h
  | x :: xs, T :: ts => by
    intro hv hp
    simp only [hasVs, Bool.and_eq_true] at hv
    obtain ⟨hpt, d, hft⟩ := hp T (by simp)
    obtain ⟨a1, a2, a3⟩ := data_ok x T d hv.1 hpt hft
    obtain ⟨b1, b2, b3⟩ := datas_ok xs ts hv.2 (fun U hU => hp U (by simp [hU]))
    rw [dataTs, cntVs]
    refine ⟨?_, ?_, ?_⟩
    · intro t ht
      rcases List.mem_cons.1 ht with rfl | ht
      · exact a1
      · exact b1 t ht
    · simp only [sizes]; omega
    · intro h t ht
      rcases List.mem_cons.1 ht with rfl | ht
      · exact a3 (h T (by simp))
      · exact b3 (fun U hU => h U (by simp [hU])) t ht
end

/-- what is told of a value -/
def toldF (x : Va) : Tr := (tellV 0 x).2

theorem long_four {t : Tr} (h : AllOk t) (hs : 300 < t.size) : goodF t = 4 := by
  unfold goodF
  rcases h 1 with h1 | h1
  · rw [if_neg (by simpa using h1), if_pos hs]
  · rw [if_pos (by rw [h1]; decide), h1]

/-- Good says the same of what was told as of the whole, and where it is good it is the whole -/
theorem told_good {x : Va} {T : Ty} {d : Nat} (hv : hasV x T = true) (hp : packT T = true) (hf : formedB d T = true) : goodF (toldF x) = goodF (dataT x) ∧ (goodF (toldF x) = 0 → toldF x = dataT x) ∧ (toldF x).size ≤ 301 := by
  obtain ⟨a1, a2, _⟩ := tell_ok x T d 0 hv hp hf
  obtain ⟨b1, b2, _⟩ := data_ok x T d hv hp hf
  obtain ⟨c1, c2, c3⟩ := tell_most x 0 (by omega)
  unfold toldF
  by_cases h : cntV x ≤ 301
  · have e := tell_full x 0 (by omega)
    rw [e]
    exact ⟨rfl, fun _ => rfl, by simp only; omega⟩
  · have h1 := c3 (by omega)
    have g1 := long_four a1 (by omega)
    have g2 := long_four b1 (by omega)
    rw [g1, g2]
    exact ⟨rfl, fun e => absurd e (by decide), by omega⟩

end Go.Proofs.Ytdninmanfncfiad
