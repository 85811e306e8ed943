import Derived.Test.YthjpngaapflclacGreatRDatA
import Derived.Test.YthjpngaapflclacGreatParseV
namespace Go.Proofs.YthjpngaapflclacGreat
set_option linter.unusedVariables false
mutual
theorem guess_size : ∀ (t : Tr) (T : Ty), (guessF t T).size <= t.size
 | .nd k n p s args, T => by
  rw [guessF_eq, Tr.size]
  cases h : guessFs args T (guessN T n p) 0 with
  | none => simp [zeroVa, Va.size, vsizes, tysizes, sizes]
  | some l =>
   have := guesses_size args T (guessN T n p) 0 l h
   simp [Va.size, tysizes, sizes]; omega
theorem guesses_size : ∀ (l : List Tr) (T : Ty) (N : Int) (i : Nat) (xs : List Va), guessFs l T N i = some xs -> vsizes xs <= sizes l
 | [], _, _, _, xs, h => by rw [guessFs] at h; cases h; simp [vsizes]
 | t :: l, T, N, i, xs, h => by
  rw [guessFs] at h
  cases hg : guessT T N i with
  | none => rw [hg] at h; cases h
  | some U =>
   rw [hg] at h
   simp only [Option.map_eq_some_iff] at h
   obtain ⟨ys, hy, rfl⟩ := h
   have h1 := guess_size t U
   have h2 := guesses_size l T N (i + 1) ys hy
   simp only [vsizes, sizes]; omega
end
theorem dok_guess : ∀ (m : Nat) (t : Tr) (T : Ty) (d : Nat), t.size <= m -> formedB d T = true -> hasV (guessF t T) T = true -> DOk (guessF t T)
 | 0, t, _, _, h => by have := size_pos t; omega
 | m + 1, .nd k n p s args, T, d, hm => by
  intro hf hv
  obtain ⟨t1, t2⟩ := formed_type hf
  obtain ⟨hlen, hfa⟩ := formed_args2 hf
  rw [Tr.size] at hm
  cases hgs : guessFs args T (guessN T n p) 0 with
  | none =>
   rw [guessF_eq, hgs] at hv
   have := zero_no T t1
   rw [this] at hv; cases hv
  | some ys =>
   have hG : guessF (.nd k n p s args) T = .mk T.t (guessN T n p) 0 s ys [] [] := by rw [guessF_eq, hgs]
   rw [hG] at hv ⊢
   have hyl := guessFs_len args T _ 0 ys hgs
   have hget := guessFs_get args 0 ys hgs
   simp only [Nat.zero_add] at hget
   obtain ⟨_, h1, h2, h9⟩ := has_some hf hv
   obtain ⟨hfi, ts, hts, hhs⟩ := hasV_parts hv
   have hl := argTys_len hts
   simp only [Va.args] at hl
   have hvs : ∀ j (h : j < ys.length) (h' : j < ts.length), hasV ys[j] ts[j] = true := by
    rw [show (Va.mk T.t (guessN T n p) 0 s ys [] []).args = ys from rfl, hasVs_zip ys ts hl, List.all_eq_true] at hhs
    intro j h h'
    have hj : j < (ts.zip ys).length := by rw [List.length_zip]; omega
    have := hhs (ts.zip ys)[j] (List.getElem_mem hj)
    simpa [hasP] using this
   have hnone : (∀ i, guessT T (guessN T n p) i = none) -> ys = [] := by
    intro h
    by_cases ha : args = []
    ·exact List.eq_nil_of_length_eq_zero (by rw [hyl, ha]; rfl)
    ·rw [guessFs_none h args 0 ha] at hgs; cases hgs
   have hodd : T.t ≠ 8 /\ T.t ≠ 14 /\ T.t ≠ 15 := by
    refine ⟨fun h => ?_, fun h => ?_, fun h => ?_⟩
    ·have := has_op_no (x := .mk T.t (guessN T n p) 0 s ys [] []) h (by simp [bareB, Va.types])
     rw [this] at hv; cases hv
    ·rw [has_lam hf h rfl] at hv
     simp [bareB, Va.types] at hv
    ·have hy := hnone (fun i => by unfold guessT; rw [if_neg (by omega), if_neg (by omega), if_neg (by omega), if_neg (by omega)])
     have := has_tick_no (x := .mk T.t (guessN T n p) 0 s ys [] []) hf h (by simp [bareB, Va.args, hy])
     rw [this] at hv; cases hv
   refine .mk h1 h2 h9 ⟨t1, t2, hodd.1, hodd.2.1, hodd.2.2⟩ (fun y hy => ?_)
   have hy' : y ∈ ys := hy
   obtain ⟨j, hj, rfl⟩ := List.getElem_of_mem hy'
   obtain ⟨U, hU, he⟩ := hget j (by omega) hj
   -- the type that is guessed is the type that is asked for
   have hUt : U = ts[j]'(by omega) /\ ∃ d', formedB d' U = true := by
    unfold guessT at hU
    by_cases h910 : T.t = 9 \/ T.t = 10
    ·rw [if_pos h910] at hU
     have hl1 : T.args.length = 1 := by
      unfold partsF at hlen
      rw [if_pos (by omega)] at hlen
      omega
     have hU2 := (Option.some.inj hU).symm
     have hfU : formedB (d + 1) U = true := by rw [hU2, tyAt_get (by omega)]; exact hfa _ (List.getElem_mem _)
     refine ⟨?_, d + 1, hfU⟩
     rcases h910 with h | h
     ·have e := tysR_9 (x := .mk T.t (guessN T n p) 0 s ys [] []) h (show ys.length ≠ 0 by omega) hts
      have hle := h9 h
      simp only [Va.args] at hle
      have : j = 0 := by omega
      subst this
      rw [hU2]; simp [e, tyAt_get (show 0 < T.args.length from by omega)]
     ·have e := tysR_10 h hts
      rw [hU2]; simp [e]
    ·rw [if_neg h910] at hU
     by_cases h13 : T.t = 13
     ·rw [if_pos h13] at hU
      have hU2 := (Option.some.inj hU).symm
      have e := tysR_13 h13 hts
      refine ⟨by rw [hU2]; simp [e], d, ?_⟩
      rw [hU2]
      obtain ⟨t', a'⟩ := T
      simp only [Ty.t] at h13
      subst h13
      simp only [formedB, Bool.and_eq_true, isTypeB, decide_eq_true_eq] at hf ⊢
      exact ⟨⟨hf.1.1, by omega, by have := hf.1.2.2; simp only [Ty.args]; simpa [partsF] using this⟩, hf.2⟩
     ·rw [if_neg h13] at hU
      by_cases h11 : T.t = 11 /\ j < 2
      ·rw [if_pos h11] at hU
       have hl2 : T.args.length = 2 := by
        unfold partsF at hlen
        rw [if_neg (by omega), if_pos (by omega)] at hlen
        omega
       have hU2 := (Option.some.inj hU).symm
       have e := tys_11 h11.1 hts
       refine ⟨by rw [hU2]; simp [e, tyAt_get (show j < T.args.length from by omega)], d + 1, ?_⟩
       rw [hU2, tyAt_get (by omega)]; exact hfa _ (List.getElem_mem _)
      ·rw [if_neg h11] at hU
       by_cases h12 : T.t = 12 /\ (guessN T n p = 0 \/ guessN T n p = 1)
       ·rw [if_pos h12] at hU
        have hl2 : T.args.length = 2 := by
         unfold partsF at hlen
         rw [if_neg (by omega), if_pos (by omega)] at hlen
         omega
        have hU2 := (Option.some.inj hU).symm
        obtain ⟨e, el⟩ := tysR_12 h12.1 hts
        simp only [Va.n, Va.args] at e el
        have : j = 0 := by omega
        subst this
        refine ⟨by rw [hU2]; simp [e], d + 1, ?_⟩
        rw [hU2, tyAt_get (by omega)]; exact hfa _ (List.getElem_mem _)
       ·rw [if_neg h12] at hU; cases hU
   obtain ⟨hUt, d', hfU⟩ := hUt
   have hvj := hvs j hj (by omega)
   rw [← hUt] at hvj
   rw [he] at hvj ⊢
   exact dok_guess m args[j] U d' (by have := sizes_lt (List.getElem_mem (show j < args.length by omega)); omega) hfU hvj
theorem parse_guess_yes {T : Ty} {t : Tr} (hT : goodTy T = true) (ht : goodF t = 0) (h1 : hasV (guessF t T) T = true) (h2 : dataT (guessF t T) = t) : parseF T t = some (guessF t T) := by
 have hf := (goodTy_formed hT).1
 unfold parseF
 rw [if_pos ⟨hT, ht⟩, read_of_guess t.size t T 1 (Nat.le_refl _) hf h1 h2]
 simp [h1, hasF, hT]
theorem parse_guess_no {T : Ty} {t : Tr} (hT : goodTy T = true) (ht : goodF t = 0) (h : ¬ (hasV (guessF t T) T = true /\ dataT (guessF t T) = t)) : parseF T t = none := by
 have hf := (goodTy_formed hT).1
 have hw := (goodF_zero ht).1
 unfold parseF
 rw [if_pos ⟨hT, ht⟩]
 cases hr : readT t T with
 | none => rfl
 | some x =>
  have hg := guess_of_read t.size t T x 1 1 (Nat.le_refl _) hr hf hw
  have hd := read_only t T x 1 1 hr hf hw
  rw [hg] at h
  simp only
  by_cases hv : hasV x T = true
  ·exact absurd ⟨hv, hd⟩ h
  ·simp [hv, hasF]
theorem parse_bad {T : Ty} {t : Tr} (h : ¬ (goodTy T = true /\ goodF t = 0)) : parseF T t = none := by
 unfold parseF; rw [if_neg h]
end Go.Proofs.YthjpngaapflclacGreat
