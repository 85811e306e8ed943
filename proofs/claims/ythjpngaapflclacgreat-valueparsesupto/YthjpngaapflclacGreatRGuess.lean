import Derived.Test.YthjpngaapflclacGreatRGuesA
import Derived.Test.YthjpngaapflclacGreatRDatA
import Derived.Test.YthjpngaapflclacGreatRHas
namespace Go.Proofs.YthjpngaapflclacGreat
set_option maxRecDepth 100000
set_option maxHeartbeats 4000000
open Go.ChangeShapes Go.WideShapes Go.ChangeAt Go.RowKit
set_option linter.unusedVariables false
def gAt (l : List Tr) (U : Nat -> Ty) (j : Nat) : Va := guessF ((l[j]?).getD (.nd 0 0 0 ⟨#[]⟩ [])) (U j)
theorem guessFs_range {T : Ty} {N : Int} : ∀ (l : List Tr) (U : Nat -> Ty) (i : Nat), (∀ j, j < l.length -> guessT T N (i + j) = some (U j)) -> guessFs l T N i = some ((List.range l.length).map (gAt l U))
 | [], U, i, _ => by rw [guessFs]; rfl
 | t :: l, U, i, h => by
  have h0 := h 0 (by simp)
  rw [Nat.add_zero] at h0
  rw [guessFs, h0, guessFs_range l (fun j => U (j + 1)) (i + 1) (fun j hj => by rw [← h (j + 1) (by simpa using hj)]; congr 1; omega)]
  simp only [Option.map_some, List.length_cons, List.range_succ_eq_map, List.map_cons, List.map_map]
  rfl
theorem guessFs_stop {T : Ty} {N : Int} : ∀ (l : List Tr) (i j : Nat), j < l.length -> guessT T N (i + j) = none -> guessFs l T N i = none
 | [], _, _, h, _ => by simp at h
 | t :: l, i, 0, _, h => by rw [Nat.add_zero] at h; rw [guessFs, h]
 | t :: l, i, j + 1, h, hn => by
  rw [guessFs]
  cases hg : guessT T N i with
  | none => rfl
  | some U => simp only; rw [guessFs_stop l (i + 1) j (by simpa using h) (by rw [← hn]; congr 1; omega)]; rfl
theorem prim_small {e : Nat} {k n p : Int} {s : ByteArray} {args : List Tr} (h : firstW e (.nd k n p s args) = 0) : 0 <= p /\ p <= 95 := by
 obtain ⟨hk, hm, _⟩ := first_parts h
 have hw : Lf.wrongF k n p s args.length = 0 := by
  rw [firstW] at h
  by_cases h1 : 24 < e
  ·rw [if_pos h1] at h; cases h
  ·rw [if_neg h1] at h
   by_cases h2 : Lf.wrongF k n p s args.length = 0
   ·exact h2
   ·rw [if_pos (by simpa using h2)] at h; exact absurd h h2
 by_cases h2 : k = 2
 ·subst h2
  unfold Lf.wrongF at hw
  have hp : Lf.isPrimB p = true := by
   cases hq : Lf.isPrimB p with
   | true => rfl
   | false => rw [if_neg (by simp [Lf.isKindB]), if_pos ⟨rfl, hq⟩] at hw; cases hw
  simp [Lf.isPrimB] at hp
  omega
 ·have : p = 0 := by
   unfold Lf.moreB at hm
   by_cases h0 : k = 0
   ·rw [if_pos h0] at hm; simp at hm; exact hm.1
   ·rw [if_neg h0] at hm
    by_cases h1 : k = 1
    ·rw [if_pos h1] at hm; simp at hm; exact hm.2.1
    ·rw [if_neg h1, if_neg h2] at hm; simp at hm; exact hm.2.1
  omega
theorem rguess_any {w : World} {t : Tr} {nv : Value} (hL : Lies (fun _ => True) w t nv) : ∀ (T : Ty) (tv : Value) (d e : Nat) (W : World), formedB d T = true -> firstW e t = 0 -> LiesT (fun _ => True) w T tv -> w.grownBy W none -> t.size <= 300 ->
 Calls Tryz.prog 30 #[tv, nv] W (GuessPost (guessF t T) W) := by
 induction hL with
 | @mk k n p s args na nc V hl hs ik iN ip hc hr ih =>
  intro T tv d e W hf hw hT hW hz
  obtain ⟨a', c, VT', rfl, it, hRT⟩ := hT.inv
  obtain ⟨t1, t2⟩ := formed_typeR hf
  obtain ⟨hlen, hfa⟩ := formed_args2 hf
  have hp := prim_small hw
  obtain ⟨_, _, hws⟩ := first_parts hw
  have hm : args.length <= 300 := by
   have := length_le_sizes args
   rw [Tr.size] at hz; omega
  have hRW : RowT (fun _ => True) W T.args a' VT' := hRT.same (sameAll hW)
  have HC : Hid (∀ j, j < args.length -> NodeAt (fun _ => True) W na j (V j)) := fun j hj => (hc j hj).same (sameAll hW)
  have hsub : ∀ (U : Ty) (uv : Value) (d' : Nat), formedB d' U = true -> LiesT (fun _ => True) w U uv -> ∀ j (hj : j < args.length) W2, W.grownBy W2 none -> Calls Tryz.prog 30 #[uv, V j] W2 (GuessPost (guessF args[j] U) W2) := fun U uv d' hU hLU j hj W2 hW2 =>
   ih j hj U uv d' (e + 1) W2 hU (firstWs_mem hws _ (List.getElem_mem hj)) hLU (Lf.gbt hW hW2) (by have := sizes_lt (List.getElem_mem hj); rw [Tr.size] at hz; omega)
  have hg : ∀ (U : Nat -> Ty) j (hj : j < args.length), guessF args[j] (U j) = gAt args U j := fun U j hj => by simp [gAt, List.getElem?_eq_getElem hj]
  unfold tyV nodeV
  rw [guessF_eq]
  have hcase : T.t = 9 \/ T.t = 10 \/ T.t = 11 \/ T.t = 12 \/ T.t = 13 \/ T.t = 2 \/ ¬ (T.t = 2 \/ T.t = 9 \/ T.t = 10 \/ T.t = 11 \/ T.t = 12 \/ T.t = 13) := by omega
  rcases hcase with h | h | h | h | h | h | h
  ·have hl1 : T.args.length = 1 := by rw [h] at hlen; simp [partsF] at hlen; omega
   have hN : guessN T n p = n := by unfold guessN; rw [if_neg (by omega), if_neg (by omega)]
   obtain ⟨bt, ot, tt, tta, ttl, ttc, hp0, hv0, hct⟩ := tcell (hRW.2.1 0 (by omega))
   subst hp0
   rw [hN, hl1, guessFs_range args (fun _ => T.args[0]) 0 (fun j hj => by unfold guessT; rw [if_pos (by omega), tyAt_get (by omega)])]
   have key : ∀ t, t = 9 -> Calls Tryz.prog 30 #[.agg #[.int .i64 t, .slice (some ⟨bt, ot, none⟩) 1 c], .agg #[.int .i64 k, .int .i64 n, .int .i64 p, .string s, .slice na args.length nc]] W (GuessPost (.mk t n 0 s ((List.range args.length).map (gAt args fun _ => T.args[0])) [] []) W) := fun t ht => by
    subst ht
    exact rguess_9 (NV := V) hm hs iN HC (fun W3 g => (hct W3 g).1) (fun W3 g => (hct W3 g).2) (fun j hj W2 hW2 => by
     have q := hsub T.args[0] (VT' 0) (d + 1) (hfa _ (List.getElem_mem _)) (hRT.2.2 0 (by omega)) j hj W2 hW2
     rw [hv0] at q
     rw [← hg (fun _ => T.args[0]) j hj]
     exact q)
   exact key T.t h
  ·have hl1 : T.args.length = 1 := by rw [h] at hlen; simp [partsF] at hlen; omega
   have hN : guessN T n p = n := by unfold guessN; rw [if_neg (by omega), if_neg (by omega)]
   obtain ⟨bt, ot, tt, tta, ttl, ttc, hp0, hv0, hct⟩ := tcell (hRW.2.1 0 (by omega))
   subst hp0
   rw [hN, hl1, guessFs_range args (fun _ => T.args[0]) 0 (fun j hj => by unfold guessT; rw [if_pos (by omega), tyAt_get (by omega)])]
   have key : ∀ t, t = 10 -> Calls Tryz.prog 30 #[.agg #[.int .i64 t, .slice (some ⟨bt, ot, none⟩) 1 c], .agg #[.int .i64 k, .int .i64 n, .int .i64 p, .string s, .slice na args.length nc]] W (GuessPost (.mk t n 0 s ((List.range args.length).map (gAt args fun _ => T.args[0])) [] []) W) := fun t ht => by
    subst ht
    exact rguess_10 (NV := V) hm hs iN HC (fun W3 g => (hct W3 g).1) (fun W3 g => (hct W3 g).2) (fun j hj W2 hW2 => by
     have q := hsub T.args[0] (VT' 0) (d + 1) (hfa _ (List.getElem_mem _)) (hRT.2.2 0 (by omega)) j hj W2 hW2
     rw [hv0] at q
     rw [← hg (fun _ => T.args[0]) j hj]
     exact q)
   exact key T.t h
  ·have hl2 : T.args.length = 2 := by rw [h] at hlen; simp [partsF] at hlen; omega
   have hN : guessN T n p = n := by unfold guessN; rw [if_neg (by omega), if_neg (by omega)]
   rw [hN, hl2]
   obtain ⟨bt, ot, _, _, _, _, hp0, _, _⟩ := tcell (hRW.2.1 0 (by omega))
   subst hp0
   have hct : ∀ j, j < 2 -> ∃ t a l c, VT' j = tyV t a l c /\ ∀ W3 : World, W.grownBy W3 none -> W3.cell? ⟨bt, ot + j * 2, none⟩ = some (.int .i64 t) /\ W3.cell? ⟨bt, ot + j * 2 + 1, none⟩ = some (.slice a l c) := fun j hj => by
    obtain ⟨b, o, t, a, l, c, hp1, hv1, hc1⟩ := tcell (hRW.2.1 j (by omega))
    obtain ⟨rfl, rfl⟩ := some_inj hp1
    exact ⟨t, a, l, c, hv1, hc1⟩
   obtain ⟨u0, ua0, ul0, uc0, hv0, hc0⟩ := hct 0 (by omega)
   obtain ⟨u1, ua1, ul1, uc1, hv1, hc1⟩ := hct 1 (by omega)
   have key : ∀ t, t = 11 -> Calls Tryz.prog 30 #[.agg #[.int .i64 t, .slice (some ⟨bt, ot, none⟩) 2 c], .agg #[.int .i64 k, .int .i64 n, .int .i64 p, .string s, .slice na args.length nc]] W (GuessPost (match guessFs args T n 0 with
    | none => zeroVa
    | some l => .mk t n 0 s l [] []) W) := fun t ht => by
    subst ht
    refine rguess_11 (TT := fun j => if j = 0 then u0 else u1) (TA := fun j => if j = 0 then ua0 else ua1) (TL := fun j => if j = 0 then ul0 else ul1) (TC := fun j => if j = 0 then uc0 else uc1) (NV := V) (G := gAt args (tyAt T.args)) hm hs iN HC (fun h2 => ?_) (fun h2 => ?_) (fun j hj W3 g => ?_) (fun j hj hj2 W2 hW2 => ?_)
    ·rw [guessFs_range args (tyAt T.args) 0 (fun j hj => by unfold guessT; rw [if_neg (by omega), if_neg (by omega), if_pos ⟨h, by omega⟩, Nat.zero_add])]
    ·rw [guessFs_stop args 0 2 (by omega) (by unfold guessT; rw [if_neg (by omega), if_neg (by omega), if_neg (by omega), if_neg (by omega)])]
    ·have : j = 0 \/ j = 1 := by omega
     rcases this with rfl | rfl
     ·exact hc0 W3 g
     ·exact hc1 W3 g
    ·have : j = 0 \/ j = 1 := by omega
     rw [← hg (tyAt T.args) j hj]
     rcases this with rfl | rfl
     ·have q := hsub T.args[0] (VT' 0) (d + 1) (hfa _ (List.getElem_mem _)) (hRT.2.2 0 (by omega)) 0 hj W2 hW2
      rw [hv0] at q
      rw [tyAt_get (by omega)]
      exact q
     ·have q := hsub T.args[1] (VT' 1) (d + 1) (hfa _ (List.getElem_mem _)) (hRT.2.2 1 (by omega)) 1 hj W2 hW2
      rw [hv1] at q
      rw [tyAt_get (by omega)]
      exact q
   exact key T.t h
  ·have hl2 : T.args.length = 2 := by rw [h] at hlen; simp [partsF] at hlen; omega
   have hN : guessN T n p = p - 24 := by unfold guessN; rw [if_neg (by omega), if_pos h]
   rw [hN]
   by_cases p0 : p = 24
   ·subst p0
    obtain ⟨bt, ot, tt, tta, ttl, ttc, hp0, hv0, hct⟩ := tcell (hRW.2.1 0 (by omega))
    subst hp0
    rw [hl2, guessFs_range args (fun _ => T.args[0]) 0 (fun j hj => by unfold guessT; rw [if_neg (by omega), if_neg (by omega), if_neg (by omega), if_pos ⟨h, by omega⟩, tyAt_get (by simp; omega)]; simp)]
    have key : ∀ t, t = 12 -> Calls Tryz.prog 30 #[.agg #[.int .i64 t, .slice (some ⟨bt, ot, none⟩) 2 c], .agg #[.int .i64 k, .int .i64 n, .int .i64 24, .string s, .slice na args.length nc]] W (GuessPost (.mk t (24 - 24) 0 s ((List.range args.length).map (gAt args fun _ => T.args[0])) [] []) W) := fun t ht => by
     subst ht
     exact rguess_12a (NV := V) hm hs ⟨by decide, by decide⟩ HC (fun W3 g => (hct W3 g).1) (fun W3 g => (hct W3 g).2) (fun j hj W2 hW2 => by
      have q := hsub T.args[0] (VT' 0) (d + 1) (hfa _ (List.getElem_mem _)) (hRT.2.2 0 (by omega)) j hj W2 hW2
      rw [hv0] at q
      rw [← hg (fun _ => T.args[0]) j hj]
      exact q)
    exact key T.t h
   ·by_cases p1 : p = 25
    ·subst p1
     obtain ⟨bt, ot, tt, tta, ttl, ttc, hp0, hv0, hct⟩ := tcell (hRW.2.1 1 (by omega))
     subst hp0
     rw [hl2, guessFs_range args (fun _ => T.args[1]) 0 (fun j hj => by unfold guessT; rw [if_neg (by omega), if_neg (by omega), if_neg (by omega), if_pos ⟨h, by omega⟩, tyAt_get (by simp; omega)]; simp)]
     have key : ∀ t, t = 12 -> Calls Tryz.prog 30 #[.agg #[.int .i64 t, .slice (some ⟨bt, ot, none⟩) 2 c], .agg #[.int .i64 k, .int .i64 n, .int .i64 25, .string s, .slice na args.length nc]] W (GuessPost (.mk t (25 - 24) 0 s ((List.range args.length).map (gAt args fun _ => T.args[1])) [] []) W) := fun t ht => by
      subst ht
      exact rguess_12b (NV := V) hm hs ⟨by decide, by decide⟩ HC (fun W3 g => (hct W3 g).1) (fun W3 g => (hct W3 g).2) (fun j hj W2 hW2 => by
       have q := hsub T.args[1] (VT' 1) (d + 1) (hfa _ (List.getElem_mem _)) (hRT.2.2 1 (by omega)) j hj W2 hW2
       rw [hv0] at q
       rw [← hg (fun _ => T.args[1]) j hj]
       exact q)
     exact key T.t h
    ·have hno : ∀ i, guessT T (p - 24) i = none := fun i => by unfold guessT; rw [if_neg (by omega), if_neg (by omega), if_neg (by omega), if_neg (by omega)]
     have key : ∀ t, t = 12 -> Calls Tryz.prog 30 #[.agg #[.int .i64 t, .slice a' T.args.length c], .agg #[.int .i64 k, .int .i64 n, .int .i64 p, .string s, .slice na args.length nc]] W (GuessPost (match guessFs args T (p - 24) 0 with
      | none => zeroVa
      | some l => .mk t (p - 24) 0 s l [] []) W) := fun t ht => by
      subst ht
      refine rguess_12x (NV := V) hm hs ⟨by omega, by omega⟩ HC (fun h0 => ?_) (fun h0 => ?_) hp (by omega) (by omega)
      ·have : args = [] := List.eq_nil_of_length_eq_zero h0
       rw [this, guessFs]
      ·rw [guessFs_none hno args 0 (fun h1 => h0 (by rw [h1]; rfl))]
     exact key T.t h
  ·have hN : guessN T n p = n := by unfold guessN; rw [if_neg (by omega), if_neg (by omega)]
   have hf11 : formedB d (.nd 11 T.args) = true := by
    obtain ⟨t', ar'⟩ := T
    simp only [Ty.t] at h
    subst h
    simp only [formedB, Bool.and_eq_true, isTypeB, decide_eq_true_eq] at hf ⊢
    exact ⟨⟨hf.1.1, by omega, by have := hf.1.2.2; simp only [Ty.args]; simpa [partsF] using this⟩, hf.2⟩
   have hT11 : LiesT (fun _ => True) w (.nd 11 T.args) (tyV 11 a' T.args.length c) := LiesT.of ⟨by decide, by decide⟩ hRT hT.cap
   rw [hN, guessFs_range args (fun _ => .nd 11 T.args) 0 (fun j hj => by unfold guessT; rw [if_neg (by omega), if_pos h])]
   have key : ∀ t, t = 13 -> Calls Tryz.prog 30 #[.agg #[.int .i64 t, .slice a' T.args.length c], .agg #[.int .i64 k, .int .i64 n, .int .i64 p, .string s, .slice na args.length nc]] W (GuessPost (.mk t n 0 s ((List.range args.length).map (gAt args fun _ => .nd 11 T.args)) [] []) W) := fun t ht => by
    subst ht
    exact rguess_13 (NV := V) hm hs iN HC (fun j hj W2 hW2 => by
     have q := hsub (.nd 11 T.args) (tyV 11 a' T.args.length c) d hf11 hT11 j hj W2 hW2
     rw [← hg (fun _ => .nd 11 T.args) j hj]
     exact q)
   exact key T.t h
  ·have hN : guessN T n p = 22 - p := by unfold guessN; rw [if_pos h]
   rw [hN]
   have hno : ∀ i, guessT T (22 - p) i = none := fun i => by unfold guessT; rw [if_neg (by omega), if_neg (by omega), if_neg (by omega), if_neg (by omega)]
   have key : ∀ t, t = 2 -> Calls Tryz.prog 30 #[.agg #[.int .i64 t, .slice a' T.args.length c], .agg #[.int .i64 k, .int .i64 n, .int .i64 p, .string s, .slice na args.length nc]] W (GuessPost (match guessFs args T (22 - p) 0 with
    | none => zeroVa
    | some l => .mk t (22 - p) 0 s l [] []) W) := fun t ht => by
    subst ht
    refine rguess_2 (NV := V) hm hs ⟨by omega, by omega⟩ HC (fun h0 => ?_) (fun h0 => ?_) hp
    ·have : args = [] := List.eq_nil_of_length_eq_zero h0
     rw [this, guessFs]
    ·rw [guessFs_none hno args 0 (fun h1 => h0 (by rw [h1]; rfl))]
   exact key T.t h
  ·have hN : guessN T n p = n := by unfold guessN; rw [if_neg (by omega), if_neg (by omega)]
   rw [hN]
   have hno : ∀ i, guessT T n i = none := fun i => by unfold guessT; rw [if_neg (by omega), if_neg (by omega), if_neg (by omega), if_neg (by omega)]
   refine rguess_Z (NV := V) hm hs iN HC (fun h0 => ?_) (fun h0 => ?_) it h
   ·have : args = [] := List.eq_nil_of_length_eq_zero h0
    rw [this, guessFs]
   ·rw [guessFs_none hno args 0 (fun h1 => h0 (by rw [h1]; rfl))]
end Go.Proofs.YthjpngaapflclacGreat
