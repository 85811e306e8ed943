import Derived.Test.YtamohjlhndedhadGreatRRRCkStep
import Derived.Test.YtamohjlhndedhadGreatRRRCkCode
import Derived.Test.YtamohjlhndedhadGreatRRRZi
import Derived.Test.YtamohjlhndedhadGreatRRRZm
import Derived.Test.YtamohjlhndedhadGreatRRRCkTwo
import Derived.Test.YtamohjlhndedhadGreatRRRZa
namespace Go.Proofs.YtamohjlhndedhadGreatRRR
set_option maxRecDepth 100000
set_option maxHeartbeats 4000000
open Go.ChangeShapes Go.WideShapes Go.ChangeAt Go.RowKit
set_option linter.unusedVariables false
set_option linter.unusedSimpArgs false
theorem code_all {W : World} {n : Tr} {u : Value} {s : List Ty} {sa : Option Addr} {sl sc : Nat} (hL : Lies (fun _ => True) W n u) (hs : RowC W s (.slice sa sl sc)) (hz : n.size <= 4611686018427387903) :
 Calls Tryz.prog 4 #[u, .slice sa sl sc] W (LedPost (codeF n s) W) :=
 code_any hL hs hz (fun t v W2 s2 a2 l2 c2 h1 h2 h3 h4 h5 => step_all 300 (Nat.le_refl _) t v W2 s2 a2 l2 c2 h1 h2 h3 (by omega) h5)
theorem seq_any (a : Option Addr) (l c : Nat) (W : World) : Calls Tryz.prog 15 #[.slice a l c] W fun e w' => e = .returned (nodeV 3 0 0 ⟨#[]⟩ a l c) /\ W.grownBy w' none := by
 go_enter Tryz.func15, Tryz.ntmps15
 go_wp2_with fail
 have hb := heap_alloc_new W (.cells #[.int .i64 3, .int .i64 0, .int .i64 0, .string ⟨#[]⟩, .slice a l c] 24)
 have HG := jh (Lf.gb (w := W) (.cells #[.int .i64 3, .int .i64 0, .int .i64 0, .string ⟨#[]⟩, .slice a l c] 24))
 generalize W.alloc (.cells #[.int .i64 3, .int .i64 0, .int .i64 0, .string ⟨#[]⟩, .slice a l c] 24) = wf at *
 obtain ⟨z0, z1, z2, z3, z4⟩ := box5 hb
 exact bodyPost_ret (v := nodeV 3 0 0 ⟨#[]⟩ a l c) (by simp [results, Tryz.results15, go_sem, z0, z1, z2, z3, z4, nodeV]) rfl ⟨rfl, HG.out⟩
def dropTr : Tr := .nd 3 0 0 ⟨#[]⟩ [.nd 2 0 40 ⟨#[]⟩ []]
theorem drop_code : codeF dropTr [.nd 4 [], .nd 2 []] = .ok false [.nd 2 []] := by
 unfold codeF dropTr
 rw [if_neg (by decide), if_neg (by decide), if_neg (by decide), if_pos (by decide)]
 rfl
theorem drop_lies {w : World} {b : Nat} {T : TypeId} (h : w.heap[b]? = some (.cells #[.int .i64 2, .int .i64 0, .int .i64 40, .string ⟨#[]⟩, .slice none 0 0] T (0, 0))) : Lies (fun _ => True) w dropTr (nodeV 3 0 0 ⟨#[]⟩ (some ⟨b, 0, none⟩) 1 1) := by
 obtain ⟨z0, z1, z2, z3, z4⟩ := box5 h
 refine Lies.mk (args := [.nd 2 0 40 ⟨#[]⟩ []]) (fun _ => nodeV 2 0 40 ⟨#[]⟩ none 0 0) (by simp [maxLen]) (Nat.zero_le _) ⟨by decide, by decide⟩ ⟨by decide, by decide⟩ ⟨by decide, by decide⟩ (fun i hi => ?_) (fun i hi => ?_)
 ·obtain rfl : i = 0 := by simpa using hi
  exact ⟨b, 0, rfl, trivial, 2, 0, 40, ⟨#[]⟩, none, 0, 0, rfl, z0, z1, z2, z3, z4⟩
 ·obtain rfl : i = 0 := by simpa using hi
  exact Lies.mk (fun _ => .int .i64 0) (by simp [maxLen]) (Nat.zero_le _) ⟨by decide, by decide⟩ ⟨by decide, by decide⟩ ⟨by decide, by decide⟩ (fun i hi => by simp at hi) (fun i hi => by simp at hi)
theorem leaf_lies (w : World) (t : Int) (it : I64 t) : LiesT (fun _ => True) w (.nd t []) (tyV t none 0 0) := LiesT.ofC it (RowC.nil _ none 0)
theorem checks_any (W : World) : Calls Tryz.prog 6 #[] W fun e w' => e = .returned (.bool true) /\ W.grownBy w' none := by
 have HB := jh (heap_alloc_new W (.cells #[.int .i64 2, .int .i64 0, .int .i64 40, .string ⟨#[]⟩, .slice none 0 0] 24))
 have HG := jh (Lf.gb (w := W) (.cells #[.int .i64 2, .int .i64 0, .int .i64 40, .string ⟨#[]⟩, .slice none 0 0] 24))
 go_enter Tryz.func6, Tryz.ntmps6
 go_wp2_with fail
 refine (seq_any _ _ _ _).mono ?_; rintro e w1 ⟨rfl, hg⟩
 have HL := jh (drop_lies (kBq HB.out hg))
 replace HG := jh (Lf.gbt HG.out hg)
 have hga := Lf.gb (w := w1) (.cells #[.int .i64 4, .slice none 0 0, .int .i64 2, .slice none 0 0] 44)
 have HC := jh (code_all (HL.out.same (sAl hga)) (RowC.two (heap_alloc_new w1 (.cells #[.int .i64 4, .slice none 0 0, .int .i64 2, .slice none 0 0] 44)) (leaf_lies _ 4 ⟨by decide, by decide⟩) (leaf_lies _ 2 ⟨by decide, by decide⟩)) (by simp [dropTr, Tr.size, sizes]))
 rw [drop_code] at HC
 replace HG := jh (Lf.gbt HG.out hga)
 clear hg hga HB HL
 unfold nodeV at HC ⊢
 go_wp2_with fail
 refine HC.out.mono ?_; rintro e w2 ⟨hg, hcase⟩
 rcases hcase with ⟨er, h, _⟩ | ⟨f, ts, a, l, c, h, rfl, hr⟩
 ·cases h
 simp only [Led.ok.injEq] at h
 obtain ⟨rfl, rfl⟩ := h
 obtain ⟨rfl, _, _⟩ := hr.len
 obtain ⟨b, o, t0, a0, l0, k0, rfl, x0, x1, hA⟩ := hr.at 0 (by simp)
 obtain ⟨e0, _⟩ := hA.args
 have ht : t0 = 2 := e0.symm
 subst ht
 simp only [Nat.mul_zero, Nat.add_zero, Nat.zero_add, List.length_singleton] at x0 x1 ⊢
 replace HG := jh (Lf.gbt HG.out hg)
 have hga := Lf.gb (w := w2) (.cells #[.slice (some ⟨b, o, none⟩) 1 c, .bool false] 27)
 have hb := heap_alloc_new w2 (.cells #[.slice (some ⟨b, o, none⟩) 1 c, .bool false] 27)
 replace x0 := kNq hga x0
 have z0 := cell0_of hb
 have z1 := cell1_of hb
 replace HG := jh (Lf.gbt HG.out hga)
 clear hg hga hb HC hr hA e0 x1
 go_wp2_with fail
 go_ret
 exact ⟨rfl, HG.out⟩
def LedCut (r : Led) (W : World) (pv qv : Value) (wx : World) : Prop :=
 ∃ (bp : Nat) (a : Option Addr) (l c : Nat) (f : Bool) (er : Int), pv = .pointer (some ⟨bp, 0, none⟩) /\ qv = .int .i64 er /\ wx.heap[bp]? = some (.cells #[.slice a l c, .bool f] 27 (0, 0)) /\ W.grownBy wx none /\ W.heap.size <= bp /\ LedIs wx r a l c f er
theorem ledCut_one {r : Led} {W w : World} {a : Option Addr} {l c : Nat} {f : Bool} {er : Int} (hg : W.grownBy w none) (h : LedIs w r a l c f er) : LedCut r W (.pointer (some ⟨w.heap.size, 0, none⟩)) (.int .i64 er) (w.alloc (.cells #[.slice a l c, .bool f] 27)) :=
 ⟨_, a, l, c, f, er, rfl, rfl, heap_alloc_new _ _, Lf.gbt hg (Lf.gb _), hg.size, h.grow (Lf.gb _)⟩
theorem ledCut_two {r : Led} {W w : World} {a : Option Addr} {l c H : Nat} {f : Bool} {er : Int} (hg : W.grownBy w none) (h : LedIs w r a l c f er) (hH : W.heap.size <= H) (hb : w.heap[H]? = some (.cells #[.slice none 0 0, .bool false] 27 (0, 0))) : LedCut r W (.pointer (some ⟨H, 0, none⟩)) (.int .i64 er) (set2 w H (.slice a l c) (.bool f)) := by
 refine ⟨_, a, l, c, f, er, rfl, rfl, set2_block hb _ _, grow_set2 hg hH _ _, hH, ?_⟩
 rcases h with h | ⟨ts, h1, h2, h3⟩
 ·exact .inl h
 ·exact .inr ⟨ts, h1, h2, h3.set hb _ _⟩
theorem CatOk.alloc {W w : World} {v : Value} {ts : List Ty} {vs : List Value} (h : CatOk W w v ts vs) (o : Obj) : CatOk W (w.alloc o) v ts vs := ⟨World.ownsRow.alloc h.own o, h.len, h.lies⟩
theorem sameT_refl2 : ∀ (n : Nat) (T : Ty), T.size <= n -> sameT T T = true := by
 intro n
 induction n with
 | zero => intro T h; have : 1 <= T.size := by { cases T; simp [Ty.size] }; omega
 | succ n ih =>
  intro T h
  obtain ⟨t, args⟩ := T
  simp only [Ty.size] at h
  simp only [sameT, decide_true, Bool.true_and]
  have key : ∀ (l : List Ty), tysizes l <= n -> sameTs l l = true := by
   intro l
   induction l with
   | nil => intro _; rfl
   | cons x l ih2 =>
    intro hl
    simp only [tysizes] at hl
    simp only [sameTs, Bool.and_eq_true]
    exact ⟨ih x (by omega), ih2 (by omega)⟩
  exact key args (by omega)
theorem sameTs_refl2 (l : List Ty) : sameTs l l = true := by
 induction l with
 | nil => rfl
 | cons x l ih => simp only [sameTs, Bool.and_eq_true]; exact ⟨sameT_refl2 _ x (Nat.le_refl _), ih⟩
theorem grow_newB {w w1 w2 : World} {b : Nat} (h : w.grownBy w1 none) (hg : w1.grownBy w2 (some b)) (hb : w.heap.size <= b) : w.grownBy w2 none :=
 ⟨hg.os.trans h.os, hg.tape.trans h.tape, hg.output.trans h.output, Nat.le_trans h.size hg.size, fun k hk hr => (hg.block k (Nat.lt_of_lt_of_le hk h.size) (by simp; omega)).trans (h.block k hk hr)⟩
theorem RowN.base {ok : Nat -> Prop} {w : World} {ts : List Tr} {a : Option Addr} {V : Nat -> Value} (h : RowN ok w ts a V) (hl : 0 < ts.length) : ∃ b o, a = some ⟨b, o, none⟩ := by
 obtain ⟨b, o, e, _⟩ := h.2.1 0 hl
 exact ⟨b, o, e⟩
theorem RowN.src {ok : Nat -> Prop} {w : World} {ts : List Tr} {a : Option Addr} {V : Nat -> Value} (h : RowN ok w ts a V) (c : Nat) : ∃ vs : List Value, vs.length = ts.length /\ SrcAt w (.slice a ts.length c) ts.length (flat vs) /\ (flat vs).length = ts.length * 5 /\ (∀ u ∈ flat vs, u.oneCell' = true) /\ ∀ (i : Nat) (t : Tr) (u : Value), ts[i]? = some t -> vs[i]? = some u -> Lies ok w t u := by
 let vs := (List.range ts.length).map V
 have hlen : vs.length = ts.length := by simp [vs]
 have hget : ∀ i, i < ts.length -> vs[i]? = some (V i) := fun i hi => by simp [vs, hi]
 have hty : ∀ i, i < ts.length -> ∃ k n p s a' l c', V i = nodeV k n p s a' l c' := fun i hi => by
  obtain ⟨_, _, _, _, k, n, p, s, a', l, c', hv, _⟩ := h.2.1 i hi
  exact ⟨k, n, p, s, a', l, c', hv⟩
 have h2 : ∀ u ∈ vs, ∃ k n p s a' l c', u = nodeV k n p s a' l c' := fun u hu => by
  simp only [vs, List.mem_map, List.mem_range] at hu
  obtain ⟨i, hi, rfl⟩ := hu
  exact hty i hi
 have h2x : ∀ u ∈ vs, (nodeCells u).length = 5 := fun u hu => by obtain ⟨k, n, p, s, a', l, c', rfl⟩ := h2 u hu; rfl
 have hfl : ∀ (us : List Value), (∀ u ∈ us, (nodeCells u).length = 5) -> (flat us).length = us.length * 5 := fun us => by
  induction us with
  | nil => intro _; rfl
  | cons x us ih =>
   intro hx
   have e1 := hx x (by simp)
   have e2 := ih (fun u hu => hx u (by simp [hu]))
   simp only [flat, List.flatMap_cons, List.length_append, List.length_cons] at e2 ⊢
   omega
 refine ⟨vs, hlen, ?_, by rw [hfl vs h2x, hlen], fun u hu => ?_, fun i t u ht hu => ?_⟩
 ·cases a with
  | none =>
   have h0 : ts.length = 0 := by
    rcases Nat.eq_zero_or_pos ts.length with e | e
    ·exact e
    ·obtain ⟨b, o, e2⟩ := h.base e; cases e2
   exact .inl ⟨c, by rw [h0], h0, by rw [List.eq_nil_of_length_eq_zero (hlen.trans h0)]; rfl⟩
  | some ad =>
   refine .inr ⟨ad, c, rfl, fun j u hu => ?_⟩
   have hj : j < (flat vs).length := (List.getElem?_eq_some_iff.1 hu).1
   rw [hfl vs h2x, hlen] at hj
   have hi : j / 5 < ts.length := by omega
   obtain ⟨b, o, e, _, k, n, p, s, a', l, c', hv, d0, d1, d2, d3, d4⟩ := h.2.1 (j / 5) hi
   have hf := flat_get vs h2x (j / 5) (j % 5) (V (j / 5)) (hget _ hi) (by omega)
   rw [show j / 5 * 5 + j % 5 = j from by omega, hu, hv] at hf
   simp only [Option.some.injEq] at e
   subst e
   rw [addr_add]
   rcases (show j % 5 = 0 \/ j % 5 = 1 \/ j % 5 = 2 \/ j % 5 = 3 \/ j % 5 = 4 by omega) with q | q | q | q | q
   ·rw [q] at hf; simp [nodeCells, nodeV] at hf; rw [hf, ← d0, show o + j = o + j / 5 * 5 from by omega]
   ·rw [q] at hf; simp [nodeCells, nodeV] at hf; rw [hf, ← d1, show o + j = o + j / 5 * 5 + 1 from by omega]
   ·rw [q] at hf; simp [nodeCells, nodeV] at hf; rw [hf, ← d2, show o + j = o + j / 5 * 5 + 2 from by omega]
   ·rw [q] at hf; simp [nodeCells, nodeV] at hf; rw [hf, ← d3, show o + j = o + j / 5 * 5 + 3 from by omega]
   ·rw [q] at hf; simp [nodeCells, nodeV] at hf; rw [hf, ← d4, show o + j = o + j / 5 * 5 + 4 from by omega]
 ·simp only [flat, List.mem_flatMap] at hu
  obtain ⟨x, hx, hu⟩ := hu
  obtain ⟨k, n, p, s, a', l, c', rfl⟩ := h2 x hx
  simp [nodeCells, nodeV] at hu
  rcases hu with rfl | rfl | rfl | rfl | rfl <;> rfl
 ·have hi : i < ts.length := (List.getElem?_eq_some_iff.1 ht).1
  rw [hget i hi] at hu
  rw [List.getElem?_eq_getElem hi] at ht
  simp only [Option.some.injEq] at ht hu
  subst ht; subst hu
  exact h.2.2 i hi
structure CatN (n0 : Nat) (W w : World) (v : Value) (ts : List Tr) (vs : List Value) : Prop where
 own : OwnsL W.heap.size w v vs
 len : vs.length = ts.length
 lies : ∀ (i : Nat) (t : Tr) (u : Value), ts[i]? = some t -> vs[i]? = some u -> Lies (· < n0) W t u
theorem CatN.more {n0 : Nat} {W w w' : World} {v v' : Value} {ts us : List Tr} {vs ns : List Value} (h : CatN n0 W w v ts vs) (ho : OwnsL W.heap.size w' v' (vs ++ ns)) (hl : ns.length = us.length) (hu : ∀ (i : Nat) (t : Tr) (u : Value), us[i]? = some t -> ns[i]? = some u -> Lies (· < n0) W t u) : CatN n0 W w' v' (ts ++ us) (vs ++ ns) := by
 refine ⟨ho, by simp [h.len, hl], fun i t u ht hv => ?_⟩
 by_cases hi : i < ts.length
 ·rw [List.getElem?_append_left hi] at ht
  rw [List.getElem?_append_left (by rw [h.len]; exact hi)] at hv
  exact h.lies i t u ht hv
 ·rw [List.getElem?_append_right (by omega)] at ht
  rw [List.getElem?_append_right (by rw [h.len]; omega), h.len] at hv
  exact hu _ t u ht hv
theorem CatN.done {n0 : Nat} {W w : World} {v : Value} {ts : List Tr} {vs : List Value} (h : CatN n0 W w v ts vs) (hg : W.grownBy w none) (hn : n0 <= W.heap.size) : ∃ a c V, v = .slice a ts.length c /\ RowN (fun b => b < n0 \/ W.heap.size <= b) w ts a V := by
 have hl := h.len
 have hk : ListOk 0 w v ts vs := by
  refine ⟨?_, h.len, fun i t u ht hu => ?_⟩
  ·obtain ⟨h1, h2⟩ := h.own
   refine ⟨h1, ?_⟩
   rcases h2 with h2 | ⟨g, cap, cur, e, _, h3⟩
   ·exact .inl h2
   ·exact .inr ⟨g, cap, cur, e, Nat.zero_le _, h3⟩
  ·refine ((h.lies i t u ht hu).same (w' := w) (fun b o hb hlt => World.cell?_of_block (hg.block b hlt (by simp)))).okMono (fun b _ hb => ⟨Nat.zero_le _, fun e => ?_⟩)
   have h3 := (World.ownsRow.lt h.own b e.symm).1
   have : b < n0 := hb
   omega
 have hlow : ∀ i (hi : i < ts.length), ∃ u, vs[i]? = some u /\ Lies (· < n0) w ts[i] u := fun i hi => by
  have hv : i < vs.length := by omega
  exact ⟨vs[i], List.getElem?_eq_getElem hv, (h.lies i ts[i] vs[i] (List.getElem?_eq_getElem hi) (List.getElem?_eq_getElem hv)).same (w' := w) (fun b o hb hlt => World.cell?_of_block (hg.block b hlt (by simp)))⟩
 have hm : ts.length <= maxLen := by
  rcases h.own.2 with ⟨e2, h0⟩ | ⟨g, cap, cur, e2, _, _, h4, h5, _⟩
  ·rw [hl] at h0; rw [h0]; exact Nat.zero_le _
  ·omega
 rcases h.own.2 with ⟨rfl, h0⟩ | ⟨g, cap, cur, rfl, hge, hgb, h4, h5, h6, h7⟩
 ·have e0 : ts = [] := List.eq_nil_of_length_eq_zero (by omega)
  subst e0
  exact ⟨none, 0, fun _ => .int .i64 0, rfl, Nat.zero_le _, fun i hi => by simp at hi, fun i hi => by simp at hi⟩
 ·refine ⟨some ⟨g, 0, none⟩, cap, fun i => (vs[i]?).getD (.int .i64 0), by rw [hl], hm, fun i hi => ?_, fun i hi => ?_⟩
  ·obtain ⟨u, hu, hLu⟩ := hlow i hi
   obtain ⟨k, n, p, s, a', l, c', e, _⟩ := hLu.form
   have hx : ∀ x ∈ vs, (nodeCells x).length = 5 := fun x hx => by
    obtain ⟨q, hq, rfl⟩ := List.getElem_of_mem hx
    obtain ⟨u', hu', hL'⟩ := hlow q (by omega)
    rw [List.getElem?_eq_getElem hq] at hu'
    obtain ⟨_, _, _, _, _, _, _, e', _⟩ := hL'.form
    simp only [Option.some.injEq] at hu'
    rw [hu', e']; rfl
   have cell : ∀ j, j < 5 -> w.cell? ⟨g, 0 + i * 5 + j, none⟩ = (nodeCells u)[j]? := fun j hj => by
    have f := flat_get vs hx i j u hu hj
    have h8 : (cur.toList.take (vs.length * 5))[i * 5 + j]? = (flat vs)[i * 5 + j]? := by rw [h7]
    rw [List.getElem?_take, if_pos (by omega), f] at h8
    have h9 : cur[i * 5 + j]? = (nodeCells u)[j]? := by simpa using h8
    simp [World.cell?, hgb, h9]
   subst e
   refine ⟨g, 0, rfl, .inr hge, k, n, p, s, a', l, c', by show (vs[i]?).getD _ = _; rw [hu]; rfl, ?_, ?_, ?_, ?_, ?_⟩
   ·exact (cell 0 (by omega)).trans rfl
   ·exact (cell 1 (by omega)).trans rfl
   ·exact (cell 2 (by omega)).trans rfl
   ·exact (cell 3 (by omega)).trans rfl
   ·exact (cell 4 (by omega)).trans rfl
  ·obtain ⟨u, hu, hLu⟩ := hlow i hi
   show Lies _ w ts[i] ((vs[i]?).getD _)
   rw [hu]
   exact hLu.okMono (fun b _ hb => .inl hb)
theorem both_any {W : World} {a b : Tr} {u v : Value} (ha : Lies (fun _ => True) W a u) (hb : Lies (fun _ => True) W b v) (za : a.size <= 2000000) (zb : b.size <= 2000000) :
 Calls Tryz.prog 8 #[u, v] W fun e w' => ∃ x, e = .returned x /\ Lies (fun _ => True) w' (.nd 3 0 0 ⟨#[]⟩ (a.args0 ++ b.args0)) x /\ W.grownBy w' none := by
 obtain ⟨na, nc, VN, e1, _, hNa⟩ := ha.invN
 obtain ⟨nb, mc, VM, e2, _, hNb⟩ := hb.invN
 rw [e1, e2]
 unfold nodeV
 obtain ⟨hg3, hA3, hB3, hR3⟩ := start3 W (.cells #[.int .i64 a.k0, .int .i64 a.n0, .int .i64 a.p0, .string a.s0, .slice na a.args0.length nc] 24) (.cells #[.int .i64 b.k0, .int .i64 b.n0, .int .i64 b.p0, .string b.s0, .slice nb b.args0.length mc] 24) (.cells #[.int .i64 0, .int .i64 0, .int .i64 0, .string ⟨#[]⟩, .slice none 0 0] 24)
 have ma := (box5 hA3).2.2.2.2
 have mb := (box5 hB3).2.2.2.2
 have HNA := jh ((hNa.okMono (ok' := (· < W.heap.size)) (fun b hb _ => hb)).same (fun b o hb hl => World.cell?_of_block (hg3.block b hl (by simp))))
 have HNB := jh ((hNb.okMono (ok' := (· < W.heap.size)) (fun b hb _ => hb)).same (fun b o hb hl => World.cell?_of_block (hg3.block b hl (by simp))))
 have HG := jh hg3
 have HR := jh hR3
 have hla : a.args0.length <= 2000000 := by have e0 : a.size = sizes a.args0 + 1 := (by cases a; rfl); have := length_le_sizes a.args0; omega
 have hlb : b.args0.length <= 2000000 := by have e0 : b.size = sizes b.args0 + 1 := (by cases b; rfl); have := length_le_sizes b.args0; omega
 clear ha hb hNa hNb e1 e2 hg3 hA3 hB3 hR3
 go_enter Tryz.func8, Tryz.ntmps8
 go_wp2_with fail
 generalize ((W.alloc _).alloc _).alloc _ = W3 at *
 have ya := fun (w' : World) (h : W3.grownBy w' (some (W.heap.size + 1 + 1))) => (World.cell?_of_block (h.block _ (World.block_lt_of_cell? W3 _ ma) (by simp <;> omega))).trans ma
 have yb := fun (w' : World) (h : W3.grownBy w' (some (W.heap.size + 1 + 1))) => (World.cell?_of_block (h.block _ (World.block_lt_of_cell? W3 _ mb) (by simp <;> omega))).trans mb
 refine wp_region_held_drew (S := fun w' => W3.grownBy w' (some (W.heap.size + 1 + 1))) (by kernel_rfl) ?_ (fun hHeld => ?_)
 ·exact gDr (gRf _ _)
 refine rGq 0 5 ?_
 simp only [Act.put, pS]
 refine rGq 1 6 ?_
 simp only [Act.put, pS]
 refine rGq 3 8 ?_
 simp only [Act.put, pS]
 refine rGq 4 9 ?_
 simp only [Act.put, pS]
 have hd : W3.grownBy W3.drew none := gDr (gRf _ _)
 have hNA := HNA.out.same (w' := W3.drew) (fun b o hb hl => World.cell?_of_block (hd.block b hl (by simp)))
 have hNB := HNB.out.same (w' := W3.drew) (fun b o hb hl => World.cell?_of_block (hd.block b hl (by simp)))
 have hwz : W.heap.size + 1 + 1 < W3.heap.size := (Array.getElem?_eq_some_iff.1 HR.out).1
 obtain ⟨us, a1, a2, a3, a4, a5⟩ := hNA.src nc
 obtain ⟨vs, b1, b2, b3, b4, b5⟩ := hNB.src mc
 have hK0 : CatN W.heap.size W3.drew W3.drew (.slice none 0 0) [] [] := ⟨World.ownsRow_nil _ _ _ _, rfl, fun i t u h => by simp at h⟩
 refine wpAnyH_ready (rs := [2]) (by kernel_rfl) (by simp) ?_
 refine AllReadyH.cons rfl (fun K hK => ?_) AllReadyH.nil
 refine step_app rfl (.const (.slice none 0 0)) (.tmp 6) 22 rfl W3.drew.heap.size 24 Tryz.underlying22 info24 rfl (by decide) _ 0 [] rfl hK0.own _ a.args0.length (flat us) rfl a3 a2 a4 (by unfold maxLen; omega) (by omega) (Nat.le_refl _) ?_
 intro v5 w5 ho5 hg5 _
 have hG5 : W3.drew.grownBy w5 none := grow_own (gRf _ _) hK0.own (Nat.le_refl _) hg5.1
 have hK5 := hK0.more (v' := v5) (w' := w5) (ns := us) (us := a.args0) (by unfold OwnsL; rw [flat_append, List.length_append, a1]; exact ho5) a1 a5
 refine hK.out _ _ (gAq (Lf.gbt hd hG5)) (fun _ => ?_)
 clear hK K
 refine wpAnyH_ready (rs := [5]) (by kernel_rfl) (by simp) ?_
 refine AllReadyH.cons rfl (fun K hK => ?_) AllReadyH.nil
 refine step_app rfl (.tmp 7) (.tmp 9) 22 rfl W3.drew.heap.size 24 Tryz.underlying22 info24 rfl (by decide) _ (([] : List Value) ++ us).length (flat ([] ++ us)) rfl hK5.own _ b.args0.length (flat vs) rfl b3 (b2.grow hG5) b4 (by unfold maxLen; simp; omega) (by simp; omega) hG5.size ?_
 intro v6 w6 ho6 hg6 _
 have hG6 : W3.drew.grownBy w6 none := grow_own hG5 hK5.own (Nat.le_refl _) hg6.1
 have hK6 := hK5.more (v' := v6) (w' := w6) (ns := vs) (us := b.args0) (by unfold OwnsL; rw [flat_append, List.length_append, b1]; exact ho6) b1 b5
 obtain ⟨xa, xc, VX, e6, hX⟩ := hK6.done hG6 (by show W.heap.size <= W3.heap.size; omega)
 rw [List.nil_append] at e6 hX
 obtain ⟨xl, hxl⟩ : ∃ xl, xl = (a.args0 ++ b.args0).length := ⟨_, rfl⟩
 rw [← hxl] at e6
 subst e6
 have HXL := jh hxl
 clear hxl
 refine hK.out _ _ (gAq (Lf.gbt hd hG6)) (fun _ => ?_)
 clear hK K
 refine wpAnyH_ready (rs := [6]) (by kernel_rfl) (by simp) ?_
 refine AllReadyH.cons rfl (fun K hK => ?_) AllReadyH.nil
 go_simp
 go_at_call 15
 refine (seq_any _ _ _ _).mono ?_; rintro e w7 ⟨rfl, hg7⟩
 have hG7 := Lf.gbt (Lf.gbt hd hG6) hg7
 refine hK.out _ _ (gAq hG7) (fun _ => ?_)
 clear hK K
 have HX := jh ((hX.same (w' := w7) (fun b o _ hl => World.cell?_of_block (hg7.block b hl (by simp)))).okMono (ok' := (fun b => b ≠ W.heap.size + 1 + 1)) (fun b _ hb => by
  rcases hb with hb | hb
  ·omega
  ·have hb' : W3.heap.size <= b := hb
   omega))
 have hb7 := kBq HR.out hG7
 obtain ⟨q0, q1, q2, q3, q4⟩ := box5 hb7
 have qf := box5f hb7
 have HB7 := jh hb7
 have HG7 := jh hG7
 clear hG7 hg7 hX hK6 hK5 hK0 hG6 hG5 hd hHeld hb7 ho5 ho6 hg5 hg6
 unfold nodeV
 refine wpAnyH_ready (rs := [7]) (by kernel_rfl) (by simp) ?_
 refine AllReadyH.cons rfl (fun K hK => ?_) AllReadyH.nil
 go_simp
 refine hK.out _ _ (grow_trans (gAq HG7.out) (set5_grow w7 (W.heap.size + 1 + 1) (.int .i64 3) (.int .i64 0) (.int .i64 0) (.string ⟨#[]⟩) (.slice xa xl xc))) (fun _ => ?_)
 clear hK K
 refine wpAnyH_done (by kernel_rfl) ?_ _
 go_wp2_with fail
 change bodyPost _ _ _ _ _ (set5 w7 (W.heap.size + 1 + 1) (.int .i64 3) (.int .i64 0) (.int .i64 0) (.string ⟨#[]⟩) (.slice xa xl xc))
 have hb' := set5_block HB7.out (.int .i64 3) (.int .i64 0) (.int .i64 0) (.string ⟨#[]⟩) (.slice xa xl xc)
 have hgs := set5_grow w7 (W.heap.size + 1 + 1) (.int .i64 3) (.int .i64 0) (.int .i64 0) (.string ⟨#[]⟩) (.slice xa xl xc)
 have hX2 := HX.out.same (w' := set5 w7 (W.heap.size + 1 + 1) (.int .i64 3) (.int .i64 0) (.int .i64 0) (.string ⟨#[]⟩) (.slice xa xl xc)) (fun b o hb hl => World.cell?_of_block (hgs.block b hl (by have h : b ≠ W.heap.size + 1 + 1 := hb; simp; omega)))
 have hGf : W.grownBy (set5 w7 (W.heap.size + 1 + 1) (.int .i64 3) (.int .i64 0) (.int .i64 0) (.string ⟨#[]⟩) (.slice xa xl xc)) none := grow_newB (Lf.gbt HG.out HG7.out) hgs (by omega)
 generalize set5 w7 (W.heap.size + 1 + 1) _ _ _ _ _ = wf at *
 obtain ⟨z0, z1, z2, z3, z4⟩ := box5 hb'
 refine bodyPost_ret (v := nodeV 3 0 0 ⟨#[]⟩ xa xl xc) (by simp [results, Tryz.results8, go_sem, z0, z1, z2, z3, z4, nodeV]) rfl ⟨_, rfl, ?_, hGf⟩
 rw [HXL.out]
 exact Lies.mk VX hX2.1 (Nat.zero_le _) ⟨by decide, by decide⟩ ⟨by decide, by decide⟩ ⟨by decide, by decide⟩ (fun i hi => (hX2.2.1 i hi).okMono (fun _ _ _ => trivial)) (fun i hi => (hX2.2.2 i hi).okMono (fun _ _ _ => trivial))
theorem sizes_snoc (l : List Tr) (k : Nat) (h : k < l.length) : sizes (l.take (k + 1)) = sizes (l.take k) + (l[k]).size := by
 rw [List.take_succ_eq_append_getElem h, sizes_append]
 simp [sizes]
theorem many_any : ∀ (N : Nat) {W : World} {t : Tr} {v : Value}, t.size <= N -> N <= 4000000 -> Lies (fun _ => True) W t v -> Calls Tryz.prog 16 #[v] W fun e w' => e = .returned (.int .i64 (t.size : Int)) /\ W.grownBy w' none := by
 intro N
 induction N with
 | zero =>
  intro W t v hz
  have : 1 <= t.size := by cases t; simp [Tr.size]
  omega
 | succ N ih =>
  intro W t v hz hN hL
  obtain ⟨na, nc, VN, e1, ⟨ik, iN, ip, hss⟩, hRN⟩ := hL.invN
  rw [e1]
  unfold nodeV
  have e0 : t.size = sizes t.args0 + 1 := by cases t; rfl
  have hll := hRN.1
  unfold maxLen at hll
  have hgn := Lf.gb (w := W) (.cells #[.int .i64 t.k0, .int .i64 t.n0, .int .i64 t.p0, .string t.s0, .slice na t.args0.length nc] 24)
  have hbn := heap_alloc_new W (.cells #[.int .i64 t.k0, .int .i64 t.n0, .int .i64 t.p0, .string t.s0, .slice na t.args0.length nc] 24)
  obtain ⟨m0, m1, m2, m3, m4⟩ := box5 hbn
  have HN := jh hRN
  have HG := jh hgn
  have HIH : Hid (∀ {W : World} {t : Tr} {v : Value}, t.size <= N -> Lies (fun _ => True) W t v -> Calls Tryz.prog 16 #[v] W fun e w' => e = .returned (.int .i64 (t.size : Int)) /\ W.grownBy w' none) := fun h1 h2 => ih h1 (by omega) h2
  have HE := jh e0
  clear hL hRN e1 hgn hbn ih e0
  go_enter Tryz.func16, Tryz.ntmps16
  go_wp2_with fail
  generalize W.alloc _ = W2 at *
  go_loopw [3, 9] (fun kv iv wr => ∃ j : Nat, j <= t.args0.length /\ kv = .int .i64 ((sizes (t.args0.take j) + 1 : Nat) : Int) /\ iv = .int .i64 (j : Int) /\ W.grownBy wr none) (fun _ iv _ => t.args0.length - (intOf iv).toNat)
  case atStart => exact ⟨0, Nat.zero_le _, by simp [sizes], rfl, HG.out⟩
  case round =>
   obtain ⟨j, hj, rfl, rfl, hg⟩ := hrel
   by_cases hlt : j < t.args0.length
   ·obtain ⟨b, o, rfl, _, k', n', p', s', a', l', c', hv, h0, h1, h2, h3, h4⟩ := (HN.out.2.1 j hlt).same (w' := wr) (sAl hg)
    have hLj := (HN.out.2.2 j hlt).same (w' := wr) (sAl hg)
    rw [hv] at hLj
    have hji : (j : Int) < (t.args0.length : Int) := by omega
    have hsn := sizes_snoc t.args0 j hlt
    have hsl : sizes (t.args0.take (j + 1)) <= sizes t.args0 := sizes_take_le _ _
    have hgn := Lf.gb (w := wr) (.cells #[.int .i64 k', .int .i64 n', .int .i64 p', .string s', .slice a' l' c'] 24)
    have hbn := heap_alloc_new wr (.cells #[.int .i64 k', .int .i64 n', .int .i64 p', .string s', .slice a' l' c'] 24)
    obtain ⟨y0, y1, y2, y3, y4⟩ := box5 hbn
    have HC := jh (HIH.out (by have := HE.out; omega) (hLj.same (sAl hgn)))
    unfold nodeV at HC
    have HGN := jh (Lf.gbt hg hgn)
    have hb0 : (sizes (t.args0.take j) + 1 : Nat) + (t.args0[j]).size <= 4000000 := by have := HE.out; omega
    have HSN := jh hsn
    generalize (t.args0[j]).size = z at *
    generalize hq : sizes (t.args0.take j) = q at *
    have HQQ := jh hq
    clear hLj hgn hbn hg hv hsn hsl hq
    go_wp2_with fail
    refine HC.out.mono ?_; rintro e w1 ⟨rfl, hg⟩
    have HG2 := jh (Lf.gbt HGN.out hg)
    clear hg
    go_wp2_with fail
    go_roundw
    case rel => exact ⟨j + 1, by omega, by rw [HSN.out]; go_num, by go_num, HG2.out⟩
    case measure => simp [intOf]; omega
   ·have hji : ¬ (j : Int) < (t.args0.length : Int) := by omega
    have hje : t.args0.take j = t.args0 := List.take_of_length_le (by omega)
    rw [hje]
    have HG2 := jh hg
    clear hje hg
    go_wp2_with fail
    go_ret
    exact ⟨by rw [HE.out, Int.natCast_add]; rfl, HG2.out⟩
theorem small_any {W : World} {a b : Tr} {u v : Value} (ha : Lies (fun _ => True) W a u) (hb : Lies (fun _ => True) W b v) (za : a.size <= 2000000) (zb : b.size <= 2000000) :
 Calls Tryz.prog 7 #[u, v] W fun e w' => e = .returned (.bool (decide (a.k0 = 3 /\ b.k0 = 3 /\ a.size + b.size <= 300))) /\ W.grownBy w' none := by
 obtain ⟨na, nc, VN, e1, _, _⟩ := ha.invN
 obtain ⟨nb, mc, VM, e2, _, _⟩ := hb.invN
 have ha0 := ha
 have hb0 := hb
 rw [e1] at ha ⊢
 rw [e2] at hb ⊢
 unfold nodeV at ha hb ⊢
 obtain ⟨hg3, hA3, hB3⟩ := start2 W (.cells #[.int .i64 a.k0, .int .i64 a.n0, .int .i64 a.p0, .string a.s0, .slice na a.args0.length nc] 24) (.cells #[.int .i64 b.k0, .int .i64 b.n0, .int .i64 b.p0, .string b.s0, .slice nb b.args0.length mc] 24)
 obtain ⟨m0, m1, m2, m3, m4⟩ := box5 hA3
 obtain ⟨v0, v1, v2, v3, v4⟩ := box5 hB3
 have HA := jh (ha.same (sAl hg3))
 have HB := jh (hb.same (sAl hg3))
 have HG := jh hg3
 have HZ : Hid (a.size <= 2000000 /\ b.size <= 2000000) := ⟨za, zb⟩
 clear ha hb ha0 hb0 e1 e2 hg3 hA3 hB3
 generalize hka : a.k0 = ka at *
 generalize hkb : b.k0 = kb at *
 clear hka hkb
 by_cases h1 : ka = 3
 ·subst h1
  by_cases h2 : kb = 3
  ·subst h2
   go_enter Tryz.func7, Tryz.ntmps7
   go_wp2_with fail
   generalize (W.alloc _).alloc _ = W3 at *
   have ya0 := fun (w' : World) (h : W3.grownBy w' none) => kNq h m0
   have ya1 := fun (w' : World) (h : W3.grownBy w' none) => kNq h m1
   have ya2 := fun (w' : World) (h : W3.grownBy w' none) => kNq h m2
   have ya3 := fun (w' : World) (h : W3.grownBy w' none) => kNq h m3
   have ya4 := fun (w' : World) (h : W3.grownBy w' none) => kNq h m4
   have yb0 := fun (w' : World) (h : W3.grownBy w' none) => kNq h v0
   have yb1 := fun (w' : World) (h : W3.grownBy w' none) => kNq h v1
   have yb2 := fun (w' : World) (h : W3.grownBy w' none) => kNq h v2
   have yb3 := fun (w' : World) (h : W3.grownBy w' none) => kNq h v3
   have yb4 := fun (w' : World) (h : W3.grownBy w' none) => kNq h v4
   refine wp_region_held_drew (S := fun w' => W3.grownBy w' none) (by kernel_rfl) ?_ (fun hHeld => ?_)
   ·exact gDr (gRf _ _)
   refine rGq 0 5 ?_
   simp only [Act.put, pS]
   refine rGq 1 6 ?_
   simp only [Act.put, pS]
   refine rGq 2 7 ?_
   simp only [Act.put, pS]
   refine rGq 3 8 ?_
   simp only [Act.put, pS]
   refine rGq 4 9 ?_
   simp only [Act.put, pS]
   refine rGq 5 10 ?_
   simp only [Act.put, pS]
   refine rGq 6 11 ?_
   simp only [Act.put, pS]
   refine rGq 7 12 ?_
   simp only [Act.put, pS]
   refine rGq 8 13 ?_
   simp only [Act.put, pS]
   refine rGq 9 14 ?_
   simp only [Act.put, pS]
   refine rGq 11 16 ?_
   simp only [Act.put, pS]
   refine wpAnyH_ready (rs := [10]) (by kernel_rfl) (by simp) ?_
   refine AllReadyH.cons rfl (fun K hK => ?_) AllReadyH.nil
   go_simp
   go_at_call 16
   refine (many_any _ (Nat.le_refl _) (by have := HZ.out.1; omega) (HA.out.same (sAl hHeld))).mono ?_; rintro e w5 ⟨rfl, hg5⟩
   have hH5 := Lf.gbt hHeld hg5
   refine hK.out _ _ hH5 (fun _ => ?_)
   clear hK K
   refine wpAnyH_ready (rs := [12]) (by kernel_rfl) (by simp) ?_
   refine AllReadyH.cons rfl (fun K hK => ?_) AllReadyH.nil
   go_simp
   go_at_call 16
   refine (many_any _ (Nat.le_refl _) (by have := HZ.out.2; omega) (HB.out.same (sAl hH5))).mono ?_; rintro e w6 ⟨rfl, hg6⟩
   have hH6 := Lf.gbt hH5 hg6
   refine hK.out _ _ hH6 (fun _ => ?_)
   clear hK K
   refine rGq 13 18 ?_
   simp only [Act.put, pS]
   refine rGq 14 19 ?_
   simp only [Act.put, pS]
   refine rGq 15 20 ?_
   simp only [Act.put, pS]
   refine rGq 16 4 ?_
   simp only [Act.put, pS]
   have HG6 := jh (Lf.gbt HG.out hH6)
   clear hHeld hg5 hH5 hg6 hH6
   refine wpAnyH_done (by kernel_rfl) ?_ _
   go_wp2_with fail
   go_ret
   refine Lf.retb ?_ HG6.out
   have h1 := HZ.out.1
   have h2 := HZ.out.2
   rw [IntKind.wrap_i64]
   apply decide_eq_decide.2
   rw [true_and, true_and]
   omega
  ·have h2' : (kb == 3) = false := by simpa using h2
   go_enter Tryz.func7, Tryz.ntmps7
   go_wp2_with fail
   generalize (W.alloc _).alloc _ = W3 at *
   have ya0 := fun (w' : World) (h : W3.grownBy w' none) => kNq h m0
   have ya1 := fun (w' : World) (h : W3.grownBy w' none) => kNq h m1
   have ya2 := fun (w' : World) (h : W3.grownBy w' none) => kNq h m2
   have ya3 := fun (w' : World) (h : W3.grownBy w' none) => kNq h m3
   have ya4 := fun (w' : World) (h : W3.grownBy w' none) => kNq h m4
   have yb0 := fun (w' : World) (h : W3.grownBy w' none) => kNq h v0
   have yb1 := fun (w' : World) (h : W3.grownBy w' none) => kNq h v1
   have yb2 := fun (w' : World) (h : W3.grownBy w' none) => kNq h v2
   have yb3 := fun (w' : World) (h : W3.grownBy w' none) => kNq h v3
   have yb4 := fun (w' : World) (h : W3.grownBy w' none) => kNq h v4
   refine wp_region_held_drew (S := fun w' => W3.grownBy w' none) (by kernel_rfl) ?_ (fun hHeld => ?_)
   ·exact gDr (gRf _ _)
   refine rGq 0 5 ?_
   simp only [Act.put, pS]
   refine rGq 1 6 ?_
   simp only [Act.put, pS]
   refine rGq 2 7 ?_
   simp only [Act.put, pS]
   refine rGq 3 8 ?_
   simp only [Act.put, pS]
   refine rGq 4 9 ?_
   simp only [Act.put, pS]
   refine rGq 5 10 ?_
   simp only [Act.put, pS]
   refine rGq 6 11 ?_
   simp only [Act.put, pS]
   refine rGq 7 12 ?_
   simp only [Act.put, pS]
   refine rGq 8 13 ?_
   simp only [Act.put, pS]
   refine rNq 9 14 ?_
   simp only [Act.put, pS]
   refine rNq 10 15 ?_
   simp only [Act.put, pS]
   refine rNq 11 16 ?_
   simp only [Act.put, pS]
   refine rNq 12 17 ?_
   simp only [Act.put, pS]
   refine rNq 13 18 ?_
   simp only [Act.put, pS]
   refine rNq 14 19 ?_
   simp only [Act.put, pS]
   refine rGq 15 20 ?_
   simp only [Act.put, pS]
   refine rGq 16 4 ?_
   simp only [Act.put, pS]
   have HG6 := jh (Lf.gbt HG.out hHeld)
   clear hHeld
   refine wpAnyH_done (by kernel_rfl) ?_ _
   go_wp2_with fail
   go_ret
   exact ⟨by simp [h2], HG6.out⟩
 ·have h1' : (ka == 3) = false := by simpa using h1
  go_enter Tryz.func7, Tryz.ntmps7
  go_wp2_with fail
  generalize (W.alloc _).alloc _ = W3 at *
  have ya0 := fun (w' : World) (h : W3.grownBy w' none) => kNq h m0
  have ya1 := fun (w' : World) (h : W3.grownBy w' none) => kNq h m1
  have ya2 := fun (w' : World) (h : W3.grownBy w' none) => kNq h m2
  have ya3 := fun (w' : World) (h : W3.grownBy w' none) => kNq h m3
  have ya4 := fun (w' : World) (h : W3.grownBy w' none) => kNq h m4
  have yb0 := fun (w' : World) (h : W3.grownBy w' none) => kNq h v0
  have yb1 := fun (w' : World) (h : W3.grownBy w' none) => kNq h v1
  have yb2 := fun (w' : World) (h : W3.grownBy w' none) => kNq h v2
  have yb3 := fun (w' : World) (h : W3.grownBy w' none) => kNq h v3
  have yb4 := fun (w' : World) (h : W3.grownBy w' none) => kNq h v4
  refine wp_region_held_drew (S := fun w' => W3.grownBy w' none) (by kernel_rfl) ?_ (fun hHeld => ?_)
  ·exact gDr (gRf _ _)
  refine rGq 0 5 ?_
  simp only [Act.put, pS]
  refine rGq 1 6 ?_
  simp only [Act.put, pS]
  refine rGq 2 7 ?_
  simp only [Act.put, pS]
  refine rGq 3 8 ?_
  simp only [Act.put, pS]
  refine rNq 4 9 ?_
  simp only [Act.put, pS]
  refine rNq 5 10 ?_
  simp only [Act.put, pS]
  refine rNq 6 11 ?_
  simp only [Act.put, pS]
  refine rGq 7 12 ?_
  simp only [Act.put, pS]
  refine rGq 8 13 ?_
  simp only [Act.put, pS]
  refine rNq 9 14 ?_
  simp only [Act.put, pS]
  refine rNq 10 15 ?_
  simp only [Act.put, pS]
  refine rNq 11 16 ?_
  simp only [Act.put, pS]
  refine rNq 12 17 ?_
  simp only [Act.put, pS]
  refine rNq 13 18 ?_
  simp only [Act.put, pS]
  refine rNq 14 19 ?_
  simp only [Act.put, pS]
  refine rGq 15 20 ?_
  simp only [Act.put, pS]
  refine rGq 16 4 ?_
  simp only [Act.put, pS]
  have HG6 := jh (Lf.gbt HG.out hHeld)
  clear hHeld
  refine wpAnyH_done (by kernel_rfl) ?_ _
  go_wp2_with fail
  go_ret
  exact ⟨by simp [h1], HG6.out⟩
theorem partsWalk {W : World} {a b : Tr} {u v : Value} {s : List Ty} {sa : Option Addr} {sl sc : Nat} (ha : Lies (fun _ => True) W a u) (hb : Lies (fun _ => True) W b v) (hs : RowC W s (.slice sa sl sc)) (za : a.size <= 2000000) (zb : b.size <= 2000000) (hzs : s.length <= 2000000) :
 Calls Tryz.prog 3 #[u, v, .slice sa sl sc] W fun e w' => e = .returned (.bool true) /\ W.grownBy w' none := by
 obtain ⟨na, nc, VN, e1, _, _⟩ := ha.invN
 obtain ⟨nb, mc, VM, e2, _, _⟩ := hb.invN
 rw [e1] at ha ⊢
 rw [e2] at hb ⊢
 unfold nodeV at ha hb ⊢
 obtain ⟨hg3, hA3, hB3⟩ := start2 W (.cells #[.int .i64 a.k0, .int .i64 a.n0, .int .i64 a.p0, .string a.s0, .slice na a.args0.length nc] 24) (.cells #[.int .i64 b.k0, .int .i64 b.n0, .int .i64 b.p0, .string b.s0, .slice nb b.args0.length mc] 24)
 obtain ⟨m0, m1, m2, m3, m4⟩ := box5 hA3
 obtain ⟨n0, n1, n2, n3, n4⟩ := box5 hB3
 have HL := jh (ha.same (sAl hg3))
 have HLB := jh (hb.same (sAl hg3))
 have HS := jh (hs.grow hg3)
 have HG := jh hg3
 clear ha hb hs e1 e2 hg3 hA3 hB3
 go_enter Tryz.func3, Tryz.ntmps3
 go_wp2_with fail
 generalize (W.alloc _).alloc _ = W2 at *
 have HTY : Hid (∀ W3, W2.grownBy W3 none -> Calls Tryz.prog 5 #[.slice sa sl sc] W3 fun e w' => ∃ v, e = .returned v /\ (∃ vs, CatOk W3 w' v s vs) /\ RowC w' s v /\ W3.grownBy w' none) := fun W3 h => types_any (HS.out.grow h) (by omega)
 have y0 := fun (w' : World) (h : W2.grownBy w' none) => kNq h m0
 have y1 := fun (w' : World) (h : W2.grownBy w' none) => kNq h m1
 have y2 := fun (w' : World) (h : W2.grownBy w' none) => kNq h m2
 have y3 := fun (w' : World) (h : W2.grownBy w' none) => kNq h m3
 have y4 := fun (w' : World) (h : W2.grownBy w' none) => kNq h m4
 have hS0 : W2.grownBy W2 none := gRf _ _
 go_cut [7, 8] (fun pv qv wx => LedCut (codeF a s) W2 pv qv wx)
 case first =>
  go_region_held3 (fun w' => W2.grownBy w' none) (first | with_reducible assumption | with_reducible exact gDr (gRf _ _) | with_reducible exact grow_set2N (by assumption) (by assumption) | with_reducible exact Lf.gbt (by assumption) (Lf.gb _) | with_reducible exact gDr (Lf.gb _)) (first
   | (go_at_call 4; have g0 := HB1.out; have g1 := HR1.out; clear g0 g1; with_reducible refine (code_all (HL.out.same (sAl HG1.out)) HR1.out (by omega)).mono ?_; rintro e w9 hp; obtain ⟨a9, l9, c9, f9, er9, rfl, hg, his⟩ := hp.is; have hb2 := kBq HB1.out hg; have q0 := cell0_of hb2; have q1 := cell1_of hb2; have q2 := free2_of hb2; have HB2 := jh hb2; have HIS := jh his; have HG2 := jh (Lf.gbt HG1.out hg); have hS2 := HG2.out; have hH2 := HH1.out; clear hp hg his hb2)
   | (go_at_call 4; have g1 := HR1.out; clear g1; with_reducible refine (code_all (HL.out.same (sAl (Lf.gbt HG1.out (Lf.gb _)))) (HR1.out.grow (Lf.gb _)) (by omega)).mono ?_; rintro e w9 hp; obtain ⟨a9, l9, c9, f9, er9, rfl, hg, his⟩ := hp.is; have hb2 := kBq (heap_alloc_new w1 (.cells #[.slice none 0 0, .bool false] 27)) hg; have q0 := cell0_of hb2; have q1 := cell1_of hb2; have q2 := free2_of hb2; have HB2 := jh hb2; have HIS := jh his; have HG2 := jh (Lf.gbt (Lf.gbt HG1.out (Lf.gb _)) hg); have hS2 := HG2.out; have hH2 := HG1.out.size; clear hp hg his hb2)
   | (go_at_call 4; have g1 := HR1.out; clear g1; with_reducible refine (code_all (HL.out.same (sAl HG1.out)) HR1.out (by omega)).mono ?_; rintro e w9 hp; obtain ⟨a9, l9, c9, f9, er9, rfl, hg, his⟩ := hp.is; have HIS := jh his; have HG2 := jh (Lf.gbt HG1.out hg); have hS2 := HG2.out; clear hp hg his)
   | (go_at_call 5; with_reducible refine (HTY.out (W2.alloc (.cells #[.slice none 0 0, .bool false] 27)).drew (gDr (Lf.gb _))).mono ?_; rintro e w1 ⟨v1, rfl, ⟨vs1, hk1⟩, hr1, hg⟩; obtain ⟨a1, l1, c1, e1⟩ := hr1.form3; subst e1; have HB1 := jh (kBq (heap_alloc_new W2 (.cells #[.slice none 0 0, .bool false] 27)) (undrew hg)); have HH1 : Hid (W2.heap.size <= W2.heap.size) := Nat.le_refl _; have HR1 := jh hr1; have HK1 := jh hk1; have HG0 := jh (gDr (gRf _ _) : (W2.alloc (.cells #[.slice none 0 0, .bool false] 27)).grownBy _ none); have HGK := jh hg; have HG1 := jh (Lf.gbt (gDr (Lf.gb _)) hg); have hS1 := HG1.out; clear hr1 hg hk1)
   | (go_at_call 5; with_reducible refine (HTY.out W2.drew (gDr (gRf _ _))).mono ?_; rintro e w1 ⟨v1, rfl, ⟨vs1, hk1⟩, hr1, hg⟩; obtain ⟨a1, l1, c1, e1⟩ := hr1.form3; subst e1; have HR1 := jh hr1; have HK1 := jh hk1; have HGK := jh hg; have HG1 := jh (undrew hg); have hS1 := HG1.out; clear hr1 hg hk1))
  all_goals
   go_wp2_with fail
   go_meet
   first
   | with_reducible exact ledCut_one HG2.out HIS.out
   | exact ledCut_two HG2.out HIS.out hH2 HB2.out
 obtain ⟨bx, ax, lx, cx, fx, ex, rfl, rfl, hbx, hg, _, hisx⟩ := hcut
 replace HG := jh (Lf.gbt HG.out hg)
 replace HL := jh (HL.out.same (sAl hg))
 replace HLB := jh (HLB.out.same (sAl hg))
 replace HS := jh (HS.out.grow hg)
 replace m0 := kNq hg m0
 replace m1 := kNq hg m1
 replace m2 := kNq hg m2
 replace m3 := kNq hg m3
 replace m4 := kNq hg m4
 replace n0 := kNq hg n0
 replace n1 := kNq hg n1
 replace n2 := kNq hg n2
 replace n3 := kNq hg n3
 replace n4 := kNq hg n4
 have z0 := cell0_of hbx
 have z1 := cell1_of hbx
 clear hg hbx hS0 y0 y1 y2 y3 y4 HTY
 generalize hwc : wc = W4 at *
 clear hwc
 rcases hisx with ⟨h, hne, rfl, rfl, rfl, rfl⟩ | ⟨ts, h, rfl, hr⟩
 ·have hne2 : (ex != 0) = true := by simpa using hne
  clear h hne
  go_wp2_with fail
  refine (checks_any _).mono ?_; rintro e w3 ⟨rfl, hg⟩
  replace HG := jh (Lf.gbt HG.out hg)
  clear hg
  go_wp2_with fail
  go_ret
  exact ⟨rfl, HG.out⟩
 cases fx with
 | true =>
  clear h hr
  go_wp2_with fail
  refine (checks_any _).mono ?_; rintro e w3 ⟨rfl, hg⟩
  replace HG := jh (Lf.gbt HG.out hg)
  clear hg
  go_wp2_with fail
  go_ret
  exact ⟨rfl, HG.out⟩
 | false =>
  obtain ⟨g1, g2, _⟩ := code_good h
  have HH := jh h
  have HRX := jh hr
  clear h hr
  go_wp2_with fail
  refine (checks_any _).mono ?_; rintro e w7 ⟨rfl, hg⟩
  replace HG := jh (Lf.gbt HG.out hg)
  replace HL := jh (HL.out.same (sAl hg))
  replace HLB := jh (HLB.out.same (sAl hg))
  replace HS := jh (HS.out.grow hg)
  replace HRX := jh (HRX.out.grow hg)
  replace z0 := kNq hg z0
  replace z1 := kNq hg z1
  replace m0 := kNq hg m0
  replace m1 := kNq hg m1
  replace m2 := kNq hg m2
  replace m3 := kNq hg m3
  replace m4 := kNq hg m4
  replace n0 := kNq hg n0
  replace n1 := kNq hg n1
  replace n2 := kNq hg n2
  replace n3 := kNq hg n3
  replace n4 := kNq hg n4
  clear hg
  have HCB : Hid (∀ W3, w7.grownBy W3 none -> Calls Tryz.prog 4 #[nodeV b.k0 b.n0 b.p0 b.s0 nb b.args0.length mc, .slice ax lx cx] W3 (LedPost (codeF b ts) W3)) := fun W3 h => code_all (HLB.out.same (sAl h)) (HRX.out.grow h) (by omega)
  unfold nodeV at HCB
  go_wp2_with fail
  refine (HCB.out _ (gRf _ _)).mono ?_; rintro e w8 hp
  obtain ⟨ay, ly, cy, fy, ey, rfl, hg, hisy0⟩ := hp.is
  have hga := Lf.gb (w := w8) (.cells #[.slice ay ly cy, .bool fy] 27)
  have hby := heap_alloc_new w8 (.cells #[.slice ay ly cy, .bool fy] 27)
  have hisy := hisy0.grow hga
  replace hg := Lf.gbt hg hga
  replace HG := jh (Lf.gbt HG.out hg)
  replace HL := jh (HL.out.same (sAl hg))
  replace HLB := jh (HLB.out.same (sAl hg))
  replace HS := jh (HS.out.grow hg)
  replace HRX := jh (HRX.out.grow hg)
  replace z0 := kNq hg z0
  replace z1 := kNq hg z1
  replace m0 := kNq hg m0
  replace m1 := kNq hg m1
  replace m2 := kNq hg m2
  replace m3 := kNq hg m3
  replace m4 := kNq hg m4
  replace n0 := kNq hg n0
  replace n1 := kNq hg n1
  replace n2 := kNq hg n2
  replace n3 := kNq hg n3
  replace n4 := kNq hg n4
  have v0 := cell0_of hby
  have v1 := cell1_of hby
  clear hg hby hga hisy0 hp HCB
  rcases hisy with ⟨h, hne, rfl, rfl, rfl, rfl⟩ | ⟨ys, hy, rfl, hry⟩
  ·have hne2 : (ey != 0) = true := by simpa using hne
   clear h hne
   go_wp2_with fail
   go_ret
   exact ⟨rfl, HG.out⟩
  have HY := jh hy
  have HRY := jh hry
  clear hy hry
  have HSM := jh (small_any HL.out HLB.out za zb)
  go_wp2_with fail
  refine HSM.out.mono ?_; rintro e w9 ⟨rfl, hg⟩
  replace HG := jh (Lf.gbt HG.out hg)
  replace HL := jh (HL.out.same (sAl hg))
  replace HLB := jh (HLB.out.same (sAl hg))
  replace HS := jh (HS.out.grow hg)
  replace HRX := jh (HRX.out.grow hg)
  replace z0 := kNq hg z0
  replace z1 := kNq hg z1
  replace m0 := kNq hg m0
  replace m1 := kNq hg m1
  replace m2 := kNq hg m2
  replace m3 := kNq hg m3
  replace m4 := kNq hg m4
  replace n0 := kNq hg n0
  replace n1 := kNq hg n1
  replace n2 := kNq hg n2
  replace n3 := kNq hg n3
  replace n4 := kNq hg n4
  replace v0 := kNq hg v0
  replace v1 := kNq hg v1
  replace HRY := jh (HRY.out.grow hg)
  clear hg HSM
  obtain ⟨rfl, _, _⟩ := HRY.out.len
  by_cases hsm : a.k0 = 3 /\ b.k0 = 3 /\ a.size + b.size <= 300
  rotate_left
  ·rw [decide_eq_false hsm]
   clear hsm
   by_cases h0 : ys.length = 0
   ·have h1 : (ys.length : Int) = 0 := by omega
    go_wp2_with fail
    go_ret
    exact ⟨rfl, HG.out⟩
   ·have h1 : ((ys.length : Int) == 0) = false := by rw [beq_eq_false_iff_ne]; omega
    go_wp2_with fail
    go_ret
    exact ⟨rfl, HG.out⟩
  rw [decide_eq_true hsm]
  have HCP := jh (code_parts HH.out HY.out hsm.2.2)
  have HBO := jh (both_any HL.out HLB.out za zb)
  have g3 := (code_good HY.out).2.1
  have HTS : Hid (tysizes ys <= 20000000) := by show _ <= _; have h1 := (code_good HY.out).1; have := tys_sum g3; omega
  have hzz : (Tr.nd 3 0 0 ⟨#[]⟩ (a.args0 ++ b.args0)).size <= 4611686018427387903 := by
   have e0 : a.size = sizes a.args0 + 1 := by { cases a; rfl }
   have e1 : b.size = sizes b.args0 + 1 := by { cases b; rfl }
   simp only [Tr.size, sizes_append]
   omega
  clear hsm g3
  go_wp2_with fail
  refine HBO.out.mono ?_; rintro e w10 ⟨x, rfl, hLx, hg⟩
  obtain ⟨xk, xn, xp, xs, xa, xl, xc, rfl⟩ := hLx.nodeV
  have HLX := jh hLx
  replace HG := jh (Lf.gbt HG.out hg)
  replace HL := jh (HL.out.same (sAl hg))
  replace HLB := jh (HLB.out.same (sAl hg))
  replace HS := jh (HS.out.grow hg)
  replace HRX := jh (HRX.out.grow hg)
  replace z0 := kNq hg z0
  replace z1 := kNq hg z1
  replace m0 := kNq hg m0
  replace m1 := kNq hg m1
  replace m2 := kNq hg m2
  replace m3 := kNq hg m3
  replace m4 := kNq hg m4
  replace n0 := kNq hg n0
  replace n1 := kNq hg n1
  replace n2 := kNq hg n2
  replace n3 := kNq hg n3
  replace n4 := kNq hg n4
  replace v0 := kNq hg v0
  replace v1 := kNq hg v1
  replace HRY := jh (HRY.out.grow hg)
  clear hg HBO hLx
  unfold nodeV
  go_wp2_with fail
  refine (types_any HS.out (by omega)).mono ?_; rintro e w11 ⟨v11, rfl, _, hr11, hg⟩
  obtain ⟨a11, l11, c11, e11⟩ := hr11.form3
  subst e11
  have HC3 := jh (code_all (HLX.out.same (sAl hg)) hr11 hzz)
  rw [HCP.out] at HC3
  unfold nodeV at HC3
  replace HG := jh (Lf.gbt HG.out hg)
  replace HL := jh (HL.out.same (sAl hg))
  replace HLB := jh (HLB.out.same (sAl hg))
  replace HS := jh (HS.out.grow hg)
  replace HRX := jh (HRX.out.grow hg)
  replace z0 := kNq hg z0
  replace z1 := kNq hg z1
  replace m0 := kNq hg m0
  replace m1 := kNq hg m1
  replace m2 := kNq hg m2
  replace m3 := kNq hg m3
  replace m4 := kNq hg m4
  replace n0 := kNq hg n0
  replace n1 := kNq hg n1
  replace n2 := kNq hg n2
  replace n3 := kNq hg n3
  replace n4 := kNq hg n4
  replace v0 := kNq hg v0
  replace v1 := kNq hg v1
  replace HRY := jh (HRY.out.grow hg)
  clear hg hr11 HLX hzz
  go_wp2_with fail
  refine HC3.out.mono ?_; rintro e w12 ⟨hg0, hcase⟩
  rcases hcase with ⟨er, h, _⟩ | ⟨f, ts', az, lz, cz, h, rfl, hrz0⟩
  ·cases h
  simp only [Led.ok.injEq] at h
  obtain ⟨rfl, rfl⟩ := h
  have hga := Lf.gb (w := w12) (.cells #[.slice az lz cz, .bool fy] 27)
  have hbz := heap_alloc_new w12 (.cells #[.slice az lz cz, .bool fy] 27)
  have hg := Lf.gbt hg0 hga
  have HRZ := jh (hrz0.grow hga)
  have t0 := cell0_of hbz
  have t1 := cell1_of hbz
  replace HG := jh (Lf.gbt HG.out hg)
  replace HL := jh (HL.out.same (sAl hg))
  replace HLB := jh (HLB.out.same (sAl hg))
  replace HS := jh (HS.out.grow hg)
  replace HRX := jh (HRX.out.grow hg)
  replace z0 := kNq hg z0
  replace z1 := kNq hg z1
  replace m0 := kNq hg m0
  replace m1 := kNq hg m1
  replace m2 := kNq hg m2
  replace m3 := kNq hg m3
  replace m4 := kNq hg m4
  replace n0 := kNq hg n0
  replace n1 := kNq hg n1
  replace n2 := kNq hg n2
  replace n3 := kNq hg n3
  replace n4 := kNq hg n4
  replace v0 := kNq hg v0
  replace v1 := kNq hg v1
  replace HRY := jh (HRY.out.grow hg)
  clear hg hg0 hga hbz HC3 hrz0
  have HSA := jh (sameTypes_any HRZ.out HRY.out HTS.out)
  rw [sameTs_refl2] at HSA
  go_wp2_with fail
  refine HSA.out.mono ?_; rintro e w13 ⟨rfl, hg⟩
  replace HG := jh (Lf.gbt HG.out hg)
  clear hg
  go_wp2_with fail
  go_ret
  exact ⟨rfl, HG.out⟩
end Go.Proofs.YtamohjlhndedhadGreatRRR
