import Derived.Test.YthjpngaapflclacGreatListsV
import Derived.Test.YthjpngaapflclacGreatROrd
import Derived.Deep.RegionHeld3
import Derived.Deep.DeepCutAuto
namespace Go.Proofs.YthjpngaapflclacGreat
set_option maxRecDepth 100000
set_option maxHeartbeats 4000000
open Go.ChangeShapes Go.WideShapes Go.ChangeAt Go.RowKit
set_option linter.unusedVariables false
theorem grow_ofDrewG {w w' : World} {r : Option Nat} (h : w.drew.grownBy w' r) : w.grownBy w' r := ⟨h.os, h.tape, h.output, h.size, h.block⟩
theorem rliesV_zero (ok : Nat -> Prop) (w : World) : LiesV ok w zeroVa (vaV 0 0 0 ⟨#[]⟩ none 0 0 none 0 0 none 0 0) :=
 LiesV.of (args := []) (types := []) (code := []) (V := fun _ => .int .i64 0) (VT := fun _ => .int .i64 0) (VN := fun _ => .int .i64 0) (Nat.zero_le _) (by decide) (by constructor <;> decide) (by constructor <;> decide) (by constructor <;> decide) (RowVa.nil _ _ _ _) (RowT.nil _ _ _ _) (RowN.nil _ _ _ _)
theorem wrap_small {x : Int} (h1 : -1000000 <= x) (h2 : x <= 1000000) : IntKind.i64.wrap x = x := by
 by_cases h0 : 0 <= x
 ·obtain ⟨n, rfl⟩ := Int.eq_ofNat_of_zero_le h0
  exact rwrapN n (by omega)
 ·have e : x % 2 ^ 64 = x + 2 ^ 64 := by omega
  simp only [IntKind.wrap, IntKind.bits, IntKind.signed, e]
  rw [if_pos]
  ·omega
  ·simp
   omega
structure VInv (w2 w : World) (TB NB : Obj) (k n : Int) (s : ByteArray) (lv : Value) (gs : List Va) (vs : List Value) : Prop where
 grown : w2.grownBy w none
 tb : w.heap[w2.heap.size]? = some TB
 nb : w.heap[w2.heap.size + 1]? = some NB
 res : w.heap[w2.heap.size + 1 + 1]? = some (.cells #[.int .i64 0, .int .i64 0, .int .i64 0, .string ⟨#[]⟩, .slice none 0 0, .slice none 0 0, .slice none 0 0] 28 (0, 0))
 blk : w.heap[w2.heap.size + 1 + 1 + 1]? = some (.cells #[.int .i64 k, .int .i64 n, .int .i64 0, .string s, lv, .slice none 0 0, .slice none 0 0] 28 (0, 0))
 list : ListOkV (w2.heap.size + 1 + 1 + 1 + 1) w lv gs vs
 hz : w2.heap.size + 1 + 1 + 1 + 1 <= w.heap.size
theorem VInv.call {w2 w w' : World} {TB NB : Obj} {k n : Int} {s : ByteArray} {lv : Value} {gs : List Va} {vs : List Value} (h : VInv w2 w TB NB k n s lv gs vs) (hg : w.grownBy w' none) : VInv w2 w' TB NB k n s lv gs vs :=
 ⟨Lf.gbt h.grown hg, keepB h.tb hg, keepB h.nb hg, keepB h.res hg, keepB h.blk hg, h.list.keep (rb := w2.heap.size) (grow_any hg) (by omega), Nat.le_trans h.hz hg.size⟩
theorem own_neV {w : World} {H : Nat} {v : Value} {vs : List Value} (h : OwnsVa H w v vs) {b : Nat} (hb : b < H) : some b ≠ v.ownBlock := fun e => by
 have := (World.ownsRow.lt h b e.symm).1
 omega
theorem set_four7 {w : World} {g : Nat} {T : TypeId} {x0 x1 x2 x3 x4 x5 x6 : Value} (h : w.heap[g]? = some (.cells #[x0, x1, x2, x3, x4, x5, x6] T (0, 0))) (u : Value) : (w.setCell ⟨g, 4, none⟩ u).heap[g]? = some (.cells #[x0, x1, x2, x3, u, x5, x6] T (0, 0)) := by
 simp [World.setCell, Array.getElem?_modify, h]
theorem box7f {w : World} {g : Nat} {T : TypeId} {x0 x1 x2 x3 x4 x5 x6 : Value} (h : w.heap[g]? = some (.cells #[x0, x1, x2, x3, x4, x5, x6] T (0, 0))) :
 w.frozen? ⟨g, 0, none⟩ = false /\ w.frozen? ⟨g, 1, none⟩ = false /\ w.frozen? ⟨g, 2, none⟩ = false /\ w.frozen? ⟨g, 3, none⟩ = false /\ w.frozen? ⟨g, 4, none⟩ = false /\ w.frozen? ⟨g, 5, none⟩ = false /\ w.frozen? ⟨g, 6, none⟩ = false := by
 simp [World.frozen?, h]
def rset7 (w : World) (g : Nat) (y0 y1 y2 y3 y4 y5 y6 : Value) : World := ((((((w.setCell ⟨g, 0, none⟩ y0).setCell ⟨g, 1, none⟩ y1).setCell ⟨g, 2, none⟩ y2).setCell ⟨g, 3, none⟩ y3).setCell ⟨g, 4, none⟩ y4).setCell ⟨g, 5, none⟩ y5).setCell ⟨g, 6, none⟩ y6
theorem rset7_block {w : World} {g : Nat} {T : TypeId} {x0 x1 x2 x3 x4 x5 x6 : Value} (h : w.heap[g]? = some (.cells #[x0, x1, x2, x3, x4, x5, x6] T (0, 0))) (y0 y1 y2 y3 y4 y5 y6 : Value) :
 (rset7 w g y0 y1 y2 y3 y4 y5 y6).heap[g]? = some (.cells #[y0, y1, y2, y3, y4, y5, y6] T (0, 0)) := by
 simp [rset7, World.setCell, Array.getElem?_modify, h]
theorem rset7_grow (w : World) (g : Nat) (y0 y1 y2 y3 y4 y5 y6 : Value) : w.grownBy (rset7 w g y0 y1 y2 y3 y4 y5 y6) (some g) :=
 grow_set (grow_set (grow_set (grow_set (grow_set (grow_set (grow_set (grow_refl _ _) _ _ _) _ _ _) _ _ _) _ _ _) _ _ _) _ _ _) _ _ _
theorem VInv.push {w2 w w' : World} {S : Nat} {TB NB : Obj} {k n : Int} {s : ByteArray} {lv lv' u : Value} {gs : List Va} {vs : List Value} {t : Va} (h : VInv w2 w TB NB k n s lv gs vs) (hS : w2.heap.size + 1 + 1 + 1 + 1 <= S)
 (hvS : ∀ k, lv.ownBlock = some k -> k < S) (hL : LiesV (S <= ·) w t u) (hg : Gr w lv w' lv') (ho : OwnsVa (w2.heap.size + 1 + 1 + 1 + 1) w' lv' (vs ++ [u])) : VInv w2 (w'.setCell ⟨w2.heap.size + 1 + 1 + 1, 4, none⟩ lv') TB NB k n s lv' (gs ++ [t]) (vs ++ [u]) := by
 have hset : w'.grownBy (w'.setCell ⟨w2.heap.size + 1 + 1 + 1, 4, none⟩ lv') (some (w2.heap.size + 1 + 1 + 1)) := grow_set (grow_refl _ _) _ _ _
 have kb : w'.heap[w2.heap.size + 1 + 1 + 1]? = _ := (hg.block (lt_blk h.blk) (own_neV h.list.own (by omega))).trans h.blk
 have kr : w'.heap[w2.heap.size + 1 + 1]? = _ := (hg.block (lt_blk h.res) (own_neV h.list.own (by omega))).trans h.res
 have kt : w'.heap[w2.heap.size]? = _ := (hg.block (lt_blk h.tb) (own_neV h.list.own (by omega))).trans h.tb
 have kn : w'.heap[w2.heap.size + 1]? = _ := (hg.block (lt_blk h.nb) (own_neV h.list.own (by omega))).trans h.nb
 refine ⟨?_, (hset.block _ (lt_blk kt) (by simp <;> omega)).trans kt, (hset.block _ (lt_blk kn) (by simp <;> omega)).trans kn, (hset.block _ (lt_blk kr) (by simp)).trans kr, set_four7 kb lv', (h.list.push hS hvS hL hg ho).keep hset (by omega), ?_⟩
 ·refine ⟨hg.1.os.trans h.grown.os, hg.1.tape.trans h.grown.tape, hg.1.output.trans h.grown.output, Nat.le_trans h.grown.size (Nat.le_trans hg.1.size hset.size), fun i hi hr => ?_⟩
  rw [hset.block i (by have := h.grown.size; have := hg.1.size; omega) (by simp; omega), hg.block (by have := h.grown.size; omega) (own_neV h.list.own (by omega))]
  exact h.grown.block i hi hr
 ·have := h.hz; have := hg.1.size; have := hset.size; omega
def vw0 (w : World) (TB NB : Obj) (k n : Int) (s : ByteArray) : World :=
 (((w.alloc TB).alloc NB).alloc (.cells #[.int .i64 0, .int .i64 0, .int .i64 0, .string ⟨#[]⟩, .slice none 0 0, .slice none 0 0, .slice none 0 0] 28)).alloc (.cells #[.int .i64 k, .int .i64 n, .int .i64 0, .string s, .slice none 0 0, .slice none 0 0, .slice none 0 0] 28)
theorem vw0_inv (w : World) (TB NB : Obj) (k n : Int) (s : ByteArray) : VInv w (vw0 w TB NB k n s) TB NB k n s (.slice none 0 0) [] [] := by
 have e0 := heap_alloc_new w TB
 have e1 := heap_alloc_new (w.alloc TB) NB
 have e2 := heap_alloc_new ((w.alloc TB).alloc NB) (.cells #[.int .i64 0, .int .i64 0, .int .i64 0, .string ⟨#[]⟩, .slice none 0 0, .slice none 0 0, .slice none 0 0] 28)
 have e3 := heap_alloc_new (((w.alloc TB).alloc NB).alloc (.cells #[.int .i64 0, .int .i64 0, .int .i64 0, .string ⟨#[]⟩, .slice none 0 0, .slice none 0 0, .slice none 0 0] 28)) (.cells #[.int .i64 k, .int .i64 n, .int .i64 0, .string s, .slice none 0 0, .slice none 0 0, .slice none 0 0] 28)
 simp only [World.size_alloc] at e1 e2 e3
 refine ⟨Lf.gbt (Lf.gb _) (Lf.gbt (Lf.gb _) (Lf.gbt (Lf.gb _) (Lf.gb _))), heap_keep (heap_keep (heap_keep e0)), heap_keep (heap_keep e1), heap_keep e2, e3, ListOkV.nil _ _, ?_⟩
 unfold vw0
 simp only [World.size_alloc]
 exact Nat.le_refl _
def GuessPost (x : Va) (w2 : World) (e : Ending) (w' : World) : Prop := w2.grownBy w' none /\ ∃ u, e = .returned u /\ LiesV (w2.heap.size <= ·) w' x u
theorem VInv.lies {w2 w wf : World} {TB NB : Obj} {k n : Int} {s : ByteArray} {lv : Value} {gs : List Va} {vs : List Value} (h : VInv w2 w TB NB k n s lv gs vs) (hgs : w.grownBy wf (some (w2.heap.size + 1 + 1))) (ik : I64 k) (iN : I64 n) (hs : s.size <= maxLen) (hlen : gs.length <= maxLen) {la : Option Addr} {l c : Nat} (hlv : lv = .slice la l c) : LiesV (w2.heap.size <= ·) wf (.mk k n 0 s gs [] []) (vaV k n 0 s la l c none 0 0 none 0 0) := by
 obtain ⟨a1, c1, V1, hv1, hlc, hrow⟩ := h.list.done hlen
 rw [hlv] at hv1
 simp only [Value.slice.injEq] at hv1
 obtain ⟨rfl, rfl, rfl⟩ := hv1
 have hsm : Same (w2.heap.size + 1 + 1 + 1 + 1 <= ·) w wf := fun b o hb hlt => World.cell?_of_block (hgs.block b hlt (by have : w2.heap.size + 1 + 1 + 1 + 1 <= b := hb; simp; omega))
 exact (LiesV.of (ok := (w2.heap.size + 1 + 1 + 1 + 1 <= ·)) (VT := fun _ => .int .i64 0) (VN := fun _ => .int .i64 0) hlc hs ik iN ⟨by decide, by decide⟩ (hrow.same hsm) (RowT.nil _ _ _ _) (RowN.nil _ _ _ _)).okMono (fun b _ hb => by have : w2.heap.size + 1 + 1 + 1 + 1 <= b := hb; show _ <= b; omega)
theorem rguess_9 {w2 : World} {nk n : Int} {s : ByteArray} {na : Option Addr} {nc c m : Nat} {p : Int} {t_t : Int} {t_a : Option Addr} {t_l t_c : Nat} {bt ot : Nat} {NV : Nat -> Value} {G : Nat -> Va} (hm : m <= 300) (hs : s.size <= maxLen) (iN : I64 (n)) (HC : Hid (∀ j, j < m -> NodeAt (fun _ => True) w2 na j (NV j))) (tc0 : ∀ W3 : World, w2.grownBy W3 none -> W3.cell? ⟨bt, ot, none⟩ = some (.int .i64 t_t)) (tc1 : ∀ W3 : World, w2.grownBy W3 none -> W3.cell? ⟨bt, ot + 1, none⟩ = some (.slice t_a t_l t_c)) (HR : Hid (∀ j, j < m -> ∀ W, w2.grownBy W none -> Calls Tryz.prog 30 #[.agg #[.int .i64 t_t, .slice t_a t_l t_c], NV j] W (GuessPost (G j) W))) :
 Calls Tryz.prog 30 #[.agg #[.int .i64 9, .slice (some ⟨bt, ot, none⟩) 1 c], .agg #[.int .i64 nk, .int .i64 n, .int .i64 p, .string s, .slice na m nc]] w2 (GuessPost (.mk 9 (n) 0 s ((List.range m).map G) [] []) w2) := by
 have HI0 := jh (vw0_inv w2 (.cells #[.int .i64 9, .slice (some ⟨bt, ot, none⟩) 1 c] 24) (.cells #[.int .i64 nk, .int .i64 n, .int .i64 p, .string s, .slice na m nc] 30) 9 (n) s)
 have HS := jh hs
 have HIN := jh iN
 clear hs iN
 have HT : Hid (∀ W3 : World, w2.grownBy W3 none -> W3.cell? ⟨bt, ot, none⟩ = some (.int .i64 t_t) /\ W3.cell? ⟨bt, ot + 1, none⟩ = some (.slice t_a t_l t_c)) := fun W3 h => ⟨tc0 W3 h, tc1 W3 h⟩
 clear tc0 tc1
 go_enter Tryz.func30, Tryz.ntmps30
 go_wp2_with fail
 go_loopw [33] (fun i wr => ∃ (j : Nat) (lv : Value) (vs : List Value), j <= m /\ i = .int .i64 j /\ VInv w2 wr (.cells #[.int .i64 9, .slice (some ⟨bt, ot, none⟩) 1 c] 24) (.cells #[.int .i64 nk, .int .i64 n, .int .i64 p, .string s, .slice na m nc] 30) 9 (n) s lv ((List.range j).map G) vs) (fun i _ => m - (intOf i).toNat)
 case atStart => exact ⟨0, _, _, Nat.zero_le _, rfl, HI0.out⟩
 case round =>
  obtain ⟨j, lv, vs, hj, rfl, hI⟩ := hrel
  have hlv : ∃ la lc, lv = .slice la vs.length lc := by
   have hq := hI.list.len
   obtain ⟨la, lc, _, h, _, _⟩ := hI.list.done (by simp [maxLen]; omega)
   exact ⟨la, lc, by rw [h, hq]⟩
  obtain ⟨la, lc, rfl⟩ := hlv
  have hvlen : vs.length = j := by
   have h1 := hI.list.len
   simpa using h1
  have hvl : vs.length <= 100000000000 := by omega
  obtain ⟨b0, b1, b2, b3, b4, b5, b6⟩ := box7 hI.blk
  have q0 := cell0_of hI.tb
  have q1 := cell1_of hI.tb
  have lt0 := lt_blk hI.tb
  have ltn := lt_blk hI.nb
  have lb : w2.heap.size + 1 + 1 + 1 < wr.heap.size := lt_blk hI.blk
  have lb1 : w2.heap.size + 1 + 1 + 1 < wr.heap.size + 1 := by omega
  have lt1 : w2.heap.size < wr.heap.size + 1 := by omega
  have ltn1 : w2.heap.size + 1 < wr.heap.size + 1 := by omega
  by_cases hlt : j < m
  ·obtain ⟨b, o, rfl, _, k', n', p', s', a', l', c', hv, e0, e1, e2, e3, e4⟩ := (HC.out j hlt).same (sameAll hI.grown)
   have w1 : (j : Int) < (m : Int) := by omega
   obtain ⟨u0, u1⟩ := HT.out wr hI.grown
   have lq : bt < wr.heap.size := World.block_lt_of_cell? wr _ u0
   have lq1 : bt < wr.heap.size + 1 := by omega
   have hI1 := (hI.call (Lf.gb (.cells #[.int .i64 k', .int .i64 n', .int .i64 p', .string s', .slice a' l' c'] 30))).call (Lf.gb (.cells #[.int .i64 t_t, .slice t_a t_l t_c] 24))
   have hih : ∀ W, wr.grownBy W none -> Calls Tryz.prog 30 #[.agg #[.int .i64 t_t, .slice t_a t_l t_c], .agg #[.int .i64 k', .int .i64 n', .int .i64 p', .string s', .slice a' l' c']] W (GuessPost (G j) W) := by
    intro W hW
    have h := HR.out j hlt W (Lf.gbt hI.grown hW)
    rw [hv] at h
    exact h
   have HIH := jh hih
   have HI1 := jh hI1
   have HOB : Hid (∀ k, (Value.slice la vs.length lc).ownBlock = some k -> k < wr.heap.size) := fun k hk => (World.ownsRow.lt hI.list.own k hk).2
   have hzw : w2.heap.size + 1 + 1 + 1 + 1 <= wr.heap.size := hI.hz
   clear hih hI1 hI hv hvlen
   go_wp2_with fail
   go_region_law (first
    | (refine step_appVa (w2.heap.size + 1 + 1 + 1 + 1) vs ku nu xu su au lu cu tau tlu tcu nau nlu ncu w3 (.slice la vs.length lc) rfl (.tmp 94) (.tmp 98) rfl rfl rfl rfl HI3.out.list.own HI3.out.hz hvl ?_; intro g cap w5 ho5 hg5; have HO5 := jh ho5; have HG5 := jh hg5; clear ho5 hg5; have HI5 := jh (HI3.out.push (S := ((wr.alloc (.cells #[.int .i64 k', .int .i64 n', .int .i64 p', .string s', .slice a' l' c'] 30)).alloc (.cells #[.int .i64 t_t, .slice t_a t_l t_c] 24)).heap.size) (by rw [World.size_alloc, World.size_alloc]; omega) (fun k hk => by have := HOB.out k hk; rw [World.size_alloc, World.size_alloc]; omega) HLU.out HG5.out HO5.out); have k5 := (HG5.out.block (lt_blk HI3.out.blk) (own_neV HI3.out.list.own (by omega))).trans HI3.out.blk; obtain ⟨z0, z1, z2, z3, z4, z5, z6⟩ := box7 k5; obtain ⟨f0, f1, f2, f3, f4, f5, f6⟩ := box7f k5; clear k5)
    | (go_simp; go_at_call 30; refine (HIH.out _ (by exact grow_drew (Lf.gbt (Lf.gb _) (Lf.gb _)))).mono ?_; rintro e w3 ⟨hg3, u, rfl, hLu⟩; obtain ⟨ku, nu, xu, su, au, lu, cu, tau, tlu, tcu, nau, nlu, ncu, rfl⟩ := hLu.vaV; have HI3 := jh (HI1.out.call (grow_ofDrewG hg3)); have HLU := jh hLu; obtain ⟨m0, m1, m2, m3, m4, m5, m6⟩ := box7 HI3.out.blk; have lm : w2.heap.size + 1 + 1 + 1 < w3.heap.size := lt_blk HI3.out.blk; clear hg3 hLu; unfold vaV))
   all_goals
    go_wp2_with fail
    have h5 : VInv w2 (w5.setCell ⟨w2.heap.size + 1 + 1 + 1, 4, none⟩ (.slice (some ⟨g, 0, none⟩) (vs.length + 1) cap)) (.cells #[.int .i64 9, .slice (some ⟨bt, ot, none⟩) 1 c] 24) (.cells #[.int .i64 nk, .int .i64 n, .int .i64 p, .string s, .slice (some ⟨b, o, none⟩) m nc] 30) 9 (n) s (.slice (some ⟨g, 0, none⟩) (vs.length + 1) cap) ((List.range (j + 1)).map G) (vs ++ [vaV ku nu xu su au lu cu tau tlu tcu nau nlu ncu]) := by
     rw [List.range_succ, List.map_append]
     exact HI5.out
    exact ⟨⟨j + 1, _, _, by omega, by go_num, h5⟩, by simp [intOf]; omega⟩
  ·have hje : j = m := by omega
   have HI : Hid (VInv w2 wr (.cells #[.int .i64 9, .slice (some ⟨bt, ot, none⟩) 1 c] 24) (.cells #[.int .i64 nk, .int .i64 n, .int .i64 p, .string s, .slice na m nc] 30) 9 (n) s (.slice la vs.length lc) ((List.range m).map G) vs) := by
    have := hI
    rw [hje] at this
    exact this
   obtain ⟨r0, r1, r2, r3, r4, r5, r6⟩ := box7 hI.res
   obtain ⟨y0, y1, y2, y3, y4, y5, y6⟩ := box7f hI.res
   have hj3 : ¬ (j : Int) < (m : Int) := by omega
   have HM := jh hm
   have HJE := jh hje
   have HJL := jh hj
   clear hI hvlen hje
   go_wp2_with fail
   change bodyPost _ _ _ _ _ (rset7 wr (w2.heap.size + 1 + 1) (.int .i64 9) (.int .i64 (n)) (.int .i64 0) (.string s) (.slice la vs.length lc) (.slice none 0 0) (.slice none 0 0))
   have hb' := rset7_block HI.out.res (.int .i64 9) (.int .i64 (n)) (.int .i64 0) (.string s) (.slice la vs.length lc) (.slice none 0 0) (.slice none 0 0)
   have hgs := rset7_grow wr (w2.heap.size + 1 + 1) (.int .i64 9) (.int .i64 (n)) (.int .i64 0) (.string s) (.slice la vs.length lc) (.slice none 0 0) (.slice none 0 0)
   have hg' := grow_new HI.out.grown hgs (by omega)
   generalize rset7 wr (w2.heap.size + 1 + 1) (.int .i64 9) (.int .i64 (n)) (.int .i64 0) (.string s) (.slice la vs.length lc) (.slice none 0 0) (.slice none 0 0) = wf at *
   obtain ⟨z0, z1, z2, z3, z4, z5, z6⟩ := box7 hb'
   refine bodyPost_ret (v := vaV 9 (n) 0 s la vs.length lc none 0 0 none 0 0) (by simp [results, Tryz.results30, go_sem, z0, z1, z2, z3, z4, z5, z6, vaV]) rfl ⟨hg', _, rfl, ?_⟩
   exact HI.out.lies hgs ⟨by decide, by decide⟩ HIN.out HS.out (by have := HM.out; simp [maxLen]; omega) rfl
theorem rguess_10 {w2 : World} {nk n : Int} {s : ByteArray} {na : Option Addr} {nc c m : Nat} {p : Int} {t_t : Int} {t_a : Option Addr} {t_l t_c : Nat} {bt ot : Nat} {NV : Nat -> Value} {G : Nat -> Va} (hm : m <= 300) (hs : s.size <= maxLen) (iN : I64 (n)) (HC : Hid (∀ j, j < m -> NodeAt (fun _ => True) w2 na j (NV j))) (tc0 : ∀ W3 : World, w2.grownBy W3 none -> W3.cell? ⟨bt, ot, none⟩ = some (.int .i64 t_t)) (tc1 : ∀ W3 : World, w2.grownBy W3 none -> W3.cell? ⟨bt, ot + 1, none⟩ = some (.slice t_a t_l t_c)) (HR : Hid (∀ j, j < m -> ∀ W, w2.grownBy W none -> Calls Tryz.prog 30 #[.agg #[.int .i64 t_t, .slice t_a t_l t_c], NV j] W (GuessPost (G j) W))) :
 Calls Tryz.prog 30 #[.agg #[.int .i64 10, .slice (some ⟨bt, ot, none⟩) 1 c], .agg #[.int .i64 nk, .int .i64 n, .int .i64 p, .string s, .slice na m nc]] w2 (GuessPost (.mk 10 (n) 0 s ((List.range m).map G) [] []) w2) := by
 have HI0 := jh (vw0_inv w2 (.cells #[.int .i64 10, .slice (some ⟨bt, ot, none⟩) 1 c] 24) (.cells #[.int .i64 nk, .int .i64 n, .int .i64 p, .string s, .slice na m nc] 30) 10 (n) s)
 have HS := jh hs
 have HIN := jh iN
 clear hs iN
 have HT : Hid (∀ W3 : World, w2.grownBy W3 none -> W3.cell? ⟨bt, ot, none⟩ = some (.int .i64 t_t) /\ W3.cell? ⟨bt, ot + 1, none⟩ = some (.slice t_a t_l t_c)) := fun W3 h => ⟨tc0 W3 h, tc1 W3 h⟩
 clear tc0 tc1
 go_enter Tryz.func30, Tryz.ntmps30
 go_wp2_with fail
 go_loopw [33] (fun i wr => ∃ (j : Nat) (lv : Value) (vs : List Value), j <= m /\ i = .int .i64 j /\ VInv w2 wr (.cells #[.int .i64 10, .slice (some ⟨bt, ot, none⟩) 1 c] 24) (.cells #[.int .i64 nk, .int .i64 n, .int .i64 p, .string s, .slice na m nc] 30) 10 (n) s lv ((List.range j).map G) vs) (fun i _ => m - (intOf i).toNat)
 case atStart => exact ⟨0, _, _, Nat.zero_le _, rfl, HI0.out⟩
 case round =>
  obtain ⟨j, lv, vs, hj, rfl, hI⟩ := hrel
  have hlv : ∃ la lc, lv = .slice la vs.length lc := by
   have hq := hI.list.len
   obtain ⟨la, lc, _, h, _, _⟩ := hI.list.done (by simp [maxLen]; omega)
   exact ⟨la, lc, by rw [h, hq]⟩
  obtain ⟨la, lc, rfl⟩ := hlv
  have hvlen : vs.length = j := by
   have h1 := hI.list.len
   simpa using h1
  have hvl : vs.length <= 100000000000 := by omega
  obtain ⟨b0, b1, b2, b3, b4, b5, b6⟩ := box7 hI.blk
  have q0 := cell0_of hI.tb
  have q1 := cell1_of hI.tb
  have lt0 := lt_blk hI.tb
  have ltn := lt_blk hI.nb
  have lb : w2.heap.size + 1 + 1 + 1 < wr.heap.size := lt_blk hI.blk
  have lb1 : w2.heap.size + 1 + 1 + 1 < wr.heap.size + 1 := by omega
  have lt1 : w2.heap.size < wr.heap.size + 1 := by omega
  have ltn1 : w2.heap.size + 1 < wr.heap.size + 1 := by omega
  by_cases hlt : j < m
  ·obtain ⟨b, o, rfl, _, k', n', p', s', a', l', c', hv, e0, e1, e2, e3, e4⟩ := (HC.out j hlt).same (sameAll hI.grown)
   have w1 : (j : Int) < (m : Int) := by omega
   obtain ⟨u0, u1⟩ := HT.out wr hI.grown
   have lq : bt < wr.heap.size := World.block_lt_of_cell? wr _ u0
   have lq1 : bt < wr.heap.size + 1 := by omega
   have hI1 := (hI.call (Lf.gb (.cells #[.int .i64 k', .int .i64 n', .int .i64 p', .string s', .slice a' l' c'] 30))).call (Lf.gb (.cells #[.int .i64 t_t, .slice t_a t_l t_c] 24))
   have hih : ∀ W, wr.grownBy W none -> Calls Tryz.prog 30 #[.agg #[.int .i64 t_t, .slice t_a t_l t_c], .agg #[.int .i64 k', .int .i64 n', .int .i64 p', .string s', .slice a' l' c']] W (GuessPost (G j) W) := by
    intro W hW
    have h := HR.out j hlt W (Lf.gbt hI.grown hW)
    rw [hv] at h
    exact h
   have HIH := jh hih
   have HI1 := jh hI1
   have HOB : Hid (∀ k, (Value.slice la vs.length lc).ownBlock = some k -> k < wr.heap.size) := fun k hk => (World.ownsRow.lt hI.list.own k hk).2
   have hzw : w2.heap.size + 1 + 1 + 1 + 1 <= wr.heap.size := hI.hz
   clear hih hI1 hI hv hvlen
   go_wp2_with fail
   go_region_law (first
    | (refine step_appVa (w2.heap.size + 1 + 1 + 1 + 1) vs ku nu xu su au lu cu tau tlu tcu nau nlu ncu w3 (.slice la vs.length lc) rfl (.tmp 94) (.tmp 98) rfl rfl rfl rfl HI3.out.list.own HI3.out.hz hvl ?_; intro g cap w5 ho5 hg5; have HO5 := jh ho5; have HG5 := jh hg5; clear ho5 hg5; have HI5 := jh (HI3.out.push (S := ((wr.alloc (.cells #[.int .i64 k', .int .i64 n', .int .i64 p', .string s', .slice a' l' c'] 30)).alloc (.cells #[.int .i64 t_t, .slice t_a t_l t_c] 24)).heap.size) (by rw [World.size_alloc, World.size_alloc]; omega) (fun k hk => by have := HOB.out k hk; rw [World.size_alloc, World.size_alloc]; omega) HLU.out HG5.out HO5.out); have k5 := (HG5.out.block (lt_blk HI3.out.blk) (own_neV HI3.out.list.own (by omega))).trans HI3.out.blk; obtain ⟨z0, z1, z2, z3, z4, z5, z6⟩ := box7 k5; obtain ⟨f0, f1, f2, f3, f4, f5, f6⟩ := box7f k5; clear k5)
    | (go_simp; go_at_call 30; refine (HIH.out _ (by exact grow_drew (Lf.gbt (Lf.gb _) (Lf.gb _)))).mono ?_; rintro e w3 ⟨hg3, u, rfl, hLu⟩; obtain ⟨ku, nu, xu, su, au, lu, cu, tau, tlu, tcu, nau, nlu, ncu, rfl⟩ := hLu.vaV; have HI3 := jh (HI1.out.call (grow_ofDrewG hg3)); have HLU := jh hLu; obtain ⟨m0, m1, m2, m3, m4, m5, m6⟩ := box7 HI3.out.blk; have lm : w2.heap.size + 1 + 1 + 1 < w3.heap.size := lt_blk HI3.out.blk; clear hg3 hLu; unfold vaV))
   all_goals
    go_wp2_with fail
    have h5 : VInv w2 (w5.setCell ⟨w2.heap.size + 1 + 1 + 1, 4, none⟩ (.slice (some ⟨g, 0, none⟩) (vs.length + 1) cap)) (.cells #[.int .i64 10, .slice (some ⟨bt, ot, none⟩) 1 c] 24) (.cells #[.int .i64 nk, .int .i64 n, .int .i64 p, .string s, .slice (some ⟨b, o, none⟩) m nc] 30) 10 (n) s (.slice (some ⟨g, 0, none⟩) (vs.length + 1) cap) ((List.range (j + 1)).map G) (vs ++ [vaV ku nu xu su au lu cu tau tlu tcu nau nlu ncu]) := by
     rw [List.range_succ, List.map_append]
     exact HI5.out
    exact ⟨⟨j + 1, _, _, by omega, by go_num, h5⟩, by simp [intOf]; omega⟩
  ·have hje : j = m := by omega
   have HI : Hid (VInv w2 wr (.cells #[.int .i64 10, .slice (some ⟨bt, ot, none⟩) 1 c] 24) (.cells #[.int .i64 nk, .int .i64 n, .int .i64 p, .string s, .slice na m nc] 30) 10 (n) s (.slice la vs.length lc) ((List.range m).map G) vs) := by
    have := hI
    rw [hje] at this
    exact this
   obtain ⟨r0, r1, r2, r3, r4, r5, r6⟩ := box7 hI.res
   obtain ⟨y0, y1, y2, y3, y4, y5, y6⟩ := box7f hI.res
   have hj3 : ¬ (j : Int) < (m : Int) := by omega
   have HM := jh hm
   have HJE := jh hje
   have HJL := jh hj
   clear hI hvlen hje
   go_wp2_with fail
   change bodyPost _ _ _ _ _ (rset7 wr (w2.heap.size + 1 + 1) (.int .i64 10) (.int .i64 (n)) (.int .i64 0) (.string s) (.slice la vs.length lc) (.slice none 0 0) (.slice none 0 0))
   have hb' := rset7_block HI.out.res (.int .i64 10) (.int .i64 (n)) (.int .i64 0) (.string s) (.slice la vs.length lc) (.slice none 0 0) (.slice none 0 0)
   have hgs := rset7_grow wr (w2.heap.size + 1 + 1) (.int .i64 10) (.int .i64 (n)) (.int .i64 0) (.string s) (.slice la vs.length lc) (.slice none 0 0) (.slice none 0 0)
   have hg' := grow_new HI.out.grown hgs (by omega)
   generalize rset7 wr (w2.heap.size + 1 + 1) (.int .i64 10) (.int .i64 (n)) (.int .i64 0) (.string s) (.slice la vs.length lc) (.slice none 0 0) (.slice none 0 0) = wf at *
   obtain ⟨z0, z1, z2, z3, z4, z5, z6⟩ := box7 hb'
   refine bodyPost_ret (v := vaV 10 (n) 0 s la vs.length lc none 0 0 none 0 0) (by simp [results, Tryz.results30, go_sem, z0, z1, z2, z3, z4, z5, z6, vaV]) rfl ⟨hg', _, rfl, ?_⟩
   exact HI.out.lies hgs ⟨by decide, by decide⟩ HIN.out HS.out (by have := HM.out; simp [maxLen]; omega) rfl
theorem rguess_11 {w2 : World} {nk n : Int} {s : ByteArray} {na : Option Addr} {nc c m : Nat} {X : Va} {p : Int} {TT : Nat -> Int} {TA : Nat -> Option Addr} {TL TC : Nat -> Nat} {bt ot : Nat} {NV : Nat -> Value} {G : Nat -> Va} (hm : m <= 300) (hs : s.size <= maxLen) (iN : I64 (n)) (HC : Hid (∀ j, j < m -> NodeAt (fun _ => True) w2 na j (NV j))) (hX1 : m <= 2 -> X = .mk 11 n 0 s ((List.range m).map G) [] []) (hX2 : ¬ m <= 2 -> X = zeroVa) (tc : ∀ j, j < 2 -> ∀ W3 : World, w2.grownBy W3 none -> W3.cell? ⟨bt, ot + j * 2, none⟩ = some (.int .i64 (TT j)) /\ W3.cell? ⟨bt, ot + j * 2 + 1, none⟩ = some (.slice (TA j) (TL j) (TC j))) (HR : Hid (∀ j, j < m -> j < 2 -> ∀ W, w2.grownBy W none -> Calls Tryz.prog 30 #[.agg #[.int .i64 (TT j), .slice (TA j) (TL j) (TC j)], NV j] W (GuessPost (G j) W))) :
 Calls Tryz.prog 30 #[.agg #[.int .i64 11, .slice (some ⟨bt, ot, none⟩) 2 c], .agg #[.int .i64 nk, .int .i64 n, .int .i64 p, .string s, .slice na m nc]] w2 (GuessPost (X) w2) := by
 have HX1 := jh hX1
 have HX2 := jh hX2
 clear hX1 hX2
 have HI0 := jh (vw0_inv w2 (.cells #[.int .i64 11, .slice (some ⟨bt, ot, none⟩) 2 c] 24) (.cells #[.int .i64 nk, .int .i64 n, .int .i64 p, .string s, .slice na m nc] 30) 11 (n) s)
 have HS := jh hs
 have HIN := jh iN
 clear hs iN
 have HT := jh tc
 clear tc
 go_enter Tryz.func30, Tryz.ntmps30
 go_wp2_with fail
 go_loopw [33] (fun i wr => ∃ (j : Nat) (lv : Value) (vs : List Value), j <= min m 2 /\ i = .int .i64 j /\ VInv w2 wr (.cells #[.int .i64 11, .slice (some ⟨bt, ot, none⟩) 2 c] 24) (.cells #[.int .i64 nk, .int .i64 n, .int .i64 p, .string s, .slice na m nc] 30) 11 (n) s lv ((List.range j).map G) vs) (fun i _ => m - (intOf i).toNat)
 case atStart => exact ⟨0, _, _, Nat.zero_le _, rfl, HI0.out⟩
 case round =>
  obtain ⟨j, lv, vs, hj, rfl, hI⟩ := hrel
  have hlv : ∃ la lc, lv = .slice la vs.length lc := by
   have hq := hI.list.len
   obtain ⟨la, lc, _, h, _, _⟩ := hI.list.done (by simp [maxLen] <;> omega)
   exact ⟨la, lc, by rw [h, hq]⟩
  obtain ⟨la, lc, rfl⟩ := hlv
  have hvlen : vs.length = j := hI.list.len.trans (by simp)
  have hvl : vs.length <= 100000000000 := by omega
  obtain ⟨b0, b1, b2, b3, b4, b5, b6⟩ := box7 hI.blk
  have q0 := cell0_of hI.tb
  have q1 := cell1_of hI.tb
  have lt0 := lt_blk hI.tb
  have ltn := lt_blk hI.nb
  have lb : w2.heap.size + 1 + 1 + 1 < wr.heap.size := lt_blk hI.blk
  have lb1 : w2.heap.size + 1 + 1 + 1 < wr.heap.size + 1 := by omega
  have lt1 : w2.heap.size < wr.heap.size + 1 := by omega
  have ltn1 : w2.heap.size + 1 < wr.heap.size + 1 := by omega
  by_cases hlt : j < m
  ·obtain ⟨b, o, rfl, _, k', n', p', s', a', l', c', hv, e0, e1, e2, e3, e4⟩ := (HC.out j hlt).same (sameAll hI.grown)
   have w1 : (j : Int) < (m : Int) := by omega
   by_cases h2 : j < 2
   ·obtain ⟨u0, u1⟩ := HT.out j h2 wr hI.grown
    have lq : bt < wr.heap.size := World.block_lt_of_cell? wr _ u0
    have lq1 : bt < wr.heap.size + 1 := by omega
    have h3 : (j : Int) < 2 := by omega
    have hI1 := (hI.call (Lf.gb (.cells #[.int .i64 k', .int .i64 n', .int .i64 p', .string s', .slice a' l' c'] 30))).call (Lf.gb (.cells #[.int .i64 (TT j), .slice (TA j) (TL j) (TC j)] 24))
    have hih : ∀ W, wr.grownBy W none -> Calls Tryz.prog 30 #[.agg #[.int .i64 (TT j), .slice (TA j) (TL j) (TC j)], .agg #[.int .i64 k', .int .i64 n', .int .i64 p', .string s', .slice a' l' c']] W (GuessPost (G j) W) := by
     intro W hW
     have h := HR.out j hlt h2 W (Lf.gbt hI.grown hW)
     rw [hv] at h
     exact h
    have HIH := jh hih
    have HI1 := jh hI1
    have HOB : Hid (∀ k, (Value.slice la vs.length lc).ownBlock = some k -> k < wr.heap.size) := fun k hk => (World.ownsRow.lt hI.list.own k hk).2
    have hzw : w2.heap.size + 1 + 1 + 1 + 1 <= wr.heap.size := hI.hz
    clear hih hI1 hI hv hvlen
    go_wp2_with fail
    go_region_law (first
     | (refine step_appVa (w2.heap.size + 1 + 1 + 1 + 1) vs ku nu xu su au lu cu tau tlu tcu nau nlu ncu w3 (.slice la vs.length lc) rfl (.tmp 94) (.tmp 98) rfl rfl rfl rfl HI3.out.list.own HI3.out.hz hvl ?_; intro g cap w5 ho5 hg5; have HO5 := jh ho5; have HG5 := jh hg5; clear ho5 hg5; have HI5 := jh (HI3.out.push (S := ((wr.alloc (.cells #[.int .i64 k', .int .i64 n', .int .i64 p', .string s', .slice a' l' c'] 30)).alloc (.cells #[.int .i64 (TT j), .slice (TA j) (TL j) (TC j)] 24)).heap.size) (by rw [World.size_alloc, World.size_alloc]; omega) (fun k hk => by have := HOB.out k hk; rw [World.size_alloc, World.size_alloc]; omega) HLU.out HG5.out HO5.out); have k5 := (HG5.out.block (lt_blk HI3.out.blk) (own_neV HI3.out.list.own (by omega))).trans HI3.out.blk; obtain ⟨z0, z1, z2, z3, z4, z5, z6⟩ := box7 k5; obtain ⟨f0, f1, f2, f3, f4, f5, f6⟩ := box7f k5; clear k5)
     | (go_simp; go_at_call 30; refine (HIH.out _ (by exact grow_drew (Lf.gbt (Lf.gb _) (Lf.gb _)))).mono ?_; rintro e w3 ⟨hg3, u, rfl, hLu⟩; obtain ⟨ku, nu, xu, su, au, lu, cu, tau, tlu, tcu, nau, nlu, ncu, rfl⟩ := hLu.vaV; have HI3 := jh (HI1.out.call (grow_ofDrewG hg3)); have HLU := jh hLu; obtain ⟨m0, m1, m2, m3, m4, m5, m6⟩ := box7 HI3.out.blk; have lm : w2.heap.size + 1 + 1 + 1 < w3.heap.size := lt_blk HI3.out.blk; clear hg3 hLu; unfold vaV))
    all_goals
     go_wp2_with fail
     have h5 : VInv w2 (w5.setCell ⟨w2.heap.size + 1 + 1 + 1, 4, none⟩ (.slice (some ⟨g, 0, none⟩) (vs.length + 1) cap)) (.cells #[.int .i64 11, .slice (some ⟨bt, ot, none⟩) 2 c] 24) (.cells #[.int .i64 nk, .int .i64 n, .int .i64 p, .string s, .slice (some ⟨b, o, none⟩) m nc] 30) 11 (n) s (.slice (some ⟨g, 0, none⟩) (vs.length + 1) cap) ((List.range (j + 1)).map G) (vs ++ [vaV ku nu xu su au lu cu tau tlu tcu nau nlu ncu]) := by
      rw [List.range_succ, List.map_append]
      exact HI5.out
     exact ⟨⟨j + 1, _, _, by omega, by go_num, h5⟩, by simp [intOf]; omega⟩
   ·have h3 : ¬ (j : Int) < 2 := by omega
    obtain ⟨r0, r1, r2, r3, r4, r5, r6⟩ := box7 hI.res
    obtain ⟨y0, y1, y2, y3, y4, y5, y6⟩ := box7f hI.res
    have lr := lt_blk hI.res
    have HIZ := jh hI
    clear hI hv hvlen
    go_wp2_with fail
    change bodyPost _ _ _ _ _ (((rset7 wr (w2.heap.size + 1 + 1) (.int .i64 0) (.int .i64 0) (.int .i64 0) (.string ⟨#[]⟩) (.slice none 0 0) (.slice none 0 0) (.slice none 0 0)).alloc (.cells #[.int .i64 k', .int .i64 n', .int .i64 p', .string s', .slice a' l' c'] 30)).alloc (.cells #[.int .i64 11, .slice (some ⟨bt, ot, none⟩) 2 c] 24))
    have hb0 := rset7_block HIZ.out.res (.int .i64 0) (.int .i64 0) (.int .i64 0) (.string ⟨#[]⟩) (.slice none 0 0) (.slice none 0 0) (.slice none 0 0)
    have hg0 := grow_new HIZ.out.grown (rset7_grow wr (w2.heap.size + 1 + 1) (.int .i64 0) (.int .i64 0) (.int .i64 0) (.string ⟨#[]⟩) (.slice none 0 0) (.slice none 0 0) (.slice none 0 0)) (by omega)
    generalize rset7 wr (w2.heap.size + 1 + 1) (.int .i64 0) (.int .i64 0) (.int .i64 0) (.string ⟨#[]⟩) (.slice none 0 0) (.slice none 0 0) (.slice none 0 0) = wz at *
    have hb' := heap_keep (o := .cells #[.int .i64 11, .slice (some ⟨bt, ot, none⟩) 2 c] 24) (heap_keep (o := .cells #[.int .i64 k', .int .i64 n', .int .i64 p', .string s', .slice a' l' c'] 30) hb0)
    have hg' := Lf.gbt hg0 (Lf.gbt (Lf.gb (.cells #[.int .i64 k', .int .i64 n', .int .i64 p', .string s', .slice a' l' c'] 30)) (Lf.gb (.cells #[.int .i64 11, .slice (some ⟨bt, ot, none⟩) 2 c] 24)))
    generalize (wz.alloc (.cells #[.int .i64 k', .int .i64 n', .int .i64 p', .string s', .slice a' l' c'] 30)).alloc (.cells #[.int .i64 11, .slice (some ⟨bt, ot, none⟩) 2 c] 24) = wf at *
    obtain ⟨z0, z1, z2, z3, z4, z5, z6⟩ := box7 hb'
    rw [HX2.out (by omega)]
    exact bodyPost_ret (v := vaV 0 0 0 ⟨#[]⟩ none 0 0 none 0 0 none 0 0) (by simp [results, Tryz.results30, go_sem, z0, z1, z2, z3, z4, z5, z6, vaV]) rfl ⟨hg', _, rfl, rliesV_zero _ _⟩
  ·have hje : j = m := by omega
   have HI : Hid (VInv w2 wr (.cells #[.int .i64 11, .slice (some ⟨bt, ot, none⟩) 2 c] 24) (.cells #[.int .i64 nk, .int .i64 n, .int .i64 p, .string s, .slice na m nc] 30) 11 (n) s (.slice la vs.length lc) ((List.range m).map G) vs) := by
    have := hI
    rw [hje] at this
    exact this
   obtain ⟨r0, r1, r2, r3, r4, r5, r6⟩ := box7 hI.res
   obtain ⟨y0, y1, y2, y3, y4, y5, y6⟩ := box7f hI.res
   have hj3 : ¬ (j : Int) < (m : Int) := by omega
   have HM := jh hm
   have HJE := jh hje
   have HJL := jh hj
   clear hI hvlen hje
   go_wp2_with fail
   change bodyPost _ _ _ _ _ (rset7 wr (w2.heap.size + 1 + 1) (.int .i64 11) (.int .i64 (n)) (.int .i64 0) (.string s) (.slice la vs.length lc) (.slice none 0 0) (.slice none 0 0))
   have hb' := rset7_block HI.out.res (.int .i64 11) (.int .i64 (n)) (.int .i64 0) (.string s) (.slice la vs.length lc) (.slice none 0 0) (.slice none 0 0)
   have hgs := rset7_grow wr (w2.heap.size + 1 + 1) (.int .i64 11) (.int .i64 (n)) (.int .i64 0) (.string s) (.slice la vs.length lc) (.slice none 0 0) (.slice none 0 0)
   have hg' := grow_new HI.out.grown hgs (by omega)
   generalize rset7 wr (w2.heap.size + 1 + 1) (.int .i64 11) (.int .i64 (n)) (.int .i64 0) (.string s) (.slice la vs.length lc) (.slice none 0 0) (.slice none 0 0) = wf at *
   obtain ⟨z0, z1, z2, z3, z4, z5, z6⟩ := box7 hb'
   rw [HX1.out (by have h1 := HJE.out; have h2 := HJL.out; omega)]
   refine bodyPost_ret (v := vaV 11 (n) 0 s la vs.length lc none 0 0 none 0 0) (by simp [results, Tryz.results30, go_sem, z0, z1, z2, z3, z4, z5, z6, vaV]) rfl ⟨hg', _, rfl, ?_⟩
   exact HI.out.lies hgs ⟨by decide, by decide⟩ HIN.out HS.out (by have := HM.out; simp [maxLen]; omega) rfl
theorem rguess_13 {w2 : World} {nk n : Int} {s : ByteArray} {na : Option Addr} {nc c m : Nat} {p : Int} {a : Option Addr} {tn : Nat} {NV : Nat -> Value} {G : Nat -> Va} (hm : m <= 300) (hs : s.size <= maxLen) (iN : I64 (n)) (HC : Hid (∀ j, j < m -> NodeAt (fun _ => True) w2 na j (NV j))) (HR : Hid (∀ j, j < m -> ∀ W, w2.grownBy W none -> Calls Tryz.prog 30 #[.agg #[.int .i64 11, .slice a tn c], NV j] W (GuessPost (G j) W))) :
 Calls Tryz.prog 30 #[.agg #[.int .i64 13, .slice a tn c], .agg #[.int .i64 nk, .int .i64 n, .int .i64 p, .string s, .slice na m nc]] w2 (GuessPost (.mk 13 (n) 0 s ((List.range m).map G) [] []) w2) := by
 have HI0 := jh (vw0_inv w2 (.cells #[.int .i64 13, .slice a tn c] 24) (.cells #[.int .i64 nk, .int .i64 n, .int .i64 p, .string s, .slice na m nc] 30) 13 (n) s)
 have HS := jh hs
 have HIN := jh iN
 clear hs iN
 go_enter Tryz.func30, Tryz.ntmps30
 go_wp2_with fail
 go_loopw [33] (fun i wr => ∃ (j : Nat) (lv : Value) (vs : List Value), j <= m /\ i = .int .i64 j /\ VInv w2 wr (.cells #[.int .i64 13, .slice a tn c] 24) (.cells #[.int .i64 nk, .int .i64 n, .int .i64 p, .string s, .slice na m nc] 30) 13 (n) s lv ((List.range j).map G) vs) (fun i _ => m - (intOf i).toNat)
 case atStart => exact ⟨0, _, _, Nat.zero_le _, rfl, HI0.out⟩
 case round =>
  obtain ⟨j, lv, vs, hj, rfl, hI⟩ := hrel
  have hlv : ∃ la lc, lv = .slice la vs.length lc := by
   have hq := hI.list.len
   obtain ⟨la, lc, _, h, _, _⟩ := hI.list.done (by simp [maxLen]; omega)
   exact ⟨la, lc, by rw [h, hq]⟩
  obtain ⟨la, lc, rfl⟩ := hlv
  have hvlen : vs.length = j := by
   have h1 := hI.list.len
   simpa using h1
  have hvl : vs.length <= 100000000000 := by omega
  obtain ⟨b0, b1, b2, b3, b4, b5, b6⟩ := box7 hI.blk
  have q0 := cell0_of hI.tb
  have q1 := cell1_of hI.tb
  have lt0 := lt_blk hI.tb
  have ltn := lt_blk hI.nb
  have lb : w2.heap.size + 1 + 1 + 1 < wr.heap.size := lt_blk hI.blk
  have lb1 : w2.heap.size + 1 + 1 + 1 < wr.heap.size + 1 := by omega
  have lt1 : w2.heap.size < wr.heap.size + 1 := by omega
  have ltn1 : w2.heap.size + 1 < wr.heap.size + 1 := by omega
  by_cases hlt : j < m
  ·obtain ⟨b, o, rfl, _, k', n', p', s', a', l', c', hv, e0, e1, e2, e3, e4⟩ := (HC.out j hlt).same (sameAll hI.grown)
   have w1 : (j : Int) < (m : Int) := by omega
   have hI1 := (hI.call (Lf.gb (.cells #[.int .i64 k', .int .i64 n', .int .i64 p', .string s', .slice a' l' c'] 30))).call (Lf.gb (.cells #[.int .i64 11, .slice a tn c] 24))
   have hih : ∀ W, wr.grownBy W none -> Calls Tryz.prog 30 #[.agg #[.int .i64 11, .slice a tn c], .agg #[.int .i64 k', .int .i64 n', .int .i64 p', .string s', .slice a' l' c']] W (GuessPost (G j) W) := by
    intro W hW
    have h := HR.out j hlt W (Lf.gbt hI.grown hW)
    rw [hv] at h
    exact h
   have HIH := jh hih
   have HI1 := jh hI1
   have HOB : Hid (∀ k, (Value.slice la vs.length lc).ownBlock = some k -> k < wr.heap.size) := fun k hk => (World.ownsRow.lt hI.list.own k hk).2
   have hzw : w2.heap.size + 1 + 1 + 1 + 1 <= wr.heap.size := hI.hz
   clear hih hI1 hI hv hvlen
   go_wp2_with fail
   go_region_law (first
    | (refine step_appVa (w2.heap.size + 1 + 1 + 1 + 1) vs ku nu xu su au lu cu tau tlu tcu nau nlu ncu w3 (.slice la vs.length lc) rfl (.tmp 94) (.tmp 98) rfl rfl rfl rfl HI3.out.list.own HI3.out.hz hvl ?_; intro g cap w5 ho5 hg5; have HO5 := jh ho5; have HG5 := jh hg5; clear ho5 hg5; have HI5 := jh (HI3.out.push (S := ((wr.alloc (.cells #[.int .i64 k', .int .i64 n', .int .i64 p', .string s', .slice a' l' c'] 30)).alloc (.cells #[.int .i64 11, .slice a tn c] 24)).heap.size) (by rw [World.size_alloc, World.size_alloc]; omega) (fun k hk => by have := HOB.out k hk; rw [World.size_alloc, World.size_alloc]; omega) HLU.out HG5.out HO5.out); have k5 := (HG5.out.block (lt_blk HI3.out.blk) (own_neV HI3.out.list.own (by omega))).trans HI3.out.blk; obtain ⟨z0, z1, z2, z3, z4, z5, z6⟩ := box7 k5; obtain ⟨f0, f1, f2, f3, f4, f5, f6⟩ := box7f k5; clear k5)
    | (go_simp; go_at_call 30; refine (HIH.out _ (by exact grow_drew (Lf.gbt (Lf.gb _) (Lf.gb _)))).mono ?_; rintro e w3 ⟨hg3, u, rfl, hLu⟩; obtain ⟨ku, nu, xu, su, au, lu, cu, tau, tlu, tcu, nau, nlu, ncu, rfl⟩ := hLu.vaV; have HI3 := jh (HI1.out.call (grow_ofDrewG hg3)); have HLU := jh hLu; obtain ⟨m0, m1, m2, m3, m4, m5, m6⟩ := box7 HI3.out.blk; have lm : w2.heap.size + 1 + 1 + 1 < w3.heap.size := lt_blk HI3.out.blk; clear hg3 hLu; unfold vaV))
   all_goals
    go_wp2_with fail
    have h5 : VInv w2 (w5.setCell ⟨w2.heap.size + 1 + 1 + 1, 4, none⟩ (.slice (some ⟨g, 0, none⟩) (vs.length + 1) cap)) (.cells #[.int .i64 13, .slice a tn c] 24) (.cells #[.int .i64 nk, .int .i64 n, .int .i64 p, .string s, .slice (some ⟨b, o, none⟩) m nc] 30) 13 (n) s (.slice (some ⟨g, 0, none⟩) (vs.length + 1) cap) ((List.range (j + 1)).map G) (vs ++ [vaV ku nu xu su au lu cu tau tlu tcu nau nlu ncu]) := by
     rw [List.range_succ, List.map_append]
     exact HI5.out
    exact ⟨⟨j + 1, _, _, by omega, by go_num, h5⟩, by simp [intOf]; omega⟩
  ·have hje : j = m := by omega
   have HI : Hid (VInv w2 wr (.cells #[.int .i64 13, .slice a tn c] 24) (.cells #[.int .i64 nk, .int .i64 n, .int .i64 p, .string s, .slice na m nc] 30) 13 (n) s (.slice la vs.length lc) ((List.range m).map G) vs) := by
    have := hI
    rw [hje] at this
    exact this
   obtain ⟨r0, r1, r2, r3, r4, r5, r6⟩ := box7 hI.res
   obtain ⟨y0, y1, y2, y3, y4, y5, y6⟩ := box7f hI.res
   have hj3 : ¬ (j : Int) < (m : Int) := by omega
   have HM := jh hm
   have HJE := jh hje
   have HJL := jh hj
   clear hI hvlen hje
   go_wp2_with fail
   change bodyPost _ _ _ _ _ (rset7 wr (w2.heap.size + 1 + 1) (.int .i64 13) (.int .i64 (n)) (.int .i64 0) (.string s) (.slice la vs.length lc) (.slice none 0 0) (.slice none 0 0))
   have hb' := rset7_block HI.out.res (.int .i64 13) (.int .i64 (n)) (.int .i64 0) (.string s) (.slice la vs.length lc) (.slice none 0 0) (.slice none 0 0)
   have hgs := rset7_grow wr (w2.heap.size + 1 + 1) (.int .i64 13) (.int .i64 (n)) (.int .i64 0) (.string s) (.slice la vs.length lc) (.slice none 0 0) (.slice none 0 0)
   have hg' := grow_new HI.out.grown hgs (by omega)
   generalize rset7 wr (w2.heap.size + 1 + 1) (.int .i64 13) (.int .i64 (n)) (.int .i64 0) (.string s) (.slice la vs.length lc) (.slice none 0 0) (.slice none 0 0) = wf at *
   obtain ⟨z0, z1, z2, z3, z4, z5, z6⟩ := box7 hb'
   refine bodyPost_ret (v := vaV 13 (n) 0 s la vs.length lc none 0 0 none 0 0) (by simp [results, Tryz.results30, go_sem, z0, z1, z2, z3, z4, z5, z6, vaV]) rfl ⟨hg', _, rfl, ?_⟩
   exact HI.out.lies hgs ⟨by decide, by decide⟩ HIN.out HS.out (by have := HM.out; simp [maxLen]; omega) rfl
theorem rguess_12a {w2 : World} {nk n : Int} {s : ByteArray} {na : Option Addr} {nc c m : Nat} {t_t : Int} {t_a : Option Addr} {t_l t_c : Nat} {bt ot : Nat} {NV : Nat -> Value} {G : Nat -> Va} (hm : m <= 300) (hs : s.size <= maxLen) (iN : I64 (0)) (HC : Hid (∀ j, j < m -> NodeAt (fun _ => True) w2 na j (NV j))) (tc0 : ∀ W3 : World, w2.grownBy W3 none -> W3.cell? ⟨bt, ot, none⟩ = some (.int .i64 t_t)) (tc1 : ∀ W3 : World, w2.grownBy W3 none -> W3.cell? ⟨bt, ot + 1, none⟩ = some (.slice t_a t_l t_c)) (HR : Hid (∀ j, j < m -> ∀ W, w2.grownBy W none -> Calls Tryz.prog 30 #[.agg #[.int .i64 t_t, .slice t_a t_l t_c], NV j] W (GuessPost (G j) W))) :
 Calls Tryz.prog 30 #[.agg #[.int .i64 12, .slice (some ⟨bt, ot, none⟩) 2 c], .agg #[.int .i64 nk, .int .i64 n, .int .i64 24, .string s, .slice na m nc]] w2 (GuessPost (.mk 12 (0) 0 s ((List.range m).map G) [] []) w2) := by
 have HI0 := jh (vw0_inv w2 (.cells #[.int .i64 12, .slice (some ⟨bt, ot, none⟩) 2 c] 24) (.cells #[.int .i64 nk, .int .i64 n, .int .i64 24, .string s, .slice na m nc] 30) 12 (0) s)
 have HS := jh hs
 have HIN := jh iN
 clear hs iN
 have HT : Hid (∀ W3 : World, w2.grownBy W3 none -> W3.cell? ⟨bt, ot, none⟩ = some (.int .i64 t_t) /\ W3.cell? ⟨bt, ot + 1, none⟩ = some (.slice t_a t_l t_c)) := fun W3 h => ⟨tc0 W3 h, tc1 W3 h⟩
 clear tc0 tc1
 go_enter Tryz.func30, Tryz.ntmps30
 go_wp2_with fail
 go_loopw [33] (fun i wr => ∃ (j : Nat) (lv : Value) (vs : List Value), j <= m /\ i = .int .i64 j /\ VInv w2 wr (.cells #[.int .i64 12, .slice (some ⟨bt, ot, none⟩) 2 c] 24) (.cells #[.int .i64 nk, .int .i64 n, .int .i64 24, .string s, .slice na m nc] 30) 12 (0) s lv ((List.range j).map G) vs) (fun i _ => m - (intOf i).toNat)
 case atStart => exact ⟨0, _, _, Nat.zero_le _, rfl, HI0.out⟩
 case round =>
  obtain ⟨j, lv, vs, hj, rfl, hI⟩ := hrel
  have hlv : ∃ la lc, lv = .slice la vs.length lc := by
   have hq := hI.list.len
   obtain ⟨la, lc, _, h, _, _⟩ := hI.list.done (by simp [maxLen]; omega)
   exact ⟨la, lc, by rw [h, hq]⟩
  obtain ⟨la, lc, rfl⟩ := hlv
  have hvlen : vs.length = j := by
   have h1 := hI.list.len
   simpa using h1
  have hvl : vs.length <= 100000000000 := by omega
  obtain ⟨b0, b1, b2, b3, b4, b5, b6⟩ := box7 hI.blk
  have q0 := cell0_of hI.tb
  have q1 := cell1_of hI.tb
  have lt0 := lt_blk hI.tb
  have ltn := lt_blk hI.nb
  have lb : w2.heap.size + 1 + 1 + 1 < wr.heap.size := lt_blk hI.blk
  have lb1 : w2.heap.size + 1 + 1 + 1 < wr.heap.size + 1 := by omega
  have lt1 : w2.heap.size < wr.heap.size + 1 := by omega
  have ltn1 : w2.heap.size + 1 < wr.heap.size + 1 := by omega
  by_cases hlt : j < m
  ·obtain ⟨b, o, rfl, _, k', n', p', s', a', l', c', hv, e0, e1, e2, e3, e4⟩ := (HC.out j hlt).same (sameAll hI.grown)
   have w1 : (j : Int) < (m : Int) := by omega
   obtain ⟨u0, u1⟩ := HT.out wr hI.grown
   have lq : bt < wr.heap.size := World.block_lt_of_cell? wr _ u0
   have lq1 : bt < wr.heap.size + 1 := by omega
   have hI1 := (hI.call (Lf.gb (.cells #[.int .i64 k', .int .i64 n', .int .i64 p', .string s', .slice a' l' c'] 30))).call (Lf.gb (.cells #[.int .i64 t_t, .slice t_a t_l t_c] 24))
   have hih : ∀ W, wr.grownBy W none -> Calls Tryz.prog 30 #[.agg #[.int .i64 t_t, .slice t_a t_l t_c], .agg #[.int .i64 k', .int .i64 n', .int .i64 p', .string s', .slice a' l' c']] W (GuessPost (G j) W) := by
    intro W hW
    have h := HR.out j hlt W (Lf.gbt hI.grown hW)
    rw [hv] at h
    exact h
   have HIH := jh hih
   have HI1 := jh hI1
   have HOB : Hid (∀ k, (Value.slice la vs.length lc).ownBlock = some k -> k < wr.heap.size) := fun k hk => (World.ownsRow.lt hI.list.own k hk).2
   have hzw : w2.heap.size + 1 + 1 + 1 + 1 <= wr.heap.size := hI.hz
   clear hih hI1 hI hv hvlen
   go_wp2_with fail
   go_region_law (first
    | (refine step_appVa (w2.heap.size + 1 + 1 + 1 + 1) vs ku nu xu su au lu cu tau tlu tcu nau nlu ncu w3 (.slice la vs.length lc) rfl (.tmp 94) (.tmp 98) rfl rfl rfl rfl HI3.out.list.own HI3.out.hz hvl ?_; intro g cap w5 ho5 hg5; have HO5 := jh ho5; have HG5 := jh hg5; clear ho5 hg5; have HI5 := jh (HI3.out.push (S := ((wr.alloc (.cells #[.int .i64 k', .int .i64 n', .int .i64 p', .string s', .slice a' l' c'] 30)).alloc (.cells #[.int .i64 t_t, .slice t_a t_l t_c] 24)).heap.size) (by rw [World.size_alloc, World.size_alloc]; omega) (fun k hk => by have := HOB.out k hk; rw [World.size_alloc, World.size_alloc]; omega) HLU.out HG5.out HO5.out); have k5 := (HG5.out.block (lt_blk HI3.out.blk) (own_neV HI3.out.list.own (by omega))).trans HI3.out.blk; obtain ⟨z0, z1, z2, z3, z4, z5, z6⟩ := box7 k5; obtain ⟨f0, f1, f2, f3, f4, f5, f6⟩ := box7f k5; clear k5)
    | (go_simp; go_at_call 30; refine (HIH.out _ (by exact grow_drew (Lf.gbt (Lf.gb _) (Lf.gb _)))).mono ?_; rintro e w3 ⟨hg3, u, rfl, hLu⟩; obtain ⟨ku, nu, xu, su, au, lu, cu, tau, tlu, tcu, nau, nlu, ncu, rfl⟩ := hLu.vaV; have HI3 := jh (HI1.out.call (grow_ofDrewG hg3)); have HLU := jh hLu; obtain ⟨m0, m1, m2, m3, m4, m5, m6⟩ := box7 HI3.out.blk; have lm : w2.heap.size + 1 + 1 + 1 < w3.heap.size := lt_blk HI3.out.blk; clear hg3 hLu; unfold vaV))
   all_goals
    go_wp2_with fail
    have h5 : VInv w2 (w5.setCell ⟨w2.heap.size + 1 + 1 + 1, 4, none⟩ (.slice (some ⟨g, 0, none⟩) (vs.length + 1) cap)) (.cells #[.int .i64 12, .slice (some ⟨bt, ot, none⟩) 2 c] 24) (.cells #[.int .i64 nk, .int .i64 n, .int .i64 24, .string s, .slice (some ⟨b, o, none⟩) m nc] 30) 12 (0) s (.slice (some ⟨g, 0, none⟩) (vs.length + 1) cap) ((List.range (j + 1)).map G) (vs ++ [vaV ku nu xu su au lu cu tau tlu tcu nau nlu ncu]) := by
     rw [List.range_succ, List.map_append]
     exact HI5.out
    exact ⟨⟨j + 1, _, _, by omega, by go_num, h5⟩, by simp [intOf]; omega⟩
  ·have hje : j = m := by omega
   have HI : Hid (VInv w2 wr (.cells #[.int .i64 12, .slice (some ⟨bt, ot, none⟩) 2 c] 24) (.cells #[.int .i64 nk, .int .i64 n, .int .i64 24, .string s, .slice na m nc] 30) 12 (0) s (.slice la vs.length lc) ((List.range m).map G) vs) := by
    have := hI
    rw [hje] at this
    exact this
   obtain ⟨r0, r1, r2, r3, r4, r5, r6⟩ := box7 hI.res
   obtain ⟨y0, y1, y2, y3, y4, y5, y6⟩ := box7f hI.res
   have hj3 : ¬ (j : Int) < (m : Int) := by omega
   have HM := jh hm
   have HJE := jh hje
   have HJL := jh hj
   clear hI hvlen hje
   go_wp2_with fail
   change bodyPost _ _ _ _ _ (rset7 wr (w2.heap.size + 1 + 1) (.int .i64 12) (.int .i64 (0)) (.int .i64 0) (.string s) (.slice la vs.length lc) (.slice none 0 0) (.slice none 0 0))
   have hb' := rset7_block HI.out.res (.int .i64 12) (.int .i64 (0)) (.int .i64 0) (.string s) (.slice la vs.length lc) (.slice none 0 0) (.slice none 0 0)
   have hgs := rset7_grow wr (w2.heap.size + 1 + 1) (.int .i64 12) (.int .i64 (0)) (.int .i64 0) (.string s) (.slice la vs.length lc) (.slice none 0 0) (.slice none 0 0)
   have hg' := grow_new HI.out.grown hgs (by omega)
   generalize rset7 wr (w2.heap.size + 1 + 1) (.int .i64 12) (.int .i64 (0)) (.int .i64 0) (.string s) (.slice la vs.length lc) (.slice none 0 0) (.slice none 0 0) = wf at *
   obtain ⟨z0, z1, z2, z3, z4, z5, z6⟩ := box7 hb'
   refine bodyPost_ret (v := vaV 12 (0) 0 s la vs.length lc none 0 0 none 0 0) (by simp [results, Tryz.results30, go_sem, z0, z1, z2, z3, z4, z5, z6, vaV]) rfl ⟨hg', _, rfl, ?_⟩
   exact HI.out.lies hgs ⟨by decide, by decide⟩ HIN.out HS.out (by have := HM.out; simp [maxLen]; omega) rfl
theorem rguess_12b {w2 : World} {nk n : Int} {s : ByteArray} {na : Option Addr} {nc c m : Nat} {t_t : Int} {t_a : Option Addr} {t_l t_c : Nat} {bt ot : Nat} {NV : Nat -> Value} {G : Nat -> Va} (hm : m <= 300) (hs : s.size <= maxLen) (iN : I64 (1)) (HC : Hid (∀ j, j < m -> NodeAt (fun _ => True) w2 na j (NV j))) (tc0 : ∀ W3 : World, w2.grownBy W3 none -> W3.cell? ⟨bt, ot + 2, none⟩ = some (.int .i64 t_t)) (tc1 : ∀ W3 : World, w2.grownBy W3 none -> W3.cell? ⟨bt, ot + 3, none⟩ = some (.slice t_a t_l t_c)) (HR : Hid (∀ j, j < m -> ∀ W, w2.grownBy W none -> Calls Tryz.prog 30 #[.agg #[.int .i64 t_t, .slice t_a t_l t_c], NV j] W (GuessPost (G j) W))) :
 Calls Tryz.prog 30 #[.agg #[.int .i64 12, .slice (some ⟨bt, ot, none⟩) 2 c], .agg #[.int .i64 nk, .int .i64 n, .int .i64 25, .string s, .slice na m nc]] w2 (GuessPost (.mk 12 (1) 0 s ((List.range m).map G) [] []) w2) := by
 have HI0 := jh (vw0_inv w2 (.cells #[.int .i64 12, .slice (some ⟨bt, ot, none⟩) 2 c] 24) (.cells #[.int .i64 nk, .int .i64 n, .int .i64 25, .string s, .slice na m nc] 30) 12 (1) s)
 have HS := jh hs
 have HIN := jh iN
 clear hs iN
 have HT : Hid (∀ W3 : World, w2.grownBy W3 none -> W3.cell? ⟨bt, ot + 2, none⟩ = some (.int .i64 t_t) /\ W3.cell? ⟨bt, ot + 3, none⟩ = some (.slice t_a t_l t_c)) := fun W3 h => ⟨tc0 W3 h, tc1 W3 h⟩
 clear tc0 tc1
 go_enter Tryz.func30, Tryz.ntmps30
 go_wp2_with fail
 go_loopw [33] (fun i wr => ∃ (j : Nat) (lv : Value) (vs : List Value), j <= m /\ i = .int .i64 j /\ VInv w2 wr (.cells #[.int .i64 12, .slice (some ⟨bt, ot, none⟩) 2 c] 24) (.cells #[.int .i64 nk, .int .i64 n, .int .i64 25, .string s, .slice na m nc] 30) 12 (1) s lv ((List.range j).map G) vs) (fun i _ => m - (intOf i).toNat)
 case atStart => exact ⟨0, _, _, Nat.zero_le _, rfl, HI0.out⟩
 case round =>
  obtain ⟨j, lv, vs, hj, rfl, hI⟩ := hrel
  have hlv : ∃ la lc, lv = .slice la vs.length lc := by
   have hq := hI.list.len
   obtain ⟨la, lc, _, h, _, _⟩ := hI.list.done (by simp [maxLen]; omega)
   exact ⟨la, lc, by rw [h, hq]⟩
  obtain ⟨la, lc, rfl⟩ := hlv
  have hvlen : vs.length = j := by
   have h1 := hI.list.len
   simpa using h1
  have hvl : vs.length <= 100000000000 := by omega
  obtain ⟨b0, b1, b2, b3, b4, b5, b6⟩ := box7 hI.blk
  have q0 := cell0_of hI.tb
  have q1 := cell1_of hI.tb
  have lt0 := lt_blk hI.tb
  have ltn := lt_blk hI.nb
  have lb : w2.heap.size + 1 + 1 + 1 < wr.heap.size := lt_blk hI.blk
  have lb1 : w2.heap.size + 1 + 1 + 1 < wr.heap.size + 1 := by omega
  have lt1 : w2.heap.size < wr.heap.size + 1 := by omega
  have ltn1 : w2.heap.size + 1 < wr.heap.size + 1 := by omega
  by_cases hlt : j < m
  ·obtain ⟨b, o, rfl, _, k', n', p', s', a', l', c', hv, e0, e1, e2, e3, e4⟩ := (HC.out j hlt).same (sameAll hI.grown)
   have w1 : (j : Int) < (m : Int) := by omega
   obtain ⟨u0, u1⟩ := HT.out wr hI.grown
   have lq : bt < wr.heap.size := World.block_lt_of_cell? wr _ u0
   have lq1 : bt < wr.heap.size + 1 := by omega
   have hI1 := (hI.call (Lf.gb (.cells #[.int .i64 k', .int .i64 n', .int .i64 p', .string s', .slice a' l' c'] 30))).call (Lf.gb (.cells #[.int .i64 t_t, .slice t_a t_l t_c] 24))
   have hih : ∀ W, wr.grownBy W none -> Calls Tryz.prog 30 #[.agg #[.int .i64 t_t, .slice t_a t_l t_c], .agg #[.int .i64 k', .int .i64 n', .int .i64 p', .string s', .slice a' l' c']] W (GuessPost (G j) W) := by
    intro W hW
    have h := HR.out j hlt W (Lf.gbt hI.grown hW)
    rw [hv] at h
    exact h
   have HIH := jh hih
   have HI1 := jh hI1
   have HOB : Hid (∀ k, (Value.slice la vs.length lc).ownBlock = some k -> k < wr.heap.size) := fun k hk => (World.ownsRow.lt hI.list.own k hk).2
   have hzw : w2.heap.size + 1 + 1 + 1 + 1 <= wr.heap.size := hI.hz
   clear hih hI1 hI hv hvlen
   go_wp2_with fail
   go_region_law (first
    | (refine step_appVa (w2.heap.size + 1 + 1 + 1 + 1) vs ku nu xu su au lu cu tau tlu tcu nau nlu ncu w3 (.slice la vs.length lc) rfl (.tmp 94) (.tmp 98) rfl rfl rfl rfl HI3.out.list.own HI3.out.hz hvl ?_; intro g cap w5 ho5 hg5; have HO5 := jh ho5; have HG5 := jh hg5; clear ho5 hg5; have HI5 := jh (HI3.out.push (S := ((wr.alloc (.cells #[.int .i64 k', .int .i64 n', .int .i64 p', .string s', .slice a' l' c'] 30)).alloc (.cells #[.int .i64 t_t, .slice t_a t_l t_c] 24)).heap.size) (by rw [World.size_alloc, World.size_alloc]; omega) (fun k hk => by have := HOB.out k hk; rw [World.size_alloc, World.size_alloc]; omega) HLU.out HG5.out HO5.out); have k5 := (HG5.out.block (lt_blk HI3.out.blk) (own_neV HI3.out.list.own (by omega))).trans HI3.out.blk; obtain ⟨z0, z1, z2, z3, z4, z5, z6⟩ := box7 k5; obtain ⟨f0, f1, f2, f3, f4, f5, f6⟩ := box7f k5; clear k5)
    | (go_simp; go_at_call 30; refine (HIH.out _ (by exact grow_drew (Lf.gbt (Lf.gb _) (Lf.gb _)))).mono ?_; rintro e w3 ⟨hg3, u, rfl, hLu⟩; obtain ⟨ku, nu, xu, su, au, lu, cu, tau, tlu, tcu, nau, nlu, ncu, rfl⟩ := hLu.vaV; have HI3 := jh (HI1.out.call (grow_ofDrewG hg3)); have HLU := jh hLu; obtain ⟨m0, m1, m2, m3, m4, m5, m6⟩ := box7 HI3.out.blk; have lm : w2.heap.size + 1 + 1 + 1 < w3.heap.size := lt_blk HI3.out.blk; clear hg3 hLu; unfold vaV))
   all_goals
    go_wp2_with fail
    have h5 : VInv w2 (w5.setCell ⟨w2.heap.size + 1 + 1 + 1, 4, none⟩ (.slice (some ⟨g, 0, none⟩) (vs.length + 1) cap)) (.cells #[.int .i64 12, .slice (some ⟨bt, ot, none⟩) 2 c] 24) (.cells #[.int .i64 nk, .int .i64 n, .int .i64 25, .string s, .slice (some ⟨b, o, none⟩) m nc] 30) 12 (1) s (.slice (some ⟨g, 0, none⟩) (vs.length + 1) cap) ((List.range (j + 1)).map G) (vs ++ [vaV ku nu xu su au lu cu tau tlu tcu nau nlu ncu]) := by
     rw [List.range_succ, List.map_append]
     exact HI5.out
    exact ⟨⟨j + 1, _, _, by omega, by go_num, h5⟩, by simp [intOf]; omega⟩
  ·have hje : j = m := by omega
   have HI : Hid (VInv w2 wr (.cells #[.int .i64 12, .slice (some ⟨bt, ot, none⟩) 2 c] 24) (.cells #[.int .i64 nk, .int .i64 n, .int .i64 25, .string s, .slice na m nc] 30) 12 (1) s (.slice la vs.length lc) ((List.range m).map G) vs) := by
    have := hI
    rw [hje] at this
    exact this
   obtain ⟨r0, r1, r2, r3, r4, r5, r6⟩ := box7 hI.res
   obtain ⟨y0, y1, y2, y3, y4, y5, y6⟩ := box7f hI.res
   have hj3 : ¬ (j : Int) < (m : Int) := by omega
   have HM := jh hm
   have HJE := jh hje
   have HJL := jh hj
   clear hI hvlen hje
   go_wp2_with fail
   change bodyPost _ _ _ _ _ (rset7 wr (w2.heap.size + 1 + 1) (.int .i64 12) (.int .i64 (1)) (.int .i64 0) (.string s) (.slice la vs.length lc) (.slice none 0 0) (.slice none 0 0))
   have hb' := rset7_block HI.out.res (.int .i64 12) (.int .i64 (1)) (.int .i64 0) (.string s) (.slice la vs.length lc) (.slice none 0 0) (.slice none 0 0)
   have hgs := rset7_grow wr (w2.heap.size + 1 + 1) (.int .i64 12) (.int .i64 (1)) (.int .i64 0) (.string s) (.slice la vs.length lc) (.slice none 0 0) (.slice none 0 0)
   have hg' := grow_new HI.out.grown hgs (by omega)
   generalize rset7 wr (w2.heap.size + 1 + 1) (.int .i64 12) (.int .i64 (1)) (.int .i64 0) (.string s) (.slice la vs.length lc) (.slice none 0 0) (.slice none 0 0) = wf at *
   obtain ⟨z0, z1, z2, z3, z4, z5, z6⟩ := box7 hb'
   refine bodyPost_ret (v := vaV 12 (1) 0 s la vs.length lc none 0 0 none 0 0) (by simp [results, Tryz.results30, go_sem, z0, z1, z2, z3, z4, z5, z6, vaV]) rfl ⟨hg', _, rfl, ?_⟩
   exact HI.out.lies hgs ⟨by decide, by decide⟩ HIN.out HS.out (by have := HM.out; simp [maxLen]; omega) rfl
theorem rguess_12x {w2 : World} {nk n : Int} {s : ByteArray} {na : Option Addr} {nc c m : Nat} {X : Va} {p : Int} {a : Option Addr} {tn : Nat} {NV : Nat -> Value} (hm : m <= 300) (hs : s.size <= maxLen) (iN : I64 (p - 24)) (HC : Hid (∀ j, j < m -> NodeAt (fun _ => True) w2 na j (NV j))) (hX1 : m = 0 -> X = .mk 12 (p - 24) 0 s [] [] []) (hX2 : ¬ m = 0 -> X = zeroVa) (hp : 0 <= p /\ p <= 95) (h0 : ¬ p - 24 = 0) (h1 : ¬ p - 24 = 1) :
 Calls Tryz.prog 30 #[.agg #[.int .i64 12, .slice a tn c], .agg #[.int .i64 nk, .int .i64 n, .int .i64 p, .string s, .slice na m nc]] w2 (GuessPost (X) w2) := by
 have HX1 := jh hX1
 have HX2 := jh hX2
 clear hX1 hX2
 have HI0 := jh (vw0_inv w2 (.cells #[.int .i64 12, .slice a tn c] 24) (.cells #[.int .i64 nk, .int .i64 n, .int .i64 p, .string s, .slice na m nc] 30) 12 (p - 24) s)
 have HS := jh hs
 have HIN := jh iN
 clear hs iN
 have hw : IntKind.i64.wrap (p - 24) = p - 24 := wrap_small (by omega) (by omega)
 have hw2 : wrap64 (p - 24) = p - 24 := by unfold wrap64; omega
 have g0 : (p - 24 == 0) = false := by simpa using h0
 have g1 : (p - 24 == 1) = false := by simpa using h1
 clear h0 h1
 go_enter Tryz.func30, Tryz.ntmps30
 go_wp2_with fail
 go_loopw [33] (fun i wr => ∃ (j : Nat) (lv : Value) (vs : List Value), j <= 0 /\ i = .int .i64 j /\ VInv w2 wr (.cells #[.int .i64 12, .slice a tn c] 24) (.cells #[.int .i64 nk, .int .i64 n, .int .i64 p, .string s, .slice na m nc] 30) 12 (p - 24) s lv ([]) vs) (fun i _ => m - (intOf i).toNat)
 case atStart => exact ⟨0, _, _, Nat.zero_le _, rfl, HI0.out⟩
 case round =>
  obtain ⟨j, lv, vs, hj, rfl, hI⟩ := hrel
  have hlv : ∃ la lc, lv = .slice la vs.length lc := by
   have hq := hI.list.len
   obtain ⟨la, lc, _, h, _, _⟩ := hI.list.done (by simp [maxLen] <;> omega)
   exact ⟨la, lc, by rw [h, hq]⟩
  obtain ⟨la, lc, rfl⟩ := hlv
  have hvlen : vs.length = 0 := hI.list.len.trans (by simp)
  have hvl : vs.length <= 100000000000 := by omega
  obtain ⟨b0, b1, b2, b3, b4, b5, b6⟩ := box7 hI.blk
  have q0 := cell0_of hI.tb
  have q1 := cell1_of hI.tb
  have lt0 := lt_blk hI.tb
  have ltn := lt_blk hI.nb
  have lb : w2.heap.size + 1 + 1 + 1 < wr.heap.size := lt_blk hI.blk
  have lb1 : w2.heap.size + 1 + 1 + 1 < wr.heap.size + 1 := by omega
  have lt1 : w2.heap.size < wr.heap.size + 1 := by omega
  have ltn1 : w2.heap.size + 1 < wr.heap.size + 1 := by omega
  by_cases hlt : j < m
  ·obtain ⟨b, o, rfl, _, k', n', p', s', a', l', c', hv, e0, e1, e2, e3, e4⟩ := (HC.out j hlt).same (sameAll hI.grown)
   have w1 : (j : Int) < (m : Int) := by omega
   obtain ⟨r0, r1, r2, r3, r4, r5, r6⟩ := box7 hI.res
   obtain ⟨y0, y1, y2, y3, y4, y5, y6⟩ := box7f hI.res
   have lr := lt_blk hI.res
   have HIZ := jh hI
   clear hI hv hvlen
   go_wp2_with fail
   change bodyPost _ _ _ _ _ (((rset7 wr (w2.heap.size + 1 + 1) (.int .i64 0) (.int .i64 0) (.int .i64 0) (.string ⟨#[]⟩) (.slice none 0 0) (.slice none 0 0) (.slice none 0 0)).alloc (.cells #[.int .i64 k', .int .i64 n', .int .i64 p', .string s', .slice a' l' c'] 30)).alloc (.cells #[.int .i64 12, .slice a tn c] 24))
   have hb0 := rset7_block HIZ.out.res (.int .i64 0) (.int .i64 0) (.int .i64 0) (.string ⟨#[]⟩) (.slice none 0 0) (.slice none 0 0) (.slice none 0 0)
   have hg0 := grow_new HIZ.out.grown (rset7_grow wr (w2.heap.size + 1 + 1) (.int .i64 0) (.int .i64 0) (.int .i64 0) (.string ⟨#[]⟩) (.slice none 0 0) (.slice none 0 0) (.slice none 0 0)) (by omega)
   generalize rset7 wr (w2.heap.size + 1 + 1) (.int .i64 0) (.int .i64 0) (.int .i64 0) (.string ⟨#[]⟩) (.slice none 0 0) (.slice none 0 0) (.slice none 0 0) = wz at *
   have hb' := heap_keep (o := .cells #[.int .i64 12, .slice a tn c] 24) (heap_keep (o := .cells #[.int .i64 k', .int .i64 n', .int .i64 p', .string s', .slice a' l' c'] 30) hb0)
   have hg' := Lf.gbt hg0 (Lf.gbt (Lf.gb (.cells #[.int .i64 k', .int .i64 n', .int .i64 p', .string s', .slice a' l' c'] 30)) (Lf.gb (.cells #[.int .i64 12, .slice a tn c] 24)))
   generalize (wz.alloc (.cells #[.int .i64 k', .int .i64 n', .int .i64 p', .string s', .slice a' l' c'] 30)).alloc (.cells #[.int .i64 12, .slice a tn c] 24) = wf at *
   obtain ⟨z0, z1, z2, z3, z4, z5, z6⟩ := box7 hb'
   rw [HX2.out (by omega)]
   exact bodyPost_ret (v := vaV 0 0 0 ⟨#[]⟩ none 0 0 none 0 0 none 0 0) (by simp [results, Tryz.results30, go_sem, z0, z1, z2, z3, z4, z5, z6, vaV]) rfl ⟨hg', _, rfl, rliesV_zero _ _⟩
  ·have hje : j = m := by omega
   have HI : Hid (VInv w2 wr (.cells #[.int .i64 12, .slice a tn c] 24) (.cells #[.int .i64 nk, .int .i64 n, .int .i64 p, .string s, .slice na m nc] 30) 12 (p - 24) s (.slice la vs.length lc) ([]) vs) := by
    have := hI
    exact this
   obtain ⟨r0, r1, r2, r3, r4, r5, r6⟩ := box7 hI.res
   obtain ⟨y0, y1, y2, y3, y4, y5, y6⟩ := box7f hI.res
   have hj3 : ¬ (j : Int) < (m : Int) := by omega
   have HM := jh hm
   have HJE := jh hje
   have HJL := jh hj
   clear hI hvlen hje
   go_wp2_with fail
   change bodyPost _ _ _ _ _ (rset7 wr (w2.heap.size + 1 + 1) (.int .i64 12) (.int .i64 (p - 24)) (.int .i64 0) (.string s) (.slice la vs.length lc) (.slice none 0 0) (.slice none 0 0))
   have hb' := rset7_block HI.out.res (.int .i64 12) (.int .i64 (p - 24)) (.int .i64 0) (.string s) (.slice la vs.length lc) (.slice none 0 0) (.slice none 0 0)
   have hgs := rset7_grow wr (w2.heap.size + 1 + 1) (.int .i64 12) (.int .i64 (p - 24)) (.int .i64 0) (.string s) (.slice la vs.length lc) (.slice none 0 0) (.slice none 0 0)
   have hg' := grow_new HI.out.grown hgs (by omega)
   generalize rset7 wr (w2.heap.size + 1 + 1) (.int .i64 12) (.int .i64 (p - 24)) (.int .i64 0) (.string s) (.slice la vs.length lc) (.slice none 0 0) (.slice none 0 0) = wf at *
   obtain ⟨z0, z1, z2, z3, z4, z5, z6⟩ := box7 hb'
   rw [HX1.out (by have h1 := HJE.out; have h2 := HJL.out; omega)]
   refine bodyPost_ret (v := vaV 12 (p - 24) 0 s la vs.length lc none 0 0 none 0 0) (by simp [results, Tryz.results30, go_sem, z0, z1, z2, z3, z4, z5, z6, vaV]) rfl ⟨hg', _, rfl, ?_⟩
   exact HI.out.lies hgs ⟨by decide, by decide⟩ HIN.out HS.out (by have := HM.out; simp [maxLen] <;> omega) rfl
theorem rguess_2 {w2 : World} {nk n : Int} {s : ByteArray} {na : Option Addr} {nc c m : Nat} {X : Va} {p : Int} {a : Option Addr} {tn : Nat} {NV : Nat -> Value} (hm : m <= 300) (hs : s.size <= maxLen) (iN : I64 (22 - p)) (HC : Hid (∀ j, j < m -> NodeAt (fun _ => True) w2 na j (NV j))) (hX1 : m = 0 -> X = .mk 2 (22 - p) 0 s [] [] []) (hX2 : ¬ m = 0 -> X = zeroVa) (hp : 0 <= p /\ p <= 95) :
 Calls Tryz.prog 30 #[.agg #[.int .i64 2, .slice a tn c], .agg #[.int .i64 nk, .int .i64 n, .int .i64 p, .string s, .slice na m nc]] w2 (GuessPost (X) w2) := by
 have HX1 := jh hX1
 have HX2 := jh hX2
 clear hX1 hX2
 have HI0 := jh (vw0_inv w2 (.cells #[.int .i64 2, .slice a tn c] 24) (.cells #[.int .i64 nk, .int .i64 n, .int .i64 p, .string s, .slice na m nc] 30) 2 (22 - p) s)
 have HS := jh hs
 have HIN := jh iN
 clear hs iN
 have hw : IntKind.i64.wrap (22 - p) = 22 - p := wrap_small (by omega) (by omega)
 have hw2 : wrap64 (22 - p) = 22 - p := by unfold wrap64; omega
 go_enter Tryz.func30, Tryz.ntmps30
 go_wp2_with fail
 go_loopw [33] (fun i wr => ∃ (j : Nat) (lv : Value) (vs : List Value), j <= 0 /\ i = .int .i64 j /\ VInv w2 wr (.cells #[.int .i64 2, .slice a tn c] 24) (.cells #[.int .i64 nk, .int .i64 n, .int .i64 p, .string s, .slice na m nc] 30) 2 (22 - p) s lv ([]) vs) (fun i _ => m - (intOf i).toNat)
 case atStart => exact ⟨0, _, _, Nat.zero_le _, rfl, HI0.out⟩
 case round =>
  obtain ⟨j, lv, vs, hj, rfl, hI⟩ := hrel
  have hlv : ∃ la lc, lv = .slice la vs.length lc := by
   have hq := hI.list.len
   obtain ⟨la, lc, _, h, _, _⟩ := hI.list.done (by simp [maxLen] <;> omega)
   exact ⟨la, lc, by rw [h, hq]⟩
  obtain ⟨la, lc, rfl⟩ := hlv
  have hvlen : vs.length = 0 := hI.list.len.trans (by simp)
  have hvl : vs.length <= 100000000000 := by omega
  obtain ⟨b0, b1, b2, b3, b4, b5, b6⟩ := box7 hI.blk
  have q0 := cell0_of hI.tb
  have q1 := cell1_of hI.tb
  have lt0 := lt_blk hI.tb
  have ltn := lt_blk hI.nb
  have lb : w2.heap.size + 1 + 1 + 1 < wr.heap.size := lt_blk hI.blk
  have lb1 : w2.heap.size + 1 + 1 + 1 < wr.heap.size + 1 := by omega
  have lt1 : w2.heap.size < wr.heap.size + 1 := by omega
  have ltn1 : w2.heap.size + 1 < wr.heap.size + 1 := by omega
  by_cases hlt : j < m
  ·obtain ⟨b, o, rfl, _, k', n', p', s', a', l', c', hv, e0, e1, e2, e3, e4⟩ := (HC.out j hlt).same (sameAll hI.grown)
   have w1 : (j : Int) < (m : Int) := by omega
   obtain ⟨r0, r1, r2, r3, r4, r5, r6⟩ := box7 hI.res
   obtain ⟨y0, y1, y2, y3, y4, y5, y6⟩ := box7f hI.res
   have lr := lt_blk hI.res
   have HIZ := jh hI
   clear hI hv hvlen
   go_wp2_with fail
   change bodyPost _ _ _ _ _ (((rset7 wr (w2.heap.size + 1 + 1) (.int .i64 0) (.int .i64 0) (.int .i64 0) (.string ⟨#[]⟩) (.slice none 0 0) (.slice none 0 0) (.slice none 0 0)).alloc (.cells #[.int .i64 k', .int .i64 n', .int .i64 p', .string s', .slice a' l' c'] 30)).alloc (.cells #[.int .i64 2, .slice a tn c] 24))
   have hb0 := rset7_block HIZ.out.res (.int .i64 0) (.int .i64 0) (.int .i64 0) (.string ⟨#[]⟩) (.slice none 0 0) (.slice none 0 0) (.slice none 0 0)
   have hg0 := grow_new HIZ.out.grown (rset7_grow wr (w2.heap.size + 1 + 1) (.int .i64 0) (.int .i64 0) (.int .i64 0) (.string ⟨#[]⟩) (.slice none 0 0) (.slice none 0 0) (.slice none 0 0)) (by omega)
   generalize rset7 wr (w2.heap.size + 1 + 1) (.int .i64 0) (.int .i64 0) (.int .i64 0) (.string ⟨#[]⟩) (.slice none 0 0) (.slice none 0 0) (.slice none 0 0) = wz at *
   have hb' := heap_keep (o := .cells #[.int .i64 2, .slice a tn c] 24) (heap_keep (o := .cells #[.int .i64 k', .int .i64 n', .int .i64 p', .string s', .slice a' l' c'] 30) hb0)
   have hg' := Lf.gbt hg0 (Lf.gbt (Lf.gb (.cells #[.int .i64 k', .int .i64 n', .int .i64 p', .string s', .slice a' l' c'] 30)) (Lf.gb (.cells #[.int .i64 2, .slice a tn c] 24)))
   generalize (wz.alloc (.cells #[.int .i64 k', .int .i64 n', .int .i64 p', .string s', .slice a' l' c'] 30)).alloc (.cells #[.int .i64 2, .slice a tn c] 24) = wf at *
   obtain ⟨z0, z1, z2, z3, z4, z5, z6⟩ := box7 hb'
   rw [HX2.out (by omega)]
   exact bodyPost_ret (v := vaV 0 0 0 ⟨#[]⟩ none 0 0 none 0 0 none 0 0) (by simp [results, Tryz.results30, go_sem, z0, z1, z2, z3, z4, z5, z6, vaV]) rfl ⟨hg', _, rfl, rliesV_zero _ _⟩
  ·have hje : j = m := by omega
   have HI : Hid (VInv w2 wr (.cells #[.int .i64 2, .slice a tn c] 24) (.cells #[.int .i64 nk, .int .i64 n, .int .i64 p, .string s, .slice na m nc] 30) 2 (22 - p) s (.slice la vs.length lc) ([]) vs) := by
    have := hI
    exact this
   obtain ⟨r0, r1, r2, r3, r4, r5, r6⟩ := box7 hI.res
   obtain ⟨y0, y1, y2, y3, y4, y5, y6⟩ := box7f hI.res
   have hj3 : ¬ (j : Int) < (m : Int) := by omega
   have HM := jh hm
   have HJE := jh hje
   have HJL := jh hj
   clear hI hvlen hje
   go_wp2_with fail
   change bodyPost _ _ _ _ _ (rset7 wr (w2.heap.size + 1 + 1) (.int .i64 2) (.int .i64 (22 - p)) (.int .i64 0) (.string s) (.slice la vs.length lc) (.slice none 0 0) (.slice none 0 0))
   have hb' := rset7_block HI.out.res (.int .i64 2) (.int .i64 (22 - p)) (.int .i64 0) (.string s) (.slice la vs.length lc) (.slice none 0 0) (.slice none 0 0)
   have hgs := rset7_grow wr (w2.heap.size + 1 + 1) (.int .i64 2) (.int .i64 (22 - p)) (.int .i64 0) (.string s) (.slice la vs.length lc) (.slice none 0 0) (.slice none 0 0)
   have hg' := grow_new HI.out.grown hgs (by omega)
   generalize rset7 wr (w2.heap.size + 1 + 1) (.int .i64 2) (.int .i64 (22 - p)) (.int .i64 0) (.string s) (.slice la vs.length lc) (.slice none 0 0) (.slice none 0 0) = wf at *
   obtain ⟨z0, z1, z2, z3, z4, z5, z6⟩ := box7 hb'
   rw [HX1.out (by have h1 := HJE.out; have h2 := HJL.out; omega)]
   refine bodyPost_ret (v := vaV 2 (22 - p) 0 s la vs.length lc none 0 0 none 0 0) (by simp [results, Tryz.results30, go_sem, z0, z1, z2, z3, z4, z5, z6, vaV]) rfl ⟨hg', _, rfl, ?_⟩
   exact HI.out.lies hgs ⟨by decide, by decide⟩ HIN.out HS.out (by have := HM.out; simp [maxLen] <;> omega) rfl
theorem rguess_Z {w2 : World} {nk n : Int} {s : ByteArray} {na : Option Addr} {nc c m : Nat} {X : Va} {p : Int} {a : Option Addr} {tn : Nat} {NV : Nat -> Value} {tt : Int} (hm : m <= 300) (hs : s.size <= maxLen) (iN : I64 (n)) (HC : Hid (∀ j, j < m -> NodeAt (fun _ => True) w2 na j (NV j))) (hX1 : m = 0 -> X = .mk tt n 0 s [] [] []) (hX2 : ¬ m = 0 -> X = zeroVa) (it : I64 tt) (ht : ¬ (tt = 2 \/ tt = 9 \/ tt = 10 \/ tt = 11 \/ tt = 12 \/ tt = 13)) :
 Calls Tryz.prog 30 #[.agg #[.int .i64 tt, .slice a tn c], .agg #[.int .i64 nk, .int .i64 n, .int .i64 p, .string s, .slice na m nc]] w2 (GuessPost (X) w2) := by
 have HX1 := jh hX1
 have HX2 := jh hX2
 clear hX1 hX2
 have HI0 := jh (vw0_inv w2 (.cells #[.int .i64 tt, .slice a tn c] 24) (.cells #[.int .i64 nk, .int .i64 n, .int .i64 p, .string s, .slice na m nc] 30) tt (n) s)
 have HS := jh hs
 have HIN := jh iN
 clear hs iN
 have HIK := jh it
 clear it
 have g2 : (tt == 2) = false := by simp; omega
 have g9 : (tt == 9) = false := by simp; omega
 have g10 : (tt == 10) = false := by simp; omega
 have g11 : (tt == 11) = false := by simp; omega
 have g12 : (tt == 12) = false := by simp; omega
 have g13 : (tt == 13) = false := by simp; omega
 clear ht
 go_enter Tryz.func30, Tryz.ntmps30
 go_wp2_with fail
 go_loopw [33] (fun i wr => ∃ (j : Nat) (lv : Value) (vs : List Value), j <= 0 /\ i = .int .i64 j /\ VInv w2 wr (.cells #[.int .i64 tt, .slice a tn c] 24) (.cells #[.int .i64 nk, .int .i64 n, .int .i64 p, .string s, .slice na m nc] 30) tt (n) s lv ([]) vs) (fun i _ => m - (intOf i).toNat)
 case atStart => exact ⟨0, _, _, Nat.zero_le _, rfl, HI0.out⟩
 case round =>
  obtain ⟨j, lv, vs, hj, rfl, hI⟩ := hrel
  have hlv : ∃ la lc, lv = .slice la vs.length lc := by
   have hq := hI.list.len
   obtain ⟨la, lc, _, h, _, _⟩ := hI.list.done (by simp [maxLen] <;> omega)
   exact ⟨la, lc, by rw [h, hq]⟩
  obtain ⟨la, lc, rfl⟩ := hlv
  have hvlen : vs.length = 0 := hI.list.len.trans (by simp)
  have hvl : vs.length <= 100000000000 := by omega
  obtain ⟨b0, b1, b2, b3, b4, b5, b6⟩ := box7 hI.blk
  have q0 := cell0_of hI.tb
  have q1 := cell1_of hI.tb
  have lt0 := lt_blk hI.tb
  have ltn := lt_blk hI.nb
  have lb : w2.heap.size + 1 + 1 + 1 < wr.heap.size := lt_blk hI.blk
  have lb1 : w2.heap.size + 1 + 1 + 1 < wr.heap.size + 1 := by omega
  have lt1 : w2.heap.size < wr.heap.size + 1 := by omega
  have ltn1 : w2.heap.size + 1 < wr.heap.size + 1 := by omega
  by_cases hlt : j < m
  ·obtain ⟨b, o, rfl, _, k', n', p', s', a', l', c', hv, e0, e1, e2, e3, e4⟩ := (HC.out j hlt).same (sameAll hI.grown)
   have w1 : (j : Int) < (m : Int) := by omega
   obtain ⟨r0, r1, r2, r3, r4, r5, r6⟩ := box7 hI.res
   obtain ⟨y0, y1, y2, y3, y4, y5, y6⟩ := box7f hI.res
   have lr := lt_blk hI.res
   have HIZ := jh hI
   clear hI hv hvlen
   go_wp2_with fail
   change bodyPost _ _ _ _ _ (((rset7 wr (w2.heap.size + 1 + 1) (.int .i64 0) (.int .i64 0) (.int .i64 0) (.string ⟨#[]⟩) (.slice none 0 0) (.slice none 0 0) (.slice none 0 0)).alloc (.cells #[.int .i64 k', .int .i64 n', .int .i64 p', .string s', .slice a' l' c'] 30)).alloc (.cells #[.int .i64 tt, .slice a tn c] 24))
   have hb0 := rset7_block HIZ.out.res (.int .i64 0) (.int .i64 0) (.int .i64 0) (.string ⟨#[]⟩) (.slice none 0 0) (.slice none 0 0) (.slice none 0 0)
   have hg0 := grow_new HIZ.out.grown (rset7_grow wr (w2.heap.size + 1 + 1) (.int .i64 0) (.int .i64 0) (.int .i64 0) (.string ⟨#[]⟩) (.slice none 0 0) (.slice none 0 0) (.slice none 0 0)) (by omega)
   generalize rset7 wr (w2.heap.size + 1 + 1) (.int .i64 0) (.int .i64 0) (.int .i64 0) (.string ⟨#[]⟩) (.slice none 0 0) (.slice none 0 0) (.slice none 0 0) = wz at *
   have hb' := heap_keep (o := .cells #[.int .i64 tt, .slice a tn c] 24) (heap_keep (o := .cells #[.int .i64 k', .int .i64 n', .int .i64 p', .string s', .slice a' l' c'] 30) hb0)
   have hg' := Lf.gbt hg0 (Lf.gbt (Lf.gb (.cells #[.int .i64 k', .int .i64 n', .int .i64 p', .string s', .slice a' l' c'] 30)) (Lf.gb (.cells #[.int .i64 tt, .slice a tn c] 24)))
   generalize (wz.alloc (.cells #[.int .i64 k', .int .i64 n', .int .i64 p', .string s', .slice a' l' c'] 30)).alloc (.cells #[.int .i64 tt, .slice a tn c] 24) = wf at *
   obtain ⟨z0, z1, z2, z3, z4, z5, z6⟩ := box7 hb'
   rw [HX2.out (by omega)]
   exact bodyPost_ret (v := vaV 0 0 0 ⟨#[]⟩ none 0 0 none 0 0 none 0 0) (by simp [results, Tryz.results30, go_sem, z0, z1, z2, z3, z4, z5, z6, vaV]) rfl ⟨hg', _, rfl, rliesV_zero _ _⟩
  ·have hje : j = m := by omega
   have HI : Hid (VInv w2 wr (.cells #[.int .i64 tt, .slice a tn c] 24) (.cells #[.int .i64 nk, .int .i64 n, .int .i64 p, .string s, .slice na m nc] 30) tt (n) s (.slice la vs.length lc) ([]) vs) := by
    have := hI
    exact this
   obtain ⟨r0, r1, r2, r3, r4, r5, r6⟩ := box7 hI.res
   obtain ⟨y0, y1, y2, y3, y4, y5, y6⟩ := box7f hI.res
   have hj3 : ¬ (j : Int) < (m : Int) := by omega
   have HM := jh hm
   have HJE := jh hje
   have HJL := jh hj
   clear hI hvlen hje
   go_wp2_with fail
   change bodyPost _ _ _ _ _ (rset7 wr (w2.heap.size + 1 + 1) (.int .i64 tt) (.int .i64 (n)) (.int .i64 0) (.string s) (.slice la vs.length lc) (.slice none 0 0) (.slice none 0 0))
   have hb' := rset7_block HI.out.res (.int .i64 tt) (.int .i64 (n)) (.int .i64 0) (.string s) (.slice la vs.length lc) (.slice none 0 0) (.slice none 0 0)
   have hgs := rset7_grow wr (w2.heap.size + 1 + 1) (.int .i64 tt) (.int .i64 (n)) (.int .i64 0) (.string s) (.slice la vs.length lc) (.slice none 0 0) (.slice none 0 0)
   have hg' := grow_new HI.out.grown hgs (by omega)
   generalize rset7 wr (w2.heap.size + 1 + 1) (.int .i64 tt) (.int .i64 (n)) (.int .i64 0) (.string s) (.slice la vs.length lc) (.slice none 0 0) (.slice none 0 0) = wf at *
   obtain ⟨z0, z1, z2, z3, z4, z5, z6⟩ := box7 hb'
   rw [HX1.out (by have h1 := HJE.out; have h2 := HJL.out; omega)]
   refine bodyPost_ret (v := vaV tt (n) 0 s la vs.length lc none 0 0 none 0 0) (by simp [results, Tryz.results30, go_sem, z0, z1, z2, z3, z4, z5, z6, vaV]) rfl ⟨hg', _, rfl, ?_⟩
   exact HI.out.lies hgs HIK.out HIN.out HS.out (by have := HM.out; simp [maxLen] <;> omega) rfl
end Go.Proofs.YthjpngaapflclacGreat
