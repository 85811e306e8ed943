import Derived.Test.YtfakmokbccnamaaGreatCkStep
import Derived.Test.YtfakmokbccnamaaGreatCkCode
import Derived.Test.YtfakmokbccnamaaGreatZi
import Derived.Test.YtfakmokbccnamaaGreatZm
import Derived.Test.YtfakmokbccnamaaGreatCkTwo
namespace Go.Proofs.YtfakmokbccnamaaGreat
set_option maxRecDepth 100000
set_option maxHeartbeats 4000000
open Go.ChangeShapes Go.WideShapes Go.ChangeAt Go.RowKit
set_option linter.unusedVariables false
set_option linter.unusedSimpArgs false
theorem code_all {W : World} {n : Tr} {u : Value} {s : List Ty} {sa : Option Addr} {sl sc : Nat} (hL : Lies (fun _ => True) W n u) (hs : RowC W s (.slice sa sl sc)) (hz : n.size <= 4611686018427387903) :
 Calls Tryz.prog 4 #[u, .slice sa sl sc] W (LPq (codeF n s) W) :=
 code_any hL hs hz (fun t v W2 s2 a2 l2 c2 h1 h2 h3 h4 h5 => step_all 300 (Nat.le_refl _) t v W2 s2 a2 l2 c2 h1 h2 h3 (by omega) h5)
theorem seq_any (a : Option Addr) (l c : Nat) (W : World) : Calls Tryz.prog 14 #[.slice a l c] W fun e w' => e = .returned (nodeV 3 0 0 ⟨#[]⟩ a l c) /\ W.grownBy w' none := by
 go_enter Tryz.func14, Tryz.ntmps14
 go_wp2_with fail
 have hb := heap_alloc_new W (.cells #[.int .i64 3, .int .i64 0, .int .i64 0, .string ⟨#[]⟩, .slice a l c] 24)
 have HG := jh (gBq (w := W) (.cells #[.int .i64 3, .int .i64 0, .int .i64 0, .string ⟨#[]⟩, .slice a l c] 24))
 generalize W.alloc (.cells #[.int .i64 3, .int .i64 0, .int .i64 0, .string ⟨#[]⟩, .slice a l c] 24) = wf at *
 obtain ⟨z0, z1, z2, z3, z4⟩ := box5 hb
 exact bodyPost_ret (v := nodeV 3 0 0 ⟨#[]⟩ a l c) (by simp [results, Tryz.results14, go_sem, z0, z1, z2, z3, z4, nodeV]) rfl ⟨rfl, HG.out⟩
def dropTr : Tr := .nd 3 0 0 ⟨#[]⟩ [.nd 2 0 40 ⟨#[]⟩ []]
theorem drop_code : codeF dropTr [.nd 4 [], .nd 2 []] = .ok false [.nd 2 []] := by
 unfold codeF dropTr
 rw [if_neg (by decide), if_neg (by decide), if_neg (by decide), if_pos (by decide)]
 rfl
theorem drop_lies {w : World} {b : Nat} {T : TypeId} (h : w.heap[b]? = some (.cells #[.int .i64 2, .int .i64 0, .int .i64 40, .string ⟨#[]⟩, .slice none 0 0] T (0, 0))) : Lies (fun _ => True) w dropTr (nodeV 3 0 0 ⟨#[]⟩ (some ⟨b, 0, none⟩) 1 1) := by
 obtain ⟨z0, z1, z2, z3, z4⟩ := box5 h
 refine Lies.mk (args := [.nd 2 0 40 ⟨#[]⟩ []]) (fun _ => nodeV 2 0 40 ⟨#[]⟩ none 0 0) (by simp [maxLen]) (Nat.zero_le _) ⟨by decide, by decide⟩ ⟨by decide, by decide⟩ ⟨by decide, by decide⟩ (fun i hi => ?_) (fun i hi => ?_)
 ·obtain rfl : i = 0 := by simpa using hi
  exact ⟨b, 0, rfl, trivial, 2, 0, 40, ⟨#[]⟩, none, 0, 0, rfl, z0, z1, z2, z3, z4⟩
 ·obtain rfl : i = 0 := by simpa using hi
  exact Lies.mk (fun _ => .int .i64 0) (by simp [maxLen]) (Nat.zero_le _) ⟨by decide, by decide⟩ ⟨by decide, by decide⟩ ⟨by decide, by decide⟩ (fun i hi => by simp at hi) (fun i hi => by simp at hi)
theorem leaf_lies (w : World) (t : Int) (it : I64 t) : LiesT (fun _ => True) w (.nd t []) (tyV t none 0 0) := LiesT.oq it (RowC.nil _ none 0)
theorem checks_any (W : World) : Calls Tryz.prog 6 #[] W fun e w' => e = .returned (.bool true) /\ W.grownBy w' none := by
 have HB := jh (heap_alloc_new W (.cells #[.int .i64 2, .int .i64 0, .int .i64 40, .string ⟨#[]⟩, .slice none 0 0] 24))
 have HG := jh (gBq (w := W) (.cells #[.int .i64 2, .int .i64 0, .int .i64 40, .string ⟨#[]⟩, .slice none 0 0] 24))
 go_enter Tryz.func6, Tryz.ntmps6
 go_wp2_with fail
 refine (seq_any _ _ _ _).mono ?_; rintro e w1 ⟨rfl, hg⟩
 have HL := jh (drop_lies (kBq HB.out hg))
 replace HG := gCq HG hg
 have hga := gBq (w := w1) (.cells #[.int .i64 4, .slice none 0 0, .int .i64 2, .slice none 0 0] 42)
 have HC := jh (code_all (HL.out.same (sAl hga)) (RowC.two (heap_alloc_new w1 (.cells #[.int .i64 4, .slice none 0 0, .int .i64 2, .slice none 0 0] 42)) (leaf_lies _ 4 ⟨by decide, by decide⟩) (leaf_lies _ 2 ⟨by decide, by decide⟩)) (by simp [dropTr, Tr.size, sizes]))
 rw [drop_code] at HC
 replace HG := jh (gTq HG.out hga)
 clear hg hga HB HL
 unfold nodeV at HC ⊢
 go_wp2_with fail
 refine HC.out.mono ?_; rintro e w2 ⟨hg, hcase⟩
 rcases hcase with ⟨er, h, _⟩ | ⟨f, ts, a, l, c, h, rfl, hr⟩
 ·cases h
 simp only [Led.ok.injEq] at h
 obtain ⟨rfl, rfl⟩ := h
 obtain ⟨rfl, _, _⟩ := hr.len
 obtain ⟨b, o, t0, a0, l0, k0, rfl, x0, x1, hA⟩ := hr.at 0 (by simp)
 obtain ⟨e0, _⟩ := hA.args
 have ht : t0 = 2 := e0.symm
 subst ht
 simp only [Nat.mul_zero, Nat.add_zero, Nat.zero_add, List.length_singleton] at x0 x1 ⊢
 replace HG := gCq HG hg
 have hga := gBq (w := w2) (.cells #[.slice (some ⟨b, o, none⟩) 1 c, .bool false] 27)
 have hb := heap_alloc_new w2 (.cells #[.slice (some ⟨b, o, none⟩) 1 c, .bool false] 27)
 replace x0 := kNq hga x0
 have z0 := c0q hb
 have z1 := c1q hb
 replace HG := jh (gTq HG.out hga)
 clear hg hga hb HC hr hA e0 x1
 go_wp2_with fail
 go_ret
 exact ⟨rfl, HG.out⟩
def LedCut (r : Led) (W : World) (pv qv : Value) (wx : World) : Prop :=
 ∃ (bp : Nat) (a : Option Addr) (l c : Nat) (f : Bool) (er : Int), pv = .pointer (some ⟨bp, 0, none⟩) /\ qv = .int .i64 er /\ wx.heap[bp]? = some (.cells #[.slice a l c, .bool f] 27 (0, 0)) /\ W.grownBy wx none /\ W.heap.size <= bp /\ LedIs wx r a l c f er
theorem ledCut_one {r : Led} {W w : World} {a : Option Addr} {l c : Nat} {f : Bool} {er : Int} (hg : W.grownBy w none) (h : LedIs w r a l c f er) : LedCut r W (.pointer (some ⟨w.heap.size, 0, none⟩)) (.int .i64 er) (w.alloc (.cells #[.slice a l c, .bool f] 27)) :=
 ⟨_, a, l, c, f, er, rfl, rfl, heap_alloc_new _ _, gTq hg (gBq _), hg.size, h.grow (gBq _)⟩
theorem ledCut_two {r : Led} {W w : World} {a : Option Addr} {l c H : Nat} {f : Bool} {er : Int} (hg : W.grownBy w none) (h : LedIs w r a l c f er) (hH : W.heap.size <= H) (hb : w.heap[H]? = some (.cells #[.slice none 0 0, .bool false] 27 (0, 0))) : LedCut r W (.pointer (some ⟨H, 0, none⟩)) (.int .i64 er) (set2 w H (.slice a l c) (.bool f)) := by
 refine ⟨_, a, l, c, f, er, rfl, rfl, set2_block hb _ _, grow_set2 hg hH _ _, hH, ?_⟩
 rcases h with h | ⟨ts, h1, h2, h3⟩
 ·exact .inl h
 ·exact .inr ⟨ts, h1, h2, h3.set hb _ _⟩
theorem CatOk.alloc {W w : World} {v : Value} {ts : List Ty} {vs : List Value} (h : CatOk W w v ts vs) (o : Obj) : CatOk W (w.alloc o) v ts vs := ⟨World.ownsRow.alloc h.own o, h.len, h.lies⟩
theorem step_more {W3 w1 : World} {v1 : Value} {s m : List Ty} {vs : List Value} {ma : Option Addr} {ml mc : Nat} (hK : CatOk W3 w1 v1 s vs) (hM : RowC W3 m (.slice ma ml mc)) (hg : W3.grownBy w1 none) (hn : s.length + m.length <= 4000000000)
 {ops : Array Oper} {o : Oper} {a : Act} {K : Act -> World -> Prop} {Q : Exit -> Act -> World -> Prop} {E : Prop} (hgd : o.guard = none) (sx x : Operand) (ho : o.op = .call { callee := .builtin .append, args := #[sx, x], argTypes := #[25, 25] }) (hs : a.eval sx = v1) (hx : a.eval x = .slice ma ml mc)
 (h : ∀ v' w', RowC w' (s ++ m) v' -> W3.grownBy w' none -> w1.grownBy w' v1.ownBlock -> K (a.put o.dst v') w') :
 if Region.wanted o (yielded ops a.tmps) = true then Oper.wp Tryz.prog o a w1 K Q else E := by
 obtain ⟨xa, xc, VX, ex, hxc, hrx⟩ := hM
 simp only [Value.slice.injEq] at ex
 obtain ⟨rfl, rfl, rfl⟩ := ex
 obtain ⟨ns, n1, n2, n3, n4, n5⟩ := hrx.src mc
 have hl := hK.len
 refine step_app hgd sx x 25 ho W3.heap.size 42 Tryz.underlying25 info_ty rfl (by decide) v1 vs.length (flatT vs) hs hK.own _ m.length (flatT ns) hx n3 (n2.grow hg) n4 (by unfold maxLen; omega) (by omega) hg.size ?_
 intro v' w' hown hgr _
 have hg2 : W3.grownBy w' none := grow_own hg hK.own (Nat.le_refl _) hgr.1
 have hK2 := hK.more (v' := v') (w' := w') (ns := ns) (us := m) (by unfold OTq; rw [flatT_append, List.length_append, n1]; exact hown) n1 n5
 exact h v' w' (hK2.done hg2) hg2 hgr.1
theorem step_more2 {W3 w1 : World} {v1 : Value} {s m : List Ty} {vs : List Value} {ma : Option Addr} {ml mc : Nat} (hK : CatOk W3 w1 v1 s vs) (hM : RowC W3 m (.slice ma ml mc)) (hg : W3.grownBy w1 none) (hn : s.length + m.length <= 4000000000)
 {ops : Array Oper} {o : Oper} {a : Act} {K : Act -> World -> Prop} {Q : Exit -> Act -> World -> Prop} {E : Prop} (hw : Region.wanted o (yielded ops a.tmps) = true) (sx x : Operand) (ho : o.op = .call { callee := .builtin .append, args := #[sx, x], argTypes := #[25, 25] }) (hs : a.eval sx = v1) (hx : a.eval x = .slice ma ml mc)
 (h : ∀ v' w', RowC w' (s ++ m) v' -> W3.grownBy w' none -> w1.grownBy w' v1.ownBlock -> K (a.put o.dst v') w') :
 if Region.wanted o (yielded ops a.tmps) = true then Oper.wp Tryz.prog o a w1 K Q else E := by
 obtain ⟨xa, xc, VX, ex, hxc, hrx⟩ := hM
 simp only [Value.slice.injEq] at ex
 obtain ⟨rfl, rfl, rfl⟩ := ex
 obtain ⟨ns, n1, n2, n3, n4, n5⟩ := hrx.src mc
 have hl := hK.len
 rw [if_pos hw]
 obtain ⟨i0, hi, hz0, hz1, hz2⟩ := info_parts info_ty
 refine wp_app sx x 25 ho W3.heap.size 42 i0 _ 2 32 Tryz.underlying25 hi hz0 hz1 hz2 rfl (by decide) v1 vs.length (flatT vs) hs hK.own _ m.length (flatT ns) hx n3 (n2.grow hg) n4 (by unfold maxLen; omega) (by omega) hg.size ?_
 intro v' w' hown hgr _
 have hg2 : W3.grownBy w' none := grow_own hg hK.own (Nat.le_refl _) hgr.1
 have hK2 := hK.more (v' := v') (w' := w') (ns := ns) (us := m) (by unfold OTq; rw [flatT_append, List.length_append, n1]; exact hown) n1 n5
 exact h v' w' (hK2.done hg2) hg2 hgr.1
theorem sameT_refl2 : ∀ (n : Nat) (T : Ty), T.size <= n -> sameT T T = true := by
 intro n
 induction n with
 | zero => intro T h; have : 1 <= T.size := by { cases T; simp [Ty.size] }; omega
 | succ n ih =>
  intro T h
  obtain ⟨t, args⟩ := T
  simp only [Ty.size] at h
  simp only [sameT, decide_true, Bool.true_and]
  have key : ∀ (l : List Ty), tysizes l <= n -> sameTs l l = true := by
   intro l
   induction l with
   | nil => intro _; rfl
   | cons x l ih2 =>
    intro hl
    simp only [tysizes] at hl
    simp only [sameTs, Bool.and_eq_true]
    exact ⟨ih x (by omega), ih2 (by omega)⟩
  exact key args (by omega)
theorem sameTs_refl2 (l : List Ty) : sameTs l l = true := by
 induction l with
 | nil => rfl
 | cons x l ih => simp only [sameTs, Bool.and_eq_true]; exact ⟨sameT_refl2 _ x (Nat.le_refl _), ih⟩
theorem tysizes_app : ∀ (a b : List Ty), tysizes (a ++ b) = tysizes a + tysizes b
 | [], b => by simp [tysizes]
 | x :: a, b => by simp only [List.cons_append, tysizes, tysizes_app a b]; omega
theorem frameWalk1 {W : World} {n : Tr} {na : Option Addr} {nc : Nat} {s m : List Ty} {sa ma : Option Addr} {sl sc ml mc k : Nat} (hL : Lies (fun _ => True) W n (nodeV n.k0 n.n0 n.p0 n.s0 na n.args0.length nc)) (hs : RowC W s (.slice sa sl sc)) (hm : RowC W m (.slice ma k mc)) (hz : n.size <= 2000000) (hzs : s.length <= 2000000) (hzm : m.length <= 6) (hzt : tysizes m <= 2000000)
 (hk : (k = ml /\ ¬ (ml : Int) > 6) \/ (k = 6 /\ (ml : Int) > 6 /\ (6 : Int) <= (mc : Int))) :
 Calls Tryz.prog 3 #[nodeV n.k0 n.n0 n.p0 n.s0 na n.args0.length nc, .slice sa sl sc, .slice ma ml mc] W fun e w' => e = .returned (.bool true) /\ W.grownBy w' none := by
 unfold nodeV at hL ⊢
 have hgn := gBq (w := W) (.cells #[.int .i64 n.k0, .int .i64 n.n0, .int .i64 n.p0, .string n.s0, .slice na n.args0.length nc] 24)
 have hbn := heap_alloc_new W (.cells #[.int .i64 n.k0, .int .i64 n.n0, .int .i64 n.p0, .string n.s0, .slice na n.args0.length nc] 24)
 obtain ⟨m0, m1, m2, m3, m4⟩ := box5 hbn
 have HL := jh (hL.same (sAl hgn))
 have HS := jh (hs.grow hgn)
 have HM := jh (hm.grow hgn)
 have HG := jh hgn
 clear hL hs hm hgn hbn
 rcases hk with ⟨rfl, h6⟩ | ⟨rfl, h6, h7⟩
 all_goals
  go_enter Tryz.func3, Tryz.ntmps3
  go_wp2_with fail
  generalize W.alloc _ = W2 at *
  have HTY : Hid (∀ W3, W2.grownBy W3 none -> Calls Tryz.prog 5 #[.slice sa sl sc] W3 fun e w' => ∃ v, e = .returned v /\ (∃ vs, CatOk W3 w' v s vs) /\ RowC w' s v /\ W3.grownBy w' none) := fun W3 h => types_any (HS.out.grow h) (by omega)
  have y0 : ∀ w', W2.grownBy w' none -> w'.cell? ⟨W.heap.size, 0, none⟩ = some (.int .i64 n.k0) := fun w' h => kNq h m0
  have y1 : ∀ w', W2.grownBy w' none -> w'.cell? ⟨W.heap.size, 1, none⟩ = some (.int .i64 n.n0) := fun w' h => kNq h m1
  have y2 : ∀ w', W2.grownBy w' none -> w'.cell? ⟨W.heap.size, 2, none⟩ = some (.int .i64 n.p0) := fun w' h => kNq h m2
  have y3 : ∀ w', W2.grownBy w' none -> w'.cell? ⟨W.heap.size, 3, none⟩ = some (.string n.s0) := fun w' h => kNq h m3
  have y4 : ∀ w', W2.grownBy w' none -> w'.cell? ⟨W.heap.size, 4, none⟩ = some (.slice na n.args0.length nc) := fun w' h => kNq h m4
  have hS0 : W2.grownBy W2 none := gRf _ _
  go_cut [7, 8] (fun pv qv wx => LedCut (codeF n s) W2 pv qv wx)
  case first =>
   go_region_held3 (fun w' => W2.grownBy w' none) (first | with_reducible assumption | with_reducible exact gDr (gRf _ _) | with_reducible exact grow_set2N (by assumption) (by assumption) | with_reducible exact gTq (by assumption) (gBq _) | with_reducible exact gDr (gBq _)) (first
    | (go_at_call 4; have g0 := HB1.out; have g1 := HR1.out; clear g0 g1; with_reducible refine (code_all (HL.out.same (sAl HG1.out)) HR1.out (by omega)).mono ?_; rintro e w9 hp; obtain ⟨a9, l9, c9, f9, er9, rfl, hg, his⟩ := hp.is; have hb2 := kBq HB1.out hg; have q0 := c0q hb2; have q1 := c1q hb2; have q2 := free2_of hb2; have HB2 := jh hb2; have HIS := jh his; have HG2 := jh (gTq HG1.out hg); have hS2 := HG2.out; have hH2 := HH1.out; clear hp hg his hb2)
    | (go_at_call 4; have g1 := HR1.out; clear g1; with_reducible refine (code_all (HL.out.same (sAl (gTq HG1.out (gBq _)))) (HR1.out.grow (gBq _)) (by omega)).mono ?_; rintro e w9 hp; obtain ⟨a9, l9, c9, f9, er9, rfl, hg, his⟩ := hp.is; have hb2 := kBq (heap_alloc_new w1 (.cells #[.slice none 0 0, .bool false] 27)) hg; have q0 := c0q hb2; have q1 := c1q hb2; have q2 := free2_of hb2; have HB2 := jh hb2; have HIS := jh his; have HG2 := jh (gTq (gTq HG1.out (gBq _)) hg); have hS2 := HG2.out; have hH2 := HG1.out.size; clear hp hg his hb2)
    | (go_at_call 4; have g1 := HR1.out; clear g1; with_reducible refine (code_all (HL.out.same (sAl HG1.out)) HR1.out (by omega)).mono ?_; rintro e w9 hp; obtain ⟨a9, l9, c9, f9, er9, rfl, hg, his⟩ := hp.is; have HIS := jh his; have HG2 := jh (gTq HG1.out hg); have hS2 := HG2.out; clear hp hg his)
    | (go_at_call 5; with_reducible refine (HTY.out (W2.alloc (.cells #[.slice none 0 0, .bool false] 27)).drew (gDr (gBq _))).mono ?_; rintro e w1 ⟨v1, rfl, ⟨vs1, hk1⟩, hr1, hg⟩; obtain ⟨a1, l1, c1, e1⟩ := hr1.form3; subst e1; have HB1 := jh (kBq (heap_alloc_new W2 (.cells #[.slice none 0 0, .bool false] 27)) (undrew hg)); have HH1 : Hid (W2.heap.size <= W2.heap.size) := Nat.le_refl _; have HR1 := jh hr1; have HK1 := jh hk1; have HG0 := jh (gDr (gRf _ _) : (W2.alloc (.cells #[.slice none 0 0, .bool false] 27)).grownBy _ none); have HGK := jh hg; have HG1 := jh (gTq (gDr (gBq _)) hg); have hS1 := HG1.out; clear hr1 hg hk1)
    | (go_at_call 5; with_reducible refine (HTY.out W2.drew (gDr (gRf _ _))).mono ?_; rintro e w1 ⟨v1, rfl, ⟨vs1, hk1⟩, hr1, hg⟩; obtain ⟨a1, l1, c1, e1⟩ := hr1.form3; subst e1; have HR1 := jh hr1; have HK1 := jh hk1; have HGK := jh hg; have HG1 := jh (undrew hg); have hS1 := HG1.out; clear hr1 hg hk1))
   all_goals
    go_wp2_with fail
    go_meet
    first
    | with_reducible exact ledCut_one HG2.out HIS.out
    | exact ledCut_two HG2.out HIS.out hH2 HB2.out
  obtain ⟨bx, ax, lx, cx, fx, ex, rfl, rfl, hbx, hg, _, hisx⟩ := hcut
  replace HG := gCq HG hg
  replace HL := jh (HL.out.same (sAl hg))
  replace HS := jh (HS.out.grow hg)
  replace HM := jh (HM.out.grow hg)
  replace m0 := kNq hg m0
  replace m1 := kNq hg m1
  replace m2 := kNq hg m2
  replace m3 := kNq hg m3
  replace m4 := kNq hg m4
  have HBX := jh hbx
  have HISX := jh hisx
  clear hg hbx hisx hS0 y0 y1 y2 y3 y4 HTY
  generalize hwc : wc = W4 at *
  clear hwc
  have HTY : Hid (∀ W3, W4.grownBy W3 none -> Calls Tryz.prog 5 #[.slice sa sl sc] W3 fun e w' => ∃ v, e = .returned v /\ (∃ vs, CatOk W3 w' v s vs) /\ RowC w' s v /\ W3.grownBy w' none) := fun W3 h => types_any (HS.out.grow h) (by omega)
  have y0 : ∀ w', W4.grownBy w' none -> w'.cell? ⟨W.heap.size, 0, none⟩ = some (.int .i64 n.k0) := fun w' h => kNq h m0
  have y1 : ∀ w', W4.grownBy w' none -> w'.cell? ⟨W.heap.size, 1, none⟩ = some (.int .i64 n.n0) := fun w' h => kNq h m1
  have y2 : ∀ w', W4.grownBy w' none -> w'.cell? ⟨W.heap.size, 2, none⟩ = some (.int .i64 n.p0) := fun w' h => kNq h m2
  have y3 : ∀ w', W4.grownBy w' none -> w'.cell? ⟨W.heap.size, 3, none⟩ = some (.string n.s0) := fun w' h => kNq h m3
  have y4 : ∀ w', W4.grownBy w' none -> w'.cell? ⟨W.heap.size, 4, none⟩ = some (.slice na n.args0.length nc) := fun w' h => kNq h m4
  have hS0 : W4.grownBy W4 none := gRf _ _
  go_wp2_with fail
  go_cut [9, 10] (fun pv qv wx => LedCut (codeF n (s ++ m)) W4 pv qv wx)
  case first =>
   go_region_held3 (fun w' => W4.grownBy w' none) (first | with_reducible assumption | with_reducible exact gDr (gRf _ _) | with_reducible exact grow_set2N (by assumption) (by assumption) | with_reducible exact gTq (by assumption) (gBq _) | with_reducible exact gDr (gBq _)) (first
    | (go_at_call 4; have g0 := HB1.out; have g1 := HR1.out; clear g0 g1; with_reducible refine (code_all (HL.out.same (sAl HG1.out)) HR1.out (by omega)).mono ?_; rintro e w9 hp; obtain ⟨a9, l9, c9, f9, er9, rfl, hg, his⟩ := hp.is; have hb2 := kBq HB1.out hg; have q0 := c0q hb2; have q1 := c1q hb2; have q2 := free2_of hb2; have HB2 := jh hb2; have HIS := jh his; have HG2 := jh (gTq HG1.out hg); have hS2 := HG2.out; have hH2 := HH1.out; clear hp hg his hb2)
    | (go_at_call 4; have g1 := HR1.out; clear g1; with_reducible refine (code_all (HL.out.same (sAl (gTq HG1.out (gBq _)))) (HR1.out.grow (gBq _)) (by omega)).mono ?_; rintro e w9 hp; obtain ⟨a9, l9, c9, f9, er9, rfl, hg, his⟩ := hp.is; have hb2 := kBq (heap_alloc_new w2 (.cells #[.slice none 0 0, .bool false] 27)) hg; have q0 := c0q hb2; have q1 := c1q hb2; have q2 := free2_of hb2; have HB2 := jh hb2; have HIS := jh his; have HG2 := jh (gTq (gTq HG1.out (gBq _)) hg); have hS2 := HG2.out; have hH2 := HG1.out.size; clear hp hg his hb2)
    | (go_at_call 4; have g1 := HR1.out; clear g1; with_reducible refine (code_all (HL.out.same (sAl HG1.out)) HR1.out (by omega)).mono ?_; rintro e w9 hp; obtain ⟨a9, l9, c9, f9, er9, rfl, hg, his⟩ := hp.is; have HIS := jh his; have HG2 := jh (gTq HG1.out hg); have hS2 := HG2.out; clear hp hg his)
    | (have g0 := HB1.out; clear g0; refine step_more HK1.out (HM.out.grow (gDr (gBq _))) HGK.out (by omega) rfl (.tmp 26) (.tmp 27) rfl rfl rfl ?_; intro v2 w2 hr2 hg2 hgo; obtain ⟨a2, l2, c2, e2⟩ := hr2.form3; subst e2; have HR1 := jh hr2; have HB1 := jh (kBq (heap_alloc_new W4 (.cells #[.slice none 0 0, .bool false] 27)) (undrew hg2)); have HG1 := jh (gTq (gDr (gBq _)) hg2); have hS2 := HG1.out; clear hr2 hg2 hgo)
    | (refine step_more HK1.out (HM.out.grow (gDr (gRf _ _))) HGK.out (by omega) rfl (.tmp 26) (.tmp 27) rfl rfl rfl ?_; intro v2 w2 hr2 hg2 hgo; obtain ⟨a2, l2, c2, e2⟩ := hr2.form3; subst e2; have HR1 := jh hr2; have HG1 := jh (undrew hg2); have hS2 := HG1.out; clear hr2 hg2 hgo)
    | (refine step_more (HK1.out.alloc _) (HM.out.grow (gDr (gRf _ _))) (gTq HGK.out (gBq _)) (by omega) rfl (.tmp 26) (.tmp 27) rfl rfl rfl ?_; intro v2 w2 hr2 hg2 hgo; obtain ⟨a2, l2, c2, e2⟩ := hr2.form3; subst e2; have HR1 := jh hr2; have HB1 := jh ((hgo.block _ (by simp) (own_ne_type (HK1.out.alloc (.cells #[.slice none 0 0, .bool false] 27)).own (heap_alloc_new w1 (.cells #[.slice none 0 0, .bool false] 27)) (by decide))).trans (heap_alloc_new w1 (.cells #[.slice none 0 0, .bool false] 27))); have HH1 := jh HG1.out.size; have HG1 := jh (undrew hg2); have hS2 := HG1.out; clear hr2 hg2 hgo)
    | (go_at_call 5; with_reducible refine (HTY.out (W4.alloc (.cells #[.slice none 0 0, .bool false] 27)).drew (gDr (gBq _))).mono ?_; rintro e w1 ⟨v1, rfl, ⟨vs1, hk1⟩, hr1, hg⟩; obtain ⟨a1, l1, c1, e1⟩ := hr1.form3; subst e1; have HB1 := jh (kBq (heap_alloc_new W4 (.cells #[.slice none 0 0, .bool false] 27)) (undrew hg)); have HH1 : Hid (W4.heap.size <= W4.heap.size) := Nat.le_refl _; have HR0 := jh hr1; have HK1 := jh hk1; have HG0 := jh (gDr (gRf _ _) : (W4.alloc (.cells #[.slice none 0 0, .bool false] 27)).grownBy _ none); have HGK := jh hg; have HG1 := jh (gTq (gDr (gBq _)) hg); have hS1 := HG1.out; clear hr1 hg hk1)
    | (go_at_call 5; with_reducible refine (HTY.out W4.drew (gDr (gRf _ _))).mono ?_; rintro e w1 ⟨v1, rfl, ⟨vs1, hk1⟩, hr1, hg⟩; obtain ⟨a1, l1, c1, e1⟩ := hr1.form3; subst e1; have HR0 := jh hr1; have HK1 := jh hk1; have HGK := jh hg; have HG1 := jh (undrew hg); have hS1 := HG1.out; clear hr1 hg hk1))
   all_goals
    go_wp2_with fail
    go_meet
    first
    | with_reducible exact ledCut_one HG2.out HIS.out
    | exact ledCut_two HG2.out HIS.out hH2 HB2.out
  obtain ⟨by2, ay, ly, cy, fy, ey, rfl, rfl, hby, hg, _, hisy⟩ := hcut
  replace HG := gCq HG hg
  replace HM := jh (HM.out.grow hg)
  have hbx := kBq HBX.out hg
  have hisx := HISX.out.grow hg
  have z0 := c0q hbx
  have z1 := c1q hbx
  have v0 := c0q hby
  have v1 := c1q hby
  clear hg hS0 y0 y1 y2 y3 y4 m0 m1 m2 m3 m4 HTY HL HS HBX HISX hbx hby
  generalize hwc : wc = W6 at *
  clear hwc
  rcases hisx with ⟨h, hne, rfl, rfl, rfl, rfl⟩ | ⟨ts, h, rfl, hr⟩
  ·have hne2 : (ex != 0) = true := by simpa using hne
   clear h hne hisy
   go_wp2_with fail
   refine (checks_any _).mono ?_; rintro e w3 ⟨rfl, hg⟩
   replace HG := gCq HG hg
   clear hg
   go_wp2_with fail
   go_ret
   exact ⟨rfl, HG.out⟩
  ·have HFR := jh (code_frame (m := m) h)
   obtain ⟨g1, g2, _⟩ := code_good h
   have HTS : Hid (tysizes (ts ++ m) <= 20000000) := by show _ <= _; rw [tysizes_app]; have := tys_sum g2; omega
   have HISY := jh hisy
   have HRX := jh hr
   clear h hisy hr g2
   go_wp2_with fail
   refine (checks_any _).mono ?_; rintro e w7 ⟨rfl, hg⟩
   replace HG := gCq HG hg
   replace HM := jh (HM.out.grow hg)
   replace HRX := jh (HRX.out.grow hg)
   have hisy := HISY.out.grow hg
   replace z0 := kNq hg z0
   replace z1 := kNq hg z1
   replace v0 := kNq hg v0
   replace v1 := kNq hg v1
   clear hg HISY
   rcases HFR.out with h7 | ⟨h5, hbad⟩ | hok
   ·rcases hisy with ⟨h, _, rfl, rfl, rfl, rfl⟩ | ⟨ts', h, _, _⟩
    rotate_left
    ·rw [h7] at h; cases h
    rw [h7] at h
    simp only [Led.no.injEq] at h
    subst h
    clear h7 HFR
    go_wp2_with fail
    go_ret
    exact ⟨rfl, HG.out⟩
   ·rcases hisy with ⟨h, _, rfl, rfl, rfl, rfl⟩ | ⟨ts', h, _, _⟩
    rotate_left
    ·rw [h5] at h; cases h
    rw [h5] at h
    simp only [Led.no.injEq] at h
    subst h
    have HGO := jh (goods_any HM.out)
    rw [hbad] at HGO
    clear h5 HFR hbad
    go_wp2_with fail
    refine HGO.out.mono ?_; rintro e w8 ⟨rfl, hg⟩
    replace HG := gCq HG hg
    clear hg
    go_wp2_with fail
    go_ret
    exact ⟨rfl, HG.out⟩
   ·rcases hisy with ⟨h, _, _⟩ | ⟨ts', h, rfl, hry⟩
    ·rw [hok] at h; cases h
    rw [hok] at h
    simp only [Led.ok.injEq] at h
    obtain ⟨rfl, hts⟩ := h
    have HRY := jh hry
    have HTSY := jh hts
    clear hok HFR hry hts
    cases fx with
    | true =>
     have yz0 : ∀ w', w7.grownBy w' none -> w'.cell? ⟨bx, 0, none⟩ = some (.slice ax lx cx) := fun w' h => kNq h z0
     have yz1 : ∀ w', w7.grownBy w' none -> w'.cell? ⟨bx, 1, none⟩ = some (.bool true) := fun w' h => kNq h z1
     have yv0 : ∀ w', w7.grownBy w' none -> w'.cell? ⟨by2, 0, none⟩ = some (.slice ay ly cy) := fun w' h => kNq h v0
     have yv1 : ∀ w', w7.grownBy w' none -> w'.cell? ⟨by2, 1, none⟩ = some (.bool true) := fun w' h => kNq h v1
     go_wp2_with fail
     refine wp_region_held_drew (S := fun w' => w7.grownBy w' none) (by kernel_rfl) ?_ (fun hHeld => ?_)
     ·exact gDr (gRf _ _)
     refine rGq 0 52 ?_
     refine rGq 1 53 ?_
     refine rGq 2 54 ?_
     refine rGq 3 55 ?_
     refine rGq 4 56 ?_
     refine rGq 5 57 ?_
     refine rGq 6 58 ?_
     refine rGq 7 59 ?_
     refine rGq 8 60 ?_
     refine rNq 9 61 ?_
     refine rNq 10 62 ?_
     refine rNq 11 63 ?_
     refine rNq 12 64 ?_
     refine rNq 13 65 ?_
     refine rNq 14 66 ?_
     refine rNq 15 67 ?_
     refine rNq 16 68 ?_
     refine rGq 17 69 ?_
     refine rGq 18 70 ?_
     refine rGq 19 6 ?_
     refine wpAnyH_done (by kernel_rfl) ?_ _
     replace HG := jh (gTq HG.out hHeld)
     clear hHeld
     go_wp2_with fail
     go_ret
     exact ⟨rfl, HG.out⟩
    | false =>
     have hts2 : ts' = ts ++ m := by have := HTSY.out; simpa using this.symm
     subst hts2
     clear HTSY
     have yz0 : ∀ w', w7.grownBy w' none -> w'.cell? ⟨bx, 0, none⟩ = some (.slice ax lx cx) := fun w' h => kNq h z0
     have yz1 : ∀ w', w7.grownBy w' none -> w'.cell? ⟨bx, 1, none⟩ = some (.bool false) := fun w' h => kNq h z1
     have yv0 : ∀ w', w7.grownBy w' none -> w'.cell? ⟨by2, 0, none⟩ = some (.slice ay ly cy) := fun w' h => kNq h v0
     have yv1 : ∀ w', w7.grownBy w' none -> w'.cell? ⟨by2, 1, none⟩ = some (.bool false) := fun w' h => kNq h v1
     go_wp2_with fail
     refine wp_region_held_drew (S := fun w' => w7.grownBy w' none) (by kernel_rfl) ?_ (fun hHeld => ?_)
     ·exact gDr (gRf _ _)
     refine rGq 0 52 ?_
     refine rGq 1 53 ?_
     refine rGq 2 54 ?_
     refine rGq 3 55 ?_
     refine rGq 4 56 ?_
     refine rGq 5 57 ?_
     refine rGq 6 58 ?_
     refine rGq 7 59 ?_
     refine rGq 8 60 ?_
     refine rGq 9 61 ?_
     refine rGq 10 62 ?_
     refine rGq 12 64 ?_
     refine rGq 14 66 ?_
     refine rGq 15 67 ?_
     refine wpAnyH_ready (rs := [11]) (by kernel_rfl) (by simp) ?_
     refine AllReadyH.cons rfl (fun K hK => ?_) AllReadyH.nil
     go_simp
     go_at_call 5
     refine (types_any (HRX.out.grow hHeld) (by omega)).mono ?_; rintro e w8 ⟨v8, rfl, ⟨vs8, hk8⟩, hr8, hg8⟩
     obtain ⟨a8, l8, c8, e8⟩ := hr8.form3
     subst e8
     refine hK.out _ _ (gTq hHeld hg8) (fun _ => ?_)
     clear hK K
     refine wpAnyH_ready (rs := [13]) (by kernel_rfl) (by simp) ?_
     refine AllReadyH.cons rfl (fun K hK => ?_) AllReadyH.nil
     refine step_more2 hk8 (HM.out.grow hHeld) hg8 (by omega) rfl (.tmp 63) (.tmp 64) rfl rfl rfl ?_
     intro v9 w9 hr9 hg9 _
     obtain ⟨a9, l9, c9, e9⟩ := hr9.form3
     subst e9
     refine hK.out _ _ (gTq hHeld hg9) (fun _ => ?_)
     clear hK K
     refine wpAnyH_ready (rs := [16]) (by kernel_rfl) (by simp) ?_
     refine AllReadyH.cons rfl (fun K hK => ?_) AllReadyH.nil
     go_simp
     go_at_call 8
     refine (sameTypes_any hr9 (HRY.out.grow (gTq hHeld hg9)) HTS.out).mono ?_; rintro e w10 ⟨rfl, hg10⟩
     rw [sameTs_refl2]
     have hH10 := gTq (gTq hHeld hg9) hg10
     refine hK.out _ _ hH10 (fun _ => ?_)
     clear hK K hHeld hg8 hg9 hg10 hk8 hr8 hr9
     refine rGq 17 69 ?_
     refine rGq 18 70 ?_
     refine rGq 19 6 ?_
     refine wpAnyH_done (by kernel_rfl) ?_ _
     replace HG := jh (gTq HG.out hH10)
     clear hH10
     go_wp2_with fail
     go_ret
     exact ⟨rfl, HG.out⟩
theorem tysizes_take : ∀ (k : Nat) (l : List Ty), tysizes (l.take k) <= tysizes l
 | 0, l => by simp [tysizes]
 | k + 1, [] => by simp [tysizes]
 | k + 1, x :: l => by simp only [List.take_succ_cons, tysizes]; have := tysizes_take k l; omega
theorem frameWalk {W : World} {n : Tr} {u : Value} {s more : List Ty} {sa ma : Option Addr} {sl sc ml mc : Nat} (hL : Lies (fun _ => True) W n u) (hs : RowC W s (.slice sa sl sc)) (hm : RowC W more (.slice ma ml mc)) (hz : n.size <= 2000000) (hzs : s.length <= 2000000) (hzt : tysizes more <= 2000000) :
 Calls Tryz.prog 3 #[u, .slice sa sl sc, .slice ma ml mc] W fun e w' => e = .returned (.bool true) /\ W.grownBy w' none := by
 obtain ⟨na, nc, VN, e1, _, _⟩ := hL.invN
 rw [e1] at hL ⊢
 obtain ⟨h1, h2, _⟩ := hm.len
 by_cases h6 : 6 < ml
 ·exact frameWalk1 hL hs (hm.take 6 mc (by omega) (by omega)) hz hzs (by rw [List.length_take]; omega) (Nat.le_trans (tysizes_take 6 more) hzt) (.inr ⟨rfl, by omega, by omega⟩)
 ·exact frameWalk1 hL hs hm hz hzs (by omega) hzt (.inl ⟨rfl, by omega⟩)
end Go.Proofs.YtfakmokbccnamaaGreat
