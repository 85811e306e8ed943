import Derived.Test.YtamohjlhndedhaeGreatCkStep
import Derived.Test.YtamohjlhndedhaeGreatCkCode
import Derived.Test.YtamohjlhndedhaeGreatZi
import Derived.Test.YtamohjlhndedhaeGreatZm
import Derived.Test.YtamohjlhndedhaeGreatCkTwo
namespace Go.Proofs.YtamohjlhndedhaeGreat
set_option maxRecDepth 100000
set_option maxHeartbeats 4000000
open Go.ChangeShapes Go.WideShapes Go.ChangeAt Go.RowKit
set_option linter.unusedVariables false
set_option linter.unusedSimpArgs false
theorem code_all {W : World} {n : Tr} {u : Value} {s : List Ty} {sa : Option Addr} {sl sc : Nat} (hL : Lies (fun _ => True) W n u) (hs : RowC W s (.slice sa sl sc)) (hz : n.size <= 4611686018427387903) :
 Calls Tryz.prog 9 #[u, .slice sa sl sc] W (LedPost (codeF n s) W) :=
 code_any hL hs hz (fun t v W2 s2 a2 l2 c2 h1 h2 h3 h4 h5 => step_all 300 (Nat.le_refl _) t v W2 s2 a2 l2 c2 h1 h2 h3 (by omega) h5)
theorem seq_any (a : Option Addr) (l c : Nat) (W : World) : Calls Tryz.prog 28 #[.slice a l c] W fun e w' => e = .returned (nodeV 3 0 0 ⟨#[]⟩ a l c) /\ W.grownBy w' none := by
 go_enter Tryz.func28, Tryz.ntmps28
 go_wp2_with fail
 have hb := heap_alloc_new W (.cells #[.int .i64 3, .int .i64 0, .int .i64 0, .string ⟨#[]⟩, .slice a l c] 24)
 have HG := jh (Lf.gb (w := W) (.cells #[.int .i64 3, .int .i64 0, .int .i64 0, .string ⟨#[]⟩, .slice a l c] 24))
 generalize W.alloc (.cells #[.int .i64 3, .int .i64 0, .int .i64 0, .string ⟨#[]⟩, .slice a l c] 24) = wf at *
 obtain ⟨z0, z1, z2, z3, z4⟩ := box5 hb
 exact bodyPost_ret (v := nodeV 3 0 0 ⟨#[]⟩ a l c) (by simp [results, Tryz.results28, go_sem, z0, z1, z2, z3, z4, nodeV]) rfl ⟨rfl, HG.out⟩
def dropTr : Tr := .nd 3 0 0 ⟨#[]⟩ [.nd 2 0 40 ⟨#[]⟩ []]
theorem drop_code : codeF dropTr [.nd 4 [], .nd 2 []] = .ok false [.nd 2 []] := by
 unfold codeF dropTr
 rw [if_neg (by decide), if_neg (by decide), if_neg (by decide), if_pos (by decide)]
 rfl
theorem drop_lies {w : World} {b : Nat} {T : TypeId} (h : w.heap[b]? = some (.cells #[.int .i64 2, .int .i64 0, .int .i64 40, .string ⟨#[]⟩, .slice none 0 0] T (0, 0))) : Lies (fun _ => True) w dropTr (nodeV 3 0 0 ⟨#[]⟩ (some ⟨b, 0, none⟩) 1 1) := by
 obtain ⟨z0, z1, z2, z3, z4⟩ := box5 h
 refine Lies.mk (args := [.nd 2 0 40 ⟨#[]⟩ []]) (fun _ => nodeV 2 0 40 ⟨#[]⟩ none 0 0) (by simp [maxLen]) (Nat.zero_le _) ⟨by decide, by decide⟩ ⟨by decide, by decide⟩ ⟨by decide, by decide⟩ (fun i hi => ?_) (fun i hi => ?_)
 ·obtain rfl : i = 0 := by simpa using hi
  exact ⟨b, 0, rfl, trivial, 2, 0, 40, ⟨#[]⟩, none, 0, 0, rfl, z0, z1, z2, z3, z4⟩
 ·obtain rfl : i = 0 := by simpa using hi
  exact Lies.mk (fun _ => .int .i64 0) (by simp [maxLen]) (Nat.zero_le _) ⟨by decide, by decide⟩ ⟨by decide, by decide⟩ ⟨by decide, by decide⟩ (fun i hi => by simp at hi) (fun i hi => by simp at hi)
theorem leaf_lies (w : World) (t : Int) (it : I64 t) : LiesT (fun _ => True) w (.nd t []) (tyV t none 0 0) := LiesT.ofC it (RowC.nil _ none 0)
theorem checks_any (W : World) : Calls Tryz.prog 11 #[] W fun e w' => e = .returned (.bool true) /\ W.grownBy w' none := by
 have HB := jh (heap_alloc_new W (.cells #[.int .i64 2, .int .i64 0, .int .i64 40, .string ⟨#[]⟩, .slice none 0 0] 24))
 have HG := jh (Lf.gb (w := W) (.cells #[.int .i64 2, .int .i64 0, .int .i64 40, .string ⟨#[]⟩, .slice none 0 0] 24))
 go_enter Tryz.func11, Tryz.ntmps11
 go_wp2_with fail
 refine (seq_any _ _ _ _).mono ?_; rintro e w1 ⟨rfl, hg⟩
 have HL := jh (drop_lies (keepB0 HB.out hg))
 replace HG := jh (Lf.gbt HG.out hg)
 have hga := Lf.gb (w := w1) (.cells #[.int .i64 4, .slice none 0 0, .int .i64 2, .slice none 0 0] 62)
 have HC := jh (code_all (HL.out.same (sameAll hga)) (RowC.two (heap_alloc_new w1 (.cells #[.int .i64 4, .slice none 0 0, .int .i64 2, .slice none 0 0] 62)) (leaf_lies _ 4 ⟨by decide, by decide⟩) (leaf_lies _ 2 ⟨by decide, by decide⟩)) (by simp [dropTr, Tr.size, sizes]))
 rw [drop_code] at HC
 replace HG := jh (Lf.gbt HG.out hga)
 clear hg hga HB HL
 unfold nodeV at HC ⊢
 go_wp2_with fail
 refine HC.out.mono ?_; rintro e w2 ⟨hg, hcase⟩
 rcases hcase with ⟨er, h, _⟩ | ⟨f, ts, a, l, c, h, rfl, hr⟩
 ·cases h
 simp only [Led.ok.injEq] at h
 obtain ⟨rfl, rfl⟩ := h
 obtain ⟨rfl, _, _⟩ := hr.len
 obtain ⟨b, o, t0, a0, l0, k0, rfl, x0, x1, hA⟩ := hr.at 0 (by simp)
 obtain ⟨e0, _⟩ := hA.args
 have ht : t0 = 2 := e0.symm
 subst ht
 simp only [Nat.mul_zero, Nat.add_zero, Nat.zero_add, List.length_singleton] at x0 x1 ⊢
 replace HG := jh (Lf.gbt HG.out hg)
 have hga := Lf.gb (w := w2) (.cells #[.slice (some ⟨b, o, none⟩) 1 c, .bool false] 27)
 have hb := heap_alloc_new w2 (.cells #[.slice (some ⟨b, o, none⟩) 1 c, .bool false] 27)
 replace x0 := keepN hga x0
 have z0 := cell0_of hb
 have z1 := cell1_of hb
 replace HG := jh (Lf.gbt HG.out hga)
 clear hg hga hb HC hr hA e0 x1
 go_wp2_with fail
 go_ret
 exact ⟨rfl, HG.out⟩
def LedCut (r : Led) (W : World) (pv qv : Value) (wx : World) : Prop :=
 ∃ (bp : Nat) (a : Option Addr) (l c : Nat) (f : Bool) (er : Int), pv = .pointer (some ⟨bp, 0, none⟩) /\ qv = .int .i64 er /\ wx.heap[bp]? = some (.cells #[.slice a l c, .bool f] 27 (0, 0)) /\ W.grownBy wx none /\ W.heap.size <= bp /\ LedIs wx r a l c f er
theorem ledCut_one {r : Led} {W w : World} {a : Option Addr} {l c : Nat} {f : Bool} {er : Int} (hg : W.grownBy w none) (h : LedIs w r a l c f er) : LedCut r W (.pointer (some ⟨w.heap.size, 0, none⟩)) (.int .i64 er) (w.alloc (.cells #[.slice a l c, .bool f] 27)) :=
 ⟨_, a, l, c, f, er, rfl, rfl, heap_alloc_new _ _, Lf.gbt hg (Lf.gb _), hg.size, h.grow (Lf.gb _)⟩
theorem ledCut_two {r : Led} {W w : World} {a : Option Addr} {l c H : Nat} {f : Bool} {er : Int} (hg : W.grownBy w none) (h : LedIs w r a l c f er) (hH : W.heap.size <= H) (hb : w.heap[H]? = some (.cells #[.slice none 0 0, .bool false] 27 (0, 0))) : LedCut r W (.pointer (some ⟨H, 0, none⟩)) (.int .i64 er) (set2 w H (.slice a l c) (.bool f)) := by
 refine ⟨_, a, l, c, f, er, rfl, rfl, set2_block hb _ _, grow_set2 hg hH _ _, hH, ?_⟩
 rcases h with h | ⟨ts, h1, h2, h3⟩
 ·exact .inl h
 ·exact .inr ⟨ts, h1, h2, h3.set hb _ _⟩
theorem goodWalk {W : World} {n : Tr} {u : Value} {s : List Ty} {sa : Option Addr} {sl sc : Nat} (hL : Lies (fun _ => True) W n u) (hs : RowC W s (.slice sa sl sc)) (hz : n.size <= 2000000) (hzs : s.length <= 2000000) :
 Calls Tryz.prog 4 #[u, .slice sa sl sc] W fun e w' => e = .returned (.bool true) /\ W.grownBy w' none := by
 obtain ⟨na, nc, VN, e1, ⟨ik, iN, ip, hss⟩, hRN⟩ := hL.invN
 rw [e1] at hL ⊢
 unfold nodeV at hL ⊢
 have hgn := Lf.gb (w := W) (.cells #[.int .i64 n.k0, .int .i64 n.n0, .int .i64 n.p0, .string n.s0, .slice na n.args0.length nc] 24)
 have hbn := heap_alloc_new W (.cells #[.int .i64 n.k0, .int .i64 n.n0, .int .i64 n.p0, .string n.s0, .slice na n.args0.length nc] 24)
 obtain ⟨m0, m1, m2, m3, m4⟩ := box5 hbn
 have HL := jh (hL.same (sameAll hgn))
 have HS := jh (hs.grow hgn)
 have HG := jh hgn
 clear hL hs hRN e1 hgn hbn
 go_enter Tryz.func4, Tryz.ntmps4
 go_wp2_with fail
 generalize W.alloc _ = W2 at *
 have HTY : Hid (∀ W3, W2.grownBy W3 none -> Calls Tryz.prog 10 #[.slice sa sl sc] W3 fun e w' => ∃ v, e = .returned v /\ (∃ vs, CatOk W3 w' v s vs) /\ RowC w' s v /\ W3.grownBy w' none) := fun W3 h => types_any (HS.out.grow h) (by omega)
 have y0 : ∀ w', W2.grownBy w' none -> w'.cell? ⟨W.heap.size, 0, none⟩ = some (.int .i64 n.k0) := fun w' h => keepN h m0
 have y1 : ∀ w', W2.grownBy w' none -> w'.cell? ⟨W.heap.size, 1, none⟩ = some (.int .i64 n.n0) := fun w' h => keepN h m1
 have y2 : ∀ w', W2.grownBy w' none -> w'.cell? ⟨W.heap.size, 2, none⟩ = some (.int .i64 n.p0) := fun w' h => keepN h m2
 have y3 : ∀ w', W2.grownBy w' none -> w'.cell? ⟨W.heap.size, 3, none⟩ = some (.string n.s0) := fun w' h => keepN h m3
 have y4 : ∀ w', W2.grownBy w' none -> w'.cell? ⟨W.heap.size, 4, none⟩ = some (.slice na n.args0.length nc) := fun w' h => keepN h m4
 have hS0 : W2.grownBy W2 none := grow_refl _ _
 go_cut [5, 6] (fun pv qv wx => LedCut (codeF n s) W2 pv qv wx)
 case first =>
  go_region_held3 (fun w' => W2.grownBy w' none) (first | with_reducible assumption | with_reducible exact grow_drew (grow_refl _ _) | with_reducible exact grow_set2N (by assumption) (by assumption) | with_reducible exact Lf.gbt (by assumption) (Lf.gb _) | with_reducible exact grow_drew (Lf.gb _)) (first
   | (go_at_call 9; have g0 := HB1.out; clear g0; refine (code_all (HL.out.same (sameAll HG1.out)) HR1.out (by omega)).mono ?_; rintro e w2 hp; obtain ⟨a, l, c, f, er, rfl, hg, his⟩ := hp.is; have hb2 := keepB0 HB1.out hg; have q0 := cell0_of hb2; have q1 := cell1_of hb2; have q2 := free2_of hb2; have HB2 := jh hb2; have HIS := jh his; have HG2 := jh (Lf.gbt HG1.out hg); have hS2 := HG2.out; have hH2 : W2.heap.size <= W2.heap.size := Nat.le_refl _; clear hp hg his hb2)
   | (go_at_call 9; refine (code_all (HL.out.same (sameAll (Lf.gbt HG1.out (Lf.gb _)))) (HR1.out.grow (Lf.gb _)) (by omega)).mono ?_; rintro e w2 hp; obtain ⟨a, l, c, f, er, rfl, hg, his⟩ := hp.is; have hb2 := keepB0 (heap_alloc_new w1 (.cells #[.slice none 0 0, .bool false] 27)) hg; have q0 := cell0_of hb2; have q1 := cell1_of hb2; have q2 := free2_of hb2; have HB2 := jh hb2; have HIS := jh his; have HG2 := jh (Lf.gbt (Lf.gbt HG1.out (Lf.gb _)) hg); have hS2 := HG2.out; have hH2 := HG1.out.size; clear hp hg his hb2)
   | (go_at_call 9; refine (code_all (HL.out.same (sameAll HG1.out)) HR1.out (by omega)).mono ?_; rintro e w2 hp; obtain ⟨a, l, c, f, er, rfl, hg, his⟩ := hp.is; have HIS := jh his; have HG2 := jh (Lf.gbt HG1.out hg); have hS2 := HG2.out; clear hp hg his)
   | (go_at_call 10; with_reducible refine (HTY.out (W2.alloc (.cells #[.slice none 0 0, .bool false] 27)).drew (grow_drew (Lf.gb _))).mono ?_; rintro e w1 ⟨v1, rfl, _, hr1, hg⟩; obtain ⟨a1, l1, c1, e1⟩ := hr1.form3; subst e1; have HB1 := jh (keepB0 (heap_alloc_new W2 (.cells #[.slice none 0 0, .bool false] 27)) (undrew hg)); have HR1 := jh hr1; have HG1 := jh (Lf.gbt (grow_drew (Lf.gb _)) hg); have hS1 := HG1.out; clear hr1 hg)
   | (go_at_call 10; with_reducible refine (HTY.out W2.drew (grow_drew (grow_refl _ _))).mono ?_; rintro e w1 ⟨v1, rfl, _, hr1, hg⟩; obtain ⟨a1, l1, c1, e1⟩ := hr1.form3; subst e1; have HR1 := jh hr1; have HG1 := jh (undrew hg); have hS1 := HG1.out; clear hr1 hg))
  all_goals
   go_wp2_with fail
   go_meet
   first
   | with_reducible exact ledCut_one HG2.out HIS.out
   | exact ledCut_two HG2.out HIS.out hH2 HB2.out
 case rest =>
 obtain ⟨bp, a, l, c, f, er, rfl, rfl, hb, hg, _, hcase⟩ := hcut
 replace HG := jh (Lf.gbt HG.out hg)
 have z0 := cell0_of hb
 have z1 := cell1_of hb
 clear hg hS0 y0 y1 y2 y3 y4 m0 m1 m2 m3 m4 HTY HL HS
 rcases hcase with ⟨h, hne, rfl, rfl, rfl, rfl⟩ | ⟨ts, h, rfl, hr⟩
 ·have hne1 : (er == 0) = false := by simpa using hne
  have hne2 : (er != 0) = true := by simpa using hne
  clear h hb hne
  go_wp2_with fail
  refine (checks_any _).mono ?_; rintro e w3 ⟨rfl, hg⟩
  replace HG := jh (Lf.gbt HG.out hg)
  clear hg
  go_wp2_with fail
  go_ret
  exact ⟨rfl, HG.out⟩
 ·obtain ⟨g1, g2, g3⟩ := code_good h
  obtain ⟨rfl, _, _⟩ := hr.len
  have HGO := jh (goods_any hr)
  rw [g2] at HGO
  have h40 : (ts.length : Int) <= 40 := by omega
  have HG3 := jh g3
  clear h hr g2 g3
  go_wp2_with fail
  refine HGO.out.mono ?_; rintro e w3 ⟨rfl, hg⟩
  replace z0 := keepN hg z0
  replace z1 := keepN hg z1
  replace HG := jh (Lf.gbt HG.out hg)
  clear hg hb HGO
  cases f with
  | false =>
   go_wp2_with fail
   refine (checks_any _).mono ?_; rintro e w5 ⟨rfl, hg⟩
   replace HG := jh (Lf.gbt HG.out hg)
   clear hg
   go_wp2_with fail
   go_ret
   exact ⟨rfl, HG.out⟩
  | true =>
   have h0 : ts.length = 0 := by rw [HG3.out rfl]; rfl
   go_wp2_with fail
   refine (checks_any _).mono ?_; rintro e w5 ⟨rfl, hg⟩
   replace HG := jh (Lf.gbt HG.out hg)
   clear hg
   go_wp2_with fail
   go_ret
   exact ⟨rfl, HG.out⟩
end Go.Proofs.YtamohjlhndedhaeGreat
