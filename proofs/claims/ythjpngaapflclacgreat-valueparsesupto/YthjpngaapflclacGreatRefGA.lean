import Derived.Test.YthjpngaapflclacGreatAlikes
import Derived.Test.YthjpngaapflclacGreatBasis
import Derived.Laws.OwnMore
import Derived.Test.YthjpngaapflclacGreatTreeA
import Derived.Test.YthjpngaapflclacGreatRefA
import Derived.Deep.RegionHeld3
import Derived.Deep.DeepCutAuto
namespace Go.Proofs.YthjpngaapflclacGreat
set_option maxRecDepth 100000
set_option maxHeartbeats 4000000
open Go.ChangeShapes Go.WideShapes Go.ChangeAt Go.RowKit
set_option linter.unusedVariables false
mutual
def eqTr : Tr -> Tr -> Bool
 | .nd k n p s a, .nd k2 n2 p2 s2 b => decide (k = k2) && decide (n = n2) && decide (p = p2) && decide (s.toList = s2.toList) && eqTrs a b
def eqTrs : List Tr -> List Tr -> Bool
 | [], [] => true
 | x :: xs, y :: ys => eqTr x y && eqTrs xs ys
 | [], _ :: _ => false
 | _ :: _, [] => false
end
theorem toList_inj {a b : ByteArray} (h : a.toList = b.toList) : a = b := by
 rw [ByteArray.toList_eq, ByteArray.toList_eq] at h
 cases a; cases b
 simp at h
 rw [h]
mutual
theorem eqTr_iff : ∀ a b : Tr, eqTr a b = true ↔ a = b
 | .nd k n p s a, .nd k2 n2 p2 s2 b => by
  rw [eqTr]
  simp only [Bool.and_eq_true, decide_eq_true_eq, Tr.nd.injEq, eqTrs_iff a b]
  constructor
  ·rintro ⟨⟨⟨⟨h1, h2⟩, h3⟩, h4⟩, h5⟩; exact ⟨h1, h2, h3, toList_inj h4, h5⟩
  ·rintro ⟨h1, h2, h3, h4, h5⟩; exact ⟨⟨⟨⟨h1, h2⟩, h3⟩, by rw [h4]⟩, h5⟩
theorem eqTrs_iff : ∀ a b : List Tr, eqTrs a b = true ↔ a = b
 | [], [] => by simp [eqTrs]
 | x :: xs, y :: ys => by simp [eqTrs, eqTr_iff x y, eqTrs_iff xs ys]
 | [], _ :: _ => by simp [eqTrs]
 | _ :: _, [] => by simp [eqTrs]
end
theorem eqTrs_len : ∀ {a b : List Tr}, eqTrs a b = true -> a.length = b.length := fun {a b} h => by rw [(eqTrs_iff a b).1 h]
theorem eqTrs_take_succ : ∀ (x y : List Tr) (j : Nat) (h1 : j < x.length) (h2 : j < y.length), eqTrs (x.take j) (y.take j) = true -> eqTrs (x.take (j + 1)) (y.take (j + 1)) = eqTr x[j] y[j]
 | [], _, _, h1, _, _ => by simp at h1
 | _ :: _, [], _, _, h2, _ => by simp at h2
 | a :: xs, b :: ys, 0, _, _, _ => by simp [eqTrs]
 | a :: xs, b :: ys, j + 1, h1, h2, h => by
  simp only [List.take_succ_cons, eqTrs, Bool.and_eq_true] at h
  have ih := eqTrs_take_succ xs ys j (by simpa using h1) (by simpa using h2) h.2
  simp only [List.take_succ_cons, eqTrs, h.1, Bool.true_and] at ih ⊢
  simpa using ih
theorem eqTrs_at_no : ∀ (x y : List Tr) (j : Nat) (h1 : j < x.length) (h2 : j < y.length), eqTr x[j] y[j] = false -> eqTrs x y = false
 | [], _, _, h1, _, _ => by simp at h1
 | _ :: _, [], _, _, h2, _ => by simp at h2
 | a :: xs, b :: ys, 0, _, _, h => by
  have : eqTr a b = false := h
  simp [eqTrs, this]
 | a :: xs, b :: ys, j + 1, h1, h2, h => by
  have ih := eqTrs_at_no xs ys j (by simpa using h1) (by simpa using h2) (by simpa using h)
  simp [eqTrs, ih]
theorem rsameN_any {w : World} {t : Tr} {va : Value} (hL : Lies (fun _ => True) w t va) : ∀ (u : Tr) (vb : Value) (w2 : World), w.grownBy w2 none -> Lies (fun _ => True) w u vb ->
 Calls Tryz.prog 7 #[va, vb] w2 fun e w' => e = .returned (.bool (eqTr t u)) /\ w2.grownBy w' none := by
 induction hL with
 | @mk k n p s args a c V hl hS ik iN ip hc hr ih =>
  intro u vb w2 hg hLb
  cases hLb with
  | @mk k2 n2 p2 s2 args2 a2 c2 V2 hl2 hS2 ik2 iN2 ip2 hc2 hr2 =>
   have hsm : eqTr (.nd k n p s args) (.nd k2 n2 p2 s2 args2) = (decide (k = k2) && decide (n = n2) && decide (p = p2) && decide (s.toList = s2.toList) && eqTrs args args2) := by rw [eqTr]
   have HSM := jh hsm
   have HGA : Hid (w2.grownBy ((w2.alloc (.cells #[.int .i64 k, .int .i64 n, .int .i64 p, .string s, .slice a args.length c] 30)).alloc (.cells #[.int .i64 k2, .int .i64 n2, .int .i64 p2, .string s2, .slice a2 args2.length c2] 30)) none) := Lf.gbt (Lf.gb _) (Lf.gb _)
   have IH := jh ih
   have HC := jh hc
   have HC2 := jh hc2
   have HR2 := jh hr2
   have HG := jh hg
   clear ih hc hr hc2 hr2 hg hsm ik iN ip ik2 iN2 ip2
   unfold maxLen at hl hl2
   unfold nodeV
   by_cases h1 : k = k2
   case neg =>
    have g1 : (k == k2) = false := by simpa using h1
    have g2 : (k != k2) = true := by simpa using h1
    have HN := jh h1
    clear h1 IH HC HC2 HR2
    go_enter Tryz.func7, Tryz.ntmps7
    go_wp2_with fail
    go_ret
    exact Lf.retb (by rw [HSM.out, decide_eq_false HN.out]; simp) HGA.out
   by_cases h2 : n = n2
   case neg =>
    have e1 : (k == k2) = true := by simpa using h1
    have e2 : (k != k2) = false := by simpa using h1
    have g1 : (n == n2) = false := by simpa using h2
    have g2 : (n != n2) = true := by simpa using h2
    have HN := jh h2
    clear h1 h2 IH HC HC2 HR2
    go_enter Tryz.func7, Tryz.ntmps7
    go_wp2_with fail
    go_ret
    exact Lf.retb (by rw [HSM.out, decide_eq_false HN.out]; simp) HGA.out
   by_cases h3 : p = p2
   case neg =>
    have e1 : (k == k2) = true := by simpa using h1
    have e2 : (k != k2) = false := by simpa using h1
    have e3 : (n == n2) = true := by simpa using h2
    have e4 : (n != n2) = false := by simpa using h2
    have g1 : (p == p2) = false := by simpa using h3
    have g2 : (p != p2) = true := by simpa using h3
    have HN := jh h3
    clear h1 h2 h3 IH HC HC2 HR2
    go_enter Tryz.func7, Tryz.ntmps7
    go_wp2_with fail
    go_ret
    exact Lf.retb (by rw [HSM.out, decide_eq_false HN.out]; simp) HGA.out
   by_cases h4 : s.toList = s2.toList
   case neg =>
    have e1 : (k == k2) = true := by simpa using h1
    have e2 : (k != k2) = false := by simpa using h1
    have e3 : (n == n2) = true := by simpa using h2
    have e4 : (n != n2) = false := by simpa using h2
    have e5 : (p == p2) = true := by simpa using h3
    have e6 : (p != p2) = false := by simpa using h3
    have g1 : (s.toList == s2.toList) = false := by simpa using h4
    have g2 : (s.toList != s2.toList) = true := by simpa using h4
    have HN := jh h4
    clear h1 h2 h3 h4 IH HC HC2 HR2
    go_enter Tryz.func7, Tryz.ntmps7
    go_wp2_with fail
    go_ret
    exact Lf.retb (by rw [HSM.out, decide_eq_false HN.out]; simp) HGA.out
   have HSM2 : Hid (eqTr (.nd k n p s args) (.nd k2 n2 p2 s2 args2) = eqTrs args args2) := by
    have := HSM.out
    rw [decide_eq_true h1, decide_eq_true h2, decide_eq_true h3, decide_eq_true h4] at this
    simp only [Bool.true_and] at this
    exact this
   have e1 : (k == k2) = true := by simpa using h1
   have e2 : (k != k2) = false := by simpa using h1
   have e3 : (n == n2) = true := by simpa using h2
   have e4 : (n != n2) = false := by simpa using h2
   have e5 : (p == p2) = true := by simpa using h3
   have e6 : (p != p2) = false := by simpa using h3
   have e7 : (s.toList == s2.toList) = true := by simpa using h4
   have e8 : (s.toList != s2.toList) = false := by simpa using h4
   generalize eqTr (.nd k n p s args) (.nd k2 n2 p2 s2 args2) = q at *
   by_cases hln : args.length = args2.length
   case neg =>
    have hne : q = false := by
     rw [HSM2.out]
     cases h : eqTrs args args2 with
     | false => rfl
     | true => exact absurd (eqTrs_len h) hln
    have HNE := jh hne
    have g1 : ((args.length : Int) == (args2.length : Int)) = false := by simp; omega
    have g2 : ((args.length : Int) != (args2.length : Int)) = true := by simp; omega
    clear h1 h2 h3 h4 hne hln IH HC HC2 HR2 HSM HSM2
    go_enter Tryz.func7, Tryz.ntmps7
    go_wp2_with fail
    go_ret
    exact Lf.retb HNE.out.symm HGA.out
   have HLN := jh hln
   have g1 : ((args.length : Int) == (args2.length : Int)) = true := by simp [hln]
   have g2 : ((args.length : Int) != (args2.length : Int)) = false := by simp [hln]
   have g3 : args.length <= args2.length := by omega
   have hwA := jh (res_new w2 (.cells #[.int .i64 k, .int .i64 n, .int .i64 p, .string s, .slice a args.length c] 30) (.cells #[.int .i64 k2, .int .i64 n2, .int .i64 p2, .string s2, .slice a2 args2.length c2] 30))
   have hwB : Hid (((w2.alloc (.cells #[.int .i64 k, .int .i64 n, .int .i64 p, .string s, .slice a args.length c] 30)).alloc (.cells #[.int .i64 k2, .int .i64 n2, .int .i64 p2, .string s2, .slice a2 args2.length c2] 30)).heap[w2.heap.size + 1]? = some (.cells #[.int .i64 k2, .int .i64 n2, .int .i64 p2, .string s2, .slice a2 args2.length c2] 30)) := by
    have h5 := heap_alloc_new (w2.alloc (.cells #[.int .i64 k, .int .i64 n, .int .i64 p, .string s, .slice a args.length c] 30)) (.cells #[.int .i64 k2, .int .i64 n2, .int .i64 p2, .string s2, .slice a2 args2.length c2] 30)
    rw [World.size_alloc] at h5
    exact h5
   clear h1 h2 h3 h4 hln HSM
   go_enter Tryz.func7, Tryz.ntmps7
   go_wp2_with fail
   generalize (w2.alloc (.cells #[.int .i64 k, .int .i64 n, .int .i64 p, .string s, .slice a args.length c] 30)).alloc (.cells #[.int .i64 k2, .int .i64 n2, .int .i64 p2, .string s2, .slice a2 args2.length c2] 30) = wb at *
   go_loopw [44] (fun i wr => ∃ j : Nat, j <= args.length /\ i = .int .i64 j /\ wb.grownBy wr none /\ eqTrs (args.take j) (args2.take j) = true) (fun i _ => args.length - (intOf i).toNat)
   case atStart => exact ⟨0, Nat.zero_le _, rfl, grow_refl _ _, by simp [eqTrs]⟩
   case round =>
    obtain ⟨j, hj, rfl, hgr, hF⟩ := hrel
    have hgw : w.grownBy wr none := Lf.gbt HG.out (Lf.gbt HGA.out hgr)
    obtain ⟨x0, x1, x2, x3, x4⟩ := box5 ((hgr.block _ (Array.getElem?_eq_some_iff.1 hwA.out).1 (by simp)).trans hwA.out)
    obtain ⟨y0, y1, y2, y3, y4⟩ := box5 ((hgr.block _ (Array.getElem?_eq_some_iff.1 hwB.out).1 (by simp)).trans hwB.out)
    by_cases hlt : j < args.length
    ·have hlt2 : j < args2.length := by have := HLN.out; omega
     obtain ⟨b1, o1, rfl, _, k3, n3, p3, s3, a3, l3, c3, hv1, u0, u1, u2, u3, u4⟩ := (HC.out j hlt).same (same_none hgw)
     obtain ⟨b2, o2, rfl, _, k4, n4, p4, s4, a4, l4, c4, hv2, f0, f1, f2, f3, f4⟩ := (HC2.out j hlt2).same (same_none hgw)
     have hI := IH.out j hlt args2[j] (V2 j) wr.drew (grow_drew hgw) (HR2.out j hlt2)
     rw [hv1, hv2] at hI
     unfold nodeV at hI
     have HGR := jh hgr
     have HSUC := jh (eqTrs_take_succ args args2 j hlt hlt2 hF)
     have HNO := jh (eqTrs_at_no args args2 j hlt hlt2)
     generalize eqTr args[j] args2[j] = r at *
     have HI := jh hI
     clear hI hgr hgw hv1 hv2 hF HC HC2 HR2 IH
     cases r with
     | true =>
      go_wp2_with fail
      go_region_with (go_at_call 7; refine HI.out.mono ?_; rintro e w3 ⟨rfl, hg3⟩; have HG3 := jh hg3; clear hg3)
      all_goals
       go_wp2_with fail
       go_roundw
       case rel => exact ⟨j + 1, by omega, by go_num, Lf.gbt (grow_drew HGR.out) HG3.out, HSUC.out⟩
       case measure => simp [intOf]; omega
     | false =>
      go_wp2_with fail
      go_region_with (go_at_call 7; refine HI.out.mono ?_; rintro e w3 ⟨rfl, hg3⟩; have HG3 := jh hg3; clear hg3)
      all_goals
       go_wp2_with fail
       go_ret
       exact Lf.retb (by rw [HSM2.out]; exact (HNO.out (by first | rfl | trivial)).symm) (Lf.gbt HGA.out (Lf.gbt (grow_drew HGR.out) HG3.out))
    ·have hje : j = args.length := by omega
     have hz : q = true := by
      rw [HSM2.out, ← hF, hje, List.take_length, HLN.out, List.take_length]
     have HZ := jh hz
     have HGR := jh hgr
     clear hgr hgw hz hF hje
     go_wp2_with fail
     go_ret
     exact Lf.retb HZ.out.symm (Lf.gbt HGA.out HGR.out)
theorem info_deep : (Tryz.prog.info? 62).map (fun i => (i.zero, i.size, i.bytes)) = some (some (.agg #[.int .i64 0, .int .i64 0, .int .i64 0, .string ⟨#[]⟩, .slice none 0 0, .int .i64 0]), 6, 72) := by kernel_rfl
structure Dp where
 k : Int
 n : Int
 p : Int
 s : ByteArray
 a : Option Addr
 l : Nat
 c : Nat
 d : Nat
def Dp.cells (x : Dp) : List Value := [.int .i64 x.k, .int .i64 x.n, .int .i64 x.p, .string x.s, .slice x.a x.l x.c, .int .i64 x.d]
def dflat (xs : List Dp) : List Value := xs.flatMap Dp.cells
def OwnsD (B : Nat) (w : World) (v : Value) (xs : List Dp) : Prop := w.ownsRow B 62 6 v xs.length (dflat xs)
theorem dflat_append (a b : List Dp) : dflat (a ++ b) = dflat a ++ dflat b := by simp [dflat]
theorem dflat_cons (x : Dp) (l : List Dp) : dflat (x :: l) = x.cells ++ dflat l := by simp [dflat]
theorem dflat_len : ∀ xs : List Dp, (dflat xs).length = xs.length * 6
 | [] => by simp [dflat]
 | x :: xs => by rw [dflat_cons, List.length_append, dflat_len xs]; simp [Dp.cells]; omega
theorem dflat_one (xs : List Dp) : ∀ u ∈ dflat xs, u.oneCell' = true := by
 intro u hu
 obtain ⟨x, _, hx⟩ := List.mem_flatMap.1 hu
 simp [Dp.cells] at hx
 rcases hx with rfl | rfl | rfl | rfl | rfl | rfl <;> rfl
theorem dflat_get : ∀ (xs : List Dp) (i j : Nat) (x : Dp), xs[i]? = some x -> j < 6 -> (dflat xs)[i * 6 + j]? = x.cells[j]?
 | [], i, j, x, h, _ => by simp at h
 | y :: xs, 0, j, x, h, hj => by
  simp at h; subst h
  rw [dflat_cons, List.getElem?_append_left (by simp [Dp.cells]; omega)]
  simp
 | y :: xs, i + 1, j, x, h, hj => by
  simp at h
  rw [dflat_cons, List.getElem?_append_right (by simp [Dp.cells]; omega)]
  have e : (i + 1) * 6 + j - y.cells.length = i * 6 + j := by simp [Dp.cells]; omega
  rw [e]
  exact dflat_get xs i j x h hj
theorem OwnsD.cell {B : Nat} {w : World} {g n cap : Nat} {xs : List Dp} (h : OwnsD B w (.slice (some ⟨g, 0, none⟩) n cap) xs) (hn : xs.length = n) {i : Nat} {x : Dp} (hx : xs[i]? = some x) :
 w.cell? ⟨g, i * 6, none⟩ = some (.int .i64 x.k) /\ w.cell? ⟨g, i * 6 + 1, none⟩ = some (.int .i64 x.n) /\ w.cell? ⟨g, i * 6 + 2, none⟩ = some (.int .i64 x.p) /\ w.cell? ⟨g, i * 6 + 3, none⟩ = some (.string x.s) /\ w.cell? ⟨g, i * 6 + 4, none⟩ = some (.slice x.a x.l x.c) /\ w.cell? ⟨g, i * 6 + 5, none⟩ = some (.int .i64 x.d) := by
 subst hn
 have hi := (List.getElem?_eq_some_iff.1 hx).1
 have key : ∀ j, j < 6 -> w.cell? ⟨g, i * 6 + j, none⟩ = x.cells[j]? := fun j hj => by
  rw [World.ownsRow.cellAt h (i * 6 + j) (by omega), dflat_get xs i j x hx hj]
 exact ⟨key 0 (by omega), key 1 (by omega), key 2 (by omega), key 3 (by omega), key 4 (by omega), key 5 (by omega)⟩
theorem OwnsD.cut {B : Nat} {w : World} {g n cap : Nat} {xs ys : List Dp} (h : OwnsD B w (.slice (some ⟨g, 0, none⟩) n cap) (xs ++ ys)) : OwnsD B w (.slice (some ⟨g, 0, none⟩) xs.length cap) xs := by
 refine ⟨dflat_len xs, ?_⟩
 rcases h.2 with ⟨hx, _⟩ | ⟨g', cap', cur, hx, h1, h2, h3, h4, h5, h6⟩
 ·simp at hx
 ·simp only [Value.slice.injEq, Option.some.injEq, Addr.mk.injEq, and_true] at hx
  obtain ⟨rfl, hn, rfl⟩ := hx
  rw [List.length_append] at h3 h6
  refine .inr ⟨g, cap, cur, rfl, h1, h2, by omega, h4, h5, ?_⟩
  have h7 := congrArg (List.take (xs.length * 6)) h6
  rw [List.take_take, show min (xs.length * 6) ((xs.length + ys.length) * 6) = xs.length * 6 from by omega, dflat_append, List.take_append_of_le_length (by rw [dflat_len]; exact Nat.le_refl _)] at h7
  rw [h7, List.take_of_length_le (by rw [dflat_len]; exact Nat.le_refl _)]
def fW : List (Nat × Tr) -> Int
 | [] => 0
 | x :: l => if firstW x.1 x.2 ≠ 0 then firstW x.1 x.2 else fW l
def szW : List (Nat × Tr) -> Nat
 | [] => 0
 | x :: l => x.2.size + szW l
def kids (d : Nat) (args : List Tr) : List (Nat × Tr) := args.map fun t => (d + 1, t)
theorem fW_append (l m : List (Nat × Tr)) : fW (l ++ m) = if fW l ≠ 0 then fW l else fW m := by
 induction l with
 | nil => simp [fW]
 | cons x l ih =>
  rw [List.cons_append]
  by_cases h : firstW x.1 x.2 = 0
  ·have h1 : ∀ r, fW (x :: r) = fW r := fun r => by rw [fW, if_neg (by simpa using h)]
   rw [h1, h1, ih]
  ·have h1 : ∀ r, fW (x :: r) = firstW x.1 x.2 := fun r => by rw [fW, if_pos h]
   rw [h1, h1, if_pos h]
theorem fW_kids (d : Nat) (args : List Tr) : fW (kids d args) = firstWs (d + 1) args := by
 induction args with
 | nil => simp [kids, fW, firstWs]
 | cons t l ih =>
  have h : kids d (t :: l) = (d + 1, t) :: kids d l := rfl
  rw [h, fW, firstWs, ih]
theorem szW_append (l m : List (Nat × Tr)) : szW (l ++ m) = szW l + szW m := by
 induction l with
 | nil => simp [szW]
 | cons x l ih => simp only [List.cons_append, szW, ih]; omega
theorem szW_kids (d : Nat) (args : List Tr) : szW (kids d args) = sizes args := by
 induction args with
 | nil => simp [kids, szW, sizes]
 | cons t l ih =>
  have h : kids d (t :: l) = (d + 1, t) :: kids d l := rfl
  rw [h, szW, sizes, ih]
theorem fW_deep {d : Nat} {t : Tr} {l : List (Nat × Tr)} (h : 24 < d) : fW ((d, t) :: l) = 4 := by
 cases t with
 | nd k n p s args =>
  have : firstW d (.nd k n p s args) = 4 := by rw [firstW, if_pos h]
  simp [fW, this]
theorem fW_wrong {d : Nat} {k n p : Int} {s : ByteArray} {args : List Tr} {l : List (Nat × Tr)} (h : ¬ 24 < d) (hw : ¬ Lf.wrongF k n p s args.length = 0) : fW ((d, .nd k n p s args) :: l) = Lf.wrongF k n p s args.length := by
 have : firstW d (.nd k n p s args) = Lf.wrongF k n p s args.length := by rw [firstW, if_neg h, if_pos hw]
 simp only [fW, this]
 rw [if_pos hw]
theorem fW_step {d : Nat} {k n p : Int} {s : ByteArray} {args : List Tr} {l : List (Nat × Tr)} (h : ¬ 24 < d) (hw : Lf.wrongF k n p s args.length = 0) : fW ((d, .nd k n p s args) :: l) = fW (kids d args ++ l) := by
 have : firstW d (.nd k n p s args) = firstWs (d + 1) args := by rw [firstW, if_neg h, if_neg (by simpa using hw)]
 rw [fW_append, fW_kids]
 simp only [fW, this]
theorem szW_step {d : Nat} {k n p : Int} {s : ByteArray} {args : List Tr} {l : List (Nat × Tr)} : szW ((d, .nd k n p s args) :: l) = szW (kids d args ++ l) + 1 := by
 rw [szW_append, szW_kids, szW]
 show (Tr.nd k n p s args).size + szW l = _
 rw [Tr.size]; omega
theorem goodF_row (t : Tr) : goodF t = if fW [(1, t)] ≠ 0 then fW [(1, t)] else if 300 < szW [(1, t)] then 4 else 0 := by
 have h1 : fW [(1, t)] = firstW 1 t := by
  simp only [fW]
  by_cases h : firstW 1 t = 0
  ·rw [if_neg (by simpa using h), h]
  ·rw [if_pos h]
 have h2 : szW [(1, t)] = t.size := by simp [szW]
 rw [h1, h2]
 rfl
def RowOf (w : World) : List (Nat × Tr) -> List Dp -> Prop
 | [], [] => True
 | p :: L, y :: ys => (y.d = p.1 /\ Lies (fun _ => True) w p.2 (nodeV y.k y.n y.p y.s y.a y.l y.c)) /\ RowOf w L ys
 | [], _ :: _ => False
 | _ :: _, [] => False
theorem RowOf.append {w : World} : ∀ {L M : List (Nat × Tr)} {ys zs : List Dp}, RowOf w L ys -> RowOf w M zs -> RowOf w (L ++ M) (ys ++ zs)
 | [], M, [], zs, _, h => h
 | p :: L, M, y :: ys, zs, h, k => ⟨h.1, RowOf.append h.2 k⟩
 | [], _, _ :: _, _, h, _ => h.elim
 | _ :: _, _, [], _, h, _ => h.elim
theorem RowOf.len {w : World} : ∀ {L : List (Nat × Tr)} {ys : List Dp}, RowOf w L ys -> ys.length = L.length
 | [], [], _ => rfl
 | p :: L, y :: ys, h => by simp [RowOf.len h.2]
 | [], _ :: _, h => h.elim
 | _ :: _, [], h => h.elim
theorem len_szW : ∀ L : List (Nat × Tr), L.length <= szW L
 | [] => by simp
 | x :: L => by have := len_szW L; have := size_pos x.2; simp [szW]; omega
theorem kids_take_succ (d : Nat) (args : List Tr) (j : Nat) (h : j < args.length) : kids d (args.take (j + 1)) = kids d (args.take j) ++ [(d + 1, args[j])] := by
 unfold kids; rw [List.take_succ_eq_append_getElem h, List.map_append]; rfl
theorem appD {ops : Array Oper} {rest : List Oper} {o : Oper} {a : Act} {Q : Exit -> Act -> World -> Prop} (B : Nat) (xs ys : List Dp) (w0 : World) (v xv : Value) (hgd : o.guard = none) (s x : Operand)
 (ho : o.op = .call { callee := .builtin .append, args := #[s, x], argTypes := #[63, 63] }) (hs : a.eval s = v) (hx : a.eval x = xv)
 (hsrc : SrcAt w0 xv ys.length (dflat ys)) (hown : OwnsD B w0 v xs) (hB : B <= w0.heap.size) (hlen : xs.length + ys.length <= 100000000)
 (h : ∀ v' w', OwnsD B w' v' (xs ++ ys) -> Gr w0 v w' v' -> (v' = .slice none 0 0 ↔ v = .slice none 0 0 /\ ys.length = 0) -> wpList Tryz.prog ops Q rest (a.put o.dst v') w') :
 wpList Tryz.prog ops Q (o :: rest) a w0 := by
 refine wpList_app hgd s x 63 ho B 62 Tryz.underlying63 info_deep rfl (by decide) v xs.length (dflat xs) hs hown xv ys.length (dflat ys) hx (dflat_len ys) hsrc (dflat_one ys) ?_ ?_ hB ?_
 ·unfold maxLen; omega
 ·omega
 ·intro v' w' h1 h2 h3
  exact h v' w' (by unfold OwnsD; rw [dflat_append, List.length_append]; exact h1) h2 h3
theorem OwnsD.tail {B : Nat} {w : World} {g n cap : Nat} {xs ys : List Dp} (h : OwnsD B w (.slice (some ⟨g, 0, none⟩) n cap) (xs ++ ys)) (hn : xs.length + ys.length = n) (c : Nat) :
 SrcAt w (.slice (some ⟨g, xs.length * 6, none⟩) ys.length c) ys.length (dflat ys) := by
 refine .inr ⟨_, _, rfl, fun j u hu => ?_⟩
 have hj : j < ys.length * 6 := by rw [← dflat_len]; exact (List.getElem?_eq_some_iff.1 hu).1
 subst hn
 rw [← List.length_append] at h
 have h2 := World.ownsRow.cellAt h (xs.length * 6 + j) (by rw [List.length_append]; omega)
 rw [dflat_append, List.getElem?_append_right (by rw [dflat_len]; omega), dflat_len, show xs.length * 6 + j - xs.length * 6 = j from by omega, hu] at h2
 have hadd : (⟨g, xs.length * 6, none⟩ : Addr).add j = ⟨g, xs.length * 6 + j, none⟩ := by unfold Addr.add; split <;> simp_all
 rw [hadd]; exact h2
theorem same_all {w w' : World} (h : w.grownBy w' none) : Same (fun _ => True) w w' := fun b o _ hlt => World.cell?_of_block (h.block b hlt (by simp))
theorem gmore0 (n p : Int) (s : ByteArray) (l : Nat) : Lf.moreB 0 n p s l = decide (p ≠ 0 \/ s.size ≠ 0 \/ l ≠ 0) := by unfold Lf.moreB; rw [if_pos rfl]
theorem gmore1 (n p : Int) (s : ByteArray) (l : Nat) : Lf.moreB 1 n p s l = decide (n ≠ 0 \/ p ≠ 0 \/ l ≠ 0) := by unfold Lf.moreB; rw [if_neg (by decide), if_pos rfl]
theorem gmore2 (n p : Int) (s : ByteArray) (l : Nat) : Lf.moreB 2 n p s l = decide (n ≠ 0 \/ s.size ≠ 0) := by unfold Lf.moreB; rw [if_neg (by decide), if_neg (by decide), if_pos rfl]
theorem gmore3 (n p : Int) (s : ByteArray) (l : Nat) : Lf.moreB 3 n p s l = decide (n ≠ 0 \/ p ≠ 0 \/ s.size ≠ 0) := by unfold Lf.moreB; rw [if_neg (by decide), if_neg (by decide), if_neg (by decide)]
theorem box6 {w : World} {g : Nat} {T : TypeId} {x0 x1 x2 x3 x4 x5 : Value} (h : w.heap[g]? = some (.cells #[x0, x1, x2, x3, x4, x5] T (0, 0))) :
 w.cell? ⟨g, 0, none⟩ = some x0 /\ w.cell? ⟨g, 1, none⟩ = some x1 /\ w.cell? ⟨g, 2, none⟩ = some x2 /\ w.cell? ⟨g, 3, none⟩ = some x3 /\ w.cell? ⟨g, 4, none⟩ = some x4 /\ w.cell? ⟨g, 5, none⟩ = some x5 := by
 simp [World.cell?, h]
theorem OwnsD.keep {B : Nat} {w w' : World} {v v2 v2' : Value} {xs : List Dp} (h : OwnsD B w v xs) (hg : Gr w v2 w' v2') (hne : v.ownBlock = none \/ v.ownBlock ≠ v2.ownBlock) : OwnsD B w' v xs :=
 World.ownsRow.kept h hg.1 hne
def GNRel (w W : World) (t : Tr) (rv iv : Value) (wr : World) : Prop :=
 ∃ (xs ys : List Dp) (L : List (Nat × Tr)) (g cap : Nat), rv = .slice (some ⟨g, 0, none⟩) (xs.length + ys.length) cap /\ iv = .int .i64 (xs.length : Nat) /\ OwnsD W.heap.size wr rv (xs ++ ys) /\ RowOf w L ys /\ fW L = fW [(1, t)] /\ xs.length + szW L = t.size /\ W.grownBy wr none
theorem rgoodN_any {w : World} {t : Tr} {v : Value} (hL : Lies (fun _ => True) w t v) (hz : t.size <= 1048576) (W : World) (hW : w.grownBy W none) :
 Calls Tryz.prog 22 #[v] W fun e w' => e = .returned (.int .i64 (goodF t)) /\ W.grownBy w' none := by
 obtain ⟨k, n, p, st, a, q, c, rfl⟩ := hL.nodeV
 have HL := jh hL
 have HW := jh hW
 have HZ := jh hz
 clear hL hW hz
 unfold nodeV
 go_enter Tryz.func22, Tryz.ntmps22
 go_wp2_with fail
 go_loopw [3, 4] (fun rv iv wr => GNRel w W t rv iv wr) (fun _ iv _ => t.size - (intOf iv).toNat)
 case atStart =>
  refine ⟨[], [⟨k, n, p, st, a, q, c, 1⟩], [(1, t)], _, _, rfl, rfl, ?_, ⟨⟨rfl, HL.out⟩, trivial⟩, rfl, by simp [szW], Lf.gbt (Lf.gb _) (Lf.gb _)⟩
  have e0 : W.heap.size + 1 = (W.alloc (.cells #[.int .i64 k, .int .i64 n, .int .i64 p, .string st, .slice a q c] 30)).heap.size := by simp
  rw [e0]
  exact ⟨rfl, .inr ⟨_, 1, _, rfl, by simp, heap_alloc_new _ _, Nat.le_refl _, by decide, rfl, rfl⟩⟩
 case round =>
  obtain ⟨xs, ys, L, g, cap, rfl, rfl, hown, hrow, hf, hs, hgr⟩ := hrel
  obtain ⟨wo, rfl⟩ : ∃ wo, wo = wr := ⟨_, rfl⟩
  have hz := HZ.out
  match L, ys, hrow with
  | [], [], _ =>
   have hgood : goodF t = if 300 < xs.length then 4 else 0 := by
    have h0 : fW [(1, t)] = 0 := hf.symm
    have h1 : szW [(1, t)] = t.size := by simp [szW]
    have h2 : xs.length = t.size := by simpa [szW] using hs
    rw [goodF_row, h0, h1, h2]; simp
   have hxl : xs.length <= 1048576 := by simp [szW] at hs; omega
   have HGD := jh hgood
   have HGR := jh hgr
   clear hgood hgr hown hf hs hz hrow HZ HL HW
   by_cases h3 : 300 < xs.length
   ·have h4 : (300 : Int) < (xs.length : Int) := by omega
    go_wp2_with fail
    go_ret
    exact Lf.reti (by rw [HGD.out, if_pos h3]) HGR.out
   ·have h4 : ¬ (300 : Int) < (xs.length : Int) := by omega
    go_wp2_with fail
    go_ret
    exact Lf.reti (by rw [HGD.out, if_neg h3]) HGR.out
  | (d, .nd kx nx px sx ax) :: L, y :: ys, ⟨⟨hd, hLx⟩, hrow⟩ =>
   obtain ⟨yk, yn, yp, ys', ya, yl, yc, yd⟩ := y
   simp only at hd hLx
   subst hd
   have hlen : xs.length + (ys.length + 1) <= 1048576 := by
    have h1 := RowOf.len hrow
    have h2 := len_szW L
    have h3 := size_pos (.nd kx nx px sx ax)
    simp [szW] at hs
    omega
   obtain ⟨c0, c1, c2, c3, c4, c5⟩ := OwnsD.cell hown (by simp) (i := xs.length) (x := ⟨yk, yn, yp, ys', ya, yl, yc, yd⟩) (by simp)
   generalize hV : nodeV yk yn yp ys' ya yl yc = vx at hLx
   cases hLx with
   | mk V hla hsa ik iN ip hca hra =>
   unfold nodeV at hV
   simp only [Value.agg.injEq, Array.mk.injEq, List.cons.injEq, Value.int.injEq, Value.string.injEq, Value.slice.injEq, true_and, and_true] at hV
   obtain ⟨rfl, rfl, rfl, rfl, rfl, rfl, rfl⟩ := hV
   unfold maxLen at hla hsa
   have hcap : (xs.length + 1 < cap /\ xs.length + (ys.length + 1) <= cap) \/ (cap = xs.length + 1 /\ ys.length = 0) := by
    rcases hown.2 with ⟨hx, _⟩ | ⟨g', cap', cur, hx, h1, h2, h3, h4, h5, h6⟩
    ·simp at hx
    ·simp only [Value.slice.injEq, Option.some.injEq, Addr.mk.injEq, and_true] at hx
     obtain ⟨rfl, _, rfl⟩ := hx
     simp at h3
     omega
   have HF := jh hf
   have HS := jh hs
   have HGR := jh hgr
   have HOWN := jh hown
   have HROW := jh hrow
   have HCA := jh hca
   have HRA := jh hra
   clear hf hs hgr hown hrow hca hra
   by_cases h24 : 24 < yd
   ·have h24' : (24 : Int) < (yd : Int) := by omega
    have hG : goodF t = 4 := by
     have h0 : fW [(1, t)] = 4 := by rw [← HF.out]; exact fW_deep h24
     rw [goodF_row, h0]; simp
    have HG := jh hG
    clear hG
    go_wp2_with fail
    go_ret
    exact Lf.reti HG.out.symm (Lf.gbt HGR.out (Lf.gb _))
   ·have h24' : ¬ (24 : Int) < (yd : Int) := by omega
    have HRP := jh (rprim_any yp)
    have hsz0 : ys'.size = 0 -> ys' = ⟨#[]⟩ := fun h => by
     have : ys'.data = #[] := Array.eq_empty_of_size_eq_zero h
     cases ys'; simp_all
    have HSZ := jh hsz0
    clear hsz0
    by_cases hw : Lf.wrongF yk yn yp ys' ax.length = 0
    ·have hst := fW_step (l := L) h24 hw
     have HST := jh (hst.symm.trans HF.out)
     obtain ⟨hk, hp, hm, hN, hs200⟩ := wrong_zero hw
     have HRI := jh (fun w => rin_all yn w iN)
     have hNd : decide (-1152921504606846976 <= yn /\ yn <= 1152921504606846976) = true := decide_eq_true hN
     rw [hNd] at HRI
     clear hst hw hN hNd
     rcases (show yk = 0 \/ yk = 1 \/ yk = 2 \/ yk = 3 from by omega) with rfl | rfl | rfl | rfl
     ·have he : yp = 0 /\ ys' = ⟨#[]⟩ /\ ax.length = 0 := by
       rw [gmore0, decide_eq_false_iff_not] at hm
       exact ⟨by omega, HSZ.out (by omega), by omega⟩
      obtain ⟨rfl, rfl, hal⟩ := he
      have HAL := jh hal
      have hal2 : (ax.length : Int) = 0 := by omega
      clear hal hm hp hk
      go_wp2_with fail
      refine (HRI.out _).mono ?_; rintro e w1 ⟨rfl, rfl⟩
      go_upto_region 16 with (fail)
      go_cut [6] (fun rv wx => OwnsD (wo.heap.size + 1) wx rv ys /\ (wo.alloc (.cells #[.int .i64 0, .int .i64 yn, .int .i64 0, .string ⟨#[]⟩, .slice ya ax.length yc, .int .i64 yd] 62)).grownBy wx none)
      case first =>
       rcases hcap with ⟨hcap, hcap2⟩ | ⟨hcap, hys⟩
       ·have hsrc : SrcAt (wo.alloc (.cells #[.int .i64 0, .int .i64 yn, .int .i64 0, .string ⟨#[]⟩, .slice ya ax.length yc, .int .i64 yd] 62)) (.slice (some ⟨g, (xs.length + 1) * 6, none⟩) (xs.length + (ys.length + 1) - (xs.length + 1)) (cap - (xs.length + 1))) ys.length (dflat ys) := by
         rw [show xs.length + (ys.length + 1) - (xs.length + 1) = ys.length from by omega]
         have h0 := HOWN.out
         rw [show xs ++ ⟨0, yn, 0, ⟨#[]⟩, ya, ax.length, yc, yd⟩ :: ys = (xs ++ [⟨0, yn, 0, ⟨#[]⟩, ya, ax.length, yc, yd⟩]) ++ ys from by simp] at h0
         have h1 := (OwnsD.tail h0 (by simp; omega) (cap - (xs.length + 1))).alloc (.cells #[.int .i64 0, .int .i64 yn, .int .i64 0, .string ⟨#[]⟩, .slice ya ax.length yc, .int .i64 yd] 62)
         rw [List.length_append] at h1
         exact h1
        have HSRC := jh hsrc
        clear hsrc
        go_wp2_with (at_builtin; refine appD (wo.heap.size + 1) [] ys _ (.slice none 0 0) _ rfl (.const (.slice none 0 0)) (.tmp 108) rfl rfl rfl HSRC.out (World.ownsRow_nil _ _ _ _) (by simp) (by simp; omega) ?_; intro v' w' ho' hg' _; have HO := jh ho'; have HGG := jh hg'; clear ho' hg')
        go_meet
        exact ⟨HO.out, HGG.out.1⟩
       ·obtain rfl : ys = [] := List.eq_nil_of_length_eq_zero hys
        subst hcap
        have HSRC : Hid (∀ c m, m = 0 -> SrcAt (wo.alloc (.cells #[.int .i64 0, .int .i64 yn, .int .i64 0, .string ⟨#[]⟩, .slice ya ax.length yc, .int .i64 yd] 62)) (.slice (some ⟨g, 0, none⟩) m c) 0 []) := fun c m hm => by subst hm; exact .inr ⟨_, _, rfl, fun j u hu => by simp at hu⟩
        go_wp2_with (at_builtin; refine appD (wo.heap.size + 1) [] [] _ (.slice none 0 0) _ rfl (.const (.slice none 0 0)) (.tmp 108) rfl rfl rfl (HSRC.out _ _ (by simp)) (World.ownsRow_nil _ _ _ _) (by simp) (by simp) ?_; intro v' w' ho' hg' _; have HO := jh ho'; have HGG := jh hg'; clear ho' hg')
        go_meet
        exact ⟨HO.out, HGG.out.1⟩
      case rest =>
       obtain ⟨hrest, hgx⟩ := hcut
       have hcap3 : xs.length + 1 <= cap := by omega
       have HREST := jh hrest
       have HGX := jh hgx
       have hbx : wc.heap[wo.heap.size]? = some (.cells #[.int .i64 0, .int .i64 yn, .int .i64 0, .string ⟨#[]⟩, .slice ya ax.length yc, .int .i64 yd] 62 (0, 0)) := (hgx.block _ (by simp) (by simp)).trans (heap_alloc_new _ _)
       have HBX := jh hbx
       obtain ⟨x0, x1, x2, x3, x4, x5⟩ := box6 hbx
       clear hrest hgx hbx
       go_wp2_with fail
       go_loopw [3, 118] (fun rv iv wz => ∃ (j : Nat) (zs : List Dp), j <= ax.length /\ iv = .int .i64 j /\ zs.length = j /\ OwnsD W.heap.size wz rv (xs ++ [⟨0, yn, 0, ⟨#[]⟩, ya, ax.length, yc, yd⟩] ++ zs) /\ rv ≠ .slice none 0 0 /\ RowOf w (kids yd (ax.take j)) zs /\ OwnsD (wo.heap.size + 1) wz u6 ys /\ (u6.ownBlock = none \/ u6.ownBlock ≠ rv.ownBlock) /\ some wo.heap.size ≠ rv.ownBlock /\ W.grownBy wz none /\ wz.heap[wo.heap.size]? = some (.cells #[.int .i64 0, .int .i64 yn, .int .i64 0, .string ⟨#[]⟩, .slice ya ax.length yc, .int .i64 yd] 62 (0, 0))) (fun _ iv _ => ax.length - (intOf iv).toNat)
       case atStart =>
        have h0 : OwnsD W.heap.size wc (.slice (some ⟨g, 0, none⟩) (xs.length + (ys.length + 1)) cap) ((xs ++ [⟨0, yn, 0, ⟨#[]⟩, ya, ax.length, yc, yd⟩]) ++ ys) := by
         have h1 := World.ownsRow.kept (World.ownsRow.alloc HOWN.out (.cells #[.int .i64 0, .int .i64 yn, .int .i64 0, .string ⟨#[]⟩, .slice ya ax.length yc, .int .i64 yd] 62)) HGX.out (.inr (by simp [Value.ownBlock]))
         rw [List.append_assoc]; exact h1
        have h1 := OwnsD.cut h0
        rw [List.length_append] at h1
        refine ⟨0, [], Nat.zero_le _, rfl, rfl, by rw [List.append_nil]; exact h1, by simp, trivial, HREST.out, ?_, (by have hz2 := (World.ownsRow.lt HOWN.out g rfl).2; simp [Value.ownBlock]; omega), Lf.gbt (Lf.gbt HGR.out (Lf.gb _)) HGX.out, HBX.out⟩
        cases hu : u6.ownBlock with
        | none => exact .inl rfl
        | some z =>
         right
         have hz1 := (World.ownsRow.lt HREST.out z hu).1
         have hz2 := (World.ownsRow.lt HOWN.out g rfl).2
         simp [Value.ownBlock]; omega
       case round =>
        obtain ⟨j, zs, hj, rfl, hzl, ho, hne, hro, hre, hbl, hxb, hgz, hbx⟩ := hrel
        obtain ⟨x0, x1, x2, x3, x4, x5⟩ := box6 hbx
        have hszs : xs.length + 1 + zs.length + ys.length <= 2000000 := by
         have h1 := length_le_sizes ax
         have h2 := HS.out
         have h3 := HZ.out
         simp only [szW, Tr.size] at h2
         have h4 := len_szW L
         have h5 := RowOf.len HROW.out
         omega
        have HO := jh ho
        have HRO := jh hro
        have HRE := jh hre
        have HBL := jh hbl
        have HXB := jh hxb
        have HGZ := jh hgz
        have HNE := jh hne
        have HBX2 := jh hbx
        clear ho hro hre hbl hgz hbx hne hxb
        by_cases hlt : j < ax.length
        ·exact absurd hlt (by have := HAL.out; omega)
        ·have hje : j = ax.length := by omega
         have HJE := jh hje
         have hB4 : W.heap.size <= wr.heap.size := HGZ.out.size
         have HL4 : Hid ((xs ++ [(⟨0, yn, 0, ⟨#[]⟩, ya, ax.length, yc, yd⟩ : Dp)] ++ zs).length + ys.length <= 100000000) := by show _ <= _; simp; omega
         have HSRC2 := jh (own_src HRE.out)
         go_wp2_with (at_builtin; refine appD W.heap.size (xs ++ [(⟨0, yn, 0, ⟨#[]⟩, ya, ax.length, yc, yd⟩ : Dp)] ++ zs) ys _ u3 u6 rfl (.tmp 131) (.tmp 132) rfl rfl rfl HSRC2.out HO.out hB4 HL4.out ?_; intro v' w' ho' hg' hn'; have HO2 := jh ho'; have HGG := jh hg'; have HN2 := jh hn'; clear ho' hg' hn')
         obtain ⟨g2, cap2, hv2, _, _⟩ := own_form HO2.out (fun e => HNE.out (HN2.out.1 e).1)
         have hro := HRO.out
         rw [HJE.out, List.take_length] at hro
         have hst := szW_step (d := yd) (k := 0) (n := yn) (p := 0) (s := ⟨#[]⟩) (args := ax) (l := L)
         refine ⟨⟨xs ++ [⟨0, yn, 0, ⟨#[]⟩, ya, ax.length, yc, yd⟩], zs ++ ys, kids yd ax ++ L, g2, cap2, ?_, by simp, ?_, RowOf.append hro HROW.out, HST.out, ?_, grow_own HGZ.out HO.out (Nat.le_refl _) HGG.out.1⟩, ?_⟩
         ·rw [hv2]; simp; omega
         ·rw [← List.append_assoc]; exact HO2.out
         ·have h2 := HS.out
          rw [hst] at h2
          simp; omega
         ·have h2 := HS.out
          rw [hst] at h2
          simp [intOf]; omega
     ·have he : yn = 0 /\ yp = 0 /\ ax.length = 0 := by
       rw [gmore1, decide_eq_false_iff_not] at hm
       exact ⟨by omega, by omega, by omega⟩
      obtain ⟨rfl, rfl, hal⟩ := he
      have HAL := jh hal
      have hal2 : (ax.length : Int) = 0 := by omega
      clear hal hm hp hk
      go_wp2_with fail
      refine (HRI.out _).mono ?_; rintro e w1 ⟨rfl, rfl⟩
      go_upto_region 16 with (fail)
      go_cut [6] (fun rv wx => OwnsD (wo.heap.size + 1) wx rv ys /\ (wo.alloc (.cells #[.int .i64 1, .int .i64 0, .int .i64 0, .string ys', .slice ya ax.length yc, .int .i64 yd] 62)).grownBy wx none)
      case first =>
       rcases hcap with ⟨hcap, hcap2⟩ | ⟨hcap, hys⟩
       ·have hsrc : SrcAt (wo.alloc (.cells #[.int .i64 1, .int .i64 0, .int .i64 0, .string ys', .slice ya ax.length yc, .int .i64 yd] 62)) (.slice (some ⟨g, (xs.length + 1) * 6, none⟩) (xs.length + (ys.length + 1) - (xs.length + 1)) (cap - (xs.length + 1))) ys.length (dflat ys) := by
         rw [show xs.length + (ys.length + 1) - (xs.length + 1) = ys.length from by omega]
         have h0 := HOWN.out
         rw [show xs ++ ⟨1, 0, 0, ys', ya, ax.length, yc, yd⟩ :: ys = (xs ++ [⟨1, 0, 0, ys', ya, ax.length, yc, yd⟩]) ++ ys from by simp] at h0
         have h1 := (OwnsD.tail h0 (by simp; omega) (cap - (xs.length + 1))).alloc (.cells #[.int .i64 1, .int .i64 0, .int .i64 0, .string ys', .slice ya ax.length yc, .int .i64 yd] 62)
         rw [List.length_append] at h1
         exact h1
        have HSRC := jh hsrc
        clear hsrc
        go_wp2_with (at_builtin; refine appD (wo.heap.size + 1) [] ys _ (.slice none 0 0) _ rfl (.const (.slice none 0 0)) (.tmp 108) rfl rfl rfl HSRC.out (World.ownsRow_nil _ _ _ _) (by simp) (by simp; omega) ?_; intro v' w' ho' hg' _; have HO := jh ho'; have HGG := jh hg'; clear ho' hg')
        go_meet
        exact ⟨HO.out, HGG.out.1⟩
       ·obtain rfl : ys = [] := List.eq_nil_of_length_eq_zero hys
        subst hcap
        have HSRC : Hid (∀ c m, m = 0 -> SrcAt (wo.alloc (.cells #[.int .i64 1, .int .i64 0, .int .i64 0, .string ys', .slice ya ax.length yc, .int .i64 yd] 62)) (.slice (some ⟨g, 0, none⟩) m c) 0 []) := fun c m hm => by subst hm; exact .inr ⟨_, _, rfl, fun j u hu => by simp at hu⟩
        go_wp2_with (at_builtin; refine appD (wo.heap.size + 1) [] [] _ (.slice none 0 0) _ rfl (.const (.slice none 0 0)) (.tmp 108) rfl rfl rfl (HSRC.out _ _ (by simp)) (World.ownsRow_nil _ _ _ _) (by simp) (by simp) ?_; intro v' w' ho' hg' _; have HO := jh ho'; have HGG := jh hg'; clear ho' hg')
        go_meet
        exact ⟨HO.out, HGG.out.1⟩
      case rest =>
       obtain ⟨hrest, hgx⟩ := hcut
       have hcap3 : xs.length + 1 <= cap := by omega
       have HREST := jh hrest
       have HGX := jh hgx
       have hbx : wc.heap[wo.heap.size]? = some (.cells #[.int .i64 1, .int .i64 0, .int .i64 0, .string ys', .slice ya ax.length yc, .int .i64 yd] 62 (0, 0)) := (hgx.block _ (by simp) (by simp)).trans (heap_alloc_new _ _)
       have HBX := jh hbx
       obtain ⟨x0, x1, x2, x3, x4, x5⟩ := box6 hbx
       clear hrest hgx hbx
       go_wp2_with fail
       go_loopw [3, 118] (fun rv iv wz => ∃ (j : Nat) (zs : List Dp), j <= ax.length /\ iv = .int .i64 j /\ zs.length = j /\ OwnsD W.heap.size wz rv (xs ++ [⟨1, 0, 0, ys', ya, ax.length, yc, yd⟩] ++ zs) /\ rv ≠ .slice none 0 0 /\ RowOf w (kids yd (ax.take j)) zs /\ OwnsD (wo.heap.size + 1) wz u6 ys /\ (u6.ownBlock = none \/ u6.ownBlock ≠ rv.ownBlock) /\ some wo.heap.size ≠ rv.ownBlock /\ W.grownBy wz none /\ wz.heap[wo.heap.size]? = some (.cells #[.int .i64 1, .int .i64 0, .int .i64 0, .string ys', .slice ya ax.length yc, .int .i64 yd] 62 (0, 0))) (fun _ iv _ => ax.length - (intOf iv).toNat)
       case atStart =>
        have h0 : OwnsD W.heap.size wc (.slice (some ⟨g, 0, none⟩) (xs.length + (ys.length + 1)) cap) ((xs ++ [⟨1, 0, 0, ys', ya, ax.length, yc, yd⟩]) ++ ys) := by
         have h1 := World.ownsRow.kept (World.ownsRow.alloc HOWN.out (.cells #[.int .i64 1, .int .i64 0, .int .i64 0, .string ys', .slice ya ax.length yc, .int .i64 yd] 62)) HGX.out (.inr (by simp [Value.ownBlock]))
         rw [List.append_assoc]; exact h1
        have h1 := OwnsD.cut h0
        rw [List.length_append] at h1
        refine ⟨0, [], Nat.zero_le _, rfl, rfl, by rw [List.append_nil]; exact h1, by simp, trivial, HREST.out, ?_, (by have hz2 := (World.ownsRow.lt HOWN.out g rfl).2; simp [Value.ownBlock]; omega), Lf.gbt (Lf.gbt HGR.out (Lf.gb _)) HGX.out, HBX.out⟩
        cases hu : u6.ownBlock with
        | none => exact .inl rfl
        | some z =>
         right
         have hz1 := (World.ownsRow.lt HREST.out z hu).1
         have hz2 := (World.ownsRow.lt HOWN.out g rfl).2
         simp [Value.ownBlock]; omega
       case round =>
        obtain ⟨j, zs, hj, rfl, hzl, ho, hne, hro, hre, hbl, hxb, hgz, hbx⟩ := hrel
        obtain ⟨x0, x1, x2, x3, x4, x5⟩ := box6 hbx
        have hszs : xs.length + 1 + zs.length + ys.length <= 2000000 := by
         have h1 := length_le_sizes ax
         have h2 := HS.out
         have h3 := HZ.out
         simp only [szW, Tr.size] at h2
         have h4 := len_szW L
         have h5 := RowOf.len HROW.out
         omega
        have HO := jh ho
        have HRO := jh hro
        have HRE := jh hre
        have HBL := jh hbl
        have HXB := jh hxb
        have HGZ := jh hgz
        have HNE := jh hne
        have HBX2 := jh hbx
        clear ho hro hre hbl hgz hbx hne hxb
        by_cases hlt : j < ax.length
        ·exact absurd hlt (by have := HAL.out; omega)
        ·have hje : j = ax.length := by omega
         have HJE := jh hje
         have hB4 : W.heap.size <= wr.heap.size := HGZ.out.size
         have HL4 : Hid ((xs ++ [(⟨1, 0, 0, ys', ya, ax.length, yc, yd⟩ : Dp)] ++ zs).length + ys.length <= 100000000) := by show _ <= _; simp; omega
         have HSRC2 := jh (own_src HRE.out)
         go_wp2_with (at_builtin; refine appD W.heap.size (xs ++ [(⟨1, 0, 0, ys', ya, ax.length, yc, yd⟩ : Dp)] ++ zs) ys _ u3 u6 rfl (.tmp 131) (.tmp 132) rfl rfl rfl HSRC2.out HO.out hB4 HL4.out ?_; intro v' w' ho' hg' hn'; have HO2 := jh ho'; have HGG := jh hg'; have HN2 := jh hn'; clear ho' hg' hn')
         obtain ⟨g2, cap2, hv2, _, _⟩ := own_form HO2.out (fun e => HNE.out (HN2.out.1 e).1)
         have hro := HRO.out
         rw [HJE.out, List.take_length] at hro
         have hst := szW_step (d := yd) (k := 1) (n := 0) (p := 0) (s := ys') (args := ax) (l := L)
         refine ⟨⟨xs ++ [⟨1, 0, 0, ys', ya, ax.length, yc, yd⟩], zs ++ ys, kids yd ax ++ L, g2, cap2, ?_, by simp, ?_, RowOf.append hro HROW.out, HST.out, ?_, grow_own HGZ.out HO.out (Nat.le_refl _) HGG.out.1⟩, ?_⟩
         ·rw [hv2]; simp; omega
         ·rw [← List.append_assoc]; exact HO2.out
         ·have h2 := HS.out
          rw [hst] at h2
          simp; omega
         ·have h2 := HS.out
          rw [hst] at h2
          simp [intOf]; omega
     ·have he : yn = 0 /\ ys' = ⟨#[]⟩ := by
       rw [gmore2, decide_eq_false_iff_not] at hm
       exact ⟨by omega, HSZ.out (by omega)⟩
      obtain ⟨rfl, rfl⟩ := he
      rw [hp rfl] at HRP
      clear hm hp hk
      go_wp2_with fail
      refine (HRP.out _).mono ?_; rintro e w1 ⟨rfl, rfl⟩
      go_wp2_with fail
      refine (HRI.out _).mono ?_; rintro e w1 ⟨rfl, rfl⟩
      go_upto_region 16 with (fail)
      go_cut [6] (fun rv wx => OwnsD (wo.heap.size + 1) wx rv ys /\ (wo.alloc (.cells #[.int .i64 2, .int .i64 0, .int .i64 yp, .string ⟨#[]⟩, .slice ya ax.length yc, .int .i64 yd] 62)).grownBy wx none)
      case first =>
       rcases hcap with ⟨hcap, hcap2⟩ | ⟨hcap, hys⟩
       ·have hsrc : SrcAt (wo.alloc (.cells #[.int .i64 2, .int .i64 0, .int .i64 yp, .string ⟨#[]⟩, .slice ya ax.length yc, .int .i64 yd] 62)) (.slice (some ⟨g, (xs.length + 1) * 6, none⟩) (xs.length + (ys.length + 1) - (xs.length + 1)) (cap - (xs.length + 1))) ys.length (dflat ys) := by
         rw [show xs.length + (ys.length + 1) - (xs.length + 1) = ys.length from by omega]
         have h0 := HOWN.out
         rw [show xs ++ ⟨2, 0, yp, ⟨#[]⟩, ya, ax.length, yc, yd⟩ :: ys = (xs ++ [⟨2, 0, yp, ⟨#[]⟩, ya, ax.length, yc, yd⟩]) ++ ys from by simp] at h0
         have h1 := (OwnsD.tail h0 (by simp; omega) (cap - (xs.length + 1))).alloc (.cells #[.int .i64 2, .int .i64 0, .int .i64 yp, .string ⟨#[]⟩, .slice ya ax.length yc, .int .i64 yd] 62)
         rw [List.length_append] at h1
         exact h1
        have HSRC := jh hsrc
        clear hsrc
        go_wp2_with (at_builtin; refine appD (wo.heap.size + 1) [] ys _ (.slice none 0 0) _ rfl (.const (.slice none 0 0)) (.tmp 108) rfl rfl rfl HSRC.out (World.ownsRow_nil _ _ _ _) (by simp) (by simp; omega) ?_; intro v' w' ho' hg' _; have HO := jh ho'; have HGG := jh hg'; clear ho' hg')
        go_meet
        exact ⟨HO.out, HGG.out.1⟩
       ·obtain rfl : ys = [] := List.eq_nil_of_length_eq_zero hys
        subst hcap
        have HSRC : Hid (∀ c m, m = 0 -> SrcAt (wo.alloc (.cells #[.int .i64 2, .int .i64 0, .int .i64 yp, .string ⟨#[]⟩, .slice ya ax.length yc, .int .i64 yd] 62)) (.slice (some ⟨g, 0, none⟩) m c) 0 []) := fun c m hm => by subst hm; exact .inr ⟨_, _, rfl, fun j u hu => by simp at hu⟩
        go_wp2_with (at_builtin; refine appD (wo.heap.size + 1) [] [] _ (.slice none 0 0) _ rfl (.const (.slice none 0 0)) (.tmp 108) rfl rfl rfl (HSRC.out _ _ (by simp)) (World.ownsRow_nil _ _ _ _) (by simp) (by simp) ?_; intro v' w' ho' hg' _; have HO := jh ho'; have HGG := jh hg'; clear ho' hg')
        go_meet
        exact ⟨HO.out, HGG.out.1⟩
      case rest =>
       obtain ⟨hrest, hgx⟩ := hcut
       have hcap3 : xs.length + 1 <= cap := by omega
       have HREST := jh hrest
       have HGX := jh hgx
       have hbx : wc.heap[wo.heap.size]? = some (.cells #[.int .i64 2, .int .i64 0, .int .i64 yp, .string ⟨#[]⟩, .slice ya ax.length yc, .int .i64 yd] 62 (0, 0)) := (hgx.block _ (by simp) (by simp)).trans (heap_alloc_new _ _)
       have HBX := jh hbx
       obtain ⟨x0, x1, x2, x3, x4, x5⟩ := box6 hbx
       clear hrest hgx hbx
       go_wp2_with fail
       go_loopw [3, 118] (fun rv iv wz => ∃ (j : Nat) (zs : List Dp), j <= ax.length /\ iv = .int .i64 j /\ zs.length = j /\ OwnsD W.heap.size wz rv (xs ++ [⟨2, 0, yp, ⟨#[]⟩, ya, ax.length, yc, yd⟩] ++ zs) /\ rv ≠ .slice none 0 0 /\ RowOf w (kids yd (ax.take j)) zs /\ OwnsD (wo.heap.size + 1) wz u6 ys /\ (u6.ownBlock = none \/ u6.ownBlock ≠ rv.ownBlock) /\ some wo.heap.size ≠ rv.ownBlock /\ W.grownBy wz none /\ wz.heap[wo.heap.size]? = some (.cells #[.int .i64 2, .int .i64 0, .int .i64 yp, .string ⟨#[]⟩, .slice ya ax.length yc, .int .i64 yd] 62 (0, 0))) (fun _ iv _ => ax.length - (intOf iv).toNat)
       case atStart =>
        have h0 : OwnsD W.heap.size wc (.slice (some ⟨g, 0, none⟩) (xs.length + (ys.length + 1)) cap) ((xs ++ [⟨2, 0, yp, ⟨#[]⟩, ya, ax.length, yc, yd⟩]) ++ ys) := by
         have h1 := World.ownsRow.kept (World.ownsRow.alloc HOWN.out (.cells #[.int .i64 2, .int .i64 0, .int .i64 yp, .string ⟨#[]⟩, .slice ya ax.length yc, .int .i64 yd] 62)) HGX.out (.inr (by simp [Value.ownBlock]))
         rw [List.append_assoc]; exact h1
        have h1 := OwnsD.cut h0
        rw [List.length_append] at h1
        refine ⟨0, [], Nat.zero_le _, rfl, rfl, by rw [List.append_nil]; exact h1, by simp, trivial, HREST.out, ?_, (by have hz2 := (World.ownsRow.lt HOWN.out g rfl).2; simp [Value.ownBlock]; omega), Lf.gbt (Lf.gbt HGR.out (Lf.gb _)) HGX.out, HBX.out⟩
        cases hu : u6.ownBlock with
        | none => exact .inl rfl
        | some z =>
         right
         have hz1 := (World.ownsRow.lt HREST.out z hu).1
         have hz2 := (World.ownsRow.lt HOWN.out g rfl).2
         simp [Value.ownBlock]; omega
       case round =>
        obtain ⟨j, zs, hj, rfl, hzl, ho, hne, hro, hre, hbl, hxb, hgz, hbx⟩ := hrel
        obtain ⟨x0, x1, x2, x3, x4, x5⟩ := box6 hbx
        have hszs : xs.length + 1 + zs.length + ys.length <= 2000000 := by
         have h1 := length_le_sizes ax
         have h2 := HS.out
         have h3 := HZ.out
         simp only [szW, Tr.size] at h2
         have h4 := len_szW L
         have h5 := RowOf.len HROW.out
         omega
        have HO := jh ho
        have HRO := jh hro
        have HRE := jh hre
        have HBL := jh hbl
        have HXB := jh hxb
        have HGZ := jh hgz
        have HNE := jh hne
        have HBX2 := jh hbx
        clear ho hro hre hbl hgz hbx hne hxb
        by_cases hlt : j < ax.length
        ·obtain ⟨b1, o1, rfl, _, k1, n1, p1, s1, a1, l1, c1, hv1, e0, e1, e2, e3, e4⟩ := (HCA.out j hlt).same (same_all (Lf.gbt HW.out HGZ.out))
         have hLk := HRA.out j hlt
         rw [hv1] at hLk
         have HLK := jh hLk
         clear hLk hv1
         have hB3 : W.heap.size <= wo.heap.size := HGR.out.size
         have hlt2 : wo.heap.size < wr.heap.size := (Array.getElem?_eq_some_iff.1 HBX2.out).1
         have HOA := jh (World.ownsRow.alloc (World.ownsRow.alloc HO.out (.cells #[.int .i64 k1, .int .i64 n1, .int .i64 p1, .string s1, .slice a1 l1 c1] 30)) (.cells #[.int .i64 k1, .int .i64 n1, .int .i64 p1, .string s1, .slice a1 l1 c1, .int .i64 ((yd : Int) + 1)] 62))
         have HSRC := jh (SrcAt.new (wr.alloc (.cells #[.int .i64 k1, .int .i64 n1, .int .i64 p1, .string s1, .slice a1 l1 c1] 30)) 62 #[.int .i64 k1, .int .i64 n1, .int .i64 p1, .string s1, .slice a1 l1 c1, .int .i64 ((yd : Int) + 1)] 1 1)
         rw [show (wr.alloc (.cells #[.int .i64 k1, .int .i64 n1, .int .i64 p1, .string s1, .slice a1 l1 c1] 30)).heap.size = wr.heap.size + 1 from by simp] at HSRC
         have HGA := jh (Lf.gbt (Lf.gb (w := wr) (.cells #[.int .i64 k1, .int .i64 n1, .int .i64 p1, .string s1, .slice a1 l1 c1] 30)) (Lf.gb (.cells #[.int .i64 k1, .int .i64 n1, .int .i64 p1, .string s1, .slice a1 l1 c1, .int .i64 ((yd : Int) + 1)] 62)))
         have HSRC2 : Hid (SrcAt ((wr.alloc (.cells #[.int .i64 k1, .int .i64 n1, .int .i64 p1, .string s1, .slice a1 l1 c1] 30)).alloc (.cells #[.int .i64 k1, .int .i64 n1, .int .i64 p1, .string s1, .slice a1 l1 c1, .int .i64 ((yd : Int) + 1)] 62)) (.slice (some ⟨wr.heap.size + 1, 0, none⟩) 1 1) ([⟨k1, n1, p1, s1, a1, l1, c1, yd + 1⟩] : List Dp).length (dflat [⟨k1, n1, p1, s1, a1, l1, c1, yd + 1⟩])) := HSRC.out
         have hB4 : W.heap.size <= ((wr.alloc (.cells #[.int .i64 k1, .int .i64 n1, .int .i64 p1, .string s1, .slice a1 l1 c1] 30)).alloc (.cells #[.int .i64 k1, .int .i64 n1, .int .i64 p1, .string s1, .slice a1 l1 c1, .int .i64 ((yd : Int) + 1)] 62)).heap.size := by simp; omega
         have HB4 := jh hB4
         have HL4 : Hid ((xs ++ [(⟨2, 0, yp, ⟨#[]⟩, some ⟨b1, o1, none⟩, ax.length, yc, yd⟩ : Dp)] ++ zs).length + ([⟨k1, n1, p1, s1, a1, l1, c1, yd + 1⟩] : List Dp).length <= 100000000) := by show _ <= _; simp; omega
         clear hB4
         go_wp2_with (at_builtin; refine appD W.heap.size (xs ++ [(⟨2, 0, yp, ⟨#[]⟩, some ⟨b1, o1, none⟩, ax.length, yc, yd⟩ : Dp)] ++ zs) [(⟨k1, n1, p1, s1, a1, l1, c1, yd + 1⟩ : Dp)] _ u3 (.slice (some ⟨wr.heap.size + 1, 0, none⟩) 1 1) rfl (.tmp 122) (.tmp 128) rfl rfl rfl HSRC2.out HOA.out HB4.out HL4.out ?_; intro v' w' ho' hg' hn'; have HO2 := jh ho'; have HGG := jh hg'; have HN2 := jh hn'; clear ho' hg' hn')
         go_roundw
         case rel =>
          have hblk : ∀ z, z < wr.heap.size -> some z ≠ u3.ownBlock -> w'.heap[z]? = wr.heap[z]? := fun z hz1 hz2 => (HGG.out.block (k := z) (by simp; omega) hz2).trans (HGA.out.block z hz1 (by simp))
          refine ⟨j + 1, zs ++ [⟨k1, n1, p1, s1, a1, l1, c1, yd + 1⟩], by omega, by go_num, by simp [hzl], by rw [← List.append_assoc]; exact HO2.out, fun e => HNE.out (HN2.out.1 e).1, ?_, ?_, ?_, ?_, ?_, ?_⟩
          ·rw [kids_take_succ _ _ _ hlt]
           exact RowOf.append HRO.out ⟨⟨rfl, HLK.out⟩, trivial⟩
          ·exact OwnsD.keep (World.ownsRow.alloc (World.ownsRow.alloc HRE.out _) _) HGG.out HBL.out
          ·rcases HBL.out with h | h
           ·exact .inl h
           ·rcases HGG.out.2 with h2 | ⟨g2, h2, h3⟩
            ·right; rw [h2]; exact h
            ·cases hu : u6.ownBlock with
             | none => exact .inl rfl
             | some z =>
              right; rw [h2]
              have := (World.ownsRow.lt HRE.out z hu).2
              simp at h3 ⊢; omega
          ·rcases HGG.out.2 with h2 | ⟨g2, h2, h3⟩
           ·rw [h2]; exact HXB.out
           ·rw [h2]; simp at h3 ⊢; omega
          ·exact grow_own (Lf.gbt HGZ.out HGA.out) HOA.out (Nat.le_refl _) HGG.out.1
          ·rw [hblk _ hlt2 HXB.out]; exact HBX2.out
         case measure => simp [intOf]; omega
        ·have hje : j = ax.length := by omega
         have HJE := jh hje
         have hB4 : W.heap.size <= wr.heap.size := HGZ.out.size
         have HL4 : Hid ((xs ++ [(⟨2, 0, yp, ⟨#[]⟩, ya, ax.length, yc, yd⟩ : Dp)] ++ zs).length + ys.length <= 100000000) := by show _ <= _; simp; omega
         have HSRC2 := jh (own_src HRE.out)
         go_wp2_with (at_builtin; refine appD W.heap.size (xs ++ [(⟨2, 0, yp, ⟨#[]⟩, ya, ax.length, yc, yd⟩ : Dp)] ++ zs) ys _ u3 u6 rfl (.tmp 131) (.tmp 132) rfl rfl rfl HSRC2.out HO.out hB4 HL4.out ?_; intro v' w' ho' hg' hn'; have HO2 := jh ho'; have HGG := jh hg'; have HN2 := jh hn'; clear ho' hg' hn')
         obtain ⟨g2, cap2, hv2, _, _⟩ := own_form HO2.out (fun e => HNE.out (HN2.out.1 e).1)
         have hro := HRO.out
         rw [HJE.out, List.take_length] at hro
         have hst := szW_step (d := yd) (k := 2) (n := 0) (p := yp) (s := ⟨#[]⟩) (args := ax) (l := L)
         refine ⟨⟨xs ++ [⟨2, 0, yp, ⟨#[]⟩, ya, ax.length, yc, yd⟩], zs ++ ys, kids yd ax ++ L, g2, cap2, ?_, by simp, ?_, RowOf.append hro HROW.out, HST.out, ?_, grow_own HGZ.out HO.out (Nat.le_refl _) HGG.out.1⟩, ?_⟩
         ·rw [hv2]; simp; omega
         ·rw [← List.append_assoc]; exact HO2.out
         ·have h2 := HS.out
          rw [hst] at h2
          simp; omega
         ·have h2 := HS.out
          rw [hst] at h2
          simp [intOf]; omega
     ·have he : yn = 0 /\ yp = 0 /\ ys' = ⟨#[]⟩ := by
       rw [gmore3, decide_eq_false_iff_not] at hm
       exact ⟨by omega, by omega, HSZ.out (by omega)⟩
      obtain ⟨rfl, rfl, rfl⟩ := he
      clear hm hp hk
      go_wp2_with fail
      refine (HRI.out _).mono ?_; rintro e w1 ⟨rfl, rfl⟩
      go_upto_region 16 with (fail)
      go_cut [6] (fun rv wx => OwnsD (wo.heap.size + 1) wx rv ys /\ (wo.alloc (.cells #[.int .i64 3, .int .i64 0, .int .i64 0, .string ⟨#[]⟩, .slice ya ax.length yc, .int .i64 yd] 62)).grownBy wx none)
      case first =>
       rcases hcap with ⟨hcap, hcap2⟩ | ⟨hcap, hys⟩
       ·have hsrc : SrcAt (wo.alloc (.cells #[.int .i64 3, .int .i64 0, .int .i64 0, .string ⟨#[]⟩, .slice ya ax.length yc, .int .i64 yd] 62)) (.slice (some ⟨g, (xs.length + 1) * 6, none⟩) (xs.length + (ys.length + 1) - (xs.length + 1)) (cap - (xs.length + 1))) ys.length (dflat ys) := by
         rw [show xs.length + (ys.length + 1) - (xs.length + 1) = ys.length from by omega]
         have h0 := HOWN.out
         rw [show xs ++ ⟨3, 0, 0, ⟨#[]⟩, ya, ax.length, yc, yd⟩ :: ys = (xs ++ [⟨3, 0, 0, ⟨#[]⟩, ya, ax.length, yc, yd⟩]) ++ ys from by simp] at h0
         have h1 := (OwnsD.tail h0 (by simp; omega) (cap - (xs.length + 1))).alloc (.cells #[.int .i64 3, .int .i64 0, .int .i64 0, .string ⟨#[]⟩, .slice ya ax.length yc, .int .i64 yd] 62)
         rw [List.length_append] at h1
         exact h1
        have HSRC := jh hsrc
        clear hsrc
        go_wp2_with (at_builtin; refine appD (wo.heap.size + 1) [] ys _ (.slice none 0 0) _ rfl (.const (.slice none 0 0)) (.tmp 108) rfl rfl rfl HSRC.out (World.ownsRow_nil _ _ _ _) (by simp) (by simp; omega) ?_; intro v' w' ho' hg' _; have HO := jh ho'; have HGG := jh hg'; clear ho' hg')
        go_meet
        exact ⟨HO.out, HGG.out.1⟩
       ·obtain rfl : ys = [] := List.eq_nil_of_length_eq_zero hys
        subst hcap
        have HSRC : Hid (∀ c m, m = 0 -> SrcAt (wo.alloc (.cells #[.int .i64 3, .int .i64 0, .int .i64 0, .string ⟨#[]⟩, .slice ya ax.length yc, .int .i64 yd] 62)) (.slice (some ⟨g, 0, none⟩) m c) 0 []) := fun c m hm => by subst hm; exact .inr ⟨_, _, rfl, fun j u hu => by simp at hu⟩
        go_wp2_with (at_builtin; refine appD (wo.heap.size + 1) [] [] _ (.slice none 0 0) _ rfl (.const (.slice none 0 0)) (.tmp 108) rfl rfl rfl (HSRC.out _ _ (by simp)) (World.ownsRow_nil _ _ _ _) (by simp) (by simp) ?_; intro v' w' ho' hg' _; have HO := jh ho'; have HGG := jh hg'; clear ho' hg')
        go_meet
        exact ⟨HO.out, HGG.out.1⟩
      case rest =>
       obtain ⟨hrest, hgx⟩ := hcut
       have hcap3 : xs.length + 1 <= cap := by omega
       have HREST := jh hrest
       have HGX := jh hgx
       have hbx : wc.heap[wo.heap.size]? = some (.cells #[.int .i64 3, .int .i64 0, .int .i64 0, .string ⟨#[]⟩, .slice ya ax.length yc, .int .i64 yd] 62 (0, 0)) := (hgx.block _ (by simp) (by simp)).trans (heap_alloc_new _ _)
       have HBX := jh hbx
       obtain ⟨x0, x1, x2, x3, x4, x5⟩ := box6 hbx
       clear hrest hgx hbx
       go_wp2_with fail
       go_loopw [3, 118] (fun rv iv wz => ∃ (j : Nat) (zs : List Dp), j <= ax.length /\ iv = .int .i64 j /\ zs.length = j /\ OwnsD W.heap.size wz rv (xs ++ [⟨3, 0, 0, ⟨#[]⟩, ya, ax.length, yc, yd⟩] ++ zs) /\ rv ≠ .slice none 0 0 /\ RowOf w (kids yd (ax.take j)) zs /\ OwnsD (wo.heap.size + 1) wz u6 ys /\ (u6.ownBlock = none \/ u6.ownBlock ≠ rv.ownBlock) /\ some wo.heap.size ≠ rv.ownBlock /\ W.grownBy wz none /\ wz.heap[wo.heap.size]? = some (.cells #[.int .i64 3, .int .i64 0, .int .i64 0, .string ⟨#[]⟩, .slice ya ax.length yc, .int .i64 yd] 62 (0, 0))) (fun _ iv _ => ax.length - (intOf iv).toNat)
       case atStart =>
        have h0 : OwnsD W.heap.size wc (.slice (some ⟨g, 0, none⟩) (xs.length + (ys.length + 1)) cap) ((xs ++ [⟨3, 0, 0, ⟨#[]⟩, ya, ax.length, yc, yd⟩]) ++ ys) := by
         have h1 := World.ownsRow.kept (World.ownsRow.alloc HOWN.out (.cells #[.int .i64 3, .int .i64 0, .int .i64 0, .string ⟨#[]⟩, .slice ya ax.length yc, .int .i64 yd] 62)) HGX.out (.inr (by simp [Value.ownBlock]))
         rw [List.append_assoc]; exact h1
        have h1 := OwnsD.cut h0
        rw [List.length_append] at h1
        refine ⟨0, [], Nat.zero_le _, rfl, rfl, by rw [List.append_nil]; exact h1, by simp, trivial, HREST.out, ?_, (by have hz2 := (World.ownsRow.lt HOWN.out g rfl).2; simp [Value.ownBlock]; omega), Lf.gbt (Lf.gbt HGR.out (Lf.gb _)) HGX.out, HBX.out⟩
        cases hu : u6.ownBlock with
        | none => exact .inl rfl
        | some z =>
         right
         have hz1 := (World.ownsRow.lt HREST.out z hu).1
         have hz2 := (World.ownsRow.lt HOWN.out g rfl).2
         simp [Value.ownBlock]; omega
       case round =>
        obtain ⟨j, zs, hj, rfl, hzl, ho, hne, hro, hre, hbl, hxb, hgz, hbx⟩ := hrel
        obtain ⟨x0, x1, x2, x3, x4, x5⟩ := box6 hbx
        have hszs : xs.length + 1 + zs.length + ys.length <= 2000000 := by
         have h1 := length_le_sizes ax
         have h2 := HS.out
         have h3 := HZ.out
         simp only [szW, Tr.size] at h2
         have h4 := len_szW L
         have h5 := RowOf.len HROW.out
         omega
        have HO := jh ho
        have HRO := jh hro
        have HRE := jh hre
        have HBL := jh hbl
        have HXB := jh hxb
        have HGZ := jh hgz
        have HNE := jh hne
        have HBX2 := jh hbx
        clear ho hro hre hbl hgz hbx hne hxb
        by_cases hlt : j < ax.length
        ·obtain ⟨b1, o1, rfl, _, k1, n1, p1, s1, a1, l1, c1, hv1, e0, e1, e2, e3, e4⟩ := (HCA.out j hlt).same (same_all (Lf.gbt HW.out HGZ.out))
         have hLk := HRA.out j hlt
         rw [hv1] at hLk
         have HLK := jh hLk
         clear hLk hv1
         have hB3 : W.heap.size <= wo.heap.size := HGR.out.size
         have hlt2 : wo.heap.size < wr.heap.size := (Array.getElem?_eq_some_iff.1 HBX2.out).1
         have HOA := jh (World.ownsRow.alloc (World.ownsRow.alloc HO.out (.cells #[.int .i64 k1, .int .i64 n1, .int .i64 p1, .string s1, .slice a1 l1 c1] 30)) (.cells #[.int .i64 k1, .int .i64 n1, .int .i64 p1, .string s1, .slice a1 l1 c1, .int .i64 ((yd : Int) + 1)] 62))
         have HSRC := jh (SrcAt.new (wr.alloc (.cells #[.int .i64 k1, .int .i64 n1, .int .i64 p1, .string s1, .slice a1 l1 c1] 30)) 62 #[.int .i64 k1, .int .i64 n1, .int .i64 p1, .string s1, .slice a1 l1 c1, .int .i64 ((yd : Int) + 1)] 1 1)
         rw [show (wr.alloc (.cells #[.int .i64 k1, .int .i64 n1, .int .i64 p1, .string s1, .slice a1 l1 c1] 30)).heap.size = wr.heap.size + 1 from by simp] at HSRC
         have HGA := jh (Lf.gbt (Lf.gb (w := wr) (.cells #[.int .i64 k1, .int .i64 n1, .int .i64 p1, .string s1, .slice a1 l1 c1] 30)) (Lf.gb (.cells #[.int .i64 k1, .int .i64 n1, .int .i64 p1, .string s1, .slice a1 l1 c1, .int .i64 ((yd : Int) + 1)] 62)))
         have HSRC2 : Hid (SrcAt ((wr.alloc (.cells #[.int .i64 k1, .int .i64 n1, .int .i64 p1, .string s1, .slice a1 l1 c1] 30)).alloc (.cells #[.int .i64 k1, .int .i64 n1, .int .i64 p1, .string s1, .slice a1 l1 c1, .int .i64 ((yd : Int) + 1)] 62)) (.slice (some ⟨wr.heap.size + 1, 0, none⟩) 1 1) ([⟨k1, n1, p1, s1, a1, l1, c1, yd + 1⟩] : List Dp).length (dflat [⟨k1, n1, p1, s1, a1, l1, c1, yd + 1⟩])) := HSRC.out
         have hB4 : W.heap.size <= ((wr.alloc (.cells #[.int .i64 k1, .int .i64 n1, .int .i64 p1, .string s1, .slice a1 l1 c1] 30)).alloc (.cells #[.int .i64 k1, .int .i64 n1, .int .i64 p1, .string s1, .slice a1 l1 c1, .int .i64 ((yd : Int) + 1)] 62)).heap.size := by simp; omega
         have HB4 := jh hB4
         have HL4 : Hid ((xs ++ [(⟨3, 0, 0, ⟨#[]⟩, some ⟨b1, o1, none⟩, ax.length, yc, yd⟩ : Dp)] ++ zs).length + ([⟨k1, n1, p1, s1, a1, l1, c1, yd + 1⟩] : List Dp).length <= 100000000) := by show _ <= _; simp; omega
         clear hB4
         go_wp2_with (at_builtin; refine appD W.heap.size (xs ++ [(⟨3, 0, 0, ⟨#[]⟩, some ⟨b1, o1, none⟩, ax.length, yc, yd⟩ : Dp)] ++ zs) [(⟨k1, n1, p1, s1, a1, l1, c1, yd + 1⟩ : Dp)] _ u3 (.slice (some ⟨wr.heap.size + 1, 0, none⟩) 1 1) rfl (.tmp 122) (.tmp 128) rfl rfl rfl HSRC2.out HOA.out HB4.out HL4.out ?_; intro v' w' ho' hg' hn'; have HO2 := jh ho'; have HGG := jh hg'; have HN2 := jh hn'; clear ho' hg' hn')
         go_roundw
         case rel =>
          have hblk : ∀ z, z < wr.heap.size -> some z ≠ u3.ownBlock -> w'.heap[z]? = wr.heap[z]? := fun z hz1 hz2 => (HGG.out.block (k := z) (by simp; omega) hz2).trans (HGA.out.block z hz1 (by simp))
          refine ⟨j + 1, zs ++ [⟨k1, n1, p1, s1, a1, l1, c1, yd + 1⟩], by omega, by go_num, by simp [hzl], by rw [← List.append_assoc]; exact HO2.out, fun e => HNE.out (HN2.out.1 e).1, ?_, ?_, ?_, ?_, ?_, ?_⟩
          ·rw [kids_take_succ _ _ _ hlt]
           exact RowOf.append HRO.out ⟨⟨rfl, HLK.out⟩, trivial⟩
          ·exact OwnsD.keep (World.ownsRow.alloc (World.ownsRow.alloc HRE.out _) _) HGG.out HBL.out
          ·rcases HBL.out with h | h
           ·exact .inl h
           ·rcases HGG.out.2 with h2 | ⟨g2, h2, h3⟩
            ·right; rw [h2]; exact h
            ·cases hu : u6.ownBlock with
             | none => exact .inl rfl
             | some z =>
              right; rw [h2]
              have := (World.ownsRow.lt HRE.out z hu).2
              simp at h3 ⊢; omega
          ·rcases HGG.out.2 with h2 | ⟨g2, h2, h3⟩
           ·rw [h2]; exact HXB.out
           ·rw [h2]; simp at h3 ⊢; omega
          ·exact grow_own (Lf.gbt HGZ.out HGA.out) HOA.out (Nat.le_refl _) HGG.out.1
          ·rw [hblk _ hlt2 HXB.out]; exact HBX2.out
         case measure => simp [intOf]; omega
        ·have hje : j = ax.length := by omega
         have HJE := jh hje
         have hB4 : W.heap.size <= wr.heap.size := HGZ.out.size
         have HL4 : Hid ((xs ++ [(⟨3, 0, 0, ⟨#[]⟩, ya, ax.length, yc, yd⟩ : Dp)] ++ zs).length + ys.length <= 100000000) := by show _ <= _; simp; omega
         have HSRC2 := jh (own_src HRE.out)
         go_wp2_with (at_builtin; refine appD W.heap.size (xs ++ [(⟨3, 0, 0, ⟨#[]⟩, ya, ax.length, yc, yd⟩ : Dp)] ++ zs) ys _ u3 u6 rfl (.tmp 131) (.tmp 132) rfl rfl rfl HSRC2.out HO.out hB4 HL4.out ?_; intro v' w' ho' hg' hn'; have HO2 := jh ho'; have HGG := jh hg'; have HN2 := jh hn'; clear ho' hg' hn')
         obtain ⟨g2, cap2, hv2, _, _⟩ := own_form HO2.out (fun e => HNE.out (HN2.out.1 e).1)
         have hro := HRO.out
         rw [HJE.out, List.take_length] at hro
         have hst := szW_step (d := yd) (k := 3) (n := 0) (p := 0) (s := ⟨#[]⟩) (args := ax) (l := L)
         refine ⟨⟨xs ++ [⟨3, 0, 0, ⟨#[]⟩, ya, ax.length, yc, yd⟩], zs ++ ys, kids yd ax ++ L, g2, cap2, ?_, by simp, ?_, RowOf.append hro HROW.out, HST.out, ?_, grow_own HGZ.out HO.out (Nat.le_refl _) HGG.out.1⟩, ?_⟩
         ·rw [hv2]; simp; omega
         ·rw [← List.append_assoc]; exact HO2.out
         ·have h2 := HS.out
          rw [hst] at h2
          simp; omega
         ·have h2 := HS.out
          rw [hst] at h2
          simp [intOf]; omega
    ·have hG : goodF t = Lf.wrongF yk yn yp ys' ax.length := by
      have h0 : fW [(1, t)] = Lf.wrongF yk yn yp ys' ax.length := by rw [← HF.out]; exact fW_wrong h24 hw
      rw [goodF_row, h0, if_pos hw]
     have HG := jh hG
     have HW0 := jh hw
     have HRI := jh (fun w => rin_all yn w iN)
     clear hG hw HL HS HOWN HROW HCA HRA HF HZ hcap hlen iN ik ip
     have HSL := jh (Lf.nil_iff ys')
     by_cases hk0 : yk < 0
     ·have HWF : Hid (goodF t = 3) := HG.out.trans (by simp [Lf.wrongF, Lf.isKindB]; omega)
      go_wp2_with fail
      all_goals
       go_ret
       exact Lf.reti HWF.out.symm (Lf.gbt HGR.out (Lf.gb _))
     by_cases hk3 : 3 < yk
     ·have HWF : Hid (goodF t = 3) := HG.out.trans (by simp [Lf.wrongF, Lf.isKindB]; omega)
      go_wp2_with fail
      all_goals
       go_ret
       exact Lf.reti HWF.out.symm (Lf.gbt HGR.out (Lf.gb _))
     by_cases hpr : yk = 2 /\ Lf.isPrimB yp = false
     ·obtain ⟨rfl, hpr⟩ := hpr
      have HWF : Hid (goodF t = 3) := HG.out.trans (by simp [Lf.wrongF, hpr])
      rw [hpr] at HRP
      clear hpr
      go_wp2_with fail
      refine (HRP.out _).mono ?_; rintro e w1 ⟨rfl, rfl⟩
      go_wp2_with fail
      all_goals
       go_ret
       exact Lf.reti HWF.out.symm (Lf.gbt HGR.out (Lf.gb _))
     have hpt : yk = 2 -> Lf.isPrimB yp = true := fun h => by
      cases hq : Lf.isPrimB yp with
      | true => rfl
      | false => exact absurd ⟨h, hq⟩ hpr
     have hwf : Lf.wrongF yk yn yp ys' ax.length = if Lf.moreB yk yn yp ys' ax.length = true then 1 else if yn < -1152921504606846976 \/ 1152921504606846976 < yn then 2 else if 200 < ys'.size then 4 else 0 := by
      rw [Lf.wrongF, if_neg (by simp [Lf.isKindB]; omega), if_neg hpr]
     have HGW := jh (HG.out.trans hwf)
     have HWW := jh hwf
     clear hpr hwf
     rcases (show yk = 0 \/ yk = 1 \/ yk = 2 \/ yk = 3 from by omega) with rfl | rfl | rfl | rfl
     ·clear hk0 hk3 hpt
      by_cases hs0 : ys'.size = 0
      ·obtain rfl := HSZ.out hs0
       by_cases hp0 : yp = 0
       ·subst hp0
        by_cases hl0 : ax.length = 0
        ·have hn : ¬ (-1152921504606846976 <= yn /\ yn <= 1152921504606846976) := by
          intro hn
          have h1 := HW0.out
          rw [HWW.out] at h1
          apply h1
          rw [if_neg (by rw [gmore0]; simp only [decide_eq_true_eq]; omega), if_neg (by omega), if_neg (by omega)]
         have HWF : Hid (goodF t = 2) := HGW.out.trans (by rw [if_neg (by rw [gmore0]; simp only [decide_eq_true_eq]; omega), if_pos (by omega)])
         rw [decide_eq_false hn] at HRI
         have hal2 : (ax.length : Int) = 0 := by omega
         clear hl0 hn hs0
         go_wp2_with fail
         refine (HRI.out _).mono ?_; rintro e w1 ⟨rfl, rfl⟩
         go_wp2_with fail
         all_goals
          go_ret
          exact Lf.reti HWF.out.symm (Lf.gbt HGR.out (Lf.gb _))
        ·have HWF : Hid (goodF t = 1) := HGW.out.trans (if_pos (by rw [gmore0]; exact decide_eq_true (by omega)))
         have z3 : ¬ (ax.length : Int) = 0 := by omega
         have z1 : ((ax.length : Int) == 0) = false := by rw [beq_eq_false_iff_ne]; exact z3
         have z2 : ((ax.length : Int) != 0) = true := by rw [bne_iff_ne]; exact z3
         clear hl0 hs0
         go_wp2_with fail
         all_goals
          go_ret
          exact Lf.reti HWF.out.symm (Lf.gbt HGR.out (Lf.gb _))
       ·have HWF : Hid (goodF t = 1) := HGW.out.trans (if_pos (by rw [gmore0]; exact decide_eq_true (by omega)))
        have z1 : (yp == 0) = false := by simpa using (by omega : ¬ yp = 0)
        have z2 : (yp != 0) = true := by simpa using (by omega : ¬ yp = 0)
        have z3 : ¬ yp = 0 := by omega
        clear hs0
        go_wp2_with fail
        all_goals
         go_ret
         exact Lf.reti HWF.out.symm (Lf.gbt HGR.out (Lf.gb _))
      ·have HWF : Hid (goodF t = 1) := HGW.out.trans (if_pos (by rw [gmore0]; exact decide_eq_true (by omega)))
       have hs1 : ys'.toList.isEmpty = false := by
        cases hq : ys'.toList with
        | nil => exact absurd (HSL.out.1 hq) hs0
        | cons _ _ => rfl
       have hs2 : ¬ ys'.toList = [] := fun h => hs0 (HSL.out.1 h)
       clear hs0
       go_wp2_with fail
       all_goals
        go_ret
        exact Lf.reti HWF.out.symm (Lf.gbt HGR.out (Lf.gb _))
     ·clear hk0 hk3 hpt
      by_cases hn0 : yn = 0
      ·subst hn0
       by_cases hp0 : yp = 0
       ·subst hp0
        by_cases hl0 : ax.length = 0
        ·have hs2 : 200 < ys'.size := by
          refine Nat.lt_of_not_le fun hn => ?_
          have h1 := HW0.out
          rw [HWW.out] at h1
          apply h1
          rw [if_neg (by rw [gmore1]; simp only [decide_eq_true_eq]; omega), if_neg (by omega), if_neg (by omega)]
         have HWF : Hid (goodF t = 4) := HGW.out.trans (by rw [if_neg (by rw [gmore1]; simp only [decide_eq_true_eq]; omega), if_neg (by omega), if_pos hs2])
         rw [decide_eq_true (by omega)] at HRI
         have hal2 : (ax.length : Int) = 0 := by omega
         have hs3 : (200 : Int) < (ys'.size : Int) := by omega
         clear hl0
         go_wp2_with fail
         refine (HRI.out _).mono ?_; rintro e w1 ⟨rfl, rfl⟩
         go_wp2_with fail
         all_goals
          go_ret
          exact Lf.reti HWF.out.symm (Lf.gbt HGR.out (Lf.gb _))
        ·have HWF : Hid (goodF t = 1) := HGW.out.trans (if_pos (by rw [gmore1]; exact decide_eq_true (by omega)))
         have z3 : ¬ (ax.length : Int) = 0 := by omega
         have z1 : ((ax.length : Int) == 0) = false := by rw [beq_eq_false_iff_ne]; exact z3
         have z2 : ((ax.length : Int) != 0) = true := by rw [bne_iff_ne]; exact z3
         clear hl0
         go_wp2_with fail
         all_goals
          go_ret
          exact Lf.reti HWF.out.symm (Lf.gbt HGR.out (Lf.gb _))
       ·have HWF : Hid (goodF t = 1) := HGW.out.trans (if_pos (by rw [gmore1]; exact decide_eq_true (by omega)))
        have z1 : (yp == 0) = false := by simpa using (by omega : ¬ yp = 0)
        have z2 : (yp != 0) = true := by simpa using (by omega : ¬ yp = 0)
        have z3 : ¬ yp = 0 := by omega
        go_wp2_with fail
        all_goals
         go_ret
         exact Lf.reti HWF.out.symm (Lf.gbt HGR.out (Lf.gb _))
      ·have HWF : Hid (goodF t = 1) := HGW.out.trans (if_pos (by rw [gmore1]; exact decide_eq_true (by omega)))
       have z1 : (yn == 0) = false := by simpa using (by omega : ¬ yn = 0)
       have z2 : (yn != 0) = true := by simpa using (by omega : ¬ yn = 0)
       have z3 : ¬ yn = 0 := by omega
       go_wp2_with fail
       all_goals
        go_ret
        exact Lf.reti HWF.out.symm (Lf.gbt HGR.out (Lf.gb _))
     ·rw [hpt rfl] at HRP
      clear hk0 hk3 hpt
      by_cases hn0 : yn = 0
      ·subst hn0
       by_cases hs0 : ys'.size = 0
       ·exact absurd HW0.out (by rw [HWW.out, if_neg (by rw [gmore2]; simp only [decide_eq_true_eq]; omega), if_neg (by omega), if_neg (by omega)]; simp)
       ·have HWF : Hid (goodF t = 1) := HGW.out.trans (if_pos (by rw [gmore2]; exact decide_eq_true (by omega)))
        have hs1 : ys'.toList.isEmpty = false := by
         cases hq : ys'.toList with
         | nil => exact absurd (HSL.out.1 hq) hs0
         | cons _ _ => rfl
        have hs2 : ¬ ys'.toList = [] := fun h => hs0 (HSL.out.1 h)
        clear hs0
        go_wp2_with fail
        refine (HRP.out _).mono ?_; rintro e w1 ⟨rfl, rfl⟩
        go_wp2_with fail
        all_goals
         go_ret
         exact Lf.reti HWF.out.symm (Lf.gbt HGR.out (Lf.gb _))
      ·have HWF : Hid (goodF t = 1) := HGW.out.trans (if_pos (by rw [gmore2]; exact decide_eq_true (by omega)))
       have z1 : (yn == 0) = false := by simpa using (by omega : ¬ yn = 0)
       have z2 : (yn != 0) = true := by simpa using (by omega : ¬ yn = 0)
       have z3 : ¬ yn = 0 := by omega
       go_wp2_with fail
       refine (HRP.out _).mono ?_; rintro e w1 ⟨rfl, rfl⟩
       go_wp2_with fail
       all_goals
        go_ret
        exact Lf.reti HWF.out.symm (Lf.gbt HGR.out (Lf.gb _))
     ·clear hk0 hk3 hpt
      by_cases hn0 : yn = 0
      ·subst hn0
       by_cases hp0 : yp = 0
       ·subst hp0
        by_cases hs0 : ys'.size = 0
        ·exact absurd HW0.out (by rw [HWW.out, if_neg (by rw [gmore3]; simp only [decide_eq_true_eq]; omega), if_neg (by omega), if_neg (by omega)]; simp)
        ·have HWF : Hid (goodF t = 1) := HGW.out.trans (if_pos (by rw [gmore3]; exact decide_eq_true (by omega)))
         have hs1 : ys'.toList.isEmpty = false := by
          cases hq : ys'.toList with
          | nil => exact absurd (HSL.out.1 hq) hs0
          | cons _ _ => rfl
         have hs2 : ¬ ys'.toList = [] := fun h => hs0 (HSL.out.1 h)
         clear hs0
         go_wp2_with fail
         all_goals
          go_ret
          exact Lf.reti HWF.out.symm (Lf.gbt HGR.out (Lf.gb _))
       ·have HWF : Hid (goodF t = 1) := HGW.out.trans (if_pos (by rw [gmore3]; exact decide_eq_true (by omega)))
        have z1 : (yp == 0) = false := by simpa using (by omega : ¬ yp = 0)
        have z2 : (yp != 0) = true := by simpa using (by omega : ¬ yp = 0)
        have z3 : ¬ yp = 0 := by omega
        go_wp2_with fail
        all_goals
         go_ret
         exact Lf.reti HWF.out.symm (Lf.gbt HGR.out (Lf.gb _))
      ·have HWF : Hid (goodF t = 1) := HGW.out.trans (if_pos (by rw [gmore3]; exact decide_eq_true (by omega)))
       have z1 : (yn == 0) = false := by simpa using (by omega : ¬ yn = 0)
       have z2 : (yn != 0) = true := by simpa using (by omega : ¬ yn = 0)
       have z3 : ¬ yn = 0 := by omega
       go_wp2_with fail
       all_goals
        go_ret
        exact Lf.reti HWF.out.symm (Lf.gbt HGR.out (Lf.gb _))
end Go.Proofs.YthjpngaapflclacGreat
