/- canTell, Node, Told and Pack by their contracts. -/
import Derived.Test.YtmmgihaoahhkjaaTellOP
import Derived.Test.YtmmgihaoahhkjaaTreeB
import Derived.Test.YtmmgihaoahhkjaaWorth
namespace Go.Proofs.Ytmmgihaoahhkjaa
set_option maxRecDepth 20000
open Go.ChangeShapes Go.WideShapes Go.ChangeAt Go.RowKit
set_option linter.unusedVariables false

def canF (T : Ty) (x : Va) : Bool := hasF T x && packT T

theorem lt_of_blk3 {w : World} {b : Nat} {o : Obj} (h : w.heap[b]? = some o) : b < w.heap.size := (Array.getElem?_eq_some_iff.1 h).1

set_option maxRecDepth 100000 in
set_option maxHeartbeats 1000000 in
theorem canTell_any {W : World} {T : Ty} {x : Va} {tv v : Value} (hT : LiesT (fun _ => True) W T tv) (hV : LiesV (fun _ => True) W x v) (hz : x.size ≤ 20000000) :
    Calls Try.prog 44 #[tv, v] W fun e w' => e = .returned (.bool (canF T x)) ∧ W.grownBy w' none := by
  obtain ⟨k1, n1, a1, s1, aa1, al1, ac1, ta1, tl1, tc1, na1, nl1, nc1, rfl⟩ := hV.vaV
  have HH : Hid (∀ W2, W.grownBy W2 none → Calls Try.prog 10 #[tv, vaV k1 n1 a1 s1 aa1 al1 ac1 ta1 tl1 tc1 na1 nl1 nc1] W2 fun e w' => e = .returned (.bool (hasF T x)) ∧ W2.grownBy w' none) := fun W2 hg => has_any hT hV hz W2 hg
  have HP : Hid (hasF T x = true → ∀ W2, W.grownBy W2 none → Calls Try.prog 22 #[tv] W2 fun e w' => e = .returned (.bool (packT T)) ∧ W2.grownBy w' none) := fun hh W2 hg => packed_any (LiesT.up hT hg) (by
    unfold hasF at hh
    simp only [Bool.and_eq_true] at hh
    have := (goodTy_formed hh.1).2.1
    omega)
  obtain ⟨a, c, VT, rfl, it, hRT⟩ := hT.inv
  clear hT hV hz it hRT
  unfold canF
  have hb := res_new W (.cells #[.int .i64 T.t, .slice a T.args.length c] 24) (.cells #[.int .i64 k1, .int .i64 n1, .int .i64 a1, .string s1, .slice aa1 al1 ac1, .slice ta1 tl1 tc1, .slice na1 nl1 nc1] 28)
  have HB := Lf.hide hb
  clear hb
  unfold tyV vaV at *
  cases hh : hasF T x with
  | false =>
    rw [hh] at HH
    clear HP hh
    go_enter Try.func44, Try.ntmps44
    go_wp2_with fail
    refine (HH.out _ (Lf.gbt (Lf.gb _) (Lf.gb _))).mono ?_; rintro e w1 ⟨rfl, hg⟩
    have HG := Lf.hide (Lf.gbt (Lf.gbt (Lf.gb _) (Lf.gb _)) hg)
    clear hg
    go_wp2_with fail
    go_ret
    exact ⟨rfl, HG.out⟩
  | true =>
    have HP2 := Lf.hide (HP.out hh)
    rw [hh] at HH
    clear HP hh
    generalize packT T = pk at *
    go_enter Try.func44, Try.ntmps44
    go_wp2_with fail
    refine (HH.out _ (Lf.gbt (Lf.gb _) (Lf.gb _))).mono ?_; rintro e w1 ⟨rfl, hg⟩
    have hb1 := (hg.block _ (lt_of_blk3 HB.out) (by simp)).trans HB.out
    have q0 := cell0_of hb1
    have q1 := cell1_of hb1
    have HG := Lf.hide (Lf.gbt (Lf.gbt (Lf.gb _) (Lf.gb _)) hg)
    clear hg hb1
    go_wp2_with fail
    refine (HP2.out _ HG.out).mono ?_; rintro e w2 ⟨rfl, hg⟩
    have HG2 := Lf.hide (Lf.gbt HG.out hg)
    clear hg
    go_wp2_with fail
    go_ret
    exact Lf.retb (by simp) HG2.out

def VNodeP (gf : Int) (T : Ty) (x : Va) (W : World) (e : Ending) (w' : World) : Prop :=
  W.grownBy w' none ∧ ((canF T x = false ∧ e = .returned (.tuple #[nodeV 0 0 0 ⟨#[]⟩ none 0 0, .int .i64 5])) ∨ (canF T x = true ∧ gf ≠ 0 ∧ e = .returned (.tuple #[nodeV 0 0 0 ⟨#[]⟩ none 0 0, .int .i64 gf])) ∨
    (canF T x = true ∧ gf = 0 ∧ ∃ u, e = .returned (.tuple #[u, .int .i64 0]) ∧ Lies (W.heap.size ≤ ·) w' (toldF x) u))
def VNodePost (T : Ty) (x : Va) (W : World) : Ending → World → Prop := VNodeP (goodF (toldF x)) T x W

theorem can_parts {T : Ty} {x : Va} (h : canF T x = true) : goodTy T = true ∧ hasV x T = true ∧ packT T = true := by
  unfold canF hasF at h
  simp only [Bool.and_eq_true] at h
  exact ⟨h.1.1, h.1.2, h.2⟩

theorem can_size {T : Ty} {x : Va} (h : canF T x = true) : (toldF x).size ≤ 301 := by
  obtain ⟨h1, h2, h3⟩ := can_parts h
  exact (told_good h2 h3 (goodTy_formed h1).1).2.2

def ToldPost (x : Va) (W : World) (e : Ending) (w' : World) : Prop :=
  W.grownBy w' none ∧ ((goodF (toldF x) ≠ 0 ∧ e = .returned (.tuple #[.string ⟨#[]⟩, .int .i64 (goodF (toldF x))])) ∨ (goodF (toldF x) = 0 ∧ 199 < (encTr (toldF x)).length ∧ e = .returned (.tuple #[.string ⟨#[]⟩, .int .i64 4])) ∨
    (goodF (toldF x) = 0 ∧ (encTr (toldF x)).length ≤ 199 ∧ e = .returned (.tuple #[.string ⟨((5 : UInt8) :: encTr (toldF x)).toArray⟩, .int .i64 0])))

theorem cat5 (l : List UInt8) : (⟨#[5]⟩ : ByteArray) ++ ⟨l.toArray⟩ = ⟨((5 : UInt8) :: l).toArray⟩ := by
  apply ByteArray.ext
  simp [ByteArray.data_append]

set_option maxRecDepth 100000 in
set_option maxHeartbeats 1000000 in
theorem told_any {W : World} {x : Va} {v : Value} (hV : LiesV (fun _ => True) W x v) (hz : x.size ≤ 20000000) (hs : (toldF x).size ≤ 301) : Calls Try.prog 48 #[v] W (ToldPost x W) := by
  obtain ⟨k1, n1, a1, s1, aa1, al1, ac1, ta1, tl1, tc1, na1, nl1, nc1, rfl⟩ := hV.vaV
  have HT := Lf.hide (treeOf_any (hV.same (sameAll (Lf.gb (.cells #[.int .i64 k1, .int .i64 n1, .int .i64 a1, .string s1, .slice aa1 al1 ac1, .slice ta1 tl1 tc1, .slice na1 nl1 nc1] 28)))) hz)
  clear hV hz
  by_cases hg0 : goodF (toldF x) = 0
  · have HE : Hid (∀ (W2 : World) (u : Value), Lies (fun _ => True) W2 (toldF x) u → Calls Try.prog 89 #[u] W2 fun e w' => e = .returned (.tuple #[.string ⟨(encTr (toldF x)).toArray⟩, .int .i64 0]) ∧ W2.grownBy w' none) := fun W2 u h => encode_yes (h.okMono (fun b hb _ => hb)) hg0
    have HG0 := Lf.hide hg0
    have hlen : (encTr (toldF x)).length ≤ 64500 := by
      obtain ⟨h1, h2⟩ := goodF_zero hg0
      have := encTr_bound 1 _ h1 (by omega); omega
    unfold ToldPost
    clear hg0
    unfold vaV at *
    go_enter Try.func48, Try.ntmps48
    go_wp2_with fail
    refine HT.out.mono ?_; rintro e w1 ⟨hg1, u, rfl, hLu⟩
    have HC := Lf.hide (HE.out w1 u (hLu.okMono (fun _ _ _ => trivial)))
    obtain ⟨ku, nu, pu, su, au, lu, cu, rfl⟩ := hLu.nodeV
    have HG1 := Lf.hide (Lf.gbt (Lf.gb _) hg1)
    clear hg1 hLu HE HT
    unfold nodeV at *
    go_wp2_with fail
    refine HC.out.mono ?_; rintro e w2 ⟨rfl, hg2⟩
    have HG2 := Lf.hide (Lf.gbt HG1.out hg2)
    have hsz : (⟨(encTr (toldF x)).toArray⟩ : ByteArray).size = (encTr (toldF x)).length := by simp [ByteArray.size]
    have HCAT := Lf.hide (cat5 (encTr (toldF x)))
    clear hg2 HC
    have HTX : Hid (goodF (toldF x) = 0) := HG0.out
    by_cases hl : (encTr (toldF x)).length ≤ 199
    · have hli : ¬ (200 : Int) < 1 + ((encTr (toldF x)).length : Int) := by omega
      have hw : IntKind.i64.wrap (1 + ((encTr (toldF x)).length : Int)) = 1 + ((encTr (toldF x)).length : Int) := by rw [IntKind.wrap_i64]; omega
      go_wp2_with fail
      go_ret2
      refine ⟨HG2.out, .inr (.inr ⟨HTX.out, hl, ?_⟩)⟩
      rw [← HCAT.out]; rfl
    · have hli : (200 : Int) < 1 + ((encTr (toldF x)).length : Int) := by omega
      have hw : IntKind.i64.wrap (1 + ((encTr (toldF x)).length : Int)) = 1 + ((encTr (toldF x)).length : Int) := by rw [IntKind.wrap_i64]; omega
      go_wp2_with fail
      go_ret2
      exact ⟨HG2.out, .inr (.inl ⟨HTX.out, by omega, rfl⟩)⟩
  · have HE : Hid (∀ (W2 : World) (u : Value), Lies (fun _ => True) W2 (toldF x) u → Calls Try.prog 89 #[u] W2 fun e w' => e = .returned (.tuple #[.string ⟨#[]⟩, .int .i64 (goodF (toldF x))]) ∧ W2.grownBy w' none) := fun W2 u h => encode_no (h.okMono (fun b hb _ => hb)) (by omega) hg0
    have HG0 := Lf.hide hg0
    have hgb : (goodF (toldF x) == 0) = false := by simpa using hg0
    unfold ToldPost
    clear hg0
    unfold vaV at *
    go_enter Try.func48, Try.ntmps48
    go_wp2_with fail
    refine HT.out.mono ?_; rintro e w1 ⟨hg1, u, rfl, hLu⟩
    have HC := Lf.hide (HE.out w1 u (hLu.okMono (fun _ _ _ => trivial)))
    obtain ⟨ku, nu, pu, su, au, lu, cu, rfl⟩ := hLu.nodeV
    have HG1 := Lf.hide (Lf.gbt (Lf.gb _) hg1)
    clear hg1 hLu HE HT
    unfold nodeV at *
    go_wp2_with fail
    refine HC.out.mono ?_; rintro e w2 ⟨rfl, hg2⟩
    have HG2 := Lf.hide (Lf.gbt HG1.out hg2)
    clear hg2 HC
    go_wp2_with fail
    go_ret2
    exact ⟨HG2.out, .inl ⟨HG0.out, rfl⟩⟩

def PackPost (T : Ty) (x : Va) (W : World) (e : Ending) (w' : World) : Prop := (canF T x = false ∧ W.grownBy w' none ∧ e = .returned (.tuple #[.string ⟨#[]⟩, .int .i64 5])) ∨ (canF T x = true ∧ ToldPost x W e w')

theorem ToldPost.up {x : Va} {W W2 : World} {e : Ending} {w' : World} (h : ToldPost x W2 e w') (hg : W.grownBy W2 none) : ToldPost x W e w' := ⟨Lf.gbt hg h.1, h.2⟩

theorem ToldPost.form {x : Va} {W : World} {e : Ending} {w' : World} (h : ToldPost x W e w') : ∃ s n, e = .returned (.tuple #[.string s, .int .i64 n]) := by
  rcases h.2 with ⟨_, h⟩ | ⟨_, _, h⟩ | ⟨_, _, h⟩ <;> exact ⟨_, _, h⟩

set_option maxRecDepth 100000 in
set_option maxHeartbeats 1000000 in
theorem pack_any {W : World} {T : Ty} {x : Va} {tv v : Value} (hT : LiesT (fun _ => True) W T tv) (hV : LiesV (fun _ => True) W x v) (hz : x.size ≤ 20000000) : Calls Try.prog 20 #[tv, v] W (PackPost T x W) := by
  have hg2 : ∀ o1 o2 : Obj, W.grownBy ((W.alloc o1).alloc o2) none := fun _ _ => Lf.gbt (Lf.gb _) (Lf.gb _)
  have HC : Hid (∀ o1 o2 : Obj, Calls Try.prog 44 #[tv, v] ((W.alloc o1).alloc o2) fun e w' => e = .returned (.bool (canF T x)) ∧ ((W.alloc o1).alloc o2).grownBy w' none) := fun o1 o2 => canTell_any (LiesT.same hT (sameAll (hg2 o1 o2))) (hV.same (sameAll (hg2 o1 o2))) hz
  have HT : Hid (canF T x = true → ∀ W2, W.grownBy W2 none → Calls Try.prog 48 #[v] W2 (ToldPost x W2)) := fun hc W2 hg => told_any (hV.same (sameAll hg)) hz (can_size hc)
  obtain ⟨k1, n1, a1, s1, aa1, al1, ac1, ta1, tl1, tc1, na1, nl1, nc1, rfl⟩ := hV.vaV
  obtain ⟨a, c, VT, rfl, it, hRT⟩ := hT.inv
  have HB := Lf.hide (new_twoI W (.cells #[.int .i64 T.t, .slice a T.args.length c] 24) (.cells #[.int .i64 k1, .int .i64 n1, .int .i64 a1, .string s1, .slice aa1 al1 ac1, .slice ta1 tl1 tc1, .slice na1 nl1 nc1] 28))
  have HG2 := Lf.hide hg2
  clear hT hV hz it hRT hg2
  unfold tyV vaV at *
  cases hc : canF T x with
  | false =>
    rw [hc] at HC
    have HCF := Lf.hide hc
    clear HT hc
    go_enter Try.func20, Try.ntmps20
    go_wp2_with fail
    refine (HC.out _ _).mono ?_; rintro e w1 ⟨rfl, hg⟩
    have HG := Lf.hide (Lf.gbt (HG2.out _ _) hg)
    clear hg
    go_wp2_with fail
    go_ret2
    exact .inl ⟨HCF.out, HG.out, rfl⟩
  | true =>
    have HTT := Lf.hide (HT.out hc)
    rw [hc] at HC
    have HCF := Lf.hide hc
    clear HT hc
    go_enter Try.func20, Try.ntmps20
    go_wp2_with fail
    refine (HC.out _ _).mono ?_; rintro e w1 ⟨rfl, hg⟩
    have hb1 := (hg.block _ (lt_of_blk3 HB.out) (by simp)).trans HB.out
    obtain ⟨q0, q1, q2, q3, q4, q5, q6⟩ := box7 hb1
    have HG := Lf.hide (Lf.gbt (HG2.out _ _) hg)
    clear hg hb1
    go_wp2_with fail
    refine (HTT.out _ HG.out).mono ?_; rintro e w2 hpost
    have HP := Lf.hide (hpost.up HG.out)
    obtain ⟨st, er, rfl⟩ := hpost.form
    clear hpost
    go_wp2_with fail
    go_ret2
    exact .inr ⟨HCF.out, HP.out⟩

set_option maxRecDepth 100000 in
set_option maxHeartbeats 1000000 in
theorem vnode_any {W : World} {T : Ty} {x : Va} {tv v : Value} (hT : LiesT (fun _ => True) W T tv) (hV : LiesV (fun _ => True) W x v) (hz : x.size ≤ 20000000) : Calls Try.prog 18 #[tv, v] W (VNodePost T x W) := by
  have hC : ∀ W2, W.grownBy W2 none → Calls Try.prog 44 #[tv, v] W2 fun e w' => e = .returned (.bool (canF T x)) ∧ W2.grownBy w' none := fun W2 hg => canTell_any (LiesT.same hT (sameAll hg)) (hV.same (sameAll hg)) hz
  have HC := Lf.hide hC
  have HT : Hid (∀ W2, W.grownBy W2 none → Calls Try.prog 45 #[v] W2 fun e w' => W2.grownBy w' none ∧ ∃ v, e = .returned v ∧ Lies (W2.heap.size ≤ ·) w' (toldF x) v) := fun W2 hg => treeOf_any (hV.same (sameAll hg)) hz
  have HD : Hid (canF T x = true → ∀ (W2 : World) (u : Value), Lies (fun _ => True) W2 (toldF x) u → Calls Try.prog 46 #[u] W2 fun e w' => e = .returned (.int .i64 (goodF (toldF x))) ∧ W2.grownBy w' none) := fun hc W2 u h => good_any (h.okMono (fun b hb _ => hb)) (by have := can_size hc; omega)
  obtain ⟨k1, n1, a1, s1, aa1, al1, ac1, ta1, tl1, tc1, na1, nl1, nc1, rfl⟩ := hV.vaV
  obtain ⟨a, c, VT, rfl, it, hRT⟩ := hT.inv
  let A : Obj := .cells #[.int .i64 T.t, .slice a T.args.length c] 24
  let B : Obj := .cells #[.int .i64 k1, .int .i64 n1, .int .i64 a1, .string s1, .slice aa1 al1 ac1, .slice ta1 tl1 tc1, .slice na1 nl1 nc1] 28
  let Z : Obj := .cells #[.int .i64 0, .int .i64 0, .int .i64 0, .string ⟨#[]⟩, .slice none 0 0] 39
  have HB0 := Lf.hide (new_2of3 W A B Z)
  have HZ0 := Lf.hide (new_3of3 W A B Z)
  have HG0 := Lf.hide (Lf.gbt (Lf.gbt (Lf.gb (w := W) A) (Lf.gb B)) (Lf.gb Z))
  clear hT hV hz it hRT hC
  unfold tyV vaV at *
  cases hc : canF T x with
  | false =>
    rw [hc] at HC
    have HCF := Lf.hide hc
    clear HT hc HD
    go_enter Try.func18, Try.ntmps18
    go_wp2_with fail
    refine (HC.out _ HG0.out).mono ?_; rintro e w1 ⟨rfl, hg⟩
    have HZ1 := Lf.hide ((hg.block _ (lt_of_blk3 HZ0.out) (by simp)).trans HZ0.out)
    have HG1 := Lf.hide (Lf.gbt HG0.out hg)
    obtain ⟨r0, r1, r2, r3, r4⟩ := box5 HZ1.out
    obtain ⟨p0, p1, p2, p3, p4⟩ := box5f HZ1.out
    clear hg
    go_wp2_with fail
    change bodyPost _ _ _ _ _ (set5 w1 (W.heap.size + 1 + 1) (.int .i64 0) (.int .i64 0) (.int .i64 0) (.string ⟨#[]⟩) (.slice none 0 0))
    have hb' := set5_block HZ1.out (.int .i64 0) (.int .i64 0) (.int .i64 0) (.string ⟨#[]⟩) (.slice none 0 0)
    have hg' := grow_new HG1.out (set5_grow w1 (W.heap.size + 1 + 1) (.int .i64 0) (.int .i64 0) (.int .i64 0) (.string ⟨#[]⟩) (.slice none 0 0)) (by omega)
    generalize set5 w1 (W.heap.size + 1 + 1) (.int .i64 0) (.int .i64 0) (.int .i64 0) (.string ⟨#[]⟩) (.slice none 0 0) = wf at *
    obtain ⟨z0, z1, z2, z3, z4⟩ := box5 hb'
    exact bodyPost_ret (v := .tuple #[nodeV 0 0 0 ⟨#[]⟩ none 0 0, .int .i64 5]) (by simp [results, Try.results18, go_sem, z0, z1, z2, z3, z4, nodeV]) rfl ⟨hg', .inl ⟨HCF.out, rfl⟩⟩
  | true =>
    have HDD := Lf.hide (HD.out hc)
    rw [hc] at HC
    have HCF := Lf.hide hc
    clear hc HD
    unfold VNodePost
    generalize hgf : goodF (toldF x) = gf at *
    have HGF := Lf.hide hgf
    clear hgf
    go_enter Try.func18, Try.ntmps18
    go_wp2_with fail
    refine (HC.out _ HG0.out).mono ?_; rintro e w1 ⟨rfl, hg⟩
    have HZ1 := Lf.hide ((hg.block _ (lt_of_blk3 HZ0.out) (by simp)).trans HZ0.out)
    have HB1 := Lf.hide ((hg.block _ (lt_of_blk3 HB0.out) (by simp)).trans HB0.out)
    have HG1 := Lf.hide (Lf.gbt HG0.out hg)
    obtain ⟨q0, q1, q2, q3, q4, q5, q6⟩ := box7 HB1.out
    clear hg
    go_wp2_with fail
    refine (HT.out _ HG1.out).mono ?_; rintro e w2 ⟨hg, u, rfl, hLu⟩
    obtain ⟨ku, nu, pu, su, au, lu, cu, rfl⟩ := hLu.nodeV
    have HZ2 := Lf.hide ((hg.block _ (lt_of_blk3 HZ1.out) (by simp)).trans HZ1.out)
    have HG2 := Lf.hide (Lf.gbt HG1.out hg)
    have hl2 := lt_of_blk3 HZ2.out
    have HX9 := Lf.hide (heap_alloc_new w2 (.cells #[.int .i64 ku, .int .i64 nu, .int .i64 pu, .string su, .slice au lu cu] 39))
    have HZ9 := Lf.hide (heap_keep (o := .cells #[.int .i64 ku, .int .i64 nu, .int .i64 pu, .string su, .slice au lu cu] 39) HZ2.out)
    have HG9 := Lf.hide (Lf.gbt HG2.out (Lf.gb (.cells #[.int .i64 ku, .int .i64 nu, .int .i64 pu, .string su, .slice au lu cu] 39)))
    have hL9 := hLu.same (w' := w2.alloc (.cells #[.int .i64 ku, .int .i64 nu, .int .i64 pu, .string su, .slice au lu cu] 39)) (fun b o _ hlt => World.cell?_of_block (heap_alloc_old (w := w2) (o := _) (h := hlt)))
    have hlw := lt_of_blk3 HZ1.out
    have HL9 := Lf.hide (hL9.okMono (ok' := (W.heap.size + 1 + 1 + 1 ≤ ·)) (fun b _ hb => by have h : w1.heap.size ≤ b := hb; show W.heap.size + 1 + 1 + 1 ≤ b; omega))
    have HGD := Lf.hide (HDD.out _ _ (hL9.okMono (fun _ _ _ => trivial)))
    clear hg hLu hL9 q0 q1 q2 q3 q4 q5 q6 HDD HT HC
    unfold nodeV at HGD ⊢
    go_wp2_with fail
    refine HGD.out.mono ?_; rintro e w3 ⟨rfl, hg⟩
    have HZ3 := Lf.hide ((hg.block _ (lt_of_blk3 HZ9.out) (by simp)).trans HZ9.out)
    have HX3 := Lf.hide ((hg.block _ (lt_of_blk3 HX9.out) (by simp)).trans HX9.out)
    have HG3 := Lf.hide (Lf.gbt HG9.out hg)
    have HL3 := Lf.hide (HL9.out.same (w' := w3) (fun b o _ hlt => World.cell?_of_block (hg.block b hlt (by simp))))
    obtain ⟨r0, r1, r2, r3, r4⟩ := box5 HZ3.out
    obtain ⟨p0, p1, p2, p3, p4⟩ := box5f HZ3.out
    obtain ⟨x0, x1, x2, x3, x4⟩ := box5 HX3.out
    clear hg HGD HL9
    by_cases hg0 : gf = 0
    · subst hg0
      go_wp2_with fail
      change bodyPost _ _ _ _ _ (set5 w3 (W.heap.size + 1 + 1) (.int .i64 ku) (.int .i64 nu) (.int .i64 pu) (.string su) (.slice au lu cu))
      have hb' := set5_block HZ3.out (.int .i64 ku) (.int .i64 nu) (.int .i64 pu) (.string su) (.slice au lu cu)
      have hgs := set5_grow w3 (W.heap.size + 1 + 1) (.int .i64 ku) (.int .i64 nu) (.int .i64 pu) (.string su) (.slice au lu cu)
      have hg' := grow_new HG3.out hgs (by omega)
      generalize set5 w3 (W.heap.size + 1 + 1) (.int .i64 ku) (.int .i64 nu) (.int .i64 pu) (.string su) (.slice au lu cu) = wf at *
      obtain ⟨z0, z1, z2, z3, z4⟩ := box5 hb'
      refine bodyPost_ret (v := .tuple #[nodeV ku nu pu su au lu cu, .int .i64 0]) (by simp [results, Try.results18, go_sem, z0, z1, z2, z3, z4, nodeV]) rfl ⟨hg', .inr (.inr ⟨HCF.out, rfl, _, rfl, ?_⟩)⟩
      exact (HL3.out.same (fun b o hb hlt => World.cell?_of_block (hgs.block b hlt (by simp; have h : W.heap.size + 1 + 1 + 1 ≤ b := hb; omega)))).okMono (fun b _ hb => by have h : W.heap.size + 1 + 1 + 1 ≤ b := hb; show W.heap.size ≤ b; omega)
    · have hgb : (gf == 0) = false := by simpa using hg0
      have HN0 := Lf.hide hg0
      clear hg0
      go_wp2_with fail
      change bodyPost _ _ _ _ _ (set5 w3 (W.heap.size + 1 + 1) (.int .i64 0) (.int .i64 0) (.int .i64 0) (.string ⟨#[]⟩) (.slice none 0 0))
      have hb' := set5_block HZ3.out (.int .i64 0) (.int .i64 0) (.int .i64 0) (.string ⟨#[]⟩) (.slice none 0 0)
      have hg' := grow_new HG3.out (set5_grow w3 (W.heap.size + 1 + 1) (.int .i64 0) (.int .i64 0) (.int .i64 0) (.string ⟨#[]⟩) (.slice none 0 0)) (by omega)
      generalize set5 w3 (W.heap.size + 1 + 1) (.int .i64 0) (.int .i64 0) (.int .i64 0) (.string ⟨#[]⟩) (.slice none 0 0) = wf at *
      obtain ⟨z0, z1, z2, z3, z4⟩ := box5 hb'
      exact bodyPost_ret (v := .tuple #[nodeV 0 0 0 ⟨#[]⟩ none 0 0, .int .i64 gf]) (by simp [results, Try.results18, go_sem, z0, z1, z2, z3, z4, nodeV]) rfl ⟨hg', .inr (.inl ⟨HCF.out, HN0.out, rfl⟩)⟩

end Go.Proofs.Ytmmgihaoahhkjaa
