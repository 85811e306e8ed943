/- For every type and value whose reading holds at most 1048576 values and letters, ValueTells returns true and leaves its arguments as they were: Node and Pack answer as the document's own ValueNode and Pack do, errors too. Condition: that bound on the reading. -/
import Derived.Test.YtfnolfpbicffhacRTells
import Derived.Test.YtfnolfpbicffhacAlikes
import Derived.Test.YtfnolfpbicffhacWorth
import Derived.Test.YtfnolfpbicffhacRows
import Derived.Test.YtfnolfpbicffhacOpenA
import Derived.JoinedCond
namespace Go.Proofs.Ytfnolfpbicffhac
set_option maxRecDepth 20000
open Go.ChangeShapes Go.WideShapes Go.ChangeAt Go.RowKit
set_option linter.unusedVariables false

theorem worthL_any (W : World) : Calls Try.prog 22 #[] W fun e w' => e = .returned (.bool true) ∧ W.grownBy w' none := by
  have HP := Lf.hide parse5_any
  have HS := Lf.hide size1_any
  unfold tyV nodeV vaV at *
  go_enter Try.func22, Try.ntmps22
  go_wp2_with fail
  refine (HP.out _).mono ?_; rintro e w1 ⟨rfl, hg⟩
  have HG := Lf.hide hg
  clear hg
  go_wp2_with fail
  refine (HS.out _).mono ?_; rintro e w2 ⟨rfl, hg⟩
  have HG2 := Lf.hide (Lf.gbt (Lf.gbt HG.out (Lf.gb _)) hg)
  clear hg
  go_wp2_with fail
  go_ret
  exact ⟨rfl, HG2.out⟩

set_option maxRecDepth 100000 in
set_option maxHeartbeats 2000000 in
theorem tells_walk {W : World} {tv v : Value} {t0 : Int} {a : Option Addr} {l c : Nat} (htv : tv = tyV t0 a l c) {k1 n1 a1 : Int} {s1 : ByteArray} {aa1 : Option Addr} {al1 ac1 : Nat} {ta1 : Option Addr} {tl1 tc1 : Nat} {na1 : Option Addr} {nl1 nc1 : Nat} (hv : v = vaV k1 n1 a1 s1 aa1 al1 ac1 ta1 tl1 tc1 na1 nl1 nc1) {t : Tr} {er ec : Int} {sx : ByteArray}
    (HN : Hid (∀ W2, W.grownBy W2 none → Calls Try.prog 23 #[tv, v] W2 fun e w' => W2.grownBy w' none ∧ ∃ u, e = .returned (.tuple #[u, .int .i64 er]) ∧ Lies (fun _ => True) w' t u))
    (HR : Hid (∀ W2, W.grownBy W2 none → Calls Try.prog 24 #[tv, v] W2 fun e w' => W2.grownBy w' none ∧ ∃ u, e = .returned (.tuple #[u, .int .i64 er]) ∧ Lies (fun _ => True) w' t u))
    (HP : Hid (∀ W2, W.grownBy W2 none → Calls Try.prog 26 #[tv, v] W2 fun e w' => W2.grownBy w' none ∧ e = .returned (.tuple #[.string sx, .int .i64 ec])))
    (HQ : Hid (∀ W2, W.grownBy W2 none → Calls Try.prog 27 #[tv, v] W2 fun e w' => W2.grownBy w' none ∧ e = .returned (.tuple #[.string sx, .int .i64 ec]))) :
    Calls Try.prog 5 #[tv, v] W fun e w' => e = .returned (.bool true) ∧ W.grownBy w' none := by
  subst htv hv
  have HWO := Lf.hide worthL_any
  let A : Obj := .cells #[.int .i64 t0, .slice a l c] 24
  let B : Obj := .cells #[.int .i64 k1, .int .i64 n1, .int .i64 a1, .string s1, .slice aa1 al1 ac1, .slice ta1 tl1 tc1, .slice na1 nl1 nc1] 30
  have HA0 := Lf.hide (res_new W A B)
  have HB0 := Lf.hide (rnew_two W A B)
  have HG0 := Lf.hide (Lf.gbt (Lf.gb (w := W) A) (Lf.gb B))
  have hss : (sx.toList == sx.toList) = true := by simp
  unfold tyV vaV at *
  go_enter Try.func5, Try.ntmps5
  go_wp2_with fail
  refine (HN.out _ HG0.out).mono ?_; rintro e w1 ⟨hg, u, rfl, hLu⟩
  obtain ⟨ku, nu, pu, su, au, lu, cu, rfl⟩ := hLu.nodeV
  let C : Obj := .cells #[.int .i64 ku, .int .i64 nu, .int .i64 pu, .string su, .slice au lu cu] 39
  have hgC := Lf.gbt hg (Lf.gb C)
  have HG1 := Lf.hide (Lf.gbt HG0.out hgC)
  have HA1 := Lf.hide (keepB HA0.out hgC)
  have HB1 := Lf.hide (keepB HB0.out hgC)
  have HC1 := Lf.hide (heap_alloc_new w1 C)
  have HLU := Lf.hide (hLu.same (sameAll (Lf.gb C)))
  have q0 := cell0_of (keepB HA0.out hg)
  have q1 := cell1_of (keepB HA0.out hg)
  obtain ⟨b0, b1, b2, b3, b4, b5, b6⟩ := box7 (keepB HB0.out hg)
  have la := lt_blk (keepB HA0.out hg)
  have lb := lt_blk (keepB HB0.out hg)
  clear hg hgC hLu
  unfold nodeV at HLU ⊢
  go_wp2_with fail
  refine (HR.out _ HG1.out).mono ?_; rintro e w2 ⟨hg, u2, rfl, hL2⟩
  obtain ⟨km, nm, pm, sm, am, lm, cm, rfl⟩ := hL2.nodeV
  let D : Obj := .cells #[.int .i64 km, .int .i64 nm, .int .i64 pm, .string sm, .slice am lm cm] 39
  have hgD := Lf.gbt hg (Lf.gb D)
  have HG2 := Lf.hide (Lf.gbt HG1.out hgD)
  have HA2 := Lf.hide (keepB HA1.out hgD)
  have HB2 := Lf.hide (keepB HB1.out hgD)
  have HLM := Lf.hide (hL2.same (sameAll (Lf.gb D)))
  have HLU2 := Lf.hide (HLU.out.same (sameAll hgD))
  obtain ⟨c0, c1, c2, c3, c4⟩ := box5 (keepB HC1.out hg)
  have lc' := lt_blk (keepB HC1.out hg)
  clear hg hgD hL2 q0 q1 b0 b1 b2 b3 b4 b5 b6 la lb HLU
  unfold nodeV at HLM ⊢
  go_wp2_with fail
  refine (alikeR_any HLU2.out _ _ (grow_refl _ _) HLM.out).mono ?_; rintro e w3 ⟨rfl, hg⟩
  have HG3 := Lf.hide (Lf.gbt HG2.out hg)
  have HA3 := Lf.hide (keepB HA2.out hg)
  have HB3 := Lf.hide (keepB HB2.out hg)
  have q0 := cell0_of HA3.out
  have q1 := cell1_of HA3.out
  obtain ⟨b0, b1, b2, b3, b4, b5, b6⟩ := box7 HB3.out
  clear hg c0 c1 c2 c3 c4 lc'
  go_wp2_with fail
  refine (HP.out _ HG3.out).mono ?_; rintro e w4 ⟨hg, rfl⟩
  have HG4 := Lf.hide (Lf.gbt HG3.out hg)
  have HA4 := Lf.hide (keepB HA3.out hg)
  have HB4 := Lf.hide (keepB HB3.out hg)
  clear hg q0 q1 b0 b1 b2 b3 b4 b5 b6
  have q0 := cell0_of HA4.out
  have q1 := cell1_of HA4.out
  obtain ⟨b0, b1, b2, b3, b4, b5, b6⟩ := box7 HB4.out
  go_wp2_with fail
  refine (HQ.out _ HG4.out).mono ?_; rintro e w5 ⟨hg, rfl⟩
  have HG5 := Lf.hide (Lf.gbt HG4.out hg)
  clear hg q0 q1 b0 b1 b2 b3 b4 b5 b6
  go_wp2_with fail
  refine (HWO.out _).mono ?_; rintro e w6 ⟨rfl, hg⟩
  have HG6 := Lf.hide (Lf.gbt HG5.out hg)
  clear hg
  go_wp2_with fail
  go_ret
  exact ⟨rfl, HG6.out⟩

end Go.Proofs.Ytfnolfpbicffhac

/- For every type and value whose reading holds at most 1048576 values and letters, ValueTells returns true and leaves its arguments as they were: Node and Pack answer as the document's own ValueNode and Pack do, errors too. Condition: that bound on the reading. -/
namespace Go.Proofs.Ytfnolfpbicffhac.valueTells
open Go.ChangeShapes Go.WideShapes Go.ChangeAt Go.RowKit
set_option linter.unusedVariables false

theorem lies_zero (w : World) : Lies (fun _ => True) w (.nd 0 0 0 ⟨#[]⟩ []) (nodeV 0 0 0 ⟨#[]⟩ none 0 0) :=
  Lies.mk (args := []) (fun _ => .int .i64 0) (by simp) (by decide) ⟨by decide, by decide⟩ ⟨by decide, by decide⟩ ⟨by decide, by decide⟩ (fun i hi => by simp at hi) (fun i hi => by simp at hi)

theorem walk {w : World} {T : Ty} {x : Va} {tv v : Value} (hT0 : LiesT (· < w.heap.size) w T tv) (hV0 : LiesV (· < w.heap.size) w x v) (hz : x.size ≤ 1048576) :
    Calls Try.prog 5 #[tv, v] w fun e w' => e = .returned (.bool true) ∧ w.grownBy w' none := by
  have hT : LiesT (fun _ => True) w T tv := hT0.okMono fun _ _ _ => trivial
  have hV : LiesV (fun _ => True) w x v := hV0.okMono fun _ _ _ => trivial
  have hVup : ∀ W2, w.grownBy W2 none → LiesV (· < W2.heap.size) W2 x v := fun W2 hg => (hV0.same (w' := W2) (fun b o hb hlt => World.cell?_of_block (hg.block b hlt (by simp)))).okMono fun b hb _ => hb
  have hN : ∀ W2, w.grownBy W2 none → Calls Try.prog 23 #[tv, v] W2 (VNodePost T x W2) := fun W2 hg => vnode_any (LiesT.same hT (sameAll hg)) (hV.same (sameAll hg)) (by omega)
  have hP : ∀ W2, w.grownBy W2 none → Calls Try.prog 26 #[tv, v] W2 (PackPost T x W2) := fun W2 hg => pack_any (LiesT.same hT (sameAll hg)) (hV.same (sameAll hg)) (by omega)
  have hR : ∀ W2, w.grownBy W2 none → Calls Try.prog 24 #[tv, v] W2 (RNodeP T x W2) := fun W2 hg => rvnode_any (LiesT.same hT (sameAll hg)) (hVup W2 hg) hz
  have hQ : ∀ W2, w.grownBy W2 none → Calls Try.prog 27 #[tv, v] W2 (RPackP T x W2) := fun W2 hg => rpackV_any (LiesT.same hT (sameAll hg)) (hVup W2 hg) hz
  obtain ⟨a, c, VT, htv, it, hRT⟩ := hT.inv
  obtain ⟨k1, n1, a1, s1, aa1, al1, ac1, ta1, tl1, tc1, na1, nl1, nc1, hv⟩ := hV.vaV
  cases hc : canF T x with
  | false =>
    refine tells_walk (t := .nd 0 0 0 ⟨#[]⟩ []) (er := 5) (ec := 5) (sx := ⟨#[]⟩) htv hv (fun W2 hg => (hN W2 hg).mono fun e w' h => ?_) (fun W2 hg => (hR W2 hg).mono fun e w' h => ?_) (fun W2 hg => (hP W2 hg).mono fun e w' h => ?_) (fun W2 hg => (hQ W2 hg).mono fun e w' h => ?_)
    · rcases h.2 with ⟨_, h2⟩ | ⟨h2, _⟩ | ⟨h2, _⟩
      · exact ⟨h.1, _, h2, lies_zero _⟩
      · rw [hc] at h2; cases h2
      · rw [hc] at h2; cases h2
    · rcases h.2 with ⟨_, h2⟩ | ⟨h2, _⟩ | ⟨h2, _⟩
      · exact ⟨h.1, _, h2, lies_zero _⟩
      · rw [hc] at h2; cases h2
      · rw [hc] at h2; cases h2
    · rcases h with ⟨_, h1, h2⟩ | ⟨h2, _⟩
      · exact ⟨h1, h2⟩
      · rw [hc] at h2; cases h2
    · rcases h with ⟨_, h1, h2⟩ | ⟨h2, _⟩
      · exact ⟨h1, h2⟩
      · rw [hc] at h2; cases h2
  | true =>
    obtain ⟨g1, g2, g3⟩ := can_parts hc
    obtain ⟨e1, e2, _⟩ := told_good g2 g3 (goodTy_formed g1).1
    by_cases hg0 : goodF (dataT x) = 0
    · have hg0' : goodF (toldF x) = 0 := by rw [e1]; exact hg0
      have ht := e2 hg0'
      have HN2 : ∀ W2, w.grownBy W2 none → Calls Try.prog 23 #[tv, v] W2 fun e w' => W2.grownBy w' none ∧ ∃ u, e = .returned (.tuple #[u, .int .i64 0]) ∧ Lies (fun _ => True) w' (dataT x) u := fun W2 hg => (hN W2 hg).mono fun e w' h => by
        rcases h.2 with ⟨h2, _⟩ | ⟨_, h2, _⟩ | ⟨_, _, u, h2, h3⟩
        · rw [hc] at h2; cases h2
        · exact absurd hg0' h2
        · exact ⟨h.1, u, h2, by rw [← ht]; exact h3.okMono fun _ _ _ => trivial⟩
      have HR2 : ∀ W2, w.grownBy W2 none → Calls Try.prog 24 #[tv, v] W2 fun e w' => W2.grownBy w' none ∧ ∃ u, e = .returned (.tuple #[u, .int .i64 0]) ∧ Lies (fun _ => True) w' (dataT x) u := fun W2 hg => (hR W2 hg).mono fun e w' h => by
        rcases h.2 with ⟨h2, _⟩ | ⟨_, h2, _⟩ | ⟨_, _, u, h2, h3⟩
        · rw [hc] at h2; cases h2
        · exact absurd hg0 h2
        · exact ⟨h.1, u, h2, h3⟩
      by_cases hl : (encTr (dataT x)).length ≤ 199
      · refine tells_walk (t := dataT x) (er := 0) (ec := 0) (sx := ⟨((5 : UInt8) :: encTr (dataT x)).toArray⟩) htv hv HN2 HR2 (fun W2 hg => (hP W2 hg).mono fun e w' h => ?_) (fun W2 hg => (hQ W2 hg).mono fun e w' h => ?_)
        · rcases h with ⟨h2, _⟩ | ⟨_, h⟩
          · rw [hc] at h2; cases h2
          · rcases h.2 with ⟨h2, _⟩ | ⟨_, h2, _⟩ | ⟨_, _, h2⟩
            · exact absurd hg0' h2
            · rw [ht] at h2; omega
            · rw [ht] at h2; exact ⟨h.1, h2⟩
        · rcases h with ⟨h2, _⟩ | ⟨_, h⟩
          · rw [hc] at h2; cases h2
          · rcases h.2 with ⟨h2, _⟩ | ⟨_, h2, _⟩ | ⟨_, _, h2⟩
            · exact absurd hg0 h2
            · omega
            · exact ⟨h.1, h2⟩
      · refine tells_walk (t := dataT x) (er := 0) (ec := 4) (sx := ⟨#[]⟩) htv hv HN2 HR2 (fun W2 hg => (hP W2 hg).mono fun e w' h => ?_) (fun W2 hg => (hQ W2 hg).mono fun e w' h => ?_)
        · rcases h with ⟨h2, _⟩ | ⟨_, h⟩
          · rw [hc] at h2; cases h2
          · rcases h.2 with ⟨h2, _⟩ | ⟨_, _, h2⟩ | ⟨_, h2, _⟩
            · exact absurd hg0' h2
            · exact ⟨h.1, h2⟩
            · rw [ht] at h2; omega
        · rcases h with ⟨h2, _⟩ | ⟨_, h⟩
          · rw [hc] at h2; cases h2
          · rcases h.2 with ⟨h2, _⟩ | ⟨_, _, h2⟩ | ⟨_, h2, _⟩
            · exact absurd hg0 h2
            · exact ⟨h.1, h2⟩
            · omega
    · have hg0' : goodF (toldF x) ≠ 0 := by rw [e1]; exact hg0
      refine tells_walk (t := .nd 0 0 0 ⟨#[]⟩ []) (er := goodF (dataT x)) (ec := goodF (dataT x)) (sx := ⟨#[]⟩) htv hv (fun W2 hg => (hN W2 hg).mono fun e w' h => ?_) (fun W2 hg => (hR W2 hg).mono fun e w' h => ?_) (fun W2 hg => (hP W2 hg).mono fun e w' h => ?_) (fun W2 hg => (hQ W2 hg).mono fun e w' h => ?_)
      · rcases h.2 with ⟨h2, _⟩ | ⟨_, _, h2⟩ | ⟨_, h2, _⟩
        · rw [hc] at h2; cases h2
        · rw [e1] at h2; exact ⟨h.1, _, h2, lies_zero _⟩
        · exact absurd h2 hg0'
      · rcases h.2 with ⟨h2, _⟩ | ⟨_, _, h2⟩ | ⟨_, h2, _⟩
        · rw [hc] at h2; cases h2
        · exact ⟨h.1, _, h2, lies_zero _⟩
        · exact absurd h2 hg0
      · rcases h with ⟨h2, _⟩ | ⟨_, h⟩
        · rw [hc] at h2; cases h2
        · rcases h.2 with ⟨_, h2⟩ | ⟨h2, _⟩ | ⟨h2, _⟩
          · rw [e1] at h2; exact ⟨h.1, h2⟩
          · exact absurd h2 hg0'
          · exact absurd h2 hg0'
      · rcases h with ⟨h2, _⟩ | ⟨_, h⟩
        · rw [hc] at h2; cases h2
        · rcases h.2 with ⟨_, h2⟩ | ⟨h2, _⟩ | ⟨h2, _⟩
          · exact ⟨h.1, h2⟩
          · exact absurd h2 hg0
          · exact absurd h2 hg0

theorem own : ownKnob Try.prog.godebug = none := by kernel_rfl
theorem laidOut : laidOutB Try.prog = true := by kernel_rfl

theorem below_of {w w' : World} (h : w.grownBy w' none) : Below w.heap.size w w' := ⟨h.os, h.tape, h.output, h.size, fun k hk => h.block k hk (by simp)⟩

set_option maxRecDepth 100000 in
theorem contract (H : Type) (enc : TypeId × Value → H) (W : World) (base : Nat) (args : Array Value) (ds gs : List (DataW H)) (before : List MemPlace)
    (hval : ∀ (j : Nat) t v, Try.f5.params[j]? = some t → args[j]? = some v → Value.okWide Try.prog W .any base t v)
    (hW : DataW.Whole enc Try.prog Try.f5.params.toList Rows.valueTellsSpec.vars false W args.toList ds gs before) (hk : Rows.uptoSmall H (ds ++ gs) = true) :
    Calls Try.prog 5 args W fun e W' => ∃ v, e = .returned v ∧ Rows.valueTellsSpec.post enc Try.prog Try.f5 false true false false W args v W' := by
  have hW' := hW
  obtain ⟨p, q, hA0, hV, rfl, hfz, hnd⟩ := hW
  have hA : DataW.TrodAll enc Try.prog W 0 (fun _ => true) true Try.f5.params.toList args.toList ds p := hA0
  rw [Try.params5] at hA hval
  obtain ⟨v0, vs0, d0, ds0, p0, q0, hargs, rfl, rfl, h0, r0⟩ := trodAll_cons hA
  obtain ⟨v1, vs1, d1, ds1, p1, q1, hargs1, rfl, rfl, h1, r1⟩ := trodAll_cons r0
  obtain ⟨rfl, rfl, rfl⟩ := trodAll_nil r1
  obtain rfl : args = #[v0, v1] := by cases args; simp_all
  obtain ⟨rfl, rfl⟩ := trodVars_none hV
  have hb := of_decide_eq_true hk
  simp only [List.append_nil, Rows.uptoBulkAll] at hb
  obtain ⟨t, hL, hs⟩ := open_argT (hval 0 24 v0 rfl rfl) h0
  obtain ⟨x1, hL1, hs1⟩ := open_argV (hval 1 30 v1 rfl rfl) h1
  clear hA0
  simp only [List.append_nil] at hW'
  have hlt0 : ∀ x ∈ p0, x.block < W.heap.size := fun x hx => hW'.lt x (by simp [hx])
  have hlt1 : ∀ x ∈ p1, x.block < W.heap.size := fun x hx => hW'.lt x (by simp [hx])
  refine (walk hL hL1 (by omega)).mono fun e W' ⟨he, hg⟩ => ?_
  subst he
  have hB := below_of hg
  exact ⟨_, rfl, _, _, _, [], p0 ++ (p1 ++ []), [], hW', trodAll_cons_mk (shut_bool Try.underlying4 _) trodAll_mk0, trodAll_cons_mk (Below.trod laidOut (by kernel_rfl) (of_decide_eq_true (by kernel_rfl)) h0 hB hlt0) (trodAll_cons_mk (Below.trod laidOut (by kernel_rfl) (of_decide_eq_true (by kernel_rfl)) h1 hB hlt1) trodAll_mk0), rfl, hB.frame _, fun h => by cases h⟩

set_option maxRecDepth 100000 in
theorem lifted (os : Os) (started : os.Started) (H : Type) (enc : TypeId × Value → H) (F : Stop.Interp) :
    ReturnsInHanded {} Try.checked os 5 .any ((Rows.OpenSpec.upto Rows.valueTellsSpec).pre6 enc Try.prog Try.f5 Rows.valueTellsUptoRow.domain false) (((Rows.OpenSpec.upto Rows.valueTellsSpec).at F).post enc Try.prog Try.f5 false true false false) := by
  refine returnsInHanded_of_cond (C := Try.checked) (s := Rows.OpenSpec.upto Rows.valueTellsSpec) (k := Rows.uptoSmall) rfl own started (by kernel_rfl) Try.func5
    (OpenSpec.witness (enc := enc) (C := Try.checked) (s := Rows.OpenSpec.upto Rows.valueTellsSpec) (k := Rows.uptoSmall) rfl false ⟨#[], #[.agg #[.int .i64 0, .slice none 0 0], .agg #[.int .i64 0, .int .i64 0, .int .i64 0, .string .empty, .slice none 0 0, .slice none 0 0, .slice none 0 0]], []⟩ 8 (by kernel_rfl) (by kernel_rfl) (by kernel_rfl)
      (x := ([.agg [.lit (.int .i64 0), .nil], .agg [.lit (.int .i64 0), .lit (.int .i64 0), .lit (.int .i64 0), .lit (.string []), .nil, .nil, .nil]], [], [])) (by kernel_rfl) rfl (by kernel_rfl)) ?_
  intro W base args ds gs before hval hW _ hk _
  exact contract H enc W base args ds gs before hval hW hk

theorem over : Rows.valueTellsUptoRow.holds Try.pinned (Rows.OpenSpec.upto Rows.valueTellsSpec) :=
  OpenClaim.holds_of_cond 5 Try.f5 rfl rfl rfl rfl rfl rfl rfl ⟨rfl, rfl, rfl, rfl, rfl⟩ rfl rfl rfl rfl rfl (by kernel_rfl) Try.func5 (by kernel_rfl)
    (of_decide_eq_true (by kernel_rfl)) (by unfold Func.isWrapper; first | (rw [if_pos (by decide +kernel)]; kernel_rfl) | (rw [if_neg (by decide +kernel)]; exact ⟨rfl, rfl⟩))
    (fun os started H enc _ F => lifted os started H enc F)

end Go.Proofs.Ytfnolfpbicffhac.valueTells

namespace Go.Proofs.Ytfnolfpbicffhac
theorem valueTells_holds : Rows.ValueTellsUptoSaid := valueTells.over
#print axioms valueTells_holds
end Go.Proofs.Ytfnolfpbicffhac
