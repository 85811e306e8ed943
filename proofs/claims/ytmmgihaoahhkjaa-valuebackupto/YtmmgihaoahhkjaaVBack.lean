/- For every type and value whose reading holds at most 1048576 values and letters, ValueBack returns true and leaves its arguments as they were: a value that Node or Pack tells is read by Parse or Unpack as it was, and its text is no longer than MaxText. Condition: that bound on the reading. -/
import Derived.Test.YtmmgihaoahhkjaaRows
import Derived.Test.YtmmgihaoahhkjaaBackA
import Derived.Test.YtmmgihaoahhkjaaOpenA
import Derived.JoinedCond
namespace Go.Proofs.Ytmmgihaoahhkjaa.valueBack
open Go.ChangeShapes Go.WideShapes Go.ChangeAt Go.RowKit
set_option linter.unusedVariables false

/-- what Good says of a told tree: nothing, or that it is too long -/
theorem told_four {T : Ty} {x : Va} (hc : canF T x = true) : goodF (toldF x) = 0 ∨ goodF (toldF x) = 4 := by
  obtain ⟨h1, h2, h3⟩ := can_parts hc
  have hok := (tell_ok x T 1 0 h2 h3 (goodTy_formed h1).1).1 1
  have hok2 : firstW 1 (toldF x) = 0 ∨ firstW 1 (toldF x) = 4 := hok
  unfold goodF
  rcases hok2 with h | h
  · rw [h]
    by_cases hs : 300 < (toldF x).size
    · right; simp [hs]
    · left; simp [hs]
  · right; rw [h]; simp

theorem walk {w : World} {T : Ty} {x : Va} {tv v : Value} (hT0 : LiesT (· < w.heap.size) w T tv) (hV0 : LiesV (· < w.heap.size) w x v) (hz : x.size ≤ 20000000) :
    Calls Try.prog 5 #[tv, v] w fun e w' => e = .returned (.bool true) ∧ w.grownBy w' none := by
  have hT : LiesT (fun _ => True) w T tv := hT0.okMono fun _ _ _ => trivial
  have hV : LiesV (fun _ => True) w x v := hV0.okMono fun _ _ _ => trivial
  have hN : ∀ W2, w.grownBy W2 none → Calls Try.prog 18 #[tv, v] W2 (VNodePost T x W2) := fun W2 hg => vnode_any (LiesT.same hT (sameAll hg)) (hV.same (sameAll hg)) hz
  have hP : ∀ W2, w.grownBy W2 none → Calls Try.prog 20 #[tv, v] W2 (PackPost T x W2) := fun W2 hg => pack_any (LiesT.same hT (sameAll hg)) (hV.same (sameAll hg)) hz
  obtain ⟨a, c, VT, htv, it, hRT⟩ := hT.inv
  obtain ⟨k1, n1, a1, s1, aa1, al1, ac1, ta1, tl1, tc1, na1, nl1, nc1, hv⟩ := hV.vaV
  cases hc : canF T x with
  | false =>
    refine back_no5 htv hv (fun W2 hg => (hN W2 hg).mono fun e w' h => ?_) (fun W2 hg => (hP W2 hg).mono fun e w' h => ?_)
    · rcases h.2 with ⟨_, h2⟩ | ⟨h2, _⟩ | ⟨h2, _⟩
      · exact ⟨h.1, h2⟩
      · rw [hc] at h2; cases h2
      · rw [hc] at h2; cases h2
    · rcases h with ⟨_, h1, h2⟩ | ⟨h2, _⟩
      · exact ⟨h1, h2⟩
      · rw [hc] at h2; cases h2
  | true =>
    obtain ⟨g1, g2, g3⟩ := can_parts hc
    have hf := (goodTy_formed g1).1
    have hTs : T.size ≤ 50000000 := by have := (goodTy_formed g1).2.1; omega
    rcases told_four hc with hg0 | hg4
    · have hpl := plain_pack x T 1 g2 g3 hf
      have hback := told_back hc hg0
      have hsz := (goodF_zero hg0).2
      have HN : ∀ W2, w.grownBy W2 none → Calls Try.prog 18 #[tv, v] W2 fun e w' => W2.grownBy w' none ∧ ∃ u, e = .returned (.tuple #[u, .int .i64 0]) ∧ Lies (fun _ => True) w' (toldF x) u := fun W2 hg => (hN W2 hg).mono fun e w' h => by
        rcases h.2 with ⟨h2, _⟩ | ⟨_, h2, _⟩ | ⟨_, _, u, h2, h3⟩
        · rw [hc] at h2; cases h2
        · exact absurd hg0 h2
        · exact ⟨h.1, u, h2, h3.okMono fun _ _ _ => trivial⟩
      have HR : ∀ (W2 : World) (u : Value), w.grownBy W2 none → Lies (fun _ => True) W2 (toldF x) u → Calls Try.prog 19 #[tv, u] W2 fun e w' => W2.grownBy w' none ∧ ∃ v', e = .returned (.tuple #[v', .int .i64 0]) ∧ LiesV (fun _ => True) w' x v' := fun W2 u hg hu => (parse_any (LiesT.same hT (sameAll hg)) hu (by omega)).mono fun e w' h => by
        rcases h.2 with ⟨x', v', h1, h2, h3⟩ | ⟨h1, _⟩
        · rw [hback] at h1
          obtain rfl := Option.some.inj h1
          exact ⟨h.1, v', h2, h3.okMono fun _ _ _ => trivial⟩
        · rw [hback] at h1; cases h1
      have HS : ∀ (W2 : World) (v' : Value), w.grownBy W2 none → LiesV (fun _ => True) W2 x v' → Calls Try.prog 14 #[v, v'] W2 fun e w' => e = .returned (.bool true) ∧ W2.grownBy w' none := fun W2 v' hg hv' => by
        have h := sameV_any (hV.same (sameAll hg)) hv' hpl hpl hz W2 (grow_refl _ _)
        rw [sbs_self, decide_eq_true rfl] at h
        exact h
      by_cases hl : (encTr (toldF x)).length ≤ 199
      · refine back_yes (x := x) (t := toldF x) (s := ⟨((5 : UInt8) :: encTr (toldF x)).toArray⟩) (er := 0) htv hv HN HR HS (fun W2 hg => (hP W2 hg).mono fun e w' h => ?_) (.inr ⟨rfl, ?_, fun W2 hg => ?_⟩)
        · rcases h with ⟨h2, _⟩ | ⟨_, h⟩
          · rw [hc] at h2; cases h2
          · rcases h.2 with ⟨h2, _⟩ | ⟨_, h2, _⟩ | ⟨_, _, h2⟩
            · exact absurd hg0 h2
            · omega
            · exact ⟨h.1, h2⟩
        · rw [(bs5 _).1]; omega
        · exact unpack_yes (LiesT.same hT (sameAll hg)) hl (decode_told hg0) hsz hback g3 hTs
      · refine back_yes (x := x) (t := toldF x) (s := ⟨#[]⟩) (er := 4) htv hv HN HR HS (fun W2 hg => (hP W2 hg).mono fun e w' h => ?_) (.inl ⟨rfl, rfl⟩)
        rcases h with ⟨h2, _⟩ | ⟨_, h⟩
        · rw [hc] at h2; cases h2
        · rcases h.2 with ⟨h2, _⟩ | ⟨_, _, h2⟩ | ⟨_, h2, _⟩
          · exact absurd hg0 h2
          · exact ⟨h.1, h2⟩
          · omega
    · refine back_no4 htv hv (fun W2 hg => (hN W2 hg).mono fun e w' h => ?_) (fun W2 hg => (hP W2 hg).mono fun e w' h => ?_)
      · rcases h.2 with ⟨h2, _⟩ | ⟨_, _, h2⟩ | ⟨_, h2, _⟩
        · rw [hc] at h2; cases h2
        · rw [hg4] at h2; exact ⟨h.1, h2⟩
        · omega
      · rcases h with ⟨h2, _⟩ | ⟨_, h⟩
        · rw [hc] at h2; cases h2
        · rcases h.2 with ⟨_, h2⟩ | ⟨h2, _⟩ | ⟨h2, _⟩
          · rw [hg4] at h2; exact ⟨h.1, h2⟩
          · omega
          · omega

theorem own : ownKnob Try.prog.godebug = none := by kernel_rfl
theorem laidOut : laidOutB Try.prog = true := by kernel_rfl

theorem below_of {w w' : World} (h : w.grownBy w' none) : Below w.heap.size w w' := ⟨h.os, h.tape, h.output, h.size, fun k hk => h.block k hk (by simp)⟩

set_option maxRecDepth 100000 in
theorem contract (H : Type) (enc : TypeId × Value → H) (W : World) (base : Nat) (args : Array Value) (ds gs : List (DataW H)) (before : List MemPlace)
    (hval : ∀ (j : Nat) t v, Try.f5.params[j]? = some t → args[j]? = some v → Value.okWide Try.prog W .any base t v)
    (hW : DataW.Whole enc Try.prog Try.f5.params.toList Rows.valueBackSpec.vars false W args.toList ds gs before) (hk : Rows.uptoSmall H (ds ++ gs) = true) :
    Calls Try.prog 5 args W fun e W' => ∃ v, e = .returned v ∧ Rows.valueBackSpec.post enc Try.prog Try.f5 false true false false W args v W' := by
  have hW' := hW
  obtain ⟨p, q, hA0, hV, rfl, hfz, hnd⟩ := hW
  have hA : DataW.TrodAll enc Try.prog W 0 (fun _ => true) true Try.f5.params.toList args.toList ds p := hA0
  rw [Try.params5] at hA hval
  obtain ⟨v0, vs0, d0, ds0, p0, q0, hargs, rfl, rfl, h0, r0⟩ := trodAll_cons hA
  obtain ⟨v1, vs1, d1, ds1, p1, q1, hargs1, rfl, rfl, h1, r1⟩ := trodAll_cons r0
  obtain ⟨rfl, rfl, rfl⟩ := trodAll_nil r1
  obtain rfl : args = #[v0, v1] := by cases args; simp_all
  obtain ⟨rfl, rfl⟩ := trodVars_none hV
  have hb := of_decide_eq_true hk
  simp only [List.append_nil, Rows.uptoBulkAll] at hb
  obtain ⟨t, hL, hs⟩ := open_argT (hval 0 24 v0 rfl rfl) h0
  obtain ⟨x1, hL1, hs1⟩ := open_argV (hval 1 28 v1 rfl rfl) h1
  clear hA0
  simp only [List.append_nil] at hW'
  have hlt0 : ∀ x ∈ p0, x.block < W.heap.size := fun x hx => hW'.lt x (by simp [hx])
  have hlt1 : ∀ x ∈ p1, x.block < W.heap.size := fun x hx => hW'.lt x (by simp [hx])
  refine (walk hL hL1 (by omega)).mono fun e W' ⟨he, hg⟩ => ?_
  subst he
  have hB := below_of hg
  exact ⟨_, rfl, _, _, _, [], p0 ++ (p1 ++ []), [], hW', trodAll_cons_mk (shut_bool Try.underlying4 _) trodAll_mk0, trodAll_cons_mk (Below.trod laidOut (by kernel_rfl) (of_decide_eq_true (by kernel_rfl)) h0 hB hlt0) (trodAll_cons_mk (Below.trod laidOut (by kernel_rfl) (of_decide_eq_true (by kernel_rfl)) h1 hB hlt1) trodAll_mk0), rfl, hB.frame _, fun h => by cases h⟩

set_option maxRecDepth 100000 in
theorem lifted (os : Os) (started : os.Started) (H : Type) (enc : TypeId × Value → H) (F : Stop.Interp) :
    ReturnsInHanded {} Try.checked os 5 .any ((Rows.OpenSpec.upto Rows.valueBackSpec).pre6 enc Try.prog Try.f5 Rows.valueBackUptoRow.domain false) (((Rows.OpenSpec.upto Rows.valueBackSpec).at F).post enc Try.prog Try.f5 false true false false) := by
  refine returnsInHanded_of_cond (C := Try.checked) (s := Rows.OpenSpec.upto Rows.valueBackSpec) (k := Rows.uptoSmall) rfl own started (by kernel_rfl) Try.func5
    (OpenSpec.witness (enc := enc) (C := Try.checked) (s := Rows.OpenSpec.upto Rows.valueBackSpec) (k := Rows.uptoSmall) rfl false ⟨#[], #[.agg #[.int .i64 0, .slice none 0 0], .agg #[.int .i64 0, .int .i64 0, .int .i64 0, .string .empty, .slice none 0 0, .slice none 0 0, .slice none 0 0]], []⟩ 8 (by kernel_rfl) (by kernel_rfl) (by kernel_rfl)
      (x := ([.agg [.lit (.int .i64 0), .nil], .agg [.lit (.int .i64 0), .lit (.int .i64 0), .lit (.int .i64 0), .lit (.string []), .nil, .nil, .nil]], [], [])) (by kernel_rfl) rfl (by kernel_rfl)) ?_
  intro W base args ds gs before hval hW _ hk _
  exact contract H enc W base args ds gs before hval hW hk

theorem over : Rows.valueBackUptoRow.holds Try.pinned (Rows.OpenSpec.upto Rows.valueBackSpec) :=
  OpenClaim.holds_of_cond 5 Try.f5 rfl rfl rfl rfl rfl rfl rfl ⟨rfl, rfl, rfl, rfl, rfl⟩ rfl rfl rfl rfl rfl (by kernel_rfl) Try.func5 (by kernel_rfl)
    (of_decide_eq_true (by kernel_rfl)) (by unfold Func.isWrapper; first | (rw [if_pos (by decide +kernel)]; kernel_rfl) | (rw [if_neg (by decide +kernel)]; exact ⟨rfl, rfl⟩))
    (fun os started H enc _ F => lifted os started H enc F)

end Go.Proofs.Ytmmgihaoahhkjaa.valueBack

namespace Go.Proofs.Ytmmgihaoahhkjaa
theorem valueBack_holds : Rows.ValueBackUptoSaid := valueBack.over
#print axioms valueBack_holds
end Go.Proofs.Ytmmgihaoahhkjaa
