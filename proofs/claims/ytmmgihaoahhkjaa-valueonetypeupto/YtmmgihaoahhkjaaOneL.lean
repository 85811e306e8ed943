/- For every two types and value whose reading holds at most 1048576 values and letters, ValueOneType returns true and leaves its arguments as they were: a value that can be compared is of one type alone, but for what an option or an or leaves open. Condition: that bound on the reading. -/
import Derived.Test.YtmmgihaoahhkjaaRows
import Derived.Test.YtmmgihaoahhkjaaOneP
import Derived.Test.YtmmgihaoahhkjaaWorth
import Derived.Test.YtmmgihaoahhkjaaOpenA
import Derived.JoinedCond
namespace Go.Proofs.Ytmmgihaoahhkjaa.valueOneType
open Go.ChangeShapes Go.WideShapes Go.ChangeAt Go.RowKit
set_option linter.unusedVariables false

theorem two_of {α : Type} {l : List α} (h : l.length = 2) : ∃ p q, l = [p, q] := by
  match l, h with
  | [p, q], _ => exact ⟨p, q, rfl⟩

/-- what is asked on the way -/
theorem says {w W : World} {T U : Ty} {x : Va} {u u2 v : Value} (hT : LiesT (fun _ => True) w T u) (hU : LiesT (fun _ => True) w U u2) (hX : LiesV (fun _ => True) w x v) (hz : x.size ≤ 20000000) (hW : w.grownBy W none) : Says W u u2 v (hasF T x) (hasF U x) (compT T) (sameT T U) := by
  refine ⟨fun W2 h2 => has_any hT hX hz W2 (Lf.gbt hW h2), fun W2 h2 => has_any hU hX hz W2 (Lf.gbt hW h2), fun hb W2 h2 => ?_, fun hb W2 h2 => ?_, fun W2 h2 => worth_any W2⟩
  · have hs := (goodTy_formed (has_k hb).2.1).2.1
    exact comparable_any (LiesT.up hT (Lf.gbt hW h2)) (by omega)
  · have hs := (goodTy_formed (has_k hb).2.1).2.1
    exact same_any (LiesT.up hT (Lf.gbt hW h2)) (LiesT.up hU (Lf.gbt hW h2)) (by omega)

set_option maxRecDepth 100000 in
theorem all {w : World} {T : Ty} {u : Value} (hT : LiesT (fun _ => True) w T u) : ∀ (U : Ty) (u2 : Value) (x : Va) (v : Value), LiesT (fun _ => True) w U u2 → LiesV (fun _ => True) w x v → x.size ≤ 20000000 → ∀ W, w.grownBy W none →
    Calls Try.prog 7 #[u, u2, v] W fun e w' => e = .returned (.bool true) ∧ W.grownBy w' none := by
  induction hT with
  | @mk t args a c V hl hlc it hc hr ih =>
    intro U u2 x v hU hX hz W hW
    have hT : LiesT (fun _ => True) w (.nd t args) (tyV t a args.length c) := .mk V hl hlc it hc hr
    have hs := says hT hU hX hz hW
    obtain ⟨a2, c2, V2, rfl, it2, hR2⟩ := hU.inv
    obtain ⟨aa, ac, ta, tc, na, nc, VV, VT, VN, rfl, hI, hRV, hRY, hRN⟩ := hX.inv
    cases h1 : hasF (.nd t args) x with
    | false => exact no1 (h1 ▸ hs) rfl
    | true =>
      cases h2 : hasF U x with
      | false => exact no2 hs h1 h2
      | true =>
        by_cases h9 : t = 9
        · exact no9 hs h1 h2 h9
        by_cases h12 : t = 12
        · exact no12 hs h1 h2 h12
        cases h3 : compT (.nd t args) with
        | false => exact no3 hs h1 h2 h9 h12 h3
        | true =>
          by_cases h11 : t = 11
          · subst h11
            obtain ⟨p1, p2⟩ := pair_len h1 rfl
            have hu11 : U.t = 11 := by
              have e1 := (has_k h1).1
              have e2 := (has_k h2).1
              rw [← e2, e1]; rfl
            obtain ⟨p3, _⟩ := pair_len h2 hu11
            simp only [Ty.args] at p1
            obtain ⟨A0, A1, rfl⟩ := two_of p1
            have hUa := two_of p3
            obtain ⟨B0, B1, hB⟩ := hUa
            obtain ⟨y0, y1, hy⟩ := two_of p2
            have hw := sameAll hW
            obtain ⟨bt, ot, tk0, ta0, tl0, tc0, rfl, _, hv0, c00, c01⟩ := ((hc 0 (by simp)).same hw).cells
            obtain ⟨bt', ot', tk1, ta1, tl1, tc1, hbt, _, hv1, c10, c11⟩ := ((hc 1 (by simp)).same hw).cells
            simp only [Option.some.injEq, Addr.mk.injEq, and_true] at hbt
            obtain ⟨rfl, rfl⟩ := hbt
            obtain ⟨bu, ou, yk0, ya0, yl0, yc0, rfl, _, hw0, e00, e01⟩ := ((hR2.2.1 0 (by omega)).same hw).cells
            obtain ⟨bu', ou', yk1, ya1, yl1, yc1, hbu, _, hw1, e10, e11⟩ := ((hR2.2.1 1 (by omega)).same hw).cells
            simp only [Option.some.injEq, Addr.mk.injEq, and_true] at hbu
            obtain ⟨rfl, rfl⟩ := hbu
            obtain ⟨bv, ov, rfl, _, k0, n0, d0, s0, pa0, pl0, pc0, qa0, ql0, qc0, ra0, rl0, rc0, hx0, g00, g01, g02, g03, g04, g05, g06⟩ := (hRV.2.1 0 (by omega)).same hw
            obtain ⟨bv', ov', hbv, _, k1, n1, d1, s1, pa1, pl1, pc1, qa1, ql1, qc1, ra1, rl1, rc1, hx1, g10, g11, g12, g13, g14, g15, g16⟩ := (hRV.2.1 1 (by omega)).same hw
            simp only [Option.some.injEq, Addr.mk.injEq, and_true] at hbv
            obtain ⟨rfl, rfl⟩ := hbv
            have hU0 := hR2.2.2 0 (by omega)
            have hU1 := hR2.2.2 1 (by omega)
            have hX0 := hRV.2.2 0 (by omega)
            have hX1 := hRV.2.2 1 (by omega)
            have i0 := ih 0 (by simp)
            have i1 := ih 1 (by simp)
            rw [hv0] at i0
            rw [hv1] at i1
            rw [hw0] at hU0
            rw [hw1] at hU1
            rw [hx0] at hX0
            rw [hx1] at hX1
            have hzx := vsize_eq x
            have hzs : (x.args[0]).size ≤ 20000000 ∧ (x.args[1]).size ≤ 20000000 := by
              have m0 := vsize_mem (List.getElem_mem (show 0 < x.args.length by omega))
              have m1 := vsize_mem (List.getElem_mem (show 1 < x.args.length by omega))
              omega
            rw [Nat.zero_mul, Nat.add_zero] at c00 c01 e00 e01 g00 g01 g02 g03 g04 g05 g06
            unfold tyV at i0 i1 hU0 hU1
            unfold vaV at hX0 hX1
            rw [h1, h2, h3] at hs
            rw [hu11, p3, p2] at hs ⊢
            refine pair (fun p q r => (p = .agg #[.int .i64 tk0, .slice ta0 tl0 tc0] ∧ q = .agg #[.int .i64 yk0, .slice ya0 yl0 yc0] ∧ r = .agg #[.int .i64 k0, .int .i64 n0, .int .i64 d0, .string s0, .slice pa0 pl0 pc0, .slice qa0 ql0 qc0, .slice ra0 rl0 rc0]) ∨ (p = .agg #[.int .i64 tk1, .slice ta1 tl1 tc1] ∧ q = .agg #[.int .i64 yk1, .slice ya1 yl1 yc1] ∧ r = .agg #[.int .i64 k1, .int .i64 n1, .int .i64 d1, .string s1, .slice pa1 pl1 pc1, .slice qa1 ql1 qc1, .slice ra1 rl1 rc1]))
              (by
                cases hq : sameT (.nd 11 [A0, A1]) U with
                | false => rw [hq] at hs; exact .inl hs
                | true => rw [hq] at hs; exact .inr hs)
              c00 c01 e00 e01 g00 g01 g02 g03 g04 g05 g06 c10 c11 e10 e11 g10 g11 g12 g13 g14 g15 g16 (.inl ⟨rfl, rfl, rfl⟩) (.inr ⟨rfl, rfl, rfl⟩) ?_
            intro p q r hp W2 hW2
            rcases hp with ⟨rfl, rfl, rfl⟩ | ⟨rfl, rfl, rfl⟩
            · exact i0 _ _ _ _ hU0 hX0 hzs.1 W2 (Lf.gbt hW hW2)
            · exact i1 _ _ _ _ hU1 hX1 hzs.2 W2 (Lf.gbt hW hW2)
          · exact flat hs h1 h2 h9 h12 h3 h11 (flat_same h1 h2 h3 h9 h11 h12)

theorem walk {w : World} {T U : Ty} {x : Va} {u u2 v : Value} (hT : LiesT (· < w.heap.size) w T u) (hU : LiesT (· < w.heap.size) w U u2) (hX : LiesV (· < w.heap.size) w x v) (hz : x.size ≤ 20000000) :
    Calls Try.prog 7 #[u, u2, v] w fun e w' => e = .returned (.bool true) ∧ w.grownBy w' none :=
  all (hT.okMono fun _ _ _ => trivial) U u2 x v (hU.okMono fun _ _ _ => trivial) (hX.okMono fun _ _ _ => trivial) hz w (grow_refl _ _)

theorem own : ownKnob Try.prog.godebug = none := by kernel_rfl
theorem laidOut : laidOutB Try.prog = true := by kernel_rfl

theorem below_of {w w' : World} (h : w.grownBy w' none) : Below w.heap.size w w' := ⟨h.os, h.tape, h.output, h.size, fun k hk => h.block k hk (by simp)⟩

set_option maxRecDepth 100000 in
theorem contract (H : Type) (enc : TypeId × Value → H) (W : World) (base : Nat) (args : Array Value) (ds gs : List (DataW H)) (before : List MemPlace)
    (hval : ∀ (j : Nat) t v, Try.f7.params[j]? = some t → args[j]? = some v → Value.okWide Try.prog W .any base t v)
    (hW : DataW.Whole enc Try.prog Try.f7.params.toList Rows.valueOneTypeSpec.vars false W args.toList ds gs before) (hk : Rows.uptoSmall H (ds ++ gs) = true) :
    Calls Try.prog 7 args W fun e W' => ∃ v, e = .returned v ∧ Rows.valueOneTypeSpec.post enc Try.prog Try.f7 false true false false W args v W' := by
  have hW' := hW
  obtain ⟨p, q, hA0, hV, rfl, hfz, hnd⟩ := hW
  have hA : DataW.TrodAll enc Try.prog W 0 (fun _ => true) true Try.f7.params.toList args.toList ds p := hA0
  rw [Try.params7] at hA hval
  obtain ⟨v0, vs0, d0, ds0, p0, q0, hargs, rfl, rfl, h0, r0⟩ := trodAll_cons hA
  obtain ⟨v1, vs1, d1, ds1, p1, q1, hargs1, rfl, rfl, h1, r1⟩ := trodAll_cons r0
  obtain ⟨v2, vs2, d2, ds2, p2, q2, hargs2, rfl, rfl, h2, r2⟩ := trodAll_cons r1
  obtain ⟨rfl, rfl, rfl⟩ := trodAll_nil r2
  obtain rfl : args = #[v0, v1, v2] := by cases args; simp_all
  obtain ⟨rfl, rfl⟩ := trodVars_none hV
  have hb := of_decide_eq_true hk
  simp only [List.append_nil, Rows.uptoBulkAll] at hb
  obtain ⟨t, hL, hs⟩ := open_argT (hval 0 24 v0 rfl rfl) h0
  obtain ⟨u, hLU, hs2⟩ := open_argT (hval 1 24 v1 rfl rfl) h1
  obtain ⟨x, hLX, hs3⟩ := open_argV (hval 2 28 v2 rfl rfl) h2
  clear hA0
  simp only [List.append_nil] at hW'
  have hlt0 : ∀ x ∈ p0, x.block < W.heap.size := fun x hx => hW'.lt x (by simp [hx])
  have hlt1 : ∀ x ∈ p1, x.block < W.heap.size := fun x hx => hW'.lt x (by simp [hx])
  have hlt2 : ∀ x ∈ p2, x.block < W.heap.size := fun x hx => hW'.lt x (by simp [hx])
  refine (walk hL hLU hLX (by omega)).mono fun e W' ⟨he, hg⟩ => ?_
  subst he
  have hB := below_of hg
  exact ⟨_, rfl, _, _, _, [], p0 ++ (p1 ++ (p2 ++ [])), [], hW', trodAll_cons_mk (shut_bool Try.underlying4 _) trodAll_mk0, trodAll_cons_mk (Below.trod laidOut (by kernel_rfl) (of_decide_eq_true (by kernel_rfl)) h0 hB hlt0) (trodAll_cons_mk (Below.trod laidOut (by kernel_rfl) (of_decide_eq_true (by kernel_rfl)) h1 hB hlt1) (trodAll_cons_mk (Below.trod laidOut (by kernel_rfl) (of_decide_eq_true (by kernel_rfl)) h2 hB hlt2) trodAll_mk0)), rfl, hB.frame _, fun h => by cases h⟩

set_option maxRecDepth 100000 in
theorem lifted (os : Os) (started : os.Started) (H : Type) (enc : TypeId × Value → H) (F : Stop.Interp) :
    ReturnsInHanded {} Try.checked os 7 .any ((Rows.OpenSpec.upto Rows.valueOneTypeSpec).pre6 enc Try.prog Try.f7 Rows.valueOneTypeUptoRow.domain false) (((Rows.OpenSpec.upto Rows.valueOneTypeSpec).at F).post enc Try.prog Try.f7 false true false false) := by
  refine returnsInHanded_of_cond (C := Try.checked) (s := Rows.OpenSpec.upto Rows.valueOneTypeSpec) (k := Rows.uptoSmall) rfl own started (by kernel_rfl) Try.func7
    (OpenSpec.witness (enc := enc) (C := Try.checked) (s := Rows.OpenSpec.upto Rows.valueOneTypeSpec) (k := Rows.uptoSmall) rfl false ⟨#[], #[.agg #[.int .i64 0, .slice none 0 0], .agg #[.int .i64 0, .slice none 0 0], .agg #[.int .i64 0, .int .i64 0, .int .i64 0, .string .empty, .slice none 0 0, .slice none 0 0, .slice none 0 0]], []⟩ 8 (by kernel_rfl) (by kernel_rfl) (by kernel_rfl)
      (x := ([.agg [.lit (.int .i64 0), .nil], .agg [.lit (.int .i64 0), .nil], .agg [.lit (.int .i64 0), .lit (.int .i64 0), .lit (.int .i64 0), .lit (.string []), .nil, .nil, .nil]], [], [])) (by kernel_rfl) rfl (by kernel_rfl)) ?_
  intro W base args ds gs before hval hW _ hk _
  exact contract H enc W base args ds gs before hval hW hk

theorem over : Rows.valueOneTypeUptoRow.holds Try.pinned (Rows.OpenSpec.upto Rows.valueOneTypeSpec) :=
  OpenClaim.holds_of_cond 7 Try.f7 rfl rfl rfl rfl rfl rfl rfl ⟨rfl, rfl, rfl, rfl, rfl⟩ rfl rfl rfl rfl rfl (by kernel_rfl) Try.func7 (by kernel_rfl)
    (of_decide_eq_true (by kernel_rfl)) (by unfold Func.isWrapper; first | (rw [if_pos (by decide +kernel)]; kernel_rfl) | (rw [if_neg (by decide +kernel)]; exact ⟨rfl, rfl⟩))
    (fun os started H enc _ F => lifted os started H enc F)

end Go.Proofs.Ytmmgihaoahhkjaa.valueOneType

namespace Go.Proofs.Ytmmgihaoahhkjaa
theorem valueOneType_holds : Rows.ValueOneTypeUptoSaid := valueOneType.over
#print axioms valueOneType_holds
end Go.Proofs.Ytmmgihaoahhkjaa
