/- For every type, tree and text whose reading holds at most 1048576 values and letters, ValueOnly returns true and leaves its arguments as they were: what Parse or Unpack reads is of that type and has just that tree, just that text; else they give the empty value. Condition: that bound on the reading. -/
import Derived.Test.YtdninmanfncfiadRows
import Derived.Test.YtdninmanfncfiadOnlyW
import Derived.Test.YtdninmanfncfiadOpenT
import Derived.Test.YtdninmanfncfiadOpen
import Derived.JoinedCond
import Derived.ShutString
namespace Go.Proofs.Ytdninmanfncfiad.valueOnly
open Go.ChangeShapes Go.WideShapes Go.ChangeAt Go.RowKit
open Go.ChangeMaps (open_string shut_string)
set_option linter.unusedVariables false

theorem decode_goodU {l : List UInt8} {t : Tr} (h : pDecode l = .ok t) : goodF t = 0 ∧ encTr t = l := by
  unfold pDecode at h
  cases hq : pNode 24 0 l with
  | error e => rw [hq] at h; simp at h
  | ok r =>
    obtain ⟨t', n', l'⟩ := r
    rw [hq] at h
    simp only at h
    by_cases hl' : l' = []
    · rw [if_pos hl'] at h
      injection h with h
      subst h; subst hl'
      obtain ⟨a1, a2, a3, a4⟩ := pNode_sound 24 (by omega) 0 l t' n' [] (by omega) hq
      rw [show 25 - 24 = 1 from rfl] at a4
      refine ⟨?_, by rw [a1]; simp⟩
      unfold goodF
      rw [if_neg (by simpa using a4), if_neg (by omega)]
    · rw [if_neg hl'] at h; simp at h

theorem parse_parts {T : Ty} {t : Tr} {x : Va} (h : parseF T t = some x) : goodTy T = true ∧ goodF t = 0 ∧ readT t T = some x ∧ hasF T x = true ∧ x.size ≤ 20000000 := by
  unfold parseF at h
  split at h
  · rename_i hh
    cases hr : readT t T with
    | none => rw [hr] at h; cases h
    | some x' =>
      rw [hr] at h
      simp only at h
      split at h
      · rename_i h2
        simp only [Option.some.injEq] at h
        subst h
        have h3 := readT_size t T x' hr
        have h4 := (goodF_zero hh.2).2
        exact ⟨hh.1, hh.2, rfl, h2, by omega⟩
      · cases h
  · cases h

/-- what was read of a type that can be told has just that tree -/
theorem only_tree {T : Ty} {t : Tr} {x : Va} (h : parseF T t = some x) (hp : packT T = true) : canF T x = true ∧ toldF x = t ∧ goodF (toldF x) = 0 := by
  obtain ⟨h1, h2, h3, h4, _⟩ := parse_parts h
  have hc : canF T x = true := by unfold canF; rw [h4, hp]; rfl
  obtain ⟨_, h5, _⟩ := can_parts hc
  have hf := (goodTy_formed h1).1
  have hd := read_only t T x 1 1 h3 hf (goodF_zero h2).1
  obtain ⟨k1, k2, _⟩ := told_good h5 hp hf
  rw [hd] at k1 k2
  have hg : goodF (toldF x) = 0 := by rw [k1, h2]
  exact ⟨hc, k2 hg, hg⟩

theorem unpack_parts {T : Ty} {l : List UInt8} {y : Va} (h : unpackF T l = some y) : ∃ r t, l = 5 :: r ∧ r.length ≤ 199 ∧ pDecode r = .ok t ∧ parseF T t = some y ∧ packT T = true := by
  cases l with
  | nil => rw [unpackF] at h; cases h
  | cons b r =>
    by_cases hb : b = 5 ∧ r.length ≤ 199
    · obtain ⟨rfl, hr⟩ := hb
      cases hd : pDecode r with
      | error er => rw [unpackF_err hr hd] at h; cases h
      | ok t =>
        cases hp : parseF T t with
        | none => rw [unpackF_none hr hd hp] at h; cases h
        | some x =>
          rw [unpackF_some hr hd hp] at h
          split at h
          · rename_i hk
            simp only [Option.some.injEq] at h
            subst h
            exact ⟨r, t, rfl, hr, hd, hp, hk⟩
          · cases h
    · rw [unpackF_no hb] at h; cases h

theorem liesV_zero (W : World) : LiesV (fun _ => True) W (leafVa 0 0 ⟨#[]⟩ []) (vaV 0 0 0 ⟨#[]⟩ none 0 0 none 0 0 none 0 0) := liesV_leaf (ys := []) (V := fun _ => .int .i64 0) ⟨by omega, by omega⟩ ⟨by omega, by omega⟩ (Nat.zero_le _) (RowVa.nil _ _ _ _) (Nat.le_refl _)

theorem walk {w : World} {T : Ty} {t : Tr} {tv nv : Value} (hT0 : LiesT (· < w.heap.size) w T tv) (hL0 : Lies (· < w.heap.size) w t nv) (l : List UInt8) (hz : t.size ≤ 1048576) (hl : l.length ≤ 1048576) :
    Calls Try.prog 3 #[tv, nv, .string ⟨l.toArray⟩] w fun e w' => e = .returned (.bool true) ∧ w.grownBy w' none := by
  have hT : LiesT (fun _ => True) w T tv := hT0.okMono fun _ _ _ => trivial
  have hL : Lies (fun _ => True) w t nv := hL0.okMono fun _ _ _ => trivial
  have hTW : ∀ W2, w.grownBy W2 none → LiesT (fun _ => True) W2 T tv := fun W2 hg => LiesT.same hT (sameAll hg)
  have hLW : ∀ W2, w.grownBy W2 none → Lies (fun _ => True) W2 t nv := fun W2 hg => hL.same (sameAll hg)
  have hHas : ∀ x, hasF T x = true → x.size ≤ 20000000 → ∀ (W2 : World) (v : Value), w.grownBy W2 none → LiesV (fun _ => True) W2 x v → Calls Try.prog 7 #[tv, v] W2 fun e w' => e = .returned (.bool true) ∧ W2.grownBy w' none := fun x hx hzx W2 v hg hv => by
    have h := has_any (hTW W2 hg) hv hzx W2 (grow_refl _ _)
    rw [hx] at h
    exact h
  have hS : ∀ W2, w.grownBy W2 none → Calls Try.prog 12 #[vaV 0 0 0 ⟨#[]⟩ none 0 0 none 0 0 none 0 0, vaV 0 0 0 ⟨#[]⟩ none 0 0 none 0 0 none 0 0] W2 fun e w' => e = .returned (.bool true) ∧ W2.grownBy w' none := fun W2 hg => by
    have hp : Plain (leafVa 0 0 ⟨#[]⟩ []) := .mk (fun x hx => by simp at hx)
    have h := sameV_any (liesV_zero W2) (liesV_zero W2) hp hp (by decide) W2 (grow_refl _ _)
    rw [sbs_self, decide_eq_true rfl] at h
    exact h
  have hU : ∀ W2, w.grownBy W2 none → Calls Try.prog 10 #[tv, .string ⟨l.toArray⟩] W2 (UnpackPost T l W2) := fun W2 hg => unpack_any (hTW W2 hg) l (by omega) (fun r t hd => (goodF_zero (decode_goodU hd).1).2)
  have hR : ∀ W2, w.grownBy W2 none → Calls Try.prog 5 #[tv, nv] W2 (ParsePost T t W2) := fun W2 hg => parse_any (hTW W2 hg) (hLW W2 hg) (by omega)
  have hU0 : unpackF T l = none → ∀ W2, w.grownBy W2 none → Calls Try.prog 10 #[tv, .string ⟨l.toArray⟩] W2 fun e w' => W2.grownBy w' none ∧ e = .returned (.tuple #[vaV 0 0 0 ⟨#[]⟩ none 0 0 none 0 0 none 0 0, .int .i64 1]) := fun hn W2 hg => (hU W2 hg).mono fun e w' h => by
    rcases h.2 with ⟨x, v, h1, _⟩ | ⟨_, h1⟩
    · rw [hn] at h1; cases h1
    · exact ⟨h.1, h1⟩
  have hU1 : ∀ y, unpackF T l = some y → ∀ W2, w.grownBy W2 none → Calls Try.prog 10 #[tv, .string ⟨l.toArray⟩] W2 fun e w' => W2.grownBy w' none ∧ ∃ v, e = .returned (.tuple #[v, .int .i64 0]) ∧ LiesV (fun _ => True) w' y v := fun y hn W2 hg => (hU W2 hg).mono fun e w' h => by
    rcases h.2 with ⟨x, v, h1, h2, h3⟩ | ⟨h1, _⟩
    · rw [hn] at h1
      obtain rfl := Option.some.inj h1
      exact ⟨h.1, v, h2, h3⟩
    · rw [hn] at h1; cases h1
  have hP1 : ∀ y, unpackF T l = some y → (hasF T y = true ∧ y.size ≤ 20000000) ∧ ∀ (W2 : World) (v : Value), w.grownBy W2 none → LiesV (fun _ => True) W2 y v → Calls Try.prog 13 #[tv, v] W2 fun e w' => W2.grownBy w' none ∧ e = .returned (.tuple #[.string ⟨l.toArray⟩, .int .i64 0]) := fun y hn => by
    obtain ⟨r, t', rfl, hr, hd, hp, hk⟩ := unpack_parts hn
    obtain ⟨_, _, _, hh, hzy⟩ := parse_parts hp
    obtain ⟨hc, htd, hg0⟩ := only_tree hp hk
    have hen := (decode_goodU hd).2
    refine ⟨⟨hh, hzy⟩, fun W2 v hg hv => (pack_any (hTW W2 hg) hv hzy).mono fun e w' h => ?_⟩
    rcases h with ⟨h1, _⟩ | ⟨_, h⟩
    · rw [hc] at h1; cases h1
    · unfold ToldPost at h
      rw [htd, hen] at h
      rcases h.2 with ⟨h1, _⟩ | ⟨_, h1, _⟩ | ⟨_, _, h1⟩
      · rw [htd] at hg0; exact absurd hg0 h1
      · omega
      · exact ⟨h.1, h1⟩
  obtain ⟨a, c, VT, rfl, it, hRT⟩ := hT.inv
  obtain ⟨kn, nn, pn, sn, an, ln, cn, rfl⟩ := hL.nodeV
  cases hpf : parseF T t with
  | none =>
    have hR0 : ∀ W2, w.grownBy W2 none → Calls Try.prog 5 #[tyV T.t a T.args.length c, nodeV kn nn pn sn an ln cn] W2 fun e w' => W2.grownBy w' none ∧ e = .returned (.tuple #[vaV 0 0 0 ⟨#[]⟩ none 0 0 none 0 0 none 0 0, .int .i64 1]) := fun W2 hg => (hR W2 hg).mono fun e w' h => by
      rcases h.2 with ⟨x, v, h1, _⟩ | ⟨_, h1⟩
      · rw [hpf] at h1; cases h1
      · exact ⟨h.1, h1⟩
    cases hu : unpackF T l with
    | none => exact only_00 (x := leafVa 0 0 ⟨#[]⟩ []) (y := leafVa 0 0 ⟨#[]⟩ []) (t := t) hR0 (hU0 hu) hS
    | some y => exact only_01 (x := leafVa 0 0 ⟨#[]⟩ []) (t := t) hR0 (hU1 y hu) (hHas y (hP1 y hu).1.1 (hP1 y hu).1.2) (hP1 y hu).2
  | some x =>
    obtain ⟨g1, g2, g3, g4, g5⟩ := parse_parts hpf
    have hTs : T.size ≤ 50000000 := by have := (goodTy_formed g1).2.1; omega
    have hR1 : ∀ W2, w.grownBy W2 none → Calls Try.prog 5 #[tyV T.t a T.args.length c, nodeV kn nn pn sn an ln cn] W2 fun e w' => W2.grownBy w' none ∧ ∃ v, e = .returned (.tuple #[v, .int .i64 0]) ∧ LiesV (fun _ => True) w' x v := fun W2 hg => (hR W2 hg).mono fun e w' h => by
      rcases h.2 with ⟨x', v, h1, h2, h3⟩ | ⟨h1, _⟩
      · rw [hpf] at h1
        obtain rfl := Option.some.inj h1
        exact ⟨h.1, v, h2, h3.okMono fun _ _ _ => trivial⟩
      · rw [hpf] at h1; cases h1
    have hK : ∀ W2, w.grownBy W2 none → Calls Try.prog 8 #[tyV T.t a T.args.length c] W2 fun e w' => e = .returned (.bool (packT T)) ∧ W2.grownBy w' none := fun W2 hg => packed_any (LiesT.up hT hg) hTs
    have hN : ∀ (W2 : World) (v : Value), w.grownBy W2 none → LiesV (fun _ => True) W2 x v → Calls Try.prog 6 #[tyV T.t a T.args.length c, v] W2 (VNodePost T x W2) := fun W2 v hg hv => vnode_any (hTW W2 hg) hv g5
    cases hk : packT T with
    | false =>
      rw [hk] at hK
      have hcf : canF T x = false := by unfold canF; rw [hk]; simp
      have hN1 : ∀ (W2 : World) (v : Value), w.grownBy W2 none → LiesV (fun _ => True) W2 x v → Calls Try.prog 6 #[tyV T.t a T.args.length c, v] W2 fun e w' => W2.grownBy w' none ∧ e = .returned (.tuple #[nodeV 0 0 0 ⟨#[]⟩ none 0 0, .int .i64 5]) := fun W2 v hg hv => (hN W2 v hg hv).mono fun e w' h => by
        rcases h.2 with ⟨_, h1⟩ | ⟨h1, _⟩ | ⟨h1, _⟩
        · exact ⟨h.1, h1⟩
        · rw [hcf] at h1; cases h1
        · rw [hcf] at h1; cases h1
      cases hu : unpackF T l with
      | none => exact only_10 (x := x) (y := x) (t := t) hR1 (hHas x g4 g5) hK hN1 (hU0 hu) hS
      | some y => exact only_11 (x := x) (t := t) hR1 (hHas x g4 g5) hK hN1 (hU1 y hu) (hHas y (hP1 y hu).1.1 (hP1 y hu).1.2) (hP1 y hu).2
    | true =>
      rw [hk] at hK
      obtain ⟨hc, htd, hg0⟩ := only_tree hpf hk
      have hN2 : ∀ (W2 : World) (v : Value), w.grownBy W2 none → LiesV (fun _ => True) W2 x v → Calls Try.prog 6 #[tyV T.t a T.args.length c, v] W2 fun e w' => W2.grownBy w' none ∧ ∃ u, e = .returned (.tuple #[u, .int .i64 0]) ∧ Lies (fun _ => True) w' t u := fun W2 v hg hv => (hN W2 v hg hv).mono fun e w' h => by
        rcases h.2 with ⟨h1, _⟩ | ⟨_, h1, _⟩ | ⟨_, _, u, h1, h2⟩
        · rw [hc] at h1; cases h1
        · exact absurd hg0 h1
        · rw [htd] at h2; exact ⟨h.1, u, h1, h2.okMono fun _ _ _ => trivial⟩
      have hA : ∀ (W2 : World) (u : Value), w.grownBy W2 none → Lies (fun _ => True) W2 t u → Calls Try.prog 9 #[u, nodeV kn nn pn sn an ln cn] W2 fun e w' => e = .returned (.bool true) ∧ W2.grownBy w' none := fun W2 u hg hu => alike_any hu _ W2 (grow_refl _ _) (hLW W2 hg)
      cases hu : unpackF T l with
      | none => exact only_20 (x := x) (y := x) (t := t) hR1 (hHas x g4 g5) hK hN2 hA (hU0 hu) hS
      | some y => exact only_21 (x := x) (t := t) hR1 (hHas x g4 g5) hK hN2 hA (hU1 y hu) (hHas y (hP1 y hu).1.1 (hP1 y hu).1.2) (hP1 y hu).2

theorem own : ownKnob Try.prog.godebug = none := by kernel_rfl
theorem laidOut : laidOutB Try.prog = true := by kernel_rfl

theorem below_of {w w' : World} (h : w.grownBy w' none) : Below w.heap.size w w' := ⟨h.os, h.tape, h.output, h.size, fun k hk => h.block k hk (by simp)⟩

set_option maxRecDepth 100000 in
theorem contract (H : Type) (enc : TypeId × Value → H) (W : World) (base : Nat) (args : Array Value) (ds gs : List (DataW H)) (before : List MemPlace)
    (hval : ∀ (j : Nat) t v, Try.f3.params[j]? = some t → args[j]? = some v → Value.okWide Try.prog W .any base t v)
    (hW : DataW.Whole enc Try.prog Try.f3.params.toList Rows.valueOnlySpec.vars false W args.toList ds gs before) (hk : Rows.uptoSmall H (ds ++ gs) = true) :
    Calls Try.prog 3 args W fun e W' => ∃ v, e = .returned v ∧ Rows.valueOnlySpec.post enc Try.prog Try.f3 false true false false W args v W' := by
  have hW' := hW
  obtain ⟨p, q, hA0, hV, rfl, hfz, hnd⟩ := hW
  have hA : DataW.TrodAll enc Try.prog W 0 (fun _ => true) true Try.f3.params.toList args.toList ds p := hA0
  rw [Try.params3] at hA hval
  obtain ⟨v0, vs0, d0, ds0, p0, q0, hargs, rfl, rfl, h0, r0⟩ := trodAll_cons hA
  obtain ⟨v1, vs1, d1, ds1, p1, q1, hargs1, rfl, rfl, h1, r1⟩ := trodAll_cons r0
  obtain ⟨v2, vs2, d2, ds2, p2, q2, hargs2, rfl, rfl, h2, r2⟩ := trodAll_cons r1
  obtain ⟨rfl, rfl, rfl⟩ := trodAll_nil r2
  obtain rfl : args = #[v0, v1, v2] := by cases args; simp_all
  obtain ⟨rfl, rfl⟩ := trodVars_none hV
  have hb := of_decide_eq_true hk
  simp only [List.append_nil, Rows.uptoBulkAll] at hb
  obtain ⟨t, hL, hs⟩ := open_argT (hval 0 24 v0 rfl rfl) h0
  obtain ⟨x1, hL1, hs1⟩ := open_arg (hval 1 27 v1 rfl rfl) h1
  obtain ⟨a0, rfl, rfl, rfl, w0⟩ := open_string Try.underlying9 (hval 2 9 v2 rfl rfl) h2
  clear hA0
  simp only [List.append_nil] at hW'
  have hlt0 : ∀ x ∈ p0, x.block < W.heap.size := fun x hx => hW'.lt x (by simp [hx])
  have hlt1 : ∀ x ∈ p1, x.block < W.heap.size := fun x hx => hW'.lt x (by simp [hx])
  have hwalk := walk hL hL1 a0.data.toList (by omega) (by simp only [Rows.uptoBulk] at hb; omega)
  rw [show (⟨a0.data.toList.toArray⟩ : ByteArray) = a0 from by simp] at hwalk
  refine hwalk.mono fun e W' ⟨he, hg⟩ => ?_
  subst he
  have hB := below_of hg
  exact ⟨_, rfl, _, _, _, [], p0 ++ (p1 ++ ([] ++ [])), [], hW', trodAll_cons_mk (shut_bool Try.underlying4 _) trodAll_mk0, trodAll_cons_mk (Below.trod laidOut (by kernel_rfl) (of_decide_eq_true (by kernel_rfl)) h0 hB hlt0) (trodAll_cons_mk (Below.trod laidOut (by kernel_rfl) (of_decide_eq_true (by kernel_rfl)) h1 hB hlt1) (trodAll_cons_mk (shut_string Try.underlying9 w0) trodAll_mk0)), rfl, hB.frame _, fun h => by cases h⟩

set_option maxRecDepth 100000 in
theorem lifted (os : Os) (started : os.Started) (H : Type) (enc : TypeId × Value → H) (F : Stop.Interp) :
    ReturnsInHanded {} Try.checked os 3 .any ((Rows.OpenSpec.upto Rows.valueOnlySpec).pre6 enc Try.prog Try.f3 Rows.valueOnlyUptoRow.domain false) (((Rows.OpenSpec.upto Rows.valueOnlySpec).at F).post enc Try.prog Try.f3 false true false false) := by
  refine returnsInHanded_of_cond (C := Try.checked) (s := Rows.OpenSpec.upto Rows.valueOnlySpec) (k := Rows.uptoSmall) rfl own started (by kernel_rfl) Try.func3
    (OpenSpec.witness (enc := enc) (C := Try.checked) (s := Rows.OpenSpec.upto Rows.valueOnlySpec) (k := Rows.uptoSmall) rfl false ⟨#[], #[.agg #[.int .i64 0, .slice none 0 0], .agg #[.int .i64 0, .int .i64 0, .int .i64 0, .string .empty, .slice none 0 0], .string .empty], []⟩ 8 (by kernel_rfl) (by kernel_rfl) (by kernel_rfl)
      (x := ([.agg [.lit (.int .i64 0), .nil], .agg [.lit (.int .i64 0), .lit (.int .i64 0), .lit (.int .i64 0), .lit (.string []), .nil], .lit (.string [])], [], [])) (by kernel_rfl) rfl (by kernel_rfl)) ?_
  intro W base args ds gs before hval hW _ hk _
  exact contract H enc W base args ds gs before hval hW hk

theorem over : Rows.valueOnlyUptoRow.holds Try.pinned (Rows.OpenSpec.upto Rows.valueOnlySpec) :=
  OpenClaim.holds_of_cond 3 Try.f3 rfl rfl rfl rfl rfl rfl rfl ⟨rfl, rfl, rfl, rfl, rfl⟩ rfl rfl rfl rfl rfl (by kernel_rfl) Try.func3 (by kernel_rfl)
    (of_decide_eq_true (by kernel_rfl)) (by unfold Func.isWrapper; first | (rw [if_pos (by decide +kernel)]; kernel_rfl) | (rw [if_neg (by decide +kernel)]; exact ⟨rfl, rfl⟩))
    (fun os started H enc _ F => lifted os started H enc F)

end Go.Proofs.Ytdninmanfncfiad.valueOnly

namespace Go.Proofs.Ytdninmanfncfiad
theorem valueOnly_holds : Rows.ValueOnlyUptoSaid := valueOnly.over
#print axioms valueOnly_holds
end Go.Proofs.Ytdninmanfncfiad
