/- The document's own has and Has, by their contracts. -/
import Derived.Test.YtmmgihaoahhkjaaKRHas8
import Derived.Test.YtmmgihaoahhkjaaKRHasP
import Derived.Test.YtmmgihaoahhkjaaKRHas11
import Derived.Test.YtmmgihaoahhkjaaKRHas12
import Derived.Test.YtmmgihaoahhkjaaKRHas13
import Derived.Test.YtmmgihaoahhkjaaKRHas15
import Derived.Test.YtmmgihaoahhkjaaKRefGood
namespace Go.Proofs.Ytmmgihaoahhkjaa
set_option maxRecDepth 20000
open Go.ChangeShapes Go.WideShapes Go.ChangeAt Go.RowKit
set_option linter.unusedVariables false

theorem has_1 {T : Ty} {x : Va} {d : Nat} (hf : formedB d T = true) (h : T.t = 1) (hk : T.t = x.k) : hasV x T = bareB false false false 0 0 false x := by
  rw [has_leaf hf (by omega) (by omega) hk]
  have e : fitsNF T.t x.n = decide (x.n = 0) := by unfold fitsNF; rw [if_neg (by omega), if_neg (by omega), if_neg (by omega), if_neg (by omega), if_neg (by omega)]
  rw [e, h]
  unfold bareB
  rw [Bool.eq_iff_iff]
  simp
  intro h1 _ _ _ _ _
  exact h1
theorem has_n {T : Ty} {x : Va} {d : Nat} (hf : formedB d T = true) (h2 : 2 ≤ T.t) (h7 : T.t ≤ 7) (h6 : T.t ≠ 6) (hk : T.t = x.k) : hasV x T = (bareB true false false 0 0 false x && fitsNF T.t x.n) := by
  rw [has_leaf hf (by omega) h7 hk]
  have e1 : decide (T.t ≠ 1 ∧ T.t ≠ 6) = true := decide_eq_true (by omega)
  have e2 : decide (T.t = 6) = false := decide_eq_false h6
  rw [e1, e2]
  simp
theorem has_6 {T : Ty} {x : Va} {d : Nat} (hf : formedB d T = true) (h : T.t = 6) (hk : T.t = x.k) : hasV x T = (bareB false false true 0 0 false x && decide (x.s.size ≤ 200)) := by
  rw [has_leaf hf (by omega) (by omega) hk]
  have e : fitsNF T.t x.n = decide (x.n = 0) := by unfold fitsNF; rw [if_neg (by omega), if_neg (by omega), if_neg (by omega), if_neg (by omega), if_neg (by omega)]
  rw [e, h]
  unfold bareB
  rw [Bool.eq_iff_iff]
  simp
  intro _ h1 _ _ _ _
  exact h1
theorem fitsN2 (n : Int) : fitsNF 2 n = decide (n = 0 ∨ n = 1) := by unfold fitsNF; simp
theorem fitsN3 (n : Int) : fitsNF 3 n = inB n := by unfold fitsNF; simp
theorem fitsN4 (n : Int) : fitsNF 4 n = amountB n := by unfold fitsNF; simp
theorem fitsN5 (n : Int) : fitsNF 5 n = amountB n := by unfold fitsNF; simp
theorem fitsN7 (n : Int) : fitsNF 7 n = addrB n := by unfold fitsNF; simp

theorem formed_typeR {d : Nat} {T : Ty} (h : formedB d T = true) : 1 ≤ T.t ∧ T.t ≤ 15 := by
  obtain ⟨t, args⟩ := T
  simp only [formedB, Bool.and_eq_true, isTypeB, decide_eq_true_eq] at h
  exact h.1.2.1

theorem has_some11 {T : Ty} {x : Va} {d : Nat} (hf : formedB d T = true) (hv : hasV x T = true) : x.k = T.t ∧ True := by
  obtain ⟨hfi, _⟩ := hasV_parts hv
  unfold fitsF at hfi
  simp only [Bool.and_eq_true, decide_eq_true_eq] at hfi
  exact ⟨hfi.1.1.1.1.1, trivial⟩

theorem ans_of {f : Nat} {args : Array Value} {W : World} {b : Bool} (h : ∀ W2, W.grownBy W2 none → Calls Try.prog f args W2 fun e w' => e = .returned (.bool b) ∧ W2.grownBy w' none) : Ans f args W b := h

theorem ans_same {f : Nat} {args : Array Value} {W : World} {b : Bool} (h : ∀ W2, Calls Try.prog f args W2 fun e w' => e = .returned (.bool b) ∧ w' = W2) : Ans f args W b := fun W2 _ => (h W2).mono fun e w' ⟨h1, h2⟩ => ⟨h1, by rw [h2]; exact grow_refl _ _⟩

theorem ans_eq {f : Nat} {args : Array Value} {W : World} {b b' : Bool} (h : Ans f args W b) (e : b = b') : Ans f args W b' := e ▸ h

/-- what has answers -/
def HasOk (w : World) (x : Va) (v : Value) : Prop := ∀ (T : Ty) (tv : Value) (d : Nat) (W : World), formedB d T = true → keyedF T = true → LiesT (fun _ => True) w T tv → w.grownBy W none →
    Calls Try.prog 36 #[tv, v] W fun e w' => e = .returned (.bool (hasV x T)) ∧ W.grownBy w' none

theorem tcell {w : World} {p : Option Addr} {i : Nat} {v : Value} (h : TyAt (fun _ => True) w p i v) : ∃ b o t a l c, p = some ⟨b, o, none⟩ ∧ v = tyV t a l c ∧ ∀ W, w.grownBy W none → W.cell? ⟨b, o + i * 2, none⟩ = some (.int .i64 t) ∧ W.cell? ⟨b, o + i * 2 + 1, none⟩ = some (.slice a l c) := by
  obtain ⟨b, o, hp, _, t, a, l, c, hv, h0, h1⟩ := h
  have hlt : b < w.heap.size := World.block_lt_of_cell? w _ h0
  exact ⟨b, o, t, a, l, c, hp, hv, fun W hW => ⟨(World.cell?_of_block (hW.block b hlt (by simp))).trans h0, (World.cell?_of_block (hW.block b hlt (by simp))).trans h1⟩⟩

theorem vcell {w : World} {p : Option Addr} {i : Nat} {v : Value} (h : VaAt (fun _ => True) w p i v) : ∃ b o k n x s aa al ac ta tl tc na nl nc, p = some ⟨b, o, none⟩ ∧ v = vaV k n x s aa al ac ta tl tc na nl nc ∧ ∀ W, w.grownBy W none →
    W.cell? ⟨b, o + i * 7, none⟩ = some (.int .i64 k) ∧ W.cell? ⟨b, o + i * 7 + 1, none⟩ = some (.int .i64 n) ∧ W.cell? ⟨b, o + i * 7 + 2, none⟩ = some (.int .i64 x) ∧ W.cell? ⟨b, o + i * 7 + 3, none⟩ = some (.string s) ∧
    W.cell? ⟨b, o + i * 7 + 4, none⟩ = some (.slice aa al ac) ∧ W.cell? ⟨b, o + i * 7 + 5, none⟩ = some (.slice ta tl tc) ∧ W.cell? ⟨b, o + i * 7 + 6, none⟩ = some (.slice na nl nc) := by
  obtain ⟨b, o, hp, _, k, n, x, s, aa, al, ac, ta, tl, tc, na, nl, nc, hv, h0, h1, h2, h3, h4, h5, h6⟩ := h
  have hlt : b < w.heap.size := World.block_lt_of_cell? w _ h0
  have hk : ∀ W, w.grownBy W none → ∀ q, W.cell? ⟨b, q, none⟩ = w.cell? ⟨b, q, none⟩ := fun W hW q => World.cell?_of_block (hW.block b hlt (by simp))
  exact ⟨b, o, k, n, x, s, aa, al, ac, ta, tl, tc, na, nl, nc, hp, hv, fun W hW => ⟨(hk W hW _).trans h0, (hk W hW _).trans h1, (hk W hW _).trans h2, (hk W hW _).trans h3, (hk W hW _).trans h4, (hk W hW _).trans h5, (hk W hW _).trans h6⟩⟩

def HasC (w : World) (x : Va) (v : Value) : Prop := ∀ (T : Ty) (tv : Value) (W : World), LiesT (fun _ => True) w T tv → w.grownBy W none →
    Calls Try.prog 11 #[tv, v] W fun e w' => e = .returned (.bool (hasF T x)) ∧ W.grownBy w' none

set_option maxRecDepth 100000 in
set_option maxHeartbeats 1000000 in
theorem rHas_of {w : World} {x : Va} {v : Value} (hV : LiesV (fun _ => True) w x v) (hhas : HasOk w x v) : HasC w x v := by
  intro T tv W hT hW
  obtain ⟨a, c, VT, rfl, it, hRT⟩ := hT.inv
  obtain ⟨k1, n1, a1, s1, aa1, al1, ac1, ta1, tl1, tc1, na1, nl1, nc1, rfl⟩ := hV.vaV
  let A : Obj := .cells #[.int .i64 T.t, .slice a T.args.length c] 24
  let B : Obj := .cells #[.int .i64 k1, .int .i64 n1, .int .i64 a1, .string s1, .slice aa1 al1 ac1, .slice ta1 tl1 tc1, .slice na1 nl1 nc1] 28
  have HG0 := Lf.hide (Lf.gbt (Lf.gb (w := W) A) (Lf.gb B))
  have HA0 := Lf.hide (res_new W A B)
  have HB0 := Lf.hide (rnew_two W A B)
  have HGD : Hid (∀ W2, W.grownBy W2 none → Calls Try.prog 35 #[tyV T.t a T.args.length c] W2 fun e w' => e = .returned (.bool (goodTy T)) ∧ W2.grownBy w' none) := fun W2 h => rgood_any hT W2 (Lf.gbt hW h)
  have HH : Hid (goodTy T = true → ∀ W2, W.grownBy W2 none → Calls Try.prog 36 #[tyV T.t a T.args.length c, vaV k1 n1 a1 s1 aa1 al1 ac1 ta1 tl1 tc1 na1 nl1 nc1] W2 fun e w' => e = .returned (.bool (hasV x T)) ∧ W2.grownBy w' none) := fun hg W2 h => hhas T _ 1 W2 (goodTy_formed hg).1 (goodTy_formed hg).2.2 hT (Lf.gbt hW h)
  have HF : Hid (hasF T x = (goodTy T && hasV x T)) := rfl
  clear hT hV hhas hRT it hW
  unfold tyV vaV at *
  generalize hasF T x = qf at *
  generalize hasV x T = qv at *
  cases hg : goodTy T with
  | false =>
    rw [hg] at HGD HF
    clear hg HH
    go_enter Try.func11, Try.ntmps11
    go_wp2_with fail
    refine (HGD.out _ HG0.out).mono ?_; rintro e w1 ⟨rfl, hg⟩
    have HG1 := Lf.hide (Lf.gbt HG0.out hg)
    clear hg
    go_wp2_with fail
    go_ret
    exact Lf.retb (by rw [HF.out]; rfl) HG1.out
  | true =>
    rw [hg] at HGD HF
    have HH2 := Lf.hide (HH.out hg)
    clear hg HH
    go_enter Try.func11, Try.ntmps11
    go_wp2_with fail
    refine (HGD.out _ HG0.out).mono ?_; rintro e w1 ⟨rfl, hg⟩
    have HG1 := Lf.hide (Lf.gbt HG0.out hg)
    have hA1 := keepB HA0.out hg
    have hB1 := keepB HB0.out hg
    have q0 := cell0_of hA1
    have q1 := cell1_of hA1
    obtain ⟨b0, b1, b2, b3, b4, b5, b6⟩ := box7 hB1
    clear hg hA1 hB1
    go_wp2_with fail
    refine (HH2.out _ HG1.out).mono ?_; rintro e w2 ⟨rfl, hg⟩
    have HG2 := Lf.hide (Lf.gbt HG1.out hg)
    clear hg
    go_wp2_with fail
    go_ret
    exact Lf.retb (by rw [HF.out]; simp) HG2.out

theorem hbare (k0 : Int) (bn ba bs : Bool) (al tl : Nat) (bc : Bool) {n a : Int} {s : ByteArray} {aa ta na : Option Addr} {ac tc nc : Nat} (k : Int) {args : List Va} {types : List Ty} {code : List Tr} (h1 : args.length ≤ maxLen) (h2 : types.length ≤ maxLen) (h3 : code.length ≤ maxLen) (W : World) :
    Ans 74 #[.agg #[.int .i64 k0, .int .i64 n, .int .i64 a, .string s, .slice aa args.length ac, .slice ta types.length tc, .slice na code.length nc], .bool bn, .bool ba, .bool bs, .int .i64 (al : Int), .int .i64 (tl : Int), .bool bc] W (bareB bn ba bs al tl bc (.mk k n a s args types code)) := fun W2 _ => by
  have h := rbareN_any bn ba bs al tl bc k0 n a s aa args.length ac ta types.length tc na code.length nc W2 h1 h2 h3
  have e := bareN_B bn ba bs al tl bc (.mk k n a s args types code)
  simp only [Va.n, Va.a, Va.s, Va.args, Va.types, Va.code] at e
  rw [e] at h
  exact h

theorem some_inj {b o b' o' : Nat} (h : (some ⟨b, o, none⟩ : Option Addr) = some ⟨b', o', none⟩) : b = b' ∧ o = o' := by simpa using h

set_option maxRecDepth 100000 in
set_option maxHeartbeats 4000000 in
theorem rhas_any {w : World} {x : Va} {v : Value} (hV : LiesV (fun _ => True) w x v) : HasOk w x v ∧ HasC w x v := by
  induction hV with
  | @mk k n a s args types code aa ta na ac tc nc _ V VT VN hl hlc hs ik iN ia hTy hN hc hr ih =>
    have hV' : LiesV (fun _ => True) w (.mk k n a s args types code) (vaV k n a s aa args.length ac ta types.length tc na code.length nc) := .mk (hnk := by assumption) V VT VN hl hlc hs ik iN ia hTy hN hc hr
    suffices hhas : HasOk w (.mk k n a s args types code) (vaV k n a s aa args.length ac ta types.length tc na code.length nc) from ⟨hhas, rHas_of hV' hhas⟩
    intro T tv d W hf hkey hT hW
    obtain ⟨a', c, VT', rfl, it, hRT⟩ := hT.inv
    by_cases hkk : T.t = k
    case neg =>
      have := rhas_other (W := W) (t := T.t) (k := k) (n := n) (xa := a) (s := s) (a := a') (aa := aa) (ta := ta) (na := na) (tn := T.args.length) (c := c) (al := args.length) (ac := ac) (tl := types.length) (tc := tc) (nl := code.length) (nc := nc) hkk
      rw [has_kind (show ¬ T.t = (Va.mk k n a s args types code).k from hkk)]
      exact this
    subst hkk
    have hx : T.t = (Va.mk T.t n a s args types code).k := rfl
    have HBA : ∀ (k0 : Int) (bn ba bs : Bool) (al tl : Nat) (bc : Bool), Ans 74 #[.agg #[.int .i64 k0, .int .i64 n, .int .i64 a, .string s, .slice aa args.length ac, .slice ta types.length tc, .slice na code.length nc], .bool bn, .bool ba, .bool bs, .int .i64 (al : Int), .int .i64 (tl : Int), .bool bc] W (bareB bn ba bs al tl bc (.mk T.t n a s args types code)) := fun k0 bn ba bs al tl bc => hbare k0 bn ba bs al tl bc T.t hl hTy.1 hN.1 W
    obtain ⟨t1, t2⟩ := formed_typeR hf
    obtain ⟨hlen, hfa⟩ := formed_args2 hf
    obtain ⟨hkh, hka⟩ := keyed_args hkey
    have hsub : ∀ i (h : i < T.args.length) j (h' : j < args.length), Ans 36 #[VT' i, V j] W (hasV args[j] T.args[i]) := fun i h j h' W2 hW2 => (ih j h').1 T.args[i] (VT' i) (d + 1) W2 (hfa _ (List.getElem_mem h)) (hka _ (List.getElem_mem h)) (hRT.2.2 i h) (Lf.gbt hW hW2)
    have hcW : ∀ j, j < args.length → VaAt (fun _ => True) W aa j (V j) := fun j hj => (hc j hj).same (sameAll hW)
    have hRW : RowT (fun _ => True) W T.args a' VT' := hRT.same (sameAll hW)
    have hTyW : RowT (fun _ => True) W types ta VT := hTy.same (sameAll hW)
    unfold tyV vaV
    have hcase : T.t = 1 ∨ T.t = 2 ∨ T.t = 3 ∨ T.t = 4 ∨ T.t = 5 ∨ T.t = 6 ∨ T.t = 7 ∨ T.t = 8 ∨ T.t = 9 ∨ T.t = 10 ∨ T.t = 11 ∨ T.t = 12 ∨ T.t = 13 ∨ T.t = 14 ∨ T.t = 15 := by omega
    rcases hcase with h | h | h | h | h | h | h | h | h | h | h | h | h | h | h
    · rw [has_1 hf h hx]
      have key : ∀ t, t = 1 → Calls Try.prog 36 #[.agg #[.int .i64 t, .slice a' T.args.length c], .agg #[.int .i64 t, .int .i64 n, .int .i64 a, .string s, .slice aa args.length ac, .slice ta types.length tc, .slice na code.length nc]] W fun e w' => e = .returned (.bool (bareB false false false 0 0 false (.mk T.t n a s args types code))) ∧ W.grownBy w' none := fun t ht => by subst ht; exact rhas_1 (Lf.hide (HBA 1 false false false 0 0 false))
      exact key T.t h
    · skip
      have key : ∀ t, t = 2 → Calls Try.prog 36 #[.agg #[.int .i64 t, .slice a' T.args.length c], .agg #[.int .i64 t, .int .i64 n, .int .i64 a, .string s, .slice aa args.length ac, .slice ta types.length tc, .slice na code.length nc]] W fun e w' => e = .returned (.bool (hasV (.mk T.t n a s args types code) T)) ∧ W.grownBy w' none := fun t ht => by
        subst ht
        have hb := HBA 2 true false false 0 0 false
        rw [has_n hf (by omega) (by omega) (by omega) hx, show fitsNF T.t (Va.mk T.t n a s args types code).n = decide (n = 0 ∨ n = 1) from by rw [h]; exact fitsN2 n]
        cases hq : bareB true false false 0 0 false (.mk T.t n a s args types code) with
        | false => rw [hq] at hb; rw [Bool.false_and]; exact rhas_2_no (Lf.hide hb)
        | true =>
          rw [hq] at hb
          rw [Bool.true_and]
          by_cases h0 : n = 0
          · have e : decide (n = 0 ∨ n = 1) = true := decide_eq_true (.inl h0)
            rw [e]; exact rhas_2_0 (Lf.hide hb) (by simpa using h0)
          · by_cases h1 : n = 1
            · have e : decide (n = 0 ∨ n = 1) = true := decide_eq_true (.inr h1)
              rw [e]; exact rhas_2_1 (Lf.hide hb) (by simpa using h0) (by simpa using h1)
            · have e : decide (n = 0 ∨ n = 1) = false := decide_eq_false (fun hh => hh.elim h0 h1)
              rw [e]; exact rhas_2_x (Lf.hide hb) (by simpa using h0) (by simpa using h1)
      exact key T.t h
    · skip
      have key : ∀ t, t = 3 → Calls Try.prog 36 #[.agg #[.int .i64 t, .slice a' T.args.length c], .agg #[.int .i64 t, .int .i64 n, .int .i64 a, .string s, .slice aa args.length ac, .slice ta types.length tc, .slice na code.length nc]] W fun e w' => e = .returned (.bool (hasV (.mk T.t n a s args types code) T)) ∧ W.grownBy w' none := fun t ht => by
        subst ht
        have hb := HBA 3 true false false 0 0 false
        rw [has_n hf (by omega) (by omega) (by omega) hx, show fitsNF T.t (Va.mk T.t n a s args types code).n = inB n from by rw [h]; exact fitsN3 n]
        cases hq : bareB true false false 0 0 false (.mk T.t n a s args types code) with
        | false => rw [hq] at hb; rw [Bool.false_and]; exact rhas_3_no (Lf.hide hb)
        | true =>
          rw [hq] at hb
          rw [Bool.true_and]
          exact rhas_3_yes (Lf.hide hb) (Lf.hide (ans_same fun W2 => rin_all n W2 iN))
      exact key T.t h
    · skip
      have key : ∀ t, t = 4 → Calls Try.prog 36 #[.agg #[.int .i64 t, .slice a' T.args.length c], .agg #[.int .i64 t, .int .i64 n, .int .i64 a, .string s, .slice aa args.length ac, .slice ta types.length tc, .slice na code.length nc]] W fun e w' => e = .returned (.bool (hasV (.mk T.t n a s args types code) T)) ∧ W.grownBy w' none := fun t ht => by
        subst ht
        have hb := HBA 4 true false false 0 0 false
        rw [has_n hf (by omega) (by omega) (by omega) hx, show fitsNF T.t (Va.mk T.t n a s args types code).n = amountB n from by rw [h]; exact fitsN4 n]
        cases hq : bareB true false false 0 0 false (.mk T.t n a s args types code) with
        | false => rw [hq] at hb; rw [Bool.false_and]; exact rhas_4_no (Lf.hide hb)
        | true =>
          rw [hq] at hb
          rw [Bool.true_and]
          exact rhas_4_yes (Lf.hide hb) (Lf.hide (ans_same fun W2 => rnat_any n W2))
      exact key T.t h
    · skip
      have key : ∀ t, t = 5 → Calls Try.prog 36 #[.agg #[.int .i64 t, .slice a' T.args.length c], .agg #[.int .i64 t, .int .i64 n, .int .i64 a, .string s, .slice aa args.length ac, .slice ta types.length tc, .slice na code.length nc]] W fun e w' => e = .returned (.bool (hasV (.mk T.t n a s args types code) T)) ∧ W.grownBy w' none := fun t ht => by
        subst ht
        have hb := HBA 5 true false false 0 0 false
        rw [has_n hf (by omega) (by omega) (by omega) hx, show fitsNF T.t (Va.mk T.t n a s args types code).n = amountB n from by rw [h]; exact fitsN5 n]
        cases hq : bareB true false false 0 0 false (.mk T.t n a s args types code) with
        | false => rw [hq] at hb; rw [Bool.false_and]; exact rhas_5_no (Lf.hide hb)
        | true =>
          rw [hq] at hb
          rw [Bool.true_and]
          exact rhas_5_yes (Lf.hide hb) (Lf.hide (ans_same fun W2 => rnat_any n W2))
      exact key T.t h
    · skip
      have key : ∀ t, t = 6 → Calls Try.prog 36 #[.agg #[.int .i64 t, .slice a' T.args.length c], .agg #[.int .i64 t, .int .i64 n, .int .i64 a, .string s, .slice aa args.length ac, .slice ta types.length tc, .slice na code.length nc]] W fun e w' => e = .returned (.bool (hasV (.mk T.t n a s args types code) T)) ∧ W.grownBy w' none := fun t ht => by
        subst ht
        have hb := HBA 6 false false true 0 0 false
        rw [has_6 hf h hx]
        cases hq : bareB false false true 0 0 false (.mk T.t n a s args types code) with
        | false => rw [hq] at hb; rw [Bool.false_and]; exact rhas_6_no (Lf.hide hb)
        | true => rw [hq] at hb; rw [Bool.true_and]; exact rhas_6_yes (Lf.hide hb) hs
      exact key T.t h
    · skip
      have key : ∀ t, t = 7 → Calls Try.prog 36 #[.agg #[.int .i64 t, .slice a' T.args.length c], .agg #[.int .i64 t, .int .i64 n, .int .i64 a, .string s, .slice aa args.length ac, .slice ta types.length tc, .slice na code.length nc]] W fun e w' => e = .returned (.bool (hasV (.mk T.t n a s args types code) T)) ∧ W.grownBy w' none := fun t ht => by
        subst ht
        have hb := HBA 7 true false false 0 0 false
        rw [has_n hf (by omega) (by omega) (by omega) hx, show fitsNF T.t (Va.mk T.t n a s args types code).n = addrB n from by rw [h]; exact fitsN7 n]
        cases hq : bareB true false false 0 0 false (.mk T.t n a s args types code) with
        | false => rw [hq] at hb; rw [Bool.false_and]; exact rhas_7_no (Lf.hide hb)
        | true =>
          rw [hq] at hb
          rw [Bool.true_and]
          exact rhas_7_yes (Lf.hide hb) (Lf.hide (ans_same fun W2 => raddr_any n W2))
      exact key T.t h
    · skip
      have key : ∀ t, t = 8 → Calls Try.prog 36 #[.agg #[.int .i64 t, .slice a' T.args.length c], .agg #[.int .i64 t, .int .i64 n, .int .i64 a, .string s, .slice aa args.length ac, .slice ta types.length tc, .slice na code.length nc]] W fun e w' => e = .returned (.bool (hasV (.mk T.t n a s args types code) T)) ∧ W.grownBy w' none := fun t ht => by
        subst ht
        have hb := HBA 8 true true false 1 1 false
        cases hq : bareB true true false 1 1 false (.mk T.t n a s args types code) with
        | false => rw [hq] at hb; rw [has_op_no h hq]; exact rhas_8_no (Lf.hide hb)
        | true =>
          rw [hq] at hb
          obtain ⟨u, y, hu, hy, he⟩ := has_op h hx hq
          simp only [Va.types, Va.args] at hu hy
          subst hu hy
          have he2 : hasV (.mk T.t n a s [y] [u] code) T = (amountB n && addrB a && hasF u y) := he
          rw [he2]
          have HN := ans_same (W := W) (fun W2 => rnat_any n W2)
          have HD := ans_same (W := W) (fun W2 => raddr_any a W2)
          cases hn : amountB n with
          | false => rw [hn] at HN; exact rhas_8_a (Lf.hide hb) (Lf.hide HN)
          | true =>
            rw [hn] at HN
            cases hd : addrB a with
            | false => rw [hd] at HD; exact rhas_8_b (Lf.hide hb) (Lf.hide HN) (Lf.hide HD)
            | true =>
              rw [hd] at HD
              obtain ⟨bt, ot, tt, tta, ttl, ttc, hp, hv, hct⟩ := tcell (hTyW.2.1 0 (by simp))
              obtain ⟨bv, ov, yk, yn, yx, ys, yaa, yal, yac, yta, ytl, ytc, yna, ynl, ync, hp2, hv2, hcv⟩ := vcell (hcW 0 (by simp))
              subst hp hp2
              have HH : Ans 11 #[VT 0, V 0] W (hasF u y) := fun W2 hW2 => (ih 0 (by simp)).2 u (VT 0) W2 (hTy.2.2 0 (by simp)) (Lf.gbt hW hW2)
              rw [hv, hv2] at HH
              exact rhas_8_q (fun W3 g => (hct W3 g).1) (fun W3 g => (hct W3 g).2) (fun W3 g => (hcv W3 g).1) (fun W3 g => (hcv W3 g).2.1) (fun W3 g => (hcv W3 g).2.2.1) (fun W3 g => (hcv W3 g).2.2.2.1) (fun W3 g => (hcv W3 g).2.2.2.2.1) (fun W3 g => (hcv W3 g).2.2.2.2.2.1) (fun W3 g => (hcv W3 g).2.2.2.2.2.2) (Lf.hide hb) (Lf.hide HN) (Lf.hide HD) (Lf.hide HH)
      exact key T.t h
    · skip
      have key : ∀ t, t = 9 → Calls Try.prog 36 #[.agg #[.int .i64 t, .slice a' T.args.length c], .agg #[.int .i64 t, .int .i64 n, .int .i64 a, .string s, .slice aa args.length ac, .slice ta types.length tc, .slice na code.length nc]] W fun e w' => e = .returned (.bool (hasV (.mk T.t n a s args types code) T)) ∧ W.grownBy w' none := fun t ht => by
        subst ht
        have hb := HBA 9 false false false args.length 0 false
        have hl1 : T.args.length = 1 := by rw [h] at hlen; simp [partsF] at hlen; omega
        rw [has_many hf (.inl h) hx]
        cases hq : bareB false false false args.length 0 false (.mk T.t n a s args types code) with
        | false => rw [hq] at hb; simp only [Va.args, hq, Bool.false_and]; exact rhas_9_no (Lf.hide hb)
        | true =>
          rw [hq] at hb
          by_cases hlong : 1 < args.length
          · have e : (bareB false false false (Va.mk T.t n a s args types code).args.length 0 false (.mk T.t n a s args types code) && !(decide (T.t = 9) && decide (1 < (Va.mk T.t n a s args types code).args.length)) && !decide (24 < (Va.mk T.t n a s args types code).args.length) && (Va.mk T.t n a s args types code).args.all (fun y => hasV y (tyAt T.args 0))) = false := by
              simp only [Va.args]
              simp [h, hlong]
            rw [e]
            exact rhas_9_two (Lf.hide hb) (by omega)
          · have e : (bareB false false false (Va.mk T.t n a s args types code).args.length 0 false (.mk T.t n a s args types code) && !(decide (T.t = 9) && decide (1 < (Va.mk T.t n a s args types code).args.length)) && !decide (24 < (Va.mk T.t n a s args types code).args.length) && (Va.mk T.t n a s args types code).args.all (fun y => hasV y (tyAt T.args 0))) = (args.map fun y => hasV y (tyAt T.args 0)).all id := by
              simp only [Va.args, hq]
              rw [List.all_map]
              simp [h, show ¬ 24 < args.length from by omega, show ¬ 1 < args.length from by omega]
            rw [e]
            obtain ⟨bt, ot, tt, tta, ttl, ttc, hp, hv, hct⟩ := tcell (hRW.2.1 0 (by omega))
            subst hp
            have hlm : args.length = (args.map fun y => hasV y (tyAt T.args 0)).length := by simp
            rw [hl1]
            generalize hL : (args.map fun y => hasV y (tyAt T.args 0)) = L at hlm ⊢
            have HE : Hid (∀ j (h : j < L.length), VaAt (fun _ => True) W aa j (V j) ∧ Ans 36 #[.agg #[.int .i64 tt, .slice tta ttl ttc], V j] W L[j]) := fun j hj => by
              have hj' : j < args.length := by omega
              refine ⟨hcW j hj', ?_⟩
              have h5 := hsub 0 (by omega) j hj'
              rw [hv] at h5
              have e5 : L[j] = hasV args[j] T.args[0] := by subst hL; simp [tyAt_get (show 0 < T.args.length from by omega)]
              rw [e5]
              exact h5
            rw [hlm] at hb ⊢
            exact rhas_9_q (fun W3 g => (hct W3 g).1) (fun W3 g => (hct W3 g).2) (Lf.hide hb) (by omega) HE
      exact key T.t h
    · skip
      have key : ∀ t, t = 10 → Calls Try.prog 36 #[.agg #[.int .i64 t, .slice a' T.args.length c], .agg #[.int .i64 t, .int .i64 n, .int .i64 a, .string s, .slice aa args.length ac, .slice ta types.length tc, .slice na code.length nc]] W fun e w' => e = .returned (.bool (hasV (.mk T.t n a s args types code) T)) ∧ W.grownBy w' none := fun t ht => by
        subst ht
        have hb := HBA 10 false false false args.length 0 false
        have hl1 : T.args.length = 1 := by rw [h] at hlen; simp [partsF] at hlen; omega
        rw [has_many hf (.inr h) hx]
        cases hq : bareB false false false args.length 0 false (.mk T.t n a s args types code) with
        | false => rw [hq] at hb; simp only [Va.args, hq, Bool.false_and]; exact rhas_10_no (Lf.hide hb)
        | true =>
          rw [hq] at hb
          by_cases hlong : 24 < args.length
          · have e : (bareB false false false (Va.mk T.t n a s args types code).args.length 0 false (.mk T.t n a s args types code) && !(decide (T.t = 9) && decide (1 < (Va.mk T.t n a s args types code).args.length)) && !decide (24 < (Va.mk T.t n a s args types code).args.length) && (Va.mk T.t n a s args types code).args.all (fun y => hasV y (tyAt T.args 0))) = false := by
              simp only [Va.args]
              simp [hlong]
            rw [e]
            exact rhas_10_long (Lf.hide hb) (by omega)
          · have e : (bareB false false false (Va.mk T.t n a s args types code).args.length 0 false (.mk T.t n a s args types code) && !(decide (T.t = 9) && decide (1 < (Va.mk T.t n a s args types code).args.length)) && !decide (24 < (Va.mk T.t n a s args types code).args.length) && (Va.mk T.t n a s args types code).args.all (fun y => hasV y (tyAt T.args 0))) = (args.map fun y => hasV y (tyAt T.args 0)).all id := by
              simp only [Va.args, hq]
              rw [List.all_map]
              simp [h, show ¬ 24 < args.length from by omega]
            rw [e]
            obtain ⟨bt, ot, tt, tta, ttl, ttc, hp, hv, hct⟩ := tcell (hRW.2.1 0 (by omega))
            subst hp
            have hlm : args.length = (args.map fun y => hasV y (tyAt T.args 0)).length := by simp
            rw [hl1]
            generalize hL : (args.map fun y => hasV y (tyAt T.args 0)) = L at hlm ⊢
            have HE : Hid (∀ j (h : j < L.length), VaAt (fun _ => True) W aa j (V j) ∧ Ans 36 #[.agg #[.int .i64 tt, .slice tta ttl ttc], V j] W L[j]) := fun j hj => by
              have hj' : j < args.length := by omega
              refine ⟨hcW j hj', ?_⟩
              have h5 := hsub 0 (by omega) j hj'
              rw [hv] at h5
              have e5 : L[j] = hasV args[j] T.args[0] := by subst hL; simp [tyAt_get (show 0 < T.args.length from by omega)]
              rw [e5]
              exact h5
            rw [hlm] at hb ⊢
            exact rhas_10_q (fun W3 g => (hct W3 g).1) (fun W3 g => (hct W3 g).2) (Lf.hide hb) (by omega) HE
      exact key T.t h
    · skip
      have key : ∀ t, t = 11 → Calls Try.prog 36 #[.agg #[.int .i64 t, .slice a' T.args.length c], .agg #[.int .i64 t, .int .i64 n, .int .i64 a, .string s, .slice aa args.length ac, .slice ta types.length tc, .slice na code.length nc]] W fun e w' => e = .returned (.bool (hasV (.mk T.t n a s args types code) T)) ∧ W.grownBy w' none := fun t ht => by
        subst ht
        have hb := HBA 11 false false false 2 0 false
        cases hq : bareB false false false 2 0 false (.mk T.t n a s args types code) with
        | false => rw [hq] at hb; rw [has_pair_no hf h hq]; exact rhas_11_no (Lf.hide hb)
        | true =>
          rw [hq] at hb
          obtain ⟨p1, p2, y, z, e1, e2, he⟩ := has_pair hf h hx hq
          simp only [Va.args] at e2
          subst e2
          rw [he]
          have hl2 : T.args.length = 2 := by rw [e1]; rfl
          obtain ⟨bt, ot, tt, tta, ttl, ttc, hp, hv, hct⟩ := tcell (hRW.2.1 0 (by omega))
          obtain ⟨bt', ot', ut, uta, utl, utc, hp', hv', hct'⟩ := tcell (hRW.2.1 1 (by omega))
          obtain ⟨bv, ov, yk, yn, yx, ys, yaa, yal, yac, yta, ytl, ytc, yna, ynl, ync, hp2, hv2, hcv⟩ := vcell (hcW 0 (by simp))
          obtain ⟨bv', ov', zk, zn, zx, zs, zaa, zal, zac, zta, ztl, ztc, zna, znl, znc, hp2', hv2', hcv'⟩ := vcell (hcW 1 (by simp))
          subst hp hp2
          obtain ⟨rfl, rfl⟩ := some_inj hp'
          obtain ⟨rfl, rfl⟩ := some_inj hp2'
          have H1 := hsub 0 (by omega) 0 (by simp)
          have H2 := hsub 1 (by omega) 1 (by simp)
          simp only [e1, List.getElem_cons_zero, List.getElem_cons_succ] at H1 H2
          rw [hv, hv2] at H1
          rw [hv', hv2'] at H2
          rw [hl2]
          cases h1 : hasV y p1 with
          | false =>
            rw [h1] at H1
            exact rhas_11_f (fun W3 g => (hct W3 g).1) (fun W3 g => (hct W3 g).2) (fun W3 g => (hcv W3 g).1) (fun W3 g => (hcv W3 g).2.1) (fun W3 g => (hcv W3 g).2.2.1) (fun W3 g => (hcv W3 g).2.2.2.1) (fun W3 g => (hcv W3 g).2.2.2.2.1) (fun W3 g => (hcv W3 g).2.2.2.2.2.1) (fun W3 g => (hcv W3 g).2.2.2.2.2.2) (Lf.hide hb) (Lf.hide H1)
          | true =>
            rw [h1] at H1
            rw [Bool.true_and]
            exact rhas_11_q (fun W3 g => (hct W3 g).1) (fun W3 g => (hct W3 g).2) (fun W3 g => (hcv W3 g).1) (fun W3 g => (hcv W3 g).2.1) (fun W3 g => (hcv W3 g).2.2.1) (fun W3 g => (hcv W3 g).2.2.2.1) (fun W3 g => (hcv W3 g).2.2.2.2.1) (fun W3 g => (hcv W3 g).2.2.2.2.2.1) (fun W3 g => (hcv W3 g).2.2.2.2.2.2)
              (fun W3 g => (hct' W3 g).1) (fun W3 g => (hct' W3 g).2) (fun W3 g => (hcv' W3 g).1) (fun W3 g => (hcv' W3 g).2.1) (fun W3 g => (hcv' W3 g).2.2.1) (fun W3 g => (hcv' W3 g).2.2.2.1) (fun W3 g => (hcv' W3 g).2.2.2.2.1) (fun W3 g => (hcv' W3 g).2.2.2.2.2.1) (fun W3 g => (hcv' W3 g).2.2.2.2.2.2) (Lf.hide hb) (Lf.hide H1) (Lf.hide H2)
      exact key T.t h
    · skip
      have key : ∀ t, t = 12 → Calls Try.prog 36 #[.agg #[.int .i64 t, .slice a' T.args.length c], .agg #[.int .i64 t, .int .i64 n, .int .i64 a, .string s, .slice aa args.length ac, .slice ta types.length tc, .slice na code.length nc]] W fun e w' => e = .returned (.bool (hasV (.mk T.t n a s args types code) T)) ∧ W.grownBy w' none := fun t ht => by
        subst ht
        have hb := HBA 12 true false false 1 0 false
        cases hq : bareB true false false 1 0 false (.mk T.t n a s args types code) with
        | false => rw [hq] at hb; rw [has_or_no hf h hq]; exact rhas_12_no (Lf.hide hb)
        | true =>
          rw [hq] at hb
          obtain ⟨hl2, y, e2, he⟩ := has_or hf h hx hq
          simp only [Va.args] at e2
          subst e2
          have he2 : hasV (.mk T.t n a s [y] types code) T = (decide (n = 0 ∨ n = 1) && hasV y (tyAt T.args n.toNat)) := he
          rw [he2]
          obtain ⟨bv, ov, yk, yn, yx, ys, yaa, yal, yac, yta, ytl, ytc, yna, ynl, ync, hp2, hv2, hcv⟩ := vcell (hcW 0 (by simp))
          subst hp2
          by_cases h0 : n = 0
          · subst h0
            obtain ⟨bt, ot, tt, tta, ttl, ttc, hp, hv, hct⟩ := tcell (hRW.2.1 0 (by omega))
            subst hp
            have H1 := hsub 0 (by omega) 0 (by simp)
            rw [hv, hv2] at H1
            rw [hl2, show (decide ((0 : Int) = 0 ∨ (0 : Int) = 1) && hasV y (tyAt T.args (0 : Int).toNat)) = hasV y T.args[0] from by simp [tyAt_get (show 0 < T.args.length from by omega)]]
            exact rhas_12_0 (fun W3 g => (hct W3 g).1) (fun W3 g => (hct W3 g).2) (fun W3 g => (hcv W3 g).1) (fun W3 g => (hcv W3 g).2.1) (fun W3 g => (hcv W3 g).2.2.1) (fun W3 g => (hcv W3 g).2.2.2.1) (fun W3 g => (hcv W3 g).2.2.2.2.1) (fun W3 g => (hcv W3 g).2.2.2.2.2.1) (fun W3 g => (hcv W3 g).2.2.2.2.2.2) (Lf.hide hb) (Lf.hide H1)
          · by_cases h1 : n = 1
            · subst h1
              obtain ⟨bt, ot, tt, tta, ttl, ttc, hp, hv, hct⟩ := tcell (hRW.2.1 1 (by omega))
              subst hp
              have H1 := hsub 1 (by omega) 0 (by simp)
              rw [hv, hv2] at H1
              rw [hl2, show (decide ((1 : Int) = 0 ∨ (1 : Int) = 1) && hasV y (tyAt T.args (1 : Int).toNat)) = hasV y T.args[1] from by simp [tyAt_get (show 1 < T.args.length from by omega)]]
              exact rhas_12_1 (fun W3 g => (hct W3 g).1) (fun W3 g => (hct W3 g).2) (fun W3 g => (hcv W3 g).1) (fun W3 g => (hcv W3 g).2.1) (fun W3 g => (hcv W3 g).2.2.1) (fun W3 g => (hcv W3 g).2.2.2.1) (fun W3 g => (hcv W3 g).2.2.2.2.1) (fun W3 g => (hcv W3 g).2.2.2.2.2.1) (fun W3 g => (hcv W3 g).2.2.2.2.2.2) (Lf.hide hb) (Lf.hide H1)
            · rw [decide_eq_false (show ¬ (n = 0 ∨ n = 1) from fun hh => hh.elim h0 h1), Bool.false_and]
              exact rhas_12_x (Lf.hide hb) (by simpa using h0) (by simpa using h1)
      exact key T.t h
    · skip
      have key : ∀ t, t = 13 → Calls Try.prog 36 #[.agg #[.int .i64 t, .slice a' T.args.length c], .agg #[.int .i64 t, .int .i64 n, .int .i64 a, .string s, .slice aa args.length ac, .slice ta types.length tc, .slice na code.length nc]] W fun e w' => e = .returned (.bool (hasV (.mk T.t n a s args types code) T)) ∧ W.grownBy w' none := fun t ht => by
        subst ht
        have hb := HBA 13 false false false args.length 0 false
        have e13 : hasV (.mk T.t n a s args types code) T = (bareB false false false args.length 0 false (.mk T.t n a s args types code) && !decide (24 < args.length) && args.all (fun y => hasV y (.nd 11 T.args)) && risesF args) := has_map h hx
        rw [e13]
        cases hq : bareB false false false args.length 0 false (.mk T.t n a s args types code) with
        | false => rw [hq] at hb; simp only [Bool.false_and]; exact rhas_13_no (Lf.hide hb)
        | true =>
          rw [hq] at hb
          by_cases hlong : 24 < args.length
          · rw [show (true && !decide (24 < args.length) && args.all (fun y => hasV y (.nd 11 T.args)) && risesF args) = false from by simp [hlong]]
            exact rhas_13_long (Lf.hide hb) (by omega)
          · have hl2 : T.args.length = 2 := by rw [h] at hlen; simp [partsF] at hlen; omega
            have hcomp : compT T.args[0] = true := by
              have h7 := hkh
              unfold keyHere at h7
              simp only [h] at h7
              obtain ⟨p1, p2, ep⟩ := two_of hl2
              simp only [ep, headComp] at h7 ⊢
              simpa using h7
            have hf11 : formedB d (.nd 11 T.args) = true := by
              obtain ⟨t', ar'⟩ := T
              simp only [Ty.t, Ty.args] at h hl2 ⊢
              subst h
              simp only [formedB, Bool.and_eq_true, isTypeB, decide_eq_true_eq] at hf ⊢
              exact ⟨⟨hf.1.1, by omega, by have := hf.1.2.2; simpa [partsF] using this⟩, hf.2⟩
            have hk11 : keyedF (.nd 11 T.args) = true := by
              obtain ⟨t', ar'⟩ := T
              simp only [Ty.args, keyedF, Bool.and_eq_true] at hkey ⊢
              exact ⟨by simp [keyHere], hkey.2⟩
            have hT11 : LiesT (fun _ => True) w (.nd 11 T.args) (tyV 11 a' T.args.length c) := LiesT.of ⟨by decide, by decide⟩ hRT hT.cap
            have hlm : args.length = (args.map fun y => hasV y (.nd 11 T.args)).length := by simp
            have hKf : ∀ j (h : j < args.length), hasV args[j] (.nd 11 T.args) = true → ∃ y z, args[j].args = [y, z] ∧ keyF args[j] = y ∧ hasV y T.args[0] = true := by
              intro j hj hv
              obtain ⟨hk1, _⟩ := has_some11 hf11 hv
              have hbq : bareB false false false 2 0 false args[j] = true := by
                cases hb2 : bareB false false false 2 0 false args[j] with
                | true => rfl
                | false => rw [has_pair_no hf11 rfl hb2] at hv; cases hv
              obtain ⟨q1, q2, y, z, ea, eb, ev⟩ := has_pair hf11 rfl hk1.symm hbq
              refine ⟨y, z, eb, by simp [keyF, eb], ?_⟩
              rw [ev, Bool.and_eq_true] at hv
              have e0 : T.args[0] = q1 := by
                have ea2 : T.args = [q1, q2] := ea
                simp [ea2]
              rw [e0]
              exact hv.1
            have hKey : ∀ j (h : j < args.length), hasV args[j] (.nd 11 T.args) = true → ∃ kv, (∃ k n x s ba oa c ta tl tc na nl nc, V j = vaV k n x s (some ⟨ba, oa, none⟩) 2 c ta tl tc na nl nc ∧ VaAt (fun _ => True) W (some ⟨ba, oa, none⟩) 0 kv) ∧ LiesV (fun _ => True) w (keyF args[j]) kv := by
              intro j hj hv
              obtain ⟨y, z, ey, ek, hy⟩ := hKf j hj hv
              have hLj := hr j hj
              obtain ⟨qa, qac, qta, qtc, qna, qnc, QV, QT, QN, hqv, _, hqR, _, _⟩ := hLj.inv
              have hR0 := hqR.2.1 0 (by rw [ey]; simp)
              have hL0 := hqR.2.2 0 (by rw [ey]; simp)
              obtain ⟨b0, o0, hp0, _⟩ := hR0
              rw [hp0] at hqv
              rw [ey] at hqv
              refine ⟨QV 0, ⟨_, _, _, _, b0, o0, _, _, _, _, _, _, _, hqv, (hqR.2.1 0 (by rw [ey]; simp)).same (sameAll hW) |> fun q => by rw [hp0] at q; exact q⟩, ?_⟩
              rw [ek]
              simpa [ey] using hL0
            generalize hL : (args.map fun y => hasV y (.nd 11 T.args)) = L at hlm
            have hLj : ∀ j (h : j < L.length) (h' : j < args.length), L[j] = hasV args[j] (.nd 11 T.args) := fun j h1 h2 => by subst hL; simp
            have HE : Hid (∀ j (h : j < L.length), VaAt (fun _ => True) W aa j (V j) ∧ Ans 36 #[.agg #[.int .i64 11, .slice a' T.args.length c], V j] W L[j]) := fun j hj => by
              have hj' : j < args.length := by omega
              refine ⟨hcW j hj', ?_⟩
              rw [hLj j hj hj']
              exact fun W2 hW2 => (ih j hj').1 (.nd 11 T.args) _ d W2 hf11 hk11 hT11 (Lf.gbt hW hW2)
            let KV : Nat → Value := fun j => if hh : ∃ hj : j < args.length, hasV args[j] (.nd 11 T.args) = true then Classical.choose (hKey j hh.1 hh.2) else .int .i64 0
            have hKV : ∀ j (hj : j < args.length) (hv : hasV args[j] (.nd 11 T.args) = true), (∃ k n x s ba oa c ta tl tc na nl nc, V j = vaV k n x s (some ⟨ba, oa, none⟩) 2 c ta tl tc na nl nc ∧ VaAt (fun _ => True) W (some ⟨ba, oa, none⟩) 0 (KV j)) ∧ LiesV (fun _ => True) w (keyF args[j]) (KV j) := by
              intro j hj hv
              have hh : ∃ hj : j < args.length, hasV args[j] (.nd 11 T.args) = true := ⟨hj, hv⟩
              have e : KV j = Classical.choose (hKey j hh.1 hh.2) := dif_pos hh
              rw [e]
              exact Classical.choose_spec (hKey j hh.1 hh.2)
            let r : Nat → Int := fun j => if hh : j + 1 < args.length then ordV (keyF args[j]) (keyF args[j + 1]) else 0
            have hrr : ∀ j (hh : j + 1 < args.length), r j = ordV (keyF args[j]) (keyF args[j + 1]) := fun j hh => dif_pos hh
            have HK : Hid (∀ j (h : j < L.length), L[j] = true → ∃ k n x s ba oa c ta tl tc na nl nc, V j = vaV k n x s (some ⟨ba, oa, none⟩) 2 c ta tl tc na nl nc ∧ VaAt (fun _ => True) W (some ⟨ba, oa, none⟩) 0 (KV j)) := fun j hj hv => (hKV j (by omega) (by rw [← hLj j hj (by omega)]; exact hv)).1
            have HO : Hid (∀ j (h : j + 1 < L.length), L[j] = true → L[j + 1] = true → ∀ W2, W.grownBy W2 none → Calls Try.prog 28 #[KV j, KV (j + 1)] W2 fun e w' => e = .returned (.int .i64 (r j)) ∧ W2.grownBy w' none) := fun j hj hv1 hv2 W2 hW2 => by
              have q1 : hasV args[j] (.nd 11 T.args) = true := by rw [← hLj j (by omega) (by omega)]; exact hv1
              have q2 : hasV args[j + 1] (.nd 11 T.args) = true := by rw [← hLj (j + 1) hj (by omega)]; exact hv2
              obtain ⟨y1, z1, _, ek1, hy1⟩ := hKf j (by omega) q1
              obtain ⟨y2, z2, _, ek2, hy2⟩ := hKf (j + 1) (by omega) q2
              rw [hrr j (by omega)]
              refine rord_any (hKV j (by omega) q1).2 (keyF args[j + 1]) (KV (j + 1)) W2 (hKV (j + 1) (by omega) q2).2 ?_ (Lf.gbt hW hW2)
              rw [ek1, ek2]
              exact evn_of y1 y2 T.args[0] (d + 1) hy1 hy2 hcomp (hfa _ (List.getElem_mem _))
            rw [hlm] at hb
            rw [show (Value.slice aa args.length ac) = .slice aa L.length ac from by rw [hlm]]
            refine (rhas_13_q (Lf.hide hb) (by omega) HE HK HO).mono fun e w' hh => ⟨?_, hh.2⟩
            obtain ⟨⟨b, he, hbq⟩, _⟩ := hh
            rw [he]
            have hfin : b = (true && !decide (24 < L.length) && args.all (fun y => hasV y (.nd 11 T.args)) && risesF args) := by
              rw [Bool.eq_iff_iff, hbq]
              simp only [Bool.and_eq_true, Bool.not_eq_true', decide_eq_false_iff_not, List.all_eq_true, risesF_iff, true_and]
              constructor
              · rintro ⟨g1, g2⟩
                refine ⟨⟨by omega, fun y hy => ?_⟩, fun i hi => ?_⟩
                · obtain ⟨j, hj, rfl⟩ := List.getElem_of_mem hy
                  rw [← hLj j (by omega) hj]; exact g1 j (by omega)
                · rw [← hrr i hi]; exact g2 i (by omega)
              · rintro ⟨⟨_, g1⟩, g2⟩
                exact ⟨fun j hj => by rw [hLj j hj (by omega)]; exact g1 _ (List.getElem_mem _), fun j hj => by rw [hrr j (by omega)]; exact g2 j (by omega)⟩
            rw [hfin, hlm]
      exact key T.t h
    · skip
      have key : ∀ t, t = 14 → Calls Try.prog 36 #[.agg #[.int .i64 t, .slice a' T.args.length c], .agg #[.int .i64 t, .int .i64 n, .int .i64 a, .string s, .slice aa args.length ac, .slice ta types.length tc, .slice na code.length nc]] W fun e w' => e = .returned (.bool (hasV (.mk T.t n a s args types code) T)) ∧ W.grownBy w' none := fun t ht => by
        subst ht
        have hb := HBA 14 false false false 0 2 true
        rw [has_lam hf h hx]
        cases hq : bareB false false false 0 2 true (.mk T.t n a s args types code) with
        | false => rw [hq] at hb; rw [Bool.false_and]; exact rhas_14_no (Lf.hide hb)
        | true =>
          rw [hq] at hb
          rw [Bool.true_and]
          exact rhas_14_q (Lf.hide hb) (Lf.hide (fun W2 hW2 => rsames_any (hTyW) hRW W2 hW2))
      exact key T.t h
    · skip
      have key : ∀ t, t = 15 → Calls Try.prog 36 #[.agg #[.int .i64 t, .slice a' T.args.length c], .agg #[.int .i64 t, .int .i64 n, .int .i64 a, .string s, .slice aa args.length ac, .slice ta types.length tc, .slice na code.length nc]] W fun e w' => e = .returned (.bool (hasV (.mk T.t n a s args types code) T)) ∧ W.grownBy w' none := fun t ht => by
        subst ht
        have hb := HBA 15 true true false 1 0 false
        cases hq : bareB true true false 1 0 false (.mk T.t n a s args types code) with
        | false => rw [hq] at hb; rw [has_tick_no hf h hq]; exact rhas_15_no (Lf.hide hb)
        | true =>
          rw [hq] at hb
          obtain ⟨u, y, hu, hy, he⟩ := has_tick hf h hx hq
          simp only [Va.args] at hy
          subst hy
          have he2 : hasV (.mk T.t n a s [y] types code) T = (amountB n && decide (0 < n) && addrB a && hasV y u) := he
          rw [he2]
          have HN := ans_same (W := W) (fun W2 => rnat_any n W2)
          have HD := ans_same (W := W) (fun W2 => raddr_any a W2)
          cases hn : amountB n with
          | false => rw [hn] at HN; exact rhas_15_a (Lf.hide hb) (Lf.hide HN)
          | true =>
            rw [hn] at HN
            cases h0 : decide (0 < n) with
            | false => exact rhas_15_g (Lf.hide hb) (Lf.hide HN) h0
            | true =>
              cases hd : addrB a with
              | false => rw [hd] at HD; exact rhas_15_d (Lf.hide hb) (Lf.hide HN) (Lf.hide HD) h0
              | true =>
                rw [hd] at HD
                have hl1 : T.args.length = 1 := by rw [hu]; rfl
                obtain ⟨bt, ot, tt, tta, ttl, ttc, hp, hv, hct⟩ := tcell (hRW.2.1 0 (by omega))
                obtain ⟨bv, ov, yk, yn, yx, ys, yaa, yal, yac, yta, ytl, ytc, yna, ynl, ync, hp2, hv2, hcv⟩ := vcell (hcW 0 (by simp))
                subst hp hp2
                have H1 := hsub 0 (by omega) 0 (by simp)
                simp only [hu, List.getElem_cons_zero] at H1
                rw [hv, hv2] at H1
                rw [hl1]
                exact rhas_15_q (fun W3 g => (hct W3 g).1) (fun W3 g => (hct W3 g).2) (fun W3 g => (hcv W3 g).1) (fun W3 g => (hcv W3 g).2.1) (fun W3 g => (hcv W3 g).2.2.1) (fun W3 g => (hcv W3 g).2.2.2.1) (fun W3 g => (hcv W3 g).2.2.2.2.1) (fun W3 g => (hcv W3 g).2.2.2.2.2.1) (fun W3 g => (hcv W3 g).2.2.2.2.2.2) h0 (Lf.hide hb) (Lf.hide HN) (Lf.hide HD) (Lf.hide H1)
      exact key T.t h

end Go.Proofs.Ytmmgihaoahhkjaa
