import Derived.Test.YtamohjlhndedhadGreatRRRBasis
import Derived.Test.YtamohjlhndedhadGreatRRRSameA
namespace Go.Proofs.YtamohjlhndedhadGreatRRR
set_option linter.unusedVariables false
def cmpI (a b : Int) : Int := if a < b then -1 else if b < a then 1 else 0
def cmpS (s t : ByteArray) : Int := if Op.bytesLess s.toList t.toList = true then -1 else if s.toList = t.toList then 0 else 1
mutual
def sbsV (c : Va -> Va -> Int) : Va -> Va -> Int
 | .mk k n a s args ty co, y => if c (.mk k n a s args ty co) y ≠ 0 then c (.mk k n a s args ty co) y else sbsVs c args y.args
def sbsVs (c : Va -> Va -> Int) : List Va -> List Va -> Int
 | [], [] => 0
 | [], _ :: _ => -1
 | _ :: _, [] => 1
 | x :: xs, y :: ys => if sbsV c x y ≠ 0 then sbsV c x y else sbsVs c xs ys
end
theorem sbsV_eq (c : Va -> Va -> Int) (x y : Va) : sbsV c x y = if c x y ≠ 0 then c x y else sbsVs c x.args y.args := by
 cases x; rw [sbsV]; rfl
theorem sbsVs_one (c : Va -> Va -> Int) (x y : Va) : sbsVs c [x] [y] = sbsV c x y := by
 rw [sbsVs, sbsVs]
 by_cases h : sbsV c x y = 0
 ·rw [if_neg (by simpa using h), h]
 ·rw [if_pos h]
def stkT (c : Va -> Va -> Int) : List (List Va × List Va) -> Int
 | [] => 0
 | r :: R => if sbsVs c r.1 r.2 ≠ 0 then sbsVs c r.1 r.2 else stkT c R
def stk (c : Va -> Va -> Int) (rows : List (List Va × List Va)) : Int := stkT c rows.reverse
theorem stk_snoc (c : Va -> Va -> Int) (rows : List (List Va × List Va)) (r : List Va × List Va) : stk c (rows ++ [r]) = if sbsVs c r.1 r.2 ≠ 0 then sbsVs c r.1 r.2 else stk c rows := by
 simp [stk, stkT]
theorem stk_one (c : Va -> Va -> Int) (r : List Va × List Va) : stk c [r] = sbsVs c r.1 r.2 := by
 have := stk_snoc c [] r
 rw [List.nil_append] at this
 rw [this]
 by_cases h : sbsVs c r.1 r.2 = 0
 ·rw [if_neg (by simpa using h), h]; rfl
 ·rw [if_pos h]
theorem stk_pop (c : Va -> Va -> Int) (rows : List (List Va × List Va)) : stk c (rows ++ [([], [])]) = stk c rows := by
 rw [stk_snoc]; simp [sbsVs]
theorem stk_end (c : Va -> Va -> Int) (rows : List (List Va × List Va)) (x y : List Va) (h : x = [] \/ y = []) (hne : ¬ (x = [] /\ y = [])) : stk c (rows ++ [(x, y)]) = cmpI x.length y.length := by
 rw [stk_snoc]
 cases x with
 | nil => cases y with
  | nil => simp at hne
  | cons b y =>
   have h1 : sbsVs c [] (b :: y) = -1 := by rw [sbsVs]
   have h2 : cmpI (([] : List Va).length : Nat) ((b :: y).length : Nat) = -1 := by rw [cmpI, if_pos (by simp)]
   rw [h2]; simp [h1]
 | cons a x => cases y with
  | nil =>
   have h1 : sbsVs c (a :: x) [] = 1 := by rw [sbsVs]
   have h2 : cmpI ((a :: x).length : Nat) (([] : List Va).length : Nat) = 1 := by rw [cmpI, if_neg (by simp; omega), if_pos (by simp)]
   rw [h2]; simp [h1]
  | cons b y => simp at h
theorem stk_ret (c : Va -> Va -> Int) (rows : List (List Va × List Va)) (x y : Va) (xs ys : List Va) (h : c x y ≠ 0) : stk c (rows ++ [(x :: xs, y :: ys)]) = c x y := by
 have h1 : sbsV c x y = c x y := by rw [sbsV_eq, if_pos h]
 have h2 : sbsVs c (x :: xs) (y :: ys) = c x y := by rw [sbsVs, h1, if_pos h]
 rw [stk_snoc]; simp only [h2]; rw [if_pos h]
theorem stk_push (c : Va -> Va -> Int) (rows : List (List Va × List Va)) (x y : Va) (xs ys : List Va) (h : c x y = 0) : stk c (rows ++ [(x :: xs, y :: ys)]) = stk c (rows ++ [(xs, ys)] ++ [(x.args, y.args)]) := by
 have h1 : sbsV c x y = sbsVs c x.args y.args := by rw [sbsV_eq, if_neg (by simpa using h)]
 rw [stk_snoc, stk_snoc, stk_snoc]
 simp only
 rw [sbsVs, h1]
 by_cases h2 : sbsVs c x.args y.args = 0
 ·simp [h2]
 ·rw [if_pos h2, if_pos h2]; simp [h2]
def leftV (rows : List (List Va × List Va)) : Nat := (rows.map fun r => 2 * vsizes r.1 + 1).sum
theorem leftV_append (a b : List (List Va × List Va)) : leftV (a ++ b) = leftV a + leftV b := by simp [leftV]
theorem leftV_one (r : List Va × List Va) : leftV [r] = 2 * vsizes r.1 + 1 := by simp [leftV]
theorem len_leftV (rows : List (List Va × List Va)) : rows.length <= leftV rows := by
 induction rows with
 | nil => simp
 | cons r l ih => simp only [leftV, List.map_cons, List.sum_cons, List.length_cons] at ih ⊢; omega
def ordC (x y : Va) : Int := if cmpI x.n y.n ≠ 0 then cmpI x.n y.n else cmpS x.s y.s
def ordV (x y : Va) : Int := sbsV ordC x y
def zeroVa : Va := .mk 0 0 0 ⟨#[]⟩ [] [] []
def keyF (v : Va) : Va := match v.args with
 | [] => zeroVa
 | x :: _ => x
def risesF : List Va -> Bool
 | [] => true
 | [_] => true
 | x :: y :: l => decide (ordV (keyF x) (keyF y) < 0) && risesF (y :: l)
theorem risesF_iff (l : List Va) : risesF l = true ↔ ∀ i (h : i + 1 < l.length), ordV (keyF l[i]) (keyF l[i + 1]) < 0 := by
 induction l with
 | nil => simp [risesF]
 | cons x l ih => cases l with
  | nil => simp [risesF]
  | cons y l =>
   simp only [risesF, Bool.and_eq_true, decide_eq_true_eq, ih]
   constructor
   ·rintro ⟨h1, h2⟩ i hi
    cases i with
    | zero => exact h1
    | succ i => exact h2 i (by simpa using hi)
   ·intro h
    exact ⟨h 0 (by simp), fun i hi => h (i + 1) (by simpa using hi)⟩
theorem risesF_no (l : List Va) (i : Nat) (h : i + 1 < l.length) (hn : ¬ ordV (keyF l[i]) (keyF l[i + 1]) < 0) : risesF l = false := by
 cases hq : risesF l with
 | false => rfl
 | true => exact absurd ((risesF_iff l).1 hq i h) hn
def inB (n : Int) : Bool := decide (-1152921504606846976 <= n /\ n <= 1152921504606846976)
def amountB (n : Int) : Bool := decide (0 <= n /\ n <= 1152921504606846976)
def addrB (n : Int) : Bool := decide (0 <= n /\ n < 12)
def fitsNF (t n : Int) : Bool :=
 if t = 2 \/ t = 12 then decide (n = 0 \/ n = 1) else if t = 3 then inB n else if t = 4 \/ t = 5 \/ t = 8 then amountB n
 else if t = 15 then amountB n && decide (n ≠ 0) else if t = 7 then addrB n else decide (n = 0)
def oneGood : List Ty -> Bool
 | [] => false
 | [u] => goodTy u
 | _ :: _ :: _ => false
theorem oneGood_no {l : List Ty} (h : l.length ≠ 1) : oneGood l = false := by
 match l, h with
 | [], _ => rfl
 | [_], h => simp at h
 | _ :: _ :: _, _ => rfl
def fitsTF (T : Ty) (types : List Ty) : Bool :=
 if T.t = 8 then oneGood types else if T.t = 14 then sameTs types T.args else decide (types.length = 0)
def fitsF (T : Ty) (v : Va) : Bool :=
 decide (v.k = T.t) && fitsNF T.t v.n && (decide (v.a = 0) || decide (T.t = 8 \/ T.t = 15) && addrB v.a) && (decide (v.s.size = 0) || decide (T.t = 6) && decide (v.s.size <= 200)) &&
 fitsTF T v.types && (decide (v.code.length = 0) || decide (T.t = 14))
def tyAt (l : List Ty) (i : Nat) : Ty := (l[i]?).getD (.nd 0 [])
def argTys (T : Ty) (v : Va) : Option (List Ty) :=
 let l := v.args.length
 if T.t = 8 then (if l = v.types.length then some v.types else none)
 else if T.t = 9 /\ l = 0 then some []
 else if T.t = 10 then (if l <= 24 then some (List.replicate l (tyAt T.args 0)) else none)
 else if T.t = 13 then (if l <= 24 then some (List.replicate l (.nd 11 T.args)) else none)
 else if T.t = 12 then (if l = 1 then some [tyAt T.args v.n.toNat] else none)
 else if T.t = 14 then (if l = 0 then some [] else none)
 else if l = T.args.length then some T.args else none
mutual
def hasV : Va -> Ty -> Bool
 | .mk k n a s args types code, T => fitsF T (.mk k n a s args types code) && (match argTys T (.mk k n a s args types code) with
  | none => false
  | some ts => hasVs args ts) && (!decide (T.t = 13) || risesF args)
def hasVs : List Va -> List Ty -> Bool
 | [], [] => true
 | v :: vs, T :: ts => hasV v T && hasVs vs ts
 | [], _ :: _ => false
 | _ :: _, [] => false
end
def hasF (T : Ty) (v : Va) : Bool := goodTy T && hasV v T
def hasP (p : Ty × Va) : Bool := hasV p.2 p.1
def partsOf (T : Ty) (v : Va) : Option (List (Ty × Va)) := (argTys T v).map fun ts => ts.zip v.args
theorem hasVs_zip : ∀ (vs : List Va) (ts : List Ty), vs.length = ts.length -> hasVs vs ts = (ts.zip vs).all hasP
 | [], [], _ => by simp [hasVs]
 | _ :: _, [], h => by simp at h
 | [], _ :: _, h => by simp at h
 | v :: vs, T :: ts, h => by
  have ih := hasVs_zip vs ts (by simpa using h)
  simp [hasVs, ih, hasP]
theorem argTys_len {T : Ty} {v : Va} {ts : List Ty} (h : argTys T v = some ts) : v.args.length = ts.length := by
 unfold argTys at h
 simp only at h
 repeat' split at h
 all_goals first | (simp at h; done) | (simp only [Option.some.injEq] at h; subst h; simp_all)
theorem hasV_eq (T : Ty) (v : Va) : hasV v T = (fitsF T v && (match partsOf T v with
 | none => false
 | some ps => ps.all hasP) && (!decide (T.t = 13) || risesF v.args)) := by
 cases v with
 | mk k n a s args types code =>
  rw [hasV, partsOf]
  cases h : argTys T (.mk k n a s args types code) with
  | none => rfl
  | some ts =>
   have := argTys_len h
   simp only [Option.map_some]
   rw [hasVs_zip args ts this]
   rfl
def pairSize (p : Ty × Va) : Nat := p.2.size
def leftP (C : List (Ty × Va)) : Nat := (C.map pairSize).sum
theorem leftP_append (a b : List (Ty × Va)) : leftP (a ++ b) = leftP a + leftP b := by simp [leftP]
theorem leftP_one (p : Ty × Va) : leftP [p] = p.2.size := by simp [leftP, pairSize]
theorem len_leftP (C : List (Ty × Va)) : C.length <= leftP C := by
 induction C with
 | nil => simp
 | cons r l ih => have := vsize_pos r.2; simp only [leftP, List.map_cons, List.sum_cons, List.length_cons, pairSize] at ih ⊢; omega
theorem leftP_zip : ∀ (ts : List Ty) (vs : List Va), ts.length = vs.length -> leftP (ts.zip vs) = vsizes vs
 | [], [], _ => by simp [leftP, vsizes]
 | _ :: _, [], h => by simp at h
 | [], _ :: _, h => by simp at h
 | T :: ts, v :: vs, h => by
  have ih := leftP_zip ts vs (by simpa using h)
  have e : leftP ((T :: ts).zip (v :: vs)) = v.size + leftP (ts.zip vs) := by simp [leftP, pairSize]
  rw [e, ih, vsizes]
inductive Plain : Va -> Prop
 | mk {k n a : Int} {s : ByteArray} {args : List Va} (h : ∀ x ∈ args, Plain x) : Plain (.mk k n a s args [] [])
theorem Plain.args {x : Va} (h : Plain x) : ∀ y ∈ x.args, Plain y := by cases h with | mk h => exact h
theorem formed_args2 {d : Nat} {T : Ty} (h : formedB d T = true) : (T.args.length : Int) = partsF T.t /\ ∀ y ∈ T.args, formedB (d + 1) y = true := by
 obtain ⟨t, args⟩ := T
 simp only [formedB, Bool.and_eq_true, decide_eq_true_eq] at h
 refine ⟨h.1.2.2, fun y hy => ?_⟩
 have := h.2
 rw [formedBs_all, List.all_eq_true] at this
 exact this y hy
end Go.Proofs.YtamohjlhndedhadGreatRRR
