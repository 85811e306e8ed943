/- What package value says of the order of values, and of what is of a type, as plain functions. -/
import Derived.Test.YtmmgihaoahhkjaaBasis
import Derived.Test.YtmmgihaoahhkjaaSameA
namespace Go.Proofs.Ytmmgihaoahhkjaa
set_option linter.unusedVariables false

def cmpI (a b : Int) : Int := if a < b then -1 else if b < a then 1 else 0
def cmpS (s t : ByteArray) : Int := if Op.bytesLess s.toList t.toList = true then -1 else if s.toList = t.toList then 0 else 1

mutual
/-- two values side by side: what c says first of two that is not 0 -/
def sbsV (c : Va → Va → Int) : Va → Va → Int
  | .mk k n a s args ty co, y => if c (.mk k n a s args ty co) y ≠ 0 then c (.mk k n a s args ty co) y else sbsVs c args y.args
def sbsVs (c : Va → Va → Int) : List Va → List Va → Int
  | [], [] => 0
  | [], _ :: _ => -1
  | _ :: _, [] => 1
  | x :: xs, y :: ys => if sbsV c x y ≠ 0 then sbsV c x y else sbsVs c xs ys
end

theorem sbsV_eq (c : Va → Va → Int) (x y : Va) : sbsV c x y = if c x y ≠ 0 then c x y else sbsVs c x.args y.args := by
  cases x; rw [sbsV]; rfl

theorem sbsVs_one (c : Va → Va → Int) (x y : Va) : sbsVs c [x] [y] = sbsV c x y := by
  rw [sbsVs, sbsVs]
  by_cases h : sbsV c x y = 0
  · rw [if_neg (by simpa using h), h]
  · rw [if_pos h]

/-- what is left to go through: the last first -/
def stkT (c : Va → Va → Int) : List (List Va × List Va) → Int
  | [] => 0
  | r :: R => if sbsVs c r.1 r.2 ≠ 0 then sbsVs c r.1 r.2 else stkT c R

def stk (c : Va → Va → Int) (rows : List (List Va × List Va)) : Int := stkT c rows.reverse

theorem stk_snoc (c : Va → Va → Int) (rows : List (List Va × List Va)) (r : List Va × List Va) : stk c (rows ++ [r]) = if sbsVs c r.1 r.2 ≠ 0 then sbsVs c r.1 r.2 else stk c rows := by
  simp [stk, stkT]

theorem stk_one (c : Va → Va → Int) (r : List Va × List Va) : stk c [r] = sbsVs c r.1 r.2 := by
  have := stk_snoc c [] r
  rw [List.nil_append] at this
  rw [this]
  by_cases h : sbsVs c r.1 r.2 = 0
  · rw [if_neg (by simpa using h), h]; rfl
  · rw [if_pos h]

theorem stk_pop (c : Va → Va → Int) (rows : List (List Va × List Va)) : stk c (rows ++ [([], [])]) = stk c rows := by
  rw [stk_snoc]; simp [sbsVs]

theorem stk_end (c : Va → Va → Int) (rows : List (List Va × List Va)) (x y : List Va) (h : x = [] ∨ y = []) (hne : ¬ (x = [] ∧ y = [])) : stk c (rows ++ [(x, y)]) = cmpI x.length y.length := by
  rw [stk_snoc]
  cases x with
  | nil => cases y with
    | nil => simp at hne
    | cons b y =>
      have h1 : sbsVs c [] (b :: y) = -1 := by rw [sbsVs]
      have h2 : cmpI (([] : List Va).length : Nat) ((b :: y).length : Nat) = -1 := by rw [cmpI, if_pos (by simp)]
      rw [h2]; simp [h1]
  | cons a x => cases y with
    | nil =>
      have h1 : sbsVs c (a :: x) [] = 1 := by rw [sbsVs]
      have h2 : cmpI ((a :: x).length : Nat) (([] : List Va).length : Nat) = 1 := by rw [cmpI, if_neg (by simp; omega), if_pos (by simp)]
      rw [h2]; simp [h1]
    | cons b y => simp at h

theorem stk_ret (c : Va → Va → Int) (rows : List (List Va × List Va)) (x y : Va) (xs ys : List Va) (h : c x y ≠ 0) : stk c (rows ++ [(x :: xs, y :: ys)]) = c x y := by
  have h1 : sbsV c x y = c x y := by rw [sbsV_eq, if_pos h]
  have h2 : sbsVs c (x :: xs) (y :: ys) = c x y := by rw [sbsVs, h1, if_pos h]
  rw [stk_snoc]; simp only [h2]; rw [if_pos h]

theorem stk_push (c : Va → Va → Int) (rows : List (List Va × List Va)) (x y : Va) (xs ys : List Va) (h : c x y = 0) : stk c (rows ++ [(x :: xs, y :: ys)]) = stk c (rows ++ [(xs, ys)] ++ [(x.args, y.args)]) := by
  have h1 : sbsV c x y = sbsVs c x.args y.args := by rw [sbsV_eq, if_neg (by simpa using h)]
  rw [stk_snoc, stk_snoc, stk_snoc]
  simp only
  rw [sbsVs, h1]
  by_cases h2 : sbsVs c x.args y.args = 0
  · simp [h2]
  · rw [if_pos h2, if_pos h2]; simp [h2]

/-- how much is left -/
def leftV (rows : List (List Va × List Va)) : Nat := (rows.map fun r => 2 * vsizes r.1 + 1).sum
theorem leftV_append (a b : List (List Va × List Va)) : leftV (a ++ b) = leftV a + leftV b := by simp [leftV]
theorem leftV_one (r : List Va × List Va) : leftV [r] = 2 * vsizes r.1 + 1 := by simp [leftV]
theorem len_leftV (rows : List (List Va × List Va)) : rows.length ≤ leftV rows := by
  induction rows with
  | nil => simp
  | cons r l ih => simp only [leftV, List.map_cons, List.sum_cons, List.length_cons] at ih ⊢; omega

/-- how two values compare by themselves -/
def ordC (x y : Va) : Int := if cmpI x.n y.n ≠ 0 then cmpI x.n y.n else cmpS x.s y.s
def ordV (x y : Va) : Int := sbsV ordC x y

def zeroVa : Va := .mk 0 0 0 ⟨#[]⟩ [] [] []
def keyF (v : Va) : Va := match v.args with
  | [] => zeroVa
  | x :: _ => x

def risesF : List Va → Bool
  | [] => true
  | [_] => true
  | x :: y :: l => decide (ordV (keyF x) (keyF y) < 0) && risesF (y :: l)

theorem risesF_iff (l : List Va) : risesF l = true ↔ ∀ i (h : i + 1 < l.length), ordV (keyF l[i]) (keyF l[i + 1]) < 0 := by
  induction l with
  | nil => simp [risesF]
  | cons x l ih => cases l with
    | nil => simp [risesF]
    | cons y l =>
      simp only [risesF, Bool.and_eq_true, decide_eq_true_eq, ih]
      constructor
      · rintro ⟨h1, h2⟩ i hi
        cases i with
        | zero => exact h1
        | succ i => exact h2 i (by simpa using hi)
      · intro h
        exact ⟨h 0 (by simp), fun i hi => h (i + 1) (by simpa using hi)⟩

theorem risesF_no (l : List Va) (i : Nat) (h : i + 1 < l.length) (hn : ¬ ordV (keyF l[i]) (keyF l[i + 1]) < 0) : risesF l = false := by
  cases hq : risesF l with
  | false => rfl
  | true => exact absurd ((risesF_iff l).1 hq i h) hn

def inB (n : Int) : Bool := decide (-1152921504606846976 ≤ n ∧ n ≤ 1152921504606846976)
def amountB (n : Int) : Bool := decide (0 ≤ n ∧ n ≤ 1152921504606846976)
def addrB (n : Int) : Bool := decide (0 ≤ n ∧ n < 12)

def fitsNF (t n : Int) : Bool :=
  if t = 2 ∨ t = 12 then decide (n = 0 ∨ n = 1) else if t = 3 then inB n else if t = 4 ∨ t = 5 ∨ t = 8 then amountB n
  else if t = 15 then amountB n && decide (n ≠ 0) else if t = 7 then addrB n else decide (n = 0)

def oneGood : List Ty → Bool
  | [] => false
  | [u] => goodTy u
  | _ :: _ :: _ => false

theorem oneGood_no {l : List Ty} (h : l.length ≠ 1) : oneGood l = false := by
  match l, h with
  | [], _ => rfl
  | [_], h => simp at h
  | _ :: _ :: _, _ => rfl

def fitsTF (T : Ty) (types : List Ty) : Bool :=
  if T.t = 8 then oneGood types else if T.t = 14 then sameTs types T.args else decide (types.length = 0)

def fitsF (T : Ty) (v : Va) : Bool :=
  decide (v.k = T.t) && fitsNF T.t v.n && (decide (v.a = 0) || decide (T.t = 8 ∨ T.t = 15) && addrB v.a) && (decide (v.s.size = 0) || decide (T.t = 6) && decide (v.s.size ≤ 200)) &&
  fitsTF T v.types && (decide (v.code.length = 0) || decide (T.t = 14))

def tyAt (l : List Ty) (i : Nat) : Ty := (l[i]?).getD (.nd 0 [])

/-- of which types the Args of a value that fits are -/
def argTys (T : Ty) (v : Va) : Option (List Ty) :=
  let l := v.args.length
  if T.t = 8 then (if l = v.types.length then some v.types else none)
  else if T.t = 9 ∧ l = 0 then some []
  else if T.t = 10 then (if l ≤ 24 then some (List.replicate l (tyAt T.args 0)) else none)
  else if T.t = 13 then (if l ≤ 24 then some (List.replicate l (.nd 11 T.args)) else none)
  else if T.t = 12 then (if l = 1 then some [tyAt T.args v.n.toNat] else none)
  else if T.t = 14 then (if l = 0 then some [] else none)
  else if l = T.args.length then some T.args else none

mutual
def hasV : Va → Ty → Bool
  | .mk k n a s args types code, T => fitsF T (.mk k n a s args types code) && (match argTys T (.mk k n a s args types code) with
    | none => false
    | some ts => hasVs args ts) && (!decide (T.t = 13) || risesF args)
def hasVs : List Va → List Ty → Bool
  | [], [] => true
  | v :: vs, T :: ts => hasV v T && hasVs vs ts
  | [], _ :: _ => false
  | _ :: _, [] => false
end

def hasF (T : Ty) (v : Va) : Bool := goodTy T && hasV v T

def hasP (p : Ty × Va) : Bool := hasV p.2 p.1

/-- the claims that a claim leads to -/
def partsOf (T : Ty) (v : Va) : Option (List (Ty × Va)) := (argTys T v).map fun ts => ts.zip v.args

theorem hasVs_zip : ∀ (vs : List Va) (ts : List Ty), vs.length = ts.length → hasVs vs ts = (ts.zip vs).all hasP
  | [], [], _ => by simp [hasVs]
  | _ :: _, [], h => by simp at h
  | [], _ :: _, h => by simp at h
  | v :: vs, T :: ts, h => by
    have ih := hasVs_zip vs ts (by simpa using h)
    simp [hasVs, ih, hasP]

theorem argTys_len {T : Ty} {v : Va} {ts : List Ty} (h : argTys T v = some ts) : v.args.length = ts.length := by
  unfold argTys at h
  simp only at h
  repeat' split at h
  all_goals first | (simp at h; done) | (simp only [Option.some.injEq] at h; subst h; simp_all)

theorem hasV_eq (T : Ty) (v : Va) : hasV v T = (fitsF T v && (match partsOf T v with
    | none => false
    | some ps => ps.all hasP) && (!decide (T.t = 13) || risesF v.args)) := by
  cases v with
  | mk k n a s args types code =>
    rw [hasV, partsOf]
    cases h : argTys T (.mk k n a s args types code) with
    | none => rfl
    | some ts =>
      have := argTys_len h
      simp only [Option.map_some]
      rw [hasVs_zip args ts this]
      rfl

/-- what is left to be claimed, in parts -/
def pairSize (p : Ty × Va) : Nat := p.2.size
def leftP (C : List (Ty × Va)) : Nat := (C.map pairSize).sum
theorem leftP_append (a b : List (Ty × Va)) : leftP (a ++ b) = leftP a + leftP b := by simp [leftP]
theorem leftP_one (p : Ty × Va) : leftP [p] = p.2.size := by simp [leftP, pairSize]
theorem len_leftP (C : List (Ty × Va)) : C.length ≤ leftP C := by
  induction C with
  | nil => simp
  | cons r l ih => have := vsize_pos r.2; simp only [leftP, List.map_cons, List.sum_cons, List.length_cons, pairSize] at ih ⊢; omega
theorem leftP_zip : ∀ (ts : List Ty) (vs : List Va), ts.length = vs.length → leftP (ts.zip vs) = vsizes vs
  | [], [], _ => by simp [leftP, vsizes]
  | _ :: _, [], h => by simp at h
  | [], _ :: _, h => by simp at h
  | T :: ts, v :: vs, h => by
    have ih := leftP_zip ts vs (by simpa using h)
    have e : leftP ((T :: ts).zip (v :: vs)) = v.size + leftP (ts.zip vs) := by simp [leftP, pairSize]
    rw [e, ih, vsizes]

end Go.Proofs.Ytmmgihaoahhkjaa

/- The order of values, as plain data: it goes one way, and on from one to the next. -/
namespace Go.Proofs.Ytmmgihaoahhkjaa
set_option linter.unusedVariables false

/-- one of -1, 0, 1 -/
def Sgn (p : Int) : Prop := p = -1 ∨ p = 0 ∨ p = 1

/-- from the first to the second, from the second to the third, from the first to the third -/
def On3 (p q r : Int) : Prop := p ≤ 0 → q ≤ 0 → r ≤ 0 ∧ (r = 0 ↔ p = 0 ∧ q = 0)

def lexI (p q : Int) : Int := if p ≠ 0 then p else q

theorem lexI_sgn {p q : Int} (hp : Sgn p) (hq : Sgn q) : Sgn (lexI p q) := by
  unfold lexI; split <;> assumption

theorem lexI_neg {p q : Int} : -lexI p q = lexI (-p) (-q) := by
  unfold lexI
  by_cases h : p = 0
  · simp [h]
  · rw [if_pos h, if_pos (by omega)]

theorem lexI_on3 {p1 p2 q1 q2 r1 r2 : Int} (h1 : On3 p1 q1 r1) (h2 : On3 p2 q2 r2) : On3 (lexI p1 p2) (lexI q1 q2) (lexI r1 r2) := by
  unfold On3 lexI at *
  intro hp hq
  by_cases a : p1 = 0 <;> by_cases b : q1 = 0 <;> by_cases c : r1 = 0 <;> simp [a, b, c] at hp hq h1 h2 ⊢ <;> omega

theorem cmpI_sgn (a b : Int) : Sgn (cmpI a b) := by unfold Sgn cmpI; split <;> (try split) <;> simp
theorem cmpI_neg (a b : Int) : cmpI b a = -cmpI a b := by unfold cmpI; split <;> split <;> (try split) <;> omega
theorem cmpI_on3 (a b c : Int) : On3 (cmpI a b) (cmpI b c) (cmpI a c) := by
  unfold On3 cmpI; split <;> split <;> split <;> (try split) <;> (try split) <;> (try split) <;> omega

def cmpL : List UInt8 → List UInt8 → Int
  | [], [] => 0
  | [], _ :: _ => -1
  | _ :: _, [] => 1
  | a :: x, b :: y => lexI (cmpI a.toNat b.toNat) (cmpL x y)

theorem cmpL_sgn : ∀ x y, Sgn (cmpL x y)
  | [], [] => .inr (.inl rfl)
  | [], _ :: _ => .inl rfl
  | _ :: _, [] => .inr (.inr rfl)
  | a :: x, b :: y => lexI_sgn (cmpI_sgn _ _) (cmpL_sgn x y)

theorem cmpL_neg : ∀ x y, cmpL y x = -cmpL x y
  | [], [] => rfl
  | [], _ :: _ => rfl
  | _ :: _, [] => rfl
  | a :: x, b :: y => by rw [cmpL, cmpL, lexI_neg, cmpI_neg, cmpL_neg x y]

theorem cmpL_on3 : ∀ x y z, On3 (cmpL x y) (cmpL y z) (cmpL x z)
  | [], [], [] => by simp [On3, cmpL]
  | [], [], _ :: _ => by simp [On3, cmpL]
  | [], _ :: _, [] => by simp [On3, cmpL]
  | [], _ :: _, _ :: _ => by simp [On3, cmpL]
  | _ :: _, [], _ => by intro h; simp [cmpL] at h
  | _ :: _, _ :: _, [] => by intro _ h; simp [cmpL] at h
  | a :: x, b :: y, c :: z => lexI_on3 (cmpI_on3 _ _ _) (cmpL_on3 x y z)

theorem cmpL_zero : ∀ x y, cmpL x y = 0 ↔ x = y
  | [], [] => by simp [cmpL]
  | [], _ :: _ => by simp [cmpL]
  | _ :: _, [] => by simp [cmpL]
  | a :: x, b :: y => by
    have ih := cmpL_zero x y
    have h : cmpI a.toNat b.toNat = 0 ↔ a = b := by
      constructor
      · intro h
        unfold cmpI at h
        split at h
        · cases h
        · split at h
          · cases h
          · exact UInt8.toNat_inj.1 (by omega)
      · rintro rfl; simp [cmpI]
    simp only [cmpL, lexI, List.cons.injEq]
    by_cases h0 : cmpI a.toNat b.toNat = 0
    · have he := h.1 h0
      rw [if_neg (by simpa using h0), ih]
      exact ⟨fun hh => ⟨he, hh⟩, fun hh => hh.2⟩
    · simp only [ne_eq, h0, not_false_eq_true, if_true, false_iff]
      intro hh
      exact h0 (h.2 hh.1)

theorem less_cmpL : ∀ x y, Op.bytesLess x y = decide (cmpL x y < 0)
  | [], [] => rfl
  | [], _ :: _ => by simp [Op.bytesLess, cmpL]
  | _ :: _, [] => by simp [Op.bytesLess, cmpL]
  | a :: x, b :: y => by
    rw [Op.bytesLess, less_cmpL x y]
    have hlt : (a < b) = (a.toNat < b.toNat) := by rw [UInt8.lt_iff_toNat_lt]
    by_cases h1 : a.toNat < b.toNat
    · have h2 : cmpI a.toNat b.toNat = -1 := by rw [cmpI, if_pos (by omega)]
      simp [cmpL, lexI, h2, hlt, h1]
    · by_cases h3 : b.toNat < a.toNat
      · have h2 : cmpI a.toNat b.toNat = 1 := by rw [cmpI, if_neg (by omega), if_pos (by omega)]
        have hne : ¬ a = b := by rintro rfl; omega
        simp [cmpL, lexI, h2, hlt, h1, hne]
      · have h2 : cmpI a.toNat b.toNat = 0 := by rw [cmpI, if_neg (by omega), if_neg (by omega)]
        have he : a = b := UInt8.toNat_inj.1 (by omega)
        subst he
        simp [cmpL, lexI, h2, hlt]

theorem cmpS_cmpL (s t : ByteArray) : cmpS s t = cmpL s.toList t.toList := by
  unfold cmpS
  rw [less_cmpL]
  rcases cmpL_sgn s.toList t.toList with h | h | h
  · rw [h]; simp
  · rw [h, if_neg (by simp), if_pos ((cmpL_zero _ _).1 h)]
  · rw [h, if_neg (by simp), if_neg (fun e => by rw [(cmpL_zero _ _).2 e] at h; cases h)]

theorem ordC_lex (x y : Va) : ordC x y = lexI (cmpI x.n y.n) (cmpL x.s.toList y.s.toList) := by
  unfold ordC; rw [cmpS_cmpL]; rfl

theorem ordC_sgn (x y : Va) : Sgn (ordC x y) := by rw [ordC_lex]; exact lexI_sgn (cmpI_sgn _ _) (cmpL_sgn _ _)
theorem ordC_neg (x y : Va) : ordC y x = -ordC x y := by rw [ordC_lex, ordC_lex, lexI_neg, cmpI_neg, cmpL_neg]
theorem ordC_on3 (x y z : Va) : On3 (ordC x y) (ordC y z) (ordC x z) := by rw [ordC_lex, ordC_lex, ordC_lex]; exact lexI_on3 (cmpI_on3 _ _ _) (cmpL_on3 _ _ _)

theorem sbsV_lex (c : Va → Va → Int) (x y : Va) : sbsV c x y = lexI (c x y) (sbsVs c x.args y.args) := by rw [sbsV_eq]; rfl
theorem sbsVs_cons (c : Va → Va → Int) (x y : Va) (xs ys : List Va) : sbsVs c (x :: xs) (y :: ys) = lexI (sbsV c x y) (sbsVs c xs ys) := by rw [sbsVs]; rfl

mutual
theorem ordV_all : ∀ (x y z : Va), Sgn (sbsV ordC x y) ∧ sbsV ordC y x = -sbsV ordC x y ∧ On3 (sbsV ordC x y) (sbsV ordC y z) (sbsV ordC x z)
  | .mk k n a s args ty co, y, z => by
    obtain ⟨h1, h2, h3⟩ := ordVs_all args y.args z.args
    simp only [sbsV_lex]
    exact ⟨lexI_sgn (ordC_sgn _ _) h1, by rw [lexI_neg, ← ordC_neg]; exact congrArg (lexI _) h2, lexI_on3 (ordC_on3 _ _ _) h3⟩
theorem ordVs_all : ∀ (xs ys zs : List Va), Sgn (sbsVs ordC xs ys) ∧ sbsVs ordC ys xs = -sbsVs ordC xs ys ∧ On3 (sbsVs ordC xs ys) (sbsVs ordC ys zs) (sbsVs ordC xs zs)
  | [], [], [] => by simp [Sgn, On3, sbsVs]
  | [], [], _ :: _ => by simp [Sgn, On3, sbsVs]
  | [], _ :: _, [] => by simp [Sgn, On3, sbsVs]
  | [], _ :: _, _ :: _ => by simp [Sgn, On3, sbsVs]
  | _ :: _, [], _ => by refine ⟨.inr (.inr (by rw [sbsVs])), by rw [sbsVs, sbsVs], fun h => ?_⟩; rw [sbsVs] at h; omega
  | x :: xs, y :: ys, [] => by
    obtain ⟨h1, h2, _⟩ := ordV_all x y y
    obtain ⟨k1, k2, _⟩ := ordVs_all xs ys []
    simp only [sbsVs_cons]
    refine ⟨lexI_sgn h1 k1, by rw [lexI_neg, h2, k2], fun _ h => ?_⟩
    rw [sbsVs] at h; omega
  | x :: xs, y :: ys, z :: zs => by
    obtain ⟨h1, h2, h3⟩ := ordV_all x y z
    obtain ⟨k1, k2, k3⟩ := ordVs_all xs ys zs
    simp only [sbsVs_cons]
    exact ⟨lexI_sgn h1 k1, by rw [lexI_neg, h2, k2], lexI_on3 h3 k3⟩
end

theorem ordV_sgn (x y : Va) : Sgn (ordV x y) := (ordV_all x y y).1
theorem ordV_neg (x y : Va) : ordV y x = -ordV x y := (ordV_all x y y).2.1
theorem ordV_on3 (x y z : Va) : On3 (ordV x y) (ordV y z) (ordV x z) := (ordV_all x y z).2.2

/-- what Same says of two values by themselves -/
def sameC (x y : Va) : Int := if x.k = y.k ∧ x.n = y.n ∧ x.a = y.a ∧ x.s.toList = y.s.toList then 0 else 1

/-- a value without Types and Code, all through -/
inductive Plain : Va → Prop
  | mk {k n a : Int} {s : ByteArray} {args : List Va} (h : ∀ x ∈ args, Plain x) : Plain (.mk k n a s args [] [])

theorem Plain.args {x : Va} (h : Plain x) : ∀ y ∈ x.args, Plain y := by cases h with | mk h => exact h
theorem Plain.bare {x : Va} (h : Plain x) : x.types = [] ∧ x.code = [] := by cases h; exact ⟨rfl, rfl⟩

theorem ordC_zero (x y : Va) : ordC x y = 0 ↔ x.n = y.n ∧ x.s.toList = y.s.toList := by
  rw [ordC_lex]
  unfold lexI
  by_cases h : x.n = y.n
  · rw [h, show cmpI y.n y.n = 0 from by simp [cmpI], if_neg (by simp), cmpL_zero]; simp
  · have h2 : cmpI x.n y.n ≠ 0 := by unfold cmpI; split <;> (try split) <;> omega
    rw [if_pos h2]
    exact ⟨fun e => absurd e h2, fun e => absurd e.1 h⟩

theorem lexI_zero {p q : Int} : lexI p q = 0 ↔ p = 0 ∧ q = 0 := by
  unfold lexI
  by_cases h : p = 0
  · simp [h]
  · simp [h]

theorem comp_parts {T : Ty} (hc : compT T = true) : (1 ≤ T.t ∧ T.t ≤ 15 ∧ T.t ≠ 8 ∧ T.t ≠ 10 ∧ T.t ≠ 13 ∧ T.t ≠ 14 ∧ T.t ≠ 15) ∧ ∀ y ∈ T.args, compT y = true := by
  obtain ⟨t, targs⟩ := T
  simp only [compT, allF, Bool.and_eq_true, innAll, Bool.not_true, Bool.false_or] at hc
  obtain ⟨hcb, hca⟩ := hc
  simp only [compB, decide_eq_true_eq] at hcb
  rw [allFs_all, List.all_eq_true] at hca
  exact ⟨hcb, hca⟩

theorem formed_args2 {d : Nat} {T : Ty} (h : formedB d T = true) : (T.args.length : Int) = partsF T.t ∧ ∀ y ∈ T.args, formedB (d + 1) y = true := by
  obtain ⟨t, args⟩ := T
  simp only [formedB, Bool.and_eq_true, decide_eq_true_eq] at h
  refine ⟨h.1.2.2, fun y hy => ?_⟩
  have := h.2
  rw [formedBs_all, List.all_eq_true] at this
  exact this y hy

theorem hasV_parts {T : Ty} {x : Va} (hv : hasV x T = true) : fitsF T x = true ∧ ∃ ts, argTys T x = some ts ∧ hasVs x.args ts = true := by
  cases x with
  | mk k n a s args types code =>
    rw [hasV] at hv
    simp only [Bool.and_eq_true] at hv
    obtain ⟨⟨hf, hp⟩, _⟩ := hv
    refine ⟨hf, ?_⟩
    cases hq : argTys T (.mk k n a s args types code) with
    | none => rw [hq] at hp; cases hp
    | some ts => rw [hq] at hp; exact ⟨ts, rfl, hp⟩

/-- what is known of a value of a type that can be compared -/
theorem comp_fits {T : Ty} {x : Va} {d : Nat} (hv : hasV x T = true) (hc : compT T = true) (hfd : formedB d T = true) :
    x.k = T.t ∧ x.a = 0 ∧ x.types = [] ∧ x.code = [] ∧ ∃ ts, argTys T x = some ts ∧ hasVs x.args ts = true ∧ ∀ y ∈ ts, y ∈ T.args := by
  obtain ⟨hcb, hca⟩ := comp_parts hc
  obtain ⟨hlen, _⟩ := formed_args2 hfd
  obtain ⟨hf, ts, hts, hhs⟩ := hasV_parts hv
  unfold fitsF at hf
  simp only [Bool.and_eq_true, decide_eq_true_eq, Bool.or_eq_true] at hf
  obtain ⟨⟨⟨⟨⟨hk, hN⟩, ha⟩, _⟩, hty⟩, hco⟩ := hf
  have ha0 : x.a = 0 := by
    rcases ha with h | h
    · exact h
    · exact absurd h.1 (by omega)
  have hty0 : x.types = [] := by
    unfold fitsTF at hty
    rw [if_neg (by omega), if_neg (by omega)] at hty
    exact List.eq_nil_of_length_eq_zero (by simpa using hty)
  have hco0 : x.code = [] := by
    rcases hco with h | h
    · exact List.eq_nil_of_length_eq_zero h
    · exact absurd h (by omega)
  refine ⟨hk, ha0, hty0, hco0, ts, hts, hhs, ?_⟩
  intro y hy
  unfold argTys at hts
  simp only at hts
  rw [if_neg (by omega)] at hts
  split at hts
  · simp only [Option.some.injEq] at hts; subst hts; simp at hy
  · rw [if_neg (by omega), if_neg (by omega)] at hts
    split at hts
    · rename_i h12
      split at hts
      · simp only [Option.some.injEq] at hts
        subst hts
        simp only [List.mem_singleton] at hy
        subst hy
        have hl2 : T.args.length = 2 := by rw [h12] at hlen; simp [partsF] at hlen; omega
        have hn : x.n = 0 ∨ x.n = 1 := by
          unfold fitsNF at hN
          rw [h12] at hN
          simpa using hN
        have hlt : x.n.toNat < T.args.length := by omega
        unfold tyAt
        rw [List.getElem?_eq_getElem hlt]
        exact List.getElem_mem hlt
      · cases hts
    · rw [if_neg (by omega)] at hts
      split at hts
      · simp only [Option.some.injEq] at hts; subst hts; exact hy
      · cases hts

/-- of like numbers and as many Args, the Args are of like types -/
theorem args_like {T : Ty} {x y : Va} (hn : x.n = y.n) (hl : x.args.length = y.args.length) (hc : compT T = true) {ts ts' : List Ty} (h : argTys T x = some ts) (h' : argTys T y = some ts') : ts = ts' := by
  obtain ⟨hcb, _⟩ := comp_parts hc
  unfold argTys at h h'
  simp only at h h'
  rw [if_neg (by omega)] at h h'
  rw [hn, hl] at h
  split at h
  · rename_i h9
    rw [if_pos h9] at h'
    rw [h] at h'
    exact Option.some.inj h'
  · rename_i h9
    rw [if_neg h9] at h'
    rw [if_neg (by omega), if_neg (by omega)] at h h'
    split at h
    · rename_i h12
      rw [if_pos h12] at h'
      rw [h] at h'
      exact Option.some.inj h'
    · rename_i h12
      rw [if_neg h12] at h'
      rw [h] at h'
      exact Option.some.inj h'

theorem sbsVs_len {c : Va → Va → Int} : ∀ {xs ys : List Va}, sbsVs c xs ys = 0 → xs.length = ys.length
  | [], [], _ => rfl
  | [], _ :: _, h => by rw [sbsVs] at h; cases h
  | _ :: _, [], h => by rw [sbsVs] at h; cases h
  | x :: xs, y :: ys, h => by
    rw [sbsVs_cons, lexI_zero] at h
    simp [sbsVs_len h.2]

mutual
/-- of one type that can be compared: in order the same where Same says so -/
theorem ord_same : ∀ (x y : Va) (T : Ty) (d : Nat), hasV x T = true → hasV y T = true → compT T = true → formedB d T = true → (sbsV ordC x y = 0 ↔ sbsV sameC x y = 0)
  | .mk k n a s args ty co, y, T, d => by
    intro hx hy hc hfd
    obtain ⟨k1, a1, _, _, ts1, t1, u1, m1⟩ := comp_fits hx hc hfd
    obtain ⟨k2, a2, _, _, ts2, t2, u2, m2⟩ := comp_fits hy hc hfd
    obtain ⟨_, hca⟩ := comp_parts hc
    obtain ⟨_, hfa⟩ := formed_args2 hfd
    rw [sbsV_lex, sbsV_lex, lexI_zero, lexI_zero, ordC_zero]
    have hC : sameC (.mk k n a s args ty co) y = 0 ↔ (Va.mk k n a s args ty co).n = y.n ∧ (Va.mk k n a s args ty co).s.toList = y.s.toList := by
      unfold sameC
      constructor
      · intro h
        split at h
        · rename_i hh; exact ⟨hh.2.1, hh.2.2.2⟩
        · cases h
      · intro h
        rw [if_pos ⟨by rw [k1, k2], h.1, by rw [a1, a2], h.2⟩]
    rw [hC]
    constructor
    · rintro ⟨⟨h1, h2⟩, h3⟩
      have hts := args_like h1 (sbsVs_len h3) hc t1 t2
      subst hts
      exact ⟨⟨h1, h2⟩, (ords_same args y.args ts1 (d + 1) u1 u2 (fun z hz => hca z (m1 z hz)) (fun z hz => hfa z (m1 z hz))).1 h3⟩
    · rintro ⟨⟨h1, h2⟩, h3⟩
      have hts := args_like h1 (sbsVs_len h3) hc t1 t2
      subst hts
      exact ⟨⟨h1, h2⟩, (ords_same args y.args ts1 (d + 1) u1 u2 (fun z hz => hca z (m1 z hz)) (fun z hz => hfa z (m1 z hz))).2 h3⟩
theorem ords_same : ∀ (xs ys : List Va) (ts : List Ty) (d : Nat), hasVs xs ts = true → hasVs ys ts = true → (∀ T ∈ ts, compT T = true) → (∀ T ∈ ts, formedB d T = true) → (sbsVs ordC xs ys = 0 ↔ sbsVs sameC xs ys = 0)
  | [], [], _, _ => by intros; simp [sbsVs]
  | [], _ :: _, _, _ => by intros; simp [sbsVs]
  | _ :: _, [], _, _ => by intros; simp [sbsVs]
  | x :: xs, y :: ys, [], _ => by intro h; simp [hasVs] at h
  | x :: xs, y :: ys, T :: ts, d => by
    intro hx hy hc hf
    simp only [hasVs, Bool.and_eq_true] at hx hy
    rw [sbsVs_cons, sbsVs_cons, lexI_zero, lexI_zero, ord_same x y T d hx.1 hy.1 (hc T (by simp)) (hf T (by simp)), ords_same xs ys ts d hx.2 hy.2 (fun z hz => hc z (by simp [hz])) (fun z hz => hf z (by simp [hz]))]
end

mutual
theorem plain_of : ∀ (x : Va) (T : Ty) (d : Nat), hasV x T = true → compT T = true → formedB d T = true → Plain x
  | .mk k n a s args ty co, T, d => by
    intro hx hc hfd
    obtain ⟨_, _, h3, h4, ts, _, hh, hm⟩ := comp_fits hx hc hfd
    obtain ⟨_, hca⟩ := comp_parts hc
    obtain ⟨_, hfa⟩ := formed_args2 hfd
    simp only [Va.types, Va.code] at h3 h4
    subst h3; subst h4
    exact .mk (plains_of args ts (d + 1) hh (fun z hz => hca z (hm z hz)) (fun z hz => hfa z (hm z hz)))
theorem plains_of : ∀ (xs : List Va) (ts : List Ty) (d : Nat), hasVs xs ts = true → (∀ T ∈ ts, compT T = true) → (∀ T ∈ ts, formedB d T = true) → ∀ x ∈ xs, Plain x
  | [], _, _ => by intros _ _ _ x hx; simp at hx
  | x :: xs, [], _ => by intro h; simp [hasVs] at h
  | x :: xs, T :: ts, d => by
    intro hx hc hf z hz
    simp only [hasVs, Bool.and_eq_true] at hx
    rcases List.mem_cons.1 hz with he | hz
    · rw [he]; exact plain_of x T d hx.1 (hc T (by simp)) (hf T (by simp))
    · exact plains_of xs ts d hx.2 (fun z hz => hc z (by simp [hz])) (fun z hz => hf z (by simp [hz])) z hz
end

end Go.Proofs.Ytmmgihaoahhkjaa

/- What the document's own Order and Has come to, as plain functions. -/
namespace Go.Proofs.Ytmmgihaoahhkjaa
set_option linter.unusedVariables false

/-- two values whose order the document's own Order tells by another road -/
inductive Evn : Va → Va → Prop
  | mk {x y : Va} (h9 : x.k = 9 → x.n = y.n ∧ x.s.toList = y.s.toList ∧ x.args.length ≤ 1 ∧ y.args.length ≤ 1) (hl : x.k ≠ 9 → x.n = y.n → x.s.toList = y.s.toList → x.args.length = y.args.length) (hd : x.n = y.n ∨ x.s.toList = y.s.toList)
      (hr : x.n = y.n → x.s.toList = y.s.toList → x.args.length = y.args.length → ∀ i (h : i < x.args.length) (h' : i < y.args.length), Evn x.args[i] y.args[i]) : Evn x y

theorem fits_ns {T : Ty} {x : Va} (hf : fitsF T x = true) : (T.t ≠ 6 → x.s.toList = []) ∧ (T.t = 6 ∨ T.t = 9 → x.n = 0) := by
  unfold fitsF at hf
  simp only [Bool.and_eq_true, decide_eq_true_eq, Bool.or_eq_true] at hf
  obtain ⟨⟨⟨⟨⟨hk, hN⟩, ha⟩, hs⟩, hty⟩, hco⟩ := hf
  refine ⟨fun h6 => ?_, fun h => ?_⟩
  · rcases hs with h | h
    · rw [ByteArray.toList_eq]; exact List.length_eq_zero_iff.1 (by rw [Array.length_toList]; exact h)
    · exact absurd h.1 h6
  · unfold fitsNF at hN
    rw [if_neg (by omega), if_neg (by omega), if_neg (by omega), if_neg (by omega), if_neg (by omega)] at hN
    simpa using hN

theorem comp_len {T : Ty} {x : Va} {ts : List Ty} (hc : compT T = true) (h9 : T.t ≠ 9) (h : argTys T x = some ts) : x.args.length = if T.t = 12 then 1 else T.args.length := by
  obtain ⟨hcb, _⟩ := comp_parts hc
  unfold argTys at h
  simp only at h
  rw [if_neg (by omega), if_neg (by omega), if_neg (by omega), if_neg (by omega)] at h
  split at h
  · rename_i h12
    rw [if_pos h12]
    split at h
    · assumption
    · cases h
  · rename_i h12
    rw [if_neg h12]
    rw [if_neg (by omega)] at h
    split at h
    · assumption
    · cases h

theorem opt_len {T : Ty} {x : Va} {d : Nat} {ts : List Ty} (hf : formedB d T = true) (h9 : T.t = 9) (h : argTys T x = some ts) : x.args.length ≤ 1 := by
  obtain ⟨hl, _⟩ := formed_args2 hf
  have h1 : T.args.length = 1 := by
    unfold partsF at hl
    rw [if_pos (by omega)] at hl
    omega
  unfold argTys at h
  simp only at h
  rw [if_neg (by omega)] at h
  split at h
  · omega
  · rw [if_neg (by omega), if_neg (by omega), if_neg (by omega), if_neg (by omega)] at h
    split at h
    · omega
    · cases h

mutual
theorem evn_of : ∀ (x y : Va) (T : Ty) (d : Nat), hasV x T = true → hasV y T = true → compT T = true → formedB d T = true → Evn x y
  | .mk k n a s args ty co, y, T, d => by
    intro hx hy hc hfd
    obtain ⟨k1, a1, _, _, ts1, t1, u1, m1⟩ := comp_fits hx hc hfd
    obtain ⟨k2, a2, _, _, ts2, t2, u2, m2⟩ := comp_fits hy hc hfd
    obtain ⟨_, hca⟩ := comp_parts hc
    obtain ⟨_, hfa⟩ := formed_args2 hfd
    obtain ⟨p1, p2⟩ := fits_ns (hasV_parts hx).1
    obtain ⟨q1, q2⟩ := fits_ns (hasV_parts hy).1
    refine .mk (fun h9 => ?_) (fun h9 hn hs => ?_) ?_ (fun hn hs hl i h h' => ?_)
    · rw [k1] at h9
      exact ⟨by rw [p2 (.inr h9), q2 (.inr h9)], by rw [p1 (by omega), q1 (by omega)], opt_len hfd h9 t1, opt_len hfd h9 t2⟩
    · rw [k1] at h9
      rw [comp_len hc h9 t1, comp_len hc h9 t2]
    · by_cases h6 : T.t = 6
      · left; rw [p2 (.inl h6), q2 (.inl h6)]
      · right; rw [p1 h6, q1 h6]
    · have hts := args_like hn hl hc t1 t2
      subst hts
      exact evns_of args y.args ts1 (d + 1) u1 u2 (fun z hz => hca z (m1 z hz)) (fun z hz => hfa z (m1 z hz)) i h h'
theorem evns_of : ∀ (xs ys : List Va) (ts : List Ty) (d : Nat), hasVs xs ts = true → hasVs ys ts = true → (∀ T ∈ ts, compT T = true) → (∀ T ∈ ts, formedB d T = true) → ∀ i (h : i < xs.length) (h' : i < ys.length), Evn xs[i] ys[i]
  | [], _, _, _ => by intro _ _ _ _ i h; simp at h
  | _ :: _, [], _, _ => by intro _ _ _ _ i _ h; simp at h
  | x :: xs, y :: ys, [], _ => by intro h; simp [hasVs] at h
  | x :: xs, y :: ys, T :: ts, d => by
    intro hx hy hc hf i h h'
    simp only [hasVs, Bool.and_eq_true] at hx hy
    cases i with
    | zero => exact evn_of x y T d hx.1 hy.1 (hc T (by simp)) (hf T (by simp))
    | succ i => exact evns_of xs ys ts d hx.2 hy.2 (fun z hz => hc z (by simp [hz])) (fun z hz => hf z (by simp [hz])) i (by simpa using h) (by simpa using h')
end

/-- one step on in two rows that are even so far -/
theorem sbsVs_take_succ (c : Va → Va → Int) : ∀ (xs ys : List Va) (j : Nat) (h1 : j < xs.length) (h2 : j < ys.length), sbsVs c (xs.take j) (ys.take j) = 0 → sbsVs c (xs.take (j + 1)) (ys.take (j + 1)) = sbsV c xs[j] ys[j]
  | [], _, _, h1, _, _ => by simp at h1
  | _ :: _, [], _, _, h2, _ => by simp at h2
  | a :: xs, b :: ys, 0, _, _, _ => by simp [sbsVs_cons, sbsVs, lexI]; intro h; exact h.symm
  | a :: xs, b :: ys, j + 1, h1, h2, h => by
    simp only [List.take_succ_cons, sbsVs_cons, lexI_zero] at h
    have ih := sbsVs_take_succ c xs ys j (by simpa using h1) (by simpa using h2) h.2
    rw [List.take_succ_cons, List.take_succ_cons, sbsVs_cons, ih, h.1]
    simp [lexI]

theorem sbsVs_at_no (c : Va → Va → Int) : ∀ (xs ys : List Va) (j : Nat) (h1 : j < xs.length) (h2 : j < ys.length), sbsVs c (xs.take j) (ys.take j) = 0 → sbsV c xs[j] ys[j] ≠ 0 → sbsVs c xs ys = sbsV c xs[j] ys[j]
  | [], _, _, h1, _, _, _ => by simp at h1
  | _ :: _, [], _, _, h2, _, _ => by simp at h2
  | a :: xs, b :: ys, 0, _, _, _, h => by
    rw [sbsVs_cons]
    have h' : sbsV c a b ≠ 0 := h
    simp [lexI, h']
  | a :: xs, b :: ys, j + 1, h1, h2, h, hn => by
    simp only [List.take_succ_cons, sbsVs_cons, lexI_zero] at h
    have ih := sbsVs_at_no c xs ys j (by simpa using h1) (by simpa using h2) h.2 (by simpa using hn)
    rw [sbsVs_cons, ih, h.1]
    simp [lexI]

/-- a value that has nothing but what is named -/
def bareB (n a s : Bool) (al tl : Nat) (co : Bool) (x : Va) : Bool :=
  (n || decide (x.n = 0)) && (a || decide (x.a = 0)) && (s || decide (x.s.size = 0)) && decide (x.args.length = al) && decide (x.types.length = tl) && (co || decide (x.code.length = 0))

theorem hasV_un (T : Ty) (x : Va) : hasV x T = (fitsF T x && (match argTys T x with
    | none => false
    | some ts => hasVs x.args ts) && (!decide (T.t = 13) || risesF x.args)) := by
  cases x; rw [hasV]; rfl

theorem hasVs_nil (xs : List Va) : hasVs xs [] = decide (xs.length = 0) := by
  cases xs <;> simp [hasVs]

theorem has_kind {T : Ty} {x : Va} (hk : ¬ T.t = x.k) : hasV x T = false := by
  rw [hasV_un]
  simp [fitsF, show ¬ x.k = T.t from fun h => hk h.symm]

theorem leaf_args {T : Ty} {x : Va} {d : Nat} (hf : formedB d T = true) (h1 : 1 ≤ T.t) (h7 : T.t ≤ 7) : (match argTys T x with
    | none => false
    | some ts => hasVs x.args ts) = decide (x.args.length = 0) := by
  obtain ⟨hl, _⟩ := formed_args2 hf
  have h0 : T.args = [] := by
    unfold partsF at hl
    rw [if_neg (by omega), if_neg (by omega)] at hl
    exact List.eq_nil_of_length_eq_zero (by omega)
  unfold argTys
  simp only
  rw [if_neg (by omega), if_neg (by omega), if_neg (by omega), if_neg (by omega), if_neg (by omega), if_neg (by omega), h0]
  by_cases h : x.args.length = 0
  · rw [if_pos (by simpa using h)]; simp [hasVs_nil]
  · rw [if_neg (by simpa using h)]; simp [h]

theorem has_leaf {T : Ty} {x : Va} {d : Nat} (hf : formedB d T = true) (h1 : 1 ≤ T.t) (h7 : T.t ≤ 7) (hk : T.t = x.k) : hasV x T = (bareB (decide (T.t ≠ 1 ∧ T.t ≠ 6)) false (decide (T.t = 6)) 0 0 false x && fitsNF T.t x.n && (!decide (T.t = 6) || decide (x.s.size ≤ 200))) := by
  rw [hasV_un, leaf_args hf h1 h7]
  unfold fitsF fitsTF bareB
  rw [if_neg (by omega), if_neg (by omega), hk.symm]
  have e1 : ¬ (T.t = 8 ∨ T.t = 15) := by omega
  have e2 : ¬ T.t = 14 := by omega
  have e3 : ¬ T.t = 13 := by omega
  have e4 : (T.t = 1 ∨ T.t = 6) → fitsNF T.t x.n = decide (x.n = 0) := by
    intro h
    unfold fitsNF
    rw [if_neg (by omega), if_neg (by omega), if_neg (by omega), if_neg (by omega), if_neg (by omega)]
  by_cases h6 : T.t = 6
  · rw [e4 (.inr h6), Bool.eq_iff_iff]
    simp [h6]
    constructor
    · rintro ⟨⟨⟨⟨⟨a, b⟩, c⟩, d⟩, e⟩, f⟩; exact ⟨⟨⟨⟨⟨⟨a, b⟩, f⟩, d⟩, e⟩, a⟩, c.elim (fun c => by rw [c]; simp) id⟩
    · rintro ⟨⟨⟨⟨⟨⟨a, b⟩, f⟩, d⟩, e⟩, _⟩, c⟩; exact ⟨⟨⟨⟨⟨a, b⟩, .inr c⟩, d⟩, e⟩, f⟩
  · by_cases h1' : T.t = 1
    · rw [e4 (.inl h1'), Bool.eq_iff_iff]
      simp [h1']
      constructor
      · rintro ⟨⟨⟨⟨⟨a, b⟩, c⟩, d⟩, e⟩, f⟩; exact ⟨⟨⟨⟨⟨⟨a, b⟩, c⟩, f⟩, d⟩, e⟩, a⟩
      · rintro ⟨⟨⟨⟨⟨⟨a, b⟩, c⟩, f⟩, d⟩, e⟩, _⟩; exact ⟨⟨⟨⟨⟨a, b⟩, c⟩, d⟩, e⟩, f⟩
    · rw [Bool.eq_iff_iff]
      simp [e1, e2, e3, h6, h1']
      constructor
      · rintro ⟨⟨⟨⟨⟨a, b⟩, c⟩, d⟩, e⟩, f⟩; exact ⟨⟨⟨⟨⟨b, c⟩, f⟩, d⟩, e⟩, a⟩
      · rintro ⟨⟨⟨⟨⟨b, c⟩, f⟩, d⟩, e⟩, a⟩; exact ⟨⟨⟨⟨⟨a, b⟩, c⟩, d⟩, e⟩, f⟩

theorem fitsN8 (n : Int) : fitsNF 8 n = amountB n := by unfold fitsNF; simp
theorem fitsN15 (n : Int) : fitsNF 15 n = (amountB n && decide (n ≠ 0)) := by unfold fitsNF; simp
theorem fitsN12 (n : Int) : fitsNF 12 n = decide (n = 0 ∨ n = 1) := by unfold fitsNF; simp
theorem fitsN0 {t : Int} (h : t = 9 ∨ t = 10 ∨ t = 11 ∨ t = 13 ∨ t = 14) (n : Int) : fitsNF t n = decide (n = 0) := by
  unfold fitsNF; rw [if_neg (by omega), if_neg (by omega), if_neg (by omega), if_neg (by omega), if_neg (by omega)]

theorem addr_zero (a : Int) : (decide (a = 0) || addrB a) = addrB a := by
  unfold addrB
  rw [Bool.eq_iff_iff]; simp; omega

/-- an operation -/
theorem has_op {T : Ty} {x : Va} (h8 : T.t = 8) (hk : T.t = x.k) (hb : bareB true true false 1 1 false x = true) : ∃ u y, x.types = [u] ∧ x.args = [y] ∧ hasV x T = (amountB x.n && addrB x.a && hasF u y) := by
  unfold bareB at hb
  simp only [Bool.and_eq_true, decide_eq_true_eq, Bool.true_or, Bool.false_or, true_and] at hb
  obtain ⟨⟨⟨hs, ha⟩, ht⟩, hc⟩ := hb
  obtain ⟨u, hu⟩ := List.length_eq_one_iff.1 ht
  obtain ⟨y, hy⟩ := List.length_eq_one_iff.1 ha
  refine ⟨u, y, hu, hy, ?_⟩
  rw [hasV_un]
  have e : argTys T x = some [u] := by unfold argTys; simp only; rw [if_pos h8, hu, hy]; rfl
  rw [e, hy]
  simp only [fitsF, fitsTF, hu, h8, hk.symm, if_true, fitsN8, hs, hc, oneGood, hasVs, hasF]
  simp only [decide_true, true_or, Bool.true_and, Bool.true_or, addr_zero, Bool.and_true]
  simp [Bool.and_assoc]

theorem has_op_no {T : Ty} {x : Va} (h8 : T.t = 8) (hb : bareB true true false 1 1 false x = false) : hasV x T = false := by
  cases h : hasV x T with
  | false => rfl
  | true =>
    obtain ⟨hf, ts, hts, _⟩ := hasV_parts h
    unfold fitsF at hf
    simp only [Bool.and_eq_true, decide_eq_true_eq, Bool.or_eq_true] at hf
    obtain ⟨⟨⟨⟨⟨hk, hN⟩, ha⟩, hs⟩, hty⟩, hco⟩ := hf
    unfold fitsTF at hty
    rw [if_pos h8] at hty
    have h1 : x.types.length = 1 := by
      by_cases e : x.types.length = 1
      · exact e
      · rw [oneGood_no e] at hty; cases hty
    unfold argTys at hts
    simp only at hts
    rw [if_pos h8] at hts
    have h2 : x.args.length = x.types.length := by
      split at hts
      · assumption
      · cases hts
    have h3 : x.s.size = 0 := by
      rcases hs with h | h
      · exact h
      · omega
    have h4 : x.code.length = 0 := by
      rcases hco with h | h
      · exact h
      · omega
    unfold bareB at hb
    simp [h1, h2, h3, h4] at hb

theorem hasVs_rep (xs : List Va) (U : Ty) : hasVs xs (List.replicate xs.length U) = xs.all (fun y => hasV y U) := by
  induction xs with
  | nil => simp [hasVs]
  | cons x xs ih => simp [List.replicate, hasVs, ih]

theorem tyAt_get {l : List Ty} {i : Nat} (h : i < l.length) : tyAt l i = l[i] := by
  unfold tyAt; rw [List.getElem?_eq_getElem h]; rfl

/-- an option or a list -/
theorem has_many {T : Ty} {x : Va} {d : Nat} (hf : formedB d T = true) (h9 : T.t = 9 ∨ T.t = 10) (hk : T.t = x.k) : hasV x T = (bareB false false false x.args.length 0 false x && !(decide (T.t = 9) && decide (1 < x.args.length)) && !decide (24 < x.args.length) && x.args.all (fun y => hasV y (tyAt T.args 0))) := by
  obtain ⟨hl, _⟩ := formed_args2 hf
  have h1 : T.args.length = 1 := by
    unfold partsF at hl
    rw [if_pos (by omega)] at hl
    omega
  rw [hasV_un]
  have e1 : ¬ (T.t = 8 ∨ T.t = 15) := by omega
  have e2 : ¬ T.t = 14 := by omega
  have e3 : ¬ T.t = 13 := by omega
  have e6 : ¬ T.t = 6 := by omega
  have eM : (match argTys T x with
    | none => false
    | some ts => hasVs x.args ts) = (!(decide (T.t = 9) && decide (1 < x.args.length)) && !decide (24 < x.args.length) && x.args.all (fun y => hasV y (tyAt T.args 0))) := by
    unfold argTys
    simp only
    rw [if_neg (by omega)]
    rcases h9 with h9 | h9
    · by_cases h0 : x.args.length = 0
      · rw [if_pos ⟨h9, h0⟩]
        have : x.args = [] := List.eq_nil_of_length_eq_zero h0
        rw [this]; simp [hasVs]
      · rw [if_neg (by omega), if_neg (by omega), if_neg (by omega), if_neg (by omega), if_neg (by omega), h1]
        by_cases h2 : x.args.length = 1
        · rw [if_pos h2]
          obtain ⟨y, hy⟩ := List.length_eq_one_iff.1 h2
          obtain ⟨u, hu⟩ := List.length_eq_one_iff.1 h1
          rw [hy, hu]
          simp [hasVs, tyAt]
        · rw [if_neg h2]
          have h3 : 1 < x.args.length := by omega
          simp [h9, h3]
    · rw [if_neg (by omega), if_pos h9]
      by_cases h2 : x.args.length ≤ 24
      · rw [if_pos h2]
        simp only
        rw [hasVs_rep]
        simp [h9, show ¬ 24 < x.args.length from by omega]
      · rw [if_neg h2]
        simp [show 24 < x.args.length from by omega]
  rw [eM]
  unfold fitsF fitsTF bareB
  rw [if_neg (by omega), if_neg (by omega), hk.symm, fitsN0 (by omega)]
  simp only [e1, e2, e3, e6]
  simp [Bool.and_assoc]

theorem two_of {α : Type} {l : List α} (h : l.length = 2) : ∃ a b, l = [a, b] := by
  match l, h with
  | [a, b], _ => exact ⟨a, b, rfl⟩

theorem has_pair {T : Ty} {x : Va} {d : Nat} (hf : formedB d T = true) (h11 : T.t = 11) (hk : T.t = x.k) (hb : bareB false false false 2 0 false x = true) : ∃ t1 t2 y z, T.args = [t1, t2] ∧ x.args = [y, z] ∧ hasV x T = (hasV y t1 && hasV z t2) := by
  obtain ⟨hl, _⟩ := formed_args2 hf
  have h2 : T.args.length = 2 := by
    unfold partsF at hl
    rw [if_neg (by omega), if_pos (by omega)] at hl
    omega
  unfold bareB at hb
  simp only [Bool.and_eq_true, decide_eq_true_eq, Bool.false_or] at hb
  obtain ⟨⟨⟨⟨⟨hn, ha⟩, hs⟩, hal⟩, ht⟩, hc⟩ := hb
  obtain ⟨t1, t2, e1⟩ := two_of h2
  obtain ⟨y, z, e2⟩ := two_of hal
  refine ⟨t1, t2, y, z, e1, e2, ?_⟩
  rw [hasV_un]
  have e : argTys T x = some [t1, t2] := by
    unfold argTys; simp only
    rw [if_neg (by omega), if_neg (by omega), if_neg (by omega), if_neg (by omega), if_neg (by omega), if_neg (by omega), e1, e2]; rfl
  rw [e, e2]
  simp only [fitsF, fitsTF, h11, hk.symm, fitsN0 (show (11 : Int) = 9 ∨ (11 : Int) = 10 ∨ (11 : Int) = 11 ∨ (11 : Int) = 13 ∨ (11 : Int) = 14 from by omega), hs, hc, hn, ha, ht, hasVs]
  simp

theorem has_pair_no {T : Ty} {x : Va} {d : Nat} (hf : formedB d T = true) (h11 : T.t = 11) (hb : bareB false false false 2 0 false x = false) : hasV x T = false := by
  obtain ⟨hl, _⟩ := formed_args2 hf
  have h2 : T.args.length = 2 := by
    unfold partsF at hl
    rw [if_neg (by omega), if_pos (by omega)] at hl
    omega
  cases h : hasV x T with
  | false => rfl
  | true =>
    obtain ⟨hfi, ts, hts, _⟩ := hasV_parts h
    unfold fitsF fitsTF at hfi
    rw [if_neg (by omega), if_neg (by omega), fitsN0 (by omega)] at hfi
    simp only [Bool.and_eq_true, decide_eq_true_eq, Bool.or_eq_true] at hfi
    obtain ⟨⟨⟨⟨⟨hk, hN⟩, ha⟩, hs⟩, hty⟩, hco⟩ := hfi
    unfold argTys at hts
    simp only at hts
    rw [if_neg (by omega), if_neg (by omega), if_neg (by omega), if_neg (by omega), if_neg (by omega), if_neg (by omega)] at hts
    have h3 : x.args.length = 2 := by
      split at hts
      · omega
      · cases hts
    have h4 : x.s.size = 0 := by
      rcases hs with h | h
      · exact h
      · omega
    have h5 : x.code.length = 0 := by
      rcases hco with h | h
      · exact h
      · omega
    have h6 : x.a = 0 := by
      rcases ha with h | h
      · exact h
      · omega
    unfold bareB at hb
    simp [h3, h4, h5, h6, hN, hty] at hb

theorem has_or {T : Ty} {x : Va} {d : Nat} (hf : formedB d T = true) (h12 : T.t = 12) (hk : T.t = x.k) (hb : bareB true false false 1 0 false x = true) : T.args.length = 2 ∧ ∃ y, x.args = [y] ∧ hasV x T = (decide (x.n = 0 ∨ x.n = 1) && hasV y (tyAt T.args x.n.toNat)) := by
  obtain ⟨hl, _⟩ := formed_args2 hf
  have h2 : T.args.length = 2 := by
    unfold partsF at hl
    rw [if_neg (by omega), if_pos (by omega)] at hl
    omega
  unfold bareB at hb
  simp only [Bool.and_eq_true, decide_eq_true_eq, Bool.false_or, Bool.true_or, true_and] at hb
  obtain ⟨⟨⟨⟨ha, hs⟩, hal⟩, ht⟩, hc⟩ := hb
  obtain ⟨y, e2⟩ := List.length_eq_one_iff.1 hal
  refine ⟨h2, y, e2, ?_⟩
  rw [hasV_un]
  have e : argTys T x = some [tyAt T.args x.n.toNat] := by
    unfold argTys; simp only
    rw [if_neg (by omega), if_neg (by omega), if_neg (by omega), if_neg (by omega), if_pos h12, if_pos hal]
  rw [e, e2]
  simp only [fitsF, fitsTF, h12, hk.symm, fitsN12, hs, hc, ha, ht, hasVs]
  simp

theorem has_or_no {T : Ty} {x : Va} {d : Nat} (hf : formedB d T = true) (h12 : T.t = 12) (hb : bareB true false false 1 0 false x = false) : hasV x T = false := by
  cases h : hasV x T with
  | false => rfl
  | true =>
    obtain ⟨hfi, ts, hts, _⟩ := hasV_parts h
    unfold fitsF fitsTF at hfi
    rw [if_neg (by omega), if_neg (by omega)] at hfi
    simp only [Bool.and_eq_true, decide_eq_true_eq, Bool.or_eq_true] at hfi
    obtain ⟨⟨⟨⟨⟨hk, hN⟩, ha⟩, hs⟩, hty⟩, hco⟩ := hfi
    unfold argTys at hts
    simp only at hts
    rw [if_neg (by omega), if_neg (by omega), if_neg (by omega), if_neg (by omega), if_pos h12] at hts
    have h3 : x.args.length = 1 := by
      split at hts
      · assumption
      · cases hts
    have h4 : x.s.size = 0 := by
      rcases hs with h | h
      · exact h
      · omega
    have h5 : x.code.length = 0 := by
      rcases hco with h | h
      · exact h
      · omega
    have h6 : x.a = 0 := by
      rcases ha with h | h
      · exact h
      · omega
    unfold bareB at hb
    simp [h3, h4, h5, h6, hty] at hb

theorem has_map {T : Ty} {x : Va} (h13 : T.t = 13) (hk : T.t = x.k) : hasV x T = (bareB false false false x.args.length 0 false x && !decide (24 < x.args.length) && x.args.all (fun y => hasV y (.nd 11 T.args)) && risesF x.args) := by
  rw [hasV_un]
  have e1 : ¬ (T.t = 8 ∨ T.t = 15) := by omega
  have e2 : ¬ T.t = 14 := by omega
  have e6 : ¬ T.t = 6 := by omega
  have eM : (match argTys T x with
    | none => false
    | some ts => hasVs x.args ts) = (!decide (24 < x.args.length) && x.args.all (fun y => hasV y (.nd 11 T.args))) := by
    unfold argTys
    simp only
    rw [if_neg (by omega), if_neg (by omega), if_neg (by omega), if_pos h13]
    by_cases h2 : x.args.length ≤ 24
    · rw [if_pos h2]
      simp only
      rw [hasVs_rep]
      simp [show ¬ 24 < x.args.length from by omega]
    · rw [if_neg h2]
      simp [show 24 < x.args.length from by omega]
  rw [eM]
  unfold fitsF fitsTF bareB
  rw [if_neg (by omega), if_neg (by omega), hk.symm, fitsN0 (by omega)]
  simp only [h13]
  simp [Bool.and_assoc]

theorem has_lam {T : Ty} {x : Va} {d : Nat} (hf : formedB d T = true) (h14 : T.t = 14) (hk : T.t = x.k) : hasV x T = (bareB false false false 0 2 true x && sameTs x.types T.args) := by
  obtain ⟨hl, _⟩ := formed_args2 hf
  have h2 : T.args.length = 2 := by
    unfold partsF at hl
    rw [if_neg (by omega), if_pos (by omega)] at hl
    omega
  rw [hasV_un]
  have eM : (match argTys T x with
    | none => false
    | some ts => hasVs x.args ts) = decide (x.args.length = 0) := by
    unfold argTys
    simp only
    rw [if_neg (by omega), if_neg (by omega), if_neg (by omega), if_neg (by omega), if_neg (by omega), if_pos h14]
    by_cases h : x.args.length = 0
    · rw [if_pos h]; simp [hasVs_nil]
    · rw [if_neg h]; simp [h]
  rw [eM]
  unfold fitsF fitsTF bareB
  rw [if_neg (by omega), if_pos h14, hk.symm, fitsN0 (by omega)]
  have e1 : ¬ (T.t = 8 ∨ T.t = 15) := by omega
  have e6 : ¬ T.t = 6 := by omega
  have e3 : ¬ T.t = 13 := by omega
  have eS : sameTs x.types T.args = true → x.types.length = 2 := fun h => by rw [sameTs_len h, h2]
  rw [Bool.eq_iff_iff]
  simp only [h14]
  simp
  constructor
  · rintro ⟨⟨⟨⟨a, b⟩, c⟩, d⟩, e⟩; exact ⟨⟨⟨⟨⟨a, b⟩, c⟩, e⟩, eS d⟩, d⟩
  · rintro ⟨⟨⟨⟨⟨a, b⟩, c⟩, e⟩, _⟩, d⟩; exact ⟨⟨⟨⟨a, b⟩, c⟩, d⟩, e⟩

theorem has_tick {T : Ty} {x : Va} {d : Nat} (hf : formedB d T = true) (h15 : T.t = 15) (hk : T.t = x.k) (hb : bareB true true false 1 0 false x = true) : ∃ u y, T.args = [u] ∧ x.args = [y] ∧ hasV x T = (amountB x.n && decide (0 < x.n) && addrB x.a && hasV y u) := by
  obtain ⟨hl, _⟩ := formed_args2 hf
  have h1 : T.args.length = 1 := by
    unfold partsF at hl
    rw [if_pos (by omega)] at hl
    omega
  unfold bareB at hb
  simp only [Bool.and_eq_true, decide_eq_true_eq, Bool.false_or, Bool.true_or, true_and] at hb
  obtain ⟨⟨⟨hs, hal⟩, ht⟩, hc⟩ := hb
  obtain ⟨y, e2⟩ := List.length_eq_one_iff.1 hal
  obtain ⟨u, e1⟩ := List.length_eq_one_iff.1 h1
  refine ⟨u, y, e1, e2, ?_⟩
  rw [hasV_un]
  have e : argTys T x = some [u] := by
    unfold argTys; simp only
    rw [if_neg (by omega), if_neg (by omega), if_neg (by omega), if_neg (by omega), if_neg (by omega), if_neg (by omega), e1, e2]; rfl
  have eN : (amountB x.n && decide (x.n ≠ 0)) = (amountB x.n && decide (0 < x.n)) := by
    rw [Bool.eq_iff_iff]; simp [amountB]; omega
  rw [e, e2]
  simp only [fitsF, fitsTF, h15, hk.symm, fitsN15, eN, hs, hc, ht, hasVs]
  simp only [decide_true, or_true, Bool.true_and, Bool.true_or, addr_zero, Bool.and_true]
  simp [Bool.and_assoc]

theorem has_tick_no {T : Ty} {x : Va} {d : Nat} (hf : formedB d T = true) (h15 : T.t = 15) (hb : bareB true true false 1 0 false x = false) : hasV x T = false := by
  obtain ⟨hl, _⟩ := formed_args2 hf
  have h1 : T.args.length = 1 := by
    unfold partsF at hl
    rw [if_pos (by omega)] at hl
    omega
  cases h : hasV x T with
  | false => rfl
  | true =>
    obtain ⟨hfi, ts, hts, _⟩ := hasV_parts h
    unfold fitsF fitsTF at hfi
    rw [if_neg (by omega), if_neg (by omega)] at hfi
    simp only [Bool.and_eq_true, decide_eq_true_eq, Bool.or_eq_true] at hfi
    obtain ⟨⟨⟨⟨⟨hk, hN⟩, ha⟩, hs⟩, hty⟩, hco⟩ := hfi
    unfold argTys at hts
    simp only at hts
    rw [if_neg (by omega), if_neg (by omega), if_neg (by omega), if_neg (by omega), if_neg (by omega), if_neg (by omega)] at hts
    have h3 : x.args.length = 1 := by
      split at hts
      · omega
      · cases hts
    have h4 : x.s.size = 0 := by
      rcases hs with h | h
      · exact h
      · omega
    have h5 : x.code.length = 0 := by
      rcases hco with h | h
      · exact h
      · omega
    unfold bareB at hb
    simp [h3, h4, h5, hty] at hb

/-- what a type is made of keeps what it has to -/
theorem keyed_args {T : Ty} (h : keyedF T = true) : keyHere T.t T.args = true ∧ ∀ y ∈ T.args, keyedF y = true := by
  obtain ⟨t, args⟩ := T
  simp only [keyedF, Bool.and_eq_true] at h
  refine ⟨h.1, fun y hy => ?_⟩
  have := h.2
  rw [keyedFs_all, List.all_eq_true] at this
  exact this y hy

theorem risesF_take_succ {l : List Va} {j : Nat} (h : j < l.length) : risesF (l.take (j + 1)) = (risesF (l.take j) && (decide (j = 0) || decide (ordV (keyF (l[j - 1]'(by omega))) (keyF l[j]) < 0))) := by
  rw [Bool.eq_iff_iff]
  simp only [Bool.and_eq_true, risesF_iff, Bool.or_eq_true, decide_eq_true_eq, List.length_take, List.getElem_take]
  constructor
  · intro hh
    refine ⟨fun i hi => hh i (by omega), ?_⟩
    by_cases h0 : j = 0
    · exact .inl h0
    · right
      have := hh (j - 1) (by omega)
      have e : j - 1 + 1 = j := by omega
      simpa [e] using this
  · rintro ⟨h1, h2⟩ i hi
    by_cases hi2 : i + 1 < j
    · exact h1 i (by omega)
    · have e : j = i + 1 := by omega
      subst e
      rcases h2 with h2 | h2
      · omega
      · simpa using h2

end Go.Proofs.Ytmmgihaoahhkjaa
