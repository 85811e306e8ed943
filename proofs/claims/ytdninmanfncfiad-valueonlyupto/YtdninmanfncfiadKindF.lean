/- What package kind says of types, as plain functions. -/
import Derived.Test.YtdninmanfncfiadTyMem
namespace Go.Proofs.Ytdninmanfncfiad

def isTypeB (t : Int) : Bool := decide (1 ≤ t ∧ t ≤ 15)
def partsF (t : Int) : Int := if t = 9 ∨ t = 10 ∨ t = 15 then 1 else if t = 11 ∨ t = 12 ∨ t = 13 ∨ t = 14 then 2 else 0

mutual
/-- of as many as they should be, and not too deep -/
def formedB (d : Nat) : Ty → Bool
  | .nd t args => decide (d ≤ 24) && (isTypeB t && decide ((args.length : Int) = partsF t)) && formedBs (d + 1) args
def formedBs (d : Nat) : List Ty → Bool
  | [] => true
  | t :: ts => formedB d t && formedBs d ts
end

mutual
/-- f says yes to all that is in a type -/
def allF (inn f : Int → Bool) : Ty → Bool
  | .nd t args => f t && (!inn t || allFs inn f args)
def allFs (inn f : Int → Bool) : List Ty → Bool
  | [] => true
  | t :: ts => allF inn f t && allFs inn f ts
end

def compB (t : Int) : Bool := decide (1 ≤ t ∧ t ≤ 15 ∧ t ≠ 8 ∧ t ≠ 10 ∧ t ≠ 13 ∧ t ≠ 14 ∧ t ≠ 15)
def packB (t : Int) : Bool := decide (t ≠ 8 ∧ t ≠ 14 ∧ t ≠ 15)
def copyB (t : Int) : Bool := decide (t ≠ 15 ∧ t ≠ 8)
def storeB (t : Int) : Bool := decide (t ≠ 8)
def innAll (_ : Int) : Bool := true
def innHeld (t : Int) : Bool := decide (t ≠ 14)

def compT (t : Ty) : Bool := allF innAll compB t
def packT (t : Ty) : Bool := allF innAll packB t
def copyT (t : Ty) : Bool := allF innHeld copyB t
def storeT (t : Ty) : Bool := allF innHeld storeB t

def headComp : List Ty → Bool
  | [] => true
  | t :: _ => compT t

def keyHere (t : Int) (args : List Ty) : Bool := !decide (t = 13 ∨ t = 15) || headComp args

mutual
def keyedF : Ty → Bool
  | .nd t args => keyHere t args && keyedFs args
def keyedFs : List Ty → Bool
  | [] => true
  | t :: ts => keyedF t && keyedFs ts
end

def goodTy (t : Ty) : Bool := formedB 1 t && decide (t.size ≤ 300) && keyedF t

theorem formedBs_all (d : Nat) (l : List Ty) : formedBs d l = l.all (formedB d) := by
  induction l with
  | nil => rfl
  | cons t ts ih => simp [formedBs, ih]
theorem allFs_all (inn f : Int → Bool) (l : List Ty) : allFs inn f l = l.all (allF inn f) := by
  induction l with
  | nil => rfl
  | cons t ts ih => simp [allFs, ih]
theorem keyedFs_all (l : List Ty) : keyedFs l = l.all keyedF := by
  induction l with
  | nil => rfl
  | cons t ts ih => simp [keyedFs, ih]

mutual
theorem allF_mono {inn inn' f g : Int → Bool} (hf : ∀ x, f x = true → g x = true) (hi : ∀ x, inn' x = true → inn x = true) : ∀ t, allF inn f t = true → allF inn' g t = true
  | .nd t args => by
    intro h
    simp only [allF, Bool.and_eq_true, Bool.or_eq_true, Bool.not_eq_true'] at h ⊢
    refine ⟨hf _ h.1, ?_⟩
    rcases h.2 with h2 | h2
    · left
      cases h3 : inn' t with
      | false => rfl
      | true => rw [hi _ h3] at h2; cases h2
    · exact .inr (allFs_mono hf hi args h2)
theorem allFs_mono {inn inn' f g : Int → Bool} (hf : ∀ x, f x = true → g x = true) (hi : ∀ x, inn' x = true → inn x = true) : ∀ l, allFs inn f l = true → allFs inn' g l = true
  | [] => fun _ => rfl
  | t :: ts => by
    intro h
    simp only [allFs, Bool.and_eq_true] at h ⊢
    exact ⟨allF_mono hf hi t h.1, allFs_mono hf hi ts h.2⟩
end

theorem comp_pack (t : Ty) (h : compT t = true) : packT t = true := allF_mono (fun x hx => by simp [compB, packB] at hx ⊢; omega) (fun _ h => h) t h
theorem pack_copy (t : Ty) (h : packT t = true) : copyT t = true := allF_mono (fun x hx => by simp [copyB, packB] at hx ⊢; omega) (fun _ _ => rfl) t h
theorem pack_store (t : Ty) (h : packT t = true) : storeT t = true := allF_mono (fun x hx => by simp [storeB, packB] at hx ⊢; omega) (fun _ _ => rfl) t h

def rowOf : List Ty → List (List Ty)
  | [] => []
  | a :: l => [a :: l]

/-- the rows that looking at a type puts behind what is left -/
def pushes (inn : Int → Bool) : Ty → List (List Ty)
  | .nd t args => if inn t = true then rowOf args else []

theorem allF_pushes (inn f : Int → Bool) (x : Ty) : allF inn f x = (f x.t && (pushes inn x).all (allFs inn f)) := by
  obtain ⟨t, args⟩ := x
  simp only [allF, pushes, Ty.t]
  by_cases h : inn t = true
  · rw [if_pos h, h]
    cases args <;> simp [rowOf, allFs]
  · rw [if_neg h]
    simp [h]

theorem allFs_pushes (inn f : Int → Bool) : ∀ (l : List Ty), (∀ x ∈ l, f x.t = true) → allFs inn f l = (l.flatMap (pushes inn)).all (allFs inn f)
  | [], _ => rfl
  | x :: l, h => by
    rw [allFs, allF_pushes, allFs_pushes inn f l (fun y hy => h y (List.mem_cons_of_mem _ hy)), h x List.mem_cons_self, List.flatMap_cons, List.all_append, Bool.true_and]

theorem allFs_no (inn f : Int → Bool) (l : List Ty) (i : Nat) (h : i < l.length) (hf : f (l[i]).t = false) : allFs inn f l = false := by
  rw [allFs_all]
  cases hq : l.all (allF inn f) with
  | false => rfl
  | true =>
    have h1 := List.all_eq_true.1 hq l[i] (List.getElem_mem h)
    rw [allF_pushes, hf] at h1
    cases h1

/-- how much is left to go through -/
def leftOf (rows : List (List Ty)) : Nat := (rows.map fun r => tysizes r + 1).sum

theorem leftOf_append (a b : List (List Ty)) : leftOf (a ++ b) = leftOf a + leftOf b := by simp [leftOf]
theorem leftOf_single (r : List Ty) : leftOf [r] = tysizes r + 1 := by simp [leftOf]

theorem pushes_left (inn : Int → Bool) (x : Ty) : leftOf (pushes inn x) ≤ x.size := by
  obtain ⟨t, args⟩ := x
  simp only [pushes, Ty.size]
  by_cases h : inn t = true
  · rw [if_pos h]
    cases args <;> simp [rowOf, leftOf]
  · rw [if_neg h]; simp [leftOf]

theorem flatPushes_left (inn : Int → Bool) : ∀ (l : List Ty), leftOf (l.flatMap (pushes inn)) ≤ tysizes l
  | [] => by simp [leftOf, tysizes]
  | x :: l => by
    have h1 := pushes_left inn x
    have h2 := flatPushes_left inn l
    rw [List.flatMap_cons, leftOf_append, tysizes]; omega

theorem len_left (rows : List (List Ty)) : rows.length ≤ leftOf rows := by
  induction rows with
  | nil => simp
  | cons r l ih => simp only [leftOf, List.map_cons, List.sum_cons, List.length_cons] at ih ⊢; omega

theorem flatMap_take_succ {α β : Type} (f : α → List β) (l : List α) (i : Nat) (h : i < l.length) : (l.take (i + 1)).flatMap f = (l.take i).flatMap f ++ f l[i] := by
  rw [List.take_succ_eq_append_getElem h, List.flatMap_append]; simp

end Go.Proofs.Ytdninmanfncfiad
