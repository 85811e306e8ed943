/- What package kind says of types, as plain functions. -/
import Derived.Test.YtmmgihaoahhkjaaBasis
namespace Go.Proofs.Ytmmgihaoahhkjaa

def isTypeB (t : Int) : Bool := decide (1 ≤ t ∧ t ≤ 15)
def partsF (t : Int) : Int := if t = 9 ∨ t = 10 ∨ t = 15 then 1 else if t = 11 ∨ t = 12 ∨ t = 13 ∨ t = 14 then 2 else 0

mutual
/-- of as many as they should be, and not too deep -/
def formedB (d : Nat) : Ty → Bool
  | .nd t args => decide (d ≤ 24) && (isTypeB t && decide ((args.length : Int) = partsF t)) && formedBs (d + 1) args
def formedBs (d : Nat) : List Ty → Bool
  | [] => true
  | t :: ts => formedB d t && formedBs d ts
end

mutual
/-- f says yes to all that is in a type -/
def allF (inn f : Int → Bool) : Ty → Bool
  | .nd t args => f t && (!inn t || allFs inn f args)
def allFs (inn f : Int → Bool) : List Ty → Bool
  | [] => true
  | t :: ts => allF inn f t && allFs inn f ts
end

def compB (t : Int) : Bool := decide (1 ≤ t ∧ t ≤ 15 ∧ t ≠ 8 ∧ t ≠ 10 ∧ t ≠ 13 ∧ t ≠ 14 ∧ t ≠ 15)
def packB (t : Int) : Bool := decide (t ≠ 8 ∧ t ≠ 14 ∧ t ≠ 15)
def copyB (t : Int) : Bool := decide (t ≠ 15 ∧ t ≠ 8)
def storeB (t : Int) : Bool := decide (t ≠ 8)
def innAll (_ : Int) : Bool := true
def innHeld (t : Int) : Bool := decide (t ≠ 14)

def compT (t : Ty) : Bool := allF innAll compB t
def packT (t : Ty) : Bool := allF innAll packB t
def copyT (t : Ty) : Bool := allF innHeld copyB t
def storeT (t : Ty) : Bool := allF innHeld storeB t

def headComp : List Ty → Bool
  | [] => true
  | t :: _ => compT t

def keyHere (t : Int) (args : List Ty) : Bool := !decide (t = 13 ∨ t = 15) || headComp args

mutual
def keyedF : Ty → Bool
  | .nd t args => keyHere t args && keyedFs args
def keyedFs : List Ty → Bool
  | [] => true
  | t :: ts => keyedF t && keyedFs ts
end

def goodTy (t : Ty) : Bool := formedB 1 t && decide (t.size ≤ 300) && keyedF t

theorem formedBs_all (d : Nat) (l : List Ty) : formedBs d l = l.all (formedB d) := by
  induction l with
  | nil => rfl
  | cons t ts ih => simp [formedBs, ih]
theorem allFs_all (inn f : Int → Bool) (l : List Ty) : allFs inn f l = l.all (allF inn f) := by
  induction l with
  | nil => rfl
  | cons t ts ih => simp [allFs, ih]
theorem keyedFs_all (l : List Ty) : keyedFs l = l.all keyedF := by
  induction l with
  | nil => rfl
  | cons t ts ih => simp [keyedFs, ih]

mutual
theorem allF_mono {inn inn' f g : Int → Bool} (hf : ∀ x, f x = true → g x = true) (hi : ∀ x, inn' x = true → inn x = true) : ∀ t, allF inn f t = true → allF inn' g t = true
  | .nd t args => by
    intro h
    simp only [allF, Bool.and_eq_true, Bool.or_eq_true, Bool.not_eq_true'] at h ⊢
    refine ⟨hf _ h.1, ?_⟩
    rcases h.2 with h2 | h2
    · left
      cases h3 : inn' t with
      | false => rfl
      | true => rw [hi _ h3] at h2; cases h2
    · exact .inr (allFs_mono hf hi args h2)
theorem allFs_mono {inn inn' f g : Int → Bool} (hf : ∀ x, f x = true → g x = true) (hi : ∀ x, inn' x = true → inn x = true) : ∀ l, allFs inn f l = true → allFs inn' g l = true
  | [] => fun _ => rfl
  | t :: ts => by
    intro h
    simp only [allFs, Bool.and_eq_true] at h ⊢
    exact ⟨allF_mono hf hi t h.1, allFs_mono hf hi ts h.2⟩
end

theorem comp_pack (t : Ty) (h : compT t = true) : packT t = true := allF_mono (fun x hx => by simp [compB, packB] at hx ⊢; omega) (fun _ h => h) t h
theorem pack_copy (t : Ty) (h : packT t = true) : copyT t = true := allF_mono (fun x hx => by simp [copyB, packB] at hx ⊢; omega) (fun _ _ => rfl) t h
theorem pack_store (t : Ty) (h : packT t = true) : storeT t = true := allF_mono (fun x hx => by simp [storeB, packB] at hx ⊢; omega) (fun _ _ => rfl) t h

def rowOf : List Ty → List (List Ty)
  | [] => []
  | a :: l => [a :: l]

/-- the rows that looking at a type puts behind what is left -/
def pushes (inn : Int → Bool) : Ty → List (List Ty)
  | .nd t args => if inn t = true then rowOf args else []

theorem allF_pushes (inn f : Int → Bool) (x : Ty) : allF inn f x = (f x.t && (pushes inn x).all (allFs inn f)) := by
  obtain ⟨t, args⟩ := x
  simp only [allF, pushes, Ty.t]
  by_cases h : inn t = true
  · rw [if_pos h, h]
    cases args <;> simp [rowOf, allFs]
  · rw [if_neg h]
    simp [h]

theorem allFs_pushes (inn f : Int → Bool) : ∀ (l : List Ty), (∀ x ∈ l, f x.t = true) → allFs inn f l = (l.flatMap (pushes inn)).all (allFs inn f)
  | [], _ => rfl
  | x :: l, h => by
    rw [allFs, allF_pushes, allFs_pushes inn f l (fun y hy => h y (List.mem_cons_of_mem _ hy)), h x List.mem_cons_self, List.flatMap_cons, List.all_append, Bool.true_and]

theorem allFs_no (inn f : Int → Bool) (l : List Ty) (i : Nat) (h : i < l.length) (hf : f (l[i]).t = false) : allFs inn f l = false := by
  rw [allFs_all]
  cases hq : l.all (allF inn f) with
  | false => rfl
  | true =>
    have h1 := List.all_eq_true.1 hq l[i] (List.getElem_mem h)
    rw [allF_pushes, hf] at h1
    cases h1

/-- how much is left to go through -/
def leftOf (rows : List (List Ty)) : Nat := (rows.map fun r => tysizes r + 1).sum

theorem leftOf_append (a b : List (List Ty)) : leftOf (a ++ b) = leftOf a + leftOf b := by simp [leftOf]
theorem leftOf_single (r : List Ty) : leftOf [r] = tysizes r + 1 := by simp [leftOf]

theorem pushes_left (inn : Int → Bool) (x : Ty) : leftOf (pushes inn x) ≤ x.size := by
  obtain ⟨t, args⟩ := x
  simp only [pushes, Ty.size]
  by_cases h : inn t = true
  · rw [if_pos h]
    cases args <;> simp [rowOf, leftOf]
  · rw [if_neg h]; simp [leftOf]

theorem flatPushes_left (inn : Int → Bool) : ∀ (l : List Ty), leftOf (l.flatMap (pushes inn)) ≤ tysizes l
  | [] => by simp [leftOf, tysizes]
  | x :: l => by
    have h1 := pushes_left inn x
    have h2 := flatPushes_left inn l
    rw [List.flatMap_cons, leftOf_append, tysizes]; omega

theorem len_left (rows : List (List Ty)) : rows.length ≤ leftOf rows := by
  induction rows with
  | nil => simp
  | cons r l ih => simp only [leftOf, List.map_cons, List.sum_cons, List.length_cons] at ih ⊢; omega

theorem flatMap_take_succ {α β : Type} (f : α → List β) (l : List α) (i : Nat) (h : i < l.length) : (l.take (i + 1)).flatMap f = (l.take i).flatMap f ++ f l[i] := by
  rw [List.take_succ_eq_append_getElem h, List.flatMap_append]; simp

end Go.Proofs.Ytmmgihaoahhkjaa

/- The small functions of package kind, each by a contract. -/
namespace Go.Proofs.Ytmmgihaoahhkjaa
open Go.ChangeShapes Go.WideShapes Go.ChangeAt Go.RowKit

theorem isType_any (t : Int) (w : World) :
    Calls Try.prog 55 #[.int .i64 t] w fun e w' => e = .returned (.bool (isTypeB t)) ∧ w' = w := by
  go_enter Try.func55, Try.ntmps55
  go_wp2
  all_goals
    go_ret
    exact Lf.retb (by simp [isTypeB]; try omega) rfl

theorem parts_any (t : Int) (w : World) :
    Calls Try.prog 98 #[.int .i64 t] w fun e w' => e = .returned (.int .i64 (partsF t)) ∧ w' = w := by
  go_enter Try.func98, Try.ntmps98
  go_wp2
  all_goals
    go_ret
    refine Lf.reti ?_ rfl
    simp_all [partsF]
    try omega

/-- what answers which types are in one -/
def Within (kw : Nat) (inn : Int → Bool) : Prop := ∀ (t : Int) (a : Option Addr) (l c : Nat) (w : World), Calls Try.prog kw #[tyV t a l c] w fun e w' => e = .returned (if inn t = true then .slice a l c else .slice none 0 0) ∧ w.grownBy w' none

/-- what says yes to a type's number, or no -/
def Fine (kf : Nat) (f : Int → Bool) : Prop := ∀ (x : Int) (w : World), Calls Try.prog kf #[.int .i64 x] w fun e w' => e = .returned (.bool (f x)) ∧ w' = w

theorem made_any : Within 52 innAll := by
  intro t a l c w
  unfold tyV
  go_enter Try.func52, Try.ntmps52
  go_wp2
  go_ret
  exact ⟨rfl, Lf.gb _⟩



theorem comp1_any : Fine 54 compB := by
  intro x w
  go_enter Try.func54, Try.ntmps54
  go_wp2_with (go_at_call 55; refine (isType_any _ _).mono ?_; rintro e w' ⟨rfl, rfl⟩)
  all_goals
    go_ret
    refine Lf.retb ?_ rfl
    rw [Bool.eq_iff_iff]
    simp_all [compB, isTypeB]
    try omega



theorem pack1_any : Fine 53 packB := by
  intro x w
  go_enter Try.func53, Try.ntmps53
  go_wp2
  all_goals
    go_ret
    refine Lf.retb ?_ rfl
    rw [Bool.eq_iff_iff]
    simp_all [packB]
    try omega



end Go.Proofs.Ytmmgihaoahhkjaa

/- kind.every by its contract, whatever function is handed to it. -/
namespace Go.Proofs.Ytmmgihaoahhkjaa
open Go.ChangeShapes Go.WideShapes Go.ChangeAt Go.RowKit
set_option linter.unusedVariables false

set_option maxHeartbeats 400000 in
theorem every_any (k : Nat) (cap : Array Value) (n : Nat) (a : Option Addr) (c : Nat) (V : Nat → Value) (b : Nat → Bool) (I : Nat → World → Prop) (J : World → Prop) (hn : n ≤ maxLen) (eg : ∀ args w, (callFunc k args).run Try.prog w = .ok (.enter k args) w)
    (hrow : ∀ i w, i < n → I i w → TyAt (fun _ => True) w a i (V i)) (hall : ∀ i w o, I i w → I i (w.alloc o))
    (hcall : ∀ i w, i < n → I i w → Calls Try.prog k (#[V i] ++ cap) w fun e w' => e = .returned (.bool (b i)) ∧ (b i = true → I (i + 1) w') ∧ (b i = false → J w')) (w : World) (h0 : I 0 w) :
    Calls Try.prog 94 #[.slice a n c, .func (.func k) #[] cap] w fun e w' => (e = .returned (.bool true) ∧ I n w' ∧ ∀ i, i < n → b i = true) ∨ (∃ i, i < n ∧ b i = false ∧ e = .returned (.bool false) ∧ J w') := by
  unfold maxLen at hn
  have HR := Lf.hide hrow
  have HA := Lf.hide hall
  have HC := Lf.hide hcall
  have H0 := Lf.hide h0
  clear hrow hall hcall h0
  go_enter Try.func94, Try.ntmps94
  go_wp2_with fail
  go_loopw [9] (fun i wr => ∃ j : Nat, j ≤ n ∧ i = .int .i64 j ∧ I j wr ∧ ∀ m, m < j → b m = true) (fun i _ => n - (intOf i).toNat)
  case atStart => exact ⟨0, Nat.zero_le _, rfl, H0.out, fun m hm => by omega⟩
  case round =>
    obtain ⟨j, hj, rfl, hI, hb⟩ := hrel
    have HB := Lf.hide hb
    clear hb
    by_cases hlt : j < n
    · obtain ⟨bb, o, t, a', l, c', rfl, _, hv, c0, c1⟩ := (HR.out j wr hlt hI).cells
      have hI' := HA.out j wr (.cells #[.int .i64 t, .slice a' l c'] 24) hI
      have hC := HC.out j _ hlt hI'
      rw [hv] at hC
      unfold tyV at hC
      have HK := Lf.hide hC
      clear hC hI' hI hv HR HA HC H0
      go_wp2_with fail
      refine HK.out.mono ?_; rintro e w' ⟨rfl, h1, h2⟩
      cases hbj : b j with
      | true =>
        have HI := Lf.hide (h1 hbj)
        have HBJ := Lf.hide hbj
        clear h1 h2 hbj
        go_wp2_with fail
        go_roundw
        case rel => exact ⟨j + 1, by omega, by go_num, HI.out, fun m hm => by
          by_cases e : m = j
          · subst e; exact HBJ.out
          · exact HB.out m (by omega)⟩
        case measure => simp [intOf]; omega
      | false =>
        have HJ := Lf.hide (h2 hbj)
        have HBJ := Lf.hide hbj
        clear h1 h2 hbj
        go_wp2_with fail
        go_ret
        exact .inr ⟨j, hlt, HBJ.out, rfl, HJ.out⟩
    · have hje : j = n := by omega
      have HI := Lf.hide hI
      have HJ := Lf.hide hje
      clear hI hje
      go_wp2_with fail
      go_ret
      have hI := HI.out
      have hb := HB.out
      rw [HJ.out] at hI hb
      exact .inl ⟨rfl, hI, hb⟩

theorem ent_keyed : ∀ args w, (callFunc 64 args).run Try.prog w = .ok (.enter 64 args) w := fun args w => by simp [go_sem]

end Go.Proofs.Ytmmgihaoahhkjaa

/- kind.formed by its contract: a type and all in it are of as many as they should be, and neither too deep nor too many. -/
namespace Go.Proofs.Ytmmgihaoahhkjaa
open Go.ChangeShapes Go.WideShapes Go.ChangeAt Go.RowKit
set_option linter.unusedVariables false

def formedAt (d m : Nat) (T : Ty) : Bool := formedB d T && decide (m + T.size ≤ 300)

def CountAt (w : World) (cb : Nat) (m : Nat) : Prop := w.heap[cb]? = some (.cells #[.int .i64 (m : Int)] 3 (0, 0))

def FormedPost (d m : Nat) (T : Ty) (cb : Nat) (w2 : World) (e : Ending) (w' : World) : Prop :=
  e = .returned (.bool (formedAt d m T)) ∧ w2.grownBy w' (some cb) ∧ (formedAt d m T = true → CountAt w' cb (m + T.size))

theorem formed1_of {t : Int} {a : Option Addr} {l c : Nat} {d : Nat} {w : World} {db pb cb : Nat} {r : Bool} {P : World → Prop} (hdb : w.heap[db]? = some (.cells #[.int .i64 (d : Int)] 3 (0, 0)))
    (hpb : w.heap[pb]? = some (.cells #[.pointer (some ⟨cb, 0, none⟩)] 86 (0, 0))) (hd : d ≤ 24)
    (h : Calls Try.prog 63 #[tyV t a l c, .int .i64 ((d + 1 : Nat) : Int), .pointer (some ⟨cb, 0, none⟩)] (w.alloc (.cells #[.int .i64 t, .slice a l c] 24)) fun e w' => e = .returned (.bool r) ∧ P w') :
    Calls Try.prog 99 #[tyV t a l c, .pointer (some ⟨db, 0, none⟩), .pointer (some ⟨pb, 0, none⟩)] w fun e w' => e = .returned (.bool r) ∧ P w' := by
  have c1 := cell_of_one hdb
  have c2 := cell_of_one hpb
  have l1 : db < w.heap.size := (Array.getElem?_eq_some_iff.1 hdb).1
  have l2 : pb < w.heap.size := (Array.getElem?_eq_some_iff.1 hpb).1
  rw [show (((d + 1 : Nat)) : Int) = (d : Int) + 1 from rfl] at h
  unfold tyV at h ⊢
  have H := Lf.hide h
  clear h hdb hpb
  go_enter Try.func99, Try.ntmps99
  go_wp2_with fail
  refine H.out.mono ?_; rintro e w' ⟨rfl, hp⟩
  go_wp2_with fail
  go_ret
  exact ⟨rfl, hp⟩

/-- the world behind formed's first two rows -/
def fw (w : World) (cb m : Nat) (t : Int) (a : Option Addr) (l c d : Nat) : World :=
  (((w.setCell ⟨cb, 0, none⟩ (.int .i64 ((m : Int) + 1))).alloc (.cells #[.int .i64 t, .slice a l c] 24)).alloc (.cells #[.int .i64 (d : Int)] 3)).alloc (.cells #[.pointer (some ⟨cb, 0, none⟩)] 86)

theorem fw_grown {w : World} {cb m : Nat} {t : Int} {a : Option Addr} {l c d : Nat} : w.grownBy (fw w cb m t a l c d) (some cb) :=
  grow_trans (grow_trans (grow_trans (grow_set (grow_refl _ _) _ _ _) (grow_any (Lf.gb _))) (grow_any (Lf.gb _))) (grow_any (Lf.gb _))

theorem fw_count {w : World} {cb m : Nat} {t : Int} {a : Option Addr} {l c d : Nat} (h : CountAt w cb m) : CountAt (fw w cb m t a l c d) cb (m + 1) :=
  heap_keep (heap_keep (heap_keep (one_setCell h)))

theorem fw_d {w : World} {cb m : Nat} {t : Int} {a : Option Addr} {l c d : Nat} : (fw w cb m t a l c d).heap[w.heap.size + 1]? = some (.cells #[.int .i64 (d : Int)] 3 (0, 0)) := by
  refine heap_keep ?_
  have := heap_alloc_new ((w.setCell ⟨cb, 0, none⟩ (.int .i64 ((m : Int) + 1))).alloc (.cells #[.int .i64 t, .slice a l c] 24)) (.cells #[.int .i64 (d : Int)] 3)
  simpa using this

theorem fw_p {w : World} {cb m : Nat} {t : Int} {a : Option Addr} {l c d : Nat} : (fw w cb m t a l c d).heap[w.heap.size + 1 + 1]? = some (.cells #[.pointer (some ⟨cb, 0, none⟩)] 86 (0, 0)) := by
  have := heap_alloc_new (((w.setCell ⟨cb, 0, none⟩ (.int .i64 ((m : Int) + 1))).alloc (.cells #[.int .i64 t, .slice a l c] 24)).alloc (.cells #[.int .i64 (d : Int)] 3)) (.cells #[.pointer (some ⟨cb, 0, none⟩)] 86)
  rw [World.size_alloc, World.size_alloc, set_size] at this
  exact this

set_option maxRecDepth 100000 in
set_option maxHeartbeats 1000000 in
theorem formed_no {cb : Nat} {T : Ty} {t : Int} {a : Option Addr} {l c : Nat} (d m : Nat) (w2 : World) (hcb : CountAt w2 cb m) (hm : m ≤ 300) (hl : l ≤ maxLen) (hd2 : d ≤ 25) (hT : formedAt d m T = false)
    (hw : 24 < d ∨ m = 300 ∨ isTypeB t = false ∨ (l : Int) ≠ partsF t) :
    Calls Try.prog 63 #[tyV t a l c, .int .i64 d, .pointer (some ⟨cb, 0, none⟩)] w2 (FormedPost d m T cb w2) := by
  unfold maxLen at hl
  have c1 := cell_of_one hcb
  have c2 := free_of_one hcb
  have l1 : cb < w2.heap.size := (Array.getElem?_eq_some_iff.1 hcb).1
  have l2 : cb < w2.heap.size + 1 := by omega
  have l3 : cb < w2.heap.size + 1 + 1 := by omega
  have HT := Lf.hide hT
  clear hcb hT
  unfold tyV
  by_cases hd : 24 < d
  · have hd' : (24 : Int) < (d : Int) := by omega
    clear hw
    go_enter Try.func63, Try.ntmps63
    go_wp2_with fail
    go_ret
    exact ⟨by rw [HT.out]; rfl, fw_grown (l := l) (c := c), fun h => by rw [HT.out] at h; cases h⟩
  have hd' : (d : Int) ≤ 24 := by omega
  by_cases hm3 : m = 300
  · have hm' : (300 : Int) < (m : Int) + 1 := by omega
    clear hw
    go_enter Try.func63, Try.ntmps63
    go_wp2_with fail
    go_ret
    exact ⟨by rw [HT.out]; rfl, fw_grown (l := l) (c := c), fun h => by rw [HT.out] at h; cases h⟩
  have hm' : (m : Int) + 1 ≤ 300 := by omega
  cases hit : isTypeB t with
  | false =>
    have h1 := isType_any t
    rw [hit] at h1
    have H1 := Lf.hide h1
    clear hw h1 hit
    go_enter Try.func63, Try.ntmps63
    go_wp2_with fail
    go_quiet (first | (go_at_call 55; exact Calls.quiet_of_same (H1.out _)) | (go_at_call 98; exact Calls.quiet_of_same (parts_any _ _)))
    go_wp2_with fail
    go_ret
    exact ⟨by rw [HT.out]; rfl, grow_drewN (fw_grown (l := l) (c := c)), fun h => by rw [HT.out] at h; cases h⟩
  | true =>
    have h1 := isType_any t
    rw [hit] at h1
    have H1 := Lf.hide h1
    have h2 : (l : Int) ≠ partsF t := by
      rcases hw with h | h | h | h
      · omega
      · omega
      · rw [h] at hit; cases hit
      · exact h
    have h2' : ((l : Int) == partsF t) = false := by simpa using h2
    clear hw h1 hit
    go_enter Try.func63, Try.ntmps63
    go_wp2_with fail
    go_quiet (first | (go_at_call 55; exact Calls.quiet_of_same (H1.out _)) | (go_at_call 98; exact Calls.quiet_of_same (parts_any _ _)))
    go_wp2_with fail
    go_ret
    exact ⟨by rw [HT.out]; rfl, grow_drewN (fw_grown (l := l) (c := c)), fun h => by rw [HT.out] at h; cases h⟩

end Go.Proofs.Ytmmgihaoahhkjaa

/- kind.formed by its contract, by induction. -/
namespace Go.Proofs.Ytmmgihaoahhkjaa
open Go.ChangeShapes Go.WideShapes Go.ChangeAt Go.RowKit
set_option linter.unusedVariables false

theorem ent_formed1 : ∀ args w, (callFunc 99 args).run Try.prog w = .ok (.enter 99 args) w := fun args w => by simp [go_sem]

theorem formedAt_nd (d m : Nat) (t : Int) (args : List Ty) (hd : d ≤ 24) (ht : isTypeB t = true) (hp : (args.length : Int) = partsF t) : formedAt d m (.nd t args) = (formedBs (d + 1) args && decide (m + 1 + tysizes args ≤ 300)) := by
  simp only [formedAt, formedB, Ty.size]
  simp [hd, ht, hp, show m + (tysizes args + 1) = m + 1 + tysizes args from by omega]

/-- what formed says of the i-th -/
def fb (d m : Nat) (args : List Ty) (i : Nat) : Bool := match args[i]? with
  | some x => formedAt d (m + tysizes (args.take i)) x
  | none => true

theorem fb_all {d m : Nat} {args : List Ty} (hm : m ≤ 300) (h : ∀ i, i < args.length → fb d m args i = true) : (formedBs d args && decide (m + tysizes args ≤ 300)) = true := by
  have h1 : formedBs d args = true := by
    rw [formedBs_all, List.all_eq_true]
    intro x hx
    obtain ⟨i, hi, rfl⟩ := List.getElem_of_mem hx
    have := h i hi
    simp [fb, List.getElem?_eq_getElem hi, formedAt] at this
    exact this.1
  have h2 : ∀ i, i ≤ args.length → m + tysizes (args.take i) ≤ 300 := by
    intro i
    induction i with
    | zero => intro _; simpa [tysizes] using hm
    | succ i ih =>
      intro hi
      have := h i (by omega)
      simp [fb, List.getElem?_eq_getElem (show i < args.length from by omega), formedAt] at this
      rw [tysizes_take_succ args i (by omega)]; omega
  have h3 := h2 args.length (Nat.le_refl _)
  rw [List.take_length] at h3
  simp [h1, h3]

theorem fb_no {d m : Nat} {args : List Ty} {i : Nat} (hi : i < args.length) (h : fb d m args i = false) : (formedBs d args && decide (m + tysizes args ≤ 300)) = false := by
  cases hq : (formedBs d args && decide (m + tysizes args ≤ 300)) with
  | false => rfl
  | true =>
    simp only [Bool.and_eq_true, decide_eq_true_eq, formedBs_all, List.all_eq_true] at hq
    have h1 := hq.1 args[i] (List.getElem_mem hi)
    have h2 := tysizes_take_succ args i hi
    have h3 := tysizes_take_le args (i + 1)
    simp [fb, List.getElem?_eq_getElem hi, formedAt, h1] at h
    omega

structure FInv (w2 w : World) (cb db pb d m : Nat) : Prop where
  grown : w2.grownBy w (some cb)
  dep : w.heap[db]? = some (.cells #[.int .i64 (d : Int)] 3 (0, 0))
  ptr : w.heap[pb]? = some (.cells #[.pointer (some ⟨cb, 0, none⟩)] 86 (0, 0))
  count : CountAt w cb m
  small : m ≤ 300

theorem FInv.alloc {w2 w : World} {cb db pb d m : Nat} (h : FInv w2 w cb db pb d m) (o : Obj) : FInv w2 (w.alloc o) cb db pb d m :=
  ⟨grow_trans h.grown (grow_any (Lf.gb _)), heap_keep h.dep, heap_keep h.ptr, heap_keep h.count, h.small⟩

theorem FInv.next {w2 w w' : World} {cb db pb d m m' : Nat} (h : FInv w2 w cb db pb d m) (hg : w.grownBy w' (some cb)) (hd : db ≠ cb) (hp : pb ≠ cb) (hc : CountAt w' cb m') (hm : m' ≤ 300) : FInv w2 w' cb db pb d m' :=
  ⟨grow_trans h.grown hg, (hg.block _ (Array.getElem?_eq_some_iff.1 h.dep).1 (by simpa using hd)).trans h.dep, (hg.block _ (Array.getElem?_eq_some_iff.1 h.ptr).1 (by simpa using hp)).trans h.ptr, hc, hm⟩

set_option maxRecDepth 100000 in
set_option maxHeartbeats 1000000 in
theorem formed_any {cb : Nat} {w : World} {T : Ty} {v : Value} (hL : LiesT (· ≠ cb) w T v) : ∀ (d m : Nat) (w2 : World), Same (· ≠ cb) w w2 → w.heap.size ≤ w2.heap.size → CountAt w2 cb m → m ≤ 300 → d ≤ 25 →
    Calls Try.prog 63 #[v, .int .i64 d, .pointer (some ⟨cb, 0, none⟩)] w2 (FormedPost d m T cb w2) := by
  induction hL with
  | @mk t args a c V hl hlc it hc hr ih =>
    intro d m w2 hsame hz hcb hm hd
    by_cases hw : 24 < d ∨ m = 300 ∨ isTypeB t = false ∨ (args.length : Int) ≠ partsF t
    · refine formed_no d m w2 hcb hm hl hd ?_ hw
      simp only [formedAt, formedB, Ty.size]
      rcases hw with h | h | h | h
      · simp [show ¬ d ≤ 24 from by omega]
      · simp [show ¬ m + (tysizes args + 1) ≤ 300 from by omega]
      · simp [h]
      · simp [h]
    have hd24 : d ≤ 24 := by omega
    have hm3 : m + 1 ≤ 300 := by omega
    have hty : isTypeB t = true := by
      cases h : isTypeB t with
      | true => rfl
      | false => exact absurd (.inr (.inr (.inl h))) hw
    have hpa : (args.length : Int) = partsF t := by
      by_cases h : (args.length : Int) = partsF t
      · exact h
      · exact absurd (.inr (.inr (.inr h))) hw
    have hlt : cb < w2.heap.size := (Array.getElem?_eq_some_iff.1 hcb).1
    have hres := formedAt_nd d m t args hd24 hty hpa
    have hI0 : ∀ q, FInv w2 ((fw w2 cb m t a args.length c d).drewN q) cb (w2.heap.size + 1) (w2.heap.size + 1 + 1) d (m + 1 + tysizes (args.take 0)) := fun q => ⟨grow_drewN fw_grown, fw_d, fw_p, fw_count hcb, by simpa [tysizes] using hm3⟩
    have hE : ∀ q, Calls Try.prog 94 #[.slice a args.length c, .func (.func 99) #[] #[.pointer (some ⟨w2.heap.size + 1, 0, none⟩), .pointer (some ⟨w2.heap.size + 1 + 1, 0, none⟩)]] ((fw w2 cb m t a args.length c d).drewN q) (FormedPost d m (.nd t args) cb w2) := by
      intro q
      refine (every_any 99 _ args.length a c V (fb (d + 1) (m + 1) args) (fun i wr => FInv w2 wr cb (w2.heap.size + 1) (w2.heap.size + 1 + 1) d (m + 1 + tysizes (args.take i))) (fun wr => w2.grownBy wr (some cb)) hl ent_formed1 ?_ ?_ ?_ _ (hI0 q)).mono ?_
      · intro i wr hi hI
        exact ((hc i hi).same (hsame.grown hz hI.grown (by simp))).okMono (fun _ _ _ => trivial)
      · intro i wr o hI
        exact hI.alloc o
      · intro i wr hi hI
        obtain ⟨_, _, t', a', l', c', _, _, hv, _, _⟩ := (hc i hi).cells
        have hih := ih i hi (d + 1) (m + 1 + tysizes (args.take i)) (wr.alloc (.cells #[.int .i64 t', .slice a' l' c'] 24)) (hsame.grown hz (grow_trans hI.grown (grow_any (Lf.gb _))) (by simp)) (by have := hI.grown.size; simp; omega) (heap_keep hI.count) hI.small (by omega)
        rw [hv] at hih ⊢
        refine formed1_of hI.dep hI.ptr hd24 (hih.mono ?_)
        rintro e w' ⟨rfl, hg, hcnt⟩
        have hgg : wr.grownBy w' (some cb) := grow_trans (grow_any (Lf.gb _)) hg
        have hfb : fb (d + 1) (m + 1) args i = formedAt (d + 1) (m + 1 + tysizes (args.take i)) args[i] := by simp [fb, List.getElem?_eq_getElem hi]
        rw [hfb]
        refine ⟨rfl, fun h => ?_, fun _ => grow_trans hI.grown hgg⟩
        have h2 := hcnt h
        have h3 := tysizes_take_succ args i hi
        refine hI.next hgg (by omega) (by omega) ?_ ?_
        · rw [h3, ← Nat.add_assoc]; exact h2
        · rw [h3]
          simp [formedAt] at h
          omega
      · rintro e w' (⟨rfl, hI, hb⟩ | ⟨i, hi, hb, rfl, hg⟩)
        · have h := fb_all hm3 hb
          refine ⟨by rw [hres, h], hI.grown, fun _ => ?_⟩
          have := hI.count
          rw [List.take_length] at this
          rw [Ty.size, show m + (tysizes args + 1) = m + 1 + tysizes args from by omega]
          exact this
        · have h := fb_no hi hb
          exact ⟨by rw [hres, h], hg, fun h' => by rw [hres, h] at h'; cases h'⟩
    have HE := Lf.hide hE
    have h1 := isType_any t
    rw [hty] at h1
    have H1 := Lf.hide h1
    have h2' : ((args.length : Int) == partsF t) = true := by simpa using hpa
    have c1 := cell_of_one hcb
    have c2 := free_of_one hcb
    have l2 : cb < w2.heap.size + 1 := by omega
    have l3 : cb < w2.heap.size + 1 + 1 := by omega
    have hd' : (d : Int) ≤ 24 := by omega
    have hm' : (m : Int) + 1 ≤ 300 := by omega
    unfold maxLen at hl
    clear hE h1 hcb hsame ih hc hr hres hI0 hw hpa hty
    unfold tyV
    go_enter Try.func63, Try.ntmps63
    go_wp2_with fail
    go_quiet (first | (go_at_call 55; exact Calls.quiet_of_same (H1.out _)) | (go_at_call 98; exact Calls.quiet_of_same (parts_any _ _)))
    go_wp2_with fail
    refine (HE.out _).mono ?_
    rintro e w' ⟨rfl, hp⟩
    go_wp2_with fail
    go_ret
    exact ⟨rfl, hp⟩

end Go.Proofs.Ytmmgihaoahhkjaa

/- A list of what is left, that a function and a function made within it share: what it holds, and that it stays. -/
namespace Go.Proofs.Ytmmgihaoahhkjaa
open Go.ChangeShapes Go.WideShapes Go.ChangeAt Go.RowKit
set_option linter.unusedVariables false

/-- the least number that serves -/
theorem least_of {α : Type} (R : Nat → α → Prop) : ∃ μ : α → Nat, ∀ x n, R n x → R (μ x) x ∧ μ x ≤ n := by
  have h : ∀ x, ∃ m, ∀ n, R n x → R m x ∧ m ≤ n := by
    intro x
    have key : ∀ n, R n x → ∃ m, R m x ∧ ∀ k, R k x → m ≤ k := by
      intro n
      induction n using Nat.strongRecOn with
      | _ n ih =>
        intro hn
        by_cases h : ∃ k, k < n ∧ R k x
        · obtain ⟨k, hk, hr⟩ := h
          exact ih k hk hr
        · exact ⟨n, hn, fun k hk => Nat.le_of_not_lt fun hlt => h ⟨k, hlt, hk⟩⟩
    by_cases hx : ∃ n, R n x
    · obtain ⟨n, hn⟩ := hx
      obtain ⟨m, h1, h2⟩ := key n hn
      exact ⟨m, fun k hk => ⟨h1, h2 k hk⟩⟩
    · exact ⟨0, fun n hn => absurd ⟨n, hn⟩ hx⟩
  exact ⟨fun x => Classical.choose (h x), fun x => Classical.choose_spec (h x)⟩

theorem info_sl : (Try.prog.info? 22).map (fun i => (i.zero, i.size, i.bytes)) = some (some (.slice none 0 0), 1, 24) := by kernel_rfl

/-- the slice v is the call's own and holds the slices vs -/
def OwnsS (B : Nat) (w : World) (v : Value) (vs : List Value) : Prop := w.ownsRow B 22 1 v vs.length vs

/-- one slice put behind a list of the call's own -/
theorem appS {ops : Array Oper} {rest : List Oper} {o : Oper} {a : Act} {Q : Exit → Act → World → Prop} (B : Nat) (vs : List Value) (sa : Option Addr) (sl sc : Nat) (w0 : World) (v : Value) (hgd : o.guard = none) (s x : Operand)
    (ho : o.op = .call { callee := .builtin .append, args := #[s, x], argTypes := #[118, 118] }) (hs : a.eval s = v) {H : Nat} (hx : a.eval x = .slice (some ⟨H, 0, none⟩) 1 1) (hH : w0.heap.size = H)
    (hown : OwnsS B w0 v vs) (hB : B ≤ w0.heap.size) (hlen : vs.length ≤ 100000000)
    (h : ∀ g cap w', OwnsS B w' (.slice (some ⟨g, 0, none⟩) (vs.length + 1) cap) (vs ++ [.slice sa sl sc]) → Gr w0 v w' (.slice (some ⟨g, 0, none⟩) (vs.length + 1) cap) → wpList Try.prog ops Q rest (a.put o.dst (.slice (some ⟨g, 0, none⟩) (vs.length + 1) cap)) w') :
    wpList Try.prog ops Q (o :: rest) a (w0.alloc (.cells #[.slice sa sl sc] 22)) := by
  obtain ⟨i0, hi, hz0, hz1, hz2⟩ := info_parts info_sl
  subst hH
  refine wpList_append_lies _ hgd s x 118 ho B 22 i0 _ 1 24 Try.underlying118 hi hz0 hz1 hz2 rfl (by decide) v vs.length vs hs (World.ownsRow.alloc hown _) ⟨w0.heap.size, 0, none⟩ 1 1 [.slice sa sl sc] hx rfl ?_ ?_ (by decide) ?_ ?_ ?_ _ rfl ?_
  · exact World.news_of_block (w := w0.alloc _) (B := w0.heap.size) (cs := #[.slice sa sl sc]) (heap_alloc_new _ _)
  · intro u hu; simp at hu; subst hu; rfl
  · unfold maxLen; omega
  · omega
  · simp; omega
  · intro g cap w' h1 h2 h3 _
    refine h g cap w' ?_ ?_
    · unfold OwnsS; rw [List.length_append]; exact h1
    · refine Gr.trans (Gr.alloc (Gr.refl w0 v) _) ⟨h2, ?_⟩
      rcases h3 with h3 | h3
      · exact .inl h3.symm
      · exact .inr ⟨g, rfl, by omega⟩

/-- an owned row cut shorter -/
theorem own_cut {w : World} {B : Nat} {e : TypeId} {g cap n : Nat} {vs : List Value} {u : Value} (h : w.ownsRow B e 1 (.slice (some ⟨g, 0, none⟩) (n + 1) cap) (n + 1) (vs ++ [u])) : w.ownsRow B e 1 (.slice (some ⟨g, 0, none⟩) n cap) n vs := by
  have hl := h.1
  simp at hl
  refine ⟨by omega, ?_⟩
  rcases h.2 with ⟨hx, _⟩ | ⟨g', cap', cur, hx, h1, h2, h3, h4, h5, h6⟩
  · simp at hx
  · simp only [Value.slice.injEq, Option.some.injEq, Addr.mk.injEq, and_true, true_and] at hx
    obtain ⟨rfl, rfl⟩ := hx
    refine .inr ⟨g, cap, cur, rfl, h1, h2, by omega, h4, h5, ?_⟩
    have h7 := congrArg (List.take n) h6
    rw [List.take_take] at h7
    simp only [Nat.mul_one] at h7 ⊢
    rw [show min n (n + 1) = n from by omega] at h7
    rw [h7, List.take_append_of_le_length (by omega), List.take_of_length_le (by omega)]

end Go.Proofs.Ytmmgihaoahhkjaa
