import Derived.Test.YtamohjlhndedhadGreatRRRZb
import Derived.Test.YtamohjlhndedhadGreatRRRParseV
import Derived.Test.YtamohjlhndedhadGreatRRRSameA
namespace Go.Proofs.YtamohjlhndedhadGreatRRR
set_option linter.unusedVariables false
inductive Led where
 | no (e : Int)
 | ok (f : Bool) (ts : List Ty)
def standF : List Ty -> List Int -> Bool
 | _, [] => true
 | [], _ :: _ => false
 | T :: s, k :: ks => (decide (k = 0) || decide (T.t = k)) && standF s ks
structure Ins where
 p : Int
 n : Int
 types : List Ty
 rows : List (List Tr)
 data : Tr
def tr0 : Tr := .nd 0 0 0 ⟨#[]⟩ []
def formsF (p : Int) : List UInt8 :=
 if p = 41 \/ p = 43 \/ p = 44 then [110]
 else if p = 45 then [116, 118]
 else if p = 50 \/ p = 51 \/ p = 54 \/ p = 56 \/ p = 82 \/ p = 88 then [116]
 else if p = 61 then [116, 117]
 else if p = 52 \/ p = 55 \/ p = 58 \/ p = 64 then [99, 100]
 else if p = 60 \/ p = 65 \/ p = 68 then [99]
 else if p = 66 then [116, 117, 99]
 else []
def takeF (i : Ins) (f : UInt8) (t : Tr) : Option Ins :=
 if f = 110 then (if t.k0 = 0 /\ 0 <= t.n0 /\ t.n0 <= 40 then some { i with n := t.n0 } else none)
 else if f = 116 \/ f = 117 then (if parseB t = true then some { i with types := i.types ++ [kreadT t] } else none)
 else if f = 99 \/ f = 100 then (if t.k0 = 3 then some { i with rows := i.rows ++ [t.args0] } else none)
 else some { i with data := t }
def takesF : Ins -> List UInt8 -> List Tr -> Option Ins
 | i, f :: fs, t :: l => match takeF i f t with
  | none => none
  | some j => takesF j fs l
 | i, [], _ => some i
 | i, _ :: _, [] => some i
def readF (t : Tr) : Option Ins :=
 if t.k0 = 2 /\ 40 <= t.p0 /\ t.args0.length = (formsF t.p0).length then takesF ⟨t.p0, 0, [], [], tr0⟩ (formsF t.p0) t.args0 else none
mutual
def mintsT : Tr -> Bool
 | .nd k _ p _ args => (decide (k = 2 /\ p = 84)) || mintsTs args
def mintsTs : List Tr -> Bool
 | [] => false
 | t :: l => mintsT t || mintsTs l
end
def putF (s top : List Ty) : Led := .ok false (top ++ s)
def meetF : Led -> Led -> Led
 | .no e, _ => .no e
 | .ok _ _, .no e => .no e
 | .ok f a, .ok g b => if f = true then .ok g b else if g = true \/ sameTs a b = true then .ok f a else .no 5
def rowAt (i : Ins) (k : Nat) : List Tr := (i.rows[k]?).getD []
def eitherF (row : List Tr -> List Ty -> Led) (i : Ins) (s x y : List Ty) : Led := meetF (row (rowAt i 0) (x ++ s)) (row (rowAt i 1) (y ++ s))
def throughF (row : List Tr -> List Ty -> Led) (i : Ins) (x y z : List Ty) : Led := match meetF (row (rowAt i 0) x) (putF y []) with
 | .no e => .no e
 | .ok _ _ => putF z []
def belowF (row : List Tr -> List Ty -> Led) (i : Ins) (top : Ty) (s : List Ty) : Led := match row (rowAt i 0) s with
 | .no e => .no e
 | .ok f ts => if f = true then .no 1 else putF ts [top]
def movesF (i : Ins) (s : List Ty) : Led :=
 if i.p = 40 /\ standF s [0] = true then putF (s.drop 1) []
 else if i.p = 41 /\ 1 <= i.n /\ i.n <= s.length /\ copyT (tyAt s (i.n.toNat - 1)) = true then putF s [tyAt s (i.n.toNat - 1)]
 else if i.p = 42 /\ standF s [0, 0] = true then putF (s.drop 2) [tyAt s 1, tyAt s 0]
 else if i.p = 43 /\ i.n < s.length then putF (s.take i.n.toNat ++ s.drop (i.n.toNat + 1)) [tyAt s i.n.toNat]
 else if i.p = 44 /\ i.n < s.length then putF (s.take 1 ++ s.drop (i.n.toNat + 1)) ((s.drop 1).take i.n.toNat)
 else .no 5
def bindsF (i : Ins) (s : List Ty) : Led :=
 if i.p = 46 /\ standF s [0, 0] = true then putF (s.drop 2) [.nd 11 [tyAt s 0, tyAt s 1]]
 else if i.p = 47 /\ standF s [11] = true then putF (s.drop 1) (tyAt s 0).args
 else if i.p = 48 /\ standF s [11] = true then putF (s.drop 1) [tyAt (tyAt s 0).args 0]
 else if i.p = 49 /\ standF s [11] = true then putF (s.drop 1) [tyAt (tyAt s 0).args 1]
 else if i.p = 50 /\ standF s [0] = true then putF (s.drop 1) [.nd 12 [tyAt s 0, tyAt i.types 0]]
 else if i.p = 51 /\ standF s [0] = true then putF (s.drop 1) [.nd 12 [tyAt i.types 0, tyAt s 0]]
 else if i.p = 53 /\ standF s [0] = true then putF (s.drop 1) [.nd 9 [tyAt s 0]]
 else if i.p = 54 then putF s [.nd 9 [tyAt i.types 0]]
 else .no 5
def gathersF (i : Ins) (s : List Ty) : Led :=
 if i.p = 56 then putF s [.nd 10 [tyAt i.types 0]]
 else if i.p = 57 /\ standF s [0, 10] = true /\ sameT (tyAt s 0) (tyAt (tyAt s 1).args 0) = true then putF (s.drop 1) []
 else if i.p = 59 /\ (standF s [6] = true \/ standF s [10] = true \/ standF s [13] = true) then putF (s.drop 1) [.nd 4 []]
 else if i.p = 61 /\ compT (tyAt i.types 0) = true then putF s [.nd 13 i.types]
 else if i.p = 62 /\ standF s [0, 13] = true /\ sameT (tyAt s 0) (tyAt (tyAt s 1).args 0) = true /\ copyT (tyAt (tyAt s 1).args 1) = true then putF (s.drop 2) [.nd 9 [tyAt (tyAt s 1).args 1]]
 else if i.p = 63 /\ standF s [0, 9, 13] = true /\ sameT (tyAt s 0) (tyAt (tyAt s 2).args 0) = true /\ sameT (tyAt (tyAt s 1).args 0) (tyAt (tyAt s 2).args 1) = true then putF (s.drop 2) []
 else .no 5
def choosesF (row : List Tr -> List Ty -> Led) (i : Ins) (s : List Ty) : Led :=
 if i.p = 52 /\ standF s [12] = true then eitherF row i (s.drop 1) ((tyAt s 0).args.take 1) ((tyAt s 0).args.drop 1)
 else if i.p = 55 /\ standF s [9] = true then eitherF row i (s.drop 1) [] (tyAt s 0).args
 else if i.p = 58 /\ standF s [10] = true then eitherF row i (s.drop 1) [tyAt (tyAt s 0).args 0, tyAt s 0] []
 else if i.p = 64 /\ standF s [2] = true then eitherF row i (s.drop 1) [] []
 else .no 5
def entersF (row : List Tr -> List Ty -> Led) (i : Ins) (s : List Ty) : Led :=
 if i.p = 60 /\ standF s [10] = true then throughF row i ((tyAt s 0).args ++ s.drop 1) (s.drop 1) (s.drop 1)
 else if i.p = 60 /\ standF s [13] = true then throughF row i ([.nd 11 (tyAt s 0).args] ++ s.drop 1) (s.drop 1) (s.drop 1)
 else if i.p = 65 /\ standF s [2] = true then throughF row i (s.drop 1) s (s.drop 1)
 else if i.p = 66 /\ mintsTs (rowAt i 0) = false then throughF row i (i.types.take 1) (i.types.drop 1) ([.nd 14 i.types] ++ s)
 else if i.p = 67 /\ standF s [0, 14] = true /\ sameT (tyAt s 0) (tyAt (tyAt s 1).args 0) = true then putF (s.drop 2) [tyAt (tyAt s 1).args 1]
 else if i.p = 68 /\ standF s [0] = true then belowF row i (tyAt s 0) (s.drop 1)
 else .no 5
def wholeB (t : Int) : Bool := decide (t = 3 \/ t = 4)
def divT (q r : Ty) : Ty := .nd 9 [.nd 11 [q, r]]
def reckonedF (p a b : Int) : Option Ty :=
 if p = 69 /\ a = 5 /\ b = 5 then some (.nd 5 [])
 else if p = 70 /\ a = 5 /\ b = 5 then some (.nd 9 [.nd 5 []])
 else if p = 71 /\ (a = 5 /\ b = 4 \/ a = 4 /\ b = 5) then some (.nd 5 [])
 else if p = 72 /\ a = 5 /\ b = 5 then some (divT (.nd 4 []) (.nd 5 []))
 else if p = 72 /\ a = 5 /\ b = 4 then some (divT (.nd 5 []) (.nd 5 []))
 else if wholeB a = false \/ wholeB b = false then none
 else if p = 72 /\ a = 4 /\ b = 4 then some (divT (.nd 4 []) (.nd 4 []))
 else if p = 72 then some (divT (.nd 3 []) (.nd 4 []))
 else if p ≠ 70 /\ a = 4 /\ b = 4 then some (.nd 4 [])
 else some (.nd 3 [])
def reckonsF (i : Ins) (s : List Ty) : Led :=
 if i.p = 93 /\ standF s [3] = true then putF (s.drop 1) [.nd 4 []]
 else if i.p = 94 /\ standF s [3] = true then putF (s.drop 1) [.nd 9 [.nd 4 []]]
 else if i.p = 95 /\ standF s [4] = true then putF (s.drop 1) [.nd 3 []]
 else if (i.p = 69 \/ i.p = 70 \/ i.p = 71 \/ i.p = 72) /\ standF s [0, 0] = true then (match reckonedF i.p (tyAt s 0).t (tyAt s 1).t with
  | some T => putF (s.drop 2) [T]
  | none => .no 5)
 else .no 5
def asksF (i : Ins) (s : List Ty) : Led :=
 if i.p = 73 /\ standF s [0, 0] = true /\ sameT (tyAt s 0) (tyAt s 1) = true /\ compT (tyAt s 0) = true then putF (s.drop 2) [.nd 3 []]
 else if (i.p = 74 \/ i.p = 75 \/ i.p = 76) /\ standF s [3] = true then putF (s.drop 1) [.nd 2 []]
 else if i.p = 77 /\ standF s [2] = true then putF (s.drop 1) [.nd 2 []]
 else if (i.p = 78 \/ i.p = 79) /\ standF s [2, 2] = true then putF (s.drop 2) [.nd 2 []]
 else .no 5
def tellsF (i : Ins) (s : List Ty) : Led :=
 if i.p = 45 /\ packT (tyAt i.types 0) = true /\ (parseF (tyAt i.types 0) i.data).isSome = true then putF s [tyAt i.types 0]
 else if i.p = 80 /\ standF s [6, 6] = true then putF (s.drop 2) [.nd 6 []]
 else if i.p = 81 /\ standF s [0] = true /\ packT (tyAt s 0) = true then putF (s.drop 1) [.nd 6 []]
 else if i.p = 82 /\ standF s [6] = true /\ packT (tyAt i.types 0) = true then putF (s.drop 1) [.nd 9 [tyAt i.types 0]]
 else if i.p = 83 /\ standF s [0] = true /\ packT (tyAt s 0) = true then .ok true []
 else .no 5
def vouchesF (i : Ins) (s : List Ty) : Led :=
 if i.p = 84 /\ standF s [0, 4] = true /\ compT (tyAt s 0) = true then putF (s.drop 2) [.nd 9 [.nd 15 [tyAt s 0]]]
 else if i.p = 85 /\ standF s [15] = true then putF s [.nd 11 [.nd 7 [], .nd 11 [tyAt (tyAt s 0).args 0, .nd 4 []]]]
 else if i.p = 86 /\ standF s [15, 11] = true /\ standF (tyAt s 1).args [4, 4] = true then putF (s.drop 2) [.nd 9 [.nd 11 [tyAt s 0, tyAt s 0]]]
 else if i.p = 87 /\ standF s [11] = true /\ standF (tyAt s 0).args [15, 15] = true /\ sameT (tyAt (tyAt s 0).args 0) (tyAt (tyAt s 0).args 1) = true then putF (s.drop 1) [.nd 9 [tyAt (tyAt s 0).args 0]]
 else .no 5
def sendsF (i : Ins) (s : List Ty) : Led :=
 if i.p = 88 /\ standF s [0, 5, 7] = true /\ sameT (tyAt s 0) (tyAt i.types 0) = true /\ storeT (tyAt s 0) = true then putF (s.drop 3) [.nd 8 []]
 else if i.p = 89 \/ i.p = 90 then putF s [.nd 7 []]
 else if i.p = 91 \/ i.p = 92 then putF s [.nd 5 []]
 else .no 5
def insF (row : List Tr -> List Ty -> Led) (i : Ins) (s : List Ty) : Led :=
 if i.p = 40 \/ i.p = 41 \/ i.p = 42 \/ i.p = 43 \/ i.p = 44 then movesF i s
 else if i.p = 46 \/ i.p = 47 \/ i.p = 48 \/ i.p = 49 \/ i.p = 50 \/ i.p = 51 \/ i.p = 53 \/ i.p = 54 then bindsF i s
 else if i.p = 56 \/ i.p = 57 \/ i.p = 59 \/ i.p = 61 \/ i.p = 62 \/ i.p = 63 then gathersF i s
 else if i.p = 52 \/ i.p = 55 \/ i.p = 58 \/ i.p = 64 then choosesF row i s
 else if i.p = 60 \/ i.p = 65 \/ i.p = 66 \/ i.p = 67 \/ i.p = 68 then entersF row i s
 else if i.p = 69 \/ i.p = 70 \/ i.p = 71 \/ i.p = 72 \/ i.p = 93 \/ i.p = 94 \/ i.p = 95 then reckonsF i s
 else if i.p = 73 \/ i.p = 74 \/ i.p = 75 \/ i.p = 76 \/ i.p = 77 \/ i.p = 78 \/ i.p = 79 then asksF i s
 else if i.p = 45 \/ i.p = 80 \/ i.p = 81 \/ i.p = 82 \/ i.p = 83 then tellsF i s
 else if i.p = 84 \/ i.p = 85 \/ i.p = 86 \/ i.p = 87 then vouchesF i s
 else sendsF i s
def keptF : Led -> Led
 | .no e => .no e
 | .ok f ts => if 40 < ts.length then .no 7 else if ts.all goodTy = true then .ok f ts else .no 4
def rowG (st : Tr -> List Ty -> Led) : List Tr -> Bool -> List Ty -> Led
 | [], f, s => .ok f s
 | t :: l, f, s => if f = true then .no 1 else match keptF (st t s) with
  | .no e => .no e
  | .ok g s' => rowG st l g s'
def stepF : Nat -> Tr -> List Ty -> Led
 | 0, _, _ => .no 1
 | N + 1, t, s => if t.k0 = 3 then rowG (stepF N) t.args0 false s else match readF t with
  | none => .no 1
  | some i => insF (fun l s => rowG (stepF N) l false s) i s
def codeF (n : Tr) (s : List Ty) : Led :=
 if goodF n ≠ 0 then .no (goodF n) else if n.k0 ≠ 3 then .no 1 else if 40 < s.length then .no 7 else if s.all goodTy = true then rowG (stepF 300) n.args0 false s else .no 5
theorem rowG_append (st : Tr -> List Ty -> Led) : ∀ (a b : List Tr) (f : Bool) (s : List Ty), rowG st (a ++ b) f s = (match rowG st a f s with | .no e => .no e | .ok g s' => rowG st b g s')
 | [], b, f, s => by simp [rowG]
 | t :: a, b, f, s => by
  simp only [List.cons_append, rowG]
  by_cases hf : f = true
  ·simp [hf]
  ·simp only [hf]
   cases h : keptF (st t s) with
   | no e => simp
   | ok g s' => simpa using rowG_append st a b g s'
theorem kept_ok {r : Led} {f : Bool} {ts : List Ty} (h : keptF r = .ok f ts) : r = .ok f ts /\ ts.length <= 40 /\ ts.all goodTy = true := by
 cases r with
 | no e => simp [keptF] at h
 | ok g us =>
  simp only [keptF] at h
  by_cases h1 : 40 < us.length
  ·simp [h1] at h
  ·by_cases h2 : us.all goodTy = true
   ·rw [if_neg h1, if_pos h2] at h
    injection h with e1 e2
    subst e1; subst e2
    exact ⟨rfl, by omega, h2⟩
   ·rw [if_neg h1, if_neg h2] at h; cases h
def NoTys (r : Led) : Prop := ∀ ts, r = .ok true ts -> ts = []
theorem rowG_good {st : Tr -> List Ty -> Led} (hst : ∀ t s, NoTys (st t s)) : ∀ (l : List Tr) (f : Bool) (s : List Ty) {g : Bool} {ts : List Ty}, s.length <= 40 -> s.all goodTy = true -> (f = true -> s = []) -> rowG st l f s = .ok g ts -> ts.length <= 40 /\ ts.all goodTy = true /\ (g = true -> ts = [])
 | [], f, s, g, ts, h1, h2, h3, h => by
  simp only [rowG, Led.ok.injEq] at h
  obtain ⟨rfl, rfl⟩ := h
  exact ⟨h1, h2, h3⟩
 | t :: l, f, s, g, ts, h1, h2, h3, h => by
  simp only [rowG] at h
  by_cases hf : f = true
  ·simp [hf] at h
  ·simp only [hf] at h
   cases hk : keptF (st t s) with
   | no e => simp [hk] at h
   | ok f' s' =>
    simp only [hk] at h
    obtain ⟨e, h4, h5⟩ := kept_ok hk
    exact rowG_good hst l f' s' h4 h5 (fun hf' => hst t s s' (by rw [e, hf'])) (by simpa using h)
theorem noTys_put (s top : List Ty) : NoTys (putF s top) := fun ts h => by simp [putF] at h
theorem noTys_no (e : Int) : NoTys (.no e) := fun ts h => by simp at h
theorem noTys_fail : NoTys (.ok true []) := fun ts h => by simp at h; exact h
theorem noTys_ite {c : Prop} [Decidable c] {a b : Led} (ha : NoTys a) (hb : NoTys b) : NoTys (if c then a else b) := by
 by_cases h : c
 ·rw [if_pos h]; exact ha
 ·rw [if_neg h]; exact hb
theorem noTys_opt {o : Option Ty} {g : Ty -> Led} (hg : ∀ T, NoTys (g T)) {e : Int} : NoTys (match o with
 | some T => g T
 | none => .no e) := by
 cases o with
 | none => exact noTys_no e
 | some T => exact hg T
theorem noTys_meet {a b : Led} (ha : NoTys a) (hb : NoTys b) : NoTys (meetF a b) := by
 cases a with
 | no e => exact noTys_no e
 | ok f x =>
  cases b with
  | no e => exact noTys_no e
  | ok g y =>
   simp only [meetF]
   split
   ·exact hb
   ·split
    ·exact ha
    ·exact noTys_no 5
theorem noTys_row {st : Tr -> List Ty -> Led} (hst : ∀ t s, NoTys (st t s)) : ∀ (l : List Tr) (f : Bool) (s : List Ty), (f = true -> s = []) -> NoTys (rowG st l f s)
 | [], f, s, h => fun ts e => by simp only [rowG, Led.ok.injEq] at e; obtain ⟨rfl, rfl⟩ := e; exact h rfl
 | t :: l, f, s, h => by
  simp only [rowG]
  split
  ·exact noTys_no 1
  ·cases hk : keptF (st t s) with
   | no e => exact noTys_no e
   | ok f' s' => exact noTys_row hst l f' s' (fun hf' => hst t s s' (by rw [(kept_ok hk).1, hf']))
theorem noTys_ins {row : List Tr -> List Ty -> Led} (hr : ∀ l s, NoTys (row l s)) (i : Ins) (s : List Ty) : NoTys (insF row i s) := by
 have he : ∀ s x y, NoTys (eitherF row i s x y) := fun s x y => noTys_meet (hr _ _) (hr _ _)
 have ht : ∀ x y z, NoTys (throughF row i x y z) := fun x y z => by
  unfold throughF
  split
  ·exact noTys_no _
  ·exact noTys_put _ _
 have hb : ∀ a s, NoTys (belowF row i a s) := fun a s => by
  unfold belowF
  split
  ·exact noTys_no _
  ·split
   ·exact noTys_no 1
   ·exact noTys_put _ _
 unfold insF movesF bindsF gathersF choosesF entersF reckonsF asksF tellsF vouchesF sendsF
 repeat' apply noTys_ite
 all_goals first | exact noTys_put _ _ | exact noTys_no _ | exact noTys_fail | exact he _ _ _ | exact ht _ _ _ | exact hb _ _ | exact noTys_opt (fun T => noTys_put _ _)
theorem noTys_step : ∀ (N : Nat) (t : Tr) (s : List Ty), NoTys (stepF N t s)
 | 0, t, s => noTys_no 1
 | N + 1, t, s => by
  rw [stepF]
  split
  ·exact noTys_row (noTys_step N) _ _ _ (by simp)
  ·split
   ·exact noTys_no 1
   ·exact noTys_ins (fun l s => noTys_row (noTys_step N) _ _ _ (by simp)) _ _
theorem stand_len : ∀ {s : List Ty} {ks : List Int}, standF s ks = true -> ks.length <= s.length
 | _, [], _ => by simp
 | [], _ :: _, h => by simp [standF] at h
 | T :: s, k :: ks, h => by
  simp only [standF, Bool.and_eq_true] at h
  have := stand_len h.2
  simp; omega
end Go.Proofs.YtamohjlhndedhadGreatRRR
