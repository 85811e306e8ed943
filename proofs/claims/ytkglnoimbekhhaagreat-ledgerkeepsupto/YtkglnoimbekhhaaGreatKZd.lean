import Derived.Test.YtkglnoimbekhhaaGreatKZb
import Derived.Test.YtkglnoimbekhhaaGreatKZv
import Derived.Test.YtkglnoimbekhhaaGreatKZa
namespace Go.Proofs.YtkglnoimbekhhaaGreat
set_option maxRecDepth 100000
set_option maxHeartbeats 4000000
set_option linter.unusedVariables false
inductive Led where
 | no (e:Int)
 | ok (f:Bool) (ts:List Ty)
def sFq:List Ty -> List Int -> Bool
 | _,[]=>true
 | [],_ :: _=>false
 | T :: s,k :: ks=>(decide (k = 0) || decide (T.t = k)) && sFq s ks
structure Ins where
 p:Int
 n:Int
 types:List Ty
 rows:List (List Tr)
 data:Tr
def tr0:Tr:=.nd 0 0 0 ⟨#[]⟩ []
def formsF (p:Int):List UInt8 :=
 if p = 41 \/ p = 43 \/ p = 44 then [110]
 else if p = 45 then [116,118]
 else if p = 50 \/ p = 51 \/ p = 54 \/ p = 56 \/ p = 82 \/ p = 88 then [116]
 else if p = 61 then [116,117]
 else if p = 52 \/ p = 55 \/ p = 58 \/ p = 64 then [99,100]
 else if p = 60 \/ p = 65 \/ p = 68 then [99]
 else if p = 66 then [116,117,99]
 else []
def takeF (i:Ins) (f:UInt8) (t:Tr):Option Ins :=
 if f = 110 then (if t.k0 = 0 /\ 0 <= t.n0 /\ t.n0 <= 40 then some { i with n:=t.n0 } else none)
 else if f = 116 \/ f = 117 then (if parseB t = true then some { i with types:=i.types ++ [kreadT t] } else none)
 else if f = 99 \/ f = 100 then (if t.k0 = 3 then some { i with rows:=i.rows ++ [t.args0] } else none)
 else some { i with data:=t }
def takesF:Ins -> List UInt8 -> List Tr -> Option Ins
 | i,f :: fs,t :: l=>match takeF i f t with
  | none=>none
  | some j=>takesF j fs l
 | i,[],_=>some i
 | i,_ :: _,[]=>some i
def readF (t:Tr):Option Ins :=
 if t.k0 = 2 /\ 40 <= t.p0 /\ t.args0.length = (formsF t.p0).length then takesF ⟨t.p0,0,[],[],tr0⟩ (formsF t.p0) t.args0 else none
mutual
def mintsT:Tr -> Bool
 | .nd k _ p _ args=>(decide (k = 2 /\ p = 84)) || mintsTs args
def mintsTs:List Tr -> Bool
 | []=>false
 | t :: l=>mintsT t || mintsTs l
end
def pFq (s top:List Ty):Led:=.ok false (top ++ s)
def meetF:Led -> Led -> Led
 | .no e,_=>.no e
 | .ok _ _,.no e=>.no e
 | .ok f a,.ok g b=>if f = true then .ok g b else if g = true \/ sameTs a b = true then .ok f a else .no 5
def rowAt (i:Ins) (k:Nat):List Tr:=(i.rows[k]?).getD []
def eitherF (row:List Tr -> List Ty -> Led) (i:Ins) (s x y:List Ty):Led:=meetF (row (rowAt i 0) (x ++ s)) (row (rowAt i 1) (y ++ s))
def throughF (row:List Tr -> List Ty -> Led) (i:Ins) (x y z:List Ty):Led:=match meetF (row (rowAt i 0) x) (pFq y []) with
 | .no e=>.no e
 | .ok _ _=>pFq z []
def belowF (row:List Tr -> List Ty -> Led) (i:Ins) (top:Ty) (s:List Ty):Led:=match row (rowAt i 0) s with
 | .no e=>.no e
 | .ok f ts=>if f = true then .no 1 else pFq ts [top]
def movesF (i:Ins) (s:List Ty):Led :=
 if i.p = 40 /\ sFq s [0] = true then pFq (s.drop 1) []
 else if i.p = 41 /\ 1 <= i.n /\ i.n <= s.length /\ copyT (tAq s (i.n.toNat - 1)) = true then pFq s [tAq s (i.n.toNat - 1)]
 else if i.p = 42 /\ sFq s [0,0] = true then pFq (s.drop 2) [tAq s 1,tAq s 0]
 else if i.p = 43 /\ i.n < s.length then pFq (s.take i.n.toNat ++ s.drop (i.n.toNat + 1)) [tAq s i.n.toNat]
 else if i.p = 44 /\ i.n < s.length then pFq (s.take 1 ++ s.drop (i.n.toNat + 1)) ((s.drop 1).take i.n.toNat)
 else .no 5
def bindsF (i:Ins) (s:List Ty):Led :=
 if i.p = 46 /\ sFq s [0,0] = true then pFq (s.drop 2) [.nd 11 [tAq s 0,tAq s 1]]
 else if i.p = 47 /\ sFq s [11] = true then pFq (s.drop 1) (tAq s 0).args
 else if i.p = 48 /\ sFq s [11] = true then pFq (s.drop 1) [tAq (tAq s 0).args 0]
 else if i.p = 49 /\ sFq s [11] = true then pFq (s.drop 1) [tAq (tAq s 0).args 1]
 else if i.p = 50 /\ sFq s [0] = true then pFq (s.drop 1) [.nd 12 [tAq s 0,tAq i.types 0]]
 else if i.p = 51 /\ sFq s [0] = true then pFq (s.drop 1) [.nd 12 [tAq i.types 0,tAq s 0]]
 else if i.p = 53 /\ sFq s [0] = true then pFq (s.drop 1) [.nd 9 [tAq s 0]]
 else if i.p = 54 then pFq s [.nd 9 [tAq i.types 0]]
 else .no 5
def gathersF (i:Ins) (s:List Ty):Led :=
 if i.p = 56 then pFq s [.nd 10 [tAq i.types 0]]
 else if i.p = 57 /\ sFq s [0,10] = true /\ sameT (tAq s 0) (tAq (tAq s 1).args 0) = true then pFq (s.drop 1) []
 else if i.p = 59 /\ (sFq s [6] = true \/ sFq s [10] = true \/ sFq s [13] = true) then pFq (s.drop 1) [.nd 4 []]
 else if i.p = 61 /\ compT (tAq i.types 0) = true then pFq s [.nd 13 i.types]
 else if i.p = 62 /\ sFq s [0,13] = true /\ sameT (tAq s 0) (tAq (tAq s 1).args 0) = true /\ copyT (tAq (tAq s 1).args 1) = true then pFq (s.drop 2) [.nd 9 [tAq (tAq s 1).args 1]]
 else if i.p = 63 /\ sFq s [0,9,13] = true /\ sameT (tAq s 0) (tAq (tAq s 2).args 0) = true /\ sameT (tAq (tAq s 1).args 0) (tAq (tAq s 2).args 1) = true then pFq (s.drop 2) []
 else .no 5
def choosesF (row:List Tr -> List Ty -> Led) (i:Ins) (s:List Ty):Led :=
 if i.p = 52 /\ sFq s [12] = true then eitherF row i (s.drop 1) ((tAq s 0).args.take 1) ((tAq s 0).args.drop 1)
 else if i.p = 55 /\ sFq s [9] = true then eitherF row i (s.drop 1) [] (tAq s 0).args
 else if i.p = 58 /\ sFq s [10] = true then eitherF row i (s.drop 1) [tAq (tAq s 0).args 0,tAq s 0] []
 else if i.p = 64 /\ sFq s [2] = true then eitherF row i (s.drop 1) [] []
 else .no 5
def entersF (row:List Tr -> List Ty -> Led) (i:Ins) (s:List Ty):Led :=
 if i.p = 60 /\ sFq s [10] = true then throughF row i ((tAq s 0).args ++ s.drop 1) (s.drop 1) (s.drop 1)
 else if i.p = 60 /\ sFq s [13] = true then throughF row i ([.nd 11 (tAq s 0).args] ++ s.drop 1) (s.drop 1) (s.drop 1)
 else if i.p = 65 /\ sFq s [2] = true then throughF row i (s.drop 1) s (s.drop 1)
 else if i.p = 66 /\ mintsTs (rowAt i 0) = false then throughF row i (i.types.take 1) (i.types.drop 1) ([.nd 14 i.types] ++ s)
 else if i.p = 67 /\ sFq s [0,14] = true /\ sameT (tAq s 0) (tAq (tAq s 1).args 0) = true then pFq (s.drop 2) [tAq (tAq s 1).args 1]
 else if i.p = 68 /\ sFq s [0] = true then belowF row i (tAq s 0) (s.drop 1)
 else .no 5
def wholeB (t:Int):Bool:=decide (t = 3 \/ t = 4)
def divT (q r:Ty):Ty:=.nd 9 [.nd 11 [q,r]]
def rKq (p a b:Int):Option Ty :=
 if p = 69 /\ a = 5 /\ b = 5 then some (.nd 5 [])
 else if p = 70 /\ a = 5 /\ b = 5 then some (.nd 9 [.nd 5 []])
 else if p = 71 /\ (a = 5 /\ b = 4 \/ a = 4 /\ b = 5) then some (.nd 5 [])
 else if p = 72 /\ a = 5 /\ b = 5 then some (divT (.nd 4 []) (.nd 5 []))
 else if p = 72 /\ a = 5 /\ b = 4 then some (divT (.nd 5 []) (.nd 5 []))
 else if wholeB a = false \/ wholeB b = false then none
 else if p = 72 /\ a = 4 /\ b = 4 then some (divT (.nd 4 []) (.nd 4 []))
 else if p = 72 then some (divT (.nd 3 []) (.nd 4 []))
 else if p ≠ 70 /\ a = 4 /\ b = 4 then some (.nd 4 [])
 else some (.nd 3 [])
def reckonsF (i:Ins) (s:List Ty):Led :=
 if i.p = 93 /\ sFq s [3] = true then pFq (s.drop 1) [.nd 4 []]
 else if i.p = 94 /\ sFq s [3] = true then pFq (s.drop 1) [.nd 9 [.nd 4 []]]
 else if i.p = 95 /\ sFq s [4] = true then pFq (s.drop 1) [.nd 3 []]
 else if (i.p = 69 \/ i.p = 70 \/ i.p = 71 \/ i.p = 72) /\ sFq s [0,0] = true then (match rKq i.p (tAq s 0).t (tAq s 1).t with
  | some T=>pFq (s.drop 2) [T]
  | none=>.no 5)
 else .no 5
def asksF (i:Ins) (s:List Ty):Led :=
 if i.p = 73 /\ sFq s [0,0] = true /\ sameT (tAq s 0) (tAq s 1) = true /\ compT (tAq s 0) = true then pFq (s.drop 2) [.nd 3 []]
 else if (i.p = 74 \/ i.p = 75 \/ i.p = 76) /\ sFq s [3] = true then pFq (s.drop 1) [.nd 2 []]
 else if i.p = 77 /\ sFq s [2] = true then pFq (s.drop 1) [.nd 2 []]
 else if (i.p = 78 \/ i.p = 79) /\ sFq s [2,2] = true then pFq (s.drop 2) [.nd 2 []]
 else .no 5
def tellsF (i:Ins) (s:List Ty):Led :=
 if i.p = 45 /\ packT (tAq i.types 0) = true /\ (parseF (tAq i.types 0) i.data).isSome = true then pFq s [tAq i.types 0]
 else if i.p = 80 /\ sFq s [6,6] = true then pFq (s.drop 2) [.nd 6 []]
 else if i.p = 81 /\ sFq s [0] = true /\ packT (tAq s 0) = true then pFq (s.drop 1) [.nd 6 []]
 else if i.p = 82 /\ sFq s [6] = true /\ packT (tAq i.types 0) = true then pFq (s.drop 1) [.nd 9 [tAq i.types 0]]
 else if i.p = 83 /\ sFq s [0] = true /\ packT (tAq s 0) = true then .ok true []
 else .no 5
def vouchesF (i:Ins) (s:List Ty):Led :=
 if i.p = 84 /\ sFq s [0,4] = true /\ compT (tAq s 0) = true then pFq (s.drop 2) [.nd 9 [.nd 15 [tAq s 0]]]
 else if i.p = 85 /\ sFq s [15] = true then pFq s [.nd 11 [.nd 7 [],.nd 11 [tAq (tAq s 0).args 0,.nd 4 []]]]
 else if i.p = 86 /\ sFq s [15,11] = true /\ sFq (tAq s 1).args [4,4] = true then pFq (s.drop 2) [.nd 9 [.nd 11 [tAq s 0,tAq s 0]]]
 else if i.p = 87 /\ sFq s [11] = true /\ sFq (tAq s 0).args [15,15] = true /\ sameT (tAq (tAq s 0).args 0) (tAq (tAq s 0).args 1) = true then pFq (s.drop 1) [.nd 9 [tAq (tAq s 0).args 0]]
 else .no 5
def sendsF (i:Ins) (s:List Ty):Led :=
 if i.p = 88 /\ sFq s [0,5,7] = true /\ sameT (tAq s 0) (tAq i.types 0) = true /\ storeT (tAq s 0) = true then pFq (s.drop 3) [.nd 8 []]
 else if i.p = 89 \/ i.p = 90 then pFq s [.nd 7 []]
 else if i.p = 91 \/ i.p = 92 then pFq s [.nd 5 []]
 else .no 5
def insF (row:List Tr -> List Ty -> Led) (i:Ins) (s:List Ty):Led :=
 if i.p = 40 \/ i.p = 41 \/ i.p = 42 \/ i.p = 43 \/ i.p = 44 then movesF i s
 else if i.p = 46 \/ i.p = 47 \/ i.p = 48 \/ i.p = 49 \/ i.p = 50 \/ i.p = 51 \/ i.p = 53 \/ i.p = 54 then bindsF i s
 else if i.p = 56 \/ i.p = 57 \/ i.p = 59 \/ i.p = 61 \/ i.p = 62 \/ i.p = 63 then gathersF i s
 else if i.p = 52 \/ i.p = 55 \/ i.p = 58 \/ i.p = 64 then choosesF row i s
 else if i.p = 60 \/ i.p = 65 \/ i.p = 66 \/ i.p = 67 \/ i.p = 68 then entersF row i s
 else if i.p = 69 \/ i.p = 70 \/ i.p = 71 \/ i.p = 72 \/ i.p = 93 \/ i.p = 94 \/ i.p = 95 then reckonsF i s
 else if i.p = 73 \/ i.p = 74 \/ i.p = 75 \/ i.p = 76 \/ i.p = 77 \/ i.p = 78 \/ i.p = 79 then asksF i s
 else if i.p = 45 \/ i.p = 80 \/ i.p = 81 \/ i.p = 82 \/ i.p = 83 then tellsF i s
 else if i.p = 84 \/ i.p = 85 \/ i.p = 86 \/ i.p = 87 then vouchesF i s
 else sendsF i s
def keptF:Led -> Led
 | .no e=>.no e
 | .ok f ts=>if 40 < ts.length then .no 7 else if ts.all gYq = true then .ok f ts else .no 4
def rowG (st:Tr -> List Ty -> Led):List Tr -> Bool -> List Ty -> Led
 | [],f,s=>.ok f s
 | t :: l,f,s=>if f = true then .no 1 else match keptF (st t s) with
  | .no e=>.no e
  | .ok g s'=>rowG st l g s'
def stepF:Nat -> Tr -> List Ty -> Led
 | 0,_,_=>.no 1
 | N + 1,t,s=>if t.k0 = 3 then rowG (stepF N) t.args0 false s else match readF t with
  | none=>.no 1
  | some i=>insF (fun l s=>rowG (stepF N) l false s) i s
def codeF (n:Tr) (s:List Ty):Led :=
 if goodF n ≠ 0 then .no (goodF n) else if n.k0 ≠ 3 then .no 1 else if 40 < s.length then .no 7 else if s.all gYq = true then rowG (stepF 300) n.args0 false s else .no 5
theorem kept_ok {r:Led} {f:Bool} {ts:List Ty} (h:keptF r = .ok f ts):r = .ok f ts /\ ts.length <= 40 /\ ts.all gYq = true:=by
 cases r with
 | no e=>simp [keptF] at h
 | ok g us =>
  simp only [keptF] at h
  by_cases h1:40 < us.length
  ·simp [h1] at h
  ·by_cases h2:us.all gYq = true
   ·rw [if_neg h1,if_pos h2] at h
    injection h with e1 e2
    subst e1;subst e2
    exact ⟨rfl,by omega,h2⟩
   ·rw [if_neg h1,if_neg h2] at h;cases h
def NoTys (r:Led):Prop:=∀ ts,r = .ok true ts -> ts = []
theorem rowG_good {st:Tr -> List Ty -> Led} (hst:∀ t s,NoTys (st t s)):∀ (l:List Tr) (f:Bool) (s:List Ty) {g:Bool} {ts:List Ty},s.length <= 40 -> s.all gYq = true -> (f = true -> s = []) -> rowG st l f s = .ok g ts -> ts.length <= 40 /\ ts.all gYq = true /\ (g = true -> ts = [])
 | [],f,s,g,ts,h1,h2,h3,h=>by
  simp only [rowG,Led.ok.injEq] at h
  obtain ⟨rfl,rfl⟩:=h
  exact ⟨h1,h2,h3⟩
 | t :: l,f,s,g,ts,h1,h2,h3,h=>by
  simp only [rowG] at h
  by_cases hf:f = true
  ·simp [hf] at h
  ·simp only [hf] at h
   cases hk:keptF (st t s) with
   | no e=>simp [hk] at h
   | ok f' s' =>
    simp only [hk] at h
    obtain ⟨e,h4,h5⟩:=kept_ok hk
    exact rowG_good hst l f' s' h4 h5 (fun hf'=>hst t s s' (by rw [e,hf'])) (by simpa using h)
theorem noTys_put (s top:List Ty):NoTys (pFq s top):=fun ts h=>by simp [pFq] at h
theorem noTys_no (e:Int):NoTys (.no e):=fun ts h=>by simp at h
theorem noTys_fail:NoTys (.ok true []):=fun ts h=>by simp at h;exact h
theorem noTys_ite {c:Prop} [Decidable c] {a b:Led} (ha:NoTys a) (hb:NoTys b):NoTys (if c then a else b):=by
 by_cases h:c
 ·rw [if_pos h];exact ha
 ·rw [if_neg h];exact hb
theorem noTys_opt {o:Option Ty} {g:Ty -> Led} (hg:∀ T,NoTys (g T)) {e:Int} : NoTys (match o with
 | some T=>g T
 | none=>.no e):=by
 cases o with
 | none=>exact noTys_no e
 | some T=>exact hg T
theorem noTys_meet {a b:Led} (ha:NoTys a) (hb:NoTys b):NoTys (meetF a b):=by
 cases a with
 | no e=>exact noTys_no e
 | ok f x =>
  cases b with
  | no e=>exact noTys_no e
  | ok g y =>
   simp only [meetF]
   split
   ·exact hb
   ·split
    ·exact ha
    ·exact noTys_no 5
theorem noTys_row {st:Tr -> List Ty -> Led} (hst:∀ t s,NoTys (st t s)):∀ (l:List Tr) (f:Bool) (s:List Ty),(f = true -> s = []) -> NoTys (rowG st l f s)
 | [],f,s,h=>fun ts e=>by simp only [rowG,Led.ok.injEq] at e;obtain ⟨rfl,rfl⟩:=e;exact h rfl
 | t :: l,f,s,h=>by
  simp only [rowG]
  split
  ·exact noTys_no 1
  ·cases hk:keptF (st t s) with
   | no e=>exact noTys_no e
   | ok f' s'=>exact noTys_row hst l f' s' (fun hf'=>hst t s s' (by rw [(kept_ok hk).1,hf']))
theorem noTys_ins {row:List Tr -> List Ty -> Led} (hr:∀ l s,NoTys (row l s)) (i:Ins) (s:List Ty):NoTys (insF row i s):=by
 have he:∀ s x y,NoTys (eitherF row i s x y):=fun s x y=>noTys_meet (hr _ _) (hr _ _)
 have ht:∀ x y z,NoTys (throughF row i x y z):=fun x y z=>by
  unfold throughF
  split
  ·exact noTys_no _
  ·exact noTys_put _ _
 have hb:∀ a s,NoTys (belowF row i a s):=fun a s=>by
  unfold belowF
  split
  ·exact noTys_no _
  ·split
   ·exact noTys_no 1
   ·exact noTys_put _ _
 unfold insF movesF bindsF gathersF choosesF entersF reckonsF asksF tellsF vouchesF sendsF
 repeat' apply noTys_ite
 all_goals first | exact noTys_put _ _ | exact noTys_no _ | exact noTys_fail | exact he _ _ _ | exact ht _ _ _ | exact hb _ _ | exact noTys_opt (fun T=>noTys_put _ _)
theorem noTys_step:∀ (N:Nat) (t:Tr) (s:List Ty),NoTys (stepF N t s)
 | 0,t,s=>noTys_no 1
 | N + 1,t,s=>by
  rw [stepF]
  split
  ·exact noTys_row (noTys_step N) _ _ _ (by simp)
  ·split
   ·exact noTys_no 1
   ·exact noTys_ins (fun l s=>noTys_row (noTys_step N) _ _ _ (by simp)) _ _
theorem slq:∀ {s:List Ty} {ks:List Int},sFq s ks = true -> ks.length <= s.length
 | _,[],_=>by simp
 | [],_ :: _,h=>by simp [sFq] at h
 | T :: s,k :: ks,h=>by
  simp only [sFq,Bool.and_eq_true] at h
  have:=slq h.2
  simp;omega
open Go.ChangeShapes Go.WideShapes Go.ChangeAt Go.RowKit
def LPq (r:Led) (W:World) (e:Ending) (w':World):Prop :=
 W.grownBy w' none /\ ((∃ er,r = .no er /\ er ≠ 0 /\ e = .returned (.tuple #[.agg #[.slice none 0 0,.bool false],.int .i64 er])) \/ ∃ f ts a l c,r = .ok f ts /\ e = .returned (.tuple #[.agg #[.slice a l c,.bool f],.int .i64 0]) /\ RowC w' ts (.slice a l c))
theorem LPq.of {r:Led} {W W2:World} {e:Ending} {w':World} (h:LPq r W2 e w') (hg:W.grownBy W2 none):LPq r W e w':=⟨gTq hg h.1,h.2⟩
theorem LPq.form {r:Led} {W:World} {e:Ending} {w':World} (h:LPq r W e w'):∃ a l c f er,e = .returned (.tuple #[.agg #[.slice a l c,.bool f],.int .i64 er]):=by
 rcases h.2 with ⟨er,_,_,rfl⟩ | ⟨f,ts,a,l,c,_,rfl,_⟩
 ·exact ⟨_,_,_,_,_,rfl⟩
 ·exact ⟨_,_,_,_,_,rfl⟩
theorem not_typed {w:World} {R l c:Nat} {a:Option Addr} {f:Bool} {T:TypeId} (hb:w.heap[R]? = some (.cells #[.slice a l c,.bool f] T (0,0))) (n:Nat) (z:Int):w.cell? ⟨R,n,none⟩ ≠ some (.int .i64 z):=by
 intro h
 rcases n with _ | _ | n <;> simp [World.cell?,hb] at h
theorem TyAt.ne {ok:Nat -> Prop} {w:World} {R l c:Nat} {a:Option Addr} {f:Bool} {T:TypeId} (hb:w.heap[R]? = some (.cells #[.slice a l c,.bool f] T (0,0))) {p:Option Addr} {i:Nat} {v:Value} (h:TyAt ok w p i v):TyAt (fun b=>ok b /\ b ≠ R) w p i v:=by
 obtain ⟨b,o,e,hk,t,a',l',c',hv,h0,h1⟩:=h
 exact ⟨b,o,e,⟨hk,fun e2=>by subst e2;exact not_typed hb _ _ h0⟩,t,a',l',c',hv,h0,h1⟩
theorem LiesT.ne {ok:Nat -> Prop} {w:World} {R l c:Nat} {a:Option Addr} {f:Bool} {T:TypeId} (hb:w.heap[R]? = some (.cells #[.slice a l c,.bool f] T (0,0))) {t:Ty} {v:Value} (h:LiesT ok w t v):LiesT (fun b=>ok b /\ b ≠ R) w t v:=by
 induction h with
 | mk V hl hlc it hc _ ih=>exact .mk V hl hlc it (fun i hi=>(hc i hi).ne hb) ih
theorem RowC.set {w:World} {ts:List Ty} {u:Value} (h:RowC w ts u) {R l c:Nat} {a:Option Addr} {f:Bool} {T:TypeId} (hb:w.heap[R]? = some (.cells #[.slice a l c,.bool f] T (0,0))) (x y:Value):RowC (set2 w R x y) ts u:=by
 obtain ⟨a',c',V,e,h1,hr⟩:=h
 have hs:Same (fun b=>True /\ b ≠ R) w (set2 w R x y):=fun b o hk hlt=>World.cell?_of_block ((set2_grow w R x y).block b hlt (by have:=hk.2;simp;omega))
 have hr2:RowT (fun b=>True /\ b ≠ R) w ts a' V:=⟨hr.1,fun i hi=>(hr.2.1 i hi).ne hb,fun i hi=>(hr.2.2 i hi).ne hb⟩
 exact ⟨a',c',V,e,h1,(hr2.same hs).okMono (fun _ _ _=>trivial)⟩
theorem LPq.lift {r:Led} {W W2 w1:World} {e:Ending} {R l c:Nat} {a:Option Addr} {f:Bool} {T:TypeId} (h:LPq r W2 e w1) (hg:W.grownBy W2 none) (hR:W.heap.size <= R) (hb:W2.heap[R]? = some (.cells #[.slice a l c,.bool f] T (0,0))) :
 ∃ a' l' c' f' er,e = .returned (.tuple #[.agg #[.slice a' l' c',.bool f'],.int .i64 er]) /\ w1.heap[R]? = some (.cells #[.slice a l c,.bool f] T (0,0)) /\ W.grownBy w1 none /\ LPq r W e (set2 w1 R (.slice a' l' c') (.bool f')):=by
 have hb1:w1.heap[R]? = some (.cells #[.slice a l c,.bool f] T (0,0)):=(h.1.block R (Array.getElem?_eq_some_iff.1 hb).1 (by simp)).trans hb
 have hg1:=gTq hg h.1
 rcases h.2 with ⟨er,h1,h2,h3⟩ | ⟨f2,ts,a2,l2,c2,h1,h3,h4⟩
 ·exact ⟨_,_,_,_,_,h3,hb1,hg1,grow_set2 hg1 hR _ _,.inl ⟨er,h1,h2,h3⟩⟩
 ·exact ⟨_,_,_,_,_,h3,hb1,hg1,grow_set2 hg1 hR _ _,.inr ⟨f2,ts,a2,l2,c2,h1,h3,h4.set hb1 _ _⟩⟩
theorem stand_iff:∀ (s:List Ty) (ks:List Int),sFq s ks = true ↔ ks.length <= s.length /\ ∀ i (h:i < ks.length) (h2:i < s.length),ks[i] = 0 \/ (s[i]).t = ks[i]
 | s,[]=>by cases s <;> simp [sFq]
 | [],k :: ks=>by simp [sFq]
 | T :: s,k :: ks=>by
  have ih:=stand_iff s ks
  simp only [sFq,Bool.and_eq_true,Bool.or_eq_true,decide_eq_true_eq,ih,List.length_cons,Nat.add_le_add_iff_right]
  constructor
  ·rintro ⟨h1,h2,h3⟩
   refine ⟨h2,fun i hi hj=>?_⟩
   cases i with
   | zero=>exact h1
   | succ i=>exact h3 i (by omega) (by omega)
  ·rintro ⟨h1,h2⟩
   exact ⟨h2 0 (by omega) (by omega),h1,fun i hi hj=>h2 (i + 1) (by omega) (by omega)⟩
theorem sTq {W:World} {s:List Ty} {sv:Value} {ks:List Int} {kb kc:Nat} (hs:RowC W s sv) (hk:∀ i (h:i < ks.length),W.cell? ⟨kb,i,none⟩ = some (.int .i64 ks[i])) (hkl:ks.length <= 8) :
 Calls Tryz.prog 107 #[sv,.slice (some ⟨kb,0,none⟩) ks.length kc] W fun e w'=>e = .returned (.bool (sFq s ks)) /\ w' = W:=by
 obtain ⟨sa,sc,V,rfl,hsc,hr⟩:=hs
 have hl63:=hr.1
 unfold maxLen at hl63
 by_cases hlt:s.length < ks.length
 ·have hz:(s.length:Int) < (ks.length:Int):=by omega
  have hf:sFq s ks = false:=by
   cases h:sFq s ks with
   | false=>rfl
   | true=>have:=slq h;omega
  rw [hf]
  clear hr hk
  go_enter Tryz.func107,Tryz.ntmps107
  go_wp2_with fail
  go_ret
  exact ⟨rfl,rfl⟩
 ·have hz:¬ (s.length:Int) < (ks.length:Int):=by omega
  have HR:=jh hr
  have HK:=jh hk
  clear hr hk
  go_enter Tryz.func107,Tryz.ntmps107
  go_wp2_with fail
  go_loopw [14] (fun iv wr=>wr = W /\ ∃ j:Nat,j <= ks.length /\ iv = .int .i64 j /\ ∀ i (h:i < ks.length) (h2:i < s.length),i < j -> ks[i] = 0 \/ (s[i]).t = ks[i]) (fun iv _=>ks.length - (intOf iv).toNat)
  case atStart=>exact ⟨rfl,0,Nat.zero_le _,rfl,fun i _ _ h=>by omega⟩
  case round =>
   obtain ⟨hw,j,hj,rfl,hall⟩:=hrel
   replace hw:=hw.symm
   subst hw
   by_cases hlt2:j < ks.length
   ·have hji:(j:Int) < (ks.length:Int):=by omega
    have hjs:j < s.length:=by omega
    have hjs2:(j:Int) < (s.length:Int):=by omega
    have hkc:=HK.out j hlt2
    obtain ⟨b,o,rfl,_,t,a',l,c,hv,h0,h1⟩:=HR.out.2.1 j hjs
    have hL:=HR.out.2.2 j hjs
    rw [hv] at hL
    have ht:(s[j]).t = t:=by
     obtain ⟨_,_,_,e,_⟩:=hL.inv
     simp only [tyV,Value.agg.injEq,Array.mk.injEq,List.cons.injEq,Value.int.injEq,true_and] at e
     exact e.1.symm
    have HALL:=jh hall
    have HT:=jh ht
    obtain ⟨kk,hkk⟩:∃ kk,kk = ks[j]:=⟨_,rfl⟩
    rw [← hkk] at hkc
    have HKK:=jh hkk
    clear hall hL hv h1 ht hkk hlt
    by_cases hk0:kk = 0
    ·subst hk0
     go_wp2_with fail
     go_roundw
     case rel =>
      refine ⟨by trivial,j + 1,by omega,by go_num,fun i hi h2 hij=>?_⟩
      by_cases e:i = j
      ·subst e;exact .inl HKK.out.symm
      ·exact HALL.out i hi h2 (by omega)
     case measure=>simp [intOf];omega
    ·have hk1:(kk == 0) = false:=by simpa using hk0
     have hk2:(kk != 0) = true:=by simpa using hk0
     by_cases hk3:t = kk
     ·subst hk3
      go_wp2_with fail
      go_roundw
      case rel =>
       refine ⟨by trivial,j + 1,by omega,by go_num,fun i hi h2 hij=>?_⟩
       by_cases e:i = j
       ·subst e;exact .inr (HT.out.trans HKK.out)
       ·exact HALL.out i hi h2 (by omega)
      case measure=>simp [intOf];omega
     ·have hk4:(t == kk) = false:=by simpa using hk3
      have hk5:(t != kk) = true:=by simpa using hk3
      have hf:sFq s ks = false:=by
       cases h:sFq s ks with
       | false=>rfl
       | true =>
        have h2:=((stand_iff s ks).1 h).2 j hlt2 hjs
        rw [HT.out,← HKK.out] at h2
        rcases h2 with h2 | h2
        ·exact absurd h2 hk0
        ·exact absurd h2 hk3
      have HF:=jh hf
      clear hf
      go_wp2_with fail
      go_ret
      exact ⟨by rw [HF.out];rfl,rfl⟩
   ·have hji:¬ (j:Int) < (ks.length:Int):=by omega
    have ht:sFq s ks = true:=(stand_iff s ks).2 ⟨by omega,fun i h1 h2=>hall i h1 h2 (by omega)⟩
    have HF:=jh ht
    clear hall ht
    go_wp2_with fail
    go_ret
    exact ⟨by rw [HF.out];rfl,rfl⟩
theorem of_any (t:Int) (a:Option Addr) (l c:Nat) (W:World) :
 Calls Tryz.prog 29 #[.int .i64 t,.slice a l c] W fun e w'=>e = .returned (.agg #[.int .i64 t,.slice a l c]) /\ W.grownBy w' none:=by
 go_enter Tryz.func29,Tryz.ntmps29
 go_wp2_with fail
 have hb:=heap_alloc_new W (.cells #[.int .i64 t,.slice a l c] 24)
 have HG:=jh (gBq (w:=W) (.cells #[.int .i64 t,.slice a l c] 24))
 generalize W.alloc (.cells #[.int .i64 t,.slice a l c] 24) = wf at *
 have z0:=c0q hb
 have z1:=c1q hb
 exact bodyPost_ret (v:=.agg #[.int .i64 t,.slice a l c]) (by simp [results,Tryz.results29,go_sem,z0,z1]) rfl ⟨rfl,HG.out⟩
theorem refused_any (er:Int) (W:World) :
 Calls Tryz.prog 40 #[.int .i64 er] W fun e w'=>e = .returned (.tuple #[.agg #[.slice none 0 0,.bool false],.int .i64 er]) /\ W.grownBy w' none:=by
 go_enter Tryz.func40,Tryz.ntmps40
 go_wp2_with fail
 have hb:=heap_alloc_new W (.cells #[.slice none 0 0,.bool false] 62)
 have HG:=jh (gBq (w:=W) (.cells #[.slice none 0 0,.bool false] 62))
 generalize W.alloc (.cells #[.slice none 0 0,.bool false] 62) = wf at *
 have z0:=c0q hb
 have z1:=c1q hb
 exact bodyPost_ret (v:=.tuple #[.agg #[.slice none 0 0,.bool false],.int .i64 er]) (by simp [results,Tryz.results40,go_sem,z0,z1]) rfl ⟨rfl,HG.out⟩
theorem rLq (er:Int) (h:er ≠ 0) (W:World):Calls Tryz.prog 40 #[.int .i64 er] W (LPq (.no er) W) :=
 (refused_any er W).mono fun e w' ⟨h1,h2⟩=>⟨h2,.inl ⟨er,rfl,h,h1⟩⟩
theorem pAq {W:World} {s top:List Ty} {sv tv:Value} (hs:RowC W s sv) (ht:RowC W top tv) (hn:top.length + s.length <= 20000000) :
 Calls Tryz.prog 108 #[sv,tv] W (LPq (pFq s top) W):=by
 obtain ⟨sa,sc,e1,hsc,hs63⟩:=hs.form
 obtain ⟨ta,tc,e2,htc,ht63⟩:=ht.form
 subst e1;subst e2
 let A:Obj:=.cells #[.slice none 0 0,.bool false] 62
 let B:Obj:=.cells #[.slice ta top.length tc,.slice sa s.length sc] 22
 have hg2:W.grownBy ((W.alloc A).alloc B) none:=gTq (gBq _) (gBq _)
 have hbB:((W.alloc A).alloc B).heap[W.heap.size + 1]? = some B:=by
  have h:=heap_alloc_new (W.alloc A) B
  rwa [show (W.alloc A).heap.size = W.heap.size + 1 from by simp] at h
 have HC:=jh (concat_any hbB (ht.grow hg2) (hs.grow hg2) hn)
 have HBA:=jh (rNw W A B)
 have HG2:=jh hg2
 clear hs ht hg2 hbB
 go_enter Tryz.func108,Tryz.ntmps108
 go_wp2_with fail
 refine HC.out.mono ?_;rintro e w1 ⟨v,rfl,hrow,hg1⟩
 have hb1:w1.heap[W.heap.size]? = some A:=(hg1.block _ (Array.getElem?_eq_some_iff.1 HBA.out).1 (by simp)).trans HBA.out
 obtain ⟨va,vl,vc,e3⟩:=hrow.form3
 subst e3
 have q0:=c0q hb1
 have q1:=c1q hb1
 have q2:=free2_of hb1
 have HB1:=jh hb1
 have HR:=jh hrow
 have HG1:=jh (gTq HG2.out hg1)
 clear hb1 hrow hg1 HC
 go_wp2_with fail
 change bodyPost _ _ _ _ _ (set2 w1 W.heap.size (.slice va vl vc) (.bool false))
 have hb':=set2_block HB1.out (.slice va vl vc) (.bool false)
 have hg':=grow_set2 HG1.out (Nat.le_refl _) (.slice va vl vc) (.bool false)
 have hr':=HR.out.set HB1.out (.slice va vl vc) (.bool false)
 generalize set2 w1 W.heap.size (.slice va vl vc) (.bool false) = wf at *
 have z0:=c0q hb'
 have z1:=c1q hb'
 exact bodyPost_ret (v:=.tuple #[.agg #[.slice va vl vc,.bool false],.int .i64 0]) (by simp [results,Tryz.results108,go_sem,z0,z1]) rfl ⟨hg',.inr ⟨false,_,_,_,_,rfl,rfl,hr'⟩⟩
def insV (p n:Int) (ta:Option Addr) (tl tc:Nat) (ra:Option Addr) (rl rc:Nat) (dk dn dp:Int) (ds:ByteArray) (da:Option Addr) (dl dc:Nat):Value :=
 .agg #[.int .i64 p,.int .i64 n,.slice ta tl tc,.slice ra rl rc,.int .i64 dk,.int .i64 dn,.int .i64 dp,.string ds,.slice da dl dc]
theorem isOfTwo_any (p:Int) (W:World):Calls Tryz.prog 114 #[.int .i64 p] W fun e w'=>e = .returned (.bool (decide (p = 69 \/ p = 70 \/ p = 71 \/ p = 72))) /\ w' = W:=by
 have h:(decide (p = 69 \/ p = 70 \/ p = 71 \/ p = 72)) = (decide (p = 69) || (decide (p = 70) || (decide (p = 71) || decide (p = 72)))):=by simp [Bool.decide_or]
 rw [h]
 by_cases h1:p = 69
 ·subst h1;go_enter Tryz.func114,Tryz.ntmps114;go_wp2_with fail;go_ret;exact ⟨rfl,rfl⟩
 ·by_cases h2:p = 70
  ·subst h2;go_enter Tryz.func114,Tryz.ntmps114;go_wp2_with fail;go_ret;exact ⟨rfl,rfl⟩
  ·by_cases h3:p = 71
   ·subst h3;go_enter Tryz.func114,Tryz.ntmps114;go_wp2_with fail;go_ret;exact ⟨rfl,rfl⟩
   ·by_cases h4:p = 72
    ·subst h4;go_enter Tryz.func114,Tryz.ntmps114;go_wp2_with fail;go_ret;exact ⟨rfl,rfl⟩
    ·have q1:(p == 69) = false:=by simpa using h1
     have q2:(p == 70) = false:=by simpa using h2
     have q3:(p == 71) = false:=by simpa using h3
     have q4:(p == 72) = false:=by simpa using h4
     go_enter Tryz.func114,Tryz.ntmps114
     go_wp2_with fail
     go_ret
     exact ⟨by simp [h1,h2,h3,h4],rfl⟩
theorem RowC.at {w:World} {s:List Ty} {sa:Option Addr} {sl sc:Nat} (h:RowC w s (.slice sa sl sc)) (i:Nat) (hi:i < s.length):∃ b o t a l k,sa = some ⟨b,o,none⟩ /\ w.cell? ⟨b,o + 2 * i,none⟩ = some (.int .i64 t) /\ w.cell? ⟨b,o + (2 * i + 1),none⟩ = some (.slice a l k) /\ LiesT (fun _=>True) w (tAq s i) (Go.Proofs.YtkglnoimbekhhaaGreat.tyV t a l k):=by
 obtain ⟨a',c,V,e,h1,hr⟩:=h
 simp only [Value.slice.injEq] at e
 obtain ⟨rfl,rfl,rfl⟩:=e
 obtain ⟨b,o,rfl,_,t,a,l,k,hv,h0,h2⟩:=hr.2.1 i hi
 have hL:=hr.2.2 i hi
 rw [hv] at hL
 refine ⟨b,o,t,a,l,k,rfl,?_,?_,?_⟩
 ·rw [Nat.mul_comm];exact h0
 ·rw [Nat.mul_comm,← Nat.add_assoc];exact h2
 ·unfold tAq;rw [List.getElem?_eq_getElem hi];exact hL
theorem kDq {w w':World} {R l c:Nat} {a:Option Addr} {f:Bool} {T:TypeId} (hb:w.heap[R]? = some (.cells #[.slice a l c,.bool f] T (0,0))) (hg:w.grownBy w' (some R)) {b o o2:Nat} {z:Int} {v:Value} (h:w.cell? ⟨b,o,none⟩ = some (.int .i64 z)) (h2:w.cell? ⟨b,o2,none⟩ = some v):w'.cell? ⟨b,o2,none⟩ = some v:=by
 by_cases e:b = R
 ·subst e;exact absurd h (not_typed hb o z)
 ·exact (World.cell?_of_block (hg.block b (World.block_lt_of_cell? w _ h) (by simpa using e))).trans h2
theorem start2 (W:World) (I R:Obj):W.grownBy ((W.alloc I).alloc R) none /\ ((W.alloc I).alloc R).heap[W.heap.size]? = some I /\ ((W.alloc I).alloc R).heap[W.heap.size + 1]? = some R:=by
 refine ⟨gTq (gBq _) (gBq _),rNw W I R,?_⟩
 have h:=heap_alloc_new (W.alloc I) R
 rwa [show (W.alloc I).heap.size = W.heap.size + 1 from by simp] at h
theorem start3 (W:World) (I R K:Obj):W.grownBy (((W.alloc I).alloc R).alloc K) none /\ (((W.alloc I).alloc R).alloc K).heap[W.heap.size]? = some I /\ (((W.alloc I).alloc R).alloc K).heap[W.heap.size + 1]? = some R /\ (((W.alloc I).alloc R).alloc K).heap[W.heap.size + 1 + 1]? = some K:=by
 obtain ⟨h1,h2,h3⟩:=start2 W I R
 refine ⟨gTq h1 (gBq _),heap_keep h2,heap_keep h3,?_⟩
 have h:=heap_alloc_new ((W.alloc I).alloc R) K
 rwa [show ((W.alloc I).alloc R).heap.size = W.heap.size + 1 + 1 from by simp] at h
theorem grow_setR {w0 w:World} {R:Nat} {x y:Value} (h:w0.grownBy w (some R)):w0.grownBy ((w.setCell ⟨R,0,none⟩ x).setCell ⟨R,1,none⟩ y) (some R):=gSq (gSq h _ _ _) _ _ _
theorem led_end {W W3 w4 w5:World} {r:Led} {e:Ending} {o:Obj} {R l c:Nat} {a:Option Addr} {f:Bool} {T:TypeId} (hp:LPq r w4 e w5) (hg3:W.grownBy W3 none) (hg4:W3.grownBy w4 none) (hR:W.heap.size <= R) (hb:W3.heap[R]? = some (.cells #[.slice a l c,.bool f] T (0,0))) :
 ∃ a' l' c' f' er,e = .returned (.tuple #[.agg #[.slice a' l' c',.bool f'],.int .i64 er]) /\ w5.heap[R]? = some (.cells #[.slice a l c,.bool f] T (0,0)) /\ W3.grownBy w5 (some R) /\ LPq r W e (set2 w5 R (.slice a' l' c') (.bool f')):=by
 obtain ⟨a',l',c',f',er,h1,h2,h3,h4⟩:=hp.lift (gTq hg3 hg4) hR ((hg4.block R (Array.getElem?_eq_some_iff.1 hb).1 (by simp)).trans hb)
 exact ⟨a',l',c',f',er,h1,h2,gAq (gTq hg4 hp.1),h4⟩
theorem lFq {W W3 w4 w5:World} {r:Led} {e:Ending} {l c:Nat} {a:Option Addr} {f:Bool} {T:TypeId} (hp:LPq r w4 e w5) (hg3:W.grownBy W3 none) (hg4:W3.grownBy w4 none) (hb:W3.heap[W.heap.size + 1]? = some (.cells #[.slice a l c,.bool f] T (0,0))) :
 ∃ a' l' c' f' er,e = .returned (.tuple #[.agg #[.slice a' l' c',.bool f'],.int .i64 er]) /\ W3.grownBy w5 (some (W.heap.size + 1)) /\ w5.cell? ⟨W.heap.size + 1,0,none⟩ = some (.slice a l c) /\ w5.cell? ⟨W.heap.size + 1,1,none⟩ = some (.bool f) /\ (∀ o,w5.frozen? ⟨W.heap.size + 1,o,none⟩ = false) /\
  Hid (w5.heap[W.heap.size + 1]? = some (.cells #[.slice a l c,.bool f] T (0,0))) /\ Hid (LPq r W e (set2 w5 (W.heap.size + 1) (.slice a' l' c') (.bool f'))):=by
 obtain ⟨a',l',c',f',er,h1,h2,h3,h4⟩:=led_end (o:=.cells #[] 0) hp hg3 hg4 (Nat.le_succ _) hb
 exact ⟨a',l',c',f',er,h1,h3,c0q h2,c1q h2,free2_of h2,h2,h4⟩
theorem eLq {P:Program} {fn:Func} {W w5:World} {R:Nat} {r:Led} {ac:Act} {a a5:Option Addr} {l c l5 c5:Nat} {f f5:Bool} {er5:Int} {T:TypeId}
 (hres:∀ w:World,w.cell? ⟨R,0,none⟩ = some (.slice a5 l5 c5) -> w.cell? ⟨R,1,none⟩ = some (.bool f5) -> (results fn ac.tmps).run P w = .ok (.tuple #[.agg #[.slice a5 l5 c5,.bool f5],.int .i64 er5]) w)
 (hd:ac.defers = []) (hb:w5.heap[R]? = some (.cells #[.slice a l c,.bool f] T (0,0))) (hl:LPq r W (.returned (.tuple #[.agg #[.slice a5 l5 c5,.bool f5],.int .i64 er5])) (set2 w5 R (.slice a5 l5 c5) (.bool f5))) :
 bodyPost P fn (LPq r W) .ret ac (set2 w5 R (.slice a5 l5 c5) (.bool f5)):=by
 have hb':=set2_block hb (.slice a5 l5 c5) (.bool f5)
 exact bodyPost_ret (hres _ (c0q hb') (c1q hb')) hd hl
theorem kNq {w w':World} {a:Addr} {v:Value} (hg:w.grownBy w' none) (h:w.cell? a = some v):w'.cell? a = some v:=(World.cell?_of_block (hg.block _ (World.block_lt_of_cell? w _ h) (by simp))).trans h
theorem kBq {w w':World} {b:Nat} {o:Obj} (h:w.heap[b]? = some o) (hg:w.grownBy w' none):w'.heap[b]? = some o:=(hg.block _ (Array.getElem?_eq_some_iff.1 h).1 (by simp)).trans h
theorem bCq {w w':World} {b:Nat} {o:Obj} (h:Hid (w.heap[b]? = some o)) (g:w.grownBy w' none):Hid (w'.heap[b]? = some o):=kBq h.out g
theorem LiesT.low {w:World} {T:Ty} {v:Value} (h:LiesT (fun _=>True) w T v):LiesT (· < w.heap.size) w T v:=h.okMono (fun b hb _=>hb)
theorem fails_led {W w:World} {T:TypeId} {R l c:Nat} {a:Option Addr} {f:Bool} (hg:W.grownBy w none) (hb:w.heap[R]? = some (.cells #[.slice a l c,.bool f] T (0,0))) (hR:W.heap.size <= R:=by exact Nat.le_succ _):LPq (.ok true []) W (.returned (.tuple #[.agg #[.slice none 0 0,.bool true],.int .i64 0])) (set2 w R (.slice none 0 0) (.bool true)) :=
 ⟨grow_set2 hg hR _ _,.inr ⟨true,[],none,0,0,rfl,rfl,RowC.nil _ _ _⟩⟩
theorem new_at {w:World} {o:Obj} {n:Nat} (h:w.heap.size = n):(w.alloc o).heap[n]? = some o:=h ▸ heap_alloc_new w o
theorem new_two2 (w:World) (o o':Obj):((w.alloc o).alloc o').heap[w.heap.size + 1]? = some o':=by
 have h:=heap_alloc_new (w.alloc o) o'
 rwa [show (w.alloc o).heap.size = w.heap.size + 1 from by simp] at h
theorem undrew {w w':World} {r:Option Nat} (h:w.drew.grownBy w' r):w.grownBy w' r:=⟨h.os,h.tape,h.output,h.size,h.block⟩
theorem RowC.dr {w:World} {ts:List Ty} {u:Value} (h:RowC w ts u):RowC w.drew ts u:=h.grow (gDr (gRf _ _))
theorem keepI {w w':World} {g:Nat} {o:Obj} (h:w.heap[g]? = some o) (hg:w.grownBy w' (some (g + 1))):w'.heap[g]? = some o:=(hg.block g (Array.getElem?_eq_some_iff.1 h).1 (by simp)).trans h
theorem kinds1 {w:World} {b:Nat} {k:Int} {T:TypeId} (h:w.heap[b]? = some (.cells #[.int .i64 k] T (0,0))):∀ i (hi:i < [k].length),w.cell? ⟨b,i,none⟩ = some (.int .i64 ([k][i])):=fun i hi=>by
 obtain rfl:i = 0:=by simp at hi;omega
 simp [World.cell?,h]
theorem kinds2 {w:World} {b:Nat} {k l:Int} {T:TypeId} (h:w.heap[b]? = some (.cells #[.int .i64 k,.int .i64 l] T (0,0))):∀ i (hi:i < [k,l].length),w.cell? ⟨b,i,none⟩ = some (.int .i64 ([k,l][i])):=fun i hi=>by
 rcases (show i = 0 \/ i = 1 by simp at hi;omega) with rfl | rfl <;> simp [World.cell?,h]
theorem kinds3 {w:World} {b:Nat} {k l m:Int} {T:TypeId} (h:w.heap[b]? = some (.cells #[.int .i64 k,.int .i64 l,.int .i64 m] T (0,0))):∀ i (hi:i < [k,l,m].length),w.cell? ⟨b,i,none⟩ = some (.int .i64 ([k,l,m][i])):=fun i hi=>by
 rcases (show i = 0 \/ i = 1 \/ i = 2 by simp at hi;omega) with rfl | rfl | rfl <;> simp [World.cell?,h]
theorem stand_at {s:List Ty} {ks:List Int} (h:sFq s ks = true) (i:Nat) (k:Int) (hk:ks[i]? = some k) (h0:k ≠ 0):(tAq s i).t = k:=by
 obtain ⟨h1,h2⟩:=(stand_iff s ks).1 h
 obtain ⟨hi,e⟩:=List.getElem?_eq_some_iff.1 hk
 have hi2:i < s.length:=by omega
 have:=h2 i hi hi2
 rw [e] at this
 unfold tAq
 rw [List.getElem?_eq_getElem hi2]
 rcases this with h | h
 ·exact absurd h h0
 ·exact h
theorem good_at {s:List Ty} (h:s.all gYq = true) {i:Nat} (hi:i < s.length):gYq (tAq s i) = true:=by
 unfold tAq
 rw [List.getElem?_eq_getElem hi]
 exact List.all_eq_true.1 h _ (List.getElem_mem hi)
theorem good_cnt {T:Ty} (h:gYq T = true):(T.args.length:Int) = partsF T.t:=by
 obtain ⟨t,args⟩:=T
 simp only [gYq,fBq,Bool.and_eq_true,decide_eq_true_eq] at h
 exact h.1.1.1.2.2
theorem cAq {s:List Ty} {ks:List Int} (h:sFq s ks = true) (hg:s.all gYq = true) (i:Nat) (k:Int) (n:Nat) (hk:ks[i]? = some k) (h0:k ≠ 0) (hn:partsF k = n):(tAq s i).args.length = n:=by
 have hi:i < s.length:=by
  have h1:=slq h
  have h2:=(List.getElem?_eq_some_iff.1 hk).1
  omega
 have h1:=good_cnt (good_at hg hi)
 rw [stand_at h i k hk h0,hn] at h1
 omega
set_option linter.unusedSimpArgs false
mutual
theorem formedB_less (d:Nat):∀ (T:Ty),fBq (d + 1) T = true -> fBq d T = true
 | .nd t args,h=>by
  simp only [fBq,Bool.and_eq_true,decide_eq_true_eq] at h ⊢
  exact ⟨⟨by omega,h.1.2⟩,formedBs_less (d + 1) args h.2⟩
theorem formedBs_less (d:Nat):∀ (l:List Ty),formedBs (d + 1) l = true -> formedBs d l = true
 | [],_=>rfl
 | T :: l,h=>by
  simp only [formedBs,Bool.and_eq_true] at h ⊢
  exact ⟨formedB_less d T h.1,formedBs_less d l h.2⟩
end
theorem good_parts {t:Int} {args:List Ty} (h:gYq (.nd t args) = true):args.all gYq = true:=by
 rw [List.all_eq_true]
 intro T hT
 obtain ⟨h1,h2,h3⟩:=goodTy_formed h
 simp only [fBq,Bool.and_eq_true,formedBs_all,List.all_eq_true] at h1
 have h4:=formedB_less 1 T (h1.2 T hT)
 have h5:keyedF T = true:=by
  simp only [keyedF,Bool.and_eq_true,keyedFs_all,List.all_eq_true] at h3
  exact h3.2 T hT
 have h6:T.size <= 300:=by
  have:=tysize_mem hT
  simp only [Ty.size] at h2
  omega
 simp [gYq,h4,h5,h6]
theorem good_args {T:Ty} (h:gYq T = true):T.args.all gYq = true:=by
 obtain ⟨t,args⟩:=T
 exact good_parts h
theorem good_pair {args:List Ty} (h:gYq (.nd 13 args) = true):gYq (.nd 11 args) = true:=by
 obtain ⟨h1,h2,h3⟩:=goodTy_formed h
 simp only [fBq,Bool.and_eq_true,decide_eq_true_eq] at h1
 simp only [keyedF,Bool.and_eq_true] at h3
 simp only [Ty.size] at h2
 simp only [gYq,fBq,keyedF,Ty.size,Bool.and_eq_true,decide_eq_true_eq]
 refine ⟨⟨⟨⟨h1.1.1,by decide,?_⟩,h1.2⟩,by simpa using h2⟩,?_,h3.2⟩
 ·have:=h1.1.2.2
  simpa [partsF] using this
 ·simp [keyHere]
theorem good_app {a b:List Ty} (ha:a.all gYq = true) (hb:b.all gYq = true):(a ++ b).all gYq = true:=by rw [List.all_append,ha,hb];rfl
theorem good_drop {s:List Ty} (h:s.all gYq = true) (k:Nat):(s.drop k).all gYq = true:=List.all_eq_true.2 fun x hx=>List.all_eq_true.1 h x (List.mem_of_mem_drop hx)
theorem good_take {s:List Ty} (h:s.all gYq = true) (k:Nat):(s.take k).all gYq = true:=List.all_eq_true.2 fun x hx=>List.all_eq_true.1 h x (List.mem_of_mem_take hx)
theorem good_pairT {T:Ty} (h:gYq T = true) (ht:T.t = 13):gYq (.nd 11 T.args) = true:=by
 obtain ⟨t,args⟩:=T
 simp only [Ty.t] at ht
 subst ht
 exact good_pair h
end Go.Proofs.YtkglnoimbekhhaaGreat
