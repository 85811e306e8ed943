import Derived.Test.YtgfdimkbfnpepaaGreatKfZah
namespace Go.Proofs.YtgfdimkbfnpepaaGreat
set_option linter.all false
open Go.Proofs.Tryz
set_option maxRecDepth 100000
set_option maxHeartbeats 4000000
inductive iF where
 | no (e:Int)
 | ok (f:Bool) (ts:List Ty)
def sFq:ao->List Int->Bool
 | _,[]=>true
 | [],_::_=>false
 | T::s,k::ks=>(decide (k=0)||decide (T.t=k))&&sFq s ks
structure Ins where
 p:Int
 n:Int
 types:ao
 rows:List aE
 data:Tr
def tr0:Tr:=.nd 0 0 0 ⟨#[]⟩ []
def bR (p:Int):bw :=
 if p=41\/p=43\/p=44 then [110]
 else if p=45 then [116,118]
 else if p=50\/p=51\/p=54\/p=56\/p=82\/p=88 then [116]
 else if p=61 then [116,117]
 else if p=52\/p=55\/p=58\/p=64 then [99,100]
 else if p=60\/p=65\/p=68 then [99]
 else if p=66 then [116,117,99]
 else []
def iy (i:Ins) (f:UInt8) (t:Tr):Option Ins :=
 if f=110 then (if t.k0=0/\0<=t.n0/\t.n0<=40 then some { i with n:=t.n0 } else none)
 else if f=116\/f=117 then (if fu t then some { i with types:=i.types++[kreadT t] } else none)
 else if f=99\/f=100 then (if t.k0=3 then some { i with rows:=i.rows++[t.args0] } else none)
 else some { i with data:=t }
def takesF:Ins->bw->aE->Option Ins
 | i,f::fs,t::l=>match iy i f t with
  | none=>none
  | some j=>takesF j fs l
 | i,[],_=>some i
 | i,_::_,[]=>some i
def iY (t:Tr):Option Ins :=
 if t.k0=2/\40<=t.p0/\t.args0.length=(bR t.p0).length then takesF ⟨t.p0,0,[],[],tr0⟩ (bR t.p0) t.args0 else none
mutual
def mintsT:Tr->Bool
 | .nd k _ p _ args=>(decide (k=2/\p=84))||mintsTs args
def mintsTs:aE->Bool
 | []=>false
 | t::l=>mintsT t||mintsTs l
end
def fQ (s top:ao):iF:=.ok false (top++s)
def meetF:iF->iF->iF
 | .no e,_=>.no e
 | .ok _ _,.no e=>.no e
 | .ok f a,.ok g b=>if f then .ok g b else if g\/sameTs a b then .ok f a else .no 5
def rowAt (i:Ins) (k:Nat):aE:=(i.rows[k]?).getD []
def iC (row:aE->ao->iF) (i:Ins) (s x y:ao):iF:=meetF (row (rowAt i 0) (x++s)) (row (rowAt i 1) (y++s))
def dM (row:aE->ao->iF) (i:Ins) (x y z:ao):iF:=match meetF (row (rowAt i 0) x) (fQ y [])with
 | .no e=>.no e
 | .ok _ _=>fQ z []
def l7 (row:aE->ao->iF) (i:Ins) (top:Ty) (s:ao):iF:=match row (rowAt i 0) s with
 | .no e=>.no e
 | .ok f ts=>if f then .no 1 else fQ ts [top]
def dG (i:Ins) (s:ao):iF :=
 if i.p=40/\sFq s [0]then fQ (s.drop 1) []
 else if i.p=41/\1<=i.n/\i.n<=s.length/\A7 (bB s (i.n.toNat - 1))then fQ s [bB s (i.n.toNat - 1)]
 else if i.p=42/\sFq s [0,0]then fQ (s.drop 2) [bB s 1,bB s 0]
 else if i.p=43/\i.n<s.length then fQ (s.take i.n.toNat++s.drop (i.n.toNat+1)) [bB s i.n.toNat]
 else if i.p=44/\i.n<s.length then fQ (s.take 1++s.drop (i.n.toNat+1)) ((s.drop 1).take i.n.toNat)
 else .no 5
def bO (i:Ins) (s:ao):iF :=
 if i.p=46/\sFq s [0,0]then fQ (s.drop 2) [.nd 11 [bB s 0,bB s 1]]
 else if i.p=47/\sFq s [11]then fQ (s.drop 1) (bB s 0).args
 else if i.p=48/\sFq s [11]then fQ (s.drop 1) [bB (bB s 0).args 0]
 else if i.p=49/\sFq s [11]then fQ (s.drop 1) [bB (bB s 0).args 1]
 else if i.p=50/\sFq s [0]then fQ (s.drop 1) [.nd 12 [bB s 0,bB i.types 0]]
 else if i.p=51/\sFq s [0]then fQ (s.drop 1) [.nd 12 [bB i.types 0,bB s 0]]
 else if i.p=53/\sFq s [0]then fQ (s.drop 1) [.nd 9 [bB s 0]]
 else if i.p=54 then fQ s [.nd 9 [bB i.types 0]]
 else .no 5
def aP (i:Ins) (s:ao):iF :=
 if i.p=56 then fQ s [.nd 10 [bB i.types 0]]
 else if i.p=57/\sFq s [0,10]/\sameT (bB s 0) (bB (bB s 1).args 0)then fQ (s.drop 1) []
 else if i.p=59/\(sFq s [6]\/sFq s [10]\/sFq s [13])then fQ (s.drop 1) [.nd 4 []]
 else if i.p=61/\oF (bB i.types 0)then fQ s [.nd 13 i.types]
 else if i.p=62/\sFq s [0,13]/\sameT (bB s 0) (bB (bB s 1).args 0)/\A7 (bB (bB s 1).args 1)then fQ (s.drop 2) [.nd 9 [bB (bB s 1).args 1]]
 else if i.p=63/\sFq s [0,9,13]/\sameT (bB s 0) (bB (bB s 2).args 0)/\sameT (bB (bB s 1).args 0) (bB (bB s 2).args 1)then fQ (s.drop 2) []
 else .no 5
def eG (row:aE->ao->iF) (i:Ins) (s:ao):iF :=
 if i.p=52/\sFq s [12]then iC row i (s.drop 1) ((bB s 0).args.take 1) ((bB s 0).args.drop 1)
 else if i.p=55/\sFq s [9]then iC row i (s.drop 1) [] (bB s 0).args
 else if i.p=58/\sFq s [10]then iC row i (s.drop 1) [bB (bB s 0).args 0,bB s 0] []
 else if i.p=64/\sFq s [2]then iC row i (s.drop 1) [] []
 else .no 5
def bP (row:aE->ao->iF) (i:Ins) (s:ao):iF :=
 if i.p=60/\sFq s [10]then dM row i ((bB s 0).args++s.drop 1) (s.drop 1) (s.drop 1)
 else if i.p=60/\sFq s [13]then dM row i ([.nd 11 (bB s 0).args]++s.drop 1) (s.drop 1) (s.drop 1)
 else if i.p=65/\sFq s [2]then dM row i (s.drop 1) s (s.drop 1)
 else if i.p=66/\mintsTs (rowAt i 0)=false then dM row i (i.types.take 1) (i.types.drop 1) ([.nd 14 i.types]++s)
 else if i.p=67/\sFq s [0,14]/\sameT (bB s 0) (bB (bB s 1).args 0)then fQ (s.drop 2) [bB (bB s 1).args 1]
 else if i.p=68/\sFq s [0]then l7 row i (bB s 0) (s.drop 1)
 else .no 5
def zC (t:Int):Bool:=decide (t=3\/t=4)
def Jt (q r:Ty):Ty:=.nd 9 [.nd 11 [q,r]]
def IP (p a b:Int):Option Ty :=
 if p=69/\a=5/\b=5 then some (.nd 5 [])
 else if p=70/\a=5/\b=5 then some (.nd 9 [.nd 5 []])
 else if p=71/\(a=5/\b=4\/a=4/\b=5)then some (.nd 5 [])
 else if p=72/\a=5/\b=5 then some (Jt (.nd 4 []) (.nd 5 []))
 else if p=72/\a=5/\b=4 then some (Jt (.nd 5 []) (.nd 5 []))
 else if zC a=false\/zC b=false then none
 else if p=72/\a=4/\b=4 then some (Jt (.nd 4 []) (.nd 4 []))
 else if p=72 then some (Jt (.nd 3 []) (.nd 4 []))
 else if p≠70/\a=4/\b=4 then some (.nd 4 [])
 else some (.nd 3 [])
def bJ (i:Ins) (s:ao):iF :=
 if i.p=93/\sFq s [3]then fQ (s.drop 1) [.nd 4 []]
 else if i.p=94/\sFq s [3]then fQ (s.drop 1) [.nd 9 [.nd 4 []]]
 else if i.p=95/\sFq s [4]then fQ (s.drop 1) [.nd 3 []]
 else if (i.p=69\/i.p=70\/i.p=71\/i.p=72)/\sFq s [0,0]then (match IP i.p (bB s 0).t (bB s 1).t with
  | some T=>fQ (s.drop 2) [T]
  | none=>.no 5)
 else .no 5
def dI (i:Ins) (s:ao):iF :=
 if i.p=73/\sFq s [0,0]/\sameT (bB s 0) (bB s 1)/\oF (bB s 0)then fQ (s.drop 2) [.nd 3 []]
 else if (i.p=74\/i.p=75\/i.p=76)/\sFq s [3]then fQ (s.drop 1) [.nd 2 []]
 else if i.p=77/\sFq s [2]then fQ (s.drop 1) [.nd 2 []]
 else if (i.p=78\/i.p=79)/\sFq s [2,2]then fQ (s.drop 2) [.nd 2 []]
 else .no 5
def cZ (i:Ins) (s:ao):iF :=
 if i.p=45/\eB (bB i.types 0)/\(jf (bB i.types 0) i.data).isSome then fQ s [bB i.types 0]
 else if i.p=80/\sFq s [6,6]then fQ (s.drop 2) [.nd 6 []]
 else if i.p=81/\sFq s [0]/\eB (bB s 0)then fQ (s.drop 1) [.nd 6 []]
 else if i.p=82/\sFq s [6]/\eB (bB i.types 0)then fQ (s.drop 1) [.nd 9 [bB i.types 0]]
 else if i.p=83/\sFq s [0]/\eB (bB s 0)then .ok true []
 else .no 5
def bF (i:Ins) (s:ao):iF :=
 if i.p=84/\sFq s [0,4]/\oF (bB s 0)then fQ (s.drop 2) [.nd 9 [.nd 15 [bB s 0]]]
 else if i.p=85/\sFq s [15]then fQ s [.nd 11 [.nd 7 [],.nd 11 [bB (bB s 0).args 0,.nd 4 []]]]
 else if i.p=86/\sFq s [15,11]/\sFq (bB s 1).args [4,4]then fQ (s.drop 2) [.nd 9 [.nd 11 [bB s 0,bB s 0]]]
 else if i.p=87/\sFq s [11]/\sFq (bB s 0).args [15,15]/\sameT (bB (bB s 0).args 0) (bB (bB s 0).args 1)then fQ (s.drop 1) [.nd 9 [bB (bB s 0).args 0]]
 else .no 5
def dO (i:Ins) (s:ao):iF :=
 if i.p=88/\sFq s [0,5,7]/\sameT (bB s 0) (bB i.types 0)/\storeT (bB s 0)then fQ (s.drop 3) [.nd 8 []]
 else if i.p=89\/i.p=90 then fQ s [.nd 7 []]
 else if i.p=91\/i.p=92 then fQ s [.nd 5 []]
 else .no 5
def vP (row:aE->ao->iF) (i:Ins) (s:ao):iF :=
 if i.p=40\/i.p=41\/i.p=42\/i.p=43\/i.p=44 then dG i s
 else if i.p=46\/i.p=47\/i.p=48\/i.p=49\/i.p=50\/i.p=51\/i.p=53\/i.p=54 then bO i s
 else if i.p=56\/i.p=57\/i.p=59\/i.p=61\/i.p=62\/i.p=63 then aP i s
 else if i.p=52\/i.p=55\/i.p=58\/i.p=64 then eG row i s
 else if i.p=60\/i.p=65\/i.p=66\/i.p=67\/i.p=68 then bP row i s
 else if i.p=69\/i.p=70\/i.p=71\/i.p=72\/i.p=93\/i.p=94\/i.p=95 then bJ i s
 else if i.p=73\/i.p=74\/i.p=75\/i.p=76\/i.p=77\/i.p=78\/i.p=79 then dI i s
 else if i.p=45\/i.p=80\/i.p=81\/i.p=82\/i.p=83 then cZ i s
 else if i.p=84\/i.p=85\/i.p=86\/i.p=87 then bF i s
 else dO i s
def keptF:iF->iF
 | .no e=>.no e
 | .ok f ts=>if 40<ts.length then .no 7 else if ts.all bn then .ok f ts else .no 4
def iG (st:Tr->ao->iF):aE->Bool->ao->iF
 | [],f,s=>.ok f s
 | t::l,f,s=>if f then .no 1 else match keptF (st t s)with
  | .no e=>.no e
  | .ok g s'=>iG st l g s'
def stepF:Nat->Tr->ao->iF
 | 0,_,_=>.no 1
 | N+1,t,s=>if t.k0=3 then iG (stepF N) t.args0 false s else match iY t with
  | none=>.no 1
  | some i=>vP (λl s=>iG (stepF N) l false s) i s
def codeF (n:Tr) (s:ao):iF :=
 if dS n≠0 then .no (dS n)else if n.k0≠3 then .no 1 else if 40<s.length then .no 7 else if s.all bn then iG (stepF 300) n.args0 false s else .no 5
def nP{r:iF}{f:Bool}{ts:ao}(h:keptF r =.ok f ts):r =.ok f ts/\ts.length<=40/\ts.all bn:=by
 cases r with
 | no e=>simp[keptF]at h
 | ok g c =>
  simp only[keptF]at h
  by_cases a:40<c.length
  .simp[a]at h
  .by_cases b:c.all bn
   .rw[if_neg a,if_pos b]at h;injection h with d i;subst d;subst i;exact⟨rfl,od,b⟩
   .rw[if_neg a,if_neg b]at h;cases h
def kT (r:iF):Prop:=∀ts,r =.ok true ts->ts=[]
def Ec{st:Tr->ao->iF}(a:∀t s,kT (st t s)):∀(l:aE) (f:Bool) (s:ao) {g:Bool}{ts:ao},s.length<=40->s.all bn->(f->s=[])->iG st l f s =.ok g ts->ts.length<=40/\ts.all bn/\(g->ts=[])
 | [],f,s,g,ts,c,d,i,h=>by simp only[iG,iF.ok.injEq]at h;obtain⟨rfl,rfl⟩:=h;exact⟨c,d,i⟩
 | t::l,f,s,g,ts,c,d,i,h=>by
  simp only[iG]at h
  by_cases j:f
  .simp[j]at h
  .simp only[j]at h
   cases hk:keptF (st t s)with
   | no e=>simp[hk]at h
   | ok m k =>
    simp only[hk]at h;have⟨e,n,o⟩:=nP hk;exact Ec a l m k n o (λb=>a t s k (by rw[e,b])) (by simpa using h)
def vg(s top:ao):kT (fQ s top):=λa h=>by simp[fQ]at h
def jy(e:Int):kT (.no e):=λa h=>by simp at h
def noTys_fail:kT (.ok true []):=λa h=>by simp at h;exact h
def NQ{c:Prop}[Decidable c]{a b:iF}(d:kT a)(hb:kT b):kT (if c then a else b):=by
 by_cases h:c
 .rw[if_pos h];exact d
 .rw[if_neg h];exact hb
def NR{o:Option Ty}{g:Ty->iF}(a:∀T,kT (g T)){e:Int} : kT (match o with
 | some T=>g T
 | none=>.no e):=by
 cases o with
 | none=>exact jy e
 | some T=>exact a T
def JU{a b:iF}(c:kT a)(hb:kT b):kT (meetF a b):=by
 cases a with
 | no e=>exact jy e
 | ok f x =>
  cases b with
  | no e=>exact jy e
  | ok g y =>
   simp only[meetF];split
   .exact hb
   .split
    .exact c
    .exact jy 5
def ze{st:Tr->ao->iF}(a:∀t s,kT (st t s)):∀(l:aE) (f:Bool) (s:ao),(f->s=[])->kT (iG st l f s)
 | [],f,s,h=>λg e=>by simp only[iG,iF.ok.injEq]at e;obtain⟨rfl,rfl⟩:=e;exact h rfl
 | t::l,f,s,h=>by
  simp only[iG];split
  .exact jy 1
  .cases hk:keptF (st t s)with
   | no e=>exact jy e
   | ok d c=>exact ze a l d c (λb=>a t s c (by rw[(nP hk).1,b]))
def NP{row:aE->ao->iF}(b:∀l s,kT (row l s))(i:Ins)(s:ao):kT (vP row i s):=by
 have d:∀s x y,kT (iC row i s x y):=λs x y=>JU (b _ _) (b _ _);have e:∀x y z,kT (dM row i x y z):=λx y z=>by
  unfold dM;split
  .exact jy _
  .exact vg _ _
 have c:∀a s,kT (l7 row i a s):=λa s=>by
  unfold l7;split
  .exact jy _
  .split
   .exact jy 1
   .exact vg _ _
 unfold vP dG bO aP eG bP bJ dI cZ bF dO
 repeat' apply NQ
 all_goals first|exact vg _ _|exact jy _|exact noTys_fail|exact d _ _ _|exact e _ _ _|exact c _ _|exact NR (λT=>vg _ _)
def noTys_step:∀(N:Nat) (t:Tr) (s:ao),kT (stepF N t s)
 | 0,t,s=>jy 1
 | N+1,t,s=>by
  rw[stepF];split
  .exact ze (noTys_step N) _ _ _ ot
  .split
   .exact jy 1
   .exact NP (λl s=>ze (noTys_step N) _ _ _ ot) _ _
def slq:∀{s:ao}{ks:List Int},sFq s ks->ks.length<=s.length
 | _,[],_=>ot
 | [],_::_,h=>by simp[sFq]at h
 | T::s,k::ks,h=>by simp only[sFq,qu]at h;have:=slq h.2;simp;omega
open Go.ChangeShapes Go.WideShapes Go.ChangeAt Go.RowKit
def WL (r:iF) (W:bx) (e:Ending) (w':bx):Prop :=
 cm W w' none/\((∃er,r =.no er/\er≠0/\e =.returned (.tuple #[.agg #[.n0,.bool false],.i er]))\/∃f ts a l c,r =.ok f ts/\e =.returned (.tuple #[.agg #[.slice a l c,.bool f],.i 0])/\jo w' ts (.slice a l c))
def WL.of{r:iF}{W a:bx}{e:Ending}{w':bx}(h:WL r a e w')(b:cm W a none):WL r W e w':=⟨aJ b h.1,h.2⟩
def WL.form{r:iF}{W:bx}{e:Ending}{w':bx}(h:WL r W e w'):∃a l c f b,e =.returned (.tuple #[.agg #[.slice a l c,.bool f],.i b]):=by
 rcases h.2 with⟨b,_,_,rfl⟩|⟨f,d,a,l,c,_,rfl,_⟩
 .exact⟨_,_,_,_,_,rfl⟩
 .exact⟨_,_,_,_,_,rfl⟩
def NT{w:bx}{R l c:Nat}{a:bj}{f:Bool}{T:TypeId}(hb:w.heap[R]?=some (.cells #[.slice a l c,.bool f] T (0,0)))(n:Nat)(z:Int):w.cell? ⟨R,n,none⟩≠some (.i z):=by intro h;rcases n with _|_|n<;>simp[World.cell?,hb]at h
def rC.ne{ok:br}{w:bx}{R l c:Nat}{a:bj}{f:Bool}{T:TypeId}(hb:w.heap[R]?=some (.cells #[.slice a l c,.bool f] T (0,0))){p:bj}{i:Nat}{v:cg}(h:rC ok w p i v):rC (λb=>ok b/\b≠R) w p i v:=by have⟨b,o,e,n,t,g,r,j,q,d,m⟩:=h;exact⟨b,o,e,⟨n,λk=>by subst k;exact NT hb _ _ d⟩,t,g,r,j,q,d,m⟩
def aH.ne{ok:br}{w:bx}{R l c:Nat}{a:bj}{f:Bool}{T:TypeId}(hb:w.heap[R]?=some (.cells #[.slice a l c,.bool f] T (0,0))){t:Ty}{v:cg}(h:aH ok w t v):aH (λb=>ok b/\b≠R) w t v:=by
 induction h with
 | mk V j d m e _ k=>exact .mk V j d m (λi g=>(e i g).ne hb) k
def jo.set{w:bx}{ts:ao}{u:cg}(h:jo w ts u){R l c:Nat}{a:bj}{f:Bool}{T:TypeId}(hb:w.heap[R]?=some (.cells #[.slice a l c,.bool f] T (0,0)))(x y:cg):jo (set2 w R x y) ts u:=by have⟨m,n,V,e,p,j⟩:=h;have r:Same (λb=>True/\b≠R) w (set2 w R x y):=λb o q g=>qt ((vI w R x y).block b g (by have:=q.2;simp;omega));have k:dw (λb=>True/\b≠R) w ts m V:=⟨j.1,λi d=>(j.2.1 i d).ne hb,λi d=>(j.2.2 i d).ne hb⟩;exact⟨m,n,V,e,p,(k.same r).ae (λ_ _ _=>trivial)⟩
def stand_iff:∀(s:ao) (ks:List Int),sFq s ks ↔ ks.length<=s.length/\∀i (h:i<ks.length) (a:i<s.length),ks[i]=0\/(s[i]).t=ks[i]
 | s,[]=>by cases s<;>simp[sFq]
 | [],k::ks=>by simp[sFq]
 | T::s,k::ks=>by
  have f:=stand_iff s ks;simp only[sFq,qu,qd1,ki,f,jn,Nat.add_le_add_iff_right];constructor
  .rintro⟨b,a,c⟩;refine⟨a,λi d e=>?_⟩
   cases i with
   | zero=>exact b
   | succ i=>exact c i od od
  .rintro⟨b,a⟩;exact⟨a 0 od od,b,λi d e=>a (i+1) od od⟩
def Af (p n:Int) (ta:bj) (tl tc:Nat) (ra:bj) (rl rc:Nat) (dk dn dp:Int) (ds:bo) (da:bj) (dl dc:Nat):cg :=
 .agg #[.i p,.i n,.slice ta tl tc,.slice ra rl rc,.i dk,.i dn,.i dp,.string ds,.slice da dl dc]
def jo.at{w:bx}{s:ao}{sa:bj}{sl sc:Nat}(h:jo w s (.slice sa sl sc))(i:Nat)(hi:i<s.length):∃b o t a l k,sa=some ⟨b,o,none⟩/\w.cell? ⟨b,o+2*i,none⟩=some (.i t)/\w.cell? ⟨b,o+(2*i+1),none⟩=some (.slice a l k)/\aH (λ_=>True) w (bB s i) (Go.Proofs.YtgfdimkbfnpepaaGreat.bY t a l k):=by
 have⟨n,c,V,e,p,f⟩:=h;simp only[kj]at e;obtain⟨rfl,rfl,rfl⟩:=e;obtain⟨b,o,rfl,_,t,a,l,k,m,g,j⟩:=f.2.1 i hi;have d:=f.2.2 i hi;rw[m]at d;refine⟨b,o,t,a,l,k,rfl,?_,?_,?_⟩
 .rw[jb5];exact g
 .rw[jb5,<-qe6];exact j
 .unfold bB;rw[qn hi];exact d
def aat(W:bx)(I R:Obj):cm W ((W.alloc I).alloc R) none/\((W.alloc I).alloc R).heap[W.heap.size]?=some I/\((W.alloc I).alloc R).heap[W.heap.size+1]?=some R:=by refine⟨aJ (aK _) (aK _),CJ W I R,?_⟩;have h:=jj (W.alloc I) R;rwa [show (W.alloc I).heap.size=W.heap.size+1 from by simp]at h
def XJ(W:bx)(I R K:Obj):cm W (((W.alloc I).alloc R).alloc K) none/\(((W.alloc I).alloc R).alloc K).heap[W.heap.size]?=some I/\(((W.alloc I).alloc R).alloc K).heap[W.heap.size+1]?=some R/\(((W.alloc I).alloc R).alloc K).heap[W.heap.size+1+1]?=some K:=by have⟨a,b,c⟩:=aat W I R;refine⟨aJ a (aK _),aB b,aB c,?_⟩;have h:=jj ((W.alloc I).alloc R) K;rwa [show ((W.alloc I).alloc R).heap.size=W.heap.size+1+1 from by simp]at h
def JJ{w w':bx}{a:Addr}{v:cg}(b:cm w w' none)(h:w.cell? a=some v):w'.cell? a=some v:=(qt (b.block _ (zr w _ h) ot)).trans h
def l5{w w':bx}{b:Nat}{o:Obj}(h:w.heap[b]?=some o)(a:cm w w' none):w'.heap[b]?=some o:=(a.block _ (qq.1 h).1 ot).trans h
def ZI{w w':bx}{b:Nat}{o:Obj}(h:Hid (w.heap[b]?=some o))(g:cm w w' none):Hid (w'.heap[b]?=some o):=l5 h g
def aH.low{w:bx}{T:Ty}{v:cg}(h:aH (λ_=>True) w T v):aH (· < w.heap.size) w T v:=h.ae (λb a _=>a)
def KJ{w w':bx}{r:Option Nat}(h:w.drew.grownBy w' r):cm w w' r:=⟨h.os,h.tape,h.output,h.size,h.block⟩
def Ip{s:ao}{ks:List Int}(h:sFq s ks)(i:Nat)(k:Int)(hk:ks[i]?=some k)(b:k≠0):(bB s i).t=k:=by
 have⟨f,c⟩:=(stand_iff s ks).1 h;have⟨d,e⟩:=qv.1 hk;have a:i<s.length:=od
 have:=c i d a;rw[e]at this;unfold bB;rw[qn a];rcases this with h|h
 .exact absurd h b
 .exact h
def Lt{s:ao}(h:s.all bn){i:Nat}(hi:i<s.length):bn (bB s i):=by unfold bB;rw[qn hi];exact kB.1 h _ (kA hi)
def xL{T:Ty}(h:bn T):(T.args.length:Int)=bT T.t:=by have⟨t,args⟩:=T;simp only[bn,j5,qu,ki]at h;exact h.1.1.1.2.2
variable {K:br}
def Uf:(prog.info? 24).map (λi=>(i.zero,i.size,i.bytes))=some (some (.n0),1,24):=oA
def AU (B:Nat) (w:bx) (v:cg) (vs:bk):Prop:=w.ownsRow B 24 1 v vs.length vs
def bI.Y5{ok:br}{w:bx}{t:Tr}{v:cg}(h:bI ok w t v):∀{k n p:Int}{s:bo}{a:bj}{l c:Nat},v=Go.Proofs.YtgfdimkbfnpepaaGreat.af k n p s a l c->l<=c:=by
 cases h with
 | mk V d g j i m b f =>
  intro k n p s a l c e;simp only[Go.Proofs.YtgfdimkbfnpepaaGreat.af,qd4,qe4,xo,kj,and_true]at e;omega
structure kP (K:br) (WB w:bx) (ib:Nat) (types:ao) (rows:List aE) (tv rv:cg) (vs rvs:bk):Prop where
 grow:cm WB w (some ib)
 lt:ib<WB.heap.size
 nR:wS WB.heap.size w tv vs
 CU:vs.length=types.length
 LF:∀(k:Nat) (t:Ty) (u:cg),types[k]?=some t->vs[k]?=some u->aH (λb=>WB.heap.size<=b/\some b≠tv.ownBlock/\some b≠rv.ownBlock) w t u
 sD:AU WB.heap.size w rv rvs
 CS:rvs.length=rows.length
 LD:∀(k:Nat) (l:aE) (u:cg),rows[k]?=some l->rvs[k]?=some u->∃na nc VN,u =.slice na l.length nc/\l.length<=nc/\cK (λb=>K b/\b+1<ib) WB l na VN
def BL{w:bx}{B C:Nat}{e c:TypeId}{size a n l:Nat}{v v':cg}{xs b:bk}(h:w.ownsRow B e size v n xs)(i:w.ownsRow C c a v' l b)(j:e≠c):v.ownBlock=none\/v.ownBlock≠v'.ownBlock:=by
 rcases h.2 with⟨rfl,_⟩|⟨g,d,f,rfl,_,k,_⟩
 .exact .inl rfl
 .exact .inr (aD i k (Ne.symm j))
def kP.step{f w w':bx}{a:Nat}{types:ao}{rows:List aE}{i g:cg}{vs c:bk}(h:kP K f w a types rows i g vs c)(d:cm w w' (some a)):kP K f w' a types rows i g vs c:=by
 have m:=h.lt;refine⟨fF h.grow d,h.lt,yd h.nR d ?_,h.CU,λk t u n p=>(h.LF k t u n p).same ?_,yd h.sD d ?_,h.CS,h.LD⟩
 .refine .inr λe=>?_;have:=(zd h.nR a e).1;omega
 .intro b o j l;exact qt (d.block b l (by have:=j.1;simp;omega))
 .refine .inr λe=>?_;have:=(zd h.sD a e).1;omega
def kP.call{b w w':bx}{c:Nat}{types:ao}{rows:List aE}{e d:cg}{vs a:bk}(h:kP K b w c types rows e d vs a)(f:cm w w' none):kP K b w' c types rows e d vs a:=h.step (kL f)
def kP.YI{j w w':bx}{z:Nat}{types:ao}{rows:List aE}{tv m a:cg}{vs p:bk}{t:Ty}{u:cg}{S:Nat}(h:kP K j w z types rows tv m vs p)(J:j.heap.size<=S)(r:∀k,tv.ownBlock=some k->k<S)(C:∀k,m.ownBlock=some k->k<S)(D:aH (S <= ·) w t u)(d:Gr w tv w' a)(H:wS j.heap.size w' a (vs++[u])) :
 kP K j w' z (types++[t]) rows a m (vs++[u]) p:=by
 have n:=h.lt;have s:=BL h.sD h.nR ov;have v:∀t u,aH (λb=>j.heap.size<=b/\some b≠tv.ownBlock/\some b≠m.ownBlock) w t u->aH (λb=>j.heap.size<=b/\some b≠a.ownBlock/\some b≠m.ownBlock) w' t u:=by
  intro t u G;have r:=G.ae (ok':=λb=>j.heap.size<=b/\some b≠tv.ownBlock/\some b≠a.ownBlock/\some b≠m.ownBlock) (λb c hk=>⟨hk.1,hk.2.1,by
   rcases d.2 with e|⟨g,e,F⟩
   .rw[e];exact hk.2.1
   .rw[e];simp;omega,hk.2.2⟩)
  refine (r.same (w':=w') ?_).ae (λb _ c=>⟨c.1,c.2.2.1,c.2.2.2⟩);intro b o c n;exact qt (d.block n c.2.1)
 refine⟨?_,h.lt,H,by simp[h.CU],λk A B f l=>v A B ?_,yd h.sD d.1 s,h.CS,h.LD⟩
 .refine⟨d.1.os.trans h.grow.os,d.1.tape.trans h.grow.tape,d.1.output.trans h.grow.output,kl h.grow.size d.1.size,λi x I=>(d.1.block i (kh x h.grow.size) (λe=>by have:=(zd h.nR i e.symm).1;omega)).trans (h.grow.block i x I)⟩
 .by_cases hk:k<types.length
  .rw[ju hk]at f;rw[ju (by rw[h.CU];exact hk)]at l;exact h.LF k A B f l
  .rw[js od]at f;rw[js (by rw[h.CU];omega),h.CU]at l
   cases y:k - types.length with
   | zero =>
    rw[y]at f l;simp at f l;subst f;subst l;exact D.ae (λb _ c=>by
     have E:S<=b:=c;refine⟨od,λe=>?_,λe=>?_⟩
     .have:=r b e.symm;omega
     .have:=C b e.symm;omega)
   | succ q=>rw[y]at f;simp at f
def kP.YH{j w w':bx}{y:Nat}{types:ao}{rows:List aE}{tv s a:cg}{vs m:bk}{l:aE}{na:bj}{nc:Nat}{VN:bt}(h:kP K j w y types rows tv s vs m)(E:cK (λb=>K b/\b+1<y) j l na VN)(p:l.length<=nc)(d:Gr w s w' a)(H:AU j.heap.size w' a (m++[.slice na l.length nc])) :
 kP K j w' y types (rows++[l]) tv a vs (m++[.slice na l.length nc]):=by
 have r:=h.lt;have x:=BL h.nR h.sD ov;have z:∀t u,aH (λb=>j.heap.size<=b/\some b≠tv.ownBlock/\some b≠s.ownBlock) w t u->aH (λb=>j.heap.size<=b/\some b≠tv.ownBlock/\some b≠a.ownBlock) w' t u:=by
  intro t u G;have D:=G.ae (ok':=λb=>j.heap.size<=b/\some b≠s.ownBlock/\some b≠tv.ownBlock/\some b≠a.ownBlock) (λb n hk=>⟨hk.1,hk.2.2,hk.2.1,by
   rcases d.2 with e|⟨g,e,F⟩
   .rw[e];exact hk.2.2
   .rw[e];simp;omega⟩)
  refine (D.same (w':=w') ?_).ae (λb _ n=>⟨n.1,n.2.2.1,n.2.2.2⟩);intro b o n r;exact qt (d.block r n.2.1)
 refine⟨?_,h.lt,yd h.nR d.1 x,h.CU,λk C v c f=>z C v (h.LF k C v c f),H,by simp[h.CS],λk J v c f=>?_⟩
 .refine⟨d.1.os.trans h.grow.os,d.1.tape.trans h.grow.tape,d.1.output.trans h.grow.output,kl h.grow.size d.1.size,λi A I=>(d.1.block i (kh A h.grow.size) (λe=>by have:=(zd h.sD i e.symm).1;omega)).trans (h.grow.block i A I)⟩
 .by_cases hk:k<rows.length
  .rw[ju hk]at c;rw[ju (by rw[h.CS];exact hk)]at f;exact h.LD k J v c f
  .rw[js od]at c;rw[js (by rw[h.CS];omega),h.CS]at f
   cases B:k - rows.length with
   | zero =>
    rw[B]at c f;simp at c f;subst c;subst f;exact⟨na,nc,VN,rfl,p,E⟩
   | succ q=>rw[B]at c;simp at c
def nA (K:br) (WB w:bx) (ib:Nat) (i:Ins):Prop :=
 ∃(tv rv:cg) (vs rvs:bk) (da:bj) (dc:Nat),w.heap[ib]?=some (.cells #[.i i.p,.i i.n,tv,rv,.i i.data.k0,.i i.data.n0,.i i.data.p0,.string i.data.s0,.slice da i.data.args0.length dc] 104 (0,0)) /\
  kP K WB w ib i.types i.rows tv rv vs rvs/\bI (λb=>K b/\b+1<ib) WB i.data (af i.data.k0 i.data.n0 i.data.p0 i.data.s0 da i.data.args0.length dc)
def nA.call{b w w':bx}{d:Nat}{i:Ins}(h:nA K b w d i)(c:cm w w' none):nA K b w' d i:=by have⟨m,l,n,a,e,f,g,j,k⟩:=h;exact⟨m,l,n,a,e,f,l5 g c,j.call c,k⟩
def vB{w:bx}{B:Nat}{e:TypeId}{size n:Nat}{v:cg}{xs:bk}(h:w.ownsRow B e size v n xs):∃a c,v =.slice a n c/\n<=c:=by
 rcases h.2 with⟨rfl,rfl⟩|⟨g,b,d,rfl,_,_,f,_⟩
 .exact⟨none,0,rfl,qS _⟩
 .exact⟨_,b,rfl,f⟩
def PM (J:br) (w:bx) (rows:List aE) (a:bj):Prop :=
 ∀(k:Nat) (l:aE),rows[k]?=some l->∃b o na nc VN,a=some ⟨b,o,none⟩/\(J b/\l.length<=nc)/\w.cell? ⟨b,o+k,none⟩=some (.slice na l.length nc)/\cK J w l na VN
def PM.mono{J J':br}{w:bx}{rows:List aE}{a:bj}(h:PM J w rows a)(d:∀b,J b->J' b):PM J' w rows a:=λk l m=>by have⟨b,o,n,p,f,e,c,g,i⟩:=h k l m;exact⟨b,o,n,p,f,e,⟨d b c.1,c.2⟩,g,i.ae (λb _ j=>d b j)⟩
def nA.done{s w w':bx}{z rb:Nat}{i:Ins}(h:nA K s w z i)(x:cm w w' (some rb))(Z:rb+1=z):∃(ta:bj) (tc:Nat) (ra:bj) (rc:Nat) (da:bj) (A:Nat),
 w.heap[z]?=some (.cells #[.i i.p,.i i.n,.slice ta i.types.length tc,.slice ra i.rows.length rc,.i i.data.k0,.i i.data.n0,.i i.data.p0,.string i.data.s0,.slice da i.data.args0.length A] 104 (0,0)) /\
 (i.types.length<=tc/\∃V,dw (s.heap.size <= ·) w' i.types ta V)/\PM (λb=>K b\/s.heap.size<=b) w' i.rows ra/\i.rows.length<=rc/\bI K w' i.data (af i.data.k0 i.data.n0 i.data.p0 i.data.s0 da i.data.args0.length A):=by
 have⟨tv,rv,P,f,da,A,J,d,R⟩:=h;obtain⟨ta,tc,rfl,_⟩:=vB d.nR;obtain⟨ra,rc,rfl,H⟩:=vB d.sD;have Y:=d.lt;have aa:=d.grow.size;have j:Same (λb=>K b/\b+1<z) s w':=λb o B G=>by have X:b+1<z:=B.2;exact (qt (x.block b (by show b<_;omega) oB)).trans (qt (d.grow.block b G oB))
 have F:gz s.heap.size w (.slice ta P.length tc) i.types P:=⟨d.nR,d.CU,λk t u ht I=>(d.LF k t u ht I).ae (λb _ B=>⟨B.1,B.2.1⟩)⟩;have hk:=F.keep x od;have hR:AU s.heap.size w' (.slice ra f.length rc) f:=yd d.sD x (.inr λe=>by have:=(zd d.sD rb e).1;omega);have⟨a,c,V,e,k1,k2⟩:=hk.done;simp only[kj]at e;obtain⟨rfl,_,rfl⟩:=e;have M:i.types.length<=maxLen/\i.types.length<=tc:=by
  have G:=d.CU;rcases d.nR.2 with⟨r,D⟩|⟨g,C,q,r,_,_,S,T,_⟩
  .rw[G]at D;rw[D];exact⟨zv _,zv _⟩
  .simp only[kj]at r;obtain⟨_,_,rfl⟩:=r;exact⟨od,od⟩
 rw[d.CU,d.CS]at J;refine⟨ta,tc,ra,rc,da,A,J,⟨M.2,V,M.1,k1,k2⟩,λk l y=>?_,by rw[<-d.CS];exact H,(R.same j).ae (λ_ _ h=>h.1)⟩;have m:k<f.length:=by rw[d.CS];exact (qv.1 y).1
 have⟨N,O,Q,I,v,hN⟩:=d.LD k l f[k] y (qn m);rcases hR.2 with⟨r,D⟩|⟨g,C,q,r,E,x,S,_,T,U⟩
 .omega
 .simp only[kj]at r;obtain⟨rfl,_,rfl⟩:=r;refine⟨g,0,N,O,Q,rfl,⟨.inr E,v⟩,?_,(hN.same j).ae (λ_ _ h=>.inl h.1)⟩;have L:(q.toList.take (f.length*1))[k]?=f[k]?:=by rw[U]
  rw[qa7,oc,qn m,I]at L;have W:q[k]?=some (.slice N l.length O):=by simpa using L
  simp[World.cell?,x,W]
variable {K:br}
def pM{w:bx}{g:Nat}{T:TypeId}{x0 a b c d e f i j:cg}(h:w.heap[g]?=some (.cells #[x0,a,b,c,d,e,f,i,j] T (0,0))):∀o,w.frozen? ⟨g,o,none⟩=false:=by intro o;simp[World.frozen?,h]
def XE{w:bx}{g:Nat}{T:TypeId}{x0 j a b c d e f i:cg}(h:w.heap[g]?=some (.cells #[x0,j,a,b,c,d,e,f,i] T (0,0)))(y:cg):(w.setCell ⟨g,1,none⟩ y).heap[g]?=some (.cells #[x0,y,a,b,c,d,e,f,i] T (0,0)):=by simp[World.setCell,ub,h]
def XF{w:bx}{g:Nat}{T:TypeId}{x0 a j b c d e f i:cg}(h:w.heap[g]?=some (.cells #[x0,a,j,b,c,d,e,f,i] T (0,0)))(y:cg):(w.setCell ⟨g,2,none⟩ y).heap[g]?=some (.cells #[x0,a,y,b,c,d,e,f,i] T (0,0)):=by simp[World.setCell,ub,h]
def XG{w:bx}{g:Nat}{T:TypeId}{x0 a b j c d e f i:cg}(h:w.heap[g]?=some (.cells #[x0,a,b,j,c,d,e,f,i] T (0,0)))(y:cg):(w.setCell ⟨g,3,none⟩ y).heap[g]?=some (.cells #[x0,a,b,y,c,d,e,f,i] T (0,0)):=by simp[World.setCell,ub,h]
def XH{w:bx}{g:Nat}{T:TypeId}{x0 a b c k l m n o:cg}(h:w.heap[g]?=some (.cells #[x0,a,b,c,k,l,m,n,o] T (0,0)))(d e f i j:cg):(((((w.setCell ⟨g,4,none⟩ d).setCell ⟨g,5,none⟩ e).setCell ⟨g,6,none⟩ f).setCell ⟨g,7,none⟩ i).setCell ⟨g,8,none⟩ j).heap[g]?=some (.cells #[x0,a,b,c,d,e,f,i,j] T (0,0)):=by simp[World.setCell,ub,h]
def lG (K:br) (WB:bx) (ib:Nat) (i:Ins) (f:UInt8) (t:Tr) (e:Ending) (w':bx):Prop :=
 ∃ok,e =.returned (.bool ok)/\cm WB w' (some ib)/\((ok=false/\iy i f t=none)\/(ok/\∃j,iy i f t=some j/\nA K WB w' ib j))
def uN{a w':bx}{b:Nat}{i:Ins}{f:UInt8}{t:Tr}(h:iy i f t=none)(c:cm a w' (some b)):lG K a b i f t (.returned (.bool false)) w':=⟨false,rfl,c,.inl ⟨rfl,h⟩⟩
def yC{a w':bx}{b:Nat}{i j:Ins}{f:UInt8}{t:Tr}(h:iy i f t=some j)(c:cm a w' (some b))(d:nA K a w' b j):lG K a b i f t (.returned (.bool true)) w':=⟨true,rfl,c,.inr ⟨rfl,j,h,d⟩⟩
def Vq{o W:bx}{j:Nat}{i:Ins}{t:Tr}{G:cg}(O:nA K o W j i)(B:bI (λb=>K b/\b+1<j) o t G) :
 Calls prog 101 #[.po j,.int .u8 110,G] W (lG K o j i 110 t):=by
 have⟨tv,V,X,x,I,J,q,C,A⟩:=O;have⟨s,u,Y,y,⟨ik,iN,ip,P⟩,p⟩:=B.yX;rw[y];unfold af;have g:=aK (w:=W) (.cells #[.i t.k0,.i t.n0,.i t.p0,.string t.s0,.slice s t.args0.length u] 26);have d:=jj W (.cells #[.i t.k0,.i t.n0,.i t.p0,.string t.s0,.slice s t.args0.length u] 26);have c:=l5 q g;have k:=C.call g;have r:W.heap.size≠j:=by have:=(qq.1 q).1;omega
 have E:=XE c (.i t.n0);have h:=dY (bM (W.alloc (.cells #[.i t.k0,.i t.n0,.i t.p0,.string t.s0,.slice s t.args0.length u] 26)) (some j)) 1 none (.i t.n0);have f:=k.step h;have e:=(h.block W.heap.size (qq.1 d).1 (by simpa using r)).trans d;have l:=f.grow;have H:Hid (nA K o _ j { i with n:=t.n0 }):=⟨tv,V,X,x,I,J,E,f,A⟩;have a:=jh l;have⟨m0,m1,m2,m3,m4⟩:=bE d;have⟨Q,R,S,T,U⟩:=bE e;have fr:=pM c;have⟨Z,c1,c2,c3,_⟩:=nL c;have D:iy i 110 t=if t.k0=0/\0<=t.n0/\t.n0<=40 then some { i with n:=t.n0 } else none:=by simp[iy]
 have m:=jh D;clear D l e f h E k c g d C A q B p y;generalize t.k0=F at *;generalize t.n0=v at *
 by_cases z:F=0
 .subst z
  by_cases M:0<=v
  .by_cases N:v<=40
   .go_enter func101,ntmps101;go_wp2;go_ret;exact yC (show iy i 110 t=some { i with n:=v } by rw[m.out];simp[M,N]) a H
   .go_enter func101,ntmps101;go_wp2;go_ret;exact uN (by rw[m.out,oa]) a
  .go_enter func101,ntmps101;go_wp2;go_ret;exact uN (by rw[m.out,oa]) a
 .have L:(F==0)=false:=by simpa using z
  go_enter func101,ntmps101;go_wp2;go_ret;exact uN (by rw[m.out,oa]) a
def pS{α:Type} : (∀(l:List α) (i:Nat) (a:α),l.toArray.setIfInBounds i a=(l.set i a).toArray)/\(∀(a b:α) (l:List α),(a::l).set 0 b=b::l)/\(∀(a b:α) (l:List α) (n:Nat),(a::l).set (n+1) b=a::l.set n b) :=
 ⟨λl i a=>zc ..,λa b l=>xj ..,λa b l n=>xf ..⟩
variable {K:br}
section
variable {P:Program}{ops:Array Oper}{Q:Exit->Act->bx->Prop}{md:Region.Mode}{S:bx->Prop}
def Wl(i:Nat)(d:Tmp){g:Act}{e:Nat}{b:Array Bool}{a:Act}{w:bx}(h:wpAnyH P md ops Q S e (b.setIfInBounds i true) g w)
 (hi:∃f,ops[i]?=some f/\f.dst=some d/\Region.wanted f (yielded ops a.tmps)=false:=by exact⟨_,rfl,rfl,by rfl⟩)
 (hs:Region.noSelect ops:=by kernel_rfl) (hf:Region.free md ops b i:=by kernel_rfl) (hr:(Region.ready md ops b).contains i:=by kernel_rfl)
 (hQ:∀c a w,Q (.panic c) (a.put (some d) undef) w->Q (.panic c) a w:=by exact λ_ _ _ h=>h) (hS:S w:=by assumption) (h9:a.put (some d) undef=g:=by simp only[Act.put,pS];rfl):wpAnyH P md ops Q S (e+1) b a w:=by
 subst h9;have⟨f,j,k,l⟩:=hi;rw[<-k]at hQ h;exact wpAnyH_take j hs hf hr hQ (.inr ⟨l,rfl⟩) hS h
def LX(i:Nat)(d:Tmp){v:cg}{e:Nat}{b:Array Bool}{a:Act}{w:bx}(hi:∃f,ops[i]?=some f/\f.dst=some d/\Region.wanted f (yielded ops a.tmps)/\∀w,S w->(execOp a.eval f).run P w =.ok (.value v) w)
 (h:wpAnyH P md ops Q S e (b.setIfInBounds i true) (a.put (some d) v) w)
 (hs:Region.noSelect ops:=by kernel_rfl) (hf:Region.free md ops b i:=by kernel_rfl) (hr:(Region.ready md ops b).contains i:=by kernel_rfl)
 (hQ:∀c a w,Q (.panic c) (a.put (some d) v) w->Q (.panic c) a w:=by exact λ_ _ _ h=>h) (hS:S w:=by assumption):wpAnyH P md ops Q S (e+1) b a w:=by
 have⟨f,g,j,k,l⟩:=hi;rw[<-j]at hQ h;exact wpAnyH_take g hs hf hr hQ (.inl ⟨k,l⟩) hS h
end
def fG(i:Nat)(d:Tmp){k:Act}{P:Program}{e:Array Oper}{Q:Exit->Act->bx->Prop}{j:Region.Mode}{S:bx->Prop}{v:cg}{g:Oper}{f:Nat}{b:Array Bool}{a:Act}{w:bx}(h:wpAnyH P j e Q S f (b.setIfInBounds i true) k w)
 (h1:e[i]?=some g:=by rfl) (h2:g.dst=some d:=by rfl) (h3:Region.wanted g (yielded e a.tmps):=by rfl)
 (h4:∀w,S w->(execOp a.eval g).run P w =.ok (.value v) w:=by intro w l;go_simp;try with_reducible rfl)
 (hs:Region.noSelect e:=by kernel_rfl) (hf:Region.free j e b i:=by kernel_rfl) (hr:(Region.ready j e b).contains i:=by kernel_rfl)
 (hQ:∀c a w,Q (.panic c) (a.put (some d) v) w->Q (.panic c) a w:=by exact λ_ _ _ h=>h) (hS:S w:=by assumption) (h9:a.put (some d) v=k:=by simp only[Act.put,pS];rfl):wpAnyH P j e Q S (f+1) b a w :=
 LX i d ⟨g,h1,h2,h3,h4⟩ (h9 ▸ h) hs hf hr hQ hS
def UC{w:bx}{B n g cap:Nat}{e:TypeId}{xs:bk}{b c:cg}(h:w.ownsRow B e 2 (.o g (n+1) cap) (n+1) (xs++[b,c])) :
 w.cell? ⟨g,n*2,none⟩=some b/\w.cell? ⟨g,n*2+1,none⟩=some c/\(∀o,w.frozen? ⟨g,o,none⟩=false)/\B<=g:=by
 have r:=h.1;simp at r;rcases h.2 with⟨d,_⟩|⟨s,i,a,d,q,f,t,u,v,l⟩
 .simp at d
 .simp only[kj,qk,qc4,and_true,true_and]at d;obtain⟨rfl,rfl⟩:=d;have j:(a.toList.take ((n+1)*2))[n*2]?=some b:=by rw[l,js od];simp[show n*2 - xs.length=0 by omega]
  have k:(a.toList.take ((n+1)*2))[n*2+1]?=some c:=by rw[l,js od];simp[show n*2+1 - xs.length=1 by omega]
  rw[qa7,oc]at j k;have m:a[n*2]?=some b:=by simpa using j
  have p:a[n*2+1]?=some c:=by simpa using k
  exact⟨by simp[World.cell?,f,m],by simp[World.cell?,f,p],λo=>by simp[World.frozen?,f],q⟩
def Ra{w:bx}{B n g cap:Nat}{e:TypeId}{xs:bk}{i j:cg}(d f:cg)(h:w.ownsRow B e 2 (.o g (n+1) cap) (n+1) (xs++[i,j])) :
 ((w.setCell ⟨g,n*2,none⟩ d).setCell ⟨g,n*2+1,none⟩ f).ownsRow B e 2 (.o g (n+1) cap) (n+1) (xs++[d,f]):=by
 have t:=h.1;simp at t;refine⟨oB,?_⟩;rcases h.2 with⟨b,_⟩|⟨x,l,a,b,p,q,m,r,o,s⟩
 .simp at b
 .simp only[kj,qk,qc4,and_true,true_and]at b;obtain⟨rfl,rfl⟩:=b;refine .inr ⟨g,cap,(a.setIfInBounds (n*2) d).setIfInBounds (n*2+1) f,rfl,p,?_,m,r,by simpa using o,?_⟩
  .simp[World.setCell,ub,q]
  .apply List.ext_getElem?;intro k;have hk:(a.toList.take ((n+1)*2))[k]?=(xs++[i,j])[k]?:=by rw[s]
   by_cases c:k<(n+1)*2
   .rw[qa7,if_pos c]at hk|-
    by_cases v:k<xs.length
    .rw[ju v]at hk|-;rw[<-hk];simp only[Array.toList_setIfInBounds];rw[qe0 od,qe0 od]
    .have u:(n+1)*2<=a.size:=by rw[o];exact qg6 2 m
     rcases (show k=n*2\/k=n*2+1 by omega)with rfl|rfl
     .rw[js od,show n*2 - xs.length=0 by omega];simp only[Array.toList_setIfInBounds];rw[qe0 od,qh0 oB];rfl
     .rw[js od,show n*2+1 - xs.length=1 by omega];simp only[Array.toList_setIfInBounds];rw[qh0 oB];rfl
   .rw[jc2 oB,jc2 oB]
def bu{w:bx}{g h o p:Nat}(x y:cg)(c:g≠h):(w.setCell ⟨g,o,none⟩ x).setCell ⟨h,p,none⟩ y=(w.setCell ⟨h,p,none⟩ y).setCell ⟨g,o,none⟩ x:=by
 simp only[World.setCell]
 congr 1
 apply Array.ext_getElem?;intro k;simp only[ub]
 by_cases a:h=k<;>by_cases b:g=k
 .omega
 .simp[a,b]
 .simp[a,b]
 .simp[a,b]
def NY{w:bx}{B g cap:Nat}{vs:bk}{k:Int}{sa:bj}{sl sc:Nat}(h:wS B w (.o g (vs.length+1) cap) (vs++[bY 0 none 0 0])) :
 wS B ((w.setCell ⟨g,vs.length*2,none⟩ (.i k)).setCell ⟨g,vs.length*2+1,none⟩ (.slice sa sl sc)) (.o g (vs.length+1) cap) (vs++[bY k sa sl sc]):=by
 unfold wS at h|-;simp only[dx,qT,ue]at h|-;exact Ra _ _ h
def vz{w:bx}{B g cap:Nat}{vs:bk}(h:wS B w (.o g (vs.length+1) cap) (vs++[bY 0 none 0 0])) :
 w.cell? ⟨g,vs.length*2,none⟩=some (.i 0)/\w.cell? ⟨g,vs.length*2+1,none⟩=some (.n0)/\(∀o,w.frozen? ⟨g,o,none⟩=false)/\B<=g:=by
 unfold wS at h;simp only[dx,qT,ue]at h;exact UC h
def Qt{w w':bx}{v:cg}{g n cap:Nat}(h:Gr w v w' (.o g n cap))(o:Nat)(x:cg):Gr w v (w'.setCell ⟨g,o,none⟩ x) (.o g n cap):=by
 refine⟨?_,h.2⟩;have a:=dY (bM w' (some g)) o none x;refine⟨a.os.trans h.1.os,a.tape.trans h.1.tape,a.output.trans h.1.output,kl h.1.size a.size,λk hk c=>?_⟩;refine (a.block k (kh hk h.1.size) (λe=>?_)).trans (h.1.block k hk c);rcases h.2 with b|⟨f,b,d⟩
 .rw[<-b]at c;exact c e
 .simp[Value.ownBlock]at b;simp at e;omega
variable {K:br}
def wu.form{t:Tr}{W:bx}{e:Ending}{w':bx}(h:wu t W e w'):∃T l f k g b,e =.returned (.tuple #[.agg #[.i l,.slice f k g],.i b])/\cm W w' none/\aH (W.heap.size <= ·) w' T (bY l f k g)/\((b=0/\fu t/\T=kreadT t)\/(b=1/\fu t=false)):=by
 rcases h.2 with⟨d,u,rfl,j⟩|⟨d,rfl⟩
 .have⟨a,c,V,e,_⟩:=j.inv;subst e;exact⟨_,_,_,_,_,_,rfl,h.1,j,.inl ⟨rfl,d,rfl⟩⟩
 .exact⟨.nd 0 [],0,none,0,0,1,rfl,h.1,aH.ofRow ⟨ov,ov⟩ (qS _) (dw.nil _ _ _ (λ_=>.i 0)),.inr ⟨rfl,d⟩⟩
def dh{d w0 r:bx}{c:Nat}{i:Ins}{t:Tr}{f:UInt8}{C:cg}{ta da:bj}{tc s g cap:Nat}{vs D:bk}{T:Ty}{q:Int}{e:bj}{o h S:Nat}{u:Int}(y:f=116\/f=117)
 (hM:kP K d w0 c i.types i.rows (.slice ta vs.length tc) C vs D) (hB:w0.heap[c]?=some (.cells #[.i i.p,.i i.n,.slice ta vs.length tc,C,.i i.data.k0,.i i.data.n0,.i i.data.p0,.string i.data.s0,.slice da i.data.args0.length s] 104 (0,0)))
 (hD:bI (λb=>K b/\b+1<c) d i.data (af i.data.k0 i.data.n0 i.data.p0 i.data.s0 da i.data.args0.length s))
 (hS:d.heap.size<=S) (h1:∀k,(Value.slice ta vs.length tc).ownBlock=some k->k<S) (h2:∀k,C.ownBlock=some k->k<S) (hT:aH (S <= ·) w0 T (bY q e o h))
 (ho:wS d.heap.size r (.o g (vs.length+1) cap) (vs++[bY 0 none 0 0])) (hg:Gr w0 (.slice ta vs.length tc) r (.o g (vs.length+1) cap))
 (hc:(u=0/\fu t/\T=kreadT t)\/(u=1/\fu t=false)) :
 lG K d c i f t (.returned (.bool (u==0))) (((r.setCell ⟨g,vs.length*2,none⟩ (.i q)).setCell ⟨g,vs.length*2+1,none⟩ (.slice e o h)).setCell ⟨c,2,none⟩ (.o g (vs.length+1) cap)):=by
 have m:=Qt (Qt hg (vs.length*2) (.i q)) (vs.length*2+1) (.slice e o h);have A:=NY (k:=q) (sa:=e) (sl:=o) (sc:=h) ho;have x:=hM.YI hS h1 h2 hT m A;have E:=hM.lt;have v:=(m.block (qq.1 hB).1 (aD hM.nR hB ov)).trans hB;have z:=dY (bM ((r.setCell ⟨g,vs.length*2,none⟩ (.i q)).setCell ⟨g,vs.length*2+1,none⟩ (.slice e o h)) (some c)) 2 none (.o g (vs.length+1) cap);have a:=x.step z;have w:=XF v (.o g (vs.length+1) cap);have l:¬f=110:=by rcases y with rfl|rfl<;>decide
 rcases hc with⟨rfl,B,rfl⟩|⟨rfl,B⟩
 .refine yC (j:={ i with types:=i.types++[kreadT t] }) ?_ a.grow ⟨_,_,_,_,da,s,w,a,hD⟩;unfold iy;rw[if_neg l,if_pos y,if_pos B]
 .refine uN ?_ a.grow;unfold iy;rw[if_neg l,if_pos y,if_neg (by simp[B])]
def oh{e w0 m:bx}{d:Nat}{i:Ins}{t:Tr}{f:UInt8}{tv:cg}{ra da na:bj}{rc o nc g cap:Nat}{vs a:bk}{VN:bt}(l:f=99\/f=100)
 (hM:kP K e w0 d i.types i.rows tv (.slice ra a.length rc) vs a) (hB:w0.heap[d]?=some (.cells #[.i i.p,.i i.n,tv,.slice ra a.length rc,.i i.data.k0,.i i.data.n0,.i i.data.p0,.string i.data.s0,.slice da i.data.args0.length o] 104 (0,0)))
 (hD:bI (λb=>K b/\b+1<d) e i.data (af i.data.k0 i.data.n0 i.data.p0 i.data.s0 da i.data.args0.length o))
 (hN:cK (λb=>K b/\b+1<d) e t.args0 na VN/\t.args0.length<=nc)
 (ho:AU e.heap.size m (.o g (a.length+1) cap) (a++[.slice na t.args0.length nc])) (hg:Gr w0 (.slice ra a.length rc) m (.o g (a.length+1) cap)) :
 lG K e d i f t (.returned (.bool (t.k0==3))) (m.setCell ⟨d,3,none⟩ (.o g (a.length+1) cap)):=by
 have s:=hM.YH hN.1 hN.2 hg ho;have q:=(hg.block (qq.1 hB).1 (aD hM.sD hB ov)).trans hB;have u:=dY (bM m (some d)) 3 none (.o g (a.length+1) cap);have c:=s.step u;have r:=XG q (.o g (a.length+1) cap);have h:¬f=110:=by rcases l with rfl|rfl<;>decide
 have k:¬(f=116\/f=117):=by rcases l with rfl|rfl<;>decide
 by_cases hk:t.k0=3
 .rw[show (t.k0==3) by simpa using hk];refine yC (j:={ i with rows:=i.rows++[t.args0] }) ?_ c.grow ⟨_,_,_,_,da,o,r,c,hD⟩;unfold iy;rw[if_neg h,if_neg k,if_pos l,if_pos hk]
 .rw[show (t.k0==3)=false by simpa using hk];refine uN ?_ c.grow;unfold iy;rw[if_neg h,if_neg k,if_pos l,if_neg hk]
def zA{b:Array Oper}{o:Oper}{a:Act}{K:Act->bx->Prop}{Q:Exit->Act->bx->Prop}{E:Prop}(B:Nat)(vs:bk)(sa:bj)(sl sc:Nat)(w0:bx)(v:cg)(d:o.guard=none)(s x:Operand)
 (ho:o.op =.call { callee:=.builtin .append,args:=#[s,x],argTypes:=#[102,102] }) (hs:a.eval s=v) {H:Nat} (hx:a.eval x =.o H 1 1) (hH:w0.heap.size=H)
 (hown:AU B w0 v vs) (hB:B<=w0.heap.size) (hlen:vs.length<=1000000000)
 (h:∀g cap w',AU B w' (.o g (vs.length+1) cap) (vs++[.slice sa sl sc])->Gr w0 v w' (.o g (vs.length+1) cap)->K (a.put o.dst (.o g (vs.length+1) cap)) w') :
 if Region.wanted o (yielded b a.tmps)then Oper.wp prog o a (w0.alloc (.cells #[.slice sa sl sc] 24)) K Q else E:=by
 have n:Region.wanted o (yielded b a.tmps):=by simp[Region.wanted,d]
 rw[if_pos n];have⟨p,m,e,f,i⟩:=qh5 Uf;subst hH;refine wp_append_lies _ s x 102 ho B 24 p _ 1 24 underlying102 m e f i rfl ov v vs.length vs hs (yW hown _) ⟨w0.heap.size,0,none⟩ 1 1 [.slice sa sl sc] hx rfl ?_ ?_ ov ?_ ?_ ?_ _ rfl ?_
 .exact ja5 (w:=w0.alloc _) (B:=w0.heap.size) (cs:=#[.slice sa sl sc]) (jj _ _)
 .intro u j;simp at j;subst j;rfl
 .unfold maxLen;omega
 .omega
 .simp;omega
 .intro g cap w' k l c _;refine h g cap w' ?_ ?_
  .unfold AU;rw[qT];exact k
  .refine Gr.trans (Gr.alloc (Gr.refl w0 v) _) ⟨l,?_⟩;rcases c with c|c
   .exact .inl c.symm
   .exact .inr ⟨g,rfl,od⟩
def R7{C W:bx}{B:Nat}{i:Ins}{t:Tr}{nv:cg}{f:UInt8}{c:Int}(hf:f=116/\c=116\/f=117/\c=117)(hI:nA K C W B i)(hL:bI (λb=>K b/\b+1<B) C t nv)(ba:i.types.length<=1000)(aC:i.rows.length<=1000) :
 Calls prog 101 #[.po B,.int .u8 c,nv] W (lG K C B i f t):=by
 have⟨tv,rv,A,bc,da,dc,X,hM,hD⟩:=hI;have⟨na,nc,VN,e1,⟨ik,iN,ip,aO⟩,ar⟩:=hL.yX;rw[e1];unfold af;have O:=aK (w:=W) (.cells #[.i t.k0,.i t.n0,.i t.p0,.string t.s0,.slice na t.args0.length nc] 26);have ad:=jj W (.cells #[.i t.k0,.i t.n0,.i t.p0,.string t.s0,.slice na t.args0.length nc] 26);have ab:=l5 X O;have F:=hM.call O;have⟨m0,m1,m2,m3,m4⟩:=bE ad;have H:Same (λb=>K b/\b+1<B) C (W.alloc (.cells #[.i t.k0,.i t.n0,.i t.p0,.string t.s0,.slice na t.args0.length nc] 26)):=λb o X hl=>qt (F.grow.block b hl (by have : b+1<B:=X.2;simp;omega));have HP:=jh (Bv ((hL.same H).ae (ok':=(· < (W.alloc (.cells #[.i t.k0,.i t.n0,.i t.p0,.string t.s0,.slice na t.args0.length nc] 26)).heap.size)) (λb X _=>X)));rw[e1]at HP;unfold af at HP;obtain⟨R,U,rfl,_⟩:=vB F.nR;have bb:A.length<=1000:=by have:=F.CU;omega
 have⟨z,I,aj⟩:=we hD F ab;clear O ad F ab hM hD X hL ar e1 H;have b1:(A.length:Int)<(A.length:Int)+1:=od
 have b2:(0:Int)<=(A.length:Int):=od
 have b3:A.length<A.length+1:=od
 rcases hf with⟨rfl,rfl⟩|⟨rfl,rfl⟩
 all_goals
  go_enter func101,ntmps101;go_wp2_with fail;generalize W.alloc _=W2 at *;refine HP.mono ?_;rintro e V ai;obtain⟨T,tt,Y,ll,Z,er,rfl,hg,M,G⟩:=ai.form;have Q:=aK (w:=V) (.cells #[.i tt,.slice Y ll Z] 54);have ah:=jj V (.cells #[.i tt,.slice Y ll Z] 54);have J:(V.alloc (.cells #[.i tt,.slice Y ll Z] 54)).grownBy (V.alloc (.cells #[.i tt,.slice Y ll Z] 54)).drew none:=fK (bM _ _);have P:=aJ hg (aJ Q J);have m:=jh (l5 aj P);have j:=jh (I.call P);have au:Same (W2.heap.size <= ·) V (V.alloc (.cells #[.i tt,.slice Y ll Z] 54)).drew:=λb o _ hl=>qt ((aJ Q J).block b hl ot);have u:=jh (M.same au);have s:Hid (C.heap.size<=W2.heap.size):=I.out.grow.size;have q:Hid (∀k,(Value.slice R A.length U).ownBlock=some k->k<W2.heap.size):=λk hk=>(zd I.nR k hk).2;have r:Hid (∀k,rv.ownBlock=some k->k<W2.heap.size):=λk hk=>(zd I.sD k hk).2;have N:=l5 ah J;have x0:=xq N;have x1:=wy N;have⟨c0,c1,c2,c3,_⟩:=nL m;have az:True:=trivial;have d:=jh G;have ax:=jh M;clear hg Q J ah P M m0 m1 m2 m3 m4 HP ai N G;go_wp2_with fail;refine ja4 (S:=λ_=>True) oA ?_ (λaq=>?_)
  .trivial
  generalize (V.alloc _).drew=L at *;have ay:=JJ (aK (w:=L) (.cells #[.i 0,.n0] 54)) c2;have bf:=JJ (aK (w:=L) (.cells #[.i 0,.n0] 54)) x0;have bh:=JJ (aK (w:=L) (.cells #[.i 0,.n0] 54)) x1;refine fG 0 38 ?_;refine fG 1 39 ?_;refine fG 2 40 ?_;refine kO (rs:=[3,4,6]) oA ot ?_;refine kd rfl (λK a=>?_) (kd rfl (λK a=>?_) (kd rfl (λK a=>?_) km))
  .go_simp;refine a _ _ trivial (λ_=>?_);clear a K;refine fG 5 43 ?_;refine kO (rs:=[4,6]) oA ot ?_;refine kd rfl (λK a=>?_) (kd rfl (λK a=>?_) km)
   .go_simp;refine a _ _ trivial (λ_=>?_);clear a K;refine kO (rs:=[6]) oA ot ?_;refine kd rfl (λK a=>?_) km
    .go_simp;refine a _ _ trivial (λ_=>?_);clear a K;refine kO (rs:=[7]) oA ot ?_;refine kd rfl (λK a=>?_) km;refine p8 C.heap.size A 0 none 0 0 L (.slice R A.length U) rfl (.tmp 41) (.tmp 44) rfl rfl rfl rfl j.nR j.grow.size od ?_;intro g D w3 y x;have p:=jh y;have n:=jh x;have⟨g0,g1,g2,g3⟩:=vz y;have l:g≠B:=by have:=j.out.lt;omega
     have v:=(x.block (qq.1 m).1 (aD j.nR m ov)).trans m;have d2:=(nL v).2.2.1;have E:=pM v;clear y x v;refine a _ _ trivial (λ_=>?_);clear a K;refine fG 8 46 ?_;refine fG 10 47 ?_;refine fG 11 48 ?_;refine kO (rs:=[9,12]) oA ot ?_;refine kd rfl (λK a=>?_) (kd rfl (λK a=>?_) km)
     .go_simp;refine a _ _ trivial (λ_=>?_);clear a K;refine kO (rs:=[12]) oA ot ?_;refine kd rfl (λK a=>?_) km;go_simp;refine a _ _ trivial (λ_=>?_);clear a K;refine qf0 oA ?_ _;go_wp2;go_ret
      first|exact dh (.inl rfl) j m z s q r u p n d|exact dh (.inr rfl) j m z s q r u p n d
     .go_simp;refine a _ _ trivial (λ_=>?_);clear a K;refine kO (rs:=[9]) oA ot ?_;refine kd rfl (λK a=>?_) km;go_simp;refine a _ _ trivial (λ_=>?_);clear a K;refine qf0 oA ?_ _;go_wp2;go_ret
      first
      | (have h:=dh (.inl rfl) j m z s q r u p n d;rw[bu _ _ l,bu _ _ l]at h;exact h)
      | (have h:=dh (.inr rfl) j m z s q r u p n d;rw[bu _ _ l,bu _ _ l]at h;exact h)
   .go_simp;refine a _ _ trivial (λ_=>?_);clear a K;refine kO (rs:=[4]) oA ot ?_;refine kd rfl (λK a=>?_) km
    .go_simp;refine a _ _ trivial (λ_=>?_);clear a K;refine kO (rs:=[7]) oA ot ?_;refine kd rfl (λK a=>?_) km;refine p8 C.heap.size A 0 none 0 0 L (.slice R A.length U) rfl (.tmp 41) (.tmp 44) rfl rfl rfl rfl j.nR j.grow.size od ?_;intro g D w3 y x;have p:=jh y;have n:=jh x;have⟨g0,g1,g2,g3⟩:=vz y;have l:g≠B:=by have:=j.out.lt;omega
     have v:=(x.block (qq.1 m).1 (aD j.nR m ov)).trans m;have d2:=(nL v).2.2.1;have E:=pM v;clear y x v;refine a _ _ trivial (λ_=>?_);clear a K;refine fG 8 46 ?_;refine fG 10 47 ?_;refine fG 11 48 ?_;refine kO (rs:=[9,12]) oA ot ?_;refine kd rfl (λK a=>?_) (kd rfl (λK a=>?_) km)
     .go_simp;refine a _ _ trivial (λ_=>?_);clear a K;refine kO (rs:=[12]) oA ot ?_;refine kd rfl (λK a=>?_) km;go_simp;refine a _ _ trivial (λ_=>?_);clear a K;refine qf0 oA ?_ _;go_wp2;go_ret
      first|exact dh (.inl rfl) j m z s q r u p n d|exact dh (.inr rfl) j m z s q r u p n d
     .go_simp;refine a _ _ trivial (λ_=>?_);clear a K;refine kO (rs:=[9]) oA ot ?_;refine kd rfl (λK a=>?_) km;go_simp;refine a _ _ trivial (λ_=>?_);clear a K;refine qf0 oA ?_ _;go_wp2;go_ret
      first
      | (have h:=dh (.inl rfl) j m z s q r u p n d;rw[bu _ _ l,bu _ _ l]at h;exact h)
      | (have h:=dh (.inr rfl) j m z s q r u p n d;rw[bu _ _ l,bu _ _ l]at h;exact h)
  .go_simp;refine a _ _ trivial (λ_=>?_);clear a K;refine kO (rs:=[3,6]) oA ot ?_;refine kd rfl (λK a=>?_) (kd rfl (λK a=>?_) km)
   .go_simp;refine a _ _ trivial (λ_=>?_);clear a K;refine fG 5 43 ?_;refine kO (rs:=[6]) oA ot ?_;refine kd rfl (λK a=>?_) km
    .go_simp;refine a _ _ trivial (λ_=>?_);clear a K;refine kO (rs:=[7]) oA ot ?_;refine kd rfl (λK a=>?_) km;refine p8 C.heap.size A 0 none 0 0 L (.slice R A.length U) rfl (.tmp 41) (.tmp 44) rfl rfl rfl rfl j.nR j.grow.size od ?_;intro g D w3 y x;have p:=jh y;have n:=jh x;have⟨g0,g1,g2,g3⟩:=vz y;have l:g≠B:=by have:=j.out.lt;omega
     have v:=(x.block (qq.1 m).1 (aD j.nR m ov)).trans m;have d2:=(nL v).2.2.1;have E:=pM v;clear y x v;refine a _ _ trivial (λ_=>?_);clear a K;refine fG 8 46 ?_;refine fG 10 47 ?_;refine fG 11 48 ?_;refine kO (rs:=[9,12]) oA ot ?_;refine kd rfl (λK a=>?_) (kd rfl (λK a=>?_) km)
     .go_simp;refine a _ _ trivial (λ_=>?_);clear a K;refine kO (rs:=[12]) oA ot ?_;refine kd rfl (λK a=>?_) km;go_simp;refine a _ _ trivial (λ_=>?_);clear a K;refine qf0 oA ?_ _;go_wp2;go_ret
      first|exact dh (.inl rfl) j m z s q r u p n d|exact dh (.inr rfl) j m z s q r u p n d
     .go_simp;refine a _ _ trivial (λ_=>?_);clear a K;refine kO (rs:=[9]) oA ot ?_;refine kd rfl (λK a=>?_) km;go_simp;refine a _ _ trivial (λ_=>?_);clear a K;refine qf0 oA ?_ _;go_wp2;go_ret
      first
      | (have h:=dh (.inl rfl) j m z s q r u p n d;rw[bu _ _ l,bu _ _ l]at h;exact h)
      | (have h:=dh (.inr rfl) j m z s q r u p n d;rw[bu _ _ l,bu _ _ l]at h;exact h)
   .go_simp;refine a _ _ trivial (λ_=>?_);clear a K;refine kO (rs:=[3]) oA ot ?_;refine kd rfl (λK a=>?_) km
    .go_simp;refine a _ _ trivial (λ_=>?_);clear a K;refine fG 5 43 ?_;refine kO (rs:=[7]) oA ot ?_;refine kd rfl (λK a=>?_) km;refine p8 C.heap.size A 0 none 0 0 L (.slice R A.length U) rfl (.tmp 41) (.tmp 44) rfl rfl rfl rfl j.nR j.grow.size od ?_;intro g D w3 y x;have p:=jh y;have n:=jh x;have⟨g0,g1,g2,g3⟩:=vz y;have l:g≠B:=by have:=j.out.lt;omega
     have v:=(x.block (qq.1 m).1 (aD j.nR m ov)).trans m;have d2:=(nL v).2.2.1;have E:=pM v;clear y x v;refine a _ _ trivial (λ_=>?_);clear a K;refine fG 8 46 ?_;refine fG 10 47 ?_;refine fG 11 48 ?_;refine kO (rs:=[9,12]) oA ot ?_;refine kd rfl (λK a=>?_) (kd rfl (λK a=>?_) km)
     .go_simp;refine a _ _ trivial (λ_=>?_);clear a K;refine kO (rs:=[12]) oA ot ?_;refine kd rfl (λK a=>?_) km;go_simp;refine a _ _ trivial (λ_=>?_);clear a K;refine qf0 oA ?_ _;go_wp2;go_ret
      first|exact dh (.inl rfl) j m z s q r u p n d|exact dh (.inr rfl) j m z s q r u p n d
     .go_simp;refine a _ _ trivial (λ_=>?_);clear a K;refine kO (rs:=[9]) oA ot ?_;refine kd rfl (λK a=>?_) km;go_simp;refine a _ _ trivial (λ_=>?_);clear a K;refine qf0 oA ?_ _;go_wp2;go_ret
      first
      | (have h:=dh (.inl rfl) j m z s q r u p n d;rw[bu _ _ l,bu _ _ l]at h;exact h)
      | (have h:=dh (.inr rfl) j m z s q r u p n d;rw[bu _ _ l,bu _ _ l]at h;exact h)
  .go_simp;refine a _ _ trivial (λ_=>?_);clear a K;refine kO (rs:=[3,4]) oA ot ?_;refine kd rfl (λK a=>?_) (kd rfl (λK a=>?_) km)
   .go_simp;refine a _ _ trivial (λ_=>?_);clear a K;refine fG 5 43 ?_;refine kO (rs:=[4]) oA ot ?_;refine kd rfl (λK a=>?_) km
    .go_simp;refine a _ _ trivial (λ_=>?_);clear a K;refine kO (rs:=[7]) oA ot ?_;refine kd rfl (λK a=>?_) km;refine p8 C.heap.size A 0 none 0 0 L (.slice R A.length U) rfl (.tmp 41) (.tmp 44) rfl rfl rfl rfl j.nR j.grow.size od ?_;intro g D w3 y x;have p:=jh y;have n:=jh x;have⟨g0,g1,g2,g3⟩:=vz y;have l:g≠B:=by have:=j.out.lt;omega
     have v:=(x.block (qq.1 m).1 (aD j.nR m ov)).trans m;have d2:=(nL v).2.2.1;have E:=pM v;clear y x v;refine a _ _ trivial (λ_=>?_);clear a K;refine fG 8 46 ?_;refine fG 10 47 ?_;refine fG 11 48 ?_;refine kO (rs:=[9,12]) oA ot ?_;refine kd rfl (λK a=>?_) (kd rfl (λK a=>?_) km)
     .go_simp;refine a _ _ trivial (λ_=>?_);clear a K;refine kO (rs:=[12]) oA ot ?_;refine kd rfl (λK a=>?_) km;go_simp;refine a _ _ trivial (λ_=>?_);clear a K;refine qf0 oA ?_ _;go_wp2;go_ret
      first|exact dh (.inl rfl) j m z s q r u p n d|exact dh (.inr rfl) j m z s q r u p n d
     .go_simp;refine a _ _ trivial (λ_=>?_);clear a K;refine kO (rs:=[9]) oA ot ?_;refine kd rfl (λK a=>?_) km;go_simp;refine a _ _ trivial (λ_=>?_);clear a K;refine qf0 oA ?_ _;go_wp2;go_ret
      first
      | (have h:=dh (.inl rfl) j m z s q r u p n d;rw[bu _ _ l,bu _ _ l]at h;exact h)
      | (have h:=dh (.inr rfl) j m z s q r u p n d;rw[bu _ _ l,bu _ _ l]at h;exact h)
   .go_simp;refine a _ _ trivial (λ_=>?_);clear a K;refine kO (rs:=[3]) oA ot ?_;refine kd rfl (λK a=>?_) km
    .go_simp;refine a _ _ trivial (λ_=>?_);clear a K;refine fG 5 43 ?_;refine kO (rs:=[7]) oA ot ?_;refine kd rfl (λK a=>?_) km;refine p8 C.heap.size A 0 none 0 0 L (.slice R A.length U) rfl (.tmp 41) (.tmp 44) rfl rfl rfl rfl j.nR j.grow.size od ?_;intro g D w3 y x;have p:=jh y;have n:=jh x;have⟨g0,g1,g2,g3⟩:=vz y;have l:g≠B:=by have:=j.out.lt;omega
     have v:=(x.block (qq.1 m).1 (aD j.nR m ov)).trans m;have d2:=(nL v).2.2.1;have E:=pM v;clear y x v;refine a _ _ trivial (λ_=>?_);clear a K;refine fG 8 46 ?_;refine fG 10 47 ?_;refine fG 11 48 ?_;refine kO (rs:=[9,12]) oA ot ?_;refine kd rfl (λK a=>?_) (kd rfl (λK a=>?_) km)
     .go_simp;refine a _ _ trivial (λ_=>?_);clear a K;refine kO (rs:=[12]) oA ot ?_;refine kd rfl (λK a=>?_) km;go_simp;refine a _ _ trivial (λ_=>?_);clear a K;refine qf0 oA ?_ _;go_wp2;go_ret
      first|exact dh (.inl rfl) j m z s q r u p n d|exact dh (.inr rfl) j m z s q r u p n d
     .go_simp;refine a _ _ trivial (λ_=>?_);clear a K;refine kO (rs:=[9]) oA ot ?_;refine kd rfl (λK a=>?_) km;go_simp;refine a _ _ trivial (λ_=>?_);clear a K;refine qf0 oA ?_ _;go_wp2;go_ret
      first
      | (have h:=dh (.inl rfl) j m z s q r u p n d;rw[bu _ _ l,bu _ _ l]at h;exact h)
      | (have h:=dh (.inr rfl) j m z s q r u p n d;rw[bu _ _ l,bu _ _ l]at h;exact h)
def R6{I W:bx}{z:Nat}{i:Ins}{t:Tr}{nv:cg}{f:UInt8}{c:Int}(hf:f=99/\c=99\/f=100/\c=100)(hI:nA K I W z i)(U:bI (λb=>K b/\b+1<z) I t nv)(ah:i.types.length<=1000)(ad:i.rows.length<=1000) :
 Calls prog 101 #[.po z,.int .u8 c,nv] W (lG K I z i f t):=by
 have⟨tv,rv,vs,m,da,dc,X,V,Z⟩:=hI;have⟨A,B,VN,R,⟨ik,iN,ip,ae⟩,y⟩:=U.yX;have L:=And.intro y (U.Y5 R);clear y;rw[R];unfold af;have E:=aK (w:=W) (.cells #[.i t.k0,.i t.n0,.i t.p0,.string t.s0,.slice A t.args0.length B] 26);have C:=jj W (.cells #[.i t.k0,.i t.n0,.i t.p0,.string t.s0,.slice A t.args0.length B] 26);have M:=l5 X E;have v:=V.call E;have⟨m0,m1,m2,m3,m4⟩:=bE C;have x:(W.alloc (.cells #[.i t.k0,.i t.n0,.i t.p0,.string t.s0,.slice A t.args0.length B] 26)).grownBy (W.alloc (.cells #[.i t.k0,.i t.n0,.i t.p0,.string t.s0,.slice A t.args0.length B] 26)).drew none:=fK (bM _ _);have D:=l5 C x;have⟨y0,y1,y2,y3,y4⟩:=bE D;have r:=jh D;obtain⟨O,P,rfl,_⟩:=vB v.sD;have ai:m.length<=1000:=by have:=v.CS;omega
 have⟨H,h,d,s⟩:=JT Z (v.call x) (l5 M x) L;have G:some W.heap.size≠(Value.slice O m.length P).ownBlock:=λe=>by have:=(zd V.sD W.heap.size e.symm).2;omega
 have F:W.heap.size≠z:=by have:=(qq.1 X).1;omega
 have⟨c0,c1,c2,c3,_⟩:=nL d;have ab:True:=trivial;clear E C v M V Z X U L R x D;rcases hf with⟨rfl,rfl⟩|⟨rfl,rfl⟩
 all_goals
  go_enter func101,ntmps101;go_wp2_with fail;refine ja4 (S:=λ_=>True) oA ?_ (λT=>?_)
  .trivial
  generalize (W.alloc _).drew=Q at *;have aa:=JJ (aK (w:=Q) (.cells #[.slice A t.args0.length B] 24)) c3;refine fG 0 54 ?_;refine fG 1 55 ?_;refine fG 2 56 ?_;refine fG 3 57 ?_;refine fG 5 59 ?_;refine kO (rs:=[4,6]) oA ot ?_;refine kd rfl (λK a=>?_) (kd rfl (λK a=>?_) km)
  .go_simp;refine a _ _ trivial (λ_=>?_);clear a K;refine kO (rs:=[6]) oA ot ?_;refine kd rfl (λK a=>?_) km;go_simp;refine a _ _ trivial (λ_=>?_);clear a K;refine kO (rs:=[7]) oA ot ?_;refine kd rfl (λK a=>?_) km;go_simp;refine a _ _ trivial (λ_=>?_);clear a K;refine kO (rs:=[8]) oA ot ?_;refine kd rfl (λK a=>?_) km;refine zA I.heap.size m A t.args0.length B Q (.slice O m.length P) rfl (.tmp 58) (.tmp 61) rfl rfl rfl rfl h.sD h.grow.size od ?_;intro g u N q j;have o:=jh q;have n:=jh j;have l:=(j.block (qq.1 d).1 (aD h.sD d ov)).trans d;have Y:=(nL l).2.2.2.1;have J:=pM l;have k:=(j.block (qq.1 r).1 G).trans r;have p:=((dY (bM N (some z)) 3 none (.o g (m.length+1) u)).block _ (qq.1 k).1 (by simpa using F)).trans k;have⟨q0,_⟩:=bE k;have⟨r0,_⟩:=bE p;clear q j l k p;refine a _ _ trivial (λ_=>?_);clear a K;refine fG 9 63 ?_;refine fG 10 64 ?_;refine kO (rs:=[11]) oA ot ?_;refine kd rfl (λK a=>?_) km;go_simp;refine a _ _ trivial (λ_=>?_);clear a K;refine qf0 oA ?_ _;go_wp2;go_ret
   first|exact oh (.inl rfl) h d H s o n|exact oh (.inr rfl) h d H s o n
  .go_simp;refine a _ _ trivial (λ_=>?_);clear a K;refine kO (rs:=[4,7]) oA ot ?_;refine kd rfl (λK a=>?_) (kd rfl (λK a=>?_) km)
   .go_simp;refine a _ _ trivial (λ_=>?_);clear a K;refine kO (rs:=[7]) oA ot ?_;refine kd rfl (λK a=>?_) km;go_simp;refine a _ _ trivial (λ_=>?_);clear a K;refine kO (rs:=[8]) oA ot ?_;refine kd rfl (λK a=>?_) km;refine zA I.heap.size m A t.args0.length B Q (.slice O m.length P) rfl (.tmp 58) (.tmp 61) rfl rfl rfl rfl h.sD h.grow.size od ?_;intro g u N q j;have o:=jh q;have n:=jh j;have l:=(j.block (qq.1 d).1 (aD h.sD d ov)).trans d;have Y:=(nL l).2.2.2.1;have J:=pM l;have k:=(j.block (qq.1 r).1 G).trans r;have p:=((dY (bM N (some z)) 3 none (.o g (m.length+1) u)).block _ (qq.1 k).1 (by simpa using F)).trans k;have⟨q0,_⟩:=bE k;have⟨r0,_⟩:=bE p;clear q j l k p;refine a _ _ trivial (λ_=>?_);clear a K;refine fG 9 63 ?_;refine fG 10 64 ?_;refine kO (rs:=[11]) oA ot ?_;refine kd rfl (λK a=>?_) km;go_simp;refine a _ _ trivial (λ_=>?_);clear a K;refine qf0 oA ?_ _;go_wp2;go_ret
    first|exact oh (.inl rfl) h d H s o n|exact oh (.inr rfl) h d H s o n
   .go_simp;refine a _ _ trivial (λ_=>?_);clear a K;refine kO (rs:=[4]) oA ot ?_;refine kd rfl (λK a=>?_) km;go_simp;refine a _ _ trivial (λ_=>?_);clear a K;refine kO (rs:=[8]) oA ot ?_;refine kd rfl (λK a=>?_) km;refine zA I.heap.size m A t.args0.length B Q (.slice O m.length P) rfl (.tmp 58) (.tmp 61) rfl rfl rfl rfl h.sD h.grow.size od ?_;intro g u N q j;have o:=jh q;have n:=jh j;have l:=(j.block (qq.1 d).1 (aD h.sD d ov)).trans d;have Y:=(nL l).2.2.2.1;have J:=pM l;have k:=(j.block (qq.1 r).1 G).trans r;have p:=((dY (bM N (some z)) 3 none (.o g (m.length+1) u)).block _ (qq.1 k).1 (by simpa using F)).trans k;have⟨q0,_⟩:=bE k;have⟨r0,_⟩:=bE p;clear q j l k p;refine a _ _ trivial (λ_=>?_);clear a K;refine fG 9 63 ?_;refine fG 10 64 ?_;refine kO (rs:=[11]) oA ot ?_;refine kd rfl (λK a=>?_) km;go_simp;refine a _ _ trivial (λ_=>?_);clear a K;refine qf0 oA ?_ _;go_wp2;go_ret
    first|exact oh (.inl rfl) h d H s o n|exact oh (.inr rfl) h d H s o n
def XQ{n W:bx}{g:Nat}{i:Ins}{t:Tr}{z:cg}{f:UInt8}{c:Int}(p:f≠110/\¬(f=116\/f=117)/\¬(f=99\/f=100))(D:nA K n W g i)(o:bI (λb=>K b/\b+1<g) n t z)(hc:c≠110/\c≠116/\c≠117/\c≠99/\c≠100)(G:i.types.length<=1000)(E:i.rows.length<=1000) :
 Calls prog 101 #[.po g,.int .u8 c,z] W (lG K n g i f t):=by
 have⟨tv,H,I,u,U,V,x,v,C⟩:=D;have⟨h,j,J,r,⟨Y,X,Z,F⟩,s⟩:=o.yX;rw[r];unfold af;have e:=aK (w:=W) (.cells #[.i t.k0,.i t.n0,.i t.p0,.string t.s0,.slice h t.args0.length j] 26);have l:=jj W (.cells #[.i t.k0,.i t.n0,.i t.p0,.string t.s0,.slice h t.args0.length j] 26);have a:=l5 x e;have k:=v.call e;have⟨m0,m1,m2,m3,m4⟩:=bE l;have y:=XH a (.i t.k0) (.i t.n0) (.i t.p0) (.string t.s0) (.slice h t.args0.length j);have m:=dY (dY (dY (dY (dY (bM (W.alloc (.cells #[.i t.k0,.i t.n0,.i t.p0,.string t.s0,.slice h t.args0.length j] 26)) (some g)) 4 none (.i t.k0)) 5 none (.i t.n0)) 6 none (.i t.p0)) 7 none (.string t.s0)) 8 none (.slice h t.args0.length j);have d:=k.step m;rw[r]at o;have A:Hid (nA K n _ g { i with data:=t }):=⟨tv,H,I,u,h,j,y,d,o⟩;have q:=jh d.grow;have fr:=pM a;have⟨L,M,N,O,P,Q,R,S,T⟩:=nL a;have B:Hid (iy i f t=some { i with data:=t }):=by show _=_;unfold iy;rw[if_neg p.1,if_neg p.2.1,if_neg p.2.2]
 have p1:(c==110)=false:=vq
 have p2:(c==116)=false:=vq
 have p3:(c==117)=false:=vq
 have p4:(c==99)=false:=vq
 have p5:(c==100)=false:=vq
 clear d m y k a e l v C x o s r p hc;go_enter func101,ntmps101;go_wp2;go_ret;exact yC B q A
variable {K:br}
def pK(p:Int)(W:bx):Calls prog 100 #[.i p] W λe w'=>e =.returned (.string ⟨(bR p).toArray⟩)/\w'=W:=by
 by_cases a:p=41
 .subst a;go_enter func100,ntmps100;go_wp2;go_ret;exact⟨rfl,rfl⟩
 by_cases b:p=43
 .subst b;go_enter func100,ntmps100;go_wp2;go_ret;exact⟨rfl,rfl⟩
 by_cases c:p=44
 .subst c;go_enter func100,ntmps100;go_wp2;go_ret;exact⟨rfl,rfl⟩
 by_cases d:p=45
 .subst d;go_enter func100,ntmps100;go_wp2;go_ret;exact⟨rfl,rfl⟩
 by_cases f:p=50
 .subst f;go_enter func100,ntmps100;go_wp2;go_ret;exact⟨rfl,rfl⟩
 by_cases g:p=51
 .subst g;go_enter func100,ntmps100;go_wp2;go_ret;exact⟨rfl,rfl⟩
 by_cases j:p=54
 .subst j;go_enter func100,ntmps100;go_wp2;go_ret;exact⟨rfl,rfl⟩
 by_cases l:p=56
 .subst l;go_enter func100,ntmps100;go_wp2;go_ret;exact⟨rfl,rfl⟩
 by_cases u:p=82
 .subst u;go_enter func100,ntmps100;go_wp2;go_ret;exact⟨rfl,rfl⟩
 by_cases v:p=88
 .subst v;go_enter func100,ntmps100;go_wp2;go_ret;exact⟨rfl,rfl⟩
 by_cases o:p=61
 .subst o;go_enter func100,ntmps100;go_wp2;go_ret;exact⟨rfl,rfl⟩
 by_cases h:p=52
 .subst h;go_enter func100,ntmps100;go_wp2;go_ret;exact⟨rfl,rfl⟩
 by_cases k:p=55
 .subst k;go_enter func100,ntmps100;go_wp2;go_ret;exact⟨rfl,rfl⟩
 by_cases m:p=58
 .subst m;go_enter func100,ntmps100;go_wp2;go_ret;exact⟨rfl,rfl⟩
 by_cases q:p=64
 .subst q;go_enter func100,ntmps100;go_wp2;go_ret;exact⟨rfl,rfl⟩
 by_cases n:p=60
 .subst n;go_enter func100,ntmps100;go_wp2;go_ret;exact⟨rfl,rfl⟩
 by_cases r:p=65
 .subst r;go_enter func100,ntmps100;go_wp2;go_ret;exact⟨rfl,rfl⟩
 by_cases t:p=68
 .subst t;go_enter func100,ntmps100;go_wp2;go_ret;exact⟨rfl,rfl⟩
 by_cases s:p=66
 .subst s;go_enter func100,ntmps100;go_wp2;go_ret;exact⟨rfl,rfl⟩
 have w:bR p=[]:=by simp[bR,a,b,c,d,f,g,j,l,u,v,o,h,k,m,q,n,r,t,s]
 have y:(p==41)=false:=by simpa using a
 have z:(p==43)=false:=by simpa using b
 have A:(p==44)=false:=by simpa using c
 have B:(p==45)=false:=by simpa using d
 have C:(p==50)=false:=by simpa using f
 have D:(p==51)=false:=by simpa using g
 have F:(p==54)=false:=by simpa using j
 have H:(p==56)=false:=by simpa using l
 have P:(p==82)=false:=by simpa using u
 have Q:(p==88)=false:=by simpa using v
 have K:(p==61)=false:=by simpa using o
 have E:(p==52)=false:=by simpa using h
 have G:(p==55)=false:=by simpa using k
 have I:(p==58)=false:=by simpa using m
 have L:(p==64)=false:=by simpa using q
 have J:(p==60)=false:=by simpa using n
 have M:(p==65)=false:=by simpa using r
 have O:(p==68)=false:=by simpa using t
 have N:(p==66)=false:=by simpa using s
 have x:=jh w;clear w;go_enter func100,ntmps100;go_wp2;go_ret;exact⟨by rw[x.out];rfl,rfl⟩
